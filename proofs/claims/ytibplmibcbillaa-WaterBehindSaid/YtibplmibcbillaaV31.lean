/-
  Functions of the program, reckoned by the evaluator: what each answers, and that it leaves what came in as it was (part 31).
-/
import Derived.Test.YtibplmibcbillaaV20
import Derived.Test.YtibplmibcbillaaV17
set_option maxRecDepth 100000
set_option linter.unusedSimpArgs false
set_option linter.unusedVariables false
namespace Go.Ev
open Go Go.Proofs
noncomputable section
theorem getD_take {α : Type} {l : List α} {d : α} {n i : Nat} (h : i < n) : (l.take n).getD i d = l.getD i d := by
  simp [List.getD_eq_getElem?_getD, List.getElem?_take, h]
theorem snow_take {melt : Int} {ds : List Day} {rain : List Int} {s0 : Int} (n : Nat) : ∀ i, i ≤ n → snowP melt (ds.take n) (rain.take n) s0 i = snowP melt ds rain s0 i
  | 0, _ => rfl
  | i + 1, h => by rw [snowP, snowP, snow_take n i (by omega), getD_take (by omega), getD_take (by omega)]
theorem down_take {melt : Int} {ds : List Day} {rain : List Int} {s0 : Int} (n i : Nat) (h : i < n) : downP melt (ds.take n) (rain.take n) s0 i = downP melt ds rain s0 i := by
  unfold downP; rw [snow_take n i (by omega), getD_take h, getD_take h]
theorem lev_take {cs : List Cell} {g : Gr} {ds : List Day} {t : Tru} {lvs rain : List Int} (n : Nat) : ∀ i, i ≤ n → levP cs g (ds.take n) t lvs (rain.take n) i = levP cs g ds t lvs rain i
  | 0, _ => rfl
  | i + 1, h => by rw [levP, levP, lev_take n i (by omega), down_take n i (by omega)]
theorem lowR_take (ds : List Day) (n : Nat) : lowR (ds.take n) = (lowR ds).take n := by unfold lowR; rw [List.map_take]
theorem highR_take (ds : List Day) (n : Nat) : highR (ds.take n) = (highR ds).take n := by unfold highR; rw [List.map_take]
theorem lvR_take {cs : List Cell} {g : Gr} {ds : List Day} (n i k : Nat) (h : i + 1 ≤ n) : lvR cs g (ds.take n) i k = lvR cs g ds i k := by
  unfold lvR; rw [lowR_take, highR_take, lev_take n (i + 1) h, lev_take n (i + 1) h]
theorem daysErr_take {cs : List Cell} {g : Gr} {ds : List Day} (n : Nat) (h : daysErr cs g ds = 0) : daysErr cs g (ds.take n) = 0 := by
  unfold daysErr at h ⊢
  split at h
  · rename_i h1
    rw [if_pos h1]
    split at h
    · omega
    · rename_i h2
      split at h
      · rename_i h3
        have h4 : ((ds.take n).all fun x => x.ok) = true := by
          rw [List.all_eq_true] at h3 ⊢
          exact fun x hx => h3 x (List.mem_of_mem_take hx)
        rw [if_neg (by rw [List.length_take]; omega), if_pos h4]
      · omega
  · omega
theorem bin36 (a b : Int) : binT Try.prog .neq 36 (.agg [I a, I b]) (.agg [I a, I b]) = some (.bool false) := by
  have e : binT Try.prog .neq 36 (.agg [I a, I b]) (.agg [I a, I b]) = ((match eqI a a with | true => (match eqI b b with | true => some true | false => some false) | false => some false).map fun z => .bool (!z)) := by kernel_rfl
  have h1 : eqI a a = true := by rw [eqI_eq]; simp
  have h2 : eqI b b = true := by rw [eqI_eq]; simp
  rw [e, h1, h2]
  rfl
/-- A slice that came in, cut short. -/
theorem slice_to {H : Heap} {v : AV} {sz : Nat} {rows : List (List AV)} (hv : (∃ b off len cap, v = .slice b off len cap ∧ len ≤ cap) ∨ v = .nils ∨ ∃ a c, v = .raw (.slice a 0 c)) (hr : Row H v sz rows) {k : Nat} (hk : k ≤ rows.length) :
    ∃ v', (∀ G, sliceOf G sz v none (some (.int .i64 (k : Int))) = some v') ∧ Row H v' sz (rows.take k) := by
  rcases hv with ⟨b, off, len, cap, rfl, h1⟩ | rfl | ⟨a, c, rfl⟩
  · have hl : len = rows.length := by have := hr.len; simpa [lenOf] using this
    have key : ∀ off' cap', off' = off → Row H (.slice b off' k cap') sz (rows.take k) := fun off' cap' ho => by
      subst ho
      refine ⟨by simp [lenOf]; omega, fun i x q => ?_⟩
      have hi : i < k := by have := (List.getElem?_eq_some_iff.1 q).1; simp at this; omega
      rw [List.getElem?_take, if_pos hi] at q
      obtain ⟨b', off', cs, g1, g2, g3, g4⟩ := hr.at_ i x q
      simp only [slAt] at g1 ⊢
      rw [if_pos (by omega)] at g1
      rw [if_pos hi]
      exact ⟨b', off', cs, g1, g2, g3, g4⟩
    have e1 : ∀ G, sliceOf G sz (.slice b off len cap) none (some (.int .i64 (k : Int))) = (match Nat.ble 0 k, Nat.ble k cap, Nat.beq cap 0 with
      | true, true, true => some (.slice b off (k - 0) (cap - 0))
      | true, true, false => some (.slice b (off + 0 * sz) (k - 0) (cap - 0))
      | _, _, _ => none) := fun G => rfl
    cases hq : Nat.beq cap 0 with
    | true => exact ⟨.slice b off k cap, fun G => by rw [e1, Nat.ble_eq_true_of_le (Nat.zero_le k), Nat.ble_eq_true_of_le (show k ≤ cap by omega), hq]; rfl, key off cap rfl⟩
    | false => exact ⟨.slice b (off + 0 * sz) k cap, fun G => by rw [e1, Nat.ble_eq_true_of_le (Nat.zero_le k), Nat.ble_eq_true_of_le (show k ≤ cap by omega), hq]; rfl, key _ cap (by omega)⟩
  · have hl : rows = [] := by
      have := hr.len
      cases rows with
      | nil => rfl
      | cons a b => simp [lenOf] at this
    subst hl
    obtain rfl : k = 0 := by simpa using hk
    exact ⟨.nils, fun G => rfl, hr⟩
  · have hl : rows = [] := by
      have := hr.len
      cases rows with
      | nil => rfl
      | cons a b => simp [lenOf] at this
    subst hl
    obtain rfl : k = 0 := by simpa using hk
    exact ⟨_, fun G => rfl, ⟨rfl, fun i x q => by simp at q⟩⟩
theorem evSlice_to {P : Program} {T : Tr AV} {H : Heap} {ty : TypeId} {x hi : Operand} {u v' : AV} {sz k : Nat} (ht : elemSz P ty = some sz) (hx : opd T x = some u) (hhi : opd T hi = some (.int .i64 (k : Int)))
    (hs : sliceOf H sz u none (some (.int .i64 (k : Int))) = some v') : evSlice P T H ty x none (some hi) = some (.val v' H) := by
  unfold elemSz at ht
  unfold evSlice
  rw [hx]
  simp only [optd, hhi, Option.map_some]
  split at ht
  · rename_i e1; rw [e1]
    simp only [Option.map_eq_some_iff] at ht
    obtain ⟨ei, e2, e3⟩ := ht
    dsimp only
    rw [e2]
    dsimp only
    rw [e3, hs]
    rfl
  · cases ht
theorem OkO.sliceTo {P : Program} {rec : Rec} {ops : Array Oper} {d : Option Tmp} {t : TypeId} {ps : String} {e : Array Edge} {g : Option (Nat × Bool)} {l : List Oper} {T : Tr AV} {H : Heap} {K : Tr AV → Heap → Prop} {ty : TypeId} {x hi : Operand} {u v' : AV} {sz k : Nat} (hg : wantedA ops g T = some true) (ht : elemSz P ty = some sz) (hx : opd T x = some u) (hhi : opd T hi = some (.int .i64 (k : Int)))
    (hs : sliceOf H sz u none (some (.int .i64 (k : Int))) = some v') (h : OkO P rec ops l (putD T d v') H K) : OkO P rec ops (⟨d, .slice ty x none (some hi) none, t, ps, e, g⟩ :: l) T H K :=
  OkO.val hg (evSlice_to ht hx hhi hs : evSlice P T H ty x none (some hi) = some (.val v' H)) h
theorem still_slice {P : Program} {ops : Array Oper} {d : Tmp} {t : TypeId} {ps : String} {e : Array Edge} {g : Option (Nat × Bool)} {T : Tr AV} {H : Heap} {ty : TypeId} {x hi : Operand} {u v' : AV} {sz k : Nat} (hg : wantedA ops g T = some true) (ht : elemSz P ty = some sz) (hx : opd T x = some u) (hhi : opd T hi = some (.int .i64 (k : Int)))
    (hs : sliceOf H sz u none (some (.int .i64 (k : Int))) = some v') (hd : T.get d = some v') (he : AV.eqv v' v' = true) : still P ops T H ⟨some d, .slice ty x none (some hi) none, t, ps, e, g⟩ = true :=
  svl hg (evSlice_to ht hx hhi hs : evSlice P T H ty x none (some hi) = some (.val v' H)) hd he
section
open Go.ChangeShapes Go.WideShapes Go.RowKit
variable {H0 : Type} {enc : TypeId × Value → H0} {w : World} {base : Nat} {sp : Nat → Bool} {hd : Bool}
/-- A small number at hand. -/
theorem u8_arg {H : Heap} (hs : Snap w H) {v : Value} {d : DataW H0} {p : List MemPlace} (hv : ∃ n, v = .int .u8 n) (h : DataW.Trod enc Try.prog w base sp hd 5 v d p) : ∃ x : Int, argAV w.heap.size v = .int .u8 x ∧ 0 ≤ x ∧ x ≤ 255 := by
  obtain ⟨n, rfl⟩ := hv
  obtain ⟨fuel, h⟩ := h
  obtain ⟨x, h1, _, hw⟩ := DataW.trod_int Try.underlying5 h
  have h1' : ([Value.int .u8 n] : List Value) = [.int .u8 x] := h1
  have e0 : n = x := by simpa using h1'
  subst e0
  refine ⟨n, rfl, ?_⟩
  have h2 : (decide (IntKind.min .u8 ≤ n) && decide (n ≤ IntKind.max .u8)) = true := hw
  rw [Bool.and_eq_true] at h2
  have h3 := of_decide_eq_true h2.1
  have h4 := of_decide_eq_true h2.2
  have e1 : IntKind.min .u8 = 0 := by decide
  have e2 : IntKind.max .u8 = 255 := by decide
  omega
/-- Days at hand, which may be cut short. -/
theorem days_arg2 {H : Heap} (hs : Snap w H) {v : Value} {d : DataW H0} {p : List MemPlace} (hv : ∃ a len cap, v = .slice a len cap) (h : DataW.Trod enc Try.prog w base sp hd 27 v d p) :
    ∃ (dv : AV) (ds : List Day), argAV w.heap.size v = dv ∧ Row H dv 3 (ds.map Day.c) ∧ ∀ k : Nat, k ≤ ds.length → ∃ v', (∀ G, sliceOf G 3 dv none (some (.int .i64 (k : Int))) = some v') ∧ Row H v' 3 ((ds.take k).map Day.c) := by
  obtain ⟨dv, ds, hdv, hR⟩ := days_arg hs hv h
  obtain ⟨a, len, cap, rfl⟩ := hv
  obtain ⟨fuel, h⟩ := h
  refine ⟨dv, ds, hdv, hR, fun k hk => ?_⟩
  have hsh : (∃ b off len cap, dv = .slice b off len cap ∧ len ≤ cap) ∨ dv = .nils ∨ ∃ a c, dv = .raw (.slice a 0 c) := by
    have hl := hR.len
    rcases DataW.trod_slice Try.underlying27 h with ⟨hv, _⟩ | ⟨a', len', cap', elems, rest, n, _, hv, _, hb, hlc, hm, hlen, hel, _, _⟩
    · have hv' : ([Value.slice a len cap] : List Value) = [.slice none 0 0] := hv
      have e9 : Value.slice a len cap = .slice none 0 0 := by simpa using hv'
      rw [e9] at hdv
      exact .inr (.inl hdv.symm)
    · have hv' : ([Value.slice a len cap] : List Value) = [.slice (some a') len' cap'] := hv
      have e9 : Value.slice a len cap = .slice (some a') len' cap' := by simpa using hv'
      rw [e9] at hdv
      subst hdv
      obtain ⟨b, off, spot⟩ := a'
      cases spot with
      | none =>
        show (∃ b' off' len'' cap'', toAV w.heap.size (.slice (some ⟨b, off, none⟩) len' cap') = .slice b' off' len'' cap'' ∧ len'' ≤ cap'') ∨ _
        by_cases hbn : b < w.heap.size
        · exact .inl ⟨b, off, len', cap', by simp only [toAV]; rw [if_pos hbn], hlc⟩
        · have e8 : toAV w.heap.size (.slice (some ⟨b, off, none⟩) len' cap') = .raw (.slice (some ⟨b, off, none⟩) len' cap') := by simp only [toAV]; rw [if_neg hbn]
          refine .inr (.inr ?_)
          cases len' with
          | zero => exact ⟨_, _, e8⟩
          | succ j =>
            exfalso
            have hl2 : 0 < ds.length := by
              have : lenOf (toAV w.heap.size (.slice (some ⟨b, off, none⟩) (j + 1) cap')) = some (ds.map Day.c).length := hl
              rw [e8] at this
              simp [lenOf] at this
              omega
            obtain ⟨b', off', cs', g1, _⟩ := hR.at_ 0 ds[0].c (by simp [hl2])
            have g2 : slAt (toAV w.heap.size (.slice (some ⟨b, off, none⟩) (j + 1) cap')) 3 0 = some (b', off') := g1
            rw [e8] at g2
            cases g2
      | some z =>
        refine .inr (.inr ?_)
        have e8 : toAV w.heap.size (.slice (some ⟨b, off, some z⟩) len' cap') = .raw (.slice (some ⟨b, off, some z⟩) len' cap') := rfl
        cases len' with
        | zero => exact ⟨_, _, e8⟩
        | succ j =>
          exfalso
          have hl2 : 0 < ds.length := by
            have : lenOf (toAV w.heap.size (.slice (some ⟨b, off, some z⟩) (j + 1) cap')) = some (ds.map Day.c).length := hl
            rw [e8] at this
            simp [lenOf] at this
            omega
          obtain ⟨b', off', cs', g1, _⟩ := hR.at_ 0 ds[0].c (by simp [hl2])
          have g2 : slAt (toAV w.heap.size (.slice (some ⟨b, off, some z⟩) (j + 1) cap')) 3 0 = some (b', off') := g1
          rw [e8] at g2
          cases g2
  rw [List.map_take]
  exact slice_to hsh hR (by simpa using hk)
end
theorem c15W (m : Nat) (cv dv : AV) (cs : List Cell) (g : Gr) (ds : List Day) (y : Int) (H : Heap) (hR : Row H cv 7 (cs.map Cell.c)) (hY : Row H dv 3 (ds.map Day.c)) (hy : 0 ≤ y ∧ y ≤ 255) (hsl : ∀ k : Nat, k ≤ ds.length → ∃ v', (∀ G, sliceOf G 3 dv none (some (.int .i64 (k : Int))) = some v') ∧ Row H v' 3 ((ds.take k).map Day.c)) (hrd : readyB cs g ds = false) : RR (m + 10) (.fn 15 [.agg [cv, I g.slo, I g.shi, I g.klo, I g.khi, I g.melt], dv, .int .u8 y]) H = some (.bool true, H) := by
  refine (R_fn _ _ _ _ _).trans ?_
  refine fn_ok Try.func15 rfl rfl (by kernel_rfl) (by kernel_rfl) ?_
  obtain ⟨W, hW⟩ : ∃ W : Heap, W = ⟨H.t, H.next, H.next⟩ := ⟨_, rfl⟩
  have hg : ∀ n, W.get n = H.get n := fun n => by rw [hW]; rfl
  have hN : W.next = H.next := by rw [hW]
  have hE : ∀ G, Grow W G → Ext H G := fun G g => ⟨by rw [← hN]; exact g.next, fun n k => by rw [g.get n (by rw [hN]; exact k), hg]⟩
  have hG : Grow W W := Grow.refl (by rw [hW]; exact Nat.le_refl _)
  rw [← hW]
  have hlc : lenOf cv = some cs.length := by simpa using hR.len
  have hld : lenOf dv = some ds.length := by simpa using hY.len
  have pc := lpl hlc
  refine Ok.seq ?_
  refine Ok.region ?_
  refine OkO.box rfl rfl ?_
  refine OkO.assign rfl rfl ?_
  refine OkO.nil ?_
  refine Ok.seq ?_
  refine Ok.seq ?_
  refine Ok.region ?_
  refine OkO.load rfl rfl (ldg (n := 6) (by kernel_rfl) (by first | assumption | (simp (disch := first | omega | (simp only [hNw, hPt]; omega)) only [gn0, gn1, gn2, gn3, gn4, gn5, gp0, gno, gpo] <;> first | rfl | assumption)) (by first | rfl | assumption)) ?_
  refine OkO.move rfl rfl ?_
  refine OkO.callV rfl rfl rfl rfl rfl (c43 (m + 4) cv dv cs g ds _ (hR.ext (hE _ (by (try dsimp only); repeat (first | exact hG | apply Grow.new | (refine Grow.put ?_ _ (by first | omega | (simp only [hNw, hPt]; omega))))))) (hY.ext (hE _ (by (try dsimp only); repeat (first | exact hG | apply Grow.new | (refine Grow.put ?_ _ (by first | omega | (simp only [hNw, hPt]; omega)))))))) ?_ -- "sackung/sackunglaw02.ready"
  refine OkO.un rfl rfl rfl ?_
  refine OkO.nil ?_
  refine Ok.cond rfl (fun h1 => ?_) (fun h1 => ?_)
  · -- yes h1
    refine Ok.seq ?_
    refine Ok.region ?_
    refine OkO.callV rfl rfl rfl rfl rfl (rfl) ?_ -- "sackung/sackunglaw02.wakes"
    refine OkO.assign rfl rfl ?_
    refine OkO.nil ?_
    refine Ok.ret ⟨.inr rfl, ?_⟩
    exact back_flat rfl (congrArg AV.bool rfl) rfl (by rw [← hW]; exact (by (try dsimp only); repeat (first | exact hG | apply Grow.new | (refine Grow.put ?_ _ (by first | omega | (simp only [hNw, hPt]; omega))))))
  · -- no h1
    exact absurd h1 (by simp [hrd])
theorem c15K (m : Nat) (cv dv : AV) (cs : List Cell) (g : Gr) (ds : List Day) (y : Int) (H : Heap) (hR : Row H cv 7 (cs.map Cell.c)) (hY : Row H dv 3 (ds.map Day.c)) (hy : 0 ≤ y ∧ y ≤ 255) (hsl : ∀ k : Nat, k ≤ ds.length → ∃ v', (∀ G, sliceOf G 3 dv none (some (.int .i64 (k : Int))) = some v') ∧ Row H v' 3 ((ds.take k).map Day.c)) (hrd : readyB cs g ds = true) : RR (m + 10) (.fn 15 [.agg [cv, I g.slo, I g.shi, I g.klo, I g.khi, I g.melt], dv, .int .u8 y]) H = some (.bool true, H) := by
  refine (R_fn _ _ _ _ _).trans ?_
  refine fn_ok Try.func15 rfl rfl (by kernel_rfl) (by kernel_rfl) ?_
  obtain ⟨W, hW⟩ : ∃ W : Heap, W = ⟨H.t, H.next, H.next⟩ := ⟨_, rfl⟩
  have hg : ∀ n, W.get n = H.get n := fun n => by rw [hW]; rfl
  have hN : W.next = H.next := by rw [hW]
  have hE : ∀ G, Grow W G → Ext H G := fun G g => ⟨by rw [← hN]; exact g.next, fun n k => by rw [g.get n (by rw [hN]; exact k), hg]⟩
  have hG : Grow W W := Grow.refl (by rw [hW]; exact Nat.le_refl _)
  rw [← hW]
  have hlc : lenOf cv = some cs.length := by simpa using hR.len
  have hld : lenOf dv = some ds.length := by simpa using hY.len
  have pc := lpl hlc
  have hd0 := ready_ok hrd
  have hGF := gf_of hd0
  have hg8 := hGF.n8
  have hg30 := hGF.d30
  obtain ⟨nq, hn, hnl⟩ : ∃ nq : Nat, y % ((ds.length : Int) + 1) = (nq : Int) ∧ nq ≤ ds.length := ⟨(y % ((ds.length : Int) + 1)).toNat, by have := Int.emod_nonneg y (b := (ds.length : Int) + 1) (by omega); omega, by have := Int.emod_lt_of_pos y (b := (ds.length : Int) + 1) (by omega); omega⟩
  obtain ⟨sv, hsv, hsr⟩ := hsl nq hnl
  have hsl9 : lenOf sv = some nq := by have := hsr.len; rw [this]; simp; omega
  have htl : (ds.take nq).length = nq := by simp; omega
  have hd0' := daysErr_take nq hd0
  refine Ok.seq ?_
  refine Ok.region ?_
  refine OkO.box rfl rfl ?_
  refine OkO.assign rfl rfl ?_
  refine OkO.nil ?_
  refine Ok.seq ?_
  refine Ok.seq ?_
  refine Ok.region ?_
  refine OkO.load rfl rfl (ldg (n := 6) (by kernel_rfl) (by first | assumption | (simp (disch := first | omega | (simp only [hNw, hPt]; omega)) only [gn0, gn1, gn2, gn3, gn4, gn5, gp0, gno, gpo] <;> first | rfl | assumption)) (by first | rfl | assumption)) ?_
  refine OkO.move rfl rfl ?_
  refine OkO.callV rfl rfl rfl rfl rfl (c43 (m + 4) cv dv cs g ds _ (hR.ext (hE _ (by (try dsimp only); repeat (first | exact hG | apply Grow.new | (refine Grow.put ?_ _ (by first | omega | (simp only [hNw, hPt]; omega))))))) (hY.ext (hE _ (by (try dsimp only); repeat (first | exact hG | apply Grow.new | (refine Grow.put ?_ _ (by first | omega | (simp only [hNw, hPt]; omega)))))))) ?_ -- "sackung/sackunglaw02.ready"
  refine OkO.un rfl rfl rfl ?_
  refine OkO.nil ?_
  refine Ok.cond rfl (fun h1 => ?_) (fun h1 => ?_)
  · -- yes h1
    exact absurd h1 (by simp [hrd])
  · -- no h1
    refine Ok.skip ?_
    refine Ok.seq ?_
    refine Ok.region ?_
    refine OkO.move rfl rfl ?_
    refine OkO.convert (k := .i64) rfl (by kernel_rfl) rfl (wrapF_i64 (by omega) (by omega)) ?_
    refine OkO.move rfl rfl ?_
    refine OkO.builtin rfl rfl rfl (bln (by kernel_rfl) (by first | assumption | rfl)) ?_
    refine OkO.bin rfl rfl rfl (bin_add (by omega) (by omega)) ?_
    refine OkO.bin rfl rfl rfl (bin_rem (by omega) (by omega)) ?_
    refine OkO.assign rfl rfl ?_
    refine OkO.nil ?_
    refine Ok.seq ?_
    refine Ok.region ?_
    refine OkO.load rfl rfl (ldg (n := 6) (by kernel_rfl) (by first | assumption | (simp (disch := first | omega | (simp only [hNw, hPt]; omega)) only [gn0, gn1, gn2, gn3, gn4, gn5, gp0, gno, gpo] <;> first | rfl | assumption)) (by first | rfl | assumption)) ?_
    refine OkO.callE rfl rfl rfl rfl rfl (c19 (m + 7) cv cs g _ (hR.ext (hE _ (by (try dsimp only); repeat (first | exact hG | apply Grow.new | (refine Grow.put ?_ _ (by first | omega | (simp only [hNw, hPt]; omega))))))) (by omega)) ?_ -- "sackung/sackunglaw02.Ground"
    rintro vA HA ⟨cvA, rfl, qA, rA, atA⟩
    have gA : Grow W HA := Grow.ret (by (try dsimp only); repeat (first | exact hG | apply Grow.new | (refine Grow.put ?_ _ (by first | omega | (simp only [hNw, hPt]; omega))))) qA
    have nA : W.next + 1 ≤ HA.next := by have := qA.ext.next; first | omega | (simp only [hNw] at this; omega)
    have aA : (HA.get W.next).bind AObj.cs = some [cv, I g.slo, I g.shi, I g.klo, I g.khi, I g.melt] := by rw [qA.ext.get _ (by first | omega | (simp only [hNw]; omega))]; first | assumption | (simp (disch := first | omega | (simp only [hNw, hPt]; omega)) only [gn0, gn1, gn2, gn3, gn4, gn5, gp0, gno, gpo] <;> first | rfl | assumption)
    refine OkO.move rfl rfl ?_
    refine OkO.callE rfl rfl rfl rfl rfl (c21 (m + 7) dv ds _ (hY.ext (hE _ gA)) (by omega)) ?_ -- "sackung/sackunglaw02.Days"
    rintro dvB HB ⟨qB, rB, atB⟩
    have gB : Grow W HB := Grow.ret gA qB
    have nB : W.next + 1 ≤ HB.next := by have := qB.ext.next; first | omega | (simp only [hNw] at this; omega)
    have aB : (HB.get W.next).bind AObj.cs = some [cv, I g.slo, I g.shi, I g.klo, I g.khi, I g.melt] := by rw [qB.ext.get _ (by first | omega | (simp only [hNw]; omega))]; first | assumption | (simp (disch := first | omega | (simp only [hNw, hPt]; omega)) only [gn0, gn1, gn2, gn3, gn4, gn5, gp0, gno, gpo] <;> first | rfl | assumption)
    refine OkO.callE rfl rfl rfl rfl rfl (c28 (m + 1) cvA dvB cs g ds _ (rA.ext qB.ext) rB atA atB hd0) ?_ -- "sackung/water.Levels"
    rintro vL HL ⟨v4L, v5L, rfl, qL, lsL, inL⟩
    have gL : Grow W HL := Grow.ret gB qL
    have nL : W.next + 1 ≤ HL.next := by have := qL.ext.next; first | omega | (simp only [hNw] at this; omega)
    have aL : (HL.get W.next).bind AObj.cs = some [cv, I g.slo, I g.shi, I g.klo, I g.khi, I g.melt] := by rw [qL.ext.get _ (by first | omega | (simp only [hNw]; omega))]; first | assumption | (simp (disch := first | omega | (simp only [hNw, hPt]; omega)) only [gn0, gn1, gn2, gn3, gn4, gn5, gp0, gno, gpo] <;> first | rfl | assumption)
    refine OkO.move rfl rfl ?_
    refine OkO.extract rfl rfl rfl ?_
    refine OkO.extract rfl rfl rfl ?_
    refine OkO.extract rfl rfl rfl ?_
    refine OkO.assign rfl rfl ?_
    refine OkO.assign rfl rfl ?_
    refine OkO.assign rfl rfl ?_
    refine OkO.nil ?_
    refine Ok.seq ?_
    refine Ok.drawn [(0, true, []), (2, true, []), (3, true, []), (4, true, []), (1, false, [4]), (5, false, [0]), (6, false, [4, 0]), (7, true, []), (8, true, []), (9, true, []), (10, true, []), (11, true, []), (12, true, []), (13, true, [])] (by kernel_rfl) ?_
    refine OkP.step ?_
    refine OkO.load rfl rfl (ldg (n := 6) (by kernel_rfl) (by first | assumption | (simp (disch := first | omega | (simp only [hNw, hPt]; omega)) only [gn0, gn1, gn2, gn3, gn4, gn5, gp0, gno, gpo] <;> first | rfl | assumption)) (by first | rfl | assumption)) ?_
    refine OkO.nil ⟨rfl, ?_⟩
    refine OkP.step ?_
    refine OkO.move rfl rfl ?_
    refine OkO.nil ⟨rfl, ?_⟩
    refine OkP.step ?_
    refine OkO.move rfl rfl ?_
    refine OkO.nil ⟨rfl, ?_⟩
    refine OkP.step ?_
    refine OkO.sliceTo (sz := 3) (k := nq) rfl (by kernel_rfl) rfl (congrArg (fun z => some (AV.int .i64 z)) hn) (hsv _) ?_
    refine OkO.nil ⟨rfl, ?_⟩
    refine OkP.step ?_
    refine OkO.callE rfl rfl rfl rfl rfl (c19 (m + 7) cv cs g _ (hR.ext (hE _ gL)) (by omega)) ?_ -- "sackung/sackunglaw02.Ground"
    rintro vC HC ⟨cvC, rfl, qC, rC, atC⟩
    have gC : Grow W HC := Grow.ret gL qC
    have nC : W.next + 1 ≤ HC.next := by have := qC.ext.next; first | omega | (simp only [hNw] at this; omega)
    have aC : (HC.get W.next).bind AObj.cs = some [cv, I g.slo, I g.shi, I g.klo, I g.khi, I g.melt] := by rw [qC.ext.get _ (by first | omega | (simp only [hNw]; omega))]; first | assumption | (simp (disch := first | omega | (simp only [hNw, hPt]; omega)) only [gn0, gn1, gn2, gn3, gn4, gn5, gp0, gno, gpo] <;> first | rfl | assumption)
    refine OkO.nil ⟨(sco (still_slice (sz := 3) (k := nq) rfl (by kernel_rfl) rfl (congrArg (fun z => some (AV.int .i64 z)) hn) (hsv _) rfl (eqr _ (lpl hsl9))) rfl), ?_⟩
    refine OkP.step ?_
    refine OkO.callE rfl rfl rfl rfl rfl (c21 (m + 7) sv (ds.take nq) _ (hsr.ext (hE _ gC)) (by omega)) ?_ -- "sackung/sackunglaw02.Days"
    rintro dvD HD ⟨qD, rD, atD⟩
    have gD : Grow W HD := Grow.ret gC qD
    have nD : W.next + 1 ≤ HD.next := by have := qD.ext.next; first | omega | (simp only [hNw] at this; omega)
    have aD : (HD.get W.next).bind AObj.cs = some [cv, I g.slo, I g.shi, I g.klo, I g.khi, I g.melt] := by rw [qD.ext.get _ (by first | omega | (simp only [hNw]; omega))]; first | assumption | (simp (disch := first | omega | (simp only [hNw, hPt]; omega)) only [gn0, gn1, gn2, gn3, gn4, gn5, gp0, gno, gpo] <;> first | rfl | assumption)
    refine OkO.nil ⟨(sco (sld rfl rfl (ldg (n := 6) (by kernel_rfl) (by first | assumption | (simp (disch := first | omega | (simp only [hNw, hPt]; omega)) only [gn0, gn1, gn2, gn3, gn4, gn5, gp0, gno, gpo] <;> first | rfl | assumption)) (by first | rfl | assumption)) rfl (eqr _ (by first | rfl | exact lpl (by assumption) | (simp [AV.plain, AV.plains, AV.cells, pc])))) rfl), ?_⟩
    refine OkP.step ?_
    refine OkO.callE rfl rfl rfl rfl rfl (c28 (m + 1) cvC dvD cs g (ds.take nq) _ (rC.ext qD.ext) rD atC atD hd0') ?_ -- "sackung/water.Levels"
    rintro vM HM ⟨v4M, v5M, rfl, qM, lsM, inM⟩
    have gM : Grow W HM := Grow.ret gD qM
    have nM : W.next + 1 ≤ HM.next := by have := qM.ext.next; first | omega | (simp only [hNw] at this; omega)
    have aM : (HM.get W.next).bind AObj.cs = some [cv, I g.slo, I g.shi, I g.klo, I g.khi, I g.melt] := by rw [qM.ext.get _ (by first | omega | (simp only [hNw]; omega))]; first | assumption | (simp (disch := first | omega | (simp only [hNw, hPt]; omega)) only [gn0, gn1, gn2, gn3, gn4, gn5, gp0, gno, gpo] <;> first | rfl | assumption)
    have xLM : Ext HL HM := qC.ext.trans (qD.ext.trans qM.ext)
    have lsX := lsL.ext xLM
    have inX := inL.ext xLM
    obtain ⟨vs, s1, s2, s3⟩ := id lsX
    obtain ⟨vt, t1, t2, t3⟩ := id lsM
    have k1 : vs.length = ds.length := by rw [s2]; simp [rowsG]
    have k2 : vt.length = nq := by rw [t2]; simp only [rowsG, List.length_map, List.length_range]; exact htl
    have l1 : lenOf v4L = some ds.length := by rw [s1.len]; simp [k1]
    have l2 : lenOf v5L = some ds.length := by rw [inX.len]; simp [snG]
    have l3 : lenOf v4M = some nq := by rw [t1.len]; simp [k2]
    have l4 : lenOf v5M = some nq := by rw [inM.len]; simp only [snG, List.length_map, List.length_range]; rw [htl]
    refine OkO.nil ⟨(sco (still_slice (sz := 3) (k := nq) rfl (by kernel_rfl) rfl (congrArg (fun z => some (AV.int .i64 z)) hn) (hsv _) rfl (eqr _ (lpl hsl9))) (sco (sld rfl rfl (ldg (n := 6) (by kernel_rfl) (by first | assumption | (simp (disch := first | omega | (simp only [hNw, hPt]; omega)) only [gn0, gn1, gn2, gn3, gn4, gn5, gp0, gno, gpo] <;> first | rfl | assumption)) (by first | rfl | assumption)) rfl (eqr _ (by first | rfl | exact lpl (by assumption) | (simp [AV.plain, AV.plains, AV.cells, pc])))) rfl)), ?_⟩
    refine OkP.step ?_
    refine OkO.move rfl rfl ?_
    refine OkO.nil ⟨rfl, ?_⟩
    refine OkP.step ?_
    refine OkO.extract rfl rfl rfl ?_
    refine OkO.nil ⟨rfl, ?_⟩
    refine OkP.step ?_
    refine OkO.extract rfl rfl rfl ?_
    refine OkO.nil ⟨rfl, ?_⟩
    refine OkP.step ?_
    refine OkO.extract rfl rfl rfl ?_
    refine OkO.nil ⟨rfl, ?_⟩
    refine OkP.step ?_
    refine OkO.assign rfl rfl ?_
    refine OkO.nil ⟨rfl, ?_⟩
    refine OkP.step ?_
    refine OkO.assign rfl rfl ?_
    refine OkO.nil ⟨rfl, ?_⟩
    refine OkP.step ?_
    refine OkO.assign rfl rfl ?_
    refine OkO.nil ⟨rfl, ?_⟩
    refine OkP.nil ?_
    refine Ok.seq ?_
    refine Ok.seq ?_
    refine Ok.region ?_
    refine OkO.move rfl rfl ?_
    refine OkO.bin rfl rfl rfl (bin_neq _ _) ?_
    refine OkO.move rfl rfl ?_
    refine OkO.split (d := 49) rfl (fun g2 => ?_) (fun g2 => ?_)
    · -- true g2
      exact absurd g2 (by simp)
    · -- false g2
      refine OkO.move rfl rfl ?_
      refine OkO.bin rfl rfl rfl (bin_neq _ _) ?_
      refine OkO.pick (b := false) rfl rfl nofun (fun _ => rfl) ?_
      refine OkO.move rfl rfl ?_
      refine OkO.split (d := 53) rfl (fun g3 => ?_) (fun g3 => ?_)
      · -- true g3
        exact absurd g3 (by simp)
      · -- false g3
        refine OkO.move rfl rfl ?_
        refine OkO.builtin rfl rfl rfl (bln (by kernel_rfl) (by first | assumption | rfl)) ?_
        refine OkO.move rfl rfl ?_
        refine OkO.builtin rfl rfl rfl (bln (by kernel_rfl) (by first | assumption | rfl)) ?_
        refine OkO.bin rfl rfl rfl (bin_neq _ _) ?_
        refine OkO.pick (b := false) rfl rfl nofun (fun _ => rfl) ?_
        refine OkO.move rfl rfl ?_
        refine OkO.split (d := 60) rfl (fun g4 => ?_) (fun g4 => ?_)
        · -- true g4
          exact absurd g4 (by simp)
        · -- false g4
          refine OkO.move rfl rfl ?_
          refine OkO.builtin rfl rfl rfl (bln (by kernel_rfl) (by first | assumption | rfl)) ?_
          refine OkO.move rfl rfl ?_
          refine OkO.builtin rfl rfl rfl (bln (by kernel_rfl) (by first | assumption | rfl)) ?_
          refine OkO.bin rfl rfl rfl (bin_neq _ _) ?_
          refine OkO.pick (b := false) rfl rfl nofun (fun _ => rfl) ?_
          refine OkO.move rfl rfl ?_
          refine OkO.split (d := 67) rfl (fun g5 => ?_) (fun g5 => ?_)
          · -- true g5
            exact absurd g5 (by simp)
          · -- false g5
            refine OkO.move rfl rfl ?_
            refine OkO.builtin rfl rfl rfl (bln (by kernel_rfl) (by first | assumption | rfl)) ?_
            refine OkO.move rfl rfl ?_
            refine OkO.bin rfl rfl rfl (bin_neq _ _) ?_
            refine OkO.pick (b := false) rfl rfl nofun (fun _ => rfl) ?_
            refine OkO.move rfl rfl ?_
            refine OkO.split (d := 73) rfl (fun g6 => ?_) (fun g6 => ?_)
            · -- true g6
              exact absurd (of_decide_eq_true g6) (by rw [hn]; simp)
            · -- false g6
              refine OkO.move rfl rfl ?_
              refine OkO.builtin rfl rfl rfl (bln (by kernel_rfl) (by first | assumption | rfl)) ?_
              refine OkO.move rfl rfl ?_
              refine OkO.bin rfl rfl rfl (bin_neq _ _) ?_
              refine OkO.pick (b := false) rfl rfl nofun (fun _ => rfl) ?_
              refine OkO.nil ?_
              refine Ok.cond rfl (fun h7 => ?_) (fun h7 => ?_)
              · -- yes h7
                exact absurd (of_decide_eq_true h7) (by rw [hn]; simp)
              · -- no h7
                refine Ok.skip ?_
                refine Ok.seq ?_
                refine Ok.seq ?_
                refine Ok.region ?_
                refine OkO.assign rfl rfl ?_
                refine OkO.nil ?_
                refine Ok.block ?_
                refine Ok.loop (fun n s => ∃ i : Nat, n = nq - i ∧ i ≤ nq ∧ HM = s.H ∧ Has 8 [(1, dv), (3, .ptr W.next 0), (7, I (y % ((ds.length : Int) + 1))), (8, v4L), (9, v5L), (11, v4M), (12, v5M), (14, I (i : Int))] s.T ∧ s.D = [] ∧ Grow W s.H) (nq) (by unfold loopFuel; omega)
                  ⟨0, rfl, Nat.zero_le _, rfl, Has.of (by kernel_rfl), rfl, gM⟩ ?_
                rintro n ⟨T, D, G⟩ ⟨i, hn9, hi, hH, ⟨f, hT⟩, hD, hg⟩
                dsimp only at *
                subst hT hD
                have hgn := hg.next
                subst hH
                refine Ok.seq ?_
                refine Ok.seq ?_
                refine Ok.region ?_
                refine OkO.move rfl rfl ?_
                refine OkO.move rfl rfl ?_
                refine OkO.bin rfl rfl rfl (bin_lss _ _) ?_
                refine OkO.nil ?_
                refine Ok.cond rfl (fun h8 => ?_) (fun h8 => ?_)
                · -- yes h8
                  have hlt : i < nq := by have e9 := of_decide_eq_true h8; rw [hn] at e9; omega
                  have i1 : i < vs.length := by omega
                  have i2 : i < vt.length := by omega
                  obtain ⟨yb, yo, ycs, y1, y2, y3, y4⟩ := inX.at_ i [I (snowP g.melt ds (lowR ds) (lowT g).snow (i + 1)), I (snowP g.melt ds (highR ds) (highT g).snow (i + 1))] (by rw [List.getElem?_map, snG, List.getElem?_map, List.getElem?_range (by omega)]; rfl)
                  obtain ⟨zb, zo, zcs, z1, z2, z3, z4⟩ := inM.at_ i [I (snowP g.melt ds (lowR ds) (lowT g).snow (i + 1)), I (snowP g.melt ds (highR ds) (highT g).snow (i + 1))] (by rw [List.getElem?_map, snG, List.getElem?_map, List.getElem?_range (by omega), lowR_take, highR_take]; show some [_, _] = some [_, _]; simp only [snow_take nq (i + 1) hlt])
                  obtain ⟨xb, xo, xcs, x1, x2, x3, x4⟩ := s1.at_ i [vs[i]] (by simp [i1])
                  have x5 := seg_one x3
                  obtain ⟨wb, wo, wcs, w1, w2, w3, w4⟩ := t1.at_ i [vt[i]] (by simp [i2])
                  have w5 := seg_one w3
                  have xr : Row HM vs[i] 2 ((rowG cs g ds i cs.length).map Rg.c) := s3 i vs[i] _ (List.getElem?_eq_getElem i1) (by rw [rowsG, List.getElem?_map, List.getElem?_range (by omega)]; rfl)
                  have wr : Row HM vt[i] 2 ((rowG cs g (ds.take nq) i cs.length).map Rg.c) := t3 i vt[i] _ (List.getElem?_eq_getElem i2) (by rw [rowsG, List.getElem?_map, List.getElem?_range (by omega)]; rfl)
                  have lx : lenOf vs[i] = some cs.length := by rw [xr.len]; simp [rowG]
                  have lw : lenOf vt[i] = some cs.length := by rw [wr.len]; simp [rowG]
                  refine Ok.skip ?_
                  refine Ok.seq ?_
                  refine Ok.block ?_
                  refine Ok.seq ?_
                  refine Ok.seq ?_
                  refine Ok.drawn [(0, true, []), (1, true, []), (2, true, []), (3, true, []), (4, true, []), (5, true, []), (6, true, []), (7, true, []), (8, true, []), (9, true, []), (10, true, []), (11, true, []), (12, true, []), (13, true, []), (14, true, []), (15, true, []), (16, true, []), (17, true, []), (18, true, []), (19, true, []), (20, true, []), (21, true, [])] (by kernel_rfl) ?_
                  refine OkP.step ?_
                  refine OkO.move rfl rfl ?_
                  refine OkO.nil ⟨rfl, ?_⟩
                  refine OkP.step ?_
                  refine OkO.move rfl rfl ?_
                  refine OkO.nil ⟨rfl, ?_⟩
                  refine OkP.step ?_
                  refine OkO.index (sz := 2) (n := i) rfl rfl rfl (by kernel_rfl) (by first | assumption | rfl | exact slAt_slice (by omega)) ?_ -- index ('Go.Operand.tmp', 84) ('Go.Operand.tmp', 85)
                  refine OkO.nil ⟨rfl, ?_⟩
                  refine OkP.step ?_
                  refine OkO.load rfl rfl (ldg (n := 2) (by kernel_rfl) (by first | assumption | (simp (disch := first | omega | (simp only [hNw, hPt]; omega)) only [gn0, gn1, gn2, gn3, gn4, gn5, gp0, gno, gpo] <;> first | rfl | assumption)) (by first | rfl | assumption)) ?_
                  refine OkO.nil ⟨rfl, ?_⟩
                  refine OkP.step ?_
                  refine OkO.move rfl rfl ?_
                  refine OkO.nil ⟨rfl, ?_⟩
                  refine OkP.step ?_
                  refine OkO.move rfl rfl ?_
                  refine OkO.nil ⟨rfl, ?_⟩
                  refine OkP.step ?_
                  refine OkO.index (sz := 2) (n := i) rfl rfl rfl (by kernel_rfl) (by first | assumption | rfl | exact slAt_slice (by omega)) ?_ -- index ('Go.Operand.tmp', 88) ('Go.Operand.tmp', 89)
                  refine OkO.nil ⟨rfl, ?_⟩
                  refine OkP.step ?_
                  refine OkO.load rfl rfl (ldg (n := 2) (by kernel_rfl) (by first | assumption | (simp (disch := first | omega | (simp only [hNw, hPt]; omega)) only [gn0, gn1, gn2, gn3, gn4, gn5, gp0, gno, gpo] <;> first | rfl | assumption)) (by first | rfl | assumption)) ?_
                  refine OkO.nil ⟨rfl, ?_⟩
                  refine OkP.step ?_
                  refine OkO.binT rfl rfl rfl (bin36 _ _) ?_
                  refine OkO.nil ⟨rfl, ?_⟩
                  refine OkP.step ?_
                  refine OkO.move rfl rfl ?_
                  refine OkO.nil ⟨rfl, ?_⟩
                  refine OkP.split (d := 93) rfl (fun g9 => ?_) (fun g9 => ?_)
                  · -- true g9
                    exact absurd g9 (by simp)
                  · -- false g9
                    refine OkP.step ?_
                    refine OkO.move rfl rfl ?_
                    refine OkO.nil ⟨rfl, ?_⟩
                    refine OkP.step ?_
                    refine OkO.move rfl rfl ?_
                    refine OkO.nil ⟨rfl, ?_⟩
                    refine OkP.step ?_
                    refine OkO.index (sz := 1) (n := i) rfl rfl rfl (by kernel_rfl) (by first | assumption | rfl | exact slAt_slice (by omega)) ?_ -- index ('Go.Operand.tmp', 94) ('Go.Operand.tmp', 95)
                    refine OkO.nil ⟨rfl, ?_⟩
                    refine OkP.step ?_
                    refine OkO.load rfl rfl (lda (n := 1) (by kernel_rfl) (by first | assumption | (simp (disch := first | omega | (simp only [hNw, hPt]; omega)) only [gn0, gn1, gn2, gn3, gn4, gn5, gp0, gno, gpo] <;> first | rfl | assumption)) (by first | rfl | assumption)) ?_
                    refine OkO.nil ⟨rfl, ?_⟩
                    refine OkP.step ?_
                    refine OkO.builtin rfl rfl rfl (bln (by kernel_rfl) (by first | assumption | rfl)) ?_
                    refine OkO.nil ⟨rfl, ?_⟩
                    refine OkP.step ?_
                    refine OkO.move rfl rfl ?_
                    refine OkO.nil ⟨rfl, ?_⟩
                    refine OkP.step ?_
                    refine OkO.move rfl rfl ?_
                    refine OkO.nil ⟨rfl, ?_⟩
                    refine OkP.step ?_
                    refine OkO.index (sz := 1) (n := i) rfl rfl rfl (by kernel_rfl) (by first | assumption | rfl | exact slAt_slice (by omega)) ?_ -- index ('Go.Operand.tmp', 99) ('Go.Operand.tmp', 100)
                    refine OkO.nil ⟨rfl, ?_⟩
                    refine OkP.step ?_
                    refine OkO.load rfl rfl (lda (n := 1) (by kernel_rfl) (by first | assumption | (simp (disch := first | omega | (simp only [hNw, hPt]; omega)) only [gn0, gn1, gn2, gn3, gn4, gn5, gp0, gno, gpo] <;> first | rfl | assumption)) (by first | rfl | assumption)) ?_
                    refine OkO.nil ⟨rfl, ?_⟩
                    refine OkP.step ?_
                    refine OkO.builtin rfl rfl rfl (bln (by kernel_rfl) (by first | assumption | rfl)) ?_
                    refine OkO.nil ⟨rfl, ?_⟩
                    refine OkP.step ?_
                    refine OkO.bin rfl rfl rfl (bin_neq _ _) ?_
                    refine OkO.nil ⟨rfl, ?_⟩
                    refine OkP.step ?_
                    refine OkO.pick (b := false) rfl rfl nofun (fun _ => rfl) ?_
                    refine OkO.nil ⟨rfl, ?_⟩
                    refine OkP.nil ?_
                    refine Ok.cond rfl (fun h10 => ?_) (fun h10 => ?_)
                    · -- yes h10
                      exact absurd h10 (by simp)
                    · -- no h10
                      refine Ok.skip ?_
                      refine Ok.seq ?_
                      refine Ok.region ?_
                      refine OkO.assign rfl rfl ?_
                      refine OkO.nil ?_
                      refine Ok.block ?_
                      refine Ok.loop (fun n s => ∃ k : Nat, n = cs.length - k ∧ k ≤ cs.length ∧ HM = s.H ∧ Has 8 [(1, dv), (3, .ptr W.next 0), (7, I (y % ((ds.length : Int) + 1))), (8, v4L), (9, v5L), (11, v4M), (12, v5M), (14, I (i : Int)), (15, I (k : Int))] s.T ∧ s.D = [] ∧ Grow W s.H) (cs.length) (by unfold loopFuel; omega)
                        ⟨0, rfl, Nat.zero_le _, rfl, Has.of (by kernel_rfl), rfl, gM⟩ ?_
                      rintro n ⟨T, D, G⟩ ⟨k, hn8, hk, hH, ⟨f2, hT⟩, hD, hg⟩
                      dsimp only at *
                      subst hT hD
                      have hgn := hg.next
                      subst hH
                      refine Ok.seq ?_
                      refine Ok.seq ?_
                      refine Ok.region ?_
                      refine OkO.move rfl rfl ?_
                      refine OkO.move rfl rfl ?_
                      refine OkO.move rfl rfl ?_
                      refine OkO.index (sz := 1) (n := i) rfl rfl rfl (by kernel_rfl) (by first | assumption | rfl | exact slAt_slice (by omega)) ?_ -- index ('Go.Operand.tmp', 107) ('Go.Operand.tmp', 108)
                      refine OkO.load rfl rfl (lda (n := 1) (by kernel_rfl) (by first | assumption | (simp (disch := first | omega | (simp only [hNw, hPt]; omega)) only [gn0, gn1, gn2, gn3, gn4, gn5, gp0, gno, gpo] <;> first | rfl | assumption)) (by first | rfl | assumption)) ?_
                      refine OkO.builtin rfl rfl rfl (bln (by kernel_rfl) (by first | assumption | rfl)) ?_
                      refine OkO.bin rfl rfl rfl (bin_lss _ _) ?_
                      refine OkO.nil ?_
                      refine Ok.cond rfl (fun h11 => ?_) (fun h11 => ?_)
                      · -- yes h11
                        have hltk : k < cs.length := by simpa using h11
                        obtain ⟨jb, jo, jcs, j1, j2, j3, j4⟩ := xr.at_ k [I (lvR cs g ds i k).lo, I (lvR cs g ds i k).hi] (by rw [List.getElem?_map, rowG, List.getElem?_map, List.getElem?_range hltk]; rfl)
                        obtain ⟨ob, oo, ocs, o1, o2, o3, o4⟩ := wr.at_ k [I (lvR cs g ds i k).lo, I (lvR cs g ds i k).hi] (by rw [List.getElem?_map, rowG, List.getElem?_map, List.getElem?_range hltk]; show some (lvR cs g (ds.take nq) i k).c = _; rw [lvR_take nq i k hlt]; rfl)
                        refine Ok.skip ?_
                        refine Ok.seq ?_
                        refine Ok.block ?_
                        refine Ok.seq ?_
                        refine Ok.drawn [(0, true, []), (1, true, []), (2, true, []), (3, true, []), (4, true, []), (5, true, []), (6, true, []), (7, true, []), (8, true, []), (9, true, []), (10, true, []), (11, true, []), (12, true, []), (13, true, []), (14, true, [])] (by kernel_rfl) ?_
                        refine OkP.step ?_
                        refine OkO.move rfl rfl ?_
                        refine OkO.nil ⟨rfl, ?_⟩
                        refine OkP.step ?_
                        refine OkO.move rfl rfl ?_
                        refine OkO.nil ⟨rfl, ?_⟩
                        refine OkP.step ?_
                        refine OkO.index (sz := 1) (n := i) rfl rfl rfl (by kernel_rfl) (by first | assumption | rfl | exact slAt_slice (by omega)) ?_ -- index ('Go.Operand.tmp', 115) ('Go.Operand.tmp', 116)
                        refine OkO.nil ⟨rfl, ?_⟩
                        refine OkP.step ?_
                        refine OkO.load rfl rfl (lda (n := 1) (by kernel_rfl) (by first | assumption | (simp (disch := first | omega | (simp only [hNw, hPt]; omega)) only [gn0, gn1, gn2, gn3, gn4, gn5, gp0, gno, gpo] <;> first | rfl | assumption)) (by first | rfl | assumption)) ?_
                        refine OkO.nil ⟨rfl, ?_⟩
                        refine OkP.step ?_
                        refine OkO.move rfl rfl ?_
                        refine OkO.nil ⟨rfl, ?_⟩
                        refine OkP.step ?_
                        refine OkO.index (sz := 2) (n := k) rfl rfl rfl (by kernel_rfl) (by first | assumption | rfl | exact slAt_slice (by omega)) ?_ -- index ('Go.Operand.tmp', 118) ('Go.Operand.tmp', 119)
                        refine OkO.nil ⟨rfl, ?_⟩
                        refine OkP.step ?_
                        refine OkO.load rfl rfl (ldg (n := 2) (by kernel_rfl) (by first | assumption | (simp (disch := first | omega | (simp only [hNw, hPt]; omega)) only [gn0, gn1, gn2, gn3, gn4, gn5, gp0, gno, gpo] <;> first | rfl | assumption)) (by first | rfl | assumption)) ?_
                        refine OkO.nil ⟨rfl, ?_⟩
                        refine OkP.step ?_
                        refine OkO.move rfl rfl ?_
                        refine OkO.nil ⟨rfl, ?_⟩
                        refine OkP.step ?_
                        refine OkO.move rfl rfl ?_
                        refine OkO.nil ⟨rfl, ?_⟩
                        refine OkP.step ?_
                        refine OkO.index (sz := 1) (n := i) rfl rfl rfl (by kernel_rfl) (by first | assumption | rfl | exact slAt_slice (by omega)) ?_ -- index ('Go.Operand.tmp', 122) ('Go.Operand.tmp', 123)
                        refine OkO.nil ⟨rfl, ?_⟩
                        refine OkP.step ?_
                        refine OkO.load rfl rfl (lda (n := 1) (by kernel_rfl) (by first | assumption | (simp (disch := first | omega | (simp only [hNw, hPt]; omega)) only [gn0, gn1, gn2, gn3, gn4, gn5, gp0, gno, gpo] <;> first | rfl | assumption)) (by first | rfl | assumption)) ?_
                        refine OkO.nil ⟨rfl, ?_⟩
                        refine OkP.step ?_
                        refine OkO.move rfl rfl ?_
                        refine OkO.nil ⟨rfl, ?_⟩
                        refine OkP.step ?_
                        refine OkO.index (sz := 2) (n := k) rfl rfl rfl (by kernel_rfl) (by first | assumption | rfl | exact slAt_slice (by omega)) ?_ -- index ('Go.Operand.tmp', 125) ('Go.Operand.tmp', 126)
                        refine OkO.nil ⟨rfl, ?_⟩
                        refine OkP.step ?_
                        refine OkO.load rfl rfl (ldg (n := 2) (by kernel_rfl) (by first | assumption | (simp (disch := first | omega | (simp only [hNw, hPt]; omega)) only [gn0, gn1, gn2, gn3, gn4, gn5, gp0, gno, gpo] <;> first | rfl | assumption)) (by first | rfl | assumption)) ?_
                        refine OkO.nil ⟨rfl, ?_⟩
                        refine OkP.step ?_
                        refine OkO.binT rfl rfl rfl (bin36 _ _) ?_
                        refine OkO.nil ⟨rfl, ?_⟩
                        refine OkP.nil ?_
                        refine Ok.cond rfl (fun h12 => ?_) (fun h12 => ?_)
                        · -- yes h12
                          exact absurd h12 (by simp)
                        · -- no h12
                          refine Ok.skip ?_
                          refine Ok.region ?_
                          refine OkO.move rfl rfl ?_
                          refine OkO.bin rfl rfl rfl (bin_add (by omega) (by omega)) ?_
                          refine OkO.assign rfl rfl ?_
                          refine OkO.nil ?_
                          refine ⟨cs.length - (k + 1), by omega, k + 1, rfl, hltk, rfl, Has.of (by kernel_rfl), rfl, gM⟩
                      · -- no h11
                        have hgek : k = cs.length := by simp at h11; omega
                        refine Ok.exit ?_
                        refine Ok.region ?_
                        refine OkO.move rfl rfl ?_
                        refine OkO.bin rfl rfl rfl (bin_add (by omega) (by omega)) ?_
                        refine OkO.assign rfl rfl ?_
                        refine OkO.nil ?_
                        refine ⟨nq - (i + 1), by omega, i + 1, rfl, hlt, rfl, Has.of (by kernel_rfl), rfl, gM⟩
                · -- no h8
                  refine Ok.exit ?_
                  refine Ok.seq ?_
                  refine Ok.region ?_
                  refine OkO.callV rfl rfl rfl rfl rfl (rfl) ?_ -- "sackung/sackunglaw02.wakes"
                  refine OkO.assign rfl rfl ?_
                  refine OkO.nil ?_
                  refine Ok.ret ⟨.inr rfl, ?_⟩
                  exact back_flat rfl (congrArg AV.bool rfl) rfl (by rw [← hW]; exact gM)
theorem c15 (m : Nat) (cv dv : AV) (cs : List Cell) (g : Gr) (ds : List Day) (y : Int) (H : Heap) (hR : Row H cv 7 (cs.map Cell.c)) (hY : Row H dv 3 (ds.map Day.c)) (hy : 0 ≤ y ∧ y ≤ 255) (hsl : ∀ k : Nat, k ≤ ds.length → ∃ v', (∀ G, sliceOf G 3 dv none (some (.int .i64 (k : Int))) = some v') ∧ Row H v' 3 ((ds.take k).map Day.c)) : RR (m + 10) (.fn 15 [.agg [cv, I g.slo, I g.shi, I g.klo, I g.khi, I g.melt], dv, .int .u8 y]) H = some (.bool true, H) := by
  cases h : readyB cs g ds with
  | false => exact c15W m cv dv cs g ds y H hR hY hy hsl h
  | true => exact c15K m cv dv cs g ds y H hR hY hy hsl h
end
end Go.Ev
