/-
  Functions of the program, reckoned by the evaluator: what each answers, and that it leaves what came in as it was (part 32).
-/
import Derived.Test.YtibplmibcbillaaV29
import Derived.Test.YtibplmibcbillaaV17
set_option maxRecDepth 100000
set_option linter.unusedSimpArgs false
set_option linter.unusedVariables false
namespace Go.Ev
open Go Go.Proofs
noncomputable section
theorem evBuild_arr {P : Program} {T : Tr AV} {H : Heap} {t : TypeId} {ps : Array (Nat × Operand)} {z : List AV} {sz : Nat} {vs : List (Nat × AV)} {cs : List AV} (hb : buildOf P t = some (z, .inr sz)) (hp : parts T ps.toList = some vs) (hc : fillS (fun i => some (i * sz, sz)) z vs = some cs) :
    evBuild P T H t ps = some (.val (.agg cs) H) := by
  unfold buildOf at hb
  unfold evBuild
  rw [hp]
  split at hb
  · rename_i e; rw [e]
    dsimp only
    split at hb
    · simp at hb
    · rename_i e1 e2; rw [e1, e2]
      simp only [Option.map_eq_some_iff, Prod.mk.injEq, Sum.inr.injEq] at hb
      obtain ⟨ei, h1, rfl, rfl⟩ := hb
      dsimp only
      rw [h1]
      dsimp only
      rw [hc]; rfl
    · cases hb
  · cases hb
theorem OkO.buildArr {P : Program} {rec : Rec} {ops : Array Oper} {d : Option Tmp} {t : TypeId} {ps : String} {e : Array Edge} {g : Option (Nat × Bool)} {l : List Oper} {T : Tr AV} {H : Heap} {K : Tr AV → Heap → Prop} {ty : TypeId} {pa : Array (Nat × Operand)} {z : List AV} {sz : Nat} {vs : List (Nat × AV)} {cs : List AV} (hg : wantedA ops g T = some true) (hb : buildOf P ty = some (z, .inr sz)) (hp : parts T pa.toList = some vs) (hc : fillS (fun i => some (i * sz, sz)) z vs = some cs) (h : OkO P rec ops l (putD T d (.agg cs)) H K) : OkO P rec ops (⟨d, .build ty pa, t, ps, e, g⟩ :: l) T H K :=
  OkO.val hg (show evBuild P T H ty pa = _ from evBuild_arr hb hp hc) h
theorem firstD_spec {f : Nat → Int} {lv : Int} (n : Nat) : (firstD f lv n = -1 ∧ ∀ j, j < n → f j < lv) ∨ ∃ i : Nat, firstD f lv n = i ∧ i < n ∧ lv ≤ f i ∧ ∀ j, j < i → f j < lv := by
  induction n with
  | zero => exact .inl ⟨rfl, fun j hj => by omega⟩
  | succ n ih =>
    rcases ih with ⟨h1, h2⟩ | ⟨i, h1, h2, h3, h4⟩
    · by_cases h : lv ≤ f n
      · exact .inr ⟨n, by rw [firstD, if_pos h1, if_pos h], by omega, h, h2⟩
      · refine .inl ⟨by rw [firstD, if_pos h1, if_neg h], fun j hj => ?_⟩
        rcases Nat.lt_or_ge j n with e | e
        · exact h2 j e
        · have : j = n := by omega
          subst this; omega
    · exact .inr ⟨i, by rw [firstD, if_neg (by rw [h1]; omega), h1], by omega, h3, h4⟩
/-- A day behind all others, where there is none. -/
def fixD (D : Nat) (x : Int) : Int := if x < 0 then (D : Int) else x
theorem fixD_spec {f : Nat → Int} {lv : Int} (D : Nat) : ∃ r : Nat, fixD D (firstD f lv D) = r ∧ r ≤ D ∧ (∀ j, j < r → f j < lv) ∧ (r < D → lv ≤ f r) := by
  rcases firstD_spec (f := f) (lv := lv) D with ⟨h1, h2⟩ | ⟨i, h1, h2, h3, h4⟩
  · exact ⟨D, by rw [h1]; rfl, Nat.le_refl _, h2, fun h => by omega⟩
  · exact ⟨i, by rw [h1, fixD, if_neg (by omega)], by omega, h4, fun _ => h3⟩
theorem fixD_le {f f' : Nat → Int} {lv lv' : Int} (D : Nat) (h : ∀ j, j < D → lv ≤ f j → lv' ≤ f' j) : fixD D (firstD f' lv' D) ≤ fixD D (firstD f lv D) := by
  obtain ⟨r, e1, e2, e3, e4⟩ := fixD_spec (f := f) (lv := lv) D
  obtain ⟨r', e1', e2', e3', e4'⟩ := fixD_spec (f := f') (lv := lv') D
  rw [e1, e1']
  rcases Nat.lt_or_ge r r' with k | k
  · have k1 := e3' r k
    have k2 := h r (by omega) (e4 (by omega))
    omega
  · omega
theorem fixD_to {f f' : Nat → Int} {lv : Int} (D : Nat) {r : Int} (h0 : 0 ≤ r) (hD : r ≤ D) (hr : ∀ i : Nat, (i : Int) = r → i < D → lv ≤ f i) (h : ∀ j, j < D → f j ≤ f' j) : fixD D (firstD f' lv D) ≤ r := by
  obtain ⟨r', e1, e2, e3, e4⟩ := fixD_spec (f := f') (lv := lv) D
  rw [e1]
  rcases Int.lt_or_le r r' with k | k
  · have k1 := e3 r.toNat (by omega)
    have k2 := hr r.toNat (by omega) (by omega)
    have k3 := h r.toNat (by omega)
    omega
  · exact k
theorem to_fixD {f f' : Nat → Int} {lv : Int} (D : Nat) {r : Int} (hD : r ≤ D) (hr : ∀ i : Nat, (i : Int) < r → f i < lv) (h : ∀ j, j < D → f' j ≤ f j) : r ≤ fixD D (firstD f' lv D) := by
  obtain ⟨r', e1, e2, e3, e4⟩ := fixD_spec (f := f') (lv := lv) D
  rw [e1]
  rcases Int.lt_or_le r' r with k | k
  · have k1 := e4 (by omega)
    have k2 := hr r' k
    have k3 := h r' (by omega)
    omega
  · exact k
def lateL (D : Nat) (l : List Int) (i : Nat) : List Int := (l.take i).map (fixD D) ++ l.drop i
theorem late_len {D : Nat} {l : List Int} {i : Nat} : (lateL D l i).length = l.length := by simp [lateL]; omega
theorem late_get {D : Nat} {l : List Int} {i : Nat} (h : i < l.length) : (lateL D l i)[i]? = some l[i] := by
  unfold lateL
  rw [List.getElem?_append_right (by simp; omega)]
  simp [Nat.min_eq_left (Nat.le_of_lt h), h]
theorem late_set {D : Nat} {l : List Int} {i : Nat} (h : i < l.length) : (lateL D l i).set i (fixD D l[i]) = lateL D l (i + 1) := by
  unfold lateL
  rw [List.set_append_right _ _ (by simp; omega)]
  rw [List.take_succ_eq_append_getElem h, List.map_append, List.append_assoc]
  congr 1
  simp only [List.length_map, List.length_take, Nat.min_eq_left (Nat.le_of_lt h), Nat.sub_self]
  rw [List.drop_eq_getElem_cons h]
  rfl
theorem late_keep {D : Nat} {l : List Int} {i : Nat} (h : i < l.length) (h0 : ¬l[i] < 0) : lateL D l (i + 1) = lateL D l i := by
  rw [← late_set h, show fixD D l[i] = l[i] from if_neg h0]
  apply List.ext_getElem?
  intro j
  rw [List.getElem?_set]
  split
  · rename_i e
    subst e
    rw [if_pos (by rw [late_len]; exact h), late_get h]
  · rfl
theorem ask_mk {cs : List Cell} {g : Gr} {ds : List Day} {k : Nat} {x : Int} (h : daysErr cs g ds = 0) (hk : k < cs.length) (h1 : 0 ≤ x) (h2 : x ≤ 100000) : askErr cs g ds (k : Int) x = 0 := by
  unfold askErr
  rw [if_pos h, if_pos]
  simp only [inB, Bool.and_eq_true, decide_eq_true_eq]
  omega
section
open Go.ChangeShapes Go.WideShapes Go.RowKit
variable {H0 : Type} {enc : TypeId × Value → H0} {w : World} {base : Nat} {sp : Nat → Bool} {hd : Bool}
/-- A word at hand. -/
theorem u16_arg {H : Heap} (hs : Snap w H) {v : Value} {d : DataW H0} {p : List MemPlace} (hv : ∃ n, v = .int .u16 n) (h : DataW.Trod enc Try.prog w base sp hd 64 v d p) : ∃ x : Int, argAV w.heap.size v = .int .u16 x ∧ 0 ≤ x ∧ x ≤ 65535 := by
  obtain ⟨n, rfl⟩ := hv
  obtain ⟨fuel, h⟩ := h
  obtain ⟨x, h1, h2⟩ := u16_open h
  have h1' : ([Value.int .u16 n] : List Value) = [.int .u16 x] := h1
  have e0 : n = x := by simpa using h1'
  subst e0
  exact ⟨n, rfl, h2⟩
end
theorem c12W (m : Nat) (cv dv wv : AV) (cs : List Cell) (g : Gr) (ds : List Day) (ws : List Int) (y z x : Int) (H : Heap) (hR : Row H cv 7 (cs.map Cell.c)) (hY : Row H dv 3 (ds.map Day.c)) (hWs : Row H wv 1 (ws.map fun w => [U w])) (hws : Upto 65535 ws) (hy : 0 ≤ y ∧ y ≤ 255) (hz : 0 ≤ z ∧ z ≤ 65535) (hx9 : 0 ≤ x ∧ x ≤ 65535) (hrd : readyB cs g ds = false) : RR (m + 11) (.fn 12 [.agg [cv, I g.slo, I g.shi, I g.klo, I g.khi, I g.melt], dv, wv, .int .u8 y, .int .u16 z, .int .u16 x]) H = some (.bool true, H) := by
  refine (R_fn _ _ _ _ _).trans ?_
  refine fn_ok Try.func12 rfl rfl (by kernel_rfl) (by kernel_rfl) ?_
  obtain ⟨W, hW⟩ : ∃ W : Heap, W = ⟨H.t, H.next, H.next⟩ := ⟨_, rfl⟩
  have hg : ∀ n, W.get n = H.get n := fun n => by rw [hW]; rfl
  have hN : W.next = H.next := by rw [hW]
  have hE : ∀ G, Grow W G → Ext H G := fun G g => ⟨by rw [← hN]; exact g.next, fun n k => by rw [g.get n (by rw [hN]; exact k), hg]⟩
  have hG : Grow W W := Grow.refl (by rw [hW]; exact Nat.le_refl _)
  rw [← hW]
  have hlc : lenOf cv = some cs.length := by simpa using hR.len
  have pc := lpl hlc
  have hld : lenOf dv = some ds.length := by simpa using hY.len
  have hlw : lenOf wv = some ws.length := by simpa using hWs.len
  refine Ok.seq ?_
  refine Ok.region ?_
  refine OkO.box rfl rfl ?_
  refine OkO.assign rfl rfl ?_
  refine OkO.nil ?_
  refine Ok.seq ?_
  refine Ok.seq ?_
  refine Ok.region ?_
  refine OkO.load rfl rfl (ldg (n := 6) (by kernel_rfl) (by first | assumption | (simp (disch := first | omega | (simp only [hNw, hPt]; omega)) only [gn0, gn1, gn2, gn3, gn4, gn5, gp0, gno, gpo] <;> first | rfl | assumption)) (by first | rfl | assumption)) ?_
  refine OkO.move rfl rfl ?_
  refine OkO.callV rfl rfl rfl rfl rfl (c43 (m + 5) cv dv cs g ds _ (hR.ext (hE _ (by (try dsimp only); repeat (first | exact hG | apply Grow.new | (refine Grow.put ?_ _ (by first | omega | (simp only [hNw, hPt]; omega))))))) (hY.ext (hE _ (by (try dsimp only); repeat (first | exact hG | apply Grow.new | (refine Grow.put ?_ _ (by first | omega | (simp only [hNw, hPt]; omega)))))))) ?_ -- "sackung/sackunglaw02.ready"
  refine OkO.un rfl rfl rfl ?_
  refine OkO.nil ?_
  refine Ok.cond rfl (fun h1 => ?_) (fun h1 => ?_)
  · -- yes h1
    refine Ok.seq ?_
    refine Ok.region ?_
    refine OkO.callV rfl rfl rfl rfl rfl (rfl) ?_ -- "sackung/sackunglaw02.wakes"
    refine OkO.assign rfl rfl ?_
    refine OkO.nil ?_
    refine Ok.ret ⟨.inr rfl, ?_⟩
    exact back_flat rfl (congrArg AV.bool rfl) rfl (by rw [← hW]; exact (by (try dsimp only); repeat (first | exact hG | apply Grow.new | (refine Grow.put ?_ _ (by first | omega | (simp only [hNw, hPt]; omega))))))
  · -- no h1
    exact absurd h1 (by simp [hrd])
theorem c12K (m : Nat) (cv dv wv : AV) (cs : List Cell) (g : Gr) (ds : List Day) (ws : List Int) (y z x : Int) (H : Heap) (hR : Row H cv 7 (cs.map Cell.c)) (hY : Row H dv 3 (ds.map Day.c)) (hWs : Row H wv 1 (ws.map fun w => [U w])) (hws : Upto 65535 ws) (hy : 0 ≤ y ∧ y ≤ 255) (hz : 0 ≤ z ∧ z ≤ 65535) (hx9 : 0 ≤ x ∧ x ≤ 65535) (hrd : readyB cs g ds = true) : RR (m + 11) (.fn 12 [.agg [cv, I g.slo, I g.shi, I g.klo, I g.khi, I g.melt], dv, wv, .int .u8 y, .int .u16 z, .int .u16 x]) H = some (.bool true, H) := by
  refine (R_fn _ _ _ _ _).trans ?_
  refine fn_ok Try.func12 rfl rfl (by kernel_rfl) (by kernel_rfl) ?_
  obtain ⟨W, hW⟩ : ∃ W : Heap, W = ⟨H.t, H.next, H.next⟩ := ⟨_, rfl⟩
  have hg : ∀ n, W.get n = H.get n := fun n => by rw [hW]; rfl
  have hN : W.next = H.next := by rw [hW]
  have hE : ∀ G, Grow W G → Ext H G := fun G g => ⟨by rw [← hN]; exact g.next, fun n k => by rw [g.get n (by rw [hN]; exact k), hg]⟩
  have hG : Grow W W := Grow.refl (by rw [hW]; exact Nat.le_refl _)
  rw [← hW]
  have hlc : lenOf cv = some cs.length := by simpa using hR.len
  have pc := lpl hlc
  have hld : lenOf dv = some ds.length := by simpa using hY.len
  have hlw : lenOf wv = some ws.length := by simpa using hWs.len
  have hd0 := ready_ok hrd
  have hGF := gf_of hd0
  have hg8 := hGF.n8
  have hg30 := hGF.d30
  obtain ⟨k, hkq, hkl⟩ : ∃ k : Nat, y % (cs.length : Int) = (k : Int) ∧ k < cs.length := ⟨(y % (cs.length : Int)).toNat, by have := Int.emod_nonneg y (b := (cs.length : Int)) (by omega); omega, by have := Int.emod_lt_of_pos y (b := (cs.length : Int)) (by omega); omega⟩
  refine Ok.seq ?_
  refine Ok.region ?_
  refine OkO.box rfl rfl ?_
  refine OkO.assign rfl rfl ?_
  refine OkO.nil ?_
  refine Ok.seq ?_
  refine Ok.seq ?_
  refine Ok.region ?_
  refine OkO.load rfl rfl (ldg (n := 6) (by kernel_rfl) (by first | assumption | (simp (disch := first | omega | (simp only [hNw, hPt]; omega)) only [gn0, gn1, gn2, gn3, gn4, gn5, gp0, gno, gpo] <;> first | rfl | assumption)) (by first | rfl | assumption)) ?_
  refine OkO.move rfl rfl ?_
  refine OkO.callV rfl rfl rfl rfl rfl (c43 (m + 5) cv dv cs g ds _ (hR.ext (hE _ (by (try dsimp only); repeat (first | exact hG | apply Grow.new | (refine Grow.put ?_ _ (by first | omega | (simp only [hNw, hPt]; omega))))))) (hY.ext (hE _ (by (try dsimp only); repeat (first | exact hG | apply Grow.new | (refine Grow.put ?_ _ (by first | omega | (simp only [hNw, hPt]; omega)))))))) ?_ -- "sackung/sackunglaw02.ready"
  refine OkO.un rfl rfl rfl ?_
  refine OkO.nil ?_
  refine Ok.cond rfl (fun h1 => ?_) (fun h1 => ?_)
  · -- yes h1
    exact absurd h1 (by simp [hrd])
  · -- no h1
    refine Ok.skip ?_
    refine Ok.seq ?_
    refine Ok.region ?_
    refine OkO.move rfl rfl ?_
    refine OkO.convert (k := .i64) rfl (by kernel_rfl) rfl (wrapF_i64 (by omega) (by omega)) ?_
    refine OkO.fieldAddr (o := 0) rfl (by kernel_rfl) rfl ?_
    refine OkO.load rfl rfl (lda (n := 1) (by kernel_rfl) (by first | assumption | (simp (disch := first | omega | (simp only [hNw, hPt]; omega)) only [gn0, gn1, gn2, gn3, gn4, gn5, gp0, gno, gpo] <;> first | rfl | assumption)) (by first | rfl | assumption)) ?_
    refine OkO.builtin rfl rfl rfl (bln (by kernel_rfl) (by first | assumption | rfl)) ?_
    refine OkO.bin rfl rfl rfl (bin_rem (by omega) (by omega)) ?_
    refine OkO.move rfl rfl ?_
    refine OkO.convert (k := .i64) rfl (by kernel_rfl) rfl (wrapF_i64 (by omega) (by omega)) ?_
    refine OkO.assign rfl rfl ?_
    refine OkO.assign rfl rfl ?_
    refine OkO.nil ?_
    refine Ok.seq ?_
    refine Ok.region ?_
    refine OkO.load rfl rfl (ldg (n := 6) (by kernel_rfl) (by first | assumption | (simp (disch := first | omega | (simp only [hNw, hPt]; omega)) only [gn0, gn1, gn2, gn3, gn4, gn5, gp0, gno, gpo] <;> first | rfl | assumption)) (by first | rfl | assumption)) ?_
    refine OkO.callE rfl rfl rfl rfl rfl (c19 (m + 8) cv cs g _ (hR.ext (hE _ (by (try dsimp only); repeat (first | exact hG | apply Grow.new | (refine Grow.put ?_ _ (by first | omega | (simp only [hNw, hPt]; omega))))))) (by omega)) ?_ -- "sackung/sackunglaw02.Ground"
    rintro vA HA ⟨cvA, rfl, qA, rA, atA⟩
    have gA : Grow W HA := Grow.ret (by (try dsimp only); repeat (first | exact hG | apply Grow.new | (refine Grow.put ?_ _ (by first | omega | (simp only [hNw, hPt]; omega))))) qA
    have nA : W.next + 1 ≤ HA.next := by have := qA.ext.next; first | omega | (simp only [hNw] at this; omega)
    have aA : (HA.get W.next).bind AObj.cs = some [cv, I g.slo, I g.shi, I g.klo, I g.khi, I g.melt] := by rw [qA.ext.get _ (by first | omega | (simp only [hNw]; omega))]; first | assumption | (simp (disch := first | omega | (simp only [hNw, hPt]; omega)) only [gn0, gn1, gn2, gn3, gn4, gn5, gp0, gno, gpo] <;> first | rfl | assumption)
    refine OkO.move rfl rfl ?_
    refine OkO.callE rfl rfl rfl rfl rfl (c21 (m + 8) dv ds _ (hY.ext (hE _ gA)) (by omega)) ?_ -- "sackung/sackunglaw02.Days"
    rintro dvB HB ⟨qB, rB, atB⟩
    have gB : Grow W HB := Grow.ret gA qB
    have nB : W.next + 1 ≤ HB.next := by have := qB.ext.next; first | omega | (simp only [hNw] at this; omega)
    have aB : (HB.get W.next).bind AObj.cs = some [cv, I g.slo, I g.shi, I g.klo, I g.khi, I g.melt] := by rw [qB.ext.get _ (by first | omega | (simp only [hNw]; omega))]; first | assumption | (simp (disch := first | omega | (simp only [hNw, hPt]; omega)) only [gn0, gn1, gn2, gn3, gn4, gn5, gp0, gno, gpo] <;> first | rfl | assumption)
    refine OkO.move rfl rfl ?_
    refine OkO.move rfl rfl ?_
    refine OkO.callV rfl rfl rfl rfl rfl ((by rw [hkq]; exact c30K (m + 1) cvA dvB cs g ds k z _ (rA.ext qB.ext) rB atA atB hkl (ask_mk hd0 hkl (by omega) (by omega)))) ?_ -- "sackung/water.Reach"
    refine OkO.move rfl rfl ?_
    refine OkO.extract rfl rfl rfl ?_
    refine OkO.extract rfl rfl rfl ?_
    refine OkO.extract rfl rfl rfl ?_
    refine OkO.assign rfl rfl ?_
    refine OkO.assign rfl rfl ?_
    refine OkO.assign rfl rfl ?_
    refine OkO.nil ?_
    refine Ok.seq ?_
    refine Ok.region ?_
    refine OkO.load rfl rfl (ldg (n := 6) (by kernel_rfl) (by first | assumption | (simp (disch := first | omega | (simp only [hNw, hPt]; omega)) only [gn0, gn1, gn2, gn3, gn4, gn5, gp0, gno, gpo] <;> first | rfl | assumption)) (by first | rfl | assumption)) ?_
    refine OkO.callE rfl rfl rfl rfl rfl (c19 (m + 8) cv cs g _ (hR.ext (hE _ gB)) (by omega)) ?_ -- "sackung/sackunglaw02.Ground"
    rintro vC HC ⟨cvC, rfl, qC, rC, atC⟩
    have gC : Grow W HC := Grow.ret gB qC
    have nC : W.next + 1 ≤ HC.next := by have := qC.ext.next; first | omega | (simp only [hNw] at this; omega)
    have aC : (HC.get W.next).bind AObj.cs = some [cv, I g.slo, I g.shi, I g.klo, I g.khi, I g.melt] := by rw [qC.ext.get _ (by first | omega | (simp only [hNw]; omega))]; first | assumption | (simp (disch := first | omega | (simp only [hNw, hPt]; omega)) only [gn0, gn1, gn2, gn3, gn4, gn5, gp0, gno, gpo] <;> first | rfl | assumption)
    refine OkO.move rfl rfl ?_
    refine OkO.callE rfl rfl rfl rfl rfl (c21 (m + 8) dv ds _ (hY.ext (hE _ gC)) (by omega)) ?_ -- "sackung/sackunglaw02.Days"
    rintro dvE HE ⟨qE, rE, atE⟩
    have gE : Grow W HE := Grow.ret gC qE
    have nE : W.next + 1 ≤ HE.next := by have := qE.ext.next; first | omega | (simp only [hNw] at this; omega)
    have aE : (HE.get W.next).bind AObj.cs = some [cv, I g.slo, I g.shi, I g.klo, I g.khi, I g.melt] := by rw [qE.ext.get _ (by first | omega | (simp only [hNw]; omega))]; first | assumption | (simp (disch := first | omega | (simp only [hNw, hPt]; omega)) only [gn0, gn1, gn2, gn3, gn4, gn5, gp0, gno, gpo] <;> first | rfl | assumption)
    refine OkO.move rfl rfl ?_
    refine OkO.move rfl rfl ?_
    refine OkO.move rfl rfl ?_
    refine OkO.convert (k := .i64) rfl (by kernel_rfl) rfl (wrapF_i64 (by omega) (by omega)) ?_
    refine OkO.bin rfl rfl rfl (bin_add (by omega) (by omega)) ?_
    refine OkO.builtin rfl rfl rfl (builtin_min2 _ _) ?_
    refine OkO.callV rfl rfl rfl rfl rfl ((by rw [hkq]; exact c30K (m + 1) cvC dvE cs g ds k (min 100000 (z + x)) _ (rC.ext qE.ext) rE atC atE hkl (ask_mk hd0 hkl (by omega) (by omega)))) ?_ -- "sackung/water.Reach"
    refine OkO.move rfl rfl ?_
    refine OkO.extract rfl rfl rfl ?_
    refine OkO.extract rfl rfl rfl ?_
    refine OkO.extract rfl rfl rfl ?_
    refine OkO.assign rfl rfl ?_
    refine OkO.assign rfl rfl ?_
    refine OkO.assign rfl rfl ?_
    refine OkO.nil ?_
    refine Ok.seq ?_
    refine Ok.drawn [(0, true, []), (2, true, []), (4, true, []), (5, true, []), (6, true, []), (1, false, [4]), (3, false, [4, 0]), (7, false, [0]), (8, false, [4, 0]), (9, false, [4, 0]), (10, true, []), (11, true, []), (12, true, []), (13, true, []), (14, true, []), (15, true, []), (16, true, []), (17, true, []), (18, true, [])] (by kernel_rfl) ?_
    refine OkP.step ?_
    refine OkO.load rfl rfl (ldg (n := 6) (by kernel_rfl) (by first | assumption | (simp (disch := first | omega | (simp only [hNw, hPt]; omega)) only [gn0, gn1, gn2, gn3, gn4, gn5, gp0, gno, gpo] <;> first | rfl | assumption)) (by first | rfl | assumption)) ?_
    refine OkO.nil ⟨rfl, ?_⟩
    refine OkP.step ?_
    refine OkO.move rfl rfl ?_
    refine OkO.nil ⟨rfl, ?_⟩
    refine OkP.step ?_
    refine OkO.load rfl rfl (ldg (n := 6) (by kernel_rfl) (by first | assumption | (simp (disch := first | omega | (simp only [hNw, hPt]; omega)) only [gn0, gn1, gn2, gn3, gn4, gn5, gp0, gno, gpo] <;> first | rfl | assumption)) (by first | rfl | assumption)) ?_
    refine OkO.nil ⟨rfl, ?_⟩
    refine OkP.step ?_
    refine OkO.move rfl rfl ?_
    refine OkO.nil ⟨rfl, ?_⟩
    refine OkP.step ?_
    refine OkO.move rfl rfl ?_
    refine OkO.nil ⟨rfl, ?_⟩
    refine OkP.step ?_
    refine OkO.callE rfl rfl rfl rfl rfl (c19 (m + 8) cv cs g _ (hR.ext (hE _ gE)) (by omega)) ?_ -- "sackung/sackunglaw02.Ground"
    rintro vF HF ⟨cvF, rfl, qF, rF, atF⟩
    have gF : Grow W HF := Grow.ret gE qF
    have nF : W.next + 1 ≤ HF.next := by have := qF.ext.next; first | omega | (simp only [hNw] at this; omega)
    have aF : (HF.get W.next).bind AObj.cs = some [cv, I g.slo, I g.shi, I g.klo, I g.khi, I g.melt] := by rw [qF.ext.get _ (by first | omega | (simp only [hNw]; omega))]; first | assumption | (simp (disch := first | omega | (simp only [hNw, hPt]; omega)) only [gn0, gn1, gn2, gn3, gn4, gn5, gp0, gno, gpo] <;> first | rfl | assumption)
    refine OkO.nil ⟨(sco (sld rfl rfl (ldg (n := 6) (by kernel_rfl) (by first | assumption | (simp (disch := first | omega | (simp only [hNw, hPt]; omega)) only [gn0, gn1, gn2, gn3, gn4, gn5, gp0, gno, gpo] <;> first | rfl | assumption)) (by first | rfl | assumption)) rfl (eqr _ (by first | rfl | exact lpl (by assumption) | (simp [AV.plain, AV.plains, AV.cells, pc])))) rfl), ?_⟩
    refine OkP.step ?_
    refine OkO.callE rfl rfl rfl rfl rfl (c21 (m + 8) dv ds _ (hY.ext (hE _ gF)) (by omega)) ?_ -- "sackung/sackunglaw02.Days"
    rintro dvJ HJ ⟨qJ, rJ, atJ⟩
    have gJ : Grow W HJ := Grow.ret gF qJ
    have nJ : W.next + 1 ≤ HJ.next := by have := qJ.ext.next; first | omega | (simp only [hNw] at this; omega)
    have aJ : (HJ.get W.next).bind AObj.cs = some [cv, I g.slo, I g.shi, I g.klo, I g.khi, I g.melt] := by rw [qJ.ext.get _ (by first | omega | (simp only [hNw]; omega))]; first | assumption | (simp (disch := first | omega | (simp only [hNw, hPt]; omega)) only [gn0, gn1, gn2, gn3, gn4, gn5, gp0, gno, gpo] <;> first | rfl | assumption)
    refine OkO.nil ⟨(sco (sld rfl rfl (ldg (n := 6) (by kernel_rfl) (by first | assumption | (simp (disch := first | omega | (simp only [hNw, hPt]; omega)) only [gn0, gn1, gn2, gn3, gn4, gn5, gp0, gno, gpo] <;> first | rfl | assumption)) (by first | rfl | assumption)) rfl (eqr _ (by first | rfl | exact lpl (by assumption) | (simp [AV.plain, AV.plains, AV.cells, pc])))) (sco (sld rfl rfl (ldg (n := 6) (by kernel_rfl) (by first | assumption | (simp (disch := first | omega | (simp only [hNw, hPt]; omega)) only [gn0, gn1, gn2, gn3, gn4, gn5, gp0, gno, gpo] <;> first | rfl | assumption)) (by first | rfl | assumption)) rfl (eqr _ (by first | rfl | exact lpl (by assumption) | (simp [AV.plain, AV.plains, AV.cells, pc])))) rfl)), ?_⟩
    refine OkP.step ?_
    refine OkO.callE rfl rfl rfl rfl rfl (c44 (m + 8) cv dv wv cs g ds ws _ (hR.ext (hE _ gJ)) (hY.ext (hE _ gJ)) (hWs.ext (hE _ gJ)) hws hGF.lim hGF.dlim hGF.n8.2 hGF.d30 hGF.snow hGF.soak) ?_ -- "sackung/sackunglaw02.Picked"
    rintro vP HP ⟨lvP, rvP, rfl, qP, lP, rP, alP, arP⟩
    have gP : Grow W HP := Grow.ret gJ qP
    have nP : W.next + 1 ≤ HP.next := by have := qP.ext.next; first | omega | (simp only [hNw] at this; omega)
    have aP : (HP.get W.next).bind AObj.cs = some [cv, I g.slo, I g.shi, I g.klo, I g.khi, I g.melt] := by rw [qP.ext.get _ (by first | omega | (simp only [hNw]; omega))]; first | assumption | (simp (disch := first | omega | (simp only [hNw, hPt]; omega)) only [gn0, gn1, gn2, gn3, gn4, gn5, gp0, gno, gpo] <;> first | rfl | assumption)
    have hte := pick_ok ws hd0
    generalize pickT g ws = t at *
    generalize pickL cs ws cs.length = lvs at *
    generalize pickR cs ds ws ds.length = rain at *
    have hF := fit_of hte
    have hfl := hF.ll
    have hfr := hF.rl
    have hdt := hF.d30
    refine OkO.nil ⟨(sco (sld rfl rfl (ldg (n := 6) (by kernel_rfl) (by first | assumption | (simp (disch := first | omega | (simp only [hNw, hPt]; omega)) only [gn0, gn1, gn2, gn3, gn4, gn5, gp0, gno, gpo] <;> first | rfl | assumption)) (by first | rfl | assumption)) rfl (eqr _ (by first | rfl | exact lpl (by assumption) | (simp [AV.plain, AV.plains, AV.cells, pc])))) rfl), ?_⟩
    refine OkP.step ?_
    refine OkO.callE rfl rfl rfl rfl rfl (c22 (m + 8) lvP rvP t lvs rain _ (lP.ext (Ext.refl _)) (by omega) (rP.ext (Ext.refl _)) (by omega)) ?_ -- "sackung/sackunglaw02.Truth"
    rintro vT HT ⟨lvT, rvT, rfl, qT, lT, rT⟩
    have gT : Grow W HT := Grow.ret gP qT
    have nT : W.next + 1 ≤ HT.next := by have := qT.ext.next; first | omega | (simp only [hNw] at this; omega)
    have aT : (HT.get W.next).bind AObj.cs = some [cv, I g.slo, I g.shi, I g.klo, I g.khi, I g.melt] := by rw [qT.ext.get _ (by first | omega | (simp only [hNw]; omega))]; first | assumption | (simp (disch := first | omega | (simp only [hNw, hPt]; omega)) only [gn0, gn1, gn2, gn3, gn4, gn5, gp0, gno, gpo] <;> first | rfl | assumption)
    refine OkO.nil ⟨(sco (sld rfl rfl (ldg (n := 6) (by kernel_rfl) (by first | assumption | (simp (disch := first | omega | (simp only [hNw, hPt]; omega)) only [gn0, gn1, gn2, gn3, gn4, gn5, gp0, gno, gpo] <;> first | rfl | assumption)) (by first | rfl | assumption)) rfl (eqr _ (by first | rfl | exact lpl (by assumption) | (simp [AV.plain, AV.plains, AV.cells, pc])))) (sco (sld rfl rfl (ldg (n := 6) (by kernel_rfl) (by first | assumption | (simp (disch := first | omega | (simp only [hNw, hPt]; omega)) only [gn0, gn1, gn2, gn3, gn4, gn5, gp0, gno, gpo] <;> first | rfl | assumption)) (by first | rfl | assumption)) rfl (eqr _ (by first | rfl | exact lpl (by assumption) | (simp [AV.plain, AV.plains, AV.cells, pc])))) rfl)), ?_⟩
    refine OkP.step ?_
    refine OkO.callE rfl rfl rfl rfl rfl (c20 (m + 2) cvF dvJ lvT rvT cs g ds t lvs rain _ (rF.ext (qJ.ext.trans (qP.ext.trans (qT.ext)))) (by omega) (rJ.ext (qP.ext.trans (qT.ext))) (by omega) lT (by omega) rT (by omega) hte) ?_ -- "sackung/water.Run"
    rintro vR HR ⟨v6R, v7R, rfl, qR, lsR, inR⟩
    have gR : Grow W HR := Grow.ret gT qR
    have nR : W.next + 1 ≤ HR.next := by have := qR.ext.next; first | omega | (simp only [hNw] at this; omega)
    have aR : (HR.get W.next).bind AObj.cs = some [cv, I g.slo, I g.shi, I g.klo, I g.khi, I g.melt] := by rw [qR.ext.get _ (by first | omega | (simp only [hNw]; omega))]; first | assumption | (simp (disch := first | omega | (simp only [hNw, hPt]; omega)) only [gn0, gn1, gn2, gn3, gn4, gn5, gp0, gno, gpo] <;> first | rfl | assumption)
    obtain ⟨vs, s1, s2, s3⟩ := id lsR
    have k6 : vs.length = ds.length := by rw [s2]; simp [rowsR]
    have l6 : lenOf v6R = some ds.length := by rw [s1.len]; simp [k6]
    have fa : (firstD (fun j => (levP cs g ds (highT g) (highL cs) (highR ds) (j + 1)).getD k 0) z ds.length) = -1 ∨ (0 ≤ (firstD (fun j => (levP cs g ds (highT g) (highL cs) (highR ds) (j + 1)).getD k 0) z ds.length) ∧ (firstD (fun j => (levP cs g ds (highT g) (highL cs) (highR ds) (j + 1)).getD k 0) z ds.length) < ds.length) := firstD_lt _
    have fb : (firstD (fun j => (levP cs g ds (lowT g) (lowL cs) (lowR ds) (j + 1)).getD k 0) z ds.length) = -1 ∨ (0 ≤ (firstD (fun j => (levP cs g ds (lowT g) (lowL cs) (lowR ds) (j + 1)).getD k 0) z ds.length) ∧ (firstD (fun j => (levP cs g ds (lowT g) (lowL cs) (lowR ds) (j + 1)).getD k 0) z ds.length) < ds.length) := firstD_lt _
    obtain ⟨bs, hbs⟩ : ∃ bs : List Int, bs = [(firstD (fun j => (levP cs g ds (highT g) (highL cs) (highR ds) (j + 1)).getD k 0) z ds.length), (firstD (fun j => (levP cs g ds (lowT g) (lowL cs) (lowR ds) (j + 1)).getD k 0) z ds.length), (firstD (fun j => (levP cs g ds (highT g) (highL cs) (highR ds) (j + 1)).getD k 0) (min 100000 (z + x)) ds.length), (firstD (fun j => (levP cs g ds (lowT g) (lowL cs) (lowR ds) (j + 1)).getD k 0) (min 100000 (z + x)) ds.length)] := ⟨_, rfl⟩
    have hb4 : bs.length = 4 := by rw [hbs]; rfl
    have hlh : ∀ j, j < ds.length → (levP cs g ds (lowT g) (lowL cs) (lowR ds) (j + 1)).getD k 0 ≤ (levP cs g ds (highT g) (highL cs) (highR ds) (j + 1)).getD k 0 := fun j hj => by have h2 := betw_lev hd0 (low_ok hd0) (j + 1) (by omega) k; exact Int.le_trans h2.1 h2.2
    have hlm : ∀ j, j < ds.length → (levP cs g ds (lowT g) (lowL cs) (lowR ds) (j + 1)).getD k 0 ≤ (levP cs g ds t lvs rain (j + 1)).getD k 0 := fun j hj => (betw_lev hd0 hte (j + 1) (by omega) k).1
    have hmh : ∀ j, j < ds.length → (levP cs g ds t lvs rain (j + 1)).getD k 0 ≤ (levP cs g ds (highT g) (highL cs) (highR ds) (j + 1)).getD k 0 := fun j hj => (betw_lev hd0 hte (j + 1) (by omega) k).2
    have hAB : fixD ds.length (firstD (fun j => (levP cs g ds (highT g) (highL cs) (highR ds) (j + 1)).getD k 0) z ds.length) ≤ fixD ds.length (firstD (fun j => (levP cs g ds (lowT g) (lowL cs) (lowR ds) (j + 1)).getD k 0) z ds.length) := fixD_le _ (fun j hj h => Int.le_trans h (hlh j hj))
    have hCA : fixD ds.length (firstD (fun j => (levP cs g ds (highT g) (highL cs) (highR ds) (j + 1)).getD k 0) z ds.length) ≤ fixD ds.length (firstD (fun j => (levP cs g ds (highT g) (highL cs) (highR ds) (j + 1)).getD k 0) (min 100000 (z + x)) ds.length) := fixD_le _ (fun j hj h => Int.le_trans (by omega) h)
    have hDB : fixD ds.length (firstD (fun j => (levP cs g ds (lowT g) (lowL cs) (lowR ds) (j + 1)).getD k 0) z ds.length) ≤ fixD ds.length (firstD (fun j => (levP cs g ds (lowT g) (lowL cs) (lowR ds) (j + 1)).getD k 0) (min 100000 (z + x)) ds.length) := fixD_le _ (fun j hj h => Int.le_trans (by omega) h)
    refine OkO.nil ⟨(sco (sld rfl rfl (ldg (n := 6) (by kernel_rfl) (by first | assumption | (simp (disch := first | omega | (simp only [hNw, hPt]; omega)) only [gn0, gn1, gn2, gn3, gn4, gn5, gp0, gno, gpo] <;> first | rfl | assumption)) (by first | rfl | assumption)) rfl (eqr _ (by first | rfl | exact lpl (by assumption) | (simp [AV.plain, AV.plains, AV.cells, pc])))) (sco (sld rfl rfl (ldg (n := 6) (by kernel_rfl) (by first | assumption | (simp (disch := first | omega | (simp only [hNw, hPt]; omega)) only [gn0, gn1, gn2, gn3, gn4, gn5, gp0, gno, gpo] <;> first | rfl | assumption)) (by first | rfl | assumption)) rfl (eqr _ (by first | rfl | exact lpl (by assumption) | (simp [AV.plain, AV.plains, AV.cells, pc])))) rfl)), ?_⟩
    refine OkP.step ?_
    refine OkO.move rfl rfl ?_
    refine OkO.nil ⟨rfl, ?_⟩
    refine OkP.step ?_
    refine OkO.extract rfl rfl rfl ?_
    refine OkO.nil ⟨rfl, ?_⟩
    refine OkP.step ?_
    refine OkO.extract rfl rfl rfl ?_
    refine OkO.nil ⟨rfl, ?_⟩
    refine OkP.step ?_
    refine OkO.extract rfl rfl rfl ?_
    refine OkO.nil ⟨rfl, ?_⟩
    refine OkP.step ?_
    refine OkO.extract rfl rfl rfl ?_
    refine OkO.nil ⟨rfl, ?_⟩
    refine OkP.step ?_
    refine OkO.assign rfl rfl ?_
    refine OkO.nil ⟨rfl, ?_⟩
    refine OkP.step ?_
    refine OkO.assign rfl rfl ?_
    refine OkO.nil ⟨rfl, ?_⟩
    refine OkP.step ?_
    refine OkO.assign rfl rfl ?_
    refine OkO.nil ⟨rfl, ?_⟩
    refine OkP.step ?_
    refine OkO.assign rfl rfl ?_
    refine OkO.nil ⟨rfl, ?_⟩
    refine OkP.nil ?_
    refine Ok.seq ?_
    refine Ok.seq ?_
    refine Ok.region ?_
    refine OkO.move rfl rfl ?_
    refine OkO.bin rfl rfl rfl (bin_neq _ _) ?_
    refine OkO.move rfl rfl ?_
    refine OkO.split (d := 85) rfl (fun g2 => ?_) (fun g2 => ?_)
    · -- true g2
      exact absurd g2 (by simp)
    · -- false g2
      refine OkO.move rfl rfl ?_
      refine OkO.bin rfl rfl rfl (bin_neq _ _) ?_
      refine OkO.pick (b := false) rfl rfl nofun (fun _ => rfl) ?_
      refine OkO.move rfl rfl ?_
      refine OkO.split (d := 89) rfl (fun g3 => ?_) (fun g3 => ?_)
      · -- true g3
        exact absurd g3 (by simp)
      · -- false g3
        refine OkO.move rfl rfl ?_
        refine OkO.bin rfl rfl rfl (bin_neq _ _) ?_
        refine OkO.pick (b := false) rfl rfl nofun (fun _ => rfl) ?_
        refine OkO.move rfl rfl ?_
        refine OkO.split (d := 93) rfl (fun g4 => ?_) (fun g4 => ?_)
        · -- true g4
          exact absurd g4 (by simp)
        · -- false g4
          refine OkO.move rfl rfl ?_
          refine OkO.builtin rfl rfl rfl (bln (by kernel_rfl) (by first | assumption | rfl)) ?_
          refine OkO.move rfl rfl ?_
          refine OkO.builtin rfl rfl rfl (bln (by kernel_rfl) (by first | assumption | rfl)) ?_
          refine OkO.bin rfl rfl rfl (bin_neq _ _) ?_
          refine OkO.pick (b := false) rfl rfl nofun (fun _ => rfl) ?_
          refine OkO.move rfl rfl ?_
          refine OkO.split (d := 100) rfl (fun g5 => ?_) (fun g5 => ?_)
          · -- true g5
            exact absurd g5 (by simp)
          · -- false g5
            refine OkO.move rfl rfl ?_
            refine OkO.bin rfl rfl rfl (bin_lss _ _) ?_
            refine OkO.pick (b := false) rfl rfl nofun (fun _ => rfl) ?_
            refine OkO.move rfl rfl ?_
            refine OkO.split (d := 104) rfl (fun g6 => ?_) (fun g6 => ?_)
            · -- true g6
              exact absurd (of_decide_eq_true g6) (by omega)
            · -- false g6
              refine OkO.move rfl rfl ?_
              refine OkO.bin rfl rfl rfl (bin_lss _ _) ?_
              refine OkO.pick (b := false) rfl rfl nofun (fun _ => rfl) ?_
              refine OkO.move rfl rfl ?_
              refine OkO.split (d := 108) rfl (fun g7 => ?_) (fun g7 => ?_)
              · -- true g7
                exact absurd (of_decide_eq_true g7) (by omega)
              · -- false g7
                refine OkO.move rfl rfl ?_
                refine OkO.move rfl rfl ?_
                refine OkO.builtin rfl rfl rfl (bln (by kernel_rfl) (by first | assumption | rfl)) ?_
                refine OkO.bin rfl rfl rfl (bin_geq _ _) ?_
                refine OkO.pick (b := false) rfl rfl nofun (fun _ => rfl) ?_
                refine OkO.move rfl rfl ?_
                refine OkO.split (d := 114) rfl (fun g8 => ?_) (fun g8 => ?_)
                · -- true g8
                  exact absurd (of_decide_eq_true g8) (by omega)
                · -- false g8
                  refine OkO.move rfl rfl ?_
                  refine OkO.move rfl rfl ?_
                  refine OkO.builtin rfl rfl rfl (bln (by kernel_rfl) (by first | assumption | rfl)) ?_
                  refine OkO.bin rfl rfl rfl (bin_geq _ _) ?_
                  refine OkO.pick (b := false) rfl rfl nofun (fun _ => rfl) ?_
                  refine OkO.nil ?_
                  refine Ok.cond rfl (fun h9 => ?_) (fun h9 => ?_)
                  · -- yes h9
                    exact absurd (of_decide_eq_true h9) (by omega)
                  · -- no h9
                    refine Ok.skip ?_
                    refine Ok.seq ?_
                    refine Ok.region ?_
                    refine OkO.move rfl rfl ?_
                    refine OkO.move rfl rfl ?_
                    refine OkO.move rfl rfl ?_
                    refine OkO.move rfl rfl ?_
                    refine OkO.buildArr (z := [.int .i64 0, .int .i64 0, .int .i64 0, .int .i64 0]) (sz := 1) rfl (by kernel_rfl) rfl rfl ?_
                    refine OkO.alloc (z := [.int .i64 0, .int .i64 0, .int .i64 0, .int .i64 0]) rfl (by kernel_rfl) ?_
                    refine OkO.store rfl rfl rfl (stc (n := 4) (ag := true) (by kernel_rfl) (by first | assumption | (simp (disch := first | omega | (simp only [hNw, hPt]; omega)) only [gn0, gn1, gn2, gn3, gn4, gn5, gp0, gno, gpo] <;> first | rfl | assumption)) rfl rfl (by first | rfl | exact spl_set _ _ _ (by first | assumption | (simp; omega)))) ?_
                    refine OkO.nil ?_
                    refine Ok.seq ?_
                    refine Ok.seq ?_
                    refine Ok.region ?_
                    refine OkO.assign rfl rfl ?_
                    refine OkO.nil ?_
                    refine Ok.block ?_
                    refine Ok.loop (fun n s => ∃ i : Nat, n = 4 - i ∧ i ≤ 4 ∧ Has 8 [(1, dv), (6, .ptr W.next 0), (13, I (y % (cs.length : Int))), (14, I z), (21, v6R), (25, .ptr HR.next 0), (26, I (i : Int))] s.T ∧ s.D = [] ∧ Grow W s.H ∧ Ext HR s.H ∧ s.H.get HR.next = some (.cells ((lateL ds.length bs i).map I) 94) ∧ HR.next + 1 ≤ s.H.next) (4) (by unfold loopFuel; omega)
                      ⟨0, rfl, Nat.zero_le _, Has.of (by kernel_rfl), rfl, (by (try dsimp only); repeat (first | (first | exact gR | exact hG) | apply Grow.new | (refine Grow.put ?_ _ (by first | omega | (simp only [hNw, hPt]; omega))))), ⟨by simp only [hNw, hPt]; omega, fun j hj => by (simp (disch := first | omega | (simp only [hNw, hPt]; omega)) only [gn0, gn1, gn2, gn3, gn4, gn5, gp0, gno, gpo])⟩, (by rw [hbs]; simp (disch := first | omega | (simp only [hNw, hPt]; omega)) only [gn0, gn1, gn2, gn3, gn4, gn5, gp0, gno, gpo] <;> first | rfl | assumption), by simp only [hNw, hPt]; omega⟩ ?_
                    rintro n ⟨T, D, G⟩ ⟨i, hn, hi, ⟨f, hT⟩, hD, hg, hx, f25, hb9⟩
                    dsimp only at *
                    subst hT hD
                    have hgn := hg.next
                    have e25 : (G.get HR.next).bind AObj.cs = some ((lateL ds.length bs i).map I) := by rw [f25]; rfl
                    have ea : (G.get W.next).bind AObj.cs = some [cv, I g.slo, I g.shi, I g.klo, I g.khi, I g.melt] := by rw [hx.get _ (by omega)]; exact aR
                    refine Ok.seq ?_
                    refine Ok.seq ?_
                    refine Ok.region ?_
                    refine OkO.move rfl rfl ?_
                    refine OkO.bin rfl rfl rfl (bin_lss _ _) ?_
                    refine OkO.nil ?_
                    refine Ok.cond rfl (fun h10 => ?_) (fun h10 => ?_)
                    · -- yes h10
                      have hlt : i < 4 := by have e9 := of_decide_eq_true h10; omega
                      have hbl : i < bs.length := by omega
                      have p25 : ((lateL ds.length bs i).map I)[0 + i * 1]? = some (I bs[i]) := by rw [Nat.zero_add, Nat.mul_one, List.getElem?_map, late_get hbl]; rfl
                      have sl9 : i < (lateL ds.length bs i).length := by rw [late_len]; exact hbl
                      refine Ok.skip ?_
                      refine Ok.seq ?_
                      refine Ok.block ?_
                      refine Ok.seq ?_
                      refine Ok.region ?_
                      refine OkO.move rfl rfl ?_
                      refine OkO.indexArr (len := 4) (sz := 1) (n := i) rfl rfl rfl (by kernel_rfl) (by omega) ?_
                      refine OkO.load rfl rfl (lda (n := 1) (by kernel_rfl) (by first | assumption | (simp (disch := first | omega | (simp only [hNw, hPt]; omega)) only [gn0, gn1, gn2, gn3, gn4, gn5, gp0, gno, gpo] <;> first | rfl | assumption)) (by first | rfl | assumption)) ?_
                      refine OkO.bin rfl rfl rfl (bin_lss _ _) ?_
                      refine OkO.nil ?_
                      refine Ok.cond rfl (fun h11 => ?_) (fun h11 => ?_)
                      · -- yes h11
                        have hneg : bs[i] < 0 := of_decide_eq_true h11
                        have hnx : (lateL ds.length bs i).set i (ds.length : Int) = lateL ds.length bs (i + 1) := by have e9 := late_set (D := ds.length) hbl; rw [show fixD ds.length bs[i] = (ds.length : Int) from if_pos hneg] at e9; exact e9
                        refine Ok.region ?_
                        refine OkO.move rfl rfl ?_
                        refine OkO.move rfl rfl ?_
                        refine OkO.builtin rfl rfl rfl (bln (by kernel_rfl) (by first | assumption | rfl)) ?_
                        refine OkO.indexArr (len := 4) (sz := 1) (n := i) rfl rfl rfl (by kernel_rfl) (by omega) ?_
                        refine OkO.store rfl rfl rfl (stc (n := 1) (ag := false) (by kernel_rfl) (by first | assumption | (simp (disch := first | omega | (simp only [hNw, hPt]; omega)) only [gn0, gn1, gn2, gn3, gn4, gn5, gp0, gno, gpo] <;> first | rfl | assumption)) rfl rfl (by first | rfl | exact spl_set _ _ _ (by first | assumption | (simp; omega)))) ?_
                        refine OkO.nil ?_
                        refine Ok.region ?_
                        refine OkO.move rfl rfl ?_
                        refine OkO.bin rfl rfl rfl (bin_add (by omega) (by omega)) ?_
                        refine OkO.assign rfl rfl ?_
                        refine OkO.nil ?_
                        refine ⟨4 - (i + 1), by omega, i + 1, rfl, hlt, Has.of (by kernel_rfl), rfl, (by (try dsimp only); repeat (first | (first | exact hg | exact hg) | apply Grow.new | (refine Grow.put ?_ _ (by first | omega | (simp only [hNw, hPt]; omega))))), ⟨by simp only [hNw, hPt]; omega, fun j hj => by (simp (disch := first | omega | (simp only [hNw, hPt]; omega)) only [gn0, gn1, gn2, gn3, gn4, gn5, gp0, gno, gpo]); exact hx.get j hj⟩, ?_, by simp only [hNw, hPt]; omega⟩
                        first | (rw [gp0, hnx]) | (rw [hnx]; exact f25)
                      · -- no h11
                        have hneg : ¬bs[i] < 0 := by simpa using h11
                        have hnx : lateL ds.length bs (i + 1) = lateL ds.length bs i := late_keep hbl hneg
                        refine Ok.skip ?_
                        refine Ok.region ?_
                        refine OkO.move rfl rfl ?_
                        refine OkO.bin rfl rfl rfl (bin_add (by omega) (by omega)) ?_
                        refine OkO.assign rfl rfl ?_
                        refine OkO.nil ?_
                        refine ⟨4 - (i + 1), by omega, i + 1, rfl, hlt, Has.of (by kernel_rfl), rfl, (by (try dsimp only); repeat (first | (first | exact hg | exact hg) | apply Grow.new | (refine Grow.put ?_ _ (by first | omega | (simp only [hNw, hPt]; omega))))), ⟨by simp only [hNw, hPt]; omega, fun j hj => by (simp (disch := first | omega | (simp only [hNw, hPt]; omega)) only [gn0, gn1, gn2, gn3, gn4, gn5, gp0, gno, gpo]); exact hx.get j hj⟩, ?_, by simp only [hNw, hPt]; omega⟩
                        first | (rw [gp0, hnx]) | (rw [hnx]; exact f25)
                    · -- no h10
                      have hge : i = 4 := by (have e9 : ¬((i : Int) < 4) := by simpa using h10); omega
                      subst hge
                      have e25f : (G.get HR.next).bind AObj.cs = some [I (fixD ds.length (firstD (fun j => (levP cs g ds (highT g) (highL cs) (highR ds) (j + 1)).getD k 0) z ds.length)), I (fixD ds.length (firstD (fun j => (levP cs g ds (lowT g) (lowL cs) (lowR ds) (j + 1)).getD k 0) z ds.length)), I (fixD ds.length (firstD (fun j => (levP cs g ds (highT g) (highL cs) (highR ds) (j + 1)).getD k 0) (min 100000 (z + x)) ds.length)), I (fixD ds.length (firstD (fun j => (levP cs g ds (lowT g) (lowL cs) (lowR ds) (j + 1)).getD k 0) (min 100000 (z + x)) ds.length))] := by rw [e25, hbs]; rfl
                      clear e25
                      obtain ⟨G1, hG1⟩ : ∃ G1, G1 = G := ⟨_, rfl⟩
                      subst hG1
                      refine Ok.exit ?_
                      refine Ok.seq ?_
                      refine Ok.seq ?_
                      refine Ok.region ?_
                      refine OkO.indexArr (len := 4) (sz := 1) (n := 0) rfl rfl rfl (by kernel_rfl) (by omega) ?_
                      refine OkO.load rfl rfl (lda (n := 1) (by kernel_rfl) (by first | assumption | (simp (disch := first | omega | (simp only [hNw, hPt]; omega)) only [gn0, gn1, gn2, gn3, gn4, gn5, gp0, gno, gpo] <;> first | rfl | assumption)) (by first | rfl | assumption)) ?_
                      refine OkO.indexArr (len := 4) (sz := 1) (n := 1) rfl rfl rfl (by kernel_rfl) (by omega) ?_
                      refine OkO.load rfl rfl (lda (n := 1) (by kernel_rfl) (by first | assumption | (simp (disch := first | omega | (simp only [hNw, hPt]; omega)) only [gn0, gn1, gn2, gn3, gn4, gn5, gp0, gno, gpo] <;> first | rfl | assumption)) (by first | rfl | assumption)) ?_
                      refine OkO.bin rfl rfl rfl (bin_gtr _ _) ?_
                      refine OkO.move rfl rfl ?_
                      refine OkO.split (d := 142) rfl (fun g12 => ?_) (fun g12 => ?_)
                      · -- true g12
                        exact absurd (of_decide_eq_true g12) (by omega)
                      · -- false g12
                        refine OkO.indexArr (len := 4) (sz := 1) (n := 2) rfl rfl rfl (by kernel_rfl) (by omega) ?_
                        refine OkO.load rfl rfl (lda (n := 1) (by kernel_rfl) (by first | assumption | (simp (disch := first | omega | (simp only [hNw, hPt]; omega)) only [gn0, gn1, gn2, gn3, gn4, gn5, gp0, gno, gpo] <;> first | rfl | assumption)) (by first | rfl | assumption)) ?_
                        refine OkO.indexArr (len := 4) (sz := 1) (n := 0) rfl rfl rfl (by kernel_rfl) (by omega) ?_
                        refine OkO.load rfl rfl (lda (n := 1) (by kernel_rfl) (by first | assumption | (simp (disch := first | omega | (simp only [hNw, hPt]; omega)) only [gn0, gn1, gn2, gn3, gn4, gn5, gp0, gno, gpo] <;> first | rfl | assumption)) (by first | rfl | assumption)) ?_
                        refine OkO.bin rfl rfl rfl (bin_lss _ _) ?_
                        refine OkO.pick (b := false) rfl rfl nofun (fun _ => rfl) ?_
                        refine OkO.move rfl rfl ?_
                        refine OkO.split (d := 149) rfl (fun g13 => ?_) (fun g13 => ?_)
                        · -- true g13
                          exact absurd (of_decide_eq_true g13) (by omega)
                        · -- false g13
                          refine OkO.indexArr (len := 4) (sz := 1) (n := 3) rfl rfl rfl (by kernel_rfl) (by omega) ?_
                          refine OkO.load rfl rfl (lda (n := 1) (by kernel_rfl) (by first | assumption | (simp (disch := first | omega | (simp only [hNw, hPt]; omega)) only [gn0, gn1, gn2, gn3, gn4, gn5, gp0, gno, gpo] <;> first | rfl | assumption)) (by first | rfl | assumption)) ?_
                          refine OkO.indexArr (len := 4) (sz := 1) (n := 1) rfl rfl rfl (by kernel_rfl) (by omega) ?_
                          refine OkO.load rfl rfl (lda (n := 1) (by kernel_rfl) (by first | assumption | (simp (disch := first | omega | (simp only [hNw, hPt]; omega)) only [gn0, gn1, gn2, gn3, gn4, gn5, gp0, gno, gpo] <;> first | rfl | assumption)) (by first | rfl | assumption)) ?_
                          refine OkO.bin rfl rfl rfl (bin_lss _ _) ?_
                          refine OkO.pick (b := false) rfl rfl nofun (fun _ => rfl) ?_
                          refine OkO.nil ?_
                          refine Ok.cond rfl (fun h14 => ?_) (fun h14 => ?_)
                          · -- yes h14
                            exact absurd (of_decide_eq_true h14) (by omega)
                          · -- no h14
                            refine Ok.skip ?_
                            refine Ok.seq ?_
                            refine Ok.region ?_
                            refine OkO.move rfl rfl ?_
                            refine OkO.builtin rfl rfl rfl (bln (by kernel_rfl) (by first | assumption | rfl)) ?_
                            refine OkO.assign rfl rfl ?_
                            refine OkO.nil ?_
                            refine Ok.seq ?_
                            refine Ok.seq ?_
                            refine Ok.region ?_
                            refine OkO.move rfl rfl ?_
                            refine OkO.builtin rfl rfl rfl (bln (by kernel_rfl) (by first | assumption | rfl)) ?_
                            refine OkO.bin rfl rfl rfl (bin_sub (by omega) (by omega)) ?_
                            refine OkO.assign rfl rfl ?_
                            refine OkO.nil ?_
                            refine Ok.block ?_
                            refine Ok.loop (fun n s => ∃ (q : Nat) (xx r : Int), n = q ∧ q ≤ ds.length ∧ xx = (q : Int) - 1 ∧ ((q : Int) ≤ r ∧ r ≤ ds.length ∧ (∀ i : Nat, q ≤ i → (i : Int) < r → (levP cs g ds t lvs rain (i + 1)).getD k 0 < z) ∧ ∀ i : Nat, (i : Int) = r → i < ds.length → z ≤ (levP cs g ds t lvs rain (i + 1)).getD k 0) ∧ G1 = s.H ∧ Has 8 [(1, dv), (6, .ptr W.next 0), (13, I (y % (cs.length : Int))), (14, I z), (21, v6R), (25, .ptr HR.next 0), (27, I r), (28, I xx)] s.T ∧ s.D = [] ∧ Grow W s.H) (ds.length) (by unfold loopFuel; omega)
                              ⟨ds.length, _, _, rfl, Nat.le_refl _, rfl, ⟨Int.le_refl _, Int.le_refl _, fun i h1 h2 => by omega, fun i h1 h2 => by omega⟩, rfl, Has.of (by kernel_rfl), rfl, hg⟩ ?_
                            rintro n ⟨T, D, G⟩ ⟨q, xx, r, hn2, hq, hxx, ⟨r1, r2, r3, r4⟩, hH, ⟨f2, hT⟩, hD, hg2⟩
                            dsimp only at *
                            subst hT hD
                            have hgn := hg.next
                            subst hH
                            refine Ok.seq ?_
                            refine Ok.seq ?_
                            refine Ok.region ?_
                            refine OkO.move rfl rfl ?_
                            refine OkO.bin rfl rfl rfl (bin_geq _ _) ?_
                            refine OkO.nil ?_
                            refine Ok.cond rfl (fun h15 => ?_) (fun h15 => ?_)
                            · -- yes h15
                              have hge : 0 ≤ xx := by have e9 := of_decide_eq_true h15; omega
                              have i1 : q - 1 < vs.length := by omega
                              obtain ⟨xb, xo, xcs, x1, x2, x3, x4⟩ := (s1.ext hx).at_ (q - 1) [vs[q - 1]] (by simp [i1])
                              have x5 := seg_one x3
                              have xr : Ints G1 vs[q - 1] ((levP cs g ds t lvs rain (q - 1 + 1)).take cs.length) := (s3 (q - 1) vs[q - 1] _ (List.getElem?_eq_getElem i1) (by rw [rowsR, List.getElem?_map, List.getElem?_range (by omega)]; rfl)).ext hx
                              have fz := lev_facts hF (q - 1 + 1) (by omega)
                              have lx : lenOf vs[q - 1] = some cs.length := by rw [xr.len]; simp; omega
                              obtain ⟨yb, yo, ycs, y1, y2, y3, y4⟩ := xr.at_ k [I ((levP cs g ds t lvs rain (q - 1 + 1)).getD k 0)] (by rw [List.getElem?_map, List.getElem?_take, if_pos hkl, List.getElem?_eq_getElem (by omega), getD_lt (by omega)]; rfl)
                              have y5 := seg_one y3
                              refine Ok.skip ?_
                              refine Ok.seq ?_
                              refine Ok.block ?_
                              refine Ok.seq ?_
                              refine Ok.seq ?_
                              refine Ok.drawn [(0, true, []), (1, true, []), (2, true, []), (3, true, []), (4, true, []), (5, true, []), (6, true, []), (7, true, []), (8, true, [])] (by kernel_rfl) ?_
                              refine OkP.step ?_
                              refine OkO.move rfl rfl ?_
                              refine OkO.nil ⟨rfl, ?_⟩
                              refine OkP.step ?_
                              refine OkO.move rfl rfl ?_
                              refine OkO.nil ⟨rfl, ?_⟩
                              refine OkP.step ?_
                              refine OkO.index (sz := 1) (n := (q - 1)) rfl rfl (congrArg (fun z => some (I z)) (by omega)) (by kernel_rfl) (by first | assumption | rfl | exact slAt_slice (by omega)) ?_ -- index ('Go.Operand.tmp', 165) ('Go.Operand.tmp', 166)
                              refine OkO.nil ⟨rfl, ?_⟩
                              refine OkP.step ?_
                              refine OkO.load rfl rfl (lda (n := 1) (by kernel_rfl) (by first | assumption | (simp (disch := first | omega | (simp only [hNw, hPt]; omega)) only [gn0, gn1, gn2, gn3, gn4, gn5, gp0, gno, gpo] <;> first | rfl | assumption)) (by first | rfl | assumption)) ?_
                              refine OkO.nil ⟨rfl, ?_⟩
                              refine OkP.step ?_
                              refine OkO.builtin rfl rfl rfl (bln (by kernel_rfl) (by first | assumption | rfl)) ?_
                              refine OkO.nil ⟨rfl, ?_⟩
                              refine OkP.step ?_
                              refine OkO.fieldAddr (o := 0) rfl (by kernel_rfl) rfl ?_
                              refine OkO.nil ⟨rfl, ?_⟩
                              refine OkP.step ?_
                              refine OkO.load rfl rfl (lda (n := 1) (by kernel_rfl) (by first | assumption | (simp (disch := first | omega | (simp only [hNw, hPt]; omega)) only [gn0, gn1, gn2, gn3, gn4, gn5, gp0, gno, gpo] <;> first | rfl | assumption)) (by first | rfl | assumption)) ?_
                              refine OkO.nil ⟨rfl, ?_⟩
                              refine OkP.step ?_
                              refine OkO.builtin rfl rfl rfl (bln (by kernel_rfl) (by first | assumption | rfl)) ?_
                              refine OkO.nil ⟨rfl, ?_⟩
                              refine OkP.step ?_
                              refine OkO.bin rfl rfl rfl (bin_neq _ _) ?_
                              refine OkO.nil ⟨rfl, ?_⟩
                              refine OkP.nil ?_
                              refine Ok.cond rfl (fun h16 => ?_) (fun h16 => ?_)
                              · -- yes h16
                                exact absurd h16 (by simp)
                              · -- no h16
                                refine Ok.skip ?_
                                refine Ok.seq ?_
                                refine Ok.region ?_
                                refine OkO.move rfl rfl ?_
                                refine OkO.move rfl rfl ?_
                                refine OkO.index (sz := 1) (n := (q - 1)) rfl rfl (congrArg (fun z => some (I z)) (by omega)) (by kernel_rfl) (by first | assumption | rfl | exact slAt_slice (by omega)) ?_ -- index ('Go.Operand.tmp', 174) ('Go.Operand.tmp', 175)
                                refine OkO.load rfl rfl (lda (n := 1) (by kernel_rfl) (by first | assumption | (simp (disch := first | omega | (simp only [hNw, hPt]; omega)) only [gn0, gn1, gn2, gn3, gn4, gn5, gp0, gno, gpo] <;> first | rfl | assumption)) (by first | rfl | assumption)) ?_
                                refine OkO.move rfl rfl ?_
                                refine OkO.index (sz := 1) (n := k) rfl rfl (congrArg (fun z => some (I z)) hkq) (by kernel_rfl) (by first | assumption | rfl | exact slAt_slice (by omega)) ?_ -- index ('Go.Operand.tmp', 177) ('Go.Operand.tmp', 178)
                                refine OkO.load rfl rfl (lda (n := 1) (by kernel_rfl) (by first | assumption | (simp (disch := first | omega | (simp only [hNw, hPt]; omega)) only [gn0, gn1, gn2, gn3, gn4, gn5, gp0, gno, gpo] <;> first | rfl | assumption)) (by first | rfl | assumption)) ?_
                                refine OkO.move rfl rfl ?_
                                refine OkO.bin rfl rfl rfl (bin_geq _ _) ?_
                                refine OkO.nil ?_
                                refine Ok.cond rfl (fun h17 => ?_) (fun h17 => ?_)
                                · -- yes h17
                                  have hz17 : z ≤ (levP cs g ds t lvs rain (q - 1 + 1)).getD k 0 := by (have e9 := of_decide_eq_true h17); omega
                                  have k4 : ∀ i : Nat, (i : Int) = xx → i < ds.length → z ≤ (levP cs g ds t lvs rain (i + 1)).getD k 0 := fun i h1 h2 => by rw [show i = q - 1 from by omega]; exact hz17
                                  have key : ((q - 1 : Nat) : Int) ≤ xx ∧ xx ≤ ds.length ∧ (∀ i : Nat, q - 1 ≤ i → (i : Int) < xx → (levP cs g ds t lvs rain (i + 1)).getD k 0 < z) ∧ ∀ i : Nat, (i : Int) = xx → i < ds.length → z ≤ (levP cs g ds t lvs rain (i + 1)).getD k 0 := ⟨by omega, by omega, fun i h1 h2 => by omega, k4⟩
                                  refine Ok.region ?_
                                  refine OkO.move rfl rfl ?_
                                  refine OkO.assign rfl rfl ?_
                                  refine OkO.nil ?_
                                  refine Ok.region ?_
                                  refine OkO.move rfl rfl ?_
                                  refine OkO.bin rfl rfl rfl (bin_sub (by omega) (by omega)) ?_
                                  refine OkO.assign rfl rfl ?_
                                  refine OkO.nil ?_
                                  first | exact ⟨q - 1, by omega, q - 1, xx - 1, xx, rfl, by omega, by omega, key, rfl, Has.of (by kernel_rfl), rfl, hg⟩ | exact ⟨q - 1, by omega, q - 1, xx - 1, r, rfl, by omega, by omega, key, rfl, Has.of (by kernel_rfl), rfl, hg⟩
                                · -- no h17
                                  have hz17 : (levP cs g ds t lvs rain (q - 1 + 1)).getD k 0 < z := by (have e9 : ¬(z ≤ (levP cs g ds t lvs rain (q - 1 + 1)).getD k 0) := by simpa using h17); omega
                                  have k3 : ∀ i : Nat, q - 1 ≤ i → (i : Int) < r → (levP cs g ds t lvs rain (i + 1)).getD k 0 < z := fun i h1 h2 => if e : i < q then (by rw [show i = q - 1 from by omega]; exact hz17) else r3 i (by omega) h2
                                  have key : ((q - 1 : Nat) : Int) ≤ r ∧ r ≤ ds.length ∧ (∀ i : Nat, q - 1 ≤ i → (i : Int) < r → (levP cs g ds t lvs rain (i + 1)).getD k 0 < z) ∧ ∀ i : Nat, (i : Int) = r → i < ds.length → z ≤ (levP cs g ds t lvs rain (i + 1)).getD k 0 := ⟨by omega, r2, k3, r4⟩
                                  refine Ok.skip ?_
                                  refine Ok.region ?_
                                  refine OkO.move rfl rfl ?_
                                  refine OkO.bin rfl rfl rfl (bin_sub (by omega) (by omega)) ?_
                                  refine OkO.assign rfl rfl ?_
                                  refine OkO.nil ?_
                                  first | exact ⟨q - 1, by omega, q - 1, xx - 1, xx, rfl, by omega, by omega, key, rfl, Has.of (by kernel_rfl), rfl, hg⟩ | exact ⟨q - 1, by omega, q - 1, xx - 1, r, rfl, by omega, by omega, key, rfl, Has.of (by kernel_rfl), rfl, hg⟩
                            · -- no h15
                              have hq0 : q = 0 := by (have e9 : ¬(0 ≤ xx) := by simpa using h15); omega
                              subst hq0
                              have hLO : fixD ds.length (firstD (fun j => (levP cs g ds (highT g) (highL cs) (highR ds) (j + 1)).getD k 0) z ds.length) ≤ r := fixD_to (f := (fun j => (levP cs g ds t lvs rain (j + 1)).getD k 0)) ds.length (by omega) r2 r4 hmh
                              have hUP : r ≤ fixD ds.length (firstD (fun j => (levP cs g ds (lowT g) (lowL cs) (lowR ds) (j + 1)).getD k 0) z ds.length) := to_fixD (f := (fun j => (levP cs g ds t lvs rain (j + 1)).getD k 0)) ds.length r2 (fun i h => r3 i (Nat.zero_le _) h) hlm
                              refine Ok.exit ?_
                              refine Ok.seq ?_
                              refine Ok.region ?_
                              refine OkO.move rfl rfl ?_
                              refine OkO.indexArr (len := 4) (sz := 1) (n := 0) rfl rfl rfl (by kernel_rfl) (by omega) ?_
                              refine OkO.load rfl rfl (lda (n := 1) (by kernel_rfl) (by first | assumption | (simp (disch := first | omega | (simp only [hNw, hPt]; omega)) only [gn0, gn1, gn2, gn3, gn4, gn5, gp0, gno, gpo] <;> first | rfl | assumption)) (by first | rfl | assumption)) ?_
                              refine OkO.bin rfl rfl rfl (bin_geq _ _) ?_
                              refine OkO.move rfl rfl ?_
                              refine OkO.split (d := 188) rfl (fun g18 => ?_) (fun g18 => ?_)
                              · -- true g18
                                refine OkO.move rfl rfl ?_
                                refine OkO.indexArr (len := 4) (sz := 1) (n := 1) rfl rfl rfl (by kernel_rfl) (by omega) ?_
                                refine OkO.load rfl rfl (lda (n := 1) (by kernel_rfl) (by first | assumption | (simp (disch := first | omega | (simp only [hNw, hPt]; omega)) only [gn0, gn1, gn2, gn3, gn4, gn5, gp0, gno, gpo] <;> first | rfl | assumption)) (by first | rfl | assumption)) ?_
                                refine OkO.bin rfl rfl rfl (bin_leq _ _) ?_
                                refine OkO.pick (b := true) rfl rfl (fun _ => rfl) nofun ?_
                                refine OkO.move rfl rfl ?_
                                refine OkO.split (d := 194) rfl (fun g19 => ?_) (fun g19 => ?_)
                                · -- true g19
                                  refine OkO.callV rfl rfl rfl rfl rfl (rfl) ?_ -- "sackung/sackunglaw02.wakes"
                                  refine OkO.pick (b := true) rfl rfl (fun _ => rfl) nofun ?_
                                  refine OkO.assign rfl rfl ?_
                                  refine OkO.nil ?_
                                  refine Ok.ret ⟨.inr rfl, ?_⟩
                                  exact back_flat rfl (congrArg AV.bool rfl) rfl (by rw [← hW]; exact hg)
                                · -- false g19
                                  exact absurd (of_decide_eq_false g19) (by omega)
                              · -- false g18
                                exact absurd (of_decide_eq_false g18) (by omega)
theorem c12 (m : Nat) (cv dv wv : AV) (cs : List Cell) (g : Gr) (ds : List Day) (ws : List Int) (y z x : Int) (H : Heap) (hR : Row H cv 7 (cs.map Cell.c)) (hY : Row H dv 3 (ds.map Day.c)) (hWs : Row H wv 1 (ws.map fun w => [U w])) (hws : Upto 65535 ws) (hy : 0 ≤ y ∧ y ≤ 255) (hz : 0 ≤ z ∧ z ≤ 65535) (hx9 : 0 ≤ x ∧ x ≤ 65535) : RR (m + 11) (.fn 12 [.agg [cv, I g.slo, I g.shi, I g.klo, I g.khi, I g.melt], dv, wv, .int .u8 y, .int .u16 z, .int .u16 x]) H = some (.bool true, H) := by
  cases h : readyB cs g ds with
  | false => exact c12W m cv dv wv cs g ds ws y z x H hR hY hWs hws hy hz hx9 h
  | true => exact c12K m cv dv wv cs g ds ws y z x H hR hY hWs hws hy hz hx9 h
end
end Go.Ev
