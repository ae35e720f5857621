/-
  What texts of several seats share: arrays that are built, slices of one's own, blocks that stay.
-/
import Derived.Test.YthcjhfddoaccnaaEvM
import Derived.Test.YthcjhfddoaccnaaEvY
import Derived.KernelRfl
set_option maxRecDepth 100000
set_option linter.unusedSimpArgs false
set_option linter.unusedVariables false
namespace Go.Ev
open Go
noncomputable section
theorem evBuild_arr {P : Program} {T : Tr AV} {H : Heap} {t : TypeId} {ps : Array (Nat × Operand)} {z : List AV} {sz : Nat} {vs : List (Nat × AV)} {cs : List AV} (hb : buildOf P t = some (z, .inr sz)) (hp : parts T ps.toList = some vs) (hc : fillS (fun i => some (i * sz, sz)) z vs = some cs) :
    evBuild P T H t ps = some (.val (.agg cs) H) := by
  unfold buildOf at hb
  unfold evBuild
  rw [hp]
  split at hb
  · rename_i e; rw [e]
    dsimp only
    split at hb
    · simp at hb
    · rename_i e1 e2; rw [e1, e2]
      simp only [Option.map_eq_some_iff, Prod.mk.injEq, Sum.inr.injEq] at hb
      obtain ⟨ei, h1, rfl, rfl⟩ := hb
      dsimp only
      rw [h1]
      dsimp only
      rw [hc]; rfl
    · cases hb
  · cases hb
theorem OkO.buildArr {P : Program} {rec : Rec} {ops : Array Oper} {d : Option Tmp} {t : TypeId} {ps : String} {e : Array Edge} {g : Option (Nat × Bool)} {l : List Oper} {T : Tr AV} {H : Heap} {K : Tr AV → Heap → Prop} {ty : TypeId} {pa : Array (Nat × Operand)} {z : List AV} {sz : Nat} {vs : List (Nat × AV)} {cs : List AV} (hg : wantedA ops g T = some true) (hb : buildOf P ty = some (z, .inr sz)) (hp : parts T pa.toList = some vs) (hc : fillS (fun i => some (i * sz, sz)) z vs = some cs) (h : OkO P rec ops l (putD T d (.agg cs)) H K) : OkO P rec ops (⟨d, .build ty pa, t, ps, e, g⟩ :: l) T H K :=
  OkO.val hg (show evBuild P T H ty pa = _ from evBuild_arr hb hp hc) h
theorem Mine.lt {k0 : Nat} {G : Heap} {v : AV} {e : TypeId} {sz : Nat} {cs : List AV} (h : Mine k0 G v e sz cs) {b m : Nat} (hv : v = .opn b m) : b < G.next := by
  rcases h with ⟨h, _⟩ | ⟨b', m', h1, _, _, _, h5⟩
  · rw [h] at hv; cases hv
  · rw [h1] at hv; cases hv; exact h5
theorem Mine.put {k0 : Nat} {G : Heap} {v : AV} {e : TypeId} {sz : Nat} {cs : List AV} (h : Mine k0 G v e sz cs) {n : Nat} (o : AObj) (hn : n < k0) : Mine k0 (G.put n o) v e sz cs := by
  rcases h with h | ⟨b, m, h1, h2, h3, h4, h5⟩
  · exact .inl h
  · exact .inr ⟨b, m, h1, by rw [gpo _ _ _ _ (by omega)]; exact h2, h3, h4, by simpa using h5⟩
theorem Mine.low {k0 k1 : Nat} {G : Heap} {v : AV} {e : TypeId} {sz : Nat} {cs : List AV} (h : Mine k1 G v e sz cs) (hk : k0 ≤ k1) : Mine k0 G v e sz cs := by
  rcases h with h | ⟨b, n, a1, a2, a3, a4, a5⟩
  · exact .inl h
  · exact .inr ⟨b, n, a1, a2, a3, by omega, a5⟩
theorem Mine.backT {H G H' : Heap} {v V : AV} {e : TypeId} {sz : Nat} {cs : List AV} (hm : Mine H.next G v e sz cs) (r : (H' = H ∧ V.flat = true) ∨ ((∀ n, H'.get n = G.get n) ∧ H'.next = G.next)) (hv : V.flat = true → v.flat = true) : Mine H.next H' v e sz cs := by
  rcases hm with h | ⟨b, n, a1, a2, a3, a4, a5⟩
  · exact .inl h
  · rcases r with ⟨_, hf⟩ | ⟨p2, p3⟩
    · have := hv hf
      rw [a1] at this
      cases this
    · exact .inr ⟨b, n, a1, by rw [p2 b]; exact a2, a3, a4, by rw [p3]; exact a5⟩
theorem Mine.off {k0 : Nat} {G G' : Heap} {x v : AV} {e e' : TypeId} {sz sz' : Nat} {cs cs' : List AV} (h : Mine 0 G x e sz cs) (hv : Mine k0 G v e' sz' cs') (hne : sz ≠ sz') (hn : G.next ≤ G'.next) (hg : ∀ j, j < G.next → (∀ m, v ≠ .opn j m) → G'.get j = G.get j) : Mine 0 G' x e sz cs := by
  rcases h with h | ⟨b, n, a1, a2, a3, a4, a5⟩
  · exact .inl h
  · refine .inr ⟨b, n, a1, ?_, a3, a4, by omega⟩
    rw [hg b a5 ?_]
    · exact a2
    · intro m hm
      rcases hv with ⟨h, _⟩ | ⟨b2, n2, c1, c2, _⟩
      · rw [h] at hm; cases hm
      · rw [c1] at hm
        cases hm
        rw [a2] at c2
        cases c2
        exact hne rfl
theorem Mine.far {k0 : Nat} {G : Heap} {v : AV} {e : TypeId} {sz : Nat} {cs : List AV} (h : Mine k0 G v e sz cs) {j : Nat} (hj : j < k0) : ∀ m, v ≠ .opn j m := fun m hm => by
  rcases h with ⟨h, _⟩ | ⟨b, n, h, _, _, h4, _⟩
  · rw [h] at hm; cases hm
  · rw [h] at hm; cases hm; omega
theorem Mine.ne {k0 : Nat} {G : Heap} {v : AV} {e : TypeId} {sz : Nat} {cs : List AV} (h : Mine k0 G v e sz cs) {j : Nat} {o : AObj} (hj : G.get j = some o) (ho : ∀ a b c, o ≠ .opn a b c) : ∀ m, v ≠ .opn j m := fun m hm => by
  rcases h with ⟨h, _⟩ | ⟨b, n, h, h2, _⟩
  · rw [h] at hm; cases hm
  · rw [h] at hm; cases hm
    rw [hj] at h2
    cases h2
    exact ho _ _ _ rfl
theorem Mine.putO {k0 : Nat} {G : Heap} {v : AV} {e : TypeId} {sz : Nat} {cs : List AV} (h : Mine k0 G v e sz cs) {j : Nat} {o : AObj} (o' : AObj) (hj : G.get j = some o) (ho : ∀ a b c, o ≠ .opn a b c) : Mine k0 (G.put j o') v e sz cs := by
  have hne := h.ne hj ho
  rcases h with h | ⟨b, n, h, h2, h3, h4, h5⟩
  · exact .inl h
  · refine .inr ⟨b, n, h, ?_, h3, h4, h5⟩
    rw [gpo _ _ _ _ (fun e => hne n (by rw [h, e]))]
    exact h2
theorem Row.keep {H G : Heap} {v : AV} {sz : Nat} {l : List (List AV)} (h : Row H v sz l) (hn : H.next ≤ G.next) (hg : ∀ j, j < H.next → G.get j = H.get j) : Row G v sz l := h.ext ⟨hn, hg⟩
theorem spl_one {cs : List AV} {off : Nat} {x : AV} (h : off < cs.length) : spl cs off [x] = some (cs.set off x) := by
  have e : spl cs off [x] = (match Nat.ble (off + 1) cs.length with
    | true => some (cs.take off ++ ([x] ++ cs.drop (off + 1)))
    | false => none) := rfl
  rw [e, Nat.ble_eq_true_of_le (by omega)]
  simp only
  rw [List.set_eq_take_append_cons_drop, if_pos h]
  rfl
theorem Row.atom {H : Heap} {v : AV} {sz : Nat} {l : List (List AV)} (h : Row H v sz l) (hl : 0 < l.length) : v.atom = true := by
  obtain ⟨b, off, cs, h1, _⟩ := h.at_ 0 l[0] (by simp [hl])
  cases v <;> first | rfl | (simp [slAt] at h1)
theorem Mine.keep {k0 : Nat} {G G' : Heap} {v w : AV} {e : TypeId} {sz : Nat} {cs : List AV} (h : Mine k0 G v e sz cs) (hk : ∀ j, j < G.next → (∀ m, w ≠ .opn j m) → G'.get j = G.get j) (hsep : ∀ b m m', v = .opn b m → w ≠ .opn b m') (hn : G.next ≤ G'.next) : Mine k0 G' v e sz cs := by
  rcases h with h | ⟨b, m, h1, h2, h3, h4, h5⟩
  · exact .inl h
  · exact .inr ⟨b, m, h1, by rw [hk b h5 (fun m' => hsep b m m' h1)]; exact h2, h3, h4, Nat.lt_of_lt_of_le h5 hn⟩
theorem seg_sub {cs l : List AV} {off n : Nat} (h : seg cs off n = some l) (k m : Nat) (hk : k + m ≤ n) (hm : 0 < m) : seg cs (off + k) m = some ((l.drop k).take m) := by
  rcases seg_spec h with ⟨rfl, hle⟩ | ⟨rfl, _⟩
  · have e : ((cs.drop off).take n).drop k = (cs.drop (off + k)).take (n - k) := by rw [List.drop_take, List.drop_drop]
    rw [e, List.take_take, Nat.min_eq_left (by omega)]
    have e2 : Nat.beq ((cs.drop (off + k)).take m).length m = true := by simp; omega
    unfold seg
    dsimp only
    rw [e2]
  · omega
/-- A slice that came in, cut short. -/
theorem slice_to {H : Heap} {v : AV} {sz : Nat} {rows : List (List AV)} (hv : (∃ b off len cap, v = .slice b off len cap ∧ len ≤ cap) ∨ v = .nils ∨ ∃ a c, v = .raw (.slice a 0 c)) (hr : Row H v sz rows) {k : Nat} (hk : k ≤ rows.length) :
    ∃ v', (∀ G, sliceOf G sz v none (some (.int .i64 (k : Int))) = some v') ∧ Row H v' sz (rows.take k) := by
  rcases hv with ⟨b, off, len, cap, rfl, h1⟩ | rfl | ⟨a, c, rfl⟩
  · have hl : len = rows.length := by have := hr.len; simpa [lenOf] using this
    have key : ∀ off' cap', off' = off → Row H (.slice b off' k cap') sz (rows.take k) := fun off' cap' ho => by
      subst ho
      refine ⟨by simp [lenOf]; omega, fun i x q => ?_⟩
      have hi : i < k := by have := (List.getElem?_eq_some_iff.1 q).1; simp at this; omega
      rw [List.getElem?_take, if_pos hi] at q
      obtain ⟨b', off', cs, g1, g2, g3, g4⟩ := hr.at_ i x q
      simp only [slAt] at g1 ⊢
      rw [if_pos (by omega)] at g1
      rw [if_pos hi]
      exact ⟨b', off', cs, g1, g2, g3, g4⟩
    have e1 : ∀ G, sliceOf G sz (.slice b off len cap) none (some (.int .i64 (k : Int))) = (match Nat.ble 0 k, Nat.ble k cap, Nat.beq cap 0 with
      | true, true, true => some (.slice b off (k - 0) (cap - 0))
      | true, true, false => some (.slice b (off + 0 * sz) (k - 0) (cap - 0))
      | _, _, _ => none) := fun G => rfl
    cases hq : Nat.beq cap 0 with
    | true => exact ⟨.slice b off k cap, fun G => by rw [e1, Nat.ble_eq_true_of_le (Nat.zero_le k), Nat.ble_eq_true_of_le (show k ≤ cap by omega), hq]; rfl, key off cap rfl⟩
    | false => exact ⟨.slice b (off + 0 * sz) k cap, fun G => by rw [e1, Nat.ble_eq_true_of_le (Nat.zero_le k), Nat.ble_eq_true_of_le (show k ≤ cap by omega), hq]; rfl, key _ cap (by omega)⟩
  · have hl : rows = [] := by
      have := hr.len
      cases rows with
      | nil => rfl
      | cons a b => simp [lenOf] at this
    subst hl
    obtain rfl : k = 0 := by simpa using hk
    exact ⟨.nils, fun G => rfl, hr⟩
  · have hl : rows = [] := by
      have := hr.len
      cases rows with
      | nil => rfl
      | cons a b => simp [lenOf] at this
    subst hl
    obtain rfl : k = 0 := by simpa using hk
    exact ⟨_, fun G => rfl, ⟨rfl, fun i x q => by simp at q⟩⟩
/-- Whatever has a length stands in one cell. -/
theorem len_one {v : AV} {n : Nat} (h : lenOf v = some n) : v.cells = [v] ∧ v.atom = true := by
  cases v with
  | raw v => cases v <;> first | exact ⟨rfl, rfl⟩ | cases h
  | _ => first | exact ⟨rfl, rfl⟩ | cases h
theorem Mine.offE {k k0 : Nat} {G G' : Heap} {x v : AV} {e e' : TypeId} {sz sz' : Nat} {cs cs' : List AV} (h : Mine k G x e sz cs) (hv : Mine k0 G v e' sz' cs') (hne : e ≠ e' ∨ sz ≠ sz') (hn : G.next ≤ G'.next) (hg : ∀ j, j < G.next → (∀ m, v ≠ .opn j m) → G'.get j = G.get j) : Mine k G' x e sz cs := by
  rcases h with h | ⟨b, n, a1, a2, a3, a4, a5⟩
  · exact .inl h
  · refine .inr ⟨b, n, a1, ?_, a3, a4, by omega⟩
    rw [hg b a5 ?_]
    · exact a2
    · intro m hm
      rcases hv with ⟨h, _⟩ | ⟨b2, n2, c1, c2, _⟩
      · rw [h] at hm; cases hm
      · rw [c1] at hm
        cases hm
        rw [a2] at c2
        cases c2
        exact hne.elim (fun h => h rfl) (fun h => h rfl)
section
variable {P : Program} {rec : Rec} {ro : Option Nat}
theorem Ok.rangeR {g : Operand} {ps : Array Tmp} {as bd : Code} {T : Tr AV} {D : List Nat} {H : Heap} {Q : Ex → St → Prop} {gv : AV} {f : FuncId} {args : List AV} (hg : opd T g = some gv) (hc : callV gv [.yield (H.next + 1)] = some (.fn f args))
    (hr : ∀ T0, T0 = T → ∃ v H3, rec (.fn f args) ((H.new .defd).new (.loop .ready none T0 ps.toList as bd H.next)) = some (v, H3) ∧ ∃ st pd T2 ps2 as2 bd2 d2, H3.get (H.next + 1) = some (.loop st pd T2 ps2 as2 bd2 d2) ∧
      ((st = .ready ∧ pd = none ∧ Q .norm ⟨T, H.next :: D, (H3.put (H.next + 1) (.loop .exhausted none T2 ps2 as2 bd2 d2)).put (H.next + 1) .dead⟩) ∨
       (∃ id, st = .done ∧ pd = some (.exit id) ∧ Q (.exit id) ⟨T, H.next :: D, (H3.put (H.next + 1) (.loop .exhausted (some (.exit id)) T2 ps2 as2 bd2 d2)).put (H.next + 1) .dead⟩) ∨
       (st = .done ∧ pd = some .ret ∧ Q .ret ⟨T, H.next :: D, (H3.put (H.next + 1) (.loop .exhausted (some .ret) T2 ps2 as2 bd2 d2)).put (H.next + 1) .dead⟩))) : Ok P rec none (.rangeFunc g ps as bd) ⟨T, D, H⟩ Q := by
  obtain ⟨v, H3, h1, st, pd, T2, ps2, as2, bd2, d2, h2, h3⟩ := hr T rfl
  have e : (H.new .defd).next = H.next + 1 := by simp
  have key : evCode P rec none (.rangeFunc g ps as bd) ⟨T, D, H⟩ = rangeEnd ⟨T, D, H⟩ [H.next] (H.next + 1) H3 := by
    show evRange rec none g ps as bd ⟨T, D, H⟩ = _
    unfold evRange
    dsimp only
    rw [hg]
    show rangeGo rec ps as bd ⟨T, D, H⟩ gv H.next (H.new .defd) [H.next] = _
    unfold rangeGo
    rw [e, hc]
    dsimp only
    rw [h1]
  unfold rangeEnd at key
  rw [h2] at key
  rcases h3 with ⟨rfl, rfl, h3⟩ | ⟨id, rfl, rfl, h3⟩ | ⟨rfl, rfl, h3⟩
  · exact ⟨_, _, key, h3⟩
  · exact ⟨_, _, key, h3⟩
  · exact ⟨_, _, key, h3⟩

/-- A round that comes to its end, or leaves the loop. -/
theorem round_okR {l : Nat} {args : List AV} {H : Heap} {st : LoopState} {pd : Option Code} {T T' : Tr AV} {ps : List Tmp} {as bd : Code} {d : Nat} {S : AV → Heap → Prop} (hl : H.get l = some (.loop st pd T ps as bd d)) (hp : setPs T ps args = some T')
    (h : Ok P rec (some l) as ⟨T', [], H⟩ fun x s1 => x = .norm ∧ ∃ pd T2 ps2 as2 bd2 d2, s1.H.get l = some (.loop .ready pd T2 ps2 as2 bd2 d2) ∧ Ok P rec (some l) bd ⟨s1.T, s1.D, s1.H.put l (.loop .busy pd T2 ps2 as2 bd2 d2)⟩ fun x s2 =>
      ∃ st3 pd3 T3 ps3 as3 bd3 d3, s2.H.get l = some (.loop st3 pd3 T3 ps3 as3 bd3 d3) ∧ ((x = .norm ∧ S (.bool true) (s2.H.put l (.loop .ready none T3 ps3 as3 bd3 d3))) ∨ (∃ id, x = .exit id ∧ S (.bool false) (s2.H.put l (.loop .done (some (.exit id)) T3 ps3 as3 bd3 d3))) ∨ (x = .ret ∧ S (.bool false) (s2.H.put l (.loop .done (some .ret) T3 ps3 as3 bd3 d3))))) :
    ∃ v H', evRound P rec l args H = some (v, H') ∧ S v H' := by
  obtain ⟨x, s1, h1, rfl, pd2, T2, ps2, as2, bd2, d2, h2, x, s2, h3, st3, pd3, T3, ps3, as3, bd3, d3, h4, h5⟩ := h
  have key : evRound P rec l args H = (match evCode P rec (some l) bd { s1 with H := s1.H.put l (.loop .busy pd2 T2 ps2 as2 bd2 d2) } with
          | some (.norm, s2) => endR s2.H l none
          | some (.ret, s2) => endR s2.H l (some .ret)
          | some (.exit id, s2) => endR s2.H l (some (.exit id))
          | none => none) := by
    unfold evRound
    rw [hl]
    dsimp only
    rw [hp]
    dsimp only
    rw [h1]
    dsimp only
    rw [h2]
    rfl
  rw [h3] at key
  rcases h5 with ⟨rfl, h5⟩ | ⟨id, rfl, h5⟩ | ⟨rfl, h5⟩
  · refine ⟨_, _, ?_, h5⟩
    rw [key]
    dsimp only
    unfold endR
    rw [h4]
    rfl
  · refine ⟨_, _, ?_, h5⟩
    rw [key]
    dsimp only
    unfold endR
    rw [h4]
    rfl
  · refine ⟨_, _, ?_, h5⟩
    rw [key]
    dsimp only
    unfold endR
    rw [h4]
    rfl
end
theorem back_any {P : Program} {fn : Func} {H : Heap} {T : Tr AV} {G : Heap} {vs : List AV} {v : AV} (hr : resV P T G fn.results.toList = some vs) (hv : resOf vs = v) :
    ∃ H', evBack P fn H ⟨T, [], G⟩ = some (v, H') ∧ ((H' = H ∧ H.next ≤ G.lo) ∨ ((∀ n, H'.get n = G.get n) ∧ H'.next = G.next ∧ ∀ k, k ≤ H.lo → k ≤ G.lo → k ≤ H'.lo)) := by
  have e : evBack P fn H ⟨T, [], G⟩ = some (leave H v G) := by
    unfold evBack
    show (match some G with | some H' => (match resV P T H' fn.results.toList with | some vs => some (leave H (resOf vs) H') | none => none) | none => none) = _
    dsimp only
    rw [hr]
    dsimp only
    rw [hv]
  have hk : ∀ k, k ≤ H.lo → k ≤ G.lo → k ≤ @Bool.rec (fun _ => Nat) G.lo H.lo (Nat.ble H.lo G.lo) := fun k h1 h2 => by
    cases Nat.ble H.lo G.lo with
    | true => exact h1
    | false => exact h2
  unfold leave at e
  cases hb : Nat.ble H.next G.lo with
  | false => rw [hb] at e; exact ⟨_, e, .inr ⟨fun _ => rfl, rfl, hk⟩⟩
  | true =>
    cases hf : v.flat with
    | true => rw [hb, hf] at e; exact ⟨_, e, .inl ⟨rfl, Nat.le_of_ble_eq_true hb⟩⟩
    | false => rw [hb, hf] at e; exact ⟨_, e, .inr ⟨fun _ => rfl, rfl, hk⟩⟩
theorem back_any2 {P : Program} {fn : Func} {H : Heap} {T : Tr AV} {G : Heap} {vs : List AV} {v : AV} (hr : resV P T G fn.results.toList = some vs) (hv : resOf vs = v) (hlo : G.lo < H.next) :
    ∃ H', evBack P fn H ⟨T, [], G⟩ = some (v, H') ∧ (∀ n, H'.get n = G.get n) ∧ H'.next = G.next ∧ (∀ k, k ≤ H.lo → k ≤ G.lo → k ≤ H'.lo) ∧ H'.lo ≤ G.lo := by
  have e : evBack P fn H ⟨T, [], G⟩ = some (leave H v G) := by
    unfold evBack
    show (match some G with | some H' => (match resV P T H' fn.results.toList with | some vs => some (leave H (resOf vs) H') | none => none) | none => none) = _
    dsimp only
    rw [hr]
    dsimp only
    rw [hv]
  have hk : ∀ k, k ≤ H.lo → k ≤ G.lo → k ≤ @Bool.rec (fun _ => Nat) G.lo H.lo (Nat.ble H.lo G.lo) := fun k h1 h2 => by
    cases Nat.ble H.lo G.lo with
    | true => exact h1
    | false => exact h2
  have hk2 : @Bool.rec (fun _ => Nat) G.lo H.lo (Nat.ble H.lo G.lo) ≤ G.lo := by
    cases hb : Nat.ble H.lo G.lo with
    | true => exact Nat.le_of_ble_eq_true hb
    | false => exact Nat.le_refl _
  unfold leave at e
  rw [show Nat.ble H.next G.lo = false from by cases hb : Nat.ble H.next G.lo with | false => rfl | true => (have := Nat.le_of_ble_eq_true hb; omega)] at e
  exact ⟨_, e, fun _ => rfl, rfl, hk, hk2⟩
end
end Go.Ev

