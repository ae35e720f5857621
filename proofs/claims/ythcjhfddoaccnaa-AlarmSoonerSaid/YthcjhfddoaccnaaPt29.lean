/-
  Functions of the program, reckoned by the evaluator: what each answers, and that it leaves what came in as it was.
-/
import Derived.Test.YthcjhfddoaccnaaPt28
import Derived.Test.YthcjhfddoaccnaaPt27
set_option maxRecDepth 100000
set_option linter.unusedSimpArgs false
set_option linter.unusedVariables false
namespace Go.Ev
open Go Go.Proofs
noncomputable section
/-- A list of lists that was made. -/
def RowsM (k0 : Nat) (G : Heap) (v : AV) (rows : List (List Int)) : Prop := ∃ vs : List AV, vs.length = rows.length ∧ Mine k0 G v 22 1 vs ∧ ∀ (i : Nat) (x : AV) (r : List Int), vs[i]? = some x → rows[i]? = some r → Mine k0 G x 3 1 (r.map I)
theorem flat_one : ∀ vs : List AV, (vs.map fun x => [x]).flatten = vs
  | [] => rfl
  | a :: l => by rw [List.map_cons, List.flatten_cons, flat_one l]; rfl
theorem RowsM.at {k0 : Nat} {G : Heap} {v : AV} {rows : List (List Int)} (h : RowsM k0 G v rows) : LstAt G v rows := by
  obtain ⟨vs, h1, h2, h3⟩ := h
  exact ⟨vs, h1, Mine.row (e := 22) (by rw [flat_one]; exact h2) (fun x hx => by obtain ⟨y, _, rfl⟩ := List.mem_map.1 hx; rfl) (by omega), fun i x r a c => (h3 i x r a c).ints⟩
theorem RowsM.nil (k0 : Nat) (G : Heap) : RowsM k0 G .nils [] := ⟨[], rfl, Mine.nil _ _ _ _, fun i x s h _ => by simp at h⟩
theorem RowsM.to {k0 : Nat} {G G' : Heap} {v : AV} {rows : List (List Int)} (h : RowsM k0 G v rows) (e : Ext G G') : RowsM k0 G' v rows := by
  obtain ⟨vs, h1, h2, h3⟩ := h
  exact ⟨vs, h1, h2.to e, fun i x r a c => (h3 i x r a c).to e⟩
theorem RowsM.low {k0 k1 : Nat} {G : Heap} {v : AV} {rows : List (List Int)} (h : RowsM k1 G v rows) (hk : k0 ≤ k1) : RowsM k0 G v rows := by
  obtain ⟨vs, h1, h2, h3⟩ := h
  exact ⟨vs, h1, h2.low hk, fun i x r a c => (h3 i x r a c).low hk⟩
theorem RowsM.snoc {k0 : Nat} {G : Heap} {ov x : AV} {l : List (List Int)} {s : List Int} (h : RowsM k0 G ov l) (hx : Mine k0 G x 3 1 (s.map I)) : ∃ cs, Mine k0 G ov 22 1 cs ∧ cs.length = l.length ∧ ∀ v2 G2, Mine k0 G2 v2 22 1 (cs ++ [x]) → G.next ≤ G2.next → (∀ j, j < G.next → (∀ m, ov ≠ .opn j m) → G2.get j = G.get j) → RowsM k0 G2 v2 (l ++ [s]) := by
  obtain ⟨vs, h1, h2, h3⟩ := h
  refine ⟨_, h2, h1, fun v2 G2 k1 k2 k3 => ⟨vs ++ [x], by simp [h1], k1, fun i y t a c => ?_⟩⟩
  by_cases hi : i < vs.length
  · rw [List.getElem?_append_left hi] at a
    rw [List.getElem?_append_left (by omega)] at c
    exact (h3 i y t a c).offE h2 (.inl (by decide)) k2 k3
  · by_cases hi2 : i = vs.length
    · subst hi2
      rw [List.getElem?_append_right (Nat.le_refl _)] at a
      rw [List.getElem?_append_right (by omega), h1] at c
      simp at a c
      subst a c
      exact hx.offE h2 (.inl (by decide)) k2 k3
    · rw [List.getElem?_eq_none (by simp; omega)] at a; cases a
theorem RowsM.backS {H G H' : Heap} {v : AV} {l : List (List Int)} (h : RowsM H.next G v l) (r : (H' = H ∧ v.flat = true) ∨ ((∀ n, H'.get n = G.get n) ∧ H'.next = G.next)) : RowsM H.next H' v l := by
  rcases r with ⟨rfl, hf⟩ | ⟨h1, h2⟩
  · obtain ⟨vs, a1, a2, a3⟩ := h
    rcases a2 with ⟨rfl, a2⟩ | ⟨b, n, rfl, _⟩
    · subst a2; exact ⟨[], a1, .inl ⟨rfl, rfl⟩, fun i x s h _ => by simp at h⟩
    · cases hf
  · exact h.to ⟨by omega, fun n _ => h1 n⟩
theorem flat_post {x : AV} {p : Pst} (h : (AV.agg (p.c x)).flat = true) : x.flat = true := by
  have h1 : AV.flats [x, I p.gain, I p.drop, I p.fall, I p.out, I p.ahead] = true := h
  unfold AV.flats at h1
  cases hx : x.flat with
  | false => rw [hx] at h1; cases h1
  | true => rfl
def thinB (p : Pst) (rows : List (List Int)) : Bool := (rows.take 66).all (fun r => decide (r.length ≤ 15)) && (decide (p.errs.length ≤ 15) && decide (rows.length ≤ 65))
def fewB (p : Pst) (rows : List (List Int)) : Bool := thinB p rows && (decide (faultE p rows ≠ 0) || decide (rows.length ≤ 8))
theorem thin_facts {p : Pst} {rows : List (List Int)} (h : thinB p rows = true) : p.errs.length ≤ 15 ∧ rows.length ≤ 65 ∧ ∀ r ∈ rows, r.length ≤ 15 := by
  unfold thinB at h
  simp only [Bool.and_eq_true, decide_eq_true_eq, List.all_eq_true] at h
  refine ⟨h.2.1, h.2.2, fun r hr => h.1 r ?_⟩
  rw [List.take_of_length_le (by omega)]
  exact hr
theorem c20 (m : Nat) (ev : AV) (p : Pst) (H : Heap) (hV : Ints H ev p.errs) (hl : p.errs.length ≤ 1000000) : ∃ v H', RR (m + 2) (.fn 20 [.agg (p.c ev)]) H = some (v, H') ∧ ∃ x, v = .agg (p.c x) ∧ Ret H H' ∧ Mine H.next H' x 3 1 (p.errs.map I) := by
  show ∃ v H', evFn Try.prog (RR (m + 1)) 20 [.agg (p.c ev)] H = some (v, H') ∧ ∃ x, v = .agg (p.c x) ∧ Ret H H' ∧ Mine H.next H' x 3 1 (p.errs.map I)
  refine fn_okE Try.func20 rfl rfl (by kernel_rfl) (by kernel_rfl) ?_
  obtain ⟨W, hW⟩ : ∃ W : Heap, W = ⟨H.t, H.next, H.next⟩ := ⟨_, rfl⟩
  have hg : ∀ n, W.get n = H.get n := fun n => by rw [hW]; rfl
  have hN : W.next = H.next := by rw [hW]
  have hE : ∀ G, Grow W G → Ext H G := fun G g => ⟨by rw [← hN]; exact g.next, fun n k => by rw [g.get n (by rw [hN]; exact k), hg]⟩
  have hG : Grow W W := Grow.refl (by rw [hW]; exact Nat.le_refl _)
  rw [← hW]
  have pev : ev.plain = true := lpl hV.len
  refine Ok.seq ?_
  refine Ok.region ?_
  refine OkO.box rfl rfl ?_
  refine OkO.alloc (z := [.nils, .int .i64 0, .int .i64 0, .int .i64 0, .int .i64 0, .int .i64 0]) rfl (by kernel_rfl) ?_
  refine OkO.nil ?_
  refine Ok.seq ?_
  refine Ok.drawn [(0, true, []), (1, true, []), (3, true, []), (4, true, []), (5, true, []), (6, true, []), (7, true, []), (8, true, []), (9, true, []), (10, true, []), (11, true, []), (12, true, []), (2, false, [12, 10, 8, 6, 4]), (13, true, []), (14, false, [])] (by kernel_rfl) ?_
  refine OkP.step ?_
  refine OkO.fieldAddr (o := 0) rfl (by kernel_rfl) rfl ?_
  refine OkO.nil ⟨rfl, ?_⟩
  refine OkP.step ?_
  refine OkO.load rfl rfl (lda (n := 1) (by kernel_rfl) (by first | assumption | (simp (disch := first | omega | (simp only [hNw, hPt]; omega)) only [gn0, gn1, gn2, gn3, gn4, gn5, gp0, gno, gpo] <;> first | rfl | assumption | exact gp0 _ _ _ | exact gn0 _ _)) (by first | rfl | assumption)) ?_
  refine OkO.nil ⟨rfl, ?_⟩
  refine OkP.step ?_
  refine OkO.fieldAddr (o := 1) rfl (by kernel_rfl) rfl ?_
  refine OkO.nil ⟨rfl, ?_⟩
  refine OkP.step ?_
  refine OkO.load rfl rfl (lda (n := 1) (by kernel_rfl) (by first | assumption | (simp (disch := first | omega | (simp only [hNw, hPt]; omega)) only [gn0, gn1, gn2, gn3, gn4, gn5, gp0, gno, gpo] <;> first | rfl | assumption | exact gp0 _ _ _ | exact gn0 _ _)) (by first | rfl | assumption)) ?_
  refine OkO.nil ⟨rfl, ?_⟩
  refine OkP.step ?_
  refine OkO.fieldAddr (o := 2) rfl (by kernel_rfl) rfl ?_
  refine OkO.nil ⟨rfl, ?_⟩
  refine OkP.step ?_
  refine OkO.load rfl rfl (lda (n := 1) (by kernel_rfl) (by first | assumption | (simp (disch := first | omega | (simp only [hNw, hPt]; omega)) only [gn0, gn1, gn2, gn3, gn4, gn5, gp0, gno, gpo] <;> first | rfl | assumption | exact gp0 _ _ _ | exact gn0 _ _)) (by first | rfl | assumption)) ?_
  refine OkO.nil ⟨rfl, ?_⟩
  refine OkP.step ?_
  refine OkO.fieldAddr (o := 3) rfl (by kernel_rfl) rfl ?_
  refine OkO.nil ⟨rfl, ?_⟩
  refine OkP.step ?_
  refine OkO.load rfl rfl (lda (n := 1) (by kernel_rfl) (by first | assumption | (simp (disch := first | omega | (simp only [hNw, hPt]; omega)) only [gn0, gn1, gn2, gn3, gn4, gn5, gp0, gno, gpo] <;> first | rfl | assumption | exact gp0 _ _ _ | exact gn0 _ _)) (by first | rfl | assumption)) ?_
  refine OkO.nil ⟨rfl, ?_⟩
  refine OkP.step ?_
  refine OkO.fieldAddr (o := 4) rfl (by kernel_rfl) rfl ?_
  refine OkO.nil ⟨rfl, ?_⟩
  refine OkP.step ?_
  refine OkO.load rfl rfl (lda (n := 1) (by kernel_rfl) (by first | assumption | (simp (disch := first | omega | (simp only [hNw, hPt]; omega)) only [gn0, gn1, gn2, gn3, gn4, gn5, gp0, gno, gpo] <;> first | rfl | assumption | exact gp0 _ _ _ | exact gn0 _ _)) (by first | rfl | assumption)) ?_
  refine OkO.nil ⟨rfl, ?_⟩
  refine OkP.step ?_
  refine OkO.fieldAddr (o := 5) rfl (by kernel_rfl) rfl ?_
  refine OkO.nil ⟨rfl, ?_⟩
  refine OkP.step ?_
  refine OkO.load rfl rfl (lda (n := 1) (by kernel_rfl) (by first | assumption | (simp (disch := first | omega | (simp only [hNw, hPt]; omega)) only [gn0, gn1, gn2, gn3, gn4, gn5, gp0, gno, gpo] <;> first | rfl | assumption | exact gp0 _ _ _ | exact gn0 _ _)) (by first | rfl | assumption)) ?_
  refine OkO.nil ⟨rfl, ?_⟩
  refine OkP.step ?_
  refine OkO.callE rfl rfl rfl rfl rfl (c30 m ev p.errs _ (hV.ext (hE _ (by (try dsimp only); repeat (first | exact hG | apply Grow.new | (refine Grow.put ?_ _ (by first | omega | (simp only [hNw, hPt]; omega))))))) hl) ?_ -- "sackung/sackunglaw04.list"
  rintro v30 H30 ⟨q1, r1⟩
  have g30 : Grow W H30 := Grow.ret (by (try dsimp only); repeat (first | exact hG | apply Grow.new | (refine Grow.put ?_ _ (by first | omega | (simp only [hNw, hPt]; omega))))) q1
  have n30 := q1.ext.next
  simp only [hNw] at n30
  have a30 : (H30.get W.next).bind AObj.cs = some (p.c ev) := by rw [q1.ext.get _ (by simp only [hNw]; omega)]; simp (disch := first | omega | (simp only [hNw, hPt]; omega)) only [gn0, gn1, gn2, gn3, gn4, gn5, gp0, gno, gpo] <;> rfl
  have o30 : H30.get (W.next + 1) = some (.cells [.nils, I 0, I 0, I 0, I 0, I 0] 30) := by rw [q1.ext.get _ (by simp only [hNw]; omega)]; exact gn1 _ _ _
  obtain ⟨hv1, hv2⟩ := r1.one
  refine OkO.nil ⟨(sco (sld rfl rfl (lda (n := 1) (by kernel_rfl) (by first | assumption | (simp (disch := first | omega | (simp only [hNw, hPt]; omega)) only [gn0, gn1, gn2, gn3, gn4, gn5, gp0, gno, gpo] <;> first | rfl | assumption | exact gp0 _ _ _ | exact gn0 _ _)) (by first | rfl | assumption)) rfl (eqr _ (by first | rfl | exact lpl (by assumption) | (simp [AV.plain, AV.plains, AV.cells, pev, Pst.c])))) (sco (sld rfl rfl (lda (n := 1) (by kernel_rfl) (by first | assumption | (simp (disch := first | omega | (simp only [hNw, hPt]; omega)) only [gn0, gn1, gn2, gn3, gn4, gn5, gp0, gno, gpo] <;> first | rfl | assumption | exact gp0 _ _ _ | exact gn0 _ _)) (by first | rfl | assumption)) rfl (eqr _ (by first | rfl | exact lpl (by assumption) | (simp [AV.plain, AV.plains, AV.cells, pev, Pst.c])))) (sco (sld rfl rfl (lda (n := 1) (by kernel_rfl) (by first | assumption | (simp (disch := first | omega | (simp only [hNw, hPt]; omega)) only [gn0, gn1, gn2, gn3, gn4, gn5, gp0, gno, gpo] <;> first | rfl | assumption | exact gp0 _ _ _ | exact gn0 _ _)) (by first | rfl | assumption)) rfl (eqr _ (by first | rfl | exact lpl (by assumption) | (simp [AV.plain, AV.plains, AV.cells, pev, Pst.c])))) (sco (sld rfl rfl (lda (n := 1) (by kernel_rfl) (by first | assumption | (simp (disch := first | omega | (simp only [hNw, hPt]; omega)) only [gn0, gn1, gn2, gn3, gn4, gn5, gp0, gno, gpo] <;> first | rfl | assumption | exact gp0 _ _ _ | exact gn0 _ _)) (by first | rfl | assumption)) rfl (eqr _ (by first | rfl | exact lpl (by assumption) | (simp [AV.plain, AV.plains, AV.cells, pev, Pst.c])))) (sco (sld rfl rfl (lda (n := 1) (by kernel_rfl) (by first | assumption | (simp (disch := first | omega | (simp only [hNw, hPt]; omega)) only [gn0, gn1, gn2, gn3, gn4, gn5, gp0, gno, gpo] <;> first | rfl | assumption | exact gp0 _ _ _ | exact gn0 _ _)) (by first | rfl | assumption)) rfl (eqr _ (by first | rfl | exact lpl (by assumption) | (simp [AV.plain, AV.plains, AV.cells, pev, Pst.c])))) rfl))))), ?_⟩
  refine OkP.step ?_
  refine OkO.build (cs := p.c v30) (z := [.nils, .int .i64 0, .int .i64 0, .int .i64 0, .int .i64 0, .int .i64 0]) (pl := [(0, 1), (1, 1), (2, 1), (3, 1), (4, 1), (5, 1)]) rfl (by kernel_rfl) rfl (by show fillS _ _ _ = some [v30, I p.gain, I p.drop, I p.fall, I p.out, I p.ahead]; simp [fillS, spl, hv1, show ∀ z, (I z).cells = [I z] from fun _ => rfl]) ?_
  refine OkO.nil ⟨rfl, ?_⟩
  refine OkP.step ?_
  refine OkO.store rfl rfl rfl (sAc (n := 6) (ag := true) (by kernel_rfl) (by first | assumption | (simp (disch := first | omega | (simp only [hNw, hPt]; omega)) only [gn0, gn1, gn2, gn3, gn4, gn5, gp0, gno, gpo] <;> first | rfl | assumption | exact gp0 _ _ _ | exact gn0 _ _)) rfl (by show atoms [v30, I p.gain, I p.drop, I p.fall, I p.out, I p.ahead] = true; simp [atoms, hv2, show ∀ z, (I z).atom = true from fun _ => rfl]) (by first | rfl | exact spl_set _ _ _ (by first | assumption | omega | (simp; omega)))) ?_
  refine OkO.nil ⟨rfl, ?_⟩
  refine OkP.nil ?_
  refine Ok.ret ⟨.inr rfl, ?_⟩
  refine back_newA (resV_cell rfl (ldg (n := 6) (by kernel_rfl) (by first | assumption | (simp (disch := first | omega | (simp only [hNw, hPt]; omega)) only [gn0, gn1, gn2, gn3, gn4, gn5, gp0, gno, gpo] <;> first | rfl | assumption)) (by first | rfl | assumption)) resV_nil) rfl (by rw [← hW]; exact (by (try dsimp only); repeat (first | exact g30 | apply Grow.new | (refine Grow.put ?_ _ (by first | omega | (simp only [hNw, hPt]; omega)))))) (fun H9 p1 p2 => ⟨v30, rfl, p1, ?_⟩)
  exact Mine.backT (((r1.put _ (by first | omega | (simp only [hNw]; omega)))).low (by simp only [hNw]; omega)) p2 flat_post
theorem c22 (m : Nat) (sv : AV) (l : List (List Int)) (H : Heap) (hS : LstAt H sv l) (hl9 : l.length ≤ 100000) (hs9 : ∀ s ∈ l, s.length ≤ 100000) : ∃ v H', RR (m + 2) (.fn 22 [sv]) H = some (v, H') ∧ Ret H H' ∧ RowsM H.next H' v l := by
  show ∃ v H', evFn Try.prog (RR (m + 1)) 22 [sv] H = some (v, H') ∧ Ret H H' ∧ RowsM H.next H' v l
  refine fn_okE Try.func22 rfl rfl (by kernel_rfl) (by kernel_rfl) ?_
  obtain ⟨W, hW⟩ : ∃ W : Heap, W = ⟨H.t, H.next, H.next⟩ := ⟨_, rfl⟩
  have hg : ∀ n, W.get n = H.get n := fun n => by rw [hW]; rfl
  have hN : W.next = H.next := by rw [hW]
  have hE : ∀ G, Grow W G → Ext H G := fun G g => ⟨by rw [← hN]; exact g.next, fun n k => by rw [g.get n (by rw [hN]; exact k), hg]⟩
  have hG : Grow W W := Grow.refl (by rw [hW]; exact Nat.le_refl _)
  rw [← hW]
  have hlen := hS.len
  refine Ok.seq ?_
  refine Ok.region ?_
  refine OkO.assign rfl rfl ?_
  refine OkO.nil ?_
  refine Ok.seq ?_
  refine Ok.region ?_
  refine OkO.assign rfl rfl ?_
  refine OkO.nil ?_
  refine Ok.seq ?_
  refine Ok.seq ?_
  refine Ok.region ?_
  refine OkO.assign rfl rfl ?_
  refine OkO.nil ?_
  refine Ok.block ?_
  refine Ok.loop (fun n s => ∃ i : Nat, n = l.length - i ∧ i ≤ l.length ∧ (∃ ov, RowsM W.next s.H ov (l.take i) ∧ Has 5 [(0, sv), (3, ov), (4, I (i : Int))] s.T) ∧ s.D = [] ∧ Grow W s.H) (l.length) (by unfold loopFuel; omega)
    ⟨0, rfl, Nat.zero_le _, ⟨.nils, RowsM.nil _ _, Has.of (by kernel_rfl)⟩, rfl, hG⟩ ?_
  rintro n ⟨T, D, G⟩ ⟨i, hn, hi, ⟨ov, hm, ⟨f, hT⟩⟩, hD, hg⟩
  dsimp only at *
  subst hT hD
  have hgn := hg.next
  refine Ok.seq ?_
  refine Ok.seq ?_
  refine Ok.region ?_
  refine OkO.move rfl rfl ?_
  refine OkO.move rfl rfl ?_
  refine OkO.builtin rfl rfl rfl (bln (by kernel_rfl) (by first | assumption | rfl)) ?_
  refine OkO.bin rfl rfl rfl (bin_lss _ _) ?_
  refine OkO.nil ?_
  refine Ok.cond rfl (fun h1 => ?_) (fun h1 => ?_)
  · -- yes h1
    have hlt : i < l.length := by simpa using h1
    obtain ⟨x, bb, off, cs, i1, i2, i3, i4, i7⟩ := (hS.ext (hE _ hg)).at_ i hlt
    have pb : x.plain = true := lpl i7.len
    refine Ok.skip ?_
    refine Ok.seq ?_
    refine Ok.block ?_
    refine Ok.region ?_
    refine OkO.move rfl rfl ?_
    refine OkO.move rfl rfl ?_
    refine OkO.move rfl rfl ?_
    refine OkO.index (sz := 1) rfl rfl rfl (by kernel_rfl) (by first | assumption | rfl | exact slAt_slice (by omega) | exact slAt_opn (by omega)) ?_ -- index ('Go.Operand.tmp', 12) ('Go.Operand.tmp', 13)
    refine OkO.load rfl rfl (lda (n := 1) (by kernel_rfl) (by first | assumption | (simp (disch := first | omega | (simp only [hNw, hPt]; omega)) only [gn0, gn1, gn2, gn3, gn4, gn5, gp0, gno, gpo] <;> first | rfl | assumption | exact gp0 _ _ _ | exact gn0 _ _)) (by first | rfl | assumption)) ?_
    refine OkO.callE rfl rfl rfl rfl rfl (c30 m x l[i] _ i7 (by have := hs9 l[i] (List.getElem_mem hlt); omega)) ?_ -- "sackung/sackunglaw04.list"
    rintro x' H38 ⟨q38, r38⟩
    have g38 : Grow W H38 := Grow.ret (by (try dsimp only); repeat (first | exact hg | exact hG | apply Grow.new | (refine Grow.put ?_ _ (by first | omega | (simp only [hNw, hPt]; omega))))) q38
    have n38 := q38.ext.next
    obtain ⟨cs9, hm9, hcl9, hsn⟩ := RowsM.snoc (s := l[i]) (hm.to q38.ext) (r38.low (by omega))
    obtain ⟨u1, u2⟩ := r38.one
    refine OkO.buildSlice (el := 22) (sz := 1) (z := [.nils]) (cs := [x']) rfl (by kernel_rfl) (by decide) rfl (by show fillS (fun i => some (i * 1, 1)) [AV.nils] [(0, x')] = some [x']; simp [fillS, spl, u1]) ?_
    refine OkO.builtinE rfl rfl rfl (Mine.app2 (W := W) (k0 := W.next) (t := 25) (u := 25) (sz := 1) (by_ := 24) (e := 22) (n := 1) (new := [x']) (hm9.to (Grow.toNew _ _)) (g38.new _) (Nat.le_refl _) (by simp; omega) (by kernel_rfl) (by kernel_rfl) (elems_new (n := 1) (sz := 1) rfl) rfl rfl (by rw [hcl9, List.length_take]; omega) (by omega) (by omega) (by simp [atoms, u2])) ?_
    rintro v2 G2 ⟨r1, r2, r3, r4, r5, _⟩
    simp only [hNw] at r4 r5
    have hnew : RowsM W.next G2 v2 (l.take (i + 1)) := by
            rw [List.take_succ_eq_append_getElem hlt]
            exact hsn v2 G2 r1 (by omega) (fun j hj hne => by rw [r4 j (by omega) hne]; exact gno _ _ _ (by omega))
    refine OkO.assign rfl rfl ?_
    refine OkO.nil ?_
    refine Ok.region ?_
    refine OkO.move rfl rfl ?_
    refine OkO.bin rfl rfl rfl (bin_add (by omega) (by omega)) ?_
    refine OkO.assign rfl rfl ?_
    refine OkO.nil ?_
    refine ⟨l.length - (i + 1), by omega, i + 1, rfl, hlt, ⟨_, hnew, Has.of (by kernel_rfl)⟩, rfl, r2⟩
  · -- no h1
    have hge : i = l.length := by simp at h1; omega
    subst hge
    rw [List.take_length] at hm
    refine Ok.exit ?_
    refine Ok.seq ?_
    refine Ok.region ?_
    refine OkO.move rfl rfl ?_
    refine OkO.assign rfl rfl ?_
    refine OkO.nil ?_
    refine Ok.ret ⟨.inr rfl, ?_⟩
    refine back_newA (resV_tmp rfl resV_nil) rfl (by rw [← hW]; exact hg) (fun H9 p1 p2 => ⟨p1, (hm.low (by omega)).backS p2⟩)
theorem c58 (m : Nat) (ev rv : AV) (p : Pst) (rows : List (List Int)) (H : Heap) (hV : Ints H ev p.errs) (hRs : LstAt H rv rows) : RR (m + 1) (.fn 58 [.agg (p.c ev), rv]) H = some (.bool (thinB p rows), H) := by
  refine (R_fn _ _ _ _ _).trans ?_
  refine fn_ok Try.func58 rfl rfl (by kernel_rfl) (by kernel_rfl) ?_
  obtain ⟨W, hW⟩ : ∃ W : Heap, W = ⟨H.t, H.next, H.next⟩ := ⟨_, rfl⟩
  have hg : ∀ n, W.get n = H.get n := fun n => by rw [hW]; rfl
  have hN : W.next = H.next := by rw [hW]
  have hE : ∀ G, Grow W G → Ext H G := fun G g => ⟨by rw [← hN]; exact g.next, fun n k => by rw [g.get n (by rw [hN]; exact k), hg]⟩
  have hG : Grow W W := Grow.refl (by rw [hW]; exact Nat.le_refl _)
  rw [← hW]
  have pev : ev.plain = true := lpl hV.len
  have hel := hV.len
  have hrlen := hRs.len
  refine Ok.seq ?_
  refine Ok.region ?_
  refine OkO.box rfl rfl ?_
  refine OkO.assign rfl rfl ?_
  refine OkO.nil ?_
  refine Ok.seq ?_
  refine Ok.seq ?_
  refine Ok.region ?_
  refine OkO.assign rfl rfl ?_
  refine OkO.nil ?_
  refine Ok.block ?_
  obtain ⟨H6, hH6⟩ : ∃ H6, H6 = W.new (.cells (p.c ev) 24) := ⟨_, rfl⟩
  have e6 : (H6.get W.next).bind AObj.cs = some (p.c ev) := by rw [hH6, gn0]; rfl
  have g6 : Grow W H6 := by rw [hH6]; exact hG.new _
  refine Ok.loop (fun n s => ∃ i : Nat, n = 67 - i ∧ i ≤ rows.length ∧ i ≤ 66 ∧ (∀ (j : Nat) (hj : j < rows.length), j < i → rows[j].length ≤ 15) ∧ Has 6 [(1, rv), (2, .ptr W.next 0), (5, I (i : Int))] s.T ∧ s.D = [] ∧ s.H = H6) (67) (by unfold loopFuel; omega)
    ⟨0, rfl, Nat.zero_le _, by omega, fun j hj h => absurd h (Nat.not_lt_zero j), Has.of (by kernel_rfl), rfl, by rw [hH6]; rfl⟩ ?_
  rintro n ⟨T, D, G⟩ ⟨i, hn, hi, hi66, hall, ⟨f_, hT⟩, hD, hg9⟩
  dsimp only at *
  subst hT hD
  skip
  subst hg9
  refine Ok.seq ?_
  refine Ok.seq ?_
  refine Ok.region ?_
  refine OkO.move rfl rfl ?_
  refine OkO.move rfl rfl ?_
  refine OkO.builtin rfl rfl rfl (bln (by kernel_rfl) (by first | assumption | rfl)) ?_
  refine OkO.bin rfl rfl rfl (bin_lss _ _) ?_
  refine OkO.move rfl rfl ?_
  refine OkO.split (d := 10) rfl (fun g1 => ?_) (fun g1 => ?_)
  · -- true g1
    have hlt : i < rows.length := by simpa using g1
    refine OkO.move rfl rfl ?_
    refine OkO.bin rfl rfl rfl (bin_lss _ _) ?_
    refine OkO.pick (b := true) rfl rfl (fun _ => rfl) nofun ?_
    refine OkO.nil ?_
    refine Ok.cond rfl (fun h2 => ?_) (fun h2 => ?_)
    · -- yes h2
      have hi2 : i < 66 := by (have h9 : (i : Int) < 66 := by simpa using h2); omega
      obtain ⟨xr, rb, ro, rcs, r1, r2, r3, r4, r5⟩ := (hRs.ext (hE _ g6)).at_ i hlt
      have hxl := r5.len
      have pxr : xr.plain = true := lpl r5.len
      refine Ok.skip ?_
      refine Ok.seq ?_
      refine Ok.block ?_
      refine Ok.seq ?_
      refine Ok.region ?_
      refine OkO.move rfl rfl ?_
      refine OkO.move rfl rfl ?_
      refine OkO.index (sz := 1) (n := i) rfl rfl rfl (by kernel_rfl) (by first | assumption | rfl | exact slAt_slice (by omega) | exact slAt_opn (by omega)) ?_ -- index ('Go.Operand.tmp', 16) ('Go.Operand.tmp', 17)
      refine OkO.load rfl rfl (lda (n := 1) (by kernel_rfl) (by first | assumption | (simp (disch := first | omega | (simp only [hNw, hPt]; omega)) only [gn0, gn1, gn2, gn3, gn4, gn5, gp0, gno, gpo] <;> first | rfl | assumption | exact gp0 _ _ _ | exact gn0 _ _)) (by first | rfl | assumption)) ?_
      refine OkO.builtin rfl rfl rfl (bln (by kernel_rfl) (by first | assumption | rfl)) ?_
      refine OkO.bin rfl rfl rfl (bin_gtr _ _) ?_
      refine OkO.nil ?_
      refine Ok.cond rfl (fun h3 => ?_) (fun h3 => ?_)
      · -- yes h3
        refine Ok.seq ?_
        refine Ok.region ?_
        refine OkO.assign rfl rfl ?_
        refine OkO.nil ?_
        refine Ok.ret ⟨.inr rfl, ?_⟩
        have hbad : 15 < rows[i].length := by (have h9 : (15 : Int) < (rows[i].length : Int) := by simpa using h3); omega
        exact back_flat rfl (congrArg AV.bool (by symm; unfold thinB; rw [show ((rows.take 66).all fun r => decide (r.length ≤ 15)) = false from List.all_eq_false.2 ⟨rows[i], List.mem_of_getElem? (i := i) (by rw [List.getElem?_take, if_pos (by omega)]; exact List.getElem?_eq_getElem hlt), by rw [decide_eq_true_eq]; omega⟩]; rfl)) rfl (by rw [← hW]; exact g6)
      · -- no h3
        refine Ok.skip ?_
        refine Ok.region ?_
        refine OkO.move rfl rfl ?_
        refine OkO.bin rfl rfl rfl (bin_add (by omega) (by omega)) ?_
        refine OkO.assign rfl rfl ?_
        refine OkO.nil ?_
        refine ⟨67 - (i + 1), by omega, i + 1, rfl, by omega, by omega, fun j hj h => ?_, Has.of (by kernel_rfl), rfl, rfl⟩
        by_cases e : j = i
        · subst e; (have h9 : ¬ (15 : Int) < (rows[j].length : Int) := by simpa using h3); omega
        · exact hall j hj (by omega)
    · -- no h2
      have hi2 : ¬ i < 66 := by (have h9 : ¬ (i : Int) < 66 := by simpa using h2); omega
      refine Ok.exit ?_
      refine Ok.seq ?_
      refine Ok.region ?_
      refine OkO.fieldAddr (o := 0) rfl (by kernel_rfl) rfl ?_
      refine OkO.load rfl rfl (lda (n := 1) (by kernel_rfl) (by first | assumption | (simp (disch := first | omega | (simp only [hNw, hPt]; omega)) only [gn0, gn1, gn2, gn3, gn4, gn5, gp0, gno, gpo] <;> first | rfl | assumption | exact gp0 _ _ _ | exact gn0 _ _)) (by first | rfl | assumption)) ?_
      refine OkO.builtin rfl rfl rfl (bln (by kernel_rfl) (by first | assumption | rfl)) ?_
      refine OkO.bin rfl rfl rfl (bin_leq _ _) ?_
      refine OkO.move rfl rfl ?_
      refine OkO.split (d := 26) rfl (fun g4 => ?_) (fun g4 => ?_)
      · -- true g4
        refine OkO.move rfl rfl ?_
        refine OkO.builtin rfl rfl rfl (bln (by kernel_rfl) (by first | assumption | rfl)) ?_
        refine OkO.bin rfl rfl rfl (bin_leq _ _) ?_
        refine OkO.pick (b := true) rfl rfl (fun _ => rfl) nofun ?_
        refine OkO.assign rfl rfl ?_
        refine OkO.nil ?_
        refine Ok.ret ⟨.inr rfl, ?_⟩
        have hA : ((rows.take 66).all fun r => decide (r.length ≤ 15)) = true := List.all_eq_true.2 (fun r hr => by obtain ⟨j, hj, rfl⟩ := List.mem_iff_getElem.1 hr; (have hjl : j < 66 ∧ j < rows.length := by rw [List.length_take] at hj; omega); rw [List.getElem_take, decide_eq_true_eq]; exact hall j hjl.2 (by omega))
        have hB : p.errs.length ≤ 15 := by (have h9 : (p.errs.length : Int) ≤ 15 := by simpa using g4); omega
        exact back_flat rfl (congrArg AV.bool (by unfold thinB; rw [hA, decide_eq_true hB, Bool.true_and, Bool.true_and, Bool.eq_iff_iff, decide_eq_true_eq, decide_eq_true_eq]; omega)) rfl (by rw [← hW]; exact g6)
      · -- false g4
        refine OkO.skip rfl ?_
        refine OkO.skip rfl ?_
        refine OkO.skip rfl ?_
        refine OkO.pick (b := false) rfl rfl nofun (fun _ => rfl) ?_
        refine OkO.assign rfl rfl ?_
        refine OkO.nil ?_
        refine Ok.ret ⟨.inr rfl, ?_⟩
        have hA : ((rows.take 66).all fun r => decide (r.length ≤ 15)) = true := List.all_eq_true.2 (fun r hr => by obtain ⟨j, hj, rfl⟩ := List.mem_iff_getElem.1 hr; (have hjl : j < 66 ∧ j < rows.length := by rw [List.length_take] at hj; omega); rw [List.getElem_take, decide_eq_true_eq]; exact hall j hjl.2 (by omega))
        have hB : ¬ p.errs.length ≤ 15 := by (have h9 : ¬ (p.errs.length : Int) ≤ 15 := by simpa using g4); omega
        exact back_flat rfl (congrArg AV.bool (by unfold thinB; rw [hA, decide_eq_false hB]; rfl)) rfl (by rw [← hW]; exact g6)
  · -- false g1
    have hge : rows.length ≤ i := by simpa using g1
    refine OkO.skip rfl ?_
    refine OkO.skip rfl ?_
    refine OkO.pick (b := false) rfl rfl nofun (fun _ => rfl) ?_
    refine OkO.nil ?_
    refine Ok.condF rfl ?_
    refine Ok.exit ?_
    refine Ok.seq ?_
    refine Ok.region ?_
    refine OkO.fieldAddr (o := 0) rfl (by kernel_rfl) rfl ?_
    refine OkO.load rfl rfl (lda (n := 1) (by kernel_rfl) (by first | assumption | (simp (disch := first | omega | (simp only [hNw, hPt]; omega)) only [gn0, gn1, gn2, gn3, gn4, gn5, gp0, gno, gpo] <;> first | rfl | assumption | exact gp0 _ _ _ | exact gn0 _ _)) (by first | rfl | assumption)) ?_
    refine OkO.builtin rfl rfl rfl (bln (by kernel_rfl) (by first | assumption | rfl)) ?_
    refine OkO.bin rfl rfl rfl (bin_leq _ _) ?_
    refine OkO.move rfl rfl ?_
    refine OkO.split (d := 26) rfl (fun g5 => ?_) (fun g5 => ?_)
    · -- true g5
      refine OkO.move rfl rfl ?_
      refine OkO.builtin rfl rfl rfl (bln (by kernel_rfl) (by first | assumption | rfl)) ?_
      refine OkO.bin rfl rfl rfl (bin_leq _ _) ?_
      refine OkO.pick (b := true) rfl rfl (fun _ => rfl) nofun ?_
      refine OkO.assign rfl rfl ?_
      refine OkO.nil ?_
      refine Ok.ret ⟨.inr rfl, ?_⟩
      have hA : ((rows.take 66).all fun r => decide (r.length ≤ 15)) = true := List.all_eq_true.2 (fun r hr => by obtain ⟨j, hj, rfl⟩ := List.mem_iff_getElem.1 hr; (have hjl : j < 66 ∧ j < rows.length := by rw [List.length_take] at hj; omega); rw [List.getElem_take, decide_eq_true_eq]; exact hall j hjl.2 (by omega))
      have hB : p.errs.length ≤ 15 := by (have h9 : (p.errs.length : Int) ≤ 15 := by simpa using g5); omega
      exact back_flat rfl (congrArg AV.bool (by unfold thinB; rw [hA, decide_eq_true hB, Bool.true_and, Bool.true_and, Bool.eq_iff_iff, decide_eq_true_eq, decide_eq_true_eq]; omega)) rfl (by rw [← hW]; exact g6)
    · -- false g5
      refine OkO.skip rfl ?_
      refine OkO.skip rfl ?_
      refine OkO.skip rfl ?_
      refine OkO.pick (b := false) rfl rfl nofun (fun _ => rfl) ?_
      refine OkO.assign rfl rfl ?_
      refine OkO.nil ?_
      refine Ok.ret ⟨.inr rfl, ?_⟩
      have hA : ((rows.take 66).all fun r => decide (r.length ≤ 15)) = true := List.all_eq_true.2 (fun r hr => by obtain ⟨j, hj, rfl⟩ := List.mem_iff_getElem.1 hr; (have hjl : j < 66 ∧ j < rows.length := by rw [List.length_take] at hj; omega); rw [List.getElem_take, decide_eq_true_eq]; exact hall j hjl.2 (by omega))
      have hB : ¬ p.errs.length ≤ 15 := by (have h9 : ¬ (p.errs.length : Int) ≤ 15 := by simpa using g5); omega
      exact back_flat rfl (congrArg AV.bool (by unfold thinB; rw [hA, decide_eq_false hB]; rfl)) rfl (by rw [← hW]; exact g6)
theorem c56 (m : Nat) (ev rv : AV) (p : Pst) (rows : List (List Int)) (H : Heap) (hV : Ints H ev p.errs) (hRs : LstAt H rv rows) : RR (m + 4) (.fn 56 [.agg (p.c ev), rv]) H = some (.bool (thinB p rows && decide (faultE p rows = 0)), H) := by
  refine (R_fn _ _ _ _ _).trans ?_
  refine fn_ok Try.func56 rfl rfl (by kernel_rfl) (by kernel_rfl) ?_
  obtain ⟨W, hW⟩ : ∃ W : Heap, W = ⟨H.t, H.next, H.next⟩ := ⟨_, rfl⟩
  have hg : ∀ n, W.get n = H.get n := fun n => by rw [hW]; rfl
  have hN : W.next = H.next := by rw [hW]
  have hE : ∀ G, Grow W G → Ext H G := fun G g => ⟨by rw [← hN]; exact g.next, fun n k => by rw [g.get n (by rw [hN]; exact k), hg]⟩
  have hG : Grow W W := Grow.refl (by rw [hW]; exact Nat.le_refl _)
  rw [← hW]
  have pev : ev.plain = true := lpl hV.len
  have hrlen := hRs.len
  refine Ok.seq ?_
  refine Ok.region ?_
  refine OkO.box rfl rfl ?_
  refine OkO.assign rfl rfl ?_
  refine OkO.nil ?_
  refine Ok.seq ?_
  refine Ok.region ?_
  refine OkO.load rfl rfl (ldg (n := 6) (by kernel_rfl) (by first | assumption | (simp (disch := first | omega | (simp only [hNw, hPt]; omega)) only [gn0, gn1, gn2, gn3, gn4, gn5, gp0, gno, gpo] <;> first | rfl | assumption | exact gp0 _ _ _ | exact gn0 _ _)) (by first | rfl | assumption)) ?_
  refine OkO.move rfl rfl ?_
  refine OkO.callV rfl rfl rfl rfl rfl (c58 (m + 2) ev rv p rows _ (hV.ext (hE _ (by (try dsimp only); repeat (first | exact hG | apply Grow.new | (refine Grow.put ?_ _ (by first | omega | (simp only [hNw, hPt]; omega))))))) (hRs.ext (hE _ (by (try dsimp only); repeat (first | exact hG | apply Grow.new | (refine Grow.put ?_ _ (by first | omega | (simp only [hNw, hPt]; omega)))))))) ?_ -- "sackung/sackunglaw04.Thin"
  refine OkO.move rfl rfl ?_
  refine OkO.split (d := 8) rfl (fun g1 => ?_) (fun g1 => ?_)
  · -- true g1
    refine OkO.load rfl rfl (ldg (n := 6) (by kernel_rfl) (by first | assumption | (simp (disch := first | omega | (simp only [hNw, hPt]; omega)) only [gn0, gn1, gn2, gn3, gn4, gn5, gp0, gno, gpo] <;> first | rfl | assumption | exact gp0 _ _ _ | exact gn0 _ _)) (by first | rfl | assumption)) ?_
    refine OkO.move rfl rfl ?_
    refine OkO.callV rfl rfl rfl rfl rfl (c25 (m + 0) ev rv p rows _ (hV.ext (hE _ (by (try dsimp only); repeat (first | exact hG | apply Grow.new | (refine Grow.put ?_ _ (by first | omega | (simp only [hNw, hPt]; omega))))))) (hRs.ext (hE _ (by (try dsimp only); repeat (first | exact hG | apply Grow.new | (refine Grow.put ?_ _ (by first | omega | (simp only [hNw, hPt]; omega))))))) (by have := thin_facts g1; omega) (by have := thin_facts g1; omega) (fun r hr => by have := (thin_facts g1).2.2 r hr; omega)) ?_ -- "sackung/sackungref04.Fault"
    refine OkO.bin rfl rfl rfl (bin_eql _ _) ?_
    refine OkO.pick (b := true) rfl rfl (fun _ => rfl) nofun ?_
    refine OkO.assign rfl rfl ?_
    refine OkO.nil ?_
    refine Ok.ret ⟨.inr rfl, ?_⟩
    exact back_flat rfl (congrArg AV.bool (by rw [g1]; rfl)) rfl (by rw [← hW]; exact (by (try dsimp only); repeat (first | exact hG | apply Grow.new | (refine Grow.put ?_ _ (by first | omega | (simp only [hNw, hPt]; omega))))))
  · -- false g1
    refine OkO.skip rfl ?_
    refine OkO.skip rfl ?_
    refine OkO.skip rfl ?_
    refine OkO.skip rfl ?_
    refine OkO.pick (b := false) rfl rfl nofun (fun _ => rfl) ?_
    refine OkO.assign rfl rfl ?_
    refine OkO.nil ?_
    refine Ok.ret ⟨.inr rfl, ?_⟩
    exact back_flat rfl (congrArg AV.bool (by rw [g1]; rfl)) rfl (by rw [← hW]; exact (by (try dsimp only); repeat (first | exact hG | apply Grow.new | (refine Grow.put ?_ _ (by first | omega | (simp only [hNw, hPt]; omega))))))
end
end Go.Ev

set_option maxRecDepth 100000
set_option linter.unusedSimpArgs false
set_option linter.unusedVariables false
namespace Go.Ev
open Go Go.Proofs
noncomputable section
theorem LstAt.take {H : Heap} {v : AV} {rows : List (List Int)} (h : LstAt H v rows) (hv : (∃ b off len cap, v = .slice b off len cap ∧ len ≤ cap) ∨ v = .nils ∨ ∃ a c, v = .raw (.slice a 0 c)) {k : Nat} (hk : k ≤ rows.length) : ∃ v', (∀ G, sliceOf G 1 v none (some (.int .i64 (k : Int))) = some v') ∧ LstAt H v' (rows.take k) := by
  obtain ⟨vs, h1, h2, h3⟩ := h
  obtain ⟨v', e1, e2⟩ := slice_to hv h2 (k := k) (by simp; omega)
  refine ⟨v', e1, vs.take k, by simp [h1], by rw [List.map_take]; exact e2, fun i x r a c => ?_⟩
  rw [List.getElem?_take] at a c
  split at a
  · rename_i hi
    rw [if_pos hi] at c
    exact h3 i x r a c
  · cases a
theorem spd_in {p : Pst} {rows : List (List Int)} {h j : Nat} (hh : h < (mayL p ((j : Int) - 1) rows).length) : ∀ {k : Nat}, j < k → (mayL p ((j : Int) - 1) rows)[h].1 ∈ spdL p rows h k ∧ (mayL p ((j : Int) - 1) rows)[h].2 ∈ spdL p rows h k
  | 0, hk => by omega
  | i + 1, hk => by
    by_cases e : j = i
    · subst e
      rw [spdL_yes (show h + 1 ≤ lenM p rows j from hh) hh]
      simp
    · have := spd_in hh (k := i) (by omega)
      show _ ∈ spdL p rows h i ++ _ ∧ _ ∈ spdL p rows h i ++ _
      exact ⟨List.mem_append.2 (.inl this.1), List.mem_append.2 (.inl this.2)⟩
theorem foldl_min : ∀ (l : List Int) (a : Int), l.foldl min a ≤ a ∧ ∀ x ∈ l, l.foldl min a ≤ x
  | [], a => ⟨Int.le_refl _, nofun⟩
  | c :: l, a => by
    obtain ⟨h1, h2⟩ := foldl_min l (min a c)
    rw [List.foldl_cons]
    exact ⟨by omega, fun x hx => by
      rcases List.mem_cons.1 hx with rfl | h
      · omega
      · exact h2 x h⟩
theorem foldl_max : ∀ (l : List Int) (a : Int), a ≤ l.foldl max a ∧ ∀ x ∈ l, x ≤ l.foldl max a
  | [], a => ⟨Int.le_refl _, nofun⟩
  | c :: l, a => by
    obtain ⟨h1, h2⟩ := foldl_max l (max a c)
    rw [List.foldl_cons]
    exact ⟨by omega, fun x hx => by
      rcases List.mem_cons.1 hx with rfl | h
      · omega
      · exact h2 x h⟩
theorem mnL_le {L : List Int} {x : Int} (h : x ∈ L) : mnL L ≤ x := by
  cases L with
  | nil => cases h
  | cons a l =>
    rcases List.mem_cons.1 h with rfl | h
    · exact (foldl_min l _).1
    · exact (foldl_min l a).2 x h
theorem le_mxL {L : List Int} {x : Int} (h : x ∈ L) : x ≤ mxL L := by
  cases L with
  | nil => cases h
  | cons a l =>
    rcases List.mem_cons.1 h with rfl | h
    · exact (foldl_max l _).1
    · exact (foldl_max l a).2 x h
theorem poss_last {p : Pst} {rows : List (List Int)} {i h : Nat} (hh : h ≤ rows.length) : h ≤ lenM p rows i ↔ lastI p ((i : Int) - 1) (rows.take h) ≠ nul := may_len hh
end
end Go.Ev

set_option maxRecDepth 100000
set_option linter.unusedSimpArgs false
set_option linter.unusedVariables false
namespace Go.Ev
open Go Go.Proofs
noncomputable section
end
end Go.Ev

set_option maxRecDepth 100000
set_option linter.unusedSimpArgs false
set_option linter.unusedVariables false
namespace Go.Ev
open Go Go.Proofs
noncomputable section
end
end Go.Ev

set_option maxRecDepth 100000
set_option linter.unusedSimpArgs false
set_option linter.unusedVariables false
namespace Go.Ev
open Go Go.Proofs
noncomputable section
end
end Go.Ev

set_option maxRecDepth 100000
set_option linter.unusedSimpArgs false
set_option linter.unusedVariables false
namespace Go.Ev
open Go Go.Proofs
noncomputable section
/-- A number that words pick. -/
def pickV (lo hi : Int) (ws : List Int) (a : Nat) : Int :=
  if ws = [] then lo else if (ws.getD (a % ws.length) 0) % 4 = 0 then lo else if (ws.getD (a % ws.length) 0) % 4 = 1 then hi else lo + (ws.getD (a % ws.length) 0) % (hi - lo + 1)
/-- Speeds that may be, and reads that agree with them. -/
def TruOk (p : Pst) (f : Int) (sp : List Int) (rows : List (List Int)) : Prop := rows.length = sp.length ∧ MovP p sp ∧ AgrP p f rows sp ∧ ∀ r ∈ rows, r.length = p.errs.length ∧ ∀ x ∈ r, -1000 ≤ x ∧ x ≤ 2000
theorem TruOk.nil (p : Pst) (f : Int) : TruOk p f [] [] := ⟨rfl, ⟨fun x h => absurd h List.not_mem_nil, fun h h2 => absurd h2 (Nat.not_lt_zero _)⟩, fun h h1 => absurd h1 (Nat.not_lt_zero _), fun r h => absurd h List.not_mem_nil⟩
theorem TruOk.snoc {p : Pst} {f v : Int} {sp : List Int} {rows : List (List Int)} {row : List Int} (h : TruOk p f sp rows) (hv : 0 ≤ v ∧ v ≤ 1000) (hs : ∀ x, sp[sp.length - 1]? = some x → StepOk p x v) (hr : row.length = p.errs.length ∧ ∀ x ∈ row, -1000 ≤ x ∧ x ≤ 2000) (ha : AgreeR p f row v) : TruOk p f (sp ++ [v]) (rows ++ [row]) := by
  obtain ⟨h1, ⟨h2, h3⟩, h4, h5⟩ := h
  refine ⟨by simp [h1], ⟨fun x hx => ?_, fun k hk => ?_⟩, fun k k1 k2 => ?_, fun r hr9 => ?_⟩
  · rcases List.mem_append.1 hx with hx | hx
    · exact h2 x hx
    · rw [List.mem_singleton] at hx; rw [hx]; exact hv
  · rw [List.length_append, List.length_singleton] at hk
    by_cases c : k + 1 < sp.length
    · rw [List.getElem_append_left c, List.getElem_append_left (by omega)]
      exact h3 k c
    · have e1 : (sp ++ [v])[k + 1]'(by simp; omega) = v := by rw [List.getElem_append_right (by omega)]; simp
      have e2 : (sp ++ [v])[k]'(by simp; omega) = sp[k]'(by omega) := List.getElem_append_left (by omega)
      rw [e1, e2]
      exact hs _ (by rw [show sp.length - 1 = k from by omega, List.getElem?_eq_getElem (by omega)])
  · rw [List.length_append, List.length_singleton] at k1
    by_cases c : k < sp.length
    · rw [List.getElem_append_left c, List.getElem_append_left (by omega)]
      exact h4 k c (by omega)
    · have e1 : (sp ++ [v])[k]'(by simp; omega) = v := by rw [List.getElem_append_right (by omega)]; simp
      have e2 : (rows ++ [row])[k]'k2 = row := by rw [List.getElem_append_right (by omega)]; simp
      rw [e1, e2]
      exact ha
  · rcases List.mem_append.1 hr9 with hr9 | hr9
    · exact h5 r hr9
    · rw [List.mem_singleton] at hr9; rw [hr9]; exact hr
theorem TruOk.in {p : Pst} {f : Int} {sp : List Int} {rows : List (List Int)} (h : TruOk p f sp rows) (hpg : 0 ≤ p.gain) (hpd : 0 ≤ p.drop) : ∀ (k : Nat) (hk : k < sp.length), inI sp[k] (lastI p f (rows.take (k + 1)))
  | 0, hk => by
    obtain ⟨h1, ⟨h2, h3⟩, h4, h5⟩ := h
    have hb := h2 _ (List.getElem_mem hk)
    rw [last_next (by omega), next_iff hb]
    refine ⟨⟨(by rw [List.take_zero]; intro h9; cases h9), ?_⟩, h4 0 hk (by omega)⟩
    rw [List.take_zero]
    show (0 : Int) - p.drop ≤ _ ∧ _ ≤ (1000 : Int) + p.gain
    omega
  | k + 1, hk => by
    have hi := TruOk.in h hpg hpd k (by omega)
    obtain ⟨h1, ⟨h2, h3⟩, h4, h5⟩ := h
    have hb := h2 _ (List.getElem_mem hk)
    rw [last_next (by omega), next_iff hb]
    have hs := h3 k hk
    refine ⟨⟨fun h9 => ?_, ?_⟩, h4 (k + 1) hk (by omega)⟩
    · rw [h9] at hi; exact not_nul _ hi
    · unfold StepOk at hs; unfold inI at hi; omega
theorem TruOk.len {p : Pst} {f : Int} {sp : List Int} {rows : List (List Int)} (h : TruOk p f sp rows) (hpg : 0 ≤ p.gain) (hpd : 0 ≤ p.drop) {j : Nat} (hj : f = (j : Int) - 1) : rows.length ≤ lenM p rows j := by
  refine (poss_last (Nat.le_refl _)).2 ?_
  rw [List.take_length]
  rw [← hj]
  by_cases c : sp.length = 0
  · have : rows = [] := List.eq_nil_of_length_eq_zero (by rw [h.1]; exact c)
    rw [this]
    intro h9; cases h9
  · intro h9
    have := h.in hpg hpd (sp.length - 1) (by omega)
    rw [show rows.take (sp.length - 1 + 1) = rows from by rw [show sp.length - 1 + 1 = rows.length from by rw [h.1]; omega, List.take_length], h9] at this
    exact not_nul _ this
theorem TruOk.span {p : Pst} {f : Int} {sp : List Int} {rows : List (List Int)} (h : TruOk p f sp rows) (hpg : 0 ≤ p.gain) (hpd : 0 ≤ p.drop) {j : Nat} (hj : f = (j : Int) - 1) (hn : j < p.errs.length + 1) (k : Nat) (hk : k < sp.length) : mnL (spdL p rows k (p.errs.length + 1)) ≤ sp[k] ∧ sp[k] ≤ mxL (spdL p rows k (p.errs.length + 1)) := by
  have hl := h.len hpg hpd hj
  have hm : k < (mayL p ((j : Int) - 1) rows).length := by (have h9 : rows.length ≤ (mayL p ((j : Int) - 1) rows).length := hl); rw [h.1] at h9; omega
  have h1 := spd_in hm hn
  have h2 := h.in hpg hpd k hk
  rw [hj, ← (may_mem hm).1] at h2
  have h3 := mnL_le h1.1
  have h4 := le_mxL h1.2
  unfold inI at h2
  omega
theorem MovP.up {p : Pst} {sp : List Int} (h : MovP p sp) (k : Nat) : ∀ (d : Nat) (hd : k + d < sp.length), sp[k + d] ≤ sp[k]'(by omega) + (d : Int) * p.gain
  | 0, hd => by simp
  | d + 1, hd => by
    have h1 := MovP.up h k d (by omega)
    have h2 := h.2 (k + d) (by omega)
    unfold StepOk at h2
    have e : ((d + 1 : Nat) : Int) * p.gain = (d : Int) * p.gain + p.gain := by rw [show ((d + 1 : Nat) : Int) = (d : Int) + 1 from by omega, Int.add_mul, Int.one_mul]
    rw [e]
    show sp[k + d + 1] ≤ _
    omega
theorem level_call {p : Pst} {x y : Int} {d : Nat} (hpg : 0 ≤ p.gain) (hd : (d : Int) ≤ p.out) (hy : p.fall ≤ y) (hxy : y ≤ x + (d : Int) * p.gain) : levelI p x = 3 := by
  have hl : leftI p x ≤ hrI p 0 := by
    have e : hrI p 0 = p.out := by simp [hrI]
    rw [e]
    unfold leftI
    split
    · omega
    · rename_i h1
      split
      · rename_i h2
        rw [h2, Int.mul_zero] at hxy
        omega
      · have h3 : (p.fall - x + p.gain - 1) / p.gain < (d : Int) + 1 := by
          refine Int.ediv_lt_of_lt_mul (by omega) ?_
          rw [Int.add_mul, Int.one_mul]
          omega
        omega
  unfold levelI
  rw [if_pos hl]
theorem TruOk.call {p : Pst} {f : Int} {sp : List Int} {rows : List (List Int)} (h : TruOk p f sp rows) (hpg : 0 ≤ p.gain) (hpd : 0 ≤ p.drop) {j : Nat} (hj : f = (j : Int) - 1) (hn : j < p.errs.length + 1) {k i : Nat} (hk : k ≤ i) (hi : i < sp.length) (ho : (i : Int) - p.out ≤ k) (hfall : p.fall ≤ sp[i]) : levelI p (mxL (spdL p rows k (p.errs.length + 1))) = 3 := by
  have h1 := MovP.up h.2.1 k (i - k) (by omega)
  have h2 := (h.span hpg hpd hj hn k (by omega)).2
  have e : sp[k + (i - k)]'(by omega) = sp[i] := by congr 1; omega
  rw [e] at h1
  refine level_call (y := sp[i]) (d := i - k) hpg (by omega) hfall ?_
  omega
/-- A list of lists that was made, apart from another list. -/
def RowsX (k0 : Nat) (G : Heap) (xv v : AV) (rows : List (List Int)) : Prop := ∃ vs : List AV, vs.length = rows.length ∧ Mine k0 G v 22 1 vs ∧ ∀ (i : Nat) (x : AV) (r : List Int), vs[i]? = some x → rows[i]? = some r → Mine k0 G x 3 1 (r.map I) ∧ ∀ b m m', x = .opn b m → xv ≠ .opn b m'
theorem RowsX.rows {k0 : Nat} {G : Heap} {xv v : AV} {l : List (List Int)} (h : RowsX k0 G xv v l) : RowsM k0 G v l := by
  obtain ⟨vs, h1, h2, h3⟩ := h
  exact ⟨vs, h1, h2, fun i x r a c => (h3 i x r a c).1⟩
theorem RowsX.nil (k0 : Nat) (G : Heap) (xv : AV) : RowsX k0 G xv .nils [] := ⟨[], rfl, Mine.nil _ _ _ _, fun i x s h _ => by simp at h⟩
theorem RowsX.to {k0 : Nat} {G G' : Heap} {xv v : AV} {l : List (List Int)} (h : RowsX k0 G xv v l) (e : Ext G G') : RowsX k0 G' xv v l := by
  obtain ⟨vs, h1, h2, h3⟩ := h
  exact ⟨vs, h1, h2.to e, fun i x r a c => ⟨(h3 i x r a c).1.to e, (h3 i x r a c).2⟩⟩
theorem RowsX.snoc {k0 : Nat} {G : Heap} {xv ov x : AV} {l : List (List Int)} {s : List Int} (h : RowsX k0 G xv ov l) (hx : Mine k0 G x 3 1 (s.map I)) (hsep : ∀ b m m', x = .opn b m → xv ≠ .opn b m') : ∃ cs, Mine k0 G ov 22 1 cs ∧ cs.length = l.length ∧ ∀ v2 G2, Mine k0 G2 v2 22 1 (cs ++ [x]) → G.next ≤ G2.next → (∀ j, j < G.next → (∀ m, ov ≠ .opn j m) → G2.get j = G.get j) → RowsX k0 G2 xv v2 (l ++ [s]) := by
  obtain ⟨vs, h1, h2, h3⟩ := h
  refine ⟨_, h2, h1, fun v2 G2 k1 k2 k3 => ⟨vs ++ [x], by simp [h1], k1, fun i y t a c => ?_⟩⟩
  by_cases hi : i < vs.length
  · rw [List.getElem?_append_left hi] at a
    rw [List.getElem?_append_left (by omega)] at c
    exact ⟨(h3 i y t a c).1.offE h2 (.inl (by decide)) k2 k3, (h3 i y t a c).2⟩
  · by_cases hi2 : i = vs.length
    · subst hi2
      rw [List.getElem?_append_right (Nat.le_refl _)] at a
      rw [List.getElem?_append_right (by omega), h1] at c
      simp at a c
      subst a c
      exact ⟨hx.offE h2 (.inl (by decide)) k2 k3, hsep⟩
    · rw [List.getElem?_eq_none (by simp; omega)] at a; cases a
def U16c (n : Int) : List AV := [.int .u16 n]
/-- A row of reads, as words make it. -/
def rowV (p : Pst) (f v : Int) (ws : List Int) (h n : Nat) : List Int := (List.range n).map fun (i : Nat) => if (i : Int) = f then pickV (-1000) 2000 ws (5 * h + 1) else pickV (v - p.errs.getD i 0) (v + p.errs.getD i 0) ws (7 * h + i)
end
end Go.Ev

set_option maxRecDepth 100000
set_option linter.unusedSimpArgs false
set_option linter.unusedVariables false
namespace Go.Ev
open Go Go.Proofs
noncomputable section
end
end Go.Ev

set_option maxRecDepth 100000
set_option linter.unusedSimpArgs false
set_option linter.unusedVariables false
namespace Go.Ev
open Go Go.Proofs
noncomputable section
end
end Go.Ev

set_option maxRecDepth 100000
set_option linter.unusedSimpArgs false
set_option linter.unusedVariables false
namespace Go.Ev
open Go Go.Proofs
noncomputable section
end
end Go.Ev

set_option maxRecDepth 100000
set_option linter.unusedSimpArgs false
set_option linter.unusedVariables false
namespace Go.Ev
open Go Go.Proofs
noncomputable section
/-- A list of lists that was made, each list in a block of its own. -/
def RowsD (k0 : Nat) (G : Heap) (v : AV) (rows : List (List Int)) : Prop := ∃ vs : List AV, vs.length = rows.length ∧ Mine k0 G v 22 1 vs ∧ (∀ (i : Nat) (x : AV) (r : List Int), vs[i]? = some x → rows[i]? = some r → Mine k0 G x 3 1 (r.map I)) ∧ ∀ (i j : Nat) (b m m' : Nat), i ≠ j → vs[i]? = some (.opn b m) → vs[j]? ≠ some (.opn b m')
theorem RowsD.rows {k0 : Nat} {G : Heap} {v : AV} {rows : List (List Int)} (h : RowsD k0 G v rows) : RowsM k0 G v rows := let ⟨vs, h1, h2, h3, _⟩ := h; ⟨vs, h1, h2, h3⟩
theorem RowsD.nil (k0 : Nat) (G : Heap) : RowsD k0 G .nils [] := ⟨[], rfl, Mine.nil _ _ _ _, fun i x s h _ => by simp at h, fun i j b m m' _ h => by simp at h⟩
theorem RowsD.to {k0 : Nat} {G G' : Heap} {v : AV} {rows : List (List Int)} (h : RowsD k0 G v rows) (e : Ext G G') : RowsD k0 G' v rows := let ⟨vs, h1, h2, h3, h4⟩ := h; ⟨vs, h1, h2.to e, fun i x r a c => (h3 i x r a c).to e, h4⟩
theorem RowsD.low {k0 k1 : Nat} {G : Heap} {v : AV} {rows : List (List Int)} (h : RowsD k1 G v rows) (hk : k0 ≤ k1) : RowsD k0 G v rows := let ⟨vs, h1, h2, h3, h4⟩ := h; ⟨vs, h1, h2.low hk, fun i x r a c => (h3 i x r a c).low hk, h4⟩
theorem RowsD.snoc {k0 : Nat} {G0 G : Heap} {ov x : AV} {l : List (List Int)} {s : List Int} (h : RowsD k0 G0 ov l) (e : Ext G0 G) (hx : Mine G0.next G x 3 1 (s.map I)) (hk : k0 ≤ G0.next) : ∃ cs, Mine k0 G ov 22 1 cs ∧ cs.length = l.length ∧ ∀ v2 G2, Mine k0 G2 v2 22 1 (cs ++ [x]) → G.next ≤ G2.next → (∀ j, j < G.next → (∀ m, ov ≠ .opn j m) → G2.get j = G.get j) → RowsD k0 G2 v2 (l ++ [s]) := by
  obtain ⟨vs, h1, h2, h3, h4⟩ := h
  refine ⟨_, h2.to e, h1, fun v2 G2 k1 k2 k3 => ⟨vs ++ [x], by simp [h1], k1, fun i y t a c => ?_, fun i j b m m' hij ha hb => ?_⟩⟩
  · by_cases hi : i < vs.length
    · rw [List.getElem?_append_left hi] at a
      rw [List.getElem?_append_left (by omega)] at c
      exact ((h3 i y t a c).to e).offE (h2.to e) (.inl (by decide)) k2 k3
    · by_cases hi2 : i = vs.length
      · subst hi2
        rw [List.getElem?_append_right (Nat.le_refl _)] at a
        rw [List.getElem?_append_right (by omega), h1] at c
        simp at a c
        subst a c
        exact (hx.low hk).offE (h2.to e) (.inl (by decide)) k2 k3
      · rw [List.getElem?_eq_none (by simp; omega)] at a; cases a
  · have key : ∀ (i : Nat) (b m m' : Nat), vs[i]? = some (.opn b m) → x ≠ .opn b m' := fun i b m m' ha hb => by
      have hi : i < vs.length := (List.getElem?_eq_some_iff.1 ha).1
      have := (h3 i _ _ ha (List.getElem?_eq_getElem (by omega))).lt rfl
      exact hx.far this m' hb
    have hlen : ∀ (i : Nat) (z : AV), (vs ++ [x])[i]? = some z → (i < vs.length ∧ vs[i]? = some z) ∨ (i = vs.length ∧ z = x) := fun i z hz => by
      by_cases hi : i < vs.length
      · rw [List.getElem?_append_left hi] at hz; exact .inl ⟨hi, hz⟩
      · have h9 : i < (vs ++ [x]).length := (List.getElem?_eq_some_iff.1 hz).1
        rw [List.length_append, List.length_singleton] at h9
        have e9 : i = vs.length := by omega
        subst e9
        rw [List.getElem?_append_right (Nat.le_refl _)] at hz
        simp at hz
        exact .inr ⟨rfl, hz.symm⟩
    rcases hlen i _ ha with ⟨_, ha⟩ | ⟨ha, ha2⟩ <;> rcases hlen j _ hb with ⟨_, hb⟩ | ⟨hb, hb2⟩
    · exact h4 i j b m m' hij ha hb
    · exact key i b m m' ha hb2.symm
    · exact key j b m' m hb ha2.symm
    · omega
theorem RowsD.backS {H G H' : Heap} {v : AV} {l : List (List Int)} (h : RowsD H.next G v l) (r : (H' = H ∧ v.flat = true) ∨ ((∀ n, H'.get n = G.get n) ∧ H'.next = G.next)) : RowsD H.next H' v l := by
  rcases r with ⟨rfl, hf⟩ | ⟨h1, h2⟩
  · obtain ⟨vs, a1, a2, a3, a4⟩ := h
    rcases a2 with ⟨rfl, a2⟩ | ⟨b, n, rfl, _⟩
    · subst a2; exact ⟨[], a1, .inl ⟨rfl, rfl⟩, fun i x s h _ => by simp at h, fun i j b m m' _ h => by simp at h⟩
    · cases hf
  · exact h.to ⟨by omega, fun n _ => h1 n⟩
theorem RowsD.at {k0 : Nat} {G : Heap} {v : AV} {rows : List (List Int)} (h : RowsD k0 G v rows) : LstAt G v rows := h.rows.at
end
end Go.Ev

set_option maxRecDepth 100000
set_option linter.unusedSimpArgs false
set_option linter.unusedVariables false
namespace Go.Ev
open Go Go.Proofs
noncomputable section
def Pst.more (p : Pst) (er : Int) : Pst := ⟨p.errs ++ [er], p.gain, p.drop, p.fall, p.out, p.ahead⟩
def wz (ws : List Int) (j : Nat) : Int := ws.getD (j % ws.length) 0 % 1000
/-- The rows, each of the first ones with one number more. -/
def addR (ws : List Int) (i : Nat) (rows : List (List Int)) : List (List Int) := rows.mapIdx fun j r => if j < i then r ++ [wz ws j] else r
/-- Who may have failed without the gauge that came in last. -/
def lessF (p : Pst) (f : Int) : Int := if f = (p.errs.length : Int) then -1 else f
theorem Mine.up {k0 k1 : Nat} {G : Heap} {v : AV} {e : TypeId} {sz : Nat} {cs : List AV} (h : Mine k0 G v e sz cs) {b m : Nat} (hv : v = .opn b m) (hb : k1 ≤ b) : Mine k1 G v e sz cs := by
  rcases h with ⟨h, _⟩ | ⟨b', n, a1, a2, a3, a4, a5⟩
  · rw [h] at hv; cases hv
  · refine .inr ⟨b', n, a1, a2, a3, ?_, a5⟩
    rw [a1] at hv; cases hv; exact hb
theorem slAt_opn {b len sz n : Nat} (h : n < len) : slAt (.opn b len) sz n = some (b, n * sz) := by simp [slAt, h]
end
end Go.Ev

set_option maxRecDepth 100000
set_option linter.unusedSimpArgs false
set_option linter.unusedVariables false
namespace Go.Ev
open Go Go.Proofs
noncomputable section
end
end Go.Ev

set_option maxRecDepth 100000
set_option linter.unusedSimpArgs false
set_option linter.unusedVariables false
namespace Go.Ev
open Go Go.Proofs
noncomputable section
def Pst.later (p : Pst) (o : Int) : Pst := ⟨p.errs, p.gain, p.drop, p.fall, o, p.ahead⟩
def Trm.later (t : Trm) (o : Int) : Trm := ⟨o, t.price, t.hour, t.less, t.hold⟩
theorem later_step (p : Pst) (o f : Int) (x : Iv) (row : List Int) : stepI (p.later o) f x row = stepI p f x row := rfl
theorem later_fol (p : Pst) (o f : Int) : ∀ (rows : List (List Int)) (x : Iv), folW (p.later o) f rows x = folW p f rows x
  | [], _ => rfl
  | row :: rows, x => by
    unfold folW
    rw [later_step, later_fol p o f rows]
theorem later_may (p : Pst) (o f : Int) (rows : List (List Int)) : mayL (p.later o) f rows = mayL p f rows := later_fol p o f rows _
theorem later_lenM (p : Pst) (o : Int) (rows : List (List Int)) (i : Nat) : lenM (p.later o) rows i = lenM p rows i := by unfold lenM; rw [later_may]
theorem later_poss (p : Pst) (o : Int) (rows : List (List Int)) (r : Nat) : possB (p.later o) rows r = possB p rows r := by
  rw [Bool.eq_iff_iff, possB_iff, possB_iff]
  constructor <;> rintro ⟨i, h1, h2⟩
  · exact ⟨i, h1, by rw [← later_lenM p o]; exact h2⟩
  · exact ⟨i, h1, by rw [later_lenM]; exact h2⟩
theorem later_spd (p : Pst) (o : Int) (rows : List (List Int)) (h : Nat) : ∀ n, spdL (p.later o) rows h n = spdL p rows h n
  | 0 => rfl
  | n + 1 => by
    unfold spdL
    rw [later_spd p o rows h n, later_lenM, later_may]
theorem later_level {p : Pst} {o : Int} (x : Int) (h : p.out ≤ o) : levelI p x ≤ levelI (p.later o) x := by
  have e : leftI (p.later o) x = leftI p x := rfl
  have h0 : ∀ j, hrI p j ≤ hrI (p.later o) j := fun j => by
    show p.out + (j : Int) * p.ahead ≤ o + (j : Int) * p.ahead
    omega
  have h1 := h0 0
  have h2 := h0 1
  have h3 := h0 2
  unfold levelI
  rw [e]
  repeat' split
  all_goals omega
theorem later_fault {p : Pst} {rows : List (List Int)} {o : Int} (h : faultE p rows = 0) (ho : 0 ≤ o ∧ o ≤ 60) : faultE (p.later o) rows = 0 := by
  obtain ⟨h1, h2, h3, h4⟩ := faultE_facts h
  unfold faultE
  rw [if_pos, if_neg (by omega), if_pos]
  · rw [List.all_eq_true]
    intro r hr
    unfold goodB
    rw [Bool.and_eq_true, decide_eq_true_eq, List.all_eq_true]
    exact ⟨h3 r hr, fun x hx => by (have h9 := h4 r hr x hx); unfold inB; simp; exact h9⟩
  · unfold Pst.ok inB at h1 ⊢
    simp only [Bool.and_eq_true, decide_eq_true_eq, List.all_eq_true] at h1 ⊢
    obtain ⟨⟨⟨⟨⟨⟨a1, a2⟩, a3⟩, a4⟩, a5⟩, a6⟩, a7⟩ := h1
    exact ⟨⟨⟨⟨⟨⟨a1, a2⟩, a3⟩, a4⟩, a5⟩, ho⟩, a7⟩
theorem later_term {l : List Sea} {t : Trm} {o : Int} (h : termErr l t = 0) (ho : 0 ≤ o ∧ o ≤ 60) : termErr l (t.later o) = 0 := by
  unfold termErr at h ⊢
  by_cases h1 : seasErr l = 0
  · rw [if_neg (by simpa using h1)] at h ⊢
    by_cases h2 : (l.length : Int) = 0
    · rw [if_pos h2] at h; cases h
    · rw [if_neg h2] at h ⊢
      by_cases h3 : t.ok = true
      · rw [if_pos]
        unfold Trm.ok inB at h3 ⊢
        simp only [Bool.and_eq_true, decide_eq_true_eq] at h3 ⊢
        obtain ⟨⟨⟨⟨a1, a2⟩, a3⟩, a4⟩, a5⟩ := h3
        exact ⟨⟨⟨⟨ho, a2⟩, a3⟩, a4⟩, a5⟩
      · rw [if_neg h3] at h; cases h
  · rw [if_pos (by simpa using h1)] at h; exact absurd h h1
theorem later_prcL (t : Trm) (o : Int) (fell : Bool) (N : Nat) : ∀ L, prcL (t.later o) fell N L = prcL t fell N L
  | [] => rfl
  | x :: L => by
    unfold prcL
    rw [later_prcL t o fell N L]
    rfl
theorem later_sum (t : Trm) (o : Int) (r : Rul) (l : List Sea) : sumP (t.later o) r l = sumP t r l := by
  unfold sumP
  congr 1
  refine List.map_congr_left fun s _ => ?_
  unfold prcS
  exact later_prcL t o _ _ _
theorem later_all {t : Trm} {o : Int} {r : Rul} {l : List Sea} (ho : t.out ≤ o) (h : allT (t.later o) r l = true) : allT t r l = true := by
  unfold allT at h ⊢
  rw [List.all_eq_true] at h ⊢
  intro s hs
  have h1 := h s hs
  unfold fineS at h1 ⊢
  rw [Bool.or_eq_true, decide_eq_true_eq] at h1 ⊢
  have e : (t.later o).out = o := rfl
  rw [e] at h1
  exact h1.imp id (fun h => by omega)
theorem later_fine {t : Trm} {o : Int} {l : List Sea} {k : Nat} (ho : t.out ≤ o) (h : fineK (t.later o) l k = true) : fineK t l k = true := later_all ho h
theorem later_price (t : Trm) (o : Int) (l : List Sea) (k : Nat) : priceK (t.later o) l k = priceK t l k := later_sum t o _ l
/-- What Best answers. -/
theorem best_ex {l : List Sea} {t : Trm} (he : termErr l t = 0) (hl9 : l.length ≤ 10) (hs9 : ∀ s ∈ l, s.sp.length ≤ 60) (ht : t.ok = true) : ∃ (q : Rul) (pr e : Int), (∀ (m : Nat) (v : AV) (H : Heap), SeasG H v l → RR (m + 10) (.fn 49 [v, .agg t.c]) H = some (.tup [.agg q.c, I pr, I e], H)) ∧ ((e = 11 ∧ ∀ k, k ≤ 1000 → fineK t l k = false) ∨ ∃ st, e = 0 ∧ BestAt t l st ∧ pr = priceK t l st) := by
  rcases best_or t l with h | ⟨st, h⟩
  · exact ⟨⟨0, 0, 0⟩, 0, 11, fun m v H hS => c49F m v l t H hS he hl9 hs9 ht h, .inl ⟨rfl, h⟩⟩
  · exact ⟨ruleOf t (st : Int), priceK t l st, 0, fun m v H hS => c49T m v l t st H hS he hl9 hs9 ht h, .inr ⟨st, rfl, h, rfl⟩⟩
theorem c21U (m : Nat) (ev rv : AV) (p : Pst) (rows : List (List Int)) (n9 : Nat) (e9 : Int) (H : Heap) (hV : Ints H ev p.errs) (hRs : LstAt H rv rows) (hpl : p.errs.length ≤ 100000) (hrl : rows.length ≤ 100000) (hlens9 : ∀ r ∈ rows, r.length ≤ 100000) (hf : faultE p rows = 0) (h9 : (possB p rows rows.length = true ∧ n9 = rows.length ∧ e9 = 0) ∨ (possB p rows rows.length = false ∧ n9 = 0 ∧ e9 = 9)) : ∃ v H', RR (m + 7) (.fn 21 [.agg (p.c ev), rv]) H = some (v, H') ∧ ∃ xl, v = .tup [xl, I e9] ∧ Ret H H' ∧ Row H' xl 3 ((List.range n9).map (stc p rows)) := by
  rcases h9 with ⟨h1, h2, h3⟩ | ⟨h1, h2, h3⟩
  · subst h2 h3
    obtain ⟨v, H', a1, xl, a2, a3, a4⟩ := c21Y m ev rv p rows H hV hRs hpl hrl hlens9 hf h1
    exact ⟨v, H', a1, xl, a2, a3, a4.states⟩
  · subst h2 h3
    exact ⟨_, H, c21N m ev rv p rows H hV hRs hpl hrl hlens9 hf h1, .nils, rfl, Ret.refl H, (Mine.nil 0 H 45 3).states (p := p) (rows := rows) (n := 0)⟩
theorem bin_lssU8 (a b : Int) : bin .lss .u8 a .u8 b = some (.bool (decide (a < b))) := by show some (AV.bool (ltI a b)) = _; rw [ltI_eq]
end
end Go.Ev

set_option maxRecDepth 100000
set_option linter.unusedSimpArgs false
set_option linter.unusedVariables false
namespace Go.Ev
open Go Go.Proofs
noncomputable section
theorem c16W (m : Nat) (ev rv lv : AV) (p : Pst) (rows : List (List Int)) (l : List Sea) (t : Trm) (r : Rul) (mo : Int) (H : Heap) (hV : Ints H ev p.errs) (hRs : LstAt H rv rows) (hS : SeasAt H lv l) (hmo : 0 ≤ mo ∧ mo ≤ 255) (hrd : (thinB p rows && decide (faultE p rows = 0)) = false) : RR (m + 11) (.fn 16 [.agg (p.c ev), rv, lv, .agg t.c, .agg r.c, .int .u8 mo]) H = some (.bool true, H) := by
  refine (R_fn _ _ _ _ _).trans ?_
  refine fn_ok Try.func16 rfl rfl (by kernel_rfl) (by kernel_rfl) ?_
  obtain ⟨W, hW⟩ : ∃ W : Heap, W = ⟨H.t, H.next, H.next⟩ := ⟨_, rfl⟩
  have hg : ∀ n, W.get n = H.get n := fun n => by rw [hW]; rfl
  have hN : W.next = H.next := by rw [hW]
  have hE : ∀ G, Grow W G → Ext H G := fun G g => ⟨by rw [← hN]; exact g.next, fun n k => by rw [g.get n (by rw [hN]; exact k), hg]⟩
  have hG : Grow W W := Grow.refl (by rw [hW]; exact Nat.le_refl _)
  rw [← hW]
  have pev : ev.plain = true := lpl hV.len
  have hel := hV.len
  have hrlen := hRs.len
  have hslen := hS.len
  have plv : lv.plain = true := lpl hslen
  refine Ok.seq ?_
  refine Ok.region ?_
  refine OkO.box rfl rfl ?_
  refine OkO.box rfl rfl ?_
  refine OkO.box rfl rfl ?_
  refine OkO.assign rfl rfl ?_
  refine OkO.nil ?_
  refine Ok.seq ?_
  refine Ok.seq ?_
  refine Ok.region ?_
  refine OkO.load rfl rfl (ldg (n := 6) (by kernel_rfl) (by first | assumption | (simp (disch := first | omega | (simp only [hNw, hPt]; omega)) only [gn0, gn1, gn2, gn3, gn4, gn5, gp0, gno, gpo] <;> first | rfl | assumption | exact gp0 _ _ _ | exact gn0 _ _)) (by first | rfl | assumption)) ?_
  refine OkO.move rfl rfl ?_
  refine OkO.callV rfl rfl rfl rfl rfl ((c56 (m + 6) ev rv p rows _ (hV.ext (hE _ (by (try dsimp only); repeat (first | exact hG | apply Grow.new | (refine Grow.put ?_ _ (by first | omega | (simp only [hNw, hPt]; omega))))))) (hRs.ext (hE _ (by (try dsimp only); repeat (first | exact hG | apply Grow.new | (refine Grow.put ?_ _ (by first | omega | (simp only [hNw, hPt]; omega)))))))).trans (by rw [hrd])) ?_ -- "sackung/sackunglaw04.ready"
  refine OkO.un rfl rfl rfl ?_
  refine OkO.move rfl rfl ?_
  refine OkO.skip rfl ?_
  refine OkO.skip rfl ?_
  refine OkO.skip rfl ?_
  refine OkO.pick (b := true) rfl rfl (fun _ => rfl) nofun ?_
  refine OkO.move rfl rfl ?_
  refine OkO.skip rfl ?_
  refine OkO.skip rfl ?_
  refine OkO.skip rfl ?_
  refine OkO.skip rfl ?_
  refine OkO.pick (b := true) rfl rfl (fun _ => rfl) nofun ?_
  refine OkO.move rfl rfl ?_
  refine OkO.skip rfl ?_
  refine OkO.skip rfl ?_
  refine OkO.skip rfl ?_
  refine OkO.pick (b := true) rfl rfl (fun _ => rfl) nofun ?_
  refine OkO.nil ?_
  refine Ok.condT rfl ?_
  refine Ok.seq ?_
  refine Ok.region ?_
  refine OkO.callV rfl rfl rfl rfl rfl (rfl) ?_ -- "sackung/sackunglaw04.awake"
  refine OkO.assign rfl rfl ?_
  refine OkO.nil ?_
  refine Ok.ret ⟨.inr rfl, ?_⟩
  exact back_flat rfl rfl rfl (by rw [← hW]; exact (by (try dsimp only); repeat (first | exact hG | apply Grow.new | (refine Grow.put ?_ _ (by first | omega | (simp only [hNw, hPt]; omega))))))
theorem c16V (m : Nat) (ev rv lv : AV) (p : Pst) (rows : List (List Int)) (l : List Sea) (t : Trm) (r : Rul) (mo : Int) (H : Heap) (hV : Ints H ev p.errs) (hRs : LstAt H rv rows) (hS : SeasAt H lv l) (hmo : 0 ≤ mo ∧ mo ≤ 255) (hrd : (thinB p rows && decide (faultE p rows = 0)) = true) (hsh : shortL l = false) : RR (m + 11) (.fn 16 [.agg (p.c ev), rv, lv, .agg t.c, .agg r.c, .int .u8 mo]) H = some (.bool true, H) := by
  refine (R_fn _ _ _ _ _).trans ?_
  refine fn_ok Try.func16 rfl rfl (by kernel_rfl) (by kernel_rfl) ?_
  obtain ⟨W, hW⟩ : ∃ W : Heap, W = ⟨H.t, H.next, H.next⟩ := ⟨_, rfl⟩
  have hg : ∀ n, W.get n = H.get n := fun n => by rw [hW]; rfl
  have hN : W.next = H.next := by rw [hW]
  have hE : ∀ G, Grow W G → Ext H G := fun G g => ⟨by rw [← hN]; exact g.next, fun n k => by rw [g.get n (by rw [hN]; exact k), hg]⟩
  have hG : Grow W W := Grow.refl (by rw [hW]; exact Nat.le_refl _)
  rw [← hW]
  have pev : ev.plain = true := lpl hV.len
  have hel := hV.len
  have hrlen := hRs.len
  have hslen := hS.len
  have plv : lv.plain = true := lpl hslen
  refine Ok.seq ?_
  refine Ok.region ?_
  refine OkO.box rfl rfl ?_
  refine OkO.box rfl rfl ?_
  refine OkO.box rfl rfl ?_
  refine OkO.assign rfl rfl ?_
  refine OkO.nil ?_
  refine Ok.seq ?_
  refine Ok.seq ?_
  refine Ok.region ?_
  refine OkO.load rfl rfl (ldg (n := 6) (by kernel_rfl) (by first | assumption | (simp (disch := first | omega | (simp only [hNw, hPt]; omega)) only [gn0, gn1, gn2, gn3, gn4, gn5, gp0, gno, gpo] <;> first | rfl | assumption | exact gp0 _ _ _ | exact gn0 _ _)) (by first | rfl | assumption)) ?_
  refine OkO.move rfl rfl ?_
  refine OkO.callV rfl rfl rfl rfl rfl ((c56 (m + 6) ev rv p rows _ (hV.ext (hE _ (by (try dsimp only); repeat (first | exact hG | apply Grow.new | (refine Grow.put ?_ _ (by first | omega | (simp only [hNw, hPt]; omega))))))) (hRs.ext (hE _ (by (try dsimp only); repeat (first | exact hG | apply Grow.new | (refine Grow.put ?_ _ (by first | omega | (simp only [hNw, hPt]; omega)))))))).trans (by rw [hrd])) ?_ -- "sackung/sackunglaw04.ready"
  refine OkO.un rfl rfl rfl ?_
  refine OkO.move rfl rfl ?_
  refine OkO.move rfl rfl ?_
  refine OkO.callV rfl rfl rfl rfl rfl ((c43 (m + 9) lv l _ (hS.ext (hE _ (by (try dsimp only); repeat (first | exact hG | apply Grow.new | (refine Grow.put ?_ _ (by first | omega | (simp only [hNw, hPt]; omega)))))))).trans (by rw [hsh])) ?_ -- "sackung/sackunglaw04.Short"
  refine OkO.un rfl rfl rfl ?_
  refine OkO.pick (b := false) rfl rfl nofun (fun _ => rfl) ?_
  refine OkO.move rfl rfl ?_
  refine OkO.skip rfl ?_
  refine OkO.skip rfl ?_
  refine OkO.skip rfl ?_
  refine OkO.skip rfl ?_
  refine OkO.pick (b := true) rfl rfl (fun _ => rfl) nofun ?_
  refine OkO.move rfl rfl ?_
  refine OkO.skip rfl ?_
  refine OkO.skip rfl ?_
  refine OkO.skip rfl ?_
  refine OkO.pick (b := true) rfl rfl (fun _ => rfl) nofun ?_
  refine OkO.nil ?_
  refine Ok.condT rfl ?_
  refine Ok.seq ?_
  refine Ok.region ?_
  refine OkO.callV rfl rfl rfl rfl rfl (rfl) ?_ -- "sackung/sackunglaw04.awake"
  refine OkO.assign rfl rfl ?_
  refine OkO.nil ?_
  refine Ok.ret ⟨.inr rfl, ?_⟩
  exact back_flat rfl rfl rfl (by rw [← hW]; exact (by (try dsimp only); repeat (first | exact hG | apply Grow.new | (refine Grow.put ?_ _ (by first | omega | (simp only [hNw, hPt]; omega))))))
theorem c16U (m : Nat) (ev rv lv : AV) (p : Pst) (rows : List (List Int)) (l : List Sea) (t : Trm) (r : Rul) (mo : Int) (H : Heap) (hV : Ints H ev p.errs) (hRs : LstAt H rv rows) (hS : SeasAt H lv l) (hmo : 0 ≤ mo ∧ mo ≤ 255) (hrd : (thinB p rows && decide (faultE p rows = 0)) = true) (hsh : shortL l = true) (he : termErr l t ≠ 0) : RR (m + 11) (.fn 16 [.agg (p.c ev), rv, lv, .agg t.c, .agg r.c, .int .u8 mo]) H = some (.bool true, H) := by
  refine (R_fn _ _ _ _ _).trans ?_
  refine fn_ok Try.func16 rfl rfl (by kernel_rfl) (by kernel_rfl) ?_
  obtain ⟨W, hW⟩ : ∃ W : Heap, W = ⟨H.t, H.next, H.next⟩ := ⟨_, rfl⟩
  have hg : ∀ n, W.get n = H.get n := fun n => by rw [hW]; rfl
  have hN : W.next = H.next := by rw [hW]
  have hE : ∀ G, Grow W G → Ext H G := fun G g => ⟨by rw [← hN]; exact g.next, fun n k => by rw [g.get n (by rw [hN]; exact k), hg]⟩
  have hG : Grow W W := Grow.refl (by rw [hW]; exact Nat.le_refl _)
  rw [← hW]
  have pev : ev.plain = true := lpl hV.len
  have hel := hV.len
  have hrlen := hRs.len
  have hslen := hS.len
  have plv : lv.plain = true := lpl hslen
  have hsf := shortL_facts hsh
  refine Ok.seq ?_
  refine Ok.region ?_
  refine OkO.box rfl rfl ?_
  refine OkO.box rfl rfl ?_
  refine OkO.box rfl rfl ?_
  refine OkO.assign rfl rfl ?_
  refine OkO.nil ?_
  refine Ok.seq ?_
  refine Ok.seq ?_
  refine Ok.region ?_
  refine OkO.load rfl rfl (ldg (n := 6) (by kernel_rfl) (by first | assumption | (simp (disch := first | omega | (simp only [hNw, hPt]; omega)) only [gn0, gn1, gn2, gn3, gn4, gn5, gp0, gno, gpo] <;> first | rfl | assumption | exact gp0 _ _ _ | exact gn0 _ _)) (by first | rfl | assumption)) ?_
  refine OkO.move rfl rfl ?_
  refine OkO.callV rfl rfl rfl rfl rfl ((c56 (m + 6) ev rv p rows _ (hV.ext (hE _ (by (try dsimp only); repeat (first | exact hG | apply Grow.new | (refine Grow.put ?_ _ (by first | omega | (simp only [hNw, hPt]; omega))))))) (hRs.ext (hE _ (by (try dsimp only); repeat (first | exact hG | apply Grow.new | (refine Grow.put ?_ _ (by first | omega | (simp only [hNw, hPt]; omega)))))))).trans (by rw [hrd])) ?_ -- "sackung/sackunglaw04.ready"
  refine OkO.un rfl rfl rfl ?_
  refine OkO.move rfl rfl ?_
  refine OkO.move rfl rfl ?_
  refine OkO.callV rfl rfl rfl rfl rfl ((c43 (m + 9) lv l _ (hS.ext (hE _ (by (try dsimp only); repeat (first | exact hG | apply Grow.new | (refine Grow.put ?_ _ (by first | omega | (simp only [hNw, hPt]; omega)))))))).trans (by rw [hsh])) ?_ -- "sackung/sackunglaw04.Short"
  refine OkO.un rfl rfl rfl ?_
  refine OkO.pick (b := false) rfl rfl nofun (fun _ => rfl) ?_
  refine OkO.move rfl rfl ?_
  refine OkO.move rfl rfl ?_
  refine OkO.load rfl rfl (ldg (n := 5) (by kernel_rfl) (by first | assumption | (simp (disch := first | omega | (simp only [hNw, hPt]; omega)) only [gn0, gn1, gn2, gn3, gn4, gn5, gp0, gno, gpo] <;> first | rfl | assumption | exact gp0 _ _ _ | exact gn0 _ _)) (by first | rfl | assumption)) ?_
  refine OkO.callV rfl rfl rfl rfl rfl ((c47 (m + 3) lv l t _ (hS.ext (hE _ (by (try dsimp only); repeat (first | exact hG | apply Grow.new | (refine Grow.put ?_ _ (by first | omega | (simp only [hNw, hPt]; omega))))))) (by omega) (fun s hs => by have := hsf.2 s hs; omega))) ?_ -- "sackung/sackunglaw04.priced"
  refine OkO.bin rfl rfl rfl ((bin_neq _ _).trans (congrArg (fun b => some (AV.bool b)) (show _ = true from (by simpa using he)))) ?_
  refine OkO.pick (b := false) rfl rfl nofun (fun _ => rfl) ?_
  refine OkO.move rfl rfl ?_
  refine OkO.skip rfl ?_
  refine OkO.skip rfl ?_
  refine OkO.skip rfl ?_
  refine OkO.pick (b := true) rfl rfl (fun _ => rfl) nofun ?_
  refine OkO.nil ?_
  refine Ok.condT rfl ?_
  refine Ok.seq ?_
  refine Ok.region ?_
  refine OkO.callV rfl rfl rfl rfl rfl (rfl) ?_ -- "sackung/sackunglaw04.awake"
  refine OkO.assign rfl rfl ?_
  refine OkO.nil ?_
  refine Ok.ret ⟨.inr rfl, ?_⟩
  exact back_flat rfl rfl rfl (by rw [← hW]; exact (by (try dsimp only); repeat (first | exact hG | apply Grow.new | (refine Grow.put ?_ _ (by first | omega | (simp only [hNw, hPt]; omega))))))
theorem c16R (m : Nat) (ev rv lv : AV) (p : Pst) (rows : List (List Int)) (l : List Sea) (t : Trm) (r : Rul) (mo : Int) (H : Heap) (hV : Ints H ev p.errs) (hRs : LstAt H rv rows) (hS : SeasAt H lv l) (hmo : 0 ≤ mo ∧ mo ≤ 255) (hrd : (thinB p rows && decide (faultE p rows = 0)) = true) (hsh : shortL l = true) (he : termErr l t = 0) (hr : r.ok = false) : RR (m + 11) (.fn 16 [.agg (p.c ev), rv, lv, .agg t.c, .agg r.c, .int .u8 mo]) H = some (.bool true, H) := by
  refine (R_fn _ _ _ _ _).trans ?_
  refine fn_ok Try.func16 rfl rfl (by kernel_rfl) (by kernel_rfl) ?_
  obtain ⟨W, hW⟩ : ∃ W : Heap, W = ⟨H.t, H.next, H.next⟩ := ⟨_, rfl⟩
  have hg : ∀ n, W.get n = H.get n := fun n => by rw [hW]; rfl
  have hN : W.next = H.next := by rw [hW]
  have hE : ∀ G, Grow W G → Ext H G := fun G g => ⟨by rw [← hN]; exact g.next, fun n k => by rw [g.get n (by rw [hN]; exact k), hg]⟩
  have hG : Grow W W := Grow.refl (by rw [hW]; exact Nat.le_refl _)
  rw [← hW]
  have pev : ev.plain = true := lpl hV.len
  have hel := hV.len
  have hrlen := hRs.len
  have hslen := hS.len
  have plv : lv.plain = true := lpl hslen
  have hsf := shortL_facts hsh
  refine Ok.seq ?_
  refine Ok.region ?_
  refine OkO.box rfl rfl ?_
  refine OkO.box rfl rfl ?_
  refine OkO.box rfl rfl ?_
  refine OkO.assign rfl rfl ?_
  refine OkO.nil ?_
  refine Ok.seq ?_
  refine Ok.seq ?_
  refine Ok.region ?_
  refine OkO.load rfl rfl (ldg (n := 6) (by kernel_rfl) (by first | assumption | (simp (disch := first | omega | (simp only [hNw, hPt]; omega)) only [gn0, gn1, gn2, gn3, gn4, gn5, gp0, gno, gpo] <;> first | rfl | assumption | exact gp0 _ _ _ | exact gn0 _ _)) (by first | rfl | assumption)) ?_
  refine OkO.move rfl rfl ?_
  refine OkO.callV rfl rfl rfl rfl rfl ((c56 (m + 6) ev rv p rows _ (hV.ext (hE _ (by (try dsimp only); repeat (first | exact hG | apply Grow.new | (refine Grow.put ?_ _ (by first | omega | (simp only [hNw, hPt]; omega))))))) (hRs.ext (hE _ (by (try dsimp only); repeat (first | exact hG | apply Grow.new | (refine Grow.put ?_ _ (by first | omega | (simp only [hNw, hPt]; omega)))))))).trans (by rw [hrd])) ?_ -- "sackung/sackunglaw04.ready"
  refine OkO.un rfl rfl rfl ?_
  refine OkO.move rfl rfl ?_
  refine OkO.move rfl rfl ?_
  refine OkO.callV rfl rfl rfl rfl rfl ((c43 (m + 9) lv l _ (hS.ext (hE _ (by (try dsimp only); repeat (first | exact hG | apply Grow.new | (refine Grow.put ?_ _ (by first | omega | (simp only [hNw, hPt]; omega)))))))).trans (by rw [hsh])) ?_ -- "sackung/sackunglaw04.Short"
  refine OkO.un rfl rfl rfl ?_
  refine OkO.pick (b := false) rfl rfl nofun (fun _ => rfl) ?_
  refine OkO.move rfl rfl ?_
  refine OkO.move rfl rfl ?_
  refine OkO.load rfl rfl (ldg (n := 5) (by kernel_rfl) (by first | assumption | (simp (disch := first | omega | (simp only [hNw, hPt]; omega)) only [gn0, gn1, gn2, gn3, gn4, gn5, gp0, gno, gpo] <;> first | rfl | assumption | exact gp0 _ _ _ | exact gn0 _ _)) (by first | rfl | assumption)) ?_
  refine OkO.callV rfl rfl rfl rfl rfl ((c47 (m + 3) lv l t _ (hS.ext (hE _ (by (try dsimp only); repeat (first | exact hG | apply Grow.new | (refine Grow.put ?_ _ (by first | omega | (simp only [hNw, hPt]; omega))))))) (by omega) (fun s hs => by have := hsf.2 s hs; omega)).trans (by rw [he])) ?_ -- "sackung/sackunglaw04.priced"
  refine OkO.bin rfl rfl rfl ((bin_neq _ _).trans (congrArg (fun b => some (AV.bool b)) (show _ = false from (by rfl)))) ?_
  refine OkO.pick (b := false) rfl rfl nofun (fun _ => rfl) ?_
  refine OkO.move rfl rfl ?_
  refine OkO.load rfl rfl (ldg (n := 3) (by kernel_rfl) (by first | assumption | (simp (disch := first | omega | (simp only [hNw, hPt]; omega)) only [gn0, gn1, gn2, gn3, gn4, gn5, gp0, gno, gpo] <;> first | rfl | assumption | exact gp0 _ _ _ | exact gn0 _ _)) (by first | rfl | assumption)) ?_
  refine OkO.callV rfl rfl rfl rfl rfl ((c41 (m + 8) r _).trans (by rw [hr])) ?_ -- "sackung/sackungref04.RightRule"
  refine OkO.un rfl rfl rfl ?_
  refine OkO.pick (b := false) rfl rfl nofun (fun _ => rfl) ?_
  refine OkO.nil ?_
  refine Ok.condT rfl ?_
  refine Ok.seq ?_
  refine Ok.region ?_
  refine OkO.callV rfl rfl rfl rfl rfl (rfl) ?_ -- "sackung/sackunglaw04.awake"
  refine OkO.assign rfl rfl ?_
  refine OkO.nil ?_
  refine Ok.ret ⟨.inr rfl, ?_⟩
  exact back_flat rfl rfl rfl (by rw [← hW]; exact (by (try dsimp only); repeat (first | exact hG | apply Grow.new | (refine Grow.put ?_ _ (by first | omega | (simp only [hNw, hPt]; omega))))))
set_option maxHeartbeats 2000000 in
theorem c16Y (m : Nat) (ev rv lv : AV) (p : Pst) (rows : List (List Int)) (l : List Sea) (t : Trm) (r : Rul) (mo : Int) (H : Heap) (hV : Ints H ev p.errs) (hRs : LstAt H rv rows) (hS : SeasAt H lv l) (hmo : 0 ≤ mo ∧ mo ≤ 255) (hrd : (thinB p rows && decide (faultE p rows = 0)) = true) (hsh : shortL l = true) (he : termErr l t = 0) (hr : r.ok = true) (hto : 0 ≤ t.out ∧ t.out ≤ 60) (n9 : Nat) (e9 : Int) (hen : e9 = 0 → n9 = rows.length) (hne : (possB p rows rows.length = true ∧ n9 = rows.length ∧ e9 = 0) ∨ (possB p rows rows.length = false ∧ n9 = 0 ∧ e9 = 9)) (b1 b2 : Bool) (hb : b2 = true → b1 = true) (hA1 : allT t r l = b1) (hA2 : allT (t.later (min 60 (t.out + mo % 30))) r l = b2) (q1 q2 : Rul) (pr1 pr2 e1 e2 : Int) (hB1 : ∀ (m : Nat) (v : AV) (H : Heap), SeasG H v l → RR (m + 10) (.fn 49 [v, .agg t.c]) H = some (.tup [.agg q1.c, I pr1, I e1], H)) (hB2 : ∀ (m : Nat) (v : AV) (H : Heap), SeasG H v l → RR (m + 10) (.fn 49 [v, .agg (t.later (min 60 (t.out + mo % 30))).c]) H = some (.tup [.agg q2.c, I pr2, I e2], H)) (h12 : (e2 = 11 ∧ (e1 = 0 ∨ e1 = 11)) ∨ (e2 = 0 ∧ e1 = 0 ∧ pr1 ≤ pr2)) : RR (m + 11) (.fn 16 [.agg (p.c ev), rv, lv, .agg t.c, .agg r.c, .int .u8 mo]) H = some (.bool true, H) := by
  refine (R_fn _ _ _ _ _).trans ?_
  refine fn_ok Try.func16 rfl rfl (by kernel_rfl) (by kernel_rfl) ?_
  obtain ⟨W, hW⟩ : ∃ W : Heap, W = ⟨H.t, H.next, H.next⟩ := ⟨_, rfl⟩
  have hg : ∀ n, W.get n = H.get n := fun n => by rw [hW]; rfl
  have hN : W.next = H.next := by rw [hW]
  have hE : ∀ G, Grow W G → Ext H G := fun G g => ⟨by rw [← hN]; exact g.next, fun n k => by rw [g.get n (by rw [hN]; exact k), hg]⟩
  have hG : Grow W W := Grow.refl (by rw [hW]; exact Nat.le_refl _)
  rw [← hW]
  have pev : ev.plain = true := lpl hV.len
  have hel := hV.len
  have hrlen := hRs.len
  have hslen := hS.len
  have plv : lv.plain = true := lpl hslen
  have hth : thinB p rows = true := by rw [Bool.and_eq_true] at hrd; exact hrd.1
  have hf : faultE p rows = 0 := by rw [Bool.and_eq_true, decide_eq_true_eq] at hrd; exact hrd.2
  obtain ⟨ht1, ht2, ht3⟩ := thin_facts hth
  have ht4 : ∀ r ∈ rows, r.length ≤ 100000 := fun r hr => by have := ht3 r hr; omega
  obtain ⟨⟨hp1, hp2⟩, hpe, hpg, hpd, hpf, hpo1, hpo2⟩ := Pst.ok_facts (faultE_facts hf).1
  have hsf := shortL_facts hsh
  have hfT := termErr_facts he
  have ho1 : 0 ≤ (min 60 (p.out + mo % 30)) ∧ (min 60 (p.out + mo % 30)) ≤ 60 := by omega
  have ho2 : 0 ≤ (min 60 (t.out + mo % 30)) ∧ (min 60 (t.out + mo % 30)) ≤ 60 := by omega
  refine Ok.seq ?_
  refine Ok.region ?_
  refine OkO.box rfl rfl ?_
  refine OkO.box rfl rfl ?_
  refine OkO.box rfl rfl ?_
  refine OkO.assign rfl rfl ?_
  refine OkO.nil ?_
  refine Ok.seq ?_
  refine Ok.seq ?_
  refine Ok.region ?_
  refine OkO.load rfl rfl (ldg (n := 6) (by kernel_rfl) (by first | assumption | (simp (disch := first | omega | (simp only [hNw, hPt]; omega)) only [gn0, gn1, gn2, gn3, gn4, gn5, gp0, gno, gpo] <;> first | rfl | assumption | exact gp0 _ _ _ | exact gn0 _ _)) (by first | rfl | assumption)) ?_
  refine OkO.move rfl rfl ?_
  refine OkO.callV rfl rfl rfl rfl rfl ((c56 (m + 6) ev rv p rows _ (hV.ext (hE _ (by (try dsimp only); repeat (first | exact hG | apply Grow.new | (refine Grow.put ?_ _ (by first | omega | (simp only [hNw, hPt]; omega))))))) (hRs.ext (hE _ (by (try dsimp only); repeat (first | exact hG | apply Grow.new | (refine Grow.put ?_ _ (by first | omega | (simp only [hNw, hPt]; omega)))))))).trans (by rw [hrd])) ?_ -- "sackung/sackunglaw04.ready"
  refine OkO.un rfl rfl rfl ?_
  refine OkO.move rfl rfl ?_
  refine OkO.move rfl rfl ?_
  refine OkO.callV rfl rfl rfl rfl rfl ((c43 (m + 9) lv l _ (hS.ext (hE _ (by (try dsimp only); repeat (first | exact hG | apply Grow.new | (refine Grow.put ?_ _ (by first | omega | (simp only [hNw, hPt]; omega)))))))).trans (by rw [hsh])) ?_ -- "sackung/sackunglaw04.Short"
  refine OkO.un rfl rfl rfl ?_
  refine OkO.pick (b := false) rfl rfl nofun (fun _ => rfl) ?_
  refine OkO.move rfl rfl ?_
  refine OkO.move rfl rfl ?_
  refine OkO.load rfl rfl (ldg (n := 5) (by kernel_rfl) (by first | assumption | (simp (disch := first | omega | (simp only [hNw, hPt]; omega)) only [gn0, gn1, gn2, gn3, gn4, gn5, gp0, gno, gpo] <;> first | rfl | assumption | exact gp0 _ _ _ | exact gn0 _ _)) (by first | rfl | assumption)) ?_
  refine OkO.callV rfl rfl rfl rfl rfl ((c47 (m + 3) lv l t _ (hS.ext (hE _ (by (try dsimp only); repeat (first | exact hG | apply Grow.new | (refine Grow.put ?_ _ (by first | omega | (simp only [hNw, hPt]; omega))))))) (by omega) (fun s hs => by have := hsf.2 s hs; omega)).trans (by rw [he])) ?_ -- "sackung/sackunglaw04.priced"
  refine OkO.bin rfl rfl rfl ((bin_neq _ _).trans (congrArg (fun b => some (AV.bool b)) (show _ = false from (by rfl)))) ?_
  refine OkO.pick (b := false) rfl rfl nofun (fun _ => rfl) ?_
  refine OkO.move rfl rfl ?_
  refine OkO.load rfl rfl (ldg (n := 3) (by kernel_rfl) (by first | assumption | (simp (disch := first | omega | (simp only [hNw, hPt]; omega)) only [gn0, gn1, gn2, gn3, gn4, gn5, gp0, gno, gpo] <;> first | rfl | assumption | exact gp0 _ _ _ | exact gn0 _ _)) (by first | rfl | assumption)) ?_
  refine OkO.callV rfl rfl rfl rfl rfl ((c41 (m + 8) r _).trans (by rw [hr])) ?_ -- "sackung/sackungref04.RightRule"
  refine OkO.un rfl rfl rfl ?_
  refine OkO.pick (b := false) rfl rfl nofun (fun _ => rfl) ?_
  refine OkO.nil ?_
  refine Ok.condF rfl ?_
  refine Ok.skip ?_
  refine Ok.seq ?_
  refine Ok.drawn [(0, true, []), (2, true, []), (4, true, [2, 0]), (5, true, [2, 0]), (1, false, [2]), (3, false, [0]), (6, false, [2]), (7, false, [])] (by kernel_rfl) ?_
  refine OkP.step ?_
  refine OkO.load rfl rfl (ldg (n := 6) (by kernel_rfl) (by first | assumption | (simp (disch := first | omega | (simp only [hNw, hPt]; omega)) only [gn0, gn1, gn2, gn3, gn4, gn5, gp0, gno, gpo] <;> first | rfl | assumption | exact gp0 _ _ _ | exact gn0 _ _)) (by first | rfl | assumption)) ?_
  refine OkO.nil ⟨rfl, ?_⟩
  refine OkP.step ?_
  refine OkO.load rfl rfl (ldg (n := 5) (by kernel_rfl) (by first | assumption | (simp (disch := first | omega | (simp only [hNw, hPt]; omega)) only [gn0, gn1, gn2, gn3, gn4, gn5, gp0, gno, gpo] <;> first | rfl | assumption | exact gp0 _ _ _ | exact gn0 _ _)) (by first | rfl | assumption)) ?_
  refine OkO.nil ⟨rfl, ?_⟩
  refine OkP.step ?_
  refine OkO.alloc (z := [.nils, .int .i64 0, .int .i64 0, .int .i64 0, .int .i64 0, .int .i64 0]) rfl (by kernel_rfl) ?_
  refine OkO.nil ⟨(sco (sld rfl rfl (ldg (n := 5) (by kernel_rfl) (by first | assumption | (simp (disch := first | omega | (simp only [hNw, hPt]; omega)) only [gn0, gn1, gn2, gn3, gn4, gn5, gp0, gno, gpo] <;> first | rfl | assumption | exact gp0 _ _ _ | exact gn0 _ _)) (by first | rfl | assumption)) rfl (eqr _ (by first | rfl | exact lpl (by assumption) | (simp [AV.plain, AV.plains, AV.cells, pev, Pst.c])))) (sco (sld rfl rfl (ldg (n := 6) (by kernel_rfl) (by first | assumption | (simp (disch := first | omega | (simp only [hNw, hPt]; omega)) only [gn0, gn1, gn2, gn3, gn4, gn5, gp0, gno, gpo] <;> first | rfl | assumption | exact gp0 _ _ _ | exact gn0 _ _)) (by first | rfl | assumption)) rfl (eqr _ (by first | rfl | exact lpl (by assumption) | (simp [AV.plain, AV.plains, AV.cells, pev, Pst.c])))) rfl)), ?_⟩
  refine OkP.step ?_
  refine OkO.alloc (z := [.int .i64 0, .int .i64 0, .int .i64 0, .int .i64 0, .int .i64 0]) rfl (by kernel_rfl) ?_
  refine OkO.nil ⟨(sco (sld rfl rfl (ldg (n := 5) (by kernel_rfl) (by first | assumption | (simp (disch := first | omega | (simp only [hNw, hPt]; omega)) only [gn0, gn1, gn2, gn3, gn4, gn5, gp0, gno, gpo] <;> first | rfl | assumption | exact gp0 _ _ _ | exact gn0 _ _)) (by first | rfl | assumption)) rfl (eqr _ (by first | rfl | exact lpl (by assumption) | (simp [AV.plain, AV.plains, AV.cells, pev, Pst.c])))) (sco (sld rfl rfl (ldg (n := 6) (by kernel_rfl) (by first | assumption | (simp (disch := first | omega | (simp only [hNw, hPt]; omega)) only [gn0, gn1, gn2, gn3, gn4, gn5, gp0, gno, gpo] <;> first | rfl | assumption | exact gp0 _ _ _ | exact gn0 _ _)) (by first | rfl | assumption)) rfl (eqr _ (by first | rfl | exact lpl (by assumption) | (simp [AV.plain, AV.plains, AV.cells, pev, Pst.c])))) rfl)), ?_⟩
  refine OkP.step ?_
  refine OkO.callE rfl rfl rfl rfl rfl (c20 (m + 8) ev p _ (hV.ext (hE _ (by (try dsimp only); repeat (first | exact hG | apply Grow.new | (refine Grow.put ?_ _ (by first | omega | (simp only [hNw, hPt]; omega))))))) (by omega)) ?_ -- "sackung/sackunglaw04.Post"
  rintro _ Ha ⟨xa, rfl, qa, ma⟩
  have n1 := qa.ext.next
  try simp only [hNw, hPt] at n1
  have gg1 : Grow W Ha := Grow.ret (by (try dsimp only); repeat (first | exact hG | apply Grow.new | (refine Grow.put ?_ _ (by first | omega | (simp only [hNw, hPt]; omega))))) qa
  have a1 : (Ha.get (W.next)).bind AObj.cs = some (p.c ev) := by rw [qa.ext.get _ (by first | omega | (simp only [hNw, hPt]; omega))]; first | assumption | (rw [gn0]; rfl) | (rw [get_put_eq] <;> rfl) | (simp (disch := first | omega | (simp only [hNw, hPt]; omega)) only [gn0, gn1, gn2, gn3, gn4, gn5, gp0, gno, gpo] <;> first | rfl | assumption | (rw [get_put_eq] <;> rfl))
  have kt1 : (Ha.get (W.next + 1)).bind AObj.cs = some t.c := by rw [qa.ext.get _ (by first | omega | (simp only [hNw, hPt]; omega))]; first | assumption | (rw [gn0]; rfl) | (rw [get_put_eq] <;> rfl) | (simp (disch := first | omega | (simp only [hNw, hPt]; omega)) only [gn0, gn1, gn2, gn3, gn4, gn5, gp0, gno, gpo] <;> first | rfl | assumption | (rw [get_put_eq] <;> rfl))
  have kr1 : (Ha.get (W.next + 2)).bind AObj.cs = some r.c := by rw [qa.ext.get _ (by first | omega | (simp only [hNw, hPt]; omega))]; first | assumption | (rw [gn0]; rfl) | (rw [get_put_eq] <;> rfl) | (simp (disch := first | omega | (simp only [hNw, hPt]; omega)) only [gn0, gn1, gn2, gn3, gn4, gn5, gp0, gno, gpo] <;> first | rfl | assumption | (rw [get_put_eq] <;> rfl))
  have zb1 : Ha.get (W.next + 3) = some (.cells [.nils, I 0, I 0, I 0, I 0, I 0] 30) := by rw [qa.ext.get _ (by first | omega | (simp only [hNw, hPt]; omega))]; first | assumption | exact gn0 _ _ | (simp (disch := first | omega | (simp only [hNw, hPt]; omega)) only [gn0, gn1, gn2, gn3, gn4, gn5, gp0, gno, gpo] <;> first | rfl | assumption | exact gp0 _ _ _ | exact gn0 _ _)
  have zg1 : Ha.get (W.next + 4) = some (.cells [I 0, I 0, I 0, I 0, I 0] 86) := by rw [qa.ext.get _ (by first | omega | (simp only [hNw, hPt]; omega))]; first | assumption | exact gn0 _ _ | (simp (disch := first | omega | (simp only [hNw, hPt]; omega)) only [gn0, gn1, gn2, gn3, gn4, gn5, gp0, gno, gpo] <;> first | rfl | assumption | exact gp0 _ _ _ | exact gn0 _ _)
  have ia := ma.ints
  have pla : xa.plain = true := lpl ia.len
  have oa := ma.one
  refine OkO.nil ⟨(sco (sld rfl rfl (ldg (n := 5) (by kernel_rfl) (by first | assumption | (simp (disch := first | omega | (simp only [hNw, hPt]; omega)) only [gn0, gn1, gn2, gn3, gn4, gn5, gp0, gno, gpo] <;> first | rfl | assumption | exact gp0 _ _ _ | exact gn0 _ _)) (by first | rfl | assumption)) rfl (eqr _ (by first | rfl | exact lpl (by assumption) | (simp [AV.plain, AV.plains, AV.cells, pev, pla, Pst.c, Pst.later])))) rfl), ?_⟩
  refine OkP.step ?_
  refine OkO.callV rfl rfl rfl rfl rfl (c46 (m + 9) t _) ?_ -- "sackung/sackunglaw04.Terms"
  refine OkO.nil ⟨(sco (sld rfl rfl (ldg (n := 6) (by kernel_rfl) (by first | assumption | (simp (disch := first | omega | (simp only [hNw, hPt]; omega)) only [gn0, gn1, gn2, gn3, gn4, gn5, gp0, gno, gpo] <;> first | rfl | assumption | exact gp0 _ _ _ | exact gn0 _ _)) (by first | rfl | assumption)) rfl (eqr _ (by first | rfl | exact lpl (by assumption) | (simp [AV.plain, AV.plains, AV.cells, pev, pla, Pst.c, Pst.later])))) rfl), ?_⟩
  refine OkP.step ?_
  refine OkO.store rfl rfl rfl (sAc (n := 6) (ag := true) (by kernel_rfl) (by first | assumption | (simp (disch := first | omega | (simp only [hNw, hPt]; omega)) only [gn0, gn1, gn2, gn3, gn4, gn5, gp0, gno, gpo] <;> first | rfl | assumption | exact gp0 _ _ _ | exact gn0 _ _)) rfl (by first | rfl | assumption | exact (by show atoms [xa, I p.gain, I p.drop, I p.fall, I p.out, I p.ahead] = true; simp [atoms, oa.2, show ∀ z, (I z).atom = true from fun _ => rfl])) (by first | rfl | exact spl_set _ _ _ (by first | assumption | omega | (simp; omega)))) ?_
  refine OkO.nil ⟨(sco (sld rfl rfl (ldg (n := 5) (by kernel_rfl) (by first | assumption | (simp (disch := first | omega | (simp only [hNw, hPt]; omega)) only [gn0, gn1, gn2, gn3, gn4, gn5, gp0, gno, gpo] <;> first | rfl | assumption | exact gp0 _ _ _ | exact gn0 _ _)) (by first | rfl | assumption)) rfl (eqr _ (by first | rfl | exact lpl (by assumption) | (simp [AV.plain, AV.plains, AV.cells, pev, pla, Pst.c, Pst.later])))) rfl), ?_⟩
  refine OkP.step ?_
  refine OkO.store rfl rfl rfl (sAc (n := 5) (ag := true) (by kernel_rfl) (by first | assumption | (simp (disch := first | omega | (simp only [hNw, hPt]; omega)) only [gn0, gn1, gn2, gn3, gn4, gn5, gp0, gno, gpo] <;> first | rfl | assumption | exact gp0 _ _ _ | exact gn0 _ _)) rfl (by first | rfl | assumption | exact (by show atoms [xa, I p.gain, I p.drop, I p.fall, I p.out, I p.ahead] = true; simp [atoms, oa.2, show ∀ z, (I z).atom = true from fun _ => rfl])) (by first | rfl | exact spl_set _ _ _ (by first | assumption | omega | (simp; omega)))) ?_
  refine OkO.nil ⟨rfl, ?_⟩
  refine OkP.nil ?_
  refine Ok.seq ?_
  refine Ok.drawn [(0, true, []), (1, true, []), (2, true, []), (3, true, []), (4, true, []), (5, true, []), (6, true, []), (7, true, []), (8, true, []), (9, true, []), (10, true, []), (11, true, []), (12, true, []), (13, true, []), (14, true, []), (15, false, [8]), (16, true, []), (17, false, [])] (by kernel_rfl) ?_
  refine OkP.step ?_
  refine OkO.fieldAddr (o := 4) rfl (by kernel_rfl) rfl ?_
  refine OkO.nil ⟨rfl, ?_⟩
  refine OkP.step ?_
  refine OkO.load rfl rfl (lda (n := 1) (by kernel_rfl) (by first | assumption | (simp (disch := first | omega | (simp only [hNw, hPt]; omega)) only [gn0, gn1, gn2, gn3, gn4, gn5, gp0, gno, gpo] <;> first | rfl | assumption | exact gp0 _ _ _ | exact gn0 _ _)) (by first | rfl | assumption)) ?_
  refine OkO.nil ⟨rfl, ?_⟩
  refine OkP.step ?_
  refine OkO.move rfl rfl ?_
  refine OkO.nil ⟨rfl, ?_⟩
  refine OkP.step ?_
  refine OkO.convert (k := .i64) rfl (by kernel_rfl) rfl (wrapF_i64 (by omega) (by omega)) ?_
  refine OkO.nil ⟨rfl, ?_⟩
  refine OkP.step ?_
  refine OkO.bin rfl rfl rfl (bin_rem (by omega) (by omega)) ?_
  refine OkO.nil ⟨rfl, ?_⟩
  refine OkP.step ?_
  refine OkO.bin rfl rfl rfl (bin_add (by omega) (by omega)) ?_
  refine OkO.nil ⟨rfl, ?_⟩
  refine OkP.step ?_
  refine OkO.builtin rfl rfl rfl (builtin_min2 _ _) ?_
  refine OkO.nil ⟨rfl, ?_⟩
  refine OkP.step ?_
  refine OkO.fieldAddr (o := 0) rfl (by kernel_rfl) rfl ?_
  refine OkO.nil ⟨rfl, ?_⟩
  refine OkP.step ?_
  refine OkO.load rfl rfl (lda (n := 1) (by kernel_rfl) (by first | assumption | (simp (disch := first | omega | (simp only [hNw, hPt]; omega)) only [gn0, gn1, gn2, gn3, gn4, gn5, gp0, gno, gpo] <;> first | rfl | assumption | exact gp0 _ _ _ | exact gn0 _ _)) (by first | rfl | assumption)) ?_
  refine OkO.nil ⟨rfl, ?_⟩
  refine OkP.step ?_
  refine OkO.move rfl rfl ?_
  refine OkO.nil ⟨rfl, ?_⟩
  refine OkP.step ?_
  refine OkO.convert (k := .i64) rfl (by kernel_rfl) rfl (wrapF_i64 (by omega) (by omega)) ?_
  refine OkO.nil ⟨rfl, ?_⟩
  refine OkP.step ?_
  refine OkO.bin rfl rfl rfl (bin_rem (by omega) (by omega)) ?_
  refine OkO.nil ⟨rfl, ?_⟩
  refine OkP.step ?_
  refine OkO.bin rfl rfl rfl (bin_add (by omega) (by omega)) ?_
  refine OkO.nil ⟨rfl, ?_⟩
  refine OkP.step ?_
  refine OkO.builtin rfl rfl rfl (builtin_min2 _ _) ?_
  refine OkO.nil ⟨rfl, ?_⟩
  refine OkP.step ?_
  refine OkO.fieldAddr (o := 4) rfl (by kernel_rfl) rfl ?_
  refine OkO.nil ⟨rfl, ?_⟩
  refine OkP.step ?_
  refine OkO.store rfl rfl rfl (sAc (n := 1) (ag := false) (by kernel_rfl) (by first | assumption | (simp (disch := first | omega | (simp only [hNw, hPt]; omega)) only [gn0, gn1, gn2, gn3, gn4, gn5, gp0, gno, gpo] <;> first | rfl | assumption | exact gp0 _ _ _ | exact gn0 _ _)) rfl (by first | rfl | assumption | exact (by show atoms [xa, I p.gain, I p.drop, I p.fall, I p.out, I p.ahead] = true; simp [atoms, oa.2, show ∀ z, (I z).atom = true from fun _ => rfl])) (by first | rfl | exact spl_set _ _ _ (by first | assumption | omega | (simp; omega)))) ?_
  refine OkO.nil ⟨(sco (sld rfl rfl (lda (n := 1) (by kernel_rfl) (by first | assumption | (simp (disch := first | omega | (simp only [hNw, hPt]; omega)) only [gn0, gn1, gn2, gn3, gn4, gn5, gp0, gno, gpo] <;> first | rfl | assumption | exact gp0 _ _ _ | exact gn0 _ _)) (by first | rfl | assumption)) rfl (eqr _ (by first | rfl | exact lpl (by assumption) | (simp [AV.plain, AV.plains, AV.cells, pev, pla, Pst.c, Pst.later])))) rfl), ?_⟩
  refine OkP.step ?_
  refine OkO.fieldAddr (o := 0) rfl (by kernel_rfl) rfl ?_
  refine OkO.nil ⟨rfl, ?_⟩
  refine OkP.step ?_
  refine OkO.store rfl rfl rfl (sAc (n := 1) (ag := false) (by kernel_rfl) (by first | assumption | (simp (disch := first | omega | (simp only [hNw, hPt]; omega)) only [gn0, gn1, gn2, gn3, gn4, gn5, gp0, gno, gpo] <;> first | rfl | assumption | exact gp0 _ _ _ | exact gn0 _ _)) rfl (by first | rfl | assumption | exact (by show atoms [xa, I p.gain, I p.drop, I p.fall, I p.out, I p.ahead] = true; simp [atoms, oa.2, show ∀ z, (I z).atom = true from fun _ => rfl])) (by first | rfl | exact spl_set _ _ _ (by first | assumption | omega | (simp; omega)))) ?_
  refine OkO.nil ⟨rfl, ?_⟩
  refine OkP.nil ?_
  refine Ok.seq ?_
  refine Ok.region ?_
  refine OkO.load rfl rfl (ldg (n := 6) (by kernel_rfl) (by first | assumption | (simp (disch := first | omega | (simp only [hNw, hPt]; omega)) only [gn0, gn1, gn2, gn3, gn4, gn5, gp0, gno, gpo] <;> first | rfl | assumption | exact gp0 _ _ _ | exact gn0 _ _)) (by first | rfl | assumption)) ?_
  refine OkO.callE rfl rfl rfl rfl rfl (c20 (m + 8) ev p _ (hV.ext (hE _ (by (try dsimp only); repeat (first | exact gg1 | apply Grow.new | (refine Grow.put ?_ _ (by first | omega | (simp only [hNw, hPt]; omega))))))) (by omega)) ?_ -- "sackung/sackunglaw04.Post"
  rintro _ Hc ⟨xc, rfl, qc, mc⟩
  have n2 := qc.ext.next
  try simp only [hNw, hPt] at n2
  have gg2 : Grow W Hc := Grow.ret (by (try dsimp only); repeat (first | exact gg1 | apply Grow.new | (refine Grow.put ?_ _ (by first | omega | (simp only [hNw, hPt]; omega))))) qc
  have a2 : (Hc.get (W.next)).bind AObj.cs = some (p.c ev) := by rw [qc.ext.get _ (by first | omega | (simp only [hNw, hPt]; omega))]; first | assumption | (rw [gn0]; rfl) | (rw [get_put_eq] <;> rfl) | (simp (disch := first | omega | (simp only [hNw, hPt]; omega)) only [gn0, gn1, gn2, gn3, gn4, gn5, gp0, gno, gpo] <;> first | rfl | assumption | (rw [get_put_eq] <;> rfl))
  have kt2 : (Hc.get (W.next + 1)).bind AObj.cs = some t.c := by rw [qc.ext.get _ (by first | omega | (simp only [hNw, hPt]; omega))]; first | assumption | (rw [gn0]; rfl) | (rw [get_put_eq] <;> rfl) | (simp (disch := first | omega | (simp only [hNw, hPt]; omega)) only [gn0, gn1, gn2, gn3, gn4, gn5, gp0, gno, gpo] <;> first | rfl | assumption | (rw [get_put_eq] <;> rfl))
  have kr2 : (Hc.get (W.next + 2)).bind AObj.cs = some r.c := by rw [qc.ext.get _ (by first | omega | (simp only [hNw, hPt]; omega))]; first | assumption | (rw [gn0]; rfl) | (rw [get_put_eq] <;> rfl) | (simp (disch := first | omega | (simp only [hNw, hPt]; omega)) only [gn0, gn1, gn2, gn3, gn4, gn5, gp0, gno, gpo] <;> first | rfl | assumption | (rw [get_put_eq] <;> rfl))
  have kb2 : (Hc.get (W.next + 3)).bind AObj.cs = some ((p.later (min 60 (p.out + mo % 30))).c xa) := by rw [qc.ext.get _ (by first | omega | (simp only [hNw, hPt]; omega))]; first | assumption | (rw [gn0]; rfl) | (rw [get_put_eq] <;> rfl) | (simp (disch := first | omega | (simp only [hNw, hPt]; omega)) only [gn0, gn1, gn2, gn3, gn4, gn5, gp0, gno, gpo] <;> first | rfl | assumption | (rw [get_put_eq] <;> rfl))
  have kg2 : (Hc.get (W.next + 4)).bind AObj.cs = some (t.later (min 60 (t.out + mo % 30))).c := by rw [qc.ext.get _ (by first | omega | (simp only [hNw, hPt]; omega))]; first | assumption | (rw [gn0]; rfl) | (rw [get_put_eq] <;> rfl) | (simp (disch := first | omega | (simp only [hNw, hPt]; omega)) only [gn0, gn1, gn2, gn3, gn4, gn5, gp0, gno, gpo] <;> first | rfl | assumption | (rw [get_put_eq] <;> rfl))
  have ic := mc.ints
  have plc : xc.plain = true := lpl ic.len
  have oc := mc.one
  have mxa : Mine W.next Hc xa 3 1 (p.errs.map I) := by
    refine Mine.to ?_ qc.ext
    exact ((((ma.put _ (by simp only [hNw]; omega)).put _ (by simp only [hNw]; omega)).put _ (by simp only [hNw]; omega)).put _ (by simp only [hNw]; omega)).low (by simp only [hNw]; omega)
  have iax := mxa.ints
  refine OkO.move rfl rfl ?_
  refine OkO.callE rfl rfl rfl rfl rfl (c22 (m + 8) rv rows _ (hRs.ext (hE _ (by (try dsimp only); repeat (first | exact gg2 | apply Grow.new | (refine Grow.put ?_ _ (by first | omega | (simp only [hNw, hPt]; omega))))))) (by omega) ht4) ?_ -- "sackung/sackunglaw04.rows"
  rintro xd Hd ⟨qd, md⟩
  have n3 := qd.ext.next
  try simp only [hNw, hPt] at n3
  have gg3 : Grow W Hd := Grow.ret (by (try dsimp only); repeat (first | exact gg2 | apply Grow.new | (refine Grow.put ?_ _ (by first | omega | (simp only [hNw, hPt]; omega))))) qd
  have a3 : (Hd.get (W.next)).bind AObj.cs = some (p.c ev) := by rw [qd.ext.get _ (by first | omega | (simp only [hNw, hPt]; omega))]; first | assumption | (rw [gn0]; rfl) | (rw [get_put_eq] <;> rfl) | (simp (disch := first | omega | (simp only [hNw, hPt]; omega)) only [gn0, gn1, gn2, gn3, gn4, gn5, gp0, gno, gpo] <;> first | rfl | assumption | (rw [get_put_eq] <;> rfl))
  have kt3 : (Hd.get (W.next + 1)).bind AObj.cs = some t.c := by rw [qd.ext.get _ (by first | omega | (simp only [hNw, hPt]; omega))]; first | assumption | (rw [gn0]; rfl) | (rw [get_put_eq] <;> rfl) | (simp (disch := first | omega | (simp only [hNw, hPt]; omega)) only [gn0, gn1, gn2, gn3, gn4, gn5, gp0, gno, gpo] <;> first | rfl | assumption | (rw [get_put_eq] <;> rfl))
  have kr3 : (Hd.get (W.next + 2)).bind AObj.cs = some r.c := by rw [qd.ext.get _ (by first | omega | (simp only [hNw, hPt]; omega))]; first | assumption | (rw [gn0]; rfl) | (rw [get_put_eq] <;> rfl) | (simp (disch := first | omega | (simp only [hNw, hPt]; omega)) only [gn0, gn1, gn2, gn3, gn4, gn5, gp0, gno, gpo] <;> first | rfl | assumption | (rw [get_put_eq] <;> rfl))
  have kb3 : (Hd.get (W.next + 3)).bind AObj.cs = some ((p.later (min 60 (p.out + mo % 30))).c xa) := by rw [qd.ext.get _ (by first | omega | (simp only [hNw, hPt]; omega))]; first | assumption | (rw [gn0]; rfl) | (rw [get_put_eq] <;> rfl) | (simp (disch := first | omega | (simp only [hNw, hPt]; omega)) only [gn0, gn1, gn2, gn3, gn4, gn5, gp0, gno, gpo] <;> first | rfl | assumption | (rw [get_put_eq] <;> rfl))
  have kg3 : (Hd.get (W.next + 4)).bind AObj.cs = some (t.later (min 60 (t.out + mo % 30))).c := by rw [qd.ext.get _ (by first | omega | (simp only [hNw, hPt]; omega))]; first | assumption | (rw [gn0]; rfl) | (rw [get_put_eq] <;> rfl) | (simp (disch := first | omega | (simp only [hNw, hPt]; omega)) only [gn0, gn1, gn2, gn3, gn4, gn5, gp0, gno, gpo] <;> first | rfl | assumption | (rw [get_put_eq] <;> rfl))
  have exHc3 : Ext Hc Hd := Ext.trans (by (try dsimp only); repeat (first | exact Ext.refl _ | exact Ext.refl _ | apply Ext.new | (refine Ext.put ?_ _ (by first | omega | (simp only [hNw, hPt]; omega))))) qd.ext
  have id_ := md.at
  have pld : xd.plain = true := lpl id_.len
  refine OkO.callE rfl rfl rfl rfl rfl (c21U (m + 3) xc xd p rows n9 e9 _ (ic.ext (by (try dsimp only); repeat (first | exact exHc3 | exact Ext.refl _ | apply Ext.new | (refine Ext.put ?_ _ (by first | omega | (simp only [hNw, hPt]; omega)))))) (id_.ext (by (try dsimp only); repeat (first | exact Ext.refl _ | exact Ext.refl _ | apply Ext.new | (refine Ext.put ?_ _ (by first | omega | (simp only [hNw, hPt]; omega)))))) (by omega) (by omega) ht4 hf hne) ?_ -- "sackung/alarm.Levels"
  rintro _ Hl ⟨xl, rfl, ql, ml⟩
  have n4 := ql.ext.next
  try simp only [hNw, hPt] at n4
  have gg4 : Grow W Hl := Grow.ret (by (try dsimp only); repeat (first | exact gg3 | apply Grow.new | (refine Grow.put ?_ _ (by first | omega | (simp only [hNw, hPt]; omega))))) ql
  have a4 : (Hl.get (W.next)).bind AObj.cs = some (p.c ev) := by rw [ql.ext.get _ (by first | omega | (simp only [hNw, hPt]; omega))]; first | assumption | (rw [gn0]; rfl) | (rw [get_put_eq] <;> rfl) | (simp (disch := first | omega | (simp only [hNw, hPt]; omega)) only [gn0, gn1, gn2, gn3, gn4, gn5, gp0, gno, gpo] <;> first | rfl | assumption | (rw [get_put_eq] <;> rfl))
  have kt4 : (Hl.get (W.next + 1)).bind AObj.cs = some t.c := by rw [ql.ext.get _ (by first | omega | (simp only [hNw, hPt]; omega))]; first | assumption | (rw [gn0]; rfl) | (rw [get_put_eq] <;> rfl) | (simp (disch := first | omega | (simp only [hNw, hPt]; omega)) only [gn0, gn1, gn2, gn3, gn4, gn5, gp0, gno, gpo] <;> first | rfl | assumption | (rw [get_put_eq] <;> rfl))
  have kr4 : (Hl.get (W.next + 2)).bind AObj.cs = some r.c := by rw [ql.ext.get _ (by first | omega | (simp only [hNw, hPt]; omega))]; first | assumption | (rw [gn0]; rfl) | (rw [get_put_eq] <;> rfl) | (simp (disch := first | omega | (simp only [hNw, hPt]; omega)) only [gn0, gn1, gn2, gn3, gn4, gn5, gp0, gno, gpo] <;> first | rfl | assumption | (rw [get_put_eq] <;> rfl))
  have kb4 : (Hl.get (W.next + 3)).bind AObj.cs = some ((p.later (min 60 (p.out + mo % 30))).c xa) := by rw [ql.ext.get _ (by first | omega | (simp only [hNw, hPt]; omega))]; first | assumption | (rw [gn0]; rfl) | (rw [get_put_eq] <;> rfl) | (simp (disch := first | omega | (simp only [hNw, hPt]; omega)) only [gn0, gn1, gn2, gn3, gn4, gn5, gp0, gno, gpo] <;> first | rfl | assumption | (rw [get_put_eq] <;> rfl))
  have kg4 : (Hl.get (W.next + 4)).bind AObj.cs = some (t.later (min 60 (t.out + mo % 30))).c := by rw [ql.ext.get _ (by first | omega | (simp only [hNw, hPt]; omega))]; first | assumption | (rw [gn0]; rfl) | (rw [get_put_eq] <;> rfl) | (simp (disch := first | omega | (simp only [hNw, hPt]; omega)) only [gn0, gn1, gn2, gn3, gn4, gn5, gp0, gno, gpo] <;> first | rfl | assumption | (rw [get_put_eq] <;> rfl))
  have exHc4 : Ext Hc Hl := Ext.trans (by (try dsimp only); repeat (first | exact exHc3 | exact Ext.refl _ | apply Ext.new | (refine Ext.put ?_ _ (by first | omega | (simp only [hNw, hPt]; omega))))) ql.ext
  have exHd4 : Ext Hd Hl := Ext.trans (by (try dsimp only); repeat (first | exact Ext.refl _ | exact Ext.refl _ | apply Ext.new | (refine Ext.put ?_ _ (by first | omega | (simp only [hNw, hPt]; omega))))) ql.ext
  have hll1 : lenOf xl = some n9 := by simpa using ml.len
  refine OkO.move rfl rfl ?_
  refine OkO.extract rfl rfl rfl ?_
  refine OkO.extract rfl rfl rfl ?_
  refine OkO.assign rfl rfl ?_
  refine OkO.assign rfl rfl ?_
  refine OkO.nil ?_
  refine Ok.seq ?_
  refine Ok.drawn [(0, true, []), (1, true, []), (2, false, [0]), (3, false, []), (4, true, []), (5, true, []), (6, true, []), (7, true, []), (8, true, [])] (by kernel_rfl) ?_
  refine OkP.step ?_
  refine OkO.load rfl rfl (ldg (n := 6) (by kernel_rfl) (by first | assumption | (simp (disch := first | omega | (simp only [hNw, hPt]; omega)) only [gn0, gn1, gn2, gn3, gn4, gn5, gp0, gno, gpo] <;> first | rfl | assumption | exact gp0 _ _ _ | exact gn0 _ _)) (by first | rfl | assumption)) ?_
  refine OkO.nil ⟨rfl, ?_⟩
  refine OkP.step ?_
  refine OkO.move rfl rfl ?_
  refine OkO.nil ⟨rfl, ?_⟩
  refine OkP.step ?_
  refine OkO.callE rfl rfl rfl rfl rfl (c22 (m + 8) rv rows _ (hRs.ext (hE _ (by (try dsimp only); repeat (first | exact gg4 | apply Grow.new | (refine Grow.put ?_ _ (by first | omega | (simp only [hNw, hPt]; omega))))))) (by omega) ht4) ?_ -- "sackung/sackunglaw04.rows"
  rintro xe He ⟨qe, me⟩
  have n5 := qe.ext.next
  try simp only [hNw, hPt] at n5
  have gg5 : Grow W He := Grow.ret (by (try dsimp only); repeat (first | exact gg4 | apply Grow.new | (refine Grow.put ?_ _ (by first | omega | (simp only [hNw, hPt]; omega))))) qe
  have a5 : (He.get (W.next)).bind AObj.cs = some (p.c ev) := by rw [qe.ext.get _ (by first | omega | (simp only [hNw, hPt]; omega))]; first | assumption | (rw [gn0]; rfl) | (rw [get_put_eq] <;> rfl) | (simp (disch := first | omega | (simp only [hNw, hPt]; omega)) only [gn0, gn1, gn2, gn3, gn4, gn5, gp0, gno, gpo] <;> first | rfl | assumption | (rw [get_put_eq] <;> rfl))
  have kt5 : (He.get (W.next + 1)).bind AObj.cs = some t.c := by rw [qe.ext.get _ (by first | omega | (simp only [hNw, hPt]; omega))]; first | assumption | (rw [gn0]; rfl) | (rw [get_put_eq] <;> rfl) | (simp (disch := first | omega | (simp only [hNw, hPt]; omega)) only [gn0, gn1, gn2, gn3, gn4, gn5, gp0, gno, gpo] <;> first | rfl | assumption | (rw [get_put_eq] <;> rfl))
  have kr5 : (He.get (W.next + 2)).bind AObj.cs = some r.c := by rw [qe.ext.get _ (by first | omega | (simp only [hNw, hPt]; omega))]; first | assumption | (rw [gn0]; rfl) | (rw [get_put_eq] <;> rfl) | (simp (disch := first | omega | (simp only [hNw, hPt]; omega)) only [gn0, gn1, gn2, gn3, gn4, gn5, gp0, gno, gpo] <;> first | rfl | assumption | (rw [get_put_eq] <;> rfl))
  have kb5 : (He.get (W.next + 3)).bind AObj.cs = some ((p.later (min 60 (p.out + mo % 30))).c xa) := by rw [qe.ext.get _ (by first | omega | (simp only [hNw, hPt]; omega))]; first | assumption | (rw [gn0]; rfl) | (rw [get_put_eq] <;> rfl) | (simp (disch := first | omega | (simp only [hNw, hPt]; omega)) only [gn0, gn1, gn2, gn3, gn4, gn5, gp0, gno, gpo] <;> first | rfl | assumption | (rw [get_put_eq] <;> rfl))
  have kg5 : (He.get (W.next + 4)).bind AObj.cs = some (t.later (min 60 (t.out + mo % 30))).c := by rw [qe.ext.get _ (by first | omega | (simp only [hNw, hPt]; omega))]; first | assumption | (rw [gn0]; rfl) | (rw [get_put_eq] <;> rfl) | (simp (disch := first | omega | (simp only [hNw, hPt]; omega)) only [gn0, gn1, gn2, gn3, gn4, gn5, gp0, gno, gpo] <;> first | rfl | assumption | (rw [get_put_eq] <;> rfl))
  have exHc5 : Ext Hc He := Ext.trans (by (try dsimp only); repeat (first | exact exHc4 | exact Ext.refl _ | apply Ext.new | (refine Ext.put ?_ _ (by first | omega | (simp only [hNw, hPt]; omega))))) qe.ext
  have exHd5 : Ext Hd He := Ext.trans (by (try dsimp only); repeat (first | exact exHd4 | exact Ext.refl _ | apply Ext.new | (refine Ext.put ?_ _ (by first | omega | (simp only [hNw, hPt]; omega))))) qe.ext
  have exHl5 : Ext Hl He := Ext.trans (by (try dsimp only); repeat (first | exact Ext.refl _ | exact Ext.refl _ | apply Ext.new | (refine Ext.put ?_ _ (by first | omega | (simp only [hNw, hPt]; omega))))) qe.ext
  have ie_ := me.at
  have ple : xe.plain = true := lpl ie_.len
  refine OkO.nil ⟨(sco (sld rfl rfl (ldg (n := 6) (by kernel_rfl) (by first | assumption | (simp (disch := first | omega | (simp only [hNw, hPt]; omega)) only [gn0, gn1, gn2, gn3, gn4, gn5, gp0, gno, gpo] <;> first | rfl | assumption | exact gp0 _ _ _ | exact gn0 _ _)) (by first | rfl | assumption)) rfl (eqr _ (by first | rfl | exact lpl (by assumption) | (simp [AV.plain, AV.plains, AV.cells, pev, pla, Pst.c, Pst.later])))) rfl), ?_⟩
  refine OkP.step ?_
  refine OkO.callE rfl rfl rfl rfl rfl (c21U (m + 3) xa xe (p.later (min 60 (p.out + mo % 30))) rows n9 e9 _ (iax.ext (by (try dsimp only); repeat (first | exact exHc5 | exact Ext.refl _ | apply Ext.new | (refine Ext.put ?_ _ (by first | omega | (simp only [hNw, hPt]; omega)))))) (ie_.ext (by (try dsimp only); repeat (first | exact Ext.refl _ | exact Ext.refl _ | apply Ext.new | (refine Ext.put ?_ _ (by first | omega | (simp only [hNw, hPt]; omega)))))) (by show p.errs.length ≤ 100000; omega) (by omega) ht4 (later_fault hf ho1) (by rw [later_poss]; exact hne)) ?_ -- "sackung/alarm.Levels"
  rintro _ Hk ⟨xk, rfl, qk, mk⟩
  have n6 := qk.ext.next
  try simp only [hNw, hPt] at n6
  have gg6 : Grow W Hk := Grow.ret (by (try dsimp only); repeat (first | exact gg5 | apply Grow.new | (refine Grow.put ?_ _ (by first | omega | (simp only [hNw, hPt]; omega))))) qk
  have a6 : (Hk.get (W.next)).bind AObj.cs = some (p.c ev) := by rw [qk.ext.get _ (by first | omega | (simp only [hNw, hPt]; omega))]; first | assumption | (rw [gn0]; rfl) | (rw [get_put_eq] <;> rfl) | (simp (disch := first | omega | (simp only [hNw, hPt]; omega)) only [gn0, gn1, gn2, gn3, gn4, gn5, gp0, gno, gpo] <;> first | rfl | assumption | (rw [get_put_eq] <;> rfl))
  have kt6 : (Hk.get (W.next + 1)).bind AObj.cs = some t.c := by rw [qk.ext.get _ (by first | omega | (simp only [hNw, hPt]; omega))]; first | assumption | (rw [gn0]; rfl) | (rw [get_put_eq] <;> rfl) | (simp (disch := first | omega | (simp only [hNw, hPt]; omega)) only [gn0, gn1, gn2, gn3, gn4, gn5, gp0, gno, gpo] <;> first | rfl | assumption | (rw [get_put_eq] <;> rfl))
  have kr6 : (Hk.get (W.next + 2)).bind AObj.cs = some r.c := by rw [qk.ext.get _ (by first | omega | (simp only [hNw, hPt]; omega))]; first | assumption | (rw [gn0]; rfl) | (rw [get_put_eq] <;> rfl) | (simp (disch := first | omega | (simp only [hNw, hPt]; omega)) only [gn0, gn1, gn2, gn3, gn4, gn5, gp0, gno, gpo] <;> first | rfl | assumption | (rw [get_put_eq] <;> rfl))
  have kb6 : (Hk.get (W.next + 3)).bind AObj.cs = some ((p.later (min 60 (p.out + mo % 30))).c xa) := by rw [qk.ext.get _ (by first | omega | (simp only [hNw, hPt]; omega))]; first | assumption | (rw [gn0]; rfl) | (rw [get_put_eq] <;> rfl) | (simp (disch := first | omega | (simp only [hNw, hPt]; omega)) only [gn0, gn1, gn2, gn3, gn4, gn5, gp0, gno, gpo] <;> first | rfl | assumption | (rw [get_put_eq] <;> rfl))
  have kg6 : (Hk.get (W.next + 4)).bind AObj.cs = some (t.later (min 60 (t.out + mo % 30))).c := by rw [qk.ext.get _ (by first | omega | (simp only [hNw, hPt]; omega))]; first | assumption | (rw [gn0]; rfl) | (rw [get_put_eq] <;> rfl) | (simp (disch := first | omega | (simp only [hNw, hPt]; omega)) only [gn0, gn1, gn2, gn3, gn4, gn5, gp0, gno, gpo] <;> first | rfl | assumption | (rw [get_put_eq] <;> rfl))
  have exHc6 : Ext Hc Hk := Ext.trans (by (try dsimp only); repeat (first | exact exHc5 | exact Ext.refl _ | apply Ext.new | (refine Ext.put ?_ _ (by first | omega | (simp only [hNw, hPt]; omega))))) qk.ext
  have exHd6 : Ext Hd Hk := Ext.trans (by (try dsimp only); repeat (first | exact exHd5 | exact Ext.refl _ | apply Ext.new | (refine Ext.put ?_ _ (by first | omega | (simp only [hNw, hPt]; omega))))) qk.ext
  have exHl6 : Ext Hl Hk := Ext.trans (by (try dsimp only); repeat (first | exact exHl5 | exact Ext.refl _ | apply Ext.new | (refine Ext.put ?_ _ (by first | omega | (simp only [hNw, hPt]; omega))))) qk.ext
  have exHe6 : Ext He Hk := Ext.trans (by (try dsimp only); repeat (first | exact Ext.refl _ | exact Ext.refl _ | apply Ext.new | (refine Ext.put ?_ _ (by first | omega | (simp only [hNw, hPt]; omega))))) qk.ext
  have hll2 : lenOf xk = some n9 := by simpa using mk.len
  refine OkO.nil ⟨rfl, ?_⟩
  refine OkP.step ?_
  refine OkO.move rfl rfl ?_
  refine OkO.nil ⟨rfl, ?_⟩
  refine OkP.step ?_
  refine OkO.extract rfl rfl rfl ?_
  refine OkO.nil ⟨rfl, ?_⟩
  refine OkP.step ?_
  refine OkO.extract rfl rfl rfl ?_
  refine OkO.nil ⟨rfl, ?_⟩
  refine OkP.step ?_
  refine OkO.assign rfl rfl ?_
  refine OkO.nil ⟨rfl, ?_⟩
  refine OkP.step ?_
  refine OkO.assign rfl rfl ?_
  refine OkO.nil ⟨rfl, ?_⟩
  refine OkP.nil ?_
  refine Ok.join (fun s => Has 8 [(1, rv), (2, lv), (6, .ptr W.next 0), (9, .ptr (W.next + 1) 0), (10, .ptr (W.next + 2) 0), (13, .ptr (W.next + 3) 0), (14, .ptr (W.next + 4) 0), (15, xl), (17, xk)] s.T ∧ s.D = [] ∧ Hk = s.H) ?_ ?_
  · -- to the meeting
    refine Ok.seq ?_
    refine Ok.region ?_
    refine OkO.move rfl rfl ?_
    refine OkO.move rfl rfl ?_
    refine OkO.bin rfl rfl rfl ((bin_neq _ _).trans (congrArg (fun b => some (AV.bool b)) (show _ = false from (by simp)))) ?_
    refine OkO.move rfl rfl ?_
    refine OkO.move rfl rfl ?_
    refine OkO.builtin rfl rfl rfl (bln (by kernel_rfl) (by first | assumption | rfl)) ?_
    refine OkO.move rfl rfl ?_
    refine OkO.builtin rfl rfl rfl (bln (by kernel_rfl) (by first | assumption | rfl)) ?_
    refine OkO.bin rfl rfl rfl ((bin_neq _ _).trans (congrArg (fun b => some (AV.bool b)) (show _ = false from (by simp)))) ?_
    refine OkO.pick (b := false) rfl rfl nofun (fun _ => rfl) ?_
    refine OkO.move rfl rfl ?_
    refine OkO.move rfl rfl ?_
    refine OkO.bin rfl rfl rfl (bin_eql _ _) ?_
    refine OkO.move rfl rfl ?_
    refine OkO.split (d := 101) rfl (fun g1 => ?_) (fun g1 => ?_)
    · -- true g1
      refine OkO.move rfl rfl ?_
      refine OkO.builtin rfl rfl rfl (bln (by kernel_rfl) (by first | assumption | rfl)) ?_
      refine OkO.move rfl rfl ?_
      refine OkO.builtin rfl rfl rfl (bln (by kernel_rfl) (by first | assumption | rfl)) ?_
      refine OkO.bin rfl rfl rfl ((bin_neq _ _).trans (congrArg (fun b => some (AV.bool b)) (show _ = false from (by (rw [decide_eq_false_iff_not]; (have h9 := hen (by simpa using g1)); omega))))) ?_
      refine OkO.pick (b := true) rfl rfl (fun _ => rfl) nofun ?_
      refine OkO.pick (b := false) rfl rfl nofun (fun _ => rfl) ?_
      refine OkO.nil ?_
      refine Ok.condF rfl ?_
      refine Ok.skip ?_
      exact ⟨rfl, Has.of (by kernel_rfl), rfl, rfl⟩
    · -- false g1
      refine OkO.skip rfl ?_
      refine OkO.skip rfl ?_
      refine OkO.skip rfl ?_
      refine OkO.skip rfl ?_
      refine OkO.skip rfl ?_
      refine OkO.pick (b := false) rfl rfl nofun (fun _ => rfl) ?_
      refine OkO.pick (b := false) rfl rfl nofun (fun _ => rfl) ?_
      refine OkO.nil ?_
      refine Ok.condF rfl ?_
      refine Ok.skip ?_
      exact ⟨rfl, Has.of (by kernel_rfl), rfl, rfl⟩
  · -- behind it
    rintro ⟨T, D, G⟩ ⟨⟨f_, hT⟩, hD, hGG⟩
    dsimp only at *
    subst hT hD
    subst hGG
    refine Ok.seq ?_
    refine Ok.seq ?_
    refine Ok.region ?_
    refine OkO.assign rfl rfl ?_
    refine OkO.nil ?_
    refine Ok.block ?_
    refine Ok.loop (fun n s => ∃ i : Nat, n = n9 - i ∧ i ≤ n9 ∧ Has 8 [(1, rv), (2, lv), (6, .ptr W.next 0), (9, .ptr (W.next + 1) 0), (10, .ptr (W.next + 2) 0), (13, .ptr (W.next + 3) 0), (14, .ptr (W.next + 4) 0), (15, xl), (17, xk), (19, I (i : Int))] s.T ∧ s.D = [] ∧ Hk = s.H) (n9) (by unfold loopFuel; omega)
      ⟨0, rfl, Nat.zero_le _, Has.of (by kernel_rfl), rfl, rfl⟩ ?_
    rintro n ⟨T, D, G⟩ ⟨i, hn, hi, ⟨f2_, hT⟩, hD, hg9⟩
    dsimp only at *
    subst hT hD
    skip
    subst hg9
    refine Ok.seq ?_
    refine Ok.seq ?_
    refine Ok.region ?_
    refine OkO.move rfl rfl ?_
    refine OkO.move rfl rfl ?_
    refine OkO.builtin rfl rfl rfl (bln (by kernel_rfl) (by first | assumption | rfl)) ?_
    refine OkO.bin rfl rfl rfl (bin_lss _ _) ?_
    refine OkO.nil ?_
    refine Ok.cond rfl (fun h2 => ?_) (fun h2 => ?_)
    · -- yes h2
      have hlt : i < n9 := by simpa using h2
      obtain ⟨lb, lo, lcs, l1, l2, l3, l4⟩ := (ml.ext (by (try dsimp only); repeat (first | exact exHl6 | exact Ext.refl _ | apply Ext.new | (refine Ext.put ?_ _ (by first | omega | (simp only [hNw, hPt]; omega)))))).at_ i (stc p rows i) (by simp [hlt])
      obtain ⟨kb, ko, kcs, k1, k2, k3, k4⟩ := mk.at_ i (stc (p.later (min 60 (p.out + mo % 30))) rows i) (by simp [hlt])
      have l30 : lcs[lo + 0]? = some (I (mnL (spdL p rows i (p.errs.length + 1)))) := seg_get l3 0 (by omega)
      have l31 : lcs[lo + 1]? = some (I (mxL (spdL p rows i (p.errs.length + 1)))) := seg_get l3 1 (by omega)
      have l32 : lcs[lo + 2]? = some (.int .u8 (levelI p (mxL (spdL p rows i (p.errs.length + 1))))) := seg_get l3 2 (by omega)
      have ek : stc (p.later (min 60 (p.out + mo % 30))) rows i = [I (mnL (spdL p rows i (p.errs.length + 1))), I (mxL (spdL p rows i (p.errs.length + 1))), .int .u8 (levelI (p.later (min 60 (p.out + mo % 30))) (mxL (spdL p rows i (p.errs.length + 1))))] := by unfold stc; rw [later_spd]; rfl
      rw [ek] at k3
      have k30 : kcs[ko + 0]? = some (I (mnL (spdL p rows i (p.errs.length + 1)))) := seg_get k3 0 (by omega)
      have k31 : kcs[ko + 1]? = some (I (mxL (spdL p rows i (p.errs.length + 1)))) := seg_get k3 1 (by omega)
      have k32 : kcs[ko + 2]? = some (.int .u8 (levelI (p.later (min 60 (p.out + mo % 30))) (mxL (spdL p rows i (p.errs.length + 1))))) := seg_get k3 2 (by omega)
      have hlv := later_level (p := p) (o := (min 60 (p.out + mo % 30))) (mxL (spdL p rows i (p.errs.length + 1))) (by omega)
      refine Ok.skip ?_
      refine Ok.seq ?_
      refine Ok.block ?_
      refine Ok.seq ?_
      refine Ok.drawn [(0, true, []), (1, true, []), (2, true, []), (3, true, []), (4, true, []), (5, true, []), (6, true, []), (7, true, []), (8, true, []), (9, true, []), (10, true, []), (11, true, []), (12, true, []), (13, true, []), (14, true, []), (15, true, []), (16, true, []), (17, true, []), (18, true, []), (19, true, []), (20, true, []), (21, true, []), (22, true, []), (23, true, []), (24, true, []), (25, true, []), (26, true, []), (27, true, []), (28, true, []), (29, true, []), (30, true, []), (31, true, []), (32, true, []), (33, true, []), (34, true, []), (35, true, []), (36, true, [])] (by kernel_rfl) ?_
      refine OkP.step ?_
      refine OkO.move rfl rfl ?_
      refine OkO.nil ⟨rfl, ?_⟩
      refine OkP.step ?_
      refine OkO.move rfl rfl ?_
      refine OkO.nil ⟨rfl, ?_⟩
      refine OkP.step ?_
      refine OkO.index (sz := 3) rfl rfl rfl (by kernel_rfl) (by first | assumption | rfl | exact slAt_slice (by omega) | exact slAt_opn (by omega)) ?_ -- index ('Go.Operand.tmp', 115) ('Go.Operand.tmp', 116)
      refine OkO.nil ⟨rfl, ?_⟩
      refine OkP.step ?_
      refine OkO.fieldAddr (o := 0) rfl (by kernel_rfl) rfl ?_
      refine OkO.nil ⟨rfl, ?_⟩
      refine OkP.step ?_
      refine OkO.load rfl rfl (lda (n := 1) (by kernel_rfl) (by first | assumption | (simp (disch := first | omega | (simp only [hNw, hPt]; omega)) only [gn0, gn1, gn2, gn3, gn4, gn5, gp0, gno, gpo] <;> first | rfl | assumption | exact gp0 _ _ _ | exact gn0 _ _)) (by first | rfl | assumption)) ?_
      refine OkO.nil ⟨rfl, ?_⟩
      refine OkP.step ?_
      refine OkO.move rfl rfl ?_
      refine OkO.nil ⟨rfl, ?_⟩
      refine OkP.step ?_
      refine OkO.move rfl rfl ?_
      refine OkO.nil ⟨rfl, ?_⟩
      refine OkP.step ?_
      refine OkO.index (sz := 3) rfl rfl rfl (by kernel_rfl) (by first | assumption | rfl | exact slAt_slice (by omega) | exact slAt_opn (by omega)) ?_ -- index ('Go.Operand.tmp', 120) ('Go.Operand.tmp', 121)
      refine OkO.nil ⟨rfl, ?_⟩
      refine OkP.step ?_
      refine OkO.fieldAddr (o := 0) rfl (by kernel_rfl) rfl ?_
      refine OkO.nil ⟨rfl, ?_⟩
      refine OkP.step ?_
      refine OkO.load rfl rfl (lda (n := 1) (by kernel_rfl) (by first | assumption | (simp (disch := first | omega | (simp only [hNw, hPt]; omega)) only [gn0, gn1, gn2, gn3, gn4, gn5, gp0, gno, gpo] <;> first | rfl | assumption | exact gp0 _ _ _ | exact gn0 _ _)) (by first | rfl | assumption)) ?_
      refine OkO.nil ⟨rfl, ?_⟩
      refine OkP.step ?_
      refine OkO.bin rfl rfl rfl ((bin_neq _ _).trans (congrArg (fun b => some (AV.bool b)) (show _ = false from (by simp)))) ?_
      refine OkO.nil ⟨rfl, ?_⟩
      refine OkP.step ?_
      refine OkO.move rfl rfl ?_
      refine OkO.nil ⟨rfl, ?_⟩
      refine OkP.step ?_
      refine OkO.move rfl rfl ?_
      refine OkO.nil ⟨rfl, ?_⟩
      refine OkP.step ?_
      refine OkO.move rfl rfl ?_
      refine OkO.nil ⟨rfl, ?_⟩
      refine OkP.step ?_
      refine OkO.index (sz := 3) rfl rfl rfl (by kernel_rfl) (by first | assumption | rfl | exact slAt_slice (by omega) | exact slAt_opn (by omega)) ?_ -- index ('Go.Operand.tmp', 127) ('Go.Operand.tmp', 128)
      refine OkO.nil ⟨rfl, ?_⟩
      refine OkP.step ?_
      refine OkO.fieldAddr (o := 1) rfl (by kernel_rfl) rfl ?_
      refine OkO.nil ⟨rfl, ?_⟩
      refine OkP.step ?_
      refine OkO.load rfl rfl (lda (n := 1) (by kernel_rfl) (by first | assumption | (simp (disch := first | omega | (simp only [hNw, hPt]; omega)) only [gn0, gn1, gn2, gn3, gn4, gn5, gp0, gno, gpo] <;> first | rfl | assumption | exact gp0 _ _ _ | exact gn0 _ _)) (by first | rfl | assumption)) ?_
      refine OkO.nil ⟨rfl, ?_⟩
      refine OkP.step ?_
      refine OkO.move rfl rfl ?_
      refine OkO.nil ⟨rfl, ?_⟩
      refine OkP.step ?_
      refine OkO.move rfl rfl ?_
      refine OkO.nil ⟨rfl, ?_⟩
      refine OkP.step ?_
      refine OkO.index (sz := 3) rfl rfl rfl (by kernel_rfl) (by first | assumption | rfl | exact slAt_slice (by omega) | exact slAt_opn (by omega)) ?_ -- index ('Go.Operand.tmp', 132) ('Go.Operand.tmp', 133)
      refine OkO.nil ⟨rfl, ?_⟩
      refine OkP.step ?_
      refine OkO.fieldAddr (o := 1) rfl (by kernel_rfl) rfl ?_
      refine OkO.nil ⟨rfl, ?_⟩
      refine OkP.step ?_
      refine OkO.load rfl rfl (lda (n := 1) (by kernel_rfl) (by first | assumption | (simp (disch := first | omega | (simp only [hNw, hPt]; omega)) only [gn0, gn1, gn2, gn3, gn4, gn5, gp0, gno, gpo] <;> first | rfl | assumption | exact gp0 _ _ _ | exact gn0 _ _)) (by first | rfl | assumption)) ?_
      refine OkO.nil ⟨rfl, ?_⟩
      refine OkP.step ?_
      refine OkO.bin rfl rfl rfl ((bin_neq _ _).trans (congrArg (fun b => some (AV.bool b)) (show _ = false from (by simp)))) ?_
      refine OkO.nil ⟨rfl, ?_⟩
      refine OkP.step ?_
      refine OkO.pick (b := false) rfl rfl nofun (fun _ => rfl) ?_
      refine OkO.nil ⟨rfl, ?_⟩
      refine OkP.step ?_
      refine OkO.move rfl rfl ?_
      refine OkO.nil ⟨rfl, ?_⟩
      refine OkP.step ?_
      refine OkO.move rfl rfl ?_
      refine OkO.nil ⟨rfl, ?_⟩
      refine OkP.step ?_
      refine OkO.move rfl rfl ?_
      refine OkO.nil ⟨rfl, ?_⟩
      refine OkP.step ?_
      refine OkO.index (sz := 3) rfl rfl rfl (by kernel_rfl) (by first | assumption | rfl | exact slAt_slice (by omega) | exact slAt_opn (by omega)) ?_ -- index ('Go.Operand.tmp', 140) ('Go.Operand.tmp', 141)
      refine OkO.nil ⟨rfl, ?_⟩
      refine OkP.step ?_
      refine OkO.fieldAddr (o := 2) rfl (by kernel_rfl) rfl ?_
      refine OkO.nil ⟨rfl, ?_⟩
      refine OkP.step ?_
      refine OkO.load rfl rfl (lda (n := 1) (by kernel_rfl) (by first | assumption | (simp (disch := first | omega | (simp only [hNw, hPt]; omega)) only [gn0, gn1, gn2, gn3, gn4, gn5, gp0, gno, gpo] <;> first | rfl | assumption | exact gp0 _ _ _ | exact gn0 _ _)) (by first | rfl | assumption)) ?_
      refine OkO.nil ⟨rfl, ?_⟩
      refine OkP.step ?_
      refine OkO.move rfl rfl ?_
      refine OkO.nil ⟨rfl, ?_⟩
      refine OkP.step ?_
      refine OkO.move rfl rfl ?_
      refine OkO.nil ⟨rfl, ?_⟩
      refine OkP.step ?_
      refine OkO.index (sz := 3) rfl rfl rfl (by kernel_rfl) (by first | assumption | rfl | exact slAt_slice (by omega) | exact slAt_opn (by omega)) ?_ -- index ('Go.Operand.tmp', 145) ('Go.Operand.tmp', 146)
      refine OkO.nil ⟨rfl, ?_⟩
      refine OkP.step ?_
      refine OkO.fieldAddr (o := 2) rfl (by kernel_rfl) rfl ?_
      refine OkO.nil ⟨rfl, ?_⟩
      refine OkP.step ?_
      refine OkO.load rfl rfl (lda (n := 1) (by kernel_rfl) (by first | assumption | (simp (disch := first | omega | (simp only [hNw, hPt]; omega)) only [gn0, gn1, gn2, gn3, gn4, gn5, gp0, gno, gpo] <;> first | rfl | assumption | exact gp0 _ _ _ | exact gn0 _ _)) (by first | rfl | assumption)) ?_
      refine OkO.nil ⟨rfl, ?_⟩
      refine OkP.step ?_
      refine OkO.bin rfl rfl rfl ((bin_lssU8 _ _).trans (congrArg (fun b => some (AV.bool b)) (show _ = false from (by rw [decide_eq_false_iff_not]; omega)))) ?_
      refine OkO.nil ⟨rfl, ?_⟩
      refine OkP.step ?_
      refine OkO.pick (b := false) rfl rfl nofun (fun _ => rfl) ?_
      refine OkO.nil ⟨rfl, ?_⟩
      refine OkP.nil ?_
      refine Ok.condF rfl ?_
      refine Ok.skip ?_
      refine Ok.region ?_
      refine OkO.move rfl rfl ?_
      refine OkO.bin rfl rfl rfl (bin_add (by omega) (by omega)) ?_
      refine OkO.assign rfl rfl ?_
      refine OkO.nil ?_
      refine ⟨n9 - (i + 1), by omega, i + 1, rfl, by omega, Has.of (by kernel_rfl), rfl, rfl⟩
    · -- no h2
      have hge : i = n9 := by (have h9 : ¬ i < n9 := by simpa using h2); omega
      refine Ok.exit ?_
      refine Ok.seq ?_
      refine Ok.drawn [(0, true, []), (2, true, []), (4, true, []), (1, false, [4, 2]), (3, false, [4]), (5, false, [2]), (6, false, [4, 2]), (7, true, []), (8, true, []), (9, true, []), (10, true, []), (11, true, []), (12, true, []), (13, true, [])] (by kernel_rfl) ?_
      refine OkP.step ?_
      refine OkO.move rfl rfl ?_
      refine OkO.nil ⟨rfl, ?_⟩
      refine OkP.step ?_
      refine OkO.load rfl rfl (ldg (n := 5) (by kernel_rfl) (by first | assumption | (simp (disch := first | omega | (simp only [hNw, hPt]; omega)) only [gn0, gn1, gn2, gn3, gn4, gn5, gp0, gno, gpo] <;> first | rfl | assumption | exact gp0 _ _ _ | exact gn0 _ _)) (by first | rfl | assumption)) ?_
      refine OkO.nil ⟨rfl, ?_⟩
      refine OkP.step ?_
      refine OkO.load rfl rfl (ldg (n := 3) (by kernel_rfl) (by first | assumption | (simp (disch := first | omega | (simp only [hNw, hPt]; omega)) only [gn0, gn1, gn2, gn3, gn4, gn5, gp0, gno, gpo] <;> first | rfl | assumption | exact gp0 _ _ _ | exact gn0 _ _)) (by first | rfl | assumption)) ?_
      refine OkO.nil ⟨rfl, ?_⟩
      refine OkP.step ?_
      refine OkO.callE rfl rfl rfl rfl rfl (c45 (m + 7) lv l _ (hS.ext (hE _ (by (try dsimp only); repeat (first | exact gg6 | apply Grow.new | (refine Grow.put ?_ _ (by first | omega | (simp only [hNw, hPt]; omega))))))) (by omega) (fun s hs => by have := hsf.2 s hs; omega)) ?_ -- "sackung/sackunglaw04.Seasons"
      rintro xf Hf ⟨qf, mf⟩
      have n7 := qf.ext.next
      try simp only [hNw, hPt] at n7
      have gg7 : Grow W Hf := Grow.ret (by (try dsimp only); repeat (first | exact gg6 | apply Grow.new | (refine Grow.put ?_ _ (by first | omega | (simp only [hNw, hPt]; omega))))) qf
      have a7 : (Hf.get (W.next)).bind AObj.cs = some (p.c ev) := by rw [qf.ext.get _ (by first | omega | (simp only [hNw, hPt]; omega))]; first | assumption | (rw [gn0]; rfl) | (rw [get_put_eq] <;> rfl) | (simp (disch := first | omega | (simp only [hNw, hPt]; omega)) only [gn0, gn1, gn2, gn3, gn4, gn5, gp0, gno, gpo] <;> first | rfl | assumption | (rw [get_put_eq] <;> rfl))
      have kt7 : (Hf.get (W.next + 1)).bind AObj.cs = some t.c := by rw [qf.ext.get _ (by first | omega | (simp only [hNw, hPt]; omega))]; first | assumption | (rw [gn0]; rfl) | (rw [get_put_eq] <;> rfl) | (simp (disch := first | omega | (simp only [hNw, hPt]; omega)) only [gn0, gn1, gn2, gn3, gn4, gn5, gp0, gno, gpo] <;> first | rfl | assumption | (rw [get_put_eq] <;> rfl))
      have kr7 : (Hf.get (W.next + 2)).bind AObj.cs = some r.c := by rw [qf.ext.get _ (by first | omega | (simp only [hNw, hPt]; omega))]; first | assumption | (rw [gn0]; rfl) | (rw [get_put_eq] <;> rfl) | (simp (disch := first | omega | (simp only [hNw, hPt]; omega)) only [gn0, gn1, gn2, gn3, gn4, gn5, gp0, gno, gpo] <;> first | rfl | assumption | (rw [get_put_eq] <;> rfl))
      have kb7 : (Hf.get (W.next + 3)).bind AObj.cs = some ((p.later (min 60 (p.out + mo % 30))).c xa) := by rw [qf.ext.get _ (by first | omega | (simp only [hNw, hPt]; omega))]; first | assumption | (rw [gn0]; rfl) | (rw [get_put_eq] <;> rfl) | (simp (disch := first | omega | (simp only [hNw, hPt]; omega)) only [gn0, gn1, gn2, gn3, gn4, gn5, gp0, gno, gpo] <;> first | rfl | assumption | (rw [get_put_eq] <;> rfl))
      have kg7 : (Hf.get (W.next + 4)).bind AObj.cs = some (t.later (min 60 (t.out + mo % 30))).c := by rw [qf.ext.get _ (by first | omega | (simp only [hNw, hPt]; omega))]; first | assumption | (rw [gn0]; rfl) | (rw [get_put_eq] <;> rfl) | (simp (disch := first | omega | (simp only [hNw, hPt]; omega)) only [gn0, gn1, gn2, gn3, gn4, gn5, gp0, gno, gpo] <;> first | rfl | assumption | (rw [get_put_eq] <;> rfl))
      have exHc7 : Ext Hc Hf := Ext.trans (by (try dsimp only); repeat (first | exact exHc6 | exact Ext.refl _ | apply Ext.new | (refine Ext.put ?_ _ (by first | omega | (simp only [hNw, hPt]; omega))))) qf.ext
      have exHd7 : Ext Hd Hf := Ext.trans (by (try dsimp only); repeat (first | exact exHd6 | exact Ext.refl _ | apply Ext.new | (refine Ext.put ?_ _ (by first | omega | (simp only [hNw, hPt]; omega))))) qf.ext
      have exHl7 : Ext Hl Hf := Ext.trans (by (try dsimp only); repeat (first | exact exHl6 | exact Ext.refl _ | apply Ext.new | (refine Ext.put ?_ _ (by first | omega | (simp only [hNw, hPt]; omega))))) qf.ext
      have exHe7 : Ext He Hf := Ext.trans (by (try dsimp only); repeat (first | exact exHe6 | exact Ext.refl _ | apply Ext.new | (refine Ext.put ?_ _ (by first | omega | (simp only [hNw, hPt]; omega))))) qf.ext
      have exHk7 : Ext Hk Hf := Ext.trans (by (try dsimp only); repeat (first | exact Ext.refl _ | exact Ext.refl _ | apply Ext.new | (refine Ext.put ?_ _ (by first | omega | (simp only [hNw, hPt]; omega))))) qf.ext
      have i_f := mf.g
      refine OkO.nil ⟨(sco (sld rfl rfl (ldg (n := 3) (by kernel_rfl) (by first | assumption | (simp (disch := first | omega | (simp only [hNw, hPt]; omega)) only [gn0, gn1, gn2, gn3, gn4, gn5, gp0, gno, gpo] <;> first | rfl | assumption | exact gp0 _ _ _ | exact gn0 _ _)) (by first | rfl | assumption)) rfl (eqr _ (by first | rfl | exact lpl (by assumption) | (simp [AV.plain, AV.plains, AV.cells, pev, pla, Pst.c, Pst.later])))) (sco (sld rfl rfl (ldg (n := 5) (by kernel_rfl) (by first | assumption | (simp (disch := first | omega | (simp only [hNw, hPt]; omega)) only [gn0, gn1, gn2, gn3, gn4, gn5, gp0, gno, gpo] <;> first | rfl | assumption | exact gp0 _ _ _ | exact gn0 _ _)) (by first | rfl | assumption)) rfl (eqr _ (by first | rfl | exact lpl (by assumption) | (simp [AV.plain, AV.plains, AV.cells, pev, pla, Pst.c, Pst.later])))) rfl)), ?_⟩
      refine OkP.step ?_
      refine OkO.callV rfl rfl rfl rfl rfl (c46 (m + 9) t _) ?_ -- "sackung/sackunglaw04.Terms"
      refine OkO.nil ⟨(sco (sld rfl rfl (ldg (n := 3) (by kernel_rfl) (by first | assumption | (simp (disch := first | omega | (simp only [hNw, hPt]; omega)) only [gn0, gn1, gn2, gn3, gn4, gn5, gp0, gno, gpo] <;> first | rfl | assumption | exact gp0 _ _ _ | exact gn0 _ _)) (by first | rfl | assumption)) rfl (eqr _ (by first | rfl | exact lpl (by assumption) | (simp [AV.plain, AV.plains, AV.cells, pev, pla, Pst.c, Pst.later])))) rfl), ?_⟩
      refine OkP.step ?_
      refine OkO.callV rfl rfl rfl rfl rfl (c39 (m + 9) r _) ?_ -- "sackung/sackunglaw04.Rule"
      refine OkO.nil ⟨(sco (sld rfl rfl (ldg (n := 5) (by kernel_rfl) (by first | assumption | (simp (disch := first | omega | (simp only [hNw, hPt]; omega)) only [gn0, gn1, gn2, gn3, gn4, gn5, gp0, gno, gpo] <;> first | rfl | assumption | exact gp0 _ _ _ | exact gn0 _ _)) (by first | rfl | assumption)) rfl (eqr _ (by first | rfl | exact lpl (by assumption) | (simp [AV.plain, AV.plains, AV.cells, pev, pla, Pst.c, Pst.later])))) rfl), ?_⟩
      refine OkP.step ?_
      refine OkO.callV rfl rfl rfl rfl rfl ((c44K (m + 2) xf l t r _ (i_f.ext (by (try dsimp only); repeat (first | exact Ext.refl _ | exact Ext.refl _ | apply Ext.new | (refine Ext.put ?_ _ (by first | omega | (simp only [hNw, hPt]; omega)))))) (by omega) (fun s hs => by have := hsf.2 s hs; omega) he hr).trans (by rw [hA1])) ?_ -- "sackung/alarm.Price"
      refine OkO.nil ⟨(sco (sld rfl rfl (ldg (n := 3) (by kernel_rfl) (by first | assumption | (simp (disch := first | omega | (simp only [hNw, hPt]; omega)) only [gn0, gn1, gn2, gn3, gn4, gn5, gp0, gno, gpo] <;> first | rfl | assumption | exact gp0 _ _ _ | exact gn0 _ _)) (by first | rfl | assumption)) rfl (eqr _ (by first | rfl | exact lpl (by assumption) | (simp [AV.plain, AV.plains, AV.cells, pev, pla, Pst.c, Pst.later])))) (sco (sld rfl rfl (ldg (n := 5) (by kernel_rfl) (by first | assumption | (simp (disch := first | omega | (simp only [hNw, hPt]; omega)) only [gn0, gn1, gn2, gn3, gn4, gn5, gp0, gno, gpo] <;> first | rfl | assumption | exact gp0 _ _ _ | exact gn0 _ _)) (by first | rfl | assumption)) rfl (eqr _ (by first | rfl | exact lpl (by assumption) | (simp [AV.plain, AV.plains, AV.cells, pev, pla, Pst.c, Pst.later])))) rfl)), ?_⟩
      refine OkP.step ?_
      refine OkO.move rfl rfl ?_
      refine OkO.nil ⟨rfl, ?_⟩
      refine OkP.step ?_
      refine OkO.extract rfl rfl rfl ?_
      refine OkO.nil ⟨rfl, ?_⟩
      refine OkP.step ?_
      refine OkO.extract rfl rfl rfl ?_
      refine OkO.nil ⟨rfl, ?_⟩
      refine OkP.step ?_
      refine OkO.extract rfl rfl rfl ?_
      refine OkO.nil ⟨rfl, ?_⟩
      refine OkP.step ?_
      refine OkO.assign rfl rfl ?_
      refine OkO.nil ⟨rfl, ?_⟩
      refine OkP.step ?_
      refine OkO.assign rfl rfl ?_
      refine OkO.nil ⟨rfl, ?_⟩
      refine OkP.step ?_
      refine OkO.assign rfl rfl ?_
      refine OkO.nil ⟨rfl, ?_⟩
      refine OkP.nil ?_
      refine Ok.seq ?_
      refine Ok.drawn [(0, true, []), (2, true, []), (3, true, []), (1, false, [3, 2]), (4, false, [2]), (5, false, [3]), (6, true, []), (7, true, []), (8, true, []), (9, true, []), (10, true, []), (11, true, []), (12, true, [])] (by kernel_rfl) ?_
      refine OkP.step ?_
      refine OkO.move rfl rfl ?_
      refine OkO.nil ⟨rfl, ?_⟩
      refine OkP.step ?_
      refine OkO.load rfl rfl (ldg (n := 5) (by kernel_rfl) (by first | assumption | (simp (disch := first | omega | (simp only [hNw, hPt]; omega)) only [gn0, gn1, gn2, gn3, gn4, gn5, gp0, gno, gpo] <;> first | rfl | assumption | exact gp0 _ _ _ | exact gn0 _ _)) (by first | rfl | assumption)) ?_
      refine OkO.nil ⟨rfl, ?_⟩
      refine OkP.step ?_
      refine OkO.load rfl rfl (ldg (n := 3) (by kernel_rfl) (by first | assumption | (simp (disch := first | omega | (simp only [hNw, hPt]; omega)) only [gn0, gn1, gn2, gn3, gn4, gn5, gp0, gno, gpo] <;> first | rfl | assumption | exact gp0 _ _ _ | exact gn0 _ _)) (by first | rfl | assumption)) ?_
      refine OkO.nil ⟨rfl, ?_⟩
      refine OkP.step ?_
      refine OkO.callE rfl rfl rfl rfl rfl (c45 (m + 7) lv l _ (hS.ext (hE _ (by (try dsimp only); repeat (first | exact gg7 | apply Grow.new | (refine Grow.put ?_ _ (by first | omega | (simp only [hNw, hPt]; omega))))))) (by omega) (fun s hs => by have := hsf.2 s hs; omega)) ?_ -- "sackung/sackunglaw04.Seasons"
      rintro xh Hh ⟨qh, mh⟩
      have n8 := qh.ext.next
      try simp only [hNw, hPt] at n8
      have gg8 : Grow W Hh := Grow.ret (by (try dsimp only); repeat (first | exact gg7 | apply Grow.new | (refine Grow.put ?_ _ (by first | omega | (simp only [hNw, hPt]; omega))))) qh
      have a8 : (Hh.get (W.next)).bind AObj.cs = some (p.c ev) := by rw [qh.ext.get _ (by first | omega | (simp only [hNw, hPt]; omega))]; first | assumption | (rw [gn0]; rfl) | (rw [get_put_eq] <;> rfl) | (simp (disch := first | omega | (simp only [hNw, hPt]; omega)) only [gn0, gn1, gn2, gn3, gn4, gn5, gp0, gno, gpo] <;> first | rfl | assumption | (rw [get_put_eq] <;> rfl))
      have kt8 : (Hh.get (W.next + 1)).bind AObj.cs = some t.c := by rw [qh.ext.get _ (by first | omega | (simp only [hNw, hPt]; omega))]; first | assumption | (rw [gn0]; rfl) | (rw [get_put_eq] <;> rfl) | (simp (disch := first | omega | (simp only [hNw, hPt]; omega)) only [gn0, gn1, gn2, gn3, gn4, gn5, gp0, gno, gpo] <;> first | rfl | assumption | (rw [get_put_eq] <;> rfl))
      have kr8 : (Hh.get (W.next + 2)).bind AObj.cs = some r.c := by rw [qh.ext.get _ (by first | omega | (simp only [hNw, hPt]; omega))]; first | assumption | (rw [gn0]; rfl) | (rw [get_put_eq] <;> rfl) | (simp (disch := first | omega | (simp only [hNw, hPt]; omega)) only [gn0, gn1, gn2, gn3, gn4, gn5, gp0, gno, gpo] <;> first | rfl | assumption | (rw [get_put_eq] <;> rfl))
      have kb8 : (Hh.get (W.next + 3)).bind AObj.cs = some ((p.later (min 60 (p.out + mo % 30))).c xa) := by rw [qh.ext.get _ (by first | omega | (simp only [hNw, hPt]; omega))]; first | assumption | (rw [gn0]; rfl) | (rw [get_put_eq] <;> rfl) | (simp (disch := first | omega | (simp only [hNw, hPt]; omega)) only [gn0, gn1, gn2, gn3, gn4, gn5, gp0, gno, gpo] <;> first | rfl | assumption | (rw [get_put_eq] <;> rfl))
      have kg8 : (Hh.get (W.next + 4)).bind AObj.cs = some (t.later (min 60 (t.out + mo % 30))).c := by rw [qh.ext.get _ (by first | omega | (simp only [hNw, hPt]; omega))]; first | assumption | (rw [gn0]; rfl) | (rw [get_put_eq] <;> rfl) | (simp (disch := first | omega | (simp only [hNw, hPt]; omega)) only [gn0, gn1, gn2, gn3, gn4, gn5, gp0, gno, gpo] <;> first | rfl | assumption | (rw [get_put_eq] <;> rfl))
      have exHc8 : Ext Hc Hh := Ext.trans (by (try dsimp only); repeat (first | exact exHc7 | exact Ext.refl _ | apply Ext.new | (refine Ext.put ?_ _ (by first | omega | (simp only [hNw, hPt]; omega))))) qh.ext
      have exHd8 : Ext Hd Hh := Ext.trans (by (try dsimp only); repeat (first | exact exHd7 | exact Ext.refl _ | apply Ext.new | (refine Ext.put ?_ _ (by first | omega | (simp only [hNw, hPt]; omega))))) qh.ext
      have exHl8 : Ext Hl Hh := Ext.trans (by (try dsimp only); repeat (first | exact exHl7 | exact Ext.refl _ | apply Ext.new | (refine Ext.put ?_ _ (by first | omega | (simp only [hNw, hPt]; omega))))) qh.ext
      have exHe8 : Ext He Hh := Ext.trans (by (try dsimp only); repeat (first | exact exHe7 | exact Ext.refl _ | apply Ext.new | (refine Ext.put ?_ _ (by first | omega | (simp only [hNw, hPt]; omega))))) qh.ext
      have exHk8 : Ext Hk Hh := Ext.trans (by (try dsimp only); repeat (first | exact exHk7 | exact Ext.refl _ | apply Ext.new | (refine Ext.put ?_ _ (by first | omega | (simp only [hNw, hPt]; omega))))) qh.ext
      have exHf8 : Ext Hf Hh := Ext.trans (by (try dsimp only); repeat (first | exact Ext.refl _ | exact Ext.refl _ | apply Ext.new | (refine Ext.put ?_ _ (by first | omega | (simp only [hNw, hPt]; omega))))) qh.ext
      have ih := mh.g
      refine OkO.nil ⟨(sco (sld rfl rfl (ldg (n := 3) (by kernel_rfl) (by first | assumption | (simp (disch := first | omega | (simp only [hNw, hPt]; omega)) only [gn0, gn1, gn2, gn3, gn4, gn5, gp0, gno, gpo] <;> first | rfl | assumption | exact gp0 _ _ _ | exact gn0 _ _)) (by first | rfl | assumption)) rfl (eqr _ (by first | rfl | exact lpl (by assumption) | (simp [AV.plain, AV.plains, AV.cells, pev, pla, Pst.c, Pst.later])))) (sco (sld rfl rfl (ldg (n := 5) (by kernel_rfl) (by first | assumption | (simp (disch := first | omega | (simp only [hNw, hPt]; omega)) only [gn0, gn1, gn2, gn3, gn4, gn5, gp0, gno, gpo] <;> first | rfl | assumption | exact gp0 _ _ _ | exact gn0 _ _)) (by first | rfl | assumption)) rfl (eqr _ (by first | rfl | exact lpl (by assumption) | (simp [AV.plain, AV.plains, AV.cells, pev, pla, Pst.c, Pst.later])))) rfl)), ?_⟩
      refine OkP.step ?_
      refine OkO.callV rfl rfl rfl rfl rfl (c39 (m + 9) r _) ?_ -- "sackung/sackunglaw04.Rule"
      refine OkO.nil ⟨(sco (sld rfl rfl (ldg (n := 5) (by kernel_rfl) (by first | assumption | (simp (disch := first | omega | (simp only [hNw, hPt]; omega)) only [gn0, gn1, gn2, gn3, gn4, gn5, gp0, gno, gpo] <;> first | rfl | assumption | exact gp0 _ _ _ | exact gn0 _ _)) (by first | rfl | assumption)) rfl (eqr _ (by first | rfl | exact lpl (by assumption) | (simp [AV.plain, AV.plains, AV.cells, pev, pla, Pst.c, Pst.later])))) rfl), ?_⟩
      refine OkP.step ?_
      refine OkO.callV rfl rfl rfl rfl rfl ((c44K (m + 2) xh l (t.later (min 60 (t.out + mo % 30))) r _ (ih.ext (by (try dsimp only); repeat (first | exact Ext.refl _ | exact Ext.refl _ | apply Ext.new | (refine Ext.put ?_ _ (by first | omega | (simp only [hNw, hPt]; omega)))))) (by omega) (fun s hs => by have := hsf.2 s hs; omega) (later_term he ho2) hr).trans (by rw [hA2, later_sum])) ?_ -- "sackung/alarm.Price"
      refine OkO.nil ⟨(sco (sld rfl rfl (ldg (n := 3) (by kernel_rfl) (by first | assumption | (simp (disch := first | omega | (simp only [hNw, hPt]; omega)) only [gn0, gn1, gn2, gn3, gn4, gn5, gp0, gno, gpo] <;> first | rfl | assumption | exact gp0 _ _ _ | exact gn0 _ _)) (by first | rfl | assumption)) rfl (eqr _ (by first | rfl | exact lpl (by assumption) | (simp [AV.plain, AV.plains, AV.cells, pev, pla, Pst.c, Pst.later])))) rfl), ?_⟩
      refine OkP.step ?_
      refine OkO.move rfl rfl ?_
      refine OkO.nil ⟨rfl, ?_⟩
      refine OkP.step ?_
      refine OkO.extract rfl rfl rfl ?_
      refine OkO.nil ⟨rfl, ?_⟩
      refine OkP.step ?_
      refine OkO.extract rfl rfl rfl ?_
      refine OkO.nil ⟨rfl, ?_⟩
      refine OkP.step ?_
      refine OkO.extract rfl rfl rfl ?_
      refine OkO.nil ⟨rfl, ?_⟩
      refine OkP.step ?_
      refine OkO.assign rfl rfl ?_
      refine OkO.nil ⟨rfl, ?_⟩
      refine OkP.step ?_
      refine OkO.assign rfl rfl ?_
      refine OkO.nil ⟨rfl, ?_⟩
      refine OkP.step ?_
      refine OkO.assign rfl rfl ?_
      refine OkO.nil ⟨rfl, ?_⟩
      refine OkP.nil ?_
      refine Ok.join (fun s => Has 8 [(2, lv), (6, .ptr W.next 0), (9, .ptr (W.next + 1) 0), (14, .ptr (W.next + 4) 0)] s.T ∧ s.D = [] ∧ Hh = s.H) ?_ ?_
      · -- to the meeting
        refine Ok.seq ?_
        refine Ok.region ?_
        refine OkO.move rfl rfl ?_
        refine OkO.bin rfl rfl rfl ((bin_neq _ _).trans (congrArg (fun b => some (AV.bool b)) (show _ = false from (by rfl)))) ?_
        refine OkO.move rfl rfl ?_
        refine OkO.move rfl rfl ?_
        refine OkO.bin rfl rfl rfl ((bin_neq _ _).trans (congrArg (fun b => some (AV.bool b)) (show _ = false from (by rfl)))) ?_
        refine OkO.pick (b := false) rfl rfl nofun (fun _ => rfl) ?_
        refine OkO.move rfl rfl ?_
        refine OkO.move rfl rfl ?_
        refine OkO.move rfl rfl ?_
        refine OkO.bin rfl rfl rfl ((bin_neq _ _).trans (congrArg (fun b => some (AV.bool b)) (show _ = false from (by simp)))) ?_
        refine OkO.pick (b := false) rfl rfl nofun (fun _ => rfl) ?_
        refine OkO.move rfl rfl ?_
        refine OkO.move rfl rfl ?_
        refine OkO.move rfl rfl ?_
        refine OkO.split (d := 186) rfl (fun g3 => ?_) (fun g3 => ?_)
        · -- true g3
          have hb1 := hb g3
          subst hb1
          refine OkO.move rfl rfl ?_
          refine OkO.un rfl rfl rfl ?_
          refine OkO.pick (b := true) rfl rfl (fun _ => rfl) nofun ?_
          refine OkO.pick (b := false) rfl rfl nofun (fun _ => rfl) ?_
          refine OkO.nil ?_
          refine Ok.condF rfl ?_
          refine Ok.skip ?_
          exact ⟨rfl, Has.of (by kernel_rfl), rfl, rfl⟩
        · -- false g3
          refine OkO.skip rfl ?_
          refine OkO.skip rfl ?_
          refine OkO.pick (b := false) rfl rfl nofun (fun _ => rfl) ?_
          refine OkO.pick (b := false) rfl rfl nofun (fun _ => rfl) ?_
          refine OkO.nil ?_
          refine Ok.condF rfl ?_
          refine Ok.skip ?_
          exact ⟨rfl, Has.of (by kernel_rfl), rfl, rfl⟩
      · -- behind it
        rintro ⟨T, D, G⟩ ⟨⟨f3_, hT⟩, hD, hGG⟩
        dsimp only at *
        subst hT hD
        subst hGG
        refine Ok.seq ?_
        refine Ok.drawn [(0, true, []), (2, true, []), (9, true, [2]), (1, false, [2]), (3, false, []), (4, false, [2]), (5, true, []), (6, true, []), (7, true, []), (8, true, []), (10, false, []), (11, true, []), (12, true, [])] (by kernel_rfl) ?_
        refine OkP.step ?_
        refine OkO.move rfl rfl ?_
        refine OkO.nil ⟨rfl, ?_⟩
        refine OkP.step ?_
        refine OkO.load rfl rfl (ldg (n := 5) (by kernel_rfl) (by first | assumption | (simp (disch := first | omega | (simp only [hNw, hPt]; omega)) only [gn0, gn1, gn2, gn3, gn4, gn5, gp0, gno, gpo] <;> first | rfl | assumption | exact gp0 _ _ _ | exact gn0 _ _)) (by first | rfl | assumption)) ?_
        refine OkO.nil ⟨rfl, ?_⟩
        refine OkP.step ?_
        refine OkO.alloc (z := [.int .i64 0, .int .i64 0, .int .i64 0]) rfl (by kernel_rfl) ?_
        refine OkO.nil ⟨(sco (sld rfl rfl (ldg (n := 5) (by kernel_rfl) (by first | assumption | (simp (disch := first | omega | (simp only [hNw, hPt]; omega)) only [gn0, gn1, gn2, gn3, gn4, gn5, gp0, gno, gpo] <;> first | rfl | assumption | exact gp0 _ _ _ | exact gn0 _ _)) (by first | rfl | assumption)) rfl (eqr _ (by first | rfl | exact lpl (by assumption) | (simp [AV.plain, AV.plains, AV.cells, pev, pla, Pst.c, Pst.later])))) rfl), ?_⟩
        refine OkP.step ?_
        refine OkO.callE rfl rfl rfl rfl rfl (c45 (m + 7) lv l _ (hS.ext (hE _ (by (try dsimp only); repeat (first | exact gg8 | apply Grow.new | (refine Grow.put ?_ _ (by first | omega | (simp only [hNw, hPt]; omega))))))) (by omega) (fun s hs => by have := hsf.2 s hs; omega)) ?_ -- "sackung/sackunglaw04.Seasons"
        rintro xi Hi ⟨qi, mi⟩
        have n9 := qi.ext.next
        try simp only [hNw, hPt] at n9
        have gg9 : Grow W Hi := Grow.ret (by (try dsimp only); repeat (first | exact gg8 | apply Grow.new | (refine Grow.put ?_ _ (by first | omega | (simp only [hNw, hPt]; omega))))) qi
        have a9 : (Hi.get (W.next)).bind AObj.cs = some (p.c ev) := by rw [qi.ext.get _ (by first | omega | (simp only [hNw, hPt]; omega))]; first | assumption | (rw [gn0]; rfl) | (rw [get_put_eq] <;> rfl) | (simp (disch := first | omega | (simp only [hNw, hPt]; omega)) only [gn0, gn1, gn2, gn3, gn4, gn5, gp0, gno, gpo] <;> first | rfl | assumption | (rw [get_put_eq] <;> rfl))
        have kt9 : (Hi.get (W.next + 1)).bind AObj.cs = some t.c := by rw [qi.ext.get _ (by first | omega | (simp only [hNw, hPt]; omega))]; first | assumption | (rw [gn0]; rfl) | (rw [get_put_eq] <;> rfl) | (simp (disch := first | omega | (simp only [hNw, hPt]; omega)) only [gn0, gn1, gn2, gn3, gn4, gn5, gp0, gno, gpo] <;> first | rfl | assumption | (rw [get_put_eq] <;> rfl))
        have kr9 : (Hi.get (W.next + 2)).bind AObj.cs = some r.c := by rw [qi.ext.get _ (by first | omega | (simp only [hNw, hPt]; omega))]; first | assumption | (rw [gn0]; rfl) | (rw [get_put_eq] <;> rfl) | (simp (disch := first | omega | (simp only [hNw, hPt]; omega)) only [gn0, gn1, gn2, gn3, gn4, gn5, gp0, gno, gpo] <;> first | rfl | assumption | (rw [get_put_eq] <;> rfl))
        have kb9 : (Hi.get (W.next + 3)).bind AObj.cs = some ((p.later (min 60 (p.out + mo % 30))).c xa) := by rw [qi.ext.get _ (by first | omega | (simp only [hNw, hPt]; omega))]; first | assumption | (rw [gn0]; rfl) | (rw [get_put_eq] <;> rfl) | (simp (disch := first | omega | (simp only [hNw, hPt]; omega)) only [gn0, gn1, gn2, gn3, gn4, gn5, gp0, gno, gpo] <;> first | rfl | assumption | (rw [get_put_eq] <;> rfl))
        have kg9 : (Hi.get (W.next + 4)).bind AObj.cs = some (t.later (min 60 (t.out + mo % 30))).c := by rw [qi.ext.get _ (by first | omega | (simp only [hNw, hPt]; omega))]; first | assumption | (rw [gn0]; rfl) | (rw [get_put_eq] <;> rfl) | (simp (disch := first | omega | (simp only [hNw, hPt]; omega)) only [gn0, gn1, gn2, gn3, gn4, gn5, gp0, gno, gpo] <;> first | rfl | assumption | (rw [get_put_eq] <;> rfl))
        have z39 : Hi.get (Hh.next) = some (.cells [I 0, I 0, I 0] 68) := by rw [qi.ext.get _ (by first | omega | (simp only [hNw, hPt]; omega))]; first | assumption | exact gn0 _ _ | (simp (disch := first | omega | (simp only [hNw, hPt]; omega)) only [gn0, gn1, gn2, gn3, gn4, gn5, gp0, gno, gpo] <;> first | rfl | assumption | exact gp0 _ _ _ | exact gn0 _ _)
        have ii := mi.g
        refine OkO.nil ⟨(sco (sld rfl rfl (ldg (n := 5) (by kernel_rfl) (by first | assumption | (simp (disch := first | omega | (simp only [hNw, hPt]; omega)) only [gn0, gn1, gn2, gn3, gn4, gn5, gp0, gno, gpo] <;> first | rfl | assumption | exact gp0 _ _ _ | exact gn0 _ _)) (by first | rfl | assumption)) rfl (eqr _ (by first | rfl | exact lpl (by assumption) | (simp [AV.plain, AV.plains, AV.cells, pev, pla, Pst.c, Pst.later])))) rfl), ?_⟩
        refine OkP.step ?_
        refine OkO.callV rfl rfl rfl rfl rfl (c46 (m + 9) t _) ?_ -- "sackung/sackunglaw04.Terms"
        refine OkO.nil ⟨rfl, ?_⟩
        refine OkP.step ?_
        refine OkO.callV rfl rfl rfl rfl rfl (hB1 (m + 0) _ _ (ii.ext (by (try dsimp only); repeat (first | exact Ext.refl _ | exact Ext.refl _ | apply Ext.new | (refine Ext.put ?_ _ (by first | omega | (simp only [hNw, hPt]; omega))))))) ?_ -- "sackung/alarm.Best"
        refine OkO.nil ⟨(sco (sld rfl rfl (ldg (n := 5) (by kernel_rfl) (by first | assumption | (simp (disch := first | omega | (simp only [hNw, hPt]; omega)) only [gn0, gn1, gn2, gn3, gn4, gn5, gp0, gno, gpo] <;> first | rfl | assumption | exact gp0 _ _ _ | exact gn0 _ _)) (by first | rfl | assumption)) rfl (eqr _ (by first | rfl | exact lpl (by assumption) | (simp [AV.plain, AV.plains, AV.cells, pev, pla, Pst.c, Pst.later])))) rfl), ?_⟩
        refine OkP.step ?_
        refine OkO.move rfl rfl ?_
        refine OkO.nil ⟨rfl, ?_⟩
        refine OkP.step ?_
        refine OkO.extract rfl rfl rfl ?_
        refine OkO.nil ⟨rfl, ?_⟩
        refine OkP.step ?_
        refine OkO.extract rfl rfl rfl ?_
        refine OkO.nil ⟨rfl, ?_⟩
        refine OkP.step ?_
        refine OkO.extract rfl rfl rfl ?_
        refine OkO.nil ⟨rfl, ?_⟩
        refine OkP.step ?_
        refine OkO.store rfl rfl rfl (sAc (n := 3) (ag := true) (by kernel_rfl) (by first | assumption | (simp (disch := first | omega | (simp only [hNw, hPt]; omega)) only [gn0, gn1, gn2, gn3, gn4, gn5, gp0, gno, gpo] <;> first | rfl | assumption | exact gp0 _ _ _ | exact gn0 _ _)) rfl (by first | rfl | assumption | exact (by show atoms [xa, I p.gain, I p.drop, I p.fall, I p.out, I p.ahead] = true; simp [atoms, oa.2, show ∀ z, (I z).atom = true from fun _ => rfl])) (by first | rfl | exact spl_set _ _ _ (by first | assumption | omega | (simp; omega)))) ?_
        refine OkO.nil ⟨rfl, ?_⟩
        refine OkP.step ?_
        refine OkO.assign rfl rfl ?_
        refine OkO.nil ⟨rfl, ?_⟩
        refine OkP.step ?_
        refine OkO.assign rfl rfl ?_
        refine OkO.nil ⟨rfl, ?_⟩
        refine OkP.nil ?_
        refine Ok.seq ?_
        refine Ok.drawn [(0, true, []), (2, true, []), (8, true, [2]), (1, false, [2]), (3, false, []), (4, true, []), (5, true, []), (6, true, []), (7, true, []), (9, false, []), (10, true, []), (11, true, [])] (by kernel_rfl) ?_
        refine OkP.step ?_
        refine OkO.move rfl rfl ?_
        refine OkO.nil ⟨rfl, ?_⟩
        refine OkP.step ?_
        refine OkO.load rfl rfl (ldg (n := 5) (by kernel_rfl) (by first | assumption | (simp (disch := first | omega | (simp only [hNw, hPt]; omega)) only [gn0, gn1, gn2, gn3, gn4, gn5, gp0, gno, gpo] <;> first | rfl | assumption | exact gp0 _ _ _ | exact gn0 _ _)) (by first | rfl | assumption)) ?_
        refine OkO.nil ⟨rfl, ?_⟩
        refine OkP.step ?_
        refine OkO.alloc (z := [.int .i64 0, .int .i64 0, .int .i64 0]) rfl (by kernel_rfl) ?_
        refine OkO.nil ⟨(sco (sld rfl rfl (ldg (n := 5) (by kernel_rfl) (by first | assumption | (simp (disch := first | omega | (simp only [hNw, hPt]; omega)) only [gn0, gn1, gn2, gn3, gn4, gn5, gp0, gno, gpo] <;> first | rfl | assumption | exact gp0 _ _ _ | exact gn0 _ _)) (by first | rfl | assumption)) rfl (eqr _ (by first | rfl | exact lpl (by assumption) | (simp [AV.plain, AV.plains, AV.cells, pev, pla, Pst.c, Pst.later])))) rfl), ?_⟩
        refine OkP.step ?_
        refine OkO.callE rfl rfl rfl rfl rfl (c45 (m + 7) lv l _ (hS.ext (hE _ (by (try dsimp only); repeat (first | exact gg9 | apply Grow.new | (refine Grow.put ?_ _ (by first | omega | (simp only [hNw, hPt]; omega))))))) (by omega) (fun s hs => by have := hsf.2 s hs; omega)) ?_ -- "sackung/sackunglaw04.Seasons"
        rintro xj Hj ⟨qj, mj⟩
        have n10 := qj.ext.next
        try simp only [hNw, hPt] at n10
        have gg10 : Grow W Hj := Grow.ret (by (try dsimp only); repeat (first | exact gg9 | apply Grow.new | (refine Grow.put ?_ _ (by first | omega | (simp only [hNw, hPt]; omega))))) qj
        have a10 : (Hj.get (W.next)).bind AObj.cs = some (p.c ev) := by rw [qj.ext.get _ (by first | omega | (simp only [hNw, hPt]; omega))]; first | assumption | (rw [gn0]; rfl) | (rw [get_put_eq] <;> rfl) | (simp (disch := first | omega | (simp only [hNw, hPt]; omega)) only [gn0, gn1, gn2, gn3, gn4, gn5, gp0, gno, gpo] <;> first | rfl | assumption | (rw [get_put_eq] <;> rfl))
        have kt10 : (Hj.get (W.next + 1)).bind AObj.cs = some t.c := by rw [qj.ext.get _ (by first | omega | (simp only [hNw, hPt]; omega))]; first | assumption | (rw [gn0]; rfl) | (rw [get_put_eq] <;> rfl) | (simp (disch := first | omega | (simp only [hNw, hPt]; omega)) only [gn0, gn1, gn2, gn3, gn4, gn5, gp0, gno, gpo] <;> first | rfl | assumption | (rw [get_put_eq] <;> rfl))
        have kr10 : (Hj.get (W.next + 2)).bind AObj.cs = some r.c := by rw [qj.ext.get _ (by first | omega | (simp only [hNw, hPt]; omega))]; first | assumption | (rw [gn0]; rfl) | (rw [get_put_eq] <;> rfl) | (simp (disch := first | omega | (simp only [hNw, hPt]; omega)) only [gn0, gn1, gn2, gn3, gn4, gn5, gp0, gno, gpo] <;> first | rfl | assumption | (rw [get_put_eq] <;> rfl))
        have kb10 : (Hj.get (W.next + 3)).bind AObj.cs = some ((p.later (min 60 (p.out + mo % 30))).c xa) := by rw [qj.ext.get _ (by first | omega | (simp only [hNw, hPt]; omega))]; first | assumption | (rw [gn0]; rfl) | (rw [get_put_eq] <;> rfl) | (simp (disch := first | omega | (simp only [hNw, hPt]; omega)) only [gn0, gn1, gn2, gn3, gn4, gn5, gp0, gno, gpo] <;> first | rfl | assumption | (rw [get_put_eq] <;> rfl))
        have kg10 : (Hj.get (W.next + 4)).bind AObj.cs = some (t.later (min 60 (t.out + mo % 30))).c := by rw [qj.ext.get _ (by first | omega | (simp only [hNw, hPt]; omega))]; first | assumption | (rw [gn0]; rfl) | (rw [get_put_eq] <;> rfl) | (simp (disch := first | omega | (simp only [hNw, hPt]; omega)) only [gn0, gn1, gn2, gn3, gn4, gn5, gp0, gno, gpo] <;> first | rfl | assumption | (rw [get_put_eq] <;> rfl))
        have z410 : Hj.get (Hi.next) = some (.cells [I 0, I 0, I 0] 68) := by rw [qj.ext.get _ (by first | omega | (simp only [hNw, hPt]; omega))]; first | assumption | exact gn0 _ _ | (simp (disch := first | omega | (simp only [hNw, hPt]; omega)) only [gn0, gn1, gn2, gn3, gn4, gn5, gp0, gno, gpo] <;> first | rfl | assumption | exact gp0 _ _ _ | exact gn0 _ _)
        have ij := mj.g
        refine OkO.nil ⟨(sco (sld rfl rfl (ldg (n := 5) (by kernel_rfl) (by first | assumption | (simp (disch := first | omega | (simp only [hNw, hPt]; omega)) only [gn0, gn1, gn2, gn3, gn4, gn5, gp0, gno, gpo] <;> first | rfl | assumption | exact gp0 _ _ _ | exact gn0 _ _)) (by first | rfl | assumption)) rfl (eqr _ (by first | rfl | exact lpl (by assumption) | (simp [AV.plain, AV.plains, AV.cells, pev, pla, Pst.c, Pst.later])))) rfl), ?_⟩
        refine OkP.step ?_
        refine OkO.callV rfl rfl rfl rfl rfl (hB2 (m + 0) _ _ (ij.ext (by (try dsimp only); repeat (first | exact Ext.refl _ | exact Ext.refl _ | apply Ext.new | (refine Ext.put ?_ _ (by first | omega | (simp only [hNw, hPt]; omega))))))) ?_ -- "sackung/alarm.Best"
        refine OkO.nil ⟨rfl, ?_⟩
        refine OkP.step ?_
        refine OkO.move rfl rfl ?_
        refine OkO.nil ⟨rfl, ?_⟩
        refine OkP.step ?_
        refine OkO.extract rfl rfl rfl ?_
        refine OkO.nil ⟨rfl, ?_⟩
        refine OkP.step ?_
        refine OkO.extract rfl rfl rfl ?_
        refine OkO.nil ⟨rfl, ?_⟩
        refine OkP.step ?_
        refine OkO.extract rfl rfl rfl ?_
        refine OkO.nil ⟨rfl, ?_⟩
        refine OkP.step ?_
        refine OkO.store rfl rfl rfl (sAc (n := 3) (ag := true) (by kernel_rfl) (by first | assumption | (simp (disch := first | omega | (simp only [hNw, hPt]; omega)) only [gn0, gn1, gn2, gn3, gn4, gn5, gp0, gno, gpo] <;> first | rfl | assumption | exact gp0 _ _ _ | exact gn0 _ _)) rfl (by first | rfl | assumption | exact (by show atoms [xa, I p.gain, I p.drop, I p.fall, I p.out, I p.ahead] = true; simp [atoms, oa.2, show ∀ z, (I z).atom = true from fun _ => rfl])) (by first | rfl | exact spl_set _ _ _ (by first | assumption | omega | (simp; omega)))) ?_
        refine OkO.nil ⟨rfl, ?_⟩
        refine OkP.step ?_
        refine OkO.assign rfl rfl ?_
        refine OkO.nil ⟨rfl, ?_⟩
        refine OkP.step ?_
        refine OkO.assign rfl rfl ?_
        refine OkO.nil ⟨rfl, ?_⟩
        refine OkP.nil ?_
        refine Ok.seq ?_
        refine Ok.seq ?_
        refine Ok.region ?_
        refine OkO.move rfl rfl ?_
        refine OkO.bin rfl rfl rfl (bin_neq _ _) ?_
        refine OkO.nil ?_
        refine Ok.cond rfl (fun h4 => ?_) (fun h4 => ?_)
        · -- yes h4
          have e2x : e2 ≠ 0 := by simpa using h4
          have e2n : e2 = 11 := by (rcases h12 with h | h); (· exact h.1); (· exact absurd h.1 e2x)
          have e1o : e1 = 0 ∨ e1 = 11 := by (rcases h12 with h | h); (· exact h.2); (· exact absurd h.1 e2x)
          refine Ok.seq ?_
          refine Ok.region ?_
          refine OkO.move rfl rfl ?_
          refine OkO.bin rfl rfl rfl ((bin_eql _ _).trans (congrArg (fun b => some (AV.bool b)) (show _ = true from (by exact decide_eq_true e2n)))) ?_
          refine OkO.move rfl rfl ?_
          refine OkO.move rfl rfl ?_
          refine OkO.bin rfl rfl rfl (bin_eql _ _) ?_
          refine OkO.move rfl rfl ?_
          refine OkO.split (d := 215) rfl (fun g5 => ?_) (fun g5 => ?_)
          · -- true g5
            refine OkO.skip rfl ?_
            refine OkO.skip rfl ?_
            refine OkO.pick (b := true) rfl rfl (fun _ => rfl) nofun ?_
            refine OkO.pick (b := true) rfl rfl (fun _ => rfl) nofun ?_
            refine OkO.move rfl rfl ?_
            refine OkO.callV rfl rfl rfl rfl rfl (rfl) ?_ -- "sackung/sackunglaw04.awake"
            refine OkO.pick (b := true) rfl rfl (fun _ => rfl) nofun ?_
            refine OkO.assign rfl rfl ?_
            refine OkO.nil ?_
            refine Ok.ret ⟨.inr rfl, ?_⟩
            exact back_flat rfl rfl rfl (by rw [← hW]; exact (by (try dsimp only); repeat (first | exact gg10 | apply Grow.new | (refine Grow.put ?_ _ (by first | omega | (simp only [hNw, hPt]; omega))))))
          · -- false g5
            refine OkO.move rfl rfl ?_
            refine OkO.bin rfl rfl rfl ((bin_eql _ _).trans (congrArg (fun b => some (AV.bool b)) (show _ = true from (by exact decide_eq_true (e1o.resolve_left (by simpa using g5)))))) ?_
            refine OkO.pick (b := false) rfl rfl nofun (fun _ => rfl) ?_
            refine OkO.pick (b := true) rfl rfl (fun _ => rfl) nofun ?_
            refine OkO.move rfl rfl ?_
            refine OkO.callV rfl rfl rfl rfl rfl (rfl) ?_ -- "sackung/sackunglaw04.awake"
            refine OkO.pick (b := true) rfl rfl (fun _ => rfl) nofun ?_
            refine OkO.assign rfl rfl ?_
            refine OkO.nil ?_
            refine Ok.ret ⟨.inr rfl, ?_⟩
            exact back_flat rfl rfl rfl (by rw [← hW]; exact (by (try dsimp only); repeat (first | exact gg10 | apply Grow.new | (refine Grow.put ?_ _ (by first | omega | (simp only [hNw, hPt]; omega))))))
        · -- no h4
          have e2x : e2 = 0 := by simpa using h4
          have e1z : e1 = 0 := by (rcases h12 with h | h); (· rw [h.1] at e2x; cases e2x); (· exact h.2.1)
          have hle : pr1 ≤ pr2 := by (rcases h12 with h | h); (· rw [h.1] at e2x; cases e2x); (· exact h.2.2)
          refine Ok.skip ?_
          refine Ok.seq ?_
          refine Ok.region ?_
          refine OkO.move rfl rfl ?_
          refine OkO.bin rfl rfl rfl ((bin_eql _ _).trans (congrArg (fun b => some (AV.bool b)) (show _ = true from (by exact decide_eq_true e1z)))) ?_
          refine OkO.move rfl rfl ?_
          refine OkO.move rfl rfl ?_
          refine OkO.move rfl rfl ?_
          refine OkO.bin rfl rfl rfl ((bin_geq _ _).trans (congrArg (fun b => some (AV.bool b)) (show _ = true from (by exact decide_eq_true hle)))) ?_
          refine OkO.pick (b := true) rfl rfl (fun _ => rfl) nofun ?_
          refine OkO.move rfl rfl ?_
          refine OkO.callV rfl rfl rfl rfl rfl (rfl) ?_ -- "sackung/sackunglaw04.awake"
          refine OkO.pick (b := true) rfl rfl (fun _ => rfl) nofun ?_
          refine OkO.assign rfl rfl ?_
          refine OkO.nil ?_
          refine Ok.ret ⟨.inr rfl, ?_⟩
          exact back_flat rfl rfl rfl (by rw [← hW]; exact (by (try dsimp only); repeat (first | exact gg10 | apply Grow.new | (refine Grow.put ?_ _ (by first | omega | (simp only [hNw, hPt]; omega))))))
theorem c16T (m : Nat) (ev rv lv : AV) (p : Pst) (rows : List (List Int)) (l : List Sea) (t : Trm) (r : Rul) (mo : Int) (H : Heap) (hV : Ints H ev p.errs) (hRs : LstAt H rv rows) (hS : SeasAt H lv l) (hmo : 0 ≤ mo ∧ mo ≤ 255) : RR (m + 11) (.fn 16 [.agg (p.c ev), rv, lv, .agg t.c, .agg r.c, .int .u8 mo]) H = some (.bool true, H) := by
  cases hrd : (thinB p rows && decide (faultE p rows = 0)) with
  | false => exact c16W m ev rv lv p rows l t r mo H hV hRs hS hmo hrd
  | true =>
    cases hsh : shortL l with
    | false => exact c16V m ev rv lv p rows l t r mo H hV hRs hS hmo hrd hsh
    | true =>
      by_cases he : termErr l t = 0
      · cases hr : r.ok with
        | false => exact c16R m ev rv lv p rows l t r mo H hV hRs hS hmo hrd hsh he hr
        | true =>
          obtain ⟨ht, hl9, hs9, _⟩ := termErr_facts he
          have hto : 0 ≤ t.out ∧ t.out ≤ 60 := by
            unfold Trm.ok inB at ht
            simp only [Bool.and_eq_true, decide_eq_true_eq] at ht
            omega
          have ho2 : 0 ≤ min 60 (t.out + mo % 30) ∧ min 60 (t.out + mo % 30) ≤ 60 := by omega
          have hge : t.out ≤ min 60 (t.out + mo % 30) := by omega
          have he2 := later_term he ho2
          obtain ⟨q1, pr1, e1, hB1, hF1⟩ := best_ex he hl9 hs9 ht
          obtain ⟨q2, pr2, e2, hB2, hF2⟩ := best_ex he2 hl9 hs9 (termErr_facts he2).1
          have h12 : (e2 = 11 ∧ (e1 = 0 ∨ e1 = 11)) ∨ (e2 = 0 ∧ e1 = 0 ∧ pr1 ≤ pr2) := by
            rcases hF2 with ⟨h2, _⟩ | ⟨s2, h2, hb2, hp2⟩
            · rcases hF1 with ⟨h1, _⟩ | ⟨s1, h1, _⟩
              · exact .inl ⟨h2, .inr h1⟩
              · exact .inl ⟨h2, .inl h1⟩
            · have hfi := later_fine hge hb2.2.1
              rcases hF1 with ⟨_, h1⟩ | ⟨s1, h1, hb1, hp1⟩
              · rw [h1 s2 hb2.1] at hfi; cases hfi
              · refine .inr ⟨h2, h1, ?_⟩
                rw [hp1, hp2, later_price]
                rcases hb1.2.2 s2 hb2.1 hfi with h | h <;> omega
          have h9 : ∃ (n9 : Nat) (e9 : Int), (e9 = 0 → n9 = rows.length) ∧ ((possB p rows rows.length = true ∧ n9 = rows.length ∧ e9 = 0) ∨ (possB p rows rows.length = false ∧ n9 = 0 ∧ e9 = 9)) := by
            cases hp : possB p rows rows.length with
            | true => exact ⟨rows.length, 0, fun _ => rfl, .inl ⟨rfl, rfl, rfl⟩⟩
            | false => exact ⟨0, 9, (fun h => absurd h (by decide)), .inr ⟨rfl, rfl, rfl⟩⟩
          obtain ⟨n9, e9, hen, hne⟩ := h9
          exact c16Y m ev rv lv p rows l t r mo H hV hRs hS hmo hrd hsh he hr hto n9 e9 hen hne _ _ (fun h => later_all hge h) rfl rfl q1 q2 pr1 pr2 e1 e2 hB1 hB2 h12
      · exact c16U m ev rv lv p rows l t r mo H hV hRs hS hmo hrd hsh he
end
end Go.Ev

