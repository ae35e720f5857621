/-
  Functions of the program, reckoned by the evaluator: what each answers, and that it leaves what came in as it was.
-/
import Derived.Test.YthcjhfddoaccnaaPt27
set_option maxRecDepth 100000
set_option linter.unusedSimpArgs false
set_option linter.unusedVariables false
namespace Go.Ev
open Go Go.Proofs
noncomputable section
/-- The speeds whose least and greatest are known in an hour. -/
def spdL (p : Pst) (rows : List (List Int)) (h : Nat) : Nat → List Int
  | 0 => []
  | i + 1 => spdL p rows h i ++ (if h + 1 ≤ lenM p rows i then [((mayL p ((i : Int) - 1) rows).getD h nul).1, ((mayL p ((i : Int) - 1) rows).getD h nul).2] else [])
theorem spdL_yes {p : Pst} {rows : List (List Int)} {h i : Nat} (hr : h + 1 ≤ lenM p rows i) (hh : h < (mayL p ((i : Int) - 1) rows).length) : spdL p rows h (i + 1) = spdL p rows h i ++ [(mayL p ((i : Int) - 1) rows)[h].1, (mayL p ((i : Int) - 1) rows)[h].2] := by
  show spdL p rows h i ++ (if h + 1 ≤ lenM p rows i then _ else _) = _
  rw [if_pos hr, show (mayL p ((i : Int) - 1) rows).getD h nul = (mayL p ((i : Int) - 1) rows)[h] from by simp [List.getD, hh]]
theorem spdL_no {p : Pst} {rows : List (List Int)} {h i : Nat} (hr : ¬ h + 1 ≤ lenM p rows i) : spdL p rows h (i + 1) = spdL p rows h i := by
  show spdL p rows h i ++ (if h + 1 ≤ lenM p rows i then _ else _) = _
  rw [if_neg hr, List.append_nil]
theorem spdL_len (p : Pst) (rows : List (List Int)) (h : Nat) : ∀ i, (spdL p rows h i).length ≤ 2 * i
  | 0 => by simp [spdL]
  | i + 1 => by
    have := spdL_len p rows h i
    show (spdL p rows h i ++ _).length ≤ _
    rw [List.length_append]
    split <;> simp <;> omega
theorem ivs_at {k : Nat} {G : Heap} {v : AV} {l : List Iv} (h : Mine k G v 125 2 (ivCells l)) {i : Nat} (hi : i < l.length) : ∃ b off cs, slAt v 2 i = some (b, off) ∧ (G.get b).bind AObj.cs = some cs ∧ cs[off]? = some (I l[i].1) ∧ cs[off + 1]? = some (I l[i].2) ∧ seg cs off 2 = some (ivc l[i]) ∧ b < G.next := by
  obtain ⟨b, off, cs, i1, i2, i3, i4⟩ := h.ivs.at_ i (ivc l[i]) (by simp [hi])
  refine ⟨b, off, cs, i1, i2, ?_, ?_, i3, i4⟩
  · exact seg_one (seg_sub i3 0 1 (by omega) (by omega))
  · exact seg_one (seg_sub i3 1 1 (by omega) (by omega))
theorem RngJ.mine {X : Heap} {bl : List Nat} {st : LoopState} {pd : Option Code} {ps : List Tmp} {sa bd : Code} {T0 : Tr AV} {G : Heap} (h : RngJ X bl st pd ps sa bd T0 G) {k : Nat} {v : AV} {e : TypeId} {sz : Nat} {cs : List AV} (hm : Mine k X v e sz cs) (hb : ∀ j ∈ bl, ∀ m, v ≠ .opn j m) : Mine k G v e sz cs := by
  rcases hm with hm | ⟨b, n, rfl, h2, h3, h4, h5⟩
  · exact .inl hm
  · exact .inr ⟨b, n, rfl, by rw [h.get b h5 (fun hc => hb b hc n rfl)]; exact h2, h3, h4, by have := h.nx; omega⟩
theorem RngJ.grow {W X : Heap} {bl : List Nat} {st : LoopState} {pd : Option Code} {ps : List Tmp} {sa bd : Code} {T0 : Tr AV} {G : Heap} (h : RngJ X bl st pd ps sa bd T0 G) (g : Grow W X) (hb : ∀ j ∈ bl, W.next ≤ j) (hlo : W.next ≤ G.lo) : Grow W G :=
  ⟨by have := h.nx; have := g.next; omega, fun n hn => by rw [h.get n (by have := g.next; omega) (fun hc => by have := hb n hc; omega)]; exact g.get n hn, hlo⟩
noncomputable def as61 : Code := match Try.f61.body.bind rangeOf with | some r => r.1 | none => .skip
noncomputable def bd61 : Code := match Try.f61.body.bind rangeOf with | some r => r.2 | none => .skip
theorem RngJ.turn {X : Heap} {bl : List Nat} {st st' : LoopState} {pd pd' : Option Code} {ps : List Tmp} {sa bd : Code} {T0 : Tr AV} {G : Heap} (h : RngJ X bl st pd ps sa bd T0 G) : RngJ X bl st' pd' ps sa bd T0 (G.put (X.next + 1) (.loop st' pd' T0 ps sa bd X.next)) :=
  ⟨by simp; exact h.nx, fun j a c => by rw [gpo _ _ _ _ (by omega)]; exact h.get j a c, by rw [gpo _ _ _ _ (by omega)]; exact h.b0, gp0 _ _ _⟩
theorem RngJ.move {X : Heap} {bl : List Nat} {st : LoopState} {pd : Option Code} {ps : List Tmp} {sa bd : Code} {T0 : Tr AV} {G G' : Heap} (h : RngJ X bl st pd ps sa bd T0 G) (hb : ∀ j ∈ bl, j < X.next) (hn : G.next ≤ G'.next) (hg : ∀ j, j < X.next + 2 → j ∉ bl → G'.get j = G.get j) : RngJ X bl st pd ps sa bd T0 G' :=
  ⟨Nat.le_trans h.nx hn, fun j a c => by rw [hg j (by omega) c]; exact h.get j a c, by rw [hg _ (by omega) (fun hc => by have := hb _ hc; omega)]; exact h.b0, by rw [hg _ (by omega) (fun hc => by have := hb _ hc; omega)]; exact h.b1⟩
theorem r61 (m h i : Nat) (p : Pst) (rows : List (List Int)) (x : AV) (fl : Int) (T0 : Tr AV) (W X G : Heap) (hH : Has 6 [(3, .ptr (W.next + 1) 0), (5, .ptr (W.next + 3) 0)] T0) (hJ : (fun i G => RngJ X [W.next + 3] .ready none [13, 14] as61 bd61 T0 G ∧ ∃ ov, G.get (W.next + 3) = some (.cells [ov] 22) ∧ Mine (X.next + 2) G ov 3 1 ((spdL p rows h i).map I)) i G) (gX : Grow W X) (hN : W.next + 4 ≤ X.next) (x1 : X.get (W.next + 1) = some (.cells [I (h : Int)] 3)) (x3 : X.get (W.next + 3) = some (.cells [.nils] 22)) (hx : Mine 0 X x 125 2 (ivCells (mayL p ((i : Int) - 1) rows))) (hi : i ≤ p.errs.length) (hpl : p.errs.length ≤ 1000) (hr : h + 1 ≤ lenM p rows i) (hlo : W.next ≤ G.lo) :
    ∃ v H', RR (m + 1) (.round (X.next + 1) [I fl, x]) G = some (v, H') ∧ v = .bool true ∧ (fun i G => RngJ X [W.next + 3] .ready none [13, 14] as61 bd61 T0 G ∧ ∃ ov, G.get (W.next + 3) = some (.cells [ov] 22) ∧ Mine (X.next + 2) G ov 3 1 ((spdL p rows h i).map I)) (i + 1) H' ∧ W.next ≤ H'.lo ∧ H'.lo ≤ X.next + 1 ∧ G.next ≤ H'.next := by
  show ∃ v H', evRound Try.prog (RR m) (X.next + 1) [I fl, x] G = some (v, H') ∧ v = .bool true ∧ (fun i G => RngJ X [W.next + 3] .ready none [13, 14] as61 bd61 T0 G ∧ ∃ ov, G.get (W.next + 3) = some (.cells [ov] 22) ∧ Mine (X.next + 2) G ov 3 1 ((spdL p rows h i).map I)) (i + 1) H' ∧ W.next ≤ H'.lo ∧ H'.lo ≤ X.next + 1 ∧ G.next ≤ H'.next
  obtain ⟨fr, hT⟩ := hH
  obtain ⟨hj, ov, h3, hov⟩ := hJ
  have hh : h < (mayL p ((i : Int) - 1) rows).length := hr
  obtain ⟨yl, hyl⟩ : ∃ yl, yl = mayL p ((i : Int) - 1) rows := ⟨_, rfl⟩
  subst hT
  have hnx := hj.nx
  refine round_okR hj.b1 rfl ?_
  refine Ok.region ?_
  refine OkO.assign rfl rfl ?_
  refine OkO.nil ?_
  refine ⟨rfl, _, _, _, _, _, _, hj.b1, ?_⟩
  obtain ⟨G1, hG1⟩ : ∃ G1, G1 = G.put (X.next + 1) (.loop .busy none (mkT 6 0 1 (upd fr [(3, .ptr (W.next + 1) 0), (5, .ptr (W.next + 3) 0)])) [13, 14] as61 bd61 X.next) := ⟨_, rfl⟩
  rw [← hG1]
  have hj1 : RngJ X [W.next + 3] .busy none [13, 14] as61 bd61 (mkT 6 0 1 (upd fr [(3, .ptr (W.next + 1) 0), (5, .ptr (W.next + 3) 0)])) G1 := by rw [hG1]; exact hj.turn
  have n1 : G1.next = G.next := by rw [hG1]; simp
  have hn1 := hj1.nx
  have hov1 : Mine (X.next + 2) G1 ov 3 1 ((spdL p rows h i).map I) := by rw [hG1]; exact hov.putO _ hj.b1 nofun
  have e3 : G1.get (W.next + 3) = some (.cells [ov] 22) := by rw [hG1, gpo _ _ _ _ (by omega)]; exact h3
  have e3b : (G1.get (W.next + 3)).bind AObj.cs = some [ov] := by rw [e3]; rfl
  have e1b : (G1.get (W.next + 1)).bind AObj.cs = some [I (h : Int)] := by rw [hj1.get _ (by omega) (by simp), x1]; rfl
  rw [← hyl] at hx
  obtain ⟨xb, xo, xcs, i1, i2x, i3, i4, i5, i6⟩ := ivs_at hx (i := h) (by rw [hyl]; exact hh)
  have hxn : xb ≠ W.next + 3 := fun e => by (rw [e, x3] at i2x; cases i2x; (cases xo <;> simp [I] at i3))
  have i2 : (G1.get xb).bind AObj.cs = some xcs := by rw [hj1.get _ i6 (by simpa using hxn)]; exact i2x
  obtain ⟨mo, hmo, _⟩ := hov1.len
  obtain ⟨mx, hmx, _⟩ := hx.len
  have hlo1 : W.next ≤ G1.lo := by rw [hG1, Heap.lo_put]; omega
  have gW : Grow W G1 := hj1.grow gX (fun j hj => by simp at hj; omega) hlo1
  refine Ok.block ?_
  refine Ok.drawn [(0, true, []), (1, true, []), (2, true, []), (3, true, []), (4, true, []), (5, true, []), (6, true, []), (7, true, []), (8, true, []), (9, true, []), (10, true, []), (11, true, [10, 7, 5, 2, 0]), (12, false, [10, 7, 5, 2]), (13, false, [])] (by kernel_rfl) ?_
  refine OkP.step ?_
  refine OkO.load rfl rfl (lda (n := 1) (by kernel_rfl) (by first | assumption | (simp (disch := first | omega | (simp only [hNw, hPt]; omega)) only [gn0, gn1, gn2, gn3, gn4, gn5, gp0, gno, gpo] <;> first | rfl | assumption | exact gp0 _ _ _ | exact gn0 _ _)) (by first | rfl | assumption)) ?_
  refine OkO.nil ⟨rfl, ?_⟩
  refine OkP.step ?_
  refine OkO.move rfl rfl ?_
  refine OkO.nil ⟨rfl, ?_⟩
  refine OkP.step ?_
  refine OkO.load rfl rfl (lda (n := 1) (by kernel_rfl) (by first | assumption | (simp (disch := first | omega | (simp only [hNw, hPt]; omega)) only [gn0, gn1, gn2, gn3, gn4, gn5, gp0, gno, gpo] <;> first | rfl | assumption | exact gp0 _ _ _ | exact gn0 _ _)) (by first | rfl | assumption)) ?_
  refine OkO.nil ⟨rfl, ?_⟩
  refine OkP.step ?_
  refine OkO.index (sz := 2) (n := h) rfl rfl rfl (by kernel_rfl) (by first | assumption | rfl | exact slAt_slice (by omega) | exact slAt_opn (by omega)) ?_ -- index ('Go.Operand.tmp', 16) ('Go.Operand.tmp', 17)
  refine OkO.nil ⟨rfl, ?_⟩
  refine OkP.step ?_
  refine OkO.indexArr (len := 2) (sz := 1) (n := 0) rfl rfl rfl (by kernel_rfl) (by omega) ?_
  refine OkO.nil ⟨rfl, ?_⟩
  refine OkP.step ?_
  refine OkO.load rfl rfl (lda (n := 1) (by kernel_rfl) (by first | assumption | (simp (disch := first | omega | (simp only [hNw, hPt]; omega)) only [gn0, gn1, gn2, gn3, gn4, gn5, gp0, gno, gpo] <;> first | rfl | assumption | exact gp0 _ _ _ | exact gn0 _ _)) (by first | rfl | assumption)) ?_
  refine OkO.nil ⟨rfl, ?_⟩
  refine OkP.step ?_
  refine OkO.move rfl rfl ?_
  refine OkO.nil ⟨rfl, ?_⟩
  refine OkP.step ?_
  refine OkO.load rfl rfl (lda (n := 1) (by kernel_rfl) (by first | assumption | (simp (disch := first | omega | (simp only [hNw, hPt]; omega)) only [gn0, gn1, gn2, gn3, gn4, gn5, gp0, gno, gpo] <;> first | rfl | assumption | exact gp0 _ _ _ | exact gn0 _ _)) (by first | rfl | assumption)) ?_
  refine OkO.nil ⟨rfl, ?_⟩
  refine OkP.step ?_
  refine OkO.index (sz := 2) (n := h) rfl rfl rfl (by kernel_rfl) (by first | assumption | rfl | exact slAt_slice (by omega) | exact slAt_opn (by omega)) ?_ -- index ('Go.Operand.tmp', 21) ('Go.Operand.tmp', 22)
  refine OkO.nil ⟨rfl, ?_⟩
  refine OkP.step ?_
  refine OkO.indexArr (len := 2) (sz := 1) (n := 1) rfl rfl rfl (by kernel_rfl) (by omega) ?_
  refine OkO.nil ⟨rfl, ?_⟩
  refine OkP.step ?_
  refine OkO.load rfl rfl (lda (n := 1) (by kernel_rfl) (by first | assumption | (simp (disch := first | omega | (simp only [hNw, hPt]; omega)) only [gn0, gn1, gn2, gn3, gn4, gn5, gp0, gno, gpo] <;> first | rfl | assumption | exact gp0 _ _ _ | exact gn0 _ _)) (by first | rfl | assumption)) ?_
  refine OkO.nil ⟨rfl, ?_⟩
  refine OkP.step ?_
  refine OkO.buildSlice (el := 3) (sz := 1) (z := [.int .i64 0]) rfl (by kernel_rfl) (by decide) rfl rfl ?_
  refine OkO.nil ⟨(sco (sld rfl rfl (lda (n := 1) (by kernel_rfl) (by first | assumption | (simp (disch := first | omega | (simp only [hNw, hPt]; omega)) only [gn0, gn1, gn2, gn3, gn4, gn5, gp0, gno, gpo] <;> first | rfl | assumption | exact gp0 _ _ _ | exact gn0 _ _)) (by first | rfl | assumption)) rfl (eqr _ (by first | rfl | exact lpl (by assumption) | (simp [AV.plain, AV.plains, AV.cells, AV.plain])))) (sco (sld rfl rfl (lda (n := 1) (by kernel_rfl) (by first | assumption | (simp (disch := first | omega | (simp only [hNw, hPt]; omega)) only [gn0, gn1, gn2, gn3, gn4, gn5, gp0, gno, gpo] <;> first | rfl | assumption | exact gp0 _ _ _ | exact gn0 _ _)) (by first | rfl | assumption)) rfl (eqr _ (by first | rfl | exact lpl (by assumption) | (simp [AV.plain, AV.plains, AV.cells, AV.plain])))) (sco (sld rfl rfl (lda (n := 1) (by kernel_rfl) (by first | assumption | (simp (disch := first | omega | (simp only [hNw, hPt]; omega)) only [gn0, gn1, gn2, gn3, gn4, gn5, gp0, gno, gpo] <;> first | rfl | assumption | exact gp0 _ _ _ | exact gn0 _ _)) (by first | rfl | assumption)) rfl (eqr _ (by first | rfl | exact lpl (by assumption) | (simp [AV.plain, AV.plains, AV.cells, AV.plain])))) (sco (sld rfl rfl (lda (n := 1) (by kernel_rfl) (by first | assumption | (simp (disch := first | omega | (simp only [hNw, hPt]; omega)) only [gn0, gn1, gn2, gn3, gn4, gn5, gp0, gno, gpo] <;> first | rfl | assumption | exact gp0 _ _ _ | exact gn0 _ _)) (by first | rfl | assumption)) rfl (eqr _ (by first | rfl | exact lpl (by assumption) | (simp [AV.plain, AV.plains, AV.cells, AV.plain])))) (sco (sld rfl rfl (lda (n := 1) (by kernel_rfl) (by first | assumption | (simp (disch := first | omega | (simp only [hNw, hPt]; omega)) only [gn0, gn1, gn2, gn3, gn4, gn5, gp0, gno, gpo] <;> first | rfl | assumption | exact gp0 _ _ _ | exact gn0 _ _)) (by first | rfl | assumption)) rfl (eqr _ (by first | rfl | exact lpl (by assumption) | (simp [AV.plain, AV.plains, AV.cells, AV.plain])))) rfl))))), ?_⟩
  refine OkP.step ?_
  refine OkO.builtinE rfl rfl rfl (Mine.app2 (W := W) (k0 := X.next + 2) (t := 22) (u := 22) (sz := 1) (by_ := 8) (e := 3) (n := 2) (new := [I (yl[h]'(by rw [hyl]; exact hh)).1, I (yl[h]'(by rw [hyl]; exact hh)).2]) (hov1.to (by repeat (first | exact Ext.refl _ | apply Ext.new))) (by repeat (first | exact gW | apply Grow.new)) (by omega) (by simp; omega) (by kernel_rfl) (by kernel_rfl) (elems_new (n := 2) (sz := 1) rfl) rfl rfl (by have h9 := spdL_len p rows h i; simp; omega) (by omega) (by omega) rfl) ?_
  rintro v2 G2 ⟨r2, r3, r4, r5, r6, _⟩
  simp only [hNw] at r5 r6
  have v2o := r2.one
  have q1 : (G2.get (W.next + 1)).bind AObj.cs = some [I (h : Int)] := by rw [r5 _ (by omega) (hov1.far (by omega)), gno _ _ _ (by omega)]; exact e1b
  have q3 : (G2.get (W.next + 3)).bind AObj.cs = some [ov] := by rw [r5 _ (by omega) (hov1.far (by omega)), gno _ _ _ (by omega)]; exact e3b
  have q3o : G2.get (W.next + 3) = some (.cells [ov] 22) := by rw [r5 _ (by omega) (hov1.far (by omega)), gno _ _ _ (by omega)]; exact e3
  have qx : (G2.get xb).bind AObj.cs = some xcs := by rw [r5 _ (by omega) (hov1.far (by omega)), gno _ _ _ (by omega)]; exact i2
  refine OkO.nil ⟨(sco (sld rfl rfl (lda (n := 1) (by kernel_rfl) (by first | assumption | (simp (disch := first | omega | (simp only [hNw, hPt]; omega)) only [gn0, gn1, gn2, gn3, gn4, gn5, gp0, gno, gpo] <;> first | rfl | assumption | exact gp0 _ _ _ | exact gn0 _ _)) (by first | rfl | assumption)) rfl (eqr _ (by first | rfl | exact lpl (by assumption) | (simp [AV.plain, AV.plains, AV.cells, AV.plain])))) (sco (sld rfl rfl (lda (n := 1) (by kernel_rfl) (by first | assumption | (simp (disch := first | omega | (simp only [hNw, hPt]; omega)) only [gn0, gn1, gn2, gn3, gn4, gn5, gp0, gno, gpo] <;> first | rfl | assumption | exact gp0 _ _ _ | exact gn0 _ _)) (by first | rfl | assumption)) rfl (eqr _ (by first | rfl | exact lpl (by assumption) | (simp [AV.plain, AV.plains, AV.cells, AV.plain])))) (sco (sld rfl rfl (lda (n := 1) (by kernel_rfl) (by first | assumption | (simp (disch := first | omega | (simp only [hNw, hPt]; omega)) only [gn0, gn1, gn2, gn3, gn4, gn5, gp0, gno, gpo] <;> first | rfl | assumption | exact gp0 _ _ _ | exact gn0 _ _)) (by first | rfl | assumption)) rfl (eqr _ (by first | rfl | exact lpl (by assumption) | (simp [AV.plain, AV.plains, AV.cells, AV.plain])))) (sco (sld rfl rfl (lda (n := 1) (by kernel_rfl) (by first | assumption | (simp (disch := first | omega | (simp only [hNw, hPt]; omega)) only [gn0, gn1, gn2, gn3, gn4, gn5, gp0, gno, gpo] <;> first | rfl | assumption | exact gp0 _ _ _ | exact gn0 _ _)) (by first | rfl | assumption)) rfl (eqr _ (by first | rfl | exact lpl (by assumption) | (simp [AV.plain, AV.plains, AV.cells, AV.plain])))) rfl)))), ?_⟩
  refine OkP.step ?_
  refine OkO.store rfl rfl rfl (sAc (n := 1) (ag := false) (l := [v2]) (by kernel_rfl) q3o (by rw [v2o.1]; rfl) (by rw [v2o.1]; simp [atoms, v2o.2]) (by rw [v2o.1]; rfl)) ?_
  refine OkO.nil ⟨rfl, ?_⟩
  refine OkP.nil ?_
  have qb1 := (r5 (X.next + 1) (by omega) (hov1.far (by omega))).trans ((gno _ _ _ (by omega)).trans hj1.b1)
  have qp1 := (gpo G2 (W.next + 3) (X.next + 1) (.cells [v2] 22) (by omega)).trans qb1
  refine ⟨_, _, _, _, _, _, _, qp1, .inl ⟨rfl, rfl, ⟨RngJ.turn ((hj1.move (fun j hj => by simp at hj; omega) (by simp only [hPt]; omega) (fun j a c => ?_))), v2, ?_, ?_⟩, ?_, ?_, ?_⟩⟩
  · rw [gpo _ _ _ _ (fun e => c (by simp [e])), r5 _ (by omega) (hov1.far (by omega)), gno _ _ _ (by omega)]
  · rw [gpo _ _ _ _ (by omega)]; exact gp0 _ _ _
  · subst hyl; rw [spdL_yes hr hh, List.map_append]
    exact (r2.put _ (by omega)).putO _ qp1 nofun
  · have := r3.lo; simp only [Heap.lo_put]; omega
  · simp only [Heap.lo_put]; omega
  · simp only [hPt]; omega
theorem mxL_mem : ∀ {L : List Int}, L ≠ [] → mxL L ∈ L
  | [], h => absurd rfl h
  | a :: l, _ => by
    have key : ∀ (l : List Int) (a : Int), l.foldl max a ∈ a :: l := fun l => by
      induction l with
      | nil => intro a; simp
      | cons c l ih =>
        intro a
        have := ih (max a c)
        rw [List.foldl_cons]
        rcases List.mem_cons.1 this with h | h
        · rw [h]
          rcases Int.le_total a c with h9 | h9
          · rw [Int.max_eq_right h9]; simp
          · rw [Int.max_eq_left h9]; simp
        · exact List.mem_cons_of_mem _ (List.mem_cons_of_mem _ h)
    exact key l a
theorem may_mem {p : Pst} {f : Int} {rows : List (List Int)} {h : Nat} (hh : h < (mayL p f rows).length) : (mayL p f rows)[h] = lastI p f (rows.take (h + 1)) ∧ lastI p f (rows.take (h + 1)) ≠ nul := by
  have h1 : h < rows.length := Nat.lt_of_lt_of_le hh (may_len_le p f rows (0, 1000))
  have h2 := may_get (p := p) (f := f) h1
  rw [List.getElem?_eq_getElem hh] at h2
  split at h2
  · cases h2
  · rename_i h3
    exact ⟨Option.some.inj h2, h3⟩
theorem may_bd {p : Pst} {f : Int} {rows : List (List Int)} {h : Nat} (hh : h < (mayL p f rows).length) : (0 ≤ (mayL p f rows)[h].1 ∧ (mayL p f rows)[h].1 ≤ 1000) ∧ (0 ≤ (mayL p f rows)[h].2 ∧ (mayL p f rows)[h].2 ≤ 1000) ∧ (mayL p f rows)[h].1 ≤ (mayL p f rows)[h].2 := by
  obtain ⟨e, h3⟩ := may_mem hh
  rw [e]
  have h4 : (lastI p f (rows.take (h + 1))).1 ≤ (lastI p f (rows.take (h + 1))).2 := by
    rcases last_prp p f (rows.take (h + 1)) with h | h
    · exact absurd h h3
    · exact h
  exact ⟨last_bd ⟨Int.le_refl _, h4⟩, last_bd ⟨h4, Int.le_refl _⟩, h4⟩
theorem spdL_bd {p : Pst} {rows : List (List Int)} {h : Nat} : ∀ {i : Nat} {x : Int}, x ∈ spdL p rows h i → 0 ≤ x ∧ x ≤ 1000
  | 0, x, hx => by simp [spdL] at hx
  | i + 1, x, hx => by
    by_cases hr : h + 1 ≤ lenM p rows i
    · have hh : h < (mayL p ((i : Int) - 1) rows).length := hr
      rw [spdL_yes hr hh] at hx
      have h9 := may_bd hh
      rcases List.mem_append.1 hx with h8 | h8
      · exact spdL_bd h8
      · simp at h8
        rcases h8 with rfl | rfl
        · exact h9.1
        · exact h9.2.1
    · rw [spdL_no hr] at hx
      exact spdL_bd hx
theorem c61 (m : Nat) (ev : AV) (p : Pst) (mb hr9 : Nat) (rows : List (List Int)) (H : Heap) (hM : ∃ o vs, H.get mb = some o ∧ MapO o I (mapF vs) ∧ vs.length = p.errs.length + 1 ∧ ∀ (j : Nat) (x : AV), vs[j]? = some x → Mine 0 H x 125 2 (ivCells (mayL p ((j : Int) - 1) rows))) (hmb : mb < H.next) (hel : lenOf ev = some p.errs.length) (hpl : p.errs.length ≤ 1000) (hl1 : 1 ≤ (spdL p rows hr9 (p.errs.length + 1)).length) (hpo : (0 ≤ p.gain ∧ p.gain ≤ 200) ∧ (1 ≤ p.fall ∧ p.fall ≤ 1000) ∧ (0 ≤ p.out ∧ p.out ≤ 60) ∧ 0 ≤ p.ahead ∧ p.ahead ≤ 60) (hrb : hr9 ≤ 1000) : RR (m + 5) (.fn 61 [.agg (p.d ev mb), I (hr9 : Int)]) H = some (.agg [I (mnL (spdL p rows hr9 (p.errs.length + 1))), I (mxL (spdL p rows hr9 (p.errs.length + 1))), .int .u8 (levelI p (mxL (spdL p rows hr9 (p.errs.length + 1))))], H) := by
  refine (R_fn _ _ _ _ _).trans ?_
  refine fn_ok Try.func61 rfl rfl (by kernel_rfl) (by kernel_rfl) ?_
  obtain ⟨W, hW⟩ : ∃ W : Heap, W = ⟨H.t, H.next, H.next⟩ := ⟨_, rfl⟩
  have hg : ∀ n, W.get n = H.get n := fun n => by rw [hW]; rfl
  have hN : W.next = H.next := by rw [hW]
  have hE : ∀ G, Grow W G → Ext H G := fun G g => ⟨by rw [← hN]; exact g.next, fun n k => by rw [g.get n (by rw [hN]; exact k), hg]⟩
  have hG : Grow W W := Grow.refl (by rw [hW]; exact Nat.le_refl _)
  rw [← hW]
  have pev : ev.plain = true := lpl hel
  refine Ok.seq ?_
  refine Ok.region ?_
  refine OkO.box rfl rfl ?_
  refine OkO.box rfl rfl ?_
  refine OkO.alloc (z := [.int .i64 0, .int .i64 0, .int .u8 0]) rfl (by kernel_rfl) ?_
  refine OkO.nil ?_
  refine Ok.seq ?_
  refine Ok.region ?_
  refine OkO.alloc (z := [.nils]) rfl (by kernel_rfl) ?_
  refine OkO.nil ?_
  refine Ok.seq ?_
  refine Ok.seq ?_
  refine Ok.region ?_
  refine OkO.load rfl rfl (ldg (n := 7) (by kernel_rfl) (by first | assumption | (simp (disch := first | omega | (simp only [hNw, hPt]; omega)) only [gn0, gn1, gn2, gn3, gn4, gn5, gp0, gno, gpo] <;> first | rfl | assumption | exact gp0 _ _ _ | exact gn0 _ _)) (by first | rfl | assumption)) ?_
  refine OkO.load rfl rfl (lda (n := 1) (by kernel_rfl) (by first | assumption | (simp (disch := first | omega | (simp only [hNw, hPt]; omega)) only [gn0, gn1, gn2, gn3, gn4, gn5, gp0, gno, gpo] <;> first | rfl | assumption | exact gp0 _ _ _ | exact gn0 _ _)) (by first | rfl | assumption)) ?_
  refine OkO.bin rfl rfl rfl (bin_add (by omega) (by omega)) ?_
  refine OkO.callE rfl rfl rfl rfl rfl (c66 (m + 3) ev p mb ((hr9 : Int) + 1) _) ?_ -- "(sackung/alarm.duty).failures"
  rintro _ X ⟨rfl, q66, x1, x2, x3⟩
  simp only [hNw] at x1 x2 x3
  have n66 := q66.ext.next
  simp only [hNw] at n66
  have g66 : Grow W X := Grow.ret (by (try dsimp only); repeat (first | exact hG | apply Grow.new | (refine Grow.put ?_ _ (by first | omega | (simp only [hNw, hPt]; omega))))) q66
  have xd : X.get (W.next) = some (.cells (p.d ev mb) 114) := by rw [q66.ext.get _ (by first | omega | (simp only [hNw, hPt]; omega))]; first | assumption | (simp (disch := first | omega | (simp only [hNw, hPt]; omega)) only [gn0, gn1, gn2, gn3, gn4, gn5, gp0, gno, gpo] <;> first | rfl | assumption | exact gp0 _ _ _ | exact gn0 _ _)
  have xh : X.get (W.next + 1) = some (.cells [I (hr9 : Int)] 3) := by rw [q66.ext.get _ (by first | omega | (simp only [hNw, hPt]; omega))]; first | assumption | (simp (disch := first | omega | (simp only [hNw, hPt]; omega)) only [gn0, gn1, gn2, gn3, gn4, gn5, gp0, gno, gpo] <;> first | rfl | assumption | exact gp0 _ _ _ | exact gn0 _ _)
  have xr : X.get (W.next + 2) = some (.cells [I 0, I 0, .int .u8 0] 45) := by rw [q66.ext.get _ (by first | omega | (simp only [hNw, hPt]; omega))]; first | assumption | (simp (disch := first | omega | (simp only [hNw, hPt]; omega)) only [gn0, gn1, gn2, gn3, gn4, gn5, gp0, gno, gpo] <;> first | rfl | assumption | exact gp0 _ _ _ | exact gn0 _ _)
  have xs : X.get (W.next + 3) = some (.cells [.nils] 22) := by rw [q66.ext.get _ (by first | omega | (simp only [hNw, hPt]; omega))]; first | assumption | (simp (disch := first | omega | (simp only [hNw, hPt]; omega)) only [gn0, gn1, gn2, gn3, gn4, gn5, gp0, gno, gpo] <;> first | rfl | assumption | exact gp0 _ _ _ | exact gn0 _ _)
  refine OkO.nil ?_
  refine Ok.block ?_
  obtain ⟨o, vs, hmo, ho, hvl, hvm⟩ := hM
  refine Ok.rangeR rfl rfl (fun T0 hT0 => ?_)
  have hH : Has 6 [(3, .ptr (W.next + 1) 0), (5, .ptr (W.next + 3) 0)] T0 := by rw [hT0]; exact Has.of (by kernel_rfl)
  have hvs : ∀ (i : Nat) (x : AV), vs[i]? = some x → lenOf x = some (lenM p rows i) := fun i x hx => by (have h9 := (hvm i x hx).ivs.len; rw [List.length_map] at h9; exact h9)
  have xmo : X.get mb = some o := by rw [g66.get _ (by omega), hg]; exact hmo
  have xvm : ∀ (j : Nat) (x : AV), vs[j]? = some x → Mine 0 X x 125 2 (ivCells (mayL p ((j : Int) - 1) rows)) := fun j x hj => (hvm j x hj).to ⟨by have := g66.next; omega, fun n hn => (g66.get n (by omega)).trans (hg n)⟩
  obtain ⟨v3, H3, k1, k2, k3⟩ := c88 (m + 3) (X.next + 1) (W.next + 4) (W.next + 5) W.next mb (hr9 + 1) ev p rows vs (fun i G => RngJ X [W.next + 3] .ready none [13, 14] as61 bd61 T0 G ∧ ∃ ov, G.get (W.next + 3) = some (.cells [ov] 22) ∧ Mine (X.next + 2) G ov 3 1 ((spdL p rows hr9 i).map I)) (fun _ => False) ((X.new .defd).new (.loop .ready none T0 [13, 14] as61 bd61 X.next)) (fun i G G1 h e => ⟨h.1.to e, let ⟨ov, a, c⟩ := h.2; ⟨ov, by rw [e.get _ (by have h9 := h.1.nx; omega)]; exact a, c.to e⟩⟩) (fun G G1 h e => h.elim) (fun i G h => ⟨by rw [h.1.get _ (by omega) (by simp <;> omega), x1] <;> rfl, by rw [h.1.get _ (by omega) (by simp <;> omega), x2] <;> rfl, by have h9 := h.1.nx; omega, o, by rw [h.1.get _ (by omega) (by simp <;> omega)]; exact xmo, ho⟩) hvl hvs hel hpl (fun i G hi hr h => ⟨h.1, by rw [spdL_no hr]; exact h.2⟩) (fun i x G hi hx hr h hlo => by obtain ⟨v, H9, a1, a2, a3, a4, a5, a6⟩ := r61 (m + 2) hr9 i p rows x ((i : Int) - 1) T0 W X G hH h g66 (by omega) xh xs (xvm i x hx) hi hpl hr hlo; exact ⟨v, H9, a1, ⟨true, a2, .inl ⟨rfl, a3⟩⟩, a4, a5, a6⟩) (⟨RngJ.start _ _ _ _ _ _, .nils, by rw [gno _ _ _ (by simp; omega), gno _ _ _ (by omega)]; exact xs, Mine.nil _ _ _ _⟩) (by show W.next ≤ X.lo; exact g66.lo) (by omega)
  · -- to its end
    rcases k2 with k2 | k2
    rotate_left
    exact k2.elim
    refine ⟨v3, H3, k1, _, _, T0, [13, 14], as61, bd61, X.next, k2.1.b1, .inl ⟨rfl, rfl, ?_⟩⟩
    have g3 : Grow W H3 := k2.1.grow g66 (fun j hj => by simp at hj; omega) k3
    obtain ⟨kj, ov, ks, ko⟩ := k2
    have kn := kj.nx
    clear k1
    have yd := kj.b0
    have ysb : (H3.get (W.next + 3)).bind AObj.cs = some [ov] := by rw [ks]; rfl
    have y0 : H3.get W.next = some (.cells (p.d ev mb) 114) := by rw [kj.get _ (by omega) (by simp)]; exact xd
    have y2 : H3.get (W.next + 2) = some (.cells [I 0, I 0, .int .u8 0] 45) := by rw [kj.get _ (by omega) (by simp)]; exact xr
    have y0b : (H3.get W.next).bind AObj.cs = some (p.d ev mb) := by rw [y0]; rfl
    have uov := ko.ints
    refine Ok.seq ?_
    refine Ok.region ?_
    refine OkO.load rfl rfl (lda (n := 1) (by kernel_rfl) (by first | assumption | (simp (disch := first | omega | (simp only [hNw, hPt]; omega)) only [gn0, gn1, gn2, gn3, gn4, gn5, gp0, gno, gpo] <;> first | rfl | assumption | exact gp0 _ _ _ | exact gn0 _ _)) (by first | rfl | assumption)) ?_
    refine OkO.callV rfl rfl rfl rfl rfl (c83 (m + 2) ov (spdL p rows hr9 (p.errs.length + 1)) _ ((ko.put _ (by omega)).put _ (by omega)).ints hl1 (by have := spdL_len p rows hr9 (p.errs.length + 1); omega)) ?_ -- "sackung/alarm.leastAndGreatest"
    refine OkO.alloc (z := [.int .i64 0, .int .i64 0]) rfl (by kernel_rfl) ?_
    refine OkO.store rfl rfl rfl (sAc (n := 2) (ag := true) (by kernel_rfl) (by first | assumption | (simp (disch := first | omega | (simp only [hNw, hPt]; omega)) only [gn0, gn1, gn2, gn3, gn4, gn5, gp0, gno, gpo] <;> first | rfl | assumption | exact gp0 _ _ _ | exact gn0 _ _)) rfl (by first | rfl | assumption) (by first | rfl | exact spl_set _ _ _ (by first | assumption | omega | (simp; omega)))) ?_
    refine OkO.nil ?_
    refine Ok.seq ?_
    refine Ok.drawn [(0, true, []), (1, true, []), (2, true, []), (3, true, []), (4, true, []), (5, true, []), (6, true, []), (7, true, []), (8, false, [3, 1]), (9, true, []), (10, false, [])] (by kernel_rfl) ?_
    refine OkP.step ?_
    refine OkO.indexArr (len := 2) (sz := 1) (n := 0) rfl rfl rfl (by kernel_rfl) (by omega) ?_
    refine OkO.nil ⟨rfl, ?_⟩
    refine OkP.step ?_
    refine OkO.load rfl rfl (lda (n := 1) (by kernel_rfl) (by first | assumption | (simp (disch := first | omega | (simp only [hNw, hPt]; omega)) only [gn0, gn1, gn2, gn3, gn4, gn5, gp0, gno, gpo] <;> first | rfl | assumption | exact gp0 _ _ _ | exact gn0 _ _)) (by first | rfl | assumption)) ?_
    refine OkO.nil ⟨rfl, ?_⟩
    refine OkP.step ?_
    refine OkO.indexArr (len := 2) (sz := 1) (n := 1) rfl rfl rfl (by kernel_rfl) (by omega) ?_
    refine OkO.nil ⟨rfl, ?_⟩
    refine OkP.step ?_
    refine OkO.load rfl rfl (lda (n := 1) (by kernel_rfl) (by first | assumption | (simp (disch := first | omega | (simp only [hNw, hPt]; omega)) only [gn0, gn1, gn2, gn3, gn4, gn5, gp0, gno, gpo] <;> first | rfl | assumption | exact gp0 _ _ _ | exact gn0 _ _)) (by first | rfl | assumption)) ?_
    refine OkO.nil ⟨rfl, ?_⟩
    refine OkP.step ?_
    refine OkO.fieldAddr (o := 0) rfl (by kernel_rfl) rfl ?_
    refine OkO.nil ⟨rfl, ?_⟩
    refine OkP.step ?_
    refine OkO.load rfl rfl (ldg (n := 6) (by kernel_rfl) (by first | assumption | (simp (disch := first | omega | (simp only [hNw, hPt]; omega)) only [gn0, gn1, gn2, gn3, gn4, gn5, gp0, gno, gpo] <;> first | rfl | assumption | exact gp0 _ _ _ | exact gn0 _ _)) (by first | rfl | assumption)) ?_
    refine OkO.nil ⟨rfl, ?_⟩
    refine OkP.step ?_
    refine OkO.indexArr (len := 2) (sz := 1) (n := 1) rfl rfl rfl (by kernel_rfl) (by omega) ?_
    refine OkO.nil ⟨rfl, ?_⟩
    refine OkP.step ?_
    refine OkO.load rfl rfl (lda (n := 1) (by kernel_rfl) (by first | assumption | (simp (disch := first | omega | (simp only [hNw, hPt]; omega)) only [gn0, gn1, gn2, gn3, gn4, gn5, gp0, gno, gpo] <;> first | rfl | assumption | exact gp0 _ _ _ | exact gn0 _ _)) (by first | rfl | assumption)) ?_
    refine OkO.nil ⟨rfl, ?_⟩
    refine OkP.step ?_
    refine OkO.callV rfl rfl rfl rfl rfl (c84 (m + 0) ev p (mxL (spdL p rows hr9 (p.errs.length + 1))) _ ⟨_, hel⟩ (by have := spdL_bd (mxL_mem (L := (spdL p rows hr9 (p.errs.length + 1))) (by intro e; rw [e] at hl1; simp at hl1)); omega) hpo) ?_ -- "(sackung/alarm.Post).level"
    refine OkO.nil ⟨(sco (sld rfl rfl (lda (n := 1) (by kernel_rfl) (by first | assumption | (simp (disch := first | omega | (simp only [hNw, hPt]; omega)) only [gn0, gn1, gn2, gn3, gn4, gn5, gp0, gno, gpo] <;> first | rfl | assumption | exact gp0 _ _ _ | exact gn0 _ _)) (by first | rfl | assumption)) rfl (eqr _ (by first | rfl | exact lpl (by assumption) | (simp [AV.plain, AV.plains, AV.cells, pev, Pst.d])))) (sco (sld rfl rfl (lda (n := 1) (by kernel_rfl) (by first | assumption | (simp (disch := first | omega | (simp only [hNw, hPt]; omega)) only [gn0, gn1, gn2, gn3, gn4, gn5, gp0, gno, gpo] <;> first | rfl | assumption | exact gp0 _ _ _ | exact gn0 _ _)) (by first | rfl | assumption)) rfl (eqr _ (by first | rfl | exact lpl (by assumption) | (simp [AV.plain, AV.plains, AV.cells, pev, Pst.d])))) rfl)), ?_⟩
    refine OkP.step ?_
    refine OkO.build (z := [.int .i64 0, .int .i64 0, .int .u8 0]) (pl := [(0, 1), (1, 1), (2, 1)]) rfl (by kernel_rfl) rfl rfl ?_
    refine OkO.nil ⟨rfl, ?_⟩
    refine OkP.step ?_
    refine OkO.store rfl rfl rfl (sAc (n := 3) (ag := true) (by kernel_rfl) (by first | assumption | (simp (disch := first | omega | (simp only [hNw, hPt]; omega)) only [gn0, gn1, gn2, gn3, gn4, gn5, gp0, gno, gpo] <;> first | rfl | assumption | exact gp0 _ _ _ | exact gn0 _ _)) rfl (by first | rfl | assumption) (by first | rfl | exact spl_set _ _ _ (by first | assumption | omega | (simp; omega)))) ?_
    refine OkO.nil ⟨rfl, ?_⟩
    refine OkP.nil ?_
    refine Ok.ret ⟨.inr rfl, ?_⟩
    rw [back_mark (d := X.next) (by first | assumption | (simp (disch := first | omega | (simp only [hNw, hPt]; omega)) only [gn0, gn1, gn2, gn3, gn4, gn5, gp0, gno, gpo] <;> first | rfl | assumption | exact gp0 _ _ _ | exact gn0 _ _))]
    clear y0b ysb y0 y2
    exact back_flat (resV_cell rfl (ldg (n := 3) (by kernel_rfl) (by first | assumption | (simp (disch := first | omega | (simp only [hNw, hPt]; omega)) only [gn0, gn1, gn2, gn3, gn4, gn5, gp0, gno, gpo] <;> first | rfl | assumption)) (by first | rfl | assumption)) resV_nil) rfl rfl (by rw [← hW]; exact (by (try dsimp only); repeat (first | exact g3 | apply Grow.new | (refine Grow.put ?_ _ (by first | omega | (simp only [hNw, hPt]; omega))))))
end
end Go.Ev

set_option maxRecDepth 100000
set_option linter.unusedSimpArgs false
set_option linter.unusedVariables false
namespace Go.Ev
open Go Go.Proofs
noncomputable section
theorem DutyM.put {k0 : Nat} {G : Heap} {mb : Nat} {p : Pst} {rows : List (List Int)} (h : DutyM k0 G mb p rows) {n : Nat} (o : AObj) (hn : n < k0) : DutyM k0 (G.put n o) mb p rows := by
  obtain ⟨h1, h2, o, vs, h3, h4, h5, h6⟩ := h
  exact ⟨h1, by simpa using h2, o, vs, by rw [gpo _ _ _ _ (by omega)]; exact h3, h4, h5, fun j x hj => (h6 j x hj).put _ hn⟩
theorem DutyM.new {k0 : Nat} {G : Heap} {mb : Nat} {p : Pst} {rows : List (List Int)} (h : DutyM k0 G mb p rows) (o : AObj) : DutyM k0 (G.new o) mb p rows := h.to (Ext.new (Ext.refl _) _)
theorem c60N (m : Nat) (ev rv : AV) (p : Pst) (rows : List (List Int)) (H : Heap) (hV : Ints H ev p.errs) (hRs : LstAt H rv rows) (hpl : p.errs.length ≤ 100000) (hrl : rows.length ≤ 100000) (hlens9 : ∀ r ∈ rows, r.length ≤ 100000) (hf : faultE p rows = 0) (hpossF : possB p rows rows.length = false) : RR (m + 6) (.fn 60 [.agg (p.c ev), rv]) H = some (.tup [.agg [.nils, I 0, I 0, I 0, I 0, I 0, .nilm], I 9], H) := by
  refine (R_fn _ _ _ _ _).trans ?_
  refine fn_ok Try.func60 rfl rfl (by kernel_rfl) (by kernel_rfl) ?_
  obtain ⟨W, hW⟩ : ∃ W : Heap, W = ⟨H.t, H.next, H.next⟩ := ⟨_, rfl⟩
  have hg : ∀ n, W.get n = H.get n := fun n => by rw [hW]; rfl
  have hN : W.next = H.next := by rw [hW]
  have hE : ∀ G, Grow W G → Ext H G := fun G g => ⟨by rw [← hN]; exact g.next, fun n k => by rw [g.get n (by rw [hN]; exact k), hg]⟩
  have hG : Grow W W := Grow.refl (by rw [hW]; exact Nat.le_refl _)
  rw [← hW]
  have pev : ev.plain = true := lpl hV.len
  have hel := hV.len
  have hrlen := hRs.len
  have ats : ∀ mb, atoms [ev, I p.gain, I p.drop, I p.fall, I p.out, I p.ahead, .map mb] = true := fun mb => by rw [atoms, (len_one hel).2]; rfl
  obtain ⟨hok, hr60, hlens, hrbd⟩ := faultE_facts hf
  obtain ⟨⟨hp1, hp2⟩, hpe, hpg, hpd, hpf, hpo1, hpo2⟩ := Pst.ok_facts hok
  refine Ok.seq ?_
  refine Ok.region ?_
  refine OkO.box rfl rfl ?_
  refine OkO.alloc (z := [.nils, .int .i64 0, .int .i64 0, .int .i64 0, .int .i64 0, .int .i64 0, .nilm]) rfl (by kernel_rfl) ?_
  refine OkO.assign rfl rfl ?_
  refine OkO.nil ?_
  refine Ok.seq ?_
  refine Ok.seq ?_
  refine Ok.region ?_
  refine OkO.load rfl rfl (ldg (n := 6) (by kernel_rfl) (by first | assumption | (simp (disch := first | omega | (simp only [hNw, hPt]; omega)) only [gn0, gn1, gn2, gn3, gn4, gn5, gp0, gno, gpo] <;> first | rfl | assumption | exact gp0 _ _ _ | exact gn0 _ _)) (by first | rfl | assumption)) ?_
  refine OkO.move rfl rfl ?_
  refine OkO.callV rfl rfl rfl rfl rfl ((c62 (m + 0) ev rv p rows _ (hV.ext (hE _ (by (try dsimp only); repeat (first | exact hG | apply Grow.new | (refine Grow.put ?_ _ (by first | omega | (simp only [hNw, hPt]; omega))))))) (hRs.ext (hE _ (by (try dsimp only); repeat (first | exact hG | apply Grow.new | (refine Grow.put ?_ _ (by first | omega | (simp only [hNw, hPt]; omega))))))) hpl hrl hlens9).trans (by rw [hf])) ?_ -- "sackung/alarm.checkReads"
  refine OkO.assign rfl rfl ?_
  refine OkO.nil ?_
  refine Ok.seq ?_
  refine Ok.region ?_
  refine OkO.move rfl rfl ?_
  refine OkO.bin rfl rfl rfl ((bin_neq _ _).trans (congrArg (fun b => some (AV.bool b)) (show _ = false from (by first | rfl | (simp; done) | (simp; omega) | (simp_all; done))))) ?_
  refine OkO.nil ?_
  refine Ok.condF rfl ?_
  refine Ok.skip ?_
  refine Ok.seq ?_
  refine Ok.region ?_
  refine OkO.load rfl rfl (ldg (n := 6) (by kernel_rfl) (by first | assumption | (simp (disch := first | omega | (simp only [hNw, hPt]; omega)) only [gn0, gn1, gn2, gn3, gn4, gn5, gp0, gno, gpo] <;> first | rfl | assumption | exact gp0 _ _ _ | exact gn0 _ _)) (by first | rfl | assumption)) ?_
  refine OkO.move rfl rfl ?_
  refine OkO.callE rfl rfl rfl rfl rfl (c63 (m + 0) ev rv p rows _ (hV.ext (hE _ (by (try dsimp only); repeat (first | exact hG | apply Grow.new | (refine Grow.put ?_ _ (by first | omega | (simp only [hNw, hPt]; omega))))))) (hRs.ext (hE _ (by (try dsimp only); repeat (first | exact hG | apply Grow.new | (refine Grow.put ?_ _ (by first | omega | (simp only [hNw, hPt]; omega))))))) ⟨hpg, hpd⟩ hpe (by omega) hlens hrbd (by omega)) ?_ -- "(sackung/alarm.Post).onDuty"
  rintro _ H63 ⟨mb, rfl, q63, dm63⟩
  have n1 := q63.ext.next
  try simp only [hNw, hPt] at n1
  have gg1 : Grow W H63 := Grow.ret (by (try dsimp only); repeat (first | exact hG | apply Grow.new | (refine Grow.put ?_ _ (by first | omega | (simp only [hNw, hPt]; omega))))) q63
  have o1 : H63.get (W.next + 1) = some (.cells [.nils, I 0, I 0, I 0, I 0, I 0, .nilm] 114) := by rw [q63.ext.get _ (by first | omega | (simp only [hNw, hPt]; omega))]; first | assumption | exact gn0 _ _ | (simp (disch := first | omega | (simp only [hNw, hPt]; omega)) only [gn0, gn1, gn2, gn3, gn4, gn5, gp0, gno, gpo] <;> first | rfl | assumption | exact gp0 _ _ _ | exact gn0 _ _)
  have dmh := dm63.2.1
  refine OkO.alloc (z := [.nils, .int .i64 0, .int .i64 0, .int .i64 0, .int .i64 0, .int .i64 0, .nilm]) rfl (by kernel_rfl) ?_
  refine OkO.store rfl rfl rfl (sAc (n := 7) (ag := true) (by kernel_rfl) (by first | assumption | (simp (disch := first | omega | (simp only [hNw, hPt]; omega)) only [gn0, gn1, gn2, gn3, gn4, gn5, gp0, gno, gpo] <;> first | rfl | assumption | exact gp0 _ _ _ | exact gn0 _ _)) rfl (by first | rfl | assumption | exact ats _) (by first | rfl | exact spl_set _ _ _ (by first | assumption | omega | (simp; omega)))) ?_
  refine OkO.nil ?_
  refine Ok.seq ?_
  refine Ok.seq ?_
  refine Ok.region ?_
  refine OkO.load rfl rfl (ldg (n := 7) (by kernel_rfl) (by first | assumption | (simp (disch := first | omega | (simp only [hNw, hPt]; omega)) only [gn0, gn1, gn2, gn3, gn4, gn5, gp0, gno, gpo] <;> first | rfl | assumption | exact gp0 _ _ _ | exact gn0 _ _)) (by first | rfl | assumption)) ?_
  refine OkO.move rfl rfl ?_
  refine OkO.builtin rfl rfl rfl (bln (by kernel_rfl) (by first | assumption | rfl)) ?_
  refine OkO.callV rfl rfl rfl rfl rfl ((c64 (m + 2) ev p mb rows.length rows _ ((dm63.to (by repeat (first | exact Ext.refl _ | (refine Ext.put ?_ _ (by first | omega | (simp only [hNw, hPt]; omega))) | apply Ext.new))).low (Nat.zero_le _)).2.2 (by simp only [hNw, hPt]; omega) hel (by omega)).trans (by rw [hpossF])) ?_ -- "(sackung/alarm.duty).possible"
  refine OkO.un rfl rfl rfl ?_
  refine OkO.nil ?_
  refine Ok.condT rfl ?_
  refine Ok.seq ?_
  refine Ok.region ?_
  refine OkO.build (z := [.nils, .int .i64 0, .int .i64 0, .int .i64 0, .int .i64 0, .int .i64 0, .nilm]) (pl := [(0, 6), (6, 1)]) rfl (by kernel_rfl) rfl rfl ?_
  refine OkO.store rfl rfl rfl (sAc (n := 7) (ag := true) (by kernel_rfl) (by first | assumption | (simp (disch := first | omega | (simp only [hNw, hPt]; omega)) only [gn0, gn1, gn2, gn3, gn4, gn5, gp0, gno, gpo] <;> first | rfl | assumption | exact gp0 _ _ _ | exact gn0 _ _)) rfl (by first | rfl | assumption | exact ats _) (by first | rfl | exact spl_set _ _ _ (by first | assumption | omega | (simp; omega)))) ?_
  refine OkO.assign rfl rfl ?_
  refine OkO.nil ?_
  refine Ok.ret ⟨.inr rfl, ?_⟩
  exact back_flat (resV_cell rfl (ldg (n := 7) (by kernel_rfl) (by first | assumption | (simp (disch := first | omega | (simp only [hNw, hPt]; omega)) only [gn0, gn1, gn2, gn3, gn4, gn5, gp0, gno, gpo] <;> first | rfl | assumption)) (by first | rfl | assumption)) (resV_tmp rfl resV_nil)) rfl rfl (by rw [← hW]; exact (by (try dsimp only); repeat (first | exact gg1 | apply Grow.new | (refine Grow.put ?_ _ (by first | omega | (simp only [hNw, hPt]; omega))))))
theorem c60Y (m : Nat) (ev rv : AV) (p : Pst) (rows : List (List Int)) (H : Heap) (hV : Ints H ev p.errs) (hRs : LstAt H rv rows) (hpl : p.errs.length ≤ 100000) (hrl : rows.length ≤ 100000) (hlens9 : ∀ r ∈ rows, r.length ≤ 100000) (hf : faultE p rows = 0) (hpossT : possB p rows rows.length = true) : ∃ v H', RR (m + 6) (.fn 60 [.agg (p.c ev), rv]) H = some (v, H') ∧ ∃ mb, v = .tup [.agg (p.d ev mb), I 0] ∧ Ret H H' ∧ DutyM H.next H' mb p rows := by
  show ∃ v H', evFn Try.prog (RR (m + 5)) 60 [.agg (p.c ev), rv] H = some (v, H') ∧ ∃ mb, v = .tup [.agg (p.d ev mb), I 0] ∧ Ret H H' ∧ DutyM H.next H' mb p rows
  refine fn_okE Try.func60 rfl rfl (by kernel_rfl) (by kernel_rfl) ?_
  obtain ⟨W, hW⟩ : ∃ W : Heap, W = ⟨H.t, H.next, H.next⟩ := ⟨_, rfl⟩
  have hg : ∀ n, W.get n = H.get n := fun n => by rw [hW]; rfl
  have hN : W.next = H.next := by rw [hW]
  have hE : ∀ G, Grow W G → Ext H G := fun G g => ⟨by rw [← hN]; exact g.next, fun n k => by rw [g.get n (by rw [hN]; exact k), hg]⟩
  have hG : Grow W W := Grow.refl (by rw [hW]; exact Nat.le_refl _)
  rw [← hW]
  have pev : ev.plain = true := lpl hV.len
  have hel := hV.len
  have hrlen := hRs.len
  have ats : ∀ mb, atoms [ev, I p.gain, I p.drop, I p.fall, I p.out, I p.ahead, .map mb] = true := fun mb => by rw [atoms, (len_one hel).2]; rfl
  obtain ⟨hok, hr60, hlens, hrbd⟩ := faultE_facts hf
  obtain ⟨⟨hp1, hp2⟩, hpe, hpg, hpd, hpf, hpo1, hpo2⟩ := Pst.ok_facts hok
  refine Ok.seq ?_
  refine Ok.region ?_
  refine OkO.box rfl rfl ?_
  refine OkO.alloc (z := [.nils, .int .i64 0, .int .i64 0, .int .i64 0, .int .i64 0, .int .i64 0, .nilm]) rfl (by kernel_rfl) ?_
  refine OkO.assign rfl rfl ?_
  refine OkO.nil ?_
  refine Ok.seq ?_
  refine Ok.seq ?_
  refine Ok.region ?_
  refine OkO.load rfl rfl (ldg (n := 6) (by kernel_rfl) (by first | assumption | (simp (disch := first | omega | (simp only [hNw, hPt]; omega)) only [gn0, gn1, gn2, gn3, gn4, gn5, gp0, gno, gpo] <;> first | rfl | assumption | exact gp0 _ _ _ | exact gn0 _ _)) (by first | rfl | assumption)) ?_
  refine OkO.move rfl rfl ?_
  refine OkO.callV rfl rfl rfl rfl rfl ((c62 (m + 0) ev rv p rows _ (hV.ext (hE _ (by (try dsimp only); repeat (first | exact hG | apply Grow.new | (refine Grow.put ?_ _ (by first | omega | (simp only [hNw, hPt]; omega))))))) (hRs.ext (hE _ (by (try dsimp only); repeat (first | exact hG | apply Grow.new | (refine Grow.put ?_ _ (by first | omega | (simp only [hNw, hPt]; omega))))))) hpl hrl hlens9).trans (by rw [hf])) ?_ -- "sackung/alarm.checkReads"
  refine OkO.assign rfl rfl ?_
  refine OkO.nil ?_
  refine Ok.seq ?_
  refine Ok.region ?_
  refine OkO.move rfl rfl ?_
  refine OkO.bin rfl rfl rfl ((bin_neq _ _).trans (congrArg (fun b => some (AV.bool b)) (show _ = false from (by first | rfl | (simp; done) | (simp; omega) | (simp_all; done))))) ?_
  refine OkO.nil ?_
  refine Ok.condF rfl ?_
  refine Ok.skip ?_
  refine Ok.seq ?_
  refine Ok.region ?_
  refine OkO.load rfl rfl (ldg (n := 6) (by kernel_rfl) (by first | assumption | (simp (disch := first | omega | (simp only [hNw, hPt]; omega)) only [gn0, gn1, gn2, gn3, gn4, gn5, gp0, gno, gpo] <;> first | rfl | assumption | exact gp0 _ _ _ | exact gn0 _ _)) (by first | rfl | assumption)) ?_
  refine OkO.move rfl rfl ?_
  refine OkO.callE rfl rfl rfl rfl rfl (c63 (m + 0) ev rv p rows _ (hV.ext (hE _ (by (try dsimp only); repeat (first | exact hG | apply Grow.new | (refine Grow.put ?_ _ (by first | omega | (simp only [hNw, hPt]; omega))))))) (hRs.ext (hE _ (by (try dsimp only); repeat (first | exact hG | apply Grow.new | (refine Grow.put ?_ _ (by first | omega | (simp only [hNw, hPt]; omega))))))) ⟨hpg, hpd⟩ hpe (by omega) hlens hrbd (by omega)) ?_ -- "(sackung/alarm.Post).onDuty"
  rintro _ H63 ⟨mb, rfl, q63, dm63⟩
  have n1 := q63.ext.next
  try simp only [hNw, hPt] at n1
  have gg1 : Grow W H63 := Grow.ret (by (try dsimp only); repeat (first | exact hG | apply Grow.new | (refine Grow.put ?_ _ (by first | omega | (simp only [hNw, hPt]; omega))))) q63
  have o1 : H63.get (W.next + 1) = some (.cells [.nils, I 0, I 0, I 0, I 0, I 0, .nilm] 114) := by rw [q63.ext.get _ (by first | omega | (simp only [hNw, hPt]; omega))]; first | assumption | exact gn0 _ _ | (simp (disch := first | omega | (simp only [hNw, hPt]; omega)) only [gn0, gn1, gn2, gn3, gn4, gn5, gp0, gno, gpo] <;> first | rfl | assumption | exact gp0 _ _ _ | exact gn0 _ _)
  have dmh := dm63.2.1
  refine OkO.alloc (z := [.nils, .int .i64 0, .int .i64 0, .int .i64 0, .int .i64 0, .int .i64 0, .nilm]) rfl (by kernel_rfl) ?_
  refine OkO.store rfl rfl rfl (sAc (n := 7) (ag := true) (by kernel_rfl) (by first | assumption | (simp (disch := first | omega | (simp only [hNw, hPt]; omega)) only [gn0, gn1, gn2, gn3, gn4, gn5, gp0, gno, gpo] <;> first | rfl | assumption | exact gp0 _ _ _ | exact gn0 _ _)) rfl (by first | rfl | assumption | exact ats _) (by first | rfl | exact spl_set _ _ _ (by first | assumption | omega | (simp; omega)))) ?_
  refine OkO.nil ?_
  refine Ok.seq ?_
  refine Ok.seq ?_
  refine Ok.region ?_
  refine OkO.load rfl rfl (ldg (n := 7) (by kernel_rfl) (by first | assumption | (simp (disch := first | omega | (simp only [hNw, hPt]; omega)) only [gn0, gn1, gn2, gn3, gn4, gn5, gp0, gno, gpo] <;> first | rfl | assumption | exact gp0 _ _ _ | exact gn0 _ _)) (by first | rfl | assumption)) ?_
  refine OkO.move rfl rfl ?_
  refine OkO.builtin rfl rfl rfl (bln (by kernel_rfl) (by first | assumption | rfl)) ?_
  refine OkO.callV rfl rfl rfl rfl rfl ((c64 (m + 2) ev p mb rows.length rows _ ((dm63.to (by repeat (first | exact Ext.refl _ | (refine Ext.put ?_ _ (by first | omega | (simp only [hNw, hPt]; omega))) | apply Ext.new))).low (Nat.zero_le _)).2.2 (by simp only [hNw, hPt]; omega) hel (by omega)).trans (by rw [hpossT])) ?_ -- "(sackung/alarm.duty).possible"
  refine OkO.un rfl rfl rfl ?_
  refine OkO.nil ?_
  refine Ok.condF rfl ?_
  refine Ok.skip ?_
  refine Ok.seq ?_
  refine Ok.region ?_
  refine OkO.load rfl rfl (ldg (n := 7) (by kernel_rfl) (by first | assumption | (simp (disch := first | omega | (simp only [hNw, hPt]; omega)) only [gn0, gn1, gn2, gn3, gn4, gn5, gp0, gno, gpo] <;> first | rfl | assumption | exact gp0 _ _ _ | exact gn0 _ _)) (by first | rfl | assumption)) ?_
  refine OkO.store rfl rfl rfl (sAc (n := 7) (ag := true) (by kernel_rfl) (by first | assumption | (simp (disch := first | omega | (simp only [hNw, hPt]; omega)) only [gn0, gn1, gn2, gn3, gn4, gn5, gp0, gno, gpo] <;> first | rfl | assumption | exact gp0 _ _ _ | exact gn0 _ _)) rfl (by first | rfl | assumption | exact ats _) (by first | rfl | exact spl_set _ _ _ (by first | assumption | omega | (simp; omega)))) ?_
  refine OkO.assign rfl rfl ?_
  refine OkO.nil ?_
  refine Ok.ret ⟨.inr rfl, ?_⟩
  refine back_newQ (resV_cell rfl (ldg (n := 7) (by kernel_rfl) (by first | assumption | (simp (disch := first | omega | (simp only [hNw, hPt]; omega)) only [gn0, gn1, gn2, gn3, gn4, gn5, gp0, gno, gpo] <;> first | rfl | assumption)) (by first | rfl | assumption)) (resV_tmp rfl resV_nil)) rfl (by rw [← hW]; exact (by (try dsimp only); repeat (first | exact gg1 | apply Grow.new | (refine Grow.put ?_ _ (by first | omega | (simp only [hNw, hPt]; omega)))))) (by show AV.flats [_, _] = false; unfold AV.flats; rw [duty_flat]; try rfl) (fun H9 p1 p2 p3 => ⟨mb, rfl, p1, ?_⟩)
  try simp only [hNw] at dm63
  have e9 := dm63.to (G' := ((H63.new (.cells [.nils, I 0, I 0, I 0, I 0, I 0, .nilm] 114)).put H63.next (.cells (p.d ev mb) 114))) (by repeat (first | exact Ext.refl _ | (refine Ext.put ?_ _ (by first | omega | (simp only [hNw, hPt]; omega))) | apply Ext.new))
  exact ((e9.put (n := W.next + 1) (.cells (p.d ev mb) 114) (by omega)).low (by omega)).to ⟨Nat.le_of_eq p3.symm, fun n _ => p2 n⟩
end
end Go.Ev

set_option maxRecDepth 100000
set_option linter.unusedSimpArgs false
set_option linter.unusedVariables false
namespace Go.Ev
open Go Go.Proofs
noncomputable section
def stc (p : Pst) (rows : List (List Int)) (h : Nat) : List AV := [I (mnL (spdL p rows h (p.errs.length + 1))), I (mxL (spdL p rows h (p.errs.length + 1))), .int .u8 (levelI p (mxL (spdL p rows h (p.errs.length + 1))))]
def stCells (p : Pst) (rows : List (List Int)) (n : Nat) : List AV := ((List.range n).map (stc p rows)).flatten
theorem stCells_succ (p : Pst) (rows : List (List Int)) (n : Nat) : stCells p rows (n + 1) = stCells p rows n ++ stc p rows n := by simp [stCells, List.range_succ]
theorem stCells_len (p : Pst) (rows : List (List Int)) : ∀ n, (stCells p rows n).length = n * 3
  | 0 => rfl
  | n + 1 => by rw [stCells_succ, List.length_append, stCells_len p rows n]; show n * 3 + 3 = _; omega
theorem Mine.states {k0 : Nat} {G : Heap} {v : AV} {e : TypeId} {p : Pst} {rows : List (List Int)} {n : Nat} (h : Mine k0 G v e 3 (stCells p rows n)) : Row G v 3 ((List.range n).map (stc p rows)) := Mine.row (e := e) h (fun x hx => by obtain ⟨y, _, rfl⟩ := List.mem_map.1 hx; rfl) (by omega)
theorem spdL_pos {p : Pst} {rows : List (List Int)} {h : Nat} : ∀ {i n : Nat}, i < n → h + 1 ≤ lenM p rows i → 1 ≤ (spdL p rows h n).length
  | i, 0, hi, _ => by omega
  | i, n + 1, hi, hr => by
    by_cases e : i = n
    · subst e
      have hh : h < (mayL p ((i : Int) - 1) rows).length := hr
      rw [spdL_yes hr hh]; simp
    · have := spdL_pos (i := i) (n := n) (by omega) hr
      show 1 ≤ (spdL p rows h n ++ _).length
      rw [List.length_append]; omega
theorem possB_iff {p : Pst} {rows : List (List Int)} {r : Nat} : possB p rows r = true ↔ ∃ i, i ≤ p.errs.length ∧ r ≤ lenM p rows i := by
  unfold possB
  rw [List.any_eq_true]
  constructor
  · rintro ⟨i, hi, h⟩
    rw [decide_eq_true_eq] at h
    exact ⟨i, by have := List.mem_range.1 hi; omega, h⟩
  · rintro ⟨i, hi, h⟩
    exact ⟨i, List.mem_range.2 (by omega), by rw [decide_eq_true_eq]; exact h⟩
theorem spdL_all {p : Pst} {rows : List (List Int)} {h r : Nat} (hp : possB p rows r = true) (hh : h < r) : 1 ≤ (spdL p rows h (p.errs.length + 1)).length := by
  obtain ⟨i, hi, h1⟩ := possB_iff.1 hp
  exact spdL_pos (i := i) (by omega) (by omega)
theorem c21N (m : Nat) (ev rv : AV) (p : Pst) (rows : List (List Int)) (H : Heap) (hV : Ints H ev p.errs) (hRs : LstAt H rv rows) (hpl : p.errs.length ≤ 100000) (hrl : rows.length ≤ 100000) (hlens9 : ∀ r ∈ rows, r.length ≤ 100000) (hf : faultE p rows = 0) (hpossF : possB p rows rows.length = false) : RR (m + 7) (.fn 21 [.agg (p.c ev), rv]) H = some (.tup [.nils, I 9], H) := by
  refine (R_fn _ _ _ _ _).trans ?_
  refine fn_ok Try.func21 rfl rfl (by kernel_rfl) (by kernel_rfl) ?_
  obtain ⟨W, hW⟩ : ∃ W : Heap, W = ⟨H.t, H.next, H.next⟩ := ⟨_, rfl⟩
  have hg : ∀ n, W.get n = H.get n := fun n => by rw [hW]; rfl
  have hN : W.next = H.next := by rw [hW]
  have hE : ∀ G, Grow W G → Ext H G := fun G g => ⟨by rw [← hN]; exact g.next, fun n k => by rw [g.get n (by rw [hN]; exact k), hg]⟩
  have hG : Grow W W := Grow.refl (by rw [hW]; exact Nat.le_refl _)
  rw [← hW]
  have pev : ev.plain = true := lpl hV.len
  have hel := hV.len
  have hrlen := hRs.len
  have ats : ∀ mb, atoms [ev, I p.gain, I p.drop, I p.fall, I p.out, I p.ahead, .map mb] = true := fun mb => by rw [atoms, (len_one hel).2]; rfl
  refine Ok.seq ?_
  refine Ok.region ?_
  refine OkO.box rfl rfl ?_
  refine OkO.assign rfl rfl ?_
  refine OkO.assign rfl rfl ?_
  refine OkO.nil ?_
  refine Ok.seq ?_
  refine Ok.region ?_
  refine OkO.load rfl rfl (ldg (n := 6) (by kernel_rfl) (by first | assumption | (simp (disch := first | omega | (simp only [hNw, hPt]; omega)) only [gn0, gn1, gn2, gn3, gn4, gn5, gp0, gno, gpo] <;> first | rfl | assumption | exact gp0 _ _ _ | exact gn0 _ _)) (by first | rfl | assumption)) ?_
  refine OkO.move rfl rfl ?_
  refine OkO.callV rfl rfl rfl rfl rfl (c60N (m + 0) ev rv p rows _ (hV.ext (hE _ (by (try dsimp only); repeat (first | exact hG | apply Grow.new | (refine Grow.put ?_ _ (by first | omega | (simp only [hNw, hPt]; omega))))))) (hRs.ext (hE _ (by (try dsimp only); repeat (first | exact hG | apply Grow.new | (refine Grow.put ?_ _ (by first | omega | (simp only [hNw, hPt]; omega))))))) hpl hrl hlens9 hf hpossF) ?_ -- "sackung/alarm.allPossible"
  refine OkO.move rfl rfl ?_
  refine OkO.extract rfl rfl rfl ?_
  refine OkO.extract rfl rfl rfl ?_
  refine OkO.alloc (z := [.nils, .int .i64 0, .int .i64 0, .int .i64 0, .int .i64 0, .int .i64 0, .nilm]) rfl (by kernel_rfl) ?_
  refine OkO.store rfl rfl rfl (sAc (n := 7) (ag := true) (by kernel_rfl) (by first | assumption | (simp (disch := first | omega | (simp only [hNw, hPt]; omega)) only [gn0, gn1, gn2, gn3, gn4, gn5, gp0, gno, gpo] <;> first | rfl | assumption | exact gp0 _ _ _ | exact gn0 _ _)) rfl (by first | rfl | assumption) (by first | rfl | exact spl_set _ _ _ (by first | assumption | omega | (simp; omega)))) ?_
  refine OkO.assign rfl rfl ?_
  refine OkO.nil ?_
  refine Ok.seq ?_
  refine Ok.seq ?_
  refine Ok.region ?_
  refine OkO.move rfl rfl ?_
  refine OkO.bin rfl rfl rfl ((bin_neq _ _).trans (congrArg (fun b => some (AV.bool b)) (show _ = true from (by rfl)))) ?_
  refine OkO.nil ?_
  refine Ok.condT rfl ?_
  refine Ok.seq ?_
  refine Ok.region ?_
  refine OkO.move rfl rfl ?_
  refine OkO.assign rfl rfl ?_
  refine OkO.assign rfl rfl ?_
  refine OkO.nil ?_
  refine Ok.ret ⟨.inr rfl, ?_⟩
  exact back_flat (resV_tmp rfl (resV_tmp rfl resV_nil)) rfl rfl (by rw [← hW]; exact (by (try dsimp only); repeat (first | exact hG | apply Grow.new | (refine Grow.put ?_ _ (by first | omega | (simp only [hNw, hPt]; omega))))))
theorem c21Y (m : Nat) (ev rv : AV) (p : Pst) (rows : List (List Int)) (H : Heap) (hV : Ints H ev p.errs) (hRs : LstAt H rv rows) (hpl : p.errs.length ≤ 100000) (hrl : rows.length ≤ 100000) (hlens9 : ∀ r ∈ rows, r.length ≤ 100000) (hf : faultE p rows = 0) (hpossT : possB p rows rows.length = true) : ∃ v H', RR (m + 7) (.fn 21 [.agg (p.c ev), rv]) H = some (v, H') ∧ ∃ x, v = .tup [x, I 0] ∧ Ret H H' ∧ Mine H.next H' x 45 3 (stCells p rows rows.length) := by
  show ∃ v H', evFn Try.prog (RR (m + 6)) 21 [.agg (p.c ev), rv] H = some (v, H') ∧ ∃ x, v = .tup [x, I 0] ∧ Ret H H' ∧ Mine H.next H' x 45 3 (stCells p rows rows.length)
  refine fn_okE Try.func21 rfl rfl (by kernel_rfl) (by kernel_rfl) ?_
  obtain ⟨W, hW⟩ : ∃ W : Heap, W = ⟨H.t, H.next, H.next⟩ := ⟨_, rfl⟩
  have hg : ∀ n, W.get n = H.get n := fun n => by rw [hW]; rfl
  have hN : W.next = H.next := by rw [hW]
  have hE : ∀ G, Grow W G → Ext H G := fun G g => ⟨by rw [← hN]; exact g.next, fun n k => by rw [g.get n (by rw [hN]; exact k), hg]⟩
  have hG : Grow W W := Grow.refl (by rw [hW]; exact Nat.le_refl _)
  rw [← hW]
  have pev : ev.plain = true := lpl hV.len
  have hel := hV.len
  have hrlen := hRs.len
  have ats : ∀ mb, atoms [ev, I p.gain, I p.drop, I p.fall, I p.out, I p.ahead, .map mb] = true := fun mb => by rw [atoms, (len_one hel).2]; rfl
  obtain ⟨hok, hr60, hlens, hrbd⟩ := faultE_facts hf
  obtain ⟨⟨hp1, hp2⟩, hpe, hpg, hpd, hpf, hpo1, hpo2⟩ := Pst.ok_facts hok
  refine Ok.seq ?_
  refine Ok.region ?_
  refine OkO.box rfl rfl ?_
  refine OkO.assign rfl rfl ?_
  refine OkO.assign rfl rfl ?_
  refine OkO.nil ?_
  refine Ok.seq ?_
  refine Ok.region ?_
  refine OkO.load rfl rfl (ldg (n := 6) (by kernel_rfl) (by first | assumption | (simp (disch := first | omega | (simp only [hNw, hPt]; omega)) only [gn0, gn1, gn2, gn3, gn4, gn5, gp0, gno, gpo] <;> first | rfl | assumption | exact gp0 _ _ _ | exact gn0 _ _)) (by first | rfl | assumption)) ?_
  refine OkO.move rfl rfl ?_
  refine OkO.callE rfl rfl rfl rfl rfl (c60Y (m + 0) ev rv p rows _ (hV.ext (hE _ (by (try dsimp only); repeat (first | exact hG | apply Grow.new | (refine Grow.put ?_ _ (by first | omega | (simp only [hNw, hPt]; omega))))))) (hRs.ext (hE _ (by (try dsimp only); repeat (first | exact hG | apply Grow.new | (refine Grow.put ?_ _ (by first | omega | (simp only [hNw, hPt]; omega))))))) hpl hrl hlens9 hf hpossT) ?_ -- "sackung/alarm.allPossible"
  rintro _ H60 ⟨mb, rfl, q60, dm60⟩
  have n1 := q60.ext.next
  try simp only [hNw, hPt] at n1
  have gg1 : Grow W H60 := Grow.ret (by (try dsimp only); repeat (first | exact hG | apply Grow.new | (refine Grow.put ?_ _ (by first | omega | (simp only [hNw, hPt]; omega))))) q60
  refine OkO.move rfl rfl ?_
  refine OkO.extract rfl rfl rfl ?_
  refine OkO.extract rfl rfl rfl ?_
  refine OkO.alloc (z := [.nils, .int .i64 0, .int .i64 0, .int .i64 0, .int .i64 0, .int .i64 0, .nilm]) rfl (by kernel_rfl) ?_
  refine OkO.store rfl rfl rfl (sAc (n := 7) (ag := true) (by kernel_rfl) (by first | assumption | (simp (disch := first | omega | (simp only [hNw, hPt]; omega)) only [gn0, gn1, gn2, gn3, gn4, gn5, gp0, gno, gpo] <;> first | rfl | assumption | exact gp0 _ _ _ | exact gn0 _ _)) rfl (by first | rfl | assumption | exact ats _) (by first | rfl | exact spl_set _ _ _ (by first | assumption | omega | (simp; omega)))) ?_
  refine OkO.assign rfl rfl ?_
  refine OkO.nil ?_
  refine Ok.seq ?_
  refine Ok.seq ?_
  refine Ok.region ?_
  refine OkO.move rfl rfl ?_
  refine OkO.bin rfl rfl rfl ((bin_neq _ _).trans (congrArg (fun b => some (AV.bool b)) (show _ = false from (by rfl)))) ?_
  refine OkO.nil ?_
  refine Ok.condF rfl ?_
  refine Ok.skip ?_
  refine Ok.seq ?_
  refine Ok.region ?_
  refine OkO.assign rfl rfl ?_
  refine OkO.nil ?_
  refine Ok.seq ?_
  refine Ok.seq ?_
  refine Ok.region ?_
  refine OkO.move rfl rfl ?_
  refine OkO.builtin rfl rfl rfl (bln (by kernel_rfl) (by first | assumption | rfl)) ?_
  refine OkO.move rfl rfl ?_
  refine OkO.nil ?_
  refine Ok.block ?_
  obtain ⟨H6, hH6⟩ : ∃ H6, H6 = ((H60.new (.cells [.nils, I 0, I 0, I 0, I 0, I 0, .nilm] 114)).put H60.next (.cells (p.d ev mb) 114)) := ⟨_, rfl⟩
  have dm6 : DutyM 0 H6 mb p rows := by rw [hH6]; exact (dm60.to (by repeat (first | exact Ext.refl _ | (refine Ext.put ?_ _ (by first | omega | (simp only [hNw, hPt]; omega))) | apply Ext.new))).low (Nat.zero_le _)
  have e6 : H6.get H60.next = some (.cells (p.d ev mb) 114) := by rw [hH6]; exact gp0 _ _ _
  have n6 : H6.next = H60.next + 1 := by rw [hH6]; simp
  have g6 : Grow W H6 := by rw [hH6]; exact (by (try dsimp only); repeat (first | exact gg1 | apply Grow.new | (refine Grow.put ?_ _ (by first | omega | (simp only [hNw, hPt]; omega)))))
  refine Ok.loop (fun n s => ∃ (i : Nat) (ov : AV), n = rows.length - i ∧ i ≤ rows.length ∧ Mine H6.next s.H ov 45 3 (stCells p rows i) ∧ Has 6 [(6, .ptr H60.next 0), (8, ov), (20, I (rows.length : Int)), (21, I (i : Int))] s.T ∧ s.D = [] ∧ Grow W s.H ∧ Ext H6 s.H) (rows.length) (by unfold loopFuel; omega)
    ⟨0, .nils, rfl, Nat.zero_le _, Mine.nil _ _ _ _, Has.of (by kernel_rfl), rfl, by rw [hH6] at g6; exact g6, by rw [hH6]; exact Ext.refl _⟩ ?_
  rintro n ⟨T, D, G⟩ ⟨i, ov, hn, hi, hm, ⟨f_, hT⟩, hD, hg, hx9⟩
  dsimp only at *
  subst hT hD
  have hgn := hg.next
  have e6b : (G.get H60.next).bind AObj.cs = some (p.d ev mb) := by rw [hx9.get _ (by omega), e6]; rfl
  have hx9n := hx9.next
  refine Ok.seq ?_
  refine Ok.region ?_
  refine OkO.bin rfl rfl rfl (bin_lss _ _) ?_
  refine OkO.nil ?_
  refine Ok.seq ?_
  refine Ok.cond rfl (fun h1 => ?_) (fun h1 => ?_)
  · -- yes h1
    have hlt : i < rows.length := by simpa using h1
    refine Ok.skip ?_
    refine Ok.seq ?_
    refine Ok.block ?_
    refine Ok.seq ?_
    refine Ok.region ?_
    refine OkO.move rfl rfl ?_
    refine OkO.assign rfl rfl ?_
    refine OkO.nil ?_
    refine Ok.region ?_
    refine OkO.move rfl rfl ?_
    refine OkO.load rfl rfl (ldg (n := 7) (by kernel_rfl) (by first | assumption | (simp (disch := first | omega | (simp only [hNw, hPt]; omega)) only [gn0, gn1, gn2, gn3, gn4, gn5, gp0, gno, gpo] <;> first | rfl | assumption | exact gp0 _ _ _ | exact gn0 _ _)) (by first | rfl | assumption)) ?_
    refine OkO.move rfl rfl ?_
    refine OkO.callV rfl rfl rfl rfl rfl (c61 (m + 1) ev p mb i rows _ ((dm6.to hx9).low (Nat.zero_le _)).2.2 (by have := dm6.2.1; omega) hel (by omega) (spdL_all hpossT hlt) ⟨hpg, hpf, hpo1, hpo2⟩ (by omega)) ?_ -- "(sackung/alarm.duty).state"
    refine OkO.buildSlice (el := 45) (sz := 3) (z := [.int .i64 0, .int .i64 0, .int .u8 0]) rfl (by kernel_rfl) (by decide) rfl rfl ?_
    refine OkO.builtinE rfl rfl rfl (Mine.app2 (W := W) (k0 := H6.next) (t := 32) (u := 32) (sz := 3) (by_ := 24) (e := 45) (n := 1) (new := stc p rows i) (hm.to (by repeat (first | exact Ext.refl _ | apply Ext.new))) (by repeat (first | exact hg | apply Grow.new)) (by omega) (by simp; omega) (by kernel_rfl) (by kernel_rfl) (elems_new (n := 1) (sz := 3) rfl) rfl rfl (by have h9 := stCells_len p rows i; omega) (by omega) (by omega) rfl) ?_
    rintro v2 G2 ⟨r1, r2, r3, r4, r5, _⟩
    simp only [hNw] at r5
    refine OkO.assign rfl rfl ?_
    refine OkO.nil ?_
    refine Ok.region ?_
    refine OkO.bin rfl rfl rfl (bin_add (by omega) (by omega)) ?_
    refine OkO.move rfl rfl ?_
    refine OkO.nil ?_
    refine ⟨rows.length - (i + 1), by omega, i + 1, _, rfl, by omega, by rw [stCells_succ]; exact r1, Has.of (by kernel_rfl), rfl, r2, ⟨by (show H6.next ≤ G2.next; omega), fun j hj => ?_⟩⟩
    rw [r3.get j hj (by simp only [hNw]; omega), gno _ _ _ (by omega)]
    exact hx9.get j hj
  · -- no h1
    have hge : i = rows.length := by simp at h1; omega
    subst hge
    refine Ok.exit ?_
    refine Ok.seq ?_
    refine Ok.region ?_
    refine OkO.move rfl rfl ?_
    refine OkO.assign rfl rfl ?_
    refine OkO.assign rfl rfl ?_
    refine OkO.nil ?_
    refine Ok.ret ⟨.inr rfl, ?_⟩
    refine back_newA rfl rfl (by rw [← hW]; exact hg) (fun H9 p1 p2 => ⟨ov, rfl, p1, ?_⟩)
    exact (hm.low (by omega)).backT p2 flat_tup2
end
end Go.Ev

set_option maxRecDepth 100000
set_option linter.unusedSimpArgs false
set_option linter.unusedVariables false
namespace Go.Ev
open Go Go.Proofs
noncomputable section
theorem possB_mono {p : Pst} {rows : List (List Int)} {r s : Nat} (h : possB p rows s = true) (hr : r ≤ s) : possB p rows r = true := by
  obtain ⟨i, hi, h1⟩ := possB_iff.1 h
  exact possB_iff.2 ⟨i, hi, by omega⟩
/-- What Breaks answers. -/
def brkV (p : Pst) (rows : List (List Int)) : AV := match (List.range rows.length).find? (fun h => !possB p rows (h + 1)) with
  | some h => .tup [I (h : Int), I 0]
  | none => .tup [I 0, I 7]
end
end Go.Ev

set_option maxRecDepth 100000
set_option linter.unusedSimpArgs false
set_option linter.unusedVariables false
namespace Go.Ev
open Go Go.Proofs
noncomputable section
/-- The gauges with which a truth is possible. -/
def fldL (p : Pst) (rows : List (List Int)) (r : Nat) : Nat → List Int
  | 0 => []
  | i + 1 => fldL p rows r i ++ (if r ≤ lenM p rows i then [(i : Int) - 1] else [])
noncomputable def as28 : Code := match Try.f28.body.bind rangeOf with | some r => r.1 | none => .skip
noncomputable def bd28 : Code := match Try.f28.body.bind rangeOf with | some r => r.2 | none => .skip
end
end Go.Ev

set_option maxRecDepth 100000
set_option linter.unusedSimpArgs false
set_option linter.unusedVariables false
namespace Go.Ev
open Go Go.Proofs
noncomputable section
/-- The truth of a sentence, as a bool. -/
def bP (P : Prop) : Bool := @decide P (Classical.propDecidable P)
theorem bP_true {P : Prop} (h : P) : bP P = true := @decide_eq_true P (Classical.propDecidable P) h
theorem bP_false {P : Prop} (h : ¬ P) : bP P = false := @decide_eq_false P (Classical.propDecidable P) h
theorem bP_iff {P : Prop} : bP P = true ↔ P := @decide_eq_true_iff P (Classical.propDecidable P)
def StepOk (p : Pst) (a c : Int) : Prop := a - p.drop ≤ c ∧ c ≤ a + p.gain
theorem step_iff {p : Pst} {a c : Int} : inB c (afterI p (a, a)).1 (afterI p (a, a)).2 = true ↔ StepOk p a c := by unfold inB StepOk afterI; simp
/-- The speeds move as the post says. -/
def MovP (p : Pst) (sp : List Int) : Prop := (∀ x ∈ sp, 0 ≤ x ∧ x ≤ 1000) ∧ ∀ (h : Nat) (h2 : h + 1 < sp.length), StepOk p (sp[h]'(by omega)) sp[h + 1]
/-- All gauges that work agree. -/
def AgrP (p : Pst) (f : Int) (rows : List (List Int)) (sp : List Int) : Prop := ∀ (h : Nat) (h1 : h < sp.length) (h2 : h < rows.length), AgreeR p f rows[h] sp[h]
def TruP (p : Pst) (rows : List (List Int)) (f : Int) (sp : List Int) : Prop := sp.length = rows.length ∧ (-1 ≤ f ∧ f ≤ (p.errs.length : Int) - 1) ∧ MovP p sp ∧ AgrP p f rows sp
theorem c67 (m : Nat) (v : AV) (L : List Int) (H : Heap) (hV : lenOf v = some L.length) (hl : L.length ≤ 100000) : RR (m + 1) (.fn 67 [v]) H = some (.agg [I 0, I ((L.length : Int) - 1)], H) := by
  refine (R_fn _ _ _ _ _).trans ?_
  refine fn_ok Try.func67 rfl rfl (by kernel_rfl) (by kernel_rfl) ?_
  obtain ⟨W, hW⟩ : ∃ W : Heap, W = ⟨H.t, H.next, H.next⟩ := ⟨_, rfl⟩
  have hg : ∀ n, W.get n = H.get n := fun n => by rw [hW]; rfl
  have hN : W.next = H.next := by rw [hW]
  have hE : ∀ G, Grow W G → Ext H G := fun G g => ⟨by rw [← hN]; exact g.next, fun n k => by rw [g.get n (by rw [hN]; exact k), hg]⟩
  have hG : Grow W W := Grow.refl (by rw [hW]; exact Nat.le_refl _)
  rw [← hW]
  refine Ok.seq ?_
  refine Ok.region ?_
  refine OkO.alloc (z := [.int .i64 0, .int .i64 0]) rfl (by kernel_rfl) ?_
  refine OkO.nil ?_
  refine Ok.seq ?_
  refine Ok.region ?_
  refine OkO.move rfl rfl ?_
  refine OkO.builtin rfl rfl rfl (bln (by kernel_rfl) (by first | assumption | rfl)) ?_
  refine OkO.bin rfl rfl rfl (bin_sub (by omega) (by omega)) ?_
  refine OkO.buildArr (z := [.int .i64 0, .int .i64 0]) (sz := 1) rfl (by kernel_rfl) rfl rfl ?_
  refine OkO.store rfl rfl rfl (sAc (n := 2) (ag := true) (by kernel_rfl) (by first | assumption | (simp (disch := first | omega | (simp only [hNw, hPt]; omega)) only [gn0, gn1, gn2, gn3, gn4, gn5, gp0, gno, gpo] <;> first | rfl | assumption | exact gp0 _ _ _ | exact gn0 _ _)) rfl (by first | rfl | assumption) (by first | rfl | exact spl_set _ _ _ (by first | assumption | omega | (simp; omega)))) ?_
  refine OkO.nil ?_
  refine Ok.ret ⟨.inr rfl, ?_⟩
  exact back_flat (resV_cell rfl (ldg (n := 2) (by kernel_rfl) (by first | assumption | (simp (disch := first | omega | (simp only [hNw, hPt]; omega)) only [gn0, gn1, gn2, gn3, gn4, gn5, gp0, gno, gpo] <;> first | rfl | assumption)) (by first | rfl | assumption)) resV_nil) (rfl) rfl (by rw [← hW]; exact (by (try dsimp only); repeat (first | exact hG | apply Grow.new | (refine Grow.put ?_ _ (by first | omega | (simp only [hNw, hPt]; omega))))))
theorem c72 (m : Nat) (v : AV) (L : List (List Int)) (H : Heap) (hV : lenOf v = some L.length) (hl : L.length ≤ 100000) : RR (m + 1) (.fn 72 [v]) H = some (.agg [I 0, I ((L.length : Int) - 1)], H) := by
  refine (R_fn _ _ _ _ _).trans ?_
  refine fn_ok Try.func72 rfl rfl (by kernel_rfl) (by kernel_rfl) ?_
  obtain ⟨W, hW⟩ : ∃ W : Heap, W = ⟨H.t, H.next, H.next⟩ := ⟨_, rfl⟩
  have hg : ∀ n, W.get n = H.get n := fun n => by rw [hW]; rfl
  have hN : W.next = H.next := by rw [hW]
  have hE : ∀ G, Grow W G → Ext H G := fun G g => ⟨by rw [← hN]; exact g.next, fun n k => by rw [g.get n (by rw [hN]; exact k), hg]⟩
  have hG : Grow W W := Grow.refl (by rw [hW]; exact Nat.le_refl _)
  rw [← hW]
  refine Ok.seq ?_
  refine Ok.region ?_
  refine OkO.alloc (z := [.int .i64 0, .int .i64 0]) rfl (by kernel_rfl) ?_
  refine OkO.nil ?_
  refine Ok.seq ?_
  refine Ok.region ?_
  refine OkO.move rfl rfl ?_
  refine OkO.builtin rfl rfl rfl (bln (by kernel_rfl) (by first | assumption | rfl)) ?_
  refine OkO.bin rfl rfl rfl (bin_sub (by omega) (by omega)) ?_
  refine OkO.buildArr (z := [.int .i64 0, .int .i64 0]) (sz := 1) rfl (by kernel_rfl) rfl rfl ?_
  refine OkO.store rfl rfl rfl (sAc (n := 2) (ag := true) (by kernel_rfl) (by first | assumption | (simp (disch := first | omega | (simp only [hNw, hPt]; omega)) only [gn0, gn1, gn2, gn3, gn4, gn5, gp0, gno, gpo] <;> first | rfl | assumption | exact gp0 _ _ _ | exact gn0 _ _)) rfl (by first | rfl | assumption) (by first | rfl | exact spl_set _ _ _ (by first | assumption | omega | (simp; omega)))) ?_
  refine OkO.nil ?_
  refine Ok.ret ⟨.inr rfl, ?_⟩
  exact back_flat (resV_cell rfl (ldg (n := 2) (by kernel_rfl) (by first | assumption | (simp (disch := first | omega | (simp only [hNw, hPt]; omega)) only [gn0, gn1, gn2, gn3, gn4, gn5, gp0, gno, gpo] <;> first | rfl | assumption)) (by first | rfl | assumption)) resV_nil) (rfl) rfl (by rw [← hW]; exact (by (try dsimp only); repeat (first | exact hG | apply Grow.new | (refine Grow.put ?_ _ (by first | omega | (simp only [hNw, hPt]; omega))))))
theorem c91 (m : Nat) (ev rv : AV) (p : Pst) (row : List Int) (s0 : Int) (g : Nat) (H : Heap) (hV : Ints H ev p.errs) (hR : Ints H rv row) (hg1 : g < p.errs.length) (hg2 : g < row.length) (hb1 : ∀ x ∈ p.errs, 0 ≤ x ∧ x ≤ 1000) (hb2 : ∀ x ∈ row, -1000 ≤ x ∧ x ≤ 2000) : RR (m + 2) (.fn 91 [.agg (p.c ev ++ [rv, I s0]), I (g : Int)]) H = some (.bool (inB s0 (gI p row g).1 (gI p row g).2), H) := by
  refine (R_fn _ _ _ _ _).trans ?_
  refine fn_ok Try.func91 rfl rfl (by kernel_rfl) (by kernel_rfl) ?_
  obtain ⟨W, hW⟩ : ∃ W : Heap, W = ⟨H.t, H.next, H.next⟩ := ⟨_, rfl⟩
  have hg : ∀ n, W.get n = H.get n := fun n => by rw [hW]; rfl
  have hN : W.next = H.next := by rw [hW]
  have hE : ∀ G, Grow W G → Ext H G := fun G g => ⟨by rw [← hN]; exact g.next, fun n k => by rw [g.get n (by rw [hN]; exact k), hg]⟩
  have hG : Grow W W := Grow.refl (by rw [hW]; exact Nat.le_refl _)
  rw [← hW]
  have pev : ev.plain = true := lpl hV.len
  have prv : rv.plain = true := lpl hR.len
  refine Ok.seq ?_
  refine Ok.region ?_
  refine OkO.box rfl rfl ?_
  refine OkO.assign rfl rfl ?_
  refine OkO.nil ?_
  refine Ok.seq ?_
  refine Ok.drawn [(0, true, []), (1, true, []), (2, true, []), (3, true, []), (4, true, []), (6, true, []), (7, true, []), (5, false, [7]), (8, false, [4, 1]), (9, true, [])] (by kernel_rfl) ?_
  refine OkP.step ?_
  refine OkO.fieldAddr (o := 0) rfl (by kernel_rfl) rfl ?_
  refine OkO.nil ⟨rfl, ?_⟩
  refine OkP.step ?_
  refine OkO.load rfl rfl (ldg (n := 6) (by kernel_rfl) (by first | assumption | (simp (disch := first | omega | (simp only [hNw, hPt]; omega)) only [gn0, gn1, gn2, gn3, gn4, gn5, gp0, gno, gpo] <;> first | rfl | assumption | exact gp0 _ _ _ | exact gn0 _ _)) (by first | rfl | assumption)) ?_
  refine OkO.nil ⟨rfl, ?_⟩
  refine OkP.step ?_
  refine OkO.move rfl rfl ?_
  refine OkO.nil ⟨rfl, ?_⟩
  refine OkP.step ?_
  refine OkO.fieldAddr (o := 6) rfl (by kernel_rfl) rfl ?_
  refine OkO.nil ⟨rfl, ?_⟩
  refine OkP.step ?_
  refine OkO.load rfl rfl (lda (n := 1) (by kernel_rfl) (by first | assumption | (simp (disch := first | omega | (simp only [hNw, hPt]; omega)) only [gn0, gn1, gn2, gn3, gn4, gn5, gp0, gno, gpo] <;> first | rfl | assumption | exact gp0 _ _ _ | exact gn0 _ _)) (by first | rfl | assumption)) ?_
  refine OkO.nil ⟨rfl, ?_⟩
  refine OkP.step ?_
  refine OkO.fieldAddr (o := 7) rfl (by kernel_rfl) rfl ?_
  refine OkO.nil ⟨rfl, ?_⟩
  refine OkP.step ?_
  refine OkO.load rfl rfl (lda (n := 1) (by kernel_rfl) (by first | assumption | (simp (disch := first | omega | (simp only [hNw, hPt]; omega)) only [gn0, gn1, gn2, gn3, gn4, gn5, gp0, gno, gpo] <;> first | rfl | assumption | exact gp0 _ _ _ | exact gn0 _ _)) (by first | rfl | assumption)) ?_
  refine OkO.nil ⟨rfl, ?_⟩
  refine OkP.step ?_
  refine OkO.callV rfl rfl rfl rfl rfl (c105 (m + 0) ev p rv row g _ (hV.ext (hE _ (by (try dsimp only); repeat (first | exact hG | apply Grow.new | (refine Grow.put ?_ _ (by first | omega | (simp only [hNw, hPt]; omega))))))) (hR.ext (hE _ (by (try dsimp only); repeat (first | exact hG | apply Grow.new | (refine Grow.put ?_ _ (by first | omega | (simp only [hNw, hPt]; omega))))))) hg1 hg2 hb1 hb2) ?_ -- "(sackung/alarm.Post).agreeing"
  refine OkO.nil ⟨(sco (sld rfl rfl (lda (n := 1) (by kernel_rfl) (by first | assumption | (simp (disch := first | omega | (simp only [hNw, hPt]; omega)) only [gn0, gn1, gn2, gn3, gn4, gn5, gp0, gno, gpo] <;> first | rfl | assumption | exact gp0 _ _ _ | exact gn0 _ _)) (by first | rfl | assumption)) rfl (eqr _ (by first | rfl | exact lpl (by assumption) | (simp [AV.plain, AV.plains, AV.cells, pev, Pst.c, prv])))) rfl), ?_⟩
  refine OkP.step ?_
  refine OkO.callV rfl rfl rfl rfl rfl (c68 (m + 0) _ _ _ _) ?_ -- "(sackung/alarm.ends).has"
  refine OkO.nil ⟨(sco (sld rfl rfl (lda (n := 1) (by kernel_rfl) (by first | assumption | (simp (disch := first | omega | (simp only [hNw, hPt]; omega)) only [gn0, gn1, gn2, gn3, gn4, gn5, gp0, gno, gpo] <;> first | rfl | assumption | exact gp0 _ _ _ | exact gn0 _ _)) (by first | rfl | assumption)) rfl (eqr _ (by first | rfl | exact lpl (by assumption) | (simp [AV.plain, AV.plains, AV.cells, pev, Pst.c, prv])))) (sco (sld rfl rfl (ldg (n := 6) (by kernel_rfl) (by first | assumption | (simp (disch := first | omega | (simp only [hNw, hPt]; omega)) only [gn0, gn1, gn2, gn3, gn4, gn5, gp0, gno, gpo] <;> first | rfl | assumption | exact gp0 _ _ _ | exact gn0 _ _)) (by first | rfl | assumption)) rfl (eqr _ (by first | rfl | exact lpl (by assumption) | (simp [AV.plain, AV.plains, AV.cells, pev, Pst.c, prv])))) rfl)), ?_⟩
  refine OkP.step ?_
  refine OkO.assign rfl rfl ?_
  refine OkO.nil ⟨rfl, ?_⟩
  refine OkP.nil ?_
  refine Ok.ret ⟨.inr rfl, ?_⟩
  exact back_flat rfl rfl rfl (by rw [← hW]; exact (by (try dsimp only); repeat (first | exact hG | apply Grow.new | (refine Grow.put ?_ _ (by first | omega | (simp only [hNw, hPt]; omega))))))
theorem c69 (m : Nat) (ev v : AV) (p : Pst) (sp : List Int) (H : Heap) (hel : ∃ q, lenOf ev = some q) (hS : Ints H v sp) (hsl : sp.length ≤ 100000) (hpg : 0 ≤ p.gain ∧ p.gain ≤ 200) (hpd : 0 ≤ p.drop ∧ p.drop ≤ 200) : RR (m + 3) (.fn 69 [.agg (p.c ev), v]) H = some (.bool (bP (MovP p sp)), H) := by
  refine (R_fn _ _ _ _ _).trans ?_
  refine fn_ok Try.func69 rfl rfl (by kernel_rfl) (by kernel_rfl) ?_
  obtain ⟨W, hW⟩ : ∃ W : Heap, W = ⟨H.t, H.next, H.next⟩ := ⟨_, rfl⟩
  have hg : ∀ n, W.get n = H.get n := fun n => by rw [hW]; rfl
  have hN : W.next = H.next := by rw [hW]
  have hE : ∀ G, Grow W G → Ext H G := fun G g => ⟨by rw [← hN]; exact g.next, fun n k => by rw [g.get n (by rw [hN]; exact k), hg]⟩
  have hG : Grow W W := Grow.refl (by rw [hW]; exact Nat.le_refl _)
  rw [← hW]
  have pev : ev.plain = true := by obtain ⟨q, hq⟩ := hel; exact lpl hq
  have hsn := hS.len
  refine Ok.seq ?_
  refine Ok.region ?_
  refine OkO.box rfl rfl ?_
  refine OkO.assign rfl rfl ?_
  refine OkO.nil ?_
  refine Ok.seq ?_
  refine Ok.seq ?_
  refine Ok.region ?_
  refine OkO.move rfl rfl ?_
  refine OkO.buildArr (z := [.int .i64 0, .int .i64 0]) (sz := 1) rfl (by kernel_rfl) rfl rfl ?_
  refine OkO.makeFunc rfl rfl rfl ?_
  refine OkO.callV rfl rfl rfl rfl rfl (c82r (m + 1) v (.fn 68 [.agg [I 0, I 1000]] []) sp (sp.all fun x => inB x 0 1000) (sp.map fun x => inB x 0 1000) (by rw [List.all_map]; rfl) _ (hS.ext (hE _ (by (try dsimp only); repeat (first | exact hG | apply Grow.new | (refine Grow.put ?_ _ (by first | omega | (simp only [hNw, hPt]; omega))))))) (by omega) (by simp) (fun i x b9 h1 h2 => ⟨68, [.agg [I 0, I 1000], I x], rfl, fun G _ => by rw [List.getElem?_map, h1] at h2; cases h2; exact c68 _ 0 1000 x G⟩)) ?_ -- "sackung/alarm.all[int]"
  refine OkO.un rfl rfl rfl ?_
  refine OkO.nil ?_
  refine Ok.cond rfl (fun h1 => ?_) (fun h1 => ?_)
  · -- yes h1
    have hno : ¬ MovP p sp := fun hc => by (have h9 : (sp.all fun x => inB x 0 1000) = true := List.all_eq_true.2 (fun x hx => by simpa [inB] using hc.1 x hx)); rw [h9] at h1; simp at h1
    refine Ok.seq ?_
    refine Ok.region ?_
    refine OkO.assign rfl rfl ?_
    refine OkO.nil ?_
    refine Ok.ret ⟨.inr rfl, ?_⟩
    exact back_flat rfl (congrArg AV.bool (bP_false hno).symm) rfl (by rw [← hW]; exact (by (try dsimp only); repeat (first | exact hG | apply Grow.new | (refine Grow.put ?_ _ (by first | omega | (simp only [hNw, hPt]; omega))))))
  · -- no h1
    refine Ok.skip ?_
    refine Ok.seq ?_
    refine Ok.seq ?_
    refine Ok.region ?_
    refine OkO.assign rfl rfl ?_
    refine OkO.nil ?_
    refine Ok.block ?_
    have hb : ∀ x ∈ sp, 0 ≤ x ∧ x ≤ 1000 := fun x hx => by (have h9 := List.all_eq_true.1 (show (sp.all fun x => inB x 0 1000) = true by simpa using h1) x hx; simpa [inB] using h9)
    obtain ⟨H6, hH6⟩ : ∃ H6, H6 = W.new (.cells (p.c ev) 30) := ⟨_, rfl⟩
    have e6 : (H6.get W.next).bind AObj.cs = some (p.c ev) := by rw [hH6, gn0]; rfl
    have g6 : Grow W H6 := by rw [hH6]; exact hG.new _
    refine Ok.loop (fun n s => ∃ i : Nat, n = sp.length + 1 - i ∧ 1 ≤ i ∧ i ≤ sp.length + 1 ∧ (∀ (h : Nat) (h2 : h + 1 < sp.length), h + 1 < i → StepOk p (sp[h]'(by omega)) sp[h + 1]) ∧ Has 6 [(1, v), (2, .ptr W.next 0), (5, I (i : Int))] s.T ∧ s.D = [] ∧ s.H = H6) (sp.length) (by unfold loopFuel; omega)
      ⟨1, rfl, Nat.le_refl _, by omega, fun h h2 h3 => absurd h3 (by omega), Has.of (by kernel_rfl), rfl, by rw [hH6]; rfl⟩ ?_
    rintro n ⟨T, D, G⟩ ⟨i, hn, hi1, hi, hall, ⟨f_, hT⟩, hD, hg9⟩
    dsimp only at *
    subst hT hD
    skip
    subst hg9
    refine Ok.seq ?_
    refine Ok.seq ?_
    refine Ok.region ?_
    refine OkO.move rfl rfl ?_
    refine OkO.move rfl rfl ?_
    refine OkO.builtin rfl rfl rfl (bln (by kernel_rfl) (by first | assumption | rfl)) ?_
    refine OkO.bin rfl rfl rfl (bin_lss _ _) ?_
    refine OkO.nil ?_
    refine Ok.cond rfl (fun h2 => ?_) (fun h2 => ?_)
    · -- yes h2
      have hlt : i < sp.length := by simpa using h2
      obtain ⟨xb, xo, xcs, x1, x2, x3, x4⟩ := (hS.ext (hE _ g6)).at' i hlt
      obtain ⟨yb, yo, ycs, y1, y2, y3, y4⟩ := (hS.ext (hE _ g6)).at' (i - 1) (by omega)
      have hb9 := hb _ (List.getElem_mem (l := sp) (n := i - 1) (by omega))
      refine Ok.skip ?_
      refine Ok.seq ?_
      refine Ok.block ?_
      refine Ok.seq ?_
      refine Ok.region ?_
      refine OkO.move rfl rfl ?_
      refine OkO.move rfl rfl ?_
      refine OkO.bin rfl rfl rfl (bin_sub (by omega) (by omega)) ?_
      refine OkO.index (sz := 1) (n := i - 1) rfl rfl (congrArg (fun z => some (I z)) (by omega)) (by kernel_rfl) (by first | assumption | rfl | exact slAt_slice (by omega) | exact slAt_opn (by omega)) ?_ -- index ('Go.Operand.tmp', 18) ('Go.Operand.tmp', 20)
      refine OkO.load rfl rfl (lda (n := 1) (by kernel_rfl) (by first | assumption | (simp (disch := first | omega | (simp only [hNw, hPt]; omega)) only [gn0, gn1, gn2, gn3, gn4, gn5, gp0, gno, gpo] <;> first | rfl | assumption | exact gp0 _ _ _ | exact gn0 _ _)) (by first | rfl | assumption)) ?_
      refine OkO.assign rfl rfl ?_
      refine OkO.nil ?_
      refine Ok.seq ?_
      refine Ok.drawn [(0, true, []), (1, true, []), (2, true, []), (3, true, []), (5, true, []), (6, true, []), (7, true, []), (8, true, []), (4, false, [8]), (9, false, [0]), (10, true, [])] (by kernel_rfl) ?_
      refine OkP.step ?_
      refine OkO.load rfl rfl (ldg (n := 6) (by kernel_rfl) (by first | assumption | (simp (disch := first | omega | (simp only [hNw, hPt]; omega)) only [gn0, gn1, gn2, gn3, gn4, gn5, gp0, gno, gpo] <;> first | rfl | assumption | exact gp0 _ _ _ | exact gn0 _ _)) (by first | rfl | assumption)) ?_
      refine OkO.nil ⟨rfl, ?_⟩
      refine OkP.step ?_
      refine OkO.move rfl rfl ?_
      refine OkO.nil ⟨rfl, ?_⟩
      refine OkP.step ?_
      refine OkO.move rfl rfl ?_
      refine OkO.nil ⟨rfl, ?_⟩
      refine OkP.step ?_
      refine OkO.buildArr (z := [.int .i64 0, .int .i64 0]) (sz := 1) rfl (by kernel_rfl) rfl rfl ?_
      refine OkO.nil ⟨rfl, ?_⟩
      refine OkP.step ?_
      refine OkO.move rfl rfl ?_
      refine OkO.nil ⟨rfl, ?_⟩
      refine OkP.step ?_
      refine OkO.move rfl rfl ?_
      refine OkO.nil ⟨rfl, ?_⟩
      refine OkP.step ?_
      refine OkO.index (sz := 1) (n := i) rfl rfl rfl (by kernel_rfl) (by first | assumption | rfl | exact slAt_slice (by omega) | exact slAt_opn (by omega)) ?_ -- index ('Go.Operand.tmp', 28) ('Go.Operand.tmp', 29)
      refine OkO.nil ⟨rfl, ?_⟩
      refine OkP.step ?_
      refine OkO.load rfl rfl (lda (n := 1) (by kernel_rfl) (by first | assumption | (simp (disch := first | omega | (simp only [hNw, hPt]; omega)) only [gn0, gn1, gn2, gn3, gn4, gn5, gp0, gno, gpo] <;> first | rfl | assumption | exact gp0 _ _ _ | exact gn0 _ _)) (by first | rfl | assumption)) ?_
      refine OkO.nil ⟨rfl, ?_⟩
      refine OkP.step ?_
      refine OkO.callV rfl rfl rfl rfl rfl (c89 (m + 1) ev p (sp[i - 1]'(by omega), sp[i - 1]'(by omega)) _ (by dsimp only; omega) ⟨hpg, hpd⟩) ?_ -- "(sackung/alarm.Post).after"
      refine OkO.nil ⟨(sco (sld rfl rfl (lda (n := 1) (by kernel_rfl) (by first | assumption | (simp (disch := first | omega | (simp only [hNw, hPt]; omega)) only [gn0, gn1, gn2, gn3, gn4, gn5, gp0, gno, gpo] <;> first | rfl | assumption | exact gp0 _ _ _ | exact gn0 _ _)) (by first | rfl | assumption)) rfl (eqr _ (by first | rfl | exact lpl (by assumption) | (simp [AV.plain, AV.plains, AV.cells, pev, Pst.c])))) rfl), ?_⟩
      refine OkP.step ?_
      refine OkO.callV rfl rfl rfl rfl rfl (c68 (m + 1) _ _ _ _) ?_ -- "(sackung/alarm.ends).has"
      refine OkO.nil ⟨(sco (sld rfl rfl (ldg (n := 6) (by kernel_rfl) (by first | assumption | (simp (disch := first | omega | (simp only [hNw, hPt]; omega)) only [gn0, gn1, gn2, gn3, gn4, gn5, gp0, gno, gpo] <;> first | rfl | assumption | exact gp0 _ _ _ | exact gn0 _ _)) (by first | rfl | assumption)) rfl (eqr _ (by first | rfl | exact lpl (by assumption) | (simp [AV.plain, AV.plains, AV.cells, pev, Pst.c])))) rfl), ?_⟩
      refine OkP.step ?_
      refine OkO.un rfl rfl rfl ?_
      refine OkO.nil ⟨rfl, ?_⟩
      refine OkP.nil ?_
      refine Ok.cond rfl (fun h3 => ?_) (fun h3 => ?_)
      · -- yes h3
        have hno : ¬ MovP p sp := fun hc => by (obtain ⟨k, rfl⟩ : ∃ k, i = k + 1 := ⟨i - 1, by omega⟩); (have h9 := step_iff.2 (hc.2 k hlt)); simp only [Nat.add_sub_cancel] at h3; rw [h9] at h3; simp at h3
        refine Ok.seq ?_
        refine Ok.region ?_
        refine OkO.assign rfl rfl ?_
        refine OkO.nil ?_
        refine Ok.ret ⟨.inr rfl, ?_⟩
        exact back_flat rfl (congrArg AV.bool (bP_false hno).symm) rfl (by rw [← hW]; exact g6)
      · -- no h3
        have hst9 : StepOk p (sp[i - 1]'(by omega)) sp[i] := step_iff.1 (by simpa using h3)
        refine Ok.skip ?_
        refine Ok.region ?_
        refine OkO.move rfl rfl ?_
        refine OkO.bin rfl rfl rfl (bin_add (by omega) (by omega)) ?_
        refine OkO.assign rfl rfl ?_
        refine OkO.nil ?_
        refine ⟨sp.length + 1 - (i + 1), by omega, i + 1, rfl, by omega, by omega, fun h h2 h3 => ?_, Has.of (by kernel_rfl), rfl, rfl⟩
        by_cases e : h + 1 = i
        · subst e
          exact hst9
        · exact hall h h2 (by omega)
    · -- no h2
      have hge : sp.length ≤ i := by simpa using h2
      refine Ok.exit ?_
      refine Ok.seq ?_
      refine Ok.region ?_
      refine OkO.assign rfl rfl ?_
      refine OkO.nil ?_
      refine Ok.ret ⟨.inr rfl, ?_⟩
      exact back_flat rfl (congrArg AV.bool (bP_true ⟨hb, fun h h2 => hall h h2 (by omega)⟩).symm) rfl (by rw [← hW]; exact g6)
theorem build149 {xr : AV} {n : Nat} (h : lenOf xr = some n) (ev : AV) (p : Pst) (s0 : Int) : fillS (fun i => [(0, 6), (6, 1), (7, 1)][i]?) [.nils, I 0, I 0, I 0, I 0, I 0, .nils, I 0] [(0, .agg (List.take 6 (List.drop 0 (p.c ev)))), (1, xr), (2, I s0)] = some (p.c ev ++ [xr, I s0]) := by
  have hv := (len_one h).1
  show fillS _ _ [(0, .agg [ev, I p.gain, I p.drop, I p.fall, I p.out, I p.ahead]), (1, xr), (2, I s0)] = some [ev, I p.gain, I p.drop, I p.fall, I p.out, I p.ahead, xr, I s0]
  simp [fillS, spl, hv, show ∀ z, (I z).cells = [I z] from fun _ => rfl, show ∀ l, (AV.agg l).cells = l from fun _ => rfl]
theorem work_all {p : Pst} {f : Int} {row : List Int} {v : Int} : ((workL p.errs.length f).all fun g => inB v (gI p row g).1 (gI p row g).2) = true ↔ AgreeR p f row v := by
  rw [List.all_eq_true]
  unfold AgreeR workL
  constructor
  · intro h g h1 h2
    have := h g (List.mem_filter.2 ⟨List.mem_range.2 h1, by simpa using h2⟩)
    simpa [inB, inI] using this
  · intro h g hg
    obtain ⟨h1, h2⟩ := List.mem_filter.1 hg
    have := h g (List.mem_range.1 h1) (by simpa using h2)
    simpa [inB, inI] using this
theorem c70 (m : Nat) (ev rv v : AV) (p : Pst) (rows : List (List Int)) (f : Int) (sp : List Int) (H : Heap) (hV : Ints H ev p.errs) (hRs : LstAt H rv rows) (hS : Ints H v sp) (hsl : sp.length ≤ 100000) (hsr : sp.length = rows.length) (hpl : p.errs.length ≤ 1000) (hpe : ∀ x ∈ p.errs, 0 ≤ x ∧ x ≤ 1000) (hlens : ∀ r ∈ rows, r.length = p.errs.length) (hrbd : ∀ r ∈ rows, ∀ x ∈ r, -1000 ≤ x ∧ x ≤ 2000) : RR (m + 4) (.fn 70 [.agg (p.c ev), rv, I f, v]) H = some (.bool (bP (AgrP p f rows sp)), H) := by
  refine (R_fn _ _ _ _ _).trans ?_
  refine fn_ok Try.func70 rfl rfl (by kernel_rfl) (by kernel_rfl) ?_
  obtain ⟨W, hW⟩ : ∃ W : Heap, W = ⟨H.t, H.next, H.next⟩ := ⟨_, rfl⟩
  have hg : ∀ n, W.get n = H.get n := fun n => by rw [hW]; rfl
  have hN : W.next = H.next := by rw [hW]
  have hE : ∀ G, Grow W G → Ext H G := fun G g => ⟨by rw [← hN]; exact g.next, fun n k => by rw [g.get n (by rw [hN]; exact k), hg]⟩
  have hG : Grow W W := Grow.refl (by rw [hW]; exact Nat.le_refl _)
  rw [← hW]
  have pev : ev.plain = true := lpl hV.len
  have hsn := hS.len
  have hrn := hRs.len
  refine Ok.seq ?_
  refine Ok.region ?_
  refine OkO.box rfl rfl ?_
  refine OkO.assign rfl rfl ?_
  refine OkO.nil ?_
  refine Ok.seq ?_
  refine Ok.seq ?_
  refine Ok.region ?_
  refine OkO.move rfl rfl ?_
  refine OkO.builtin rfl rfl rfl (bln (by kernel_rfl) (by first | assumption | rfl)) ?_
  refine OkO.move rfl rfl ?_
  refine OkO.nil ?_
  refine Ok.block ?_
  refine Ok.loop (fun n s => ∃ i : Nat, n = sp.length - i ∧ i ≤ sp.length ∧ (∀ (h : Nat) (h1 : h < sp.length) (h2 : h < rows.length), h < i → AgreeR p f rows[h] sp[h]) ∧ Has 6 [(1, rv), (2, I f), (4, .ptr W.next 0), (11, v), (12, I (sp.length : Int)), (13, I (i : Int))] s.T ∧ s.D = [] ∧ Grow W s.H ∧ (s.H.get W.next).bind AObj.cs = some (p.c ev) ∧ W.next + 1 ≤ s.H.next) (sp.length) (by unfold loopFuel; omega)
    ⟨0, rfl, Nat.zero_le _, fun h h1 h2 h3 => absurd h3 (Nat.not_lt_zero h), Has.of (by kernel_rfl), rfl, (by (try dsimp only); repeat (first | exact hG | apply Grow.new | (refine Grow.put ?_ _ (by first | omega | (simp only [hNw, hPt]; omega))))), by rw [gn0]; rfl, by simp⟩ ?_
  rintro n ⟨T, D, G⟩ ⟨i, hn, hi, hall, ⟨f_, hT⟩, hD, hg, a_, hn1⟩
  dsimp only at *
  subst hT hD
  have hgn := hg.next
  refine Ok.seq ?_
  refine Ok.region ?_
  refine OkO.bin rfl rfl rfl (bin_lss _ _) ?_
  refine OkO.nil ?_
  refine Ok.seq ?_
  refine Ok.cond rfl (fun h1 => ?_) (fun h1 => ?_)
  · -- yes h1
    have hlt : i < sp.length := by simpa using h1
    obtain ⟨xb, xo, xcs, x1, x2, x3, x4⟩ := (hS.ext (hE _ hg)).at' i hlt
    obtain ⟨xr, rb, ro, rcs, r1, r2, r3, r4, r5⟩ := (hRs.ext (hE _ hg)).at_ i (by omega)
    have pxr : xr.plain = true := lpl r5.len
    refine Ok.skip ?_
    refine Ok.seq ?_
    refine Ok.block ?_
    refine Ok.seq ?_
    refine Ok.region ?_
    refine OkO.move rfl rfl ?_
    refine OkO.index (sz := 1) (n := i) rfl rfl rfl (by kernel_rfl) (by first | assumption | rfl | exact slAt_slice (by omega) | exact slAt_opn (by omega)) ?_ -- index ('Go.Operand.tmp', 11) ('Go.Operand.tmp', 13)
    refine OkO.load rfl rfl (lda (n := 1) (by kernel_rfl) (by first | assumption | (simp (disch := first | omega | (simp only [hNw, hPt]; omega)) only [gn0, gn1, gn2, gn3, gn4, gn5, gp0, gno, gpo] <;> first | rfl | assumption | exact gp0 _ _ _ | exact gn0 _ _)) (by first | rfl | assumption)) ?_
    refine OkO.assign rfl rfl ?_
    refine OkO.assign rfl rfl ?_
    refine OkO.nil ?_
    refine Ok.seq ?_
    refine Ok.drawn [(0, true, []), (1, true, []), (3, true, []), (4, true, []), (5, true, []), (6, true, []), (7, true, []), (8, true, []), (9, true, []), (10, true, []), (2, false, [7, 3]), (11, false, [7, 3, 0]), (12, true, [])] (by kernel_rfl) ?_
    refine OkP.step ?_
    refine OkO.load rfl rfl (ldg (n := 6) (by kernel_rfl) (by first | assumption | (simp (disch := first | omega | (simp only [hNw, hPt]; omega)) only [gn0, gn1, gn2, gn3, gn4, gn5, gp0, gno, gpo] <;> first | rfl | assumption | exact gp0 _ _ _ | exact gn0 _ _)) (by first | rfl | assumption)) ?_
    refine OkO.nil ⟨rfl, ?_⟩
    refine OkP.step ?_
    refine OkO.move rfl rfl ?_
    refine OkO.nil ⟨rfl, ?_⟩
    refine OkP.step ?_
    refine OkO.load rfl rfl (ldg (n := 6) (by kernel_rfl) (by first | assumption | (simp (disch := first | omega | (simp only [hNw, hPt]; omega)) only [gn0, gn1, gn2, gn3, gn4, gn5, gp0, gno, gpo] <;> first | rfl | assumption | exact gp0 _ _ _ | exact gn0 _ _)) (by first | rfl | assumption)) ?_
    refine OkO.nil ⟨rfl, ?_⟩
    refine OkP.step ?_
    refine OkO.move rfl rfl ?_
    refine OkO.nil ⟨rfl, ?_⟩
    refine OkP.step ?_
    refine OkO.move rfl rfl ?_
    refine OkO.nil ⟨rfl, ?_⟩
    refine OkP.step ?_
    refine OkO.index (sz := 1) (n := i) rfl rfl rfl (by kernel_rfl) (by first | assumption | rfl | exact slAt_slice (by omega) | exact slAt_opn (by omega)) ?_ -- index ('Go.Operand.tmp', 22) ('Go.Operand.tmp', 23)
    refine OkO.nil ⟨rfl, ?_⟩
    refine OkP.step ?_
    refine OkO.load rfl rfl (lda (n := 1) (by kernel_rfl) (by first | assumption | (simp (disch := first | omega | (simp only [hNw, hPt]; omega)) only [gn0, gn1, gn2, gn3, gn4, gn5, gp0, gno, gpo] <;> first | rfl | assumption | exact gp0 _ _ _ | exact gn0 _ _)) (by first | rfl | assumption)) ?_
    refine OkO.nil ⟨rfl, ?_⟩
    refine OkP.step ?_
    refine OkO.move rfl rfl ?_
    refine OkO.nil ⟨rfl, ?_⟩
    refine OkP.step ?_
    refine OkO.build (z := [.nils, .int .i64 0, .int .i64 0, .int .i64 0, .int .i64 0, .int .i64 0, .nils, .int .i64 0]) (pl := [(0, 6), (6, 1), (7, 1)]) (cs := p.c ev ++ [xr, I sp[i]]) rfl (by kernel_rfl) rfl (build149 r5.len _ _ _) ?_
    refine OkO.nil ⟨rfl, ?_⟩
    refine OkP.step ?_
    refine OkO.makeFunc rfl rfl rfl ?_
    refine OkO.nil ⟨rfl, ?_⟩
    refine OkP.step ?_
    refine OkO.callE rfl rfl rfl rfl rfl (c90 (m + 2) ev p f _ hV.len (by omega)) ?_ -- "(sackung/alarm.Post).working"
    rintro wv H90 ⟨q90, m90⟩
    have n1 := q90.ext.next
    try simp only [hNw, hPt] at n1
    have gg1 : Grow W H90 := Grow.ret (by (try dsimp only); repeat (first | exact hg | apply Grow.new | (refine Grow.put ?_ _ (by first | omega | (simp only [hNw, hPt]; omega))))) q90
    have a1 : (H90.get (W.next)).bind AObj.cs = some (p.c ev) := by rw [q90.ext.get _ (by first | omega | (simp only [hNw, hPt]; omega))]; first | assumption | (rw [gn0]; rfl) | (rw [get_put_eq] <;> rfl) | (simp (disch := first | omega | (simp only [hNw, hPt]; omega)) only [gn0, gn1, gn2, gn3, gn4, gn5, gp0, gno, gpo] <;> first | rfl | assumption | (rw [get_put_eq] <;> rfl))
    have r2z : (H90.get rb).bind AObj.cs = some rcs := by rw [q90.ext.get _ r4]; exact r2
    refine OkO.nil ⟨(sco (sld rfl rfl (lda (n := 1) (by kernel_rfl) (by first | assumption | (simp (disch := first | omega | (simp only [hNw, hPt]; omega)) only [gn0, gn1, gn2, gn3, gn4, gn5, gp0, gno, gpo] <;> first | rfl | assumption | exact gp0 _ _ _ | exact gn0 _ _)) (by first | rfl | assumption)) rfl (eqr _ (by first | rfl | exact lpl (by assumption) | (simp [AV.plain, AV.plains, AV.cells, pev, Pst.c, pxr])))) (sco (sld rfl rfl (ldg (n := 6) (by kernel_rfl) (by first | assumption | (simp (disch := first | omega | (simp only [hNw, hPt]; omega)) only [gn0, gn1, gn2, gn3, gn4, gn5, gp0, gno, gpo] <;> first | rfl | assumption | exact gp0 _ _ _ | exact gn0 _ _)) (by first | rfl | assumption)) rfl (eqr _ (by first | rfl | exact lpl (by assumption) | (simp [AV.plain, AV.plains, AV.cells, pev, Pst.c, pxr])))) rfl)), ?_⟩
    refine OkP.step ?_
    refine OkO.callV rfl rfl rfl rfl rfl (c82r (m + 2) wv (.fn 91 [.agg (p.c ev ++ [xr, I sp[i]])] []) ((workL p.errs.length f).map fun (g : Nat) => (g : Int)) ((workL p.errs.length f).all fun g => inB sp[i] (gI p (rows[i]'(by omega)) g).1 (gI p (rows[i]'(by omega)) g).2) ((workL p.errs.length f).map fun g => inB sp[i] (gI p (rows[i]'(by omega)) g).1 (gI p (rows[i]'(by omega)) g).2) (by rw [List.all_map]; rfl) _ (by rw [List.map_map]; exact m90.nats) (by have := workL_len p.errs.length f; simp; omega) (by simp) (fun j x b9 h1 h2 => by (rw [List.getElem?_map] at h1 h2); (obtain ⟨g, hg1, hg2⟩ := Option.map_eq_some_iff.1 h1); rw [hg1] at h2; cases h2; subst hg2; exact ⟨91, [.agg (p.c ev ++ [xr, I sp[i]]), I (g : Int)], rfl, fun G9 e9 => c91 (m + 0) ev xr p (rows[i]'(by omega)) sp[i] g G9 (hV.ext (Ext.trans (hE _ gg1) e9)) (r5.ext (Ext.trans q90.ext e9)) (workL_lt (List.mem_of_getElem? hg1)) (by rw [hlens _ (List.getElem_mem _)]; exact workL_lt (List.mem_of_getElem? hg1)) hpe (hrbd _ (List.getElem_mem _))⟩)) ?_ -- "sackung/alarm.all[int]"
    refine OkO.nil ⟨(sco (sld rfl rfl (lda (n := 1) (by kernel_rfl) (by first | assumption | (simp (disch := first | omega | (simp only [hNw, hPt]; omega)) only [gn0, gn1, gn2, gn3, gn4, gn5, gp0, gno, gpo] <;> first | rfl | assumption | exact gp0 _ _ _ | exact gn0 _ _)) (by first | rfl | assumption)) rfl (eqr _ (by first | rfl | exact lpl (by assumption) | (simp [AV.plain, AV.plains, AV.cells, pev, Pst.c, pxr])))) (sco (sld rfl rfl (ldg (n := 6) (by kernel_rfl) (by first | assumption | (simp (disch := first | omega | (simp only [hNw, hPt]; omega)) only [gn0, gn1, gn2, gn3, gn4, gn5, gp0, gno, gpo] <;> first | rfl | assumption | exact gp0 _ _ _ | exact gn0 _ _)) (by first | rfl | assumption)) rfl (eqr _ (by first | rfl | exact lpl (by assumption) | (simp [AV.plain, AV.plains, AV.cells, pev, Pst.c, pxr])))) (sco (sld rfl rfl (ldg (n := 6) (by kernel_rfl) (by first | assumption | (simp (disch := first | omega | (simp only [hNw, hPt]; omega)) only [gn0, gn1, gn2, gn3, gn4, gn5, gp0, gno, gpo] <;> first | rfl | assumption | exact gp0 _ _ _ | exact gn0 _ _)) (by first | rfl | assumption)) rfl (eqr _ (by first | rfl | exact lpl (by assumption) | (simp [AV.plain, AV.plains, AV.cells, pev, Pst.c, pxr])))) rfl))), ?_⟩
    refine OkP.step ?_
    refine OkO.un rfl rfl rfl ?_
    refine OkO.nil ⟨rfl, ?_⟩
    refine OkP.nil ?_
    refine Ok.cond rfl (fun h2 => ?_) (fun h2 => ?_)
    · -- yes h2
      have hno : ¬ AgrP p f rows sp := fun hc => by (have h9 := work_all.2 (hc i hlt (by omega))); rw [h9] at h2; simp at h2
      refine Ok.seq ?_
      refine Ok.region ?_
      refine OkO.assign rfl rfl ?_
      refine OkO.nil ?_
      refine Ok.ret ⟨.inr rfl, ?_⟩
      exact back_flat rfl (congrArg AV.bool (bP_false hno).symm) rfl (by rw [← hW]; exact gg1)
    · -- no h2
      have hcond := h2
      refine Ok.skip ?_
      refine Ok.region ?_
      refine OkO.bin rfl rfl rfl (bin_add (by omega) (by omega)) ?_
      refine OkO.move rfl rfl ?_
      refine OkO.nil ?_
      refine ⟨sp.length - (i + 1), by omega, i + 1, rfl, by omega, fun h h1 h2 h3 => ?_, Has.of (by kernel_rfl), rfl, gg1, a1, by first | omega | (dsimp only; omega)⟩
      by_cases e : h = i
      · subst e; exact work_all.1 (by simpa using hcond)
      · exact hall h h1 h2 (by omega)
  · -- no h1
    have hge : sp.length ≤ i := by simpa using h1
    refine Ok.exit ?_
    refine Ok.seq ?_
    refine Ok.region ?_
    refine OkO.assign rfl rfl ?_
    refine OkO.nil ?_
    refine Ok.ret ⟨.inr rfl, ?_⟩
    exact back_flat rfl (congrArg AV.bool (bP_true (fun h h1 h2 => hall h h1 h2 (by omega))).symm) rfl (by rw [← hW]; exact hg)
end
end Go.Ev

set_option maxRecDepth 100000
set_option linter.unusedSimpArgs false
set_option linter.unusedVariables false
namespace Go.Ev
open Go Go.Proofs
noncomputable section
theorem bP_congr {P Q : Prop} (h : P ↔ Q) : bP P = bP Q := by rw [Bool.eq_iff_iff, bP_iff, bP_iff, h]
theorem c29Y (m : Nat) (ev rv v : AV) (p : Pst) (rows : List (List Int)) (f : Int) (sp : List Int) (H : Heap) (hV : Ints H ev p.errs) (hRs : LstAt H rv rows) (hpl : p.errs.length ≤ 100000) (hrl : rows.length ≤ 100000) (hlens9 : ∀ r ∈ rows, r.length ≤ 100000) (hS : Ints H v sp) (hsl : sp.length ≤ 100000) (hf : faultE p rows = 0) : RR (m + 6) (.fn 29 [.agg (p.c ev), rv, I f, v]) H = some (.bool (bP (TruP p rows f sp)), H) := by
  refine (R_fn _ _ _ _ _).trans ?_
  refine fn_ok Try.func29 rfl rfl (by kernel_rfl) (by kernel_rfl) ?_
  obtain ⟨W, hW⟩ : ∃ W : Heap, W = ⟨H.t, H.next, H.next⟩ := ⟨_, rfl⟩
  have hg : ∀ n, W.get n = H.get n := fun n => by rw [hW]; rfl
  have hN : W.next = H.next := by rw [hW]
  have hE : ∀ G, Grow W G → Ext H G := fun G g => ⟨by rw [← hN]; exact g.next, fun n k => by rw [g.get n (by rw [hN]; exact k), hg]⟩
  have hG : Grow W W := Grow.refl (by rw [hW]; exact Nat.le_refl _)
  rw [← hW]
  have pev : ev.plain = true := lpl hV.len
  have hel := hV.len
  have hrlen := hRs.len
  have ats : ∀ mb, atoms [ev, I p.gain, I p.drop, I p.fall, I p.out, I p.ahead, .map mb] = true := fun mb => by rw [atoms, (len_one hel).2]; rfl
  have hsn := hS.len
  obtain ⟨hok, hr60, hlens, hrbd⟩ := faultE_facts hf
  obtain ⟨⟨hp1, hp2⟩, hpe, hpg, hpd, hpf, hpo1, hpo2⟩ := Pst.ok_facts hok
  refine Ok.seq ?_
  refine Ok.region ?_
  refine OkO.box rfl rfl ?_
  refine OkO.assign rfl rfl ?_
  refine OkO.nil ?_
  refine Ok.seq ?_
  refine Ok.region ?_
  refine OkO.load rfl rfl (ldg (n := 6) (by kernel_rfl) (by first | assumption | (simp (disch := first | omega | (simp only [hNw, hPt]; omega)) only [gn0, gn1, gn2, gn3, gn4, gn5, gp0, gno, gpo] <;> first | rfl | assumption | exact gp0 _ _ _ | exact gn0 _ _)) (by first | rfl | assumption)) ?_
  refine OkO.move rfl rfl ?_
  refine OkO.callV rfl rfl rfl rfl rfl ((c62 (m + 0) ev rv p rows _ (hV.ext (hE _ (by (try dsimp only); repeat (first | exact hG | apply Grow.new | (refine Grow.put ?_ _ (by first | omega | (simp only [hNw, hPt]; omega))))))) (hRs.ext (hE _ (by (try dsimp only); repeat (first | exact hG | apply Grow.new | (refine Grow.put ?_ _ (by first | omega | (simp only [hNw, hPt]; omega))))))) hpl hrl hlens9).trans (by rw [hf])) ?_ -- "sackung/alarm.checkReads"
  refine OkO.bin rfl rfl rfl ((bin_eql _ _).trans (congrArg (fun b => some (AV.bool b)) (show _ = true from (by rfl)))) ?_
  refine OkO.move rfl rfl ?_
  refine OkO.move rfl rfl ?_
  refine OkO.bin rfl rfl rfl (bin_eql _ _) ?_
  refine OkO.move rfl rfl ?_
  refine OkO.split (d := 16) rfl (fun g1 => ?_) (fun g1 => ?_)
  · -- true g1
    have hfb : -1 ≤ f ∧ f ≤ (p.errs.length : Int) - 1 := by (have h9 : f = -1 := by simpa using g1); omega
    refine OkO.skip rfl ?_
    refine OkO.skip rfl ?_
    refine OkO.skip rfl ?_
    refine OkO.skip rfl ?_
    refine OkO.skip rfl ?_
    refine OkO.pick (b := true) rfl rfl (fun _ => rfl) nofun ?_
    refine OkO.pick (b := true) rfl rfl (fun _ => rfl) nofun ?_
    refine OkO.move rfl rfl ?_
    refine OkO.move rfl rfl ?_
    refine OkO.builtin rfl rfl rfl (bln (by kernel_rfl) (by first | assumption | rfl)) ?_
    refine OkO.move rfl rfl ?_
    refine OkO.builtin rfl rfl rfl (bln (by kernel_rfl) (by first | assumption | rfl)) ?_
    refine OkO.bin rfl rfl rfl (bin_eql _ _) ?_
    refine OkO.pick (b := true) rfl rfl (fun _ => rfl) nofun ?_
    refine OkO.move rfl rfl ?_
    refine OkO.split (d := 31) rfl (fun g2 => ?_) (fun g2 => ?_)
    · -- true g2
      have hl : sp.length = rows.length := by (have h9 : (sp.length : Int) = (rows.length : Int) := by simpa using g2); omega
      refine OkO.load rfl rfl (ldg (n := 6) (by kernel_rfl) (by first | assumption | (simp (disch := first | omega | (simp only [hNw, hPt]; omega)) only [gn0, gn1, gn2, gn3, gn4, gn5, gp0, gno, gpo] <;> first | rfl | assumption | exact gp0 _ _ _ | exact gn0 _ _)) (by first | rfl | assumption)) ?_
      refine OkO.move rfl rfl ?_
      refine OkO.callV rfl rfl rfl rfl rfl (c69 (m + 2) ev v p sp _ ⟨_, hel⟩ (hS.ext (hE _ (by (try dsimp only); repeat (first | exact hG | apply Grow.new | (refine Grow.put ?_ _ (by first | omega | (simp only [hNw, hPt]; omega))))))) hsl hpg hpd) ?_ -- "(sackung/alarm.Post).mayMove"
      refine OkO.pick (b := true) rfl rfl (fun _ => rfl) nofun ?_
      refine OkO.move rfl rfl ?_
      refine OkO.split (d := 36) rfl (fun g3 => ?_) (fun g3 => ?_)
      · -- true g3
        have hmv : MovP p sp := bP_iff.1 g3
        refine OkO.load rfl rfl (ldg (n := 6) (by kernel_rfl) (by first | assumption | (simp (disch := first | omega | (simp only [hNw, hPt]; omega)) only [gn0, gn1, gn2, gn3, gn4, gn5, gp0, gno, gpo] <;> first | rfl | assumption | exact gp0 _ _ _ | exact gn0 _ _)) (by first | rfl | assumption)) ?_
        refine OkO.move rfl rfl ?_
        refine OkO.move rfl rfl ?_
        refine OkO.move rfl rfl ?_
        refine OkO.callV rfl rfl rfl rfl rfl (c70 (m + 1) ev rv v p rows f sp _ (hV.ext (hE _ (by (try dsimp only); repeat (first | exact hG | apply Grow.new | (refine Grow.put ?_ _ (by first | omega | (simp only [hNw, hPt]; omega))))))) (hRs.ext (hE _ (by (try dsimp only); repeat (first | exact hG | apply Grow.new | (refine Grow.put ?_ _ (by first | omega | (simp only [hNw, hPt]; omega))))))) (hS.ext (hE _ (by (try dsimp only); repeat (first | exact hG | apply Grow.new | (refine Grow.put ?_ _ (by first | omega | (simp only [hNw, hPt]; omega))))))) hsl hl (by omega) hpe hlens hrbd) ?_ -- "(sackung/alarm.Post).agree"
        refine OkO.pick (b := true) rfl rfl (fun _ => rfl) nofun ?_
        refine OkO.assign rfl rfl ?_
        refine OkO.nil ?_
        refine Ok.ret ⟨.inr rfl, ?_⟩
        exact back_flat rfl (congrArg AV.bool (bP_congr ⟨fun h => ⟨hl, hfb, hmv, h⟩, fun h => h.2.2.2⟩)) rfl (by rw [← hW]; exact (by (try dsimp only); repeat (first | exact hG | apply Grow.new | (refine Grow.put ?_ _ (by first | omega | (simp only [hNw, hPt]; omega))))))
      · -- false g3
        have hno : ¬ TruP p rows f sp := fun hc => by (have h9 := bP_true hc.2.2.1); rw [h9] at g3; cases g3
        refine OkO.skip rfl ?_
        refine OkO.skip rfl ?_
        refine OkO.skip rfl ?_
        refine OkO.skip rfl ?_
        refine OkO.skip rfl ?_
        refine OkO.pick (b := false) rfl rfl nofun (fun _ => rfl) ?_
        refine OkO.assign rfl rfl ?_
        refine OkO.nil ?_
        refine Ok.ret ⟨.inr rfl, ?_⟩
        exact back_flat rfl (congrArg AV.bool (bP_false hno).symm) rfl (by rw [← hW]; exact (by (try dsimp only); repeat (first | exact hG | apply Grow.new | (refine Grow.put ?_ _ (by first | omega | (simp only [hNw, hPt]; omega))))))
    · -- false g2
      have hno : ¬ TruP p rows f sp := fun hc => by (have h9 := hc.1); simp at g2; omega
      refine OkO.skip rfl ?_
      refine OkO.skip rfl ?_
      refine OkO.skip rfl ?_
      refine OkO.pick (b := false) rfl rfl nofun (fun _ => rfl) ?_
      refine OkO.move rfl rfl ?_
      refine OkO.skip rfl ?_
      refine OkO.skip rfl ?_
      refine OkO.skip rfl ?_
      refine OkO.skip rfl ?_
      refine OkO.skip rfl ?_
      refine OkO.pick (b := false) rfl rfl nofun (fun _ => rfl) ?_
      refine OkO.assign rfl rfl ?_
      refine OkO.nil ?_
      refine Ok.ret ⟨.inr rfl, ?_⟩
      exact back_flat rfl (congrArg AV.bool (bP_false hno).symm) rfl (by rw [← hW]; exact (by (try dsimp only); repeat (first | exact hG | apply Grow.new | (refine Grow.put ?_ _ (by first | omega | (simp only [hNw, hPt]; omega))))))
  · -- false g1
    have hf1 : f ≠ -1 := by simpa using g1
    refine OkO.fieldAddr (o := 0) rfl (by kernel_rfl) rfl ?_
    refine OkO.load rfl rfl (lda (n := 1) (by kernel_rfl) (by first | assumption | (simp (disch := first | omega | (simp only [hNw, hPt]; omega)) only [gn0, gn1, gn2, gn3, gn4, gn5, gp0, gno, gpo] <;> first | rfl | assumption | exact gp0 _ _ _ | exact gn0 _ _)) (by first | rfl | assumption)) ?_
    refine OkO.callV rfl rfl rfl rfl rfl (c67 (m + 4) ev p.errs _ hel (by omega)) ?_ -- "sackung/alarm.indexes[int]"
    refine OkO.move rfl rfl ?_
    refine OkO.callV rfl rfl rfl rfl rfl (c68 (m + 4) _ _ _ _) ?_ -- "(sackung/alarm.ends).has"
    refine OkO.pick (b := false) rfl rfl nofun (fun _ => rfl) ?_
    refine OkO.pick (b := true) rfl rfl (fun _ => rfl) nofun ?_
    refine OkO.move rfl rfl ?_
    refine OkO.split (d := 24) rfl (fun g4 => ?_) (fun g4 => ?_)
    · -- true g4
      have hfb : -1 ≤ f ∧ f ≤ (p.errs.length : Int) - 1 := by (have h9 : inB f 0 ((p.errs.length : Int) - 1) = true := by simpa using g4); (simp [inB] at h9); omega
      refine OkO.move rfl rfl ?_
      refine OkO.builtin rfl rfl rfl (bln (by kernel_rfl) (by first | assumption | rfl)) ?_
      refine OkO.move rfl rfl ?_
      refine OkO.builtin rfl rfl rfl (bln (by kernel_rfl) (by first | assumption | rfl)) ?_
      refine OkO.bin rfl rfl rfl (bin_eql _ _) ?_
      refine OkO.pick (b := true) rfl rfl (fun _ => rfl) nofun ?_
      refine OkO.move rfl rfl ?_
      refine OkO.split (d := 31) rfl (fun g5 => ?_) (fun g5 => ?_)
      · -- true g5
        have hl : sp.length = rows.length := by (have h9 : (sp.length : Int) = (rows.length : Int) := by simpa using g5); omega
        refine OkO.load rfl rfl (ldg (n := 6) (by kernel_rfl) (by first | assumption | (simp (disch := first | omega | (simp only [hNw, hPt]; omega)) only [gn0, gn1, gn2, gn3, gn4, gn5, gp0, gno, gpo] <;> first | rfl | assumption | exact gp0 _ _ _ | exact gn0 _ _)) (by first | rfl | assumption)) ?_
        refine OkO.move rfl rfl ?_
        refine OkO.callV rfl rfl rfl rfl rfl (c69 (m + 2) ev v p sp _ ⟨_, hel⟩ (hS.ext (hE _ (by (try dsimp only); repeat (first | exact hG | apply Grow.new | (refine Grow.put ?_ _ (by first | omega | (simp only [hNw, hPt]; omega))))))) hsl hpg hpd) ?_ -- "(sackung/alarm.Post).mayMove"
        refine OkO.pick (b := true) rfl rfl (fun _ => rfl) nofun ?_
        refine OkO.move rfl rfl ?_
        refine OkO.split (d := 36) rfl (fun g6 => ?_) (fun g6 => ?_)
        · -- true g6
          have hmv : MovP p sp := bP_iff.1 g6
          refine OkO.load rfl rfl (ldg (n := 6) (by kernel_rfl) (by first | assumption | (simp (disch := first | omega | (simp only [hNw, hPt]; omega)) only [gn0, gn1, gn2, gn3, gn4, gn5, gp0, gno, gpo] <;> first | rfl | assumption | exact gp0 _ _ _ | exact gn0 _ _)) (by first | rfl | assumption)) ?_
          refine OkO.move rfl rfl ?_
          refine OkO.move rfl rfl ?_
          refine OkO.move rfl rfl ?_
          refine OkO.callV rfl rfl rfl rfl rfl (c70 (m + 1) ev rv v p rows f sp _ (hV.ext (hE _ (by (try dsimp only); repeat (first | exact hG | apply Grow.new | (refine Grow.put ?_ _ (by first | omega | (simp only [hNw, hPt]; omega))))))) (hRs.ext (hE _ (by (try dsimp only); repeat (first | exact hG | apply Grow.new | (refine Grow.put ?_ _ (by first | omega | (simp only [hNw, hPt]; omega))))))) (hS.ext (hE _ (by (try dsimp only); repeat (first | exact hG | apply Grow.new | (refine Grow.put ?_ _ (by first | omega | (simp only [hNw, hPt]; omega))))))) hsl hl (by omega) hpe hlens hrbd) ?_ -- "(sackung/alarm.Post).agree"
          refine OkO.pick (b := true) rfl rfl (fun _ => rfl) nofun ?_
          refine OkO.assign rfl rfl ?_
          refine OkO.nil ?_
          refine Ok.ret ⟨.inr rfl, ?_⟩
          exact back_flat rfl (congrArg AV.bool (bP_congr ⟨fun h => ⟨hl, hfb, hmv, h⟩, fun h => h.2.2.2⟩)) rfl (by rw [← hW]; exact (by (try dsimp only); repeat (first | exact hG | apply Grow.new | (refine Grow.put ?_ _ (by first | omega | (simp only [hNw, hPt]; omega))))))
        · -- false g6
          have hno : ¬ TruP p rows f sp := fun hc => by (have h9 := bP_true hc.2.2.1); rw [h9] at g6; cases g6
          refine OkO.skip rfl ?_
          refine OkO.skip rfl ?_
          refine OkO.skip rfl ?_
          refine OkO.skip rfl ?_
          refine OkO.skip rfl ?_
          refine OkO.pick (b := false) rfl rfl nofun (fun _ => rfl) ?_
          refine OkO.assign rfl rfl ?_
          refine OkO.nil ?_
          refine Ok.ret ⟨.inr rfl, ?_⟩
          exact back_flat rfl (congrArg AV.bool (bP_false hno).symm) rfl (by rw [← hW]; exact (by (try dsimp only); repeat (first | exact hG | apply Grow.new | (refine Grow.put ?_ _ (by first | omega | (simp only [hNw, hPt]; omega))))))
      · -- false g5
        have hno : ¬ TruP p rows f sp := fun hc => by (have h9 := hc.1); simp at g5; omega
        refine OkO.skip rfl ?_
        refine OkO.skip rfl ?_
        refine OkO.skip rfl ?_
        refine OkO.pick (b := false) rfl rfl nofun (fun _ => rfl) ?_
        refine OkO.move rfl rfl ?_
        refine OkO.skip rfl ?_
        refine OkO.skip rfl ?_
        refine OkO.skip rfl ?_
        refine OkO.skip rfl ?_
        refine OkO.skip rfl ?_
        refine OkO.pick (b := false) rfl rfl nofun (fun _ => rfl) ?_
        refine OkO.assign rfl rfl ?_
        refine OkO.nil ?_
        refine Ok.ret ⟨.inr rfl, ?_⟩
        exact back_flat rfl (congrArg AV.bool (bP_false hno).symm) rfl (by rw [← hW]; exact (by (try dsimp only); repeat (first | exact hG | apply Grow.new | (refine Grow.put ?_ _ (by first | omega | (simp only [hNw, hPt]; omega))))))
    · -- false g4
      have hno : ¬ TruP p rows f sp := fun hc => by (have h9 := hc.2.1); (have h8 : inB f 0 ((p.errs.length : Int) - 1) = true := by simp [inB]; omega); rw [h8] at g4; cases g4
      refine OkO.skip rfl ?_
      refine OkO.skip rfl ?_
      refine OkO.skip rfl ?_
      refine OkO.skip rfl ?_
      refine OkO.skip rfl ?_
      refine OkO.pick (b := false) rfl rfl nofun (fun _ => rfl) ?_
      refine OkO.move rfl rfl ?_
      refine OkO.skip rfl ?_
      refine OkO.skip rfl ?_
      refine OkO.skip rfl ?_
      refine OkO.pick (b := false) rfl rfl nofun (fun _ => rfl) ?_
      refine OkO.move rfl rfl ?_
      refine OkO.skip rfl ?_
      refine OkO.skip rfl ?_
      refine OkO.skip rfl ?_
      refine OkO.skip rfl ?_
      refine OkO.skip rfl ?_
      refine OkO.pick (b := false) rfl rfl nofun (fun _ => rfl) ?_
      refine OkO.assign rfl rfl ?_
      refine OkO.nil ?_
      refine Ok.ret ⟨.inr rfl, ?_⟩
      exact back_flat rfl (congrArg AV.bool (bP_false hno).symm) rfl (by rw [← hW]; exact (by (try dsimp only); repeat (first | exact hG | apply Grow.new | (refine Grow.put ?_ _ (by first | omega | (simp only [hNw, hPt]; omega))))))
end
end Go.Ev

set_option maxRecDepth 100000
set_option linter.unusedSimpArgs false
set_option linter.unusedVariables false
namespace Go.Ev
open Go Go.Proofs
noncomputable section
/-- A list of numbers that was made, whether it can grow in place or not. -/
def Lst (k0 : Nat) (G : Heap) (v : AV) (us : List Int) : Prop :=
  (∃ b, v = .opn b us.length ∧ G.get b = some (.opn (us.map I) 3 1) ∧ k0 ≤ b ∧ b < G.next) ∨ (∃ b, v = .slice b 0 us.length us.length ∧ G.get b = some (.cells (us.map I) 3) ∧ k0 ≤ b ∧ b < G.next)
theorem Lst.len {k0 : Nat} {G : Heap} {v : AV} {us : List Int} (h : Lst k0 G v us) : lenOf v = some us.length := by
  rcases h with ⟨b, rfl, _⟩ | ⟨b, rfl, _⟩ <;> rfl
theorem Lst.flat {k0 : Nat} {G : Heap} {v : AV} {us : List Int} (h : Lst k0 G v us) : v.flat = false := by
  rcases h with ⟨b, rfl, _⟩ | ⟨b, rfl, _⟩ <;> rfl
theorem Lst.to {k0 : Nat} {G G' : Heap} {v : AV} {us : List Int} (h : Lst k0 G v us) (g : Ext G G') : Lst k0 G' v us := by
  rcases h with ⟨b, h1, h2, h3, h4⟩ | ⟨b, h1, h2, h3, h4⟩
  · exact .inl ⟨b, h1, by rw [g.get _ h4]; exact h2, h3, Nat.lt_of_lt_of_le h4 g.next⟩
  · exact .inr ⟨b, h1, by rw [g.get _ h4]; exact h2, h3, Nat.lt_of_lt_of_le h4 g.next⟩
theorem Lst.low {k0 k1 : Nat} {G : Heap} {v : AV} {us : List Int} (h : Lst k1 G v us) (hk : k0 ≤ k1) : Lst k0 G v us := by
  rcases h with ⟨b, h1, h2, h3, h4⟩ | ⟨b, h1, h2, h3, h4⟩
  · exact .inl ⟨b, h1, h2, by omega, h4⟩
  · exact .inr ⟨b, h1, h2, by omega, h4⟩
theorem Lst.put {k0 : Nat} {G : Heap} {v : AV} {us : List Int} (h : Lst k0 G v us) {n : Nat} (o : AObj) (hn : n < k0) : Lst k0 (G.put n o) v us := by
  rcases h with ⟨b, h1, h2, h3, h4⟩ | ⟨b, h1, h2, h3, h4⟩
  · exact .inl ⟨b, h1, by rw [gpo _ _ _ _ (by omega)]; exact h2, h3, by simpa using h4⟩
  · exact .inr ⟨b, h1, by rw [gpo _ _ _ _ (by omega)]; exact h2, h3, by simpa using h4⟩
theorem Lst.ints {k0 : Nat} {G : Heap} {v : AV} {us : List Int} (h : Lst k0 G v us) : Ints G v us := by
  rcases h with ⟨b, rfl, h2, h3, h4⟩ | ⟨b, rfl, h2, h3, h4⟩
  · exact Mine.ints (k0 := k0) (.inr ⟨b, us.length, rfl, h2, by simp, h3, h4⟩)
  · refine ⟨by simp [lenOf], fun i x k => ?_⟩
    have hi : i < us.length := by
      by_cases hi : i < us.length
      · exact hi
      · rw [List.getElem?_eq_none (by simp; omega)] at k; cases k
    rw [List.getElem?_eq_getElem (by simpa using hi)] at k
    simp at k
    refine ⟨b, 0 + i * 1, us.map I, slAt_slice hi, by rw [h2]; rfl, ?_, h4⟩
    have e : ((us.map I).drop (0 + i * 1)).take 1 = [I us[i]] := by
      rw [show 0 + i * 1 = i from by omega, List.drop_eq_getElem_cons (by simpa using hi)]
      simp
    unfold seg
    rw [e, ← k]
    rfl
theorem Lst.app {W G : Heap} {k0 : Nat} {v x : AV} {us : List Int} {s : Int} (h : Lst k0 G v us) (hg : Grow W G) (hk : W.next ≤ k0) (hk2 : k0 ≤ G.next) (hx : elems G x 1 = some [I s]) (hn : lenOf x = some 1) (hb : us.length ≤ 1000) :
    ∃ v' G', builtinF Try.prog G .append [22, 22] [v, x] = some (.val v' G') ∧ Lst k0 G' v' (us ++ [s]) ∧ Grow W G' ∧ G'.next = G.next + 1 := by
  have hl := h.len
  have hit := h.ints
  rcases h with ⟨b, rfl, h2, h3, h4⟩ | ⟨b, rfl, h2, h3, h4⟩
  · obtain ⟨v', G', r1, r2, r3, r4, r5, r6, m, r7⟩ := Mine.app2 (P := Try.prog) (W := W) (k0 := k0) (t := 22) (u := 22) (sz := 1) (by_ := 8) (e := 3) (n := 1) (new := [I s]) (cs := us.map I) (v := .opn b us.length) (.inr ⟨b, us.length, rfl, h2, by simp, h3, h4⟩) hg hk hk2 (by kernel_rfl) (by kernel_rfl) hx hn rfl (by simp; omega) (by omega) (by omega) rfl
    refine ⟨v', G', r1, ?_, r3, r6⟩
    rcases r2 with ⟨_, r2⟩ | ⟨b', n', e1, e2, e3, e4, e5⟩
    · simp at r2
    · refine .inl ⟨b', ?_, by rw [List.map_append]; exact e2, e4, e5⟩
      rw [e1]
      simp at e3 ⊢
      omega
  · have e1 : builtinF Try.prog G .append [22, 22] [.slice b 0 us.length us.length, x] = (append Try.prog G 22 (.slice b 0 us.length us.length) x).map fun (v, H) => .val v H := by
      show (appendT Try.prog G 22 22 _ x).map _ = _
      have hu : isSlice Try.prog 22 = true := by kernel_rfl
      unfold appendT
      unfold isSlice at hu
      split at hu
      · rename_i e; rw [e]
      · cases hu
    rw [e1, append_go (e := 3) (sz := 1) (by_ := 8) (m := us.length) (n := 1) (new := [I s]) (by kernel_rfl) hx hn rfl (by omega) (by omega) rfl]
    have e2 : elems G (.slice b 0 us.length us.length) 1 = some (us.map I) := by rw [← flatI]; exact hit.elems (fun x hx => by obtain ⟨y, _, rfl⟩ := List.mem_map.1 hx; rfl)
    refine ⟨.opn G.next (us.length + 1), G.new (.opn (us.map I ++ [I s]) 3 1), ?_, .inl ⟨G.next, by simp, by rw [List.map_append]; exact gn0 _ _, hk2, by simp⟩, hg.new _, by simp⟩
    unfold append.appendGo
    dsimp only
    rw [show Nat.ble (us.length + 1) us.length = false from by rw [Bool.eq_false_iff]; intro h9; have := Nat.le_of_ble_eq_true h9; omega]
    dsimp only
    rw [e2]
    rfl
/-- A speed followed back to the first hour. -/
def backL (p : Pst) (may : List Iv) : Nat → Int → List Int
  | 0, s => [s]
  | h + 1, s => backL p may h (meetI (may.getD h nul) (beforeI p (s, s))).1 ++ [s]
theorem backL_len (p : Pst) (may : List Iv) : ∀ h s, (backL p may h s).length = h + 1
  | 0, s => rfl
  | h + 1, s => by show (backL p may h _ ++ [s]).length = _; rw [List.length_append, backL_len p may h]; rfl
theorem c92B (m : Nat) (ev mv : AV) (p : Pst) (may : List Iv) (b5 b4 b9 : Nat) (s0 : Int) (H : Heap) (hC : (H.get b5).bind AObj.cs = some [mv] ∧ (H.get b4).bind AObj.cs = some (p.c ev) ∧ (H.get b9).bind AObj.cs = some [.fn 92 [] [.ptr b5 0, .ptr b4 0, .ptr b9 0]] ∧ b5 < H.next ∧ b4 < H.next ∧ b9 < H.next ∧ Mine 0 H mv 125 2 (ivCells may)) (hel : ∃ q, lenOf ev = some q) (hmb : ∀ x ∈ may, Bd x) (hpg : 0 ≤ p.gain ∧ p.gain ≤ 200) (hpd : 0 ≤ p.drop ∧ p.drop ≤ 200) : ∃ v H', RR (m + 1) (.fn 92 [I 0, I s0, .ptr b5 0, .ptr b4 0, .ptr b9 0]) H = some (v, H') ∧ Ret H H' ∧ Lst H.next H' v (backL p may 0 s0) := by
  show ∃ v H', evFn Try.prog (RR (m + 0)) 92 [I 0, I s0, .ptr b5 0, .ptr b4 0, .ptr b9 0] H = some (v, H') ∧ Ret H H' ∧ Lst H.next H' v (backL p may 0 s0)
  refine fn_okE Try.func92 rfl rfl (by kernel_rfl) (by kernel_rfl) ?_
  obtain ⟨W, hW⟩ : ∃ W : Heap, W = ⟨H.t, H.next, H.next⟩ := ⟨_, rfl⟩
  have hg : ∀ n, W.get n = H.get n := fun n => by rw [hW]; rfl
  have hN : W.next = H.next := by rw [hW]
  have hE : ∀ G, Grow W G → Ext H G := fun G g => ⟨by rw [← hN]; exact g.next, fun n k => by rw [g.get n (by rw [hN]; exact k), hg]⟩
  have hG : Grow W W := Grow.refl (by rw [hW]; exact Nat.le_refl _)
  rw [← hW]
  have pev : ev.plain = true := by obtain ⟨q, hq⟩ := hel; exact lpl hq
  obtain ⟨c5, c4, c9, hb5, hb4, hb9, cm⟩ := hC
  have w5 : (W.get b5).bind AObj.cs = some [mv] := by rw [hg]; exact c5
  have w4 : (W.get b4).bind AObj.cs = some (p.c ev) := by rw [hg]; exact c4
  have w9 : (W.get b9).bind AObj.cs = some [.fn 92 [] [.ptr b5 0, .ptr b4 0, .ptr b9 0]] := by rw [hg]; exact c9
  refine Ok.seq ?_
  refine Ok.region ?_
  refine OkO.assign rfl rfl ?_
  refine OkO.nil ?_
  refine Ok.seq ?_
  refine Ok.seq ?_
  refine Ok.region ?_
  refine OkO.move rfl rfl ?_
  refine OkO.bin rfl rfl rfl ((bin_eql _ _).trans (congrArg (fun b => some (AV.bool b)) (show _ = true from (by rfl)))) ?_
  refine OkO.nil ?_
  refine Ok.condT rfl ?_
  refine Ok.seq ?_
  refine Ok.region ?_
  refine OkO.move rfl rfl ?_
  refine OkO.buildSlice (el := 3) (sz := 1) (z := [.int .i64 0]) rfl (by kernel_rfl) (by decide) rfl rfl ?_
  refine OkO.assign rfl rfl ?_
  refine OkO.nil ?_
  refine Ok.ret ⟨.inr rfl, ?_⟩
  refine back_newQ rfl rfl (by rw [← hW]; exact (by (try dsimp only); repeat (first | exact hG | apply Grow.new | (refine Grow.put ?_ _ (by first | omega | (simp only [hNw, hPt]; omega)))))) rfl (fun H9 p1 p2 p3 => ⟨p1, .inr ⟨W.next, rfl, by rw [p2]; exact gn0 _ _, by omega, by rw [p3]; simp⟩⟩)
theorem c92S (m : Nat) (ev mv : AV) (p : Pst) (may : List Iv) (b5 b4 b9 : Nat) (s0 : Int) (k : Nat) (H : Heap) (hC : (H.get b5).bind AObj.cs = some [mv] ∧ (H.get b4).bind AObj.cs = some (p.c ev) ∧ (H.get b9).bind AObj.cs = some [.fn 92 [] [.ptr b5 0, .ptr b4 0, .ptr b9 0]] ∧ b5 < H.next ∧ b4 < H.next ∧ b9 < H.next ∧ Mine 0 H mv 125 2 (ivCells may)) (hel : ∃ q, lenOf ev = some q) (hmb : ∀ x ∈ may, Bd x) (hpg : 0 ≤ p.gain ∧ p.gain ≤ 200) (hpd : 0 ≤ p.drop ∧ p.drop ≤ 200) (hk : k + 1 < may.length) (hml : may.length ≤ 900) (hs : 0 ≤ s0 ∧ s0 ≤ 1000) (hrec : ∀ G s (z : Int), z = (k : Int) → ((G.get b5).bind AObj.cs = some [mv] ∧ (G.get b4).bind AObj.cs = some (p.c ev) ∧ (G.get b9).bind AObj.cs = some [.fn 92 [] [.ptr b5 0, .ptr b4 0, .ptr b9 0]] ∧ b5 < G.next ∧ b4 < G.next ∧ b9 < G.next ∧ Mine 0 G mv 125 2 (ivCells may)) → 0 ≤ s ∧ s ≤ 1000 → ∃ v G', RR (m + 2) (.fn 92 [I z, I s, .ptr b5 0, .ptr b4 0, .ptr b9 0]) G = some (v, G') ∧ Ret G G' ∧ Lst G.next G' v (backL p may k s)) : ∃ v H', RR (m + 3) (.fn 92 [I ((k + 1 : Nat) : Int), I s0, .ptr b5 0, .ptr b4 0, .ptr b9 0]) H = some (v, H') ∧ Ret H H' ∧ Lst H.next H' v (backL p may (k + 1) s0) := by
  show ∃ v H', evFn Try.prog (RR (m + 2)) 92 [I ((k + 1 : Nat) : Int), I s0, .ptr b5 0, .ptr b4 0, .ptr b9 0] H = some (v, H') ∧ Ret H H' ∧ Lst H.next H' v (backL p may (k + 1) s0)
  refine fn_okE Try.func92 rfl rfl (by kernel_rfl) (by kernel_rfl) ?_
  obtain ⟨W, hW⟩ : ∃ W : Heap, W = ⟨H.t, H.next, H.next⟩ := ⟨_, rfl⟩
  have hg : ∀ n, W.get n = H.get n := fun n => by rw [hW]; rfl
  have hN : W.next = H.next := by rw [hW]
  have hE : ∀ G, Grow W G → Ext H G := fun G g => ⟨by rw [← hN]; exact g.next, fun n k => by rw [g.get n (by rw [hN]; exact k), hg]⟩
  have hG : Grow W W := Grow.refl (by rw [hW]; exact Nat.le_refl _)
  rw [← hW]
  have pev : ev.plain = true := by obtain ⟨q, hq⟩ := hel; exact lpl hq
  obtain ⟨c5, c4, c9, hb5, hb4, hb9, cm⟩ := hC
  have w5 : (W.get b5).bind AObj.cs = some [mv] := by rw [hg]; exact c5
  have w4 : (W.get b4).bind AObj.cs = some (p.c ev) := by rw [hg]; exact c4
  have w9 : (W.get b9).bind AObj.cs = some [.fn 92 [] [.ptr b5 0, .ptr b4 0, .ptr b9 0]] := by rw [hg]; exact c9
  obtain ⟨xb, xo, xcs, i1, i2, i3, i4, i5, i6⟩ := ivs_at cm (i := k) (by omega)
  have i2w : (W.get xb).bind AObj.cs = some xcs := by rw [hg]; exact i2
  obtain ⟨mz, hmz, _⟩ := cm.len
  refine Ok.seq ?_
  refine Ok.region ?_
  refine OkO.assign rfl rfl ?_
  refine OkO.nil ?_
  refine Ok.seq ?_
  refine Ok.seq ?_
  refine Ok.region ?_
  refine OkO.move rfl rfl ?_
  refine OkO.bin rfl rfl rfl ((bin_eql _ _).trans (congrArg (fun b => some (AV.bool b)) (show _ = false from (by simp; omega)))) ?_
  refine OkO.nil ?_
  refine Ok.condF rfl ?_
  refine Ok.skip ?_
  refine Ok.seq ?_
  refine Ok.drawn [(0, true, []), (1, true, []), (2, true, []), (3, true, []), (4, true, []), (5, true, []), (6, true, []), (7, true, []), (8, true, []), (11, true, [5, 4, 0]), (9, false, [4, 0]), (10, false, [5, 0]), (12, false, [])] (by kernel_rfl) ?_
  refine OkP.step ?_
  refine OkO.load rfl rfl (lda (n := 1) (by kernel_rfl) (by first | assumption | (simp (disch := first | omega | (simp only [hNw, hPt]; omega)) only [gn0, gn1, gn2, gn3, gn4, gn5, gp0, gno, gpo] <;> first | rfl | assumption | exact gp0 _ _ _ | exact gn0 _ _)) (by first | rfl | assumption)) ?_
  refine OkO.nil ⟨rfl, ?_⟩
  refine OkP.step ?_
  refine OkO.move rfl rfl ?_
  refine OkO.nil ⟨rfl, ?_⟩
  refine OkP.step ?_
  refine OkO.bin rfl rfl rfl (bin_sub (by omega) (by omega)) ?_
  refine OkO.nil ⟨rfl, ?_⟩
  refine OkP.step ?_
  refine OkO.index (sz := 2) (n := k) rfl rfl (congrArg (fun z => some (I z)) (by omega)) (by kernel_rfl) (by first | assumption | rfl | exact slAt_slice (by omega) | exact slAt_opn (by omega)) ?_ -- index ('Go.Operand.tmp', 13) ('Go.Operand.tmp', 15)
  refine OkO.nil ⟨rfl, ?_⟩
  refine OkP.step ?_
  refine OkO.load rfl rfl (ldg (n := 2) (by kernel_rfl) (by first | assumption | (simp (disch := first | omega | (simp only [hNw, hPt]; omega)) only [gn0, gn1, gn2, gn3, gn4, gn5, gp0, gno, gpo] <;> first | rfl | assumption | exact gp0 _ _ _ | exact gn0 _ _)) (by first | rfl | assumption)) ?_
  refine OkO.nil ⟨rfl, ?_⟩
  refine OkP.step ?_
  refine OkO.load rfl rfl (ldg (n := 6) (by kernel_rfl) (by first | assumption | (simp (disch := first | omega | (simp only [hNw, hPt]; omega)) only [gn0, gn1, gn2, gn3, gn4, gn5, gp0, gno, gpo] <;> first | rfl | assumption | exact gp0 _ _ _ | exact gn0 _ _)) (by first | rfl | assumption)) ?_
  refine OkO.nil ⟨rfl, ?_⟩
  refine OkP.step ?_
  refine OkO.move rfl rfl ?_
  refine OkO.nil ⟨rfl, ?_⟩
  refine OkP.step ?_
  refine OkO.move rfl rfl ?_
  refine OkO.nil ⟨rfl, ?_⟩
  refine OkP.step ?_
  refine OkO.buildArr (z := [.int .i64 0, .int .i64 0]) (sz := 1) rfl (by kernel_rfl) rfl rfl ?_
  refine OkO.nil ⟨rfl, ?_⟩
  refine OkP.step ?_
  refine OkO.alloc (z := [.int .i64 0, .int .i64 0]) rfl (by kernel_rfl) ?_
  refine OkO.nil ⟨(sco (sld rfl rfl (ldg (n := 6) (by kernel_rfl) (by first | assumption | (simp (disch := first | omega | (simp only [hNw, hPt]; omega)) only [gn0, gn1, gn2, gn3, gn4, gn5, gp0, gno, gpo] <;> first | rfl | assumption | exact gp0 _ _ _ | exact gn0 _ _)) (by first | rfl | assumption)) rfl (eqr _ (by first | rfl | exact lpl (by assumption) | (simp [AV.plain, AV.plains, AV.cells, pev, Pst.c])))) (sco (sld rfl rfl (ldg (n := 2) (by kernel_rfl) (by first | assumption | (simp (disch := first | omega | (simp only [hNw, hPt]; omega)) only [gn0, gn1, gn2, gn3, gn4, gn5, gp0, gno, gpo] <;> first | rfl | assumption | exact gp0 _ _ _ | exact gn0 _ _)) (by first | rfl | assumption)) rfl (eqr _ (by first | rfl | exact lpl (by assumption) | (simp [AV.plain, AV.plains, AV.cells, pev, Pst.c])))) (sco (sld rfl rfl (lda (n := 1) (by kernel_rfl) (by first | assumption | (simp (disch := first | omega | (simp only [hNw, hPt]; omega)) only [gn0, gn1, gn2, gn3, gn4, gn5, gp0, gno, gpo] <;> first | rfl | assumption | exact gp0 _ _ _ | exact gn0 _ _)) (by first | rfl | assumption)) rfl (eqr _ (by first | rfl | exact lpl (by assumption) | (simp [AV.plain, AV.plains, AV.cells, pev, Pst.c])))) rfl))), ?_⟩
  refine OkP.step ?_
  refine OkO.callV rfl rfl rfl rfl rfl (c94 (m + 1) ev p (s0, s0) _ (by dsimp only; omega) ⟨hpg, hpd⟩) ?_ -- "(sackung/alarm.Post).before"
  refine OkO.nil ⟨(sco (sld rfl rfl (ldg (n := 2) (by kernel_rfl) (by first | assumption | (simp (disch := first | omega | (simp only [hNw, hPt]; omega)) only [gn0, gn1, gn2, gn3, gn4, gn5, gp0, gno, gpo] <;> first | rfl | assumption | exact gp0 _ _ _ | exact gn0 _ _)) (by first | rfl | assumption)) rfl (eqr _ (by first | rfl | exact lpl (by assumption) | (simp [AV.plain, AV.plains, AV.cells, pev, Pst.c])))) (sco (sld rfl rfl (lda (n := 1) (by kernel_rfl) (by first | assumption | (simp (disch := first | omega | (simp only [hNw, hPt]; omega)) only [gn0, gn1, gn2, gn3, gn4, gn5, gp0, gno, gpo] <;> first | rfl | assumption | exact gp0 _ _ _ | exact gn0 _ _)) (by first | rfl | assumption)) rfl (eqr _ (by first | rfl | exact lpl (by assumption) | (simp [AV.plain, AV.plains, AV.cells, pev, Pst.c])))) rfl)), ?_⟩
  refine OkP.step ?_
  refine OkO.callV rfl rfl rfl rfl rfl (c93 (m + 0) (may[k]'(by omega)) (beforeI p (s0, s0)) _) ?_ -- "(sackung/alarm.ends).meet"
  refine OkO.nil ⟨(sco (sld rfl rfl (ldg (n := 6) (by kernel_rfl) (by first | assumption | (simp (disch := first | omega | (simp only [hNw, hPt]; omega)) only [gn0, gn1, gn2, gn3, gn4, gn5, gp0, gno, gpo] <;> first | rfl | assumption | exact gp0 _ _ _ | exact gn0 _ _)) (by first | rfl | assumption)) rfl (eqr _ (by first | rfl | exact lpl (by assumption) | (simp [AV.plain, AV.plains, AV.cells, pev, Pst.c])))) (sco (sld rfl rfl (lda (n := 1) (by kernel_rfl) (by first | assumption | (simp (disch := first | omega | (simp only [hNw, hPt]; omega)) only [gn0, gn1, gn2, gn3, gn4, gn5, gp0, gno, gpo] <;> first | rfl | assumption | exact gp0 _ _ _ | exact gn0 _ _)) (by first | rfl | assumption)) rfl (eqr _ (by first | rfl | exact lpl (by assumption) | (simp [AV.plain, AV.plains, AV.cells, pev, Pst.c])))) rfl)), ?_⟩
  refine OkP.step ?_
  refine OkO.store rfl rfl rfl (sAc (n := 2) (ag := true) (by kernel_rfl) (by first | assumption | (simp (disch := first | omega | (simp only [hNw, hPt]; omega)) only [gn0, gn1, gn2, gn3, gn4, gn5, gp0, gno, gpo] <;> first | rfl | assumption | exact gp0 _ _ _ | exact gn0 _ _)) rfl (by first | rfl | assumption) (by first | rfl | exact spl_set _ _ _ (by first | assumption | omega | (simp; omega)))) ?_
  refine OkO.nil ⟨rfl, ?_⟩
  refine OkP.nil ?_
  refine Ok.seq ?_
  refine Ok.region ?_
  refine OkO.load rfl rfl (lda (n := 1) (by kernel_rfl) (by first | assumption | (simp (disch := first | omega | (simp only [hNw, hPt]; omega)) only [gn0, gn1, gn2, gn3, gn4, gn5, gp0, gno, gpo] <;> first | rfl | assumption | exact gp0 _ _ _ | exact gn0 _ _)) (by first | rfl | assumption)) ?_
  refine OkO.move rfl rfl ?_
  refine OkO.bin rfl rfl rfl (bin_sub (by omega) (by omega)) ?_
  refine OkO.indexArr (len := 2) (sz := 1) (n := 0) rfl rfl rfl (by kernel_rfl) (by omega) ?_
  refine OkO.load rfl rfl (lda (n := 1) (by kernel_rfl) (by first | assumption | (simp (disch := first | omega | (simp only [hNw, hPt]; omega)) only [gn0, gn1, gn2, gn3, gn4, gn5, gp0, gno, gpo] <;> first | rfl | assumption | exact gp0 _ _ _ | exact gn0 _ _)) (by first | rfl | assumption)) ?_
  refine OkO.callE rfl rfl rfl rfl rfl ((hrec _ (meetI (may[k]'(by omega)) (beforeI p (s0, s0))).1 (((k + 1 : Nat) : Int) - 1) (by omega) ⟨by first | assumption | (simp (disch := first | omega | (simp only [hNw, hPt]; omega)) only [gn0, gn1, gn2, gn3, gn4, gn5, gp0, gno, gpo] <;> first | rfl | assumption | exact gp0 _ _ _ | exact gn0 _ _), by first | assumption | (simp (disch := first | omega | (simp only [hNw, hPt]; omega)) only [gn0, gn1, gn2, gn3, gn4, gn5, gp0, gno, gpo] <;> first | rfl | assumption | exact gp0 _ _ _ | exact gn0 _ _), by first | assumption | (simp (disch := first | omega | (simp only [hNw, hPt]; omega)) only [gn0, gn1, gn2, gn3, gn4, gn5, gp0, gno, gpo] <;> first | rfl | assumption | exact gp0 _ _ _ | exact gn0 _ _), by simp only [hNw, hPt]; omega, by simp only [hNw, hPt]; omega, by simp only [hNw, hPt]; omega, cm.to (hE _ (by (try dsimp only); repeat (first | exact hG | apply Grow.new | (refine Grow.put ?_ _ (by first | omega | (simp only [hNw, hPt]; omega))))))⟩ (by have h9 := meet_bd (hmb _ (List.getElem_mem (l := may) (n := k) (by omega))) (beforeI p (s0, s0)); unfold Bd at h9; omega))) ?_ -- ('Go.Operand.tmp', 24)
  rintro vr H92 ⟨q92, l92⟩
  have g92 : Grow W H92 := Grow.ret (by (try dsimp only); repeat (first | exact hG | apply Grow.new | (refine Grow.put ?_ _ (by first | omega | (simp only [hNw, hPt]; omega))))) q92
  have n92 := q92.ext.next
  simp only [hNw, hPt] at n92
  refine OkO.move rfl rfl ?_
  refine OkO.buildSlice (el := 3) (sz := 1) (z := [.int .i64 0]) rfl (by kernel_rfl) (by decide) rfl rfl ?_
  refine OkO.builtinE rfl rfl rfl (Lst.app (W := W) (k0 := W.next) ((l92.low (by first | omega | (simp only [hNw, hPt]; omega))).to (by repeat (first | exact Ext.refl _ | apply Ext.new))) (by repeat (first | exact g92 | apply Grow.new)) (Nat.le_refl _) (by simp only [hNw]; omega) (elems_new (n := 1) (sz := 1) rfl) rfl (by rw [backL_len]; omega)) ?_
  rintro v2 G2 ⟨r2, r3, r4⟩
  refine OkO.assign rfl rfl ?_
  refine OkO.nil ?_
  refine Ok.ret ⟨.inr rfl, ?_⟩
  have e9 : backL p may (k + 1) s0 = backL p may k (meetI (may[k]'(by omega)) (beforeI p (s0, s0))).1 ++ [s0] := by show backL p may k (meetI (may.getD k nul) (beforeI p (s0, s0))).1 ++ [s0] = _; rw [show may.getD k nul = may[k]'(by omega) from by simp [List.getD, show k < may.length by omega]]
  rw [← e9] at r2
  refine back_newQ rfl rfl (by rw [← hW]; exact r3) r2.flat (fun H9 p1 p2 p3 => ⟨p1, (r2.low (by omega)).to ⟨Nat.le_of_eq p3.symm, fun n _ => p2 n⟩⟩)
end
end Go.Ev

set_option maxRecDepth 100000
set_option linter.unusedSimpArgs false
set_option linter.unusedVariables false
namespace Go.Ev
open Go Go.Proofs
noncomputable section
theorem c92 (ev mv : AV) (p : Pst) (may : List Iv) (b5 b4 b9 : Nat) (hel : ∃ q, lenOf ev = some q) (hmb : ∀ x ∈ may, Bd x) (hml : may.length ≤ 900) (hpg : 0 ≤ p.gain ∧ p.gain ≤ 200) (hpd : 0 ≤ p.drop ∧ p.drop ≤ 200) :
    ∀ (k m : Nat) (z : Int) (H : Heap) (s0 : Int), z = (k : Int) → k < may.length → ((H.get b5).bind AObj.cs = some [mv] ∧ (H.get b4).bind AObj.cs = some (p.c ev) ∧ (H.get b9).bind AObj.cs = some [.fn 92 [] [.ptr b5 0, .ptr b4 0, .ptr b9 0]] ∧ b5 < H.next ∧ b4 < H.next ∧ b9 < H.next ∧ Mine 0 H mv 125 2 (ivCells may)) → 0 ≤ s0 ∧ s0 ≤ 1000 → ∃ v H', RR (m + 3 + k) (.fn 92 [I z, I s0, .ptr b5 0, .ptr b4 0, .ptr b9 0]) H = some (v, H') ∧ Ret H H' ∧ Lst H.next H' v (backL p may k s0)
  | 0, m, z, H, s0, hz, _, hC, _ => by
    subst hz
    exact c92B (m + 2) ev mv p may b5 b4 b9 s0 H hC hel hmb hpg hpd
  | k + 1, m, z, H, s0, hz, hk, hC, hs => by
    subst hz
    have e : m + 3 + (k + 1) = m + 1 + k + 3 := by omega
    rw [e]
    refine c92S (m + 1 + k) ev mv p may b5 b4 b9 s0 k H hC hel hmb hpg hpd hk hml hs (fun G s z hz hCG hsb => ?_)
    have h9 := c92 ev mv p may b5 b4 b9 hel hmb hml hpg hpd k m z G s hz (by omega) hCG hsb
    rw [show m + 3 + k = m + 1 + k + 2 from by omega] at h9
    exact h9
theorem c73 (m : Nat) (ev mv : AV) (p : Pst) (may : List Iv) (hr : Nat) (s0 : Int) (H : Heap) (hel : ∃ q, lenOf ev = some q) (hmb : ∀ x ∈ may, Bd x) (hml : may.length ≤ 900) (hpg : 0 ≤ p.gain ∧ p.gain ≤ 200) (hpd : 0 ≤ p.drop ∧ p.drop ≤ 200) (cm : Mine 0 H mv 125 2 (ivCells may)) (hhr : hr < may.length) (hs : 0 ≤ s0 ∧ s0 ≤ 1000) : ∃ v H', RR (m + 3 + hr + 1) (.fn 73 [.agg (p.c ev), mv, I (hr : Int), I s0]) H = some (v, H') ∧ Ret H H' ∧ Lst H.next H' v (backL p may hr s0) := by
  show ∃ v H', evFn Try.prog (RR (m + 3 + hr)) 73 [.agg (p.c ev), mv, I (hr : Int), I s0] H = some (v, H') ∧ Ret H H' ∧ Lst H.next H' v (backL p may hr s0)
  refine fn_okE Try.func73 rfl rfl (by kernel_rfl) (by kernel_rfl) ?_
  obtain ⟨W, hW⟩ : ∃ W : Heap, W = ⟨H.t, H.next, H.next⟩ := ⟨_, rfl⟩
  have hg : ∀ n, W.get n = H.get n := fun n => by rw [hW]; rfl
  have hN : W.next = H.next := by rw [hW]
  have hE : ∀ G, Grow W G → Ext H G := fun G g => ⟨by rw [← hN]; exact g.next, fun n k => by rw [g.get n (by rw [hN]; exact k), hg]⟩
  have hG : Grow W W := Grow.refl (by rw [hW]; exact Nat.le_refl _)
  rw [← hW]
  have pev : ev.plain = true := by obtain ⟨q, hq⟩ := hel; exact lpl hq
  obtain ⟨mz, hmz, _⟩ := cm.len
  have hmo := len_one hmz
  refine Ok.seq ?_
  refine Ok.region ?_
  refine OkO.box rfl rfl ?_
  refine OkO.box rfl rfl ?_
  refine OkO.assign rfl rfl ?_
  refine OkO.nil ?_
  refine Ok.seq ?_
  refine Ok.region ?_
  refine OkO.alloc (z := [.nilf]) rfl (by kernel_rfl) ?_
  refine OkO.nil ?_
  refine Ok.seq ?_
  refine Ok.region ?_
  refine OkO.makeFunc rfl rfl rfl ?_
  refine OkO.store rfl rfl rfl (sAc (n := 1) (ag := false) (by kernel_rfl) (by first | assumption | (simp (disch := first | omega | (simp only [hNw, hPt]; omega)) only [gn0, gn1, gn2, gn3, gn4, gn5, gp0, gno, gpo] <;> first | rfl | assumption | exact gp0 _ _ _ | exact gn0 _ _)) rfl (by first | rfl | assumption) (by first | rfl | exact spl_set _ _ _ (by first | assumption | omega | (simp; omega)))) ?_
  refine OkO.nil ?_
  refine Ok.seq ?_
  refine Ok.region ?_
  refine OkO.load rfl rfl (lda (n := 1) (by kernel_rfl) (by first | assumption | (simp (disch := first | omega | (simp only [hNw, hPt]; omega)) only [gn0, gn1, gn2, gn3, gn4, gn5, gp0, gno, gpo] <;> first | rfl | assumption | exact gp0 _ _ _ | exact gn0 _ _)) (by first | rfl | assumption)) ?_
  refine OkO.move rfl rfl ?_
  refine OkO.move rfl rfl ?_
  refine OkO.callE rfl rfl rfl rfl rfl (c92 ev mv p may (W.next + 1) W.next (W.next + 2) hel hmb hml hpg hpd hr m (hr : Int) _ s0 rfl hhr ⟨by (simp (disch := first | omega | (simp only [hNw, hPt]; omega)) only [gn0, gn1, gp0, gno, gpo]); (show some mv.cells = some [mv]; rw [hmo.1]), by first | assumption | (simp (disch := first | omega | (simp only [hNw, hPt]; omega)) only [gn0, gn1, gn2, gn3, gn4, gn5, gp0, gno, gpo] <;> first | rfl | assumption | exact gp0 _ _ _ | exact gn0 _ _), by (rw [get_put_eq _ _ _ _ (by simp only [hNw])]; rfl), by simp only [hNw, hPt]; omega, by simp only [hNw, hPt]; omega, by simp only [hNw, hPt]; omega, cm.to (hE _ (by (try dsimp only); repeat (first | exact hG | apply Grow.new | (refine Grow.put ?_ _ (by first | omega | (simp only [hNw, hPt]; omega))))))⟩ hs) ?_ -- ('Go.Operand.tmp', 11)
  rintro vr H92 ⟨q92, l92⟩
  have g92 : Grow W H92 := Grow.ret (by (try dsimp only); repeat (first | exact hG | apply Grow.new | (refine Grow.put ?_ _ (by first | omega | (simp only [hNw, hPt]; omega))))) q92
  have n92 := q92.ext.next
  simp only [hNw, hPt] at n92 l92
  refine OkO.assign rfl rfl ?_
  refine OkO.nil ?_
  refine Ok.ret ⟨.inr rfl, ?_⟩
  refine back_newQ rfl rfl (by rw [← hW]; exact g92) l92.flat (fun H9 p1 p2 p3 => ⟨p1, (l92.low (by omega)).to ⟨Nat.le_of_eq p3.symm, fun n _ => p2 n⟩⟩)
end
end Go.Ev

set_option maxRecDepth 100000
set_option linter.unusedSimpArgs false
set_option linter.unusedVariables false
namespace Go.Ev
open Go Go.Proofs
noncomputable section
/-- A truth with this speed in this hour is possible with a gauge. -/
def HitP (p : Pst) (rows : List (List Int)) (hr : Nat) (s0 : Int) (j : Nat) : Prop := hr + 1 ≤ lenM p rows j ∧ inI s0 ((mayL p ((j : Int) - 1) rows).getD hr nul)
noncomputable def as35 : Code := match Try.f35.body.bind rangeOf with | some r => r.1 | none => .skip
noncomputable def bd35 : Code := match Try.f35.body.bind rangeOf with | some r => r.2 | none => .skip
theorem may_Bd {p : Pst} {f : Int} {rows : List (List Int)} : ∀ x ∈ mayL p f rows, Bd x := fun x hx => by
  obtain ⟨i, hi, rfl⟩ := List.getElem_of_mem hx
  have := may_bd hi
  unfold Bd
  omega
theorem r35 (m hr i : Nat) (ev : AV) (p : Pst) (rows : List (List Int)) (s0 : Int) (x : AV) (T0 : Tr AV) (W X G : Heap) (hH : Has 6 [(4, .ptr W.next 0), (6, .ptr (W.next + 1) 0), (7, .ptr (W.next + 2) 0), (8, .ptr (W.next + 3) 0), (9, .ptr (W.next + 4) 0), (10, .ptr (W.next + 5) 0)] T0) (hJ : (fun i G => RngJ X [] .ready none [37, 38] as35 bd35 T0 G ∧ ∀ j, j < i → ¬ HitP p rows hr s0 j) i G) (gX : Grow W X) (hN : W.next + 6 ≤ X.next) (xd : X.get (W.next) = some (.cells (p.c ev) 30)) (xh : X.get (W.next + 1) = some (.cells [I (hr : Int)] 3)) (xs : X.get (W.next + 2) = some (.cells [I s0] 3)) (x8 : X.get (W.next + 3) = some (.cells [I 0] 3)) (x9 : X.get (W.next + 4) = some (.cells [.nils] 22)) (x10 : X.get (W.next + 5) = some (.cells [I 0] 28)) (hx : Mine 0 X x 125 2 (ivCells (mayL p ((i : Int) - 1) rows))) (hi : i ≤ p.errs.length) (hel : ∃ q, lenOf ev = some q) (hs : 0 ≤ s0 ∧ s0 ≤ 1000) (hpg : 0 ≤ p.gain ∧ p.gain ≤ 200) (hpd : 0 ≤ p.drop ∧ p.drop ≤ 200) (hrl : rows.length ≤ 900) (hr9 : hr + 1 ≤ lenM p rows i) (hlo : W.next ≤ G.lo) :
    ∃ v H', RR (m + 5 + hr) (.round (X.next + 1) [I ((i : Int) - 1), x]) G = some (v, H') ∧ (∃ b, v = .bool b ∧ ((b = true ∧ (fun i G => RngJ X [] .ready none [37, 38] as35 bd35 T0 G ∧ ∀ j, j < i → ¬ HitP p rows hr s0 j) (i + 1) H') ∨ (b = false ∧ (fun G => RngJ X [W.next + 3, W.next + 4, W.next + 5] .done (some .ret) [37, 38] as35 bd35 T0 G ∧ ∃ (i : Nat) (lv : AV), i ≤ p.errs.length ∧ HitP p rows hr s0 i ∧ (∀ j, j < i → ¬ HitP p rows hr s0 j) ∧ G.get (W.next + 3) = some (.cells [I ((i : Int) - 1)] 3) ∧ G.get (W.next + 4) = some (.cells [lv] 22) ∧ G.get (W.next + 5) = some (.cells [I 0] 28) ∧ Lst (X.next + 2) G lv (backL p (mayL p ((i : Int) - 1) rows) hr s0)) H'))) ∧ W.next ≤ H'.lo ∧ H'.lo ≤ X.next + 1 ∧ G.next ≤ H'.next := by
  rw [show m + 5 + hr = m + 3 + hr + 1 + 1 from by omega]
  show ∃ v H', evRound Try.prog (RR (m + 3 + hr + 1)) (X.next + 1) [I ((i : Int) - 1), x] G = some (v, H') ∧ (∃ b, v = .bool b ∧ ((b = true ∧ (fun i G => RngJ X [] .ready none [37, 38] as35 bd35 T0 G ∧ ∀ j, j < i → ¬ HitP p rows hr s0 j) (i + 1) H') ∨ (b = false ∧ (fun G => RngJ X [W.next + 3, W.next + 4, W.next + 5] .done (some .ret) [37, 38] as35 bd35 T0 G ∧ ∃ (i : Nat) (lv : AV), i ≤ p.errs.length ∧ HitP p rows hr s0 i ∧ (∀ j, j < i → ¬ HitP p rows hr s0 j) ∧ G.get (W.next + 3) = some (.cells [I ((i : Int) - 1)] 3) ∧ G.get (W.next + 4) = some (.cells [lv] 22) ∧ G.get (W.next + 5) = some (.cells [I 0] 28) ∧ Lst (X.next + 2) G lv (backL p (mayL p ((i : Int) - 1) rows) hr s0)) H'))) ∧ W.next ≤ H'.lo ∧ H'.lo ≤ X.next + 1 ∧ G.next ≤ H'.next
  obtain ⟨fr, hT⟩ := hH
  obtain ⟨hj, hall⟩ := hJ
  have hh : hr < (mayL p ((i : Int) - 1) rows).length := hr9
  have pev : ev.plain = true := by obtain ⟨q, hq⟩ := hel; exact lpl hq
  subst hT
  have hnx := hj.nx
  refine round_okR hj.b1 rfl ?_
  refine Ok.seq ?_
  refine Ok.region ?_
  refine OkO.assign rfl rfl ?_
  refine OkO.nil ?_
  refine Ok.region ?_
  refine OkO.assign rfl rfl ?_
  refine OkO.nil ?_
  refine ⟨rfl, _, _, _, _, _, _, hj.b1, ?_⟩
  obtain ⟨G1, hG1⟩ : ∃ G1, G1 = G.put (X.next + 1) (.loop .busy none (mkT 6 0 1 (upd fr [(4, .ptr W.next 0), (6, .ptr (W.next + 1) 0), (7, .ptr (W.next + 2) 0), (8, .ptr (W.next + 3) 0), (9, .ptr (W.next + 4) 0), (10, .ptr (W.next + 5) 0)])) [37, 38] as35 bd35 X.next) := ⟨_, rfl⟩
  rw [← hG1]
  have hj1 : RngJ X [] .busy none [37, 38] as35 bd35 (mkT 6 0 1 (upd fr [(4, .ptr W.next 0), (6, .ptr (W.next + 1) 0), (7, .ptr (W.next + 2) 0), (8, .ptr (W.next + 3) 0), (9, .ptr (W.next + 4) 0), (10, .ptr (W.next + 5) 0)])) G1 := by rw [hG1]; exact hj.turn
  have n1 : G1.next = G.next := by rw [hG1]; simp
  have hn1 := hj1.nx
  have gxd : G1.get (W.next) = some (.cells (p.c ev) 30) := by rw [hj1.get _ (by omega) (by simp)]; exact xd
  have bxd : (G1.get (W.next)).bind AObj.cs = some (p.c ev) := by rw [gxd]; rfl
  have gxh : G1.get (W.next + 1) = some (.cells [I (hr : Int)] 3) := by rw [hj1.get _ (by omega) (by simp)]; exact xh
  have bxh : (G1.get (W.next + 1)).bind AObj.cs = some ([I (hr : Int)]) := by rw [gxh]; rfl
  have gxs : G1.get (W.next + 2) = some (.cells [I s0] 3) := by rw [hj1.get _ (by omega) (by simp)]; exact xs
  have bxs : (G1.get (W.next + 2)).bind AObj.cs = some ([I s0]) := by rw [gxs]; rfl
  have gx8 : G1.get (W.next + 3) = some (.cells [I 0] 3) := by rw [hj1.get _ (by omega) (by simp)]; exact x8
  have gx9 : G1.get (W.next + 4) = some (.cells [.nils] 22) := by rw [hj1.get _ (by omega) (by simp)]; exact x9
  have gx10 : G1.get (W.next + 5) = some (.cells [I 0] 28) := by rw [hj1.get _ (by omega) (by simp)]; exact x10
  obtain ⟨xb, xo, xcs, i1, i2x, i3, i4, i5, i6⟩ := ivs_at hx (i := hr) hh
  have i2 : (G1.get xb).bind AObj.cs = some xcs := by rw [hj1.get _ i6 (by simp)]; exact i2x
  have hx1 := hj1.mine hx (fun j hj m => by simp at hj)
  have hlo1 : W.next ≤ G1.lo := by rw [hG1, Heap.lo_put]; omega
  have gW : Grow W G1 := hj1.grow gX (fun j hj => by simp at hj) hlo1
  have hyd : (mayL p ((i : Int) - 1) rows).getD hr nul = (mayL p ((i : Int) - 1) rows)[hr] := by simp [List.getD, hh]
  obtain ⟨mx, hmx, _⟩ := hx.len
  refine Ok.block ?_
  refine Ok.seq ?_
  refine Ok.drawn [(0, true, []), (1, true, []), (2, true, []), (3, true, []), (4, true, []), (5, false, [1])] (by kernel_rfl) ?_
  refine OkP.step ?_
  refine OkO.move rfl rfl ?_
  refine OkO.nil ⟨rfl, ?_⟩
  refine OkP.step ?_
  refine OkO.load rfl rfl (lda (n := 1) (by kernel_rfl) (by first | assumption | (simp (disch := first | omega | (simp only [hNw, hPt]; omega)) only [gn0, gn1, gn2, gn3, gn4, gn5, gp0, gno, gpo] <;> first | rfl | assumption | exact gp0 _ _ _ | exact gn0 _ _)) (by first | rfl | assumption)) ?_
  refine OkO.nil ⟨rfl, ?_⟩
  refine OkP.step ?_
  refine OkO.index (sz := 2) (n := hr) rfl rfl rfl (by kernel_rfl) (by first | assumption | rfl | exact slAt_slice (by omega) | exact slAt_opn (by omega)) ?_ -- index ('Go.Operand.tmp', 39) ('Go.Operand.tmp', 40)
  refine OkO.nil ⟨rfl, ?_⟩
  refine OkP.step ?_
  refine OkO.load rfl rfl (ldg (n := 2) (by kernel_rfl) (by first | assumption | (simp (disch := first | omega | (simp only [hNw, hPt]; omega)) only [gn0, gn1, gn2, gn3, gn4, gn5, gp0, gno, gpo] <;> first | rfl | assumption | exact gp0 _ _ _ | exact gn0 _ _)) (by first | rfl | assumption)) ?_
  refine OkO.nil ⟨rfl, ?_⟩
  refine OkP.step ?_
  refine OkO.load rfl rfl (lda (n := 1) (by kernel_rfl) (by first | assumption | (simp (disch := first | omega | (simp only [hNw, hPt]; omega)) only [gn0, gn1, gn2, gn3, gn4, gn5, gp0, gno, gpo] <;> first | rfl | assumption | exact gp0 _ _ _ | exact gn0 _ _)) (by first | rfl | assumption)) ?_
  refine OkO.nil ⟨rfl, ?_⟩
  refine OkP.step ?_
  refine OkO.callV rfl rfl rfl rfl rfl (c68 (m + 3 + hr) _ _ _ _) ?_ -- "(sackung/alarm.ends).has"
  refine OkO.nil ⟨(sco (sld rfl rfl (lda (n := 1) (by kernel_rfl) (by first | assumption | (simp (disch := first | omega | (simp only [hNw, hPt]; omega)) only [gn0, gn1, gn2, gn3, gn4, gn5, gp0, gno, gpo] <;> first | rfl | assumption | exact gp0 _ _ _ | exact gn0 _ _)) (by first | rfl | assumption)) rfl (eqr _ (by first | rfl | exact lpl (by assumption) | (simp [AV.plain, AV.plains, AV.cells, pev, Pst.c])))) rfl), ?_⟩
  refine OkP.nil ?_
  refine Ok.cond rfl (fun h1 => ?_) (fun h1 => ?_)
  · -- yes h1
    have hin : inI s0 (mayL p ((i : Int) - 1) rows)[hr] := by (have h9 : inB s0 (mayL p ((i : Int) - 1) rows)[hr].1 (mayL p ((i : Int) - 1) rows)[hr].2 = true := h1); simpa [inB, inI] using h9
    refine Ok.seq ?_
    refine Ok.region ?_
    refine OkO.move rfl rfl ?_
    refine OkO.load rfl rfl (ldg (n := 6) (by kernel_rfl) (by first | assumption | (simp (disch := first | omega | (simp only [hNw, hPt]; omega)) only [gn0, gn1, gn2, gn3, gn4, gn5, gp0, gno, gpo] <;> first | rfl | assumption | exact gp0 _ _ _ | exact gn0 _ _)) (by first | rfl | assumption)) ?_
    refine OkO.move rfl rfl ?_
    refine OkO.load rfl rfl (lda (n := 1) (by kernel_rfl) (by first | assumption | (simp (disch := first | omega | (simp only [hNw, hPt]; omega)) only [gn0, gn1, gn2, gn3, gn4, gn5, gp0, gno, gpo] <;> first | rfl | assumption | exact gp0 _ _ _ | exact gn0 _ _)) (by first | rfl | assumption)) ?_
    refine OkO.load rfl rfl (lda (n := 1) (by kernel_rfl) (by first | assumption | (simp (disch := first | omega | (simp only [hNw, hPt]; omega)) only [gn0, gn1, gn2, gn3, gn4, gn5, gp0, gno, gpo] <;> first | rfl | assumption | exact gp0 _ _ _ | exact gn0 _ _)) (by first | rfl | assumption)) ?_
    refine OkO.callE rfl rfl rfl rfl rfl (c73 m ev x p (mayL p ((i : Int) - 1) rows) hr s0 _ hel may_Bd (by have h9 := may_len_le p ((i : Int) - 1) rows (0, 1000); (have h8 : (mayL p ((i : Int) - 1) rows).length ≤ rows.length := h9); omega) hpg hpd hx1 hh hs) ?_ -- "(sackung/alarm.Post).back"
    rintro lv H73 ⟨q73, l73⟩
    have n73 := q73.ext.next
    have g73 : Grow W H73 := Grow.ret gW q73
    have lvo := len_one l73.len
    skip
    have kxd : H73.get (W.next) = some (.cells (p.c ev) 30) := by rw [q73.ext.get _ (by omega)]; exact gxd
    have kxh : H73.get (W.next + 1) = some (.cells [I (hr : Int)] 3) := by rw [q73.ext.get _ (by omega)]; exact gxh
    have kxs : H73.get (W.next + 2) = some (.cells [I s0] 3) := by rw [q73.ext.get _ (by omega)]; exact gxs
    have kx8 : H73.get (W.next + 3) = some (.cells [I 0] 3) := by rw [q73.ext.get _ (by omega)]; exact gx8
    have kx9 : H73.get (W.next + 4) = some (.cells [.nils] 22) := by rw [q73.ext.get _ (by omega)]; exact gx9
    have kx10 : H73.get (W.next + 5) = some (.cells [I 0] 28) := by rw [q73.ext.get _ (by omega)]; exact gx10
    refine OkO.store rfl rfl rfl (sAc (n := 1) (ag := false) (by kernel_rfl) (by first | assumption | (simp (disch := first | omega | (simp only [hNw, hPt]; omega)) only [gn0, gn1, gn2, gn3, gn4, gn5, gp0, gno, gpo] <;> first | rfl | assumption | exact gp0 _ _ _ | exact gn0 _ _)) rfl (by first | rfl | assumption) (by first | rfl | exact spl_set _ _ _ (by first | assumption | omega | (simp; omega)))) ?_
    refine OkO.store rfl rfl rfl (sAc (n := 1) (ag := false) (l := [lv]) (by kernel_rfl) (by first | assumption | (rw [gpo _ _ _ _ (by omega)]; exact kx9)) (by rw [lvo.1]; rfl) (by rw [lvo.1]; simp [atoms, lvo.2]) (by rw [lvo.1]; rfl)) ?_
    refine OkO.store rfl rfl rfl (sAc (n := 1) (ag := false) (by kernel_rfl) (by first | assumption | (simp (disch := first | omega | (simp only [hNw, hPt]; omega)) only [gn0, gn1, gn2, gn3, gn4, gn5, gp0, gno, gpo] <;> first | rfl | assumption | exact gp0 _ _ _ | exact gn0 _ _)) rfl (by first | rfl | assumption) (by first | rfl | exact spl_set _ _ _ (by first | assumption | omega | (simp; omega)))) ?_
    refine OkO.nil ?_
    refine Ok.ret ?_
    have qq : ∀ j, j ≠ W.next + 3 → j ≠ W.next + 4 → j ≠ W.next + 5 → (((H73.put (W.next + 3) (.cells [I ((i : Int) - 1)] 3)).put (W.next + 4) (.cells [lv] 22)).put (W.next + 5) (.cells [I 0] 28)).get j = H73.get j := fun j a c d => by rw [gpo _ _ _ _ d, gpo _ _ _ _ c, gpo _ _ _ _ a]
    have qb1 := (qq (X.next + 1) (by omega) (by omega) (by omega)).trans ((q73.ext.get _ (by omega)).trans hj1.b1)
    refine ⟨_, _, _, _, _, _, _, qb1, .inr (.inr ⟨rfl, ⟨false, rfl, .inr ⟨rfl, ⟨?_, fun j a c => ?_, ?_, gp0 _ _ _⟩, i, lv, hi, ⟨hr9, by rw [hyd]; exact hin⟩, hall, ?_, ?_, ?_, ?_⟩⟩, ?_, ?_, ?_⟩)⟩
    · simp only [hPt]; omega
    · simp only [List.mem_cons, List.mem_nil_iff, or_false, not_or] at c; exact (gpo _ _ _ _ (by omega)).trans ((qq j c.1 c.2.1 c.2.2).trans ((q73.ext.get _ (by omega)).trans (hj1.get j a (by simp))))
    · exact (gpo _ _ _ _ (by omega)).trans ((qq _ (by omega) (by omega) (by omega)).trans ((q73.ext.get _ (by omega)).trans hj1.b0))
    · rw [gpo _ _ _ _ (by omega), gpo _ _ _ _ (by omega), gpo _ _ _ _ (by omega)]; exact gp0 _ _ _
    · rw [gpo _ _ _ _ (by omega), gpo _ _ _ _ (by omega)]; exact gp0 _ _ _
    · rw [gpo _ _ _ _ (by omega)]; exact gp0 _ _ _
    · exact ((((l73.low (by omega)).put _ (by omega)).put _ (by omega)).put _ (by omega)).put _ (by omega)
    · simp only [Heap.lo_put]; have := g73.lo; omega
    · simp only [Heap.lo_put]; omega
    · simp only [hPt]; omega
  · -- no h1
    refine Ok.skip ?_
    refine ⟨_, _, _, _, _, _, _, hj1.b1, .inl ⟨rfl, ⟨true, rfl, .inl ⟨rfl, hj1.turn, fun j hj => ?_⟩⟩, ?_, ?_, ?_⟩⟩
    · by_cases e : j = i
      · subst e; exact fun hc => by (have h9 := hc.2); rw [hyd] at h9; (have h8 : inB s0 (mayL p ((j : Int) - 1) rows)[hr].1 (mayL p ((j : Int) - 1) rows)[hr].2 = true := by simpa [inB, inI] using h9); rw [h8] at h1; cases h1
      · exact hall j (by omega)
    · simp only [Heap.lo_put]; omega
    · simp only [Heap.lo_put]; omega
    · simp only [hPt]; omega
end
end Go.Ev

set_option maxRecDepth 100000
set_option linter.unusedSimpArgs false
set_option linter.unusedVariables false
namespace Go.Ev
open Go Go.Proofs
noncomputable section
theorem flat_tup3 {a c d : AV} (h : (AV.tup [a, c, d]).flat = true) : c.flat = true := by
  have h1 : AV.flats [a, c, d] = true := h
  unfold AV.flats at h1
  cases ha : a.flat with
  | false => rw [ha] at h1; cases h1
  | true =>
    rw [ha] at h1
    have h2 : AV.flats [c, d] = true := h1
    unfold AV.flats at h2
    cases hc : c.flat with
    | false => rw [hc] at h2; cases h2
    | true => rfl
theorem c35R (m : Nat) (ev rv : AV) (p : Pst) (rows : List (List Int)) (z0 s0 : Int) (H : Heap) (hV : Ints H ev p.errs) (hRs : LstAt H rv rows) (hpl : p.errs.length ≤ 100000) (hrl : rows.length ≤ 100000) (hlens9 : ∀ r ∈ rows, r.length ≤ 100000) (hf : faultE p rows = 0) (hz : (inB z0 0 ((rows.length : Int) - 1) && inB s0 0 1000) = false) : RR (m + 80) (.fn 35 [.agg (p.c ev), rv, I z0, I s0]) H = some (.tup [I 0, .nils, I 2], H) := by
  refine (R_fn _ _ _ _ _).trans ?_
  refine fn_ok Try.func35 rfl rfl (by kernel_rfl) (by kernel_rfl) ?_
  obtain ⟨W, hW⟩ : ∃ W : Heap, W = ⟨H.t, H.next, H.next⟩ := ⟨_, rfl⟩
  have hg : ∀ n, W.get n = H.get n := fun n => by rw [hW]; rfl
  have hN : W.next = H.next := by rw [hW]
  have hE : ∀ G, Grow W G → Ext H G := fun G g => ⟨by rw [← hN]; exact g.next, fun n k => by rw [g.get n (by rw [hN]; exact k), hg]⟩
  have hG : Grow W W := Grow.refl (by rw [hW]; exact Nat.le_refl _)
  rw [← hW]
  have pev : ev.plain = true := lpl hV.len
  have hel := hV.len
  have hrlen := hRs.len
  have ats : ∀ mb, atoms [ev, I p.gain, I p.drop, I p.fall, I p.out, I p.ahead, .map mb] = true := fun mb => by rw [atoms, (len_one hel).2]; rfl
  refine Ok.seq ?_
  refine Ok.region ?_
  refine OkO.box rfl rfl ?_
  refine OkO.box rfl rfl ?_
  refine OkO.box rfl rfl ?_
  refine OkO.alloc (z := [.int .i64 0]) rfl (by kernel_rfl) ?_
  refine OkO.alloc (z := [.nils]) rfl (by kernel_rfl) ?_
  refine OkO.alloc (z := [.int .i64 0]) rfl (by kernel_rfl) ?_
  refine OkO.nil ?_
  refine Ok.seq ?_
  refine Ok.seq ?_
  refine Ok.region ?_
  refine OkO.load rfl rfl (ldg (n := 6) (by kernel_rfl) (by first | assumption | (simp (disch := first | omega | (simp only [hNw, hPt]; omega)) only [gn0, gn1, gn2, gn3, gn4, gn5, gp0, gno, gpo] <;> first | rfl | assumption | exact gp0 _ _ _ | exact gn0 _ _)) (by first | rfl | assumption)) ?_
  refine OkO.move rfl rfl ?_
  refine OkO.callV rfl rfl rfl rfl rfl ((c62 (m + 74) ev rv p rows _ (hV.ext (hE _ (by (try dsimp only); repeat (first | exact hG | apply Grow.new | (refine Grow.put ?_ _ (by first | omega | (simp only [hNw, hPt]; omega))))))) (hRs.ext (hE _ (by (try dsimp only); repeat (first | exact hG | apply Grow.new | (refine Grow.put ?_ _ (by first | omega | (simp only [hNw, hPt]; omega))))))) hpl hrl hlens9).trans (by rw [hf])) ?_ -- "sackung/alarm.checkReads"
  refine OkO.assign rfl rfl ?_
  refine OkO.nil ?_
  refine Ok.seq ?_
  refine Ok.region ?_
  refine OkO.move rfl rfl ?_
  refine OkO.bin rfl rfl rfl ((bin_neq _ _).trans (congrArg (fun b => some (AV.bool b)) (show _ = false from (by rfl)))) ?_
  refine OkO.nil ?_
  refine Ok.condF rfl ?_
  refine Ok.skip ?_
  refine Ok.seq ?_
  refine Ok.seq ?_
  refine Ok.drawn [(0, true, []), (2, true, []), (1, false, [2]), (3, false, []), (4, true, []), (5, true, []), (6, true, []), (7, true, []), (8, false, [2]), (9, true, []), (10, true, [])] (by kernel_rfl) ?_
  refine OkP.step ?_
  refine OkO.move rfl rfl ?_
  refine OkO.nil ⟨rfl, ?_⟩
  refine OkP.step ?_
  refine OkO.load rfl rfl (lda (n := 1) (by kernel_rfl) (by first | assumption | (simp (disch := first | omega | (simp only [hNw, hPt]; omega)) only [gn0, gn1, gn2, gn3, gn4, gn5, gp0, gno, gpo] <;> first | rfl | assumption | exact gp0 _ _ _ | exact gn0 _ _)) (by first | rfl | assumption)) ?_
  refine OkO.nil ⟨rfl, ?_⟩
  refine OkP.step ?_
  refine OkO.callV rfl rfl rfl rfl rfl (c72 (m + 78) rv rows _ hrlen hrl) ?_ -- "sackung/alarm.indexes[[]int]"
  refine OkO.nil ⟨(sco (sld rfl rfl (lda (n := 1) (by kernel_rfl) (by first | assumption | (simp (disch := first | omega | (simp only [hNw, hPt]; omega)) only [gn0, gn1, gn2, gn3, gn4, gn5, gp0, gno, gpo] <;> first | rfl | assumption | exact gp0 _ _ _ | exact gn0 _ _)) (by first | rfl | assumption)) rfl (eqr _ (by first | rfl | exact lpl (by assumption) | (simp [AV.plain, AV.plains, AV.cells, pev, Pst.c])))) rfl), ?_⟩
  refine OkP.step ?_
  refine OkO.callV rfl rfl rfl rfl rfl (c68 (m + 78) _ _ _ _) ?_ -- "(sackung/alarm.ends).has"
  refine OkO.nil ⟨rfl, ?_⟩
  refine OkP.step ?_
  refine OkO.un rfl rfl rfl ?_
  refine OkO.nil ⟨rfl, ?_⟩
  refine OkP.step ?_
  refine OkO.move rfl rfl ?_
  refine OkO.nil ⟨rfl, ?_⟩
  refine OkP.split (d := 25) rfl (fun g1 => ?_) (fun g1 => ?_)
  · -- true g1
    refine OkP.step ?_
    refine OkO.skip rfl ?_
    refine OkO.nil ⟨rfl, ?_⟩
    refine OkP.step ?_
    refine OkO.skip rfl ?_
    refine OkO.nil ⟨rfl, ?_⟩
    refine OkP.step ?_
    refine OkO.skip rfl ?_
    refine OkO.nil ⟨(sco (sld rfl rfl (lda (n := 1) (by kernel_rfl) (by first | assumption | (simp (disch := first | omega | (simp only [hNw, hPt]; omega)) only [gn0, gn1, gn2, gn3, gn4, gn5, gp0, gno, gpo] <;> first | rfl | assumption | exact gp0 _ _ _ | exact gn0 _ _)) (by first | rfl | assumption)) rfl (eqr _ (by first | rfl | exact lpl (by assumption) | (simp [AV.plain, AV.plains, AV.cells, pev, Pst.c])))) rfl), ?_⟩
    refine OkP.step ?_
    refine OkO.skip rfl ?_
    refine OkO.nil ⟨rfl, ?_⟩
    refine OkP.step ?_
    refine OkO.pick (b := true) rfl rfl (fun _ => rfl) nofun ?_
    refine OkO.nil ⟨rfl, ?_⟩
    refine OkP.nil ?_
    refine Ok.condT rfl ?_
    refine Ok.seq ?_
    refine Ok.region ?_
    refine OkO.store rfl rfl rfl (sAc (n := 1) (ag := false) (by kernel_rfl) (by first | assumption | (simp (disch := first | omega | (simp only [hNw, hPt]; omega)) only [gn0, gn1, gn2, gn3, gn4, gn5, gp0, gno, gpo] <;> first | rfl | assumption | exact gp0 _ _ _ | exact gn0 _ _)) rfl (by first | rfl | assumption) (by first | rfl | exact spl_set _ _ _ (by first | assumption | omega | (simp; omega)))) ?_
    refine OkO.store rfl rfl rfl (sAc (n := 1) (ag := false) (by kernel_rfl) (by first | assumption | (simp (disch := first | omega | (simp only [hNw, hPt]; omega)) only [gn0, gn1, gn2, gn3, gn4, gn5, gp0, gno, gpo] <;> first | rfl | assumption | exact gp0 _ _ _ | exact gn0 _ _)) rfl (by first | rfl | assumption) (by first | rfl | exact spl_set _ _ _ (by first | assumption | omega | (simp; omega)))) ?_
    refine OkO.store rfl rfl rfl (sAc (n := 1) (ag := false) (by kernel_rfl) (by first | assumption | (simp (disch := first | omega | (simp only [hNw, hPt]; omega)) only [gn0, gn1, gn2, gn3, gn4, gn5, gp0, gno, gpo] <;> first | rfl | assumption | exact gp0 _ _ _ | exact gn0 _ _)) rfl (by first | rfl | assumption) (by first | rfl | exact spl_set _ _ _ (by first | assumption | omega | (simp; omega)))) ?_
    refine OkO.nil ?_
    refine Ok.ret ⟨.inr rfl, ?_⟩
    exact back_flat (resV_cell rfl (lda (n := 1) (by kernel_rfl) (by first | assumption | (simp (disch := first | omega | (simp only [hNw, hPt]; omega)) only [gn0, gn1, gn2, gn3, gn4, gn5, gp0, gno, gpo] <;> first | rfl | assumption)) (by first | rfl | assumption)) (resV_cell rfl (lda (n := 1) (by kernel_rfl) (by first | assumption | (simp (disch := first | omega | (simp only [hNw, hPt]; omega)) only [gn0, gn1, gn2, gn3, gn4, gn5, gp0, gno, gpo] <;> first | rfl | assumption)) (by first | rfl | assumption)) (resV_cell rfl (lda (n := 1) (by kernel_rfl) (by first | assumption | (simp (disch := first | omega | (simp only [hNw, hPt]; omega)) only [gn0, gn1, gn2, gn3, gn4, gn5, gp0, gno, gpo] <;> first | rfl | assumption)) (by first | rfl | assumption)) resV_nil))) rfl rfl (by rw [← hW]; exact (by (try dsimp only); repeat (first | exact hG | apply Grow.new | (refine Grow.put ?_ _ (by first | omega | (simp only [hNw, hPt]; omega))))))
  · -- false g1
    refine OkP.step ?_
    refine OkO.buildArr (z := [.int .i64 0, .int .i64 0]) (sz := 1) rfl (by kernel_rfl) rfl rfl ?_
    refine OkO.nil ⟨rfl, ?_⟩
    refine OkP.step ?_
    refine OkO.load rfl rfl (lda (n := 1) (by kernel_rfl) (by first | assumption | (simp (disch := first | omega | (simp only [hNw, hPt]; omega)) only [gn0, gn1, gn2, gn3, gn4, gn5, gp0, gno, gpo] <;> first | rfl | assumption | exact gp0 _ _ _ | exact gn0 _ _)) (by first | rfl | assumption)) ?_
    refine OkO.nil ⟨rfl, ?_⟩
    refine OkP.step ?_
    refine OkO.callV rfl rfl rfl rfl rfl (c68 (m + 78) _ _ _ _) ?_ -- "(sackung/alarm.ends).has"
    refine OkO.nil ⟨(sco (sld rfl rfl (lda (n := 1) (by kernel_rfl) (by first | assumption | (simp (disch := first | omega | (simp only [hNw, hPt]; omega)) only [gn0, gn1, gn2, gn3, gn4, gn5, gp0, gno, gpo] <;> first | rfl | assumption | exact gp0 _ _ _ | exact gn0 _ _)) (by first | rfl | assumption)) rfl (eqr _ (by first | rfl | exact lpl (by assumption) | (simp [AV.plain, AV.plains, AV.cells, pev, Pst.c])))) rfl), ?_⟩
    refine OkP.step ?_
    refine OkO.un rfl rfl rfl ?_
    refine OkO.nil ⟨rfl, ?_⟩
    refine OkP.step ?_
    refine OkO.pick (b := false) rfl rfl nofun (fun _ => rfl) ?_
    refine OkO.nil ⟨rfl, ?_⟩
    refine OkP.nil ?_
    refine Ok.cond rfl (fun h2 => ?_) (fun h2 => ?_)
    · -- yes h2
      refine Ok.seq ?_
      refine Ok.region ?_
      refine OkO.store rfl rfl rfl (sAc (n := 1) (ag := false) (by kernel_rfl) (by first | assumption | (simp (disch := first | omega | (simp only [hNw, hPt]; omega)) only [gn0, gn1, gn2, gn3, gn4, gn5, gp0, gno, gpo] <;> first | rfl | assumption | exact gp0 _ _ _ | exact gn0 _ _)) rfl (by first | rfl | assumption) (by first | rfl | exact spl_set _ _ _ (by first | assumption | omega | (simp; omega)))) ?_
      refine OkO.store rfl rfl rfl (sAc (n := 1) (ag := false) (by kernel_rfl) (by first | assumption | (simp (disch := first | omega | (simp only [hNw, hPt]; omega)) only [gn0, gn1, gn2, gn3, gn4, gn5, gp0, gno, gpo] <;> first | rfl | assumption | exact gp0 _ _ _ | exact gn0 _ _)) rfl (by first | rfl | assumption) (by first | rfl | exact spl_set _ _ _ (by first | assumption | omega | (simp; omega)))) ?_
      refine OkO.store rfl rfl rfl (sAc (n := 1) (ag := false) (by kernel_rfl) (by first | assumption | (simp (disch := first | omega | (simp only [hNw, hPt]; omega)) only [gn0, gn1, gn2, gn3, gn4, gn5, gp0, gno, gpo] <;> first | rfl | assumption | exact gp0 _ _ _ | exact gn0 _ _)) rfl (by first | rfl | assumption) (by first | rfl | exact spl_set _ _ _ (by first | assumption | omega | (simp; omega)))) ?_
      refine OkO.nil ?_
      refine Ok.ret ⟨.inr rfl, ?_⟩
      exact back_flat (resV_cell rfl (lda (n := 1) (by kernel_rfl) (by first | assumption | (simp (disch := first | omega | (simp only [hNw, hPt]; omega)) only [gn0, gn1, gn2, gn3, gn4, gn5, gp0, gno, gpo] <;> first | rfl | assumption)) (by first | rfl | assumption)) (resV_cell rfl (lda (n := 1) (by kernel_rfl) (by first | assumption | (simp (disch := first | omega | (simp only [hNw, hPt]; omega)) only [gn0, gn1, gn2, gn3, gn4, gn5, gp0, gno, gpo] <;> first | rfl | assumption)) (by first | rfl | assumption)) (resV_cell rfl (lda (n := 1) (by kernel_rfl) (by first | assumption | (simp (disch := first | omega | (simp only [hNw, hPt]; omega)) only [gn0, gn1, gn2, gn3, gn4, gn5, gp0, gno, gpo] <;> first | rfl | assumption)) (by first | rfl | assumption)) resV_nil))) rfl rfl (by rw [← hW]; exact (by (try dsimp only); repeat (first | exact hG | apply Grow.new | (refine Grow.put ?_ _ (by first | omega | (simp only [hNw, hPt]; omega))))))
    · -- no h2
      exact absurd hz (by simp_all)
theorem c35Y (m : Nat) (ev rv : AV) (p : Pst) (rows : List (List Int)) (hr : Nat) (s0 : Int) (H : Heap) (hV : Ints H ev p.errs) (hRs : LstAt H rv rows) (hpl : p.errs.length ≤ 100000) (hrl : rows.length ≤ 100000) (hlens9 : ∀ r ∈ rows, r.length ≤ 100000) (hf : faultE p rows = 0) (hhr : hr < rows.length) (hs : 0 ≤ s0 ∧ s0 ≤ 1000) : ∃ v H', RR (m + 80) (.fn 35 [.agg (p.c ev), rv, I (hr : Int), I s0]) H = some (v, H') ∧ Ret H H' ∧ ((∃ (i : Nat) (l : AV), i ≤ p.errs.length ∧ HitP p rows hr s0 i ∧ (∀ j, j < i → ¬ HitP p rows hr s0 j) ∧ v = .tup [I ((i : Int) - 1), l, I 0] ∧ Lst H.next H' l (backL p (mayL p ((i : Int) - 1) rows) hr s0)) ∨ ((∀ j, j ≤ p.errs.length → ¬ HitP p rows hr s0 j) ∧ v = .tup [I 0, .nils, I 7])) := by
  show ∃ v H', evFn Try.prog (RR (m + 79)) 35 [.agg (p.c ev), rv, I (hr : Int), I s0] H = some (v, H') ∧ Ret H H' ∧ ((∃ (i : Nat) (l : AV), i ≤ p.errs.length ∧ HitP p rows hr s0 i ∧ (∀ j, j < i → ¬ HitP p rows hr s0 j) ∧ v = .tup [I ((i : Int) - 1), l, I 0] ∧ Lst H.next H' l (backL p (mayL p ((i : Int) - 1) rows) hr s0)) ∨ ((∀ j, j ≤ p.errs.length → ¬ HitP p rows hr s0 j) ∧ v = .tup [I 0, .nils, I 7]))
  refine fn_okE Try.func35 rfl rfl (by kernel_rfl) (by kernel_rfl) ?_
  obtain ⟨W, hW⟩ : ∃ W : Heap, W = ⟨H.t, H.next, H.next⟩ := ⟨_, rfl⟩
  have hg : ∀ n, W.get n = H.get n := fun n => by rw [hW]; rfl
  have hN : W.next = H.next := by rw [hW]
  have hE : ∀ G, Grow W G → Ext H G := fun G g => ⟨by rw [← hN]; exact g.next, fun n k => by rw [g.get n (by rw [hN]; exact k), hg]⟩
  have hG : Grow W W := Grow.refl (by rw [hW]; exact Nat.le_refl _)
  rw [← hW]
  have pev : ev.plain = true := lpl hV.len
  have hel := hV.len
  have hrlen := hRs.len
  have ats : ∀ mb, atoms [ev, I p.gain, I p.drop, I p.fall, I p.out, I p.ahead, .map mb] = true := fun mb => by rw [atoms, (len_one hel).2]; rfl
  obtain ⟨hok, hr60, hlens, hrbd⟩ := faultE_facts hf
  obtain ⟨⟨hp1, hp2⟩, hpe, hpg, hpd, hpf, hpo1, hpo2⟩ := Pst.ok_facts hok
  refine Ok.seq ?_
  refine Ok.region ?_
  refine OkO.box rfl rfl ?_
  refine OkO.box rfl rfl ?_
  refine OkO.box rfl rfl ?_
  refine OkO.alloc (z := [.int .i64 0]) rfl (by kernel_rfl) ?_
  refine OkO.alloc (z := [.nils]) rfl (by kernel_rfl) ?_
  refine OkO.alloc (z := [.int .i64 0]) rfl (by kernel_rfl) ?_
  refine OkO.nil ?_
  refine Ok.seq ?_
  refine Ok.seq ?_
  refine Ok.region ?_
  refine OkO.load rfl rfl (ldg (n := 6) (by kernel_rfl) (by first | assumption | (simp (disch := first | omega | (simp only [hNw, hPt]; omega)) only [gn0, gn1, gn2, gn3, gn4, gn5, gp0, gno, gpo] <;> first | rfl | assumption | exact gp0 _ _ _ | exact gn0 _ _)) (by first | rfl | assumption)) ?_
  refine OkO.move rfl rfl ?_
  refine OkO.callV rfl rfl rfl rfl rfl ((c62 (m + 74) ev rv p rows _ (hV.ext (hE _ (by (try dsimp only); repeat (first | exact hG | apply Grow.new | (refine Grow.put ?_ _ (by first | omega | (simp only [hNw, hPt]; omega))))))) (hRs.ext (hE _ (by (try dsimp only); repeat (first | exact hG | apply Grow.new | (refine Grow.put ?_ _ (by first | omega | (simp only [hNw, hPt]; omega))))))) hpl hrl hlens9).trans (by rw [hf])) ?_ -- "sackung/alarm.checkReads"
  refine OkO.assign rfl rfl ?_
  refine OkO.nil ?_
  refine Ok.seq ?_
  refine Ok.region ?_
  refine OkO.move rfl rfl ?_
  refine OkO.bin rfl rfl rfl ((bin_neq _ _).trans (congrArg (fun b => some (AV.bool b)) (show _ = false from (by rfl)))) ?_
  refine OkO.nil ?_
  refine Ok.condF rfl ?_
  refine Ok.skip ?_
  refine Ok.seq ?_
  refine Ok.seq ?_
  refine Ok.drawn [(0, true, []), (2, true, []), (1, false, [2]), (3, false, []), (4, true, []), (5, true, []), (6, true, []), (7, true, []), (8, false, [2]), (9, true, []), (10, true, [])] (by kernel_rfl) ?_
  refine OkP.step ?_
  refine OkO.move rfl rfl ?_
  refine OkO.nil ⟨rfl, ?_⟩
  refine OkP.step ?_
  refine OkO.load rfl rfl (lda (n := 1) (by kernel_rfl) (by first | assumption | (simp (disch := first | omega | (simp only [hNw, hPt]; omega)) only [gn0, gn1, gn2, gn3, gn4, gn5, gp0, gno, gpo] <;> first | rfl | assumption | exact gp0 _ _ _ | exact gn0 _ _)) (by first | rfl | assumption)) ?_
  refine OkO.nil ⟨rfl, ?_⟩
  refine OkP.step ?_
  refine OkO.callV rfl rfl rfl rfl rfl (c72 (m + 78) rv rows _ hrlen hrl) ?_ -- "sackung/alarm.indexes[[]int]"
  refine OkO.nil ⟨(sco (sld rfl rfl (lda (n := 1) (by kernel_rfl) (by first | assumption | (simp (disch := first | omega | (simp only [hNw, hPt]; omega)) only [gn0, gn1, gn2, gn3, gn4, gn5, gp0, gno, gpo] <;> first | rfl | assumption | exact gp0 _ _ _ | exact gn0 _ _)) (by first | rfl | assumption)) rfl (eqr _ (by first | rfl | exact lpl (by assumption) | (simp [AV.plain, AV.plains, AV.cells, pev, Pst.c, Pst.d])))) rfl), ?_⟩
  refine OkP.step ?_
  refine OkO.callV rfl rfl rfl rfl rfl ((c68 (m + 78) _ _ _ _).trans (by rw [show inB (hr : Int) 0 ((rows.length : Int) - 1) = true from by simp [inB]; omega])) ?_ -- "(sackung/alarm.ends).has"
  refine OkO.nil ⟨rfl, ?_⟩
  refine OkP.step ?_
  refine OkO.un rfl rfl rfl ?_
  refine OkO.nil ⟨rfl, ?_⟩
  refine OkP.step ?_
  refine OkO.move rfl rfl ?_
  refine OkO.nil ⟨rfl, ?_⟩
  refine OkP.step ?_
  refine OkO.buildArr (z := [.int .i64 0, .int .i64 0]) (sz := 1) rfl (by kernel_rfl) rfl rfl ?_
  refine OkO.nil ⟨rfl, ?_⟩
  refine OkP.step ?_
  refine OkO.load rfl rfl (lda (n := 1) (by kernel_rfl) (by first | assumption | (simp (disch := first | omega | (simp only [hNw, hPt]; omega)) only [gn0, gn1, gn2, gn3, gn4, gn5, gp0, gno, gpo] <;> first | rfl | assumption | exact gp0 _ _ _ | exact gn0 _ _)) (by first | rfl | assumption)) ?_
  refine OkO.nil ⟨rfl, ?_⟩
  refine OkP.step ?_
  refine OkO.callV rfl rfl rfl rfl rfl ((c68 (m + 78) _ _ _ _).trans (by rw [show inB s0 0 1000 = true from by simp [inB]; omega])) ?_ -- "(sackung/alarm.ends).has"
  refine OkO.nil ⟨(sco (sld rfl rfl (lda (n := 1) (by kernel_rfl) (by first | assumption | (simp (disch := first | omega | (simp only [hNw, hPt]; omega)) only [gn0, gn1, gn2, gn3, gn4, gn5, gp0, gno, gpo] <;> first | rfl | assumption | exact gp0 _ _ _ | exact gn0 _ _)) (by first | rfl | assumption)) rfl (eqr _ (by first | rfl | exact lpl (by assumption) | (simp [AV.plain, AV.plains, AV.cells, pev, Pst.c, Pst.d])))) rfl), ?_⟩
  refine OkP.step ?_
  refine OkO.un rfl rfl rfl ?_
  refine OkO.nil ⟨rfl, ?_⟩
  refine OkP.step ?_
  refine OkO.pick (b := false) rfl rfl nofun (fun _ => rfl) ?_
  refine OkO.nil ⟨rfl, ?_⟩
  refine OkP.nil ?_
  refine Ok.condF rfl ?_
  refine Ok.skip ?_
  refine Ok.seq ?_
  refine Ok.seq ?_
  refine Ok.drawn [(0, true, []), (1, true, []), (3, true, []), (4, true, []), (2, false, [3]), (5, false, [3, 0])] (by kernel_rfl) ?_
  refine OkP.step ?_
  refine OkO.load rfl rfl (ldg (n := 6) (by kernel_rfl) (by first | assumption | (simp (disch := first | omega | (simp only [hNw, hPt]; omega)) only [gn0, gn1, gn2, gn3, gn4, gn5, gp0, gno, gpo] <;> first | rfl | assumption | exact gp0 _ _ _ | exact gn0 _ _)) (by first | rfl | assumption)) ?_
  refine OkO.nil ⟨rfl, ?_⟩
  refine OkP.step ?_
  refine OkO.move rfl rfl ?_
  refine OkO.nil ⟨rfl, ?_⟩
  refine OkP.step ?_
  refine OkO.load rfl rfl (lda (n := 1) (by kernel_rfl) (by first | assumption | (simp (disch := first | omega | (simp only [hNw, hPt]; omega)) only [gn0, gn1, gn2, gn3, gn4, gn5, gp0, gno, gpo] <;> first | rfl | assumption | exact gp0 _ _ _ | exact gn0 _ _)) (by first | rfl | assumption)) ?_
  refine OkO.nil ⟨rfl, ?_⟩
  refine OkP.step ?_
  refine OkO.bin rfl rfl rfl (bin_add (by omega) (by omega)) ?_
  refine OkO.nil ⟨rfl, ?_⟩
  refine OkP.step ?_
  refine OkO.callE rfl rfl rfl rfl rfl (c63 (m + 74) ev rv p rows _ (hV.ext (hE _ (by (try dsimp only); repeat (first | exact hG | apply Grow.new | (refine Grow.put ?_ _ (by first | omega | (simp only [hNw, hPt]; omega))))))) (hRs.ext (hE _ (by (try dsimp only); repeat (first | exact hG | apply Grow.new | (refine Grow.put ?_ _ (by first | omega | (simp only [hNw, hPt]; omega))))))) ⟨hpg, hpd⟩ hpe (by omega) hlens hrbd (by omega)) ?_ -- "(sackung/alarm.Post).onDuty"
  rintro _ H63 ⟨mb, rfl, q63, dm63⟩
  have n1 := q63.ext.next
  try simp only [hNw, hPt] at n1
  have gg1 : Grow W H63 := Grow.ret (by (try dsimp only); repeat (first | exact hG | apply Grow.new | (refine Grow.put ?_ _ (by first | omega | (simp only [hNw, hPt]; omega))))) q63
  have db1 : (H63.get (W.next)).bind AObj.cs = some (p.c ev) := by rw [q63.ext.get _ (by first | omega | (simp only [hNw, hPt]; omega))]; first | assumption | (rw [gn0]; rfl) | (rw [get_put_eq] <;> rfl) | (simp (disch := first | omega | (simp only [hNw, hPt]; omega)) only [gn0, gn1, gn2, gn3, gn4, gn5, gp0, gno, gpo] <;> first | rfl | assumption | (rw [get_put_eq] <;> rfl))
  have hb1 : (H63.get (W.next + 1)).bind AObj.cs = some [I (hr : Int)] := by rw [q63.ext.get _ (by first | omega | (simp only [hNw, hPt]; omega))]; first | assumption | (rw [gn0]; rfl) | (rw [get_put_eq] <;> rfl) | (simp (disch := first | omega | (simp only [hNw, hPt]; omega)) only [gn0, gn1, gn2, gn3, gn4, gn5, gp0, gno, gpo] <;> first | rfl | assumption | (rw [get_put_eq] <;> rfl))
  have sb1 : (H63.get (W.next + 2)).bind AObj.cs = some [I s0] := by rw [q63.ext.get _ (by first | omega | (simp only [hNw, hPt]; omega))]; first | assumption | (rw [gn0]; rfl) | (rw [get_put_eq] <;> rfl) | (simp (disch := first | omega | (simp only [hNw, hPt]; omega)) only [gn0, gn1, gn2, gn3, gn4, gn5, gp0, gno, gpo] <;> first | rfl | assumption | (rw [get_put_eq] <;> rfl))
  have d1 : H63.get (W.next) = some (.cells (p.c ev) 30) := by rw [q63.ext.get _ (by first | omega | (simp only [hNw, hPt]; omega))]; first | assumption | exact gn0 _ _ | (simp (disch := first | omega | (simp only [hNw, hPt]; omega)) only [gn0, gn1, gn2, gn3, gn4, gn5, gp0, gno, gpo] <;> first | rfl | assumption | exact gp0 _ _ _ | exact gn0 _ _)
  have h1 : H63.get (W.next + 1) = some (.cells [I (hr : Int)] 3) := by rw [q63.ext.get _ (by first | omega | (simp only [hNw, hPt]; omega))]; first | assumption | exact gn0 _ _ | (simp (disch := first | omega | (simp only [hNw, hPt]; omega)) only [gn0, gn1, gn2, gn3, gn4, gn5, gp0, gno, gpo] <;> first | rfl | assumption | exact gp0 _ _ _ | exact gn0 _ _)
  have s1 : H63.get (W.next + 2) = some (.cells [I s0] 3) := by rw [q63.ext.get _ (by first | omega | (simp only [hNw, hPt]; omega))]; first | assumption | exact gn0 _ _ | (simp (disch := first | omega | (simp only [hNw, hPt]; omega)) only [gn0, gn1, gn2, gn3, gn4, gn5, gp0, gno, gpo] <;> first | rfl | assumption | exact gp0 _ _ _ | exact gn0 _ _)
  have e8_1 : H63.get (W.next + 3) = some (.cells [I 0] 3) := by rw [q63.ext.get _ (by first | omega | (simp only [hNw, hPt]; omega))]; first | assumption | exact gn0 _ _ | (simp (disch := first | omega | (simp only [hNw, hPt]; omega)) only [gn0, gn1, gn2, gn3, gn4, gn5, gp0, gno, gpo] <;> first | rfl | assumption | exact gp0 _ _ _ | exact gn0 _ _)
  have e9_1 : H63.get (W.next + 4) = some (.cells [.nils] 22) := by rw [q63.ext.get _ (by first | omega | (simp only [hNw, hPt]; omega))]; first | assumption | exact gn0 _ _ | (simp (disch := first | omega | (simp only [hNw, hPt]; omega)) only [gn0, gn1, gn2, gn3, gn4, gn5, gp0, gno, gpo] <;> first | rfl | assumption | exact gp0 _ _ _ | exact gn0 _ _)
  have e10_1 : H63.get (W.next + 5) = some (.cells [I 0] 28) := by rw [q63.ext.get _ (by first | omega | (simp only [hNw, hPt]; omega))]; first | assumption | exact gn0 _ _ | (simp (disch := first | omega | (simp only [hNw, hPt]; omega)) only [gn0, gn1, gn2, gn3, gn4, gn5, gp0, gno, gpo] <;> first | rfl | assumption | exact gp0 _ _ _ | exact gn0 _ _)
  have dmh := dm63.2.1
  refine OkO.nil ⟨(sco (sld rfl rfl (lda (n := 1) (by kernel_rfl) (by first | assumption | (simp (disch := first | omega | (simp only [hNw, hPt]; omega)) only [gn0, gn1, gn2, gn3, gn4, gn5, gp0, gno, gpo] <;> first | rfl | assumption | exact gp0 _ _ _ | exact gn0 _ _)) (by first | rfl | assumption)) rfl (eqr _ (by first | rfl | exact lpl (by assumption) | (simp [AV.plain, AV.plains, AV.cells, pev, Pst.c, Pst.d])))) rfl), ?_⟩
  refine OkP.step ?_
  refine OkO.callE rfl rfl rfl rfl rfl (c66 (m + 78) ev p mb ((hr : Int) + 1) _) ?_ -- "(sackung/alarm.duty).failures"
  rintro _ X ⟨rfl, q66, x1, x2, x3⟩
  have n66 := q66.ext.next
  skip
  have g66 : Grow W X := Grow.ret (by (try dsimp only); repeat (first | exact gg1 | apply Grow.new | (refine Grow.put ?_ _ (by first | omega | (simp only [hNw, hPt]; omega))))) q66
  have dmX := dm63.to q66.ext
  have xd : X.get (W.next) = some (.cells (p.c ev) 30) := by rw [q66.ext.get _ (by first | omega | (simp only [hNw, hPt]; omega))]; exact d1
  have xh : X.get (W.next + 1) = some (.cells [I (hr : Int)] 3) := by rw [q66.ext.get _ (by first | omega | (simp only [hNw, hPt]; omega))]; exact h1
  have xs : X.get (W.next + 2) = some (.cells [I s0] 3) := by rw [q66.ext.get _ (by first | omega | (simp only [hNw, hPt]; omega))]; exact s1
  have x8 : X.get (W.next + 3) = some (.cells [I 0] 3) := by rw [q66.ext.get _ (by first | omega | (simp only [hNw, hPt]; omega))]; exact e8_1
  have x9 : X.get (W.next + 4) = some (.cells [.nils] 22) := by rw [q66.ext.get _ (by first | omega | (simp only [hNw, hPt]; omega))]; exact e9_1
  have x10 : X.get (W.next + 5) = some (.cells [I 0] 28) := by rw [q66.ext.get _ (by first | omega | (simp only [hNw, hPt]; omega))]; exact e10_1
  have xdb : (X.get W.next).bind AObj.cs = some (p.c ev) := by rw [xd]; rfl
  have xhb : (X.get (W.next + 1)).bind AObj.cs = some [I (hr : Int)] := by rw [xh]; rfl
  have xsb : (X.get (W.next + 2)).bind AObj.cs = some [I s0] := by rw [xs]; rfl
  refine OkO.nil ⟨(sco (sld rfl rfl (lda (n := 1) (by kernel_rfl) (by first | assumption | (simp (disch := first | omega | (simp only [hNw, hPt]; omega)) only [gn0, gn1, gn2, gn3, gn4, gn5, gp0, gno, gpo] <;> first | rfl | assumption | exact gp0 _ _ _ | exact gn0 _ _)) (by first | rfl | assumption)) rfl (eqr _ (by first | rfl | exact lpl (by assumption) | (simp [AV.plain, AV.plains, AV.cells, pev, Pst.c, Pst.d])))) (sco (sld rfl rfl (ldg (n := 6) (by kernel_rfl) (by first | assumption | (simp (disch := first | omega | (simp only [hNw, hPt]; omega)) only [gn0, gn1, gn2, gn3, gn4, gn5, gp0, gno, gpo] <;> first | rfl | assumption | exact gp0 _ _ _ | exact gn0 _ _)) (by first | rfl | assumption)) rfl (eqr _ (by first | rfl | exact lpl (by assumption) | (simp [AV.plain, AV.plains, AV.cells, pev, Pst.c, Pst.d])))) rfl)), ?_⟩
  refine OkP.nil ?_
  refine Ok.block ?_
  obtain ⟨o, vs, hmo, ho, hvl, hvm⟩ := (dmX.low (Nat.zero_le _)).2.2
  refine Ok.rangeR rfl rfl (fun T0 hT0 => ?_)
  have hH : Has 6 [(4, .ptr W.next 0), (6, .ptr (W.next + 1) 0), (7, .ptr (W.next + 2) 0), (8, .ptr (W.next + 3) 0), (9, .ptr (W.next + 4) 0), (10, .ptr (W.next + 5) 0)] T0 := by rw [hT0]; exact Has.of (by kernel_rfl)
  have hvs : ∀ (i : Nat) (x : AV), vs[i]? = some x → lenOf x = some (lenM p rows i) := fun i x hx => by (have h9 := (hvm i x hx).ivs.len; rw [List.length_map] at h9; exact h9)
  have xmo : X.get mb = some o := hmo
  have xvm : ∀ (j : Nat) (x : AV), vs[j]? = some x → Mine 0 X x 125 2 (ivCells (mayL p ((j : Int) - 1) rows)) := fun j x hj => hvm j x hj
  obtain ⟨v3, H3, k1, k2, k3⟩ := c88 (m + 78) (X.next + 1) H63.next (H63.next + 1) W.next mb (hr + 1) ev p rows vs (fun i G => RngJ X [] .ready none [37, 38] as35 bd35 T0 G ∧ ∀ j, j < i → ¬ HitP p rows hr s0 j) (fun G => RngJ X [W.next + 3, W.next + 4, W.next + 5] .done (some .ret) [37, 38] as35 bd35 T0 G ∧ ∃ (i : Nat) (lv : AV), i ≤ p.errs.length ∧ HitP p rows hr s0 i ∧ (∀ j, j < i → ¬ HitP p rows hr s0 j) ∧ G.get (W.next + 3) = some (.cells [I ((i : Int) - 1)] 3) ∧ G.get (W.next + 4) = some (.cells [lv] 22) ∧ G.get (W.next + 5) = some (.cells [I 0] 28) ∧ Lst (X.next + 2) G lv (backL p (mayL p ((i : Int) - 1) rows) hr s0)) ((X.new .defd).new (.loop .ready none T0 [37, 38] as35 bd35 X.next)) (fun i G G1 h e => ⟨h.1.to e, h.2⟩) (fun G G1 h e => by obtain ⟨a1, i, lv, a2, a3, a4, a5, a6, a7, a8⟩ := h; (have nx9 := a1.nx); exact ⟨a1.to e, i, lv, a2, a3, a4, by rw [e.get _ (by omega)]; exact a5, by rw [e.get _ (by omega)]; exact a6, by rw [e.get _ (by omega)]; exact a7, a8.to e⟩) (fun i G h => ⟨by rw [h.1.get _ (by omega) (by simp <;> omega), x1] <;> rfl, by rw [h.1.get _ (by omega) (by simp <;> omega), x2] <;> rfl, by have h9 := h.1.nx; omega, o, by rw [h.1.get _ (by omega) (by simp <;> omega)]; exact xmo, ho⟩) hvl hvs hel (by omega) (fun i G hi hr9 h => ⟨h.1, fun j hj => by (by_cases e : j = i); (· subst e; exact fun hc => hr9 hc.1); (· exact h.2 j (by omega))⟩) (fun i x G hi hx hr9 h hlo => by have h9 := r35 (m + (73 - hr)) hr i ev p rows s0 x T0 W X G hH h g66 (by omega) xd xh xs x8 x9 x10 (xvm i x hx) hi ⟨_, hel⟩ hs hpg hpd (by omega) hr9 hlo; rw [show m + (73 - hr) + 5 + hr = m + 78 from by omega] at h9; exact h9) (⟨RngJ.start _ _ _ _ _ _, fun j hj => absurd hj (Nat.not_lt_zero j)⟩) (by show W.next ≤ X.lo; exact g66.lo) (by omega)
  rcases k2 with k2 | k2
  · -- to its end
    refine ⟨v3, H3, k1, _, _, T0, [37, 38], as35, bd35, X.next, k2.1.b1, .inl ⟨rfl, rfl, ?_⟩⟩
    have g3 : Grow W H3 := k2.1.grow g66 (fun j hj => by simp at hj) k3
    have kn := k2.1.nx
    have ke8_ : H3.get (W.next + 3) = some (.cells [I 0] 3) := by rw [k2.1.get _ (by omega) (by simp)]; exact x8
    have ke9_ : H3.get (W.next + 4) = some (.cells [.nils] 22) := by rw [k2.1.get _ (by omega) (by simp)]; exact x9
    have ke10_ : H3.get (W.next + 5) = some (.cells [I 0] 28) := by rw [k2.1.get _ (by omega) (by simp)]; exact x10
    have yd := k2.1.b0
    have hnone := k2.2
    clear k1
    refine Ok.seq ?_
    refine Ok.region ?_
    refine OkO.store rfl rfl rfl (sAc (n := 1) (ag := false) (by kernel_rfl) (by first | assumption | (simp (disch := first | omega | (simp only [hNw, hPt]; omega)) only [gn0, gn1, gn2, gn3, gn4, gn5, gp0, gno, gpo] <;> first | rfl | assumption | exact gp0 _ _ _ | exact gn0 _ _)) rfl (by first | rfl | assumption) (by first | rfl | exact spl_set _ _ _ (by first | assumption | omega | (simp; omega)))) ?_
    refine OkO.store rfl rfl rfl (sAc (n := 1) (ag := false) (by kernel_rfl) (by first | assumption | (simp (disch := first | omega | (simp only [hNw, hPt]; omega)) only [gn0, gn1, gn2, gn3, gn4, gn5, gp0, gno, gpo] <;> first | rfl | assumption | exact gp0 _ _ _ | exact gn0 _ _)) rfl (by first | rfl | assumption) (by first | rfl | exact spl_set _ _ _ (by first | assumption | omega | (simp; omega)))) ?_
    refine OkO.store rfl rfl rfl (sAc (n := 1) (ag := false) (by kernel_rfl) (by first | assumption | (simp (disch := first | omega | (simp only [hNw, hPt]; omega)) only [gn0, gn1, gn2, gn3, gn4, gn5, gp0, gno, gpo] <;> first | rfl | assumption | exact gp0 _ _ _ | exact gn0 _ _)) rfl (by first | rfl | assumption) (by first | rfl | exact spl_set _ _ _ (by first | assumption | omega | (simp; omega)))) ?_
    refine OkO.nil ?_
    refine Ok.ret ⟨.inr rfl, ?_⟩
    rw [back_mark (d := X.next) (by first | assumption | (simp (disch := first | omega | (simp only [hNw, hPt]; omega)) only [gn0, gn1, gn2, gn3, gn4, gn5, gp0, gno, gpo] <;> first | rfl | assumption | exact gp0 _ _ _ | exact gn0 _ _))]
    refine back_newA (resV_cell rfl (lda (n := 1) (by kernel_rfl) (by first | assumption | (simp (disch := first | omega | (simp only [hNw, hPt]; omega)) only [gn0, gn1, gn2, gn3, gn4, gn5, gp0, gno, gpo] <;> first | rfl | assumption)) (by first | rfl | assumption)) (resV_cell rfl (lda (n := 1) (by kernel_rfl) (by first | assumption | (simp (disch := first | omega | (simp only [hNw, hPt]; omega)) only [gn0, gn1, gn2, gn3, gn4, gn5, gp0, gno, gpo] <;> first | rfl | assumption)) (by first | rfl | assumption)) (resV_cell rfl (lda (n := 1) (by kernel_rfl) (by first | assumption | (simp (disch := first | omega | (simp only [hNw, hPt]; omega)) only [gn0, gn1, gn2, gn3, gn4, gn5, gp0, gno, gpo] <;> first | rfl | assumption)) (by first | rfl | assumption)) resV_nil))) rfl (by rw [← hW]; exact (by (try dsimp only); repeat (first | exact g3 | apply Grow.new | (refine Grow.put ?_ _ (by first | omega | (simp only [hNw, hPt]; omega)))))) (fun H9 p1 p2 => ⟨p1, .inr ⟨fun j hj => hnone j (by omega), rfl⟩⟩)
  · -- returned
    refine ⟨v3, H3, k1, _, _, T0, [37, 38], as35, bd35, X.next, k2.1.b1, .inr (.inr ⟨rfl, rfl, ?_⟩)⟩
    have g3 : Grow W H3 := k2.1.grow g66 (fun j hj => by simp at hj; omega) k3
    have kn := k2.1.nx
    have yd := k2.1.b0
    obtain ⟨kj, i, lv, hi, hhit, hno, k8, k9, k10, kl⟩ := k2
    have k8b : (H3.get (W.next + 3)).bind AObj.cs = some [I ((i : Int) - 1)] := by rw [k8]; rfl
    have k9b : (H3.get (W.next + 4)).bind AObj.cs = some [lv] := by rw [k9]; rfl
    have k10b : (H3.get (W.next + 5)).bind AObj.cs = some [I 0] := by rw [k10]; rfl
    refine ⟨.inr rfl, ?_⟩
    rw [back_mark (d := X.next) (by first | assumption | (simp (disch := first | omega | (simp only [hNw, hPt]; omega)) only [gn0, gn1, gn2, gn3, gn4, gn5, gp0, gno, gpo] <;> first | rfl | assumption | exact gp0 _ _ _ | exact gn0 _ _))]
    refine back_newA (resV_cell rfl (lda (n := 1) (by kernel_rfl) (by first | assumption | (simp (disch := first | omega | (simp only [hNw, hPt]; omega)) only [gn0, gn1, gn2, gn3, gn4, gn5, gp0, gno, gpo] <;> first | rfl | assumption)) (by first | rfl | assumption)) (resV_cell rfl (lda (n := 1) (by kernel_rfl) (by first | assumption | (simp (disch := first | omega | (simp only [hNw, hPt]; omega)) only [gn0, gn1, gn2, gn3, gn4, gn5, gp0, gno, gpo] <;> first | rfl | assumption)) (by first | rfl | assumption)) (resV_cell rfl (lda (n := 1) (by kernel_rfl) (by first | assumption | (simp (disch := first | omega | (simp only [hNw, hPt]; omega)) only [gn0, gn1, gn2, gn3, gn4, gn5, gp0, gno, gpo] <;> first | rfl | assumption)) (by first | rfl | assumption)) resV_nil))) rfl (by rw [← hW]; exact (by (try dsimp only); repeat (first | exact g3 | apply Grow.new | (refine Grow.put ?_ _ (by first | omega | (simp only [hNw, hPt]; omega)))))) (fun H9 p1 p2 => ⟨p1, .inl ⟨i, lv, hi, hhit, hno, rfl, ?_⟩⟩)
    rcases p2 with ⟨_, p2⟩ | ⟨p2, p3⟩
    · exact absurd (flat_tup3 p2) (by rw [kl.flat]; simp)
    · exact (((kl.put (n := X.next + 1) (.loop .exhausted (some .ret) T0 [37, 38] as35 bd35 X.next) (by omega)).put (n := X.next + 1) .dead (by omega)).put (n := X.next) .shut (by omega)).low (by omega) |>.to ⟨Nat.le_of_eq p3.symm, fun n _ => p2 n⟩
end
end Go.Ev

set_option maxRecDepth 100000
set_option linter.unusedSimpArgs false
set_option linter.unusedVariables false
namespace Go.Ev
open Go Go.Proofs
noncomputable section
def leftR (p : Pst) (s : Int) : Int := if p.fall ≤ s then 0 else if p.gain = 0 then -1 else (p.fall - s + p.gain - 1) / p.gain
end
end Go.Ev

set_option maxRecDepth 100000
set_option linter.unusedSimpArgs false
set_option linter.unusedVariables false
namespace Go.Ev
open Go Go.Proofs
noncomputable section
/-- Bools and numbers as they lie. -/
def bl (N : Nat) (g : Nat → Bool) : List AV := (List.range N).map fun k => .bool (g k)
def il (N : Nat) (g : Nat → Nat) : List AV := (List.range N).map fun k => I (g k : Int)
/-- How many are true below. -/
def cntN (g : Nat → Bool) : Nat → Nat
  | 0 => 0
  | i + 1 => cntN g i + (if g i = true then 1 else 0)
/-- Of each speed, whether it is in a range. -/
def fl (x : Iv) (v : Nat) : Bool := bP (inI (v : Int) x)
def nextI (p : Pst) (f : Int) (x : Iv) (row : List Int) : Iv := if x = nul then nul else stepI p f x row
theorem next_iff {p : Pst} {f : Int} {x : Iv} {row : List Int} {v : Int} (hv : 0 ≤ v ∧ v ≤ 1000) : inI v (nextI p f x row) ↔ (x ≠ nul ∧ x.1 - p.drop ≤ v ∧ v ≤ x.2 + p.gain) ∧ AgreeR p f row v := by
  unfold nextI
  by_cases h : x = nul
  · rw [if_pos h]
    exact ⟨fun h9 => absurd h9 (not_nul _), fun h9 => absurd h h9.1.1⟩
  · rw [if_neg h, mem_step]
    exact ⟨fun h9 => ⟨⟨h, h9.2.1⟩, h9.2.2⟩, fun h9 => ⟨hv, h9.1.2, h9.2⟩⟩
/-- What was there, but for one block. -/
structure At1 (K B : Nat) (G : Heap) (o : AObj) (H : Heap) : Prop where
  nx : H.next = G.next
  oth : ∀ j, j ≠ B → H.get j = G.get j
  self : H.get B = some o
  lo : K ≤ H.lo
theorem At1.start {K B : Nat} {G : Heap} {o : AObj} (h : G.get B = some o) (hl : K ≤ G.lo) : At1 K B G o G := ⟨rfl, fun _ _ => rfl, h, hl⟩
theorem At1.put {K B : Nat} {G H : Heap} {o o' : AObj} (h : At1 K B G o H) (hk : K ≤ B) : At1 K B G o' (H.put B o') :=
  ⟨by simp [h.nx], fun j hj => by rw [gpo _ _ _ _ hj]; exact h.oth j hj, gp0 _ _ _, by rw [Heap.lo_put]; have := h.lo; omega⟩
theorem At1.grow {W G H : Heap} {B : Nat} {o : AObj} (h : At1 W.next B G o H) (g : Grow W G) (hk : W.next ≤ B) : Grow W H :=
  ⟨by rw [h.nx]; exact g.next, fun n hn => by rw [h.oth n (by omega)]; exact g.get n hn, h.lo⟩
theorem At1.to {K B : Nat} {G H : Heap} {o o' : AObj} (h : At1 K B G o H) (e : o = o') : At1 K B G o' H := e ▸ h
end
end Go.Ev

set_option maxRecDepth 100000
set_option linter.unusedSimpArgs false
set_option linter.unusedVariables false
namespace Go.Ev
open Go Go.Proofs
noncomputable section
theorem last_next {p : Pst} {f : Int} {rows : List (List Int)} {h : Nat} (hh : h < rows.length) : lastI p f (rows.take (h + 1)) = nextI p f (lastI p f (rows.take h)) rows[h] := by
  rw [List.take_succ_eq_append_getElem hh, lastI_snoc]; rfl
end
end Go.Ev

set_option maxRecDepth 100000
set_option linter.unusedSimpArgs false
set_option linter.unusedVariables false
namespace Go.Ev
open Go Go.Proofs
noncomputable section
end
end Go.Ev

set_option maxRecDepth 100000
set_option linter.unusedSimpArgs false
set_option linter.unusedVariables false
namespace Go.Ev
open Go Go.Proofs
noncomputable section
/-- The least and the greatest of some speeds, as the reference keeps them. -/
def AtSt (S : Nat → Prop) (lo hi : Int) : Prop := (lo = -1 ∧ hi = 0 ∧ ∀ v, ¬ S v) ∨ ∃ a c : Nat, lo = (a : Int) ∧ hi = (c : Int) ∧ S a ∧ S c ∧ ∀ v, S v → a ≤ v ∧ v ≤ c
theorem AtSt.uniq {S : Nat → Prop} {lo hi lo' hi' : Int} (h : AtSt S lo hi) (h' : AtSt S lo' hi') : lo = lo' ∧ hi = hi' := by
  rcases h with ⟨h1, h2, h3⟩ | ⟨a, c, h1, h2, h3, h4, h5⟩
  · rcases h' with ⟨k1, k2, k3⟩ | ⟨a', c', k1, k2, k3, k4, k5⟩
    · exact ⟨by omega, by omega⟩
    · exact absurd k3 (h3 _)
  · rcases h' with ⟨k1, k2, k3⟩ | ⟨a', c', k1, k2, k3, k4, k5⟩
    · exact absurd h3 (k3 _)
    · have := h5 _ k3; have := h5 _ k4; have := k5 _ h3; have := k5 _ h4
      exact ⟨by omega, by omega⟩
theorem AtSt.congr {S S' : Nat → Prop} {lo hi : Int} (h : AtSt S lo hi) (hs : ∀ v, S' v ↔ S v) : AtSt S' lo hi := by
  rcases h with ⟨h1, h2, h3⟩ | ⟨a, c, h1, h2, h3, h4, h5⟩
  · exact .inl ⟨h1, h2, fun v hv => h3 v ((hs v).1 hv)⟩
  · exact .inr ⟨a, c, h1, h2, (hs a).2 h3, (hs c).2 h4, fun v hv => h5 v ((hs v).1 hv)⟩
theorem AtSt.add {S S' : Nat → Prop} {lo hi : Int} (h : AtSt S lo hi) {w : Nat} (hs : ∀ v, S' v ↔ S v ∨ v = w) : AtSt S' (if lo < 0 ∨ (w : Int) < lo then (w : Int) else lo) (max hi (w : Int)) := by
  rcases h with ⟨h1, h2, h3⟩ | ⟨a, c, h1, h2, h3, h4, h5⟩
  · refine .inr ⟨w, w, by rw [if_pos (.inl (by omega))], by omega, (hs w).2 (.inr rfl), (hs w).2 (.inr rfl), fun v hv => ?_⟩
    rcases (hs v).1 hv with h | h
    · exact absurd h (h3 v)
    · omega
  · refine .inr ⟨min a w, max c w, ?_, by omega, ?_, ?_, fun v hv => ?_⟩
    · by_cases e : lo < 0 ∨ (w : Int) < lo
      · rw [if_pos e]; omega
      · rw [if_neg e]; omega
    · rcases Nat.le_total a w with e | e
      · rw [Nat.min_eq_left e]; exact (hs a).2 (.inl h3)
      · rw [Nat.min_eq_right e]; exact (hs w).2 (.inr rfl)
    · rcases Nat.le_total c w with e | e
      · rw [Nat.max_eq_right e]; exact (hs w).2 (.inr rfl)
      · rw [Nat.max_eq_left e]; exact (hs c).2 (.inl h4)
    · rcases (hs v).1 hv with h | h
      · have := h5 v h; omega
      · omega
theorem AtSt.nil {S : Nat → Prop} (h : ∀ v, ¬ S v) : AtSt S (-1) 0 := .inl ⟨rfl, rfl, h⟩
theorem AtSt.bd {S : Nat → Prop} {lo hi : Int} (h : AtSt S lo hi) (hb : ∀ v, S v → v < 1001) : (-1 ≤ lo ∧ lo ≤ 1000) ∧ 0 ≤ hi ∧ hi ≤ 1000 := by
  rcases h with ⟨h1, h2, h3⟩ | ⟨a, c, h1, h2, h3, h4, h5⟩
  · omega
  · have := hb _ h3; have := hb _ h4; omega
noncomputable def atV (S : Nat → Prop) : Int × Int := Classical.epsilon fun x => AtSt S x.1 x.2
theorem AtSt.val {S : Nat → Prop} {lo hi : Int} (h : AtSt S lo hi) : atV S = (lo, hi) := by
  have e : AtSt S (atV S).1 (atV S).2 := Classical.epsilon_spec (p := fun x : Int × Int => AtSt S x.1 x.2) ⟨(lo, hi), h⟩
  have := e.uniq h
  exact Prod.ext this.1 this.2
/-- The speeds that may be behind some hours, with one of the first gauges failed. -/
def SpdS (p : Pst) (rows : List (List Int)) (i : Nat) (v : Nat) : Prop := v < 1001 ∧ ∃ j, j < i ∧ inI (v : Int) (lastI p ((j : Int) - 1) rows)
end
end Go.Ev

set_option maxRecDepth 100000
set_option linter.unusedSimpArgs false
set_option linter.unusedVariables false
namespace Go.Ev
open Go Go.Proofs
noncomputable section
/-- A list of lists that was made. -/
def RowsM (k0 : Nat) (G : Heap) (v : AV) (rows : List (List Int)) : Prop := ∃ vs : List AV, vs.length = rows.length ∧ Mine k0 G v 22 1 vs ∧ ∀ (i : Nat) (x : AV) (r : List Int), vs[i]? = some x → rows[i]? = some r → Mine k0 G x 3 1 (r.map I)
theorem flat_one : ∀ vs : List AV, (vs.map fun x => [x]).flatten = vs
  | [] => rfl
  | a :: l => by rw [List.map_cons, List.flatten_cons, flat_one l]; rfl
theorem RowsM.at {k0 : Nat} {G : Heap} {v : AV} {rows : List (List Int)} (h : RowsM k0 G v rows) : LstAt G v rows := by
  obtain ⟨vs, h1, h2, h3⟩ := h
  exact ⟨vs, h1, Mine.row (e := 22) (by rw [flat_one]; exact h2) (fun x hx => by obtain ⟨y, _, rfl⟩ := List.mem_map.1 hx; rfl) (by omega), fun i x r a c => (h3 i x r a c).ints⟩
theorem RowsM.nil (k0 : Nat) (G : Heap) : RowsM k0 G .nils [] := ⟨[], rfl, Mine.nil _ _ _ _, fun i x s h _ => by simp at h⟩
theorem RowsM.to {k0 : Nat} {G G' : Heap} {v : AV} {rows : List (List Int)} (h : RowsM k0 G v rows) (e : Ext G G') : RowsM k0 G' v rows := by
  obtain ⟨vs, h1, h2, h3⟩ := h
  exact ⟨vs, h1, h2.to e, fun i x r a c => (h3 i x r a c).to e⟩
theorem RowsM.low {k0 k1 : Nat} {G : Heap} {v : AV} {rows : List (List Int)} (h : RowsM k1 G v rows) (hk : k0 ≤ k1) : RowsM k0 G v rows := by
  obtain ⟨vs, h1, h2, h3⟩ := h
  exact ⟨vs, h1, h2.low hk, fun i x r a c => (h3 i x r a c).low hk⟩
theorem RowsM.snoc {k0 : Nat} {G : Heap} {ov x : AV} {l : List (List Int)} {s : List Int} (h : RowsM k0 G ov l) (hx : Mine k0 G x 3 1 (s.map I)) : ∃ cs, Mine k0 G ov 22 1 cs ∧ cs.length = l.length ∧ ∀ v2 G2, Mine k0 G2 v2 22 1 (cs ++ [x]) → G.next ≤ G2.next → (∀ j, j < G.next → (∀ m, ov ≠ .opn j m) → G2.get j = G.get j) → RowsM k0 G2 v2 (l ++ [s]) := by
  obtain ⟨vs, h1, h2, h3⟩ := h
  refine ⟨_, h2, h1, fun v2 G2 k1 k2 k3 => ⟨vs ++ [x], by simp [h1], k1, fun i y t a c => ?_⟩⟩
  by_cases hi : i < vs.length
  · rw [List.getElem?_append_left hi] at a
    rw [List.getElem?_append_left (by omega)] at c
    exact (h3 i y t a c).offE h2 (.inl (by decide)) k2 k3
  · by_cases hi2 : i = vs.length
    · subst hi2
      rw [List.getElem?_append_right (Nat.le_refl _)] at a
      rw [List.getElem?_append_right (by omega), h1] at c
      simp at a c
      subst a c
      exact hx.offE h2 (.inl (by decide)) k2 k3
    · rw [List.getElem?_eq_none (by simp; omega)] at a; cases a
theorem RowsM.backS {H G H' : Heap} {v : AV} {l : List (List Int)} (h : RowsM H.next G v l) (r : (H' = H ∧ v.flat = true) ∨ ((∀ n, H'.get n = G.get n) ∧ H'.next = G.next)) : RowsM H.next H' v l := by
  rcases r with ⟨rfl, hf⟩ | ⟨h1, h2⟩
  · obtain ⟨vs, a1, a2, a3⟩ := h
    rcases a2 with ⟨rfl, a2⟩ | ⟨b, n, rfl, _⟩
    · subst a2; exact ⟨[], a1, .inl ⟨rfl, rfl⟩, fun i x s h _ => by simp at h⟩
    · cases hf
  · exact h.to ⟨by omega, fun n _ => h1 n⟩
theorem flat_post {x : AV} {p : Pst} (h : (AV.agg (p.c x)).flat = true) : x.flat = true := by
  have h1 : AV.flats [x, I p.gain, I p.drop, I p.fall, I p.out, I p.ahead] = true := h
  unfold AV.flats at h1
  cases hx : x.flat with
  | false => rw [hx] at h1; cases h1
  | true => rfl
def thinB (p : Pst) (rows : List (List Int)) : Bool := (rows.take 66).all (fun r => decide (r.length ≤ 15)) && (decide (p.errs.length ≤ 15) && decide (rows.length ≤ 65))
def fewB (p : Pst) (rows : List (List Int)) : Bool := thinB p rows && (decide (faultE p rows ≠ 0) || decide (rows.length ≤ 8))
theorem thin_facts {p : Pst} {rows : List (List Int)} (h : thinB p rows = true) : p.errs.length ≤ 15 ∧ rows.length ≤ 65 ∧ ∀ r ∈ rows, r.length ≤ 15 := by
  unfold thinB at h
  simp only [Bool.and_eq_true, decide_eq_true_eq, List.all_eq_true] at h
  refine ⟨h.2.1, h.2.2, fun r hr => h.1 r ?_⟩
  rw [List.take_of_length_le (by omega)]
  exact hr
theorem c20 (m : Nat) (ev : AV) (p : Pst) (H : Heap) (hV : Ints H ev p.errs) (hl : p.errs.length ≤ 1000000) : ∃ v H', RR (m + 2) (.fn 20 [.agg (p.c ev)]) H = some (v, H') ∧ ∃ x, v = .agg (p.c x) ∧ Ret H H' ∧ Mine H.next H' x 3 1 (p.errs.map I) := by
  show ∃ v H', evFn Try.prog (RR (m + 1)) 20 [.agg (p.c ev)] H = some (v, H') ∧ ∃ x, v = .agg (p.c x) ∧ Ret H H' ∧ Mine H.next H' x 3 1 (p.errs.map I)
  refine fn_okE Try.func20 rfl rfl (by kernel_rfl) (by kernel_rfl) ?_
  obtain ⟨W, hW⟩ : ∃ W : Heap, W = ⟨H.t, H.next, H.next⟩ := ⟨_, rfl⟩
  have hg : ∀ n, W.get n = H.get n := fun n => by rw [hW]; rfl
  have hN : W.next = H.next := by rw [hW]
  have hE : ∀ G, Grow W G → Ext H G := fun G g => ⟨by rw [← hN]; exact g.next, fun n k => by rw [g.get n (by rw [hN]; exact k), hg]⟩
  have hG : Grow W W := Grow.refl (by rw [hW]; exact Nat.le_refl _)
  rw [← hW]
  have pev : ev.plain = true := lpl hV.len
  refine Ok.seq ?_
  refine Ok.region ?_
  refine OkO.box rfl rfl ?_
  refine OkO.alloc (z := [.nils, .int .i64 0, .int .i64 0, .int .i64 0, .int .i64 0, .int .i64 0]) rfl (by kernel_rfl) ?_
  refine OkO.nil ?_
  refine Ok.seq ?_
  refine Ok.drawn [(0, true, []), (1, true, []), (3, true, []), (4, true, []), (5, true, []), (6, true, []), (7, true, []), (8, true, []), (9, true, []), (10, true, []), (11, true, []), (12, true, []), (2, false, [12, 10, 8, 6, 4]), (13, true, []), (14, false, [])] (by kernel_rfl) ?_
  refine OkP.step ?_
  refine OkO.fieldAddr (o := 0) rfl (by kernel_rfl) rfl ?_
  refine OkO.nil ⟨rfl, ?_⟩
  refine OkP.step ?_
  refine OkO.load rfl rfl (lda (n := 1) (by kernel_rfl) (by first | assumption | (simp (disch := first | omega | (simp only [hNw, hPt]; omega)) only [gn0, gn1, gn2, gn3, gn4, gn5, gp0, gno, gpo] <;> first | rfl | assumption | exact gp0 _ _ _ | exact gn0 _ _)) (by first | rfl | assumption)) ?_
  refine OkO.nil ⟨rfl, ?_⟩
  refine OkP.step ?_
  refine OkO.fieldAddr (o := 1) rfl (by kernel_rfl) rfl ?_
  refine OkO.nil ⟨rfl, ?_⟩
  refine OkP.step ?_
  refine OkO.load rfl rfl (lda (n := 1) (by kernel_rfl) (by first | assumption | (simp (disch := first | omega | (simp only [hNw, hPt]; omega)) only [gn0, gn1, gn2, gn3, gn4, gn5, gp0, gno, gpo] <;> first | rfl | assumption | exact gp0 _ _ _ | exact gn0 _ _)) (by first | rfl | assumption)) ?_
  refine OkO.nil ⟨rfl, ?_⟩
  refine OkP.step ?_
  refine OkO.fieldAddr (o := 2) rfl (by kernel_rfl) rfl ?_
  refine OkO.nil ⟨rfl, ?_⟩
  refine OkP.step ?_
  refine OkO.load rfl rfl (lda (n := 1) (by kernel_rfl) (by first | assumption | (simp (disch := first | omega | (simp only [hNw, hPt]; omega)) only [gn0, gn1, gn2, gn3, gn4, gn5, gp0, gno, gpo] <;> first | rfl | assumption | exact gp0 _ _ _ | exact gn0 _ _)) (by first | rfl | assumption)) ?_
  refine OkO.nil ⟨rfl, ?_⟩
  refine OkP.step ?_
  refine OkO.fieldAddr (o := 3) rfl (by kernel_rfl) rfl ?_
  refine OkO.nil ⟨rfl, ?_⟩
  refine OkP.step ?_
  refine OkO.load rfl rfl (lda (n := 1) (by kernel_rfl) (by first | assumption | (simp (disch := first | omega | (simp only [hNw, hPt]; omega)) only [gn0, gn1, gn2, gn3, gn4, gn5, gp0, gno, gpo] <;> first | rfl | assumption | exact gp0 _ _ _ | exact gn0 _ _)) (by first | rfl | assumption)) ?_
  refine OkO.nil ⟨rfl, ?_⟩
  refine OkP.step ?_
  refine OkO.fieldAddr (o := 4) rfl (by kernel_rfl) rfl ?_
  refine OkO.nil ⟨rfl, ?_⟩
  refine OkP.step ?_
  refine OkO.load rfl rfl (lda (n := 1) (by kernel_rfl) (by first | assumption | (simp (disch := first | omega | (simp only [hNw, hPt]; omega)) only [gn0, gn1, gn2, gn3, gn4, gn5, gp0, gno, gpo] <;> first | rfl | assumption | exact gp0 _ _ _ | exact gn0 _ _)) (by first | rfl | assumption)) ?_
  refine OkO.nil ⟨rfl, ?_⟩
  refine OkP.step ?_
  refine OkO.fieldAddr (o := 5) rfl (by kernel_rfl) rfl ?_
  refine OkO.nil ⟨rfl, ?_⟩
  refine OkP.step ?_
  refine OkO.load rfl rfl (lda (n := 1) (by kernel_rfl) (by first | assumption | (simp (disch := first | omega | (simp only [hNw, hPt]; omega)) only [gn0, gn1, gn2, gn3, gn4, gn5, gp0, gno, gpo] <;> first | rfl | assumption | exact gp0 _ _ _ | exact gn0 _ _)) (by first | rfl | assumption)) ?_
  refine OkO.nil ⟨rfl, ?_⟩
  refine OkP.step ?_
  refine OkO.callE rfl rfl rfl rfl rfl (c30 m ev p.errs _ (hV.ext (hE _ (by (try dsimp only); repeat (first | exact hG | apply Grow.new | (refine Grow.put ?_ _ (by first | omega | (simp only [hNw, hPt]; omega))))))) hl) ?_ -- "sackung/sackunglaw04.list"
  rintro v30 H30 ⟨q1, r1⟩
  have g30 : Grow W H30 := Grow.ret (by (try dsimp only); repeat (first | exact hG | apply Grow.new | (refine Grow.put ?_ _ (by first | omega | (simp only [hNw, hPt]; omega))))) q1
  have n30 := q1.ext.next
  simp only [hNw] at n30
  have a30 : (H30.get W.next).bind AObj.cs = some (p.c ev) := by rw [q1.ext.get _ (by simp only [hNw]; omega)]; simp (disch := first | omega | (simp only [hNw, hPt]; omega)) only [gn0, gn1, gn2, gn3, gn4, gn5, gp0, gno, gpo] <;> rfl
  have o30 : H30.get (W.next + 1) = some (.cells [.nils, I 0, I 0, I 0, I 0, I 0] 30) := by rw [q1.ext.get _ (by simp only [hNw]; omega)]; exact gn1 _ _ _
  obtain ⟨hv1, hv2⟩ := r1.one
  refine OkO.nil ⟨(sco (sld rfl rfl (lda (n := 1) (by kernel_rfl) (by first | assumption | (simp (disch := first | omega | (simp only [hNw, hPt]; omega)) only [gn0, gn1, gn2, gn3, gn4, gn5, gp0, gno, gpo] <;> first | rfl | assumption | exact gp0 _ _ _ | exact gn0 _ _)) (by first | rfl | assumption)) rfl (eqr _ (by first | rfl | exact lpl (by assumption) | (simp [AV.plain, AV.plains, AV.cells, pev, Pst.c])))) (sco (sld rfl rfl (lda (n := 1) (by kernel_rfl) (by first | assumption | (simp (disch := first | omega | (simp only [hNw, hPt]; omega)) only [gn0, gn1, gn2, gn3, gn4, gn5, gp0, gno, gpo] <;> first | rfl | assumption | exact gp0 _ _ _ | exact gn0 _ _)) (by first | rfl | assumption)) rfl (eqr _ (by first | rfl | exact lpl (by assumption) | (simp [AV.plain, AV.plains, AV.cells, pev, Pst.c])))) (sco (sld rfl rfl (lda (n := 1) (by kernel_rfl) (by first | assumption | (simp (disch := first | omega | (simp only [hNw, hPt]; omega)) only [gn0, gn1, gn2, gn3, gn4, gn5, gp0, gno, gpo] <;> first | rfl | assumption | exact gp0 _ _ _ | exact gn0 _ _)) (by first | rfl | assumption)) rfl (eqr _ (by first | rfl | exact lpl (by assumption) | (simp [AV.plain, AV.plains, AV.cells, pev, Pst.c])))) (sco (sld rfl rfl (lda (n := 1) (by kernel_rfl) (by first | assumption | (simp (disch := first | omega | (simp only [hNw, hPt]; omega)) only [gn0, gn1, gn2, gn3, gn4, gn5, gp0, gno, gpo] <;> first | rfl | assumption | exact gp0 _ _ _ | exact gn0 _ _)) (by first | rfl | assumption)) rfl (eqr _ (by first | rfl | exact lpl (by assumption) | (simp [AV.plain, AV.plains, AV.cells, pev, Pst.c])))) (sco (sld rfl rfl (lda (n := 1) (by kernel_rfl) (by first | assumption | (simp (disch := first | omega | (simp only [hNw, hPt]; omega)) only [gn0, gn1, gn2, gn3, gn4, gn5, gp0, gno, gpo] <;> first | rfl | assumption | exact gp0 _ _ _ | exact gn0 _ _)) (by first | rfl | assumption)) rfl (eqr _ (by first | rfl | exact lpl (by assumption) | (simp [AV.plain, AV.plains, AV.cells, pev, Pst.c])))) rfl))))), ?_⟩
  refine OkP.step ?_
  refine OkO.build (cs := p.c v30) (z := [.nils, .int .i64 0, .int .i64 0, .int .i64 0, .int .i64 0, .int .i64 0]) (pl := [(0, 1), (1, 1), (2, 1), (3, 1), (4, 1), (5, 1)]) rfl (by kernel_rfl) rfl (by show fillS _ _ _ = some [v30, I p.gain, I p.drop, I p.fall, I p.out, I p.ahead]; simp [fillS, spl, hv1, show ∀ z, (I z).cells = [I z] from fun _ => rfl]) ?_
  refine OkO.nil ⟨rfl, ?_⟩
  refine OkP.step ?_
  refine OkO.store rfl rfl rfl (sAc (n := 6) (ag := true) (by kernel_rfl) (by first | assumption | (simp (disch := first | omega | (simp only [hNw, hPt]; omega)) only [gn0, gn1, gn2, gn3, gn4, gn5, gp0, gno, gpo] <;> first | rfl | assumption | exact gp0 _ _ _ | exact gn0 _ _)) rfl (by show atoms [v30, I p.gain, I p.drop, I p.fall, I p.out, I p.ahead] = true; simp [atoms, hv2, show ∀ z, (I z).atom = true from fun _ => rfl]) (by first | rfl | exact spl_set _ _ _ (by first | assumption | omega | (simp; omega)))) ?_
  refine OkO.nil ⟨rfl, ?_⟩
  refine OkP.nil ?_
  refine Ok.ret ⟨.inr rfl, ?_⟩
  refine back_newA (resV_cell rfl (ldg (n := 6) (by kernel_rfl) (by first | assumption | (simp (disch := first | omega | (simp only [hNw, hPt]; omega)) only [gn0, gn1, gn2, gn3, gn4, gn5, gp0, gno, gpo] <;> first | rfl | assumption)) (by first | rfl | assumption)) resV_nil) rfl (by rw [← hW]; exact (by (try dsimp only); repeat (first | exact g30 | apply Grow.new | (refine Grow.put ?_ _ (by first | omega | (simp only [hNw, hPt]; omega)))))) (fun H9 p1 p2 => ⟨v30, rfl, p1, ?_⟩)
  exact Mine.backT (((r1.put _ (by first | omega | (simp only [hNw]; omega)))).low (by simp only [hNw]; omega)) p2 flat_post
theorem c22 (m : Nat) (sv : AV) (l : List (List Int)) (H : Heap) (hS : LstAt H sv l) (hl9 : l.length ≤ 100000) (hs9 : ∀ s ∈ l, s.length ≤ 100000) : ∃ v H', RR (m + 2) (.fn 22 [sv]) H = some (v, H') ∧ Ret H H' ∧ RowsM H.next H' v l := by
  show ∃ v H', evFn Try.prog (RR (m + 1)) 22 [sv] H = some (v, H') ∧ Ret H H' ∧ RowsM H.next H' v l
  refine fn_okE Try.func22 rfl rfl (by kernel_rfl) (by kernel_rfl) ?_
  obtain ⟨W, hW⟩ : ∃ W : Heap, W = ⟨H.t, H.next, H.next⟩ := ⟨_, rfl⟩
  have hg : ∀ n, W.get n = H.get n := fun n => by rw [hW]; rfl
  have hN : W.next = H.next := by rw [hW]
  have hE : ∀ G, Grow W G → Ext H G := fun G g => ⟨by rw [← hN]; exact g.next, fun n k => by rw [g.get n (by rw [hN]; exact k), hg]⟩
  have hG : Grow W W := Grow.refl (by rw [hW]; exact Nat.le_refl _)
  rw [← hW]
  have hlen := hS.len
  refine Ok.seq ?_
  refine Ok.region ?_
  refine OkO.assign rfl rfl ?_
  refine OkO.nil ?_
  refine Ok.seq ?_
  refine Ok.region ?_
  refine OkO.assign rfl rfl ?_
  refine OkO.nil ?_
  refine Ok.seq ?_
  refine Ok.seq ?_
  refine Ok.region ?_
  refine OkO.assign rfl rfl ?_
  refine OkO.nil ?_
  refine Ok.block ?_
  refine Ok.loop (fun n s => ∃ i : Nat, n = l.length - i ∧ i ≤ l.length ∧ (∃ ov, RowsM W.next s.H ov (l.take i) ∧ Has 5 [(0, sv), (3, ov), (4, I (i : Int))] s.T) ∧ s.D = [] ∧ Grow W s.H) (l.length) (by unfold loopFuel; omega)
    ⟨0, rfl, Nat.zero_le _, ⟨.nils, RowsM.nil _ _, Has.of (by kernel_rfl)⟩, rfl, hG⟩ ?_
  rintro n ⟨T, D, G⟩ ⟨i, hn, hi, ⟨ov, hm, ⟨f, hT⟩⟩, hD, hg⟩
  dsimp only at *
  subst hT hD
  have hgn := hg.next
  refine Ok.seq ?_
  refine Ok.seq ?_
  refine Ok.region ?_
  refine OkO.move rfl rfl ?_
  refine OkO.move rfl rfl ?_
  refine OkO.builtin rfl rfl rfl (bln (by kernel_rfl) (by first | assumption | rfl)) ?_
  refine OkO.bin rfl rfl rfl (bin_lss _ _) ?_
  refine OkO.nil ?_
  refine Ok.cond rfl (fun h1 => ?_) (fun h1 => ?_)
  · -- yes h1
    have hlt : i < l.length := by simpa using h1
    obtain ⟨x, bb, off, cs, i1, i2, i3, i4, i7⟩ := (hS.ext (hE _ hg)).at_ i hlt
    have pb : x.plain = true := lpl i7.len
    refine Ok.skip ?_
    refine Ok.seq ?_
    refine Ok.block ?_
    refine Ok.region ?_
    refine OkO.move rfl rfl ?_
    refine OkO.move rfl rfl ?_
    refine OkO.move rfl rfl ?_
    refine OkO.index (sz := 1) rfl rfl rfl (by kernel_rfl) (by first | assumption | rfl | exact slAt_slice (by omega) | exact slAt_opn (by omega)) ?_ -- index ('Go.Operand.tmp', 12) ('Go.Operand.tmp', 13)
    refine OkO.load rfl rfl (lda (n := 1) (by kernel_rfl) (by first | assumption | (simp (disch := first | omega | (simp only [hNw, hPt]; omega)) only [gn0, gn1, gn2, gn3, gn4, gn5, gp0, gno, gpo] <;> first | rfl | assumption | exact gp0 _ _ _ | exact gn0 _ _)) (by first | rfl | assumption)) ?_
    refine OkO.callE rfl rfl rfl rfl rfl (c30 m x l[i] _ i7 (by have := hs9 l[i] (List.getElem_mem hlt); omega)) ?_ -- "sackung/sackunglaw04.list"
    rintro x' H38 ⟨q38, r38⟩
    have g38 : Grow W H38 := Grow.ret (by (try dsimp only); repeat (first | exact hg | exact hG | apply Grow.new | (refine Grow.put ?_ _ (by first | omega | (simp only [hNw, hPt]; omega))))) q38
    have n38 := q38.ext.next
    obtain ⟨cs9, hm9, hcl9, hsn⟩ := RowsM.snoc (s := l[i]) (hm.to q38.ext) (r38.low (by omega))
    obtain ⟨u1, u2⟩ := r38.one
    refine OkO.buildSlice (el := 22) (sz := 1) (z := [.nils]) (cs := [x']) rfl (by kernel_rfl) (by decide) rfl (by show fillS (fun i => some (i * 1, 1)) [AV.nils] [(0, x')] = some [x']; simp [fillS, spl, u1]) ?_
    refine OkO.builtinE rfl rfl rfl (Mine.app2 (W := W) (k0 := W.next) (t := 25) (u := 25) (sz := 1) (by_ := 24) (e := 22) (n := 1) (new := [x']) (hm9.to (Grow.toNew _ _)) (g38.new _) (Nat.le_refl _) (by simp; omega) (by kernel_rfl) (by kernel_rfl) (elems_new (n := 1) (sz := 1) rfl) rfl rfl (by rw [hcl9, List.length_take]; omega) (by omega) (by omega) (by simp [atoms, u2])) ?_
    rintro v2 G2 ⟨r1, r2, r3, r4, r5, _⟩
    simp only [hNw] at r4 r5
    have hnew : RowsM W.next G2 v2 (l.take (i + 1)) := by
            rw [List.take_succ_eq_append_getElem hlt]
            exact hsn v2 G2 r1 (by omega) (fun j hj hne => by rw [r4 j (by omega) hne]; exact gno _ _ _ (by omega))
    refine OkO.assign rfl rfl ?_
    refine OkO.nil ?_
    refine Ok.region ?_
    refine OkO.move rfl rfl ?_
    refine OkO.bin rfl rfl rfl (bin_add (by omega) (by omega)) ?_
    refine OkO.assign rfl rfl ?_
    refine OkO.nil ?_
    refine ⟨l.length - (i + 1), by omega, i + 1, rfl, hlt, ⟨_, hnew, Has.of (by kernel_rfl)⟩, rfl, r2⟩
  · -- no h1
    have hge : i = l.length := by simp at h1; omega
    subst hge
    rw [List.take_length] at hm
    refine Ok.exit ?_
    refine Ok.seq ?_
    refine Ok.region ?_
    refine OkO.move rfl rfl ?_
    refine OkO.assign rfl rfl ?_
    refine OkO.nil ?_
    refine Ok.ret ⟨.inr rfl, ?_⟩
    refine back_newA (resV_tmp rfl resV_nil) rfl (by rw [← hW]; exact hg) (fun H9 p1 p2 => ⟨p1, (hm.low (by omega)).backS p2⟩)
theorem c58 (m : Nat) (ev rv : AV) (p : Pst) (rows : List (List Int)) (H : Heap) (hV : Ints H ev p.errs) (hRs : LstAt H rv rows) : RR (m + 1) (.fn 58 [.agg (p.c ev), rv]) H = some (.bool (thinB p rows), H) := by
  refine (R_fn _ _ _ _ _).trans ?_
  refine fn_ok Try.func58 rfl rfl (by kernel_rfl) (by kernel_rfl) ?_
  obtain ⟨W, hW⟩ : ∃ W : Heap, W = ⟨H.t, H.next, H.next⟩ := ⟨_, rfl⟩
  have hg : ∀ n, W.get n = H.get n := fun n => by rw [hW]; rfl
  have hN : W.next = H.next := by rw [hW]
  have hE : ∀ G, Grow W G → Ext H G := fun G g => ⟨by rw [← hN]; exact g.next, fun n k => by rw [g.get n (by rw [hN]; exact k), hg]⟩
  have hG : Grow W W := Grow.refl (by rw [hW]; exact Nat.le_refl _)
  rw [← hW]
  have pev : ev.plain = true := lpl hV.len
  have hel := hV.len
  have hrlen := hRs.len
  refine Ok.seq ?_
  refine Ok.region ?_
  refine OkO.box rfl rfl ?_
  refine OkO.assign rfl rfl ?_
  refine OkO.nil ?_
  refine Ok.seq ?_
  refine Ok.seq ?_
  refine Ok.region ?_
  refine OkO.assign rfl rfl ?_
  refine OkO.nil ?_
  refine Ok.block ?_
  obtain ⟨H6, hH6⟩ : ∃ H6, H6 = W.new (.cells (p.c ev) 24) := ⟨_, rfl⟩
  have e6 : (H6.get W.next).bind AObj.cs = some (p.c ev) := by rw [hH6, gn0]; rfl
  have g6 : Grow W H6 := by rw [hH6]; exact hG.new _
  refine Ok.loop (fun n s => ∃ i : Nat, n = 67 - i ∧ i ≤ rows.length ∧ i ≤ 66 ∧ (∀ (j : Nat) (hj : j < rows.length), j < i → rows[j].length ≤ 15) ∧ Has 6 [(1, rv), (2, .ptr W.next 0), (5, I (i : Int))] s.T ∧ s.D = [] ∧ s.H = H6) (67) (by unfold loopFuel; omega)
    ⟨0, rfl, Nat.zero_le _, by omega, fun j hj h => absurd h (Nat.not_lt_zero j), Has.of (by kernel_rfl), rfl, by rw [hH6]; rfl⟩ ?_
  rintro n ⟨T, D, G⟩ ⟨i, hn, hi, hi66, hall, ⟨f_, hT⟩, hD, hg9⟩
  dsimp only at *
  subst hT hD
  skip
  subst hg9
  refine Ok.seq ?_
  refine Ok.seq ?_
  refine Ok.region ?_
  refine OkO.move rfl rfl ?_
  refine OkO.move rfl rfl ?_
  refine OkO.builtin rfl rfl rfl (bln (by kernel_rfl) (by first | assumption | rfl)) ?_
  refine OkO.bin rfl rfl rfl (bin_lss _ _) ?_
  refine OkO.move rfl rfl ?_
  refine OkO.split (d := 10) rfl (fun g1 => ?_) (fun g1 => ?_)
  · -- true g1
    have hlt : i < rows.length := by simpa using g1
    refine OkO.move rfl rfl ?_
    refine OkO.bin rfl rfl rfl (bin_lss _ _) ?_
    refine OkO.pick (b := true) rfl rfl (fun _ => rfl) nofun ?_
    refine OkO.nil ?_
    refine Ok.cond rfl (fun h2 => ?_) (fun h2 => ?_)
    · -- yes h2
      have hi2 : i < 66 := by (have h9 : (i : Int) < 66 := by simpa using h2); omega
      obtain ⟨xr, rb, ro, rcs, r1, r2, r3, r4, r5⟩ := (hRs.ext (hE _ g6)).at_ i hlt
      have hxl := r5.len
      have pxr : xr.plain = true := lpl r5.len
      refine Ok.skip ?_
      refine Ok.seq ?_
      refine Ok.block ?_
      refine Ok.seq ?_
      refine Ok.region ?_
      refine OkO.move rfl rfl ?_
      refine OkO.move rfl rfl ?_
      refine OkO.index (sz := 1) (n := i) rfl rfl rfl (by kernel_rfl) (by first | assumption | rfl | exact slAt_slice (by omega) | exact slAt_opn (by omega)) ?_ -- index ('Go.Operand.tmp', 16) ('Go.Operand.tmp', 17)
      refine OkO.load rfl rfl (lda (n := 1) (by kernel_rfl) (by first | assumption | (simp (disch := first | omega | (simp only [hNw, hPt]; omega)) only [gn0, gn1, gn2, gn3, gn4, gn5, gp0, gno, gpo] <;> first | rfl | assumption | exact gp0 _ _ _ | exact gn0 _ _)) (by first | rfl | assumption)) ?_
      refine OkO.builtin rfl rfl rfl (bln (by kernel_rfl) (by first | assumption | rfl)) ?_
      refine OkO.bin rfl rfl rfl (bin_gtr _ _) ?_
      refine OkO.nil ?_
      refine Ok.cond rfl (fun h3 => ?_) (fun h3 => ?_)
      · -- yes h3
        refine Ok.seq ?_
        refine Ok.region ?_
        refine OkO.assign rfl rfl ?_
        refine OkO.nil ?_
        refine Ok.ret ⟨.inr rfl, ?_⟩
        have hbad : 15 < rows[i].length := by (have h9 : (15 : Int) < (rows[i].length : Int) := by simpa using h3); omega
        exact back_flat rfl (congrArg AV.bool (by symm; unfold thinB; rw [show ((rows.take 66).all fun r => decide (r.length ≤ 15)) = false from List.all_eq_false.2 ⟨rows[i], List.mem_of_getElem? (i := i) (by rw [List.getElem?_take, if_pos (by omega)]; exact List.getElem?_eq_getElem hlt), by rw [decide_eq_true_eq]; omega⟩]; rfl)) rfl (by rw [← hW]; exact g6)
      · -- no h3
        refine Ok.skip ?_
        refine Ok.region ?_
        refine OkO.move rfl rfl ?_
        refine OkO.bin rfl rfl rfl (bin_add (by omega) (by omega)) ?_
        refine OkO.assign rfl rfl ?_
        refine OkO.nil ?_
        refine ⟨67 - (i + 1), by omega, i + 1, rfl, by omega, by omega, fun j hj h => ?_, Has.of (by kernel_rfl), rfl, rfl⟩
        by_cases e : j = i
        · subst e; (have h9 : ¬ (15 : Int) < (rows[j].length : Int) := by simpa using h3); omega
        · exact hall j hj (by omega)
    · -- no h2
      have hi2 : ¬ i < 66 := by (have h9 : ¬ (i : Int) < 66 := by simpa using h2); omega
      refine Ok.exit ?_
      refine Ok.seq ?_
      refine Ok.region ?_
      refine OkO.fieldAddr (o := 0) rfl (by kernel_rfl) rfl ?_
      refine OkO.load rfl rfl (lda (n := 1) (by kernel_rfl) (by first | assumption | (simp (disch := first | omega | (simp only [hNw, hPt]; omega)) only [gn0, gn1, gn2, gn3, gn4, gn5, gp0, gno, gpo] <;> first | rfl | assumption | exact gp0 _ _ _ | exact gn0 _ _)) (by first | rfl | assumption)) ?_
      refine OkO.builtin rfl rfl rfl (bln (by kernel_rfl) (by first | assumption | rfl)) ?_
      refine OkO.bin rfl rfl rfl (bin_leq _ _) ?_
      refine OkO.move rfl rfl ?_
      refine OkO.split (d := 26) rfl (fun g4 => ?_) (fun g4 => ?_)
      · -- true g4
        refine OkO.move rfl rfl ?_
        refine OkO.builtin rfl rfl rfl (bln (by kernel_rfl) (by first | assumption | rfl)) ?_
        refine OkO.bin rfl rfl rfl (bin_leq _ _) ?_
        refine OkO.pick (b := true) rfl rfl (fun _ => rfl) nofun ?_
        refine OkO.assign rfl rfl ?_
        refine OkO.nil ?_
        refine Ok.ret ⟨.inr rfl, ?_⟩
        have hA : ((rows.take 66).all fun r => decide (r.length ≤ 15)) = true := List.all_eq_true.2 (fun r hr => by obtain ⟨j, hj, rfl⟩ := List.mem_iff_getElem.1 hr; (have hjl : j < 66 ∧ j < rows.length := by rw [List.length_take] at hj; omega); rw [List.getElem_take, decide_eq_true_eq]; exact hall j hjl.2 (by omega))
        have hB : p.errs.length ≤ 15 := by (have h9 : (p.errs.length : Int) ≤ 15 := by simpa using g4); omega
        exact back_flat rfl (congrArg AV.bool (by unfold thinB; rw [hA, decide_eq_true hB, Bool.true_and, Bool.true_and, Bool.eq_iff_iff, decide_eq_true_eq, decide_eq_true_eq]; omega)) rfl (by rw [← hW]; exact g6)
      · -- false g4
        refine OkO.skip rfl ?_
        refine OkO.skip rfl ?_
        refine OkO.skip rfl ?_
        refine OkO.pick (b := false) rfl rfl nofun (fun _ => rfl) ?_
        refine OkO.assign rfl rfl ?_
        refine OkO.nil ?_
        refine Ok.ret ⟨.inr rfl, ?_⟩
        have hA : ((rows.take 66).all fun r => decide (r.length ≤ 15)) = true := List.all_eq_true.2 (fun r hr => by obtain ⟨j, hj, rfl⟩ := List.mem_iff_getElem.1 hr; (have hjl : j < 66 ∧ j < rows.length := by rw [List.length_take] at hj; omega); rw [List.getElem_take, decide_eq_true_eq]; exact hall j hjl.2 (by omega))
        have hB : ¬ p.errs.length ≤ 15 := by (have h9 : ¬ (p.errs.length : Int) ≤ 15 := by simpa using g4); omega
        exact back_flat rfl (congrArg AV.bool (by unfold thinB; rw [hA, decide_eq_false hB]; rfl)) rfl (by rw [← hW]; exact g6)
  · -- false g1
    have hge : rows.length ≤ i := by simpa using g1
    refine OkO.skip rfl ?_
    refine OkO.skip rfl ?_
    refine OkO.pick (b := false) rfl rfl nofun (fun _ => rfl) ?_
    refine OkO.nil ?_
    refine Ok.condF rfl ?_
    refine Ok.exit ?_
    refine Ok.seq ?_
    refine Ok.region ?_
    refine OkO.fieldAddr (o := 0) rfl (by kernel_rfl) rfl ?_
    refine OkO.load rfl rfl (lda (n := 1) (by kernel_rfl) (by first | assumption | (simp (disch := first | omega | (simp only [hNw, hPt]; omega)) only [gn0, gn1, gn2, gn3, gn4, gn5, gp0, gno, gpo] <;> first | rfl | assumption | exact gp0 _ _ _ | exact gn0 _ _)) (by first | rfl | assumption)) ?_
    refine OkO.builtin rfl rfl rfl (bln (by kernel_rfl) (by first | assumption | rfl)) ?_
    refine OkO.bin rfl rfl rfl (bin_leq _ _) ?_
    refine OkO.move rfl rfl ?_
    refine OkO.split (d := 26) rfl (fun g5 => ?_) (fun g5 => ?_)
    · -- true g5
      refine OkO.move rfl rfl ?_
      refine OkO.builtin rfl rfl rfl (bln (by kernel_rfl) (by first | assumption | rfl)) ?_
      refine OkO.bin rfl rfl rfl (bin_leq _ _) ?_
      refine OkO.pick (b := true) rfl rfl (fun _ => rfl) nofun ?_
      refine OkO.assign rfl rfl ?_
      refine OkO.nil ?_
      refine Ok.ret ⟨.inr rfl, ?_⟩
      have hA : ((rows.take 66).all fun r => decide (r.length ≤ 15)) = true := List.all_eq_true.2 (fun r hr => by obtain ⟨j, hj, rfl⟩ := List.mem_iff_getElem.1 hr; (have hjl : j < 66 ∧ j < rows.length := by rw [List.length_take] at hj; omega); rw [List.getElem_take, decide_eq_true_eq]; exact hall j hjl.2 (by omega))
      have hB : p.errs.length ≤ 15 := by (have h9 : (p.errs.length : Int) ≤ 15 := by simpa using g5); omega
      exact back_flat rfl (congrArg AV.bool (by unfold thinB; rw [hA, decide_eq_true hB, Bool.true_and, Bool.true_and, Bool.eq_iff_iff, decide_eq_true_eq, decide_eq_true_eq]; omega)) rfl (by rw [← hW]; exact g6)
    · -- false g5
      refine OkO.skip rfl ?_
      refine OkO.skip rfl ?_
      refine OkO.skip rfl ?_
      refine OkO.pick (b := false) rfl rfl nofun (fun _ => rfl) ?_
      refine OkO.assign rfl rfl ?_
      refine OkO.nil ?_
      refine Ok.ret ⟨.inr rfl, ?_⟩
      have hA : ((rows.take 66).all fun r => decide (r.length ≤ 15)) = true := List.all_eq_true.2 (fun r hr => by obtain ⟨j, hj, rfl⟩ := List.mem_iff_getElem.1 hr; (have hjl : j < 66 ∧ j < rows.length := by rw [List.length_take] at hj; omega); rw [List.getElem_take, decide_eq_true_eq]; exact hall j hjl.2 (by omega))
      have hB : ¬ p.errs.length ≤ 15 := by (have h9 : ¬ (p.errs.length : Int) ≤ 15 := by simpa using g5); omega
      exact back_flat rfl (congrArg AV.bool (by unfold thinB; rw [hA, decide_eq_false hB]; rfl)) rfl (by rw [← hW]; exact g6)
theorem c56 (m : Nat) (ev rv : AV) (p : Pst) (rows : List (List Int)) (H : Heap) (hV : Ints H ev p.errs) (hRs : LstAt H rv rows) : RR (m + 4) (.fn 56 [.agg (p.c ev), rv]) H = some (.bool (thinB p rows && decide (faultE p rows = 0)), H) := by
  refine (R_fn _ _ _ _ _).trans ?_
  refine fn_ok Try.func56 rfl rfl (by kernel_rfl) (by kernel_rfl) ?_
  obtain ⟨W, hW⟩ : ∃ W : Heap, W = ⟨H.t, H.next, H.next⟩ := ⟨_, rfl⟩
  have hg : ∀ n, W.get n = H.get n := fun n => by rw [hW]; rfl
  have hN : W.next = H.next := by rw [hW]
  have hE : ∀ G, Grow W G → Ext H G := fun G g => ⟨by rw [← hN]; exact g.next, fun n k => by rw [g.get n (by rw [hN]; exact k), hg]⟩
  have hG : Grow W W := Grow.refl (by rw [hW]; exact Nat.le_refl _)
  rw [← hW]
  have pev : ev.plain = true := lpl hV.len
  have hrlen := hRs.len
  refine Ok.seq ?_
  refine Ok.region ?_
  refine OkO.box rfl rfl ?_
  refine OkO.assign rfl rfl ?_
  refine OkO.nil ?_
  refine Ok.seq ?_
  refine Ok.region ?_
  refine OkO.load rfl rfl (ldg (n := 6) (by kernel_rfl) (by first | assumption | (simp (disch := first | omega | (simp only [hNw, hPt]; omega)) only [gn0, gn1, gn2, gn3, gn4, gn5, gp0, gno, gpo] <;> first | rfl | assumption | exact gp0 _ _ _ | exact gn0 _ _)) (by first | rfl | assumption)) ?_
  refine OkO.move rfl rfl ?_
  refine OkO.callV rfl rfl rfl rfl rfl (c58 (m + 2) ev rv p rows _ (hV.ext (hE _ (by (try dsimp only); repeat (first | exact hG | apply Grow.new | (refine Grow.put ?_ _ (by first | omega | (simp only [hNw, hPt]; omega))))))) (hRs.ext (hE _ (by (try dsimp only); repeat (first | exact hG | apply Grow.new | (refine Grow.put ?_ _ (by first | omega | (simp only [hNw, hPt]; omega)))))))) ?_ -- "sackung/sackunglaw04.Thin"
  refine OkO.move rfl rfl ?_
  refine OkO.split (d := 8) rfl (fun g1 => ?_) (fun g1 => ?_)
  · -- true g1
    refine OkO.load rfl rfl (ldg (n := 6) (by kernel_rfl) (by first | assumption | (simp (disch := first | omega | (simp only [hNw, hPt]; omega)) only [gn0, gn1, gn2, gn3, gn4, gn5, gp0, gno, gpo] <;> first | rfl | assumption | exact gp0 _ _ _ | exact gn0 _ _)) (by first | rfl | assumption)) ?_
    refine OkO.move rfl rfl ?_
    refine OkO.callV rfl rfl rfl rfl rfl (c25 (m + 0) ev rv p rows _ (hV.ext (hE _ (by (try dsimp only); repeat (first | exact hG | apply Grow.new | (refine Grow.put ?_ _ (by first | omega | (simp only [hNw, hPt]; omega))))))) (hRs.ext (hE _ (by (try dsimp only); repeat (first | exact hG | apply Grow.new | (refine Grow.put ?_ _ (by first | omega | (simp only [hNw, hPt]; omega))))))) (by have := thin_facts g1; omega) (by have := thin_facts g1; omega) (fun r hr => by have := (thin_facts g1).2.2 r hr; omega)) ?_ -- "sackung/sackungref04.Fault"
    refine OkO.bin rfl rfl rfl (bin_eql _ _) ?_
    refine OkO.pick (b := true) rfl rfl (fun _ => rfl) nofun ?_
    refine OkO.assign rfl rfl ?_
    refine OkO.nil ?_
    refine Ok.ret ⟨.inr rfl, ?_⟩
    exact back_flat rfl (congrArg AV.bool (by rw [g1]; rfl)) rfl (by rw [← hW]; exact (by (try dsimp only); repeat (first | exact hG | apply Grow.new | (refine Grow.put ?_ _ (by first | omega | (simp only [hNw, hPt]; omega))))))
  · -- false g1
    refine OkO.skip rfl ?_
    refine OkO.skip rfl ?_
    refine OkO.skip rfl ?_
    refine OkO.skip rfl ?_
    refine OkO.pick (b := false) rfl rfl nofun (fun _ => rfl) ?_
    refine OkO.assign rfl rfl ?_
    refine OkO.nil ?_
    refine Ok.ret ⟨.inr rfl, ?_⟩
    exact back_flat rfl (congrArg AV.bool (by rw [g1]; rfl)) rfl (by rw [← hW]; exact (by (try dsimp only); repeat (first | exact hG | apply Grow.new | (refine Grow.put ?_ _ (by first | omega | (simp only [hNw, hPt]; omega))))))
end
end Go.Ev

set_option maxRecDepth 100000
set_option linter.unusedSimpArgs false
set_option linter.unusedVariables false
namespace Go.Ev
open Go Go.Proofs
noncomputable section
theorem LstAt.take {H : Heap} {v : AV} {rows : List (List Int)} (h : LstAt H v rows) (hv : (∃ b off len cap, v = .slice b off len cap ∧ len ≤ cap) ∨ v = .nils ∨ ∃ a c, v = .raw (.slice a 0 c)) {k : Nat} (hk : k ≤ rows.length) : ∃ v', (∀ G, sliceOf G 1 v none (some (.int .i64 (k : Int))) = some v') ∧ LstAt H v' (rows.take k) := by
  obtain ⟨vs, h1, h2, h3⟩ := h
  obtain ⟨v', e1, e2⟩ := slice_to hv h2 (k := k) (by simp; omega)
  refine ⟨v', e1, vs.take k, by simp [h1], by rw [List.map_take]; exact e2, fun i x r a c => ?_⟩
  rw [List.getElem?_take] at a c
  split at a
  · rename_i hi
    rw [if_pos hi] at c
    exact h3 i x r a c
  · cases a
theorem spd_mem {p : Pst} {rows : List (List Int)} {h : Nat} : ∀ {k : Nat} {x : Int}, x ∈ spdL p rows h k → ∃ j, j < k ∧ ∃ hh : h < (mayL p ((j : Int) - 1) rows).length, x = (mayL p ((j : Int) - 1) rows)[h].1 ∨ x = (mayL p ((j : Int) - 1) rows)[h].2
  | 0, x, hx => by simp [spdL] at hx
  | i + 1, x, hx => by
    by_cases hr : h + 1 ≤ lenM p rows i
    · have hh : h < (mayL p ((i : Int) - 1) rows).length := hr
      rw [spdL_yes hr hh] at hx
      rcases List.mem_append.1 hx with h8 | h8
      · obtain ⟨j, h1, h2⟩ := spd_mem h8
        exact ⟨j, by omega, h2⟩
      · simp at h8
        exact ⟨i, by omega, hh, h8⟩
    · rw [spdL_no hr] at hx
      obtain ⟨j, h1, h2⟩ := spd_mem hx
      exact ⟨j, by omega, h2⟩
theorem spd_in {p : Pst} {rows : List (List Int)} {h j : Nat} (hh : h < (mayL p ((j : Int) - 1) rows).length) : ∀ {k : Nat}, j < k → (mayL p ((j : Int) - 1) rows)[h].1 ∈ spdL p rows h k ∧ (mayL p ((j : Int) - 1) rows)[h].2 ∈ spdL p rows h k
  | 0, hk => by omega
  | i + 1, hk => by
    by_cases e : j = i
    · subst e
      rw [spdL_yes (show h + 1 ≤ lenM p rows j from hh) hh]
      simp
    · have := spd_in hh (k := i) (by omega)
      show _ ∈ spdL p rows h i ++ _ ∧ _ ∈ spdL p rows h i ++ _
      exact ⟨List.mem_append.2 (.inl this.1), List.mem_append.2 (.inl this.2)⟩
theorem mnL_mem : ∀ {L : List Int}, L ≠ [] → mnL L ∈ L
  | [], h => absurd rfl h
  | a :: l, _ => by
    have key : ∀ (l : List Int) (a : Int), l.foldl min a ∈ a :: l := fun l => by
      induction l with
      | nil => intro a; simp
      | cons c l ih =>
        intro a
        have := ih (min a c)
        rw [List.foldl_cons]
        rcases List.mem_cons.1 this with h | h
        · rw [h]
          rcases Int.le_total a c with h9 | h9
          · rw [Int.min_eq_left h9]; simp
          · rw [Int.min_eq_right h9]; simp
        · exact List.mem_cons_of_mem _ (List.mem_cons_of_mem _ h)
    exact key l a
theorem foldl_min : ∀ (l : List Int) (a : Int), l.foldl min a ≤ a ∧ ∀ x ∈ l, l.foldl min a ≤ x
  | [], a => ⟨Int.le_refl _, nofun⟩
  | c :: l, a => by
    obtain ⟨h1, h2⟩ := foldl_min l (min a c)
    rw [List.foldl_cons]
    exact ⟨by omega, fun x hx => by
      rcases List.mem_cons.1 hx with rfl | h
      · omega
      · exact h2 x h⟩
theorem foldl_max : ∀ (l : List Int) (a : Int), a ≤ l.foldl max a ∧ ∀ x ∈ l, x ≤ l.foldl max a
  | [], a => ⟨Int.le_refl _, nofun⟩
  | c :: l, a => by
    obtain ⟨h1, h2⟩ := foldl_max l (max a c)
    rw [List.foldl_cons]
    exact ⟨by omega, fun x hx => by
      rcases List.mem_cons.1 hx with rfl | h
      · omega
      · exact h2 x h⟩
theorem mnL_le {L : List Int} {x : Int} (h : x ∈ L) : mnL L ≤ x := by
  cases L with
  | nil => cases h
  | cons a l =>
    rcases List.mem_cons.1 h with rfl | h
    · exact (foldl_min l _).1
    · exact (foldl_min l a).2 x h
theorem le_mxL {L : List Int} {x : Int} (h : x ∈ L) : x ≤ mxL L := by
  cases L with
  | nil => cases h
  | cons a l =>
    rcases List.mem_cons.1 h with rfl | h
    · exact (foldl_max l _).1
    · exact (foldl_max l a).2 x h
theorem poss_last {p : Pst} {rows : List (List Int)} {i h : Nat} (hh : h ≤ rows.length) : h ≤ lenM p rows i ↔ lastI p ((i : Int) - 1) (rows.take h) ≠ nul := may_len hh
end
end Go.Ev

set_option maxRecDepth 100000
set_option linter.unusedSimpArgs false
set_option linter.unusedVariables false
namespace Go.Ev
open Go Go.Proofs
noncomputable section
end
end Go.Ev

set_option maxRecDepth 100000
set_option linter.unusedSimpArgs false
set_option linter.unusedVariables false
namespace Go.Ev
open Go Go.Proofs
noncomputable section
end
end Go.Ev

set_option maxRecDepth 100000
set_option linter.unusedSimpArgs false
set_option linter.unusedVariables false
namespace Go.Ev
open Go Go.Proofs
noncomputable section
theorem may_len_rows {p : Pst} {f : Int} {rows : List (List Int)} {h : Nat} (hh : h < (mayL p f rows).length) : h < rows.length := Nat.lt_of_lt_of_le hh (may_len_le p f rows (0, 1000))
theorem may_next {p : Pst} {f : Int} {rows : List (List Int)} {h : Nat} (hh : h + 1 < (mayL p f rows).length) : (mayL p f rows)[h + 1] = stepI p f ((mayL p f rows)[h]'(by omega)) (rows[h + 1]'(may_len_rows hh)) := by
  have h0 : h < (mayL p f rows).length := by omega
  rw [(may_mem hh).1, (may_mem h0).1, last_next (may_len_rows hh)]
  unfold nextI
  rw [if_neg (may_mem h0).2]
theorem may_agree {p : Pst} {f : Int} {rows : List (List Int)} {h : Nat} (hh : h < (mayL p f rows).length) {v : Int} (hv : inI v (mayL p f rows)[h]) : (0 ≤ v ∧ v ≤ 1000) ∧ AgreeR p f (rows[h]'(may_len_rows hh)) v := by
  rw [(may_mem hh).1] at hv
  have hb := last_bd hv
  rw [last_next (may_len_rows hh)] at hv
  exact ⟨hb, ((next_iff hb).1 hv).2⟩
/-- What is followed back is a truth. -/
theorem back_ok {p : Pst} {f : Int} {rows : List (List Int)} (hpg : 0 ≤ p.gain) (hpd : 0 ≤ p.drop) : ∀ (h : Nat) (hh : h < (mayL p f rows).length) (s : Int), inI s (mayL p f rows)[h] →
    (∀ (k : Nat) (hk : k < (backL p (mayL p f rows) h s).length) (hm : k < (mayL p f rows).length), inI (backL p (mayL p f rows) h s)[k] (mayL p f rows)[k]) ∧ (backL p (mayL p f rows) h s)[h]? = some s ∧
    ∀ (k : Nat) (hk : k + 1 < (backL p (mayL p f rows) h s).length), StepOk p ((backL p (mayL p f rows) h s)[k]'(by omega)) (backL p (mayL p f rows) h s)[k + 1]
  | 0, hh, s, hs => by
    refine ⟨fun k hk hm => ?_, rfl, fun k hk => ?_⟩
    · have e : k = 0 := by rw [backL_len] at hk; omega
      subst e
      exact hs
    · rw [backL_len] at hk; omega
  | h + 1, hh, s, hs => by
    have h0 : h < (mayL p f rows).length := by omega
    obtain ⟨s', hs'⟩ : ∃ s', s' = (meetI (mayL p f rows)[h] (beforeI p (s, s))).1 := ⟨_, rfl⟩
    have e : backL p (mayL p f rows) (h + 1) s = backL p (mayL p f rows) h s' ++ [s] := by
      show backL p (mayL p f rows) h (meetI ((mayL p f rows).getD h nul) (beforeI p (s, s))).1 ++ [s] = _
      rw [show (mayL p f rows).getD h nul = (mayL p f rows)[h] from by simp [List.getD, h0], hs']
    rw [may_next hh, mem_step] at hs
    have hb := may_bd h0
    have hin : inI s' (meetI (mayL p f rows)[h] (beforeI p (s, s))) := by
      rw [hs']
      unfold meetI beforeI inI
      rw [if_neg (by simp; omega)]
      simp
      omega
    obtain ⟨k1, k2⟩ := mem_meet.1 hin
    obtain ⟨r1, r2, r3⟩ := back_ok hpg hpd h h0 s' k1
    have hst : StepOk p s' s := by unfold inI beforeI at k2; unfold StepOk; omega
    have hl := backL_len p (mayL p f rows) h s'
    refine (show ∀ L : List Int, L = backL p (mayL p f rows) h s' ++ [s] → ((∀ (k : Nat) (hk : k < L.length) (hm : k < (mayL p f rows).length), inI L[k] (mayL p f rows)[k]) ∧ L[h + 1]? = some s ∧ ∀ (k : Nat) (hk : k + 1 < L.length), StepOk p (L[k]'(by omega)) L[k + 1]) from fun L hL => ?_) _ e
    subst hL
    refine ⟨fun k hk hm => ?_, ?_, fun k hk => ?_⟩
    · by_cases c : k < (backL p (mayL p f rows) h s').length
      · rw [List.getElem_append_left c]; exact r1 k c hm
      · have ek : k = h + 1 := by rw [List.length_append] at hk; simp at hk; omega
        subst ek
        rw [List.getElem_append_right (by omega)]
        simp only [hl, Nat.sub_self, List.getElem_cons_zero]
        rw [may_next hh, mem_step]
        exact hs
    · rw [List.getElem?_append_right (by omega), hl]; simp
    · by_cases c : k + 1 < (backL p (mayL p f rows) h s').length
      · rw [List.getElem_append_left c, List.getElem_append_left (by omega)]; exact r3 k c
      · have ek : k = h := by rw [List.length_append] at hk; simp at hk; omega
        subst ek
        have e1 : (backL p (mayL p f rows) k s' ++ [s])[k + 1] = s := by rw [List.getElem_append_right (by omega)]; simp [hl]
        have e2 : (backL p (mayL p f rows) k s' ++ [s])[k]'(by omega) = s' := by
          rw [List.getElem_append_left (by omega)]
          rw [List.getElem?_eq_getElem (by omega)] at r2
          exact Option.some.inj r2
        rw [e1, e2]
        exact hst
theorem back_truth {p : Pst} {rows : List (List Int)} {hr i : Nat} {s : Int} (hpg : 0 ≤ p.gain) (hpd : 0 ≤ p.drop) (hi : i ≤ p.errs.length) (hh : hr < rows.length) (hit : HitP p rows hr s i) : TruP p (rows.take (hr + 1)) ((i : Int) - 1) (backL p (mayL p ((i : Int) - 1) rows) hr s) := by
  have hk : hr < (mayL p ((i : Int) - 1) rows).length := hit.1
  have hin : inI s (mayL p ((i : Int) - 1) rows)[hr] := by
    have := hit.2
    rwa [show (mayL p ((i : Int) - 1) rows).getD hr nul = (mayL p ((i : Int) - 1) rows)[hr] from by simp [List.getD, hk]] at this
  obtain ⟨r1, _, r3⟩ := back_ok (rows := rows) hpg hpd hr hk s hin
  have hl := backL_len p (mayL p ((i : Int) - 1) rows) hr s
  refine ⟨by rw [hl, List.length_take]; omega, ⟨by omega, by omega⟩, ⟨fun x hx => ?_, r3⟩, fun h h1 h2 => ?_⟩
  · obtain ⟨k, hk2, rfl⟩ := List.getElem_of_mem hx
    exact (may_agree (by omega) (r1 k hk2 (by omega))).1
  · have := (may_agree (by omega) (r1 h h1 (by omega))).2
    rw [List.getElem_take]
    exact this
end
end Go.Ev

set_option maxRecDepth 100000
set_option linter.unusedSimpArgs false
set_option linter.unusedVariables false
namespace Go.Ev
open Go Go.Proofs
noncomputable section
/-- A number that words pick. -/
def pickV (lo hi : Int) (ws : List Int) (a : Nat) : Int :=
  if ws = [] then lo else if (ws.getD (a % ws.length) 0) % 4 = 0 then lo else if (ws.getD (a % ws.length) 0) % 4 = 1 then hi else lo + (ws.getD (a % ws.length) 0) % (hi - lo + 1)
/-- Speeds that may be, and reads that agree with them. -/
def TruOk (p : Pst) (f : Int) (sp : List Int) (rows : List (List Int)) : Prop := rows.length = sp.length ∧ MovP p sp ∧ AgrP p f rows sp ∧ ∀ r ∈ rows, r.length = p.errs.length ∧ ∀ x ∈ r, -1000 ≤ x ∧ x ≤ 2000
theorem TruOk.nil (p : Pst) (f : Int) : TruOk p f [] [] := ⟨rfl, ⟨fun x h => absurd h List.not_mem_nil, fun h h2 => absurd h2 (Nat.not_lt_zero _)⟩, fun h h1 => absurd h1 (Nat.not_lt_zero _), fun r h => absurd h List.not_mem_nil⟩
theorem TruOk.snoc {p : Pst} {f v : Int} {sp : List Int} {rows : List (List Int)} {row : List Int} (h : TruOk p f sp rows) (hv : 0 ≤ v ∧ v ≤ 1000) (hs : ∀ x, sp[sp.length - 1]? = some x → StepOk p x v) (hr : row.length = p.errs.length ∧ ∀ x ∈ row, -1000 ≤ x ∧ x ≤ 2000) (ha : AgreeR p f row v) : TruOk p f (sp ++ [v]) (rows ++ [row]) := by
  obtain ⟨h1, ⟨h2, h3⟩, h4, h5⟩ := h
  refine ⟨by simp [h1], ⟨fun x hx => ?_, fun k hk => ?_⟩, fun k k1 k2 => ?_, fun r hr9 => ?_⟩
  · rcases List.mem_append.1 hx with hx | hx
    · exact h2 x hx
    · rw [List.mem_singleton] at hx; rw [hx]; exact hv
  · rw [List.length_append, List.length_singleton] at hk
    by_cases c : k + 1 < sp.length
    · rw [List.getElem_append_left c, List.getElem_append_left (by omega)]
      exact h3 k c
    · have e1 : (sp ++ [v])[k + 1]'(by simp; omega) = v := by rw [List.getElem_append_right (by omega)]; simp
      have e2 : (sp ++ [v])[k]'(by simp; omega) = sp[k]'(by omega) := List.getElem_append_left (by omega)
      rw [e1, e2]
      exact hs _ (by rw [show sp.length - 1 = k from by omega, List.getElem?_eq_getElem (by omega)])
  · rw [List.length_append, List.length_singleton] at k1
    by_cases c : k < sp.length
    · rw [List.getElem_append_left c, List.getElem_append_left (by omega)]
      exact h4 k c (by omega)
    · have e1 : (sp ++ [v])[k]'(by simp; omega) = v := by rw [List.getElem_append_right (by omega)]; simp
      have e2 : (rows ++ [row])[k]'k2 = row := by rw [List.getElem_append_right (by omega)]; simp
      rw [e1, e2]
      exact ha
  · rcases List.mem_append.1 hr9 with hr9 | hr9
    · exact h5 r hr9
    · rw [List.mem_singleton] at hr9; rw [hr9]; exact hr
theorem TruOk.in {p : Pst} {f : Int} {sp : List Int} {rows : List (List Int)} (h : TruOk p f sp rows) (hpg : 0 ≤ p.gain) (hpd : 0 ≤ p.drop) : ∀ (k : Nat) (hk : k < sp.length), inI sp[k] (lastI p f (rows.take (k + 1)))
  | 0, hk => by
    obtain ⟨h1, ⟨h2, h3⟩, h4, h5⟩ := h
    have hb := h2 _ (List.getElem_mem hk)
    rw [last_next (by omega), next_iff hb]
    refine ⟨⟨(by rw [List.take_zero]; intro h9; cases h9), ?_⟩, h4 0 hk (by omega)⟩
    rw [List.take_zero]
    show (0 : Int) - p.drop ≤ _ ∧ _ ≤ (1000 : Int) + p.gain
    omega
  | k + 1, hk => by
    have hi := TruOk.in h hpg hpd k (by omega)
    obtain ⟨h1, ⟨h2, h3⟩, h4, h5⟩ := h
    have hb := h2 _ (List.getElem_mem hk)
    rw [last_next (by omega), next_iff hb]
    have hs := h3 k hk
    refine ⟨⟨fun h9 => ?_, ?_⟩, h4 (k + 1) hk (by omega)⟩
    · rw [h9] at hi; exact not_nul _ hi
    · unfold StepOk at hs; unfold inI at hi; omega
theorem TruOk.len {p : Pst} {f : Int} {sp : List Int} {rows : List (List Int)} (h : TruOk p f sp rows) (hpg : 0 ≤ p.gain) (hpd : 0 ≤ p.drop) {j : Nat} (hj : f = (j : Int) - 1) : rows.length ≤ lenM p rows j := by
  refine (poss_last (Nat.le_refl _)).2 ?_
  rw [List.take_length]
  rw [← hj]
  by_cases c : sp.length = 0
  · have : rows = [] := List.eq_nil_of_length_eq_zero (by rw [h.1]; exact c)
    rw [this]
    intro h9; cases h9
  · intro h9
    have := h.in hpg hpd (sp.length - 1) (by omega)
    rw [show rows.take (sp.length - 1 + 1) = rows from by rw [show sp.length - 1 + 1 = rows.length from by rw [h.1]; omega, List.take_length], h9] at this
    exact not_nul _ this
theorem TruOk.span {p : Pst} {f : Int} {sp : List Int} {rows : List (List Int)} (h : TruOk p f sp rows) (hpg : 0 ≤ p.gain) (hpd : 0 ≤ p.drop) {j : Nat} (hj : f = (j : Int) - 1) (hn : j < p.errs.length + 1) (k : Nat) (hk : k < sp.length) : mnL (spdL p rows k (p.errs.length + 1)) ≤ sp[k] ∧ sp[k] ≤ mxL (spdL p rows k (p.errs.length + 1)) := by
  have hl := h.len hpg hpd hj
  have hm : k < (mayL p ((j : Int) - 1) rows).length := by (have h9 : rows.length ≤ (mayL p ((j : Int) - 1) rows).length := hl); rw [h.1] at h9; omega
  have h1 := spd_in hm hn
  have h2 := h.in hpg hpd k hk
  rw [hj, ← (may_mem hm).1] at h2
  have h3 := mnL_le h1.1
  have h4 := le_mxL h1.2
  unfold inI at h2
  omega
theorem MovP.up {p : Pst} {sp : List Int} (h : MovP p sp) (k : Nat) : ∀ (d : Nat) (hd : k + d < sp.length), sp[k + d] ≤ sp[k]'(by omega) + (d : Int) * p.gain
  | 0, hd => by simp
  | d + 1, hd => by
    have h1 := MovP.up h k d (by omega)
    have h2 := h.2 (k + d) (by omega)
    unfold StepOk at h2
    have e : ((d + 1 : Nat) : Int) * p.gain = (d : Int) * p.gain + p.gain := by rw [show ((d + 1 : Nat) : Int) = (d : Int) + 1 from by omega, Int.add_mul, Int.one_mul]
    rw [e]
    show sp[k + d + 1] ≤ _
    omega
theorem level_call {p : Pst} {x y : Int} {d : Nat} (hpg : 0 ≤ p.gain) (hd : (d : Int) ≤ p.out) (hy : p.fall ≤ y) (hxy : y ≤ x + (d : Int) * p.gain) : levelI p x = 3 := by
  have hl : leftI p x ≤ hrI p 0 := by
    have e : hrI p 0 = p.out := by simp [hrI]
    rw [e]
    unfold leftI
    split
    · omega
    · rename_i h1
      split
      · rename_i h2
        rw [h2, Int.mul_zero] at hxy
        omega
      · have h3 : (p.fall - x + p.gain - 1) / p.gain < (d : Int) + 1 := by
          refine Int.ediv_lt_of_lt_mul (by omega) ?_
          rw [Int.add_mul, Int.one_mul]
          omega
        omega
  unfold levelI
  rw [if_pos hl]
theorem TruOk.call {p : Pst} {f : Int} {sp : List Int} {rows : List (List Int)} (h : TruOk p f sp rows) (hpg : 0 ≤ p.gain) (hpd : 0 ≤ p.drop) {j : Nat} (hj : f = (j : Int) - 1) (hn : j < p.errs.length + 1) {k i : Nat} (hk : k ≤ i) (hi : i < sp.length) (ho : (i : Int) - p.out ≤ k) (hfall : p.fall ≤ sp[i]) : levelI p (mxL (spdL p rows k (p.errs.length + 1))) = 3 := by
  have h1 := MovP.up h.2.1 k (i - k) (by omega)
  have h2 := (h.span hpg hpd hj hn k (by omega)).2
  have e : sp[k + (i - k)]'(by omega) = sp[i] := by congr 1; omega
  rw [e] at h1
  refine level_call (y := sp[i]) (d := i - k) hpg (by omega) hfall ?_
  omega
/-- A list of lists that was made, apart from another list. -/
def RowsX (k0 : Nat) (G : Heap) (xv v : AV) (rows : List (List Int)) : Prop := ∃ vs : List AV, vs.length = rows.length ∧ Mine k0 G v 22 1 vs ∧ ∀ (i : Nat) (x : AV) (r : List Int), vs[i]? = some x → rows[i]? = some r → Mine k0 G x 3 1 (r.map I) ∧ ∀ b m m', x = .opn b m → xv ≠ .opn b m'
theorem RowsX.rows {k0 : Nat} {G : Heap} {xv v : AV} {l : List (List Int)} (h : RowsX k0 G xv v l) : RowsM k0 G v l := by
  obtain ⟨vs, h1, h2, h3⟩ := h
  exact ⟨vs, h1, h2, fun i x r a c => (h3 i x r a c).1⟩
theorem RowsX.nil (k0 : Nat) (G : Heap) (xv : AV) : RowsX k0 G xv .nils [] := ⟨[], rfl, Mine.nil _ _ _ _, fun i x s h _ => by simp at h⟩
theorem RowsX.to {k0 : Nat} {G G' : Heap} {xv v : AV} {l : List (List Int)} (h : RowsX k0 G xv v l) (e : Ext G G') : RowsX k0 G' xv v l := by
  obtain ⟨vs, h1, h2, h3⟩ := h
  exact ⟨vs, h1, h2.to e, fun i x r a c => ⟨(h3 i x r a c).1.to e, (h3 i x r a c).2⟩⟩
theorem RowsX.snoc {k0 : Nat} {G : Heap} {xv ov x : AV} {l : List (List Int)} {s : List Int} (h : RowsX k0 G xv ov l) (hx : Mine k0 G x 3 1 (s.map I)) (hsep : ∀ b m m', x = .opn b m → xv ≠ .opn b m') : ∃ cs, Mine k0 G ov 22 1 cs ∧ cs.length = l.length ∧ ∀ v2 G2, Mine k0 G2 v2 22 1 (cs ++ [x]) → G.next ≤ G2.next → (∀ j, j < G.next → (∀ m, ov ≠ .opn j m) → G2.get j = G.get j) → RowsX k0 G2 xv v2 (l ++ [s]) := by
  obtain ⟨vs, h1, h2, h3⟩ := h
  refine ⟨_, h2, h1, fun v2 G2 k1 k2 k3 => ⟨vs ++ [x], by simp [h1], k1, fun i y t a c => ?_⟩⟩
  by_cases hi : i < vs.length
  · rw [List.getElem?_append_left hi] at a
    rw [List.getElem?_append_left (by omega)] at c
    exact ⟨(h3 i y t a c).1.offE h2 (.inl (by decide)) k2 k3, (h3 i y t a c).2⟩
  · by_cases hi2 : i = vs.length
    · subst hi2
      rw [List.getElem?_append_right (Nat.le_refl _)] at a
      rw [List.getElem?_append_right (by omega), h1] at c
      simp at a c
      subst a c
      exact ⟨hx.offE h2 (.inl (by decide)) k2 k3, hsep⟩
    · rw [List.getElem?_eq_none (by simp; omega)] at a; cases a
def U16c (n : Int) : List AV := [.int .u16 n]
/-- A row of reads, as words make it. -/
def rowV (p : Pst) (f v : Int) (ws : List Int) (h n : Nat) : List Int := (List.range n).map fun (i : Nat) => if (i : Int) = f then pickV (-1000) 2000 ws (5 * h + 1) else pickV (v - p.errs.getD i 0) (v + p.errs.getD i 0) ws (7 * h + i)
end
end Go.Ev

set_option maxRecDepth 100000
set_option linter.unusedSimpArgs false
set_option linter.unusedVariables false
namespace Go.Ev
open Go Go.Proofs
noncomputable section
end
end Go.Ev

set_option maxRecDepth 100000
set_option linter.unusedSimpArgs false
set_option linter.unusedVariables false
namespace Go.Ev
open Go Go.Proofs
noncomputable section
end
end Go.Ev

