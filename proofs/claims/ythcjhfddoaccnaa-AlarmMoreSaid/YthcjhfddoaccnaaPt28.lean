/-
  Functions of the program, reckoned by the evaluator: what each answers, and that it leaves what came in as it was.
-/
import Derived.Test.YthcjhfddoaccnaaPt27
set_option maxRecDepth 100000
set_option linter.unusedSimpArgs false
set_option linter.unusedVariables false
namespace Go.Ev
open Go Go.Proofs
noncomputable section
/-- The speeds whose least and greatest are known in an hour. -/
def spdL (p : Pst) (rows : List (List Int)) (h : Nat) : Nat → List Int
  | 0 => []
  | i + 1 => spdL p rows h i ++ (if h + 1 ≤ lenM p rows i then [((mayL p ((i : Int) - 1) rows).getD h nul).1, ((mayL p ((i : Int) - 1) rows).getD h nul).2] else [])
theorem spdL_yes {p : Pst} {rows : List (List Int)} {h i : Nat} (hr : h + 1 ≤ lenM p rows i) (hh : h < (mayL p ((i : Int) - 1) rows).length) : spdL p rows h (i + 1) = spdL p rows h i ++ [(mayL p ((i : Int) - 1) rows)[h].1, (mayL p ((i : Int) - 1) rows)[h].2] := by
  show spdL p rows h i ++ (if h + 1 ≤ lenM p rows i then _ else _) = _
  rw [if_pos hr, show (mayL p ((i : Int) - 1) rows).getD h nul = (mayL p ((i : Int) - 1) rows)[h] from by simp [List.getD, hh]]
theorem spdL_no {p : Pst} {rows : List (List Int)} {h i : Nat} (hr : ¬ h + 1 ≤ lenM p rows i) : spdL p rows h (i + 1) = spdL p rows h i := by
  show spdL p rows h i ++ (if h + 1 ≤ lenM p rows i then _ else _) = _
  rw [if_neg hr, List.append_nil]
theorem spdL_len (p : Pst) (rows : List (List Int)) (h : Nat) : ∀ i, (spdL p rows h i).length ≤ 2 * i
  | 0 => by simp [spdL]
  | i + 1 => by
    have := spdL_len p rows h i
    show (spdL p rows h i ++ _).length ≤ _
    rw [List.length_append]
    split <;> simp <;> omega
theorem ivs_at {k : Nat} {G : Heap} {v : AV} {l : List Iv} (h : Mine k G v 125 2 (ivCells l)) {i : Nat} (hi : i < l.length) : ∃ b off cs, slAt v 2 i = some (b, off) ∧ (G.get b).bind AObj.cs = some cs ∧ cs[off]? = some (I l[i].1) ∧ cs[off + 1]? = some (I l[i].2) ∧ seg cs off 2 = some (ivc l[i]) ∧ b < G.next := by
  obtain ⟨b, off, cs, i1, i2, i3, i4⟩ := h.ivs.at_ i (ivc l[i]) (by simp [hi])
  refine ⟨b, off, cs, i1, i2, ?_, ?_, i3, i4⟩
  · exact seg_one (seg_sub i3 0 1 (by omega) (by omega))
  · exact seg_one (seg_sub i3 1 1 (by omega) (by omega))
theorem RngJ.grow {W X : Heap} {bl : List Nat} {st : LoopState} {pd : Option Code} {ps : List Tmp} {sa bd : Code} {T0 : Tr AV} {G : Heap} (h : RngJ X bl st pd ps sa bd T0 G) (g : Grow W X) (hb : ∀ j ∈ bl, W.next ≤ j) (hlo : W.next ≤ G.lo) : Grow W G :=
  ⟨by have := h.nx; have := g.next; omega, fun n hn => by rw [h.get n (by have := g.next; omega) (fun hc => by have := hb n hc; omega)]; exact g.get n hn, hlo⟩
noncomputable def as61 : Code := match Try.f61.body.bind rangeOf with | some r => r.1 | none => .skip
noncomputable def bd61 : Code := match Try.f61.body.bind rangeOf with | some r => r.2 | none => .skip
theorem RngJ.turn {X : Heap} {bl : List Nat} {st st' : LoopState} {pd pd' : Option Code} {ps : List Tmp} {sa bd : Code} {T0 : Tr AV} {G : Heap} (h : RngJ X bl st pd ps sa bd T0 G) : RngJ X bl st' pd' ps sa bd T0 (G.put (X.next + 1) (.loop st' pd' T0 ps sa bd X.next)) :=
  ⟨by simp; exact h.nx, fun j a c => by rw [gpo _ _ _ _ (by omega)]; exact h.get j a c, by rw [gpo _ _ _ _ (by omega)]; exact h.b0, gp0 _ _ _⟩
theorem RngJ.move {X : Heap} {bl : List Nat} {st : LoopState} {pd : Option Code} {ps : List Tmp} {sa bd : Code} {T0 : Tr AV} {G G' : Heap} (h : RngJ X bl st pd ps sa bd T0 G) (hb : ∀ j ∈ bl, j < X.next) (hn : G.next ≤ G'.next) (hg : ∀ j, j < X.next + 2 → j ∉ bl → G'.get j = G.get j) : RngJ X bl st pd ps sa bd T0 G' :=
  ⟨Nat.le_trans h.nx hn, fun j a c => by rw [hg j (by omega) c]; exact h.get j a c, by rw [hg _ (by omega) (fun hc => by have := hb _ hc; omega)]; exact h.b0, by rw [hg _ (by omega) (fun hc => by have := hb _ hc; omega)]; exact h.b1⟩
theorem r61 (m h i : Nat) (p : Pst) (rows : List (List Int)) (x : AV) (fl : Int) (T0 : Tr AV) (W X G : Heap) (hH : Has 6 [(3, .ptr (W.next + 1) 0), (5, .ptr (W.next + 3) 0)] T0) (hJ : (fun i G => RngJ X [W.next + 3] .ready none [13, 14] as61 bd61 T0 G ∧ ∃ ov, G.get (W.next + 3) = some (.cells [ov] 22) ∧ Mine (X.next + 2) G ov 3 1 ((spdL p rows h i).map I)) i G) (gX : Grow W X) (hN : W.next + 4 ≤ X.next) (x1 : X.get (W.next + 1) = some (.cells [I (h : Int)] 3)) (x3 : X.get (W.next + 3) = some (.cells [.nils] 22)) (hx : Mine 0 X x 125 2 (ivCells (mayL p ((i : Int) - 1) rows))) (hi : i ≤ p.errs.length) (hpl : p.errs.length ≤ 1000) (hr : h + 1 ≤ lenM p rows i) (hlo : W.next ≤ G.lo) :
    ∃ v H', RR (m + 1) (.round (X.next + 1) [I fl, x]) G = some (v, H') ∧ v = .bool true ∧ (fun i G => RngJ X [W.next + 3] .ready none [13, 14] as61 bd61 T0 G ∧ ∃ ov, G.get (W.next + 3) = some (.cells [ov] 22) ∧ Mine (X.next + 2) G ov 3 1 ((spdL p rows h i).map I)) (i + 1) H' ∧ W.next ≤ H'.lo ∧ H'.lo ≤ X.next + 1 ∧ G.next ≤ H'.next := by
  show ∃ v H', evRound Try.prog (RR m) (X.next + 1) [I fl, x] G = some (v, H') ∧ v = .bool true ∧ (fun i G => RngJ X [W.next + 3] .ready none [13, 14] as61 bd61 T0 G ∧ ∃ ov, G.get (W.next + 3) = some (.cells [ov] 22) ∧ Mine (X.next + 2) G ov 3 1 ((spdL p rows h i).map I)) (i + 1) H' ∧ W.next ≤ H'.lo ∧ H'.lo ≤ X.next + 1 ∧ G.next ≤ H'.next
  obtain ⟨fr, hT⟩ := hH
  obtain ⟨hj, ov, h3, hov⟩ := hJ
  have hh : h < (mayL p ((i : Int) - 1) rows).length := hr
  obtain ⟨yl, hyl⟩ : ∃ yl, yl = mayL p ((i : Int) - 1) rows := ⟨_, rfl⟩
  subst hT
  have hnx := hj.nx
  refine round_okR hj.b1 rfl ?_
  refine Ok.region ?_
  refine OkO.assign rfl rfl ?_
  refine OkO.nil ?_
  refine ⟨rfl, _, _, _, _, _, _, hj.b1, ?_⟩
  obtain ⟨G1, hG1⟩ : ∃ G1, G1 = G.put (X.next + 1) (.loop .busy none (mkT 6 0 1 (upd fr [(3, .ptr (W.next + 1) 0), (5, .ptr (W.next + 3) 0)])) [13, 14] as61 bd61 X.next) := ⟨_, rfl⟩
  rw [← hG1]
  have hj1 : RngJ X [W.next + 3] .busy none [13, 14] as61 bd61 (mkT 6 0 1 (upd fr [(3, .ptr (W.next + 1) 0), (5, .ptr (W.next + 3) 0)])) G1 := by rw [hG1]; exact hj.turn
  have n1 : G1.next = G.next := by rw [hG1]; simp
  have hn1 := hj1.nx
  have hov1 : Mine (X.next + 2) G1 ov 3 1 ((spdL p rows h i).map I) := by rw [hG1]; exact hov.putO _ hj.b1 nofun
  have e3 : G1.get (W.next + 3) = some (.cells [ov] 22) := by rw [hG1, gpo _ _ _ _ (by omega)]; exact h3
  have e3b : (G1.get (W.next + 3)).bind AObj.cs = some [ov] := by rw [e3]; rfl
  have e1b : (G1.get (W.next + 1)).bind AObj.cs = some [I (h : Int)] := by rw [hj1.get _ (by omega) (by simp), x1]; rfl
  rw [← hyl] at hx
  obtain ⟨xb, xo, xcs, i1, i2x, i3, i4, i5, i6⟩ := ivs_at hx (i := h) (by rw [hyl]; exact hh)
  have hxn : xb ≠ W.next + 3 := fun e => by (rw [e, x3] at i2x; cases i2x; (cases xo <;> simp [I] at i3))
  have i2 : (G1.get xb).bind AObj.cs = some xcs := by rw [hj1.get _ i6 (by simpa using hxn)]; exact i2x
  obtain ⟨mo, hmo, _⟩ := hov1.len
  obtain ⟨mx, hmx, _⟩ := hx.len
  have hlo1 : W.next ≤ G1.lo := by rw [hG1, Heap.lo_put]; omega
  have gW : Grow W G1 := hj1.grow gX (fun j hj => by simp at hj; omega) hlo1
  refine Ok.block ?_
  refine Ok.drawn [(0, true, []), (1, true, []), (2, true, []), (3, true, []), (4, true, []), (5, true, []), (6, true, []), (7, true, []), (8, true, []), (9, true, []), (10, true, []), (11, true, [10, 7, 5, 2, 0]), (12, false, [10, 7, 5, 2]), (13, false, [])] (by kernel_rfl) ?_
  refine OkP.step ?_
  refine OkO.load rfl rfl (lda (n := 1) (by kernel_rfl) (by first | assumption | (simp (disch := first | omega | (simp only [hNw, hPt]; omega)) only [gn0, gn1, gn2, gn3, gn4, gn5, gp0, gno, gpo] <;> first | rfl | assumption | exact gp0 _ _ _ | exact gn0 _ _)) (by first | rfl | assumption)) ?_
  refine OkO.nil ⟨rfl, ?_⟩
  refine OkP.step ?_
  refine OkO.move rfl rfl ?_
  refine OkO.nil ⟨rfl, ?_⟩
  refine OkP.step ?_
  refine OkO.load rfl rfl (lda (n := 1) (by kernel_rfl) (by first | assumption | (simp (disch := first | omega | (simp only [hNw, hPt]; omega)) only [gn0, gn1, gn2, gn3, gn4, gn5, gp0, gno, gpo] <;> first | rfl | assumption | exact gp0 _ _ _ | exact gn0 _ _)) (by first | rfl | assumption)) ?_
  refine OkO.nil ⟨rfl, ?_⟩
  refine OkP.step ?_
  refine OkO.index (sz := 2) (n := h) rfl rfl rfl (by kernel_rfl) (by first | assumption | rfl | exact slAt_slice (by omega) | exact slAt_opn (by omega)) ?_ -- index ('Go.Operand.tmp', 16) ('Go.Operand.tmp', 17)
  refine OkO.nil ⟨rfl, ?_⟩
  refine OkP.step ?_
  refine OkO.indexArr (len := 2) (sz := 1) (n := 0) rfl rfl rfl (by kernel_rfl) (by omega) ?_
  refine OkO.nil ⟨rfl, ?_⟩
  refine OkP.step ?_
  refine OkO.load rfl rfl (lda (n := 1) (by kernel_rfl) (by first | assumption | (simp (disch := first | omega | (simp only [hNw, hPt]; omega)) only [gn0, gn1, gn2, gn3, gn4, gn5, gp0, gno, gpo] <;> first | rfl | assumption | exact gp0 _ _ _ | exact gn0 _ _)) (by first | rfl | assumption)) ?_
  refine OkO.nil ⟨rfl, ?_⟩
  refine OkP.step ?_
  refine OkO.move rfl rfl ?_
  refine OkO.nil ⟨rfl, ?_⟩
  refine OkP.step ?_
  refine OkO.load rfl rfl (lda (n := 1) (by kernel_rfl) (by first | assumption | (simp (disch := first | omega | (simp only [hNw, hPt]; omega)) only [gn0, gn1, gn2, gn3, gn4, gn5, gp0, gno, gpo] <;> first | rfl | assumption | exact gp0 _ _ _ | exact gn0 _ _)) (by first | rfl | assumption)) ?_
  refine OkO.nil ⟨rfl, ?_⟩
  refine OkP.step ?_
  refine OkO.index (sz := 2) (n := h) rfl rfl rfl (by kernel_rfl) (by first | assumption | rfl | exact slAt_slice (by omega) | exact slAt_opn (by omega)) ?_ -- index ('Go.Operand.tmp', 21) ('Go.Operand.tmp', 22)
  refine OkO.nil ⟨rfl, ?_⟩
  refine OkP.step ?_
  refine OkO.indexArr (len := 2) (sz := 1) (n := 1) rfl rfl rfl (by kernel_rfl) (by omega) ?_
  refine OkO.nil ⟨rfl, ?_⟩
  refine OkP.step ?_
  refine OkO.load rfl rfl (lda (n := 1) (by kernel_rfl) (by first | assumption | (simp (disch := first | omega | (simp only [hNw, hPt]; omega)) only [gn0, gn1, gn2, gn3, gn4, gn5, gp0, gno, gpo] <;> first | rfl | assumption | exact gp0 _ _ _ | exact gn0 _ _)) (by first | rfl | assumption)) ?_
  refine OkO.nil ⟨rfl, ?_⟩
  refine OkP.step ?_
  refine OkO.buildSlice (el := 3) (sz := 1) (z := [.int .i64 0]) rfl (by kernel_rfl) (by decide) rfl rfl ?_
  refine OkO.nil ⟨(sco (sld rfl rfl (lda (n := 1) (by kernel_rfl) (by first | assumption | (simp (disch := first | omega | (simp only [hNw, hPt]; omega)) only [gn0, gn1, gn2, gn3, gn4, gn5, gp0, gno, gpo] <;> first | rfl | assumption | exact gp0 _ _ _ | exact gn0 _ _)) (by first | rfl | assumption)) rfl (eqr _ (by first | rfl | exact lpl (by assumption) | (simp [AV.plain, AV.plains, AV.cells, AV.plain])))) (sco (sld rfl rfl (lda (n := 1) (by kernel_rfl) (by first | assumption | (simp (disch := first | omega | (simp only [hNw, hPt]; omega)) only [gn0, gn1, gn2, gn3, gn4, gn5, gp0, gno, gpo] <;> first | rfl | assumption | exact gp0 _ _ _ | exact gn0 _ _)) (by first | rfl | assumption)) rfl (eqr _ (by first | rfl | exact lpl (by assumption) | (simp [AV.plain, AV.plains, AV.cells, AV.plain])))) (sco (sld rfl rfl (lda (n := 1) (by kernel_rfl) (by first | assumption | (simp (disch := first | omega | (simp only [hNw, hPt]; omega)) only [gn0, gn1, gn2, gn3, gn4, gn5, gp0, gno, gpo] <;> first | rfl | assumption | exact gp0 _ _ _ | exact gn0 _ _)) (by first | rfl | assumption)) rfl (eqr _ (by first | rfl | exact lpl (by assumption) | (simp [AV.plain, AV.plains, AV.cells, AV.plain])))) (sco (sld rfl rfl (lda (n := 1) (by kernel_rfl) (by first | assumption | (simp (disch := first | omega | (simp only [hNw, hPt]; omega)) only [gn0, gn1, gn2, gn3, gn4, gn5, gp0, gno, gpo] <;> first | rfl | assumption | exact gp0 _ _ _ | exact gn0 _ _)) (by first | rfl | assumption)) rfl (eqr _ (by first | rfl | exact lpl (by assumption) | (simp [AV.plain, AV.plains, AV.cells, AV.plain])))) (sco (sld rfl rfl (lda (n := 1) (by kernel_rfl) (by first | assumption | (simp (disch := first | omega | (simp only [hNw, hPt]; omega)) only [gn0, gn1, gn2, gn3, gn4, gn5, gp0, gno, gpo] <;> first | rfl | assumption | exact gp0 _ _ _ | exact gn0 _ _)) (by first | rfl | assumption)) rfl (eqr _ (by first | rfl | exact lpl (by assumption) | (simp [AV.plain, AV.plains, AV.cells, AV.plain])))) rfl))))), ?_⟩
  refine OkP.step ?_
  refine OkO.builtinE rfl rfl rfl (Mine.app2 (W := W) (k0 := X.next + 2) (t := 22) (u := 22) (sz := 1) (by_ := 8) (e := 3) (n := 2) (new := [I (yl[h]'(by rw [hyl]; exact hh)).1, I (yl[h]'(by rw [hyl]; exact hh)).2]) (hov1.to (by repeat (first | exact Ext.refl _ | apply Ext.new))) (by repeat (first | exact gW | apply Grow.new)) (by omega) (by simp; omega) (by kernel_rfl) (by kernel_rfl) (elems_new (n := 2) (sz := 1) rfl) rfl rfl (by have h9 := spdL_len p rows h i; simp; omega) (by omega) (by omega) rfl) ?_
  rintro v2 G2 ⟨r2, r3, r4, r5, r6, _⟩
  simp only [hNw] at r5 r6
  have v2o := r2.one
  have q1 : (G2.get (W.next + 1)).bind AObj.cs = some [I (h : Int)] := by rw [r5 _ (by omega) (hov1.far (by omega)), gno _ _ _ (by omega)]; exact e1b
  have q3 : (G2.get (W.next + 3)).bind AObj.cs = some [ov] := by rw [r5 _ (by omega) (hov1.far (by omega)), gno _ _ _ (by omega)]; exact e3b
  have q3o : G2.get (W.next + 3) = some (.cells [ov] 22) := by rw [r5 _ (by omega) (hov1.far (by omega)), gno _ _ _ (by omega)]; exact e3
  have qx : (G2.get xb).bind AObj.cs = some xcs := by rw [r5 _ (by omega) (hov1.far (by omega)), gno _ _ _ (by omega)]; exact i2
  refine OkO.nil ⟨(sco (sld rfl rfl (lda (n := 1) (by kernel_rfl) (by first | assumption | (simp (disch := first | omega | (simp only [hNw, hPt]; omega)) only [gn0, gn1, gn2, gn3, gn4, gn5, gp0, gno, gpo] <;> first | rfl | assumption | exact gp0 _ _ _ | exact gn0 _ _)) (by first | rfl | assumption)) rfl (eqr _ (by first | rfl | exact lpl (by assumption) | (simp [AV.plain, AV.plains, AV.cells, AV.plain])))) (sco (sld rfl rfl (lda (n := 1) (by kernel_rfl) (by first | assumption | (simp (disch := first | omega | (simp only [hNw, hPt]; omega)) only [gn0, gn1, gn2, gn3, gn4, gn5, gp0, gno, gpo] <;> first | rfl | assumption | exact gp0 _ _ _ | exact gn0 _ _)) (by first | rfl | assumption)) rfl (eqr _ (by first | rfl | exact lpl (by assumption) | (simp [AV.plain, AV.plains, AV.cells, AV.plain])))) (sco (sld rfl rfl (lda (n := 1) (by kernel_rfl) (by first | assumption | (simp (disch := first | omega | (simp only [hNw, hPt]; omega)) only [gn0, gn1, gn2, gn3, gn4, gn5, gp0, gno, gpo] <;> first | rfl | assumption | exact gp0 _ _ _ | exact gn0 _ _)) (by first | rfl | assumption)) rfl (eqr _ (by first | rfl | exact lpl (by assumption) | (simp [AV.plain, AV.plains, AV.cells, AV.plain])))) (sco (sld rfl rfl (lda (n := 1) (by kernel_rfl) (by first | assumption | (simp (disch := first | omega | (simp only [hNw, hPt]; omega)) only [gn0, gn1, gn2, gn3, gn4, gn5, gp0, gno, gpo] <;> first | rfl | assumption | exact gp0 _ _ _ | exact gn0 _ _)) (by first | rfl | assumption)) rfl (eqr _ (by first | rfl | exact lpl (by assumption) | (simp [AV.plain, AV.plains, AV.cells, AV.plain])))) rfl)))), ?_⟩
  refine OkP.step ?_
  refine OkO.store rfl rfl rfl (sAc (n := 1) (ag := false) (l := [v2]) (by kernel_rfl) q3o (by rw [v2o.1]; rfl) (by rw [v2o.1]; simp [atoms, v2o.2]) (by rw [v2o.1]; rfl)) ?_
  refine OkO.nil ⟨rfl, ?_⟩
  refine OkP.nil ?_
  have qb1 := (r5 (X.next + 1) (by omega) (hov1.far (by omega))).trans ((gno _ _ _ (by omega)).trans hj1.b1)
  have qp1 := (gpo G2 (W.next + 3) (X.next + 1) (.cells [v2] 22) (by omega)).trans qb1
  refine ⟨_, _, _, _, _, _, _, qp1, .inl ⟨rfl, rfl, ⟨RngJ.turn ((hj1.move (fun j hj => by simp at hj; omega) (by simp only [hPt]; omega) (fun j a c => ?_))), v2, ?_, ?_⟩, ?_, ?_, ?_⟩⟩
  · rw [gpo _ _ _ _ (fun e => c (by simp [e])), r5 _ (by omega) (hov1.far (by omega)), gno _ _ _ (by omega)]
  · rw [gpo _ _ _ _ (by omega)]; exact gp0 _ _ _
  · subst hyl; rw [spdL_yes hr hh, List.map_append]
    exact (r2.put _ (by omega)).putO _ qp1 nofun
  · have := r3.lo; simp only [Heap.lo_put]; omega
  · simp only [Heap.lo_put]; omega
  · simp only [hPt]; omega
theorem mxL_mem : ∀ {L : List Int}, L ≠ [] → mxL L ∈ L
  | [], h => absurd rfl h
  | a :: l, _ => by
    have key : ∀ (l : List Int) (a : Int), l.foldl max a ∈ a :: l := fun l => by
      induction l with
      | nil => intro a; simp
      | cons c l ih =>
        intro a
        have := ih (max a c)
        rw [List.foldl_cons]
        rcases List.mem_cons.1 this with h | h
        · rw [h]
          rcases Int.le_total a c with h9 | h9
          · rw [Int.max_eq_right h9]; simp
          · rw [Int.max_eq_left h9]; simp
        · exact List.mem_cons_of_mem _ (List.mem_cons_of_mem _ h)
    exact key l a
theorem may_mem {p : Pst} {f : Int} {rows : List (List Int)} {h : Nat} (hh : h < (mayL p f rows).length) : (mayL p f rows)[h] = lastI p f (rows.take (h + 1)) ∧ lastI p f (rows.take (h + 1)) ≠ nul := by
  have h1 : h < rows.length := Nat.lt_of_lt_of_le hh (may_len_le p f rows (0, 1000))
  have h2 := may_get (p := p) (f := f) h1
  rw [List.getElem?_eq_getElem hh] at h2
  split at h2
  · cases h2
  · rename_i h3
    exact ⟨Option.some.inj h2, h3⟩
theorem may_bd {p : Pst} {f : Int} {rows : List (List Int)} {h : Nat} (hh : h < (mayL p f rows).length) : (0 ≤ (mayL p f rows)[h].1 ∧ (mayL p f rows)[h].1 ≤ 1000) ∧ (0 ≤ (mayL p f rows)[h].2 ∧ (mayL p f rows)[h].2 ≤ 1000) ∧ (mayL p f rows)[h].1 ≤ (mayL p f rows)[h].2 := by
  obtain ⟨e, h3⟩ := may_mem hh
  rw [e]
  have h4 : (lastI p f (rows.take (h + 1))).1 ≤ (lastI p f (rows.take (h + 1))).2 := by
    rcases last_prp p f (rows.take (h + 1)) with h | h
    · exact absurd h h3
    · exact h
  exact ⟨last_bd ⟨Int.le_refl _, h4⟩, last_bd ⟨h4, Int.le_refl _⟩, h4⟩
theorem spdL_bd {p : Pst} {rows : List (List Int)} {h : Nat} : ∀ {i : Nat} {x : Int}, x ∈ spdL p rows h i → 0 ≤ x ∧ x ≤ 1000
  | 0, x, hx => by simp [spdL] at hx
  | i + 1, x, hx => by
    by_cases hr : h + 1 ≤ lenM p rows i
    · have hh : h < (mayL p ((i : Int) - 1) rows).length := hr
      rw [spdL_yes hr hh] at hx
      have h9 := may_bd hh
      rcases List.mem_append.1 hx with h8 | h8
      · exact spdL_bd h8
      · simp at h8
        rcases h8 with rfl | rfl
        · exact h9.1
        · exact h9.2.1
    · rw [spdL_no hr] at hx
      exact spdL_bd hx
theorem c61 (m : Nat) (ev : AV) (p : Pst) (mb hr9 : Nat) (rows : List (List Int)) (H : Heap) (hM : ∃ o vs, H.get mb = some o ∧ MapO o I (mapF vs) ∧ vs.length = p.errs.length + 1 ∧ ∀ (j : Nat) (x : AV), vs[j]? = some x → Mine 0 H x 125 2 (ivCells (mayL p ((j : Int) - 1) rows))) (hmb : mb < H.next) (hel : lenOf ev = some p.errs.length) (hpl : p.errs.length ≤ 1000) (hl1 : 1 ≤ (spdL p rows hr9 (p.errs.length + 1)).length) (hpo : (0 ≤ p.gain ∧ p.gain ≤ 200) ∧ (1 ≤ p.fall ∧ p.fall ≤ 1000) ∧ (0 ≤ p.out ∧ p.out ≤ 60) ∧ 0 ≤ p.ahead ∧ p.ahead ≤ 60) (hrb : hr9 ≤ 1000) : RR (m + 5) (.fn 61 [.agg (p.d ev mb), I (hr9 : Int)]) H = some (.agg [I (mnL (spdL p rows hr9 (p.errs.length + 1))), I (mxL (spdL p rows hr9 (p.errs.length + 1))), .int .u8 (levelI p (mxL (spdL p rows hr9 (p.errs.length + 1))))], H) := by
  refine (R_fn _ _ _ _ _).trans ?_
  refine fn_ok Try.func61 rfl rfl (by kernel_rfl) (by kernel_rfl) ?_
  obtain ⟨W, hW⟩ : ∃ W : Heap, W = ⟨H.t, H.next, H.next⟩ := ⟨_, rfl⟩
  have hg : ∀ n, W.get n = H.get n := fun n => by rw [hW]; rfl
  have hN : W.next = H.next := by rw [hW]
  have hE : ∀ G, Grow W G → Ext H G := fun G g => ⟨by rw [← hN]; exact g.next, fun n k => by rw [g.get n (by rw [hN]; exact k), hg]⟩
  have hG : Grow W W := Grow.refl (by rw [hW]; exact Nat.le_refl _)
  rw [← hW]
  have pev : ev.plain = true := lpl hel
  refine Ok.seq ?_
  refine Ok.region ?_
  refine OkO.box rfl rfl ?_
  refine OkO.box rfl rfl ?_
  refine OkO.alloc (z := [.int .i64 0, .int .i64 0, .int .u8 0]) rfl (by kernel_rfl) ?_
  refine OkO.nil ?_
  refine Ok.seq ?_
  refine Ok.region ?_
  refine OkO.alloc (z := [.nils]) rfl (by kernel_rfl) ?_
  refine OkO.nil ?_
  refine Ok.seq ?_
  refine Ok.seq ?_
  refine Ok.region ?_
  refine OkO.load rfl rfl (ldg (n := 7) (by kernel_rfl) (by first | assumption | (simp (disch := first | omega | (simp only [hNw, hPt]; omega)) only [gn0, gn1, gn2, gn3, gn4, gn5, gp0, gno, gpo] <;> first | rfl | assumption | exact gp0 _ _ _ | exact gn0 _ _)) (by first | rfl | assumption)) ?_
  refine OkO.load rfl rfl (lda (n := 1) (by kernel_rfl) (by first | assumption | (simp (disch := first | omega | (simp only [hNw, hPt]; omega)) only [gn0, gn1, gn2, gn3, gn4, gn5, gp0, gno, gpo] <;> first | rfl | assumption | exact gp0 _ _ _ | exact gn0 _ _)) (by first | rfl | assumption)) ?_
  refine OkO.bin rfl rfl rfl (bin_add (by omega) (by omega)) ?_
  refine OkO.callE rfl rfl rfl rfl rfl (c66 (m + 3) ev p mb ((hr9 : Int) + 1) _) ?_ -- "(sackung/alarm.duty).failures"
  rintro _ X ⟨rfl, q66, x1, x2, x3⟩
  simp only [hNw] at x1 x2 x3
  have n66 := q66.ext.next
  simp only [hNw] at n66
  have g66 : Grow W X := Grow.ret (by (try dsimp only); repeat (first | exact hG | apply Grow.new | (refine Grow.put ?_ _ (by first | omega | (simp only [hNw, hPt]; omega))))) q66
  have xd : X.get (W.next) = some (.cells (p.d ev mb) 114) := by rw [q66.ext.get _ (by first | omega | (simp only [hNw, hPt]; omega))]; first | assumption | (simp (disch := first | omega | (simp only [hNw, hPt]; omega)) only [gn0, gn1, gn2, gn3, gn4, gn5, gp0, gno, gpo] <;> first | rfl | assumption | exact gp0 _ _ _ | exact gn0 _ _)
  have xh : X.get (W.next + 1) = some (.cells [I (hr9 : Int)] 3) := by rw [q66.ext.get _ (by first | omega | (simp only [hNw, hPt]; omega))]; first | assumption | (simp (disch := first | omega | (simp only [hNw, hPt]; omega)) only [gn0, gn1, gn2, gn3, gn4, gn5, gp0, gno, gpo] <;> first | rfl | assumption | exact gp0 _ _ _ | exact gn0 _ _)
  have xr : X.get (W.next + 2) = some (.cells [I 0, I 0, .int .u8 0] 45) := by rw [q66.ext.get _ (by first | omega | (simp only [hNw, hPt]; omega))]; first | assumption | (simp (disch := first | omega | (simp only [hNw, hPt]; omega)) only [gn0, gn1, gn2, gn3, gn4, gn5, gp0, gno, gpo] <;> first | rfl | assumption | exact gp0 _ _ _ | exact gn0 _ _)
  have xs : X.get (W.next + 3) = some (.cells [.nils] 22) := by rw [q66.ext.get _ (by first | omega | (simp only [hNw, hPt]; omega))]; first | assumption | (simp (disch := first | omega | (simp only [hNw, hPt]; omega)) only [gn0, gn1, gn2, gn3, gn4, gn5, gp0, gno, gpo] <;> first | rfl | assumption | exact gp0 _ _ _ | exact gn0 _ _)
  refine OkO.nil ?_
  refine Ok.block ?_
  obtain ⟨o, vs, hmo, ho, hvl, hvm⟩ := hM
  refine Ok.rangeR rfl rfl (fun T0 hT0 => ?_)
  have hH : Has 6 [(3, .ptr (W.next + 1) 0), (5, .ptr (W.next + 3) 0)] T0 := by rw [hT0]; exact Has.of (by kernel_rfl)
  have hvs : ∀ (i : Nat) (x : AV), vs[i]? = some x → lenOf x = some (lenM p rows i) := fun i x hx => by (have h9 := (hvm i x hx).ivs.len; rw [List.length_map] at h9; exact h9)
  have xmo : X.get mb = some o := by rw [g66.get _ (by omega), hg]; exact hmo
  have xvm : ∀ (j : Nat) (x : AV), vs[j]? = some x → Mine 0 X x 125 2 (ivCells (mayL p ((j : Int) - 1) rows)) := fun j x hj => (hvm j x hj).to ⟨by have := g66.next; omega, fun n hn => (g66.get n (by omega)).trans (hg n)⟩
  obtain ⟨v3, H3, k1, k2, k3⟩ := c88 (m + 3) (X.next + 1) (W.next + 4) (W.next + 5) W.next mb (hr9 + 1) ev p rows vs (fun i G => RngJ X [W.next + 3] .ready none [13, 14] as61 bd61 T0 G ∧ ∃ ov, G.get (W.next + 3) = some (.cells [ov] 22) ∧ Mine (X.next + 2) G ov 3 1 ((spdL p rows hr9 i).map I)) (fun _ => False) ((X.new .defd).new (.loop .ready none T0 [13, 14] as61 bd61 X.next)) (fun i G G1 h e => ⟨h.1.to e, let ⟨ov, a, c⟩ := h.2; ⟨ov, by rw [e.get _ (by have h9 := h.1.nx; omega)]; exact a, c.to e⟩⟩) (fun G G1 h e => h.elim) (fun i G h => ⟨by rw [h.1.get _ (by omega) (by simp <;> omega), x1] <;> rfl, by rw [h.1.get _ (by omega) (by simp <;> omega), x2] <;> rfl, by have h9 := h.1.nx; omega, o, by rw [h.1.get _ (by omega) (by simp <;> omega)]; exact xmo, ho⟩) hvl hvs hel hpl (fun i G hi hr h => ⟨h.1, by rw [spdL_no hr]; exact h.2⟩) (fun i x G hi hx hr h hlo => by obtain ⟨v, H9, a1, a2, a3, a4, a5, a6⟩ := r61 (m + 2) hr9 i p rows x ((i : Int) - 1) T0 W X G hH h g66 (by omega) xh xs (xvm i x hx) hi hpl hr hlo; exact ⟨v, H9, a1, ⟨true, a2, .inl ⟨rfl, a3⟩⟩, a4, a5, a6⟩) (⟨RngJ.start _ _ _ _ _ _, .nils, by rw [gno _ _ _ (by simp; omega), gno _ _ _ (by omega)]; exact xs, Mine.nil _ _ _ _⟩) (by show W.next ≤ X.lo; exact g66.lo) (by omega)
  · -- to its end
    rcases k2 with k2 | k2
    rotate_left
    exact k2.elim
    refine ⟨v3, H3, k1, _, _, T0, [13, 14], as61, bd61, X.next, k2.1.b1, .inl ⟨rfl, rfl, ?_⟩⟩
    have g3 : Grow W H3 := k2.1.grow g66 (fun j hj => by simp at hj; omega) k3
    obtain ⟨kj, ov, ks, ko⟩ := k2
    have kn := kj.nx
    clear k1
    have yd := kj.b0
    have ysb : (H3.get (W.next + 3)).bind AObj.cs = some [ov] := by rw [ks]; rfl
    have y0 : H3.get W.next = some (.cells (p.d ev mb) 114) := by rw [kj.get _ (by omega) (by simp)]; exact xd
    have y2 : H3.get (W.next + 2) = some (.cells [I 0, I 0, .int .u8 0] 45) := by rw [kj.get _ (by omega) (by simp)]; exact xr
    have y0b : (H3.get W.next).bind AObj.cs = some (p.d ev mb) := by rw [y0]; rfl
    have uov := ko.ints
    refine Ok.seq ?_
    refine Ok.region ?_
    refine OkO.load rfl rfl (lda (n := 1) (by kernel_rfl) (by first | assumption | (simp (disch := first | omega | (simp only [hNw, hPt]; omega)) only [gn0, gn1, gn2, gn3, gn4, gn5, gp0, gno, gpo] <;> first | rfl | assumption | exact gp0 _ _ _ | exact gn0 _ _)) (by first | rfl | assumption)) ?_
    refine OkO.callV rfl rfl rfl rfl rfl (c83 (m + 2) ov (spdL p rows hr9 (p.errs.length + 1)) _ ((ko.put _ (by omega)).put _ (by omega)).ints hl1 (by have := spdL_len p rows hr9 (p.errs.length + 1); omega)) ?_ -- "sackung/alarm.leastAndGreatest"
    refine OkO.alloc (z := [.int .i64 0, .int .i64 0]) rfl (by kernel_rfl) ?_
    refine OkO.store rfl rfl rfl (sAc (n := 2) (ag := true) (by kernel_rfl) (by first | assumption | (simp (disch := first | omega | (simp only [hNw, hPt]; omega)) only [gn0, gn1, gn2, gn3, gn4, gn5, gp0, gno, gpo] <;> first | rfl | assumption | exact gp0 _ _ _ | exact gn0 _ _)) rfl (by first | rfl | assumption) (by first | rfl | exact spl_set _ _ _ (by first | assumption | omega | (simp; omega)))) ?_
    refine OkO.nil ?_
    refine Ok.seq ?_
    refine Ok.drawn [(0, true, []), (1, true, []), (2, true, []), (3, true, []), (4, true, []), (5, true, []), (6, true, []), (7, true, []), (8, false, [3, 1]), (9, true, []), (10, false, [])] (by kernel_rfl) ?_
    refine OkP.step ?_
    refine OkO.indexArr (len := 2) (sz := 1) (n := 0) rfl rfl rfl (by kernel_rfl) (by omega) ?_
    refine OkO.nil ⟨rfl, ?_⟩
    refine OkP.step ?_
    refine OkO.load rfl rfl (lda (n := 1) (by kernel_rfl) (by first | assumption | (simp (disch := first | omega | (simp only [hNw, hPt]; omega)) only [gn0, gn1, gn2, gn3, gn4, gn5, gp0, gno, gpo] <;> first | rfl | assumption | exact gp0 _ _ _ | exact gn0 _ _)) (by first | rfl | assumption)) ?_
    refine OkO.nil ⟨rfl, ?_⟩
    refine OkP.step ?_
    refine OkO.indexArr (len := 2) (sz := 1) (n := 1) rfl rfl rfl (by kernel_rfl) (by omega) ?_
    refine OkO.nil ⟨rfl, ?_⟩
    refine OkP.step ?_
    refine OkO.load rfl rfl (lda (n := 1) (by kernel_rfl) (by first | assumption | (simp (disch := first | omega | (simp only [hNw, hPt]; omega)) only [gn0, gn1, gn2, gn3, gn4, gn5, gp0, gno, gpo] <;> first | rfl | assumption | exact gp0 _ _ _ | exact gn0 _ _)) (by first | rfl | assumption)) ?_
    refine OkO.nil ⟨rfl, ?_⟩
    refine OkP.step ?_
    refine OkO.fieldAddr (o := 0) rfl (by kernel_rfl) rfl ?_
    refine OkO.nil ⟨rfl, ?_⟩
    refine OkP.step ?_
    refine OkO.load rfl rfl (ldg (n := 6) (by kernel_rfl) (by first | assumption | (simp (disch := first | omega | (simp only [hNw, hPt]; omega)) only [gn0, gn1, gn2, gn3, gn4, gn5, gp0, gno, gpo] <;> first | rfl | assumption | exact gp0 _ _ _ | exact gn0 _ _)) (by first | rfl | assumption)) ?_
    refine OkO.nil ⟨rfl, ?_⟩
    refine OkP.step ?_
    refine OkO.indexArr (len := 2) (sz := 1) (n := 1) rfl rfl rfl (by kernel_rfl) (by omega) ?_
    refine OkO.nil ⟨rfl, ?_⟩
    refine OkP.step ?_
    refine OkO.load rfl rfl (lda (n := 1) (by kernel_rfl) (by first | assumption | (simp (disch := first | omega | (simp only [hNw, hPt]; omega)) only [gn0, gn1, gn2, gn3, gn4, gn5, gp0, gno, gpo] <;> first | rfl | assumption | exact gp0 _ _ _ | exact gn0 _ _)) (by first | rfl | assumption)) ?_
    refine OkO.nil ⟨rfl, ?_⟩
    refine OkP.step ?_
    refine OkO.callV rfl rfl rfl rfl rfl (c84 (m + 0) ev p (mxL (spdL p rows hr9 (p.errs.length + 1))) _ ⟨_, hel⟩ (by have := spdL_bd (mxL_mem (L := (spdL p rows hr9 (p.errs.length + 1))) (by intro e; rw [e] at hl1; simp at hl1)); omega) hpo) ?_ -- "(sackung/alarm.Post).level"
    refine OkO.nil ⟨(sco (sld rfl rfl (lda (n := 1) (by kernel_rfl) (by first | assumption | (simp (disch := first | omega | (simp only [hNw, hPt]; omega)) only [gn0, gn1, gn2, gn3, gn4, gn5, gp0, gno, gpo] <;> first | rfl | assumption | exact gp0 _ _ _ | exact gn0 _ _)) (by first | rfl | assumption)) rfl (eqr _ (by first | rfl | exact lpl (by assumption) | (simp [AV.plain, AV.plains, AV.cells, pev, Pst.d])))) (sco (sld rfl rfl (lda (n := 1) (by kernel_rfl) (by first | assumption | (simp (disch := first | omega | (simp only [hNw, hPt]; omega)) only [gn0, gn1, gn2, gn3, gn4, gn5, gp0, gno, gpo] <;> first | rfl | assumption | exact gp0 _ _ _ | exact gn0 _ _)) (by first | rfl | assumption)) rfl (eqr _ (by first | rfl | exact lpl (by assumption) | (simp [AV.plain, AV.plains, AV.cells, pev, Pst.d])))) rfl)), ?_⟩
    refine OkP.step ?_
    refine OkO.build (z := [.int .i64 0, .int .i64 0, .int .u8 0]) (pl := [(0, 1), (1, 1), (2, 1)]) rfl (by kernel_rfl) rfl rfl ?_
    refine OkO.nil ⟨rfl, ?_⟩
    refine OkP.step ?_
    refine OkO.store rfl rfl rfl (sAc (n := 3) (ag := true) (by kernel_rfl) (by first | assumption | (simp (disch := first | omega | (simp only [hNw, hPt]; omega)) only [gn0, gn1, gn2, gn3, gn4, gn5, gp0, gno, gpo] <;> first | rfl | assumption | exact gp0 _ _ _ | exact gn0 _ _)) rfl (by first | rfl | assumption) (by first | rfl | exact spl_set _ _ _ (by first | assumption | omega | (simp; omega)))) ?_
    refine OkO.nil ⟨rfl, ?_⟩
    refine OkP.nil ?_
    refine Ok.ret ⟨.inr rfl, ?_⟩
    rw [back_mark (d := X.next) (by first | assumption | (simp (disch := first | omega | (simp only [hNw, hPt]; omega)) only [gn0, gn1, gn2, gn3, gn4, gn5, gp0, gno, gpo] <;> first | rfl | assumption | exact gp0 _ _ _ | exact gn0 _ _))]
    clear y0b ysb y0 y2
    exact back_flat (resV_cell rfl (ldg (n := 3) (by kernel_rfl) (by first | assumption | (simp (disch := first | omega | (simp only [hNw, hPt]; omega)) only [gn0, gn1, gn2, gn3, gn4, gn5, gp0, gno, gpo] <;> first | rfl | assumption)) (by first | rfl | assumption)) resV_nil) rfl rfl (by rw [← hW]; exact (by (try dsimp only); repeat (first | exact g3 | apply Grow.new | (refine Grow.put ?_ _ (by first | omega | (simp only [hNw, hPt]; omega))))))
end
end Go.Ev

set_option maxRecDepth 100000
set_option linter.unusedSimpArgs false
set_option linter.unusedVariables false
namespace Go.Ev
open Go Go.Proofs
noncomputable section
theorem DutyM.put {k0 : Nat} {G : Heap} {mb : Nat} {p : Pst} {rows : List (List Int)} (h : DutyM k0 G mb p rows) {n : Nat} (o : AObj) (hn : n < k0) : DutyM k0 (G.put n o) mb p rows := by
  obtain ⟨h1, h2, o, vs, h3, h4, h5, h6⟩ := h
  exact ⟨h1, by simpa using h2, o, vs, by rw [gpo _ _ _ _ (by omega)]; exact h3, h4, h5, fun j x hj => (h6 j x hj).put _ hn⟩
theorem DutyM.new {k0 : Nat} {G : Heap} {mb : Nat} {p : Pst} {rows : List (List Int)} (h : DutyM k0 G mb p rows) (o : AObj) : DutyM k0 (G.new o) mb p rows := h.to (Ext.new (Ext.refl _) _)
theorem c60N (m : Nat) (ev rv : AV) (p : Pst) (rows : List (List Int)) (H : Heap) (hV : Ints H ev p.errs) (hRs : LstAt H rv rows) (hpl : p.errs.length ≤ 100000) (hrl : rows.length ≤ 100000) (hlens9 : ∀ r ∈ rows, r.length ≤ 100000) (hf : faultE p rows = 0) (hpossF : possB p rows rows.length = false) : RR (m + 6) (.fn 60 [.agg (p.c ev), rv]) H = some (.tup [.agg [.nils, I 0, I 0, I 0, I 0, I 0, .nilm], I 9], H) := by
  refine (R_fn _ _ _ _ _).trans ?_
  refine fn_ok Try.func60 rfl rfl (by kernel_rfl) (by kernel_rfl) ?_
  obtain ⟨W, hW⟩ : ∃ W : Heap, W = ⟨H.t, H.next, H.next⟩ := ⟨_, rfl⟩
  have hg : ∀ n, W.get n = H.get n := fun n => by rw [hW]; rfl
  have hN : W.next = H.next := by rw [hW]
  have hE : ∀ G, Grow W G → Ext H G := fun G g => ⟨by rw [← hN]; exact g.next, fun n k => by rw [g.get n (by rw [hN]; exact k), hg]⟩
  have hG : Grow W W := Grow.refl (by rw [hW]; exact Nat.le_refl _)
  rw [← hW]
  have pev : ev.plain = true := lpl hV.len
  have hel := hV.len
  have hrlen := hRs.len
  have ats : ∀ mb, atoms [ev, I p.gain, I p.drop, I p.fall, I p.out, I p.ahead, .map mb] = true := fun mb => by rw [atoms, (len_one hel).2]; rfl
  obtain ⟨hok, hr60, hlens, hrbd⟩ := faultE_facts hf
  obtain ⟨⟨hp1, hp2⟩, hpe, hpg, hpd, hpf, hpo1, hpo2⟩ := Pst.ok_facts hok
  refine Ok.seq ?_
  refine Ok.region ?_
  refine OkO.box rfl rfl ?_
  refine OkO.alloc (z := [.nils, .int .i64 0, .int .i64 0, .int .i64 0, .int .i64 0, .int .i64 0, .nilm]) rfl (by kernel_rfl) ?_
  refine OkO.assign rfl rfl ?_
  refine OkO.nil ?_
  refine Ok.seq ?_
  refine Ok.seq ?_
  refine Ok.region ?_
  refine OkO.load rfl rfl (ldg (n := 6) (by kernel_rfl) (by first | assumption | (simp (disch := first | omega | (simp only [hNw, hPt]; omega)) only [gn0, gn1, gn2, gn3, gn4, gn5, gp0, gno, gpo] <;> first | rfl | assumption | exact gp0 _ _ _ | exact gn0 _ _)) (by first | rfl | assumption)) ?_
  refine OkO.move rfl rfl ?_
  refine OkO.callV rfl rfl rfl rfl rfl ((c62 (m + 0) ev rv p rows _ (hV.ext (hE _ (by (try dsimp only); repeat (first | exact hG | apply Grow.new | (refine Grow.put ?_ _ (by first | omega | (simp only [hNw, hPt]; omega))))))) (hRs.ext (hE _ (by (try dsimp only); repeat (first | exact hG | apply Grow.new | (refine Grow.put ?_ _ (by first | omega | (simp only [hNw, hPt]; omega))))))) hpl hrl hlens9).trans (by rw [hf])) ?_ -- "sackung/alarm.checkReads"
  refine OkO.assign rfl rfl ?_
  refine OkO.nil ?_
  refine Ok.seq ?_
  refine Ok.region ?_
  refine OkO.move rfl rfl ?_
  refine OkO.bin rfl rfl rfl ((bin_neq _ _).trans (congrArg (fun b => some (AV.bool b)) (show _ = false from (by first | rfl | (simp; done) | (simp; omega) | (simp_all; done))))) ?_
  refine OkO.nil ?_
  refine Ok.condF rfl ?_
  refine Ok.skip ?_
  refine Ok.seq ?_
  refine Ok.region ?_
  refine OkO.load rfl rfl (ldg (n := 6) (by kernel_rfl) (by first | assumption | (simp (disch := first | omega | (simp only [hNw, hPt]; omega)) only [gn0, gn1, gn2, gn3, gn4, gn5, gp0, gno, gpo] <;> first | rfl | assumption | exact gp0 _ _ _ | exact gn0 _ _)) (by first | rfl | assumption)) ?_
  refine OkO.move rfl rfl ?_
  refine OkO.callE rfl rfl rfl rfl rfl (c63 (m + 0) ev rv p rows _ (hV.ext (hE _ (by (try dsimp only); repeat (first | exact hG | apply Grow.new | (refine Grow.put ?_ _ (by first | omega | (simp only [hNw, hPt]; omega))))))) (hRs.ext (hE _ (by (try dsimp only); repeat (first | exact hG | apply Grow.new | (refine Grow.put ?_ _ (by first | omega | (simp only [hNw, hPt]; omega))))))) ⟨hpg, hpd⟩ hpe (by omega) hlens hrbd (by omega)) ?_ -- "(sackung/alarm.Post).onDuty"
  rintro _ H63 ⟨mb, rfl, q63, dm63⟩
  have n1 := q63.ext.next
  try simp only [hNw, hPt] at n1
  have gg1 : Grow W H63 := Grow.ret (by (try dsimp only); repeat (first | exact hG | apply Grow.new | (refine Grow.put ?_ _ (by first | omega | (simp only [hNw, hPt]; omega))))) q63
  have o1 : H63.get (W.next + 1) = some (.cells [.nils, I 0, I 0, I 0, I 0, I 0, .nilm] 114) := by rw [q63.ext.get _ (by first | omega | (simp only [hNw, hPt]; omega))]; first | assumption | exact gn0 _ _ | (simp (disch := first | omega | (simp only [hNw, hPt]; omega)) only [gn0, gn1, gn2, gn3, gn4, gn5, gp0, gno, gpo] <;> first | rfl | assumption | exact gp0 _ _ _ | exact gn0 _ _)
  have dmh := dm63.2.1
  refine OkO.alloc (z := [.nils, .int .i64 0, .int .i64 0, .int .i64 0, .int .i64 0, .int .i64 0, .nilm]) rfl (by kernel_rfl) ?_
  refine OkO.store rfl rfl rfl (sAc (n := 7) (ag := true) (by kernel_rfl) (by first | assumption | (simp (disch := first | omega | (simp only [hNw, hPt]; omega)) only [gn0, gn1, gn2, gn3, gn4, gn5, gp0, gno, gpo] <;> first | rfl | assumption | exact gp0 _ _ _ | exact gn0 _ _)) rfl (by first | rfl | assumption | exact ats _) (by first | rfl | exact spl_set _ _ _ (by first | assumption | omega | (simp; omega)))) ?_
  refine OkO.nil ?_
  refine Ok.seq ?_
  refine Ok.seq ?_
  refine Ok.region ?_
  refine OkO.load rfl rfl (ldg (n := 7) (by kernel_rfl) (by first | assumption | (simp (disch := first | omega | (simp only [hNw, hPt]; omega)) only [gn0, gn1, gn2, gn3, gn4, gn5, gp0, gno, gpo] <;> first | rfl | assumption | exact gp0 _ _ _ | exact gn0 _ _)) (by first | rfl | assumption)) ?_
  refine OkO.move rfl rfl ?_
  refine OkO.builtin rfl rfl rfl (bln (by kernel_rfl) (by first | assumption | rfl)) ?_
  refine OkO.callV rfl rfl rfl rfl rfl ((c64 (m + 2) ev p mb rows.length rows _ ((dm63.to (by repeat (first | exact Ext.refl _ | (refine Ext.put ?_ _ (by first | omega | (simp only [hNw, hPt]; omega))) | apply Ext.new))).low (Nat.zero_le _)).2.2 (by simp only [hNw, hPt]; omega) hel (by omega)).trans (by rw [hpossF])) ?_ -- "(sackung/alarm.duty).possible"
  refine OkO.un rfl rfl rfl ?_
  refine OkO.nil ?_
  refine Ok.condT rfl ?_
  refine Ok.seq ?_
  refine Ok.region ?_
  refine OkO.build (z := [.nils, .int .i64 0, .int .i64 0, .int .i64 0, .int .i64 0, .int .i64 0, .nilm]) (pl := [(0, 6), (6, 1)]) rfl (by kernel_rfl) rfl rfl ?_
  refine OkO.store rfl rfl rfl (sAc (n := 7) (ag := true) (by kernel_rfl) (by first | assumption | (simp (disch := first | omega | (simp only [hNw, hPt]; omega)) only [gn0, gn1, gn2, gn3, gn4, gn5, gp0, gno, gpo] <;> first | rfl | assumption | exact gp0 _ _ _ | exact gn0 _ _)) rfl (by first | rfl | assumption | exact ats _) (by first | rfl | exact spl_set _ _ _ (by first | assumption | omega | (simp; omega)))) ?_
  refine OkO.assign rfl rfl ?_
  refine OkO.nil ?_
  refine Ok.ret ⟨.inr rfl, ?_⟩
  exact back_flat (resV_cell rfl (ldg (n := 7) (by kernel_rfl) (by first | assumption | (simp (disch := first | omega | (simp only [hNw, hPt]; omega)) only [gn0, gn1, gn2, gn3, gn4, gn5, gp0, gno, gpo] <;> first | rfl | assumption)) (by first | rfl | assumption)) (resV_tmp rfl resV_nil)) rfl rfl (by rw [← hW]; exact (by (try dsimp only); repeat (first | exact gg1 | apply Grow.new | (refine Grow.put ?_ _ (by first | omega | (simp only [hNw, hPt]; omega))))))
theorem c60Y (m : Nat) (ev rv : AV) (p : Pst) (rows : List (List Int)) (H : Heap) (hV : Ints H ev p.errs) (hRs : LstAt H rv rows) (hpl : p.errs.length ≤ 100000) (hrl : rows.length ≤ 100000) (hlens9 : ∀ r ∈ rows, r.length ≤ 100000) (hf : faultE p rows = 0) (hpossT : possB p rows rows.length = true) : ∃ v H', RR (m + 6) (.fn 60 [.agg (p.c ev), rv]) H = some (v, H') ∧ ∃ mb, v = .tup [.agg (p.d ev mb), I 0] ∧ Ret H H' ∧ DutyM H.next H' mb p rows := by
  show ∃ v H', evFn Try.prog (RR (m + 5)) 60 [.agg (p.c ev), rv] H = some (v, H') ∧ ∃ mb, v = .tup [.agg (p.d ev mb), I 0] ∧ Ret H H' ∧ DutyM H.next H' mb p rows
  refine fn_okE Try.func60 rfl rfl (by kernel_rfl) (by kernel_rfl) ?_
  obtain ⟨W, hW⟩ : ∃ W : Heap, W = ⟨H.t, H.next, H.next⟩ := ⟨_, rfl⟩
  have hg : ∀ n, W.get n = H.get n := fun n => by rw [hW]; rfl
  have hN : W.next = H.next := by rw [hW]
  have hE : ∀ G, Grow W G → Ext H G := fun G g => ⟨by rw [← hN]; exact g.next, fun n k => by rw [g.get n (by rw [hN]; exact k), hg]⟩
  have hG : Grow W W := Grow.refl (by rw [hW]; exact Nat.le_refl _)
  rw [← hW]
  have pev : ev.plain = true := lpl hV.len
  have hel := hV.len
  have hrlen := hRs.len
  have ats : ∀ mb, atoms [ev, I p.gain, I p.drop, I p.fall, I p.out, I p.ahead, .map mb] = true := fun mb => by rw [atoms, (len_one hel).2]; rfl
  obtain ⟨hok, hr60, hlens, hrbd⟩ := faultE_facts hf
  obtain ⟨⟨hp1, hp2⟩, hpe, hpg, hpd, hpf, hpo1, hpo2⟩ := Pst.ok_facts hok
  refine Ok.seq ?_
  refine Ok.region ?_
  refine OkO.box rfl rfl ?_
  refine OkO.alloc (z := [.nils, .int .i64 0, .int .i64 0, .int .i64 0, .int .i64 0, .int .i64 0, .nilm]) rfl (by kernel_rfl) ?_
  refine OkO.assign rfl rfl ?_
  refine OkO.nil ?_
  refine Ok.seq ?_
  refine Ok.seq ?_
  refine Ok.region ?_
  refine OkO.load rfl rfl (ldg (n := 6) (by kernel_rfl) (by first | assumption | (simp (disch := first | omega | (simp only [hNw, hPt]; omega)) only [gn0, gn1, gn2, gn3, gn4, gn5, gp0, gno, gpo] <;> first | rfl | assumption | exact gp0 _ _ _ | exact gn0 _ _)) (by first | rfl | assumption)) ?_
  refine OkO.move rfl rfl ?_
  refine OkO.callV rfl rfl rfl rfl rfl ((c62 (m + 0) ev rv p rows _ (hV.ext (hE _ (by (try dsimp only); repeat (first | exact hG | apply Grow.new | (refine Grow.put ?_ _ (by first | omega | (simp only [hNw, hPt]; omega))))))) (hRs.ext (hE _ (by (try dsimp only); repeat (first | exact hG | apply Grow.new | (refine Grow.put ?_ _ (by first | omega | (simp only [hNw, hPt]; omega))))))) hpl hrl hlens9).trans (by rw [hf])) ?_ -- "sackung/alarm.checkReads"
  refine OkO.assign rfl rfl ?_
  refine OkO.nil ?_
  refine Ok.seq ?_
  refine Ok.region ?_
  refine OkO.move rfl rfl ?_
  refine OkO.bin rfl rfl rfl ((bin_neq _ _).trans (congrArg (fun b => some (AV.bool b)) (show _ = false from (by first | rfl | (simp; done) | (simp; omega) | (simp_all; done))))) ?_
  refine OkO.nil ?_
  refine Ok.condF rfl ?_
  refine Ok.skip ?_
  refine Ok.seq ?_
  refine Ok.region ?_
  refine OkO.load rfl rfl (ldg (n := 6) (by kernel_rfl) (by first | assumption | (simp (disch := first | omega | (simp only [hNw, hPt]; omega)) only [gn0, gn1, gn2, gn3, gn4, gn5, gp0, gno, gpo] <;> first | rfl | assumption | exact gp0 _ _ _ | exact gn0 _ _)) (by first | rfl | assumption)) ?_
  refine OkO.move rfl rfl ?_
  refine OkO.callE rfl rfl rfl rfl rfl (c63 (m + 0) ev rv p rows _ (hV.ext (hE _ (by (try dsimp only); repeat (first | exact hG | apply Grow.new | (refine Grow.put ?_ _ (by first | omega | (simp only [hNw, hPt]; omega))))))) (hRs.ext (hE _ (by (try dsimp only); repeat (first | exact hG | apply Grow.new | (refine Grow.put ?_ _ (by first | omega | (simp only [hNw, hPt]; omega))))))) ⟨hpg, hpd⟩ hpe (by omega) hlens hrbd (by omega)) ?_ -- "(sackung/alarm.Post).onDuty"
  rintro _ H63 ⟨mb, rfl, q63, dm63⟩
  have n1 := q63.ext.next
  try simp only [hNw, hPt] at n1
  have gg1 : Grow W H63 := Grow.ret (by (try dsimp only); repeat (first | exact hG | apply Grow.new | (refine Grow.put ?_ _ (by first | omega | (simp only [hNw, hPt]; omega))))) q63
  have o1 : H63.get (W.next + 1) = some (.cells [.nils, I 0, I 0, I 0, I 0, I 0, .nilm] 114) := by rw [q63.ext.get _ (by first | omega | (simp only [hNw, hPt]; omega))]; first | assumption | exact gn0 _ _ | (simp (disch := first | omega | (simp only [hNw, hPt]; omega)) only [gn0, gn1, gn2, gn3, gn4, gn5, gp0, gno, gpo] <;> first | rfl | assumption | exact gp0 _ _ _ | exact gn0 _ _)
  have dmh := dm63.2.1
  refine OkO.alloc (z := [.nils, .int .i64 0, .int .i64 0, .int .i64 0, .int .i64 0, .int .i64 0, .nilm]) rfl (by kernel_rfl) ?_
  refine OkO.store rfl rfl rfl (sAc (n := 7) (ag := true) (by kernel_rfl) (by first | assumption | (simp (disch := first | omega | (simp only [hNw, hPt]; omega)) only [gn0, gn1, gn2, gn3, gn4, gn5, gp0, gno, gpo] <;> first | rfl | assumption | exact gp0 _ _ _ | exact gn0 _ _)) rfl (by first | rfl | assumption | exact ats _) (by first | rfl | exact spl_set _ _ _ (by first | assumption | omega | (simp; omega)))) ?_
  refine OkO.nil ?_
  refine Ok.seq ?_
  refine Ok.seq ?_
  refine Ok.region ?_
  refine OkO.load rfl rfl (ldg (n := 7) (by kernel_rfl) (by first | assumption | (simp (disch := first | omega | (simp only [hNw, hPt]; omega)) only [gn0, gn1, gn2, gn3, gn4, gn5, gp0, gno, gpo] <;> first | rfl | assumption | exact gp0 _ _ _ | exact gn0 _ _)) (by first | rfl | assumption)) ?_
  refine OkO.move rfl rfl ?_
  refine OkO.builtin rfl rfl rfl (bln (by kernel_rfl) (by first | assumption | rfl)) ?_
  refine OkO.callV rfl rfl rfl rfl rfl ((c64 (m + 2) ev p mb rows.length rows _ ((dm63.to (by repeat (first | exact Ext.refl _ | (refine Ext.put ?_ _ (by first | omega | (simp only [hNw, hPt]; omega))) | apply Ext.new))).low (Nat.zero_le _)).2.2 (by simp only [hNw, hPt]; omega) hel (by omega)).trans (by rw [hpossT])) ?_ -- "(sackung/alarm.duty).possible"
  refine OkO.un rfl rfl rfl ?_
  refine OkO.nil ?_
  refine Ok.condF rfl ?_
  refine Ok.skip ?_
  refine Ok.seq ?_
  refine Ok.region ?_
  refine OkO.load rfl rfl (ldg (n := 7) (by kernel_rfl) (by first | assumption | (simp (disch := first | omega | (simp only [hNw, hPt]; omega)) only [gn0, gn1, gn2, gn3, gn4, gn5, gp0, gno, gpo] <;> first | rfl | assumption | exact gp0 _ _ _ | exact gn0 _ _)) (by first | rfl | assumption)) ?_
  refine OkO.store rfl rfl rfl (sAc (n := 7) (ag := true) (by kernel_rfl) (by first | assumption | (simp (disch := first | omega | (simp only [hNw, hPt]; omega)) only [gn0, gn1, gn2, gn3, gn4, gn5, gp0, gno, gpo] <;> first | rfl | assumption | exact gp0 _ _ _ | exact gn0 _ _)) rfl (by first | rfl | assumption | exact ats _) (by first | rfl | exact spl_set _ _ _ (by first | assumption | omega | (simp; omega)))) ?_
  refine OkO.assign rfl rfl ?_
  refine OkO.nil ?_
  refine Ok.ret ⟨.inr rfl, ?_⟩
  refine back_newQ (resV_cell rfl (ldg (n := 7) (by kernel_rfl) (by first | assumption | (simp (disch := first | omega | (simp only [hNw, hPt]; omega)) only [gn0, gn1, gn2, gn3, gn4, gn5, gp0, gno, gpo] <;> first | rfl | assumption)) (by first | rfl | assumption)) (resV_tmp rfl resV_nil)) rfl (by rw [← hW]; exact (by (try dsimp only); repeat (first | exact gg1 | apply Grow.new | (refine Grow.put ?_ _ (by first | omega | (simp only [hNw, hPt]; omega)))))) (by show AV.flats [_, _] = false; unfold AV.flats; rw [duty_flat]; try rfl) (fun H9 p1 p2 p3 => ⟨mb, rfl, p1, ?_⟩)
  try simp only [hNw] at dm63
  have e9 := dm63.to (G' := ((H63.new (.cells [.nils, I 0, I 0, I 0, I 0, I 0, .nilm] 114)).put H63.next (.cells (p.d ev mb) 114))) (by repeat (first | exact Ext.refl _ | (refine Ext.put ?_ _ (by first | omega | (simp only [hNw, hPt]; omega))) | apply Ext.new))
  exact ((e9.put (n := W.next + 1) (.cells (p.d ev mb) 114) (by omega)).low (by omega)).to ⟨Nat.le_of_eq p3.symm, fun n _ => p2 n⟩
end
end Go.Ev

set_option maxRecDepth 100000
set_option linter.unusedSimpArgs false
set_option linter.unusedVariables false
namespace Go.Ev
open Go Go.Proofs
noncomputable section
def stc (p : Pst) (rows : List (List Int)) (h : Nat) : List AV := [I (mnL (spdL p rows h (p.errs.length + 1))), I (mxL (spdL p rows h (p.errs.length + 1))), .int .u8 (levelI p (mxL (spdL p rows h (p.errs.length + 1))))]
def stCells (p : Pst) (rows : List (List Int)) (n : Nat) : List AV := ((List.range n).map (stc p rows)).flatten
theorem stCells_succ (p : Pst) (rows : List (List Int)) (n : Nat) : stCells p rows (n + 1) = stCells p rows n ++ stc p rows n := by simp [stCells, List.range_succ]
theorem stCells_len (p : Pst) (rows : List (List Int)) : ∀ n, (stCells p rows n).length = n * 3
  | 0 => rfl
  | n + 1 => by rw [stCells_succ, List.length_append, stCells_len p rows n]; show n * 3 + 3 = _; omega
theorem Mine.states {k0 : Nat} {G : Heap} {v : AV} {e : TypeId} {p : Pst} {rows : List (List Int)} {n : Nat} (h : Mine k0 G v e 3 (stCells p rows n)) : Row G v 3 ((List.range n).map (stc p rows)) := Mine.row (e := e) h (fun x hx => by obtain ⟨y, _, rfl⟩ := List.mem_map.1 hx; rfl) (by omega)
theorem spdL_pos {p : Pst} {rows : List (List Int)} {h : Nat} : ∀ {i n : Nat}, i < n → h + 1 ≤ lenM p rows i → 1 ≤ (spdL p rows h n).length
  | i, 0, hi, _ => by omega
  | i, n + 1, hi, hr => by
    by_cases e : i = n
    · subst e
      have hh : h < (mayL p ((i : Int) - 1) rows).length := hr
      rw [spdL_yes hr hh]; simp
    · have := spdL_pos (i := i) (n := n) (by omega) hr
      show 1 ≤ (spdL p rows h n ++ _).length
      rw [List.length_append]; omega
theorem possB_iff {p : Pst} {rows : List (List Int)} {r : Nat} : possB p rows r = true ↔ ∃ i, i ≤ p.errs.length ∧ r ≤ lenM p rows i := by
  unfold possB
  rw [List.any_eq_true]
  constructor
  · rintro ⟨i, hi, h⟩
    rw [decide_eq_true_eq] at h
    exact ⟨i, by have := List.mem_range.1 hi; omega, h⟩
  · rintro ⟨i, hi, h⟩
    exact ⟨i, List.mem_range.2 (by omega), by rw [decide_eq_true_eq]; exact h⟩
theorem spdL_all {p : Pst} {rows : List (List Int)} {h r : Nat} (hp : possB p rows r = true) (hh : h < r) : 1 ≤ (spdL p rows h (p.errs.length + 1)).length := by
  obtain ⟨i, hi, h1⟩ := possB_iff.1 hp
  exact spdL_pos (i := i) (by omega) (by omega)
theorem c21N (m : Nat) (ev rv : AV) (p : Pst) (rows : List (List Int)) (H : Heap) (hV : Ints H ev p.errs) (hRs : LstAt H rv rows) (hpl : p.errs.length ≤ 100000) (hrl : rows.length ≤ 100000) (hlens9 : ∀ r ∈ rows, r.length ≤ 100000) (hf : faultE p rows = 0) (hpossF : possB p rows rows.length = false) : RR (m + 7) (.fn 21 [.agg (p.c ev), rv]) H = some (.tup [.nils, I 9], H) := by
  refine (R_fn _ _ _ _ _).trans ?_
  refine fn_ok Try.func21 rfl rfl (by kernel_rfl) (by kernel_rfl) ?_
  obtain ⟨W, hW⟩ : ∃ W : Heap, W = ⟨H.t, H.next, H.next⟩ := ⟨_, rfl⟩
  have hg : ∀ n, W.get n = H.get n := fun n => by rw [hW]; rfl
  have hN : W.next = H.next := by rw [hW]
  have hE : ∀ G, Grow W G → Ext H G := fun G g => ⟨by rw [← hN]; exact g.next, fun n k => by rw [g.get n (by rw [hN]; exact k), hg]⟩
  have hG : Grow W W := Grow.refl (by rw [hW]; exact Nat.le_refl _)
  rw [← hW]
  have pev : ev.plain = true := lpl hV.len
  have hel := hV.len
  have hrlen := hRs.len
  have ats : ∀ mb, atoms [ev, I p.gain, I p.drop, I p.fall, I p.out, I p.ahead, .map mb] = true := fun mb => by rw [atoms, (len_one hel).2]; rfl
  refine Ok.seq ?_
  refine Ok.region ?_
  refine OkO.box rfl rfl ?_
  refine OkO.assign rfl rfl ?_
  refine OkO.assign rfl rfl ?_
  refine OkO.nil ?_
  refine Ok.seq ?_
  refine Ok.region ?_
  refine OkO.load rfl rfl (ldg (n := 6) (by kernel_rfl) (by first | assumption | (simp (disch := first | omega | (simp only [hNw, hPt]; omega)) only [gn0, gn1, gn2, gn3, gn4, gn5, gp0, gno, gpo] <;> first | rfl | assumption | exact gp0 _ _ _ | exact gn0 _ _)) (by first | rfl | assumption)) ?_
  refine OkO.move rfl rfl ?_
  refine OkO.callV rfl rfl rfl rfl rfl (c60N (m + 0) ev rv p rows _ (hV.ext (hE _ (by (try dsimp only); repeat (first | exact hG | apply Grow.new | (refine Grow.put ?_ _ (by first | omega | (simp only [hNw, hPt]; omega))))))) (hRs.ext (hE _ (by (try dsimp only); repeat (first | exact hG | apply Grow.new | (refine Grow.put ?_ _ (by first | omega | (simp only [hNw, hPt]; omega))))))) hpl hrl hlens9 hf hpossF) ?_ -- "sackung/alarm.allPossible"
  refine OkO.move rfl rfl ?_
  refine OkO.extract rfl rfl rfl ?_
  refine OkO.extract rfl rfl rfl ?_
  refine OkO.alloc (z := [.nils, .int .i64 0, .int .i64 0, .int .i64 0, .int .i64 0, .int .i64 0, .nilm]) rfl (by kernel_rfl) ?_
  refine OkO.store rfl rfl rfl (sAc (n := 7) (ag := true) (by kernel_rfl) (by first | assumption | (simp (disch := first | omega | (simp only [hNw, hPt]; omega)) only [gn0, gn1, gn2, gn3, gn4, gn5, gp0, gno, gpo] <;> first | rfl | assumption | exact gp0 _ _ _ | exact gn0 _ _)) rfl (by first | rfl | assumption) (by first | rfl | exact spl_set _ _ _ (by first | assumption | omega | (simp; omega)))) ?_
  refine OkO.assign rfl rfl ?_
  refine OkO.nil ?_
  refine Ok.seq ?_
  refine Ok.seq ?_
  refine Ok.region ?_
  refine OkO.move rfl rfl ?_
  refine OkO.bin rfl rfl rfl ((bin_neq _ _).trans (congrArg (fun b => some (AV.bool b)) (show _ = true from (by rfl)))) ?_
  refine OkO.nil ?_
  refine Ok.condT rfl ?_
  refine Ok.seq ?_
  refine Ok.region ?_
  refine OkO.move rfl rfl ?_
  refine OkO.assign rfl rfl ?_
  refine OkO.assign rfl rfl ?_
  refine OkO.nil ?_
  refine Ok.ret ⟨.inr rfl, ?_⟩
  exact back_flat (resV_tmp rfl (resV_tmp rfl resV_nil)) rfl rfl (by rw [← hW]; exact (by (try dsimp only); repeat (first | exact hG | apply Grow.new | (refine Grow.put ?_ _ (by first | omega | (simp only [hNw, hPt]; omega))))))
theorem c21Y (m : Nat) (ev rv : AV) (p : Pst) (rows : List (List Int)) (H : Heap) (hV : Ints H ev p.errs) (hRs : LstAt H rv rows) (hpl : p.errs.length ≤ 100000) (hrl : rows.length ≤ 100000) (hlens9 : ∀ r ∈ rows, r.length ≤ 100000) (hf : faultE p rows = 0) (hpossT : possB p rows rows.length = true) : ∃ v H', RR (m + 7) (.fn 21 [.agg (p.c ev), rv]) H = some (v, H') ∧ ∃ x, v = .tup [x, I 0] ∧ Ret H H' ∧ Mine H.next H' x 45 3 (stCells p rows rows.length) := by
  show ∃ v H', evFn Try.prog (RR (m + 6)) 21 [.agg (p.c ev), rv] H = some (v, H') ∧ ∃ x, v = .tup [x, I 0] ∧ Ret H H' ∧ Mine H.next H' x 45 3 (stCells p rows rows.length)
  refine fn_okE Try.func21 rfl rfl (by kernel_rfl) (by kernel_rfl) ?_
  obtain ⟨W, hW⟩ : ∃ W : Heap, W = ⟨H.t, H.next, H.next⟩ := ⟨_, rfl⟩
  have hg : ∀ n, W.get n = H.get n := fun n => by rw [hW]; rfl
  have hN : W.next = H.next := by rw [hW]
  have hE : ∀ G, Grow W G → Ext H G := fun G g => ⟨by rw [← hN]; exact g.next, fun n k => by rw [g.get n (by rw [hN]; exact k), hg]⟩
  have hG : Grow W W := Grow.refl (by rw [hW]; exact Nat.le_refl _)
  rw [← hW]
  have pev : ev.plain = true := lpl hV.len
  have hel := hV.len
  have hrlen := hRs.len
  have ats : ∀ mb, atoms [ev, I p.gain, I p.drop, I p.fall, I p.out, I p.ahead, .map mb] = true := fun mb => by rw [atoms, (len_one hel).2]; rfl
  obtain ⟨hok, hr60, hlens, hrbd⟩ := faultE_facts hf
  obtain ⟨⟨hp1, hp2⟩, hpe, hpg, hpd, hpf, hpo1, hpo2⟩ := Pst.ok_facts hok
  refine Ok.seq ?_
  refine Ok.region ?_
  refine OkO.box rfl rfl ?_
  refine OkO.assign rfl rfl ?_
  refine OkO.assign rfl rfl ?_
  refine OkO.nil ?_
  refine Ok.seq ?_
  refine Ok.region ?_
  refine OkO.load rfl rfl (ldg (n := 6) (by kernel_rfl) (by first | assumption | (simp (disch := first | omega | (simp only [hNw, hPt]; omega)) only [gn0, gn1, gn2, gn3, gn4, gn5, gp0, gno, gpo] <;> first | rfl | assumption | exact gp0 _ _ _ | exact gn0 _ _)) (by first | rfl | assumption)) ?_
  refine OkO.move rfl rfl ?_
  refine OkO.callE rfl rfl rfl rfl rfl (c60Y (m + 0) ev rv p rows _ (hV.ext (hE _ (by (try dsimp only); repeat (first | exact hG | apply Grow.new | (refine Grow.put ?_ _ (by first | omega | (simp only [hNw, hPt]; omega))))))) (hRs.ext (hE _ (by (try dsimp only); repeat (first | exact hG | apply Grow.new | (refine Grow.put ?_ _ (by first | omega | (simp only [hNw, hPt]; omega))))))) hpl hrl hlens9 hf hpossT) ?_ -- "sackung/alarm.allPossible"
  rintro _ H60 ⟨mb, rfl, q60, dm60⟩
  have n1 := q60.ext.next
  try simp only [hNw, hPt] at n1
  have gg1 : Grow W H60 := Grow.ret (by (try dsimp only); repeat (first | exact hG | apply Grow.new | (refine Grow.put ?_ _ (by first | omega | (simp only [hNw, hPt]; omega))))) q60
  refine OkO.move rfl rfl ?_
  refine OkO.extract rfl rfl rfl ?_
  refine OkO.extract rfl rfl rfl ?_
  refine OkO.alloc (z := [.nils, .int .i64 0, .int .i64 0, .int .i64 0, .int .i64 0, .int .i64 0, .nilm]) rfl (by kernel_rfl) ?_
  refine OkO.store rfl rfl rfl (sAc (n := 7) (ag := true) (by kernel_rfl) (by first | assumption | (simp (disch := first | omega | (simp only [hNw, hPt]; omega)) only [gn0, gn1, gn2, gn3, gn4, gn5, gp0, gno, gpo] <;> first | rfl | assumption | exact gp0 _ _ _ | exact gn0 _ _)) rfl (by first | rfl | assumption | exact ats _) (by first | rfl | exact spl_set _ _ _ (by first | assumption | omega | (simp; omega)))) ?_
  refine OkO.assign rfl rfl ?_
  refine OkO.nil ?_
  refine Ok.seq ?_
  refine Ok.seq ?_
  refine Ok.region ?_
  refine OkO.move rfl rfl ?_
  refine OkO.bin rfl rfl rfl ((bin_neq _ _).trans (congrArg (fun b => some (AV.bool b)) (show _ = false from (by rfl)))) ?_
  refine OkO.nil ?_
  refine Ok.condF rfl ?_
  refine Ok.skip ?_
  refine Ok.seq ?_
  refine Ok.region ?_
  refine OkO.assign rfl rfl ?_
  refine OkO.nil ?_
  refine Ok.seq ?_
  refine Ok.seq ?_
  refine Ok.region ?_
  refine OkO.move rfl rfl ?_
  refine OkO.builtin rfl rfl rfl (bln (by kernel_rfl) (by first | assumption | rfl)) ?_
  refine OkO.move rfl rfl ?_
  refine OkO.nil ?_
  refine Ok.block ?_
  obtain ⟨H6, hH6⟩ : ∃ H6, H6 = ((H60.new (.cells [.nils, I 0, I 0, I 0, I 0, I 0, .nilm] 114)).put H60.next (.cells (p.d ev mb) 114)) := ⟨_, rfl⟩
  have dm6 : DutyM 0 H6 mb p rows := by rw [hH6]; exact (dm60.to (by repeat (first | exact Ext.refl _ | (refine Ext.put ?_ _ (by first | omega | (simp only [hNw, hPt]; omega))) | apply Ext.new))).low (Nat.zero_le _)
  have e6 : H6.get H60.next = some (.cells (p.d ev mb) 114) := by rw [hH6]; exact gp0 _ _ _
  have n6 : H6.next = H60.next + 1 := by rw [hH6]; simp
  have g6 : Grow W H6 := by rw [hH6]; exact (by (try dsimp only); repeat (first | exact gg1 | apply Grow.new | (refine Grow.put ?_ _ (by first | omega | (simp only [hNw, hPt]; omega)))))
  refine Ok.loop (fun n s => ∃ (i : Nat) (ov : AV), n = rows.length - i ∧ i ≤ rows.length ∧ Mine H6.next s.H ov 45 3 (stCells p rows i) ∧ Has 6 [(6, .ptr H60.next 0), (8, ov), (20, I (rows.length : Int)), (21, I (i : Int))] s.T ∧ s.D = [] ∧ Grow W s.H ∧ Ext H6 s.H) (rows.length) (by unfold loopFuel; omega)
    ⟨0, .nils, rfl, Nat.zero_le _, Mine.nil _ _ _ _, Has.of (by kernel_rfl), rfl, by rw [hH6] at g6; exact g6, by rw [hH6]; exact Ext.refl _⟩ ?_
  rintro n ⟨T, D, G⟩ ⟨i, ov, hn, hi, hm, ⟨f_, hT⟩, hD, hg, hx9⟩
  dsimp only at *
  subst hT hD
  have hgn := hg.next
  have e6b : (G.get H60.next).bind AObj.cs = some (p.d ev mb) := by rw [hx9.get _ (by omega), e6]; rfl
  have hx9n := hx9.next
  refine Ok.seq ?_
  refine Ok.region ?_
  refine OkO.bin rfl rfl rfl (bin_lss _ _) ?_
  refine OkO.nil ?_
  refine Ok.seq ?_
  refine Ok.cond rfl (fun h1 => ?_) (fun h1 => ?_)
  · -- yes h1
    have hlt : i < rows.length := by simpa using h1
    refine Ok.skip ?_
    refine Ok.seq ?_
    refine Ok.block ?_
    refine Ok.seq ?_
    refine Ok.region ?_
    refine OkO.move rfl rfl ?_
    refine OkO.assign rfl rfl ?_
    refine OkO.nil ?_
    refine Ok.region ?_
    refine OkO.move rfl rfl ?_
    refine OkO.load rfl rfl (ldg (n := 7) (by kernel_rfl) (by first | assumption | (simp (disch := first | omega | (simp only [hNw, hPt]; omega)) only [gn0, gn1, gn2, gn3, gn4, gn5, gp0, gno, gpo] <;> first | rfl | assumption | exact gp0 _ _ _ | exact gn0 _ _)) (by first | rfl | assumption)) ?_
    refine OkO.move rfl rfl ?_
    refine OkO.callV rfl rfl rfl rfl rfl (c61 (m + 1) ev p mb i rows _ ((dm6.to hx9).low (Nat.zero_le _)).2.2 (by have := dm6.2.1; omega) hel (by omega) (spdL_all hpossT hlt) ⟨hpg, hpf, hpo1, hpo2⟩ (by omega)) ?_ -- "(sackung/alarm.duty).state"
    refine OkO.buildSlice (el := 45) (sz := 3) (z := [.int .i64 0, .int .i64 0, .int .u8 0]) rfl (by kernel_rfl) (by decide) rfl rfl ?_
    refine OkO.builtinE rfl rfl rfl (Mine.app2 (W := W) (k0 := H6.next) (t := 32) (u := 32) (sz := 3) (by_ := 24) (e := 45) (n := 1) (new := stc p rows i) (hm.to (by repeat (first | exact Ext.refl _ | apply Ext.new))) (by repeat (first | exact hg | apply Grow.new)) (by omega) (by simp; omega) (by kernel_rfl) (by kernel_rfl) (elems_new (n := 1) (sz := 3) rfl) rfl rfl (by have h9 := stCells_len p rows i; omega) (by omega) (by omega) rfl) ?_
    rintro v2 G2 ⟨r1, r2, r3, r4, r5, _⟩
    simp only [hNw] at r5
    refine OkO.assign rfl rfl ?_
    refine OkO.nil ?_
    refine Ok.region ?_
    refine OkO.bin rfl rfl rfl (bin_add (by omega) (by omega)) ?_
    refine OkO.move rfl rfl ?_
    refine OkO.nil ?_
    refine ⟨rows.length - (i + 1), by omega, i + 1, _, rfl, by omega, by rw [stCells_succ]; exact r1, Has.of (by kernel_rfl), rfl, r2, ⟨by (show H6.next ≤ G2.next; omega), fun j hj => ?_⟩⟩
    rw [r3.get j hj (by simp only [hNw]; omega), gno _ _ _ (by omega)]
    exact hx9.get j hj
  · -- no h1
    have hge : i = rows.length := by simp at h1; omega
    subst hge
    refine Ok.exit ?_
    refine Ok.seq ?_
    refine Ok.region ?_
    refine OkO.move rfl rfl ?_
    refine OkO.assign rfl rfl ?_
    refine OkO.assign rfl rfl ?_
    refine OkO.nil ?_
    refine Ok.ret ⟨.inr rfl, ?_⟩
    refine back_newA rfl rfl (by rw [← hW]; exact hg) (fun H9 p1 p2 => ⟨ov, rfl, p1, ?_⟩)
    exact (hm.low (by omega)).backT p2 flat_tup2
end
end Go.Ev

set_option maxRecDepth 100000
set_option linter.unusedSimpArgs false
set_option linter.unusedVariables false
namespace Go.Ev
open Go Go.Proofs
noncomputable section
theorem possB_mono {p : Pst} {rows : List (List Int)} {r s : Nat} (h : possB p rows s = true) (hr : r ≤ s) : possB p rows r = true := by
  obtain ⟨i, hi, h1⟩ := possB_iff.1 h
  exact possB_iff.2 ⟨i, hi, by omega⟩
/-- What Breaks answers. -/
def brkV (p : Pst) (rows : List (List Int)) : AV := match (List.range rows.length).find? (fun h => !possB p rows (h + 1)) with
  | some h => .tup [I (h : Int), I 0]
  | none => .tup [I 0, I 7]
end
end Go.Ev

set_option maxRecDepth 100000
set_option linter.unusedSimpArgs false
set_option linter.unusedVariables false
namespace Go.Ev
open Go Go.Proofs
noncomputable section
/-- The gauges with which a truth is possible. -/
def fldL (p : Pst) (rows : List (List Int)) (r : Nat) : Nat → List Int
  | 0 => []
  | i + 1 => fldL p rows r i ++ (if r ≤ lenM p rows i then [(i : Int) - 1] else [])
noncomputable def as28 : Code := match Try.f28.body.bind rangeOf with | some r => r.1 | none => .skip
noncomputable def bd28 : Code := match Try.f28.body.bind rangeOf with | some r => r.2 | none => .skip
end
end Go.Ev

set_option maxRecDepth 100000
set_option linter.unusedSimpArgs false
set_option linter.unusedVariables false
namespace Go.Ev
open Go Go.Proofs
noncomputable section
/-- The truth of a sentence, as a bool. -/
def bP (P : Prop) : Bool := @decide P (Classical.propDecidable P)
def StepOk (p : Pst) (a c : Int) : Prop := a - p.drop ≤ c ∧ c ≤ a + p.gain
/-- The speeds move as the post says. -/
def MovP (p : Pst) (sp : List Int) : Prop := (∀ x ∈ sp, 0 ≤ x ∧ x ≤ 1000) ∧ ∀ (h : Nat) (h2 : h + 1 < sp.length), StepOk p (sp[h]'(by omega)) sp[h + 1]
/-- All gauges that work agree. -/
def AgrP (p : Pst) (f : Int) (rows : List (List Int)) (sp : List Int) : Prop := ∀ (h : Nat) (h1 : h < sp.length) (h2 : h < rows.length), AgreeR p f rows[h] sp[h]
def TruP (p : Pst) (rows : List (List Int)) (f : Int) (sp : List Int) : Prop := sp.length = rows.length ∧ (-1 ≤ f ∧ f ≤ (p.errs.length : Int) - 1) ∧ MovP p sp ∧ AgrP p f rows sp
end
end Go.Ev

set_option maxRecDepth 100000
set_option linter.unusedSimpArgs false
set_option linter.unusedVariables false
namespace Go.Ev
open Go Go.Proofs
noncomputable section
end
end Go.Ev

set_option maxRecDepth 100000
set_option linter.unusedSimpArgs false
set_option linter.unusedVariables false
namespace Go.Ev
open Go Go.Proofs
noncomputable section
/-- A list of numbers that was made, whether it can grow in place or not. -/
def Lst (k0 : Nat) (G : Heap) (v : AV) (us : List Int) : Prop :=
  (∃ b, v = .opn b us.length ∧ G.get b = some (.opn (us.map I) 3 1) ∧ k0 ≤ b ∧ b < G.next) ∨ (∃ b, v = .slice b 0 us.length us.length ∧ G.get b = some (.cells (us.map I) 3) ∧ k0 ≤ b ∧ b < G.next)
theorem Lst.len {k0 : Nat} {G : Heap} {v : AV} {us : List Int} (h : Lst k0 G v us) : lenOf v = some us.length := by
  rcases h with ⟨b, rfl, _⟩ | ⟨b, rfl, _⟩ <;> rfl
theorem Lst.flat {k0 : Nat} {G : Heap} {v : AV} {us : List Int} (h : Lst k0 G v us) : v.flat = false := by
  rcases h with ⟨b, rfl, _⟩ | ⟨b, rfl, _⟩ <;> rfl
theorem Lst.to {k0 : Nat} {G G' : Heap} {v : AV} {us : List Int} (h : Lst k0 G v us) (g : Ext G G') : Lst k0 G' v us := by
  rcases h with ⟨b, h1, h2, h3, h4⟩ | ⟨b, h1, h2, h3, h4⟩
  · exact .inl ⟨b, h1, by rw [g.get _ h4]; exact h2, h3, Nat.lt_of_lt_of_le h4 g.next⟩
  · exact .inr ⟨b, h1, by rw [g.get _ h4]; exact h2, h3, Nat.lt_of_lt_of_le h4 g.next⟩
theorem Lst.low {k0 k1 : Nat} {G : Heap} {v : AV} {us : List Int} (h : Lst k1 G v us) (hk : k0 ≤ k1) : Lst k0 G v us := by
  rcases h with ⟨b, h1, h2, h3, h4⟩ | ⟨b, h1, h2, h3, h4⟩
  · exact .inl ⟨b, h1, h2, by omega, h4⟩
  · exact .inr ⟨b, h1, h2, by omega, h4⟩
theorem Lst.put {k0 : Nat} {G : Heap} {v : AV} {us : List Int} (h : Lst k0 G v us) {n : Nat} (o : AObj) (hn : n < k0) : Lst k0 (G.put n o) v us := by
  rcases h with ⟨b, h1, h2, h3, h4⟩ | ⟨b, h1, h2, h3, h4⟩
  · exact .inl ⟨b, h1, by rw [gpo _ _ _ _ (by omega)]; exact h2, h3, by simpa using h4⟩
  · exact .inr ⟨b, h1, by rw [gpo _ _ _ _ (by omega)]; exact h2, h3, by simpa using h4⟩
theorem Lst.ints {k0 : Nat} {G : Heap} {v : AV} {us : List Int} (h : Lst k0 G v us) : Ints G v us := by
  rcases h with ⟨b, rfl, h2, h3, h4⟩ | ⟨b, rfl, h2, h3, h4⟩
  · exact Mine.ints (k0 := k0) (.inr ⟨b, us.length, rfl, h2, by simp, h3, h4⟩)
  · refine ⟨by simp [lenOf], fun i x k => ?_⟩
    have hi : i < us.length := by
      by_cases hi : i < us.length
      · exact hi
      · rw [List.getElem?_eq_none (by simp; omega)] at k; cases k
    rw [List.getElem?_eq_getElem (by simpa using hi)] at k
    simp at k
    refine ⟨b, 0 + i * 1, us.map I, slAt_slice hi, by rw [h2]; rfl, ?_, h4⟩
    have e : ((us.map I).drop (0 + i * 1)).take 1 = [I us[i]] := by
      rw [show 0 + i * 1 = i from by omega, List.drop_eq_getElem_cons (by simpa using hi)]
      simp
    unfold seg
    rw [e, ← k]
    rfl
/-- A speed followed back to the first hour. -/
def backL (p : Pst) (may : List Iv) : Nat → Int → List Int
  | 0, s => [s]
  | h + 1, s => backL p may h (meetI (may.getD h nul) (beforeI p (s, s))).1 ++ [s]
end
end Go.Ev

set_option maxRecDepth 100000
set_option linter.unusedSimpArgs false
set_option linter.unusedVariables false
namespace Go.Ev
open Go Go.Proofs
noncomputable section
end
end Go.Ev

set_option maxRecDepth 100000
set_option linter.unusedSimpArgs false
set_option linter.unusedVariables false
namespace Go.Ev
open Go Go.Proofs
noncomputable section
/-- A truth with this speed in this hour is possible with a gauge. -/
def HitP (p : Pst) (rows : List (List Int)) (hr : Nat) (s0 : Int) (j : Nat) : Prop := hr + 1 ≤ lenM p rows j ∧ inI s0 ((mayL p ((j : Int) - 1) rows).getD hr nul)
noncomputable def as35 : Code := match Try.f35.body.bind rangeOf with | some r => r.1 | none => .skip
noncomputable def bd35 : Code := match Try.f35.body.bind rangeOf with | some r => r.2 | none => .skip
end
end Go.Ev

set_option maxRecDepth 100000
set_option linter.unusedSimpArgs false
set_option linter.unusedVariables false
namespace Go.Ev
open Go Go.Proofs
noncomputable section
end
end Go.Ev

set_option maxRecDepth 100000
set_option linter.unusedSimpArgs false
set_option linter.unusedVariables false
namespace Go.Ev
open Go Go.Proofs
noncomputable section
def leftR (p : Pst) (s : Int) : Int := if p.fall ≤ s then 0 else if p.gain = 0 then -1 else (p.fall - s + p.gain - 1) / p.gain
end
end Go.Ev

set_option maxRecDepth 100000
set_option linter.unusedSimpArgs false
set_option linter.unusedVariables false
namespace Go.Ev
open Go Go.Proofs
noncomputable section
/-- Bools and numbers as they lie. -/
def bl (N : Nat) (g : Nat → Bool) : List AV := (List.range N).map fun k => .bool (g k)
def il (N : Nat) (g : Nat → Nat) : List AV := (List.range N).map fun k => I (g k : Int)
/-- How many are true below. -/
def cntN (g : Nat → Bool) : Nat → Nat
  | 0 => 0
  | i + 1 => cntN g i + (if g i = true then 1 else 0)
/-- Of each speed, whether it is in a range. -/
def fl (x : Iv) (v : Nat) : Bool := bP (inI (v : Int) x)
def nextI (p : Pst) (f : Int) (x : Iv) (row : List Int) : Iv := if x = nul then nul else stepI p f x row
theorem next_iff {p : Pst} {f : Int} {x : Iv} {row : List Int} {v : Int} (hv : 0 ≤ v ∧ v ≤ 1000) : inI v (nextI p f x row) ↔ (x ≠ nul ∧ x.1 - p.drop ≤ v ∧ v ≤ x.2 + p.gain) ∧ AgreeR p f row v := by
  unfold nextI
  by_cases h : x = nul
  · rw [if_pos h]
    exact ⟨fun h9 => absurd h9 (not_nul _), fun h9 => absurd h h9.1.1⟩
  · rw [if_neg h, mem_step]
    exact ⟨fun h9 => ⟨⟨h, h9.2.1⟩, h9.2.2⟩, fun h9 => ⟨hv, h9.1.2, h9.2⟩⟩
/-- What was there, but for one block. -/
structure At1 (K B : Nat) (G : Heap) (o : AObj) (H : Heap) : Prop where
  nx : H.next = G.next
  oth : ∀ j, j ≠ B → H.get j = G.get j
  self : H.get B = some o
  lo : K ≤ H.lo
theorem At1.start {K B : Nat} {G : Heap} {o : AObj} (h : G.get B = some o) (hl : K ≤ G.lo) : At1 K B G o G := ⟨rfl, fun _ _ => rfl, h, hl⟩
theorem At1.put {K B : Nat} {G H : Heap} {o o' : AObj} (h : At1 K B G o H) (hk : K ≤ B) : At1 K B G o' (H.put B o') :=
  ⟨by simp [h.nx], fun j hj => by rw [gpo _ _ _ _ hj]; exact h.oth j hj, gp0 _ _ _, by rw [Heap.lo_put]; have := h.lo; omega⟩
theorem At1.grow {W G H : Heap} {B : Nat} {o : AObj} (h : At1 W.next B G o H) (g : Grow W G) (hk : W.next ≤ B) : Grow W H :=
  ⟨by rw [h.nx]; exact g.next, fun n hn => by rw [h.oth n (by omega)]; exact g.get n hn, h.lo⟩
theorem At1.to {K B : Nat} {G H : Heap} {o o' : AObj} (h : At1 K B G o H) (e : o = o') : At1 K B G o' H := e ▸ h
end
end Go.Ev

set_option maxRecDepth 100000
set_option linter.unusedSimpArgs false
set_option linter.unusedVariables false
namespace Go.Ev
open Go Go.Proofs
noncomputable section
theorem last_next {p : Pst} {f : Int} {rows : List (List Int)} {h : Nat} (hh : h < rows.length) : lastI p f (rows.take (h + 1)) = nextI p f (lastI p f (rows.take h)) rows[h] := by
  rw [List.take_succ_eq_append_getElem hh, lastI_snoc]; rfl
end
end Go.Ev

set_option maxRecDepth 100000
set_option linter.unusedSimpArgs false
set_option linter.unusedVariables false
namespace Go.Ev
open Go Go.Proofs
noncomputable section
end
end Go.Ev

set_option maxRecDepth 100000
set_option linter.unusedSimpArgs false
set_option linter.unusedVariables false
namespace Go.Ev
open Go Go.Proofs
noncomputable section
/-- The least and the greatest of some speeds, as the reference keeps them. -/
def AtSt (S : Nat → Prop) (lo hi : Int) : Prop := (lo = -1 ∧ hi = 0 ∧ ∀ v, ¬ S v) ∨ ∃ a c : Nat, lo = (a : Int) ∧ hi = (c : Int) ∧ S a ∧ S c ∧ ∀ v, S v → a ≤ v ∧ v ≤ c
theorem AtSt.uniq {S : Nat → Prop} {lo hi lo' hi' : Int} (h : AtSt S lo hi) (h' : AtSt S lo' hi') : lo = lo' ∧ hi = hi' := by
  rcases h with ⟨h1, h2, h3⟩ | ⟨a, c, h1, h2, h3, h4, h5⟩
  · rcases h' with ⟨k1, k2, k3⟩ | ⟨a', c', k1, k2, k3, k4, k5⟩
    · exact ⟨by omega, by omega⟩
    · exact absurd k3 (h3 _)
  · rcases h' with ⟨k1, k2, k3⟩ | ⟨a', c', k1, k2, k3, k4, k5⟩
    · exact absurd h3 (k3 _)
    · have := h5 _ k3; have := h5 _ k4; have := k5 _ h3; have := k5 _ h4
      exact ⟨by omega, by omega⟩
theorem AtSt.congr {S S' : Nat → Prop} {lo hi : Int} (h : AtSt S lo hi) (hs : ∀ v, S' v ↔ S v) : AtSt S' lo hi := by
  rcases h with ⟨h1, h2, h3⟩ | ⟨a, c, h1, h2, h3, h4, h5⟩
  · exact .inl ⟨h1, h2, fun v hv => h3 v ((hs v).1 hv)⟩
  · exact .inr ⟨a, c, h1, h2, (hs a).2 h3, (hs c).2 h4, fun v hv => h5 v ((hs v).1 hv)⟩
theorem AtSt.add {S S' : Nat → Prop} {lo hi : Int} (h : AtSt S lo hi) {w : Nat} (hs : ∀ v, S' v ↔ S v ∨ v = w) : AtSt S' (if lo < 0 ∨ (w : Int) < lo then (w : Int) else lo) (max hi (w : Int)) := by
  rcases h with ⟨h1, h2, h3⟩ | ⟨a, c, h1, h2, h3, h4, h5⟩
  · refine .inr ⟨w, w, by rw [if_pos (.inl (by omega))], by omega, (hs w).2 (.inr rfl), (hs w).2 (.inr rfl), fun v hv => ?_⟩
    rcases (hs v).1 hv with h | h
    · exact absurd h (h3 v)
    · omega
  · refine .inr ⟨min a w, max c w, ?_, by omega, ?_, ?_, fun v hv => ?_⟩
    · by_cases e : lo < 0 ∨ (w : Int) < lo
      · rw [if_pos e]; omega
      · rw [if_neg e]; omega
    · rcases Nat.le_total a w with e | e
      · rw [Nat.min_eq_left e]; exact (hs a).2 (.inl h3)
      · rw [Nat.min_eq_right e]; exact (hs w).2 (.inr rfl)
    · rcases Nat.le_total c w with e | e
      · rw [Nat.max_eq_right e]; exact (hs w).2 (.inr rfl)
      · rw [Nat.max_eq_left e]; exact (hs c).2 (.inl h4)
    · rcases (hs v).1 hv with h | h
      · have := h5 v h; omega
      · omega
theorem AtSt.nil {S : Nat → Prop} (h : ∀ v, ¬ S v) : AtSt S (-1) 0 := .inl ⟨rfl, rfl, h⟩
theorem AtSt.bd {S : Nat → Prop} {lo hi : Int} (h : AtSt S lo hi) (hb : ∀ v, S v → v < 1001) : (-1 ≤ lo ∧ lo ≤ 1000) ∧ 0 ≤ hi ∧ hi ≤ 1000 := by
  rcases h with ⟨h1, h2, h3⟩ | ⟨a, c, h1, h2, h3, h4, h5⟩
  · omega
  · have := hb _ h3; have := hb _ h4; omega
noncomputable def atV (S : Nat → Prop) : Int × Int := Classical.epsilon fun x => AtSt S x.1 x.2
theorem AtSt.val {S : Nat → Prop} {lo hi : Int} (h : AtSt S lo hi) : atV S = (lo, hi) := by
  have e : AtSt S (atV S).1 (atV S).2 := Classical.epsilon_spec (p := fun x : Int × Int => AtSt S x.1 x.2) ⟨(lo, hi), h⟩
  have := e.uniq h
  exact Prod.ext this.1 this.2
/-- The speeds that may be behind some hours, with one of the first gauges failed. -/
def SpdS (p : Pst) (rows : List (List Int)) (i : Nat) (v : Nat) : Prop := v < 1001 ∧ ∃ j, j < i ∧ inI (v : Int) (lastI p ((j : Int) - 1) rows)
end
end Go.Ev

set_option maxRecDepth 100000
set_option linter.unusedSimpArgs false
set_option linter.unusedVariables false
namespace Go.Ev
open Go Go.Proofs
noncomputable section
/-- A list of lists that was made. -/
def RowsM (k0 : Nat) (G : Heap) (v : AV) (rows : List (List Int)) : Prop := ∃ vs : List AV, vs.length = rows.length ∧ Mine k0 G v 22 1 vs ∧ ∀ (i : Nat) (x : AV) (r : List Int), vs[i]? = some x → rows[i]? = some r → Mine k0 G x 3 1 (r.map I)
theorem flat_one : ∀ vs : List AV, (vs.map fun x => [x]).flatten = vs
  | [] => rfl
  | a :: l => by rw [List.map_cons, List.flatten_cons, flat_one l]; rfl
theorem RowsM.at {k0 : Nat} {G : Heap} {v : AV} {rows : List (List Int)} (h : RowsM k0 G v rows) : LstAt G v rows := by
  obtain ⟨vs, h1, h2, h3⟩ := h
  exact ⟨vs, h1, Mine.row (e := 22) (by rw [flat_one]; exact h2) (fun x hx => by obtain ⟨y, _, rfl⟩ := List.mem_map.1 hx; rfl) (by omega), fun i x r a c => (h3 i x r a c).ints⟩
theorem RowsM.nil (k0 : Nat) (G : Heap) : RowsM k0 G .nils [] := ⟨[], rfl, Mine.nil _ _ _ _, fun i x s h _ => by simp at h⟩
theorem RowsM.to {k0 : Nat} {G G' : Heap} {v : AV} {rows : List (List Int)} (h : RowsM k0 G v rows) (e : Ext G G') : RowsM k0 G' v rows := by
  obtain ⟨vs, h1, h2, h3⟩ := h
  exact ⟨vs, h1, h2.to e, fun i x r a c => (h3 i x r a c).to e⟩
theorem RowsM.low {k0 k1 : Nat} {G : Heap} {v : AV} {rows : List (List Int)} (h : RowsM k1 G v rows) (hk : k0 ≤ k1) : RowsM k0 G v rows := by
  obtain ⟨vs, h1, h2, h3⟩ := h
  exact ⟨vs, h1, h2.low hk, fun i x r a c => (h3 i x r a c).low hk⟩
theorem RowsM.snoc {k0 : Nat} {G : Heap} {ov x : AV} {l : List (List Int)} {s : List Int} (h : RowsM k0 G ov l) (hx : Mine k0 G x 3 1 (s.map I)) : ∃ cs, Mine k0 G ov 22 1 cs ∧ cs.length = l.length ∧ ∀ v2 G2, Mine k0 G2 v2 22 1 (cs ++ [x]) → G.next ≤ G2.next → (∀ j, j < G.next → (∀ m, ov ≠ .opn j m) → G2.get j = G.get j) → RowsM k0 G2 v2 (l ++ [s]) := by
  obtain ⟨vs, h1, h2, h3⟩ := h
  refine ⟨_, h2, h1, fun v2 G2 k1 k2 k3 => ⟨vs ++ [x], by simp [h1], k1, fun i y t a c => ?_⟩⟩
  by_cases hi : i < vs.length
  · rw [List.getElem?_append_left hi] at a
    rw [List.getElem?_append_left (by omega)] at c
    exact (h3 i y t a c).offE h2 (.inl (by decide)) k2 k3
  · by_cases hi2 : i = vs.length
    · subst hi2
      rw [List.getElem?_append_right (Nat.le_refl _)] at a
      rw [List.getElem?_append_right (by omega), h1] at c
      simp at a c
      subst a c
      exact hx.offE h2 (.inl (by decide)) k2 k3
    · rw [List.getElem?_eq_none (by simp; omega)] at a; cases a
theorem RowsM.backS {H G H' : Heap} {v : AV} {l : List (List Int)} (h : RowsM H.next G v l) (r : (H' = H ∧ v.flat = true) ∨ ((∀ n, H'.get n = G.get n) ∧ H'.next = G.next)) : RowsM H.next H' v l := by
  rcases r with ⟨rfl, hf⟩ | ⟨h1, h2⟩
  · obtain ⟨vs, a1, a2, a3⟩ := h
    rcases a2 with ⟨rfl, a2⟩ | ⟨b, n, rfl, _⟩
    · subst a2; exact ⟨[], a1, .inl ⟨rfl, rfl⟩, fun i x s h _ => by simp at h⟩
    · cases hf
  · exact h.to ⟨by omega, fun n _ => h1 n⟩
theorem flat_post {x : AV} {p : Pst} (h : (AV.agg (p.c x)).flat = true) : x.flat = true := by
  have h1 : AV.flats [x, I p.gain, I p.drop, I p.fall, I p.out, I p.ahead] = true := h
  unfold AV.flats at h1
  cases hx : x.flat with
  | false => rw [hx] at h1; cases h1
  | true => rfl
def thinB (p : Pst) (rows : List (List Int)) : Bool := (rows.take 66).all (fun r => decide (r.length ≤ 15)) && (decide (p.errs.length ≤ 15) && decide (rows.length ≤ 65))
def fewB (p : Pst) (rows : List (List Int)) : Bool := thinB p rows && (decide (faultE p rows ≠ 0) || decide (rows.length ≤ 8))
theorem thin_facts {p : Pst} {rows : List (List Int)} (h : thinB p rows = true) : p.errs.length ≤ 15 ∧ rows.length ≤ 65 ∧ ∀ r ∈ rows, r.length ≤ 15 := by
  unfold thinB at h
  simp only [Bool.and_eq_true, decide_eq_true_eq, List.all_eq_true] at h
  refine ⟨h.2.1, h.2.2, fun r hr => h.1 r ?_⟩
  rw [List.take_of_length_le (by omega)]
  exact hr
theorem c20 (m : Nat) (ev : AV) (p : Pst) (H : Heap) (hV : Ints H ev p.errs) (hl : p.errs.length ≤ 1000000) : ∃ v H', RR (m + 2) (.fn 20 [.agg (p.c ev)]) H = some (v, H') ∧ ∃ x, v = .agg (p.c x) ∧ Ret H H' ∧ Mine H.next H' x 3 1 (p.errs.map I) := by
  show ∃ v H', evFn Try.prog (RR (m + 1)) 20 [.agg (p.c ev)] H = some (v, H') ∧ ∃ x, v = .agg (p.c x) ∧ Ret H H' ∧ Mine H.next H' x 3 1 (p.errs.map I)
  refine fn_okE Try.func20 rfl rfl (by kernel_rfl) (by kernel_rfl) ?_
  obtain ⟨W, hW⟩ : ∃ W : Heap, W = ⟨H.t, H.next, H.next⟩ := ⟨_, rfl⟩
  have hg : ∀ n, W.get n = H.get n := fun n => by rw [hW]; rfl
  have hN : W.next = H.next := by rw [hW]
  have hE : ∀ G, Grow W G → Ext H G := fun G g => ⟨by rw [← hN]; exact g.next, fun n k => by rw [g.get n (by rw [hN]; exact k), hg]⟩
  have hG : Grow W W := Grow.refl (by rw [hW]; exact Nat.le_refl _)
  rw [← hW]
  have pev : ev.plain = true := lpl hV.len
  refine Ok.seq ?_
  refine Ok.region ?_
  refine OkO.box rfl rfl ?_
  refine OkO.alloc (z := [.nils, .int .i64 0, .int .i64 0, .int .i64 0, .int .i64 0, .int .i64 0]) rfl (by kernel_rfl) ?_
  refine OkO.nil ?_
  refine Ok.seq ?_
  refine Ok.drawn [(0, true, []), (1, true, []), (3, true, []), (4, true, []), (5, true, []), (6, true, []), (7, true, []), (8, true, []), (9, true, []), (10, true, []), (11, true, []), (12, true, []), (2, false, [12, 10, 8, 6, 4]), (13, true, []), (14, false, [])] (by kernel_rfl) ?_
  refine OkP.step ?_
  refine OkO.fieldAddr (o := 0) rfl (by kernel_rfl) rfl ?_
  refine OkO.nil ⟨rfl, ?_⟩
  refine OkP.step ?_
  refine OkO.load rfl rfl (lda (n := 1) (by kernel_rfl) (by first | assumption | (simp (disch := first | omega | (simp only [hNw, hPt]; omega)) only [gn0, gn1, gn2, gn3, gn4, gn5, gp0, gno, gpo] <;> first | rfl | assumption | exact gp0 _ _ _ | exact gn0 _ _)) (by first | rfl | assumption)) ?_
  refine OkO.nil ⟨rfl, ?_⟩
  refine OkP.step ?_
  refine OkO.fieldAddr (o := 1) rfl (by kernel_rfl) rfl ?_
  refine OkO.nil ⟨rfl, ?_⟩
  refine OkP.step ?_
  refine OkO.load rfl rfl (lda (n := 1) (by kernel_rfl) (by first | assumption | (simp (disch := first | omega | (simp only [hNw, hPt]; omega)) only [gn0, gn1, gn2, gn3, gn4, gn5, gp0, gno, gpo] <;> first | rfl | assumption | exact gp0 _ _ _ | exact gn0 _ _)) (by first | rfl | assumption)) ?_
  refine OkO.nil ⟨rfl, ?_⟩
  refine OkP.step ?_
  refine OkO.fieldAddr (o := 2) rfl (by kernel_rfl) rfl ?_
  refine OkO.nil ⟨rfl, ?_⟩
  refine OkP.step ?_
  refine OkO.load rfl rfl (lda (n := 1) (by kernel_rfl) (by first | assumption | (simp (disch := first | omega | (simp only [hNw, hPt]; omega)) only [gn0, gn1, gn2, gn3, gn4, gn5, gp0, gno, gpo] <;> first | rfl | assumption | exact gp0 _ _ _ | exact gn0 _ _)) (by first | rfl | assumption)) ?_
  refine OkO.nil ⟨rfl, ?_⟩
  refine OkP.step ?_
  refine OkO.fieldAddr (o := 3) rfl (by kernel_rfl) rfl ?_
  refine OkO.nil ⟨rfl, ?_⟩
  refine OkP.step ?_
  refine OkO.load rfl rfl (lda (n := 1) (by kernel_rfl) (by first | assumption | (simp (disch := first | omega | (simp only [hNw, hPt]; omega)) only [gn0, gn1, gn2, gn3, gn4, gn5, gp0, gno, gpo] <;> first | rfl | assumption | exact gp0 _ _ _ | exact gn0 _ _)) (by first | rfl | assumption)) ?_
  refine OkO.nil ⟨rfl, ?_⟩
  refine OkP.step ?_
  refine OkO.fieldAddr (o := 4) rfl (by kernel_rfl) rfl ?_
  refine OkO.nil ⟨rfl, ?_⟩
  refine OkP.step ?_
  refine OkO.load rfl rfl (lda (n := 1) (by kernel_rfl) (by first | assumption | (simp (disch := first | omega | (simp only [hNw, hPt]; omega)) only [gn0, gn1, gn2, gn3, gn4, gn5, gp0, gno, gpo] <;> first | rfl | assumption | exact gp0 _ _ _ | exact gn0 _ _)) (by first | rfl | assumption)) ?_
  refine OkO.nil ⟨rfl, ?_⟩
  refine OkP.step ?_
  refine OkO.fieldAddr (o := 5) rfl (by kernel_rfl) rfl ?_
  refine OkO.nil ⟨rfl, ?_⟩
  refine OkP.step ?_
  refine OkO.load rfl rfl (lda (n := 1) (by kernel_rfl) (by first | assumption | (simp (disch := first | omega | (simp only [hNw, hPt]; omega)) only [gn0, gn1, gn2, gn3, gn4, gn5, gp0, gno, gpo] <;> first | rfl | assumption | exact gp0 _ _ _ | exact gn0 _ _)) (by first | rfl | assumption)) ?_
  refine OkO.nil ⟨rfl, ?_⟩
  refine OkP.step ?_
  refine OkO.callE rfl rfl rfl rfl rfl (c30 m ev p.errs _ (hV.ext (hE _ (by (try dsimp only); repeat (first | exact hG | apply Grow.new | (refine Grow.put ?_ _ (by first | omega | (simp only [hNw, hPt]; omega))))))) hl) ?_ -- "sackung/sackunglaw04.list"
  rintro v30 H30 ⟨q1, r1⟩
  have g30 : Grow W H30 := Grow.ret (by (try dsimp only); repeat (first | exact hG | apply Grow.new | (refine Grow.put ?_ _ (by first | omega | (simp only [hNw, hPt]; omega))))) q1
  have n30 := q1.ext.next
  simp only [hNw] at n30
  have a30 : (H30.get W.next).bind AObj.cs = some (p.c ev) := by rw [q1.ext.get _ (by simp only [hNw]; omega)]; simp (disch := first | omega | (simp only [hNw, hPt]; omega)) only [gn0, gn1, gn2, gn3, gn4, gn5, gp0, gno, gpo] <;> rfl
  have o30 : H30.get (W.next + 1) = some (.cells [.nils, I 0, I 0, I 0, I 0, I 0] 30) := by rw [q1.ext.get _ (by simp only [hNw]; omega)]; exact gn1 _ _ _
  obtain ⟨hv1, hv2⟩ := r1.one
  refine OkO.nil ⟨(sco (sld rfl rfl (lda (n := 1) (by kernel_rfl) (by first | assumption | (simp (disch := first | omega | (simp only [hNw, hPt]; omega)) only [gn0, gn1, gn2, gn3, gn4, gn5, gp0, gno, gpo] <;> first | rfl | assumption | exact gp0 _ _ _ | exact gn0 _ _)) (by first | rfl | assumption)) rfl (eqr _ (by first | rfl | exact lpl (by assumption) | (simp [AV.plain, AV.plains, AV.cells, pev, Pst.c])))) (sco (sld rfl rfl (lda (n := 1) (by kernel_rfl) (by first | assumption | (simp (disch := first | omega | (simp only [hNw, hPt]; omega)) only [gn0, gn1, gn2, gn3, gn4, gn5, gp0, gno, gpo] <;> first | rfl | assumption | exact gp0 _ _ _ | exact gn0 _ _)) (by first | rfl | assumption)) rfl (eqr _ (by first | rfl | exact lpl (by assumption) | (simp [AV.plain, AV.plains, AV.cells, pev, Pst.c])))) (sco (sld rfl rfl (lda (n := 1) (by kernel_rfl) (by first | assumption | (simp (disch := first | omega | (simp only [hNw, hPt]; omega)) only [gn0, gn1, gn2, gn3, gn4, gn5, gp0, gno, gpo] <;> first | rfl | assumption | exact gp0 _ _ _ | exact gn0 _ _)) (by first | rfl | assumption)) rfl (eqr _ (by first | rfl | exact lpl (by assumption) | (simp [AV.plain, AV.plains, AV.cells, pev, Pst.c])))) (sco (sld rfl rfl (lda (n := 1) (by kernel_rfl) (by first | assumption | (simp (disch := first | omega | (simp only [hNw, hPt]; omega)) only [gn0, gn1, gn2, gn3, gn4, gn5, gp0, gno, gpo] <;> first | rfl | assumption | exact gp0 _ _ _ | exact gn0 _ _)) (by first | rfl | assumption)) rfl (eqr _ (by first | rfl | exact lpl (by assumption) | (simp [AV.plain, AV.plains, AV.cells, pev, Pst.c])))) (sco (sld rfl rfl (lda (n := 1) (by kernel_rfl) (by first | assumption | (simp (disch := first | omega | (simp only [hNw, hPt]; omega)) only [gn0, gn1, gn2, gn3, gn4, gn5, gp0, gno, gpo] <;> first | rfl | assumption | exact gp0 _ _ _ | exact gn0 _ _)) (by first | rfl | assumption)) rfl (eqr _ (by first | rfl | exact lpl (by assumption) | (simp [AV.plain, AV.plains, AV.cells, pev, Pst.c])))) rfl))))), ?_⟩
  refine OkP.step ?_
  refine OkO.build (cs := p.c v30) (z := [.nils, .int .i64 0, .int .i64 0, .int .i64 0, .int .i64 0, .int .i64 0]) (pl := [(0, 1), (1, 1), (2, 1), (3, 1), (4, 1), (5, 1)]) rfl (by kernel_rfl) rfl (by show fillS _ _ _ = some [v30, I p.gain, I p.drop, I p.fall, I p.out, I p.ahead]; simp [fillS, spl, hv1, show ∀ z, (I z).cells = [I z] from fun _ => rfl]) ?_
  refine OkO.nil ⟨rfl, ?_⟩
  refine OkP.step ?_
  refine OkO.store rfl rfl rfl (sAc (n := 6) (ag := true) (by kernel_rfl) (by first | assumption | (simp (disch := first | omega | (simp only [hNw, hPt]; omega)) only [gn0, gn1, gn2, gn3, gn4, gn5, gp0, gno, gpo] <;> first | rfl | assumption | exact gp0 _ _ _ | exact gn0 _ _)) rfl (by show atoms [v30, I p.gain, I p.drop, I p.fall, I p.out, I p.ahead] = true; simp [atoms, hv2, show ∀ z, (I z).atom = true from fun _ => rfl]) (by first | rfl | exact spl_set _ _ _ (by first | assumption | omega | (simp; omega)))) ?_
  refine OkO.nil ⟨rfl, ?_⟩
  refine OkP.nil ?_
  refine Ok.ret ⟨.inr rfl, ?_⟩
  refine back_newA (resV_cell rfl (ldg (n := 6) (by kernel_rfl) (by first | assumption | (simp (disch := first | omega | (simp only [hNw, hPt]; omega)) only [gn0, gn1, gn2, gn3, gn4, gn5, gp0, gno, gpo] <;> first | rfl | assumption)) (by first | rfl | assumption)) resV_nil) rfl (by rw [← hW]; exact (by (try dsimp only); repeat (first | exact g30 | apply Grow.new | (refine Grow.put ?_ _ (by first | omega | (simp only [hNw, hPt]; omega)))))) (fun H9 p1 p2 => ⟨v30, rfl, p1, ?_⟩)
  exact Mine.backT (((r1.put _ (by first | omega | (simp only [hNw]; omega)))).low (by simp only [hNw]; omega)) p2 flat_post
theorem c22 (m : Nat) (sv : AV) (l : List (List Int)) (H : Heap) (hS : LstAt H sv l) (hl9 : l.length ≤ 100000) (hs9 : ∀ s ∈ l, s.length ≤ 100000) : ∃ v H', RR (m + 2) (.fn 22 [sv]) H = some (v, H') ∧ Ret H H' ∧ RowsM H.next H' v l := by
  show ∃ v H', evFn Try.prog (RR (m + 1)) 22 [sv] H = some (v, H') ∧ Ret H H' ∧ RowsM H.next H' v l
  refine fn_okE Try.func22 rfl rfl (by kernel_rfl) (by kernel_rfl) ?_
  obtain ⟨W, hW⟩ : ∃ W : Heap, W = ⟨H.t, H.next, H.next⟩ := ⟨_, rfl⟩
  have hg : ∀ n, W.get n = H.get n := fun n => by rw [hW]; rfl
  have hN : W.next = H.next := by rw [hW]
  have hE : ∀ G, Grow W G → Ext H G := fun G g => ⟨by rw [← hN]; exact g.next, fun n k => by rw [g.get n (by rw [hN]; exact k), hg]⟩
  have hG : Grow W W := Grow.refl (by rw [hW]; exact Nat.le_refl _)
  rw [← hW]
  have hlen := hS.len
  refine Ok.seq ?_
  refine Ok.region ?_
  refine OkO.assign rfl rfl ?_
  refine OkO.nil ?_
  refine Ok.seq ?_
  refine Ok.region ?_
  refine OkO.assign rfl rfl ?_
  refine OkO.nil ?_
  refine Ok.seq ?_
  refine Ok.seq ?_
  refine Ok.region ?_
  refine OkO.assign rfl rfl ?_
  refine OkO.nil ?_
  refine Ok.block ?_
  refine Ok.loop (fun n s => ∃ i : Nat, n = l.length - i ∧ i ≤ l.length ∧ (∃ ov, RowsM W.next s.H ov (l.take i) ∧ Has 5 [(0, sv), (3, ov), (4, I (i : Int))] s.T) ∧ s.D = [] ∧ Grow W s.H) (l.length) (by unfold loopFuel; omega)
    ⟨0, rfl, Nat.zero_le _, ⟨.nils, RowsM.nil _ _, Has.of (by kernel_rfl)⟩, rfl, hG⟩ ?_
  rintro n ⟨T, D, G⟩ ⟨i, hn, hi, ⟨ov, hm, ⟨f, hT⟩⟩, hD, hg⟩
  dsimp only at *
  subst hT hD
  have hgn := hg.next
  refine Ok.seq ?_
  refine Ok.seq ?_
  refine Ok.region ?_
  refine OkO.move rfl rfl ?_
  refine OkO.move rfl rfl ?_
  refine OkO.builtin rfl rfl rfl (bln (by kernel_rfl) (by first | assumption | rfl)) ?_
  refine OkO.bin rfl rfl rfl (bin_lss _ _) ?_
  refine OkO.nil ?_
  refine Ok.cond rfl (fun h1 => ?_) (fun h1 => ?_)
  · -- yes h1
    have hlt : i < l.length := by simpa using h1
    obtain ⟨x, bb, off, cs, i1, i2, i3, i4, i7⟩ := (hS.ext (hE _ hg)).at_ i hlt
    have pb : x.plain = true := lpl i7.len
    refine Ok.skip ?_
    refine Ok.seq ?_
    refine Ok.block ?_
    refine Ok.region ?_
    refine OkO.move rfl rfl ?_
    refine OkO.move rfl rfl ?_
    refine OkO.move rfl rfl ?_
    refine OkO.index (sz := 1) rfl rfl rfl (by kernel_rfl) (by first | assumption | rfl | exact slAt_slice (by omega) | exact slAt_opn (by omega)) ?_ -- index ('Go.Operand.tmp', 12) ('Go.Operand.tmp', 13)
    refine OkO.load rfl rfl (lda (n := 1) (by kernel_rfl) (by first | assumption | (simp (disch := first | omega | (simp only [hNw, hPt]; omega)) only [gn0, gn1, gn2, gn3, gn4, gn5, gp0, gno, gpo] <;> first | rfl | assumption | exact gp0 _ _ _ | exact gn0 _ _)) (by first | rfl | assumption)) ?_
    refine OkO.callE rfl rfl rfl rfl rfl (c30 m x l[i] _ i7 (by have := hs9 l[i] (List.getElem_mem hlt); omega)) ?_ -- "sackung/sackunglaw04.list"
    rintro x' H38 ⟨q38, r38⟩
    have g38 : Grow W H38 := Grow.ret (by (try dsimp only); repeat (first | exact hg | exact hG | apply Grow.new | (refine Grow.put ?_ _ (by first | omega | (simp only [hNw, hPt]; omega))))) q38
    have n38 := q38.ext.next
    obtain ⟨cs9, hm9, hcl9, hsn⟩ := RowsM.snoc (s := l[i]) (hm.to q38.ext) (r38.low (by omega))
    obtain ⟨u1, u2⟩ := r38.one
    refine OkO.buildSlice (el := 22) (sz := 1) (z := [.nils]) (cs := [x']) rfl (by kernel_rfl) (by decide) rfl (by show fillS (fun i => some (i * 1, 1)) [AV.nils] [(0, x')] = some [x']; simp [fillS, spl, u1]) ?_
    refine OkO.builtinE rfl rfl rfl (Mine.app2 (W := W) (k0 := W.next) (t := 25) (u := 25) (sz := 1) (by_ := 24) (e := 22) (n := 1) (new := [x']) (hm9.to (Grow.toNew _ _)) (g38.new _) (Nat.le_refl _) (by simp; omega) (by kernel_rfl) (by kernel_rfl) (elems_new (n := 1) (sz := 1) rfl) rfl rfl (by rw [hcl9, List.length_take]; omega) (by omega) (by omega) (by simp [atoms, u2])) ?_
    rintro v2 G2 ⟨r1, r2, r3, r4, r5, _⟩
    simp only [hNw] at r4 r5
    have hnew : RowsM W.next G2 v2 (l.take (i + 1)) := by
            rw [List.take_succ_eq_append_getElem hlt]
            exact hsn v2 G2 r1 (by omega) (fun j hj hne => by rw [r4 j (by omega) hne]; exact gno _ _ _ (by omega))
    refine OkO.assign rfl rfl ?_
    refine OkO.nil ?_
    refine Ok.region ?_
    refine OkO.move rfl rfl ?_
    refine OkO.bin rfl rfl rfl (bin_add (by omega) (by omega)) ?_
    refine OkO.assign rfl rfl ?_
    refine OkO.nil ?_
    refine ⟨l.length - (i + 1), by omega, i + 1, rfl, hlt, ⟨_, hnew, Has.of (by kernel_rfl)⟩, rfl, r2⟩
  · -- no h1
    have hge : i = l.length := by simp at h1; omega
    subst hge
    rw [List.take_length] at hm
    refine Ok.exit ?_
    refine Ok.seq ?_
    refine Ok.region ?_
    refine OkO.move rfl rfl ?_
    refine OkO.assign rfl rfl ?_
    refine OkO.nil ?_
    refine Ok.ret ⟨.inr rfl, ?_⟩
    refine back_newA (resV_tmp rfl resV_nil) rfl (by rw [← hW]; exact hg) (fun H9 p1 p2 => ⟨p1, (hm.low (by omega)).backS p2⟩)
theorem c58 (m : Nat) (ev rv : AV) (p : Pst) (rows : List (List Int)) (H : Heap) (hV : Ints H ev p.errs) (hRs : LstAt H rv rows) : RR (m + 1) (.fn 58 [.agg (p.c ev), rv]) H = some (.bool (thinB p rows), H) := by
  refine (R_fn _ _ _ _ _).trans ?_
  refine fn_ok Try.func58 rfl rfl (by kernel_rfl) (by kernel_rfl) ?_
  obtain ⟨W, hW⟩ : ∃ W : Heap, W = ⟨H.t, H.next, H.next⟩ := ⟨_, rfl⟩
  have hg : ∀ n, W.get n = H.get n := fun n => by rw [hW]; rfl
  have hN : W.next = H.next := by rw [hW]
  have hE : ∀ G, Grow W G → Ext H G := fun G g => ⟨by rw [← hN]; exact g.next, fun n k => by rw [g.get n (by rw [hN]; exact k), hg]⟩
  have hG : Grow W W := Grow.refl (by rw [hW]; exact Nat.le_refl _)
  rw [← hW]
  have pev : ev.plain = true := lpl hV.len
  have hel := hV.len
  have hrlen := hRs.len
  refine Ok.seq ?_
  refine Ok.region ?_
  refine OkO.box rfl rfl ?_
  refine OkO.assign rfl rfl ?_
  refine OkO.nil ?_
  refine Ok.seq ?_
  refine Ok.seq ?_
  refine Ok.region ?_
  refine OkO.assign rfl rfl ?_
  refine OkO.nil ?_
  refine Ok.block ?_
  obtain ⟨H6, hH6⟩ : ∃ H6, H6 = W.new (.cells (p.c ev) 24) := ⟨_, rfl⟩
  have e6 : (H6.get W.next).bind AObj.cs = some (p.c ev) := by rw [hH6, gn0]; rfl
  have g6 : Grow W H6 := by rw [hH6]; exact hG.new _
  refine Ok.loop (fun n s => ∃ i : Nat, n = 67 - i ∧ i ≤ rows.length ∧ i ≤ 66 ∧ (∀ (j : Nat) (hj : j < rows.length), j < i → rows[j].length ≤ 15) ∧ Has 6 [(1, rv), (2, .ptr W.next 0), (5, I (i : Int))] s.T ∧ s.D = [] ∧ s.H = H6) (67) (by unfold loopFuel; omega)
    ⟨0, rfl, Nat.zero_le _, by omega, fun j hj h => absurd h (Nat.not_lt_zero j), Has.of (by kernel_rfl), rfl, by rw [hH6]; rfl⟩ ?_
  rintro n ⟨T, D, G⟩ ⟨i, hn, hi, hi66, hall, ⟨f_, hT⟩, hD, hg9⟩
  dsimp only at *
  subst hT hD
  skip
  subst hg9
  refine Ok.seq ?_
  refine Ok.seq ?_
  refine Ok.region ?_
  refine OkO.move rfl rfl ?_
  refine OkO.move rfl rfl ?_
  refine OkO.builtin rfl rfl rfl (bln (by kernel_rfl) (by first | assumption | rfl)) ?_
  refine OkO.bin rfl rfl rfl (bin_lss _ _) ?_
  refine OkO.move rfl rfl ?_
  refine OkO.split (d := 10) rfl (fun g1 => ?_) (fun g1 => ?_)
  · -- true g1
    have hlt : i < rows.length := by simpa using g1
    refine OkO.move rfl rfl ?_
    refine OkO.bin rfl rfl rfl (bin_lss _ _) ?_
    refine OkO.pick (b := true) rfl rfl (fun _ => rfl) nofun ?_
    refine OkO.nil ?_
    refine Ok.cond rfl (fun h2 => ?_) (fun h2 => ?_)
    · -- yes h2
      have hi2 : i < 66 := by (have h9 : (i : Int) < 66 := by simpa using h2); omega
      obtain ⟨xr, rb, ro, rcs, r1, r2, r3, r4, r5⟩ := (hRs.ext (hE _ g6)).at_ i hlt
      have hxl := r5.len
      have pxr : xr.plain = true := lpl r5.len
      refine Ok.skip ?_
      refine Ok.seq ?_
      refine Ok.block ?_
      refine Ok.seq ?_
      refine Ok.region ?_
      refine OkO.move rfl rfl ?_
      refine OkO.move rfl rfl ?_
      refine OkO.index (sz := 1) (n := i) rfl rfl rfl (by kernel_rfl) (by first | assumption | rfl | exact slAt_slice (by omega) | exact slAt_opn (by omega)) ?_ -- index ('Go.Operand.tmp', 16) ('Go.Operand.tmp', 17)
      refine OkO.load rfl rfl (lda (n := 1) (by kernel_rfl) (by first | assumption | (simp (disch := first | omega | (simp only [hNw, hPt]; omega)) only [gn0, gn1, gn2, gn3, gn4, gn5, gp0, gno, gpo] <;> first | rfl | assumption | exact gp0 _ _ _ | exact gn0 _ _)) (by first | rfl | assumption)) ?_
      refine OkO.builtin rfl rfl rfl (bln (by kernel_rfl) (by first | assumption | rfl)) ?_
      refine OkO.bin rfl rfl rfl (bin_gtr _ _) ?_
      refine OkO.nil ?_
      refine Ok.cond rfl (fun h3 => ?_) (fun h3 => ?_)
      · -- yes h3
        refine Ok.seq ?_
        refine Ok.region ?_
        refine OkO.assign rfl rfl ?_
        refine OkO.nil ?_
        refine Ok.ret ⟨.inr rfl, ?_⟩
        have hbad : 15 < rows[i].length := by (have h9 : (15 : Int) < (rows[i].length : Int) := by simpa using h3); omega
        exact back_flat rfl (congrArg AV.bool (by symm; unfold thinB; rw [show ((rows.take 66).all fun r => decide (r.length ≤ 15)) = false from List.all_eq_false.2 ⟨rows[i], List.mem_of_getElem? (i := i) (by rw [List.getElem?_take, if_pos (by omega)]; exact List.getElem?_eq_getElem hlt), by rw [decide_eq_true_eq]; omega⟩]; rfl)) rfl (by rw [← hW]; exact g6)
      · -- no h3
        refine Ok.skip ?_
        refine Ok.region ?_
        refine OkO.move rfl rfl ?_
        refine OkO.bin rfl rfl rfl (bin_add (by omega) (by omega)) ?_
        refine OkO.assign rfl rfl ?_
        refine OkO.nil ?_
        refine ⟨67 - (i + 1), by omega, i + 1, rfl, by omega, by omega, fun j hj h => ?_, Has.of (by kernel_rfl), rfl, rfl⟩
        by_cases e : j = i
        · subst e; (have h9 : ¬ (15 : Int) < (rows[j].length : Int) := by simpa using h3); omega
        · exact hall j hj (by omega)
    · -- no h2
      have hi2 : ¬ i < 66 := by (have h9 : ¬ (i : Int) < 66 := by simpa using h2); omega
      refine Ok.exit ?_
      refine Ok.seq ?_
      refine Ok.region ?_
      refine OkO.fieldAddr (o := 0) rfl (by kernel_rfl) rfl ?_
      refine OkO.load rfl rfl (lda (n := 1) (by kernel_rfl) (by first | assumption | (simp (disch := first | omega | (simp only [hNw, hPt]; omega)) only [gn0, gn1, gn2, gn3, gn4, gn5, gp0, gno, gpo] <;> first | rfl | assumption | exact gp0 _ _ _ | exact gn0 _ _)) (by first | rfl | assumption)) ?_
      refine OkO.builtin rfl rfl rfl (bln (by kernel_rfl) (by first | assumption | rfl)) ?_
      refine OkO.bin rfl rfl rfl (bin_leq _ _) ?_
      refine OkO.move rfl rfl ?_
      refine OkO.split (d := 26) rfl (fun g4 => ?_) (fun g4 => ?_)
      · -- true g4
        refine OkO.move rfl rfl ?_
        refine OkO.builtin rfl rfl rfl (bln (by kernel_rfl) (by first | assumption | rfl)) ?_
        refine OkO.bin rfl rfl rfl (bin_leq _ _) ?_
        refine OkO.pick (b := true) rfl rfl (fun _ => rfl) nofun ?_
        refine OkO.assign rfl rfl ?_
        refine OkO.nil ?_
        refine Ok.ret ⟨.inr rfl, ?_⟩
        have hA : ((rows.take 66).all fun r => decide (r.length ≤ 15)) = true := List.all_eq_true.2 (fun r hr => by obtain ⟨j, hj, rfl⟩ := List.mem_iff_getElem.1 hr; (have hjl : j < 66 ∧ j < rows.length := by rw [List.length_take] at hj; omega); rw [List.getElem_take, decide_eq_true_eq]; exact hall j hjl.2 (by omega))
        have hB : p.errs.length ≤ 15 := by (have h9 : (p.errs.length : Int) ≤ 15 := by simpa using g4); omega
        exact back_flat rfl (congrArg AV.bool (by unfold thinB; rw [hA, decide_eq_true hB, Bool.true_and, Bool.true_and, Bool.eq_iff_iff, decide_eq_true_eq, decide_eq_true_eq]; omega)) rfl (by rw [← hW]; exact g6)
      · -- false g4
        refine OkO.skip rfl ?_
        refine OkO.skip rfl ?_
        refine OkO.skip rfl ?_
        refine OkO.pick (b := false) rfl rfl nofun (fun _ => rfl) ?_
        refine OkO.assign rfl rfl ?_
        refine OkO.nil ?_
        refine Ok.ret ⟨.inr rfl, ?_⟩
        have hA : ((rows.take 66).all fun r => decide (r.length ≤ 15)) = true := List.all_eq_true.2 (fun r hr => by obtain ⟨j, hj, rfl⟩ := List.mem_iff_getElem.1 hr; (have hjl : j < 66 ∧ j < rows.length := by rw [List.length_take] at hj; omega); rw [List.getElem_take, decide_eq_true_eq]; exact hall j hjl.2 (by omega))
        have hB : ¬ p.errs.length ≤ 15 := by (have h9 : ¬ (p.errs.length : Int) ≤ 15 := by simpa using g4); omega
        exact back_flat rfl (congrArg AV.bool (by unfold thinB; rw [hA, decide_eq_false hB]; rfl)) rfl (by rw [← hW]; exact g6)
  · -- false g1
    have hge : rows.length ≤ i := by simpa using g1
    refine OkO.skip rfl ?_
    refine OkO.skip rfl ?_
    refine OkO.pick (b := false) rfl rfl nofun (fun _ => rfl) ?_
    refine OkO.nil ?_
    refine Ok.condF rfl ?_
    refine Ok.exit ?_
    refine Ok.seq ?_
    refine Ok.region ?_
    refine OkO.fieldAddr (o := 0) rfl (by kernel_rfl) rfl ?_
    refine OkO.load rfl rfl (lda (n := 1) (by kernel_rfl) (by first | assumption | (simp (disch := first | omega | (simp only [hNw, hPt]; omega)) only [gn0, gn1, gn2, gn3, gn4, gn5, gp0, gno, gpo] <;> first | rfl | assumption | exact gp0 _ _ _ | exact gn0 _ _)) (by first | rfl | assumption)) ?_
    refine OkO.builtin rfl rfl rfl (bln (by kernel_rfl) (by first | assumption | rfl)) ?_
    refine OkO.bin rfl rfl rfl (bin_leq _ _) ?_
    refine OkO.move rfl rfl ?_
    refine OkO.split (d := 26) rfl (fun g5 => ?_) (fun g5 => ?_)
    · -- true g5
      refine OkO.move rfl rfl ?_
      refine OkO.builtin rfl rfl rfl (bln (by kernel_rfl) (by first | assumption | rfl)) ?_
      refine OkO.bin rfl rfl rfl (bin_leq _ _) ?_
      refine OkO.pick (b := true) rfl rfl (fun _ => rfl) nofun ?_
      refine OkO.assign rfl rfl ?_
      refine OkO.nil ?_
      refine Ok.ret ⟨.inr rfl, ?_⟩
      have hA : ((rows.take 66).all fun r => decide (r.length ≤ 15)) = true := List.all_eq_true.2 (fun r hr => by obtain ⟨j, hj, rfl⟩ := List.mem_iff_getElem.1 hr; (have hjl : j < 66 ∧ j < rows.length := by rw [List.length_take] at hj; omega); rw [List.getElem_take, decide_eq_true_eq]; exact hall j hjl.2 (by omega))
      have hB : p.errs.length ≤ 15 := by (have h9 : (p.errs.length : Int) ≤ 15 := by simpa using g5); omega
      exact back_flat rfl (congrArg AV.bool (by unfold thinB; rw [hA, decide_eq_true hB, Bool.true_and, Bool.true_and, Bool.eq_iff_iff, decide_eq_true_eq, decide_eq_true_eq]; omega)) rfl (by rw [← hW]; exact g6)
    · -- false g5
      refine OkO.skip rfl ?_
      refine OkO.skip rfl ?_
      refine OkO.skip rfl ?_
      refine OkO.pick (b := false) rfl rfl nofun (fun _ => rfl) ?_
      refine OkO.assign rfl rfl ?_
      refine OkO.nil ?_
      refine Ok.ret ⟨.inr rfl, ?_⟩
      have hA : ((rows.take 66).all fun r => decide (r.length ≤ 15)) = true := List.all_eq_true.2 (fun r hr => by obtain ⟨j, hj, rfl⟩ := List.mem_iff_getElem.1 hr; (have hjl : j < 66 ∧ j < rows.length := by rw [List.length_take] at hj; omega); rw [List.getElem_take, decide_eq_true_eq]; exact hall j hjl.2 (by omega))
      have hB : ¬ p.errs.length ≤ 15 := by (have h9 : ¬ (p.errs.length : Int) ≤ 15 := by simpa using g5); omega
      exact back_flat rfl (congrArg AV.bool (by unfold thinB; rw [hA, decide_eq_false hB]; rfl)) rfl (by rw [← hW]; exact g6)
theorem c56 (m : Nat) (ev rv : AV) (p : Pst) (rows : List (List Int)) (H : Heap) (hV : Ints H ev p.errs) (hRs : LstAt H rv rows) : RR (m + 4) (.fn 56 [.agg (p.c ev), rv]) H = some (.bool (thinB p rows && decide (faultE p rows = 0)), H) := by
  refine (R_fn _ _ _ _ _).trans ?_
  refine fn_ok Try.func56 rfl rfl (by kernel_rfl) (by kernel_rfl) ?_
  obtain ⟨W, hW⟩ : ∃ W : Heap, W = ⟨H.t, H.next, H.next⟩ := ⟨_, rfl⟩
  have hg : ∀ n, W.get n = H.get n := fun n => by rw [hW]; rfl
  have hN : W.next = H.next := by rw [hW]
  have hE : ∀ G, Grow W G → Ext H G := fun G g => ⟨by rw [← hN]; exact g.next, fun n k => by rw [g.get n (by rw [hN]; exact k), hg]⟩
  have hG : Grow W W := Grow.refl (by rw [hW]; exact Nat.le_refl _)
  rw [← hW]
  have pev : ev.plain = true := lpl hV.len
  have hrlen := hRs.len
  refine Ok.seq ?_
  refine Ok.region ?_
  refine OkO.box rfl rfl ?_
  refine OkO.assign rfl rfl ?_
  refine OkO.nil ?_
  refine Ok.seq ?_
  refine Ok.region ?_
  refine OkO.load rfl rfl (ldg (n := 6) (by kernel_rfl) (by first | assumption | (simp (disch := first | omega | (simp only [hNw, hPt]; omega)) only [gn0, gn1, gn2, gn3, gn4, gn5, gp0, gno, gpo] <;> first | rfl | assumption | exact gp0 _ _ _ | exact gn0 _ _)) (by first | rfl | assumption)) ?_
  refine OkO.move rfl rfl ?_
  refine OkO.callV rfl rfl rfl rfl rfl (c58 (m + 2) ev rv p rows _ (hV.ext (hE _ (by (try dsimp only); repeat (first | exact hG | apply Grow.new | (refine Grow.put ?_ _ (by first | omega | (simp only [hNw, hPt]; omega))))))) (hRs.ext (hE _ (by (try dsimp only); repeat (first | exact hG | apply Grow.new | (refine Grow.put ?_ _ (by first | omega | (simp only [hNw, hPt]; omega)))))))) ?_ -- "sackung/sackunglaw04.Thin"
  refine OkO.move rfl rfl ?_
  refine OkO.split (d := 8) rfl (fun g1 => ?_) (fun g1 => ?_)
  · -- true g1
    refine OkO.load rfl rfl (ldg (n := 6) (by kernel_rfl) (by first | assumption | (simp (disch := first | omega | (simp only [hNw, hPt]; omega)) only [gn0, gn1, gn2, gn3, gn4, gn5, gp0, gno, gpo] <;> first | rfl | assumption | exact gp0 _ _ _ | exact gn0 _ _)) (by first | rfl | assumption)) ?_
    refine OkO.move rfl rfl ?_
    refine OkO.callV rfl rfl rfl rfl rfl (c25 (m + 0) ev rv p rows _ (hV.ext (hE _ (by (try dsimp only); repeat (first | exact hG | apply Grow.new | (refine Grow.put ?_ _ (by first | omega | (simp only [hNw, hPt]; omega))))))) (hRs.ext (hE _ (by (try dsimp only); repeat (first | exact hG | apply Grow.new | (refine Grow.put ?_ _ (by first | omega | (simp only [hNw, hPt]; omega))))))) (by have := thin_facts g1; omega) (by have := thin_facts g1; omega) (fun r hr => by have := (thin_facts g1).2.2 r hr; omega)) ?_ -- "sackung/sackungref04.Fault"
    refine OkO.bin rfl rfl rfl (bin_eql _ _) ?_
    refine OkO.pick (b := true) rfl rfl (fun _ => rfl) nofun ?_
    refine OkO.assign rfl rfl ?_
    refine OkO.nil ?_
    refine Ok.ret ⟨.inr rfl, ?_⟩
    exact back_flat rfl (congrArg AV.bool (by rw [g1]; rfl)) rfl (by rw [← hW]; exact (by (try dsimp only); repeat (first | exact hG | apply Grow.new | (refine Grow.put ?_ _ (by first | omega | (simp only [hNw, hPt]; omega))))))
  · -- false g1
    refine OkO.skip rfl ?_
    refine OkO.skip rfl ?_
    refine OkO.skip rfl ?_
    refine OkO.skip rfl ?_
    refine OkO.pick (b := false) rfl rfl nofun (fun _ => rfl) ?_
    refine OkO.assign rfl rfl ?_
    refine OkO.nil ?_
    refine Ok.ret ⟨.inr rfl, ?_⟩
    exact back_flat rfl (congrArg AV.bool (by rw [g1]; rfl)) rfl (by rw [← hW]; exact (by (try dsimp only); repeat (first | exact hG | apply Grow.new | (refine Grow.put ?_ _ (by first | omega | (simp only [hNw, hPt]; omega))))))
end
end Go.Ev

set_option maxRecDepth 100000
set_option linter.unusedSimpArgs false
set_option linter.unusedVariables false
namespace Go.Ev
open Go Go.Proofs
noncomputable section
theorem LstAt.take {H : Heap} {v : AV} {rows : List (List Int)} (h : LstAt H v rows) (hv : (∃ b off len cap, v = .slice b off len cap ∧ len ≤ cap) ∨ v = .nils ∨ ∃ a c, v = .raw (.slice a 0 c)) {k : Nat} (hk : k ≤ rows.length) : ∃ v', (∀ G, sliceOf G 1 v none (some (.int .i64 (k : Int))) = some v') ∧ LstAt H v' (rows.take k) := by
  obtain ⟨vs, h1, h2, h3⟩ := h
  obtain ⟨v', e1, e2⟩ := slice_to hv h2 (k := k) (by simp; omega)
  refine ⟨v', e1, vs.take k, by simp [h1], by rw [List.map_take]; exact e2, fun i x r a c => ?_⟩
  rw [List.getElem?_take] at a c
  split at a
  · rename_i hi
    rw [if_pos hi] at c
    exact h3 i x r a c
  · cases a
theorem spd_mem {p : Pst} {rows : List (List Int)} {h : Nat} : ∀ {k : Nat} {x : Int}, x ∈ spdL p rows h k → ∃ j, j < k ∧ ∃ hh : h < (mayL p ((j : Int) - 1) rows).length, x = (mayL p ((j : Int) - 1) rows)[h].1 ∨ x = (mayL p ((j : Int) - 1) rows)[h].2
  | 0, x, hx => by simp [spdL] at hx
  | i + 1, x, hx => by
    by_cases hr : h + 1 ≤ lenM p rows i
    · have hh : h < (mayL p ((i : Int) - 1) rows).length := hr
      rw [spdL_yes hr hh] at hx
      rcases List.mem_append.1 hx with h8 | h8
      · obtain ⟨j, h1, h2⟩ := spd_mem h8
        exact ⟨j, by omega, h2⟩
      · simp at h8
        exact ⟨i, by omega, hh, h8⟩
    · rw [spdL_no hr] at hx
      obtain ⟨j, h1, h2⟩ := spd_mem hx
      exact ⟨j, by omega, h2⟩
theorem spd_in {p : Pst} {rows : List (List Int)} {h j : Nat} (hh : h < (mayL p ((j : Int) - 1) rows).length) : ∀ {k : Nat}, j < k → (mayL p ((j : Int) - 1) rows)[h].1 ∈ spdL p rows h k ∧ (mayL p ((j : Int) - 1) rows)[h].2 ∈ spdL p rows h k
  | 0, hk => by omega
  | i + 1, hk => by
    by_cases e : j = i
    · subst e
      rw [spdL_yes (show h + 1 ≤ lenM p rows j from hh) hh]
      simp
    · have := spd_in hh (k := i) (by omega)
      show _ ∈ spdL p rows h i ++ _ ∧ _ ∈ spdL p rows h i ++ _
      exact ⟨List.mem_append.2 (.inl this.1), List.mem_append.2 (.inl this.2)⟩
theorem mnL_mem : ∀ {L : List Int}, L ≠ [] → mnL L ∈ L
  | [], h => absurd rfl h
  | a :: l, _ => by
    have key : ∀ (l : List Int) (a : Int), l.foldl min a ∈ a :: l := fun l => by
      induction l with
      | nil => intro a; simp
      | cons c l ih =>
        intro a
        have := ih (min a c)
        rw [List.foldl_cons]
        rcases List.mem_cons.1 this with h | h
        · rw [h]
          rcases Int.le_total a c with h9 | h9
          · rw [Int.min_eq_left h9]; simp
          · rw [Int.min_eq_right h9]; simp
        · exact List.mem_cons_of_mem _ (List.mem_cons_of_mem _ h)
    exact key l a
theorem foldl_min : ∀ (l : List Int) (a : Int), l.foldl min a ≤ a ∧ ∀ x ∈ l, l.foldl min a ≤ x
  | [], a => ⟨Int.le_refl _, nofun⟩
  | c :: l, a => by
    obtain ⟨h1, h2⟩ := foldl_min l (min a c)
    rw [List.foldl_cons]
    exact ⟨by omega, fun x hx => by
      rcases List.mem_cons.1 hx with rfl | h
      · omega
      · exact h2 x h⟩
theorem foldl_max : ∀ (l : List Int) (a : Int), a ≤ l.foldl max a ∧ ∀ x ∈ l, x ≤ l.foldl max a
  | [], a => ⟨Int.le_refl _, nofun⟩
  | c :: l, a => by
    obtain ⟨h1, h2⟩ := foldl_max l (max a c)
    rw [List.foldl_cons]
    exact ⟨by omega, fun x hx => by
      rcases List.mem_cons.1 hx with rfl | h
      · omega
      · exact h2 x h⟩
theorem mnL_le {L : List Int} {x : Int} (h : x ∈ L) : mnL L ≤ x := by
  cases L with
  | nil => cases h
  | cons a l =>
    rcases List.mem_cons.1 h with rfl | h
    · exact (foldl_min l _).1
    · exact (foldl_min l a).2 x h
theorem le_mxL {L : List Int} {x : Int} (h : x ∈ L) : x ≤ mxL L := by
  cases L with
  | nil => cases h
  | cons a l =>
    rcases List.mem_cons.1 h with rfl | h
    · exact (foldl_max l _).1
    · exact (foldl_max l a).2 x h
theorem poss_last {p : Pst} {rows : List (List Int)} {i h : Nat} (hh : h ≤ rows.length) : h ≤ lenM p rows i ↔ lastI p ((i : Int) - 1) (rows.take h) ≠ nul := may_len hh
end
end Go.Ev

set_option maxRecDepth 100000
set_option linter.unusedSimpArgs false
set_option linter.unusedVariables false
namespace Go.Ev
open Go Go.Proofs
noncomputable section
end
end Go.Ev

set_option maxRecDepth 100000
set_option linter.unusedSimpArgs false
set_option linter.unusedVariables false
namespace Go.Ev
open Go Go.Proofs
noncomputable section
end
end Go.Ev

set_option maxRecDepth 100000
set_option linter.unusedSimpArgs false
set_option linter.unusedVariables false
namespace Go.Ev
open Go Go.Proofs
noncomputable section
theorem hit_iff {p : Pst} {rows : List (List Int)} {hr : Nat} {s0 : Int} {j : Nat} (hh : hr < rows.length) : HitP p rows hr s0 j ↔ inI s0 (lastI p ((j : Int) - 1) (rows.take (hr + 1))) := by
  unfold HitP
  constructor
  · rintro ⟨h1, h2⟩
    have hk : hr < (mayL p ((j : Int) - 1) rows).length := h1
    rw [show (mayL p ((j : Int) - 1) rows).getD hr nul = (mayL p ((j : Int) - 1) rows)[hr] from by simp [List.getD, hk], (may_mem hk).1] at h2
    exact h2
  · intro h
    have h1 : hr + 1 ≤ lenM p rows j := (poss_last (by omega)).2 ((prp_mem (last_prp _ _ _)).1 ⟨_, h⟩)
    have hk : hr < (mayL p ((j : Int) - 1) rows).length := h1
    exact ⟨h1, by rw [show (mayL p ((j : Int) - 1) rows).getD hr nul = (mayL p ((j : Int) - 1) rows)[hr] from by simp [List.getD, hk], (may_mem hk).1]; exact h⟩
end
end Go.Ev

set_option maxRecDepth 100000
set_option linter.unusedSimpArgs false
set_option linter.unusedVariables false
namespace Go.Ev
open Go Go.Proofs
noncomputable section
/-- A number that words pick. -/
def pickV (lo hi : Int) (ws : List Int) (a : Nat) : Int :=
  if ws = [] then lo else if (ws.getD (a % ws.length) 0) % 4 = 0 then lo else if (ws.getD (a % ws.length) 0) % 4 = 1 then hi else lo + (ws.getD (a % ws.length) 0) % (hi - lo + 1)
/-- Speeds that may be, and reads that agree with them. -/
def TruOk (p : Pst) (f : Int) (sp : List Int) (rows : List (List Int)) : Prop := rows.length = sp.length ∧ MovP p sp ∧ AgrP p f rows sp ∧ ∀ r ∈ rows, r.length = p.errs.length ∧ ∀ x ∈ r, -1000 ≤ x ∧ x ≤ 2000
theorem TruOk.nil (p : Pst) (f : Int) : TruOk p f [] [] := ⟨rfl, ⟨fun x h => absurd h List.not_mem_nil, fun h h2 => absurd h2 (Nat.not_lt_zero _)⟩, fun h h1 => absurd h1 (Nat.not_lt_zero _), fun r h => absurd h List.not_mem_nil⟩
theorem TruOk.snoc {p : Pst} {f v : Int} {sp : List Int} {rows : List (List Int)} {row : List Int} (h : TruOk p f sp rows) (hv : 0 ≤ v ∧ v ≤ 1000) (hs : ∀ x, sp[sp.length - 1]? = some x → StepOk p x v) (hr : row.length = p.errs.length ∧ ∀ x ∈ row, -1000 ≤ x ∧ x ≤ 2000) (ha : AgreeR p f row v) : TruOk p f (sp ++ [v]) (rows ++ [row]) := by
  obtain ⟨h1, ⟨h2, h3⟩, h4, h5⟩ := h
  refine ⟨by simp [h1], ⟨fun x hx => ?_, fun k hk => ?_⟩, fun k k1 k2 => ?_, fun r hr9 => ?_⟩
  · rcases List.mem_append.1 hx with hx | hx
    · exact h2 x hx
    · rw [List.mem_singleton] at hx; rw [hx]; exact hv
  · rw [List.length_append, List.length_singleton] at hk
    by_cases c : k + 1 < sp.length
    · rw [List.getElem_append_left c, List.getElem_append_left (by omega)]
      exact h3 k c
    · have e1 : (sp ++ [v])[k + 1]'(by simp; omega) = v := by rw [List.getElem_append_right (by omega)]; simp
      have e2 : (sp ++ [v])[k]'(by simp; omega) = sp[k]'(by omega) := List.getElem_append_left (by omega)
      rw [e1, e2]
      exact hs _ (by rw [show sp.length - 1 = k from by omega, List.getElem?_eq_getElem (by omega)])
  · rw [List.length_append, List.length_singleton] at k1
    by_cases c : k < sp.length
    · rw [List.getElem_append_left c, List.getElem_append_left (by omega)]
      exact h4 k c (by omega)
    · have e1 : (sp ++ [v])[k]'(by simp; omega) = v := by rw [List.getElem_append_right (by omega)]; simp
      have e2 : (rows ++ [row])[k]'k2 = row := by rw [List.getElem_append_right (by omega)]; simp
      rw [e1, e2]
      exact ha
  · rcases List.mem_append.1 hr9 with hr9 | hr9
    · exact h5 r hr9
    · rw [List.mem_singleton] at hr9; rw [hr9]; exact hr
theorem TruOk.in {p : Pst} {f : Int} {sp : List Int} {rows : List (List Int)} (h : TruOk p f sp rows) (hpg : 0 ≤ p.gain) (hpd : 0 ≤ p.drop) : ∀ (k : Nat) (hk : k < sp.length), inI sp[k] (lastI p f (rows.take (k + 1)))
  | 0, hk => by
    obtain ⟨h1, ⟨h2, h3⟩, h4, h5⟩ := h
    have hb := h2 _ (List.getElem_mem hk)
    rw [last_next (by omega), next_iff hb]
    refine ⟨⟨(by rw [List.take_zero]; intro h9; cases h9), ?_⟩, h4 0 hk (by omega)⟩
    rw [List.take_zero]
    show (0 : Int) - p.drop ≤ _ ∧ _ ≤ (1000 : Int) + p.gain
    omega
  | k + 1, hk => by
    have hi := TruOk.in h hpg hpd k (by omega)
    obtain ⟨h1, ⟨h2, h3⟩, h4, h5⟩ := h
    have hb := h2 _ (List.getElem_mem hk)
    rw [last_next (by omega), next_iff hb]
    have hs := h3 k hk
    refine ⟨⟨fun h9 => ?_, ?_⟩, h4 (k + 1) hk (by omega)⟩
    · rw [h9] at hi; exact not_nul _ hi
    · unfold StepOk at hs; unfold inI at hi; omega
theorem TruOk.len {p : Pst} {f : Int} {sp : List Int} {rows : List (List Int)} (h : TruOk p f sp rows) (hpg : 0 ≤ p.gain) (hpd : 0 ≤ p.drop) {j : Nat} (hj : f = (j : Int) - 1) : rows.length ≤ lenM p rows j := by
  refine (poss_last (Nat.le_refl _)).2 ?_
  rw [List.take_length]
  rw [← hj]
  by_cases c : sp.length = 0
  · have : rows = [] := List.eq_nil_of_length_eq_zero (by rw [h.1]; exact c)
    rw [this]
    intro h9; cases h9
  · intro h9
    have := h.in hpg hpd (sp.length - 1) (by omega)
    rw [show rows.take (sp.length - 1 + 1) = rows from by rw [show sp.length - 1 + 1 = rows.length from by rw [h.1]; omega, List.take_length], h9] at this
    exact not_nul _ this
theorem TruOk.span {p : Pst} {f : Int} {sp : List Int} {rows : List (List Int)} (h : TruOk p f sp rows) (hpg : 0 ≤ p.gain) (hpd : 0 ≤ p.drop) {j : Nat} (hj : f = (j : Int) - 1) (hn : j < p.errs.length + 1) (k : Nat) (hk : k < sp.length) : mnL (spdL p rows k (p.errs.length + 1)) ≤ sp[k] ∧ sp[k] ≤ mxL (spdL p rows k (p.errs.length + 1)) := by
  have hl := h.len hpg hpd hj
  have hm : k < (mayL p ((j : Int) - 1) rows).length := by (have h9 : rows.length ≤ (mayL p ((j : Int) - 1) rows).length := hl); rw [h.1] at h9; omega
  have h1 := spd_in hm hn
  have h2 := h.in hpg hpd k hk
  rw [hj, ← (may_mem hm).1] at h2
  have h3 := mnL_le h1.1
  have h4 := le_mxL h1.2
  unfold inI at h2
  omega
theorem MovP.up {p : Pst} {sp : List Int} (h : MovP p sp) (k : Nat) : ∀ (d : Nat) (hd : k + d < sp.length), sp[k + d] ≤ sp[k]'(by omega) + (d : Int) * p.gain
  | 0, hd => by simp
  | d + 1, hd => by
    have h1 := MovP.up h k d (by omega)
    have h2 := h.2 (k + d) (by omega)
    unfold StepOk at h2
    have e : ((d + 1 : Nat) : Int) * p.gain = (d : Int) * p.gain + p.gain := by rw [show ((d + 1 : Nat) : Int) = (d : Int) + 1 from by omega, Int.add_mul, Int.one_mul]
    rw [e]
    show sp[k + d + 1] ≤ _
    omega
theorem level_call {p : Pst} {x y : Int} {d : Nat} (hpg : 0 ≤ p.gain) (hd : (d : Int) ≤ p.out) (hy : p.fall ≤ y) (hxy : y ≤ x + (d : Int) * p.gain) : levelI p x = 3 := by
  have hl : leftI p x ≤ hrI p 0 := by
    have e : hrI p 0 = p.out := by simp [hrI]
    rw [e]
    unfold leftI
    split
    · omega
    · rename_i h1
      split
      · rename_i h2
        rw [h2, Int.mul_zero] at hxy
        omega
      · have h3 : (p.fall - x + p.gain - 1) / p.gain < (d : Int) + 1 := by
          refine Int.ediv_lt_of_lt_mul (by omega) ?_
          rw [Int.add_mul, Int.one_mul]
          omega
        omega
  unfold levelI
  rw [if_pos hl]
theorem TruOk.call {p : Pst} {f : Int} {sp : List Int} {rows : List (List Int)} (h : TruOk p f sp rows) (hpg : 0 ≤ p.gain) (hpd : 0 ≤ p.drop) {j : Nat} (hj : f = (j : Int) - 1) (hn : j < p.errs.length + 1) {k i : Nat} (hk : k ≤ i) (hi : i < sp.length) (ho : (i : Int) - p.out ≤ k) (hfall : p.fall ≤ sp[i]) : levelI p (mxL (spdL p rows k (p.errs.length + 1))) = 3 := by
  have h1 := MovP.up h.2.1 k (i - k) (by omega)
  have h2 := (h.span hpg hpd hj hn k (by omega)).2
  have e : sp[k + (i - k)]'(by omega) = sp[i] := by congr 1; omega
  rw [e] at h1
  refine level_call (y := sp[i]) (d := i - k) hpg (by omega) hfall ?_
  omega
/-- A list of lists that was made, apart from another list. -/
def RowsX (k0 : Nat) (G : Heap) (xv v : AV) (rows : List (List Int)) : Prop := ∃ vs : List AV, vs.length = rows.length ∧ Mine k0 G v 22 1 vs ∧ ∀ (i : Nat) (x : AV) (r : List Int), vs[i]? = some x → rows[i]? = some r → Mine k0 G x 3 1 (r.map I) ∧ ∀ b m m', x = .opn b m → xv ≠ .opn b m'
theorem RowsX.rows {k0 : Nat} {G : Heap} {xv v : AV} {l : List (List Int)} (h : RowsX k0 G xv v l) : RowsM k0 G v l := by
  obtain ⟨vs, h1, h2, h3⟩ := h
  exact ⟨vs, h1, h2, fun i x r a c => (h3 i x r a c).1⟩
theorem RowsX.nil (k0 : Nat) (G : Heap) (xv : AV) : RowsX k0 G xv .nils [] := ⟨[], rfl, Mine.nil _ _ _ _, fun i x s h _ => by simp at h⟩
theorem RowsX.to {k0 : Nat} {G G' : Heap} {xv v : AV} {l : List (List Int)} (h : RowsX k0 G xv v l) (e : Ext G G') : RowsX k0 G' xv v l := by
  obtain ⟨vs, h1, h2, h3⟩ := h
  exact ⟨vs, h1, h2.to e, fun i x r a c => ⟨(h3 i x r a c).1.to e, (h3 i x r a c).2⟩⟩
theorem RowsX.snoc {k0 : Nat} {G : Heap} {xv ov x : AV} {l : List (List Int)} {s : List Int} (h : RowsX k0 G xv ov l) (hx : Mine k0 G x 3 1 (s.map I)) (hsep : ∀ b m m', x = .opn b m → xv ≠ .opn b m') : ∃ cs, Mine k0 G ov 22 1 cs ∧ cs.length = l.length ∧ ∀ v2 G2, Mine k0 G2 v2 22 1 (cs ++ [x]) → G.next ≤ G2.next → (∀ j, j < G.next → (∀ m, ov ≠ .opn j m) → G2.get j = G.get j) → RowsX k0 G2 xv v2 (l ++ [s]) := by
  obtain ⟨vs, h1, h2, h3⟩ := h
  refine ⟨_, h2, h1, fun v2 G2 k1 k2 k3 => ⟨vs ++ [x], by simp [h1], k1, fun i y t a c => ?_⟩⟩
  by_cases hi : i < vs.length
  · rw [List.getElem?_append_left hi] at a
    rw [List.getElem?_append_left (by omega)] at c
    exact ⟨(h3 i y t a c).1.offE h2 (.inl (by decide)) k2 k3, (h3 i y t a c).2⟩
  · by_cases hi2 : i = vs.length
    · subst hi2
      rw [List.getElem?_append_right (Nat.le_refl _)] at a
      rw [List.getElem?_append_right (by omega), h1] at c
      simp at a c
      subst a c
      exact ⟨hx.offE h2 (.inl (by decide)) k2 k3, hsep⟩
    · rw [List.getElem?_eq_none (by simp; omega)] at a; cases a
def U16c (n : Int) : List AV := [.int .u16 n]
/-- A row of reads, as words make it. -/
def rowV (p : Pst) (f v : Int) (ws : List Int) (h n : Nat) : List Int := (List.range n).map fun (i : Nat) => if (i : Int) = f then pickV (-1000) 2000 ws (5 * h + 1) else pickV (v - p.errs.getD i 0) (v + p.errs.getD i 0) ws (7 * h + i)
end
end Go.Ev

set_option maxRecDepth 100000
set_option linter.unusedSimpArgs false
set_option linter.unusedVariables false
namespace Go.Ev
open Go Go.Proofs
noncomputable section
end
end Go.Ev

set_option maxRecDepth 100000
set_option linter.unusedSimpArgs false
set_option linter.unusedVariables false
namespace Go.Ev
open Go Go.Proofs
noncomputable section
end
end Go.Ev

set_option maxRecDepth 100000
set_option linter.unusedSimpArgs false
set_option linter.unusedVariables false
namespace Go.Ev
open Go Go.Proofs
noncomputable section
/-- An end of what is known is reached with some gauge failed. -/
theorem spd_hit {p : Pst} {rows : List (List Int)} {hr : Nat} {e : Int} (h : e ∈ spdL p rows hr (p.errs.length + 1)) : ∃ j, j ≤ p.errs.length ∧ HitP p rows hr e j := by
  obtain ⟨j, hj, hh, he⟩ := spd_mem h
  refine ⟨j, by omega, hh, ?_⟩
  rw [show (mayL p ((j : Int) - 1) rows).getD hr nul = (mayL p ((j : Int) - 1) rows)[hr] from by simp [List.getD, hh]]
  obtain ⟨e1, e2⟩ := may_mem hh
  have h3 : (mayL p ((j : Int) - 1) rows)[hr].1 ≤ (mayL p ((j : Int) - 1) rows)[hr].2 := by
    rw [e1]
    rcases last_prp p ((j : Int) - 1) (rows.take (hr + 1)) with h | h
    · exact absurd h e2
    · exact h
  unfold inI
  rcases he with he | he <;> rw [he] <;> omega
theorem hit_span {p : Pst} {rows : List (List Int)} {hr j : Nat} {e : Int} (hj : j ≤ p.errs.length) (h : HitP p rows hr e j) : mnL (spdL p rows hr (p.errs.length + 1)) ≤ e ∧ e ≤ mxL (spdL p rows hr (p.errs.length + 1)) := by
  have hk : hr < (mayL p ((j : Int) - 1) rows).length := h.1
  have h2 := h.2
  rw [show (mayL p ((j : Int) - 1) rows).getD hr nul = (mayL p ((j : Int) - 1) rows)[hr] from by simp [List.getD, hk]] at h2
  obtain ⟨h3, h4⟩ := spd_in hk (k := p.errs.length + 1) (by omega)
  have h5 := mnL_le h3
  have h6 := le_mxL h4
  unfold inI at h2
  omega
end
end Go.Ev

set_option maxRecDepth 100000
set_option linter.unusedSimpArgs false
set_option linter.unusedVariables false
namespace Go.Ev
open Go Go.Proofs
noncomputable section
/-- A list of lists that was made, each list in a block of its own. -/
def RowsD (k0 : Nat) (G : Heap) (v : AV) (rows : List (List Int)) : Prop := ∃ vs : List AV, vs.length = rows.length ∧ Mine k0 G v 22 1 vs ∧ (∀ (i : Nat) (x : AV) (r : List Int), vs[i]? = some x → rows[i]? = some r → Mine k0 G x 3 1 (r.map I)) ∧ ∀ (i j : Nat) (b m m' : Nat), i ≠ j → vs[i]? = some (.opn b m) → vs[j]? ≠ some (.opn b m')
theorem RowsD.rows {k0 : Nat} {G : Heap} {v : AV} {rows : List (List Int)} (h : RowsD k0 G v rows) : RowsM k0 G v rows := let ⟨vs, h1, h2, h3, _⟩ := h; ⟨vs, h1, h2, h3⟩
theorem RowsD.nil (k0 : Nat) (G : Heap) : RowsD k0 G .nils [] := ⟨[], rfl, Mine.nil _ _ _ _, fun i x s h _ => by simp at h, fun i j b m m' _ h => by simp at h⟩
theorem RowsD.to {k0 : Nat} {G G' : Heap} {v : AV} {rows : List (List Int)} (h : RowsD k0 G v rows) (e : Ext G G') : RowsD k0 G' v rows := let ⟨vs, h1, h2, h3, h4⟩ := h; ⟨vs, h1, h2.to e, fun i x r a c => (h3 i x r a c).to e, h4⟩
theorem RowsD.low {k0 k1 : Nat} {G : Heap} {v : AV} {rows : List (List Int)} (h : RowsD k1 G v rows) (hk : k0 ≤ k1) : RowsD k0 G v rows := let ⟨vs, h1, h2, h3, h4⟩ := h; ⟨vs, h1, h2.low hk, fun i x r a c => (h3 i x r a c).low hk, h4⟩
theorem RowsD.snoc {k0 : Nat} {G0 G : Heap} {ov x : AV} {l : List (List Int)} {s : List Int} (h : RowsD k0 G0 ov l) (e : Ext G0 G) (hx : Mine G0.next G x 3 1 (s.map I)) (hk : k0 ≤ G0.next) : ∃ cs, Mine k0 G ov 22 1 cs ∧ cs.length = l.length ∧ ∀ v2 G2, Mine k0 G2 v2 22 1 (cs ++ [x]) → G.next ≤ G2.next → (∀ j, j < G.next → (∀ m, ov ≠ .opn j m) → G2.get j = G.get j) → RowsD k0 G2 v2 (l ++ [s]) := by
  obtain ⟨vs, h1, h2, h3, h4⟩ := h
  refine ⟨_, h2.to e, h1, fun v2 G2 k1 k2 k3 => ⟨vs ++ [x], by simp [h1], k1, fun i y t a c => ?_, fun i j b m m' hij ha hb => ?_⟩⟩
  · by_cases hi : i < vs.length
    · rw [List.getElem?_append_left hi] at a
      rw [List.getElem?_append_left (by omega)] at c
      exact ((h3 i y t a c).to e).offE (h2.to e) (.inl (by decide)) k2 k3
    · by_cases hi2 : i = vs.length
      · subst hi2
        rw [List.getElem?_append_right (Nat.le_refl _)] at a
        rw [List.getElem?_append_right (by omega), h1] at c
        simp at a c
        subst a c
        exact (hx.low hk).offE (h2.to e) (.inl (by decide)) k2 k3
      · rw [List.getElem?_eq_none (by simp; omega)] at a; cases a
  · have key : ∀ (i : Nat) (b m m' : Nat), vs[i]? = some (.opn b m) → x ≠ .opn b m' := fun i b m m' ha hb => by
      have hi : i < vs.length := (List.getElem?_eq_some_iff.1 ha).1
      have := (h3 i _ _ ha (List.getElem?_eq_getElem (by omega))).lt rfl
      exact hx.far this m' hb
    have hlen : ∀ (i : Nat) (z : AV), (vs ++ [x])[i]? = some z → (i < vs.length ∧ vs[i]? = some z) ∨ (i = vs.length ∧ z = x) := fun i z hz => by
      by_cases hi : i < vs.length
      · rw [List.getElem?_append_left hi] at hz; exact .inl ⟨hi, hz⟩
      · have h9 : i < (vs ++ [x]).length := (List.getElem?_eq_some_iff.1 hz).1
        rw [List.length_append, List.length_singleton] at h9
        have e9 : i = vs.length := by omega
        subst e9
        rw [List.getElem?_append_right (Nat.le_refl _)] at hz
        simp at hz
        exact .inr ⟨rfl, hz.symm⟩
    rcases hlen i _ ha with ⟨_, ha⟩ | ⟨ha, ha2⟩ <;> rcases hlen j _ hb with ⟨_, hb⟩ | ⟨hb, hb2⟩
    · exact h4 i j b m m' hij ha hb
    · exact key i b m m' ha hb2.symm
    · exact key j b m' m hb ha2.symm
    · omega
theorem RowsD.backS {H G H' : Heap} {v : AV} {l : List (List Int)} (h : RowsD H.next G v l) (r : (H' = H ∧ v.flat = true) ∨ ((∀ n, H'.get n = G.get n) ∧ H'.next = G.next)) : RowsD H.next H' v l := by
  rcases r with ⟨rfl, hf⟩ | ⟨h1, h2⟩
  · obtain ⟨vs, a1, a2, a3, a4⟩ := h
    rcases a2 with ⟨rfl, a2⟩ | ⟨b, n, rfl, _⟩
    · subst a2; exact ⟨[], a1, .inl ⟨rfl, rfl⟩, fun i x s h _ => by simp at h, fun i j b m m' _ h => by simp at h⟩
    · cases hf
  · exact h.to ⟨by omega, fun n _ => h1 n⟩
theorem RowsD.at {k0 : Nat} {G : Heap} {v : AV} {rows : List (List Int)} (h : RowsD k0 G v rows) : LstAt G v rows := h.rows.at
/-- One of its lists gives way to another one, that was made of it. -/
theorem RowsD.swap {k0 : Nat} {G G1 G2 : Heap} {v x x2 : AV} {rows : List (List Int)} {i : Nat} {r2 : List Int} {vs : List AV} (h1 : vs.length = rows.length) (h2 : Mine k0 G v 22 1 vs) (h3 : ∀ (i : Nat) (x : AV) (r : List Int), vs[i]? = some x → rows[i]? = some r → Mine k0 G x 3 1 (r.map I)) (h4 : ∀ (i j : Nat) (b m m' : Nat), i ≠ j → vs[i]? = some (.opn b m) → vs[j]? ≠ some (.opn b m'))
    (hi : i < rows.length) (hx : vs[i]? = some x) (hx2 : Mine G.next G1 x2 3 1 (r2.map I)) (hk : k0 ≤ G.next) (hn : G.next ≤ G1.next) (hkeep : ∀ j, j < G.next → (∀ m, x ≠ .opn j m) → G1.get j = G.get j)
    {vb vn : Nat} (hv : v = .opn vb vn) (hG2 : G2 = G1.put vb (.opn (vs.set i x2) 22 1)) : RowsD k0 G2 v (rows.set i r2) := by
  subst hG2
  have hiv : i < vs.length := by omega
  have hvb : k0 ≤ vb ∧ vb < G.next := by
    rcases h2 with ⟨h, _⟩ | ⟨b, n, a1, a2, a3, a4, a5⟩
    · rw [hv] at h; cases h
    · rw [hv] at a1; cases a1; exact ⟨a4, a5⟩
  have hvn : vs.length = vn * 1 := by
    rcases h2 with ⟨h, _⟩ | ⟨b, n, a1, a2, a3, a4, a5⟩
    · rw [hv] at h; cases h
    · rw [hv] at a1; cases a1; exact a3
  have hgv : G.get vb = some (.opn vs 22 1) := by
    rcases h2 with ⟨h, _⟩ | ⟨b, n, a1, a2, a3, a4, a5⟩
    · rw [hv] at h; cases h
    · rw [hv] at a1; cases a1; exact a2
  refine ⟨vs.set i x2, by simp [h1], .inr ⟨vb, vn, hv, gp0 _ _ _, by simpa using hvn, hvb.1, by simp; omega⟩, fun j y r a c => ?_, fun j j' b m m' hj ha hb => ?_⟩
  · by_cases e : j = i
    · subst e
      rw [List.getElem?_set_self hiv] at a
      rw [List.getElem?_set_self hi] at c
      cases a; cases c
      rcases hx2 with h | ⟨b, n, a1, a2, a3, a4, a5⟩
      · exact .inl h
      · exact .inr ⟨b, n, a1, by rw [gpo _ _ _ _ (by omega)]; exact a2, a3, by omega, by simpa using a5⟩
    · rw [List.getElem?_set_ne (fun h => e h.symm)] at a c
      rcases h3 j y r a c with h | ⟨b, n, a1, a2, a3, a4, a5⟩
      · exact .inl h
      · refine .inr ⟨b, n, a1, ?_, a3, a4, by simp; omega⟩
        have hne : b ≠ vb := fun e => by rw [e, hgv] at a2; cases a2
        rw [gpo _ _ _ _ hne, hkeep b a5 (fun m hm => ?_)]
        · exact a2
        · subst a1
          rw [hm] at hx
          exact h4 j i b n m e a hx
  · have key : ∀ (j : Nat) (b m m' : Nat), j ≠ i → vs[j]? = some (.opn b m) → x2 ≠ .opn b m' := fun j b m m' hj ha hb => by
      have hjl : j < vs.length := (List.getElem?_eq_some_iff.1 ha).1
      have := (h3 j _ _ ha (List.getElem?_eq_getElem (by omega))).lt rfl
      exact hx2.far this m' hb
    by_cases e : j = i
    · subst e
      rw [List.getElem?_set_self hiv] at ha
      rw [List.getElem?_set_ne hj] at hb
      cases ha
      exact key j' b m' m (fun h => hj h.symm) hb rfl
    · rw [List.getElem?_set_ne (fun h => e h.symm)] at ha
      by_cases e2 : j' = i
      · subst e2
        rw [List.getElem?_set_self hiv] at hb
        cases hb
        exact key j b m m' e ha rfl
      · rw [List.getElem?_set_ne (fun h => e2 h.symm)] at hb
        exact h4 j j' b m m' hj ha hb
theorem c22D (m : Nat) (sv : AV) (l : List (List Int)) (H : Heap) (hS : LstAt H sv l) (hl9 : l.length ≤ 100000) (hs9 : ∀ s ∈ l, s.length ≤ 100000) : ∃ v H', RR (m + 2) (.fn 22 [sv]) H = some (v, H') ∧ Ret H H' ∧ RowsD H.next H' v l := by
  show ∃ v H', evFn Try.prog (RR (m + 1)) 22 [sv] H = some (v, H') ∧ Ret H H' ∧ RowsD H.next H' v l
  refine fn_okE Try.func22 rfl rfl (by kernel_rfl) (by kernel_rfl) ?_
  obtain ⟨W, hW⟩ : ∃ W : Heap, W = ⟨H.t, H.next, H.next⟩ := ⟨_, rfl⟩
  have hg : ∀ n, W.get n = H.get n := fun n => by rw [hW]; rfl
  have hN : W.next = H.next := by rw [hW]
  have hE : ∀ G, Grow W G → Ext H G := fun G g => ⟨by rw [← hN]; exact g.next, fun n k => by rw [g.get n (by rw [hN]; exact k), hg]⟩
  have hG : Grow W W := Grow.refl (by rw [hW]; exact Nat.le_refl _)
  rw [← hW]
  have hlen := hS.len
  refine Ok.seq ?_
  refine Ok.region ?_
  refine OkO.assign rfl rfl ?_
  refine OkO.nil ?_
  refine Ok.seq ?_
  refine Ok.region ?_
  refine OkO.assign rfl rfl ?_
  refine OkO.nil ?_
  refine Ok.seq ?_
  refine Ok.seq ?_
  refine Ok.region ?_
  refine OkO.assign rfl rfl ?_
  refine OkO.nil ?_
  refine Ok.block ?_
  refine Ok.loop (fun n s => ∃ i : Nat, n = l.length - i ∧ i ≤ l.length ∧ (∃ ov, RowsD W.next s.H ov (l.take i) ∧ Has 5 [(0, sv), (3, ov), (4, I (i : Int))] s.T) ∧ s.D = [] ∧ Grow W s.H) (l.length) (by unfold loopFuel; omega)
    ⟨0, rfl, Nat.zero_le _, ⟨.nils, RowsD.nil _ _, Has.of (by kernel_rfl)⟩, rfl, hG⟩ ?_
  rintro n ⟨T, D, G⟩ ⟨i, hn, hi, ⟨ov, hm, ⟨f, hT⟩⟩, hD, hg⟩
  dsimp only at *
  subst hT hD
  have hgn := hg.next
  refine Ok.seq ?_
  refine Ok.seq ?_
  refine Ok.region ?_
  refine OkO.move rfl rfl ?_
  refine OkO.move rfl rfl ?_
  refine OkO.builtin rfl rfl rfl (bln (by kernel_rfl) (by first | assumption | rfl)) ?_
  refine OkO.bin rfl rfl rfl (bin_lss _ _) ?_
  refine OkO.nil ?_
  refine Ok.cond rfl (fun h1 => ?_) (fun h1 => ?_)
  · -- yes h1
    have hlt : i < l.length := by simpa using h1
    obtain ⟨x, bb, off, cs, i1, i2, i3, i4, i7⟩ := (hS.ext (hE _ hg)).at_ i hlt
    have pb : x.plain = true := lpl i7.len
    refine Ok.skip ?_
    refine Ok.seq ?_
    refine Ok.block ?_
    refine Ok.region ?_
    refine OkO.move rfl rfl ?_
    refine OkO.move rfl rfl ?_
    refine OkO.move rfl rfl ?_
    refine OkO.index (sz := 1) rfl rfl rfl (by kernel_rfl) (by first | assumption | rfl | exact slAt_slice (by omega) | exact slAt_opn (by omega)) ?_ -- index ('Go.Operand.tmp', 12) ('Go.Operand.tmp', 13)
    refine OkO.load rfl rfl (lda (n := 1) (by kernel_rfl) (by first | assumption | (simp (disch := first | omega | (simp only [hNw, hPt]; omega)) only [gn0, gn1, gn2, gn3, gn4, gn5, gp0, gno, gpo] <;> first | rfl | assumption | exact gp0 _ _ _ | exact gn0 _ _)) (by first | rfl | assumption)) ?_
    refine OkO.callE rfl rfl rfl rfl rfl (c30 m x l[i] _ i7 (by have := hs9 l[i] (List.getElem_mem hlt); omega)) ?_ -- "sackung/sackunglaw04.list"
    rintro x' H38 ⟨q38, r38⟩
    have g38 : Grow W H38 := Grow.ret (by (try dsimp only); repeat (first | exact hg | exact hG | apply Grow.new | (refine Grow.put ?_ _ (by first | omega | (simp only [hNw, hPt]; omega))))) q38
    have n38 := q38.ext.next
    obtain ⟨cs9, hm9, hcl9, hsn⟩ := RowsD.snoc (s := l[i]) hm q38.ext r38 (by omega)
    obtain ⟨u1, u2⟩ := r38.one
    refine OkO.buildSlice (el := 22) (sz := 1) (z := [.nils]) (cs := [x']) rfl (by kernel_rfl) (by decide) rfl (by show fillS (fun i => some (i * 1, 1)) [AV.nils] [(0, x')] = some [x']; simp [fillS, spl, u1]) ?_
    refine OkO.builtinE rfl rfl rfl (Mine.app2 (W := W) (k0 := W.next) (t := 25) (u := 25) (sz := 1) (by_ := 24) (e := 22) (n := 1) (new := [x']) (hm9.to (Grow.toNew _ _)) (g38.new _) (Nat.le_refl _) (by simp; omega) (by kernel_rfl) (by kernel_rfl) (elems_new (n := 1) (sz := 1) rfl) rfl rfl (by rw [hcl9, List.length_take]; omega) (by omega) (by omega) (by simp [atoms, u2])) ?_
    rintro v2 G2 ⟨r1, r2, r3, r4, r5, _⟩
    simp only [hNw] at r4 r5
    have hnew : RowsD W.next G2 v2 (l.take (i + 1)) := by
            rw [List.take_succ_eq_append_getElem hlt]
            exact hsn v2 G2 r1 (by omega) (fun j hj hne => by rw [r4 j (by omega) hne]; exact gno _ _ _ (by omega))
    refine OkO.assign rfl rfl ?_
    refine OkO.nil ?_
    refine Ok.region ?_
    refine OkO.move rfl rfl ?_
    refine OkO.bin rfl rfl rfl (bin_add (by omega) (by omega)) ?_
    refine OkO.assign rfl rfl ?_
    refine OkO.nil ?_
    refine ⟨l.length - (i + 1), by omega, i + 1, rfl, hlt, ⟨_, hnew, Has.of (by kernel_rfl)⟩, rfl, r2⟩
  · -- no h1
    have hge : i = l.length := by simp at h1; omega
    subst hge
    rw [List.take_length] at hm
    refine Ok.exit ?_
    refine Ok.seq ?_
    refine Ok.region ?_
    refine OkO.move rfl rfl ?_
    refine OkO.assign rfl rfl ?_
    refine OkO.nil ?_
    refine Ok.ret ⟨.inr rfl, ?_⟩
    refine back_newA (resV_tmp rfl resV_nil) rfl (by rw [← hW]; exact hg) (fun H9 p1 p2 => ⟨p1, (hm.low (by omega)).backS p2⟩)
end
end Go.Ev

set_option maxRecDepth 100000
set_option linter.unusedSimpArgs false
set_option linter.unusedVariables false
namespace Go.Ev
open Go Go.Proofs
noncomputable section
def Pst.more (p : Pst) (er : Int) : Pst := ⟨p.errs ++ [er], p.gain, p.drop, p.fall, p.out, p.ahead⟩
def wz (ws : List Int) (j : Nat) : Int := ws.getD (j % ws.length) 0 % 1000
/-- The rows, each of the first ones with one number more. -/
def addR (ws : List Int) (i : Nat) (rows : List (List Int)) : List (List Int) := rows.mapIdx fun j r => if j < i then r ++ [wz ws j] else r
theorem addR_len (ws : List Int) (i : Nat) (rows : List (List Int)) : (addR ws i rows).length = rows.length := by simp [addR]
theorem addR_get {ws : List Int} {i h : Nat} {rows : List (List Int)} (hh : h < rows.length) : (addR ws i rows)[h]'(by rw [addR_len]; exact hh) = if h < i then rows[h] ++ [wz ws h] else rows[h] := by
  unfold addR
  rw [List.getElem_mapIdx]
theorem addR_zero (ws : List Int) (rows : List (List Int)) : addR ws 0 rows = rows := by
  refine List.ext_getElem (addR_len _ _ _) fun j h1 h2 => ?_
  rw [addR_get h2, if_neg (by omega)]
theorem addR_succ {ws : List Int} {i : Nat} {rows : List (List Int)} (hi : i < rows.length) : addR ws (i + 1) rows = (addR ws i rows).set i (rows[i] ++ [wz ws i]) := by
  refine List.ext_getElem (by simp [addR_len]) fun j h1 h2 => ?_
  rw [addR_len] at h1
  rw [addR_get h1]
  by_cases e : j = i
  · subst e
    rw [if_pos (by omega), List.getElem_set_self]
  · rw [List.getElem_set_ne (fun h => e h.symm), addR_get h1]
    by_cases h : j < i
    · rw [if_pos (by omega), if_pos h]
    · rw [if_neg (by omega), if_neg h]
theorem wz_bd {ws : List Int} (j : Nat) : 0 ≤ wz ws j ∧ wz ws j ≤ 999 := by
  unfold wz
  have h1 := Int.emod_nonneg (ws.getD (j % ws.length) 0) (b := 1000) (by omega)
  have h2 := Int.emod_lt_of_pos (ws.getD (j % ws.length) 0) (b := 1000) (by omega)
  omega
theorem more_fault {p : Pst} {rows : List (List Int)} {ws : List Int} {er : Int} (h : faultE p rows = 0) (hp : p.errs.length ≤ 9) (he : 0 ≤ er ∧ er ≤ 19) : faultE (p.more er) (addR ws rows.length rows) = 0 := by
  obtain ⟨h1, h2, h3, h4⟩ := faultE_facts h
  unfold faultE
  rw [if_pos, if_neg (by rw [addR_len]; omega), if_pos]
  · rw [List.all_eq_true]
    intro r hr
    obtain ⟨j, hj, rfl⟩ := List.getElem_of_mem hr
    rw [addR_len] at hj
    rw [addR_get hj, if_pos hj]
    unfold goodB
    rw [Bool.and_eq_true, decide_eq_true_eq, List.all_eq_true]
    refine ⟨?_, fun x hx => ?_⟩
    · rw [List.length_append, h3 _ (List.getElem_mem hj)]
      show _ = (p.errs ++ [er]).length
      simp
    · have hb : -1000 ≤ x ∧ x ≤ 2000 := by
        rcases List.mem_append.1 hx with hx | hx
        · exact h4 _ (List.getElem_mem hj) x hx
        · rw [List.mem_singleton] at hx
          have := wz_bd (ws := ws) j
          rw [hx]; omega
      unfold inB; simp; exact hb
  · unfold Pst.ok inB at h1 ⊢
    simp only [Bool.and_eq_true, decide_eq_true_eq, List.all_eq_true] at h1 ⊢
    obtain ⟨⟨⟨⟨⟨⟨a1, a2⟩, a3⟩, a4⟩, a5⟩, a6⟩, a7⟩ := h1
    refine ⟨⟨⟨⟨⟨⟨?_, fun x hx => ?_⟩, a3⟩, a4⟩, a5⟩, a6⟩, a7⟩
    · show (1 : Int) ≤ ((p.errs ++ [er]).length : Int) ∧ ((p.errs ++ [er]).length : Int) ≤ 10
      rw [List.length_append, List.length_singleton]
      omega
    · rcases List.mem_append.1 (show x ∈ p.errs ++ [er] from hx) with hx | hx
      · exact a2 x hx
      · rw [List.mem_singleton] at hx; omega
/-- Who may have failed without the gauge that came in last. -/
def lessF (p : Pst) (f : Int) : Int := if f = (p.errs.length : Int) then -1 else f
theorem more_agree {p : Pst} {er f v w : Int} {row : List Int} (hl : row.length = p.errs.length) (h : AgreeR (p.more er) f (row ++ [w]) v) : AgreeR p (lessF p f) row v := by
  intro g hg hf
  have hgf : (g : Int) ≠ f := by
    unfold lessF at hf
    split at hf <;> omega
  have h1 := h g (by show g < (p.errs ++ [er]).length; rw [List.length_append]; omega) hgf
  have e1 : (p.more er).errs.getD g 0 = p.errs.getD g 0 := by
    show (p.errs ++ [er]).getD g 0 = _
    simp [List.getD, List.getElem?_append_left hg]
  have e2 : (row ++ [w]).getD g 0 = row.getD g 0 := by simp [List.getD, List.getElem?_append_left (show g < row.length by omega)]
  unfold gI at h1 ⊢
  rw [e1, e2] at h1
  exact h1
theorem more_last {p : Pst} {er f : Int} {ws : List Int} {rows : List (List Int)} (hlens : ∀ r ∈ rows, r.length = p.errs.length) : ∀ (k : Nat), k ≤ rows.length → ∀ v, inI v (lastI (p.more er) f ((addR ws rows.length rows).take k)) → inI v (lastI p (lessF p f) (rows.take k))
  | 0, _, v, h => by
    rw [List.take_zero] at h ⊢
    exact h
  | k + 1, hk, v, h => by
    have hb := last_bd h
    rw [last_next (by rw [addR_len]; omega), next_iff hb] at h
    obtain ⟨⟨h1, h2, h3⟩, h4⟩ := h
    rw [addR_get (by omega), if_pos (by omega)] at h4
    have ih := more_last (f := f) (er := er) (ws := ws) hlens k (by omega)
    have hp : (lastI (p.more er) f ((addR ws rows.length rows).take k)).1 ≤ (lastI (p.more er) f ((addR ws rows.length rows).take k)).2 := by
      rcases last_prp (p.more er) f ((addR ws rows.length rows).take k) with h | h
      · exact absurd h h1
      · exact h
    have i1 := ih _ ⟨Int.le_refl _, hp⟩
    have i2 := ih _ ⟨hp, Int.le_refl _⟩
    rw [last_next (by omega), next_iff hb]
    refine ⟨⟨fun h9 => ?_, ?_⟩, more_agree (hlens _ (List.getElem_mem _)) h4⟩
    · rw [h9] at i1; exact not_nul _ i1
    · have e1 : (p.more er).drop = p.drop := rfl
      have e2 : (p.more er).gain = p.gain := rfl
      unfold inI at i1 i2
      rw [e1] at h2
      rw [e2] at h3
      omega
theorem lessF_idx {p : Pst} {j : Nat} (hj : j ≤ p.errs.length + 1) : ∃ i, i ≤ p.errs.length ∧ lessF p ((j : Int) - 1) = (i : Int) - 1 := by
  unfold lessF
  by_cases e : j = p.errs.length + 1
  · exact ⟨0, by omega, by rw [if_pos (by omega)]; rfl⟩
  · exact ⟨j, by omega, by rw [if_neg (by omega)]⟩
theorem more_hit {p : Pst} {er s : Int} {ws : List Int} {rows : List (List Int)} {hr j : Nat} (hlens : ∀ r ∈ rows, r.length = p.errs.length) (hh : hr < rows.length) (hj : j ≤ p.errs.length + 1) (h : HitP (p.more er) (addR ws rows.length rows) hr s j) : ∃ i, i ≤ p.errs.length ∧ HitP p rows hr s i := by
  obtain ⟨i, hi, e⟩ := lessF_idx hj
  refine ⟨i, hi, (hit_iff hh).2 ?_⟩
  rw [← e]
  exact more_last hlens _ (by omega) _ ((hit_iff (by rw [addR_len]; exact hh)).1 h)
theorem more_poss {p : Pst} {er : Int} {ws : List Int} {rows : List (List Int)} (hlens : ∀ r ∈ rows, r.length = p.errs.length) (h : possB (p.more er) (addR ws rows.length rows) (addR ws rows.length rows).length = true) : possB p rows rows.length = true := by
  obtain ⟨j, hj, h1⟩ := possB_iff.1 h
  rw [poss_last (Nat.le_refl _)] at h1
  obtain ⟨v, hv⟩ := (prp_mem (last_prp _ _ _)).2 h1
  rw [addR_len] at hv
  have hl : (p.more er).errs.length = p.errs.length + 1 := by show (p.errs ++ [er]).length = _; simp
  obtain ⟨i, hi, e⟩ := lessF_idx (p := p) (j := j) (by omega)
  have := more_last (f := (j : Int) - 1) hlens rows.length (Nat.le_refl _) v hv
  rw [e] at this
  exact possB_iff.2 ⟨i, hi, (poss_last (Nat.le_refl _)).2 ((prp_mem (last_prp _ _ _)).1 ⟨v, this⟩)⟩
theorem more_span {p : Pst} {er : Int} {ws : List Int} {rows : List (List Int)} {hr : Nat} (hlens : ∀ r ∈ rows, r.length = p.errs.length) (hh : hr < rows.length) {x : Int} (hx : x ∈ spdL (p.more er) (addR ws rows.length rows) hr ((p.more er).errs.length + 1)) : mnL (spdL p rows hr (p.errs.length + 1)) ≤ x ∧ x ≤ mxL (spdL p rows hr (p.errs.length + 1)) := by
  obtain ⟨j, hj, h1⟩ := spd_hit hx
  have hl : (p.more er).errs.length = p.errs.length + 1 := by show (p.errs ++ [er]).length = _; simp
  obtain ⟨i, hi, h2⟩ := more_hit hlens hh (by omega) h1
  exact hit_span hi h2
theorem left_mono {p : Pst} {x y : Int} (hg : 0 ≤ p.gain) (h : x ≤ y) (hy : 0 ≤ x ∧ y ≤ 1000000) (hf : p.fall ≤ 1000) : leftI p y ≤ leftI p x := by
  have hnn : 0 ≤ leftI p x := by
    unfold leftI
    by_cases h1 : p.fall ≤ x
    · rw [if_pos h1]; omega
    · rw [if_neg h1]
      by_cases h2 : p.gain = 0
      · rw [if_pos h2]; omega
      · rw [if_neg h2]; exact Int.ediv_nonneg (by omega) (by omega)
  by_cases h1 : p.fall ≤ y
  · have e : leftI p y = 0 := by unfold leftI; rw [if_pos h1]
    rw [e]; exact hnn
  · unfold leftI
    rw [if_neg h1, if_neg (show ¬ p.fall ≤ x by omega)]
    by_cases h2 : p.gain = 0
    · rw [if_pos h2, if_pos h2]; omega
    · rw [if_neg h2, if_neg h2]
      exact Int.ediv_le_ediv (by omega) (by omega)
theorem level_mono {p : Pst} {x y : Int} (hg : 0 ≤ p.gain) (h : x ≤ y) (hy : 0 ≤ x ∧ y ≤ 1000000) (hf : p.fall ≤ 1000) : levelI p x ≤ levelI p y := by
  have := left_mono hg h hy hf
  unfold levelI
  repeat' split
  all_goals omega
theorem Mine.up {k0 k1 : Nat} {G : Heap} {v : AV} {e : TypeId} {sz : Nat} {cs : List AV} (h : Mine k0 G v e sz cs) {b m : Nat} (hv : v = .opn b m) (hb : k1 ≤ b) : Mine k1 G v e sz cs := by
  rcases h with ⟨h, _⟩ | ⟨b', n, a1, a2, a3, a4, a5⟩
  · rw [h] at hv; cases hv
  · refine .inr ⟨b', n, a1, a2, a3, ?_, a5⟩
    rw [a1] at hv; cases hv; exact hb
theorem slAt_opn {b len sz n : Nat} (h : n < len) : slAt (.opn b len) sz n = some (b, n * sz) := by simp [slAt, h]
end
end Go.Ev

set_option maxRecDepth 100000
set_option linter.unusedSimpArgs false
set_option linter.unusedVariables false
namespace Go.Ev
open Go Go.Proofs
noncomputable section
theorem bin_gtrU8 (a b : Int) : bin .gtr .u8 a .u8 b = some (.bool (decide (b < a))) := by show some (AV.bool (ltI b a)) = _; rw [ltI_eq]
theorem c13W (m : Nat) (ev rv wv : AV) (p : Pst) (rows : List (List Int)) (er0 : Int) (ws : List Int) (H : Heap) (hV : Ints H ev p.errs) (hRs : LstAt H rv rows) (hWs : Row H wv 1 (ws.map U16c)) (hw : ∀ x ∈ ws, 0 ≤ x ∧ x ≤ 65535) (her0 : 0 ≤ er0 ∧ er0 ≤ 65535) (hrd : (thinB p rows && decide (faultE p rows = 0)) = false) : RR (m + 8) (.fn 13 [.agg (p.c ev), rv, .int .u16 er0, wv]) H = some (.bool true, H) := by
  refine (R_fn _ _ _ _ _).trans ?_
  refine fn_ok Try.func13 rfl rfl (by kernel_rfl) (by kernel_rfl) ?_
  obtain ⟨W, hW⟩ : ∃ W : Heap, W = ⟨H.t, H.next, H.next⟩ := ⟨_, rfl⟩
  have hg : ∀ n, W.get n = H.get n := fun n => by rw [hW]; rfl
  have hN : W.next = H.next := by rw [hW]
  have hE : ∀ G, Grow W G → Ext H G := fun G g => ⟨by rw [← hN]; exact g.next, fun n k => by rw [g.get n (by rw [hN]; exact k), hg]⟩
  have hG : Grow W W := Grow.refl (by rw [hW]; exact Nat.le_refl _)
  rw [← hW]
  have pev : ev.plain = true := lpl hV.len
  have hel := hV.len
  have hrlen := hRs.len
  have pwv : wv.plain = true := lpl hWs.len
  have hwl := hWs.len
  rw [List.length_map] at hwl
  refine Ok.seq ?_
  refine Ok.region ?_
  refine OkO.box rfl rfl ?_
  refine OkO.assign rfl rfl ?_
  refine OkO.nil ?_
  refine Ok.seq ?_
  refine Ok.seq ?_
  refine Ok.region ?_
  refine OkO.load rfl rfl (ldg (n := 6) (by kernel_rfl) (by first | assumption | (simp (disch := first | omega | (simp only [hNw, hPt]; omega)) only [gn0, gn1, gn2, gn3, gn4, gn5, gp0, gno, gpo] <;> first | rfl | assumption | exact gp0 _ _ _ | exact gn0 _ _)) (by first | rfl | assumption)) ?_
  refine OkO.move rfl rfl ?_
  refine OkO.callV rfl rfl rfl rfl rfl ((c56 (m + 3) ev rv p rows _ (hV.ext (hE _ (by (try dsimp only); repeat (first | exact hG | apply Grow.new | (refine Grow.put ?_ _ (by first | omega | (simp only [hNw, hPt]; omega))))))) (hRs.ext (hE _ (by (try dsimp only); repeat (first | exact hG | apply Grow.new | (refine Grow.put ?_ _ (by first | omega | (simp only [hNw, hPt]; omega)))))))).trans (by rw [hrd])) ?_ -- "sackung/sackunglaw04.ready"
  refine OkO.un rfl rfl rfl ?_
  refine OkO.move rfl rfl ?_
  refine OkO.skip rfl ?_
  refine OkO.skip rfl ?_
  refine OkO.skip rfl ?_
  refine OkO.skip rfl ?_
  refine OkO.pick (b := true) rfl rfl (fun _ => rfl) nofun ?_
  refine OkO.move rfl rfl ?_
  refine OkO.skip rfl ?_
  refine OkO.skip rfl ?_
  refine OkO.skip rfl ?_
  refine OkO.pick (b := true) rfl rfl (fun _ => rfl) nofun ?_
  refine OkO.nil ?_
  refine Ok.condT rfl ?_
  refine Ok.seq ?_
  refine Ok.region ?_
  refine OkO.callV rfl rfl rfl rfl rfl (rfl) ?_ -- "sackung/sackunglaw04.awake"
  refine OkO.assign rfl rfl ?_
  refine OkO.nil ?_
  refine Ok.ret ⟨.inr rfl, ?_⟩
  exact back_flat rfl rfl rfl (by rw [← hW]; exact (by (try dsimp only); repeat (first | exact hG | apply Grow.new | (refine Grow.put ?_ _ (by first | omega | (simp only [hNw, hPt]; omega))))))
theorem c13V (m : Nat) (ev rv wv : AV) (p : Pst) (rows : List (List Int)) (er0 : Int) (ws : List Int) (H : Heap) (hV : Ints H ev p.errs) (hRs : LstAt H rv rows) (hWs : Row H wv 1 (ws.map U16c)) (hw : ∀ x ∈ ws, 0 ≤ x ∧ x ≤ 65535) (her0 : 0 ≤ er0 ∧ er0 ≤ 65535) (hrd : (thinB p rows && decide (faultE p rows = 0)) = true) (hp9 : 9 < p.errs.length) : RR (m + 8) (.fn 13 [.agg (p.c ev), rv, .int .u16 er0, wv]) H = some (.bool true, H) := by
  refine (R_fn _ _ _ _ _).trans ?_
  refine fn_ok Try.func13 rfl rfl (by kernel_rfl) (by kernel_rfl) ?_
  obtain ⟨W, hW⟩ : ∃ W : Heap, W = ⟨H.t, H.next, H.next⟩ := ⟨_, rfl⟩
  have hg : ∀ n, W.get n = H.get n := fun n => by rw [hW]; rfl
  have hN : W.next = H.next := by rw [hW]
  have hE : ∀ G, Grow W G → Ext H G := fun G g => ⟨by rw [← hN]; exact g.next, fun n k => by rw [g.get n (by rw [hN]; exact k), hg]⟩
  have hG : Grow W W := Grow.refl (by rw [hW]; exact Nat.le_refl _)
  rw [← hW]
  have pev : ev.plain = true := lpl hV.len
  have hel := hV.len
  have hrlen := hRs.len
  have pwv : wv.plain = true := lpl hWs.len
  have hwl := hWs.len
  rw [List.length_map] at hwl
  refine Ok.seq ?_
  refine Ok.region ?_
  refine OkO.box rfl rfl ?_
  refine OkO.assign rfl rfl ?_
  refine OkO.nil ?_
  refine Ok.seq ?_
  refine Ok.seq ?_
  refine Ok.region ?_
  refine OkO.load rfl rfl (ldg (n := 6) (by kernel_rfl) (by first | assumption | (simp (disch := first | omega | (simp only [hNw, hPt]; omega)) only [gn0, gn1, gn2, gn3, gn4, gn5, gp0, gno, gpo] <;> first | rfl | assumption | exact gp0 _ _ _ | exact gn0 _ _)) (by first | rfl | assumption)) ?_
  refine OkO.move rfl rfl ?_
  refine OkO.callV rfl rfl rfl rfl rfl ((c56 (m + 3) ev rv p rows _ (hV.ext (hE _ (by (try dsimp only); repeat (first | exact hG | apply Grow.new | (refine Grow.put ?_ _ (by first | omega | (simp only [hNw, hPt]; omega))))))) (hRs.ext (hE _ (by (try dsimp only); repeat (first | exact hG | apply Grow.new | (refine Grow.put ?_ _ (by first | omega | (simp only [hNw, hPt]; omega)))))))).trans (by rw [hrd])) ?_ -- "sackung/sackunglaw04.ready"
  refine OkO.un rfl rfl rfl ?_
  refine OkO.move rfl rfl ?_
  refine OkO.fieldAddr (o := 0) rfl (by kernel_rfl) rfl ?_
  refine OkO.load rfl rfl (lda (n := 1) (by kernel_rfl) (by first | assumption | (simp (disch := first | omega | (simp only [hNw, hPt]; omega)) only [gn0, gn1, gn2, gn3, gn4, gn5, gp0, gno, gpo] <;> first | rfl | assumption | exact gp0 _ _ _ | exact gn0 _ _)) (by first | rfl | assumption)) ?_
  refine OkO.builtin rfl rfl rfl (bln (by kernel_rfl) (by first | assumption | rfl)) ?_
  refine OkO.bin rfl rfl rfl ((bin_gtr _ _).trans (congrArg (fun b => some (AV.bool b)) (show _ = true from (by simp; omega)))) ?_
  refine OkO.pick (b := false) rfl rfl nofun (fun _ => rfl) ?_
  refine OkO.move rfl rfl ?_
  refine OkO.skip rfl ?_
  refine OkO.skip rfl ?_
  refine OkO.skip rfl ?_
  refine OkO.pick (b := true) rfl rfl (fun _ => rfl) nofun ?_
  refine OkO.nil ?_
  refine Ok.condT rfl ?_
  refine Ok.seq ?_
  refine Ok.region ?_
  refine OkO.callV rfl rfl rfl rfl rfl (rfl) ?_ -- "sackung/sackunglaw04.awake"
  refine OkO.assign rfl rfl ?_
  refine OkO.nil ?_
  refine Ok.ret ⟨.inr rfl, ?_⟩
  exact back_flat rfl rfl rfl (by rw [← hW]; exact (by (try dsimp only); repeat (first | exact hG | apply Grow.new | (refine Grow.put ?_ _ (by first | omega | (simp only [hNw, hPt]; omega))))))
theorem c13U (m : Nat) (ev rv wv : AV) (p : Pst) (rows : List (List Int)) (er0 : Int) (ws : List Int) (H : Heap) (hV : Ints H ev p.errs) (hRs : LstAt H rv rows) (hWs : Row H wv 1 (ws.map U16c)) (hw : ∀ x ∈ ws, 0 ≤ x ∧ x ≤ 65535) (her0 : 0 ≤ er0 ∧ er0 ≤ 65535) (hrd : (thinB p rows && decide (faultE p rows = 0)) = true) (hp9 : p.errs.length ≤ 9) (hwp : ws.length = 0) : RR (m + 8) (.fn 13 [.agg (p.c ev), rv, .int .u16 er0, wv]) H = some (.bool true, H) := by
  refine (R_fn _ _ _ _ _).trans ?_
  refine fn_ok Try.func13 rfl rfl (by kernel_rfl) (by kernel_rfl) ?_
  obtain ⟨W, hW⟩ : ∃ W : Heap, W = ⟨H.t, H.next, H.next⟩ := ⟨_, rfl⟩
  have hg : ∀ n, W.get n = H.get n := fun n => by rw [hW]; rfl
  have hN : W.next = H.next := by rw [hW]
  have hE : ∀ G, Grow W G → Ext H G := fun G g => ⟨by rw [← hN]; exact g.next, fun n k => by rw [g.get n (by rw [hN]; exact k), hg]⟩
  have hG : Grow W W := Grow.refl (by rw [hW]; exact Nat.le_refl _)
  rw [← hW]
  have pev : ev.plain = true := lpl hV.len
  have hel := hV.len
  have hrlen := hRs.len
  have pwv : wv.plain = true := lpl hWs.len
  have hwl := hWs.len
  rw [List.length_map] at hwl
  refine Ok.seq ?_
  refine Ok.region ?_
  refine OkO.box rfl rfl ?_
  refine OkO.assign rfl rfl ?_
  refine OkO.nil ?_
  refine Ok.seq ?_
  refine Ok.seq ?_
  refine Ok.region ?_
  refine OkO.load rfl rfl (ldg (n := 6) (by kernel_rfl) (by first | assumption | (simp (disch := first | omega | (simp only [hNw, hPt]; omega)) only [gn0, gn1, gn2, gn3, gn4, gn5, gp0, gno, gpo] <;> first | rfl | assumption | exact gp0 _ _ _ | exact gn0 _ _)) (by first | rfl | assumption)) ?_
  refine OkO.move rfl rfl ?_
  refine OkO.callV rfl rfl rfl rfl rfl ((c56 (m + 3) ev rv p rows _ (hV.ext (hE _ (by (try dsimp only); repeat (first | exact hG | apply Grow.new | (refine Grow.put ?_ _ (by first | omega | (simp only [hNw, hPt]; omega))))))) (hRs.ext (hE _ (by (try dsimp only); repeat (first | exact hG | apply Grow.new | (refine Grow.put ?_ _ (by first | omega | (simp only [hNw, hPt]; omega)))))))).trans (by rw [hrd])) ?_ -- "sackung/sackunglaw04.ready"
  refine OkO.un rfl rfl rfl ?_
  refine OkO.move rfl rfl ?_
  refine OkO.fieldAddr (o := 0) rfl (by kernel_rfl) rfl ?_
  refine OkO.load rfl rfl (lda (n := 1) (by kernel_rfl) (by first | assumption | (simp (disch := first | omega | (simp only [hNw, hPt]; omega)) only [gn0, gn1, gn2, gn3, gn4, gn5, gp0, gno, gpo] <;> first | rfl | assumption | exact gp0 _ _ _ | exact gn0 _ _)) (by first | rfl | assumption)) ?_
  refine OkO.builtin rfl rfl rfl (bln (by kernel_rfl) (by first | assumption | rfl)) ?_
  refine OkO.bin rfl rfl rfl ((bin_gtr _ _).trans (congrArg (fun b => some (AV.bool b)) (show _ = false from (by simp; omega)))) ?_
  refine OkO.pick (b := false) rfl rfl nofun (fun _ => rfl) ?_
  refine OkO.move rfl rfl ?_
  refine OkO.move rfl rfl ?_
  refine OkO.builtin rfl rfl rfl (bln (by kernel_rfl) (by first | assumption | rfl)) ?_
  refine OkO.bin rfl rfl rfl ((bin_eql _ _).trans (congrArg (fun b => some (AV.bool b)) (show _ = true from (by rw [decide_eq_true_eq]; omega)))) ?_
  refine OkO.pick (b := false) rfl rfl nofun (fun _ => rfl) ?_
  refine OkO.nil ?_
  refine Ok.condT rfl ?_
  refine Ok.seq ?_
  refine Ok.region ?_
  refine OkO.callV rfl rfl rfl rfl rfl (rfl) ?_ -- "sackung/sackunglaw04.awake"
  refine OkO.assign rfl rfl ?_
  refine OkO.nil ?_
  refine Ok.ret ⟨.inr rfl, ?_⟩
  exact back_flat rfl rfl rfl (by rw [← hW]; exact (by (try dsimp only); repeat (first | exact hG | apply Grow.new | (refine Grow.put ?_ _ (by first | omega | (simp only [hNw, hPt]; omega))))))
theorem c13Y (m : Nat) (ev rv wv : AV) (p : Pst) (rows : List (List Int)) (er0 : Int) (ws : List Int) (H : Heap) (hV : Ints H ev p.errs) (hRs : LstAt H rv rows) (hWs : Row H wv 1 (ws.map U16c)) (hw : ∀ x ∈ ws, 0 ≤ x ∧ x ≤ 65535) (her0 : 0 ≤ er0 ∧ er0 ≤ 65535) (hrd : (thinB p rows && decide (faultE p rows = 0)) = true) (hp9 : p.errs.length ≤ 9) (hwp : 0 < ws.length) (hposs0 : possB p rows rows.length = true) (hposs1 : possB (p.more (er0 % 20)) (addR ws rows.length rows) (addR ws rows.length rows).length = true) : RR (m + 8) (.fn 13 [.agg (p.c ev), rv, .int .u16 er0, wv]) H = some (.bool true, H) := by
  refine (R_fn _ _ _ _ _).trans ?_
  refine fn_ok Try.func13 rfl rfl (by kernel_rfl) (by kernel_rfl) ?_
  obtain ⟨W, hW⟩ : ∃ W : Heap, W = ⟨H.t, H.next, H.next⟩ := ⟨_, rfl⟩
  have hg : ∀ n, W.get n = H.get n := fun n => by rw [hW]; rfl
  have hN : W.next = H.next := by rw [hW]
  have hE : ∀ G, Grow W G → Ext H G := fun G g => ⟨by rw [← hN]; exact g.next, fun n k => by rw [g.get n (by rw [hN]; exact k), hg]⟩
  have hG : Grow W W := Grow.refl (by rw [hW]; exact Nat.le_refl _)
  rw [← hW]
  have pev : ev.plain = true := lpl hV.len
  have hel := hV.len
  have hrlen := hRs.len
  have pwv : wv.plain = true := lpl hWs.len
  have hwl := hWs.len
  rw [List.length_map] at hwl
  have hth : thinB p rows = true := by rw [Bool.and_eq_true] at hrd; exact hrd.1
  have hf : faultE p rows = 0 := by rw [Bool.and_eq_true, decide_eq_true_eq] at hrd; exact hrd.2
  obtain ⟨ht1, ht2, ht3⟩ := thin_facts hth
  have ht4 : ∀ r ∈ rows, r.length ≤ 100000 := fun r hr => by have := ht3 r hr; omega
  obtain ⟨⟨hp1, hp2⟩, hpe, hpg, hpd, hpf, hpo1, hpo2⟩ := Pst.ok_facts (faultE_facts hf).1
  obtain ⟨_, hr60, hlens, hrbd⟩ := faultE_facts hf
  have her : 0 ≤ er0 % 20 ∧ er0 % 20 ≤ 19 := by omega
  have hf' : faultE (p.more (er0 % 20)) (addR ws rows.length rows) = 0 := more_fault hf hp9 her
  have hpml : (p.more (er0 % 20)).errs.length = p.errs.length + 1 := by show (p.errs ++ [(er0 % 20)]).length = _; simp
  have ht4' : ∀ r ∈ (addR ws rows.length rows), r.length ≤ 100000 := fun r hr => by (have h9 := (faultE_facts hf').2.2.1 r hr); omega
  refine Ok.seq ?_
  refine Ok.region ?_
  refine OkO.box rfl rfl ?_
  refine OkO.assign rfl rfl ?_
  refine OkO.nil ?_
  refine Ok.seq ?_
  refine Ok.seq ?_
  refine Ok.region ?_
  refine OkO.load rfl rfl (ldg (n := 6) (by kernel_rfl) (by first | assumption | (simp (disch := first | omega | (simp only [hNw, hPt]; omega)) only [gn0, gn1, gn2, gn3, gn4, gn5, gp0, gno, gpo] <;> first | rfl | assumption | exact gp0 _ _ _ | exact gn0 _ _)) (by first | rfl | assumption)) ?_
  refine OkO.move rfl rfl ?_
  refine OkO.callV rfl rfl rfl rfl rfl ((c56 (m + 3) ev rv p rows _ (hV.ext (hE _ (by (try dsimp only); repeat (first | exact hG | apply Grow.new | (refine Grow.put ?_ _ (by first | omega | (simp only [hNw, hPt]; omega))))))) (hRs.ext (hE _ (by (try dsimp only); repeat (first | exact hG | apply Grow.new | (refine Grow.put ?_ _ (by first | omega | (simp only [hNw, hPt]; omega)))))))).trans (by rw [hrd])) ?_ -- "sackung/sackunglaw04.ready"
  refine OkO.un rfl rfl rfl ?_
  refine OkO.move rfl rfl ?_
  refine OkO.fieldAddr (o := 0) rfl (by kernel_rfl) rfl ?_
  refine OkO.load rfl rfl (lda (n := 1) (by kernel_rfl) (by first | assumption | (simp (disch := first | omega | (simp only [hNw, hPt]; omega)) only [gn0, gn1, gn2, gn3, gn4, gn5, gp0, gno, gpo] <;> first | rfl | assumption | exact gp0 _ _ _ | exact gn0 _ _)) (by first | rfl | assumption)) ?_
  refine OkO.builtin rfl rfl rfl (bln (by kernel_rfl) (by first | assumption | rfl)) ?_
  refine OkO.bin rfl rfl rfl ((bin_gtr _ _).trans (congrArg (fun b => some (AV.bool b)) (show _ = false from (by simp; omega)))) ?_
  refine OkO.pick (b := false) rfl rfl nofun (fun _ => rfl) ?_
  refine OkO.move rfl rfl ?_
  refine OkO.move rfl rfl ?_
  refine OkO.builtin rfl rfl rfl (bln (by kernel_rfl) (by first | assumption | rfl)) ?_
  refine OkO.bin rfl rfl rfl ((bin_eql _ _).trans (congrArg (fun b => some (AV.bool b)) (show _ = false from (by rw [decide_eq_false_iff_not]; omega)))) ?_
  refine OkO.pick (b := false) rfl rfl nofun (fun _ => rfl) ?_
  refine OkO.nil ?_
  refine Ok.condF rfl ?_
  refine Ok.skip ?_
  refine Ok.seq ?_
  refine Ok.region ?_
  refine OkO.load rfl rfl (ldg (n := 6) (by kernel_rfl) (by first | assumption | (simp (disch := first | omega | (simp only [hNw, hPt]; omega)) only [gn0, gn1, gn2, gn3, gn4, gn5, gp0, gno, gpo] <;> first | rfl | assumption | exact gp0 _ _ _ | exact gn0 _ _)) (by first | rfl | assumption)) ?_
  refine OkO.callE rfl rfl rfl rfl rfl (c20 (m + 5) ev p _ (hV.ext (hE _ (by (try dsimp only); repeat (first | exact hG | apply Grow.new | (refine Grow.put ?_ _ (by first | omega | (simp only [hNw, hPt]; omega))))))) (by omega)) ?_ -- "sackung/sackunglaw04.Post"
  rintro _ Ha ⟨xa, rfl, qa, ma⟩
  have n1 := qa.ext.next
  try simp only [hNw, hPt] at n1
  have gg1 : Grow W Ha := Grow.ret (by (try dsimp only); repeat (first | exact hG | apply Grow.new | (refine Grow.put ?_ _ (by first | omega | (simp only [hNw, hPt]; omega))))) qa
  have a1 : (Ha.get (W.next)).bind AObj.cs = some (p.c ev) := by rw [qa.ext.get _ (by first | omega | (simp only [hNw, hPt]; omega))]; first | assumption | (rw [gn0]; rfl) | (rw [get_put_eq] <;> rfl) | (simp (disch := first | omega | (simp only [hNw, hPt]; omega)) only [gn0, gn1, gn2, gn3, gn4, gn5, gp0, gno, gpo] <;> first | rfl | assumption | (rw [get_put_eq] <;> rfl))
  have ia := ma.ints
  have pla : xa.plain = true := lpl ia.len
  have oa := ma.one
  refine OkO.alloc (z := [.nils, .int .i64 0, .int .i64 0, .int .i64 0, .int .i64 0, .int .i64 0]) rfl (by kernel_rfl) ?_
  refine OkO.store rfl rfl rfl (sAc (n := 6) (ag := true) (by kernel_rfl) (by first | assumption | (simp (disch := first | omega | (simp only [hNw, hPt]; omega)) only [gn0, gn1, gn2, gn3, gn4, gn5, gp0, gno, gpo] <;> first | rfl | assumption | exact gp0 _ _ _ | exact gn0 _ _)) rfl (by first | rfl | assumption | exact (by show atoms [xa, I p.gain, I p.drop, I p.fall, I p.out, I p.ahead] = true; simp [atoms, oa.2, show ∀ z, (I z).atom = true from fun _ => rfl])) (by first | rfl | exact spl_set _ _ _ (by first | assumption | omega | (simp; omega)))) ?_
  refine OkO.nil ?_
  refine Ok.seq ?_
  refine Ok.region ?_
  refine OkO.fieldAddr (o := 0) rfl (by kernel_rfl) rfl ?_
  refine OkO.load rfl rfl (lda (n := 1) (by kernel_rfl) (by first | assumption | (simp (disch := first | omega | (simp only [hNw, hPt]; omega)) only [gn0, gn1, gn2, gn3, gn4, gn5, gp0, gno, gpo] <;> first | rfl | assumption | exact gp0 _ _ _ | exact gn0 _ _)) (by first | rfl | assumption)) ?_
  refine OkO.move rfl rfl ?_
  refine OkO.convert (k := .i64) rfl (by kernel_rfl) rfl (wrapF_i64 (by omega) (by omega)) ?_
  refine OkO.bin rfl rfl rfl (bin_rem (by omega) (by omega)) ?_
  refine OkO.buildSlice (el := 3) (sz := 1) (z := [.int .i64 0]) rfl (by kernel_rfl) (by decide) rfl rfl ?_
  refine OkO.builtinE rfl rfl rfl (Mine.app2 (W := W) (k0 := W.next + 1) (t := 22) (u := 22) (sz := 1) (by_ := 8) (e := 3) (n := 1) (new := [I (er0 % 20)]) ((ma.low (k0 := W.next + 1) (by simp)).to ((((Ext.refl _).new _).put _ (by omega)).new _)) (by repeat (first | exact gg1 | apply Grow.new | (refine Grow.put ?_ _ (by first | omega | (simp only [hNw, hPt]; omega))))) (by omega) (by simp; omega) (by kernel_rfl) (by kernel_rfl) (elems_new (n := 1) (sz := 1) rfl) rfl rfl (by rw [List.length_map]; omega) (by omega) (by omega) rfl) ?_
  rintro v2 G2 ⟨r1, r2, r3, r4, r5, r6⟩
  simp only [hNw, hPt] at r5 r6
  have a2_ : (G2.get W.next).bind AObj.cs = some (p.c ev) := by rw [r3.get W.next (by omega) (by simp; omega)]; simp (disch := first | omega | (simp only [hNw, hPt]; omega)) only [gn0, gn1, gn2, gn3, gn4, gn5, gp0, gno, gpo]; assumption
  have o2_ : G2.get Ha.next = some (.cells (p.c xa) 30) := by rw [r4 Ha.next (by simp; omega) (fun m hm => absurd (ma.lt hm) (Nat.lt_irrefl _))]; simp (disch := first | omega | (simp only [hNw, hPt]; omega)) only [gn0, gn1, gn2, gn3, gn4, gn5, gp0, gno, gpo]; rfl
  have m2_ : Mine (W.next + 1) G2 v2 3 1 ((p.more (er0 % 20)).errs.map I) := by show Mine (W.next + 1) G2 v2 3 1 ((p.errs ++ [(er0 % 20)]).map I); rw [List.map_append]; exact r1
  obtain ⟨u1_, u2_⟩ := m2_.one
  have pv2 : v2.plain = true := lpl m2_.ints.len
  have r5n : Ha.next + 2 ≤ G2.next := by omega
  refine OkO.fieldAddr (o := 0) rfl (by kernel_rfl) rfl ?_
  refine OkO.store rfl rfl rfl (sAc (n := 1) (ag := false) (l := p.c v2) (by kernel_rfl) o2_ (by rw [u1_]; rfl) (by rw [u1_]; simp [atoms, u2_]) (by rw [u1_]; rfl)) ?_
  refine OkO.nil ?_
  refine Ok.seq ?_
  refine Ok.region ?_
  refine OkO.move rfl rfl ?_
  refine OkO.callE rfl rfl rfl rfl rfl (c22D (m + 5) rv rows _ (hRs.ext (hE _ (by (try dsimp only); repeat (first | exact r2 | apply Grow.new | (refine Grow.put ?_ _ (by first | omega | (simp only [hNw, hPt]; omega))))))) (by omega) ht4) ?_ -- "sackung/sackunglaw04.rows"
  rintro xr Hr ⟨qr, mr⟩
  have n2 := qr.ext.next
  try simp only [hNw, hPt] at n2
  have gg2 : Grow W Hr := Grow.ret (by (try dsimp only); repeat (first | exact r2 | apply Grow.new | (refine Grow.put ?_ _ (by first | omega | (simp only [hNw, hPt]; omega))))) qr
  have a2 : (Hr.get (W.next)).bind AObj.cs = some (p.c ev) := by rw [qr.ext.get _ (by first | omega | (simp only [hNw, hPt]; omega))]; first | assumption | (rw [gn0]; rfl) | (rw [get_put_eq] <;> rfl) | (simp (disch := first | omega | (simp only [hNw, hPt]; omega)) only [gn0, gn1, gn2, gn3, gn4, gn5, gp0, gno, gpo] <;> first | rfl | assumption | (rw [get_put_eq] <;> rfl))
  have b2 : (Hr.get (Ha.next)).bind AObj.cs = some (p.c v2) := by rw [qr.ext.get _ (by first | omega | (simp only [hNw, hPt]; omega))]; first | assumption | (rw [gn0]; rfl) | (rw [get_put_eq] <;> rfl) | (simp (disch := first | omega | (simp only [hNw, hPt]; omega)) only [gn0, gn1, gn2, gn3, gn4, gn5, gp0, gno, gpo] <;> first | rfl | assumption | (rw [get_put_eq] <;> rfl))
  obtain ⟨GK, exK, mK, nK1, nK2, ivK, aK, bK, exH⟩ : ∃ GK : Heap, Ext GK Hr ∧ RowsD GK.next Hr xr rows ∧ W.next + 1 ≤ GK.next ∧ Ha.next + 1 ≤ GK.next ∧ Ints GK v2 (p.more (er0 % 20)).errs ∧ (GK.get W.next).bind AObj.cs = some (p.c ev) ∧ (GK.get Ha.next).bind AObj.cs = some (p.c v2) ∧ Grow W GK := ⟨_, qr.ext, mr, by simp; omega, by simp; omega, (m2_.putO _ o2_ (fun a b c h => by cases h)).ints, (by rw [gpo _ _ _ _ (by omega)]; exact a2_), (by rw [gp0]; rfl), r2.put _ (by omega)⟩
  have plr : xr.plain = true := lpl mr.at.len
  have lr_ := mr.at.len
  refine OkO.assign rfl rfl ?_
  refine OkO.nil ?_
  refine Ok.seq ?_
  refine Ok.seq ?_
  refine Ok.region ?_
  refine OkO.assign rfl rfl ?_
  refine OkO.nil ?_
  refine Ok.block ?_
  refine Ok.loop (fun n s => ∃ i : Nat, n = rows.length - i ∧ i ≤ rows.length ∧ RowsD GK.next s.H xr (addR ws i rows) ∧ Has 8 [(1, rv), (3, wv), (4, .ptr W.next 0), (9, .ptr Ha.next 0), (10, xr), (11, I (i : Int))] s.T ∧ s.D = [] ∧ Grow W s.H ∧ Ext GK s.H) (rows.length) (by unfold loopFuel; omega)
    ⟨0, rfl, Nat.zero_le _, (by rw [addR_zero]; exact mK), Has.of (by kernel_rfl), rfl, (by (try dsimp only); repeat (first | exact gg2 | apply Grow.new | (refine Grow.put ?_ _ (by first | omega | (simp only [hNw, hPt]; omega))))), exK⟩ ?_
  rintro n ⟨T, D, G⟩ ⟨i, hn, hi, hRD, ⟨f_, hT⟩, hD, hg, exG⟩
  dsimp only at *
  subst hT hD
  have hgn := hg.next
  have exGn := exG.next
  have lrG := hRD.at.len
  rw [addR_len] at lrG
  refine Ok.seq ?_
  refine Ok.seq ?_
  refine Ok.region ?_
  refine OkO.move rfl rfl ?_
  refine OkO.move rfl rfl ?_
  refine OkO.builtin rfl rfl rfl (bln (by kernel_rfl) (by first | assumption | rfl)) ?_
  refine OkO.bin rfl rfl rfl (bin_lss _ _) ?_
  refine OkO.nil ?_
  refine Ok.cond rfl (fun h1 => ?_) (fun h1 => ?_)
  · -- yes h1
    have hlt : i < rows.length := by simpa using h1
    obtain ⟨vs, d1, d2, d3, d4⟩ := hRD
    rw [addR_len] at d1
    obtain ⟨vb, vn, hxr, d5, d6, d7, d8⟩ : ∃ vb vn, xr = .opn vb vn ∧ G.get vb = some (.opn vs 22 1) ∧ vs.length = vn * 1 ∧ GK.next ≤ vb ∧ vb < G.next := by (rcases d2 with ⟨_, h⟩ | h); (· rw [h] at d1; simp at d1; omega); (· exact h)
    subst hxr
    obtain ⟨x, hx⟩ : ∃ x, vs[i]? = some x := ⟨vs[i]'(by omega), List.getElem?_eq_getElem _⟩
    have mx := d3 i x _ hx (List.getElem?_eq_getElem (by rw [addR_len]; exact hlt))
    rw [addR_get hlt, if_neg (Nat.lt_irrefl i)] at mx
    have lx_ := mx.ints.len
    have px : x.plain = true := lpl lx_
    have d5c : (G.get vb).bind AObj.cs = some vs := by rw [d5]; rfl
    have hx1 : vs[0 + i * 1]? = some x := by simpa using hx
    have hx2_ : vs[i * 1]? = some x := by simpa using hx
    have hxl := hlens _ (List.getElem_mem hlt)
    have hwpos : 0 < ws.length := hwp
    have hwlt : i % ws.length < ws.length := Nat.mod_lt _ hwpos
    obtain ⟨wb, wo, wcs, w1, w2, w3, w5⟩ := hWs.at_ (i % ws.length) (U16c (ws[i % ws.length]'hwlt)) (by simp [hwlt])
    have w2G : (G.get wb).bind AObj.cs = some wcs := by rw [(hE _ hg).get _ w5]; exact w2
    have w5G : wb < G.next := by omega
    have w4 := seg_one w3
    have e9 : ws.getD (i % ws.length) 0 = ws[i % ws.length]'hwlt := by simp [List.getD, hwlt]
    have hwb := hw _ (List.getElem_mem hwlt)
    rw [← e9] at w4 hwb
    refine Ok.skip ?_
    refine Ok.seq ?_
    refine Ok.block ?_
    refine Ok.drawn [(0, true, []), (1, true, []), (2, true, []), (3, true, []), (4, true, []), (5, true, []), (6, true, []), (7, true, []), (8, true, []), (9, true, []), (10, true, []), (11, true, []), (12, true, []), (13, true, []), (14, true, []), (15, true, [12, 9, 5]), (16, false, [12, 9]), (17, true, []), (18, false, [])] (by kernel_rfl) ?_
    refine OkP.step ?_
    refine OkO.move rfl rfl ?_
    refine OkO.nil ⟨rfl, ?_⟩
    refine OkP.step ?_
    refine OkO.move rfl rfl ?_
    refine OkO.nil ⟨rfl, ?_⟩
    refine OkP.step ?_
    refine OkO.move rfl rfl ?_
    refine OkO.nil ⟨rfl, ?_⟩
    refine OkP.step ?_
    refine OkO.move rfl rfl ?_
    refine OkO.nil ⟨rfl, ?_⟩
    refine OkP.step ?_
    refine OkO.index (sz := 1) rfl rfl rfl (by kernel_rfl) (by first | assumption | rfl | exact slAt_slice (by omega) | exact slAt_opn (by omega)) ?_ -- index ('Go.Operand.tmp', 53) ('Go.Operand.tmp', 54)
    refine OkO.nil ⟨rfl, ?_⟩
    refine OkP.step ?_
    refine OkO.load rfl rfl (lda (n := 1) (by kernel_rfl) (by first | assumption | (simp (disch := first | omega | (simp only [hNw, hPt]; omega)) only [gn0, gn1, gn2, gn3, gn4, gn5, gp0, gno, gpo] <;> first | rfl | assumption | exact gp0 _ _ _ | exact gn0 _ _)) (by first | rfl | assumption)) ?_
    refine OkO.nil ⟨rfl, ?_⟩
    refine OkP.step ?_
    refine OkO.move rfl rfl ?_
    refine OkO.nil ⟨rfl, ?_⟩
    refine OkP.step ?_
    refine OkO.move rfl rfl ?_
    refine OkO.nil ⟨rfl, ?_⟩
    refine OkP.step ?_
    refine OkO.move rfl rfl ?_
    refine OkO.nil ⟨rfl, ?_⟩
    refine OkP.step ?_
    refine OkO.builtin rfl rfl rfl (bln (by kernel_rfl) (by first | assumption | rfl)) ?_
    refine OkO.nil ⟨rfl, ?_⟩
    refine OkP.step ?_
    refine OkO.bin rfl rfl rfl (bin_rem (by omega) (by omega)) ?_
    refine OkO.nil ⟨rfl, ?_⟩
    refine OkP.step ?_
    refine OkO.index (sz := 1) (n := (i % ws.length)) rfl rfl (congrArg (fun z => some (I z)) (by simp)) (by kernel_rfl) (by first | assumption | rfl | exact slAt_slice (by omega) | exact slAt_opn (by omega)) ?_ -- index ('Go.Operand.tmp', 57) ('Go.Operand.tmp', 61)
    refine OkO.nil ⟨rfl, ?_⟩
    refine OkP.step ?_
    refine OkO.load rfl rfl (lda (n := 1) (by kernel_rfl) (by first | assumption | (simp (disch := first | omega | (simp only [hNw, hPt]; omega)) only [gn0, gn1, gn2, gn3, gn4, gn5, gp0, gno, gpo] <;> first | rfl | assumption | exact gp0 _ _ _ | exact gn0 _ _)) (by first | rfl | assumption)) ?_
    refine OkO.nil ⟨rfl, ?_⟩
    refine OkP.step ?_
    refine OkO.convert (k := .i64) rfl (by kernel_rfl) rfl (wrapF_i64 (by omega) (by omega)) ?_
    refine OkO.nil ⟨rfl, ?_⟩
    refine OkP.step ?_
    refine OkO.bin rfl rfl rfl (bin_rem (by omega) (by omega)) ?_
    refine OkO.nil ⟨rfl, ?_⟩
    refine OkP.step ?_
    refine OkO.buildSlice (el := 3) (sz := 1) (z := [.int .i64 0]) rfl (by kernel_rfl) (by decide) rfl rfl ?_
    refine OkO.nil ⟨(sco (sld rfl rfl (lda (n := 1) (by kernel_rfl) (by first | assumption | (simp (disch := first | omega | (simp only [hNw, hPt]; omega)) only [gn0, gn1, gn2, gn3, gn4, gn5, gp0, gno, gpo] <;> first | rfl | assumption | exact gp0 _ _ _ | exact gn0 _ _)) (by first | rfl | assumption)) rfl (eqr _ (by first | rfl | exact lpl (by assumption) | (simp [AV.plain, AV.plains, AV.cells, pev, Pst.c])))) (sco (svl rfl (ecb rfl rfl (bln (by kernel_rfl) (by first | assumption | rfl))) rfl (eqr _ rfl)) (sco (sld rfl rfl (lda (n := 1) (by kernel_rfl) (by first | assumption | (simp (disch := first | omega | (simp only [hNw, hPt]; omega)) only [gn0, gn1, gn2, gn3, gn4, gn5, gp0, gno, gpo] <;> first | rfl | assumption | exact gp0 _ _ _ | exact gn0 _ _)) (by first | rfl | assumption)) rfl (eqr _ (by first | rfl | exact lpl (by assumption) | (simp [AV.plain, AV.plains, AV.cells, pev, Pst.c])))) rfl))), ?_⟩
    refine OkP.step ?_
    refine OkO.builtinE rfl rfl rfl (Mine.app2 (W := W) (k0 := GK.next) (t := 22) (u := 22) (sz := 1) (by_ := 8) (e := 3) (n := 1) (new := [I (wz ws i)]) (mx.to (Grow.toNew _ _)) (hg.new _) (by omega) (by simp; omega) (by kernel_rfl) (by kernel_rfl) (elems_new (n := 1) (sz := 1) rfl) rfl rfl (by rw [List.length_map]; omega) (by omega) (by omega) rfl) ?_
    rintro x2 G1 ⟨r1, r2, r3, r4, r5, r6⟩
    simp only [hNw] at r5 r6
    have keepG : ∀ j, j < G.next → (∀ m, x ≠ .opn j m) → G1.get j = G.get j := fun j hj hne => by rw [r4 j (by simp; omega) hne]; exact gno _ _ _ (by omega)
    have g1v : G1.get vb = some (.opn vs 22 1) := by
                rw [keepG vb d8 (fun m hm => ?_)]
                · exact d5
                · rcases mx with ⟨h, _⟩ | ⟨b9, n9, a1, a2, _⟩
                  · rw [h] at hm; cases hm
                  · rw [a1] at hm; cases hm; rw [d5] at a2; cases a2
    have g1c : (G1.get vb).bind AObj.cs = some vs := by rw [g1v]; rfl
    have w2H : (G1.get wb).bind AObj.cs = some wcs := by rw [(hE _ r2).get _ w5]; exact w2
    obtain ⟨y1_, y2_⟩ := r1.one
    refine OkO.nil ⟨(sco (sld rfl rfl (lda (n := 1) (by kernel_rfl) (by first | assumption | (simp (disch := first | omega | (simp only [hNw, hPt]; omega)) only [gn0, gn1, gn2, gn3, gn4, gn5, gp0, gno, gpo] <;> first | rfl | assumption | exact gp0 _ _ _ | exact gn0 _ _)) (by first | rfl | assumption)) rfl (eqr _ (by first | rfl | exact lpl (by assumption) | (simp [AV.plain, AV.plains, AV.cells, pev, Pst.c])))) (sco (svl rfl (ecb rfl rfl (bln (by kernel_rfl) (by first | assumption | rfl))) rfl (eqr _ rfl)) rfl)), ?_⟩
    refine OkP.step ?_
    refine OkO.index (sz := 1) rfl rfl rfl (by kernel_rfl) (by first | assumption | rfl | exact slAt_slice (by omega) | exact slAt_opn (by omega)) ?_ -- index ('Go.Operand.tmp', 51) ('Go.Operand.tmp', 52)
    refine OkO.nil ⟨rfl, ?_⟩
    refine OkP.step ?_
    refine OkO.store rfl rfl rfl (storeAt_opn (n := 1) (ag := false) (l := vs.set i x2) (by kernel_rfl) g1v (by rw [y1_]; rfl) (by rw [y1_]; simp [atoms, y2_]) (by rw [y1_, spl_one (by omega)]; simp)) ?_
    refine OkO.nil ⟨rfl, ?_⟩
    refine OkP.nil ?_
    refine Ok.region ?_
    refine OkO.move rfl rfl ?_
    refine OkO.bin rfl rfl rfl (bin_add (by omega) (by omega)) ?_
    refine OkO.assign rfl rfl ?_
    refine OkO.nil ?_
    refine ⟨rows.length - (i + 1), by omega, i + 1, rfl, by omega, ?_, Has.of (by kernel_rfl), rfl, r2.put _ (by omega), ⟨by (simp; omega), fun j hj => ?_⟩⟩
    · obtain ⟨m9, hm9⟩ := r6
      rw [addR_succ hlt]
      refine RowsD.swap (x2 := x2) (r2 := rows[i] ++ [wz ws i]) (by rw [addR_len]; exact d1) (.inr ⟨vb, vn, rfl, d5, d6, d7, d8⟩) d3 d4 (by rw [addR_len]; exact hlt) hx ?_ (by omega) (by omega) keepG rfl rfl
      rw [List.map_append]
      exact r1.up hm9 (by omega)
    · rw [gpo _ _ _ _ (by omega), r3.get j hj (by simp; omega), gno _ _ _ (by omega)]
      exact exG.get j hj
  · -- no h1
    have hge : i = rows.length := by (have h9 : ¬ i < rows.length := by simpa using h1); omega
    subst hge
    have hDat := hRD.at
    have e0 : (G.get W.next).bind AObj.cs = some (p.c ev) := by rw [exG.get _ (by omega)]; exact aK
    have f0 : (G.get Ha.next).bind AObj.cs = some (p.c v2) := by rw [exG.get _ (by omega)]; exact bK
    have ivG := ivK.ext exG
    refine Ok.exit ?_
    refine Ok.seq ?_
    refine Ok.region ?_
    refine OkO.load rfl rfl (ldg (n := 6) (by kernel_rfl) (by first | assumption | (simp (disch := first | omega | (simp only [hNw, hPt]; omega)) only [gn0, gn1, gn2, gn3, gn4, gn5, gp0, gno, gpo] <;> first | rfl | assumption | exact gp0 _ _ _ | exact gn0 _ _)) (by first | rfl | assumption)) ?_
    refine OkO.callE rfl rfl rfl rfl rfl (c20 (m + 5) ev p _ (hV.ext (hE _ (by (try dsimp only); repeat (first | exact hg | apply Grow.new | (refine Grow.put ?_ _ (by first | omega | (simp only [hNw, hPt]; omega))))))) (by omega)) ?_ -- "sackung/sackunglaw04.Post"
    rintro _ Hc ⟨xc, rfl, qc, mc⟩
    have n1 := qc.ext.next
    try simp only [hNw, hPt] at n1
    have gg1 : Grow W Hc := Grow.ret (by (try dsimp only); repeat (first | exact hg | apply Grow.new | (refine Grow.put ?_ _ (by first | omega | (simp only [hNw, hPt]; omega))))) qc
    have e1 : (Hc.get (W.next)).bind AObj.cs = some (p.c ev) := by rw [qc.ext.get _ (by first | omega | (simp only [hNw, hPt]; omega))]; first | assumption | (rw [gn0]; rfl) | (rw [get_put_eq] <;> rfl) | (simp (disch := first | omega | (simp only [hNw, hPt]; omega)) only [gn0, gn1, gn2, gn3, gn4, gn5, gp0, gno, gpo] <;> first | rfl | assumption | (rw [get_put_eq] <;> rfl))
    have f1 : (Hc.get (Ha.next)).bind AObj.cs = some (p.c v2) := by rw [qc.ext.get _ (by first | omega | (simp only [hNw, hPt]; omega))]; first | assumption | (rw [gn0]; rfl) | (rw [get_put_eq] <;> rfl) | (simp (disch := first | omega | (simp only [hNw, hPt]; omega)) only [gn0, gn1, gn2, gn3, gn4, gn5, gp0, gno, gpo] <;> first | rfl | assumption | (rw [get_put_eq] <;> rfl))
    have exG1 : Ext G Hc := Ext.trans (by (try dsimp only); repeat (first | exact Ext.refl _ | exact Ext.refl _ | apply Ext.new | (refine Ext.put ?_ _ (by first | omega | (simp only [hNw, hPt]; omega))))) qc.ext
    have ic := mc.ints
    have plc : xc.plain = true := lpl ic.len
    have oc := mc.one
    refine OkO.move rfl rfl ?_
    refine OkO.callE rfl rfl rfl rfl rfl (c22 (m + 5) rv rows _ (hRs.ext (hE _ (by (try dsimp only); repeat (first | exact gg1 | apply Grow.new | (refine Grow.put ?_ _ (by first | omega | (simp only [hNw, hPt]; omega))))))) (by omega) ht4) ?_ -- "sackung/sackunglaw04.rows"
    rintro xd Hd ⟨qd, md⟩
    have n2 := qd.ext.next
    try simp only [hNw, hPt] at n2
    have gg2 : Grow W Hd := Grow.ret (by (try dsimp only); repeat (first | exact gg1 | apply Grow.new | (refine Grow.put ?_ _ (by first | omega | (simp only [hNw, hPt]; omega))))) qd
    have e2 : (Hd.get (W.next)).bind AObj.cs = some (p.c ev) := by rw [qd.ext.get _ (by first | omega | (simp only [hNw, hPt]; omega))]; first | assumption | (rw [gn0]; rfl) | (rw [get_put_eq] <;> rfl) | (simp (disch := first | omega | (simp only [hNw, hPt]; omega)) only [gn0, gn1, gn2, gn3, gn4, gn5, gp0, gno, gpo] <;> first | rfl | assumption | (rw [get_put_eq] <;> rfl))
    have f2 : (Hd.get (Ha.next)).bind AObj.cs = some (p.c v2) := by rw [qd.ext.get _ (by first | omega | (simp only [hNw, hPt]; omega))]; first | assumption | (rw [gn0]; rfl) | (rw [get_put_eq] <;> rfl) | (simp (disch := first | omega | (simp only [hNw, hPt]; omega)) only [gn0, gn1, gn2, gn3, gn4, gn5, gp0, gno, gpo] <;> first | rfl | assumption | (rw [get_put_eq] <;> rfl))
    have exG2 : Ext G Hd := Ext.trans (by (try dsimp only); repeat (first | exact exG1 | exact Ext.refl _ | apply Ext.new | (refine Ext.put ?_ _ (by first | omega | (simp only [hNw, hPt]; omega))))) qd.ext
    have exHc2 : Ext Hc Hd := Ext.trans (by (try dsimp only); repeat (first | exact Ext.refl _ | exact Ext.refl _ | apply Ext.new | (refine Ext.put ?_ _ (by first | omega | (simp only [hNw, hPt]; omega))))) qd.ext
    have id := md.at
    have pld : xd.plain = true := lpl id.len
    refine OkO.callE rfl rfl rfl rfl rfl (c21Y (m + 0) xc xd p rows _ (ic.ext (by (try dsimp only); repeat (first | exact exHc2 | exact Ext.refl _ | apply Ext.new | (refine Ext.put ?_ _ (by first | omega | (simp only [hNw, hPt]; omega)))))) (id.ext (by (try dsimp only); repeat (first | exact Ext.refl _ | exact Ext.refl _ | apply Ext.new | (refine Ext.put ?_ _ (by first | omega | (simp only [hNw, hPt]; omega)))))) (by omega) (by omega) ht4 hf hposs0) ?_ -- "sackung/alarm.Levels"
    rintro _ Hl ⟨xl, rfl, ql, ml⟩
    have n3 := ql.ext.next
    try simp only [hNw, hPt] at n3
    have gg3 : Grow W Hl := Grow.ret (by (try dsimp only); repeat (first | exact gg2 | apply Grow.new | (refine Grow.put ?_ _ (by first | omega | (simp only [hNw, hPt]; omega))))) ql
    have e3 : (Hl.get (W.next)).bind AObj.cs = some (p.c ev) := by rw [ql.ext.get _ (by first | omega | (simp only [hNw, hPt]; omega))]; first | assumption | (rw [gn0]; rfl) | (rw [get_put_eq] <;> rfl) | (simp (disch := first | omega | (simp only [hNw, hPt]; omega)) only [gn0, gn1, gn2, gn3, gn4, gn5, gp0, gno, gpo] <;> first | rfl | assumption | (rw [get_put_eq] <;> rfl))
    have f3 : (Hl.get (Ha.next)).bind AObj.cs = some (p.c v2) := by rw [ql.ext.get _ (by first | omega | (simp only [hNw, hPt]; omega))]; first | assumption | (rw [gn0]; rfl) | (rw [get_put_eq] <;> rfl) | (simp (disch := first | omega | (simp only [hNw, hPt]; omega)) only [gn0, gn1, gn2, gn3, gn4, gn5, gp0, gno, gpo] <;> first | rfl | assumption | (rw [get_put_eq] <;> rfl))
    have exG3 : Ext G Hl := Ext.trans (by (try dsimp only); repeat (first | exact exG2 | exact Ext.refl _ | apply Ext.new | (refine Ext.put ?_ _ (by first | omega | (simp only [hNw, hPt]; omega))))) ql.ext
    have exHc3 : Ext Hc Hl := Ext.trans (by (try dsimp only); repeat (first | exact exHc2 | exact Ext.refl _ | apply Ext.new | (refine Ext.put ?_ _ (by first | omega | (simp only [hNw, hPt]; omega))))) ql.ext
    have exHd3 : Ext Hd Hl := Ext.trans (by (try dsimp only); repeat (first | exact Ext.refl _ | exact Ext.refl _ | apply Ext.new | (refine Ext.put ?_ _ (by first | omega | (simp only [hNw, hPt]; omega))))) ql.ext
    have hlr1 := ml.states
    have hll1 : lenOf xl = some rows.length := by simpa using hlr1.len
    refine OkO.move rfl rfl ?_
    refine OkO.extract rfl rfl rfl ?_
    refine OkO.extract rfl rfl rfl ?_
    refine OkO.assign rfl rfl ?_
    refine OkO.assign rfl rfl ?_
    refine OkO.nil ?_
    refine Ok.seq ?_
    refine Ok.region ?_
    refine OkO.load rfl rfl (ldg (n := 6) (by kernel_rfl) (by first | assumption | (simp (disch := first | omega | (simp only [hNw, hPt]; omega)) only [gn0, gn1, gn2, gn3, gn4, gn5, gp0, gno, gpo] <;> first | rfl | assumption | exact gp0 _ _ _ | exact gn0 _ _)) (by first | rfl | assumption)) ?_
    refine OkO.move rfl rfl ?_
    refine OkO.callE rfl rfl rfl rfl rfl (c21Y (m + 0) v2 xr (p.more (er0 % 20)) (addR ws rows.length rows) _ (ivG.ext (by (try dsimp only); repeat (first | exact exG3 | exact Ext.refl _ | apply Ext.new | (refine Ext.put ?_ _ (by first | omega | (simp only [hNw, hPt]; omega)))))) (hDat.ext (by (try dsimp only); repeat (first | exact exG3 | exact Ext.refl _ | apply Ext.new | (refine Ext.put ?_ _ (by first | omega | (simp only [hNw, hPt]; omega)))))) (by omega) (by rw [addR_len]; omega) ht4' hf' hposs1) ?_ -- "sackung/alarm.Levels"
    rintro _ Hk ⟨xk, rfl, qk, mk⟩
    have n4 := qk.ext.next
    try simp only [hNw, hPt] at n4
    have gg4 : Grow W Hk := Grow.ret (by (try dsimp only); repeat (first | exact gg3 | apply Grow.new | (refine Grow.put ?_ _ (by first | omega | (simp only [hNw, hPt]; omega))))) qk
    have e4 : (Hk.get (W.next)).bind AObj.cs = some (p.c ev) := by rw [qk.ext.get _ (by first | omega | (simp only [hNw, hPt]; omega))]; first | assumption | (rw [gn0]; rfl) | (rw [get_put_eq] <;> rfl) | (simp (disch := first | omega | (simp only [hNw, hPt]; omega)) only [gn0, gn1, gn2, gn3, gn4, gn5, gp0, gno, gpo] <;> first | rfl | assumption | (rw [get_put_eq] <;> rfl))
    have f4 : (Hk.get (Ha.next)).bind AObj.cs = some (p.c v2) := by rw [qk.ext.get _ (by first | omega | (simp only [hNw, hPt]; omega))]; first | assumption | (rw [gn0]; rfl) | (rw [get_put_eq] <;> rfl) | (simp (disch := first | omega | (simp only [hNw, hPt]; omega)) only [gn0, gn1, gn2, gn3, gn4, gn5, gp0, gno, gpo] <;> first | rfl | assumption | (rw [get_put_eq] <;> rfl))
    have exG4 : Ext G Hk := Ext.trans (by (try dsimp only); repeat (first | exact exG3 | exact Ext.refl _ | apply Ext.new | (refine Ext.put ?_ _ (by first | omega | (simp only [hNw, hPt]; omega))))) qk.ext
    have exHc4 : Ext Hc Hk := Ext.trans (by (try dsimp only); repeat (first | exact exHc3 | exact Ext.refl _ | apply Ext.new | (refine Ext.put ?_ _ (by first | omega | (simp only [hNw, hPt]; omega))))) qk.ext
    have exHd4 : Ext Hd Hk := Ext.trans (by (try dsimp only); repeat (first | exact exHd3 | exact Ext.refl _ | apply Ext.new | (refine Ext.put ?_ _ (by first | omega | (simp only [hNw, hPt]; omega))))) qk.ext
    have exHl4 : Ext Hl Hk := Ext.trans (by (try dsimp only); repeat (first | exact Ext.refl _ | exact Ext.refl _ | apply Ext.new | (refine Ext.put ?_ _ (by first | omega | (simp only [hNw, hPt]; omega))))) qk.ext
    have hlr2 := mk.states
    have hll2 : lenOf xk = some rows.length := by (have h9 := hlr2.len); simpa [addR_len] using h9
    refine OkO.move rfl rfl ?_
    refine OkO.extract rfl rfl rfl ?_
    refine OkO.extract rfl rfl rfl ?_
    refine OkO.assign rfl rfl ?_
    refine OkO.assign rfl rfl ?_
    refine OkO.nil ?_
    refine Ok.seq ?_
    refine Ok.seq ?_
    refine Ok.region ?_
    refine OkO.move rfl rfl ?_
    refine OkO.bin rfl rfl rfl ((bin_neq _ _).trans (congrArg (fun b => some (AV.bool b)) (show _ = false from (by rfl)))) ?_
    refine OkO.nil ?_
    refine Ok.condF rfl ?_
    refine Ok.skip ?_
    refine Ok.seq ?_
    refine Ok.seq ?_
    refine Ok.region ?_
    refine OkO.move rfl rfl ?_
    refine OkO.bin rfl rfl rfl ((bin_neq _ _).trans (congrArg (fun b => some (AV.bool b)) (show _ = false from (by rfl)))) ?_
    refine OkO.move rfl rfl ?_
    refine OkO.move rfl rfl ?_
    refine OkO.builtin rfl rfl rfl (bln (by kernel_rfl) (by first | assumption | rfl)) ?_
    refine OkO.move rfl rfl ?_
    refine OkO.builtin rfl rfl rfl (bln (by kernel_rfl) (by first | assumption | rfl)) ?_
    refine OkO.bin rfl rfl rfl ((bin_neq _ _).trans (congrArg (fun b => some (AV.bool b)) (show _ = false from (by simp)))) ?_
    refine OkO.pick (b := false) rfl rfl nofun (fun _ => rfl) ?_
    refine OkO.move rfl rfl ?_
    refine OkO.move rfl rfl ?_
    refine OkO.builtin rfl rfl rfl (bln (by kernel_rfl) (by first | assumption | rfl)) ?_
    refine OkO.move rfl rfl ?_
    refine OkO.builtin rfl rfl rfl (bln (by kernel_rfl) (by first | assumption | rfl)) ?_
    refine OkO.bin rfl rfl rfl ((bin_neq _ _).trans (congrArg (fun b => some (AV.bool b)) (show _ = false from (by simp)))) ?_
    refine OkO.pick (b := false) rfl rfl nofun (fun _ => rfl) ?_
    refine OkO.nil ?_
    refine Ok.condF rfl ?_
    refine Ok.skip ?_
    refine Ok.seq ?_
    refine Ok.seq ?_
    refine Ok.region ?_
    refine OkO.assign rfl rfl ?_
    refine OkO.nil ?_
    refine Ok.block ?_
    refine Ok.loop (fun n s => ∃ i : Nat, n = rows.length - i ∧ i ≤ rows.length ∧ Has 8 [(4, .ptr W.next 0), (12, xl), (14, xk), (16, I (i : Int))] s.T ∧ s.D = [] ∧ Hk = s.H) (rows.length) (by unfold loopFuel; omega)
      ⟨0, rfl, Nat.zero_le _, Has.of (by kernel_rfl), rfl, rfl⟩ ?_
    rintro n ⟨T, D, G⟩ ⟨i, hn, hi, ⟨f2_, hT⟩, hD, hg9⟩
    dsimp only at *
    subst hT hD
    have hgn := hg.next
    subst hg9
    refine Ok.seq ?_
    refine Ok.seq ?_
    refine Ok.region ?_
    refine OkO.move rfl rfl ?_
    refine OkO.move rfl rfl ?_
    refine OkO.builtin rfl rfl rfl (bln (by kernel_rfl) (by first | assumption | rfl)) ?_
    refine OkO.bin rfl rfl rfl (bin_lss _ _) ?_
    refine OkO.nil ?_
    refine Ok.cond rfl (fun h2 => ?_) (fun h2 => ?_)
    · -- yes h2
      have hlt : i < rows.length := by simpa using h2
      obtain ⟨lb, lo, lcs, l1, l2, l3, l4⟩ := (hlr1.ext (by (try dsimp only); repeat (first | exact exHl4 | exact Ext.refl _ | apply Ext.new | (refine Ext.put ?_ _ (by first | omega | (simp only [hNw, hPt]; omega)))))).at_ i (stc p rows i) (by simp [hlt])
      obtain ⟨kb, ko, kcs, k1, k2, k3, k4⟩ := (hlr2.ext (by (try dsimp only); repeat (first | exact Ext.refl _ | exact Ext.refl _ | apply Ext.new | (refine Ext.put ?_ _ (by first | omega | (simp only [hNw, hPt]; omega)))))).at_ i (stc (p.more (er0 % 20)) (addR ws rows.length rows) i) (by simp [hlt, addR_len])
      have lz0 : lcs[lo + 0]? = some (I (mnL (spdL p rows i (p.errs.length + 1)))) := seg_get l3 0 (by omega)
      have lz1 : lcs[lo + 1]? = some (I (mxL (spdL p rows i (p.errs.length + 1)))) := seg_get l3 1 (by omega)
      have lz2 : lcs[lo + 2]? = some (.int .u8 (levelI p (mxL (spdL p rows i (p.errs.length + 1))))) := seg_get l3 2 (by omega)
      have kz0 : kcs[ko + 0]? = some (I (mnL (spdL (p.more (er0 % 20)) (addR ws rows.length rows) i ((p.more (er0 % 20)).errs.length + 1)))) := seg_get k3 0 (by omega)
      have kz1 : kcs[ko + 1]? = some (I (mxL (spdL (p.more (er0 % 20)) (addR ws rows.length rows) i ((p.more (er0 % 20)).errs.length + 1)))) := seg_get k3 1 (by omega)
      have kz2 : kcs[ko + 2]? = some (.int .u8 (levelI (p.more (er0 % 20)) (mxL (spdL (p.more (er0 % 20)) (addR ws rows.length rows) i ((p.more (er0 % 20)).errs.length + 1))))) := seg_get k3 2 (by omega)
      have hne1 : spdL p rows i (p.errs.length + 1) ≠ [] := by (have h9 := spdL_all (possB_mono hposs0 (show i + 1 ≤ rows.length by omega)) (Nat.lt_succ_self i)); intro e; rw [e] at h9; simp at h9
      have hne2 : spdL (p.more (er0 % 20)) (addR ws rows.length rows) i ((p.more (er0 % 20)).errs.length + 1) ≠ [] := by (have h9 := spdL_all (possB_mono hposs1 (show i + 1 ≤ (addR ws rows.length rows).length by rw [addR_len]; omega)) (Nat.lt_succ_self i)); intro e; rw [e] at h9; simp at h9
      have b1 := more_span hlens hlt (mnL_mem hne2)
      have b2 := more_span hlens hlt (mxL_mem hne2)
      have c1_ := spdL_bd (mxL_mem hne1)
      have c2_ := spdL_bd (mxL_mem hne2)
      have b3 : levelI (p.more (er0 % 20)) (mxL (spdL (p.more (er0 % 20)) (addR ws rows.length rows) i ((p.more (er0 % 20)).errs.length + 1))) ≤ levelI p (mxL (spdL p rows i (p.errs.length + 1))) := level_mono (p := p) hpg.1 b2.2 (by omega) (by omega)
      refine Ok.skip ?_
      refine Ok.seq ?_
      refine Ok.block ?_
      refine Ok.seq ?_
      refine Ok.drawn [(0, true, []), (1, true, []), (2, true, []), (3, true, []), (4, true, []), (5, true, []), (6, true, []), (7, true, []), (8, true, []), (9, true, []), (10, true, []), (11, true, []), (12, true, []), (13, true, []), (14, true, []), (15, true, []), (16, true, []), (17, true, []), (18, true, []), (19, true, []), (20, true, []), (21, true, []), (22, true, []), (23, true, []), (24, true, []), (25, true, []), (26, true, []), (27, true, []), (28, true, []), (29, true, []), (30, true, []), (31, true, []), (32, true, []), (33, true, []), (34, true, []), (35, true, []), (36, true, [])] (by kernel_rfl) ?_
      refine OkP.step ?_
      refine OkO.move rfl rfl ?_
      refine OkO.nil ⟨rfl, ?_⟩
      refine OkP.step ?_
      refine OkO.move rfl rfl ?_
      refine OkO.nil ⟨rfl, ?_⟩
      refine OkP.step ?_
      refine OkO.index (sz := 3) rfl rfl rfl (by kernel_rfl) (by first | assumption | rfl | exact slAt_slice (by omega) | exact slAt_opn (by omega)) ?_ -- index ('Go.Operand.tmp', 120) ('Go.Operand.tmp', 121)
      refine OkO.nil ⟨rfl, ?_⟩
      refine OkP.step ?_
      refine OkO.fieldAddr (o := 0) rfl (by kernel_rfl) rfl ?_
      refine OkO.nil ⟨rfl, ?_⟩
      refine OkP.step ?_
      refine OkO.load rfl rfl (lda (n := 1) (by kernel_rfl) (by first | assumption | (simp (disch := first | omega | (simp only [hNw, hPt]; omega)) only [gn0, gn1, gn2, gn3, gn4, gn5, gp0, gno, gpo] <;> first | rfl | assumption | exact gp0 _ _ _ | exact gn0 _ _)) (by first | rfl | assumption)) ?_
      refine OkO.nil ⟨rfl, ?_⟩
      refine OkP.step ?_
      refine OkO.move rfl rfl ?_
      refine OkO.nil ⟨rfl, ?_⟩
      refine OkP.step ?_
      refine OkO.move rfl rfl ?_
      refine OkO.nil ⟨rfl, ?_⟩
      refine OkP.step ?_
      refine OkO.index (sz := 3) rfl rfl rfl (by kernel_rfl) (by first | assumption | rfl | exact slAt_slice (by omega) | exact slAt_opn (by omega)) ?_ -- index ('Go.Operand.tmp', 125) ('Go.Operand.tmp', 126)
      refine OkO.nil ⟨rfl, ?_⟩
      refine OkP.step ?_
      refine OkO.fieldAddr (o := 0) rfl (by kernel_rfl) rfl ?_
      refine OkO.nil ⟨rfl, ?_⟩
      refine OkP.step ?_
      refine OkO.load rfl rfl (lda (n := 1) (by kernel_rfl) (by first | assumption | (simp (disch := first | omega | (simp only [hNw, hPt]; omega)) only [gn0, gn1, gn2, gn3, gn4, gn5, gp0, gno, gpo] <;> first | rfl | assumption | exact gp0 _ _ _ | exact gn0 _ _)) (by first | rfl | assumption)) ?_
      refine OkO.nil ⟨rfl, ?_⟩
      refine OkP.step ?_
      refine OkO.bin rfl rfl rfl (bin_lss _ _) ?_
      refine OkO.nil ⟨rfl, ?_⟩
      refine OkP.step ?_
      refine OkO.move rfl rfl ?_
      refine OkO.nil ⟨rfl, ?_⟩
      refine OkP.split (d := 131) rfl (fun g3 => ?_) (fun g3 => ?_)
      · -- true g3
        exfalso
        have h9 : mnL (spdL (p.more (er0 % 20)) (addR ws rows.length rows) i ((p.more (er0 % 20)).errs.length + 1)) < mnL (spdL p rows i (p.errs.length + 1)) := by simpa using g3
        omega
      · -- false g3
        refine OkP.step ?_
        refine OkO.move rfl rfl ?_
        refine OkO.nil ⟨rfl, ?_⟩
        refine OkP.step ?_
        refine OkO.move rfl rfl ?_
        refine OkO.nil ⟨rfl, ?_⟩
        refine OkP.step ?_
        refine OkO.index (sz := 3) rfl rfl rfl (by kernel_rfl) (by first | assumption | rfl | exact slAt_slice (by omega) | exact slAt_opn (by omega)) ?_ -- index ('Go.Operand.tmp', 132) ('Go.Operand.tmp', 133)
        refine OkO.nil ⟨rfl, ?_⟩
        refine OkP.step ?_
        refine OkO.fieldAddr (o := 1) rfl (by kernel_rfl) rfl ?_
        refine OkO.nil ⟨rfl, ?_⟩
        refine OkP.step ?_
        refine OkO.load rfl rfl (lda (n := 1) (by kernel_rfl) (by first | assumption | (simp (disch := first | omega | (simp only [hNw, hPt]; omega)) only [gn0, gn1, gn2, gn3, gn4, gn5, gp0, gno, gpo] <;> first | rfl | assumption | exact gp0 _ _ _ | exact gn0 _ _)) (by first | rfl | assumption)) ?_
        refine OkO.nil ⟨rfl, ?_⟩
        refine OkP.step ?_
        refine OkO.move rfl rfl ?_
        refine OkO.nil ⟨rfl, ?_⟩
        refine OkP.step ?_
        refine OkO.move rfl rfl ?_
        refine OkO.nil ⟨rfl, ?_⟩
        refine OkP.step ?_
        refine OkO.index (sz := 3) rfl rfl rfl (by kernel_rfl) (by first | assumption | rfl | exact slAt_slice (by omega) | exact slAt_opn (by omega)) ?_ -- index ('Go.Operand.tmp', 137) ('Go.Operand.tmp', 138)
        refine OkO.nil ⟨rfl, ?_⟩
        refine OkP.step ?_
        refine OkO.fieldAddr (o := 1) rfl (by kernel_rfl) rfl ?_
        refine OkO.nil ⟨rfl, ?_⟩
        refine OkP.step ?_
        refine OkO.load rfl rfl (lda (n := 1) (by kernel_rfl) (by first | assumption | (simp (disch := first | omega | (simp only [hNw, hPt]; omega)) only [gn0, gn1, gn2, gn3, gn4, gn5, gp0, gno, gpo] <;> first | rfl | assumption | exact gp0 _ _ _ | exact gn0 _ _)) (by first | rfl | assumption)) ?_
        refine OkO.nil ⟨rfl, ?_⟩
        refine OkP.step ?_
        refine OkO.bin rfl rfl rfl (bin_gtr _ _) ?_
        refine OkO.nil ⟨rfl, ?_⟩
        refine OkP.step ?_
        refine OkO.pick (b := false) rfl rfl nofun (fun _ => rfl) ?_
        refine OkO.nil ⟨rfl, ?_⟩
        refine OkP.step ?_
        refine OkO.move rfl rfl ?_
        refine OkO.nil ⟨rfl, ?_⟩
        refine OkP.split (d := 144) rfl (fun g4 => ?_) (fun g4 => ?_)
        · -- true g4
          exfalso
          have h9 : mxL (spdL p rows i (p.errs.length + 1)) < mxL (spdL (p.more (er0 % 20)) (addR ws rows.length rows) i ((p.more (er0 % 20)).errs.length + 1)) := by simpa using g4
          omega
        · -- false g4
          refine OkP.step ?_
          refine OkO.move rfl rfl ?_
          refine OkO.nil ⟨rfl, ?_⟩
          refine OkP.step ?_
          refine OkO.move rfl rfl ?_
          refine OkO.nil ⟨rfl, ?_⟩
          refine OkP.step ?_
          refine OkO.index (sz := 3) rfl rfl rfl (by kernel_rfl) (by first | assumption | rfl | exact slAt_slice (by omega) | exact slAt_opn (by omega)) ?_ -- index ('Go.Operand.tmp', 145) ('Go.Operand.tmp', 146)
          refine OkO.nil ⟨rfl, ?_⟩
          refine OkP.step ?_
          refine OkO.fieldAddr (o := 2) rfl (by kernel_rfl) rfl ?_
          refine OkO.nil ⟨rfl, ?_⟩
          refine OkP.step ?_
          refine OkO.load rfl rfl (lda (n := 1) (by kernel_rfl) (by first | assumption | (simp (disch := first | omega | (simp only [hNw, hPt]; omega)) only [gn0, gn1, gn2, gn3, gn4, gn5, gp0, gno, gpo] <;> first | rfl | assumption | exact gp0 _ _ _ | exact gn0 _ _)) (by first | rfl | assumption)) ?_
          refine OkO.nil ⟨rfl, ?_⟩
          refine OkP.step ?_
          refine OkO.move rfl rfl ?_
          refine OkO.nil ⟨rfl, ?_⟩
          refine OkP.step ?_
          refine OkO.move rfl rfl ?_
          refine OkO.nil ⟨rfl, ?_⟩
          refine OkP.step ?_
          refine OkO.index (sz := 3) rfl rfl rfl (by kernel_rfl) (by first | assumption | rfl | exact slAt_slice (by omega) | exact slAt_opn (by omega)) ?_ -- index ('Go.Operand.tmp', 150) ('Go.Operand.tmp', 151)
          refine OkO.nil ⟨rfl, ?_⟩
          refine OkP.step ?_
          refine OkO.fieldAddr (o := 2) rfl (by kernel_rfl) rfl ?_
          refine OkO.nil ⟨rfl, ?_⟩
          refine OkP.step ?_
          refine OkO.load rfl rfl (lda (n := 1) (by kernel_rfl) (by first | assumption | (simp (disch := first | omega | (simp only [hNw, hPt]; omega)) only [gn0, gn1, gn2, gn3, gn4, gn5, gp0, gno, gpo] <;> first | rfl | assumption | exact gp0 _ _ _ | exact gn0 _ _)) (by first | rfl | assumption)) ?_
          refine OkO.nil ⟨rfl, ?_⟩
          refine OkP.step ?_
          refine OkO.bin rfl rfl rfl (bin_gtrU8 _ _) ?_
          refine OkO.nil ⟨rfl, ?_⟩
          refine OkP.step ?_
          refine OkO.pick (b := false) rfl rfl nofun (fun _ => rfl) ?_
          refine OkO.nil ⟨rfl, ?_⟩
          refine OkP.nil ?_
          refine Ok.cond rfl (fun h5 => ?_) (fun h5 => ?_)
          · -- yes h5
            exfalso
            have h9 : levelI p (mxL (spdL p rows i (p.errs.length + 1))) < levelI (p.more (er0 % 20)) (mxL (spdL (p.more (er0 % 20)) (addR ws rows.length rows) i ((p.more (er0 % 20)).errs.length + 1))) := by simpa using h5
            omega
          · -- no h5
            refine Ok.skip ?_
            refine Ok.region ?_
            refine OkO.move rfl rfl ?_
            refine OkO.bin rfl rfl rfl (bin_add (by omega) (by omega)) ?_
            refine OkO.assign rfl rfl ?_
            refine OkO.nil ?_
            refine ⟨rows.length - (i + 1), by omega, i + 1, rfl, by omega, Has.of (by kernel_rfl), rfl, rfl⟩
    · -- no h2
      refine Ok.exit ?_
      refine Ok.seq ?_
      refine Ok.region ?_
      refine OkO.callV rfl rfl rfl rfl rfl (rfl) ?_ -- "sackung/sackunglaw04.awake"
      refine OkO.assign rfl rfl ?_
      refine OkO.nil ?_
      refine Ok.ret ⟨.inr rfl, ?_⟩
      exact back_flat rfl rfl rfl (by rw [← hW]; exact (by (try dsimp only); repeat (first | exact gg4 | apply Grow.new | (refine Grow.put ?_ _ (by first | omega | (simp only [hNw, hPt]; omega))))))
theorem c13FY (m : Nat) (ev rv wv : AV) (p : Pst) (rows : List (List Int)) (er0 : Int) (ws : List Int) (H : Heap) (hV : Ints H ev p.errs) (hRs : LstAt H rv rows) (hWs : Row H wv 1 (ws.map U16c)) (hw : ∀ x ∈ ws, 0 ≤ x ∧ x ≤ 65535) (her0 : 0 ≤ er0 ∧ er0 ≤ 65535) (hrd : (thinB p rows && decide (faultE p rows = 0)) = true) (hp9 : p.errs.length ≤ 9) (hwp : 0 < ws.length) (hposs0 : possB p rows rows.length = true) (hposs1 : possB (p.more (er0 % 20)) (addR ws rows.length rows) (addR ws rows.length rows).length = false) : RR (m + 8) (.fn 13 [.agg (p.c ev), rv, .int .u16 er0, wv]) H = some (.bool true, H) := by
  refine (R_fn _ _ _ _ _).trans ?_
  refine fn_ok Try.func13 rfl rfl (by kernel_rfl) (by kernel_rfl) ?_
  obtain ⟨W, hW⟩ : ∃ W : Heap, W = ⟨H.t, H.next, H.next⟩ := ⟨_, rfl⟩
  have hg : ∀ n, W.get n = H.get n := fun n => by rw [hW]; rfl
  have hN : W.next = H.next := by rw [hW]
  have hE : ∀ G, Grow W G → Ext H G := fun G g => ⟨by rw [← hN]; exact g.next, fun n k => by rw [g.get n (by rw [hN]; exact k), hg]⟩
  have hG : Grow W W := Grow.refl (by rw [hW]; exact Nat.le_refl _)
  rw [← hW]
  have pev : ev.plain = true := lpl hV.len
  have hel := hV.len
  have hrlen := hRs.len
  have pwv : wv.plain = true := lpl hWs.len
  have hwl := hWs.len
  rw [List.length_map] at hwl
  have hth : thinB p rows = true := by rw [Bool.and_eq_true] at hrd; exact hrd.1
  have hf : faultE p rows = 0 := by rw [Bool.and_eq_true, decide_eq_true_eq] at hrd; exact hrd.2
  obtain ⟨ht1, ht2, ht3⟩ := thin_facts hth
  have ht4 : ∀ r ∈ rows, r.length ≤ 100000 := fun r hr => by have := ht3 r hr; omega
  obtain ⟨⟨hp1, hp2⟩, hpe, hpg, hpd, hpf, hpo1, hpo2⟩ := Pst.ok_facts (faultE_facts hf).1
  obtain ⟨_, hr60, hlens, hrbd⟩ := faultE_facts hf
  have her : 0 ≤ er0 % 20 ∧ er0 % 20 ≤ 19 := by omega
  have hf' : faultE (p.more (er0 % 20)) (addR ws rows.length rows) = 0 := more_fault hf hp9 her
  have hpml : (p.more (er0 % 20)).errs.length = p.errs.length + 1 := by show (p.errs ++ [(er0 % 20)]).length = _; simp
  have ht4' : ∀ r ∈ (addR ws rows.length rows), r.length ≤ 100000 := fun r hr => by (have h9 := (faultE_facts hf').2.2.1 r hr); omega
  refine Ok.seq ?_
  refine Ok.region ?_
  refine OkO.box rfl rfl ?_
  refine OkO.assign rfl rfl ?_
  refine OkO.nil ?_
  refine Ok.seq ?_
  refine Ok.seq ?_
  refine Ok.region ?_
  refine OkO.load rfl rfl (ldg (n := 6) (by kernel_rfl) (by first | assumption | (simp (disch := first | omega | (simp only [hNw, hPt]; omega)) only [gn0, gn1, gn2, gn3, gn4, gn5, gp0, gno, gpo] <;> first | rfl | assumption | exact gp0 _ _ _ | exact gn0 _ _)) (by first | rfl | assumption)) ?_
  refine OkO.move rfl rfl ?_
  refine OkO.callV rfl rfl rfl rfl rfl ((c56 (m + 3) ev rv p rows _ (hV.ext (hE _ (by (try dsimp only); repeat (first | exact hG | apply Grow.new | (refine Grow.put ?_ _ (by first | omega | (simp only [hNw, hPt]; omega))))))) (hRs.ext (hE _ (by (try dsimp only); repeat (first | exact hG | apply Grow.new | (refine Grow.put ?_ _ (by first | omega | (simp only [hNw, hPt]; omega)))))))).trans (by rw [hrd])) ?_ -- "sackung/sackunglaw04.ready"
  refine OkO.un rfl rfl rfl ?_
  refine OkO.move rfl rfl ?_
  refine OkO.fieldAddr (o := 0) rfl (by kernel_rfl) rfl ?_
  refine OkO.load rfl rfl (lda (n := 1) (by kernel_rfl) (by first | assumption | (simp (disch := first | omega | (simp only [hNw, hPt]; omega)) only [gn0, gn1, gn2, gn3, gn4, gn5, gp0, gno, gpo] <;> first | rfl | assumption | exact gp0 _ _ _ | exact gn0 _ _)) (by first | rfl | assumption)) ?_
  refine OkO.builtin rfl rfl rfl (bln (by kernel_rfl) (by first | assumption | rfl)) ?_
  refine OkO.bin rfl rfl rfl ((bin_gtr _ _).trans (congrArg (fun b => some (AV.bool b)) (show _ = false from (by simp; omega)))) ?_
  refine OkO.pick (b := false) rfl rfl nofun (fun _ => rfl) ?_
  refine OkO.move rfl rfl ?_
  refine OkO.move rfl rfl ?_
  refine OkO.builtin rfl rfl rfl (bln (by kernel_rfl) (by first | assumption | rfl)) ?_
  refine OkO.bin rfl rfl rfl ((bin_eql _ _).trans (congrArg (fun b => some (AV.bool b)) (show _ = false from (by rw [decide_eq_false_iff_not]; omega)))) ?_
  refine OkO.pick (b := false) rfl rfl nofun (fun _ => rfl) ?_
  refine OkO.nil ?_
  refine Ok.condF rfl ?_
  refine Ok.skip ?_
  refine Ok.seq ?_
  refine Ok.region ?_
  refine OkO.load rfl rfl (ldg (n := 6) (by kernel_rfl) (by first | assumption | (simp (disch := first | omega | (simp only [hNw, hPt]; omega)) only [gn0, gn1, gn2, gn3, gn4, gn5, gp0, gno, gpo] <;> first | rfl | assumption | exact gp0 _ _ _ | exact gn0 _ _)) (by first | rfl | assumption)) ?_
  refine OkO.callE rfl rfl rfl rfl rfl (c20 (m + 5) ev p _ (hV.ext (hE _ (by (try dsimp only); repeat (first | exact hG | apply Grow.new | (refine Grow.put ?_ _ (by first | omega | (simp only [hNw, hPt]; omega))))))) (by omega)) ?_ -- "sackung/sackunglaw04.Post"
  rintro _ Ha ⟨xa, rfl, qa, ma⟩
  have n1 := qa.ext.next
  try simp only [hNw, hPt] at n1
  have gg1 : Grow W Ha := Grow.ret (by (try dsimp only); repeat (first | exact hG | apply Grow.new | (refine Grow.put ?_ _ (by first | omega | (simp only [hNw, hPt]; omega))))) qa
  have a1 : (Ha.get (W.next)).bind AObj.cs = some (p.c ev) := by rw [qa.ext.get _ (by first | omega | (simp only [hNw, hPt]; omega))]; first | assumption | (rw [gn0]; rfl) | (rw [get_put_eq] <;> rfl) | (simp (disch := first | omega | (simp only [hNw, hPt]; omega)) only [gn0, gn1, gn2, gn3, gn4, gn5, gp0, gno, gpo] <;> first | rfl | assumption | (rw [get_put_eq] <;> rfl))
  have ia := ma.ints
  have pla : xa.plain = true := lpl ia.len
  have oa := ma.one
  refine OkO.alloc (z := [.nils, .int .i64 0, .int .i64 0, .int .i64 0, .int .i64 0, .int .i64 0]) rfl (by kernel_rfl) ?_
  refine OkO.store rfl rfl rfl (sAc (n := 6) (ag := true) (by kernel_rfl) (by first | assumption | (simp (disch := first | omega | (simp only [hNw, hPt]; omega)) only [gn0, gn1, gn2, gn3, gn4, gn5, gp0, gno, gpo] <;> first | rfl | assumption | exact gp0 _ _ _ | exact gn0 _ _)) rfl (by first | rfl | assumption | exact (by show atoms [xa, I p.gain, I p.drop, I p.fall, I p.out, I p.ahead] = true; simp [atoms, oa.2, show ∀ z, (I z).atom = true from fun _ => rfl])) (by first | rfl | exact spl_set _ _ _ (by first | assumption | omega | (simp; omega)))) ?_
  refine OkO.nil ?_
  refine Ok.seq ?_
  refine Ok.region ?_
  refine OkO.fieldAddr (o := 0) rfl (by kernel_rfl) rfl ?_
  refine OkO.load rfl rfl (lda (n := 1) (by kernel_rfl) (by first | assumption | (simp (disch := first | omega | (simp only [hNw, hPt]; omega)) only [gn0, gn1, gn2, gn3, gn4, gn5, gp0, gno, gpo] <;> first | rfl | assumption | exact gp0 _ _ _ | exact gn0 _ _)) (by first | rfl | assumption)) ?_
  refine OkO.move rfl rfl ?_
  refine OkO.convert (k := .i64) rfl (by kernel_rfl) rfl (wrapF_i64 (by omega) (by omega)) ?_
  refine OkO.bin rfl rfl rfl (bin_rem (by omega) (by omega)) ?_
  refine OkO.buildSlice (el := 3) (sz := 1) (z := [.int .i64 0]) rfl (by kernel_rfl) (by decide) rfl rfl ?_
  refine OkO.builtinE rfl rfl rfl (Mine.app2 (W := W) (k0 := W.next + 1) (t := 22) (u := 22) (sz := 1) (by_ := 8) (e := 3) (n := 1) (new := [I (er0 % 20)]) ((ma.low (k0 := W.next + 1) (by simp)).to ((((Ext.refl _).new _).put _ (by omega)).new _)) (by repeat (first | exact gg1 | apply Grow.new | (refine Grow.put ?_ _ (by first | omega | (simp only [hNw, hPt]; omega))))) (by omega) (by simp; omega) (by kernel_rfl) (by kernel_rfl) (elems_new (n := 1) (sz := 1) rfl) rfl rfl (by rw [List.length_map]; omega) (by omega) (by omega) rfl) ?_
  rintro v2 G2 ⟨r1, r2, r3, r4, r5, r6⟩
  simp only [hNw, hPt] at r5 r6
  have a2_ : (G2.get W.next).bind AObj.cs = some (p.c ev) := by rw [r3.get W.next (by omega) (by simp; omega)]; simp (disch := first | omega | (simp only [hNw, hPt]; omega)) only [gn0, gn1, gn2, gn3, gn4, gn5, gp0, gno, gpo]; assumption
  have o2_ : G2.get Ha.next = some (.cells (p.c xa) 30) := by rw [r4 Ha.next (by simp; omega) (fun m hm => absurd (ma.lt hm) (Nat.lt_irrefl _))]; simp (disch := first | omega | (simp only [hNw, hPt]; omega)) only [gn0, gn1, gn2, gn3, gn4, gn5, gp0, gno, gpo]; rfl
  have m2_ : Mine (W.next + 1) G2 v2 3 1 ((p.more (er0 % 20)).errs.map I) := by show Mine (W.next + 1) G2 v2 3 1 ((p.errs ++ [(er0 % 20)]).map I); rw [List.map_append]; exact r1
  obtain ⟨u1_, u2_⟩ := m2_.one
  have pv2 : v2.plain = true := lpl m2_.ints.len
  have r5n : Ha.next + 2 ≤ G2.next := by omega
  refine OkO.fieldAddr (o := 0) rfl (by kernel_rfl) rfl ?_
  refine OkO.store rfl rfl rfl (sAc (n := 1) (ag := false) (l := p.c v2) (by kernel_rfl) o2_ (by rw [u1_]; rfl) (by rw [u1_]; simp [atoms, u2_]) (by rw [u1_]; rfl)) ?_
  refine OkO.nil ?_
  refine Ok.seq ?_
  refine Ok.region ?_
  refine OkO.move rfl rfl ?_
  refine OkO.callE rfl rfl rfl rfl rfl (c22D (m + 5) rv rows _ (hRs.ext (hE _ (by (try dsimp only); repeat (first | exact r2 | apply Grow.new | (refine Grow.put ?_ _ (by first | omega | (simp only [hNw, hPt]; omega))))))) (by omega) ht4) ?_ -- "sackung/sackunglaw04.rows"
  rintro xr Hr ⟨qr, mr⟩
  have n2 := qr.ext.next
  try simp only [hNw, hPt] at n2
  have gg2 : Grow W Hr := Grow.ret (by (try dsimp only); repeat (first | exact r2 | apply Grow.new | (refine Grow.put ?_ _ (by first | omega | (simp only [hNw, hPt]; omega))))) qr
  have a2 : (Hr.get (W.next)).bind AObj.cs = some (p.c ev) := by rw [qr.ext.get _ (by first | omega | (simp only [hNw, hPt]; omega))]; first | assumption | (rw [gn0]; rfl) | (rw [get_put_eq] <;> rfl) | (simp (disch := first | omega | (simp only [hNw, hPt]; omega)) only [gn0, gn1, gn2, gn3, gn4, gn5, gp0, gno, gpo] <;> first | rfl | assumption | (rw [get_put_eq] <;> rfl))
  have b2 : (Hr.get (Ha.next)).bind AObj.cs = some (p.c v2) := by rw [qr.ext.get _ (by first | omega | (simp only [hNw, hPt]; omega))]; first | assumption | (rw [gn0]; rfl) | (rw [get_put_eq] <;> rfl) | (simp (disch := first | omega | (simp only [hNw, hPt]; omega)) only [gn0, gn1, gn2, gn3, gn4, gn5, gp0, gno, gpo] <;> first | rfl | assumption | (rw [get_put_eq] <;> rfl))
  obtain ⟨GK, exK, mK, nK1, nK2, ivK, aK, bK, exH⟩ : ∃ GK : Heap, Ext GK Hr ∧ RowsD GK.next Hr xr rows ∧ W.next + 1 ≤ GK.next ∧ Ha.next + 1 ≤ GK.next ∧ Ints GK v2 (p.more (er0 % 20)).errs ∧ (GK.get W.next).bind AObj.cs = some (p.c ev) ∧ (GK.get Ha.next).bind AObj.cs = some (p.c v2) ∧ Grow W GK := ⟨_, qr.ext, mr, by simp; omega, by simp; omega, (m2_.putO _ o2_ (fun a b c h => by cases h)).ints, (by rw [gpo _ _ _ _ (by omega)]; exact a2_), (by rw [gp0]; rfl), r2.put _ (by omega)⟩
  have plr : xr.plain = true := lpl mr.at.len
  have lr_ := mr.at.len
  refine OkO.assign rfl rfl ?_
  refine OkO.nil ?_
  refine Ok.seq ?_
  refine Ok.seq ?_
  refine Ok.region ?_
  refine OkO.assign rfl rfl ?_
  refine OkO.nil ?_
  refine Ok.block ?_
  refine Ok.loop (fun n s => ∃ i : Nat, n = rows.length - i ∧ i ≤ rows.length ∧ RowsD GK.next s.H xr (addR ws i rows) ∧ Has 8 [(1, rv), (3, wv), (4, .ptr W.next 0), (9, .ptr Ha.next 0), (10, xr), (11, I (i : Int))] s.T ∧ s.D = [] ∧ Grow W s.H ∧ Ext GK s.H) (rows.length) (by unfold loopFuel; omega)
    ⟨0, rfl, Nat.zero_le _, (by rw [addR_zero]; exact mK), Has.of (by kernel_rfl), rfl, (by (try dsimp only); repeat (first | exact gg2 | apply Grow.new | (refine Grow.put ?_ _ (by first | omega | (simp only [hNw, hPt]; omega))))), exK⟩ ?_
  rintro n ⟨T, D, G⟩ ⟨i, hn, hi, hRD, ⟨f_, hT⟩, hD, hg, exG⟩
  dsimp only at *
  subst hT hD
  have hgn := hg.next
  have exGn := exG.next
  have lrG := hRD.at.len
  rw [addR_len] at lrG
  refine Ok.seq ?_
  refine Ok.seq ?_
  refine Ok.region ?_
  refine OkO.move rfl rfl ?_
  refine OkO.move rfl rfl ?_
  refine OkO.builtin rfl rfl rfl (bln (by kernel_rfl) (by first | assumption | rfl)) ?_
  refine OkO.bin rfl rfl rfl (bin_lss _ _) ?_
  refine OkO.nil ?_
  refine Ok.cond rfl (fun h1 => ?_) (fun h1 => ?_)
  · -- yes h1
    have hlt : i < rows.length := by simpa using h1
    obtain ⟨vs, d1, d2, d3, d4⟩ := hRD
    rw [addR_len] at d1
    obtain ⟨vb, vn, hxr, d5, d6, d7, d8⟩ : ∃ vb vn, xr = .opn vb vn ∧ G.get vb = some (.opn vs 22 1) ∧ vs.length = vn * 1 ∧ GK.next ≤ vb ∧ vb < G.next := by (rcases d2 with ⟨_, h⟩ | h); (· rw [h] at d1; simp at d1; omega); (· exact h)
    subst hxr
    obtain ⟨x, hx⟩ : ∃ x, vs[i]? = some x := ⟨vs[i]'(by omega), List.getElem?_eq_getElem _⟩
    have mx := d3 i x _ hx (List.getElem?_eq_getElem (by rw [addR_len]; exact hlt))
    rw [addR_get hlt, if_neg (Nat.lt_irrefl i)] at mx
    have lx_ := mx.ints.len
    have px : x.plain = true := lpl lx_
    have d5c : (G.get vb).bind AObj.cs = some vs := by rw [d5]; rfl
    have hx1 : vs[0 + i * 1]? = some x := by simpa using hx
    have hx2_ : vs[i * 1]? = some x := by simpa using hx
    have hxl := hlens _ (List.getElem_mem hlt)
    have hwpos : 0 < ws.length := hwp
    have hwlt : i % ws.length < ws.length := Nat.mod_lt _ hwpos
    obtain ⟨wb, wo, wcs, w1, w2, w3, w5⟩ := hWs.at_ (i % ws.length) (U16c (ws[i % ws.length]'hwlt)) (by simp [hwlt])
    have w2G : (G.get wb).bind AObj.cs = some wcs := by rw [(hE _ hg).get _ w5]; exact w2
    have w5G : wb < G.next := by omega
    have w4 := seg_one w3
    have e9 : ws.getD (i % ws.length) 0 = ws[i % ws.length]'hwlt := by simp [List.getD, hwlt]
    have hwb := hw _ (List.getElem_mem hwlt)
    rw [← e9] at w4 hwb
    refine Ok.skip ?_
    refine Ok.seq ?_
    refine Ok.block ?_
    refine Ok.drawn [(0, true, []), (1, true, []), (2, true, []), (3, true, []), (4, true, []), (5, true, []), (6, true, []), (7, true, []), (8, true, []), (9, true, []), (10, true, []), (11, true, []), (12, true, []), (13, true, []), (14, true, []), (15, true, [12, 9, 5]), (16, false, [12, 9]), (17, true, []), (18, false, [])] (by kernel_rfl) ?_
    refine OkP.step ?_
    refine OkO.move rfl rfl ?_
    refine OkO.nil ⟨rfl, ?_⟩
    refine OkP.step ?_
    refine OkO.move rfl rfl ?_
    refine OkO.nil ⟨rfl, ?_⟩
    refine OkP.step ?_
    refine OkO.move rfl rfl ?_
    refine OkO.nil ⟨rfl, ?_⟩
    refine OkP.step ?_
    refine OkO.move rfl rfl ?_
    refine OkO.nil ⟨rfl, ?_⟩
    refine OkP.step ?_
    refine OkO.index (sz := 1) rfl rfl rfl (by kernel_rfl) (by first | assumption | rfl | exact slAt_slice (by omega) | exact slAt_opn (by omega)) ?_ -- index ('Go.Operand.tmp', 53) ('Go.Operand.tmp', 54)
    refine OkO.nil ⟨rfl, ?_⟩
    refine OkP.step ?_
    refine OkO.load rfl rfl (lda (n := 1) (by kernel_rfl) (by first | assumption | (simp (disch := first | omega | (simp only [hNw, hPt]; omega)) only [gn0, gn1, gn2, gn3, gn4, gn5, gp0, gno, gpo] <;> first | rfl | assumption | exact gp0 _ _ _ | exact gn0 _ _)) (by first | rfl | assumption)) ?_
    refine OkO.nil ⟨rfl, ?_⟩
    refine OkP.step ?_
    refine OkO.move rfl rfl ?_
    refine OkO.nil ⟨rfl, ?_⟩
    refine OkP.step ?_
    refine OkO.move rfl rfl ?_
    refine OkO.nil ⟨rfl, ?_⟩
    refine OkP.step ?_
    refine OkO.move rfl rfl ?_
    refine OkO.nil ⟨rfl, ?_⟩
    refine OkP.step ?_
    refine OkO.builtin rfl rfl rfl (bln (by kernel_rfl) (by first | assumption | rfl)) ?_
    refine OkO.nil ⟨rfl, ?_⟩
    refine OkP.step ?_
    refine OkO.bin rfl rfl rfl (bin_rem (by omega) (by omega)) ?_
    refine OkO.nil ⟨rfl, ?_⟩
    refine OkP.step ?_
    refine OkO.index (sz := 1) (n := (i % ws.length)) rfl rfl (congrArg (fun z => some (I z)) (by simp)) (by kernel_rfl) (by first | assumption | rfl | exact slAt_slice (by omega) | exact slAt_opn (by omega)) ?_ -- index ('Go.Operand.tmp', 57) ('Go.Operand.tmp', 61)
    refine OkO.nil ⟨rfl, ?_⟩
    refine OkP.step ?_
    refine OkO.load rfl rfl (lda (n := 1) (by kernel_rfl) (by first | assumption | (simp (disch := first | omega | (simp only [hNw, hPt]; omega)) only [gn0, gn1, gn2, gn3, gn4, gn5, gp0, gno, gpo] <;> first | rfl | assumption | exact gp0 _ _ _ | exact gn0 _ _)) (by first | rfl | assumption)) ?_
    refine OkO.nil ⟨rfl, ?_⟩
    refine OkP.step ?_
    refine OkO.convert (k := .i64) rfl (by kernel_rfl) rfl (wrapF_i64 (by omega) (by omega)) ?_
    refine OkO.nil ⟨rfl, ?_⟩
    refine OkP.step ?_
    refine OkO.bin rfl rfl rfl (bin_rem (by omega) (by omega)) ?_
    refine OkO.nil ⟨rfl, ?_⟩
    refine OkP.step ?_
    refine OkO.buildSlice (el := 3) (sz := 1) (z := [.int .i64 0]) rfl (by kernel_rfl) (by decide) rfl rfl ?_
    refine OkO.nil ⟨(sco (sld rfl rfl (lda (n := 1) (by kernel_rfl) (by first | assumption | (simp (disch := first | omega | (simp only [hNw, hPt]; omega)) only [gn0, gn1, gn2, gn3, gn4, gn5, gp0, gno, gpo] <;> first | rfl | assumption | exact gp0 _ _ _ | exact gn0 _ _)) (by first | rfl | assumption)) rfl (eqr _ (by first | rfl | exact lpl (by assumption) | (simp [AV.plain, AV.plains, AV.cells, pev, Pst.c])))) (sco (svl rfl (ecb rfl rfl (bln (by kernel_rfl) (by first | assumption | rfl))) rfl (eqr _ rfl)) (sco (sld rfl rfl (lda (n := 1) (by kernel_rfl) (by first | assumption | (simp (disch := first | omega | (simp only [hNw, hPt]; omega)) only [gn0, gn1, gn2, gn3, gn4, gn5, gp0, gno, gpo] <;> first | rfl | assumption | exact gp0 _ _ _ | exact gn0 _ _)) (by first | rfl | assumption)) rfl (eqr _ (by first | rfl | exact lpl (by assumption) | (simp [AV.plain, AV.plains, AV.cells, pev, Pst.c])))) rfl))), ?_⟩
    refine OkP.step ?_
    refine OkO.builtinE rfl rfl rfl (Mine.app2 (W := W) (k0 := GK.next) (t := 22) (u := 22) (sz := 1) (by_ := 8) (e := 3) (n := 1) (new := [I (wz ws i)]) (mx.to (Grow.toNew _ _)) (hg.new _) (by omega) (by simp; omega) (by kernel_rfl) (by kernel_rfl) (elems_new (n := 1) (sz := 1) rfl) rfl rfl (by rw [List.length_map]; omega) (by omega) (by omega) rfl) ?_
    rintro x2 G1 ⟨r1, r2, r3, r4, r5, r6⟩
    simp only [hNw] at r5 r6
    have keepG : ∀ j, j < G.next → (∀ m, x ≠ .opn j m) → G1.get j = G.get j := fun j hj hne => by rw [r4 j (by simp; omega) hne]; exact gno _ _ _ (by omega)
    have g1v : G1.get vb = some (.opn vs 22 1) := by
                rw [keepG vb d8 (fun m hm => ?_)]
                · exact d5
                · rcases mx with ⟨h, _⟩ | ⟨b9, n9, a1, a2, _⟩
                  · rw [h] at hm; cases hm
                  · rw [a1] at hm; cases hm; rw [d5] at a2; cases a2
    have g1c : (G1.get vb).bind AObj.cs = some vs := by rw [g1v]; rfl
    have w2H : (G1.get wb).bind AObj.cs = some wcs := by rw [(hE _ r2).get _ w5]; exact w2
    obtain ⟨y1_, y2_⟩ := r1.one
    refine OkO.nil ⟨(sco (sld rfl rfl (lda (n := 1) (by kernel_rfl) (by first | assumption | (simp (disch := first | omega | (simp only [hNw, hPt]; omega)) only [gn0, gn1, gn2, gn3, gn4, gn5, gp0, gno, gpo] <;> first | rfl | assumption | exact gp0 _ _ _ | exact gn0 _ _)) (by first | rfl | assumption)) rfl (eqr _ (by first | rfl | exact lpl (by assumption) | (simp [AV.plain, AV.plains, AV.cells, pev, Pst.c])))) (sco (svl rfl (ecb rfl rfl (bln (by kernel_rfl) (by first | assumption | rfl))) rfl (eqr _ rfl)) rfl)), ?_⟩
    refine OkP.step ?_
    refine OkO.index (sz := 1) rfl rfl rfl (by kernel_rfl) (by first | assumption | rfl | exact slAt_slice (by omega) | exact slAt_opn (by omega)) ?_ -- index ('Go.Operand.tmp', 51) ('Go.Operand.tmp', 52)
    refine OkO.nil ⟨rfl, ?_⟩
    refine OkP.step ?_
    refine OkO.store rfl rfl rfl (storeAt_opn (n := 1) (ag := false) (l := vs.set i x2) (by kernel_rfl) g1v (by rw [y1_]; rfl) (by rw [y1_]; simp [atoms, y2_]) (by rw [y1_, spl_one (by omega)]; simp)) ?_
    refine OkO.nil ⟨rfl, ?_⟩
    refine OkP.nil ?_
    refine Ok.region ?_
    refine OkO.move rfl rfl ?_
    refine OkO.bin rfl rfl rfl (bin_add (by omega) (by omega)) ?_
    refine OkO.assign rfl rfl ?_
    refine OkO.nil ?_
    refine ⟨rows.length - (i + 1), by omega, i + 1, rfl, by omega, ?_, Has.of (by kernel_rfl), rfl, r2.put _ (by omega), ⟨by (simp; omega), fun j hj => ?_⟩⟩
    · obtain ⟨m9, hm9⟩ := r6
      rw [addR_succ hlt]
      refine RowsD.swap (x2 := x2) (r2 := rows[i] ++ [wz ws i]) (by rw [addR_len]; exact d1) (.inr ⟨vb, vn, rfl, d5, d6, d7, d8⟩) d3 d4 (by rw [addR_len]; exact hlt) hx ?_ (by omega) (by omega) keepG rfl rfl
      rw [List.map_append]
      exact r1.up hm9 (by omega)
    · rw [gpo _ _ _ _ (by omega), r3.get j hj (by simp; omega), gno _ _ _ (by omega)]
      exact exG.get j hj
  · -- no h1
    have hge : i = rows.length := by (have h9 : ¬ i < rows.length := by simpa using h1); omega
    subst hge
    have hDat := hRD.at
    have e0 : (G.get W.next).bind AObj.cs = some (p.c ev) := by rw [exG.get _ (by omega)]; exact aK
    have f0 : (G.get Ha.next).bind AObj.cs = some (p.c v2) := by rw [exG.get _ (by omega)]; exact bK
    have ivG := ivK.ext exG
    refine Ok.exit ?_
    refine Ok.seq ?_
    refine Ok.region ?_
    refine OkO.load rfl rfl (ldg (n := 6) (by kernel_rfl) (by first | assumption | (simp (disch := first | omega | (simp only [hNw, hPt]; omega)) only [gn0, gn1, gn2, gn3, gn4, gn5, gp0, gno, gpo] <;> first | rfl | assumption | exact gp0 _ _ _ | exact gn0 _ _)) (by first | rfl | assumption)) ?_
    refine OkO.callE rfl rfl rfl rfl rfl (c20 (m + 5) ev p _ (hV.ext (hE _ (by (try dsimp only); repeat (first | exact hg | apply Grow.new | (refine Grow.put ?_ _ (by first | omega | (simp only [hNw, hPt]; omega))))))) (by omega)) ?_ -- "sackung/sackunglaw04.Post"
    rintro _ Hc ⟨xc, rfl, qc, mc⟩
    have n1 := qc.ext.next
    try simp only [hNw, hPt] at n1
    have gg1 : Grow W Hc := Grow.ret (by (try dsimp only); repeat (first | exact hg | apply Grow.new | (refine Grow.put ?_ _ (by first | omega | (simp only [hNw, hPt]; omega))))) qc
    have e1 : (Hc.get (W.next)).bind AObj.cs = some (p.c ev) := by rw [qc.ext.get _ (by first | omega | (simp only [hNw, hPt]; omega))]; first | assumption | (rw [gn0]; rfl) | (rw [get_put_eq] <;> rfl) | (simp (disch := first | omega | (simp only [hNw, hPt]; omega)) only [gn0, gn1, gn2, gn3, gn4, gn5, gp0, gno, gpo] <;> first | rfl | assumption | (rw [get_put_eq] <;> rfl))
    have f1 : (Hc.get (Ha.next)).bind AObj.cs = some (p.c v2) := by rw [qc.ext.get _ (by first | omega | (simp only [hNw, hPt]; omega))]; first | assumption | (rw [gn0]; rfl) | (rw [get_put_eq] <;> rfl) | (simp (disch := first | omega | (simp only [hNw, hPt]; omega)) only [gn0, gn1, gn2, gn3, gn4, gn5, gp0, gno, gpo] <;> first | rfl | assumption | (rw [get_put_eq] <;> rfl))
    have exG1 : Ext G Hc := Ext.trans (by (try dsimp only); repeat (first | exact Ext.refl _ | exact Ext.refl _ | apply Ext.new | (refine Ext.put ?_ _ (by first | omega | (simp only [hNw, hPt]; omega))))) qc.ext
    have ic := mc.ints
    have plc : xc.plain = true := lpl ic.len
    have oc := mc.one
    refine OkO.move rfl rfl ?_
    refine OkO.callE rfl rfl rfl rfl rfl (c22 (m + 5) rv rows _ (hRs.ext (hE _ (by (try dsimp only); repeat (first | exact gg1 | apply Grow.new | (refine Grow.put ?_ _ (by first | omega | (simp only [hNw, hPt]; omega))))))) (by omega) ht4) ?_ -- "sackung/sackunglaw04.rows"
    rintro xd Hd ⟨qd, md⟩
    have n2 := qd.ext.next
    try simp only [hNw, hPt] at n2
    have gg2 : Grow W Hd := Grow.ret (by (try dsimp only); repeat (first | exact gg1 | apply Grow.new | (refine Grow.put ?_ _ (by first | omega | (simp only [hNw, hPt]; omega))))) qd
    have e2 : (Hd.get (W.next)).bind AObj.cs = some (p.c ev) := by rw [qd.ext.get _ (by first | omega | (simp only [hNw, hPt]; omega))]; first | assumption | (rw [gn0]; rfl) | (rw [get_put_eq] <;> rfl) | (simp (disch := first | omega | (simp only [hNw, hPt]; omega)) only [gn0, gn1, gn2, gn3, gn4, gn5, gp0, gno, gpo] <;> first | rfl | assumption | (rw [get_put_eq] <;> rfl))
    have f2 : (Hd.get (Ha.next)).bind AObj.cs = some (p.c v2) := by rw [qd.ext.get _ (by first | omega | (simp only [hNw, hPt]; omega))]; first | assumption | (rw [gn0]; rfl) | (rw [get_put_eq] <;> rfl) | (simp (disch := first | omega | (simp only [hNw, hPt]; omega)) only [gn0, gn1, gn2, gn3, gn4, gn5, gp0, gno, gpo] <;> first | rfl | assumption | (rw [get_put_eq] <;> rfl))
    have exG2 : Ext G Hd := Ext.trans (by (try dsimp only); repeat (first | exact exG1 | exact Ext.refl _ | apply Ext.new | (refine Ext.put ?_ _ (by first | omega | (simp only [hNw, hPt]; omega))))) qd.ext
    have exHc2 : Ext Hc Hd := Ext.trans (by (try dsimp only); repeat (first | exact Ext.refl _ | exact Ext.refl _ | apply Ext.new | (refine Ext.put ?_ _ (by first | omega | (simp only [hNw, hPt]; omega))))) qd.ext
    have id := md.at
    have pld : xd.plain = true := lpl id.len
    refine OkO.callE rfl rfl rfl rfl rfl (c21Y (m + 0) xc xd p rows _ (ic.ext (by (try dsimp only); repeat (first | exact exHc2 | exact Ext.refl _ | apply Ext.new | (refine Ext.put ?_ _ (by first | omega | (simp only [hNw, hPt]; omega)))))) (id.ext (by (try dsimp only); repeat (first | exact Ext.refl _ | exact Ext.refl _ | apply Ext.new | (refine Ext.put ?_ _ (by first | omega | (simp only [hNw, hPt]; omega)))))) (by omega) (by omega) ht4 hf hposs0) ?_ -- "sackung/alarm.Levels"
    rintro _ Hl ⟨xl, rfl, ql, ml⟩
    have n3 := ql.ext.next
    try simp only [hNw, hPt] at n3
    have gg3 : Grow W Hl := Grow.ret (by (try dsimp only); repeat (first | exact gg2 | apply Grow.new | (refine Grow.put ?_ _ (by first | omega | (simp only [hNw, hPt]; omega))))) ql
    have e3 : (Hl.get (W.next)).bind AObj.cs = some (p.c ev) := by rw [ql.ext.get _ (by first | omega | (simp only [hNw, hPt]; omega))]; first | assumption | (rw [gn0]; rfl) | (rw [get_put_eq] <;> rfl) | (simp (disch := first | omega | (simp only [hNw, hPt]; omega)) only [gn0, gn1, gn2, gn3, gn4, gn5, gp0, gno, gpo] <;> first | rfl | assumption | (rw [get_put_eq] <;> rfl))
    have f3 : (Hl.get (Ha.next)).bind AObj.cs = some (p.c v2) := by rw [ql.ext.get _ (by first | omega | (simp only [hNw, hPt]; omega))]; first | assumption | (rw [gn0]; rfl) | (rw [get_put_eq] <;> rfl) | (simp (disch := first | omega | (simp only [hNw, hPt]; omega)) only [gn0, gn1, gn2, gn3, gn4, gn5, gp0, gno, gpo] <;> first | rfl | assumption | (rw [get_put_eq] <;> rfl))
    have exG3 : Ext G Hl := Ext.trans (by (try dsimp only); repeat (first | exact exG2 | exact Ext.refl _ | apply Ext.new | (refine Ext.put ?_ _ (by first | omega | (simp only [hNw, hPt]; omega))))) ql.ext
    have exHc3 : Ext Hc Hl := Ext.trans (by (try dsimp only); repeat (first | exact exHc2 | exact Ext.refl _ | apply Ext.new | (refine Ext.put ?_ _ (by first | omega | (simp only [hNw, hPt]; omega))))) ql.ext
    have exHd3 : Ext Hd Hl := Ext.trans (by (try dsimp only); repeat (first | exact Ext.refl _ | exact Ext.refl _ | apply Ext.new | (refine Ext.put ?_ _ (by first | omega | (simp only [hNw, hPt]; omega))))) ql.ext
    have hlr1 := ml.states
    have hll1 : lenOf xl = some rows.length := by simpa using hlr1.len
    refine OkO.move rfl rfl ?_
    refine OkO.extract rfl rfl rfl ?_
    refine OkO.extract rfl rfl rfl ?_
    refine OkO.assign rfl rfl ?_
    refine OkO.assign rfl rfl ?_
    refine OkO.nil ?_
    refine Ok.seq ?_
    refine Ok.region ?_
    refine OkO.load rfl rfl (ldg (n := 6) (by kernel_rfl) (by first | assumption | (simp (disch := first | omega | (simp only [hNw, hPt]; omega)) only [gn0, gn1, gn2, gn3, gn4, gn5, gp0, gno, gpo] <;> first | rfl | assumption | exact gp0 _ _ _ | exact gn0 _ _)) (by first | rfl | assumption)) ?_
    refine OkO.move rfl rfl ?_
    refine OkO.callV rfl rfl rfl rfl rfl (c21N (m + 0) v2 xr (p.more (er0 % 20)) (addR ws rows.length rows) _ (ivG.ext (by (try dsimp only); repeat (first | exact exG3 | exact Ext.refl _ | apply Ext.new | (refine Ext.put ?_ _ (by first | omega | (simp only [hNw, hPt]; omega)))))) (hDat.ext (by (try dsimp only); repeat (first | exact exG3 | exact Ext.refl _ | apply Ext.new | (refine Ext.put ?_ _ (by first | omega | (simp only [hNw, hPt]; omega)))))) (by omega) (by rw [addR_len]; omega) ht4' hf' hposs1) ?_ -- "sackung/alarm.Levels"
    refine OkO.move rfl rfl ?_
    refine OkO.extract rfl rfl rfl ?_
    refine OkO.extract rfl rfl rfl ?_
    refine OkO.assign rfl rfl ?_
    refine OkO.assign rfl rfl ?_
    refine OkO.nil ?_
    refine Ok.seq ?_
    refine Ok.seq ?_
    refine Ok.region ?_
    refine OkO.move rfl rfl ?_
    refine OkO.bin rfl rfl rfl ((bin_neq _ _).trans (congrArg (fun b => some (AV.bool b)) (show _ = true from (by rfl)))) ?_
    refine OkO.nil ?_
    refine Ok.condT rfl ?_
    refine Ok.seq ?_
    refine Ok.region ?_
    refine OkO.move rfl rfl ?_
    refine OkO.bin rfl rfl rfl ((bin_eql _ _).trans (congrArg (fun b => some (AV.bool b)) (show _ = true from (by rfl)))) ?_
    refine OkO.move rfl rfl ?_
    refine OkO.move rfl rfl ?_
    refine OkO.bin rfl rfl rfl ((bin_eql _ _).trans (congrArg (fun b => some (AV.bool b)) (show _ = true from (by rfl)))) ?_
    refine OkO.move rfl rfl ?_
    refine OkO.skip rfl ?_
    refine OkO.skip rfl ?_
    refine OkO.pick (b := true) rfl rfl (fun _ => rfl) nofun ?_
    refine OkO.pick (b := true) rfl rfl (fun _ => rfl) nofun ?_
    refine OkO.move rfl rfl ?_
    refine OkO.callV rfl rfl rfl rfl rfl (rfl) ?_ -- "sackung/sackunglaw04.awake"
    refine OkO.pick (b := true) rfl rfl (fun _ => rfl) nofun ?_
    refine OkO.assign rfl rfl ?_
    refine OkO.nil ?_
    refine Ok.ret ⟨.inr rfl, ?_⟩
    exact back_flat rfl rfl rfl (by rw [← hW]; exact (by (try dsimp only); repeat (first | exact gg3 | apply Grow.new | (refine Grow.put ?_ _ (by first | omega | (simp only [hNw, hPt]; omega))))))
theorem c13FN (m : Nat) (ev rv wv : AV) (p : Pst) (rows : List (List Int)) (er0 : Int) (ws : List Int) (H : Heap) (hV : Ints H ev p.errs) (hRs : LstAt H rv rows) (hWs : Row H wv 1 (ws.map U16c)) (hw : ∀ x ∈ ws, 0 ≤ x ∧ x ≤ 65535) (her0 : 0 ≤ er0 ∧ er0 ≤ 65535) (hrd : (thinB p rows && decide (faultE p rows = 0)) = true) (hp9 : p.errs.length ≤ 9) (hwp : 0 < ws.length) (hposs0 : possB p rows rows.length = false) (hposs1 : possB (p.more (er0 % 20)) (addR ws rows.length rows) (addR ws rows.length rows).length = false) : RR (m + 8) (.fn 13 [.agg (p.c ev), rv, .int .u16 er0, wv]) H = some (.bool true, H) := by
  refine (R_fn _ _ _ _ _).trans ?_
  refine fn_ok Try.func13 rfl rfl (by kernel_rfl) (by kernel_rfl) ?_
  obtain ⟨W, hW⟩ : ∃ W : Heap, W = ⟨H.t, H.next, H.next⟩ := ⟨_, rfl⟩
  have hg : ∀ n, W.get n = H.get n := fun n => by rw [hW]; rfl
  have hN : W.next = H.next := by rw [hW]
  have hE : ∀ G, Grow W G → Ext H G := fun G g => ⟨by rw [← hN]; exact g.next, fun n k => by rw [g.get n (by rw [hN]; exact k), hg]⟩
  have hG : Grow W W := Grow.refl (by rw [hW]; exact Nat.le_refl _)
  rw [← hW]
  have pev : ev.plain = true := lpl hV.len
  have hel := hV.len
  have hrlen := hRs.len
  have pwv : wv.plain = true := lpl hWs.len
  have hwl := hWs.len
  rw [List.length_map] at hwl
  have hth : thinB p rows = true := by rw [Bool.and_eq_true] at hrd; exact hrd.1
  have hf : faultE p rows = 0 := by rw [Bool.and_eq_true, decide_eq_true_eq] at hrd; exact hrd.2
  obtain ⟨ht1, ht2, ht3⟩ := thin_facts hth
  have ht4 : ∀ r ∈ rows, r.length ≤ 100000 := fun r hr => by have := ht3 r hr; omega
  obtain ⟨⟨hp1, hp2⟩, hpe, hpg, hpd, hpf, hpo1, hpo2⟩ := Pst.ok_facts (faultE_facts hf).1
  obtain ⟨_, hr60, hlens, hrbd⟩ := faultE_facts hf
  have her : 0 ≤ er0 % 20 ∧ er0 % 20 ≤ 19 := by omega
  have hf' : faultE (p.more (er0 % 20)) (addR ws rows.length rows) = 0 := more_fault hf hp9 her
  have hpml : (p.more (er0 % 20)).errs.length = p.errs.length + 1 := by show (p.errs ++ [(er0 % 20)]).length = _; simp
  have ht4' : ∀ r ∈ (addR ws rows.length rows), r.length ≤ 100000 := fun r hr => by (have h9 := (faultE_facts hf').2.2.1 r hr); omega
  refine Ok.seq ?_
  refine Ok.region ?_
  refine OkO.box rfl rfl ?_
  refine OkO.assign rfl rfl ?_
  refine OkO.nil ?_
  refine Ok.seq ?_
  refine Ok.seq ?_
  refine Ok.region ?_
  refine OkO.load rfl rfl (ldg (n := 6) (by kernel_rfl) (by first | assumption | (simp (disch := first | omega | (simp only [hNw, hPt]; omega)) only [gn0, gn1, gn2, gn3, gn4, gn5, gp0, gno, gpo] <;> first | rfl | assumption | exact gp0 _ _ _ | exact gn0 _ _)) (by first | rfl | assumption)) ?_
  refine OkO.move rfl rfl ?_
  refine OkO.callV rfl rfl rfl rfl rfl ((c56 (m + 3) ev rv p rows _ (hV.ext (hE _ (by (try dsimp only); repeat (first | exact hG | apply Grow.new | (refine Grow.put ?_ _ (by first | omega | (simp only [hNw, hPt]; omega))))))) (hRs.ext (hE _ (by (try dsimp only); repeat (first | exact hG | apply Grow.new | (refine Grow.put ?_ _ (by first | omega | (simp only [hNw, hPt]; omega)))))))).trans (by rw [hrd])) ?_ -- "sackung/sackunglaw04.ready"
  refine OkO.un rfl rfl rfl ?_
  refine OkO.move rfl rfl ?_
  refine OkO.fieldAddr (o := 0) rfl (by kernel_rfl) rfl ?_
  refine OkO.load rfl rfl (lda (n := 1) (by kernel_rfl) (by first | assumption | (simp (disch := first | omega | (simp only [hNw, hPt]; omega)) only [gn0, gn1, gn2, gn3, gn4, gn5, gp0, gno, gpo] <;> first | rfl | assumption | exact gp0 _ _ _ | exact gn0 _ _)) (by first | rfl | assumption)) ?_
  refine OkO.builtin rfl rfl rfl (bln (by kernel_rfl) (by first | assumption | rfl)) ?_
  refine OkO.bin rfl rfl rfl ((bin_gtr _ _).trans (congrArg (fun b => some (AV.bool b)) (show _ = false from (by simp; omega)))) ?_
  refine OkO.pick (b := false) rfl rfl nofun (fun _ => rfl) ?_
  refine OkO.move rfl rfl ?_
  refine OkO.move rfl rfl ?_
  refine OkO.builtin rfl rfl rfl (bln (by kernel_rfl) (by first | assumption | rfl)) ?_
  refine OkO.bin rfl rfl rfl ((bin_eql _ _).trans (congrArg (fun b => some (AV.bool b)) (show _ = false from (by rw [decide_eq_false_iff_not]; omega)))) ?_
  refine OkO.pick (b := false) rfl rfl nofun (fun _ => rfl) ?_
  refine OkO.nil ?_
  refine Ok.condF rfl ?_
  refine Ok.skip ?_
  refine Ok.seq ?_
  refine Ok.region ?_
  refine OkO.load rfl rfl (ldg (n := 6) (by kernel_rfl) (by first | assumption | (simp (disch := first | omega | (simp only [hNw, hPt]; omega)) only [gn0, gn1, gn2, gn3, gn4, gn5, gp0, gno, gpo] <;> first | rfl | assumption | exact gp0 _ _ _ | exact gn0 _ _)) (by first | rfl | assumption)) ?_
  refine OkO.callE rfl rfl rfl rfl rfl (c20 (m + 5) ev p _ (hV.ext (hE _ (by (try dsimp only); repeat (first | exact hG | apply Grow.new | (refine Grow.put ?_ _ (by first | omega | (simp only [hNw, hPt]; omega))))))) (by omega)) ?_ -- "sackung/sackunglaw04.Post"
  rintro _ Ha ⟨xa, rfl, qa, ma⟩
  have n1 := qa.ext.next
  try simp only [hNw, hPt] at n1
  have gg1 : Grow W Ha := Grow.ret (by (try dsimp only); repeat (first | exact hG | apply Grow.new | (refine Grow.put ?_ _ (by first | omega | (simp only [hNw, hPt]; omega))))) qa
  have a1 : (Ha.get (W.next)).bind AObj.cs = some (p.c ev) := by rw [qa.ext.get _ (by first | omega | (simp only [hNw, hPt]; omega))]; first | assumption | (rw [gn0]; rfl) | (rw [get_put_eq] <;> rfl) | (simp (disch := first | omega | (simp only [hNw, hPt]; omega)) only [gn0, gn1, gn2, gn3, gn4, gn5, gp0, gno, gpo] <;> first | rfl | assumption | (rw [get_put_eq] <;> rfl))
  have ia := ma.ints
  have pla : xa.plain = true := lpl ia.len
  have oa := ma.one
  refine OkO.alloc (z := [.nils, .int .i64 0, .int .i64 0, .int .i64 0, .int .i64 0, .int .i64 0]) rfl (by kernel_rfl) ?_
  refine OkO.store rfl rfl rfl (sAc (n := 6) (ag := true) (by kernel_rfl) (by first | assumption | (simp (disch := first | omega | (simp only [hNw, hPt]; omega)) only [gn0, gn1, gn2, gn3, gn4, gn5, gp0, gno, gpo] <;> first | rfl | assumption | exact gp0 _ _ _ | exact gn0 _ _)) rfl (by first | rfl | assumption | exact (by show atoms [xa, I p.gain, I p.drop, I p.fall, I p.out, I p.ahead] = true; simp [atoms, oa.2, show ∀ z, (I z).atom = true from fun _ => rfl])) (by first | rfl | exact spl_set _ _ _ (by first | assumption | omega | (simp; omega)))) ?_
  refine OkO.nil ?_
  refine Ok.seq ?_
  refine Ok.region ?_
  refine OkO.fieldAddr (o := 0) rfl (by kernel_rfl) rfl ?_
  refine OkO.load rfl rfl (lda (n := 1) (by kernel_rfl) (by first | assumption | (simp (disch := first | omega | (simp only [hNw, hPt]; omega)) only [gn0, gn1, gn2, gn3, gn4, gn5, gp0, gno, gpo] <;> first | rfl | assumption | exact gp0 _ _ _ | exact gn0 _ _)) (by first | rfl | assumption)) ?_
  refine OkO.move rfl rfl ?_
  refine OkO.convert (k := .i64) rfl (by kernel_rfl) rfl (wrapF_i64 (by omega) (by omega)) ?_
  refine OkO.bin rfl rfl rfl (bin_rem (by omega) (by omega)) ?_
  refine OkO.buildSlice (el := 3) (sz := 1) (z := [.int .i64 0]) rfl (by kernel_rfl) (by decide) rfl rfl ?_
  refine OkO.builtinE rfl rfl rfl (Mine.app2 (W := W) (k0 := W.next + 1) (t := 22) (u := 22) (sz := 1) (by_ := 8) (e := 3) (n := 1) (new := [I (er0 % 20)]) ((ma.low (k0 := W.next + 1) (by simp)).to ((((Ext.refl _).new _).put _ (by omega)).new _)) (by repeat (first | exact gg1 | apply Grow.new | (refine Grow.put ?_ _ (by first | omega | (simp only [hNw, hPt]; omega))))) (by omega) (by simp; omega) (by kernel_rfl) (by kernel_rfl) (elems_new (n := 1) (sz := 1) rfl) rfl rfl (by rw [List.length_map]; omega) (by omega) (by omega) rfl) ?_
  rintro v2 G2 ⟨r1, r2, r3, r4, r5, r6⟩
  simp only [hNw, hPt] at r5 r6
  have a2_ : (G2.get W.next).bind AObj.cs = some (p.c ev) := by rw [r3.get W.next (by omega) (by simp; omega)]; simp (disch := first | omega | (simp only [hNw, hPt]; omega)) only [gn0, gn1, gn2, gn3, gn4, gn5, gp0, gno, gpo]; assumption
  have o2_ : G2.get Ha.next = some (.cells (p.c xa) 30) := by rw [r4 Ha.next (by simp; omega) (fun m hm => absurd (ma.lt hm) (Nat.lt_irrefl _))]; simp (disch := first | omega | (simp only [hNw, hPt]; omega)) only [gn0, gn1, gn2, gn3, gn4, gn5, gp0, gno, gpo]; rfl
  have m2_ : Mine (W.next + 1) G2 v2 3 1 ((p.more (er0 % 20)).errs.map I) := by show Mine (W.next + 1) G2 v2 3 1 ((p.errs ++ [(er0 % 20)]).map I); rw [List.map_append]; exact r1
  obtain ⟨u1_, u2_⟩ := m2_.one
  have pv2 : v2.plain = true := lpl m2_.ints.len
  have r5n : Ha.next + 2 ≤ G2.next := by omega
  refine OkO.fieldAddr (o := 0) rfl (by kernel_rfl) rfl ?_
  refine OkO.store rfl rfl rfl (sAc (n := 1) (ag := false) (l := p.c v2) (by kernel_rfl) o2_ (by rw [u1_]; rfl) (by rw [u1_]; simp [atoms, u2_]) (by rw [u1_]; rfl)) ?_
  refine OkO.nil ?_
  refine Ok.seq ?_
  refine Ok.region ?_
  refine OkO.move rfl rfl ?_
  refine OkO.callE rfl rfl rfl rfl rfl (c22D (m + 5) rv rows _ (hRs.ext (hE _ (by (try dsimp only); repeat (first | exact r2 | apply Grow.new | (refine Grow.put ?_ _ (by first | omega | (simp only [hNw, hPt]; omega))))))) (by omega) ht4) ?_ -- "sackung/sackunglaw04.rows"
  rintro xr Hr ⟨qr, mr⟩
  have n2 := qr.ext.next
  try simp only [hNw, hPt] at n2
  have gg2 : Grow W Hr := Grow.ret (by (try dsimp only); repeat (first | exact r2 | apply Grow.new | (refine Grow.put ?_ _ (by first | omega | (simp only [hNw, hPt]; omega))))) qr
  have a2 : (Hr.get (W.next)).bind AObj.cs = some (p.c ev) := by rw [qr.ext.get _ (by first | omega | (simp only [hNw, hPt]; omega))]; first | assumption | (rw [gn0]; rfl) | (rw [get_put_eq] <;> rfl) | (simp (disch := first | omega | (simp only [hNw, hPt]; omega)) only [gn0, gn1, gn2, gn3, gn4, gn5, gp0, gno, gpo] <;> first | rfl | assumption | (rw [get_put_eq] <;> rfl))
  have b2 : (Hr.get (Ha.next)).bind AObj.cs = some (p.c v2) := by rw [qr.ext.get _ (by first | omega | (simp only [hNw, hPt]; omega))]; first | assumption | (rw [gn0]; rfl) | (rw [get_put_eq] <;> rfl) | (simp (disch := first | omega | (simp only [hNw, hPt]; omega)) only [gn0, gn1, gn2, gn3, gn4, gn5, gp0, gno, gpo] <;> first | rfl | assumption | (rw [get_put_eq] <;> rfl))
  obtain ⟨GK, exK, mK, nK1, nK2, ivK, aK, bK, exH⟩ : ∃ GK : Heap, Ext GK Hr ∧ RowsD GK.next Hr xr rows ∧ W.next + 1 ≤ GK.next ∧ Ha.next + 1 ≤ GK.next ∧ Ints GK v2 (p.more (er0 % 20)).errs ∧ (GK.get W.next).bind AObj.cs = some (p.c ev) ∧ (GK.get Ha.next).bind AObj.cs = some (p.c v2) ∧ Grow W GK := ⟨_, qr.ext, mr, by simp; omega, by simp; omega, (m2_.putO _ o2_ (fun a b c h => by cases h)).ints, (by rw [gpo _ _ _ _ (by omega)]; exact a2_), (by rw [gp0]; rfl), r2.put _ (by omega)⟩
  have plr : xr.plain = true := lpl mr.at.len
  have lr_ := mr.at.len
  refine OkO.assign rfl rfl ?_
  refine OkO.nil ?_
  refine Ok.seq ?_
  refine Ok.seq ?_
  refine Ok.region ?_
  refine OkO.assign rfl rfl ?_
  refine OkO.nil ?_
  refine Ok.block ?_
  refine Ok.loop (fun n s => ∃ i : Nat, n = rows.length - i ∧ i ≤ rows.length ∧ RowsD GK.next s.H xr (addR ws i rows) ∧ Has 8 [(1, rv), (3, wv), (4, .ptr W.next 0), (9, .ptr Ha.next 0), (10, xr), (11, I (i : Int))] s.T ∧ s.D = [] ∧ Grow W s.H ∧ Ext GK s.H) (rows.length) (by unfold loopFuel; omega)
    ⟨0, rfl, Nat.zero_le _, (by rw [addR_zero]; exact mK), Has.of (by kernel_rfl), rfl, (by (try dsimp only); repeat (first | exact gg2 | apply Grow.new | (refine Grow.put ?_ _ (by first | omega | (simp only [hNw, hPt]; omega))))), exK⟩ ?_
  rintro n ⟨T, D, G⟩ ⟨i, hn, hi, hRD, ⟨f_, hT⟩, hD, hg, exG⟩
  dsimp only at *
  subst hT hD
  have hgn := hg.next
  have exGn := exG.next
  have lrG := hRD.at.len
  rw [addR_len] at lrG
  refine Ok.seq ?_
  refine Ok.seq ?_
  refine Ok.region ?_
  refine OkO.move rfl rfl ?_
  refine OkO.move rfl rfl ?_
  refine OkO.builtin rfl rfl rfl (bln (by kernel_rfl) (by first | assumption | rfl)) ?_
  refine OkO.bin rfl rfl rfl (bin_lss _ _) ?_
  refine OkO.nil ?_
  refine Ok.cond rfl (fun h1 => ?_) (fun h1 => ?_)
  · -- yes h1
    have hlt : i < rows.length := by simpa using h1
    obtain ⟨vs, d1, d2, d3, d4⟩ := hRD
    rw [addR_len] at d1
    obtain ⟨vb, vn, hxr, d5, d6, d7, d8⟩ : ∃ vb vn, xr = .opn vb vn ∧ G.get vb = some (.opn vs 22 1) ∧ vs.length = vn * 1 ∧ GK.next ≤ vb ∧ vb < G.next := by (rcases d2 with ⟨_, h⟩ | h); (· rw [h] at d1; simp at d1; omega); (· exact h)
    subst hxr
    obtain ⟨x, hx⟩ : ∃ x, vs[i]? = some x := ⟨vs[i]'(by omega), List.getElem?_eq_getElem _⟩
    have mx := d3 i x _ hx (List.getElem?_eq_getElem (by rw [addR_len]; exact hlt))
    rw [addR_get hlt, if_neg (Nat.lt_irrefl i)] at mx
    have lx_ := mx.ints.len
    have px : x.plain = true := lpl lx_
    have d5c : (G.get vb).bind AObj.cs = some vs := by rw [d5]; rfl
    have hx1 : vs[0 + i * 1]? = some x := by simpa using hx
    have hx2_ : vs[i * 1]? = some x := by simpa using hx
    have hxl := hlens _ (List.getElem_mem hlt)
    have hwpos : 0 < ws.length := hwp
    have hwlt : i % ws.length < ws.length := Nat.mod_lt _ hwpos
    obtain ⟨wb, wo, wcs, w1, w2, w3, w5⟩ := hWs.at_ (i % ws.length) (U16c (ws[i % ws.length]'hwlt)) (by simp [hwlt])
    have w2G : (G.get wb).bind AObj.cs = some wcs := by rw [(hE _ hg).get _ w5]; exact w2
    have w5G : wb < G.next := by omega
    have w4 := seg_one w3
    have e9 : ws.getD (i % ws.length) 0 = ws[i % ws.length]'hwlt := by simp [List.getD, hwlt]
    have hwb := hw _ (List.getElem_mem hwlt)
    rw [← e9] at w4 hwb
    refine Ok.skip ?_
    refine Ok.seq ?_
    refine Ok.block ?_
    refine Ok.drawn [(0, true, []), (1, true, []), (2, true, []), (3, true, []), (4, true, []), (5, true, []), (6, true, []), (7, true, []), (8, true, []), (9, true, []), (10, true, []), (11, true, []), (12, true, []), (13, true, []), (14, true, []), (15, true, [12, 9, 5]), (16, false, [12, 9]), (17, true, []), (18, false, [])] (by kernel_rfl) ?_
    refine OkP.step ?_
    refine OkO.move rfl rfl ?_
    refine OkO.nil ⟨rfl, ?_⟩
    refine OkP.step ?_
    refine OkO.move rfl rfl ?_
    refine OkO.nil ⟨rfl, ?_⟩
    refine OkP.step ?_
    refine OkO.move rfl rfl ?_
    refine OkO.nil ⟨rfl, ?_⟩
    refine OkP.step ?_
    refine OkO.move rfl rfl ?_
    refine OkO.nil ⟨rfl, ?_⟩
    refine OkP.step ?_
    refine OkO.index (sz := 1) rfl rfl rfl (by kernel_rfl) (by first | assumption | rfl | exact slAt_slice (by omega) | exact slAt_opn (by omega)) ?_ -- index ('Go.Operand.tmp', 53) ('Go.Operand.tmp', 54)
    refine OkO.nil ⟨rfl, ?_⟩
    refine OkP.step ?_
    refine OkO.load rfl rfl (lda (n := 1) (by kernel_rfl) (by first | assumption | (simp (disch := first | omega | (simp only [hNw, hPt]; omega)) only [gn0, gn1, gn2, gn3, gn4, gn5, gp0, gno, gpo] <;> first | rfl | assumption | exact gp0 _ _ _ | exact gn0 _ _)) (by first | rfl | assumption)) ?_
    refine OkO.nil ⟨rfl, ?_⟩
    refine OkP.step ?_
    refine OkO.move rfl rfl ?_
    refine OkO.nil ⟨rfl, ?_⟩
    refine OkP.step ?_
    refine OkO.move rfl rfl ?_
    refine OkO.nil ⟨rfl, ?_⟩
    refine OkP.step ?_
    refine OkO.move rfl rfl ?_
    refine OkO.nil ⟨rfl, ?_⟩
    refine OkP.step ?_
    refine OkO.builtin rfl rfl rfl (bln (by kernel_rfl) (by first | assumption | rfl)) ?_
    refine OkO.nil ⟨rfl, ?_⟩
    refine OkP.step ?_
    refine OkO.bin rfl rfl rfl (bin_rem (by omega) (by omega)) ?_
    refine OkO.nil ⟨rfl, ?_⟩
    refine OkP.step ?_
    refine OkO.index (sz := 1) (n := (i % ws.length)) rfl rfl (congrArg (fun z => some (I z)) (by simp)) (by kernel_rfl) (by first | assumption | rfl | exact slAt_slice (by omega) | exact slAt_opn (by omega)) ?_ -- index ('Go.Operand.tmp', 57) ('Go.Operand.tmp', 61)
    refine OkO.nil ⟨rfl, ?_⟩
    refine OkP.step ?_
    refine OkO.load rfl rfl (lda (n := 1) (by kernel_rfl) (by first | assumption | (simp (disch := first | omega | (simp only [hNw, hPt]; omega)) only [gn0, gn1, gn2, gn3, gn4, gn5, gp0, gno, gpo] <;> first | rfl | assumption | exact gp0 _ _ _ | exact gn0 _ _)) (by first | rfl | assumption)) ?_
    refine OkO.nil ⟨rfl, ?_⟩
    refine OkP.step ?_
    refine OkO.convert (k := .i64) rfl (by kernel_rfl) rfl (wrapF_i64 (by omega) (by omega)) ?_
    refine OkO.nil ⟨rfl, ?_⟩
    refine OkP.step ?_
    refine OkO.bin rfl rfl rfl (bin_rem (by omega) (by omega)) ?_
    refine OkO.nil ⟨rfl, ?_⟩
    refine OkP.step ?_
    refine OkO.buildSlice (el := 3) (sz := 1) (z := [.int .i64 0]) rfl (by kernel_rfl) (by decide) rfl rfl ?_
    refine OkO.nil ⟨(sco (sld rfl rfl (lda (n := 1) (by kernel_rfl) (by first | assumption | (simp (disch := first | omega | (simp only [hNw, hPt]; omega)) only [gn0, gn1, gn2, gn3, gn4, gn5, gp0, gno, gpo] <;> first | rfl | assumption | exact gp0 _ _ _ | exact gn0 _ _)) (by first | rfl | assumption)) rfl (eqr _ (by first | rfl | exact lpl (by assumption) | (simp [AV.plain, AV.plains, AV.cells, pev, Pst.c])))) (sco (svl rfl (ecb rfl rfl (bln (by kernel_rfl) (by first | assumption | rfl))) rfl (eqr _ rfl)) (sco (sld rfl rfl (lda (n := 1) (by kernel_rfl) (by first | assumption | (simp (disch := first | omega | (simp only [hNw, hPt]; omega)) only [gn0, gn1, gn2, gn3, gn4, gn5, gp0, gno, gpo] <;> first | rfl | assumption | exact gp0 _ _ _ | exact gn0 _ _)) (by first | rfl | assumption)) rfl (eqr _ (by first | rfl | exact lpl (by assumption) | (simp [AV.plain, AV.plains, AV.cells, pev, Pst.c])))) rfl))), ?_⟩
    refine OkP.step ?_
    refine OkO.builtinE rfl rfl rfl (Mine.app2 (W := W) (k0 := GK.next) (t := 22) (u := 22) (sz := 1) (by_ := 8) (e := 3) (n := 1) (new := [I (wz ws i)]) (mx.to (Grow.toNew _ _)) (hg.new _) (by omega) (by simp; omega) (by kernel_rfl) (by kernel_rfl) (elems_new (n := 1) (sz := 1) rfl) rfl rfl (by rw [List.length_map]; omega) (by omega) (by omega) rfl) ?_
    rintro x2 G1 ⟨r1, r2, r3, r4, r5, r6⟩
    simp only [hNw] at r5 r6
    have keepG : ∀ j, j < G.next → (∀ m, x ≠ .opn j m) → G1.get j = G.get j := fun j hj hne => by rw [r4 j (by simp; omega) hne]; exact gno _ _ _ (by omega)
    have g1v : G1.get vb = some (.opn vs 22 1) := by
                rw [keepG vb d8 (fun m hm => ?_)]
                · exact d5
                · rcases mx with ⟨h, _⟩ | ⟨b9, n9, a1, a2, _⟩
                  · rw [h] at hm; cases hm
                  · rw [a1] at hm; cases hm; rw [d5] at a2; cases a2
    have g1c : (G1.get vb).bind AObj.cs = some vs := by rw [g1v]; rfl
    have w2H : (G1.get wb).bind AObj.cs = some wcs := by rw [(hE _ r2).get _ w5]; exact w2
    obtain ⟨y1_, y2_⟩ := r1.one
    refine OkO.nil ⟨(sco (sld rfl rfl (lda (n := 1) (by kernel_rfl) (by first | assumption | (simp (disch := first | omega | (simp only [hNw, hPt]; omega)) only [gn0, gn1, gn2, gn3, gn4, gn5, gp0, gno, gpo] <;> first | rfl | assumption | exact gp0 _ _ _ | exact gn0 _ _)) (by first | rfl | assumption)) rfl (eqr _ (by first | rfl | exact lpl (by assumption) | (simp [AV.plain, AV.plains, AV.cells, pev, Pst.c])))) (sco (svl rfl (ecb rfl rfl (bln (by kernel_rfl) (by first | assumption | rfl))) rfl (eqr _ rfl)) rfl)), ?_⟩
    refine OkP.step ?_
    refine OkO.index (sz := 1) rfl rfl rfl (by kernel_rfl) (by first | assumption | rfl | exact slAt_slice (by omega) | exact slAt_opn (by omega)) ?_ -- index ('Go.Operand.tmp', 51) ('Go.Operand.tmp', 52)
    refine OkO.nil ⟨rfl, ?_⟩
    refine OkP.step ?_
    refine OkO.store rfl rfl rfl (storeAt_opn (n := 1) (ag := false) (l := vs.set i x2) (by kernel_rfl) g1v (by rw [y1_]; rfl) (by rw [y1_]; simp [atoms, y2_]) (by rw [y1_, spl_one (by omega)]; simp)) ?_
    refine OkO.nil ⟨rfl, ?_⟩
    refine OkP.nil ?_
    refine Ok.region ?_
    refine OkO.move rfl rfl ?_
    refine OkO.bin rfl rfl rfl (bin_add (by omega) (by omega)) ?_
    refine OkO.assign rfl rfl ?_
    refine OkO.nil ?_
    refine ⟨rows.length - (i + 1), by omega, i + 1, rfl, by omega, ?_, Has.of (by kernel_rfl), rfl, r2.put _ (by omega), ⟨by (simp; omega), fun j hj => ?_⟩⟩
    · obtain ⟨m9, hm9⟩ := r6
      rw [addR_succ hlt]
      refine RowsD.swap (x2 := x2) (r2 := rows[i] ++ [wz ws i]) (by rw [addR_len]; exact d1) (.inr ⟨vb, vn, rfl, d5, d6, d7, d8⟩) d3 d4 (by rw [addR_len]; exact hlt) hx ?_ (by omega) (by omega) keepG rfl rfl
      rw [List.map_append]
      exact r1.up hm9 (by omega)
    · rw [gpo _ _ _ _ (by omega), r3.get j hj (by simp; omega), gno _ _ _ (by omega)]
      exact exG.get j hj
  · -- no h1
    have hge : i = rows.length := by (have h9 : ¬ i < rows.length := by simpa using h1); omega
    subst hge
    have hDat := hRD.at
    have e0 : (G.get W.next).bind AObj.cs = some (p.c ev) := by rw [exG.get _ (by omega)]; exact aK
    have f0 : (G.get Ha.next).bind AObj.cs = some (p.c v2) := by rw [exG.get _ (by omega)]; exact bK
    have ivG := ivK.ext exG
    refine Ok.exit ?_
    refine Ok.seq ?_
    refine Ok.region ?_
    refine OkO.load rfl rfl (ldg (n := 6) (by kernel_rfl) (by first | assumption | (simp (disch := first | omega | (simp only [hNw, hPt]; omega)) only [gn0, gn1, gn2, gn3, gn4, gn5, gp0, gno, gpo] <;> first | rfl | assumption | exact gp0 _ _ _ | exact gn0 _ _)) (by first | rfl | assumption)) ?_
    refine OkO.callE rfl rfl rfl rfl rfl (c20 (m + 5) ev p _ (hV.ext (hE _ (by (try dsimp only); repeat (first | exact hg | apply Grow.new | (refine Grow.put ?_ _ (by first | omega | (simp only [hNw, hPt]; omega))))))) (by omega)) ?_ -- "sackung/sackunglaw04.Post"
    rintro _ Hc ⟨xc, rfl, qc, mc⟩
    have n1 := qc.ext.next
    try simp only [hNw, hPt] at n1
    have gg1 : Grow W Hc := Grow.ret (by (try dsimp only); repeat (first | exact hg | apply Grow.new | (refine Grow.put ?_ _ (by first | omega | (simp only [hNw, hPt]; omega))))) qc
    have e1 : (Hc.get (W.next)).bind AObj.cs = some (p.c ev) := by rw [qc.ext.get _ (by first | omega | (simp only [hNw, hPt]; omega))]; first | assumption | (rw [gn0]; rfl) | (rw [get_put_eq] <;> rfl) | (simp (disch := first | omega | (simp only [hNw, hPt]; omega)) only [gn0, gn1, gn2, gn3, gn4, gn5, gp0, gno, gpo] <;> first | rfl | assumption | (rw [get_put_eq] <;> rfl))
    have f1 : (Hc.get (Ha.next)).bind AObj.cs = some (p.c v2) := by rw [qc.ext.get _ (by first | omega | (simp only [hNw, hPt]; omega))]; first | assumption | (rw [gn0]; rfl) | (rw [get_put_eq] <;> rfl) | (simp (disch := first | omega | (simp only [hNw, hPt]; omega)) only [gn0, gn1, gn2, gn3, gn4, gn5, gp0, gno, gpo] <;> first | rfl | assumption | (rw [get_put_eq] <;> rfl))
    have exG1 : Ext G Hc := Ext.trans (by (try dsimp only); repeat (first | exact Ext.refl _ | exact Ext.refl _ | apply Ext.new | (refine Ext.put ?_ _ (by first | omega | (simp only [hNw, hPt]; omega))))) qc.ext
    have ic := mc.ints
    have plc : xc.plain = true := lpl ic.len
    have oc := mc.one
    refine OkO.move rfl rfl ?_
    refine OkO.callE rfl rfl rfl rfl rfl (c22 (m + 5) rv rows _ (hRs.ext (hE _ (by (try dsimp only); repeat (first | exact gg1 | apply Grow.new | (refine Grow.put ?_ _ (by first | omega | (simp only [hNw, hPt]; omega))))))) (by omega) ht4) ?_ -- "sackung/sackunglaw04.rows"
    rintro xd Hd ⟨qd, md⟩
    have n2 := qd.ext.next
    try simp only [hNw, hPt] at n2
    have gg2 : Grow W Hd := Grow.ret (by (try dsimp only); repeat (first | exact gg1 | apply Grow.new | (refine Grow.put ?_ _ (by first | omega | (simp only [hNw, hPt]; omega))))) qd
    have e2 : (Hd.get (W.next)).bind AObj.cs = some (p.c ev) := by rw [qd.ext.get _ (by first | omega | (simp only [hNw, hPt]; omega))]; first | assumption | (rw [gn0]; rfl) | (rw [get_put_eq] <;> rfl) | (simp (disch := first | omega | (simp only [hNw, hPt]; omega)) only [gn0, gn1, gn2, gn3, gn4, gn5, gp0, gno, gpo] <;> first | rfl | assumption | (rw [get_put_eq] <;> rfl))
    have f2 : (Hd.get (Ha.next)).bind AObj.cs = some (p.c v2) := by rw [qd.ext.get _ (by first | omega | (simp only [hNw, hPt]; omega))]; first | assumption | (rw [gn0]; rfl) | (rw [get_put_eq] <;> rfl) | (simp (disch := first | omega | (simp only [hNw, hPt]; omega)) only [gn0, gn1, gn2, gn3, gn4, gn5, gp0, gno, gpo] <;> first | rfl | assumption | (rw [get_put_eq] <;> rfl))
    have exG2 : Ext G Hd := Ext.trans (by (try dsimp only); repeat (first | exact exG1 | exact Ext.refl _ | apply Ext.new | (refine Ext.put ?_ _ (by first | omega | (simp only [hNw, hPt]; omega))))) qd.ext
    have exHc2 : Ext Hc Hd := Ext.trans (by (try dsimp only); repeat (first | exact Ext.refl _ | exact Ext.refl _ | apply Ext.new | (refine Ext.put ?_ _ (by first | omega | (simp only [hNw, hPt]; omega))))) qd.ext
    have id := md.at
    have pld : xd.plain = true := lpl id.len
    refine OkO.callV rfl rfl rfl rfl rfl (c21N (m + 0) xc xd p rows _ (ic.ext (by (try dsimp only); repeat (first | exact exHc2 | exact Ext.refl _ | apply Ext.new | (refine Ext.put ?_ _ (by first | omega | (simp only [hNw, hPt]; omega)))))) (id.ext (by (try dsimp only); repeat (first | exact Ext.refl _ | exact Ext.refl _ | apply Ext.new | (refine Ext.put ?_ _ (by first | omega | (simp only [hNw, hPt]; omega)))))) (by omega) (by omega) ht4 hf hposs0) ?_ -- "sackung/alarm.Levels"
    refine OkO.move rfl rfl ?_
    refine OkO.extract rfl rfl rfl ?_
    refine OkO.extract rfl rfl rfl ?_
    refine OkO.assign rfl rfl ?_
    refine OkO.assign rfl rfl ?_
    refine OkO.nil ?_
    refine Ok.seq ?_
    refine Ok.region ?_
    refine OkO.load rfl rfl (ldg (n := 6) (by kernel_rfl) (by first | assumption | (simp (disch := first | omega | (simp only [hNw, hPt]; omega)) only [gn0, gn1, gn2, gn3, gn4, gn5, gp0, gno, gpo] <;> first | rfl | assumption | exact gp0 _ _ _ | exact gn0 _ _)) (by first | rfl | assumption)) ?_
    refine OkO.move rfl rfl ?_
    refine OkO.callV rfl rfl rfl rfl rfl (c21N (m + 0) v2 xr (p.more (er0 % 20)) (addR ws rows.length rows) _ (ivG.ext (by (try dsimp only); repeat (first | exact exG2 | exact Ext.refl _ | apply Ext.new | (refine Ext.put ?_ _ (by first | omega | (simp only [hNw, hPt]; omega)))))) (hDat.ext (by (try dsimp only); repeat (first | exact exG2 | exact Ext.refl _ | apply Ext.new | (refine Ext.put ?_ _ (by first | omega | (simp only [hNw, hPt]; omega)))))) (by omega) (by rw [addR_len]; omega) ht4' hf' hposs1) ?_ -- "sackung/alarm.Levels"
    refine OkO.move rfl rfl ?_
    refine OkO.extract rfl rfl rfl ?_
    refine OkO.extract rfl rfl rfl ?_
    refine OkO.assign rfl rfl ?_
    refine OkO.assign rfl rfl ?_
    refine OkO.nil ?_
    refine Ok.seq ?_
    refine Ok.seq ?_
    refine Ok.region ?_
    refine OkO.move rfl rfl ?_
    refine OkO.bin rfl rfl rfl ((bin_neq _ _).trans (congrArg (fun b => some (AV.bool b)) (show _ = true from (by rfl)))) ?_
    refine OkO.nil ?_
    refine Ok.condT rfl ?_
    refine Ok.seq ?_
    refine Ok.region ?_
    refine OkO.move rfl rfl ?_
    refine OkO.bin rfl rfl rfl ((bin_eql _ _).trans (congrArg (fun b => some (AV.bool b)) (show _ = true from (by rfl)))) ?_
    refine OkO.move rfl rfl ?_
    refine OkO.move rfl rfl ?_
    refine OkO.bin rfl rfl rfl ((bin_eql _ _).trans (congrArg (fun b => some (AV.bool b)) (show _ = false from (by rfl)))) ?_
    refine OkO.move rfl rfl ?_
    refine OkO.move rfl rfl ?_
    refine OkO.bin rfl rfl rfl ((bin_eql _ _).trans (congrArg (fun b => some (AV.bool b)) (show _ = true from (by rfl)))) ?_
    refine OkO.pick (b := false) rfl rfl nofun (fun _ => rfl) ?_
    refine OkO.pick (b := true) rfl rfl (fun _ => rfl) nofun ?_
    refine OkO.move rfl rfl ?_
    refine OkO.callV rfl rfl rfl rfl rfl (rfl) ?_ -- "sackung/sackunglaw04.awake"
    refine OkO.pick (b := true) rfl rfl (fun _ => rfl) nofun ?_
    refine OkO.assign rfl rfl ?_
    refine OkO.nil ?_
    refine Ok.ret ⟨.inr rfl, ?_⟩
    exact back_flat rfl rfl rfl (by rw [← hW]; exact (by (try dsimp only); repeat (first | exact gg2 | apply Grow.new | (refine Grow.put ?_ _ (by first | omega | (simp only [hNw, hPt]; omega))))))
theorem c13T (m : Nat) (ev rv wv : AV) (p : Pst) (rows : List (List Int)) (er0 : Int) (ws : List Int) (H : Heap) (hV : Ints H ev p.errs) (hRs : LstAt H rv rows) (hWs : Row H wv 1 (ws.map U16c)) (hw : ∀ x ∈ ws, 0 ≤ x ∧ x ≤ 65535) (her0 : 0 ≤ er0 ∧ er0 ≤ 65535) : RR (m + 8) (.fn 13 [.agg (p.c ev), rv, .int .u16 er0, wv]) H = some (.bool true, H) := by
  cases hrd : (thinB p rows && decide (faultE p rows = 0)) with
  | false => exact c13W m ev rv wv p rows er0 ws H hV hRs hWs hw her0 hrd
  | true =>
    by_cases hp9 : p.errs.length ≤ 9
    · by_cases hwp : ws.length = 0
      · exact c13U m ev rv wv p rows er0 ws H hV hRs hWs hw her0 hrd hp9 hwp
      · have hf : faultE p rows = 0 := by
          rw [Bool.and_eq_true, decide_eq_true_eq] at hrd
          exact hrd.2
        have hlens := (faultE_facts hf).2.2.1
        cases hp1 : possB (p.more (er0 % 20)) (addR ws rows.length rows) (addR ws rows.length rows).length with
        | true => exact c13Y m ev rv wv p rows er0 ws H hV hRs hWs hw her0 hrd hp9 (by omega) (more_poss hlens hp1) hp1
        | false =>
          cases hp0 : possB p rows rows.length with
          | true => exact c13FY m ev rv wv p rows er0 ws H hV hRs hWs hw her0 hrd hp9 (by omega) hp0 hp1
          | false => exact c13FN m ev rv wv p rows er0 ws H hV hRs hWs hw her0 hrd hp9 (by omega) hp0 hp1
    · exact c13V m ev rv wv p rows er0 ws H hV hRs hWs hw her0 hrd (by omega)
end
end Go.Ev

