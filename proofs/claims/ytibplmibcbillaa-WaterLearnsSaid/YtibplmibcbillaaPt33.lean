/-
  Functions of the program, reckoned by the evaluator: what each answers, and that it leaves what came in as it was.
-/
import Derived.Test.YtibplmibcbillaaPt32
import Derived.Test.YtibplmibcbillaaEvY
import Derived.WideShapes
import Derived.Carry
import Derived.Test.YtibplmibcbillaaEvNe
import Derived.IntWalk
set_option maxRecDepth 100000
set_option linter.unusedSimpArgs false
set_option linter.unusedVariables false
namespace Go.Ev
open Go Go.Proofs
noncomputable section
theorem flatA {a : AV} {l : List AV} (h : (AV.agg (a :: l)).flat = true) : a.flat = true := by
  rw [AV.flat, AV.flats] at h
  cases hq : a.flat with
  | true => rfl
  | false => rw [hq] at h; cases h
theorem c19 (m : Nat) (cv : AV) (cs : List Cell) (g : Gr) (H : Heap) (hR : Row H cv 7 (cs.map Cell.c)) (hbig : cs.length ≤ 1000) : ∃ v H', RR (m + 2) (.fn 19 [.agg [cv, I g.slo, I g.shi, I g.klo, I g.khi, I g.melt]]) H = some (v, H') ∧ ∃ cv', v = .agg [cv', I g.slo, I g.shi, I g.klo, I g.khi, I g.melt] ∧ Ret H H' ∧ Row H' cv' 7 (cs.map Cell.c) ∧ cv'.atom = true := by
  show ∃ v H', evFn Try.prog (RR (m + 1)) 19 [.agg [cv, I g.slo, I g.shi, I g.klo, I g.khi, I g.melt]] H = some (v, H') ∧ ∃ cv', v = .agg [cv', I g.slo, I g.shi, I g.klo, I g.khi, I g.melt] ∧ Ret H H' ∧ Row H' cv' 7 (cs.map Cell.c) ∧ cv'.atom = true
  refine fn_okE Try.func19 rfl rfl (by kernel_rfl) (by kernel_rfl) ?_
  obtain ⟨W, hW, hg, hN, hE, hG⟩ := wOf H
  rw [← hW]
  have hlc : lenOf cv = some cs.length := by simpa using hR.len
  refine kS ?_; refine kR ?_; refine OkO.box rfl rfl ?_; refine OkO.alloc (z := [.nils, .int .i64 0, .int .i64 0, .int .i64 0, .int .i64 0, .int .i64 0]) rfl (by kernel_rfl) ?_; refine oN ?_; refine kS ?_; refine Ok.drawn [(0, true, []), (1, true, []), (3, true, []), (4, true, []), (6, true, []), (7, true, []), (9, true, [7, 4, 1]), (2, false, [7, 4]), (5, false, [7, 1]), (8, true, []), (10, false, [])] (by kernel_rfl) ?_; refine pS ?_; refine oF (o := 1) rfl (by kernel_rfl) rfl ?_; refine oN ⟨rfl, ?_⟩; refine pS ?_; refine oL rfl rfl (ldg (n := 2) (by kernel_rfl) (by first | assumption | (simp (disch := first | omega | (simp only [hNw, hPt]; omega)) only [gN] <;> first | rfl | assumption)) (by first | rfl | assumption)) ?_; refine oN ⟨rfl, ?_⟩; refine pS ?_; refine oF (o := 3) rfl (by kernel_rfl) rfl ?_; refine oN ⟨rfl, ?_⟩; refine pS ?_; refine oL rfl rfl (ldg (n := 2) (by kernel_rfl) (by first | assumption | (simp (disch := first | omega | (simp only [hNw, hPt]; omega)) only [gN] <;> first | rfl | assumption)) (by first | rfl | assumption)) ?_; refine oN ⟨rfl, ?_⟩; refine pS ?_; refine oF (o := 5) rfl (by kernel_rfl) rfl ?_; refine oN ⟨rfl, ?_⟩; refine pS ?_; refine oL rfl rfl (lda (n := 1) (by kernel_rfl) (by first | assumption | (simp (disch := first | omega | (simp only [hNw, hPt]; omega)) only [gN] <;> first | rfl | assumption)) (by first | rfl | assumption)) ?_; refine oN ⟨rfl, ?_⟩; refine pS ?_; refine OkO.alloc (z := [.nils, .int .i64 0, .int .i64 0, .int .i64 0, .int .i64 0, .int .i64 0]) rfl (by kernel_rfl) ?_
  refine oN ⟨(sco (sld rfl rfl (lda (n := 1) (by kernel_rfl) (by first | assumption | (simp (disch := first | omega | (simp only [hNw, hPt]; omega)) only [gN] <;> first | rfl | assumption)) (by first | rfl | assumption)) rfl (eqr _ (by first | rfl | exact lpl (by assumption) | (simp [AV.plain, AV.plains, AV.plain])))) (sco (sld rfl rfl (ldg (n := 2) (by kernel_rfl) (by first | assumption | (simp (disch := first | omega | (simp only [hNw, hPt]; omega)) only [gN] <;> first | rfl | assumption)) (by first | rfl | assumption)) rfl (eqr _ (by first | rfl | exact lpl (by assumption) | (simp [AV.plain, AV.plains, AV.plain])))) (sco (sld rfl rfl (ldg (n := 2) (by kernel_rfl) (by first | assumption | (simp (disch := first | omega | (simp only [hNw, hPt]; omega)) only [gN] <;> first | rfl | assumption)) (by first | rfl | assumption)) rfl (eqr _ (by first | rfl | exact lpl (by assumption) | (simp [AV.plain, AV.plains, AV.plain])))) rfl))), ?_⟩; refine pS ?_; refine oV rfl rfl rfl rfl rfl (c52 _ _ _ _) ?_
  refine oN ⟨(sco (sld rfl rfl (lda (n := 1) (by kernel_rfl) (by first | assumption | (simp (disch := first | omega | (simp only [hNw, hPt]; omega)) only [gN] <;> first | rfl | assumption)) (by first | rfl | assumption)) rfl (eqr _ (by first | rfl | exact lpl (by assumption) | (simp [AV.plain, AV.plains, AV.plain])))) (sco (sld rfl rfl (ldg (n := 2) (by kernel_rfl) (by first | assumption | (simp (disch := first | omega | (simp only [hNw, hPt]; omega)) only [gN] <;> first | rfl | assumption)) (by first | rfl | assumption)) rfl (eqr _ (by first | rfl | exact lpl (by assumption) | (simp [AV.plain, AV.plains, AV.plain])))) rfl)), ?_⟩; refine pS ?_; refine oV rfl rfl rfl rfl rfl (c52 _ _ _ _) ?_
  refine oN ⟨(sco (sld rfl rfl (lda (n := 1) (by kernel_rfl) (by first | assumption | (simp (disch := first | omega | (simp only [hNw, hPt]; omega)) only [gN] <;> first | rfl | assumption)) (by first | rfl | assumption)) rfl (eqr _ (by first | rfl | exact lpl (by assumption) | (simp [AV.plain, AV.plains, AV.plain])))) (sco (sld rfl rfl (ldg (n := 2) (by kernel_rfl) (by first | assumption | (simp (disch := first | omega | (simp only [hNw, hPt]; omega)) only [gN] <;> first | rfl | assumption)) (by first | rfl | assumption)) rfl (eqr _ (by first | rfl | exact lpl (by assumption) | (simp [AV.plain, AV.plains, AV.plain])))) rfl)), ?_⟩; refine pS ?_; refine OkO.build (z := [.nils, .int .i64 0, .int .i64 0, .int .i64 0, .int .i64 0, .int .i64 0]) (pl := [(0, 1), (1, 2), (3, 2), (5, 1)]) rfl (by kernel_rfl) rfl rfl ?_; refine oN ⟨rfl, ?_⟩; refine pS ?_; refine oT rfl rfl rfl (sAc (n := 6) (ag := true) (by kernel_rfl) (by first | assumption | (simp (disch := first | omega | (simp only [hNw, hPt]; omega)) only [gN] <;> first | rfl | assumption)) rfl rfl (by first | rfl | exact spl_set _ _ _ (by first | assumption | (simp; omega)))) ?_; refine oN ⟨rfl, ?_⟩; refine OkP.nil ?_; refine kS ?_; refine kS ?_; refine kR ?_; refine oA rfl rfl ?_; refine oN ?_; refine Ok.block ?_
  refine Ok.loop (fun n s => ∃ (i : Nat) (v3 : AV), n = cs.length - i ∧ i ≤ cs.length ∧ Mine (W.next + 3) s.H v3 80 7 ((cs.take i).map Cell.c).flatten ∧ Has 6 [(1, .ptr W.next 0), (2, .ptr (W.next + 1) 0), (3, .ptr (W.next + 2) 0), (4, I (i : Int))] s.T ∧ s.D = [] ∧ Grow W s.H ∧ s.H.get W.next = some (.cells [cv, I g.slo, I g.shi, I g.klo, I g.khi, I g.melt] 26) ∧ s.H.get (W.next + 1) = some (.cells [.nils, I 0, I 0, I 0, I 0, I 0] 38) ∧ s.H.get (W.next + 2) = some (.cells [v3, I g.slo, I g.shi, I g.klo, I g.khi, I g.melt] 38) ∧ W.next + 3 ≤ s.H.next) (cs.length) (by unfold loopFuel; omega)
    ⟨0, .nils, rfl, Nat.zero_le _, Mine.nil _ _ _ _, Has.of (by kernel_rfl), rfl, (by (try dsimp only); repeat (first | exact hG | apply Grow.new | (refine Grow.put ?_ _ (by first | omega | (simp only [hNw, hPt]; omega))))), (by simp (disch := first | omega | (simp only [hNw, hPt]; omega)) only [gN] <;> first | rfl | assumption), (by simp (disch := first | omega | (simp only [hNw, hPt]; omega)) only [gN] <;> first | rfl | assumption), by first | exact gp0 _ _ _ | (simp (disch := first | omega | (simp only [hNw, hPt]; omega)) only [gN] <;> first | rfl | assumption), by simp⟩ ?_
  rintro n ⟨T, D, G⟩ ⟨i, v3, hn, hi, hm, ⟨f, hT⟩, hD, hg, f0, f1, f2, hb4⟩
  dsimp only at *
  subst hT hD
  have hgn := hg.next
  obtain ⟨l3, hl3, _⟩ := hm.len
  have e0 : (G.get W.next).bind AObj.cs = some [cv, I g.slo, I g.shi, I g.klo, I g.khi, I g.melt] := by rw [f0]; rfl
  have e2 : (G.get (W.next + 2)).bind AObj.cs = some [v3, I g.slo, I g.shi, I g.klo, I g.khi, I g.melt] := by rw [f2]; rfl
  refine kS ?_; refine kS ?_; refine kR ?_; refine oM rfl rfl ?_; refine oF (o := 0) rfl (by kernel_rfl) rfl ?_; refine oL rfl rfl (lda (n := 1) (by kernel_rfl) (by first | assumption | (simp (disch := first | omega | (simp only [hNw, hPt]; omega)) only [gN] <;> first | rfl | assumption)) (by first | rfl | assumption)) ?_; refine oB rfl rfl rfl qbl ?_; refine OkO.bin rfl rfl rfl (bin_lss _ _) ?_; refine oN ?_
  refine Ok.cond rfl (fun h1 => ?_) (fun h1 => ?_)
  · have hlt : i < cs.length := by simpa using h1
    obtain ⟨bb, off, ccs, i1, i2, i3, i4⟩ := (hR.ext (hE _ hg)).at_ i cs[i].c (by simp [hlt])
    have hne : bb ≠ G.next := by omega
    have hml : ((cs.take i).map Cell.c).flatten.length = i * 7 := by rw [flat_len _ 7 (fun x hx => by simp only [List.mem_map] at hx; obtain ⟨y, _, rfl⟩ := hx; rfl)]; simp; omega
    refine Ok.skip ?_; refine kS ?_; refine Ok.block ?_; refine kS ?_; refine kR ?_; refine oF (o := 0) rfl (by kernel_rfl) rfl ?_; refine oL rfl rfl (lda (n := 1) (by kernel_rfl) (by first | assumption | (simp (disch := first | omega | (simp only [hNw, hPt]; omega)) only [gN] <;> first | rfl | assumption)) (by first | rfl | assumption)) ?_; refine oM rfl rfl ?_; refine qX (sz := 7) (n := i) rfl rfl rfl ?_; refine oL rfl rfl (ldg (n := 7) (by kernel_rfl) (by first | assumption | (simp (disch := first | omega | (simp only [hNw, hPt]; omega)) only [gN] <;> first | rfl | assumption)) (by first | rfl | assumption)) ?_; refine OkO.alloc (z := [.int .i64 0, .int .i64 0, .int .i64 0, .int .i64 0, .int .i64 0, .int .i64 0, .int .i64 0]) rfl (by kernel_rfl) ?_; refine oT rfl rfl rfl (sAc (n := 7) (ag := true) (by kernel_rfl) (by first | assumption | (simp (disch := first | omega | (simp only [hNw, hPt]; omega)) only [gN] <;> first | rfl | assumption)) rfl rfl (by first | rfl | exact spl_set _ _ _ (by first | assumption | (simp; omega)))) ?_; refine oN ?_; refine Ok.drawn [(0, true, []), (1, true, []), (2, true, []), (3, true, []), (5, true, []), (6, true, []), (7, true, []), (8, true, []), (9, true, []), (10, true, []), (11, true, []), (12, true, []), (13, true, []), (14, true, []), (4, false, [14, 12, 10, 8, 6, 1]), (15, true, []), (16, true, [14, 12, 10, 8, 6, 3, 1]), (17, false, [14, 12, 10, 8, 6, 3]), (18, true, []), (19, false, [])] (by kernel_rfl) ?_; refine pS ?_; refine oF (o := 0) rfl (by kernel_rfl) rfl ?_; refine oN ⟨rfl, ?_⟩; refine pS ?_; refine oL rfl rfl (lda (n := 1) (by kernel_rfl) (by first | assumption | (simp (disch := first | omega | (simp only [hNw, hPt]; omega)) only [gN] <;> first | rfl | assumption)) (by first | rfl | assumption)) ?_; refine oN ⟨rfl, ?_⟩; refine pS ?_; refine oF (o := 0) rfl (by kernel_rfl) rfl ?_; refine oN ⟨rfl, ?_⟩; refine pS ?_; refine oL rfl rfl (ldg (n := 2) (by kernel_rfl) (by first | assumption | (simp (disch := first | omega | (simp only [hNw, hPt]; omega)) only [gN] <;> first | rfl | assumption)) (by first | rfl | assumption)) ?_; refine oN ⟨rfl, ?_⟩; refine pS ?_; refine oF (o := 2) rfl (by kernel_rfl) rfl ?_; refine oN ⟨rfl, ?_⟩; refine pS ?_; refine oL rfl rfl (lda (n := 1) (by kernel_rfl) (by first | assumption | (simp (disch := first | omega | (simp only [hNw, hPt]; omega)) only [gN] <;> first | rfl | assumption)) (by first | rfl | assumption)) ?_; refine oN ⟨rfl, ?_⟩; refine pS ?_; refine oF (o := 3) rfl (by kernel_rfl) rfl ?_; refine oN ⟨rfl, ?_⟩; refine pS ?_; refine oL rfl rfl (lda (n := 1) (by kernel_rfl) (by first | assumption | (simp (disch := first | omega | (simp only [hNw, hPt]; omega)) only [gN] <;> first | rfl | assumption)) (by first | rfl | assumption)) ?_; refine oN ⟨rfl, ?_⟩; refine pS ?_; refine oF (o := 4) rfl (by kernel_rfl) rfl ?_; refine oN ⟨rfl, ?_⟩; refine pS ?_; refine oL rfl rfl (lda (n := 1) (by kernel_rfl) (by first | assumption | (simp (disch := first | omega | (simp only [hNw, hPt]; omega)) only [gN] <;> first | rfl | assumption)) (by first | rfl | assumption)) ?_; refine oN ⟨rfl, ?_⟩; refine pS ?_; refine oF (o := 5) rfl (by kernel_rfl) rfl ?_; refine oN ⟨rfl, ?_⟩; refine pS ?_; refine oL rfl rfl (lda (n := 1) (by kernel_rfl) (by first | assumption | (simp (disch := first | omega | (simp only [hNw, hPt]; omega)) only [gN] <;> first | rfl | assumption)) (by first | rfl | assumption)) ?_; refine oN ⟨rfl, ?_⟩; refine pS ?_; refine oF (o := 6) rfl (by kernel_rfl) rfl ?_; refine oN ⟨rfl, ?_⟩; refine pS ?_; refine oL rfl rfl (lda (n := 1) (by kernel_rfl) (by first | assumption | (simp (disch := first | omega | (simp only [hNw, hPt]; omega)) only [gN] <;> first | rfl | assumption)) (by first | rfl | assumption)) ?_; refine oN ⟨rfl, ?_⟩; refine pS ?_; refine oV rfl rfl rfl rfl rfl (c52 _ _ _ _) ?_
    refine oN ⟨(sco (sld rfl rfl (lda (n := 1) (by kernel_rfl) (by first | assumption | (simp (disch := first | omega | (simp only [hNw, hPt]; omega)) only [gN] <;> first | rfl | assumption)) (by first | rfl | assumption)) rfl (eqr _ (by first | rfl | exact lpl (by assumption) | (simp [AV.plain, AV.plains, AV.plain])))) (sco (sld rfl rfl (lda (n := 1) (by kernel_rfl) (by first | assumption | (simp (disch := first | omega | (simp only [hNw, hPt]; omega)) only [gN] <;> first | rfl | assumption)) (by first | rfl | assumption)) rfl (eqr _ (by first | rfl | exact lpl (by assumption) | (simp [AV.plain, AV.plains, AV.plain])))) (sco (sld rfl rfl (lda (n := 1) (by kernel_rfl) (by first | assumption | (simp (disch := first | omega | (simp only [hNw, hPt]; omega)) only [gN] <;> first | rfl | assumption)) (by first | rfl | assumption)) rfl (eqr _ (by first | rfl | exact lpl (by assumption) | (simp [AV.plain, AV.plains, AV.plain])))) (sco (sld rfl rfl (lda (n := 1) (by kernel_rfl) (by first | assumption | (simp (disch := first | omega | (simp only [hNw, hPt]; omega)) only [gN] <;> first | rfl | assumption)) (by first | rfl | assumption)) rfl (eqr _ (by first | rfl | exact lpl (by assumption) | (simp [AV.plain, AV.plains, AV.plain])))) (sco (sld rfl rfl (lda (n := 1) (by kernel_rfl) (by first | assumption | (simp (disch := first | omega | (simp only [hNw, hPt]; omega)) only [gN] <;> first | rfl | assumption)) (by first | rfl | assumption)) rfl (eqr _ (by first | rfl | exact lpl (by assumption) | (simp [AV.plain, AV.plains, AV.plain])))) (sco (sld rfl rfl (lda (n := 1) (by kernel_rfl) (by first | assumption | (simp (disch := first | omega | (simp only [hNw, hPt]; omega)) only [gN] <;> first | rfl | assumption)) (by first | rfl | assumption)) rfl (eqr _ (by first | rfl | exact lpl (by assumption) | (simp [AV.plain, AV.plains, AV.plain])))) rfl)))))), ?_⟩; refine pS ?_; refine OkO.build (z := [.int .i64 0, .int .i64 0, .int .i64 0, .int .i64 0, .int .i64 0, .int .i64 0, .int .i64 0]) (pl := [(0, 2), (2, 1), (3, 1), (4, 1), (5, 1), (6, 1)]) rfl (by kernel_rfl) rfl rfl ?_; refine oN ⟨rfl, ?_⟩; refine pS ?_; refine OkO.buildSlice (el := 80) (sz := 7) (z := [.int .i64 0, .int .i64 0, .int .i64 0, .int .i64 0, .int .i64 0, .int .i64 0, .int .i64 0]) rfl (by kernel_rfl) (by decide) rfl rfl ?_
    refine oN ⟨(sco (sld rfl rfl (lda (n := 1) (by kernel_rfl) (by first | assumption | (simp (disch := first | omega | (simp only [hNw, hPt]; omega)) only [gN] <;> first | rfl | assumption)) (by first | rfl | assumption)) rfl (eqr _ (by first | rfl | exact lpl (by assumption) | (simp [AV.plain, AV.plains, AV.plain])))) (sco (sld rfl rfl (lda (n := 1) (by kernel_rfl) (by first | assumption | (simp (disch := first | omega | (simp only [hNw, hPt]; omega)) only [gN] <;> first | rfl | assumption)) (by first | rfl | assumption)) rfl (eqr _ (by first | rfl | exact lpl (by assumption) | (simp [AV.plain, AV.plains, AV.plain])))) (sco (sld rfl rfl (lda (n := 1) (by kernel_rfl) (by first | assumption | (simp (disch := first | omega | (simp only [hNw, hPt]; omega)) only [gN] <;> first | rfl | assumption)) (by first | rfl | assumption)) rfl (eqr _ (by first | rfl | exact lpl (by assumption) | (simp [AV.plain, AV.plains, AV.plain])))) (sco (sld rfl rfl (lda (n := 1) (by kernel_rfl) (by first | assumption | (simp (disch := first | omega | (simp only [hNw, hPt]; omega)) only [gN] <;> first | rfl | assumption)) (by first | rfl | assumption)) rfl (eqr _ (by first | rfl | exact lpl (by assumption) | (simp [AV.plain, AV.plains, AV.plain])))) (sco (sld rfl rfl (lda (n := 1) (by kernel_rfl) (by first | assumption | (simp (disch := first | omega | (simp only [hNw, hPt]; omega)) only [gN] <;> first | rfl | assumption)) (by first | rfl | assumption)) rfl (eqr _ (by first | rfl | exact lpl (by assumption) | (simp [AV.plain, AV.plains, AV.plain])))) (sco (sld rfl rfl (ldg (n := 2) (by kernel_rfl) (by first | assumption | (simp (disch := first | omega | (simp only [hNw, hPt]; omega)) only [gN] <;> first | rfl | assumption)) (by first | rfl | assumption)) rfl (eqr _ (by first | rfl | exact lpl (by assumption) | (simp [AV.plain, AV.plains, AV.plain])))) (sco (sld rfl rfl (lda (n := 1) (by kernel_rfl) (by first | assumption | (simp (disch := first | omega | (simp only [hNw, hPt]; omega)) only [gN] <;> first | rfl | assumption)) (by first | rfl | assumption)) rfl (eqr _ (by first | rfl | exact lpl (by assumption) | (simp [AV.plain, AV.plains, AV.plain])))) rfl))))))), ?_⟩; refine pS ?_; refine OkO.builtinE rfl rfl rfl (Mine.app2 (k0 := W.next + 3) (sz := 7) (by_ := 56) (e := 80) (n := 1) (new := cs[i].c) (hm.to (by (try dsimp only); repeat (first | exact Ext.refl _ | assumption | apply Ext.new | (refine Ext.put ?_ _ (by first | omega | (simp only [hNw, hPt]; omega)))))) (by (try dsimp only); repeat (first | (first | exact hg | exact hG) | apply Grow.new | (refine Grow.put ?_ _ (by first | omega | (simp only [hNw, hPt]; omega))))) (by omega) (by first | omega | (simp only [hNw, hPt]; omega)) (by kernel_rfl) (by kernel_rfl) (elems_new (n := 1) (sz := 7) rfl) rfl rfl (by rw [hml]; omega) (by omega) (by omega) rfl) ?_
    rintro v2 G2 ⟨q1, q2, q3, q4, q5, q6⟩
    simp only [hNw, hPt] at q5
    have z0 : G2.get (W.next) = some (.cells [cv, I g.slo, I g.shi, I g.klo, I g.khi, I g.melt] 26) := by rw [q3.get _ (by omega) (by first | omega | (simp only [hNw, hPt]; omega))]; (simp (disch := first | omega | (simp only [hNw, hPt]; omega)) only [gN] <;> first | rfl | assumption)
    have z1 : G2.get (W.next + 1) = some (.cells [.nils, I 0, I 0, I 0, I 0, I 0] 38) := by rw [q3.get _ (by omega) (by first | omega | (simp only [hNw, hPt]; omega))]; (simp (disch := first | omega | (simp only [hNw, hPt]; omega)) only [gN] <;> first | rfl | assumption)
    have z2 : G2.get (W.next + 2) = some (.cells [v3, I g.slo, I g.shi, I g.klo, I g.khi, I g.melt] 38) := by rw [q3.get _ (by omega) (by first | omega | (simp only [hNw, hPt]; omega))]; (simp (disch := first | omega | (simp only [hNw, hPt]; omega)) only [gN] <;> first | rfl | assumption)
    have z3 : G2.get G.next = some (.cells cs[i].c 91) := by rw [q4 _ (by first | omega | (simp only [hNw, hPt]; omega)) (fun m hm2 => by have := hm.lt hm2; omega)]; (simp (disch := first | omega | (simp only [hNw, hPt]; omega)) only [gN] <;> first | rfl | assumption)
    have y0 : (G2.get (W.next)).bind AObj.cs = some [cv, I g.slo, I g.shi, I g.klo, I g.khi, I g.melt] := by rw [z0]; rfl
    have y1 : (G2.get (W.next + 1)).bind AObj.cs = some [.nils, I 0, I 0, I 0, I 0, I 0] := by rw [z1]; rfl
    have y2 : (G2.get (W.next + 2)).bind AObj.cs = some [v3, I g.slo, I g.shi, I g.klo, I g.khi, I g.melt] := by rw [z2]; rfl
    have y3 : (G2.get (G.next)).bind AObj.cs = some cs[i].c := by rw [z3]; rfl
    obtain ⟨bb2, mm, hv2⟩ : ∃ b m, v2 = .opn b m := (let ⟨m, h⟩ := q6; ⟨_, m, h⟩)
    subst hv2
    refine oN ⟨(sco (sld rfl rfl (lda (n := 1) (by kernel_rfl) (by first | assumption | (simp (disch := first | omega | (simp only [hNw, hPt]; omega)) only [gN] <;> first | rfl | assumption)) (by first | rfl | assumption)) rfl (eqr _ (by first | rfl | exact lpl (by assumption) | (simp [AV.plain, AV.plains, AV.plain])))) (sco (sld rfl rfl (lda (n := 1) (by kernel_rfl) (by first | assumption | (simp (disch := first | omega | (simp only [hNw, hPt]; omega)) only [gN] <;> first | rfl | assumption)) (by first | rfl | assumption)) rfl (eqr _ (by first | rfl | exact lpl (by assumption) | (simp [AV.plain, AV.plains, AV.plain])))) (sco (sld rfl rfl (lda (n := 1) (by kernel_rfl) (by first | assumption | (simp (disch := first | omega | (simp only [hNw, hPt]; omega)) only [gN] <;> first | rfl | assumption)) (by first | rfl | assumption)) rfl (eqr _ (by first | rfl | exact lpl (by assumption) | (simp [AV.plain, AV.plains, AV.plain])))) (sco (sld rfl rfl (lda (n := 1) (by kernel_rfl) (by first | assumption | (simp (disch := first | omega | (simp only [hNw, hPt]; omega)) only [gN] <;> first | rfl | assumption)) (by first | rfl | assumption)) rfl (eqr _ (by first | rfl | exact lpl (by assumption) | (simp [AV.plain, AV.plains, AV.plain])))) (sco (sld rfl rfl (lda (n := 1) (by kernel_rfl) (by first | assumption | (simp (disch := first | omega | (simp only [hNw, hPt]; omega)) only [gN] <;> first | rfl | assumption)) (by first | rfl | assumption)) rfl (eqr _ (by first | rfl | exact lpl (by assumption) | (simp [AV.plain, AV.plains, AV.plain])))) (sco (sld rfl rfl (ldg (n := 2) (by kernel_rfl) (by first | assumption | (simp (disch := first | omega | (simp only [hNw, hPt]; omega)) only [gN] <;> first | rfl | assumption)) (by first | rfl | assumption)) rfl (eqr _ (by first | rfl | exact lpl (by assumption) | (simp [AV.plain, AV.plains, AV.plain])))) rfl)))))), ?_⟩; refine pS ?_; refine oF (o := 0) rfl (by kernel_rfl) rfl ?_; refine oN ⟨rfl, ?_⟩; refine pS ?_; refine oT rfl rfl rfl (sAc (n := 1) (ag := false) (by kernel_rfl) (by first | assumption | (simp (disch := first | omega | (simp only [hNw, hPt]; omega)) only [gN] <;> first | rfl | assumption)) rfl rfl (by first | rfl | exact spl_set _ _ _ (by first | assumption | (simp; omega)))) ?_; refine oN ⟨rfl, ?_⟩; refine OkP.nil ?_; refine kR ?_; refine oM rfl rfl ?_; refine OkO.bin rfl rfl rfl (bin_add (by omega) (by omega)) ?_; refine oA rfl rfl ?_; refine oN ?_
    refine ⟨cs.length - (i + 1), by omega, i + 1, .opn bb2 mm, rfl, hlt, ?_, Has.of (by kernel_rfl), rfl, q2.put _ (by omega), by rw [gpo _ _ _ _ (by omega)]; exact z0, by rw [gpo _ _ _ _ (by omega)]; exact z1, gp0 _ _ _, by simp only [hPt]; omega⟩
    rw [flat_take _ _ _ hlt]; exact q1.put _ (by omega)
  · have hge : i = cs.length := by simp at h1; omega
    subst hge
    obtain ⟨a1, a2⟩ := hm.one
    refine Ok.exit ?_; refine kS ?_; refine kR ?_; refine oL rfl rfl (ldg (n := 6) (by kernel_rfl) (by first | assumption | (simp (disch := first | omega | (simp only [hNw, hPt]; omega)) only [gN] <;> first | rfl | assumption)) (by first | rfl | assumption)) ?_; refine oT rfl rfl rfl (sAc (n := 6) (ag := true) (l := [v3, I g.slo, I g.shi, I g.klo, I g.khi, I g.melt]) (by kernel_rfl) (by first | assumption | simp (disch := first | omega | (simp only [hNw, hPt]; omega)) only [gN] <;> first | rfl | assumption) rfl (by show atoms [v3, I g.slo, I g.shi, I g.klo, I g.khi, I g.melt] = true; simp [atoms, a2, show ∀ z, (I z).atom = true from fun _ => rfl]) rfl) ?_; refine oN ?_
    refine Ok.ret ⟨.inr rfl, ?_⟩
    refine back_newA (resV_cell (b := W.next + 1) (off := 0) rfl (ldg (n := 6) (by kernel_rfl) (by first | assumption | (simp (disch := first | omega | (simp only [hNw, hPt]; omega)) only [gN] <;> first | rfl | assumption)) rfl) resV_nil) rfl (by rw [← hW]; exact (by (try dsimp only); repeat (first | (first | exact hg | exact hG) | apply Grow.new | (refine Grow.put ?_ _ (by first | omega | (simp only [hNw, hPt]; omega)))))) (fun H2 r2 r3 => ⟨v3, rfl, r2, ?_, a2⟩)
    have hmp := hm.put (n := W.next + 1) (.cells [v3, I g.slo, I g.shi, I g.klo, I g.khi, I g.melt] 38) (by omega)
    rw [List.take_length] at hmp
    refine (Mine.back (H := H) hmp (fun x hx => by simp only [List.mem_map] at hx; obtain ⟨y, _, rfl⟩ := hx; rfl) (by omega) (r3.imp (fun h => ⟨h.1, flatA h.2⟩) id)).1
theorem c21 (m : Nat) (dv : AV) (ds : List Day) (H : Heap) (hY : Row H dv 3 (ds.map Day.c)) (hbig : ds.length ≤ 1000) : ∃ v H', RR (m + 2) (.fn 21 [dv]) H = some (v, H') ∧ Ret H H' ∧ Row H' v 3 (ds.map Day.c) ∧ v.atom = true := by
  show ∃ v H', evFn Try.prog (RR (m + 1)) 21 [dv] H = some (v, H') ∧ Ret H H' ∧ Row H' v 3 (ds.map Day.c) ∧ v.atom = true
  refine fn_okE Try.func21 rfl rfl (by kernel_rfl) (by kernel_rfl) ?_
  obtain ⟨W, hW, hg, hN, hE, hG⟩ := wOf H
  rw [← hW]
  have hld : lenOf dv = some ds.length := by simpa using hY.len
  refine kS ?_; refine kR ?_; refine oA rfl rfl ?_; refine oN ?_; refine kS ?_; refine kR ?_; refine oA rfl rfl ?_; refine oN ?_; refine kS ?_; refine kS ?_; refine kR ?_; refine oA rfl rfl ?_; refine oN ?_; refine Ok.block ?_
  refine Ok.loop (fun n s => ∃ (i : Nat) (v3 : AV), n = ds.length - i ∧ i ≤ ds.length ∧ Mine W.next s.H v3 82 3 ((ds.take i).map Day.c).flatten ∧ Has 5 [(0, dv), (2, .nils), (3, v3), (4, I (i : Int))] s.T ∧ s.D = [] ∧ Grow W s.H) (ds.length) (by unfold loopFuel; omega)
    ⟨0, .nils, rfl, Nat.zero_le _, Mine.nil _ _ _ _, Has.of (by kernel_rfl), rfl, hG⟩ ?_
  rintro n ⟨T, D, G⟩ ⟨i, v3, hn, hi, hm, ⟨f, hT⟩, hD, hg⟩
  dsimp only at *
  subst hT hD
  have hgn := hg.next
  refine kS ?_; refine kS ?_; refine kR ?_; refine oM rfl rfl ?_; refine oM rfl rfl ?_; refine oB rfl rfl rfl qbl ?_; refine OkO.bin rfl rfl rfl (bin_lss _ _) ?_; refine oN ?_
  refine Ok.cond rfl (fun h1 => ?_) (fun h1 => ?_)
  · have hlt : i < ds.length := by simpa using h1
    obtain ⟨bb, off, ccs, i1, i2w, i3, i4⟩ := (hY.ext (hE W hG)).at_ i ds[i].c (by simp [hlt])
    have i2 : (G.get bb).bind AObj.cs = some ccs := by rw [hg.get _ i4]; exact i2w
    have i4g : bb < G.next := by omega
    have i5 : seg ccs (off + 0) 2 = some [I ds[i].lo, I ds[i].hi] := seg_sub i3 0 2 (by omega) (by omega)
    have i6 : ccs[off + 2]? = some (I ds[i].warm) := seg_get i3 2 (by omega)
    have hml : ((ds.take i).map Day.c).flatten.length = i * 3 := by rw [flat_len _ 3 (fun x hx => by simp only [List.mem_map] at hx; obtain ⟨y, _, rfl⟩ := hx; rfl)]; simp; omega
    refine Ok.skip ?_; refine kS ?_; refine Ok.block ?_; refine Ok.drawn [(0, true, []), (1, true, []), (2, true, []), (3, true, []), (4, true, []), (5, true, []), (7, true, []), (8, true, []), (9, true, []), (10, true, []), (11, true, []), (6, false, [11]), (12, true, []), (13, true, [11, 5]), (14, false, [11, 5]), (15, false, [])] (by kernel_rfl) ?_; refine pS ?_; refine oM rfl rfl ?_; refine oN ⟨rfl, ?_⟩; refine pS ?_; refine oM rfl rfl ?_; refine oN ⟨rfl, ?_⟩; refine pS ?_; refine oM rfl rfl ?_; refine oN ⟨rfl, ?_⟩; refine pS ?_; refine qX (sz := 3) (n := i) rfl rfl rfl ?_; refine oN ⟨rfl, ?_⟩; refine pS ?_; refine oF (o := 0) rfl (by kernel_rfl) rfl ?_; refine oN ⟨rfl, ?_⟩; refine pS ?_; refine oL rfl rfl (ldg (n := 2) (by kernel_rfl) (by first | assumption | (simp (disch := first | omega | (simp only [hNw, hPt]; omega)) only [gN] <;> first | rfl | assumption)) (by first | rfl | assumption)) ?_; refine oN ⟨rfl, ?_⟩; refine pS ?_; refine oM rfl rfl ?_; refine oN ⟨rfl, ?_⟩; refine pS ?_; refine oM rfl rfl ?_; refine oN ⟨rfl, ?_⟩; refine pS ?_; refine qX (sz := 3) (n := i) rfl rfl rfl ?_; refine oN ⟨rfl, ?_⟩; refine pS ?_; refine oF (o := 2) rfl (by kernel_rfl) rfl ?_; refine oN ⟨rfl, ?_⟩; refine pS ?_; refine oL rfl rfl (lda (n := 1) (by kernel_rfl) (by first | assumption | (simp (disch := first | omega | (simp only [hNw, hPt]; omega)) only [gN] <;> first | rfl | assumption)) (by first | rfl | assumption)) ?_; refine oN ⟨rfl, ?_⟩; refine pS ?_; refine oV rfl rfl rfl rfl rfl (c52 _ _ _ _) ?_
    refine oN ⟨(sco (sld rfl rfl (lda (n := 1) (by kernel_rfl) (by first | assumption | (simp (disch := first | omega | (simp only [hNw, hPt]; omega)) only [gN] <;> first | rfl | assumption)) (by first | rfl | assumption)) rfl (eqr _ (by first | rfl | exact lpl (by assumption) | (simp [AV.plain, AV.plains, AV.plain])))) rfl), ?_⟩; refine pS ?_; refine OkO.build (z := [.int .i64 0, .int .i64 0, .int .i64 0]) (pl := [(0, 2), (2, 1)]) rfl (by kernel_rfl) rfl rfl ?_; refine oN ⟨rfl, ?_⟩; refine pS ?_; refine OkO.buildSlice (el := 82) (sz := 3) (z := [.int .i64 0, .int .i64 0, .int .i64 0]) rfl (by kernel_rfl) (by decide) rfl rfl ?_
    refine oN ⟨(sco (sld rfl rfl (lda (n := 1) (by kernel_rfl) (by first | assumption | (simp (disch := first | omega | (simp only [hNw, hPt]; omega)) only [gN] <;> first | rfl | assumption)) (by first | rfl | assumption)) rfl (eqr _ (by first | rfl | exact lpl (by assumption) | (simp [AV.plain, AV.plains, AV.plain])))) (sco (sld rfl rfl (ldg (n := 2) (by kernel_rfl) (by first | assumption | (simp (disch := first | omega | (simp only [hNw, hPt]; omega)) only [gN] <;> first | rfl | assumption)) (by first | rfl | assumption)) rfl (eqr _ (by first | rfl | exact lpl (by assumption) | (simp [AV.plain, AV.plains, AV.plain])))) rfl)), ?_⟩; refine pS ?_; refine OkO.builtinE rfl rfl rfl (Mine.app (k0 := W.next) (sz := 3) (by_ := 24) (e := 82) (n := 1) (new := ds[i].c) (hm.to (by (try dsimp only); repeat (first | exact Ext.refl _ | assumption | apply Ext.new | (refine Ext.put ?_ _ (by first | omega | (simp only [hNw, hPt]; omega)))))) (by (try dsimp only); repeat (first | (first | exact hg | exact hG) | apply Grow.new | (refine Grow.put ?_ _ (by first | omega | (simp only [hNw, hPt]; omega))))) (Nat.le_refl _) (by have := hg.next; simp only [hNw]; omega) (by kernel_rfl) (by kernel_rfl) (elems_new (n := 1) (sz := 3) rfl) rfl rfl (by rw [hml]; omega) (by omega) (by omega) rfl) ?_
    rintro v2 G2 ⟨q1, q2, q3⟩
    have i7 : (G2.get bb).bind AObj.cs = some ccs := by rw [q2.get _ i4]; exact i2w
    refine oN ⟨(sco (sld rfl rfl (lda (n := 1) (by kernel_rfl) (by first | assumption | (simp (disch := first | omega | (simp only [hNw, hPt]; omega)) only [gN] <;> first | rfl | assumption)) (by first | rfl | assumption)) rfl (eqr _ (by first | rfl | exact lpl (by assumption) | (simp [AV.plain, AV.plains, AV.plain])))) (sco (sld rfl rfl (ldg (n := 2) (by kernel_rfl) (by first | assumption | (simp (disch := first | omega | (simp only [hNw, hPt]; omega)) only [gN] <;> first | rfl | assumption)) (by first | rfl | assumption)) rfl (eqr _ (by first | rfl | exact lpl (by assumption) | (simp [AV.plain, AV.plains, AV.plain])))) rfl)), ?_⟩; refine pS ?_; refine oA rfl rfl ?_; refine oN ⟨rfl, ?_⟩; refine OkP.nil ?_; refine kR ?_; refine oM rfl rfl ?_; refine OkO.bin rfl rfl rfl (bin_add (by omega) (by omega)) ?_; refine oA rfl rfl ?_; refine oN ?_
    refine ⟨ds.length - (i + 1), by omega, i + 1, v2, rfl, hlt, ?_, Has.of (by kernel_rfl), rfl, q2⟩
    rw [flat_take _ _ _ hlt]; exact q1
  · have hge : i = ds.length := by simp at h1; omega
    subst hge
    refine Ok.exit ?_; refine kS ?_; refine kR ?_; refine oM rfl rfl ?_; refine oA rfl rfl ?_; refine oN ?_
    refine Ok.ret ⟨.inr rfl, ?_⟩
    exact back_newA (resV_tmp rfl resV_nil) rfl (by rw [← hW]; exact hg) (fun H2 r2 r3 => ⟨r2, (Mine.back (by rw [List.take_length] at hm; exact hm) (fun x hx => by simp only [List.mem_map] at hx; obtain ⟨y, _, rfl⟩ := hx; rfl) (by omega) r3).1, hm.one.2⟩)
end
end Go.Ev

set_option maxRecDepth 100000
set_option linter.unusedSimpArgs false
set_option linter.unusedVariables false
namespace Go.Ev
open Go Go.Proofs
noncomputable section
/-- A number of a range, by a word. -/
def pickI (lo hi w : Int) : Int := lo + w % (hi - lo + 1)
def U (w : Int) : AV := .int .u16 w
def readyB (cs : List Cell) (g : Gr) (ds : List Day) : Bool := thinB cs ds && decide (daysErr cs g ds = 0)
def nextW (ws : List Int) (i : Nat) : Int := ws.getD (i % ws.length) 0
def pickT (g : Gr) (ws : List Int) : Tru := ⟨pickI g.slo g.shi (nextW ws 0), pickI g.klo g.khi (nextW ws 1)⟩
def pickL (cs : List Cell) (ws : List Int) (k : Nat) : List Int := (List.range k).map fun i => pickI (cs.getD i default).lo (cs.getD i default).hi (nextW ws (2 + i))
def pickR (cs : List Cell) (ds : List Day) (ws : List Int) (k : Nat) : List Int := (List.range k).map fun i => pickI (ds.getD i default).lo (ds.getD i default).hi (nextW ws (2 + cs.length + i))
def fillW (ws : List Int) (k i : Nat) : List AV := (List.range k).map fun j => if j < i then U (nextW ws j) else U 0
theorem flat4 {a b : AV} {x y : Int} (h : (AV.agg [I x, I y, a, b]).flat = true) : a.flat = true ∧ b.flat = true := by
  simp only [AV.flat, AV.flats] at h
  cases ha : a.flat with
  | false => rw [ha] at h; cases h
  | true =>
    rw [ha] at h
    cases hb : b.flat with
    | false => rw [hb] at h; cases h
    | true => exact ⟨rfl, rfl⟩
end
end Go.Ev

set_option maxRecDepth 100000
set_option linter.unusedSimpArgs false
set_option linter.unusedVariables false
namespace Go.Ev
open Go Go.Proofs
noncomputable section
end
end Go.Ev

set_option maxRecDepth 100000
set_option linter.unusedSimpArgs false
set_option linter.unusedVariables false
namespace Go.Ev
open Go Go.Proofs
noncomputable section
theorem getD_lt {a : List Int} {i : Nat} (h : i < a.length) : a.getD i 0 = a[i] := by rw [List.getD_eq_getElem?_getD, List.getElem?_eq_getElem h]; rfl
/-- What a valid ground with days is. -/
structure GF (cs : List Cell) (g : Gr) (ds : List Day) : Prop where
  n8 : 1 ≤ cs.length ∧ cs.length ≤ 8
  lim : ∀ x ∈ cs, x.lim
  dlim : ∀ x ∈ ds, x.lim
  d30 : ds.length ≤ 30
  snow : 0 ≤ g.slo ∧ g.slo ≤ g.shi ∧ g.shi ≤ 100000
  soak : 0 ≤ g.klo ∧ g.klo ≤ g.khi ∧ g.khi ≤ 1000
theorem gf_of {cs : List Cell} {g : Gr} {ds : List Day} (h : daysErr cs g ds = 0) : GF cs g ds := by
  unfold daysErr at h
  split at h
  · rename_i h6
    split at h
    · simp at h
    · rename_i h7
      split at h
      · rename_i h8
        simp only [gOk, Bool.and_eq_true] at h6
        obtain ⟨⟨⟨⟨⟨k1, k2⟩, k3⟩, k4⟩, k5⟩, k6⟩ := h6
        rw [List.all_eq_true] at k2 h8
        simp only [inB, okR, Bool.and_eq_true, decide_eq_true_eq] at k1 k4 k5
        exact ⟨by omega, fun x hx => Cell.ok_lim (k2 x hx), fun x hx => Day.ok_lim (h8 x hx), by omega, by omega, by omega⟩
      · simp at h
  · simp at h
end
end Go.Ev

set_option maxRecDepth 100000
set_option linter.unusedSimpArgs false
set_option linter.unusedVariables false
namespace Go.Ev
open Go Go.Proofs
noncomputable section
end
end Go.Ev

set_option maxRecDepth 100000
set_option linter.unusedSimpArgs false
set_option linter.unusedVariables false
namespace Go.Ev
open Go Go.Proofs Go.RowKit
noncomputable section
theorem cells3 : Try.prog.cellsOf 3 = 1 := by kernel_rfl
theorem cells24 : Try.prog.cellsOf 24 = 2 := by kernel_rfl
theorem cells91 : Try.prog.cellsOf 91 = 7 := by kernel_rfl
theorem cells118 : Try.prog.cellsOf 118 = 3 := by kernel_rfl
theorem cells22 : Try.prog.cellsOf 22 = 1 := by kernel_rfl
theorem cells26 : Try.prog.cellsOf 26 = 6 := by kernel_rfl
variable {H0 : Type} {enc : TypeId × Value → H0} {w : World} {base : Nat} {sp : Nat → Bool} {hd : Bool} {n : Nat}
theorem int_open {c : List Value} {y} (h : DataW.trod enc Try.prog w base sp hd n 3 c = some y) : ∃ x : Int, c = [.int .i64 x] := by
  obtain ⟨x, h1, _, _⟩ := DataW.trod_int Try.underlying3 h
  exact ⟨x, h1⟩
theorem u16_open {c : List Value} {y} (h : DataW.trod enc Try.prog w base sp hd n 64 c = some y) : ∃ x : Int, c = [.int .u16 x] ∧ 0 ≤ x ∧ x ≤ 65535 := by
  obtain ⟨x, h1, _, hw⟩ := DataW.trod_int Try.underlying64 h
  refine ⟨x, h1, ?_⟩
  have h2 : (decide (IntKind.min .u16 ≤ x) && decide (x ≤ IntKind.max .u16)) = true := hw
  rw [Bool.and_eq_true] at h2
  have h3 := of_decide_eq_true h2.1
  have h4 := of_decide_eq_true h2.2
  have e1 : IntKind.min .u16 = 0 := by decide
  have e2 : IntKind.max .u16 = 65535 := by decide
  omega
theorem pair_open {c : List Value} {y} (h : DataW.trod enc Try.prog w base sp hd n 24 c = some y) : ∃ a b : Int, c = [.int .i64 a, .int .i64 b] := by
  obtain ⟨xs, k, _, _, hl, hx, hf⟩ := DataW.trod_struct Try.underlying24 h
  rw [cells24] at hl
  match c, hl with
  | [p, q], _ =>
    have h0 : DataW.trod enc Try.prog w base sp hd k 3 (([p, q].drop 0).take (Try.prog.cellsOf 3)) = xs[0]? := hf 0 _ rfl
    have h1 : DataW.trod enc Try.prog w base sp hd k 3 (([p, q].drop 1).take (Try.prog.cellsOf 3)) = xs[1]? := hf 1 _ rfl
    rw [cells3] at h0 h1
    match xs, hx with
    | [x0, x1], _ =>
      obtain ⟨a, ha⟩ := int_open h0
      obtain ⟨b, hb⟩ := int_open h1
      simp at ha hb
      exact ⟨a, b, by rw [ha, hb]⟩
theorem cell_open {c : List Value} {y} (h : DataW.trod enc Try.prog w base sp hd n 91 c = some y) : ∃ b : Cell, ∀ k, toAVs k c = b.c := by
  obtain ⟨xs, k, _, _, hl, hx, hf⟩ := DataW.trod_struct Try.underlying91 h
  rw [cells91] at hl
  match c, hl with
  | [c0, c1, c2, c3, c4, c5, c6], _ =>
    have h0 : DataW.trod enc Try.prog w base sp hd k 24 (([c0, c1, c2, c3, c4, c5, c6].drop 0).take (Try.prog.cellsOf 24)) = xs[0]? := hf 0 _ rfl
    rw [cells24] at h0
    have h1 : DataW.trod enc Try.prog w base sp hd k 3 (([c0, c1, c2, c3, c4, c5, c6].drop 2).take (Try.prog.cellsOf 3)) = xs[1]? := hf 1 _ rfl
    rw [cells3] at h1
    have h2 : DataW.trod enc Try.prog w base sp hd k 3 (([c0, c1, c2, c3, c4, c5, c6].drop 3).take (Try.prog.cellsOf 3)) = xs[2]? := hf 2 _ rfl
    rw [cells3] at h2
    have h3 : DataW.trod enc Try.prog w base sp hd k 3 (([c0, c1, c2, c3, c4, c5, c6].drop 4).take (Try.prog.cellsOf 3)) = xs[3]? := hf 3 _ rfl
    rw [cells3] at h3
    have h4 : DataW.trod enc Try.prog w base sp hd k 3 (([c0, c1, c2, c3, c4, c5, c6].drop 5).take (Try.prog.cellsOf 3)) = xs[4]? := hf 4 _ rfl
    rw [cells3] at h4
    have h5 : DataW.trod enc Try.prog w base sp hd k 3 (([c0, c1, c2, c3, c4, c5, c6].drop 6).take (Try.prog.cellsOf 3)) = xs[5]? := hf 5 _ rfl
    rw [cells3] at h5
    match xs, hx with
    | [x0, x1, x2, x3, x4, x5], _ =>
      obtain ⟨a0_0, a0_1, e0⟩ := pair_open h0
      obtain ⟨a1_0, e1⟩ := int_open h1
      obtain ⟨a2_0, e2⟩ := int_open h2
      obtain ⟨a3_0, e3⟩ := int_open h3
      obtain ⟨a4_0, e4⟩ := int_open h4
      obtain ⟨a5_0, e5⟩ := int_open h5
      simp at e0 e1 e2 e3 e4 e5
      refine ⟨⟨a0_0, a0_1, a1_0, a2_0, a3_0, a4_0, a5_0⟩, fun k => ?_⟩
      rw [e0.1, e0.2, e1, e2, e3, e4, e5]
      rfl
theorem day_open {c : List Value} {y} (h : DataW.trod enc Try.prog w base sp hd n 118 c = some y) : ∃ b : Day, ∀ k, toAVs k c = b.c := by
  obtain ⟨xs, k, _, _, hl, hx, hf⟩ := DataW.trod_struct Try.underlying118 h
  rw [cells118] at hl
  match c, hl with
  | [c0, c1, c2], _ =>
    have h0 : DataW.trod enc Try.prog w base sp hd k 24 (([c0, c1, c2].drop 0).take (Try.prog.cellsOf 24)) = xs[0]? := hf 0 _ rfl
    rw [cells24] at h0
    have h1 : DataW.trod enc Try.prog w base sp hd k 3 (([c0, c1, c2].drop 2).take (Try.prog.cellsOf 3)) = xs[1]? := hf 1 _ rfl
    rw [cells3] at h1
    match xs, hx with
    | [x0, x1], _ =>
      obtain ⟨a0_0, a0_1, e0⟩ := pair_open h0
      obtain ⟨a1_0, e1⟩ := int_open h1
      simp at e0 e1
      refine ⟨⟨a0_0, a0_1, a1_0⟩, fun k => ?_⟩
      rw [e0.1, e0.2, e1]
      rfl
/-- One of each, chosen: a list of what each element has. -/
theorem choose_list {α β : Type} {R : α → β → Prop} : ∀ l : List α, (∀ x ∈ l, ∃ y, R x y) → ∃ m : List β, m.length = l.length ∧ ∀ (i : Nat) x y, l[i]? = some x → m[i]? = some y → R x y := by
  intro l
  induction l with
  | nil => exact fun _ => ⟨[], rfl, fun i x y h => by simp at h⟩
  | cons a t ih =>
    intro h
    obtain ⟨y, hy⟩ := h a (by simp)
    obtain ⟨m, hm, hr⟩ := ih fun x hx => h x (by simp [hx])
    refine ⟨y :: m, by simp [hm], fun i x z h1 h2 => ?_⟩
    cases i with
    | zero => simp at h1 h2; subst h1; subst h2; exact hy
    | succ i => exact hr i x z (by simpa using h1) (by simpa using h2)
theorem map_of_get {α β : Type} {f : α → β} {l : List α} {m : List β} (hl : m.length = l.length) (h : ∀ (i : Nat) x y, l[i]? = some x → m[i]? = some y → f x = y) : l.map f = m := by
  apply List.ext_getElem (by simp [hl])
  intro i h1 h2
  have hi : i < l.length := by simpa using h1
  rw [List.getElem_map]
  exact h i _ _ (List.getElem?_eq_getElem hi) (List.getElem?_eq_getElem h2)
theorem cells_open {H : Heap} (hs : Snap w H) {v : Value} {y} (h : DataW.trod enc Try.prog w base sp hd n 22 [v] = some y) : ∃ l : List Cell, Row H (toAV w.heap.size v) 7 (l.map Cell.c) := by
  obtain ⟨l, hR, _, hl⟩ := hs.slice Try.underlying22 cells91 (by decide) h
  obtain ⟨m, hm, hr⟩ := choose_list (R := fun c (b : Cell) => ∀ k, toAVs k c = b.c) l fun c hc => by
    obtain ⟨_, n', y', hy⟩ := hl c hc
    exact cell_open hy
  refine ⟨m, ?_⟩
  have : l.map (toAVs w.heap.size) = m.map Cell.c := map_of_get (by simp [hm]) fun i x z h1 h2 => by
    rw [List.getElem?_map, Option.map_eq_some_iff] at h2
    obtain ⟨b, h3, rfl⟩ := h2
    exact hr i x b h1 h3 _
  rwa [this] at hR
theorem days_open {H : Heap} (hs : Snap w H) {v : Value} {y} (h : DataW.trod enc Try.prog w base sp hd n 27 [v] = some y) : ∃ l : List Day, Row H (toAV w.heap.size v) 3 (l.map Day.c) := by
  obtain ⟨l, hR, _, hl⟩ := hs.slice Try.underlying27 cells118 (by decide) h
  obtain ⟨m, hm, hr⟩ := choose_list (R := fun c (b : Day) => ∀ k, toAVs k c = b.c) l fun c hc => by
    obtain ⟨_, n', y', hy⟩ := hl c hc
    exact day_open hy
  refine ⟨m, ?_⟩
  have : l.map (toAVs w.heap.size) = m.map Day.c := map_of_get (by simp [hm]) fun i x z h1 h2 => by
    rw [List.getElem?_map, Option.map_eq_some_iff] at h2
    obtain ⟨b, h3, rfl⟩ := h2
    exact hr i x b h1 h3 _
  rwa [this] at hR
/-- A ground at hand. -/
theorem ground_arg {H : Heap} (hs : Snap w H) {v : Value} {d : DataW H0} {p : List MemPlace} (hv : ∃ cs, v = .agg cs ∧ cs.size = Try.prog.cellsOf 26) (h : DataW.Trod enc Try.prog w base sp hd 26 v d p) :
    ∃ (cv : AV) (cs : List Cell) (g : Gr), argAV w.heap.size v = .agg [cv, I g.slo, I g.shi, I g.klo, I g.khi, I g.melt] ∧ Row H cv 7 (cs.map Cell.c) := by
  obtain ⟨cs, rfl, hsz⟩ := hv
  obtain ⟨fuel, h⟩ := h
  obtain ⟨xs, k, _, _, hl, hx, hf⟩ := DataW.trod_struct Try.underlying26 h
  rw [cells26] at hsz
  obtain ⟨cl⟩ := cs
  match cl, hsz with
  | [c0, c1, c2, c3, c4, c5], _ =>
    have h0 : DataW.trod enc Try.prog w base sp hd k 22 (([c0, c1, c2, c3, c4, c5].drop 0).take (Try.prog.cellsOf 22)) = xs[0]? := hf 0 _ rfl
    have h1 : DataW.trod enc Try.prog w base sp hd k 24 (([c0, c1, c2, c3, c4, c5].drop 1).take (Try.prog.cellsOf 24)) = xs[1]? := hf 1 _ rfl
    have h2 : DataW.trod enc Try.prog w base sp hd k 24 (([c0, c1, c2, c3, c4, c5].drop 3).take (Try.prog.cellsOf 24)) = xs[2]? := hf 2 _ rfl
    have h3 : DataW.trod enc Try.prog w base sp hd k 3 (([c0, c1, c2, c3, c4, c5].drop 5).take (Try.prog.cellsOf 3)) = xs[3]? := hf 3 _ rfl
    rw [cells22] at h0
    rw [cells24] at h1 h2
    rw [cells3] at h3
    match xs, hx with
    | [x0, x1, x2, x3], _ =>
      obtain ⟨cs, hc⟩ := cells_open hs (v := c0) h0
      obtain ⟨a, b, e1⟩ := pair_open h1
      obtain ⟨e, f, e2⟩ := pair_open h2
      obtain ⟨z, e3⟩ := int_open h3
      simp at e1 e2 e3
      refine ⟨_, cs, ⟨a, b, e, f, z⟩, ?_, hc⟩
      rw [e1.1, e1.2, e2.1, e2.2, e3]
      rfl
theorem days_arg {H : Heap} (hs : Snap w H) {v : Value} {d : DataW H0} {p : List MemPlace} (hv : ∃ a len cap, v = .slice a len cap) (h : DataW.Trod enc Try.prog w base sp hd 27 v d p) :
    ∃ (dv : AV) (ds : List Day), argAV w.heap.size v = dv ∧ Row H dv 3 (ds.map Day.c) := by
  obtain ⟨a, len, cap, rfl⟩ := hv
  obtain ⟨fuel, h⟩ := h
  obtain ⟨ds, hR⟩ := days_open hs (v := .slice a len cap) h
  exact ⟨_, ds, rfl, hR⟩
end
end Go.Ev

set_option maxRecDepth 100000
set_option linter.unusedSimpArgs false
set_option linter.unusedVariables false
namespace Go.Ev
open Go Go.Proofs
noncomputable section
theorem flat_no {v : AV} {n : Nat} (h : lenOf v = some n) (hn : 0 < n) : v.flat = false := by
  cases v with
  | nils => simp [lenOf] at h; omega
  | raw u => rfl
  | _ => first | rfl | simp [lenOf] at h
theorem flat_cons {v : AV} {l : List AV} (h : v.flat = false) : (AV.agg (v :: l)).flat = false := by rw [AV.flat, AV.flats, h]
theorem any_ok {cs : List Cell} {g : Gr} {ds : List Day} (h : daysErr cs g ds = 0) {t : Tru} {lvs rain : List Int} (h1 : g.slo ≤ t.snow ∧ t.snow ≤ g.shi) (h2 : g.klo ≤ t.soak ∧ t.soak ≤ g.khi) (h3 : lvs.length = cs.length) (h4 : rain.length = ds.length)
    (h5 : ∀ (i : Nat) x n, cs[i]? = some x → lvs[i]? = some n → x.lo ≤ n ∧ n ≤ x.hi) (h6 : ∀ (i : Nat) x n, ds[i]? = some x → rain[i]? = some n → x.lo ≤ n ∧ n ≤ x.hi) : truthErr cs g ds t lvs rain = 0 := by
  have e1 : inB t.snow g.slo g.shi = true := by simp only [inB, Bool.and_eq_true, decide_eq_true_eq]; exact h1
  have e2 : inB t.soak g.klo g.khi = true := by simp only [inB, Bool.and_eq_true, decide_eq_true_eq]; exact h2
  have e3 : fitsB lvs (cs.map Cell.lv) = true := (fits_iff _ _).2 ⟨by simp [h3], fun i u r q1 q2 => by
    rw [List.getElem?_map, Option.map_eq_some_iff] at q2
    obtain ⟨x, q4, rfl⟩ := q2
    have := h5 i x u q4 q1
    simp only [inB, Bool.and_eq_true]
    exact ⟨decide_eq_true this.1, decide_eq_true this.2⟩⟩
  have e4 : fitsB rain (ds.map Day.rn) = true := (fits_iff _ _).2 ⟨by simp [h4], fun i u r q1 q2 => by
    rw [List.getElem?_map, Option.map_eq_some_iff] at q2
    obtain ⟨x, q4, rfl⟩ := q2
    have := h6 i x u q4 q1
    simp only [inB, Bool.and_eq_true]
    exact ⟨decide_eq_true this.1, decide_eq_true this.2⟩⟩
  unfold truthErr
  rw [if_pos h, e1, e2, e3, e4]
  rfl
def lowT (g : Gr) : Tru := ⟨g.slo, g.klo⟩
def highT (g : Gr) : Tru := ⟨g.shi, g.khi⟩
def lowL (cs : List Cell) : List Int := cs.map Cell.lo
def highL (cs : List Cell) : List Int := cs.map Cell.hi
def lowR (ds : List Day) : List Int := ds.map Day.lo
def highR (ds : List Day) : List Int := ds.map Day.hi
theorem low_ok {cs : List Cell} {g : Gr} {ds : List Day} (h : daysErr cs g ds = 0) : truthErr cs g ds (lowT g) (lowL cs) (lowR ds) = 0 := by
  have hg := gf_of h
  have h1 := hg.snow
  have h2 := hg.soak
  refine any_ok h (by simp only [lowT]; omega) (by simp only [lowT]; omega) (by simp [lowL]) (by simp [lowR]) (fun i x n a1 a2 => ?_) (fun i x n a1 a2 => ?_)
  · simp only [lowL, List.getElem?_map, a1, Option.map_some, Option.some.injEq] at a2
    have := hg.lim x (List.mem_of_getElem? a1); unfold Cell.lim at this; omega
  · simp only [lowR, List.getElem?_map, a1, Option.map_some, Option.some.injEq] at a2
    have := hg.dlim x (List.mem_of_getElem? a1); unfold Day.lim at this; omega
theorem build45 {a b : AV} {n m : Nat} (h : lenOf a = some n) (k : lenOf b = some m) (x y : Int) : fillS (fun i => [(0, 1), (1, 1), (2, 1), (3, 1)][i]?) [I 0, I 0, .nils, .nils] [(0, I x), (1, I y), (2, a), (3, b)] = some [I x, I y, a, b] := by
  have ha := one_cells h
  have hb := one_cells k
  simp [fillS, spl, ha, hb, show ∀ z, (I z).cells = [I z] from fun _ => rfl]
theorem c93l (m : Nat) (cv dv : AV) (cs : List Cell) (g : Gr) (ds : List Day) (H : Heap) (hR : Row H cv 7 (cs.map Cell.c)) (hbig : cs.length ≤ 1000) (hY : Row H dv 3 (ds.map Day.c)) (hbd : ds.length ≤ 1000) (hca : cv.atom = true) (hda : dv.atom = true) (hn1 : 1 ≤ cs.length) : ∃ v H', RR (m + 3) (.fn 93 [.agg [.fn 85 [] []], .agg [cv, I g.slo, I g.shi, I g.klo, I g.khi, I g.melt], dv]) H = some (v, H') ∧ ∃ lv rv, v = .agg [cv, I g.slo, I g.shi, I g.klo, I g.khi, I g.melt, dv, I g.slo, I g.klo, lv, rv] ∧ Ret H H' ∧ Ints H' lv (lowL cs) ∧ Ints H' rv (lowR ds) := by
  show ∃ v H', evFn Try.prog (RR (m + 2)) 93 [.agg [.fn 85 [] []], .agg [cv, I g.slo, I g.shi, I g.klo, I g.khi, I g.melt], dv] H = some (v, H') ∧ ∃ lv rv, v = .agg [cv, I g.slo, I g.shi, I g.klo, I g.khi, I g.melt, dv, I g.slo, I g.klo, lv, rv] ∧ Ret H H' ∧ Ints H' lv (lowL cs) ∧ Ints H' rv (lowR ds)
  refine fn_okE Try.func93 rfl rfl (by kernel_rfl) (by kernel_rfl) ?_
  obtain ⟨W, hW, hg, hN, hE, hG⟩ := wOf H
  rw [← hW]
  have hlc : lenOf cv = some cs.length := by simpa using hR.len
  have pc := lpl hlc
  have hld : lenOf dv = some ds.length := by simpa using hY.len
  refine kS ?_; refine kR ?_; refine OkO.box rfl rfl ?_; refine OkO.box rfl rfl ?_; refine OkO.alloc (z := [.nils, .int .i64 0, .int .i64 0, .int .i64 0, .int .i64 0, .int .i64 0, .nils, .int .i64 0, .int .i64 0, .nils, .nils]) rfl (by kernel_rfl) ?_; refine oN ?_; refine kS ?_; refine Ok.drawn [(0, true, []), (1, true, []), (2, true, []), (3, true, []), (4, true, []), (5, true, []), (7, true, []), (8, true, []), (9, true, []), (10, true, []), (12, true, []), (13, true, []), (15, true, []), (16, true, []), (18, true, []), (20, true, []), (21, true, []), (6, false, [21, 16, 13, 10, 8, 0]), (11, false, [21, 16, 13, 5, 3, 0]), (14, false, [21, 16, 10, 8, 5, 3, 0]), (17, false, [21, 13, 10, 8, 5, 3, 0]), (19, false, [21, 16, 13, 10, 8, 5, 3, 0]), (22, false, [16, 13, 10, 8, 5, 3, 0]), (23, true, []), (24, true, []), (25, false, [])] (by kernel_rfl) ?_; refine pS ?_; refine oL rfl rfl (ldg (n := 6) (by kernel_rfl) (by first | assumption | (simp (disch := first | omega | (simp only [hNw, hPt]; omega)) only [gN] <;> first | rfl | assumption)) (by first | rfl | assumption)) ?_; refine oN ⟨rfl, ?_⟩; refine pS ?_; refine oM rfl rfl ?_; refine oN ⟨rfl, ?_⟩; refine pS ?_; refine oF (o := 0) rfl (by kernel_rfl) rfl ?_; refine oN ⟨rfl, ?_⟩; refine pS ?_; refine oL rfl rfl (lda (n := 1) (by kernel_rfl) (by first | assumption | (simp (disch := first | omega | (simp only [hNw, hPt]; omega)) only [gN] <;> first | rfl | assumption)) (by first | rfl | assumption)) ?_; refine oN ⟨rfl, ?_⟩; refine pS ?_; refine oF (o := 1) rfl (by kernel_rfl) rfl ?_; refine oN ⟨rfl, ?_⟩; refine pS ?_; refine oL rfl rfl (ldg (n := 2) (by kernel_rfl) (by first | assumption | (simp (disch := first | omega | (simp only [hNw, hPt]; omega)) only [gN] <;> first | rfl | assumption)) (by first | rfl | assumption)) ?_; refine oN ⟨rfl, ?_⟩; refine pS ?_; refine oF (o := 0) rfl (by kernel_rfl) rfl ?_; refine oN ⟨rfl, ?_⟩; refine pS ?_; refine oL rfl rfl (lda (n := 1) (by kernel_rfl) (by first | assumption | (simp (disch := first | omega | (simp only [hNw, hPt]; omega)) only [gN] <;> first | rfl | assumption)) (by first | rfl | assumption)) ?_; refine oN ⟨rfl, ?_⟩; refine pS ?_; refine oF (o := 3) rfl (by kernel_rfl) rfl ?_; refine oN ⟨rfl, ?_⟩; refine pS ?_; refine oL rfl rfl (ldg (n := 2) (by kernel_rfl) (by first | assumption | (simp (disch := first | omega | (simp only [hNw, hPt]; omega)) only [gN] <;> first | rfl | assumption)) (by first | rfl | assumption)) ?_; refine oN ⟨rfl, ?_⟩; refine pS ?_; refine oF (o := 0) rfl (by kernel_rfl) rfl ?_; refine oN ⟨rfl, ?_⟩; refine pS ?_; refine oL rfl rfl (lda (n := 1) (by kernel_rfl) (by first | assumption | (simp (disch := first | omega | (simp only [hNw, hPt]; omega)) only [gN] <;> first | rfl | assumption)) (by first | rfl | assumption)) ?_; refine oN ⟨rfl, ?_⟩; refine pS ?_; refine oF (o := 0) rfl (by kernel_rfl) rfl ?_; refine oN ⟨rfl, ?_⟩; refine pS ?_; refine oL rfl rfl (lda (n := 1) (by kernel_rfl) (by first | assumption | (simp (disch := first | omega | (simp only [hNw, hPt]; omega)) only [gN] <;> first | rfl | assumption)) (by first | rfl | assumption)) ?_; refine oN ⟨rfl, ?_⟩; refine pS ?_; refine oM rfl rfl ?_; refine oN ⟨rfl, ?_⟩; refine pS ?_; refine oF (o := 0) rfl (by kernel_rfl) rfl ?_; refine oN ⟨rfl, ?_⟩; refine pS ?_; refine oL rfl rfl (lda (n := 1) (by kernel_rfl) (by first | assumption | (simp (disch := first | omega | (simp only [hNw, hPt]; omega)) only [gN] <;> first | rfl | assumption)) (by first | rfl | assumption)) ?_; refine oN ⟨rfl, ?_⟩; refine pS ?_; refine oV rfl rfl rfl rfl rfl (c85 _ g.slo g.shi _) ?_
  refine oN ⟨(sco (sld rfl rfl (lda (n := 1) (by kernel_rfl) (by first | assumption | (simp (disch := first | omega | (simp only [hNw, hPt]; omega)) only [gN] <;> first | rfl | assumption)) (by first | rfl | assumption)) rfl (eqr _ (by first | rfl | exact lpl (by assumption) | (simp [AV.plain, AV.plains, AV.cells, pc])))) (sco (sld rfl rfl (lda (n := 1) (by kernel_rfl) (by first | assumption | (simp (disch := first | omega | (simp only [hNw, hPt]; omega)) only [gN] <;> first | rfl | assumption)) (by first | rfl | assumption)) rfl (eqr _ (by first | rfl | exact lpl (by assumption) | (simp [AV.plain, AV.plains, AV.cells, pc])))) (sco (sld rfl rfl (lda (n := 1) (by kernel_rfl) (by first | assumption | (simp (disch := first | omega | (simp only [hNw, hPt]; omega)) only [gN] <;> first | rfl | assumption)) (by first | rfl | assumption)) rfl (eqr _ (by first | rfl | exact lpl (by assumption) | (simp [AV.plain, AV.plains, AV.cells, pc])))) (sco (sld rfl rfl (ldg (n := 2) (by kernel_rfl) (by first | assumption | (simp (disch := first | omega | (simp only [hNw, hPt]; omega)) only [gN] <;> first | rfl | assumption)) (by first | rfl | assumption)) rfl (eqr _ (by first | rfl | exact lpl (by assumption) | (simp [AV.plain, AV.plains, AV.cells, pc])))) (sco (sld rfl rfl (lda (n := 1) (by kernel_rfl) (by first | assumption | (simp (disch := first | omega | (simp only [hNw, hPt]; omega)) only [gN] <;> first | rfl | assumption)) (by first | rfl | assumption)) rfl (eqr _ (by first | rfl | exact lpl (by assumption) | (simp [AV.plain, AV.plains, AV.cells, pc])))) (sco (sld rfl rfl (ldg (n := 6) (by kernel_rfl) (by first | assumption | (simp (disch := first | omega | (simp only [hNw, hPt]; omega)) only [gN] <;> first | rfl | assumption)) (by first | rfl | assumption)) rfl (eqr _ (by first | rfl | exact lpl (by assumption) | (simp [AV.plain, AV.plains, AV.cells, pc])))) rfl)))))), ?_⟩; refine pS ?_; refine oV rfl rfl rfl rfl rfl (c85 _ g.klo g.khi _) ?_
  refine oN ⟨(sco (sld rfl rfl (lda (n := 1) (by kernel_rfl) (by first | assumption | (simp (disch := first | omega | (simp only [hNw, hPt]; omega)) only [gN] <;> first | rfl | assumption)) (by first | rfl | assumption)) rfl (eqr _ (by first | rfl | exact lpl (by assumption) | (simp [AV.plain, AV.plains, AV.cells, pc])))) (sco (sld rfl rfl (lda (n := 1) (by kernel_rfl) (by first | assumption | (simp (disch := first | omega | (simp only [hNw, hPt]; omega)) only [gN] <;> first | rfl | assumption)) (by first | rfl | assumption)) rfl (eqr _ (by first | rfl | exact lpl (by assumption) | (simp [AV.plain, AV.plains, AV.cells, pc])))) (sco (sld rfl rfl (lda (n := 1) (by kernel_rfl) (by first | assumption | (simp (disch := first | omega | (simp only [hNw, hPt]; omega)) only [gN] <;> first | rfl | assumption)) (by first | rfl | assumption)) rfl (eqr _ (by first | rfl | exact lpl (by assumption) | (simp [AV.plain, AV.plains, AV.cells, pc])))) (sco (sld rfl rfl (ldg (n := 2) (by kernel_rfl) (by first | assumption | (simp (disch := first | omega | (simp only [hNw, hPt]; omega)) only [gN] <;> first | rfl | assumption)) (by first | rfl | assumption)) rfl (eqr _ (by first | rfl | exact lpl (by assumption) | (simp [AV.plain, AV.plains, AV.cells, pc])))) (sco (sld rfl rfl (lda (n := 1) (by kernel_rfl) (by first | assumption | (simp (disch := first | omega | (simp only [hNw, hPt]; omega)) only [gN] <;> first | rfl | assumption)) (by first | rfl | assumption)) rfl (eqr _ (by first | rfl | exact lpl (by assumption) | (simp [AV.plain, AV.plains, AV.cells, pc])))) (sco (sld rfl rfl (ldg (n := 6) (by kernel_rfl) (by first | assumption | (simp (disch := first | omega | (simp only [hNw, hPt]; omega)) only [gN] <;> first | rfl | assumption)) (by first | rfl | assumption)) rfl (eqr _ (by first | rfl | exact lpl (by assumption) | (simp [AV.plain, AV.plains, AV.cells, pc])))) rfl)))))), ?_⟩; refine pS ?_; refine oE rfl rfl rfl rfl rfl (c77 (m + 0) cv cs _ (hR.ext (hE _ (by (try dsimp only); repeat (first | exact hG | apply Grow.new | (refine Grow.put ?_ _ (by first | omega | (simp only [hNw, hPt]; omega))))))) hbig) ?_
  rintro vA HA ⟨qA, rA, cA, fA⟩
  have gA : Grow W HA := Grow.ret (by (try dsimp only); repeat (first | exact hG | apply Grow.new | (refine Grow.put ?_ _ (by first | omega | (simp only [hNw, hPt]; omega))))) qA
  have nA : W.next + 3 ≤ HA.next := by have := qA.ext.next; first | omega | (simp only [hNw] at this; omega)
  have aA : (HA.get W.next).bind AObj.cs = some [.fn 85 [] []] := by rw [qA.ext.get _ (by first | omega | (simp only [hNw]; omega))]; first | assumption | (simp (disch := first | omega | (simp only [hNw, hPt]; omega)) only [gN] <;> first | rfl | assumption)
  have bA : (HA.get (W.next + 1)).bind AObj.cs = some [cv, I g.slo, I g.shi, I g.klo, I g.khi, I g.melt] := by rw [qA.ext.get _ (by first | omega | (simp only [hNw]; omega))]; first | assumption | (simp (disch := first | omega | (simp only [hNw, hPt]; omega)) only [gN] <;> first | rfl | assumption)
  have zA : HA.get (W.next + 2) = some (.cells [.nils, I 0, I 0, I 0, I 0, I 0, .nils, I 0, I 0, .nils, .nils] 110) := by rw [qA.ext.get _ (by first | omega | (simp only [hNw]; omega))]; first | assumption | exact gn0 _ _ | (simp (disch := first | omega | (simp only [hNw, hPt]; omega)) only [gN] <;> first | rfl | assumption)
  refine oN ⟨(sco (sld rfl rfl (lda (n := 1) (by kernel_rfl) (by first | assumption | (simp (disch := first | omega | (simp only [hNw, hPt]; omega)) only [gN] <;> first | rfl | assumption)) (by first | rfl | assumption)) rfl (eqr _ (by first | rfl | exact lpl (by assumption) | (simp [AV.plain, AV.plains, AV.cells, pc])))) (sco (sld rfl rfl (lda (n := 1) (by kernel_rfl) (by first | assumption | (simp (disch := first | omega | (simp only [hNw, hPt]; omega)) only [gN] <;> first | rfl | assumption)) (by first | rfl | assumption)) rfl (eqr _ (by first | rfl | exact lpl (by assumption) | (simp [AV.plain, AV.plains, AV.cells, pc])))) (sco (sld rfl rfl (ldg (n := 2) (by kernel_rfl) (by first | assumption | (simp (disch := first | omega | (simp only [hNw, hPt]; omega)) only [gN] <;> first | rfl | assumption)) (by first | rfl | assumption)) rfl (eqr _ (by first | rfl | exact lpl (by assumption) | (simp [AV.plain, AV.plains, AV.cells, pc])))) (sco (sld rfl rfl (lda (n := 1) (by kernel_rfl) (by first | assumption | (simp (disch := first | omega | (simp only [hNw, hPt]; omega)) only [gN] <;> first | rfl | assumption)) (by first | rfl | assumption)) rfl (eqr _ (by first | rfl | exact lpl (by assumption) | (simp [AV.plain, AV.plains, AV.cells, pc])))) (sco (sld rfl rfl (ldg (n := 2) (by kernel_rfl) (by first | assumption | (simp (disch := first | omega | (simp only [hNw, hPt]; omega)) only [gN] <;> first | rfl | assumption)) (by first | rfl | assumption)) rfl (eqr _ (by first | rfl | exact lpl (by assumption) | (simp [AV.plain, AV.plains, AV.cells, pc])))) (sco (sld rfl rfl (lda (n := 1) (by kernel_rfl) (by first | assumption | (simp (disch := first | omega | (simp only [hNw, hPt]; omega)) only [gN] <;> first | rfl | assumption)) (by first | rfl | assumption)) rfl (eqr _ (by first | rfl | exact lpl (by assumption) | (simp [AV.plain, AV.plains, AV.cells, pc])))) (sco (sld rfl rfl (ldg (n := 6) (by kernel_rfl) (by first | assumption | (simp (disch := first | omega | (simp only [hNw, hPt]; omega)) only [gN] <;> first | rfl | assumption)) (by first | rfl | assumption)) rfl (eqr _ (by first | rfl | exact lpl (by assumption) | (simp [AV.plain, AV.plains, AV.cells, pc])))) rfl))))))), ?_⟩; refine pS ?_; refine oE rfl rfl rfl rfl rfl (c106l (m + 0) vA (cs.map Cell.lv) _ (by rw [lv_map]; exact rA) (by simp; omega)) ?_
  rintro lv HB ⟨qB, rB, cB, fB⟩
  have gB : Grow W HB := Grow.ret gA qB
  have nB : W.next + 3 ≤ HB.next := by have := qB.ext.next; first | omega | (simp only [hNw] at this; omega)
  have aB : (HB.get W.next).bind AObj.cs = some [.fn 85 [] []] := by rw [qB.ext.get _ (by first | omega | (simp only [hNw]; omega))]; first | assumption | (simp (disch := first | omega | (simp only [hNw, hPt]; omega)) only [gN] <;> first | rfl | assumption)
  have bB : (HB.get (W.next + 1)).bind AObj.cs = some [cv, I g.slo, I g.shi, I g.klo, I g.khi, I g.melt] := by rw [qB.ext.get _ (by first | omega | (simp only [hNw]; omega))]; first | assumption | (simp (disch := first | omega | (simp only [hNw, hPt]; omega)) only [gN] <;> first | rfl | assumption)
  have zB : HB.get (W.next + 2) = some (.cells [.nils, I 0, I 0, I 0, I 0, I 0, .nils, I 0, I 0, .nils, .nils] 110) := by rw [qB.ext.get _ (by first | omega | (simp only [hNw]; omega))]; first | assumption | exact gn0 _ _ | (simp (disch := first | omega | (simp only [hNw, hPt]; omega)) only [gN] <;> first | rfl | assumption)
  refine oN ⟨(sco (sld rfl rfl (lda (n := 1) (by kernel_rfl) (by first | assumption | (simp (disch := first | omega | (simp only [hNw, hPt]; omega)) only [gN] <;> first | rfl | assumption)) (by first | rfl | assumption)) rfl (eqr _ (by first | rfl | exact lpl (by assumption) | (simp [AV.plain, AV.plains, AV.cells, pc])))) (sco (sld rfl rfl (lda (n := 1) (by kernel_rfl) (by first | assumption | (simp (disch := first | omega | (simp only [hNw, hPt]; omega)) only [gN] <;> first | rfl | assumption)) (by first | rfl | assumption)) rfl (eqr _ (by first | rfl | exact lpl (by assumption) | (simp [AV.plain, AV.plains, AV.cells, pc])))) (sco (sld rfl rfl (ldg (n := 2) (by kernel_rfl) (by first | assumption | (simp (disch := first | omega | (simp only [hNw, hPt]; omega)) only [gN] <;> first | rfl | assumption)) (by first | rfl | assumption)) rfl (eqr _ (by first | rfl | exact lpl (by assumption) | (simp [AV.plain, AV.plains, AV.cells, pc])))) (sco (sld rfl rfl (lda (n := 1) (by kernel_rfl) (by first | assumption | (simp (disch := first | omega | (simp only [hNw, hPt]; omega)) only [gN] <;> first | rfl | assumption)) (by first | rfl | assumption)) rfl (eqr _ (by first | rfl | exact lpl (by assumption) | (simp [AV.plain, AV.plains, AV.cells, pc])))) (sco (sld rfl rfl (ldg (n := 2) (by kernel_rfl) (by first | assumption | (simp (disch := first | omega | (simp only [hNw, hPt]; omega)) only [gN] <;> first | rfl | assumption)) (by first | rfl | assumption)) rfl (eqr _ (by first | rfl | exact lpl (by assumption) | (simp [AV.plain, AV.plains, AV.cells, pc])))) (sco (sld rfl rfl (lda (n := 1) (by kernel_rfl) (by first | assumption | (simp (disch := first | omega | (simp only [hNw, hPt]; omega)) only [gN] <;> first | rfl | assumption)) (by first | rfl | assumption)) rfl (eqr _ (by first | rfl | exact lpl (by assumption) | (simp [AV.plain, AV.plains, AV.cells, pc])))) (sco (sld rfl rfl (ldg (n := 6) (by kernel_rfl) (by first | assumption | (simp (disch := first | omega | (simp only [hNw, hPt]; omega)) only [gN] <;> first | rfl | assumption)) (by first | rfl | assumption)) rfl (eqr _ (by first | rfl | exact lpl (by assumption) | (simp [AV.plain, AV.plains, AV.cells, pc])))) rfl))))))), ?_⟩; refine pS ?_; refine oE rfl rfl rfl rfl rfl (c79 (m + 0) dv ds _ (hY.ext (hE _ gB)) hbd) ?_
  rintro vC HC ⟨qC, rC, cC, fC⟩
  have gC : Grow W HC := Grow.ret gB qC
  have nC : W.next + 3 ≤ HC.next := by have := qC.ext.next; first | omega | (simp only [hNw] at this; omega)
  have aC : (HC.get W.next).bind AObj.cs = some [.fn 85 [] []] := by rw [qC.ext.get _ (by first | omega | (simp only [hNw]; omega))]; first | assumption | (simp (disch := first | omega | (simp only [hNw, hPt]; omega)) only [gN] <;> first | rfl | assumption)
  have bC : (HC.get (W.next + 1)).bind AObj.cs = some [cv, I g.slo, I g.shi, I g.klo, I g.khi, I g.melt] := by rw [qC.ext.get _ (by first | omega | (simp only [hNw]; omega))]; first | assumption | (simp (disch := first | omega | (simp only [hNw, hPt]; omega)) only [gN] <;> first | rfl | assumption)
  have zC : HC.get (W.next + 2) = some (.cells [.nils, I 0, I 0, I 0, I 0, I 0, .nils, I 0, I 0, .nils, .nils] 110) := by rw [qC.ext.get _ (by first | omega | (simp only [hNw]; omega))]; first | assumption | exact gn0 _ _ | (simp (disch := first | omega | (simp only [hNw, hPt]; omega)) only [gN] <;> first | rfl | assumption)
  refine oN ⟨(sco (sld rfl rfl (lda (n := 1) (by kernel_rfl) (by first | assumption | (simp (disch := first | omega | (simp only [hNw, hPt]; omega)) only [gN] <;> first | rfl | assumption)) (by first | rfl | assumption)) rfl (eqr _ (by first | rfl | exact lpl (by assumption) | (simp [AV.plain, AV.plains, AV.cells, pc])))) (sco (sld rfl rfl (lda (n := 1) (by kernel_rfl) (by first | assumption | (simp (disch := first | omega | (simp only [hNw, hPt]; omega)) only [gN] <;> first | rfl | assumption)) (by first | rfl | assumption)) rfl (eqr _ (by first | rfl | exact lpl (by assumption) | (simp [AV.plain, AV.plains, AV.cells, pc])))) (sco (sld rfl rfl (lda (n := 1) (by kernel_rfl) (by first | assumption | (simp (disch := first | omega | (simp only [hNw, hPt]; omega)) only [gN] <;> first | rfl | assumption)) (by first | rfl | assumption)) rfl (eqr _ (by first | rfl | exact lpl (by assumption) | (simp [AV.plain, AV.plains, AV.cells, pc])))) (sco (sld rfl rfl (ldg (n := 2) (by kernel_rfl) (by first | assumption | (simp (disch := first | omega | (simp only [hNw, hPt]; omega)) only [gN] <;> first | rfl | assumption)) (by first | rfl | assumption)) rfl (eqr _ (by first | rfl | exact lpl (by assumption) | (simp [AV.plain, AV.plains, AV.cells, pc])))) (sco (sld rfl rfl (lda (n := 1) (by kernel_rfl) (by first | assumption | (simp (disch := first | omega | (simp only [hNw, hPt]; omega)) only [gN] <;> first | rfl | assumption)) (by first | rfl | assumption)) rfl (eqr _ (by first | rfl | exact lpl (by assumption) | (simp [AV.plain, AV.plains, AV.cells, pc])))) (sco (sld rfl rfl (ldg (n := 2) (by kernel_rfl) (by first | assumption | (simp (disch := first | omega | (simp only [hNw, hPt]; omega)) only [gN] <;> first | rfl | assumption)) (by first | rfl | assumption)) rfl (eqr _ (by first | rfl | exact lpl (by assumption) | (simp [AV.plain, AV.plains, AV.cells, pc])))) (sco (sld rfl rfl (lda (n := 1) (by kernel_rfl) (by first | assumption | (simp (disch := first | omega | (simp only [hNw, hPt]; omega)) only [gN] <;> first | rfl | assumption)) (by first | rfl | assumption)) rfl (eqr _ (by first | rfl | exact lpl (by assumption) | (simp [AV.plain, AV.plains, AV.cells, pc])))) (sco (sld rfl rfl (ldg (n := 6) (by kernel_rfl) (by first | assumption | (simp (disch := first | omega | (simp only [hNw, hPt]; omega)) only [gN] <;> first | rfl | assumption)) (by first | rfl | assumption)) rfl (eqr _ (by first | rfl | exact lpl (by assumption) | (simp [AV.plain, AV.plains, AV.cells, pc])))) rfl)))))))), ?_⟩; refine pS ?_; refine oE rfl rfl rfl rfl rfl (c106l (m + 0) vC (ds.map Day.rn) _ (by rw [rn_map]; exact rC) (by simp; omega)) ?_
  rintro rv HD ⟨qD, rD, cD, fD⟩
  have gD : Grow W HD := Grow.ret gC qD
  have nD : W.next + 3 ≤ HD.next := by have := qD.ext.next; first | omega | (simp only [hNw] at this; omega)
  have aD : (HD.get W.next).bind AObj.cs = some [.fn 85 [] []] := by rw [qD.ext.get _ (by first | omega | (simp only [hNw]; omega))]; first | assumption | (simp (disch := first | omega | (simp only [hNw, hPt]; omega)) only [gN] <;> first | rfl | assumption)
  have bD : (HD.get (W.next + 1)).bind AObj.cs = some [cv, I g.slo, I g.shi, I g.klo, I g.khi, I g.melt] := by rw [qD.ext.get _ (by first | omega | (simp only [hNw]; omega))]; first | assumption | (simp (disch := first | omega | (simp only [hNw, hPt]; omega)) only [gN] <;> first | rfl | assumption)
  have zD : HD.get (W.next + 2) = some (.cells [.nils, I 0, I 0, I 0, I 0, I 0, .nils, I 0, I 0, .nils, .nils] 110) := by rw [qD.ext.get _ (by first | omega | (simp only [hNw]; omega))]; first | assumption | exact gn0 _ _ | (simp (disch := first | omega | (simp only [hNw, hPt]; omega)) only [gN] <;> first | rfl | assumption)
  have hlv : lenOf lv = some cs.length := by simpa using rB.len
  have hrv : lenOf rv = some ds.length := by simpa using rD.len
  refine oN ⟨(sco (sld rfl rfl (lda (n := 1) (by kernel_rfl) (by first | assumption | (simp (disch := first | omega | (simp only [hNw, hPt]; omega)) only [gN] <;> first | rfl | assumption)) (by first | rfl | assumption)) rfl (eqr _ (by first | rfl | exact lpl (by assumption) | (simp [AV.plain, AV.plains, AV.cells, pc])))) (sco (sld rfl rfl (lda (n := 1) (by kernel_rfl) (by first | assumption | (simp (disch := first | omega | (simp only [hNw, hPt]; omega)) only [gN] <;> first | rfl | assumption)) (by first | rfl | assumption)) rfl (eqr _ (by first | rfl | exact lpl (by assumption) | (simp [AV.plain, AV.plains, AV.cells, pc])))) (sco (sld rfl rfl (ldg (n := 2) (by kernel_rfl) (by first | assumption | (simp (disch := first | omega | (simp only [hNw, hPt]; omega)) only [gN] <;> first | rfl | assumption)) (by first | rfl | assumption)) rfl (eqr _ (by first | rfl | exact lpl (by assumption) | (simp [AV.plain, AV.plains, AV.cells, pc])))) (sco (sld rfl rfl (lda (n := 1) (by kernel_rfl) (by first | assumption | (simp (disch := first | omega | (simp only [hNw, hPt]; omega)) only [gN] <;> first | rfl | assumption)) (by first | rfl | assumption)) rfl (eqr _ (by first | rfl | exact lpl (by assumption) | (simp [AV.plain, AV.plains, AV.cells, pc])))) (sco (sld rfl rfl (ldg (n := 2) (by kernel_rfl) (by first | assumption | (simp (disch := first | omega | (simp only [hNw, hPt]; omega)) only [gN] <;> first | rfl | assumption)) (by first | rfl | assumption)) rfl (eqr _ (by first | rfl | exact lpl (by assumption) | (simp [AV.plain, AV.plains, AV.cells, pc])))) (sco (sld rfl rfl (lda (n := 1) (by kernel_rfl) (by first | assumption | (simp (disch := first | omega | (simp only [hNw, hPt]; omega)) only [gN] <;> first | rfl | assumption)) (by first | rfl | assumption)) rfl (eqr _ (by first | rfl | exact lpl (by assumption) | (simp [AV.plain, AV.plains, AV.cells, pc])))) (sco (sld rfl rfl (ldg (n := 6) (by kernel_rfl) (by first | assumption | (simp (disch := first | omega | (simp only [hNw, hPt]; omega)) only [gN] <;> first | rfl | assumption)) (by first | rfl | assumption)) rfl (eqr _ (by first | rfl | exact lpl (by assumption) | (simp [AV.plain, AV.plains, AV.cells, pc])))) rfl))))))), ?_⟩; refine pS ?_; refine OkO.build (z := [.int .i64 0, .int .i64 0, .nils, .nils]) (pl := [(0, 1), (1, 1), (2, 1), (3, 1)]) (cs := [I g.slo, I g.klo, lv, rv]) rfl (by kernel_rfl) rfl (build45 hlv hrv _ _) ?_; refine oN ⟨rfl, ?_⟩; refine pS ?_; refine OkO.build (z := [.nils, .int .i64 0, .int .i64 0, .int .i64 0, .int .i64 0, .int .i64 0, .nils, .int .i64 0, .int .i64 0, .nils, .nils]) (pl := [(0, 6), (6, 1), (7, 4)]) (cs := [cv, I g.slo, I g.shi, I g.klo, I g.khi, I g.melt, dv, I g.slo, I g.klo, lv, rv]) rfl (by kernel_rfl) rfl (build110 hld _ _ _ _ _ _ _ _ _ _) ?_; refine oN ⟨rfl, ?_⟩; refine pS ?_; refine oT rfl rfl rfl (sAc (n := 11) (ag := true) (l := [cv, I g.slo, I g.shi, I g.klo, I g.khi, I g.melt, dv, I g.slo, I g.klo, lv, rv]) (by kernel_rfl) (by first | assumption | simp (disch := first | omega | (simp only [hNw, hPt]; omega)) only [gN] <;> first | rfl | assumption) rfl (by show atoms [cv, I g.slo, I g.shi, I g.klo, I g.khi, I g.melt, dv, I g.slo, I g.klo, lv, rv] = true; simp [atoms, hca, hda, cB.atom.1, cD.atom.1, show ∀ z, (I z).atom = true from fun _ => rfl]) rfl) ?_; refine oN ⟨rfl, ?_⟩; refine OkP.nil ?_
  refine Ok.ret ⟨.inr rfl, ?_⟩
  refine back_newQ (resV_cell (b := W.next + 2) (off := 0) rfl (ldg (n := 11) (by kernel_rfl) (show ((HD.put (W.next + 2) (.cells [cv, I g.slo, I g.shi, I g.klo, I g.khi, I g.melt, dv, I g.slo, I g.klo, lv, rv] 110)).get (W.next + 2)).bind AObj.cs = some [cv, I g.slo, I g.shi, I g.klo, I g.khi, I g.melt, dv, I g.slo, I g.klo, lv, rv] by rw [gp0]; rfl) rfl) resV_nil) rfl (by rw [← hW]; exact gD.put _ (by simp only [hNw]; omega)) (flat_cons (flat_no hlc (by omega))) (fun H2 p1 h1 h2 => ⟨lv, rv, rfl, p1, ?_, ?_⟩)
  · exact by
      have hq : Ints H2 lv (lowL cs) := by
        have e : ((cs.map Cell.lv).map fun x => [I x.lo]) = (lowL cs).map fun n => [I n] := by simp [lowL, Cell.lv]
        rw [e] at fB rB
        exact fB H2 (by rw [h2]; exact Nat.le_trans qC.ext.next qD.ext.next) (fun n a1 a2 => by have := qA.ext.next; simp only [hNw] at this; rw [h1, gpo _ _ _ _ (by first | omega | (simp only [hNw]; omega)), qD.ext.get _ (by have := qC.ext.next; omega), qC.ext.get _ a2])
      exact hq
  · exact by
      have hq : Ints H2 rv (lowR ds) := by
        have e : ((ds.map Day.rn).map fun x => [I x.lo]) = (lowR ds).map fun n => [I n] := by simp [lowR, Day.rn]
        rw [e] at fD rD
        exact fD H2 (by rw [h2]; exact Nat.le_refl _) (fun n a1 a2 => by rw [h1, gpo _ _ _ _ (by first | omega | (simp only [hNw]; omega))])
      exact hq
end
end Go.Ev

set_option maxRecDepth 100000
set_option linter.unusedSimpArgs false
set_option linter.unusedVariables false
namespace Go.Ev
open Go Go.Proofs
noncomputable section
/-- Lists of ranges, each in a block of its own, none of them that of either slice. -/
def RowsR (G : Heap) (v6 v7 : AV) (vs : List AV) (rows : List (List Rg)) : Prop := vs.length = rows.length ∧ ∀ (j : Nat) x r, vs[j]? = some x → rows[j]? = some r → ∃ b, x = .opn b r.length ∧ G.get b = some (.opn ((r.map Rg.c).flatten) 36 2) ∧ b < G.next ∧ (∀ m, v6 ≠ .opn b m) ∧ (∀ m, v7 ≠ .opn b m)
theorem RowsR.keep {G G' : Heap} {v6 v7 w6 w7 : AV} {vs : List AV} {rows : List (List Rg)} (h : RowsR G v6 v7 vs rows) (hk : ∀ j, j < G.next → (∀ m, v6 ≠ .opn j m) → (∀ m, v7 ≠ .opn j m) → G'.get j = G.get j) (hn : G.next ≤ G'.next)
    (h6 : ∀ b m, w6 = .opn b m → G.next ≤ b ∨ v6 = w6) (h7 : ∀ b m, w7 = .opn b m → G.next ≤ b ∨ v7 = w7) : RowsR G' w6 w7 vs rows := by
  refine ⟨h.1, fun j x r k1 k2 => ?_⟩
  obtain ⟨b, a1, a2, a3, a4, a5⟩ := h.2 j x r k1 k2
  refine ⟨b, a1, by rw [hk b a3 a4 a5]; exact a2, by omega, fun m hm => ?_, fun m hm => ?_⟩
  · rcases h6 b m hm with h | h
    · omega
    · exact a4 m (h.trans hm)
  · rcases h7 b m hm with h | h
    · omega
    · exact a5 m (h.trans hm)
theorem RowsR.snoc {G : Heap} {v6 v7 : AV} {vs : List AV} {rows : List (List Rg)} (h : RowsR G v6 v7 vs rows) {b : Nat} {r : List Rg} (h1 : G.get b = some (.opn ((r.map Rg.c).flatten) 36 2)) (h2 : b < G.next) (h3 : ∀ m, v6 ≠ .opn b m) (h4 : ∀ m, v7 ≠ .opn b m) : RowsR G v6 v7 (vs ++ [.opn b r.length]) (rows ++ [r]) := by
  refine ⟨by simp [h.1], fun j x q k1 k2 => ?_⟩
  have hl := h.1
  by_cases hj : j < vs.length
  · rw [List.getElem?_append_left hj] at k1
    rw [List.getElem?_append_left (by omega)] at k2
    exact h.2 j x q k1 k2
  · have hj2 : j = vs.length := by
      have := (List.getElem?_eq_some_iff.1 k1).1
      simp at this; omega
    subst hj2
    simp at k1
    rw [hl] at k2
    simp at k2
    subst k1 k2
    exact ⟨b, rfl, h1, h2, h3, h4⟩
/-- A slice of lists of ranges. -/
def ListsR (G : Heap) (v : AV) (rows : List (List Rg)) : Prop := ∃ vs : List AV, Row G v 1 (vs.map fun x => [x]) ∧ vs.length = rows.length ∧ ∀ (j : Nat) x r, vs[j]? = some x → rows[j]? = some r → Row G x 2 (r.map Rg.c)
theorem ListsR.ext {H G : Heap} {v : AV} {rows : List (List Rg)} (h : ListsR H v rows) (g : Ext H G) : ListsR G v rows := let ⟨vs, h1, h2, h3⟩ := h; ⟨vs, h1.ext g, h2, fun j x r k1 k2 => (h3 j x r k1 k2).ext g⟩
theorem backRow {H G H' : Heap} {v : AV} {sz : Nat} {l : List (List AV)} (hc : Cut G v sz) (hr : Row G v sz l) (r : (H' = H ∧ v.flat = true) ∨ ((∀ n, H'.get n = G.get n) ∧ H'.next = G.next)) : Row H' v sz l := by
  rcases r with ⟨_, hf⟩ | ⟨h1, h2⟩
  · rcases hc with ⟨b, off, len, cap, rfl, _⟩ | ⟨b, len, cs, e, rfl, _⟩ | rfl
    · cases hf
    · cases hf
    · have hl : l = [] := by
        have := hr.len
        cases l with
        | nil => rfl
        | cons a b => simp [lenOf] at this
      subst hl
      exact Row.nil _ _
  · exact hr.same h1 h2
/-- The range of a level, of all on a day, of the snow. -/
def lvR (cs : List Cell) (g : Gr) (ds : List Day) (i k : Nat) : Rg := ⟨(levP cs g ds (lowT g) (lowL cs) (lowR ds) (i + 1)).getD k 0, (levP cs g ds (highT g) (highL cs) (highR ds) (i + 1)).getD k 0⟩
def rowG (cs : List Cell) (g : Gr) (ds : List Day) (i k : Nat) : List Rg := (List.range k).map (lvR cs g ds i)
def rowsG (cs : List Cell) (g : Gr) (ds : List Day) (n : Nat) : List (List Rg) := (List.range n).map fun i => rowG cs g ds i cs.length
def snG (cs : List Cell) (g : Gr) (ds : List Day) (n : Nat) : List Rg := (List.range n).map fun i => ⟨snowP g.melt ds (lowR ds) (lowT g).snow (i + 1), snowP g.melt ds (highR ds) (highT g).snow (i + 1)⟩
end
end Go.Ev

set_option maxRecDepth 100000
set_option linter.unusedSimpArgs false
set_option linter.unusedVariables false
namespace Go.Ev
open Go Go.Proofs
noncomputable section
theorem ListsR.same {G G' : Heap} {v : AV} {rows : List (List Rg)} (h : ListsR G v rows) (hg : ∀ n, G'.get n = G.get n) (hn : G'.next = G.next) : ListsR G' v rows := h.ext ⟨by omega, fun n _ => hg n⟩
/-- Lists of lists of the same lengths. -/
def Same (a b : List (List Int)) : Prop := a.length = b.length ∧ ∀ (i : Nat) x y, a[i]? = some x → b[i]? = some y → x.length = y.length
theorem c29l (m : Nat) (cv dv : AV) (cs : List Cell) (g : Gr) (ds : List Day) (H : Heap) (hR : Row H cv 7 (cs.map Cell.c)) (hY : Row H dv 3 (ds.map Day.c)) (hn8 : cs.length ≤ 8) (hd30 : ds.length ≤ 30) : ∃ v H', RR (m + 1) (.fn 29 [.agg [cv, I g.slo, I g.shi, I g.klo, I g.khi, I g.melt], dv, .bool false]) H = some (v, H') ∧ ∃ lv rv, v = .agg [I g.slo, I g.klo, lv, rv] ∧ Ret H H' ∧ Ints H' lv (lowL cs) ∧ Ints H' rv (lowR ds) := by
  show ∃ v H', evFn Try.prog (RR (m + 0)) 29 [.agg [cv, I g.slo, I g.shi, I g.klo, I g.khi, I g.melt], dv, .bool false] H = some (v, H') ∧ ∃ lv rv, v = .agg [I g.slo, I g.klo, lv, rv] ∧ Ret H H' ∧ Ints H' lv (lowL cs) ∧ Ints H' rv (lowR ds)
  refine fn_okE Try.func29 rfl rfl (by kernel_rfl) (by kernel_rfl) ?_
  obtain ⟨W, hW, hg, hN, hE, hG⟩ := wOf H
  rw [← hW]
  have hlc : lenOf cv = some cs.length := by simpa using hR.len
  have pc := lpl hlc
  have hld : lenOf dv = some ds.length := by simpa using hY.len
  refine kS ?_; refine kR ?_; refine OkO.box rfl rfl ?_; refine OkO.alloc (z := [.int .i64 0, .int .i64 0, .nils, .nils]) rfl (by kernel_rfl) ?_; refine oN ?_; refine kS ?_; refine kR ?_; refine oF (o := 1) rfl (by kernel_rfl) rfl ?_; refine oF (o := 0) rfl (by kernel_rfl) rfl ?_; refine oL rfl rfl (lda (n := 1) (by kernel_rfl) (by first | assumption | (simp (disch := first | omega | (simp only [hNw, hPt]; omega)) only [gN] <;> first | rfl | assumption)) (by first | rfl | assumption)) ?_; refine oF (o := 3) rfl (by kernel_rfl) rfl ?_; refine oF (o := 0) rfl (by kernel_rfl) rfl ?_; refine oL rfl rfl (lda (n := 1) (by kernel_rfl) (by first | assumption | (simp (disch := first | omega | (simp only [hNw, hPt]; omega)) only [gN] <;> first | rfl | assumption)) (by first | rfl | assumption)) ?_; refine OkO.build (z := [.int .i64 0, .int .i64 0, .nils, .nils]) (pl := [(0, 1), (1, 1), (2, 1), (3, 1)]) rfl (by kernel_rfl) rfl rfl ?_; refine OkO.alloc (z := [.int .i64 0, .int .i64 0, .nils, .nils]) rfl (by kernel_rfl) ?_; refine oT rfl rfl rfl (sAc (n := 4) (ag := true) (by kernel_rfl) (by first | assumption | (simp (disch := first | omega | (simp only [hNw, hPt]; omega)) only [gN] <;> first | rfl | assumption)) rfl rfl (by first | rfl | exact spl_set _ _ _ (by first | assumption | (simp; omega)))) ?_; refine oN ?_; refine kS ?_; refine kS ?_; refine kR ?_; refine oM rfl rfl ?_; refine oN ?_
  refine Ok.cond rfl (fun h1 => ?_) (fun h1 => ?_)
  · exact absurd h1 (by simp)
  · refine Ok.skip ?_
    refine kS ?_; refine kS ?_; refine kR ?_; refine oA rfl rfl ?_; refine oN ?_; refine Ok.block ?_
    refine Ok.loop (fun n s => ∃ (i : Nat) (vl vr : AV), n = cs.length - i ∧ i ≤ cs.length ∧ Mine (W.next + 3) s.H vl 3 1 (((lowL cs).take i).map I) ∧ Mine (W.next + 3) s.H vr 3 1 (((lowR ds).take 0).map I) ∧ (∀ b m m', vl = .opn b m → vr ≠ .opn b m') ∧ Has 7 [(1, dv), (2, .bool false), (3, .ptr W.next 0), (6, .ptr (W.next + 1) 0), (7, .ptr (W.next + 2) 0), (8, I (i : Int))] s.T ∧ s.D = [] ∧ Grow W s.H ∧ s.H.get W.next = some (.cells [cv, I g.slo, I g.shi, I g.klo, I g.khi, I g.melt] 26) ∧ s.H.get (W.next + 1) = some (.cells [I 0, I 0, .nils, .nils] 30) ∧ s.H.get (W.next + 2) = some (.cells [I g.slo, I g.klo, vl, vr] 30) ∧ W.next + 3 ≤ s.H.next) (cs.length) (by unfold loopFuel; omega)
      ⟨0, .nils, .nils, rfl, Nat.zero_le _, Mine.nil _ _ _ _, Mine.nil _ _ _ _, nofun, Has.of (by kernel_rfl), rfl, (by (try dsimp only); repeat (first | exact hG | apply Grow.new | (refine Grow.put ?_ _ (by first | omega | (simp only [hNw, hPt]; omega))))), (by simp (disch := first | omega | (simp only [hNw, hPt]; omega)) only [gN] <;> first | rfl | assumption), (by first | exact gn1 _ _ _ | simp (disch := first | omega | (simp only [hNw, hPt]; omega)) only [gN] <;> first | rfl | assumption), by first | exact gp0 _ _ _ | (simp (disch := first | omega | (simp only [hNw, hPt]; omega)) only [gN] <;> first | rfl | assumption), by simp only [hNw, hPt]; omega⟩ ?_
    rintro n ⟨T, D, G⟩ ⟨i, vl, vr, hn, hi, hml, hmr, hsep, ⟨f, hT⟩, hD, hg, f0, f1, f3, hb4⟩
    dsimp only at *
    subst hT hD
    have hgn := hg.next
    have e0 : (G.get W.next).bind AObj.cs = some [cv, I g.slo, I g.shi, I g.klo, I g.khi, I g.melt] := by rw [f0]; rfl
    have e3 : (G.get (W.next + 2)).bind AObj.cs = some [I g.slo, I g.klo, vl, vr] := by rw [f3]; rfl
    obtain ⟨ll, hll, _⟩ := hml.len
    obtain ⟨lr, hlr, _⟩ := hmr.len
    refine kS ?_; refine kS ?_; refine kR ?_; refine oM rfl rfl ?_; refine oF (o := 0) rfl (by kernel_rfl) rfl ?_; refine oL rfl rfl (lda (n := 1) (by kernel_rfl) (by first | assumption | (simp (disch := first | omega | (simp only [hNw, hPt]; omega)) only [gN] <;> first | rfl | assumption)) (by first | rfl | assumption)) ?_; refine oB rfl rfl rfl qbl ?_; refine OkO.bin rfl rfl rfl (bin_lss _ _) ?_; refine oN ?_
    refine Ok.cond rfl (fun h2 => ?_) (fun h2 => ?_)
    · have hlt : i < cs.length := by simpa using h2
      obtain ⟨bb, off, ccs, i1, i2w, i3, i4⟩ := (hR.ext (hE W hG)).at_ i cs[i].c (by simp [hlt])
      have i2 : (G.get bb).bind AObj.cs = some ccs := by rw [hg.get _ i4]; exact i2w
      have i4g : bb < G.next := by omega
      have i5 : ccs[off + 0 + 0]? = some (I cs[i].lo) := by rw [show off + 0 + 0 = off + 0 from rfl]; exact seg_get i3 0 (by omega)
      have i6 : ccs[off + 0 + 1]? = some (I cs[i].hi) := by rw [Nat.add_zero]; exact seg_get i3 1 (by omega)
      refine Ok.skip ?_; refine kS ?_; refine Ok.block ?_; refine kS ?_; refine kR ?_; refine oF (o := 0) rfl (by kernel_rfl) rfl ?_; refine oL rfl rfl (lda (n := 1) (by kernel_rfl) (by first | assumption | (simp (disch := first | omega | (simp only [hNw, hPt]; omega)) only [gN] <;> first | rfl | assumption)) (by first | rfl | assumption)) ?_; refine oM rfl rfl ?_; refine qX (sz := 7) (n := i) rfl rfl rfl ?_; refine oF (o := 0) rfl (by kernel_rfl) rfl ?_; refine oF (o := 0) rfl (by kernel_rfl) rfl ?_; refine oL rfl rfl (lda (n := 1) (by kernel_rfl) (by first | assumption | (simp (disch := first | omega | (simp only [hNw, hPt]; omega)) only [gN] <;> first | rfl | assumption)) (by first | rfl | assumption)) ?_; refine oA rfl rfl ?_; refine oN ?_; refine kS ?_; refine kS ?_; refine kR ?_; refine oM rfl rfl ?_; refine oN ?_
      refine Ok.cond rfl (fun h3 => ?_) (fun h3 => ?_)
      · exact absurd h3 (by simp)
      · refine Ok.skip ?_
        refine kR ?_; refine oF (o := 2) rfl (by kernel_rfl) rfl ?_; refine oL rfl rfl (lda (n := 1) (by kernel_rfl) (by first | assumption | (simp (disch := first | omega | (simp only [hNw, hPt]; omega)) only [gN] <;> first | rfl | assumption)) (by first | rfl | assumption)) ?_; refine oM rfl rfl ?_; refine OkO.buildSlice (el := 3) (sz := 1) (z := [.int .i64 0]) rfl (by kernel_rfl) (by decide) rfl rfl ?_; refine OkO.builtinE rfl rfl rfl (Mine.app2 (W := W) (k0 := W.next + 3) (sz := 1) (by_ := 8) (e := 3) (n := 1) (new := [I cs[i].lo]) (hml.to (Grow.toNew G _)) (hg.new _) (by omega) (by simp only [hNw]; omega) (by kernel_rfl) (by kernel_rfl) (elems_new (n := 1) (sz := 1) rfl) rfl rfl (by rw [List.length_map, List.length_take]; omega) (by omega) (by omega) rfl) ?_
        rintro v2 G2 ⟨q1, q2, q3, q4, q5, q6⟩
        simp only [hNw] at q4 q5 q6
        obtain ⟨mm, hv2⟩ := q6
        have z0 : G2.get (W.next) = some (.cells [cv, I g.slo, I g.shi, I g.klo, I g.khi, I g.melt] 26) := by rw [q3.get _ (by omega) (by simp only [hNw]; omega), gno _ _ _ (by omega)]; exact f0
        have y0 : (G2.get (W.next)).bind AObj.cs = some [cv, I g.slo, I g.shi, I g.klo, I g.khi, I g.melt] := by rw [z0]; rfl
        have z1 : G2.get (W.next + 1) = some (.cells [I 0, I 0, .nils, .nils] 30) := by rw [q3.get _ (by omega) (by simp only [hNw]; omega), gno _ _ _ (by omega)]; exact f1
        have y1 : (G2.get (W.next + 1)).bind AObj.cs = some [I 0, I 0, .nils, .nils] := by rw [z1]; rfl
        have z2 : G2.get (W.next + 2) = some (.cells [I g.slo, I g.klo, vl, vr] 30) := by rw [q3.get _ (by omega) (by simp only [hNw]; omega), gno _ _ _ (by omega)]; exact f3
        have y2 : (G2.get (W.next + 2)).bind AObj.cs = some [I g.slo, I g.klo, vl, vr] := by rw [z2]; rfl
        have hmo : Mine (W.next + 3) G2 vr 3 1 _ := (hmr.to (Grow.toNew G _)).keep (w := vl) (fun j h1 h2 => q4 j (by simpa using h1) h2) (fun b m m' h1 h2 => hsep b m' m h2 h1) (by simp only [hNw]; omega)
        have hs2 : ∀ b m m', v2 = .opn b m → vr ≠ .opn b m' := fun b m m' h1 h2 => by rw [hv2] at h1; have e9 := (AV.opn.inj h1).1; have := hmr.lt h2; omega
        have iw : (G2.get bb).bind AObj.cs = some ccs := by rw [q2.get _ i4]; exact i2w
        obtain ⟨bb2, hbb2⟩ : ∃ bb2, bb2 = G.next + 1 := ⟨_, rfl⟩
        rw [← hbb2] at hv2
        subst hv2
        refine oF (o := 2) rfl (by kernel_rfl) rfl ?_; refine oT rfl rfl rfl (sAc (n := 1) (ag := false) (by kernel_rfl) (by first | assumption | (simp (disch := first | omega | (simp only [hNw, hPt]; omega)) only [gN] <;> first | rfl | assumption)) rfl rfl (by first | rfl | exact spl_set _ _ _ (by first | assumption | (simp; omega)))) ?_; refine oN ?_; refine kR ?_; refine oM rfl rfl ?_; refine OkO.bin rfl rfl rfl (bin_add (by omega) (by omega)) ?_; refine oA rfl rfl ?_; refine oN ?_
        refine ⟨cs.length - (i + 1), by omega, i + 1, .opn bb2 mm, vr, rfl, hlt, ?_, ?_, hs2, Has.of (by kernel_rfl), rfl, q2.put _ (by omega), by rw [gpo _ _ _ _ (by omega)]; exact z0, by rw [gpo _ _ _ _ (by omega)]; exact z1, gp0 _ _ _, by simp only [hPt]; omega⟩
        · have ee : ((lowL cs).take (i + 1)).map I = ((lowL cs).take i).map I ++ [I cs[i].lo] := by rw [List.take_succ_eq_append_getElem (by simp [lowL]; omega), List.map_append]; simp [lowL]
          rw [ee]; exact q1.put _ (by omega)
        · exact hmo.put _ (by omega)
    · have hge : i = cs.length := by simp at h2; omega
      subst hge
      have hml : Mine (W.next + 3) G vl 3 1 ((lowL cs).map I) := by rw [List.take_of_length_le (by simp [lowL])] at hml; exact hml
      refine Ok.exit ?_; refine kS ?_; refine kS ?_; refine kR ?_; refine oA rfl rfl ?_; refine oN ?_; refine Ok.block ?_
      refine Ok.loop (fun n s => ∃ (i : Nat) (vl vr : AV), n = ds.length - i ∧ i ≤ ds.length ∧ Mine (W.next + 3) s.H vl 3 1 ((lowL cs).map I) ∧ Mine (W.next + 3) s.H vr 3 1 (((lowR ds).take i).map I) ∧ (∀ b m m', vl = .opn b m → vr ≠ .opn b m') ∧ Has 7 [(1, dv), (2, .bool false), (3, .ptr W.next 0), (6, .ptr (W.next + 1) 0), (7, .ptr (W.next + 2) 0), (10, I (i : Int))] s.T ∧ s.D = [] ∧ Grow W s.H ∧ s.H.get W.next = some (.cells [cv, I g.slo, I g.shi, I g.klo, I g.khi, I g.melt] 26) ∧ s.H.get (W.next + 1) = some (.cells [I 0, I 0, .nils, .nils] 30) ∧ s.H.get (W.next + 2) = some (.cells [I g.slo, I g.klo, vl, vr] 30) ∧ W.next + 3 ≤ s.H.next) (ds.length) (by unfold loopFuel; omega)
        ⟨0, vl, vr, rfl, Nat.zero_le _, hml, hmr, hsep, Has.of (by kernel_rfl), rfl, hg, f0, f1, f3, hb4⟩ ?_
      rintro n ⟨T, D, G⟩ ⟨i, vl, vr, hn, hi, hml, hmr, hsep, ⟨f, hT⟩, hD, hg, f0, f1, f3, hb4⟩
      dsimp only at *
      subst hT hD
      have hgn := hg.next
      have e0 : (G.get W.next).bind AObj.cs = some [cv, I g.slo, I g.shi, I g.klo, I g.khi, I g.melt] := by rw [f0]; rfl
      have e3 : (G.get (W.next + 2)).bind AObj.cs = some [I g.slo, I g.klo, vl, vr] := by rw [f3]; rfl
      obtain ⟨ll, hll, _⟩ := hml.len
      obtain ⟨lr, hlr, _⟩ := hmr.len
      refine kS ?_; refine kS ?_; refine kR ?_; refine oM rfl rfl ?_; refine oM rfl rfl ?_; refine oB rfl rfl rfl qbl ?_; refine OkO.bin rfl rfl rfl (bin_lss _ _) ?_; refine oN ?_
      refine Ok.cond rfl (fun h4 => ?_) (fun h4 => ?_)
      · have hlt : i < ds.length := by simpa using h4
        obtain ⟨bb, off, ccs, i1, i2w, i3, i4⟩ := (hY.ext (hE W hG)).at_ i ds[i].c (by simp [hlt])
        have i2 : (G.get bb).bind AObj.cs = some ccs := by rw [hg.get _ i4]; exact i2w
        have i4g : bb < G.next := by omega
        have i5 : ccs[off + 0 + 0]? = some (I ds[i].lo) := by rw [show off + 0 + 0 = off + 0 from rfl]; exact seg_get i3 0 (by omega)
        have i6 : ccs[off + 0 + 1]? = some (I ds[i].hi) := by rw [Nat.add_zero]; exact seg_get i3 1 (by omega)
        refine Ok.skip ?_; refine kS ?_; refine Ok.block ?_; refine kS ?_; refine kR ?_; refine oM rfl rfl ?_; refine oM rfl rfl ?_; refine qX (sz := 3) (n := i) rfl rfl rfl ?_; refine oF (o := 0) rfl (by kernel_rfl) rfl ?_; refine oF (o := 0) rfl (by kernel_rfl) rfl ?_; refine oL rfl rfl (lda (n := 1) (by kernel_rfl) (by first | assumption | (simp (disch := first | omega | (simp only [hNw, hPt]; omega)) only [gN] <;> first | rfl | assumption)) (by first | rfl | assumption)) ?_; refine oA rfl rfl ?_; refine oN ?_; refine kS ?_; refine kS ?_; refine kR ?_; refine oM rfl rfl ?_; refine oN ?_
        refine Ok.cond rfl (fun h5 => ?_) (fun h5 => ?_)
        · exact absurd h5 (by simp)
        · refine Ok.skip ?_
          refine kR ?_; refine oF (o := 3) rfl (by kernel_rfl) rfl ?_; refine oL rfl rfl (lda (n := 1) (by kernel_rfl) (by first | assumption | (simp (disch := first | omega | (simp only [hNw, hPt]; omega)) only [gN] <;> first | rfl | assumption)) (by first | rfl | assumption)) ?_; refine oM rfl rfl ?_; refine OkO.buildSlice (el := 3) (sz := 1) (z := [.int .i64 0]) rfl (by kernel_rfl) (by decide) rfl rfl ?_; refine OkO.builtinE rfl rfl rfl (Mine.app2 (W := W) (k0 := W.next + 3) (sz := 1) (by_ := 8) (e := 3) (n := 1) (new := [I ds[i].lo]) (hmr.to (Grow.toNew G _)) (hg.new _) (by omega) (by simp only [hNw]; omega) (by kernel_rfl) (by kernel_rfl) (elems_new (n := 1) (sz := 1) rfl) rfl rfl (by rw [List.length_map, List.length_take]; omega) (by omega) (by omega) rfl) ?_
          rintro v2 G2 ⟨q1, q2, q3, q4, q5, q6⟩
          simp only [hNw] at q4 q5 q6
          obtain ⟨mm, hv2⟩ := q6
          have z0 : G2.get (W.next) = some (.cells [cv, I g.slo, I g.shi, I g.klo, I g.khi, I g.melt] 26) := by rw [q3.get _ (by omega) (by simp only [hNw]; omega), gno _ _ _ (by omega)]; exact f0
          have y0 : (G2.get (W.next)).bind AObj.cs = some [cv, I g.slo, I g.shi, I g.klo, I g.khi, I g.melt] := by rw [z0]; rfl
          have z1 : G2.get (W.next + 1) = some (.cells [I 0, I 0, .nils, .nils] 30) := by rw [q3.get _ (by omega) (by simp only [hNw]; omega), gno _ _ _ (by omega)]; exact f1
          have y1 : (G2.get (W.next + 1)).bind AObj.cs = some [I 0, I 0, .nils, .nils] := by rw [z1]; rfl
          have z2 : G2.get (W.next + 2) = some (.cells [I g.slo, I g.klo, vl, vr] 30) := by rw [q3.get _ (by omega) (by simp only [hNw]; omega), gno _ _ _ (by omega)]; exact f3
          have y2 : (G2.get (W.next + 2)).bind AObj.cs = some [I g.slo, I g.klo, vl, vr] := by rw [z2]; rfl
          have hmo : Mine (W.next + 3) G2 vl 3 1 _ := (hml.to (Grow.toNew G _)).keep (w := vr) (fun j h1 h2 => q4 j (by simpa using h1) h2) (fun b m m' h1 h2 => hsep b m m' h1 h2) (by simp only [hNw]; omega)
          have hs2 : ∀ b m m', vl = .opn b m → v2 ≠ .opn b m' := fun b m m' h1 h2 => by rw [hv2] at h2; have e9 := (AV.opn.inj h2).1; have := hml.lt h1; omega
          have iw : (G2.get bb).bind AObj.cs = some ccs := by rw [q2.get _ i4]; exact i2w
          obtain ⟨bb2, hbb2⟩ : ∃ bb2, bb2 = G.next + 1 := ⟨_, rfl⟩
          rw [← hbb2] at hv2
          subst hv2
          refine oF (o := 3) rfl (by kernel_rfl) rfl ?_; refine oT rfl rfl rfl (sAc (n := 1) (ag := false) (by kernel_rfl) (by first | assumption | (simp (disch := first | omega | (simp only [hNw, hPt]; omega)) only [gN] <;> first | rfl | assumption)) rfl rfl (by first | rfl | exact spl_set _ _ _ (by first | assumption | (simp; omega)))) ?_; refine oN ?_; refine kR ?_; refine oM rfl rfl ?_; refine OkO.bin rfl rfl rfl (bin_add (by omega) (by omega)) ?_; refine oA rfl rfl ?_; refine oN ?_
          refine ⟨ds.length - (i + 1), by omega, i + 1, vl, .opn bb2 mm, rfl, hlt, ?_, ?_, hs2, Has.of (by kernel_rfl), rfl, q2.put _ (by omega), by rw [gpo _ _ _ _ (by omega)]; exact z0, by rw [gpo _ _ _ _ (by omega)]; exact z1, gp0 _ _ _, by simp only [hPt]; omega⟩
          · exact hmo.put _ (by omega)
          · have ee : ((lowR ds).take (i + 1)).map I = ((lowR ds).take i).map I ++ [I ds[i].lo] := by rw [List.take_succ_eq_append_getElem (by simp [lowR]; omega), List.map_append]; simp [lowR]
            rw [ee]; exact q1.put _ (by omega)
      · have hge : i = ds.length := by simp at h4; omega
        subst hge
        have hmr : Mine (W.next + 3) G vr 3 1 ((lowR ds).map I) := by rw [List.take_of_length_le (by simp [lowR])] at hmr; exact hmr
        obtain ⟨l1, l2⟩ := hml.one
        obtain ⟨r1, r2⟩ := hmr.one
        refine Ok.exit ?_; refine kS ?_; refine kR ?_; refine oL rfl rfl (ldg (n := 4) (by kernel_rfl) (by first | assumption | (simp (disch := first | omega | (simp only [hNw, hPt]; omega)) only [gN] <;> first | rfl | assumption)) (by first | rfl | assumption)) ?_; refine oT rfl rfl rfl (sAc (n := 4) (ag := true) (l := [I g.slo, I g.klo, vl, vr]) (by kernel_rfl) (by first | assumption | simp (disch := first | omega | (simp only [hNw, hPt]; omega)) only [gN] <;> first | rfl | assumption) rfl (by show atoms [I g.slo, I g.klo, vl, vr] = true; simp [atoms, l2, r2, show ∀ z, (I z).atom = true from fun _ => rfl]) rfl) ?_; refine oN ?_
        refine Ok.ret ⟨.inr rfl, ?_⟩
        refine back_newA (resV_cell (b := W.next + 1) (off := 0) rfl (ldg (n := 4) (by kernel_rfl) (show ((G.put (W.next + 1) (.cells [I g.slo, I g.klo, vl, vr] 30)).get (W.next + 1)).bind AObj.cs = some [I g.slo, I g.klo, vl, vr] by rw [gp0]; rfl) rfl) resV_nil) rfl (by rw [← hW]; exact hg.put _ (by omega)) (fun H2 q2 q3 => ⟨vl, vr, rfl, q2, ?_, ?_⟩)
        · exact (Mine.back (l := (lowL cs).map fun n => [I n]) (H := H) (by rw [ints_flat]; exact hml.put (n := W.next + 1) (.cells [I g.slo, I g.klo, vl, vr] 30) (by omega)) (fun x hx => by simp only [List.mem_map] at hx; obtain ⟨y, _, rfl⟩ := hx; rfl) (by omega) (q3.imp (fun h => ⟨h.1, (flat4 h.2).1⟩) id)).1
        · exact (Mine.back (l := (lowR ds).map fun n => [I n]) (H := H) (by rw [ints_flat]; exact hmr.put (n := W.next + 1) (.cells [I g.slo, I g.klo, vl, vr] 30) (by omega)) (fun x hx => by simp only [List.mem_map] at hx; obtain ⟨y, _, rfl⟩ := hx; rfl) (by omega) (q3.imp (fun h => ⟨h.1, (flat4 h.2).2⟩) id)).1
end
end Go.Ev

set_option maxRecDepth 100000
set_option linter.unusedSimpArgs false
set_option linter.unusedVariables false
namespace Go.Ev
open Go Go.Proofs
noncomputable section
/-- None is greater. -/
def LeL (a b : List Int) : Prop := ∀ j, a.getD j 0 ≤ b.getD j 0
theorem getD_set (a : List Int) (k j : Nat) (z : Int) (hk : k < a.length) : (a.set k z).getD j 0 = if k = j then z else a.getD j 0 := by
  rw [List.getD_eq_getElem?_getD, List.getElem?_set]
  split
  · first | rfl | (rw [if_pos (by omega)]; rfl)
  · rw [List.getD_eq_getElem?_getD]
theorem LeL.set {a b : List Int} (h : LeL a b) {k : Nat} {y z : Int} (hz : y ≤ z) (ha : k < a.length) (hb : k < b.length) : LeL (a.set k y) (b.set k z) := fun j => by
  rw [getD_set _ _ _ _ ha, getD_set _ _ _ _ hb]
  split
  · exact hz
  · exact h j
theorem LeL.refl (a : List Int) : LeL a a := fun _ => Int.le_refl _
/-- The same cell, with a pump that is not less. -/
structure LeC (x' x : Cell) : Prop where
  cap : x'.cap = x.cap
  keep : x'.keep = x.keep
  pass : x'.pass = x.pass
  to_ : x'.to = x.to
  pump : x.pump ≤ x'.pump
theorem LeC.refl (x : Cell) : LeC x x := ⟨rfl, rfl, rfl, rfl, Int.le_refl _⟩
theorem give_mono {x x' : Cell} (h : LeC x' x) (hx : x.lim) (hx' : x'.lim) {n' n : Int} (hn : n' ≤ n) : passd x' n' ≤ passd x n ∧ n' - pumpd x' n' - passd x' n' ≤ n - pumpd x n - passd x n := by
  have h1 := h.pump
  unfold Cell.lim at hx hx'
  have hr : n' - pumpd x' n' ≤ n - pumpd x n := by unfold pumpd; omega
  have he : max (n' - pumpd x' n' - x'.keep) 0 ≤ max (n - pumpd x n - x.keep) 0 := by rw [h.keep]; omega
  have hd : max (n - pumpd x n - x.keep) 0 - max (n' - pumpd x' n' - x'.keep) 0 ≤ (n - pumpd x n) - (n' - pumpd x' n') := by rw [h.keep]; omega
  unfold passd
  rw [h.pass]
  generalize n - pumpd x n = r at *
  generalize n' - pumpd x' n' = r' at *
  generalize max (r - x.keep) 0 = e at *
  generalize max (r' - x'.keep) 0 = e' at *
  have hp : 0 ≤ x.pass ∧ x.pass ≤ 1000 := hx.2.2.2.1
  have m1 := Int.mul_le_mul_of_nonneg_right he hp.1
  have m2 : e * x.pass ≤ e' * x.pass + (e - e') * 1000 := by
    have m3 := Int.mul_le_mul_of_nonneg_left hp.2 (show 0 ≤ e - e' by omega)
    have m4 : e * x.pass = e' * x.pass + (e - e') * x.pass := by rw [← Int.add_mul]; congr 1; omega
    omega
  constructor
  · exact Int.ediv_le_ediv (by omega) m1
  · omega
theorem stepA_mono {x x' : Cell} (h : LeC x' x) (hx : x.lim) (hx' : x'.lim) {i : Nat} {n' n so' so : Int} (hn : n' ≤ n) (hs : so' ≤ so) {a' a : List Int} (ha : LeL a' a) (hl' : a'.length = 8) (hl : a.length = 8) (hi : i < 8) (hto : x.to = -1 ∨ 0 ≤ x.to ∧ x.to < 8) : LeL (stepA x' i n' so' a') (stepA x i n so a) := by
  have hg := give_mono h hx hx' hn
  unfold stepA
  rw [h.to_]
  by_cases hm : x.to = -1
  · simp only [if_pos hm]
    exact ha.set (by have := ha i; omega) (by omega) (by omega)
  · simp only [if_neg hm]
    have h1 : LeL (a'.set x.to.toNat (a'.getD x.to.toNat 0 + passd x' n')) (a.set x.to.toNat (a.getD x.to.toNat 0 + passd x n)) := ha.set (by have := ha x.to.toNat; omega) (by omega) (by omega)
    exact h1.set (by have := h1 i; omega) (by rw [List.length_set]; omega) (by rw [List.length_set]; omega)
theorem aft_mono {cs cs' : List Cell} (hlen : cs'.length = cs.length) (hn : cs.length ≤ 8) (hc : ∀ i, i < cs.length → LeC (cs'.getD i default) (cs.getD i default)) (hlim : ∀ x ∈ cs, x.lim) (hlim' : ∀ x ∈ cs', x.lim) (ht : toOk (cs.length : Int) 0 cs = true) {bef' bef : List Int} (hb : LeL bef' bef) {so' so : Int} (hs : so' ≤ so) :
    ∀ i, i ≤ cs.length → LeL (aftP cs' bef' so' i) (aftP cs bef so i)
  | 0, _ => LeL.refl _
  | i + 1, hi => by
    have h := aft_mono hlen hn hc hlim hlim' ht hb hs i (by omega)
    have hx : cs.getD i default = cs[i]'(by omega) := by simp [show i < cs.length from by omega]
    have hx' : cs'.getD i default = cs'[i]'(by omega) := by simp [show i < cs'.length from by omega]
    have hto := ((toOk_iff _ _ _).1 ht i (cs[i]'(by omega)) (List.getElem?_eq_getElem (by omega))).1
    simp only [inB, Bool.and_eq_true, decide_eq_true_eq] at hto
    rw [aftP, aftP]
    exact stepA_mono (hc i (by omega)) (by rw [hx]; exact hlim _ (List.getElem_mem _)) (by rw [hx']; exact hlim' _ (List.getElem_mem _)) (hb i) hs h (aft_len _ _ _ _) (aft_len _ _ _ _) (by omega) (by rw [hx]; omega)
theorem cut_mono {cs cs' : List Cell} (hlen : cs'.length = cs.length) (hc : ∀ i, i < cs.length → LeC (cs'.getD i default) (cs.getD i default)) {a' a : List Int} (ha : LeL a' a) (hl' : a'.length = 8) (hl : a.length = 8) (hn : cs.length ≤ 8) : ∀ i, i ≤ cs.length → LeL (cutP cs' a' i) (cutP cs a i)
  | 0, _ => ha
  | i + 1, hi => by
    have h := cut_mono hlen hc ha hl' hl hn i (by omega)
    have hcap := (hc i (by omega)).cap
    rw [cutP, cutP, hcap]
    exact h.set (by have := h i; omega) (by rw [cut_len]; omega) (by rw [cut_len]; omega)
theorem day_mono {cs cs' : List Cell} (hlen : cs'.length = cs.length) (hn : cs.length ≤ 8) (hc : ∀ i, i < cs.length → LeC (cs'.getD i default) (cs.getD i default)) (hlim : ∀ x ∈ cs, x.lim) (hlim' : ∀ x ∈ cs', x.lim) (ht : toOk (cs.length : Int) 0 cs = true) {bef' bef : List Int} (hb : LeL bef' bef) {d' d s' s : Int}
    (hd : 0 ≤ d' ∧ d' ≤ d) (hs : 0 ≤ s' ∧ s' ≤ s) : LeL (dayL cs' bef' d' s') (dayL cs bef d s) := by
  have m : d' * s' / 1000 ≤ d * s / 1000 := Int.ediv_le_ediv (by omega) (Int.mul_le_mul hd.2 hs.2 hs.1 (by omega))
  unfold dayL
  rw [hlen]
  exact cut_mono hlen hc (aft_mono hlen hn hc hlim hlim' ht hb m cs.length (Nat.le_refl _)) (aft_len _ _ _ _) (aft_len _ _ _ _) hn cs.length (Nat.le_refl _)
theorem sd_mono {melt : Int} {ds : List Day} {rain' rain : List Int} {s' s : Int} (hr : LeL rain' rain) (hs : s' ≤ s) : ∀ i, snowP melt ds rain' s' i ≤ snowP melt ds rain s i ∧ downP melt ds rain' s' i ≤ downP melt ds rain s i
  | 0 => by
    have := hr 0
    refine ⟨by rw [snowP, snowP]; exact hs, ?_⟩
    rw [downP, downP, snowP, snowP]
    split <;> omega
  | i + 1 => by
    have h := sd_mono (melt := melt) (ds := ds) hr hs i
    have h0 := hr i
    have h1 := hr (i + 1)
    have e : snowP melt ds rain' s' (i + 1) ≤ snowP melt ds rain s (i + 1) := by
      rw [snowP, snowP]
      split <;> omega
    refine ⟨e, ?_⟩
    rw [downP, downP]
    split <;> omega
theorem app_zero (l : List Int) (k j : Nat) : (l ++ List.replicate k 0).getD j 0 = l.getD j 0 := by
  rw [List.getD_eq_getElem?_getD, List.getD_eq_getElem?_getD]
  by_cases h : j < l.length
  · rw [List.getElem?_append_left h]
  · rw [List.getElem?_append_right (by omega), List.getElem?_eq_none (by omega : l.length ≤ j), List.getElem?_replicate]
    split <;> rfl
theorem lev_mono {cs cs' : List Cell} {g g' : Gr} {ds : List Day} {t t' : Tru} {lvs lvs' rain rain' : List Int} (h : Fit cs g ds t lvs rain) (h' : Fit cs' g' ds t' lvs' rain') (hlen : cs'.length = cs.length) (hc : ∀ i, i < cs.length → LeC (cs'.getD i default) (cs.getD i default)) (hm : g'.melt = g.melt)
    (hs : t'.snow ≤ t.snow) (hk : t'.soak ≤ t.soak) (hl : LeL lvs' lvs) (hr : LeL rain' rain) : ∀ i, i ≤ ds.length → LeL (levP cs' g' ds t' lvs' rain' i) (levP cs g ds t lvs rain i)
  | 0, _ => fun j => by rw [levP, levP, app_zero, app_zero]; exact hl j
  | i + 1, hi => by
    have ih := lev_mono h h' hlen hc hm hs hk hl hr i (by omega)
    have hsd := sd_mono (melt := g.melt) (ds := ds) hr hs i
    have hdb := down_bd h'.melt h'.dlim h'.rb h'.snow i (by omega)
    have hsk := h'.soak
    rw [levP, levP, hm]
    rw [hm] at hdb
    exact day_mono hlen h.n8.2 hc h.lim h'.lim h.to_ ih ⟨hdb.1, hsd.2⟩ ⟨hsk.1, hk⟩
/-- A truth lies between the ends. -/
structure Betw (cs : List Cell) (g : Gr) (ds : List Day) (t : Tru) (lvs rain : List Int) : Prop where
  snow : g.slo ≤ t.snow ∧ t.snow ≤ g.shi
  soak : g.klo ≤ t.soak ∧ t.soak ≤ g.khi
  l1 : LeL (lowL cs) lvs
  l2 : LeL lvs (highL cs)
  r1 : LeL (lowR ds) rain
  r2 : LeL rain (highR ds)
theorem LeL.of {a b : List Int} (hl : a.length = b.length) (h : ∀ (j : Nat) x y, a[j]? = some x → b[j]? = some y → x ≤ y) : LeL a b := fun j => by
  by_cases hj : j < a.length
  · rw [getD_lt hj, getD_lt (by omega)]
    exact h j _ _ (List.getElem?_eq_getElem hj) (List.getElem?_eq_getElem (by omega))
  · rw [List.getD_eq_getElem?_getD, List.getD_eq_getElem?_getD, List.getElem?_eq_none (by omega), List.getElem?_eq_none (by omega)]
    exact Int.le_refl _
end
end Go.Ev

set_option maxRecDepth 100000
set_option linter.unusedSimpArgs false
set_option linter.unusedVariables false
namespace Go.Ev
open Go Go.Proofs
noncomputable section
end
end Go.Ev

set_option maxRecDepth 100000
set_option linter.unusedSimpArgs false
set_option linter.unusedVariables false
namespace Go.Ev
open Go Go.Proofs
noncomputable section
theorem getD_setx (a : List Int) (k j : Nat) (z : Int) (hk : k < a.length) : (a.set k z).getD j 0 = if k = j then z else a.getD j 0 := by
  rw [List.getD_eq_getElem?_getD, List.getElem?_set]
  split
  · first | rfl | (rw [if_pos (by omega)]; rfl)
  · rw [List.getD_eq_getElem?_getD]
def stayI (cs : List Cell) (bef : List Int) (i : Nat) : Int := bef.getD i 0 - pumpd (cs.getD i default) (bef.getD i 0) - passd (cs.getD i default) (bef.getD i 0)
def passI (cs : List Cell) (bef : List Int) (i : Nat) : Int := passd (cs.getD i default) (bef.getD i 0)
def inflI (cs : List Cell) (bef : List Int) : Nat → Nat → Int
  | 0, _ => 0
  | k + 1, j => inflI cs bef k j + if (cs.getD k default).to = (j : Int) then passI cs bef k else 0
def lvlI (cs : List Cell) (bef : List Int) (so : Int) (j : Nat) : Int := stayI cs bef j + so + inflI cs bef cs.length j
def lAI (cs : List Cell) (bef : List Int) (dn so : Int) : Nat → Int
  | 0 => cs.length * (dn - so)
  | m + 1 => lAI cs bef dn so m + pumpd (cs.getD m default) (bef.getD m 0) + (if (cs.getD m default).to < 0 then passI cs bef m else 0)
def lBI (cs : List Cell) (bef : List Int) (dn so : Int) : Nat → Int
  | 0 => lAI cs bef dn so cs.length
  | m + 1 => lBI cs bef dn so m + (if (cs.getD m default).cap < lvlI cs bef so m then lvlI cs bef so m - (cs.getD m default).cap else 0)
theorem aft_closed {cs : List Cell} {bef : List Int} {so : Int} (ht : toOk (cs.length : Int) 0 cs = true) (hn : cs.length ≤ 8) : ∀ m, m ≤ cs.length → ∀ j, j < 8 → (aftP cs bef so m).getD j 0 = (if j < m then stayI cs bef j + so else 0) + inflI cs bef m j
  | 0, _, j, hj => by
    rw [aftP, if_neg (by omega), inflI]
    match j, hj with
    | 0, _ | 1, _ | 2, _ | 3, _ | 4, _ | 5, _ | 6, _ | 7, _ => rfl
  | m + 1, hm, j, hj => by
    have ih := aft_closed (so := so) (bef := bef) ht hn m (by omega)
    have hx : cs.getD m default = cs[m]'(by omega) := by simp [show m < cs.length from by omega]
    have hto := (toOk_iff _ _ _).1 ht m (cs[m]'(by omega)) (List.getElem?_eq_getElem (by omega))
    have hl := aft_len cs bef so m
    rw [aftP, stepA, inflI]
    have ht2 := hto.1
    have ht3 := hto.2
    rw [← hx] at ht2 ht3
    simp only [inB, Bool.and_eq_true, decide_eq_true_eq] at ht2
    have e0 : passd (cs.getD m default) (bef.getD m 0) = passI cs bef m := rfl
    have e1 : bef.getD m 0 - pumpd (cs.getD m default) (bef.getD m 0) - passI cs bef m + so = stayI cs bef m + so := rfl
    rw [e0, e1]
    generalize passI cs bef m = pa
    by_cases hm1 : (cs.getD m default).to = -1
    · simp only [if_pos hm1]
      rw [getD_setx _ _ _ _ (by omega), if_neg (by omega : ¬ (cs.getD m default).to = (j : Int)), ih m (by omega), ih j hj]
      by_cases e : m = j
      · subst e; (repeat' split) <;> omega
      · (repeat' split) <;> omega
    · simp only [if_neg hm1]
      have hk : (cs.getD m default).to = (((cs.getD m default).to.toNat : Nat) : Int) := by omega
      have hk8 : (cs.getD m default).to.toNat < 8 := by omega
      rw [getD_setx _ _ _ _ (by rw [List.length_set]; omega), getD_setx _ _ _ _ (by omega), getD_setx _ _ _ _ (by omega), ih m (by omega), ih j hj, ih _ hk8]
      by_cases e : m = j
      · subst e; (repeat' split) <;> omega
      · by_cases h3 : (cs.getD m default).to.toNat = j
        · rw [h3]; (repeat' split) <;> omega
        · (repeat' split) <;> omega
theorem left_closed {cs : List Cell} {bef : List Int} {dn so : Int} (ht : toOk (cs.length : Int) 0 cs = true) : ∀ m, m ≤ cs.length → (leftP cs bef dn so m).sum + cs.length * (dn - so) = lAI cs bef dn so m + m * (dn - so)
  | 0, _ => by simp [leftP, lAI]
  | m + 1, hm => by
    have ih := left_closed (bef := bef) (dn := dn) (so := so) ht m (by omega)
    have hx : cs.getD m default = cs[m]'(by omega) := by simp [show m < cs.length from by omega]
    have ht2 := ((toOk_iff _ _ _).1 ht m (cs[m]'(by omega)) (List.getElem?_eq_getElem (by omega))).1
    rw [← hx] at ht2
    simp only [inB, Bool.and_eq_true, decide_eq_true_eq] at ht2
    rw [leftP, lAI, List.sum_append, List.sum_append]
    simp only [List.sum_cons, List.sum_nil]
    push_cast
    rw [Int.add_mul]
    by_cases hm1 : (cs.getD m default).to = -1
    · rw [if_pos hm1, if_pos (by omega)]
      simp only [List.sum_cons, List.sum_nil, passI]
      omega
    · rw [if_neg hm1, if_neg (by omega)]
      simp only [List.sum_nil]
      omega
theorem over_closed {cs : List Cell} {bef : List Int} {dn so : Int} (ht : toOk (cs.length : Int) 0 cs = true) (hn : cs.length ≤ 8) (hlim : ∀ x ∈ cs, x.lim) {k : Int} (hk : 0 ≤ k) (hA : Upto k (aftP cs bef so cs.length)) : ∀ m, m ≤ cs.length → (overP cs (aftP cs bef so cs.length) (leftP cs bef dn so cs.length) m).sum = lBI cs bef dn so m
  | 0, _ => by
    have := left_closed (bef := bef) (dn := dn) (so := so) ht cs.length (Nat.le_refl _)
    rw [overP, lBI]; omega
  | m + 1, hm => by
    have ih := over_closed (dn := dn) ht hn hlim hk hA m (by omega)
    have h2 := (cut_cap hlim hA hk (aft_len _ _ _ _) hn m (by omega)).2 m (Nat.le_refl _)
    have h3 := aft_closed (so := so) (bef := bef) ht hn cs.length (Nat.le_refl _) m (by omega)
    rw [if_pos (by omega)] at h3
    rw [overP, lBI, List.sum_append, ih, h2, h3]
    simp only [List.sum_cons, List.sum_nil]
    unfold lvlI
    split <;> omega
theorem day_closed {cs : List Cell} {bef : List Int} {down soak : Int} (hc : ∀ x ∈ cs, x.lim) (ht : toOk (cs.length : Int) 0 cs = true) (hn : cs.length ≤ 8) (hb : Upto 100000 bef) (hd : 0 ≤ down ∧ down ≤ 4000) (hs : 0 ≤ soak ∧ soak ≤ 1000) :
    dayO cs bef down soak = lBI cs bef down (down * soak / 1000) cs.length ∧ ∀ j, j < cs.length → (dayL cs bef down soak).getD j 0 = min (lvlI cs bef (down * soak / 1000) j) (cs.getD j default).cap := by
  have hmb := mul_bd (a := down) (b := soak) (p := 4000) (q := 1000) hd hs
  have hA := aft_bd (so := down * soak / 1000) hc hb (by omega) cs.length (Nat.le_refl _)
  refine ⟨over_closed ht hn hc (by omega) hA cs.length (Nat.le_refl _), fun j hj => ?_⟩
  have h1 := (day_facts hc ht hn hb hd hs).2.2.1 j hj
  have h3 := aft_closed (so := down * soak / 1000) (bef := bef) ht hn cs.length (Nat.le_refl _) j (by omega)
  rw [if_pos hj] at h3
  rw [h1, h3]; rfl
theorem gets_bd {cs : List Cell} {bef : List Int} (hc : ∀ x ∈ cs, x.lim) (hb : Upto 100000 bef) (i : Nat) (hi : i < cs.length) : (0 ≤ pumpd (cs.getD i default) (bef.getD i 0) ∧ pumpd (cs.getD i default) (bef.getD i 0) ≤ bef.getD i 0) ∧ (0 ≤ passI cs bef i ∧ passI cs bef i ≤ 100000) ∧ (0 ≤ stayI cs bef i ∧ stayI cs bef i ≤ 100000) ∧ (0 ≤ bef.getD i 0 ∧ bef.getD i 0 ≤ 100000) := by
  have hx : cs.getD i default = cs[i] := by simp [hi]
  have hbi := hb.getD (by omega) i
  have hg := give_bd (x := cs.getD i default) (by rw [hx]; exact hc _ (List.getElem_mem hi)) hbi
  unfold passI stayI
  omega
theorem infl_bd {cs : List Cell} {bef : List Int} (hc : ∀ x ∈ cs, x.lim) (hb : Upto 100000 bef) (j : Nat) : ∀ k, k ≤ cs.length → 0 ≤ inflI cs bef k j ∧ inflI cs bef k j ≤ 100000 * k
  | 0, _ => by simp [inflI]
  | k + 1, hk => by
    have ih := infl_bd hc hb j k (by omega)
    have hg := gets_bd hc hb k (by omega)
    rw [inflI]
    push_cast
    split <;> omega
theorem lA_bd {cs : List Cell} {bef : List Int} {dn so : Int} (hc : ∀ x ∈ cs, x.lim) (hb : Upto 100000 bef) (hn : cs.length ≤ 8) (hd : 0 ≤ so ∧ so ≤ dn ∧ dn ≤ 4000) : ∀ m, m ≤ cs.length → 0 ≤ lAI cs bef dn so m ∧ lAI cs bef dn so m ≤ 100000 + 200000 * m
  | 0, _ => by
    have := mul_bd (a := (cs.length : Int)) (b := dn - so) (p := 8) (q := 4000) (by omega) (by omega)
    rw [lAI]; omega
  | m + 1, hm => by
    have ih := lA_bd hc hb hn hd m (by omega)
    have hg := gets_bd hc hb m (by omega)
    rw [lAI]
    push_cast
    split <;> omega
theorem lB_bd {cs : List Cell} {bef : List Int} {dn so : Int} (hc : ∀ x ∈ cs, x.lim) (hb : Upto 100000 bef) (hn : cs.length ≤ 8) (hd : 0 ≤ so ∧ so ≤ dn ∧ dn ≤ 4000) : ∀ m, m ≤ cs.length → 0 ≤ lBI cs bef dn so m ∧ lBI cs bef dn so m ≤ 2000000 + 1000000 * m
  | 0, _ => by
    have := lA_bd hc hb hn hd cs.length (Nat.le_refl _)
    rw [lBI]; omega
  | m + 1, hm => by
    have ih := lB_bd hc hb hn hd m (by omega)
    have hg := gets_bd hc hb m (by omega)
    have hi := infl_bd hc hb m cs.length (Nat.le_refl _)
    have hx : cs.getD m default = cs[m]'(by omega) := by simp [show m < cs.length from by omega]
    have hl := hc (cs.getD m default) (by rw [hx]; exact List.getElem_mem _)
    unfold Cell.lim at hl
    rw [lBI]
    unfold lvlI
    push_cast
    split <;> omega
def fillI (f : Nat → Int) (n i : Nat) : List Int := (List.range n).map fun j => if j < i then f j else 0
theorem fillI_len (f : Nat → Int) (n i : Nat) : (fillI f n i).length = n := by simp [fillI]
theorem fillI_getD (f : Nat → Int) {n i j : Nat} (h : j < n) : (fillI f n i).getD j 0 = if j < i then f j else 0 := by rw [List.getD_eq_getElem?_getD]; simp [fillI, h]
theorem fillI_set (f : Nat → Int) {n i : Nat} (h : i < n) : (fillI f n i).set i (f i) = fillI f n (i + 1) := by
  apply List.ext_getElem?
  intro j
  rw [List.getElem?_set]
  by_cases e : i = j
  · subst e
    rw [if_pos rfl, if_pos (by rw [fillI_len]; exact h)]
    simp [fillI, h]
  · rw [if_neg e]
    by_cases hj : j < n
    · simp only [fillI, List.getElem?_map, List.getElem?_range hj, Option.map_some]
      by_cases h2 : j < i
      · rw [if_pos h2, if_pos (by omega)]
      · rw [if_neg h2, if_neg (by omega)]
    · rw [List.getElem?_eq_none (by simp [fillI]; omega), List.getElem?_eq_none (by simp [fillI]; omega)]
theorem fillI_zero (f : Nat → Int) {n i : Nat} (h : i < n) (hf : f i = 0) : fillI f n i = fillI f n (i + 1) := by
  rw [← fillI_set f h, hf]
  apply List.ext_getElem?
  intro j
  rw [List.getElem?_set]
  by_cases e : i = j
  · subst e
    rw [if_pos rfl, if_pos (by rw [fillI_len]; exact h)]
    simp [fillI, h]
  · rw [if_neg e]
theorem rep_zero (f : Nat → Int) : ∀ n, rep [I 0] n = (fillI f n 0).map I
  | 0 => rfl
  | n + 1 => by
    show [I 0] ++ rep [I 0] n = _
    rw [rep_zero f n]
    simp [fillI, List.range_succ_eq_map, Function.comp_def]
def outI (cs : List Cell) (bef : List Int) (so : Int) (k : Nat) : List Int := (List.range k).map fun j => min (lvlI cs bef so j) (cs.getD j default).cap
theorem outI_succ (cs : List Cell) (bef : List Int) (so : Int) (k : Nat) : (outI cs bef so (k + 1)).map I = (outI cs bef so k).map I ++ [I (min (lvlI cs bef so k) (cs.getD k default).cap)] := by simp [outI, List.range_succ]
theorem outI_take {cs : List Cell} {bef : List Int} {down soak : Int} (hc : ∀ x ∈ cs, x.lim) (ht : toOk (cs.length : Int) 0 cs = true) (hn : cs.length ≤ 8) (hb : Upto 100000 bef) (hd : 0 ≤ down ∧ down ≤ 4000) (hs : 0 ≤ soak ∧ soak ≤ 1000) : outI cs bef (down * soak / 1000) cs.length = (dayL cs bef down soak).take cs.length := by
  have hf := (day_facts hc ht hn hb hd hs).1
  have hd := (day_closed hc ht hn hb hd hs).2
  apply List.ext_getElem?
  intro j
  by_cases hj : j < cs.length
  · rw [outI, List.getElem?_map, List.getElem?_range hj, List.getElem?_take, if_pos hj, List.getElem?_eq_getElem (by omega), ← getD_lt (by omega), hd j hj]; rfl
  · rw [List.getElem?_eq_none (by simp [outI]; omega), List.getElem?_eq_none (by simp; omega)]
end
end Go.Ev

set_option maxRecDepth 100000
set_option linter.unusedSimpArgs false
set_option linter.unusedVariables false
namespace Go.Ev
open Go Go.Proofs
noncomputable section
def leftK (cs : List Cell) (g : Gr) (ds : List Day) (t : Tru) (lvs rain : List Int) : Nat → Int
  | 0 => 0
  | k + 1 => leftD cs g ds t lvs rain k
theorem flat_tup {v : AV} {l : List AV} (h : v.flat = false) : (AV.tup (v :: l)).flat = false := by rw [AV.flat, AV.flats, h]
theorem lev0 {cs : List Cell} {g : Gr} {ds : List Day} {t : Tru} {lvs rain : List Int} (h : lvs.length = cs.length) : (levP cs g ds t lvs rain 0).take cs.length = lvs := by rw [levP, ← h]; simp
theorem c26Z (m : Nat) (cv dv lv rv : AV) (cs : List Cell) (g : Gr) (ds : List Day) (t : Tru) (lvs rain : List Int) (H : Heap) (hR : Row H cv 7 (cs.map Cell.c)) (hY : Row H dv 3 (ds.map Day.c)) (hL : Ints H lv lvs) (hA : Ints H rv rain) (hF : Fit cs g ds t lvs rain) : ∃ v H', RR (m + 1) (.fn 26 [.agg [cv, I g.slo, I g.shi, I g.klo, I g.khi, I g.melt], dv, .agg [I t.snow, I t.soak, lv, rv], I 0]) H = some (v, H') ∧ ∃ v6, v = .tup [v6, I (leftK cs g ds t lvs rain 0), I (snowP g.melt ds rain t.snow 0)] ∧ Ret H H' ∧ Ints H' v6 ((levP cs g ds t lvs rain 0).take cs.length) := by
  show ∃ v H', evFn Try.prog (RR (m + 0)) 26 [.agg [cv, I g.slo, I g.shi, I g.klo, I g.khi, I g.melt], dv, .agg [I t.snow, I t.soak, lv, rv], I 0] H = some (v, H') ∧ ∃ v6, v = .tup [v6, I (leftK cs g ds t lvs rain 0), I (snowP g.melt ds rain t.snow 0)] ∧ Ret H H' ∧ Ints H' v6 ((levP cs g ds t lvs rain 0).take cs.length)
  refine fn_okE Try.func26 rfl rfl (by kernel_rfl) (by kernel_rfl) ?_
  obtain ⟨W, hW, hg, hN, hE, hG⟩ := wOf H
  rw [← hW]
  have hlc : lenOf cv = some cs.length := by simpa using hR.len
  have pc := lpl hlc
  have hld : lenOf dv = some ds.length := by simpa using hY.len
  have hll : lenOf lv = some lvs.length := by simpa using hL.len
  have hlr : lenOf rv = some rain.length := by simpa using hA.len
  have pl := lpl hll
  have pr := lpl hlr
  have hn8 := hF.n8
  have hfl := hF.ll
  have hfr := hF.rl
  have hd30 := hF.d30
  refine kS ?_; refine kR ?_; refine OkO.box rfl rfl ?_; refine OkO.box rfl rfl ?_; refine oA rfl rfl ?_; refine oA rfl rfl ?_; refine oA rfl rfl ?_; refine oN ?_; refine kS ?_; refine kS ?_; refine kR ?_; refine oM rfl rfl ?_; refine OkO.bin rfl rfl rfl (bin_eql _ _) ?_; refine oN ?_
  refine Ok.cond rfl (fun h1 => ?_) (fun h1 => ?_)
  · refine kS ?_
    refine Ok.drawn [(0, true, []), (1, true, []), (2, true, []), (4, true, []), (5, true, []), (3, false, [5]), (6, true, []), (7, true, []), (8, true, [])] (by kernel_rfl) ?_; refine pS ?_; refine OkO.buildSlice (el := 3) (sz := 1) (z := [.int .i64 0]) rfl (by kernel_rfl) (by decide) rfl rfl ?_; refine oN ⟨rfl, ?_⟩; refine pS ?_; refine oF (o := 2) rfl (by kernel_rfl) rfl ?_; refine oN ⟨rfl, ?_⟩; refine pS ?_; refine oL rfl rfl (lda (n := 1) (by kernel_rfl) (by first | assumption | (simp (disch := first | omega | (simp only [hNw, hPt]; omega)) only [gN] <;> first | rfl | assumption)) (by first | rfl | assumption)) ?_; refine oN ⟨rfl, ?_⟩; refine pS ?_; refine oF (o := 0) rfl (by kernel_rfl) rfl ?_; refine oN ⟨rfl, ?_⟩; refine pS ?_; refine oL rfl rfl (lda (n := 1) (by kernel_rfl) (by first | assumption | (simp (disch := first | omega | (simp only [hNw, hPt]; omega)) only [gN] <;> first | rfl | assumption)) (by first | rfl | assumption)) ?_; refine oN ⟨rfl, ?_⟩; refine pS ?_; refine OkO.builtinE rfl rfl rfl (app_lit (el := 3) (sz := 1) (by_ := 8) (e := 3) (rows := lvs.map fun n => [I n]) (by (try dsimp only); repeat (first | exact hG | apply Grow.new | (refine Grow.put ?_ _ (by first | omega | (simp only [hNw, hPt]; omega))))) (by kernel_rfl) (by kernel_rfl) ((hL.ext (hE _ (by (try dsimp only); repeat (first | exact hG | apply Grow.new | (refine Grow.put ?_ _ (by first | omega | (simp only [hNw, hPt]; omega))))))).ext (Grow.toNew _ _)) (fun x hx => by simp only [List.mem_map] at hx; obtain ⟨y, _, rfl⟩ := hx; rfl) (by simp; omega) (by omega) (by rw [ints_flat]; exact atoms_ints lvs)) ?_
    rintro v2 G2 ⟨r1, r3, r4, r5⟩
    have yy : (G2.get (W.next + 1)).bind AObj.cs = some [I t.snow, I t.soak, lv, rv] := by rw [r5.get _ (by simp only [hNw]; omega) (by simp only [hNw]; omega)]; (simp (disch := first | omega | (simp only [hNw, hPt]; omega)) only [gN] <;> first | rfl | assumption)
    refine oN ⟨(sco (sld rfl rfl (lda (n := 1) (by kernel_rfl) (by first | assumption | (simp (disch := first | omega | (simp only [hNw, hPt]; omega)) only [gN] <;> first | rfl | assumption)) (by first | rfl | assumption)) rfl (eqr _ (by first | rfl | exact lpl (by assumption) | (simp [AV.plain, AV.plains, AV.cells, pc, pl, pr])))) rfl), ?_⟩; refine pS ?_; refine oA rfl rfl ?_; refine oN ⟨rfl, ?_⟩; refine pS ?_; refine oA rfl rfl ?_; refine oN ⟨rfl, ?_⟩; refine pS ?_; refine oA rfl rfl ?_; refine oN ⟨rfl, ?_⟩; refine OkP.nil ?_
    refine Ok.ret ⟨.inr rfl, ?_⟩
    exact back_newQ (resV_tmp rfl (resV_tmp rfl (resV_tmp rfl resV_nil))) rfl (by rw [← hW]; exact r3) (flat_tup r4.2.2) (fun H' q1 q2 q3 => ⟨v2, rfl, q1, by rw [lev0 hfl]; exact (r1.now (Nat.le_refl _)).1.same q2 q3⟩)
  · exact absurd h1 (by simp)
theorem flatT1 {a : AV} {l : List AV} (h : (AV.tup (a :: l)).flat = true) : a.flat = true := by
  rw [AV.flat, AV.flats] at h
  cases hq : a.flat with
  | true => rfl
  | false => rw [hq] at h; cases h
theorem c26S (m : Nat) (k : Nat) (cv dv lv rv : AV) (cs : List Cell) (g : Gr) (ds : List Day) (t : Tru) (lvs rain : List Int) (H : Heap) (hR : Row H cv 7 (cs.map Cell.c)) (hY : Row H dv 3 (ds.map Day.c)) (hL : Ints H lv lvs) (hA : Ints H rv rain) (hF : Fit cs g ds t lvs rain) (hk : k < ds.length) (ih : ∀ G, Ext H G → ∃ v H', RR m (.fn 26 [.agg [cv, I g.slo, I g.shi, I g.klo, I g.khi, I g.melt], dv, .agg [I t.snow, I t.soak, lv, rv], I (k : Int)]) G = some (v, H') ∧ ∃ v6, v = .tup [v6, I (leftK cs g ds t lvs rain k), I (snowP g.melt ds rain t.snow k)] ∧ Ret G H' ∧ Ints H' v6 ((levP cs g ds t lvs rain k).take cs.length)) : ∃ v H', RR (m + 1) (.fn 26 [.agg [cv, I g.slo, I g.shi, I g.klo, I g.khi, I g.melt], dv, .agg [I t.snow, I t.soak, lv, rv], .int .i64 ((k : Int) + 1)]) H = some (v, H') ∧ ∃ v6, v = .tup [v6, I (leftK cs g ds t lvs rain (k + 1)), I (snowP g.melt ds rain t.snow (k + 1))] ∧ Ret H H' ∧ Ints H' v6 ((levP cs g ds t lvs rain (k + 1)).take cs.length) := by
  show ∃ v H', evFn Try.prog (RR (m + 0)) 26 [.agg [cv, I g.slo, I g.shi, I g.klo, I g.khi, I g.melt], dv, .agg [I t.snow, I t.soak, lv, rv], .int .i64 ((k : Int) + 1)] H = some (v, H') ∧ ∃ v6, v = .tup [v6, I (leftK cs g ds t lvs rain (k + 1)), I (snowP g.melt ds rain t.snow (k + 1))] ∧ Ret H H' ∧ Ints H' v6 ((levP cs g ds t lvs rain (k + 1)).take cs.length)
  refine fn_okE Try.func26 rfl rfl (by kernel_rfl) (by kernel_rfl) ?_
  obtain ⟨W, hW, hg, hN, hE, hG⟩ := wOf H
  rw [← hW]
  have hlc : lenOf cv = some cs.length := by simpa using hR.len
  have pc := lpl hlc
  have hld : lenOf dv = some ds.length := by simpa using hY.len
  have hll : lenOf lv = some lvs.length := by simpa using hL.len
  have hlr : lenOf rv = some rain.length := by simpa using hA.len
  have pl := lpl hll
  have pr := lpl hlr
  have hn8 := hF.n8
  have hfl := hF.ll
  have hfr := hF.rl
  have hd30 := hF.d30
  refine kS ?_; refine kR ?_; refine OkO.box rfl rfl ?_; refine OkO.box rfl rfl ?_; refine oA rfl rfl ?_; refine oA rfl rfl ?_; refine oA rfl rfl ?_; refine oN ?_; refine kS ?_; refine kS ?_; refine kR ?_; refine oM rfl rfl ?_; refine OkO.bin rfl rfl rfl (bin_eql _ _) ?_; refine oN ?_
  refine Ok.cond rfl (fun h1 => ?_) (fun h1 => ?_)
  · exact absurd h1 (by simp; omega)
  · refine Ok.skip ?_
    refine kS ?_; refine kR ?_; refine oL rfl rfl (ldg (n := 6) (by kernel_rfl) (by first | assumption | (simp (disch := first | omega | (simp only [hNw, hPt]; omega)) only [gN] <;> first | rfl | assumption)) (by first | rfl | assumption)) ?_; refine oM rfl rfl ?_; refine oL rfl rfl (ldg (n := 4) (by kernel_rfl) (by first | assumption | (simp (disch := first | omega | (simp only [hNw, hPt]; omega)) only [gN] <;> first | rfl | assumption)) (by first | rfl | assumption)) ?_; refine oM rfl rfl ?_; refine OkO.bin rfl rfl rfl (bin_sub (by omega) (by omega)) ?_; refine oE rfl rfl rfl rfl rfl ((by rw [show ((k : Int) + 1 - 1) = (k : Int) from by omega]; exact ih _ (hE _ (by (try dsimp only); repeat (first | exact hG | apply Grow.new | (refine Grow.put ?_ _ (by first | omega | (simp only [hNw, hPt]; omega)))))))) ?_
    rintro v26 H1 ⟨vp, rfl, q1, hp⟩
    have g1 : Grow W H1 := Grow.ret (by (try dsimp only); repeat (first | exact hG | apply Grow.new | (refine Grow.put ?_ _ (by first | omega | (simp only [hNw, hPt]; omega))))) q1
    have n1 : W.next + 2 ≤ H1.next := by have := q1.ext.next; simp only [hNw] at this; omega
    have a1 : (H1.get W.next).bind AObj.cs = some [cv, I g.slo, I g.shi, I g.klo, I g.khi, I g.melt] := by rw [q1.ext.get _ (by simp only [hNw]; omega)]; (simp (disch := first | omega | (simp only [hNw, hPt]; omega)) only [gN] <;> first | rfl | assumption)
    have b1 : (H1.get (W.next + 1)).bind AObj.cs = some [I t.snow, I t.soak, lv, rv] := by rw [q1.ext.get _ (by simp only [hNw]; omega)]; (simp (disch := first | omega | (simp only [hNw, hPt]; omega)) only [gN] <;> first | rfl | assumption)
    have hlf0 := (lev_facts hF k (by omega)).1
    have hlp : lenOf vp = some cs.length := by rw [hp.len]; simp; omega
    have hkd : k < ds.length := hk
    have A1 : Ints H1 rv rain := hA.ext (hE _ g1)
    have Y1 : Row H1 dv 3 (ds.map Day.c) := hY.ext (hE _ g1)
    have R1 : Row H1 cv 7 (cs.map Cell.c) := hR.ext (hE _ g1)
    obtain ⟨rb, ro, rcs, r1, r2, r3, r4⟩ := A1.at_ k [I (rain.getD k 0)] (by rw [List.getElem?_map, List.getElem?_eq_getElem (by omega), getD_lt (by omega)]; rfl)
    have r5 := seg_one r3
    obtain ⟨db, dof, dcs, d1, d2, d3, d4⟩ := Y1.at_ k ds[k].c (by rw [List.getElem?_map, List.getElem?_eq_getElem hkd]; rfl)
    have d5 : dcs[dof + 2]? = some (I ds[k].warm) := seg_get d3 2 (by omega)
    have hx0 : ds.getD k default = ds[k] := by simp [hkd]
    have hsb := snow_bd hF.melt hF.dlim hF.rb hF.snow k (by omega)
    have hrb := hF.rb.getD (by omega) k
    have hdlm := hF.dlim _ (List.getElem_mem hkd)
    have hlm := hdlm
    unfold Day.lim at hlm
    refine oM rfl rfl ?_; refine OkO.extract rfl rfl rfl ?_; refine OkO.extract rfl rfl rfl ?_; refine OkO.extract rfl rfl rfl ?_; refine oA rfl rfl ?_; refine oA rfl rfl ?_; refine oA rfl rfl ?_; refine oN ?_; refine kS ?_; refine Ok.drawn [(0, true, []), (1, true, []), (2, true, []), (3, true, []), (4, true, []), (5, true, []), (6, true, []), (7, true, []), (8, true, []), (9, true, []), (10, true, []), (11, true, []), (12, true, []), (13, true, [])] (by kernel_rfl) ?_; refine pS ?_; refine oF (o := 3) rfl (by kernel_rfl) rfl ?_; refine oN ⟨rfl, ?_⟩; refine pS ?_; refine oL rfl rfl (lda (n := 1) (by kernel_rfl) (by first | assumption | (simp (disch := first | omega | (simp only [hNw, hPt]; omega)) only [gN] <;> first | rfl | assumption)) (by first | rfl | assumption)) ?_; refine oN ⟨rfl, ?_⟩; refine pS ?_; refine oM rfl rfl ?_; refine oN ⟨rfl, ?_⟩; refine pS ?_; refine OkO.bin rfl rfl rfl (bin_sub (by omega) (by omega)) ?_; refine oN ⟨rfl, ?_⟩; refine pS ?_; refine qX (sz := 1) (n := k) rfl rfl (congrArg (fun z => some (I z)) (by omega)) ?_; refine oN ⟨rfl, ?_⟩; refine pS ?_; refine oL rfl rfl (lda (n := 1) (by kernel_rfl) (by first | assumption | (simp (disch := first | omega | (simp only [hNw, hPt]; omega)) only [gN] <;> first | rfl | assumption)) (by first | rfl | assumption)) ?_; refine oN ⟨rfl, ?_⟩; refine pS ?_; refine oM rfl rfl ?_; refine oN ⟨rfl, ?_⟩; refine pS ?_; refine oM rfl rfl ?_; refine oN ⟨rfl, ?_⟩; refine pS ?_; refine OkO.bin rfl rfl rfl (bin_sub (by omega) (by omega)) ?_; refine oN ⟨rfl, ?_⟩; refine pS ?_; refine qX (sz := 3) (n := k) rfl rfl (congrArg (fun z => some (I z)) (by omega)) ?_; refine oN ⟨rfl, ?_⟩; refine pS ?_; refine oF (o := 2) rfl (by kernel_rfl) rfl ?_; refine oN ⟨rfl, ?_⟩; refine pS ?_; refine oL rfl rfl (lda (n := 1) (by kernel_rfl) (by first | assumption | (simp (disch := first | omega | (simp only [hNw, hPt]; omega)) only [gN] <;> first | rfl | assumption)) (by first | rfl | assumption)) ?_; refine oN ⟨rfl, ?_⟩; refine pS ?_; refine oA rfl rfl ?_; refine oN ⟨rfl, ?_⟩; refine pS ?_; refine oA rfl rfl ?_; refine oN ⟨rfl, ?_⟩; refine OkP.nil ?_; refine kS ?_; refine kR ?_; refine oA rfl rfl ?_; refine oN ?_; refine Ok.join (fun s => Has 8 [(1, dv), (4, .ptr W.next 0), (6, .ptr (W.next + 1) 0), (11, vp), (13, I (snowP g.melt ds rain t.snow (k + 1))), (16, I (downP g.melt ds rain t.snow k))] s.T ∧ s.D = [] ∧ H1 = s.H) ?_ ?_
    · refine kS ?_
      refine kR ?_; refine oM rfl rfl ?_; refine OkO.bin rfl rfl rfl (bin_gtr _ _) ?_; refine oN ?_
      refine Ok.cond rfl (fun h2 => ?_) (fun h2 => ?_)
      · have hwm : 0 < ds[k].warm := by simpa using h2
        have hmb0 := melt_bd hF.melt hdlm hwm
        have hd : (downP g.melt ds rain t.snow k) = rain.getD k 0 + min (snowP g.melt ds rain t.snow k) (g.melt * ds[k].warm) := by unfold downP; rw [hx0, if_pos hwm]
        have hs : snowP g.melt ds rain t.snow (k + 1) = (snowP g.melt ds rain t.snow k) - min (snowP g.melt ds rain t.snow k) (g.melt * ds[k].warm) := by rw [snowP, hx0, if_pos hwm]
        refine kS ?_; refine kR ?_; refine oM rfl rfl ?_; refine oF (o := 5) rfl (by kernel_rfl) rfl ?_; refine oL rfl rfl (lda (n := 1) (by kernel_rfl) (by first | assumption | (simp (disch := first | omega | (simp only [hNw, hPt]; omega)) only [gN] <;> first | rfl | assumption)) (by first | rfl | assumption)) ?_; refine oM rfl rfl ?_; refine OkO.bin rfl rfl rfl (bin_mul (by omega) (by omega)) ?_; refine oB rfl rfl rfl (builtin_min2 _ _) ?_; refine oA rfl rfl ?_; refine oN ?_; refine kS ?_; refine kR ?_; refine oM rfl rfl ?_; refine oM rfl rfl ?_; refine OkO.bin rfl rfl rfl (bin_sub (by omega) (by omega)) ?_; refine oA rfl rfl ?_; refine oN ?_; refine kR ?_; refine oM rfl rfl ?_; refine oM rfl rfl ?_; refine OkO.bin rfl rfl rfl (bin_add (by omega) (by omega)) ?_; refine oA rfl rfl ?_; refine oN ?_
        refine ⟨rfl, ?_, rfl, rfl⟩
        rw [hs, hd]; exact Has.of (by kernel_rfl)
      · have hwm : ¬0 < ds[k].warm := by simpa using h2
        have hd : (downP g.melt ds rain t.snow k) = 0 := by unfold downP; rw [hx0, if_neg hwm]
        have hs : snowP g.melt ds rain t.snow (k + 1) = (snowP g.melt ds rain t.snow k) + rain.getD k 0 := by rw [snowP, hx0, if_neg hwm]
        refine kR ?_; refine oM rfl rfl ?_; refine oM rfl rfl ?_; refine OkO.bin rfl rfl rfl (bin_add (by omega) (by omega)) ?_; refine oA rfl rfl ?_; refine oN ?_
        refine ⟨rfl, ?_, rfl, rfl⟩
        rw [hs, hd]; exact Has.of (by kernel_rfl)
    · rintro ⟨T, D, G⟩ ⟨⟨f, hT⟩, hD, hH⟩
      dsimp only at *
      subst hT hD
      subst hH
      have hdb := down_bd hF.melt hF.dlim hF.rb hF.snow k hkd
      have hsk := hF.soak
      have hmb := mul_bd (a := (downP g.melt ds rain t.snow k)) (b := t.soak) (p := 4000) (q := 1000) hdb hsk
      have hms := Int.mul_le_mul_of_nonneg_left hsk.2 hdb.1
      have hso : 0 ≤ ((downP g.melt ds rain t.snow k) * t.soak / 1000) ∧ ((downP g.melt ds rain t.snow k) * t.soak / 1000) ≤ (downP g.melt ds rain t.snow k) := by omega
      have hlf := lev_facts hF k (by omega)
      have hnd := mul_bd (a := (cs.length : Int)) (b := (downP g.melt ds rain t.snow k) - ((downP g.melt ds rain t.snow k) * t.soak / 1000)) (p := 8) (q := 4000) (by omega) (by omega)
      refine kS ?_; refine kR ?_; refine oF (o := 0) rfl (by kernel_rfl) rfl ?_; refine oL rfl rfl (lda (n := 1) (by kernel_rfl) (by first | assumption | (simp (disch := first | omega | (simp only [hNw, hPt]; omega)) only [gN] <;> first | rfl | assumption)) (by first | rfl | assumption)) ?_; refine oB rfl rfl rfl qbl ?_; refine oA rfl rfl ?_; refine oN ?_; refine kS ?_; refine Ok.drawn [(0, true, []), (1, true, []), (2, true, []), (3, true, []), (4, true, []), (5, true, [])] (by kernel_rfl) ?_; refine pS ?_; refine oM rfl rfl ?_; refine oN ⟨rfl, ?_⟩; refine pS ?_; refine OkO.makeSlice (el := 3) (sz := 1) (z := [.int .i64 0]) (n := cs.length) (by_ := 8) rfl (by kernel_rfl) (by kernel_rfl) (by omega) rfl rfl (by omega) ?_; refine oN ⟨rfl, ?_⟩; refine pS ?_; refine oM rfl rfl ?_; refine oN ⟨rfl, ?_⟩; refine pS ?_; refine OkO.makeSlice (el := 3) (sz := 1) (z := [.int .i64 0]) (n := cs.length) (by_ := 8) rfl (by kernel_rfl) (by kernel_rfl) (by omega) rfl rfl (by omega) ?_; refine oN ⟨rfl, ?_⟩; refine pS ?_; refine oA rfl rfl ?_; refine oN ⟨rfl, ?_⟩; refine pS ?_; refine oA rfl rfl ?_; refine oN ⟨rfl, ?_⟩; refine OkP.nil ?_; refine kS ?_; refine kR ?_; refine oM rfl rfl ?_; refine oF (o := 1) rfl (by kernel_rfl) rfl ?_; refine oL rfl rfl (lda (n := 1) (by kernel_rfl) (by first | assumption | (simp (disch := first | omega | (simp only [hNw, hPt]; omega)) only [gN] <;> first | rfl | assumption)) (by first | rfl | assumption)) ?_; refine OkO.bin rfl rfl rfl (bin_mul (by omega) (by omega)) ?_; refine OkO.bin rfl rfl rfl (bin_quo (by omega) (by omega) (by omega)) ?_; refine oA rfl rfl ?_; refine oN ?_; refine kS ?_; refine kR ?_; refine oM rfl rfl ?_; refine oM rfl rfl ?_; refine oM rfl rfl ?_; refine OkO.bin rfl rfl rfl (bin_sub (by omega) (by omega)) ?_; refine OkO.bin rfl rfl rfl (bin_mul (by omega) (by omega)) ?_; refine oA rfl rfl ?_; refine oN ?_; refine kS ?_; refine kS ?_; refine kR ?_; refine oA rfl rfl ?_; refine oN ?_; refine Ok.block ?_
      refine Ok.loop (fun n s => ∃ i : Nat, n = cs.length - i ∧ i ≤ cs.length ∧ Has 8 [(4, .ptr W.next 0), (11, vp), (13, I (snowP g.melt ds rain t.snow (k + 1))), (18, I cs.length), (19, .slice H1.next 0 cs.length cs.length), (20, .slice (H1.next + 1) 0 cs.length cs.length), (21, I ((downP g.melt ds rain t.snow k) * t.soak / 1000)), (22, I (lAI cs (levP cs g ds t lvs rain k) (downP g.melt ds rain t.snow k) ((downP g.melt ds rain t.snow k) * t.soak / 1000) i)), (23, I (i : Int))] s.T ∧ s.D = [] ∧ Grow W s.H ∧ Ext H1 s.H ∧ s.H.get H1.next = some (.cells ((fillI (stayI cs (levP cs g ds t lvs rain k)) cs.length i).map I) 3) ∧ s.H.get (H1.next + 1) = some (.cells ((fillI (passI cs (levP cs g ds t lvs rain k)) cs.length i).map I) 3) ∧ H1.next + 2 ≤ s.H.next) (cs.length) (by unfold loopFuel; omega)
        ⟨0, rfl, Nat.zero_le _, Has.of (by kernel_rfl), rfl, (g1.new _).new _, (Grow.toNew _ _).trans (Grow.toNew _ _), by rw [gno _ _ _ (by simp only [hNw]; omega), gn0]; congr 2; exact rep_zero _ _, by rw [gn1]; congr 2; exact rep_zero _ _, by simp only [hNw]; omega⟩ ?_
      rintro n ⟨T, D, G⟩ ⟨i, hn, hi, ⟨f, hT⟩, hD, hg, hx, fs, fp, hb2⟩
      dsimp only at *
      subst hT hD
      have hgn := hg.next
      have es : (G.get H1.next).bind AObj.cs = some ((fillI (stayI cs (levP cs g ds t lvs rain k)) cs.length i).map I) := by rw [fs]; rfl
      have ep : (G.get (H1.next + 1)).bind AObj.cs = some ((fillI (passI cs (levP cs g ds t lvs rain k)) cs.length i).map I) := by rw [fp]; rfl
      have ea : (G.get W.next).bind AObj.cs = some [cv, I g.slo, I g.shi, I g.klo, I g.khi, I g.melt] := by rw [hx.get _ (by omega)]; exact a1
      refine kS ?_; refine kS ?_; refine kR ?_; refine oM rfl rfl ?_; refine oM rfl rfl ?_; refine OkO.bin rfl rfl rfl (bin_lss _ _) ?_; refine oN ?_
      refine Ok.cond rfl (fun h3 => ?_) (fun h3 => ?_)
      · have hlt : i < cs.length := by simpa using h3
        have hx9 : cs.getD i default = cs[i] := by simp [hlt]
        obtain ⟨bb, off, ccs, i1, i2, i3, i4⟩ := (R1.ext hx).at_ i cs[i].c (by simp [hlt])
        have hne : bb ≠ G.next := by omega
        obtain ⟨lb, lo, lcs, l1, l2w, l3, l4⟩ := hp.at_ i [I ((levP cs g ds t lvs rain k).getD i 0)] (by rw [List.getElem?_map, List.getElem?_take, if_pos hlt, List.getElem?_eq_getElem (by omega), getD_lt (by omega)]; rfl)
        have l5 := seg_one l3
        have l2 : (G.get lb).bind AObj.cs = some lcs := by rw [hx.get _ l4]; exact l2w
        have hnl : lb ≠ G.next := by omega
        have hgb := gets_bd hF.lim hlf.2 i hlt
        have hlA := lA_bd hF.lim hlf.2 hn8.2 ⟨hso.1, hso.2, hdb.2⟩ i hi
        have hxl := hF.lim _ (List.getElem_mem hlt)
        unfold Cell.lim at hxl
        have hpd : pumpd (cs.getD i default) ((levP cs g ds t lvs rain k).getD i 0) = min ((levP cs g ds t lvs rain k).getD i 0) cs[i].pump := by unfold pumpd; rw [hx9]
        rw [hpd] at hgb
        have hpd2 : (passI cs (levP cs g ds t lvs rain k)) i = max ((((levP cs g ds t lvs rain k).getD i 0) - min ((levP cs g ds t lvs rain k).getD i 0) cs[i].pump) - cs[i].keep) 0 * cs[i].pass / 1000 := by unfold passI passd pumpd; rw [hx9]
        have pl8 : i < (fillI (passI cs (levP cs g ds t lvs rain k)) cs.length i).length := by rw [fillI_len]; omega
        have hrn : 0 ≤ (((levP cs g ds t lvs rain k).getD i 0) - min ((levP cs g ds t lvs rain k).getD i 0) cs[i].pump) ∧ (((levP cs g ds t lvs rain k).getD i 0) - min ((levP cs g ds t lvs rain k).getD i 0) cs[i].pump) ≤ 100000 := by omega
        obtain ⟨G0, hG0⟩ : ∃ G0, G0 = G := ⟨_, rfl⟩
        subst hG0
        refine Ok.skip ?_; refine kS ?_; refine Ok.block ?_; refine kS ?_; refine kR ?_; refine oF (o := 0) rfl (by kernel_rfl) rfl ?_; refine oL rfl rfl (lda (n := 1) (by kernel_rfl) (by first | assumption | (simp (disch := first | omega | (simp only [hNw, hPt]; omega)) only [gN] <;> first | rfl | assumption)) (by first | rfl | assumption)) ?_; refine oM rfl rfl ?_; refine qX (sz := 7) (n := i) rfl rfl rfl ?_; refine oL rfl rfl (ldg (n := 7) (by kernel_rfl) (by first | assumption | (simp (disch := first | omega | (simp only [hNw, hPt]; omega)) only [gN] <;> first | rfl | assumption)) (by first | rfl | assumption)) ?_; refine OkO.alloc (z := [.int .i64 0, .int .i64 0, .int .i64 0, .int .i64 0, .int .i64 0, .int .i64 0, .int .i64 0]) rfl (by kernel_rfl) ?_; refine oT rfl rfl rfl (sAc (n := 7) (ag := true) (by kernel_rfl) (by first | assumption | (simp (disch := first | omega | (simp only [hNw, hPt]; omega)) only [gN] <;> first | rfl | assumption)) rfl rfl (by first | rfl | exact spl_set _ _ _ (by first | assumption | (simp; omega)))) ?_; refine oN ?_; refine kS ?_; refine Ok.drawn [(0, true, []), (1, true, []), (2, true, []), (3, true, []), (4, true, []), (5, true, []), (6, true, []), (7, true, [])] (by kernel_rfl) ?_; refine pS ?_; refine oM rfl rfl ?_; refine oN ⟨rfl, ?_⟩; refine pS ?_; refine oM rfl rfl ?_; refine oN ⟨rfl, ?_⟩; refine pS ?_; refine qX (sz := 1) (n := i) rfl rfl rfl ?_; refine oN ⟨rfl, ?_⟩; refine pS ?_; refine oL rfl rfl (lda (n := 1) (by kernel_rfl) (by first | assumption | (simp (disch := first | omega | (simp only [hNw, hPt]; omega)) only [gN] <;> first | rfl | assumption)) (by first | rfl | assumption)) ?_; refine oN ⟨rfl, ?_⟩; refine pS ?_; refine oF (o := 6) rfl (by kernel_rfl) rfl ?_; refine oN ⟨rfl, ?_⟩; refine pS ?_; refine oL rfl rfl (lda (n := 1) (by kernel_rfl) (by first | assumption | (simp (disch := first | omega | (simp only [hNw, hPt]; omega)) only [gN] <;> first | rfl | assumption)) (by first | rfl | assumption)) ?_; refine oN ⟨rfl, ?_⟩; refine pS ?_; refine oB rfl rfl rfl (builtin_min2 _ _) ?_; refine oN ⟨rfl, ?_⟩; refine pS ?_; refine oA rfl rfl ?_; refine oN ⟨rfl, ?_⟩; refine OkP.nil ?_; refine kS ?_; refine kR ?_; refine oM rfl rfl ?_; refine oM rfl rfl ?_; refine qX (sz := 1) (n := i) rfl rfl rfl ?_; refine oL rfl rfl (lda (n := 1) (by kernel_rfl) (by first | assumption | (simp (disch := first | omega | (simp only [hNw, hPt]; omega)) only [gN] <;> first | rfl | assumption)) (by first | rfl | assumption)) ?_; refine oM rfl rfl ?_; refine OkO.bin rfl rfl rfl (bin_sub (by omega) (by omega)) ?_; refine oA rfl rfl ?_; refine oN ?_; refine Ok.join (fun s => Has 8 [(4, .ptr W.next 0), (11, vp), (13, I (snowP g.melt ds rain t.snow (k + 1))), (18, I cs.length), (19, .slice H1.next 0 cs.length cs.length), (20, .slice (H1.next + 1) 0 cs.length cs.length), (21, I ((downP g.melt ds rain t.snow k) * t.soak / 1000)), (22, I (lAI cs (levP cs g ds t lvs rain k) (downP g.melt ds rain t.snow k) ((downP g.melt ds rain t.snow k) * t.soak / 1000) i)), (23, I (i : Int)), (24, .ptr G0.next 0), (25, I (min ((levP cs g ds t lvs rain k).getD i 0) cs[i].pump)), (26, I (((levP cs g ds t lvs rain k).getD i 0) - min ((levP cs g ds t lvs rain k).getD i 0) cs[i].pump))] s.T ∧ s.D = [] ∧ Grow W s.H ∧ Ext H1 s.H ∧ s.H.get H1.next = some (.cells ((fillI (stayI cs (levP cs g ds t lvs rain k)) cs.length i).map I) 3) ∧ s.H.get (H1.next + 1) = some (.cells ((fillI (passI cs (levP cs g ds t lvs rain k)) cs.length (i + 1)).map I) 3) ∧ s.H.get G0.next = some (.cells cs[i].c 91) ∧ G0.next + 1 ≤ s.H.next) ?_ ?_
        · refine kS ?_
          refine kR ?_; refine oM rfl rfl ?_; refine oF (o := 3) rfl (by kernel_rfl) rfl ?_; refine oL rfl rfl (lda (n := 1) (by kernel_rfl) (by first | assumption | (simp (disch := first | omega | (simp only [hNw, hPt]; omega)) only [gN] <;> first | rfl | assumption)) (by first | rfl | assumption)) ?_; refine OkO.bin rfl rfl rfl (bin_gtr _ _) ?_; refine oN ?_
          refine Ok.cond rfl (fun h4 => ?_) (fun h4 => ?_)
          · have hgt : cs[i].keep < (((levP cs g ds t lvs rain k).getD i 0) - min ((levP cs g ds t lvs rain k).getD i 0) cs[i].pump) := by simpa using h4
            have hpm := mul_bd (a := (((levP cs g ds t lvs rain k).getD i 0) - min ((levP cs g ds t lvs rain k).getD i 0) cs[i].pump) - cs[i].keep) (b := cs[i].pass) (p := 100000) (q := 1000) (by omega) (by omega)
            have hpe : (((((levP cs g ds t lvs rain k).getD i 0) - min ((levP cs g ds t lvs rain k).getD i 0) cs[i].pump) - cs[i].keep) * cs[i].pass / 1000) = (passI cs (levP cs g ds t lvs rain k)) i := by rw [hpd2, Int.max_eq_left (by omega)]
            refine kR ?_; refine oM rfl rfl ?_; refine oM rfl rfl ?_; refine oM rfl rfl ?_; refine oF (o := 3) rfl (by kernel_rfl) rfl ?_; refine oL rfl rfl (lda (n := 1) (by kernel_rfl) (by first | assumption | (simp (disch := first | omega | (simp only [hNw, hPt]; omega)) only [gN] <;> first | rfl | assumption)) (by first | rfl | assumption)) ?_; refine OkO.bin rfl rfl rfl (bin_sub (by omega) (by omega)) ?_; refine oF (o := 4) rfl (by kernel_rfl) rfl ?_; refine oL rfl rfl (lda (n := 1) (by kernel_rfl) (by first | assumption | (simp (disch := first | omega | (simp only [hNw, hPt]; omega)) only [gN] <;> first | rfl | assumption)) (by first | rfl | assumption)) ?_; refine OkO.bin rfl rfl rfl (bin_mul (by omega) (by omega)) ?_; refine OkO.bin rfl rfl rfl (bin_quo (by omega) (by omega) (by omega)) ?_; refine qX (sz := 1) (n := i) rfl rfl rfl ?_; refine oT rfl rfl rfl (sAc (n := 1) (ag := false) (by kernel_rfl) (by first | assumption | (simp (disch := first | omega | (simp only [hNw, hPt]; omega)) only [gN] <;> first | rfl | assumption)) rfl rfl (by first | rfl | exact spl_set _ _ _ (by first | assumption | (simp; omega)))) ?_; refine oN ?_
            refine ⟨rfl, Has.of (by kernel_rfl), rfl, (by (try dsimp only); repeat (first | (first | exact hg | exact hg) | apply Grow.new | (refine Grow.put ?_ _ (by first | omega | (simp only [hNw, hPt]; omega))))), ⟨by simp only [hNw, hPt]; omega, fun j hj => by (simp (disch := first | omega | (simp only [hNw, hPt]; omega)) only [gN]); exact hx.get j hj⟩, (by simp (disch := first | omega | (simp only [hNw, hPt]; omega)) only [gN] <;> first | rfl | assumption), ?_, (by simp (disch := first | omega | (simp only [hNw, hPt]; omega)) only [gN] <;> first | rfl | assumption), by simp only [hNw, hPt]; omega⟩
            first | (rw [gp0, hpe, fillI_set _ hlt]) | (rw [← fillI_zero _ hlt hpz]; simp (disch := first | omega | (simp only [hNw, hPt]; omega)) only [gN] <;> first | rfl | assumption)
          · have hle : (((levP cs g ds t lvs rain k).getD i 0) - min ((levP cs g ds t lvs rain k).getD i 0) cs[i].pump) ≤ cs[i].keep := by simpa using h4
            have hpz : (passI cs (levP cs g ds t lvs rain k)) i = 0 := by rw [hpd2, Int.max_eq_right (by omega)]; simp
            refine Ok.skip ?_
            refine ⟨rfl, Has.of (by kernel_rfl), rfl, (by (try dsimp only); repeat (first | (first | exact hg | exact hg) | apply Grow.new | (refine Grow.put ?_ _ (by first | omega | (simp only [hNw, hPt]; omega))))), ⟨by simp only [hNw, hPt]; omega, fun j hj => by (simp (disch := first | omega | (simp only [hNw, hPt]; omega)) only [gN]); exact hx.get j hj⟩, (by simp (disch := first | omega | (simp only [hNw, hPt]; omega)) only [gN] <;> first | rfl | assumption), ?_, (by simp (disch := first | omega | (simp only [hNw, hPt]; omega)) only [gN] <;> first | rfl | assumption), by simp only [hNw, hPt]; omega⟩
            first | (rw [gp0, hpe, fillI_set _ hlt]) | (rw [← fillI_zero _ hlt hpz]; simp (disch := first | omega | (simp only [hNw, hPt]; omega)) only [gN] <;> first | rfl | assumption)
        · rintro ⟨T, D, G⟩ ⟨⟨f, hT⟩, hD, hg, hx, fs, fp, fc, hb3⟩
          dsimp only at *
          subst hT hD
          have es : (G.get H1.next).bind AObj.cs = some ((fillI (stayI cs (levP cs g ds t lvs rain k)) cs.length i).map I) := by rw [fs]; rfl
          have ep : (G.get (H1.next + 1)).bind AObj.cs = some ((fillI (passI cs (levP cs g ds t lvs rain k)) cs.length (i + 1)).map I) := by rw [fp]; rfl
          have ec : (G.get G0.next).bind AObj.cs = some cs[i].c := by rw [fc]; rfl
          have pp : ((fillI (passI cs (levP cs g ds t lvs rain k)) cs.length (i + 1)).map I)[0 + i * 1]? = some (I ((passI cs (levP cs g ds t lvs rain k)) i)) := by rw [arr_get _ _ (by rw [fillI_len]; omega), fillI_getD _ hlt, if_pos (by omega)]
          have sl8 : i < (fillI (stayI cs (levP cs g ds t lvs rain k)) cs.length i).length := by rw [fillI_len]; omega
          have hst : (((levP cs g ds t lvs rain k).getD i 0) - min ((levP cs g ds t lvs rain k).getD i 0) cs[i].pump) - (passI cs (levP cs g ds t lvs rain k)) i = (stayI cs (levP cs g ds t lvs rain k)) i := by unfold stayI pumpd passI; rw [hx9]
          have hgn := hg.next
          refine kS ?_; refine kR ?_; refine oM rfl rfl ?_; refine oM rfl rfl ?_; refine oM rfl rfl ?_; refine oM rfl rfl ?_; refine oM rfl rfl ?_; refine qX (sz := 1) (n := i) rfl rfl rfl ?_; refine oL rfl rfl (lda (n := 1) (by kernel_rfl) (by first | assumption | (simp (disch := first | omega | (simp only [hNw, hPt]; omega)) only [gN] <;> first | rfl | assumption)) (by first | rfl | assumption)) ?_; refine OkO.bin rfl rfl rfl (bin_sub (by omega) (by omega)) ?_; refine qX (sz := 1) (n := i) rfl rfl rfl ?_; refine oT rfl rfl rfl (sAc (n := 1) (ag := false) (by kernel_rfl) (by first | assumption | (simp (disch := first | omega | (simp only [hNw, hPt]; omega)) only [gN] <;> first | rfl | assumption)) rfl rfl (by first | rfl | exact spl_set _ _ _ (by first | assumption | (simp; omega)))) ?_; refine oN ?_; refine kS ?_; refine kR ?_; refine oM rfl rfl ?_; refine oM rfl rfl ?_; refine OkO.bin rfl rfl rfl (bin_add (by omega) (by omega)) ?_; refine oA rfl rfl ?_; refine oN ?_; refine kS ?_; refine kR ?_; refine oF (o := 5) rfl (by kernel_rfl) rfl ?_; refine oL rfl rfl (lda (n := 1) (by kernel_rfl) (by first | assumption | (simp (disch := first | omega | (simp only [hNw, hPt]; omega)) only [gN] <;> first | rfl | assumption)) (by first | rfl | assumption)) ?_; refine OkO.bin rfl rfl rfl (bin_lss _ _) ?_; refine oN ?_
          refine Ok.cond rfl (fun h5 => ?_) (fun h5 => ?_)
          · have hto : (cs.getD i default).to < 0 := by rw [hx9]; simpa using h5
            have hla : lAI cs (levP cs g ds t lvs rain k) (downP g.melt ds rain t.snow k) ((downP g.melt ds rain t.snow k) * t.soak / 1000) (i + 1) = lAI cs (levP cs g ds t lvs rain k) (downP g.melt ds rain t.snow k) ((downP g.melt ds rain t.snow k) * t.soak / 1000) i + min ((levP cs g ds t lvs rain k).getD i 0) cs[i].pump + (passI cs (levP cs g ds t lvs rain k)) i := by rw [lAI, if_pos hto, hpd]
            refine kR ?_; refine oM rfl rfl ?_; refine oM rfl rfl ?_; refine oM rfl rfl ?_; refine qX (sz := 1) (n := i) rfl rfl rfl ?_; refine oL rfl rfl (lda (n := 1) (by kernel_rfl) (by first | assumption | (simp (disch := first | omega | (simp only [hNw, hPt]; omega)) only [gN] <;> first | rfl | assumption)) (by first | rfl | assumption)) ?_; refine OkO.bin rfl rfl rfl (bin_add (by omega) (by omega)) ?_; refine oA rfl rfl ?_; refine oN ?_; refine kR ?_; refine oM rfl rfl ?_; refine OkO.bin rfl rfl rfl (bin_add (by omega) (by omega)) ?_; refine oA rfl rfl ?_; refine oN ?_
            refine ⟨cs.length - (i + 1), by omega, i + 1, rfl, hlt, ?_, rfl, (by (try dsimp only); repeat (first | (first | exact hg | exact hg) | apply Grow.new | (refine Grow.put ?_ _ (by first | omega | (simp only [hNw, hPt]; omega))))), ⟨by simp only [hNw, hPt]; omega, fun j hj => by (simp (disch := first | omega | (simp only [hNw, hPt]; omega)) only [gN]); exact hx.get j hj⟩, ?_, (by simp (disch := first | omega | (simp only [hNw, hPt]; omega)) only [gN] <;> first | rfl | assumption), by simp only [hNw, hPt]; omega⟩
            rw [hla]; exact Has.of (by kernel_rfl)
            rw [gp0, hst, fillI_set _ hlt]
          · have hto : ¬(cs.getD i default).to < 0 := by rw [hx9]; simpa using h5
            have hla : lAI cs (levP cs g ds t lvs rain k) (downP g.melt ds rain t.snow k) ((downP g.melt ds rain t.snow k) * t.soak / 1000) (i + 1) = lAI cs (levP cs g ds t lvs rain k) (downP g.melt ds rain t.snow k) ((downP g.melt ds rain t.snow k) * t.soak / 1000) i + min ((levP cs g ds t lvs rain k).getD i 0) cs[i].pump := by rw [lAI, if_neg hto, hpd]; omega
            refine Ok.skip ?_; refine kR ?_; refine oM rfl rfl ?_; refine OkO.bin rfl rfl rfl (bin_add (by omega) (by omega)) ?_; refine oA rfl rfl ?_; refine oN ?_
            refine ⟨cs.length - (i + 1), by omega, i + 1, rfl, hlt, ?_, rfl, (by (try dsimp only); repeat (first | (first | exact hg | exact hg) | apply Grow.new | (refine Grow.put ?_ _ (by first | omega | (simp only [hNw, hPt]; omega))))), ⟨by simp only [hNw, hPt]; omega, fun j hj => by (simp (disch := first | omega | (simp only [hNw, hPt]; omega)) only [gN]); exact hx.get j hj⟩, ?_, (by simp (disch := first | omega | (simp only [hNw, hPt]; omega)) only [gN] <;> first | rfl | assumption), by simp only [hNw, hPt]; omega⟩
            rw [hla]; exact Has.of (by kernel_rfl)
            rw [gp0, hst, fillI_set _ hlt]
      · have hge : i = cs.length := by simp at h3; omega
        subst hge
        refine Ok.exit ?_; refine kS ?_; refine kR ?_; refine oA rfl rfl ?_; refine oN ?_; refine kS ?_; refine kS ?_; refine kR ?_; refine oA rfl rfl ?_; refine oN ?_; refine Ok.block ?_
        refine Ok.loop (fun n s => ∃ (i : Nat) (vo : AV), n = cs.length - i ∧ i ≤ cs.length ∧ Mine (H1.next + 2) s.H vo 3 1 ((outI cs (levP cs g ds t lvs rain k) ((downP g.melt ds rain t.snow k) * t.soak / 1000) i).map I) ∧ Has 8 [(4, .ptr W.next 0), (11, vp), (13, I (snowP g.melt ds rain t.snow (k + 1))), (18, I cs.length), (19, .slice H1.next 0 cs.length cs.length), (20, .slice (H1.next + 1) 0 cs.length cs.length), (21, I ((downP g.melt ds rain t.snow k) * t.soak / 1000)), (22, I (lBI cs (levP cs g ds t lvs rain k) (downP g.melt ds rain t.snow k) ((downP g.melt ds rain t.snow k) * t.soak / 1000) i)), (27, vo), (28, I (i : Int))] s.T ∧ s.D = [] ∧ Grow W s.H ∧ Ext H1 s.H ∧ s.H.get H1.next = some (.cells ((fillI (stayI cs (levP cs g ds t lvs rain k)) cs.length cs.length).map I) 3) ∧ s.H.get (H1.next + 1) = some (.cells ((fillI (passI cs (levP cs g ds t lvs rain k)) cs.length cs.length).map I) 3) ∧ H1.next + 2 ≤ s.H.next) (cs.length) (by unfold loopFuel; omega)
          ⟨0, .nils, rfl, Nat.zero_le _, Mine.nil _ _ _ _, Has.of (by kernel_rfl), rfl, hg, hx, fs, fp, hb2⟩ ?_
        rintro n ⟨T, D, G⟩ ⟨i, vo, hn, hi, hmo, ⟨f, hT⟩, hD, hg, hx, fs, fp, hb2⟩
        dsimp only at *
        subst hT hD
        have hgn := hg.next
        have es : (G.get H1.next).bind AObj.cs = some ((fillI (stayI cs (levP cs g ds t lvs rain k)) cs.length cs.length).map I) := by rw [fs]; rfl
        have ep : (G.get (H1.next + 1)).bind AObj.cs = some ((fillI (passI cs (levP cs g ds t lvs rain k)) cs.length cs.length).map I) := by rw [fp]; rfl
        have ea : (G.get W.next).bind AObj.cs = some [cv, I g.slo, I g.shi, I g.klo, I g.khi, I g.melt] := by rw [hx.get _ (by omega)]; exact a1
        obtain ⟨lo9, hlo9, _⟩ := hmo.len
        refine kS ?_; refine kS ?_; refine kR ?_; refine oM rfl rfl ?_; refine oM rfl rfl ?_; refine OkO.bin rfl rfl rfl (bin_lss _ _) ?_; refine oN ?_
        refine Ok.cond rfl (fun h6 => ?_) (fun h6 => ?_)
        · have hlt : i < cs.length := by simpa using h6
          have hx9 : cs.getD i default = cs[i] := by simp [hlt]
          obtain ⟨bb, off, ccs, i1, i2, i3, i4⟩ := (R1.ext hx).at_ i cs[i].c (by simp [hlt])
          have i5 : ccs[off + 2]? = some (I cs[i].cap) := seg_get i3 2 (by omega)
          have ps : ((fillI (stayI cs (levP cs g ds t lvs rain k)) cs.length cs.length).map I)[0 + i * 1]? = some (I ((stayI cs (levP cs g ds t lvs rain k)) i)) := by rw [arr_get _ _ (by rw [fillI_len]; omega), fillI_getD _ hlt, if_pos (by omega)]
          have hgb := gets_bd hF.lim hlf.2 i hlt
          have hlB0 := lB_bd hF.lim hlf.2 hn8.2 ⟨hso.1, hso.2, hdb.2⟩ i hi
          have hxl := hF.lim _ (List.getElem_mem hlt)
          unfold Cell.lim at hxl
          obtain ⟨G1, hG1⟩ : ∃ G1, G1 = G := ⟨_, rfl⟩
          subst hG1
          have hif := infl_bd hF.lim hlf.2 i cs.length (Nat.le_refl _)
          refine Ok.skip ?_; refine kS ?_; refine Ok.block ?_; refine kS ?_; refine kR ?_; refine oM rfl rfl ?_; refine oM rfl rfl ?_; refine qX (sz := 1) (n := i) rfl rfl rfl ?_; refine oL rfl rfl (lda (n := 1) (by kernel_rfl) (by first | assumption | (simp (disch := first | omega | (simp only [hNw, hPt]; omega)) only [gN] <;> first | rfl | assumption)) (by first | rfl | assumption)) ?_; refine oM rfl rfl ?_; refine OkO.bin rfl rfl rfl (bin_add (by omega) (by omega)) ?_; refine oA rfl rfl ?_; refine oN ?_; refine kS ?_; refine kS ?_; refine kR ?_; refine oA rfl rfl ?_; refine oN ?_; refine Ok.block ?_
          refine Ok.loop (fun n s => ∃ q : Nat, n = cs.length - q ∧ q ≤ cs.length ∧ Has 8 [(4, .ptr W.next 0), (11, vp), (13, I (snowP g.melt ds rain t.snow (k + 1))), (18, I cs.length), (19, .slice H1.next 0 cs.length cs.length), (20, .slice (H1.next + 1) 0 cs.length cs.length), (21, I ((downP g.melt ds rain t.snow k) * t.soak / 1000)), (22, I (lBI cs (levP cs g ds t lvs rain k) (downP g.melt ds rain t.snow k) ((downP g.melt ds rain t.snow k) * t.soak / 1000) i)), (27, vo), (28, I (i : Int)), (29, I ((stayI cs (levP cs g ds t lvs rain k)) i + ((downP g.melt ds rain t.snow k) * t.soak / 1000) + (inflI cs (levP cs g ds t lvs rain k) q i))), (30, I (q : Int))] s.T ∧ s.D = [] ∧ Grow W s.H ∧ G1 = s.H) (cs.length) (by unfold loopFuel; omega)
            ⟨0, rfl, Nat.zero_le _, (by rw [show (inflI cs (levP cs g ds t lvs rain k) 0 i) = 0 from rfl, Int.add_zero]; exact Has.of (by kernel_rfl)), rfl, hg, rfl⟩ ?_
          rintro n ⟨T, D, G⟩ ⟨q, hn2, hq, ⟨f2, hT⟩, hD, hg, hH⟩
          dsimp only at *
          subst hT hD
          have hgn := hg.next
          subst hH
          refine kS ?_; refine kS ?_; refine kR ?_; refine oM rfl rfl ?_; refine oM rfl rfl ?_; refine OkO.bin rfl rfl rfl (bin_lss _ _) ?_; refine oN ?_
          refine Ok.cond rfl (fun h7 => ?_) (fun h7 => ?_)
          · have hltq : q < cs.length := by simpa using h7
            have hxq : cs.getD q default = cs[q] := by simp [hltq]
            obtain ⟨eb, eo, ecs, e1, e2, e3, e4⟩ := (R1.ext hx).at_ q cs[q].c (by simp [hltq])
            have e5 : ecs[eo + 5]? = some (I cs[q].to) := seg_get e3 5 (by omega)
            have pq : ((fillI (passI cs (levP cs g ds t lvs rain k)) cs.length cs.length).map I)[0 + q * 1]? = some (I ((passI cs (levP cs g ds t lvs rain k)) q)) := by rw [arr_get _ _ (by rw [fillI_len]; omega), fillI_getD _ hltq, if_pos (by omega)]
            have hgq := gets_bd hF.lim hlf.2 q hltq
            have hiq := infl_bd hF.lim hlf.2 i q (by omega)
            refine Ok.skip ?_; refine kS ?_; refine Ok.block ?_; refine kS ?_; refine kR ?_; refine oF (o := 0) rfl (by kernel_rfl) rfl ?_; refine oL rfl rfl (lda (n := 1) (by kernel_rfl) (by first | assumption | (simp (disch := first | omega | (simp only [hNw, hPt]; omega)) only [gN] <;> first | rfl | assumption)) (by first | rfl | assumption)) ?_; refine oM rfl rfl ?_; refine qX (sz := 7) (n := q) rfl rfl rfl ?_; refine oF (o := 5) rfl (by kernel_rfl) rfl ?_; refine oL rfl rfl (lda (n := 1) (by kernel_rfl) (by first | assumption | (simp (disch := first | omega | (simp only [hNw, hPt]; omega)) only [gN] <;> first | rfl | assumption)) (by first | rfl | assumption)) ?_; refine oM rfl rfl ?_; refine OkO.bin rfl rfl rfl (bin_eql _ _) ?_; refine oN ?_
            refine Ok.cond rfl (fun h8 => ?_) (fun h8 => ?_)
            · have hte : (cs.getD q default).to = (i : Int) := by rw [hxq]; simpa using h8
              have hin : (stayI cs (levP cs g ds t lvs rain k)) i + ((downP g.melt ds rain t.snow k) * t.soak / 1000) + (inflI cs (levP cs g ds t lvs rain k) (q + 1) i) = (stayI cs (levP cs g ds t lvs rain k)) i + ((downP g.melt ds rain t.snow k) * t.soak / 1000) + (inflI cs (levP cs g ds t lvs rain k) q i) + (passI cs (levP cs g ds t lvs rain k)) q := by rw [inflI, if_pos hte]; omega
              refine kR ?_; refine oM rfl rfl ?_; refine oM rfl rfl ?_; refine oM rfl rfl ?_; refine qX (sz := 1) (n := q) rfl rfl rfl ?_; refine oL rfl rfl (lda (n := 1) (by kernel_rfl) (by first | assumption | (simp (disch := first | omega | (simp only [hNw, hPt]; omega)) only [gN] <;> first | rfl | assumption)) (by first | rfl | assumption)) ?_; refine OkO.bin rfl rfl rfl (bin_add (by omega) (by omega)) ?_; refine oA rfl rfl ?_; refine oN ?_; refine kR ?_; refine oM rfl rfl ?_; refine OkO.bin rfl rfl rfl (bin_add (by omega) (by omega)) ?_; refine oA rfl rfl ?_; refine oN ?_
              refine ⟨cs.length - (q + 1), by omega, q + 1, rfl, hltq, ?_, rfl, hg, rfl⟩
              rw [hin]; exact Has.of (by kernel_rfl)
            · have hte : ¬(cs.getD q default).to = (i : Int) := by rw [hxq]; simpa using h8
              have hin : (stayI cs (levP cs g ds t lvs rain k)) i + ((downP g.melt ds rain t.snow k) * t.soak / 1000) + (inflI cs (levP cs g ds t lvs rain k) (q + 1) i) = (stayI cs (levP cs g ds t lvs rain k)) i + ((downP g.melt ds rain t.snow k) * t.soak / 1000) + (inflI cs (levP cs g ds t lvs rain k) q i) := by rw [inflI, if_neg hte]; omega
              refine Ok.skip ?_; refine kR ?_; refine oM rfl rfl ?_; refine OkO.bin rfl rfl rfl (bin_add (by omega) (by omega)) ?_; refine oA rfl rfl ?_; refine oN ?_
              refine ⟨cs.length - (q + 1), by omega, q + 1, rfl, hltq, ?_, rfl, hg, rfl⟩
              rw [hin]; exact Has.of (by kernel_rfl)
          · have hgeq : q = cs.length := by simp at h7; omega
            subst hgeq
            refine Ok.exit ?_; refine kS ?_; refine kS ?_; refine kR ?_; refine oM rfl rfl ?_; refine oF (o := 0) rfl (by kernel_rfl) rfl ?_; refine oL rfl rfl (lda (n := 1) (by kernel_rfl) (by first | assumption | (simp (disch := first | omega | (simp only [hNw, hPt]; omega)) only [gN] <;> first | rfl | assumption)) (by first | rfl | assumption)) ?_; refine oM rfl rfl ?_; refine qX (sz := 7) (n := i) rfl rfl rfl ?_; refine oF (o := 2) rfl (by kernel_rfl) rfl ?_; refine oL rfl rfl (lda (n := 1) (by kernel_rfl) (by first | assumption | (simp (disch := first | omega | (simp only [hNw, hPt]; omega)) only [gN] <;> first | rfl | assumption)) (by first | rfl | assumption)) ?_; refine OkO.bin rfl rfl rfl (bin_gtr _ _) ?_; refine oN ?_
            refine Ok.cond rfl (fun h9 => ?_) (fun h9 => ?_)
            · have hcp : cs[i].cap < ((stayI cs (levP cs g ds t lvs rain k)) i + ((downP g.melt ds rain t.snow k) * t.soak / 1000) + (inflI cs (levP cs g ds t lvs rain k) cs.length i)) := by simpa using h9
              have hlB : lBI cs (levP cs g ds t lvs rain k) (downP g.melt ds rain t.snow k) ((downP g.melt ds rain t.snow k) * t.soak / 1000) (i + 1) = lBI cs (levP cs g ds t lvs rain k) (downP g.melt ds rain t.snow k) ((downP g.melt ds rain t.snow k) * t.soak / 1000) i + (((stayI cs (levP cs g ds t lvs rain k)) i + ((downP g.melt ds rain t.snow k) * t.soak / 1000) + (inflI cs (levP cs g ds t lvs rain k) cs.length i)) - cs[i].cap) := by rw [lBI, hx9, if_pos (by unfold lvlI; exact hcp)]; rfl
              have hmn : min ((lvlI cs (levP cs g ds t lvs rain k) ((downP g.melt ds rain t.snow k) * t.soak / 1000) i)) (cs.getD i default).cap = cs[i].cap := by rw [hx9]; unfold lvlI; omega
              refine kS ?_; refine kR ?_; refine oM rfl rfl ?_; refine oM rfl rfl ?_; refine oF (o := 0) rfl (by kernel_rfl) rfl ?_; refine oL rfl rfl (lda (n := 1) (by kernel_rfl) (by first | assumption | (simp (disch := first | omega | (simp only [hNw, hPt]; omega)) only [gN] <;> first | rfl | assumption)) (by first | rfl | assumption)) ?_; refine oM rfl rfl ?_; refine qX (sz := 7) (n := i) rfl rfl rfl ?_; refine oF (o := 2) rfl (by kernel_rfl) rfl ?_; refine oL rfl rfl (lda (n := 1) (by kernel_rfl) (by first | assumption | (simp (disch := first | omega | (simp only [hNw, hPt]; omega)) only [gN] <;> first | rfl | assumption)) (by first | rfl | assumption)) ?_; refine OkO.bin rfl rfl rfl (bin_sub (by omega) (by omega)) ?_; refine OkO.bin rfl rfl rfl (bin_add (by omega) (by omega)) ?_; refine oA rfl rfl ?_; refine oN ?_; refine kR ?_; refine oF (o := 0) rfl (by kernel_rfl) rfl ?_; refine oL rfl rfl (lda (n := 1) (by kernel_rfl) (by first | assumption | (simp (disch := first | omega | (simp only [hNw, hPt]; omega)) only [gN] <;> first | rfl | assumption)) (by first | rfl | assumption)) ?_; refine oM rfl rfl ?_; refine qX (sz := 7) (n := i) rfl rfl rfl ?_; refine oF (o := 2) rfl (by kernel_rfl) rfl ?_; refine oL rfl rfl (lda (n := 1) (by kernel_rfl) (by first | assumption | (simp (disch := first | omega | (simp only [hNw, hPt]; omega)) only [gN] <;> first | rfl | assumption)) (by first | rfl | assumption)) ?_; refine oA rfl rfl ?_; refine oN ?_; refine kR ?_; refine oM rfl rfl ?_; refine oM rfl rfl ?_; refine OkO.buildSlice (el := 3) (sz := 1) (z := [.int .i64 0]) rfl (by kernel_rfl) (by decide) rfl rfl ?_; refine OkO.builtinE rfl rfl rfl (Mine.app2 (W := W) (k0 := H1.next + 2) (sz := 1) (by_ := 8) (e := 3) (n := 1) (new := [I cs[i].cap]) (hmo.to (Grow.toNew _ _)) (hg.new _) (by omega) (by simp only [hNw]; omega) (by kernel_rfl) (by kernel_rfl) (elems_new (n := 1) (sz := 1) rfl) rfl rfl (by simp [outI]; omega) (by omega) (by omega) rfl) ?_
              rintro v2 G2 ⟨q1, q2, q3, q4, q5, q6⟩
              simp only [hNw] at q5
              refine oA rfl rfl ?_; refine oN ?_; refine kR ?_; refine oM rfl rfl ?_; refine OkO.bin rfl rfl rfl (bin_add (by omega) (by omega)) ?_; refine oA rfl rfl ?_; refine oN ?_
              refine ⟨cs.length - (i + 1), by omega, i + 1, v2, rfl, hlt, by rw [outI_succ, hmn]; exact q1, ?_, rfl, q2, ⟨show H1.next ≤ G2.next by omega, fun j hj => by rw [q3.get j (by omega) (by simp only [hNw]; omega), gno _ _ _ (by omega)]; exact hx.get j hj⟩, by rw [q3.get _ (by omega) (by simp only [hNw]; omega), gno _ _ _ (by omega)]; exact fs, by rw [q3.get _ (by omega) (by simp only [hNw]; omega), gno _ _ _ (by omega)]; exact fp, show H1.next + 2 ≤ G2.next by omega⟩
              rw [hlB]; exact Has.of (by kernel_rfl)
            · have hcp : ¬cs[i].cap < ((stayI cs (levP cs g ds t lvs rain k)) i + ((downP g.melt ds rain t.snow k) * t.soak / 1000) + (inflI cs (levP cs g ds t lvs rain k) cs.length i)) := by simpa using h9
              have hlB : lBI cs (levP cs g ds t lvs rain k) (downP g.melt ds rain t.snow k) ((downP g.melt ds rain t.snow k) * t.soak / 1000) (i + 1) = lBI cs (levP cs g ds t lvs rain k) (downP g.melt ds rain t.snow k) ((downP g.melt ds rain t.snow k) * t.soak / 1000) i := by rw [lBI, hx9, if_neg (by unfold lvlI; exact hcp)]; omega
              have hmn : min ((lvlI cs (levP cs g ds t lvs rain k) ((downP g.melt ds rain t.snow k) * t.soak / 1000) i)) (cs.getD i default).cap = ((stayI cs (levP cs g ds t lvs rain k)) i + ((downP g.melt ds rain t.snow k) * t.soak / 1000) + (inflI cs (levP cs g ds t lvs rain k) cs.length i)) := by rw [hx9]; unfold lvlI; omega
              refine Ok.skip ?_; refine kR ?_; refine oM rfl rfl ?_; refine oM rfl rfl ?_; refine OkO.buildSlice (el := 3) (sz := 1) (z := [.int .i64 0]) rfl (by kernel_rfl) (by decide) rfl rfl ?_; refine OkO.builtinE rfl rfl rfl (Mine.app2 (W := W) (k0 := H1.next + 2) (sz := 1) (by_ := 8) (e := 3) (n := 1) (new := [I ((stayI cs (levP cs g ds t lvs rain k)) i + ((downP g.melt ds rain t.snow k) * t.soak / 1000) + (inflI cs (levP cs g ds t lvs rain k) cs.length i))]) (hmo.to (Grow.toNew _ _)) (hg.new _) (by omega) (by simp only [hNw]; omega) (by kernel_rfl) (by kernel_rfl) (elems_new (n := 1) (sz := 1) rfl) rfl rfl (by simp [outI]; omega) (by omega) (by omega) rfl) ?_
              rintro v2 G2 ⟨q1, q2, q3, q4, q5, q6⟩
              simp only [hNw] at q5
              refine oA rfl rfl ?_; refine oN ?_; refine kR ?_; refine oM rfl rfl ?_; refine OkO.bin rfl rfl rfl (bin_add (by omega) (by omega)) ?_; refine oA rfl rfl ?_; refine oN ?_
              refine ⟨cs.length - (i + 1), by omega, i + 1, v2, rfl, hlt, by rw [outI_succ, hmn]; exact q1, ?_, rfl, q2, ⟨show H1.next ≤ G2.next by omega, fun j hj => by rw [q3.get j (by omega) (by simp only [hNw]; omega), gno _ _ _ (by omega)]; exact hx.get j hj⟩, by rw [q3.get _ (by omega) (by simp only [hNw]; omega), gno _ _ _ (by omega)]; exact fs, by rw [q3.get _ (by omega) (by simp only [hNw]; omega), gno _ _ _ (by omega)]; exact fp, show H1.next + 2 ≤ G2.next by omega⟩
              rw [hlB]; exact Has.of (by kernel_rfl)
        · have hge : i = cs.length := by simp at h6; omega
          subst hge
          refine Ok.exit ?_; refine kS ?_; refine kR ?_; refine oM rfl rfl ?_; refine oM rfl rfl ?_; refine oM rfl rfl ?_; refine oA rfl rfl ?_; refine oA rfl rfl ?_; refine oA rfl rfl ?_; refine oN ?_
          refine Ok.ret ⟨.inr rfl, ?_⟩
          have hdc := day_closed hF.lim hF.to_ hn8.2 hlf.2 hdb hsk
          have hmx : Mine (H1.next + 2) G vo 3 1 (((outI cs (levP cs g ds t lvs rain k) ((downP g.melt ds rain t.snow k) * t.soak / 1000) cs.length).map fun n => [I n]).flatten) := by rw [ints_flat]; exact hmo
          refine back_newA (resV_tmp rfl (resV_tmp rfl (resV_tmp rfl resV_nil))) rfl (by rw [← hW]; exact hg) (fun H2 r2 r3 => ⟨vo, by rw [show leftK cs g ds t lvs rain (k + 1) = lBI cs (levP cs g ds t lvs rain k) (downP g.melt ds rain t.snow k) ((downP g.melt ds rain t.snow k) * t.soak / 1000) cs.length from hdc.1]; rfl, r2, ?_⟩)
          have e9 : (levP cs g ds t lvs rain (k + 1)).take cs.length = outI cs (levP cs g ds t lvs rain k) ((downP g.melt ds rain t.snow k) * t.soak / 1000) cs.length := (outI_take hF.lim hF.to_ hn8.2 hlf.2 hdb hsk).symm
          rw [e9]
          exact (Mine.back (H := H) hmx (fun x hx => by simp only [List.mem_map] at hx; obtain ⟨y, _, rfl⟩ := hx; rfl) (by omega) (r3.imp (fun h => ⟨h.1, flatT1 h.2⟩) id)).1
end
end Go.Ev

set_option maxRecDepth 100000
set_option linter.unusedSimpArgs false
set_option linter.unusedVariables false
namespace Go.Ev
open Go Go.Proofs
noncomputable section
theorem c26 (cv dv lv rv : AV) (cs : List Cell) (g : Gr) (ds : List Day) (t : Tru) (lvs rain : List Int) (hF : Fit cs g ds t lvs rain) (k : Nat) : ∀ (n : Nat) (x : Int) (H : Heap), k < n → x = (k : Int) → k ≤ ds.length → Row H cv 7 (cs.map Cell.c) → Row H dv 3 (ds.map Day.c) → Ints H lv lvs → Ints H rv rain → ∃ v H', RR n (.fn 26 [.agg [cv, I g.slo, I g.shi, I g.klo, I g.khi, I g.melt], dv, .agg [I t.snow, I t.soak, lv, rv], I x]) H = some (v, H') ∧ ∃ v6, v = .tup [v6, I (leftK cs g ds t lvs rain k), I (snowP g.melt ds rain t.snow k)] ∧ Ret H H' ∧ Ints H' v6 ((levP cs g ds t lvs rain k).take cs.length) := by
  induction k with
  | zero =>
    intro n x H hn hx hk hR hY hL hA
    obtain ⟨m, rfl⟩ : ∃ m, n = m + 1 := ⟨n - 1, by omega⟩
    subst hx
    exact c26Z m cv dv lv rv cs g ds t lvs rain H hR hY hL hA hF
  | succ k ih =>
    intro n x H hn hx hk hR hY hL hA
    obtain ⟨m, rfl⟩ : ∃ m, n = m + 1 := ⟨n - 1, by omega⟩
    have e : x = (k : Int) + 1 := by omega
    subst e
    exact c26S m k cv dv lv rv cs g ds t lvs rain H hR hY hL hA hF (by omega) (fun G e => ih m _ G (by omega) rfl (by omega) (hR.ext e) (hY.ext e) (hL.ext e) (hA.ext e))
def fitB (cs : List Cell) (g : Gr) (ds : List Day) (t : Tru) (lvs rain : List Int) : Bool := inB t.snow g.slo g.shi && inB t.soak g.klo g.khi && fitsB lvs (cs.map Cell.lv) && fitsB rain (ds.map Day.rn)
section
open Go.RowKit
variable {H0 : Type} {enc : TypeId × Value → H0} {w : World} {base : Nat} {sp : Nat → Bool} {hd : Bool}
end
end
end Go.Ev


set_option maxRecDepth 100000
set_option linter.unusedSimpArgs false
set_option linter.unusedVariables false
namespace Go.Ev
open Go Go.Proofs
noncomputable section
end
end Go.Ev

set_option maxRecDepth 100000
set_option linter.unusedSimpArgs false
set_option linter.unusedVariables false
namespace Go.Ev
open Go Go.Proofs
noncomputable section
theorem c24w (m : Nat) (cv dv : AV) (cs : List Cell) (g : Gr) (ds : List Day) (H : Heap) (hR : Row H cv 7 (cs.map Cell.c)) (hbig : cs.length ≤ 1000000) (hY : Row H dv 3 (ds.map Day.c)) (hbd : ds.length ≤ 1000000) {e : Int} (hk : daysErr cs g ds = e) : RR (m + 4) (.fn 24 [.agg [cv, I g.slo, I g.shi, I g.klo, I g.khi, I g.melt], dv]) H = some (I e, H) := by
  have e1 := c24 m cv dv cs g ds H hR hbig hY hbd
  rw [hk] at e1
  exact e1
end
end Go.Ev

set_option maxRecDepth 100000
set_option linter.unusedSimpArgs false
set_option linter.unusedVariables false
namespace Go.Ev
open Go Go.Proofs
noncomputable section
def askErr (cs : List Cell) (g : Gr) (ds : List Day) (cell level : Int) : Int :=
  if daysErr cs g ds = 0 then (if (inB cell 0 ((cs.length : Int) - 1) && inB level 0 100000) = true then 0 else 2) else daysErr cs g ds
/-- The first of so many at which `f` is at least `lv`, or -1. -/
def firstD (f : Nat → Int) (lv : Int) : Nat → Int
  | 0 => -1
  | n + 1 => if firstD f lv n = -1 then (if lv ≤ f n then (n : Int) else -1) else firstD f lv n
end
end Go.Ev

set_option maxRecDepth 100000
set_option linter.unusedSimpArgs false
set_option linter.unusedVariables false
namespace Go.Ev
open Go Go.Proofs
noncomputable section
end
end Go.Ev

set_option maxRecDepth 100000
set_option linter.unusedSimpArgs false
set_option linter.unusedVariables false
namespace Go.Ev
open Go Go.Proofs
noncomputable section
section
open Go.ChangeShapes Go.WideShapes Go.RowKit
variable {H0 : Type} {enc : TypeId × Value → H0} {w : World} {base : Nat} {sp : Nat → Bool} {hd : Bool}
end
end
end Go.Ev

set_option maxRecDepth 100000
set_option linter.unusedSimpArgs false
set_option linter.unusedVariables false
namespace Go.Ev
open Go Go.Proofs
noncomputable section
end
end Go.Ev

set_option maxRecDepth 100000
set_option linter.unusedSimpArgs false
set_option linter.unusedVariables false
namespace Go.Ev
open Go Go.Proofs
noncomputable section
section
open Go.ChangeShapes Go.WideShapes Go.RowKit
variable {H0 : Type} {enc : TypeId × Value → H0} {w : World} {base : Nat} {sp : Nat → Bool} {hd : Bool}
end
end
end Go.Ev

set_option linter.unusedVariables false
namespace Go.Ev
open Go Go.Proofs Go.ChangeShapes Go.WideShapes Go.RowKit
variable {H : Type} {enc : TypeId × Value → H} {P : Program} {w : World} {base : Nat} {spare : Nat → Bool} {held : Bool}
end Go.Ev

set_option maxRecDepth 100000
set_option linter.unusedSimpArgs false
set_option linter.unusedVariables false
namespace Go.Ev
open Go Go.Proofs
noncomputable section
/-- A day behind all others, where there is none. -/
def fixD (D : Nat) (x : Int) : Int := if x < 0 then (D : Int) else x
def lateL (D : Nat) (l : List Int) (i : Nat) : List Int := (l.take i).map (fixD D) ++ l.drop i
section
open Go.ChangeShapes Go.WideShapes Go.RowKit
variable {H0 : Type} {enc : TypeId × Value → H0} {w : World} {base : Nat} {sp : Nat → Bool} {hd : Bool}
/-- A word at hand. -/
theorem u16_arg {H : Heap} (hs : Snap w H) {v : Value} {d : DataW H0} {p : List MemPlace} (hv : ∃ n, v = .int .u16 n) (h : DataW.Trod enc Try.prog w base sp hd 64 v d p) : ∃ x : Int, argAV w.heap.size v = .int .u16 x ∧ 0 ≤ x ∧ x ≤ 65535 := by
  obtain ⟨n, rfl⟩ := hv
  obtain ⟨fuel, h⟩ := h
  obtain ⟨x, h1, h2⟩ := u16_open h
  have h1' : ([Value.int .u16 n] : List Value) = [.int .u16 x] := h1
  have e0 : n = x := by simpa using h1'
  subst e0
  exact ⟨n, rfl, h2⟩
end
end
end Go.Ev

set_option maxRecDepth 100000
set_option linter.unusedSimpArgs false
set_option linter.unusedVariables false
namespace Go.Ev
open Go
noncomputable section
theorem wrapF_u64 {n : Int} (h1 : 0 ≤ n) (h2 : n < 9223372036854775808) : wrapF .u64 n = n := by
  rw [wrapF_eq]
  exact IntWalk.u64_in _ (by omega)
/-- A reading: where, when, and from where to where. -/
structure Rd where
  cell : Int
  day : Int
  lo : Int
  hi : Int
abbrev Rd.k (x : Rd) : Int × Int := (x.cell, x.day)
def encW (k : Int × Int) : AV := .agg [.int .i64 k.1, .int .i64 k.2]
def encR2 (r : Int × Int) : AV := .agg [.int .i64 r.1, .int .i64 r.2]
def Rd.c (x : Rd) : List AV := [.int .i64 x.cell, .int .i64 x.day, .int .i64 x.lo, .int .i64 x.hi]
/-- One reading more. -/
def wst (f : Int × Int → Option (Int × Int)) (x : Rd) : Int × Int → Option (Int × Int) := fun k =>
  if k = x.k then some (match f k with | some r => (max r.1 x.lo, min r.2 x.hi) | none => (x.lo, x.hi)) else f k
def wf (rs : List Rd) : Int × Int → Option (Int × Int) := rs.foldl wst fun _ => none
theorem wf_snoc (rs : List Rd) (x : Rd) : wf (rs ++ [x]) = wst (wf rs) x := by unfold wf; rw [List.foldl_append]; rfl
def mapV (f : Int × Int → Option (Int × Int)) : Int × Int → Option AV := fun k => (f k).map encR2
def wv (f : Int × Int → Option (Int × Int)) (x : Rd) : Int × Int := match f x.k with | some r => (max r.1 x.lo, min r.2 x.hi) | none => (x.lo, x.hi)
theorem mapV_upd (f : Int × Int → Option (Int × Int)) (x : Rd) : updK (mapV f) x.k (encR2 (wv f x)) = mapV (wst f x) := by
  funext k
  unfold updK mapV wst wv
  by_cases h : k = x.k
  · subst h; simp
  · simp [h]
def WfOk (rs : List Rd) (k : Int × Int) : Option (Int × Int) → Prop
  | none => ∀ x ∈ rs, x.k ≠ k
  | some r => (∃ x ∈ rs, x.k = k) ∧ (∀ n, n < r.1 ↔ ∃ x ∈ rs, x.k = k ∧ n < x.lo) ∧ ∀ n, r.2 < n ↔ ∃ x ∈ rs, x.k = k ∧ x.hi < n
theorem wf_rev : ∀ (l : List Rd) (k : Int × Int), WfOk l k (wf l.reverse k)
  | [], k => by show ∀ x ∈ ([] : List Rd), _; intro x h; cases h
  | y :: l, k => by
    rw [List.reverse_cons, wf_snoc]
    have ih := wf_rev l k
    unfold wst
    by_cases h : k = y.k
    · rw [if_pos h]
      cases hw : wf l.reverse k with
      | none =>
        rw [hw] at ih
        refine ⟨⟨y, by simp, h.symm⟩, fun n => ⟨fun q => ⟨y, by simp, h.symm, q⟩, ?_⟩, fun n => ⟨fun q => ⟨y, by simp, h.symm, q⟩, ?_⟩⟩
        all_goals
          rintro ⟨x, hx, hk, q⟩
          rcases List.mem_cons.1 hx with rfl | hx
          · exact q
          · exact absurd hk (ih x hx)
      | some r =>
        rw [hw] at ih
        obtain ⟨_, h2, h3⟩ := ih
        refine ⟨⟨y, by simp, h.symm⟩, fun n => ⟨fun q => ?_, ?_⟩, fun n => ⟨fun q => ?_, ?_⟩⟩
        · dsimp only at q
          by_cases q1 : n < r.1
          · obtain ⟨x, hx, hk, hl⟩ := (h2 n).1 q1; exact ⟨x, by simp [hx], hk, hl⟩
          · exact ⟨y, by simp, h.symm, by omega⟩
        · rintro ⟨x, hx, hk, q⟩
          dsimp only
          rcases List.mem_cons.1 hx with rfl | hx
          · omega
          · have := (h2 n).2 ⟨x, hx, hk, q⟩; omega
        · dsimp only at q
          by_cases q1 : r.2 < n
          · obtain ⟨x, hx, hk, hl⟩ := (h3 n).1 q1; exact ⟨x, by simp [hx], hk, hl⟩
          · exact ⟨y, by simp, h.symm, by omega⟩
        · rintro ⟨x, hx, hk, q⟩
          dsimp only
          rcases List.mem_cons.1 hx with rfl | hx
          · omega
          · have := (h3 n).2 ⟨x, hx, hk, q⟩; omega
    · rw [if_neg h]
      cases hw : wf l.reverse k with
      | none =>
        rw [hw] at ih
        intro x hx
        rcases List.mem_cons.1 hx with rfl | hx
        · exact fun e => h e.symm
        · exact ih x hx
      | some r =>
        rw [hw] at ih
        obtain ⟨⟨x0, h0, k0⟩, h2, h3⟩ := ih
        refine ⟨⟨x0, by simp [h0], k0⟩, fun n => (h2 n).trans ⟨fun ⟨x, a, b⟩ => ⟨x, by simp [a], b⟩, ?_⟩, fun n => (h3 n).trans ⟨fun ⟨x, a, b⟩ => ⟨x, by simp [a], b⟩, ?_⟩⟩
        all_goals
          rintro ⟨x, hx, hk, q⟩
          rcases List.mem_cons.1 hx with rfl | hx
          · exact absurd hk.symm h
          · exact ⟨x, hx, hk, q⟩
theorem wf_spec (rs : List Rd) (k : Int × Int) : WfOk rs k (wf rs k) := by
  have h := wf_rev rs.reverse k
  rw [List.reverse_reverse] at h
  revert h
  cases wf rs k with
  | none => intro h x hx; exact h x (by simpa using hx)
  | some r =>
    rintro ⟨⟨x, a, b⟩, h2, h3⟩
    refine ⟨⟨x, by simpa using a, b⟩, fun n => (h2 n).trans ?_, fun n => (h3 n).trans ?_⟩ <;> simp

/-- What a map's key, or its range, says. -/
def dec2 : AV → Int × Int
  | .agg [.int _ a, .int _ b] => (a, b)
  | _ => (0, 0)
def tLow (lv : Int → Int → Int) (e : AV × AV × Nat) : Bool := decide (lv (dec2 e.1).2 (dec2 e.1).1 < (dec2 e.2.1).1)
def tHigh (lv : Int → Int → Int) (e : AV × AV × Nat) : Bool := decide ((dec2 e.2.1).2 < lv (dec2 e.1).2 (dec2 e.1).1)

theorem lookE_mem {l : List ((Int × Int) × AV × Nat)} (h : (l.map (·.1)).Nodup) {e : (Int × Int) × AV × Nat} (he : e ∈ l) : lookE l e.1 = some e.2.1 := by
  induction l with
  | nil => cases he
  | cons y l ih =>
    rw [List.map_cons, List.nodup_cons] at h
    rw [lookE]
    rcases List.mem_cons.1 he with rfl | he
    · rw [if_pos rfl]
    · rw [if_neg (fun q => h.1 (by rw [← q]; exact List.mem_map_of_mem he))]; exact ih h.2 he
theorem mem_lookE {l : List ((Int × Int) × AV × Nat)} {k : Int × Int} {v : AV} (h : lookE l k = some v) : ∃ n, (k, v, n) ∈ l := by
  induction l with
  | nil => cases h
  | cons y l ih =>
    rw [lookE] at h
    by_cases q : k = y.1
    · rw [if_pos q] at h
      cases h
      exact ⟨y.2.2, by rw [q]; simp⟩
    · rw [if_neg q] at h
      obtain ⟨n, hn⟩ := ih h
      exact ⟨n, by simp [hn]⟩

theorem len_le2 : ∀ (a b : List (Int × Int)), a.Nodup → (∀ x ∈ a, x ∈ b) → a.length ≤ b.length
  | [], _, _, _ => Nat.zero_le _
  | x :: a, b, hn, hs => by
    rw [List.nodup_cons] at hn
    have hx := hs x (by simp)
    have := len_le2 a (b.erase x) hn.2 fun y hy => (List.mem_erase_of_ne (fun q => hn.1 (by rw [← q]; exact hy))).2 (hs y (by simp [hy]))
    rw [List.length_erase_of_mem hx] at this
    have := List.length_pos_of_mem hx
    simp only [List.length_cons]
    omega
/-- The entries of the readings' map. -/
theorem map_entry {o : AObj} {rs : List Rd} (h : MapO o encW (mapV (wf rs))) : ∃ es c, o = .map es c ∧ es.length ≤ rs.length ∧ (∀ e ∈ es, e.2.2 < c) ∧ (es.map (·.2.2)).Nodup ∧
    (∀ e ∈ es, ∃ x ∈ rs, ∃ lo hi, e.1 = encW x.k ∧ e.2.1 = encR2 (lo, hi) ∧ wf rs x.k = some (lo, hi)) ∧
    ∀ x ∈ rs, ∃ lo hi n, (encW x.k, encR2 (lo, hi), n) ∈ es ∧ wf rs x.k = some (lo, hi) := by
  obtain ⟨l, c, rfl, h1, h2, h3, h4⟩ := h
  refine ⟨_, c, rfl, ?_, fun e he => ?_, ?_, fun e he => ?_, fun x hx => ?_⟩
  · have := len_le2 (l.map (·.1)) (rs.map Rd.k) h1 fun k hk => by
      obtain ⟨p, hp, rfl⟩ := List.mem_map.1 hk
      have q := lookE_mem h1 hp
      rw [h4] at q
      unfold mapV at q
      have hs := wf_spec rs p.1
      cases hw : wf rs p.1 with
      | none => rw [hw] at q; cases q
      | some r =>
        rw [hw] at hs
        obtain ⟨⟨x, hx, hk⟩, _⟩ := hs
        exact List.mem_map.2 ⟨x, hx, hk⟩
    simpa [entries] using this
  · unfold entries at he
    obtain ⟨p, hp, rfl⟩ := List.mem_map.1 he
    exact h3 p hp
  · unfold entries
    rw [List.map_map]
    exact h2
  · unfold entries at he
    obtain ⟨p, hp, rfl⟩ := List.mem_map.1 he
    have q := lookE_mem h1 hp
    rw [h4] at q
    unfold mapV at q
    have hs := wf_spec rs p.1
    cases hw : wf rs p.1 with
    | none => rw [hw] at q; cases q
    | some r =>
      rw [hw] at q hs
      obtain ⟨⟨x, hx, hk⟩, _⟩ := hs
      exact ⟨x, hx, r.1, r.2, by rw [hk], (Option.some.inj q).symm, by rw [hk]; exact hw⟩
  · have hs := wf_spec rs x.k
    cases hw : wf rs x.k with
    | none => rw [hw] at hs; exact absurd rfl (hs x hx)
    | some r =>
      have q : lookE l x.k = some (encR2 r) := by rw [h4]; unfold mapV; rw [hw]; rfl
      obtain ⟨n, hn⟩ := mem_lookE q
      exact ⟨r.1, r.2, n, List.mem_map.2 ⟨_, hn, rfl⟩, rfl⟩

theorem any_low {rs : List Rd} {es : List (AV × AV × Nat)} (lv : Int → Int → Int) (h1 : ∀ e ∈ es, ∃ x ∈ rs, ∃ lo hi, e.1 = encW x.k ∧ e.2.1 = encR2 (lo, hi) ∧ wf rs x.k = some (lo, hi))
    (h2 : ∀ x ∈ rs, ∃ lo hi n, (encW x.k, encR2 (lo, hi), n) ∈ es ∧ wf rs x.k = some (lo, hi)) : es.any (tLow lv) = rs.any fun x => decide (lv x.day x.cell < x.lo) := by
  rw [Bool.eq_iff_iff, List.any_eq_true, List.any_eq_true]
  constructor
  · rintro ⟨e, he, ht⟩
    obtain ⟨x, hx, lo, hi, e1, e2, hw⟩ := h1 e he
    have hs := wf_spec rs x.k
    rw [hw] at hs
    unfold tLow at ht
    rw [e1, e2] at ht
    obtain ⟨y, hy, hk, hl⟩ := (hs.2.1 _).1 (of_decide_eq_true ht)
    have hk1 : y.cell = x.cell := congrArg Prod.fst hk
    have hk2 : y.day = x.day := congrArg Prod.snd hk
    exact ⟨y, hy, by rw [hk1, hk2]; exact decide_eq_true hl⟩
  · rintro ⟨x, hx, ht⟩
    obtain ⟨lo, hi, n, he, hw⟩ := h2 x hx
    have hs := wf_spec rs x.k
    rw [hw] at hs
    exact ⟨_, he, decide_eq_true ((hs.2.1 _).2 ⟨x, hx, rfl, of_decide_eq_true ht⟩)⟩
theorem any_high {rs : List Rd} {es : List (AV × AV × Nat)} (lv : Int → Int → Int) (h1 : ∀ e ∈ es, ∃ x ∈ rs, ∃ lo hi, e.1 = encW x.k ∧ e.2.1 = encR2 (lo, hi) ∧ wf rs x.k = some (lo, hi))
    (h2 : ∀ x ∈ rs, ∃ lo hi n, (encW x.k, encR2 (lo, hi), n) ∈ es ∧ wf rs x.k = some (lo, hi)) : es.any (tHigh lv) = rs.any fun x => decide (x.hi < lv x.day x.cell) := by
  rw [Bool.eq_iff_iff, List.any_eq_true, List.any_eq_true]
  constructor
  · rintro ⟨e, he, ht⟩
    obtain ⟨x, hx, lo, hi, e1, e2, hw⟩ := h1 e he
    have hs := wf_spec rs x.k
    rw [hw] at hs
    unfold tHigh at ht
    rw [e1, e2] at ht
    obtain ⟨y, hy, hk, hl⟩ := (hs.2.2 _).1 (of_decide_eq_true ht)
    have hk1 : y.cell = x.cell := congrArg Prod.fst hk
    have hk2 : y.day = x.day := congrArg Prod.snd hk
    exact ⟨y, hy, by rw [hk1, hk2]; exact decide_eq_true hl⟩
  · rintro ⟨x, hx, ht⟩
    obtain ⟨lo, hi, n, he, hw⟩ := h2 x hx
    have hs := wf_spec rs x.k
    rw [hw] at hs
    exact ⟨_, he, decide_eq_true ((hs.2.2 _).2 ⟨x, hx, rfl, of_decide_eq_true ht⟩)⟩
theorem any_perm {α : Type} {a b : List α} (h : a.Perm b) (f : α → Bool) : a.any f = b.any f := by
  rw [Bool.eq_iff_iff, List.any_eq_true, List.any_eq_true]
  exact ⟨fun ⟨x, hx, q⟩ => ⟨x, h.mem_iff.1 hx, q⟩, fun ⟨x, hx, q⟩ => ⟨x, h.mem_iff.2 hx, q⟩⟩
end
end Go.Ev

set_option maxRecDepth 100000
set_option linter.unusedSimpArgs false
set_option linter.unusedVariables false
namespace Go.Ev
open Go Go.Proofs
noncomputable section
def Rd.ok (cs : List Cell) (ds : List Day) (x : Rd) : Bool := (inB x.cell 0 ((cs.length : Int) - 1) && inB x.day 0 ((ds.length : Int) - 1)) && okR x.lo x.hi 100000
/-- Is all but the soak known? -/
def knownB (cs : List Cell) (g : Gr) (ds : List Day) : Bool := (decide (g.slo = g.shi) && cs.all fun x => decide (x.lo = x.hi)) && ds.all fun x => decide (x.lo = x.hi)
/-- The error of readings. -/
def learnErr (cs : List Cell) (g : Gr) (ds : List Day) (rs : List Rd) : Int :=
  if (30 : Int) < (rs.length : Int) then 3 else if (rs.all fun x => x.ok cs ds) = true then (if knownB cs g ds = true then 0 else 8) else 2
def readErr (cs : List Cell) (g : Gr) (ds : List Day) (rs : List Rd) : Int := if daysErr cs g ds = 0 then learnErr cs g ds rs else daysErr cs g ds
theorem c34 (m : Nat) (rv : AV) (rs : List Rd) (H : Heap) (hZ : Row H rv 4 (rs.map Rd.c)) (hbig : rs.length ≤ 1000) : ∃ v H', RR (m + 2) (.fn 34 [rv]) H = some (v, H') ∧ Ret H H' ∧ Row H' v 4 (rs.map Rd.c) ∧ v.atom = true := by
  show ∃ v H', evFn Try.prog (RR (m + 1)) 34 [rv] H = some (v, H') ∧ Ret H H' ∧ Row H' v 4 (rs.map Rd.c) ∧ v.atom = true
  refine fn_okE Try.func34 rfl rfl (by kernel_rfl) (by kernel_rfl) ?_
  obtain ⟨W, hW, hg, hN, hE, hG⟩ := wOf H
  rw [← hW]
  have hld : lenOf rv = some rs.length := by simpa using hZ.len
  refine kS ?_; refine kR ?_; refine oA rfl rfl ?_; refine oN ?_; refine kS ?_; refine kR ?_; refine oA rfl rfl ?_; refine oN ?_; refine kS ?_; refine kS ?_; refine kR ?_; refine oA rfl rfl ?_; refine oN ?_; refine Ok.block ?_
  refine Ok.loop (fun n s => ∃ (i : Nat) (v3 : AV), n = rs.length - i ∧ i ≤ rs.length ∧ Mine W.next s.H v3 84 4 ((rs.take i).map Rd.c).flatten ∧ Has 6 [(0, rv), (2, .nils), (3, v3), (4, I (i : Int))] s.T ∧ s.D = [] ∧ Grow W s.H) (rs.length) (by unfold loopFuel; omega)
    ⟨0, .nils, rfl, Nat.zero_le _, Mine.nil _ _ _ _, Has.of (by kernel_rfl), rfl, hG⟩ ?_
  rintro n ⟨T, D, G⟩ ⟨i, v3, hn, hi, hm, ⟨f, hT⟩, hD, hg⟩
  dsimp only at *
  subst hT hD
  have hgn := hg.next
  refine kS ?_; refine kS ?_; refine kR ?_; refine oM rfl rfl ?_; refine oM rfl rfl ?_; refine oB rfl rfl rfl qbl ?_; refine OkO.bin rfl rfl rfl (bin_lss _ _) ?_; refine oN ?_
  refine Ok.cond rfl (fun h1 => ?_) (fun h1 => ?_)
  · have hlt : i < rs.length := by simpa using h1
    obtain ⟨bb, off, ccs, i1, i2w, i3, i4⟩ := (hZ.ext (hE W hG)).at_ i rs[i].c (by simp [hlt])
    have i2 : (G.get bb).bind AObj.cs = some ccs := by rw [hg.get _ i4]; exact i2w
    have i4g : bb < G.next := by omega
    have i5 : seg ccs (off + 2) 2 = some [I rs[i].lo, I rs[i].hi] := seg_sub i3 2 2 (by omega) (by omega)
    have i6 : ccs[off + 0]? = some (I rs[i].cell) := seg_get i3 0 (by omega)
    have i7 : ccs[off + 1]? = some (I rs[i].day) := seg_get i3 1 (by omega)
    have hml : ((rs.take i).map Rd.c).flatten.length = i * 4 := by rw [flat_len _ 4 (fun x hx => by simp only [List.mem_map] at hx; obtain ⟨y, _, rfl⟩ := hx; rfl)]; simp; omega
    refine Ok.skip ?_; refine kS ?_; refine Ok.block ?_; refine Ok.drawn [(0, true, []), (1, true, []), (2, true, []), (3, true, []), (4, true, []), (5, true, []), (6, true, []), (7, true, []), (8, true, []), (9, true, []), (10, true, []), (11, true, []), (12, true, []), (13, true, []), (14, true, []), (15, true, []), (16, false, [10, 5]), (17, true, []), (18, true, [15, 10, 5]), (19, false, [15, 10, 5]), (20, false, [])] (by kernel_rfl) ?_; refine pS ?_; refine oM rfl rfl ?_; refine oN ⟨rfl, ?_⟩; refine pS ?_; refine oM rfl rfl ?_; refine oN ⟨rfl, ?_⟩; refine pS ?_; refine oM rfl rfl ?_; refine oN ⟨rfl, ?_⟩; refine pS ?_; refine qX (sz := 4) (n := i) rfl rfl rfl ?_; refine oN ⟨rfl, ?_⟩; refine pS ?_; refine oF (o := 0) rfl (by kernel_rfl) rfl ?_; refine oN ⟨rfl, ?_⟩; refine pS ?_; refine oL rfl rfl (qla3 1) ?_; refine oN ⟨rfl, ?_⟩; refine pS ?_; refine oM rfl rfl ?_; refine oN ⟨rfl, ?_⟩; refine pS ?_; refine oM rfl rfl ?_; refine oN ⟨rfl, ?_⟩; refine pS ?_; refine qX (sz := 4) (n := i) rfl rfl rfl ?_; refine oN ⟨rfl, ?_⟩; refine pS ?_; refine oF (o := 1) rfl (by kernel_rfl) rfl ?_; refine oN ⟨rfl, ?_⟩; refine pS ?_; refine oL rfl rfl (qla3 1) ?_; refine oN ⟨rfl, ?_⟩; refine pS ?_; refine oM rfl rfl ?_; refine oN ⟨rfl, ?_⟩; refine pS ?_; refine oM rfl rfl ?_; refine oN ⟨rfl, ?_⟩; refine pS ?_; refine qX (sz := 4) (n := i) rfl rfl rfl ?_; refine oN ⟨rfl, ?_⟩; refine pS ?_; refine oF (o := 2) rfl (by kernel_rfl) rfl ?_; refine oN ⟨rfl, ?_⟩; refine pS ?_; refine oL rfl rfl (qlg4 2) ?_; refine oN ⟨rfl, ?_⟩; refine pS ?_; refine oV rfl rfl rfl rfl rfl (c52 _ _ _ _) ?_
    refine oN ⟨(sco (qsa0 1 rfl rfl rfl) (sco (qsa0 1 rfl rfl rfl) rfl)), ?_⟩; refine pS ?_; refine OkO.build (z := [.int .i64 0, .int .i64 0, .int .i64 0, .int .i64 0]) (pl := [(0, 1), (1, 1), (2, 2)]) rfl (by kernel_rfl) rfl rfl ?_; refine oN ⟨rfl, ?_⟩; refine pS ?_; refine OkO.buildSlice (el := 84) (sz := 4) (z := [.int .i64 0, .int .i64 0, .int .i64 0, .int .i64 0]) rfl (by kernel_rfl) (by decide) rfl rfl ?_
    refine oN ⟨(sco (qsg1 2 rfl rfl rfl) (sco (qsa0 1 rfl rfl rfl) (sco (qsa0 1 rfl rfl rfl) rfl))), ?_⟩; refine pS ?_; refine OkO.builtinE rfl rfl rfl (Mine.app (k0 := W.next) (sz := 4) (by_ := 32) (e := 84) (n := 1) (new := rs[i].c) (hm.to (by (try dsimp only); repeat (first | exact Ext.refl _ | assumption | apply Ext.new | (refine Ext.put ?_ _ (by first | omega | (simp only [hNw, hPt]; omega)))))) (by (try dsimp only); repeat (first | (first | exact hg | exact hG) | apply Grow.new | (refine Grow.put ?_ _ (by first | omega | (simp only [hNw, hPt]; omega))))) (Nat.le_refl _) (by have := hg.next; simp only [hNw]; omega) (by kernel_rfl) (by kernel_rfl) (elems_new (n := 1) (sz := 4) rfl) rfl rfl (by rw [hml]; omega) (by omega) (by omega) rfl) ?_
    rintro v2 G2 ⟨q1, q2, q3⟩
    have i8 : (G2.get bb).bind AObj.cs = some ccs := by rw [q2.get _ i4]; exact i2w
    refine oN ⟨(sco (qsg1 2 rfl rfl rfl) (sco (qsa0 1 rfl rfl rfl) (sco (qsa0 1 rfl rfl rfl) rfl))), ?_⟩; refine pS ?_; refine oA rfl rfl ?_; refine oN ⟨rfl, ?_⟩; refine OkP.nil ?_; refine kR ?_; refine oM rfl rfl ?_; refine OkO.bin rfl rfl rfl (bin_add (by omega) (by omega)) ?_; refine oA rfl rfl ?_; refine oN ?_
    refine ⟨rs.length - (i + 1), by omega, i + 1, v2, rfl, hlt, ?_, Has.of (by kernel_rfl), rfl, q2⟩
    rw [flat_take _ _ _ hlt]; exact q1
  · have hge : i = rs.length := by simp at h1; omega
    subst hge
    refine Ok.exit ?_; refine kS ?_; refine kR ?_; refine oM rfl rfl ?_; refine oA rfl rfl ?_; refine oN ?_
    refine Ok.ret ⟨.inr rfl, ?_⟩
    exact back_newA (resV_tmp rfl resV_nil) rfl (by rw [← hW]; exact hg) (fun H2 r2 r3 => ⟨r2, (Mine.back (by rw [List.take_length] at hm; exact hm) (fun x hx => by simp only [List.mem_map] at hx; obtain ⟨y, _, rfl⟩ := hx; rfl) (by omega) r3).1, hm.one.2⟩)
theorem c88 (m : Nat) (cv dv : AV) (cs : List Cell) (g : Gr) (ds : List Day) (x : Rd) (b1 b2 : Nat) (H : Heap) (h1b : (H.get b1).bind AObj.cs = some [cv, I g.slo, I g.shi, I g.klo, I g.khi, I g.melt]) (h2b : (H.get b2).bind AObj.cs = some [dv]) (l1b : b1 < H.next) (l2b : b2 < H.next) (hlc : lenOf cv = some cs.length) (hld : lenOf dv = some ds.length) (hbc : cs.length ≤ 1000000) (hbd : ds.length ≤ 1000000) : RR (m + 2) (.fn 88 [.agg x.c, .ptr b1 0, .ptr b2 0]) H = some (.bool (x.ok cs ds), H) := by
  refine (R_fn _ _ _ _ _).trans ?_; refine fn_ok Try.func88 rfl rfl (by kernel_rfl) (by kernel_rfl) ?_
  obtain ⟨W, hW, hg, hN, hE, hG⟩ := wOf H
  rw [← hW]
  have hb1W : (W.get b1).bind AObj.cs = some [cv, I g.slo, I g.shi, I g.klo, I g.khi, I g.melt] := by rw [hg]; exact h1b
  have hb2W : (W.get b2).bind AObj.cs = some [dv] := by rw [hg]; exact h2b
  have pd := lpl hld
  have pc := lpl hlc
  refine kS ?_; refine kR ?_; refine OkO.box rfl rfl ?_; refine oA rfl rfl ?_; refine oN ?_; refine kS ?_; refine Ok.drawn [(0, true, []), (1, true, []), (3, true, []), (4, true, []), (2, false, [4]), (5, false, [1]), (6, true, []), (7, true, []), (9, true, []), (10, true, []), (8, false, [10, 4, 1]), (11, false, [7, 4, 1]), (12, true, []), (13, true, []), (14, true, []), (15, true, []), (16, false, [10, 7, 4, 1]), (17, true, []), (18, true, [])] (by kernel_rfl) ?_; refine pS ?_; refine oF (o := 0) rfl (by kernel_rfl) rfl ?_; refine oN ⟨rfl, ?_⟩; refine pS ?_; refine oL rfl rfl (qla3 1) ?_; refine oN ⟨rfl, ?_⟩; refine pS ?_; refine oF (o := 0) rfl (by kernel_rfl) rfl ?_; refine oN ⟨rfl, ?_⟩; refine pS ?_; refine oL rfl rfl (qla3 1) ?_; refine oN ⟨rfl, ?_⟩; refine pS ?_; refine oV rfl rfl rfl rfl rfl (c74 _ cv cs.length _ hlc (by omega)) ?_
  refine oN ⟨(sco (qsa2 1 rfl rfl rfl) rfl), ?_⟩; refine pS ?_; refine oV rfl rfl rfl rfl rfl (c71 _ _ _ _ _) ?_
  refine oN ⟨(sco (qsa2 1 rfl rfl rfl) rfl), ?_⟩; refine pS ?_; refine oM rfl rfl ?_; refine oN ⟨rfl, ?_⟩
  refine OkP.split (d := 11) rfl (fun g1 => ?_) (fun g1 => ?_)
  · have e1 : inB x.cell 0 ((cs.length : Int) - 1) = true := by simpa using g1
    refine pS ?_; refine oL rfl rfl (qla3 1) ?_; refine oN ⟨rfl, ?_⟩; refine pS ?_; refine oF (o := 1) rfl (by kernel_rfl) rfl ?_; refine oN ⟨rfl, ?_⟩; refine pS ?_; refine oL rfl rfl (qla3 1) ?_; refine oN ⟨rfl, ?_⟩; refine pS ?_; refine oV rfl rfl rfl rfl rfl (c89 _ dv ds.length _ hld (by omega)) ?_
    refine oN ⟨(sco (qsa2 1 rfl rfl rfl) (sco (qsa2 1 rfl rfl rfl) (sco (qsa2 1 rfl rfl rfl) rfl))), ?_⟩; refine pS ?_; refine oV rfl rfl rfl rfl rfl (c71 _ _ _ _ _) ?_
    refine oN ⟨(sco (qsa2 1 rfl rfl rfl) (sco (qsa2 1 rfl rfl rfl) (sco (qsa2 1 rfl rfl rfl) rfl))), ?_⟩; refine pS ?_; refine OkO.pick (b := true) rfl rfl (fun _ => rfl) nofun ?_; refine oN ⟨rfl, ?_⟩; refine pS ?_; refine oM rfl rfl ?_; refine oN ⟨rfl, ?_⟩
    refine OkP.split (d := 18) rfl (fun g2 => ?_) (fun g2 => ?_)
    · have e2 : inB x.day 0 ((ds.length : Int) - 1) = true := by simpa using g2
      refine pS ?_; refine oF (o := 2) rfl (by kernel_rfl) rfl ?_; refine oN ⟨rfl, ?_⟩; refine pS ?_; refine oL rfl rfl (qlg4 2) ?_; refine oN ⟨rfl, ?_⟩; refine pS ?_; refine oV rfl rfl rfl rfl rfl (c75 _ _ _ _ _) ?_
      refine oN ⟨(sco (qsa2 1 rfl rfl rfl) (sco (qsa2 1 rfl rfl rfl) (sco (qsa2 1 rfl rfl rfl) (sco (qsa2 1 rfl rfl rfl) rfl)))), ?_⟩; refine pS ?_; refine OkO.pick (b := true) rfl rfl (fun _ => rfl) nofun ?_; refine oN ⟨rfl, ?_⟩; refine pS ?_; refine oA rfl rfl ?_; refine oN ⟨rfl, ?_⟩; refine OkP.nil ?_
      refine Ok.ret ⟨.inr rfl, ?_⟩
      exact back_flat rfl (congrArg AV.bool (by unfold Rd.ok; rw [e1, e2]; rfl)) rfl (by rw [← hW]; exact (by (try dsimp only); repeat (first | exact hG | apply Grow.new | (refine Grow.put ?_ _ (by first | omega | (simp only [hNw, hPt]; omega))))))
    · have e2 : inB x.day 0 ((ds.length : Int) - 1) = false := by simpa using g2
      refine pS ?_; refine oK rfl ?_; refine oN ⟨rfl, ?_⟩; refine pS ?_; refine oK rfl ?_; refine oN ⟨rfl, ?_⟩; refine pS ?_; refine oK rfl ?_
      refine oN ⟨(sco (qsa2 1 rfl rfl rfl) (sco (qsa2 1 rfl rfl rfl) (sco (qsa2 1 rfl rfl rfl) (sco (qsa2 1 rfl rfl rfl) rfl)))), ?_⟩; refine pS ?_; refine OkO.pick (b := false) rfl rfl nofun (fun _ => rfl) ?_; refine oN ⟨rfl, ?_⟩; refine pS ?_; refine oA rfl rfl ?_; refine oN ⟨rfl, ?_⟩; refine OkP.nil ?_
      refine Ok.ret ⟨.inr rfl, ?_⟩
      exact back_flat rfl (congrArg AV.bool (by unfold Rd.ok; rw [e1, e2]; rfl)) rfl (by rw [← hW]; exact (by (try dsimp only); repeat (first | exact hG | apply Grow.new | (refine Grow.put ?_ _ (by first | omega | (simp only [hNw, hPt]; omega))))))
  · have e1 : inB x.cell 0 ((cs.length : Int) - 1) = false := by simpa using g1
    refine pS ?_; refine oK rfl ?_; refine oN ⟨rfl, ?_⟩; refine pS ?_; refine oK rfl ?_; refine oN ⟨rfl, ?_⟩; refine pS ?_; refine oK rfl ?_; refine oN ⟨rfl, ?_⟩; refine pS ?_; refine oK rfl ?_
    refine oN ⟨(sco (ssk rfl) (sco (qsa2 1 rfl rfl rfl) (sco (qsa2 1 rfl rfl rfl) rfl))), ?_⟩; refine pS ?_; refine oK rfl ?_
    refine oN ⟨(sco (ssk rfl) (sco (qsa2 1 rfl rfl rfl) (sco (qsa2 1 rfl rfl rfl) rfl))), ?_⟩; refine pS ?_; refine OkO.pick (b := false) rfl rfl nofun (fun _ => rfl) ?_; refine oN ⟨rfl, ?_⟩; refine pS ?_; refine oM rfl rfl ?_; refine oN ⟨rfl, ?_⟩; refine pS ?_; refine oK rfl ?_; refine oN ⟨rfl, ?_⟩; refine pS ?_; refine oK rfl ?_; refine oN ⟨rfl, ?_⟩; refine pS ?_; refine oK rfl ?_
    refine oN ⟨(sco (ssk rfl) (sco (ssk rfl) (sco (qsa2 1 rfl rfl rfl) (sco (qsa2 1 rfl rfl rfl) rfl)))), ?_⟩; refine pS ?_; refine OkO.pick (b := false) rfl rfl nofun (fun _ => rfl) ?_; refine oN ⟨rfl, ?_⟩; refine pS ?_; refine oA rfl rfl ?_; refine oN ⟨rfl, ?_⟩; refine OkP.nil ?_
    refine Ok.ret ⟨.inr rfl, ?_⟩
    exact back_flat rfl (congrArg AV.bool (by unfold Rd.ok; rw [e1]; rfl)) rfl (by rw [← hW]; exact (by (try dsimp only); repeat (first | exact hG | apply Grow.new | (refine Grow.put ?_ _ (by first | omega | (simp only [hNw, hPt]; omega))))))
theorem c90 (m : Nat) (v : AV) (xs : List Rd) (cv dv : AV) (cs : List Cell) (g : Gr) (ds : List Day) (b1 b2 : Nat) (H : Heap) (hR : Row H v 4 (xs.map Rd.c)) (hl : xs.length ≤ 1000000) (h1b : (H.get b1).bind AObj.cs = some [cv, I g.slo, I g.shi, I g.klo, I g.khi, I g.melt]) (h2b : (H.get b2).bind AObj.cs = some [dv]) (l1b : b1 < H.next) (l2b : b2 < H.next) (hlc : lenOf cv = some cs.length) (hld : lenOf dv = some ds.length) (hbc : cs.length ≤ 1000000) (hbd : ds.length ≤ 1000000) : RR (m + 4) (.fn 90 [v, .fn 88 [] [.ptr b1 0, .ptr b2 0]]) H = some (.bool (xs.all fun x => x.ok cs ds), H) := by
  refine (R_fn _ _ _ _ _).trans ?_; refine fn_ok Try.func90 rfl rfl (by kernel_rfl) (by kernel_rfl) ?_
  obtain ⟨W, hW, hg, hN, hE, hG⟩ := wOf H
  rw [← hW]
  have hlen : lenOf v = some xs.length := by simpa using hR.len
  refine kS ?_; refine kR ?_; refine oA rfl rfl ?_; refine oN ?_; refine kS ?_; refine kS ?_; refine kR ?_; refine oM rfl rfl ?_; refine oB rfl rfl rfl qbl ?_; refine oM rfl rfl ?_; refine oN ?_; refine Ok.block ?_
  refine Ok.loop (fun n s => ∃ i : Nat, n = xs.length - i ∧ i ≤ xs.length ∧ (∀ j, j < i → ∀ x, xs[j]? = some x → x.ok cs ds = true) ∧ Has 5 [(1, .fn 88 [] [.ptr b1 0, .ptr b2 0]), (4, .bool false), (7, v), (8, I xs.length), (9, I (i : Int))] s.T ∧ s.D = [] ∧ Grow W s.H) (xs.length) (by unfold loopFuel; omega)
    ⟨0, rfl, Nat.zero_le _, nofun, Has.of (by kernel_rfl), rfl, hG⟩ ?_
  rintro n ⟨T, D, G⟩ ⟨i, hn, hi, hall, ⟨f, hT⟩, hD, hg⟩
  dsimp only at *
  subst hT hD
  have hgn := hg.next
  refine kS ?_; refine kR ?_; refine OkO.bin rfl rfl rfl (bin_lss _ _) ?_; refine oN ?_; refine kS ?_
  refine Ok.cond rfl (fun h1 => ?_) (fun h1 => ?_)
  · have hlt : i < xs.length := by simpa using h1
    obtain ⟨bb, off, ccs, i1, i2, i3, i4⟩ := (hR.ext (hE _ hg)).at_ i xs[i].c (by simp [hlt])
    have hne : bb ≠ G.next := by omega
    have hb1G : (G.get b1).bind AObj.cs = some [cv, I g.slo, I g.shi, I g.klo, I g.khi, I g.melt] := by rw [(hE _ hg).get _ l1b]; exact h1b
    have hb2G : (G.get b2).bind AObj.cs = some [dv] := by rw [(hE _ hg).get _ l2b]; exact h2b
    have hgx : H.next ≤ G.next := (hE _ hg).next
    refine Ok.skip ?_; refine kS ?_; refine Ok.block ?_; refine kS ?_; refine kR ?_; refine qX (sz := 4) rfl rfl rfl ?_; refine oL rfl rfl (qlg4 4) ?_; refine OkO.alloc (z := [.int .i64 0, .int .i64 0, .int .i64 0, .int .i64 0]) rfl (by kernel_rfl) ?_; refine oT rfl rfl rfl (sAc (n := 4) (ag := true) (by kernel_rfl) (by first | assumption | (simp (disch := first | omega | (simp only [hNw, hPt]; omega)) only [gN] <;> first | rfl | assumption | exact gp0 _ _ _ | exact gn0 _ _)) rfl (by first | rfl | assumption) (by first | rfl | exact spl_set _ _ _ (by first | assumption | omega | (simp; omega)))) ?_; refine oN ?_; refine kS ?_; refine kR ?_; refine oM rfl rfl ?_; refine oL rfl rfl (qlg4 4) ?_; refine oV rfl rfl rfl rfl rfl (c88 (m + 1) cv dv cs g ds xs[i] b1 b2 _ (by first | assumption | simp (disch := first | omega | (simp only [hNw, hPt]; omega)) only [gN] <;> first | rfl | assumption) (by first | assumption | simp (disch := first | omega | (simp only [hNw, hPt]; omega)) only [gN] <;> first | rfl | assumption) (by simp only [hNw, hPt]; omega) (by simp only [hNw, hPt]; omega) hlc hld hbc hbd) ?_; refine OkO.un rfl rfl rfl ?_; refine oN ?_
    refine Ok.cond rfl (fun h2 => ?_) (fun h2 => ?_)
    · refine kS ?_
      refine kR ?_; refine oA rfl rfl ?_; refine oN ?_
      refine Ok.ret ⟨.inr rfl, ?_⟩
      exact back_flat rfl (congrArg AV.bool (by symm; rw [List.all_eq_false]; exact ⟨xs[i], List.getElem_mem hlt, by simpa using h2⟩)) rfl (by rw [← hW]; exact (by (try dsimp only); repeat (first | (first | exact hg | exact hG) | apply Grow.new | (refine Grow.put ?_ _ (by first | omega | (simp only [hNw, hPt]; omega))))))
    · refine Ok.skip ?_
      refine kR ?_; refine OkO.bin rfl rfl rfl (bin_add (by omega) (by omega)) ?_; refine oM rfl rfl ?_; refine oN ?_
      refine ⟨xs.length - (i + 1), by omega, i + 1, rfl, hlt, fun j hj x hx => ?_, Has.of (by kernel_rfl), rfl, (by (try dsimp only); repeat (first | (first | exact hg | exact hG) | apply Grow.new | (refine Grow.put ?_ _ (by first | omega | (simp only [hNw, hPt]; omega)))))⟩
      by_cases e : j = i
      · subst e; rw [List.getElem?_eq_getElem hlt] at hx; cases hx; simpa using h2
      · exact hall j (by omega) x hx
  · have hge : i = xs.length := by simp at h1; omega
    refine Ok.exit ?_; refine kS ?_; refine kR ?_; refine oA rfl rfl ?_; refine oN ?_
    refine Ok.ret ⟨.inr rfl, ?_⟩
    exact back_flat rfl (congrArg AV.bool (by symm; rw [List.all_eq_true]; intro x hx; obtain ⟨j, hj, rfl⟩ := List.mem_iff_getElem.1 hx; exact hall j (by omega) _ (List.getElem?_eq_getElem hj))) rfl (by rw [← hW]; exact (by (try dsimp only); repeat (first | (first | exact hg | exact hG) | apply Grow.new | (refine Grow.put ?_ _ (by first | omega | (simp only [hNw, hPt]; omega))))))
end
end Go.Ev

set_option maxRecDepth 100000
set_option linter.unusedSimpArgs false
set_option linter.unusedVariables false
namespace Go.Ev
open Go Go.Proofs
noncomputable section
theorem keysW : Keys Try.prog 166 encW where
  eq := fun a c => by
    have e : eqT Try.prog 8 166 (encW a) (encW c) = (match eqI a.1 c.1 with | true => (match eqI a.2 c.2 with | true => some true | false => some false) | false => some false) := by kernel_rfl
    have q : ∀ x y : Int, (x == y) = decide (x = y) := fun x y => by by_cases h : x = y <;> simp [h]
    rw [e, eqI_eq, eqI_eq, q, q]
    obtain ⟨a1, a2⟩ := a
    obtain ⟨c1, c2⟩ := c
    by_cases h1 : a1 = c1 <;> by_cases h2 : a2 = c2 <;> simp [h1, h2]
  chk := fun a => by kernel_rfl
  same := fun a => by
    show sameAtoms [.int .i64 a.1, .int .i64 a.2] [.int .i64 a.1, .int .i64 a.2] = true
    simp [sameAtoms, sameAtom, sameKind, eqI_eq]
theorem look_w (f : Int × Int → Option (Int × Int)) (k : Int × Int) : ∃ (r0 : Int × Int) (kn : Bool), (match mapV f k with | some v => AV.tup [v, .bool true] | none => .tup [.agg [I 0, I 0], .bool false]) = .tup [.agg [I r0.1, I r0.2], .bool kn] ∧ ((kn = true ∧ f k = some r0) ∨ (kn = false ∧ f k = none)) := by
  unfold mapV
  cases f k with
  | none => exact ⟨(0, 0), false, rfl, .inr ⟨rfl, rfl⟩⟩
  | some r => exact ⟨r, true, rfl, .inl ⟨rfl, rfl⟩⟩
theorem mapT130 : mapTy Try.prog 130 = some (166, .agg [I 0, I 0]) := by kernel_rfl
theorem c66 (m : Nat) (rv : AV) (rs : List Rd) (H : Heap) (hZ : Row H rv 4 (rs.map Rd.c)) (hbig : rs.length ≤ 1000) : ∃ v H', RR (m + 1) (.fn 66 [rv]) H = some (v, H') ∧ ∃ mb o, v = .map mb ∧ Ret H H' ∧ H.next ≤ mb ∧ mb < H'.next ∧ H'.get mb = some o ∧ MapO o encW (mapV (wf rs)) := by
  show ∃ v H', evFn Try.prog (RR (m + 0)) 66 [rv] H = some (v, H') ∧ ∃ mb o, v = .map mb ∧ Ret H H' ∧ H.next ≤ mb ∧ mb < H'.next ∧ H'.get mb = some o ∧ MapO o encW (mapV (wf rs))
  refine fn_okE Try.func66 rfl rfl (by kernel_rfl) (by kernel_rfl) ?_
  obtain ⟨W, hW, hg, hN, hE, hG⟩ := wOf H
  rw [← hW]
  have hld : lenOf rv = some rs.length := by simpa using hZ.len
  refine kS ?_; refine kR ?_; refine oA rfl rfl ?_; refine oN ?_; refine kS ?_; refine kR ?_; refine OkO.makeMap rfl ?_; refine oA rfl rfl ?_; refine oN ?_; refine kS ?_; refine kS ?_; refine kR ?_; refine oM rfl rfl ?_; refine oB rfl rfl rfl qbl ?_; refine oM rfl rfl ?_; refine oN ?_; refine Ok.block ?_
  refine Ok.loop (fun n s => ∃ (i : Nat) (o9 : AObj), n = rs.length - i ∧ i ≤ rs.length ∧ Has 6 [(2, .nilm), (3, .map W.next), (10, rv), (11, I rs.length), (12, I (i : Int))] s.T ∧ s.D = [] ∧ Grow W s.H ∧ s.H.get W.next = some o9 ∧ W.next < s.H.next ∧ MapO o9 encW (mapV (wf (rs.take i)))) (rs.length) (by unfold loopFuel; omega)
    ⟨0, .map [] 0, rfl, Nat.zero_le _, Has.of (by kernel_rfl), rfl, (by (try dsimp only); repeat (first | exact hG | apply Grow.new | (refine Grow.put ?_ _ (by first | omega | (simp only [hNw, hPt]; omega))))), gn0 _ _, by simp, MapO.nil.congr fun k => rfl⟩ ?_
  rintro n ⟨T, D, G⟩ ⟨i, o9, hn, hi, ⟨f, hT⟩, hD, hg, ho9, hlt9, hmo⟩
  dsimp only at *
  subst hT hD
  have hgn := hg.next
  refine kS ?_; refine kR ?_; refine OkO.bin rfl rfl rfl (bin_lss _ _) ?_; refine oN ?_; refine kS ?_
  refine Ok.cond rfl (fun h1 => ?_) (fun h1 => ?_)
  · have hlt : i < rs.length := by simpa using h1
    obtain ⟨bb, off, ccs, i1, i2, i3, i4⟩ := (hZ.ext (hE _ hg)).at_ i rs[i].c (by simp [hlt])
    have hne : bb ≠ G.next := by omega
    refine Ok.skip ?_; refine kS ?_; refine Ok.block ?_; refine kS ?_; refine kR ?_; refine qX (sz := 4) (n := i) rfl rfl rfl ?_; refine oL rfl rfl (qlg4 4) ?_; refine OkO.alloc (z := [.int .i64 0, .int .i64 0, .int .i64 0, .int .i64 0]) rfl (by kernel_rfl) ?_; refine oT rfl rfl rfl (sAc (n := 4) (ag := true) (by kernel_rfl) (by first | assumption | (simp (disch := first | omega | (simp only [hNw, hPt]; omega)) only [gN] <;> first | rfl | assumption | exact gp0 _ _ _ | exact gn0 _ _)) rfl (by first | rfl | assumption) (by first | rfl | exact spl_set _ _ _ (by first | assumption | omega | (simp; omega)))) ?_; refine oN ?_; refine kS ?_; refine kR ?_; refine oF (o := 0) rfl (by kernel_rfl) rfl ?_; refine oL rfl rfl (qla3 1) ?_; refine oF (o := 1) rfl (by kernel_rfl) rfl ?_; refine oL rfl rfl (qla3 1) ?_; refine OkO.build (z := [.int .i64 0, .int .i64 0]) (pl := [(0, 1), (1, 1)]) rfl (by kernel_rfl) rfl rfl ?_; refine OkO.alloc (z := [.int .i64 0, .int .i64 0]) rfl (by kernel_rfl) ?_; refine oT rfl rfl rfl (sAc (n := 2) (ag := true) (by kernel_rfl) (by first | assumption | (simp (disch := first | omega | (simp only [hNw, hPt]; omega)) only [gN] <;> first | rfl | assumption | exact gp0 _ _ _ | exact gn0 _ _)) rfl (by first | rfl | assumption) (by first | rfl | exact spl_set _ _ _ (by first | assumption | omega | (simp; omega)))) ?_; refine oN ?_; refine kS ?_; refine kR ?_; refine oM rfl rfl ?_; refine oL rfl rfl (qlg4 2) ?_
    obtain ⟨r0, kn, hr0, hkn⟩ := look_w (wf (rs.take i)) rs[i].k
    refine OkO.lookup (rs[i].k) (.tup [.agg [I r0.1, I r0.2], .bool kn]) rfl mapT130 keysW rfl rfl (by first | assumption | (simp (disch := first | omega | (simp only [hNw, hPt]; omega)) only [gN] <;> first | rfl | assumption)) hmo hr0 ?_; refine oM rfl rfl ?_; refine OkO.extract rfl rfl rfl ?_; refine OkO.extract rfl rfl rfl ?_; refine OkO.alloc (z := [.int .i64 0, .int .i64 0]) rfl (by kernel_rfl) ?_; refine oT rfl rfl rfl (sAc (n := 2) (ag := true) (by kernel_rfl) (by first | assumption | (simp (disch := first | omega | (simp only [hNw, hPt]; omega)) only [gN] <;> first | rfl | assumption | exact gp0 _ _ _ | exact gn0 _ _)) rfl (by first | rfl | assumption) (by first | rfl | exact spl_set _ _ _ (by first | assumption | omega | (simp; omega)))) ?_; refine oA rfl rfl ?_; refine oN ?_; refine kS ?_; refine kS ?_; refine kR ?_; refine oM rfl rfl ?_; refine OkO.un rfl rfl rfl ?_; refine oN ?_
    refine Ok.cond rfl (fun h2 => ?_) (fun h2 => ?_)
    · have hk8 : kn = false := by simpa using h2
      have e8 : wf (rs.take i) rs[i].k = none := by rcases hkn with q | q; (rw [hk8] at q; cases q.1); exact q.2
      have hw9 : AV.agg [I (max rs[i].lo rs[i].lo), I (min rs[i].hi rs[i].hi)] = encR2 (wv (wf (rs.take i)) rs[i]) := by unfold wv; rw [e8]; simp [encR2]
      refine kR ?_; refine oF (o := 2) rfl (by kernel_rfl) rfl ?_; refine oL rfl rfl (qlg4 2) ?_; refine oT rfl rfl rfl (sAc (n := 2) (ag := true) (by kernel_rfl) (by first | assumption | (simp (disch := first | omega | (simp only [hNw, hPt]; omega)) only [gN] <;> first | rfl | assumption | exact gp0 _ _ _ | exact gn0 _ _)) rfl (by first | rfl | assumption) (by first | rfl | exact spl_set _ _ _ (by first | assumption | omega | (simp; omega)))) ?_; refine oN ?_; refine kR ?_; refine oM rfl rfl ?_; refine oL rfl rfl (qlg4 2) ?_; refine oF (o := 0) rfl (by kernel_rfl) rfl ?_; refine oL rfl rfl (qla3 1) ?_; refine oF (o := 2) rfl (by kernel_rfl) rfl ?_; refine oF (o := 0) rfl (by kernel_rfl) rfl ?_; refine oL rfl rfl (qla3 1) ?_; refine oB rfl rfl rfl (builtin_max2 _ _) ?_; refine oF (o := 1) rfl (by kernel_rfl) rfl ?_; refine oL rfl rfl (qla3 1) ?_; refine oF (o := 2) rfl (by kernel_rfl) rfl ?_; refine oF (o := 1) rfl (by kernel_rfl) rfl ?_; refine oL rfl rfl (qla3 1) ?_; refine oB rfl rfl rfl (builtin_min2 _ _) ?_; refine OkO.build (z := [.int .i64 0, .int .i64 0]) (pl := [(0, 1), (1, 1)]) rfl (by kernel_rfl) rfl rfl ?_
      refine OkO.mapUpdate (rs[i].k) rfl mapT130 keysW rfl rfl rfl (by first | assumption | (simp (disch := first | omega | (simp only [hNw, hPt]; omega)) only [gN] <;> first | rfl | assumption)) hmo (fun o8 hm8 => ?_)
      refine oN ?_; refine kR ?_; refine OkO.bin rfl rfl rfl (bin_add (by omega) (by omega)) ?_; refine oM rfl rfl ?_; refine oN ?_
      refine ⟨rs.length - (i + 1), by omega, i + 1, o8, rfl, hlt, Has.of (by kernel_rfl), rfl, (by (try dsimp only); repeat (first | (first | exact hg | exact hG) | apply Grow.new | (refine Grow.put ?_ _ (by first | omega | (simp only [hNw, hPt]; omega))))), gp0 _ _ _, by simp only [hPt, hNw]; omega, ?_⟩
      rw [List.take_succ_eq_append_getElem hlt, wf_snoc, ← mapV_upd, ← hw9]
      exact hm8
    · have hk8 : kn = true := by simpa using h2
      have e8 : wf (rs.take i) rs[i].k = some r0 := by rcases hkn with q | q; exact q.2; (rw [hk8] at q; cases q.1)
      have hw9 : AV.agg [I (max r0.1 rs[i].lo), I (min r0.2 rs[i].hi)] = encR2 (wv (wf (rs.take i)) rs[i]) := by unfold wv; rw [e8]; rfl
      refine Ok.skip ?_; refine kR ?_; refine oM rfl rfl ?_; refine oL rfl rfl (qlg4 2) ?_; refine oF (o := 0) rfl (by kernel_rfl) rfl ?_; refine oL rfl rfl (qla3 1) ?_; refine oF (o := 2) rfl (by kernel_rfl) rfl ?_; refine oF (o := 0) rfl (by kernel_rfl) rfl ?_; refine oL rfl rfl (qla3 1) ?_; refine oB rfl rfl rfl (builtin_max2 _ _) ?_; refine oF (o := 1) rfl (by kernel_rfl) rfl ?_; refine oL rfl rfl (qla3 1) ?_; refine oF (o := 2) rfl (by kernel_rfl) rfl ?_; refine oF (o := 1) rfl (by kernel_rfl) rfl ?_; refine oL rfl rfl (qla3 1) ?_; refine oB rfl rfl rfl (builtin_min2 _ _) ?_; refine OkO.build (z := [.int .i64 0, .int .i64 0]) (pl := [(0, 1), (1, 1)]) rfl (by kernel_rfl) rfl rfl ?_
      refine OkO.mapUpdate (rs[i].k) rfl mapT130 keysW rfl rfl rfl (by first | assumption | (simp (disch := first | omega | (simp only [hNw, hPt]; omega)) only [gN] <;> first | rfl | assumption)) hmo (fun o8 hm8 => ?_)
      refine oN ?_; refine kR ?_; refine OkO.bin rfl rfl rfl (bin_add (by omega) (by omega)) ?_; refine oM rfl rfl ?_; refine oN ?_
      refine ⟨rs.length - (i + 1), by omega, i + 1, o8, rfl, hlt, Has.of (by kernel_rfl), rfl, (by (try dsimp only); repeat (first | (first | exact hg | exact hG) | apply Grow.new | (refine Grow.put ?_ _ (by first | omega | (simp only [hNw, hPt]; omega))))), gp0 _ _ _, by simp only [hPt, hNw]; omega, ?_⟩
      rw [List.take_succ_eq_append_getElem hlt, wf_snoc, ← mapV_upd, ← hw9]
      exact hm8
  · have hge : i = rs.length := by simp at h1; omega
    subst hge
    refine Ok.exit ?_; refine kS ?_; refine kR ?_; refine oM rfl rfl ?_; refine oA rfl rfl ?_; refine oN ?_
    refine Ok.ret ⟨.inr rfl, ?_⟩
    rw [List.take_length] at hmo
    exact back_newA (resV_tmp rfl resV_nil) rfl (by rw [← hW]; exact hg) (fun H2 r2 r3 => by
      rcases r3 with ⟨_, r3⟩ | ⟨r3, r4⟩
      · simp [AV.flat, resOf] at r3
      · exact ⟨W.next, o9, rfl, r2, by omega, by rw [r4]; exact hlt9, by rw [r3]; exact ho9, hmo⟩)
end
end Go.Ev

set_option maxRecDepth 100000
set_option linter.unusedSimpArgs false
set_option linter.unusedVariables false
namespace Go.EvN
open Go Go.Proofs Go.Ev
noncomputable section
theorem c96 (m : Nat) (ev : AV) (n9 mb : Nat) (eL : Nat → List Int) (o9 s9 : Nat → Int) (rs : List Rd) (o : AObj) (H : Heap) (hm : H.get mb = some o) (hmb : mb < H.next) (ho : MapO o encW (mapV (wf rs))) (hbig : rs.length ≤ 1000) (hR : Row H ev 10 ((List.range n9).map fun i9 => (eL i9).map I ++ [I (o9 i9), I (s9 i9)])) (hlen8 : ∀ i, i < n9 → (eL i).length = 8) (hrs : ∀ x ∈ rs, 0 ≤ x.day ∧ x.day < n9 ∧ 0 ≤ x.cell ∧ x.cell < 8) : FnN Try.prog (RR m) 96 [.map mb, ev] H fun v H' => v = .tup [.bool (rs.any fun x => decide ((eL x.day.toNat).getD x.cell.toNat 0 < x.lo)), .bool (rs.any fun x => decide (x.hi < (eL x.day.toNat).getD x.cell.toNat 0))] ∧ H' = H := by
  refine fn_okE Try.func96 rfl rfl (by kernel_rfl) (by kernel_rfl) ?_
  obtain ⟨W, hW, hg, hN, hE, hG⟩ := wOf H
  rw [← hW]
  obtain ⟨es, c9, rfl, hle9, hlt9, hnd9, hent, hall9⟩ := map_entry ho
  have hmW : W.get mb = some (.map es c9) := by rw [hg]; exact hm
  have hmN : mb < W.next := by rw [hN]; exact hmb
  have plv := lpl hR.len
  refine kS ?_; refine kR ?_; refine oA rfl rfl ?_; refine oA rfl rfl ?_; refine oN ?_; refine kS ?_; refine kS ?_; refine kR ?_; refine oM rfl rfl ?_; refine OkO.rangeM rfl (by kernel_rfl) rfl hmW ?_; refine oN ?_; refine Ok.block ?_
  refine Ok.loop (fun n s => ∃ done, n = es.length - done.length ∧ It s.H W.next mb es c9 done ∧ Has 6 [(1, ev), (4, .bool (done.any (tLow (fun d c => (eL d.toNat).getD c.toNat 0)))), (5, .bool (done.any (tHigh (fun d c => (eL d.toNat).getD c.toNat 0)))), (10, .ptr W.next 0)] s.T ∧ s.D = [] ∧ Grow W s.H ∧ W.next < s.H.next) (es.length) (by unfold loopFuel; omega)
    ⟨[], rfl, ⟨gn0 _ _, (by rw [gno _ _ _ (by omega)]; exact hmW), hlt9, hnd9, .nil, nofun⟩, Has.of (by kernel_rfl), rfl, (by (try dsimp only); repeat (first | exact hG | apply Grow.new | (refine Grow.put ?_ _ (by first | omega | (simp only [hNw, hPt]; omega))))), by simp⟩ ?_
  rintro n ⟨T, D, G⟩ ⟨done, hn, hI, ⟨f, hT⟩, hD, hg, hbn⟩
  dsimp only at *
  subst hT hD
  have hgn := hg.next
  refine kS ?_; refine kR ?_
  refine OkO.nextM rfl rfl hI (fun hl9 => ?_) (fun e9 he9 => ?_)
  · have hperm := hI.perm hl9
    refine OkO.extract rfl rfl rfl ?_; refine oN ?_; refine kS ?_; refine Ok.condF rfl ?_; refine Ok.exit ?_; refine kS ?_; refine kR ?_; refine oM rfl rfl ?_; refine oM rfl rfl ?_; refine oA rfl rfl ?_; refine oA rfl rfl ?_; refine oN ?_
    refine Ok.ret ⟨.inr rfl, ?_⟩
    have q1 := (any_perm hperm (tLow (fun d c => (eL d.toNat).getD c.toNat 0))).trans (any_low (fun d c => (eL d.toNat).getD c.toNat 0) hent hall9)
    have q2 := (any_perm hperm (tHigh (fun d c => (eL d.toNat).getD c.toNat 0))).trans (any_high (fun d c => (eL d.toNat).getD c.toNat 0) hent hall9)
    exact ⟨_, _, back_flat (resV_tmp rfl (resV_tmp rfl resV_nil)) (by rw [q1, q2]; rfl) rfl (by rw [← hW]; exact hg), rfl, rfl⟩
  · have hin := (mem_leftE.1 he9).1
    obtain ⟨x, hx, lo9, hi9, k1, k2, kw⟩ := hent e9 hin
    obtain ⟨hx1, hx2, hx3, hx4⟩ := hrs x hx
    obtain ⟨dd, hdd⟩ : ∃ dd : Nat, x.day = dd := ⟨x.day.toNat, by omega⟩
    obtain ⟨cc, hcc⟩ : ∃ cc : Nat, x.cell = cc := ⟨x.cell.toNat, by omega⟩
    have hI2 := hI.step (G := G.put W.next (.iter (some mb) c9 (done.map (·.2.2) ++ [e9.2.2]) c9)) he9 (gp0 _ _ _) (by rw [gpo _ _ _ _ (by omega)]; exact hI.mp)
    have hgQ : Grow W (G.put W.next (.iter (some mb) c9 (done.map (·.2.2) ++ [e9.2.2]) c9)) := hg.put _ (Nat.le_refl _)
    have hQn : (G.put W.next (.iter (some mb) c9 (done.map (·.2.2) ++ [e9.2.2]) c9)).next = G.next := by simp
    generalize G.put W.next (.iter (some mb) c9 (done.map (·.2.2) ++ [e9.2.2]) c9) = Q at hI2 hgQ hQn ⊢
    have eq1 : e9.1 = .agg [I (cc : Int), I (dd : Int)] := by rw [k1]; show AV.agg [I x.cell, I x.day] = _; rw [hcc, hdd]
    have eq2 : e9.2.1 = .agg [I lo9, I hi9] := by rw [k2]; rfl
    rw [eq1, eq2]
    have hdn : dd < n9 := by omega
    obtain ⟨bb, off, ccs, i1, i2, i3, i4⟩ := (hR.ext (hE _ hgQ)).at_ dd ((eL dd).map I ++ [I (o9 dd), I (s9 dd)]) (by rw [List.getElem?_map, List.getElem?_range hdn]; rfl)
    have hl8 := hlen8 dd hdn
    have i5 : ccs[off + 0 + cc * 1]? = some (I ((eL dd).getD cc 0)) := by rw [Nat.add_zero, Nat.mul_one, seg_get i3 cc (by omega), List.getElem?_append_left (by simp; omega), List.getElem?_map, List.getElem?_eq_getElem (by omega), List.getD_eq_getElem?_getD, List.getElem?_eq_getElem (by omega)]; rfl
    have eL1 : tLow (fun d c => (eL d.toNat).getD c.toNat 0) e9 = decide ((eL dd).getD cc 0 < lo9) := by unfold tLow; rw [eq1, eq2]; simp [dec2]
    have eL2 : tHigh (fun d c => (eL d.toNat).getD c.toNat 0) e9 = decide (hi9 < (eL dd).getD cc 0) := by unfold tHigh; rw [eq1, eq2]; simp [dec2]
    have hne1 : bb ≠ Q.next := by omega
    have hne2 : bb ≠ Q.next + 1 := by omega
    refine OkO.extract rfl rfl rfl ?_; refine oN ?_; refine kS ?_; refine Ok.condT rfl ?_; refine Ok.skip ?_; refine Ok.block ?_; refine kS ?_; refine kR ?_
    refine OkO.entryM rfl rfl hI2 ?_; rw [eq1, eq2]
    refine OkO.extract rfl rfl rfl ?_; refine OkO.extract rfl rfl rfl ?_; refine OkO.alloc (z := [.int .i64 0, .int .i64 0]) rfl (by kernel_rfl) ?_; refine OkO.alloc (z := [.int .i64 0, .int .i64 0]) rfl (by kernel_rfl) ?_; refine oT rfl rfl rfl (sAc (n := 2) (ag := true) (by kernel_rfl) (by first | assumption | (simp (disch := first | omega | (simp only [hNw, hPt]; omega)) only [gN] <;> first | rfl | assumption | exact gp0 _ _ _ | exact gn0 _ _)) rfl (by first | rfl | assumption) (by first | rfl | exact spl_set _ _ _ (by first | assumption | omega | (simp; omega)))) ?_; refine oT rfl rfl rfl (sAc (n := 2) (ag := true) (by kernel_rfl) (by first | assumption | (simp (disch := first | omega | (simp only [hNw, hPt]; omega)) only [gN] <;> first | rfl | assumption | exact gp0 _ _ _ | exact gn0 _ _)) rfl (by first | rfl | assumption) (by first | rfl | exact spl_set _ _ _ (by first | assumption | omega | (simp; omega)))) ?_; refine oN ?_; refine kS ?_; refine Ok.drawn [(0, true, []), (1, true, []), (2, true, []), (3, true, []), (4, true, []), (5, true, []), (6, true, []), (7, true, []), (8, true, []), (9, true, [])] (by kernel_rfl) ?_; refine pS ?_; refine oM rfl rfl ?_; refine oN ⟨rfl, ?_⟩; refine pS ?_; refine oF (o := 1) rfl (by kernel_rfl) rfl ?_; refine oN ⟨rfl, ?_⟩; refine pS ?_; refine oL rfl rfl (qla3 1) ?_; refine oN ⟨rfl, ?_⟩; refine pS ?_; refine oF (o := 0) rfl (by kernel_rfl) rfl ?_; refine oN ⟨rfl, ?_⟩; refine pS ?_; refine oL rfl rfl (qla3 1) ?_; refine oN ⟨rfl, ?_⟩; refine pS ?_; refine qX (sz := 10) (n := dd) rfl rfl rfl ?_; refine oN ⟨rfl, ?_⟩; refine pS ?_; refine oF (o := 0) rfl (by kernel_rfl) rfl ?_; refine oN ⟨rfl, ?_⟩; refine pS ?_; refine OkO.indexArr (len := 8) (sz := 1) (n := cc) rfl rfl rfl (by kernel_rfl) (by omega) ?_; refine oN ⟨rfl, ?_⟩; refine pS ?_; refine oL rfl rfl (qla3 1) ?_; refine oN ⟨rfl, ?_⟩; refine pS ?_; refine oA rfl rfl ?_; refine oN ⟨rfl, ?_⟩; refine OkP.nil ?_; refine kS ?_; refine kR ?_; refine oM rfl rfl ?_; refine oM rfl rfl ?_
    refine OkO.split (d := 26) rfl (fun g1 => ?_) (fun g1 => ?_)
    · refine oK rfl ?_
      refine oK rfl ?_; refine oK rfl ?_; refine oK rfl ?_; refine OkO.pick (b := true) rfl rfl (fun _ => rfl) nofun ?_; refine oA rfl rfl ?_; refine oN ?_; refine kR ?_; refine oM rfl rfl ?_; refine oM rfl rfl ?_
      refine OkO.split (d := 33) rfl (fun g2 => ?_) (fun g2 => ?_)
      · refine oK rfl ?_
        refine oK rfl ?_; refine oK rfl ?_; refine oK rfl ?_; refine OkO.pick (b := true) rfl rfl (fun _ => rfl) nofun ?_; refine oA rfl rfl ?_; refine oN ?_
        refine ⟨es.length - (done ++ [e9]).length, by have := hI.lt_len he9; simp only [List.length_append, List.length_singleton]; omega, done ++ [e9], rfl, hI2.to (by simp (disch := first | omega | (simp only [hNw, hPt]; omega)) only [gN]) (by simp (disch := first | omega | (simp only [hNw, hPt]; omega)) only [gN]), ?_, rfl, (by (try dsimp only); repeat (first | (first | exact hgQ | exact hG) | apply Grow.new | (refine Grow.put ?_ _ (by first | omega | (simp only [hNw, hPt]; omega))))), by simp only [hNw, hPt]; omega⟩
        rw [List.any_append, List.any_append, List.any_cons, List.any_cons, List.any_nil, List.any_nil, Bool.or_false, Bool.or_false, eL1, eL2]
        first | (rw [g1, g2, Bool.true_or, Bool.true_or]; exact Has.of (by kernel_rfl)) | (rw [g1, g2, Bool.true_or, Bool.false_or]; exact Has.of (by kernel_rfl)) | (rw [g1, g2, Bool.false_or, Bool.true_or]; exact Has.of (by kernel_rfl)) | (rw [g1, g2, Bool.false_or, Bool.false_or]; exact Has.of (by kernel_rfl)) | (rw [g1, g3, Bool.true_or, Bool.true_or]; exact Has.of (by kernel_rfl)) | (rw [g1, g3, Bool.true_or, Bool.false_or]; exact Has.of (by kernel_rfl)) | (rw [g1, g3, Bool.false_or, Bool.true_or]; exact Has.of (by kernel_rfl)) | (rw [g1, g3, Bool.false_or, Bool.false_or]; exact Has.of (by kernel_rfl))
      · refine oM rfl rfl ?_
        refine oF (o := 1) rfl (by kernel_rfl) rfl ?_; refine oL rfl rfl (qla3 1) ?_; refine OkO.bin rfl rfl rfl (bin_gtr _ _) ?_; refine OkO.pick (b := false) rfl rfl nofun (fun _ => rfl) ?_; refine oA rfl rfl ?_; refine oN ?_
        refine ⟨es.length - (done ++ [e9]).length, by have := hI.lt_len he9; simp only [List.length_append, List.length_singleton]; omega, done ++ [e9], rfl, hI2.to (by simp (disch := first | omega | (simp only [hNw, hPt]; omega)) only [gN]) (by simp (disch := first | omega | (simp only [hNw, hPt]; omega)) only [gN]), ?_, rfl, (by (try dsimp only); repeat (first | (first | exact hgQ | exact hG) | apply Grow.new | (refine Grow.put ?_ _ (by first | omega | (simp only [hNw, hPt]; omega))))), by simp only [hNw, hPt]; omega⟩
        rw [List.any_append, List.any_append, List.any_cons, List.any_cons, List.any_nil, List.any_nil, Bool.or_false, Bool.or_false, eL1, eL2]
        first | (rw [g1, g2, Bool.true_or, Bool.true_or]; exact Has.of (by kernel_rfl)) | (rw [g1, g2, Bool.true_or, Bool.false_or]; exact Has.of (by kernel_rfl)) | (rw [g1, g2, Bool.false_or, Bool.true_or]; exact Has.of (by kernel_rfl)) | (rw [g1, g2, Bool.false_or, Bool.false_or]; exact Has.of (by kernel_rfl)) | (rw [g1, g3, Bool.true_or, Bool.true_or]; exact Has.of (by kernel_rfl)) | (rw [g1, g3, Bool.true_or, Bool.false_or]; exact Has.of (by kernel_rfl)) | (rw [g1, g3, Bool.false_or, Bool.true_or]; exact Has.of (by kernel_rfl)) | (rw [g1, g3, Bool.false_or, Bool.false_or]; exact Has.of (by kernel_rfl))
    · refine oM rfl rfl ?_
      refine oF (o := 0) rfl (by kernel_rfl) rfl ?_; refine oL rfl rfl (qla3 1) ?_; refine OkO.bin rfl rfl rfl (bin_lss _ _) ?_; refine OkO.pick (b := false) rfl rfl nofun (fun _ => rfl) ?_; refine oA rfl rfl ?_; refine oN ?_; refine kR ?_; refine oM rfl rfl ?_; refine oM rfl rfl ?_
      refine OkO.split (d := 33) rfl (fun g3 => ?_) (fun g3 => ?_)
      · refine oK rfl ?_
        refine oK rfl ?_; refine oK rfl ?_; refine oK rfl ?_; refine OkO.pick (b := true) rfl rfl (fun _ => rfl) nofun ?_; refine oA rfl rfl ?_; refine oN ?_
        refine ⟨es.length - (done ++ [e9]).length, by have := hI.lt_len he9; simp only [List.length_append, List.length_singleton]; omega, done ++ [e9], rfl, hI2.to (by simp (disch := first | omega | (simp only [hNw, hPt]; omega)) only [gN]) (by simp (disch := first | omega | (simp only [hNw, hPt]; omega)) only [gN]), ?_, rfl, (by (try dsimp only); repeat (first | (first | exact hgQ | exact hG) | apply Grow.new | (refine Grow.put ?_ _ (by first | omega | (simp only [hNw, hPt]; omega))))), by simp only [hNw, hPt]; omega⟩
        rw [List.any_append, List.any_append, List.any_cons, List.any_cons, List.any_nil, List.any_nil, Bool.or_false, Bool.or_false, eL1, eL2]
        first | (rw [g1, g2, Bool.true_or, Bool.true_or]; exact Has.of (by kernel_rfl)) | (rw [g1, g2, Bool.true_or, Bool.false_or]; exact Has.of (by kernel_rfl)) | (rw [g1, g2, Bool.false_or, Bool.true_or]; exact Has.of (by kernel_rfl)) | (rw [g1, g2, Bool.false_or, Bool.false_or]; exact Has.of (by kernel_rfl)) | (rw [g1, g3, Bool.true_or, Bool.true_or]; exact Has.of (by kernel_rfl)) | (rw [g1, g3, Bool.true_or, Bool.false_or]; exact Has.of (by kernel_rfl)) | (rw [g1, g3, Bool.false_or, Bool.true_or]; exact Has.of (by kernel_rfl)) | (rw [g1, g3, Bool.false_or, Bool.false_or]; exact Has.of (by kernel_rfl))
      · refine oM rfl rfl ?_
        refine oF (o := 1) rfl (by kernel_rfl) rfl ?_; refine oL rfl rfl (qla3 1) ?_; refine OkO.bin rfl rfl rfl (bin_gtr _ _) ?_; refine OkO.pick (b := false) rfl rfl nofun (fun _ => rfl) ?_; refine oA rfl rfl ?_; refine oN ?_
        refine ⟨es.length - (done ++ [e9]).length, by have := hI.lt_len he9; simp only [List.length_append, List.length_singleton]; omega, done ++ [e9], rfl, hI2.to (by simp (disch := first | omega | (simp only [hNw, hPt]; omega)) only [gN]) (by simp (disch := first | omega | (simp only [hNw, hPt]; omega)) only [gN]), ?_, rfl, (by (try dsimp only); repeat (first | (first | exact hgQ | exact hG) | apply Grow.new | (refine Grow.put ?_ _ (by first | omega | (simp only [hNw, hPt]; omega))))), by simp only [hNw, hPt]; omega⟩
        rw [List.any_append, List.any_append, List.any_cons, List.any_cons, List.any_nil, List.any_nil, Bool.or_false, Bool.or_false, eL1, eL2]
        first | (rw [g1, g2, Bool.true_or, Bool.true_or]; exact Has.of (by kernel_rfl)) | (rw [g1, g2, Bool.true_or, Bool.false_or]; exact Has.of (by kernel_rfl)) | (rw [g1, g2, Bool.false_or, Bool.true_or]; exact Has.of (by kernel_rfl)) | (rw [g1, g2, Bool.false_or, Bool.false_or]; exact Has.of (by kernel_rfl)) | (rw [g1, g3, Bool.true_or, Bool.true_or]; exact Has.of (by kernel_rfl)) | (rw [g1, g3, Bool.true_or, Bool.false_or]; exact Has.of (by kernel_rfl)) | (rw [g1, g3, Bool.false_or, Bool.true_or]; exact Has.of (by kernel_rfl)) | (rw [g1, g3, Bool.false_or, Bool.false_or]; exact Has.of (by kernel_rfl))
end
end Go.EvN

set_option maxRecDepth 100000
set_option linter.unusedSimpArgs false
set_option linter.unusedVariables false
namespace Go.Ev
open Go Go.Proofs
noncomputable section
/-- A level, by a soak. -/
def lvS (cs : List Cell) (g : Gr) (ds : List Day) (s d c : Int) : Int := (levP cs g ds ⟨g.slo, s⟩ (lowL cs) (lowR ds) (d.toNat + 1)).getD c.toNat 0
def belowB (cs : List Cell) (g : Gr) (ds : List Day) (rs : List Rd) (s : Int) : Bool := rs.any fun x => decide (lvS cs g ds s x.day x.cell < x.lo)
def aboveB (cs : List Cell) (g : Gr) (ds : List Day) (rs : List Rd) (s : Int) : Bool := rs.any fun x => decide (x.hi < lvS cs g ds s x.day x.cell)
theorem c94 (m : Nat) (cv dv lv rv : AV) (cs : List Cell) (g : Gr) (ds : List Day) (t : Tru) (s : Int) (lvs rain : List Int) (H : Heap) (hR : Row H cv 7 (cs.map Cell.c)) (hD : Row H dv 3 (ds.map Day.c)) (hL : Ints H lv lvs) (hA : Ints H rv rain) (hF : Fit cs g ds ⟨t.snow, s⟩ lvs rain) : ∃ v H', RR (m + 6) (.fn 94 [.agg [cv, I g.slo, I g.shi, I g.klo, I g.khi, I g.melt, dv, I t.snow, I t.soak, lv, rv], I s]) H = some (v, H') ∧ Ret H H' ∧ Row H' v 10 ((List.range ds.length).map (evC cs g ds ⟨t.snow, s⟩ lvs rain)) := by
  show ∃ v H', evFn Try.prog (RR (m + 5)) 94 [.agg [cv, I g.slo, I g.shi, I g.klo, I g.khi, I g.melt, dv, I t.snow, I t.soak, lv, rv], I s] H = some (v, H') ∧ Ret H H' ∧ Row H' v 10 ((List.range ds.length).map (evC cs g ds ⟨t.snow, s⟩ lvs rain))
  refine fn_okE Try.func94 rfl rfl (by kernel_rfl) (by kernel_rfl) ?_
  obtain ⟨W, hW, hg, hN, hE, hG⟩ := wOf H
  rw [← hW]
  have hlc : lenOf cv = some cs.length := by simpa using hR.len
  have pc := lpl hlc
  have hld : lenOf dv = some ds.length := by simpa using hD.len
  have pd := lpl hld
  have plv := lpl hL.len
  have prv := lpl hA.len
  refine kS ?_; refine kR ?_; refine OkO.box rfl rfl ?_; refine oA rfl rfl ?_; refine oN ?_; refine kS ?_; refine kR ?_; refine oM rfl rfl ?_; refine oF (o := 7) rfl (by kernel_rfl) rfl ?_; refine oF (o := 1) rfl (by kernel_rfl) rfl ?_; refine oT rfl rfl rfl (sAc (n := 1) (ag := false) (by kernel_rfl) (by first | assumption | (simp (disch := first | omega | (simp only [hNw, hPt]; omega)) only [gN] <;> first | rfl | assumption | exact gp0 _ _ _ | exact gn0 _ _)) rfl (by first | rfl | assumption) (by first | rfl | exact spl_set _ _ _ (by first | assumption | omega | (simp; omega)))) ?_; refine oN ?_; refine kS ?_; refine kR ?_; refine oL rfl rfl (qlg4 11) ?_; refine oE rfl rfl rfl rfl rfl (c54 m cv dv lv rv cs g ds ⟨t.snow, s⟩ lvs rain _ (hR.ext (hE _ (by (try dsimp only); repeat (first | exact hG | apply Grow.new | (refine Grow.put ?_ _ (by first | omega | (simp only [hNw, hPt]; omega))))))) (hD.ext (hE _ (by (try dsimp only); repeat (first | exact hG | apply Grow.new | (refine Grow.put ?_ _ (by first | omega | (simp only [hNw, hPt]; omega))))))) (hL.ext (hE _ (by (try dsimp only); repeat (first | exact hG | apply Grow.new | (refine Grow.put ?_ _ (by first | omega | (simp only [hNw, hPt]; omega))))))) (hA.ext (hE _ (by (try dsimp only); repeat (first | exact hG | apply Grow.new | (refine Grow.put ?_ _ (by first | omega | (simp only [hNw, hPt]; omega))))))) hF) ?_
  rintro v54 H54 ⟨q54, r54, c54⟩
  have g54 : Grow W H54 := Grow.ret (by (try dsimp only); repeat (first | exact hG | apply Grow.new | (refine Grow.put ?_ _ (by first | omega | (simp only [hNw, hPt]; omega))))) q54
  refine oA rfl rfl ?_; refine oN ?_
  refine Ok.ret ⟨.inr rfl, ?_⟩
  exact back_newA (resV_tmp rfl resV_nil) rfl (by rw [← hW]; exact g54) (fun H2 p1 p2 => ⟨p1, backRow c54 r54 p2⟩)
theorem fit_soak {cs : List Cell} {g : Gr} {ds : List Day} {s : Int} (hd0 : daysErr cs g ds = 0) (hs : g.klo ≤ s ∧ s ≤ g.khi) : Fit cs g ds ⟨g.slo, s⟩ (lowL cs) (lowR ds) := by
  have hg := gf_of hd0
  have h1 := hg.snow
  have h2 := hg.soak
  refine fit_of (any_ok hd0 (by dsimp only; omega) (by dsimp only; omega) (by simp [lowL]) (by simp [lowR]) (fun i x n a1 a2 => ?_) (fun i x n a1 a2 => ?_))
  · simp only [lowL, List.getElem?_map, a1, Option.map_some, Option.some.injEq] at a2
    have := hg.lim x (List.mem_of_getElem? a1); unfold Cell.lim at this; omega
  · simp only [lowR, List.getElem?_map, a1, Option.map_some, Option.some.injEq] at a2
    have := hg.dlim x (List.mem_of_getElem? a1); unfold Day.lim at this; omega
theorem rd_in {cs : List Cell} {ds : List Day} {x : Rd} (h : x.ok cs ds = true) (h8 : cs.length ≤ 8) : 0 ≤ x.day ∧ x.day < ds.length ∧ 0 ≤ x.cell ∧ x.cell < 8 := by
  simp [Rd.ok, inB] at h
  omega
end
end Go.Ev

