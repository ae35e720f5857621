/-
  Functions of the program, reckoned by the evaluator: what each answers, and that it leaves what came in as it was.
-/
import Derived.Test.YtfhomicfhgiidaaPt27
set_option maxRecDepth 100000
set_option linter.unusedSimpArgs false
set_option linter.unusedVariables false
namespace Go.Ev
open Go Go.Proofs
noncomputable section
theorem r100 (m N Pb : Nat) (cv tv : AV) (fa cost : Int) (A B : Nat → Int) (r L c k n j : Nat) (T0 : Tr AV) (W G : Heap) (hN : W.next = N) (hNP : N + 6 ≤ Pb) (hH : Has 7 [(4, .ptr N 0), (5, .ptr (N + 1) 0), (6, .ptr (N + 2) 0), (7, .ptr (N + 3) 0), (9, .ptr (N + 4) 0), (10, .ptr (N + 5) 0)] T0) (hJ : MoJ W N Pb cv tv fa cost A B r L c k n T0 j G) (hlo : N ≤ G.lo)
    (hA : 0 < r → ∃ tl, TabAt W tv (r - 1) c tl ∧ ∀ i, i < n → tl[i]? = some (A i)) (hB : r + 1 = L → ∃ tl, TabAt W tv r c tl ∧ ∀ i, i < n → tl[i]? = some (B i)) (hcb : -10000000000 ≤ cost ∧ cost ≤ 10000000000) (hAb : ∀ i, -10000000000000000 ≤ A i ∧ A i ≤ 10000000000000000) (hBb : ∀ i, -10000000000000000 ≤ B i ∧ B i ≤ 10000000000000000) (hr9 : r ≤ 100) (hL9 : 1 ≤ L ∧ L ≤ 100) (hc9 : c ≤ 1000) (hk9 : k ≤ 1000) (hjk : k - 1 ≤ j) (hjn : j < n) (hj1 : j ≤ k + 1) (hj2 : k ≤ j + 1) :
    ∃ v H', RR (m + 1) (.round (Pb + 3) [I (j : Int)]) G = some (v, H') ∧ v = .bool true ∧ MoJ W N Pb cv tv fa cost A B r L c k n T0 (j + 1) H' ∧ N ≤ H'.lo ∧ H'.lo ≤ Pb + 3 ∧ G.next ≤ H'.next := by
  show ∃ v H', evRound Try.prog (RR m) (Pb + 3) [I (j : Int)] G = some (v, H') ∧ v = .bool true ∧ MoJ W N Pb cv tv fa cost A B r L c k n T0 (j + 1) H' ∧ N ≤ H'.lo ∧ H'.lo ≤ Pb + 3 ∧ G.next ≤ H'.next
  subst hN
  obtain ⟨fr, hT⟩ := hH
  subst hT
  obtain ⟨N, hN⟩ : ∃ N, N = W.next := ⟨_, rfl⟩
  rw [← hN] at hJ hlo hNP ⊢
  have hg : Grow W G := ⟨hJ.ext.next, hJ.ext.get, by omega⟩
  have hn9 := hJ.nx
  have hAj := hAb j
  have hBj := hBb j
  have hnx : Nxt n k j := ⟨hjn, hj1, hj2⟩
  have b0w := hJ.b0
  have b1w := hJ.b1
  have b2w := hJ.b2
  have b3w := hJ.b3
  have b4w := hJ.b4
  obtain ⟨lv, l, b5w, hm, hlim, hll⟩ := hJ.b5
  have p0w := hJ.p0
  have p1w := hJ.p1
  have p2w := hJ.p2
  have p3w := hJ.p3
  obtain ⟨ml, hlv, _⟩ := hm.len
  have on1 := hm.one
  refine round_okX p3w rfl ?_
  refine Ok.region ?_
  refine OkO.assign rfl rfl ?_
  refine OkO.nil ?_
  refine ⟨rfl, _, _, _, _, _, _, p3w, ?_⟩
  obtain ⟨G9, hG9⟩ : ∃ G9, G9 = G.put (Pb + 3) (.loop .busy none (mkT 7 0 1 (upd fr [(4, .ptr N 0), (5, .ptr (N + 1) 0), (6, .ptr (N + 2) 0), (7, .ptr (N + 3) 0), (9, .ptr (N + 4) 0), (10, .ptr (N + 5) 0)])) [37] as100 bd100 (Pb + 2)) := ⟨_, rfl⟩
  dsimp only
  rw [← hG9]
  have hg9 : Grow W G9 := by rw [hG9]; exact hg.put _ (by omega)
  have hm9 : Mine (N + 6) G9 lv 3 1 (l.map I) := by rw [hG9]; exact hm.putO _ p3w (by intro a b c; simp)
  have n99 : G9.next = G.next := by rw [hG9]; rfl
  have b0v : G9.get (N) = some (.cells [cv, I (L : Int), I fa, .fn 66 [] []] 119) := by rw [hG9]; rw [gpo _ _ _ _ (by omega)]; exact b0w
  have b1v : G9.get (N + 1) = some (.cells [tv] 60) := by rw [hG9]; rw [gpo _ _ _ _ (by omega)]; exact b1w
  have b2v : G9.get (N + 2) = some (.cells [I (r : Int)] 3) := by rw [hG9]; rw [gpo _ _ _ _ (by omega)]; exact b2w
  have b3v : G9.get (N + 3) = some (.cells [I ((c + 1 : Nat) : Int), I (k : Int)] 145) := by rw [hG9]; rw [gpo _ _ _ _ (by omega)]; exact b3w
  have b4v : G9.get (N + 4) = some (.cells [I cost] 3) := by rw [hG9]; rw [gpo _ _ _ _ (by omega)]; exact b4w
  have p0v : G9.get (Pb) = some (.cells [I (k : Int)] 3) := by rw [hG9]; rw [gpo _ _ _ _ (by omega)]; exact p0w
  have p1v : G9.get (Pb + 1) = some (.cells [I (n : Int)] 3) := by rw [hG9]; rw [gpo _ _ _ _ (by omega)]; exact p1w
  have p2v : G9.get (Pb + 2) = some .defd := by rw [hG9]; rw [gpo _ _ _ _ (by omega)]; exact p2w
  have p3v : G9.get (Pb + 3) = some (.loop .busy none (mkT 7 0 1 (upd fr [(4, .ptr N 0), (5, .ptr (N + 1) 0), (6, .ptr (N + 2) 0), (7, .ptr (N + 3) 0), (9, .ptr (N + 4) 0), (10, .ptr (N + 5) 0)])) [37] as100 bd100 (Pb + 2)) := by rw [hG9]; exact gp0 _ _ _
  have b5v : G9.get (N + 5) = some (.cells [lv] 25) := by rw [hG9, gpo _ _ _ _ (by omega)]; exact b5w
  have eb5v : (G9.get (N + 5)).bind AObj.cs = some [lv] := by rw [b5v]; rfl
  have eb0v : (G9.get (N)).bind AObj.cs = some [cv, I (L : Int), I fa, .fn 66 [] []] := by rw [b0v]; rfl
  have eb1v : (G9.get (N + 1)).bind AObj.cs = some [tv] := by rw [b1v]; rfl
  have eb2v : (G9.get (N + 2)).bind AObj.cs = some [I (r : Int)] := by rw [b2v]; rfl
  have eb3v : (G9.get (N + 3)).bind AObj.cs = some [I ((c + 1 : Nat) : Int), I (k : Int)] := by rw [b3v]; rfl
  have eb4v : (G9.get (N + 4)).bind AObj.cs = some [I cost] := by rw [b4v]; rfl
  refine Ok.block ?_
  refine Ok.seq ?_
  refine Ok.seq ?_
  refine Ok.region ?_
  refine OkO.load rfl rfl (lda (n := 1) (by kernel_rfl) (by first | assumption | (simp (disch := first | omega | (simp only [hNw, hPt]; omega)) only [gN] <;> first | rfl | assumption | exact gp0 _ _ _ | exact gn0 _ _)) (by first | rfl | assumption)) ?_
  refine OkO.bin rfl rfl rfl (bin_gtr _ _) ?_
  refine OkO.nil ?_
  refine Ok.cond rfl (fun h1 => ?_) (fun h1 => ?_)
  · -- yes h1
    have hr0 : 0 < r := by simpa using h1
    obtain ⟨tl, htb, htl⟩ := hA hr0
    obtain ⟨rows, rv, cs, cvv, t1, t2, t3, t4, t5⟩ := htb
    obtain ⟨ab, ao, acs, a1, a2, a3, a4⟩ := t1.at_ (r - 1) [rv] (by rw [List.getElem?_map, t2]; rfl)
    have a5 := seg_one a3
    obtain ⟨ib, io, ics, i1, i2, i3, i4⟩ := t3.at_ c [cvv] (by rw [List.getElem?_map, t4]; rfl)
    have i5 := seg_one i3
    obtain ⟨kb, ko, kcs, k1, k2, k3, k4⟩ := t5.at_ j [I (A j)] (by rw [List.getElem?_map, htl j hjn]; rfl)
    have k5 := seg_one k3
    have a6 : (G9.get ab).bind AObj.cs = some acs := by rw [hg9.get _ a4]; exact a2
    have i6 : (G9.get ib).bind AObj.cs = some ics := by rw [hg9.get _ i4]; exact i2
    have k6 : (G9.get kb).bind AObj.cs = some kcs := by rw [hg9.get _ k4]; exact k2
    have tl1 := t1.len
    have tl3 := t3.len
    have tl5 := t5.len
    clear t1 t3 t5
    refine Ok.drawn [(0, true, []), (1, true, []), (2, true, []), (3, true, []), (4, true, []), (5, true, []), (6, true, []), (7, true, []), (8, true, []), (9, true, []), (10, true, []), (11, true, []), (12, true, []), (13, true, []), (14, true, []), (15, true, []), (16, true, [14, 11, 8, 6, 3, 2, 1, 0]), (17, false, [14, 11, 8, 6, 3, 2, 1]), (18, false, [])] (by kernel_rfl) ?_
    refine OkP.step ?_
    refine OkO.load rfl rfl (lda (n := 1) (by kernel_rfl) (by first | assumption | (simp (disch := first | omega | (simp only [hNw, hPt]; omega)) only [gN] <;> first | rfl | assumption | exact gp0 _ _ _ | exact gn0 _ _)) (by first | rfl | assumption)) ?_
    refine OkO.nil ⟨rfl, ?_⟩
    refine OkP.step ?_
    refine OkO.load rfl rfl (lda (n := 1) (by kernel_rfl) (by first | assumption | (simp (disch := first | omega | (simp only [hNw, hPt]; omega)) only [gN] <;> first | rfl | assumption | exact gp0 _ _ _ | exact gn0 _ _)) (by first | rfl | assumption)) ?_
    refine OkO.nil ⟨rfl, ?_⟩
    refine OkP.step ?_
    refine OkO.load rfl rfl (lda (n := 1) (by kernel_rfl) (by first | assumption | (simp (disch := first | omega | (simp only [hNw, hPt]; omega)) only [gN] <;> first | rfl | assumption | exact gp0 _ _ _ | exact gn0 _ _)) (by first | rfl | assumption)) ?_
    refine OkO.nil ⟨rfl, ?_⟩
    refine OkP.step ?_
    refine OkO.load rfl rfl (lda (n := 1) (by kernel_rfl) (by first | assumption | (simp (disch := first | omega | (simp only [hNw, hPt]; omega)) only [gN] <;> first | rfl | assumption | exact gp0 _ _ _ | exact gn0 _ _)) (by first | rfl | assumption)) ?_
    refine OkO.nil ⟨rfl, ?_⟩
    refine OkP.step ?_
    refine OkO.bin rfl rfl rfl (bin_sub (by omega) (by omega)) ?_
    refine OkO.nil ⟨rfl, ?_⟩
    refine OkP.step ?_
    refine OkO.index (sz := 1) (n := r - 1) rfl rfl (congrArg (fun z => some (I z)) (by omega)) (by kernel_rfl) (by first | assumption | rfl | exact slAt_slice (by omega) | exact slAt_opn (by omega)) ?_
    refine OkO.nil ⟨rfl, ?_⟩
    refine OkP.step ?_
    refine OkO.load rfl rfl (lda (n := 1) (by kernel_rfl) (by first | assumption | (simp (disch := first | omega | (simp only [hNw, hPt]; omega)) only [gN] <;> first | rfl | assumption | exact gp0 _ _ _ | exact gn0 _ _)) (by first | rfl | assumption)) ?_
    refine OkO.nil ⟨rfl, ?_⟩
    refine OkP.step ?_
    refine OkO.fieldAddr (o := 0) rfl (by kernel_rfl) rfl ?_
    refine OkO.nil ⟨rfl, ?_⟩
    refine OkP.step ?_
    refine OkO.load rfl rfl (lda (n := 1) (by kernel_rfl) (by first | assumption | (simp (disch := first | omega | (simp only [hNw, hPt]; omega)) only [gN] <;> first | rfl | assumption | exact gp0 _ _ _ | exact gn0 _ _)) (by first | rfl | assumption)) ?_
    refine OkO.nil ⟨rfl, ?_⟩
    refine OkP.step ?_
    refine OkO.bin rfl rfl rfl (bin_sub (by omega) (by omega)) ?_
    refine OkO.nil ⟨rfl, ?_⟩
    refine OkP.step ?_
    refine OkO.index (sz := 1) (n := c) rfl rfl (congrArg (fun z => some (I z)) (by omega)) (by kernel_rfl) (by first | assumption | rfl | exact slAt_slice (by omega) | exact slAt_opn (by omega)) ?_
    refine OkO.nil ⟨rfl, ?_⟩
    refine OkP.step ?_
    refine OkO.load rfl rfl (lda (n := 1) (by kernel_rfl) (by first | assumption | (simp (disch := first | omega | (simp only [hNw, hPt]; omega)) only [gN] <;> first | rfl | assumption | exact gp0 _ _ _ | exact gn0 _ _)) (by first | rfl | assumption)) ?_
    refine OkO.nil ⟨rfl, ?_⟩
    refine OkP.step ?_
    refine OkO.move rfl rfl ?_
    refine OkO.nil ⟨rfl, ?_⟩
    refine OkP.step ?_
    refine OkO.index (sz := 1) (n := j) rfl rfl rfl (by kernel_rfl) (by first | assumption | rfl | exact slAt_slice (by omega) | exact slAt_opn (by omega)) ?_
    refine OkO.nil ⟨rfl, ?_⟩
    refine OkP.step ?_
    refine OkO.load rfl rfl (lda (n := 1) (by kernel_rfl) (by first | assumption | (simp (disch := first | omega | (simp only [hNw, hPt]; omega)) only [gN] <;> first | rfl | assumption | exact gp0 _ _ _ | exact gn0 _ _)) (by first | rfl | assumption)) ?_
    refine OkO.nil ⟨rfl, ?_⟩
    refine OkP.step ?_
    refine OkO.bin rfl rfl rfl (bin_add (by omega) (by omega)) ?_
    refine OkO.nil ⟨rfl, ?_⟩
    refine OkP.step ?_
    refine OkO.buildSlice (el := 3) (sz := 1) (z := [.int .i64 0]) rfl (by kernel_rfl) (by decide) rfl rfl ?_
    refine OkO.nil ⟨(sco (sld rfl rfl (lda (n := 1) (by kernel_rfl) (by first | assumption | (simp (disch := first | omega | (simp only [hNw, hPt]; omega)) only [gN] <;> first | rfl | assumption | exact gp0 _ _ _ | exact gn0 _ _)) (by first | rfl | assumption)) rfl (eqr _ (by first | rfl | exact lpl (by assumption) | (simp [AV.plain, AV.plains, AV.cells, AV.plain])))) (sco (sld rfl rfl (lda (n := 1) (by kernel_rfl) (by first | assumption | (simp (disch := first | omega | (simp only [hNw, hPt]; omega)) only [gN] <;> first | rfl | assumption | exact gp0 _ _ _ | exact gn0 _ _)) (by first | rfl | assumption)) rfl (eqr _ (by first | rfl | exact lpl (by assumption) | (simp [AV.plain, AV.plains, AV.cells, AV.plain])))) (sco (sld rfl rfl (lda (n := 1) (by kernel_rfl) (by first | assumption | (simp (disch := first | omega | (simp only [hNw, hPt]; omega)) only [gN] <;> first | rfl | assumption | exact gp0 _ _ _ | exact gn0 _ _)) (by first | rfl | assumption)) rfl (eqr _ (by first | rfl | exact lpl (by assumption) | (simp [AV.plain, AV.plains, AV.cells, AV.plain])))) (sco (sld rfl rfl (lda (n := 1) (by kernel_rfl) (by first | assumption | (simp (disch := first | omega | (simp only [hNw, hPt]; omega)) only [gN] <;> first | rfl | assumption | exact gp0 _ _ _ | exact gn0 _ _)) (by first | rfl | assumption)) rfl (eqr _ (by first | rfl | exact lpl (by assumption) | (simp [AV.plain, AV.plains, AV.cells, AV.plain])))) (sco (sld rfl rfl (lda (n := 1) (by kernel_rfl) (by first | assumption | (simp (disch := first | omega | (simp only [hNw, hPt]; omega)) only [gN] <;> first | rfl | assumption | exact gp0 _ _ _ | exact gn0 _ _)) (by first | rfl | assumption)) rfl (eqr _ (by first | rfl | exact lpl (by assumption) | (simp [AV.plain, AV.plains, AV.cells, AV.plain])))) (sco (sld rfl rfl (lda (n := 1) (by kernel_rfl) (by first | assumption | (simp (disch := first | omega | (simp only [hNw, hPt]; omega)) only [gN] <;> first | rfl | assumption | exact gp0 _ _ _ | exact gn0 _ _)) (by first | rfl | assumption)) rfl (eqr _ (by first | rfl | exact lpl (by assumption) | (simp [AV.plain, AV.plains, AV.cells, AV.plain])))) (sco (sld rfl rfl (lda (n := 1) (by kernel_rfl) (by first | assumption | (simp (disch := first | omega | (simp only [hNw, hPt]; omega)) only [gN] <;> first | rfl | assumption | exact gp0 _ _ _ | exact gn0 _ _)) (by first | rfl | assumption)) rfl (eqr _ (by first | rfl | exact lpl (by assumption) | (simp [AV.plain, AV.plains, AV.cells, AV.plain])))) (sco (sld rfl rfl (lda (n := 1) (by kernel_rfl) (by first | assumption | (simp (disch := first | omega | (simp only [hNw, hPt]; omega)) only [gN] <;> first | rfl | assumption | exact gp0 _ _ _ | exact gn0 _ _)) (by first | rfl | assumption)) rfl (eqr _ (by first | rfl | exact lpl (by assumption) | (simp [AV.plain, AV.plains, AV.cells, AV.plain])))) rfl)))))))), ?_⟩
    refine OkP.step ?_
    refine OkO.builtinE rfl rfl rfl (Mine.app2 (W := W) (k0 := N + 6) (t := 25) (u := 25) (sz := 1) (by_ := 8) (e := 3) (n := 1) (new := [I (cost + A j)]) (Mine.to (hm9) (by (try dsimp only); repeat (first | exact Ext.refl _ | apply Ext.new | (refine Ext.put ?_ _ (by first | omega | (simp only [hNw, hPt]; omega)))))) (by (try dsimp only); repeat (first | exact hg9 | exact q2 | exact s2 | apply Grow.new | (refine Grow.put ?_ _ (by first | omega | (simp only [hNw, hPt]; omega))))) (by omega) (by first | omega | (simp only [hNw, hPt]; omega)) (by kernel_rfl) (by kernel_rfl) (elems_new (n := 1) (sz := 1) rfl) rfl rfl (by simp only [List.length_map, List.length_append, List.length_cons, List.length_nil]; omega) (by omega) (by omega) rfl) ?_
    rintro v2 G2 ⟨q1, q2, _, q4, q3, ⟨mv2, hv2⟩⟩
    obtain ⟨bk2, hbk2⟩ : ∃ bk, v2 = .opn bk mv2 := ⟨_, hv2⟩
    subst hbk2
    clear hv2
    simp only [hNw, hPt] at q3
    have b0x : G2.get (N) = some (.cells [cv, I (L : Int), I fa, .fn 66 [] []] 119) := by rw [q4 _ (by first | omega | (simp only [hNw, hPt]; omega)) (hm9.ne b0v (by intro a b c; simp)), gno _ _ _ (by first | omega | (simp only [hNw, hPt]; omega))]; exact b0v
    have b1x : G2.get (N + 1) = some (.cells [tv] 60) := by rw [q4 _ (by first | omega | (simp only [hNw, hPt]; omega)) (hm9.ne b1v (by intro a b c; simp)), gno _ _ _ (by first | omega | (simp only [hNw, hPt]; omega))]; exact b1v
    have b2x : G2.get (N + 2) = some (.cells [I (r : Int)] 3) := by rw [q4 _ (by first | omega | (simp only [hNw, hPt]; omega)) (hm9.ne b2v (by intro a b c; simp)), gno _ _ _ (by first | omega | (simp only [hNw, hPt]; omega))]; exact b2v
    have b3x : G2.get (N + 3) = some (.cells [I ((c + 1 : Nat) : Int), I (k : Int)] 145) := by rw [q4 _ (by first | omega | (simp only [hNw, hPt]; omega)) (hm9.ne b3v (by intro a b c; simp)), gno _ _ _ (by first | omega | (simp only [hNw, hPt]; omega))]; exact b3v
    have b4x : G2.get (N + 4) = some (.cells [I cost] 3) := by rw [q4 _ (by first | omega | (simp only [hNw, hPt]; omega)) (hm9.ne b4v (by intro a b c; simp)), gno _ _ _ (by first | omega | (simp only [hNw, hPt]; omega))]; exact b4v
    have p0x : G2.get (Pb) = some (.cells [I (k : Int)] 3) := by rw [q4 _ (by first | omega | (simp only [hNw, hPt]; omega)) (hm9.ne p0v (by intro a b c; simp)), gno _ _ _ (by first | omega | (simp only [hNw, hPt]; omega))]; exact p0v
    have p1x : G2.get (Pb + 1) = some (.cells [I (n : Int)] 3) := by rw [q4 _ (by first | omega | (simp only [hNw, hPt]; omega)) (hm9.ne p1v (by intro a b c; simp)), gno _ _ _ (by first | omega | (simp only [hNw, hPt]; omega))]; exact p1v
    have p2x : G2.get (Pb + 2) = some .defd := by rw [q4 _ (by first | omega | (simp only [hNw, hPt]; omega)) (hm9.ne p2v (by intro a b c; simp)), gno _ _ _ (by first | omega | (simp only [hNw, hPt]; omega))]; exact p2v
    have p3x : G2.get (Pb + 3) = some (.loop .busy none (mkT 7 0 1 (upd fr [(4, .ptr N 0), (5, .ptr (N + 1) 0), (6, .ptr (N + 2) 0), (7, .ptr (N + 3) 0), (9, .ptr (N + 4) 0), (10, .ptr (N + 5) 0)])) [37] as100 bd100 (Pb + 2)) := by rw [q4 _ (by first | omega | (simp only [hNw, hPt]; omega)) (hm9.ne p3v (by intro a b c; simp)), gno _ _ _ (by first | omega | (simp only [hNw, hPt]; omega))]; exact p3v
    have eb0x : (G2.get (N)).bind AObj.cs = some [cv, I (L : Int), I fa, .fn 66 [] []] := by rw [b0x]; rfl
    have eb1x : (G2.get (N + 1)).bind AObj.cs = some [tv] := by rw [b1x]; rfl
    have eb2x : (G2.get (N + 2)).bind AObj.cs = some [I (r : Int)] := by rw [b2x]; rfl
    have eb3x : (G2.get (N + 3)).bind AObj.cs = some [I ((c + 1 : Nat) : Int), I (k : Int)] := by rw [b3x]; rfl
    have eb4x : (G2.get (N + 4)).bind AObj.cs = some [I cost] := by rw [b4x]; rfl
    have b5x : G2.get (N + 5) = some (.cells [lv] 25) := by rw [q4 _ (by first | omega | (simp only [hNw, hPt]; omega)) (hm9.far (by omega)), gno _ _ _ (by first | omega | (simp only [hNw, hPt]; omega))]; exact b5v
    have eb5x : (G2.get (N + 5)).bind AObj.cs = some [lv] := by rw [b5x]; rfl
    obtain ⟨ml2, hl2, _⟩ := q1.len
    have a7x : (G2.get ab).bind AObj.cs = some acs := by rw [q2.get _ a4]; exact a2
    have i7x : (G2.get ib).bind AObj.cs = some ics := by rw [q2.get _ i4]; exact i2
    have k7x : (G2.get kb).bind AObj.cs = some kcs := by rw [q2.get _ k4]; exact k2
    refine OkO.nil ⟨(sco (sld rfl rfl (lda (n := 1) (by kernel_rfl) (by first | assumption | (simp (disch := first | omega | (simp only [hNw, hPt]; omega)) only [gN] <;> first | rfl | assumption | exact gp0 _ _ _ | exact gn0 _ _)) (by first | rfl | assumption)) rfl (eqr _ (by first | rfl | exact lpl (by assumption) | (simp [AV.plain, AV.plains, AV.cells, AV.plain])))) (sco (sld rfl rfl (lda (n := 1) (by kernel_rfl) (by first | assumption | (simp (disch := first | omega | (simp only [hNw, hPt]; omega)) only [gN] <;> first | rfl | assumption | exact gp0 _ _ _ | exact gn0 _ _)) (by first | rfl | assumption)) rfl (eqr _ (by first | rfl | exact lpl (by assumption) | (simp [AV.plain, AV.plains, AV.cells, AV.plain])))) (sco (sld rfl rfl (lda (n := 1) (by kernel_rfl) (by first | assumption | (simp (disch := first | omega | (simp only [hNw, hPt]; omega)) only [gN] <;> first | rfl | assumption | exact gp0 _ _ _ | exact gn0 _ _)) (by first | rfl | assumption)) rfl (eqr _ (by first | rfl | exact lpl (by assumption) | (simp [AV.plain, AV.plains, AV.cells, AV.plain])))) (sco (sld rfl rfl (lda (n := 1) (by kernel_rfl) (by first | assumption | (simp (disch := first | omega | (simp only [hNw, hPt]; omega)) only [gN] <;> first | rfl | assumption | exact gp0 _ _ _ | exact gn0 _ _)) (by first | rfl | assumption)) rfl (eqr _ (by first | rfl | exact lpl (by assumption) | (simp [AV.plain, AV.plains, AV.cells, AV.plain])))) (sco (sld rfl rfl (lda (n := 1) (by kernel_rfl) (by first | assumption | (simp (disch := first | omega | (simp only [hNw, hPt]; omega)) only [gN] <;> first | rfl | assumption | exact gp0 _ _ _ | exact gn0 _ _)) (by first | rfl | assumption)) rfl (eqr _ (by first | rfl | exact lpl (by assumption) | (simp [AV.plain, AV.plains, AV.cells, AV.plain])))) (sco (sld rfl rfl (lda (n := 1) (by kernel_rfl) (by first | assumption | (simp (disch := first | omega | (simp only [hNw, hPt]; omega)) only [gN] <;> first | rfl | assumption | exact gp0 _ _ _ | exact gn0 _ _)) (by first | rfl | assumption)) rfl (eqr _ (by first | rfl | exact lpl (by assumption) | (simp [AV.plain, AV.plains, AV.cells, AV.plain])))) (sco (sld rfl rfl (lda (n := 1) (by kernel_rfl) (by first | assumption | (simp (disch := first | omega | (simp only [hNw, hPt]; omega)) only [gN] <;> first | rfl | assumption | exact gp0 _ _ _ | exact gn0 _ _)) (by first | rfl | assumption)) rfl (eqr _ (by first | rfl | exact lpl (by assumption) | (simp [AV.plain, AV.plains, AV.cells, AV.plain])))) rfl))))))), ?_⟩
    refine OkP.step ?_
    refine OkO.store rfl rfl rfl (sAc (n := 1) (ag := false) (by kernel_rfl) (by first | assumption | (simp (disch := first | omega | (simp only [hNw, hPt]; omega)) only [gN] <;> first | rfl | assumption | exact gp0 _ _ _ | exact gn0 _ _)) rfl (by first | rfl | assumption) (by first | rfl | exact spl_set _ _ _ (by first | assumption | omega | (simp; omega)))) ?_
    refine OkO.nil ⟨rfl, ?_⟩
    refine OkP.nil ?_
    refine Ok.seq ?_
    refine Ok.region ?_
    refine OkO.load rfl rfl (lda (n := 1) (by kernel_rfl) (by first | assumption | (simp (disch := first | omega | (simp only [hNw, hPt]; omega)) only [gN] <;> first | rfl | assumption | exact gp0 _ _ _ | exact gn0 _ _)) (by first | rfl | assumption)) ?_
    refine OkO.fieldAddr (o := 0) rfl (by kernel_rfl) rfl ?_
    refine OkO.fieldAddr (o := 1) rfl (by kernel_rfl) rfl ?_
    refine OkO.load rfl rfl (lda (n := 1) (by kernel_rfl) (by first | assumption | (simp (disch := first | omega | (simp only [hNw, hPt]; omega)) only [gN] <;> first | rfl | assumption | exact gp0 _ _ _ | exact gn0 _ _)) (by first | rfl | assumption)) ?_
    refine OkO.bin rfl rfl rfl (bin_sub (by omega) (by omega)) ?_
    refine OkO.bin rfl rfl rfl (bin_eql _ _) ?_
    refine OkO.nil ?_
    refine Ok.cond rfl (fun h2 => ?_) (fun h2 => ?_)
    · -- yes h2
      have hrl : r + 1 = L := by (have h9 : (r : Int) = (L : Int) - 1 := by simpa using h2); omega
      clear a1 a2 a3 a4 a5 a6 i1 i2 i3 i4 i5 i6 k1 k2 k3 k4 k5 k6 a7x i7x k7x
      obtain ⟨tl, htb, htl⟩ := hB hrl
      obtain ⟨rows, rv, cs, cvv, t1, t2, t3, t4, t5⟩ := htb
      obtain ⟨ab, ao, acs, a1, a2, a3, a4⟩ := t1.at_ (r) [rv] (by rw [List.getElem?_map, t2]; rfl)
      have a5 := seg_one a3
      obtain ⟨ib, io, ics, i1, i2, i3, i4⟩ := t3.at_ c [cvv] (by rw [List.getElem?_map, t4]; rfl)
      have i5 := seg_one i3
      obtain ⟨kb, ko, kcs, k1, k2, k3, k4⟩ := t5.at_ j [I (B j)] (by rw [List.getElem?_map, htl j hjn]; rfl)
      have k5 := seg_one k3
      have a6 : (G2.get ab).bind AObj.cs = some acs := by rw [q2.get _ a4]; exact a2
      have i6 : (G2.get ib).bind AObj.cs = some ics := by rw [q2.get _ i4]; exact i2
      have k6 : (G2.get kb).bind AObj.cs = some kcs := by rw [q2.get _ k4]; exact k2
      have tl1 := t1.len
      have tl3 := t3.len
      have tl5 := t5.len
      clear t1 t3 t5
      refine Ok.drawn [(0, true, []), (1, true, []), (2, true, []), (3, true, []), (4, true, []), (5, true, []), (6, true, []), (7, true, []), (8, true, []), (9, true, []), (10, true, []), (11, true, []), (12, true, []), (13, true, []), (14, true, []), (15, true, [13, 10, 7, 5, 3, 2, 1, 0]), (16, false, [13, 10, 7, 5, 3, 2, 1]), (17, false, [])] (by kernel_rfl) ?_
      refine OkP.step ?_
      refine OkO.load rfl rfl (lda (n := 1) (by kernel_rfl) (by first | assumption | (simp (disch := first | omega | (simp only [hNw, hPt]; omega)) only [gN] <;> first | rfl | assumption | exact gp0 _ _ _ | exact gn0 _ _)) (by first | rfl | assumption)) ?_
      refine OkO.nil ⟨rfl, ?_⟩
      refine OkP.step ?_
      refine OkO.load rfl rfl (lda (n := 1) (by kernel_rfl) (by first | assumption | (simp (disch := first | omega | (simp only [hNw, hPt]; omega)) only [gN] <;> first | rfl | assumption | exact gp0 _ _ _ | exact gn0 _ _)) (by first | rfl | assumption)) ?_
      refine OkO.nil ⟨rfl, ?_⟩
      refine OkP.step ?_
      refine OkO.load rfl rfl (lda (n := 1) (by kernel_rfl) (by first | assumption | (simp (disch := first | omega | (simp only [hNw, hPt]; omega)) only [gN] <;> first | rfl | assumption | exact gp0 _ _ _ | exact gn0 _ _)) (by first | rfl | assumption)) ?_
      refine OkO.nil ⟨rfl, ?_⟩
      refine OkP.step ?_
      refine OkO.load rfl rfl (lda (n := 1) (by kernel_rfl) (by first | assumption | (simp (disch := first | omega | (simp only [hNw, hPt]; omega)) only [gN] <;> first | rfl | assumption | exact gp0 _ _ _ | exact gn0 _ _)) (by first | rfl | assumption)) ?_
      refine OkO.nil ⟨rfl, ?_⟩
      refine OkP.step ?_
      refine OkO.index (sz := 1) (n := r) rfl rfl rfl (by kernel_rfl) (by first | assumption | rfl | exact slAt_slice (by omega) | exact slAt_opn (by omega)) ?_
      refine OkO.nil ⟨rfl, ?_⟩
      refine OkP.step ?_
      refine OkO.load rfl rfl (lda (n := 1) (by kernel_rfl) (by first | assumption | (simp (disch := first | omega | (simp only [hNw, hPt]; omega)) only [gN] <;> first | rfl | assumption | exact gp0 _ _ _ | exact gn0 _ _)) (by first | rfl | assumption)) ?_
      refine OkO.nil ⟨rfl, ?_⟩
      refine OkP.step ?_
      refine OkO.fieldAddr (o := 0) rfl (by kernel_rfl) rfl ?_
      refine OkO.nil ⟨rfl, ?_⟩
      refine OkP.step ?_
      refine OkO.load rfl rfl (lda (n := 1) (by kernel_rfl) (by first | assumption | (simp (disch := first | omega | (simp only [hNw, hPt]; omega)) only [gN] <;> first | rfl | assumption | exact gp0 _ _ _ | exact gn0 _ _)) (by first | rfl | assumption)) ?_
      refine OkO.nil ⟨rfl, ?_⟩
      refine OkP.step ?_
      refine OkO.bin rfl rfl rfl (bin_sub (by omega) (by omega)) ?_
      refine OkO.nil ⟨rfl, ?_⟩
      refine OkP.step ?_
      refine OkO.index (sz := 1) (n := c) rfl rfl (congrArg (fun z => some (I z)) (by omega)) (by kernel_rfl) (by first | assumption | rfl | exact slAt_slice (by omega) | exact slAt_opn (by omega)) ?_
      refine OkO.nil ⟨rfl, ?_⟩
      refine OkP.step ?_
      refine OkO.load rfl rfl (lda (n := 1) (by kernel_rfl) (by first | assumption | (simp (disch := first | omega | (simp only [hNw, hPt]; omega)) only [gN] <;> first | rfl | assumption | exact gp0 _ _ _ | exact gn0 _ _)) (by first | rfl | assumption)) ?_
      refine OkO.nil ⟨rfl, ?_⟩
      refine OkP.step ?_
      refine OkO.move rfl rfl ?_
      refine OkO.nil ⟨rfl, ?_⟩
      refine OkP.step ?_
      refine OkO.index (sz := 1) (n := j) rfl rfl rfl (by kernel_rfl) (by first | assumption | rfl | exact slAt_slice (by omega) | exact slAt_opn (by omega)) ?_
      refine OkO.nil ⟨rfl, ?_⟩
      refine OkP.step ?_
      refine OkO.load rfl rfl (lda (n := 1) (by kernel_rfl) (by first | assumption | (simp (disch := first | omega | (simp only [hNw, hPt]; omega)) only [gN] <;> first | rfl | assumption | exact gp0 _ _ _ | exact gn0 _ _)) (by first | rfl | assumption)) ?_
      refine OkO.nil ⟨rfl, ?_⟩
      refine OkP.step ?_
      refine OkO.bin rfl rfl rfl (bin_add (by omega) (by omega)) ?_
      refine OkO.nil ⟨rfl, ?_⟩
      refine OkP.step ?_
      refine OkO.buildSlice (el := 3) (sz := 1) (z := [.int .i64 0]) rfl (by kernel_rfl) (by decide) rfl rfl ?_
      refine OkO.nil ⟨(sco (sld rfl rfl (lda (n := 1) (by kernel_rfl) (by first | assumption | (simp (disch := first | omega | (simp only [hNw, hPt]; omega)) only [gN] <;> first | rfl | assumption | exact gp0 _ _ _ | exact gn0 _ _)) (by first | rfl | assumption)) rfl (eqr _ (by first | rfl | exact lpl (by assumption) | (simp [AV.plain, AV.plains, AV.cells, AV.plain])))) (sco (sld rfl rfl (lda (n := 1) (by kernel_rfl) (by first | assumption | (simp (disch := first | omega | (simp only [hNw, hPt]; omega)) only [gN] <;> first | rfl | assumption | exact gp0 _ _ _ | exact gn0 _ _)) (by first | rfl | assumption)) rfl (eqr _ (by first | rfl | exact lpl (by assumption) | (simp [AV.plain, AV.plains, AV.cells, AV.plain])))) (sco (sld rfl rfl (lda (n := 1) (by kernel_rfl) (by first | assumption | (simp (disch := first | omega | (simp only [hNw, hPt]; omega)) only [gN] <;> first | rfl | assumption | exact gp0 _ _ _ | exact gn0 _ _)) (by first | rfl | assumption)) rfl (eqr _ (by first | rfl | exact lpl (by assumption) | (simp [AV.plain, AV.plains, AV.cells, AV.plain])))) (sco (sld rfl rfl (lda (n := 1) (by kernel_rfl) (by first | assumption | (simp (disch := first | omega | (simp only [hNw, hPt]; omega)) only [gN] <;> first | rfl | assumption | exact gp0 _ _ _ | exact gn0 _ _)) (by first | rfl | assumption)) rfl (eqr _ (by first | rfl | exact lpl (by assumption) | (simp [AV.plain, AV.plains, AV.cells, AV.plain])))) (sco (sld rfl rfl (lda (n := 1) (by kernel_rfl) (by first | assumption | (simp (disch := first | omega | (simp only [hNw, hPt]; omega)) only [gN] <;> first | rfl | assumption | exact gp0 _ _ _ | exact gn0 _ _)) (by first | rfl | assumption)) rfl (eqr _ (by first | rfl | exact lpl (by assumption) | (simp [AV.plain, AV.plains, AV.cells, AV.plain])))) (sco (sld rfl rfl (lda (n := 1) (by kernel_rfl) (by first | assumption | (simp (disch := first | omega | (simp only [hNw, hPt]; omega)) only [gN] <;> first | rfl | assumption | exact gp0 _ _ _ | exact gn0 _ _)) (by first | rfl | assumption)) rfl (eqr _ (by first | rfl | exact lpl (by assumption) | (simp [AV.plain, AV.plains, AV.cells, AV.plain])))) (sco (sld rfl rfl (lda (n := 1) (by kernel_rfl) (by first | assumption | (simp (disch := first | omega | (simp only [hNw, hPt]; omega)) only [gN] <;> first | rfl | assumption | exact gp0 _ _ _ | exact gn0 _ _)) (by first | rfl | assumption)) rfl (eqr _ (by first | rfl | exact lpl (by assumption) | (simp [AV.plain, AV.plains, AV.cells, AV.plain])))) (sco (sld rfl rfl (lda (n := 1) (by kernel_rfl) (by first | assumption | (simp (disch := first | omega | (simp only [hNw, hPt]; omega)) only [gN] <;> first | rfl | assumption | exact gp0 _ _ _ | exact gn0 _ _)) (by first | rfl | assumption)) rfl (eqr _ (by first | rfl | exact lpl (by assumption) | (simp [AV.plain, AV.plains, AV.cells, AV.plain])))) rfl)))))))), ?_⟩
      refine OkP.step ?_
      refine OkO.builtinE rfl rfl rfl (Mine.app2 (W := W) (k0 := N + 6) (t := 25) (u := 25) (sz := 1) (by_ := 8) (e := 3) (n := 1) (new := [I (cost + B j)]) (Mine.to ((Mine.put (n := N + 5) q1 (.cells [.opn bk2 mv2] 25) (by omega))) (by (try dsimp only); repeat (first | exact Ext.refl _ | apply Ext.new | (refine Ext.put ?_ _ (by first | omega | (simp only [hNw, hPt]; omega)))))) (by (try dsimp only); repeat (first | exact hg9 | exact q2 | exact s2 | apply Grow.new | (refine Grow.put ?_ _ (by first | omega | (simp only [hNw, hPt]; omega))))) (by omega) (by first | omega | (simp only [hNw, hPt]; omega)) (by kernel_rfl) (by kernel_rfl) (elems_new (n := 1) (sz := 1) rfl) rfl rfl (by simp only [List.length_map, List.length_append, List.length_cons, List.length_nil]; omega) (by omega) (by omega) rfl) ?_
      rintro v3 G3 ⟨s1, s2, _, s4, s3, ⟨mv3, hv3⟩⟩
      obtain ⟨bk3, hbk3⟩ : ∃ bk, v3 = .opn bk mv3 := ⟨_, hv3⟩
      subst hbk3
      clear hv3
      simp only [hNw, hPt] at s3
      have b0y : G3.get (N) = some (.cells [cv, I (L : Int), I fa, .fn 66 [] []] 119) := by rw [s4 _ (by first | omega | (simp only [hNw, hPt]; omega)) (Mine.ne (Mine.put (n := N + 5) q1 (.cells [.opn bk2 mv2] 25) (by omega)) (show _ = some (.cells [cv, I (L : Int), I fa, .fn 66 [] []] 119) from by rw [gpo _ _ _ _ (by omega)]; exact b0x) (by intro a b c; simp))]; simp (disch := first | omega | (simp only [hNw, hPt]; omega)) only [gN]; exact b0x
      have b1y : G3.get (N + 1) = some (.cells [tv] 60) := by rw [s4 _ (by first | omega | (simp only [hNw, hPt]; omega)) (Mine.ne (Mine.put (n := N + 5) q1 (.cells [.opn bk2 mv2] 25) (by omega)) (show _ = some (.cells [tv] 60) from by rw [gpo _ _ _ _ (by omega)]; exact b1x) (by intro a b c; simp))]; simp (disch := first | omega | (simp only [hNw, hPt]; omega)) only [gN]; exact b1x
      have b2y : G3.get (N + 2) = some (.cells [I (r : Int)] 3) := by rw [s4 _ (by first | omega | (simp only [hNw, hPt]; omega)) (Mine.ne (Mine.put (n := N + 5) q1 (.cells [.opn bk2 mv2] 25) (by omega)) (show _ = some (.cells [I (r : Int)] 3) from by rw [gpo _ _ _ _ (by omega)]; exact b2x) (by intro a b c; simp))]; simp (disch := first | omega | (simp only [hNw, hPt]; omega)) only [gN]; exact b2x
      have b3y : G3.get (N + 3) = some (.cells [I ((c + 1 : Nat) : Int), I (k : Int)] 145) := by rw [s4 _ (by first | omega | (simp only [hNw, hPt]; omega)) (Mine.ne (Mine.put (n := N + 5) q1 (.cells [.opn bk2 mv2] 25) (by omega)) (show _ = some (.cells [I ((c + 1 : Nat) : Int), I (k : Int)] 145) from by rw [gpo _ _ _ _ (by omega)]; exact b3x) (by intro a b c; simp))]; simp (disch := first | omega | (simp only [hNw, hPt]; omega)) only [gN]; exact b3x
      have b4y : G3.get (N + 4) = some (.cells [I cost] 3) := by rw [s4 _ (by first | omega | (simp only [hNw, hPt]; omega)) (Mine.ne (Mine.put (n := N + 5) q1 (.cells [.opn bk2 mv2] 25) (by omega)) (show _ = some (.cells [I cost] 3) from by rw [gpo _ _ _ _ (by omega)]; exact b4x) (by intro a b c; simp))]; simp (disch := first | omega | (simp only [hNw, hPt]; omega)) only [gN]; exact b4x
      have p0y : G3.get (Pb) = some (.cells [I (k : Int)] 3) := by rw [s4 _ (by first | omega | (simp only [hNw, hPt]; omega)) (Mine.ne (Mine.put (n := N + 5) q1 (.cells [.opn bk2 mv2] 25) (by omega)) (show _ = some (.cells [I (k : Int)] 3) from by rw [gpo _ _ _ _ (by omega)]; exact p0x) (by intro a b c; simp))]; simp (disch := first | omega | (simp only [hNw, hPt]; omega)) only [gN]; exact p0x
      have p1y : G3.get (Pb + 1) = some (.cells [I (n : Int)] 3) := by rw [s4 _ (by first | omega | (simp only [hNw, hPt]; omega)) (Mine.ne (Mine.put (n := N + 5) q1 (.cells [.opn bk2 mv2] 25) (by omega)) (show _ = some (.cells [I (n : Int)] 3) from by rw [gpo _ _ _ _ (by omega)]; exact p1x) (by intro a b c; simp))]; simp (disch := first | omega | (simp only [hNw, hPt]; omega)) only [gN]; exact p1x
      have p2y : G3.get (Pb + 2) = some .defd := by rw [s4 _ (by first | omega | (simp only [hNw, hPt]; omega)) (Mine.ne (Mine.put (n := N + 5) q1 (.cells [.opn bk2 mv2] 25) (by omega)) (show _ = some .defd from by rw [gpo _ _ _ _ (by omega)]; exact p2x) (by intro a b c; simp))]; simp (disch := first | omega | (simp only [hNw, hPt]; omega)) only [gN]; exact p2x
      have p3y : G3.get (Pb + 3) = some (.loop .busy none (mkT 7 0 1 (upd fr [(4, .ptr N 0), (5, .ptr (N + 1) 0), (6, .ptr (N + 2) 0), (7, .ptr (N + 3) 0), (9, .ptr (N + 4) 0), (10, .ptr (N + 5) 0)])) [37] as100 bd100 (Pb + 2)) := by rw [s4 _ (by first | omega | (simp only [hNw, hPt]; omega)) (Mine.ne (Mine.put (n := N + 5) q1 (.cells [.opn bk2 mv2] 25) (by omega)) (show _ = some (.loop .busy none (mkT 7 0 1 (upd fr [(4, .ptr N 0), (5, .ptr (N + 1) 0), (6, .ptr (N + 2) 0), (7, .ptr (N + 3) 0), (9, .ptr (N + 4) 0), (10, .ptr (N + 5) 0)])) [37] as100 bd100 (Pb + 2)) from by rw [gpo _ _ _ _ (by omega)]; exact p3x) (by intro a b c; simp))]; simp (disch := first | omega | (simp only [hNw, hPt]; omega)) only [gN]; exact p3x
      have eb0y : (G3.get (N)).bind AObj.cs = some [cv, I (L : Int), I fa, .fn 66 [] []] := by rw [b0y]; rfl
      have eb1y : (G3.get (N + 1)).bind AObj.cs = some [tv] := by rw [b1y]; rfl
      have eb2y : (G3.get (N + 2)).bind AObj.cs = some [I (r : Int)] := by rw [b2y]; rfl
      have eb3y : (G3.get (N + 3)).bind AObj.cs = some [I ((c + 1 : Nat) : Int), I (k : Int)] := by rw [b3y]; rfl
      have eb4y : (G3.get (N + 4)).bind AObj.cs = some [I cost] := by rw [b4y]; rfl
      have b5y : G3.get (N + 5) = some (.cells [.opn bk2 mv2] 25) := by rw [s4 _ (by first | omega | (simp only [hNw, hPt]; omega)) (Mine.far (Mine.put (n := N + 5) q1 (.cells [.opn bk2 mv2] 25) (by omega)) (by omega)), gno _ _ _ (by first | omega | (simp only [hNw, hPt]; omega))]; exact gp0 _ _ _
      have eb5y : (G3.get (N + 5)).bind AObj.cs = some [.opn bk2 mv2] := by rw [b5y]; rfl
      obtain ⟨ml3, hl3, _⟩ := s1.len
      have a7y : (G3.get ab).bind AObj.cs = some acs := by rw [s2.get _ a4]; exact a2
      have i7y : (G3.get ib).bind AObj.cs = some ics := by rw [s2.get _ i4]; exact i2
      have k7y : (G3.get kb).bind AObj.cs = some kcs := by rw [s2.get _ k4]; exact k2
      refine OkO.nil ⟨(sco (sld rfl rfl (lda (n := 1) (by kernel_rfl) (by first | assumption | (simp (disch := first | omega | (simp only [hNw, hPt]; omega)) only [gN] <;> first | rfl | assumption | exact gp0 _ _ _ | exact gn0 _ _)) (by first | rfl | assumption)) rfl (eqr _ (by first | rfl | exact lpl (by assumption) | (simp [AV.plain, AV.plains, AV.cells, AV.plain])))) (sco (sld rfl rfl (lda (n := 1) (by kernel_rfl) (by first | assumption | (simp (disch := first | omega | (simp only [hNw, hPt]; omega)) only [gN] <;> first | rfl | assumption | exact gp0 _ _ _ | exact gn0 _ _)) (by first | rfl | assumption)) rfl (eqr _ (by first | rfl | exact lpl (by assumption) | (simp [AV.plain, AV.plains, AV.cells, AV.plain])))) (sco (sld rfl rfl (lda (n := 1) (by kernel_rfl) (by first | assumption | (simp (disch := first | omega | (simp only [hNw, hPt]; omega)) only [gN] <;> first | rfl | assumption | exact gp0 _ _ _ | exact gn0 _ _)) (by first | rfl | assumption)) rfl (eqr _ (by first | rfl | exact lpl (by assumption) | (simp [AV.plain, AV.plains, AV.cells, AV.plain])))) (sco (sld rfl rfl (lda (n := 1) (by kernel_rfl) (by first | assumption | (simp (disch := first | omega | (simp only [hNw, hPt]; omega)) only [gN] <;> first | rfl | assumption | exact gp0 _ _ _ | exact gn0 _ _)) (by first | rfl | assumption)) rfl (eqr _ (by first | rfl | exact lpl (by assumption) | (simp [AV.plain, AV.plains, AV.cells, AV.plain])))) (sco (sld rfl rfl (lda (n := 1) (by kernel_rfl) (by first | assumption | (simp (disch := first | omega | (simp only [hNw, hPt]; omega)) only [gN] <;> first | rfl | assumption | exact gp0 _ _ _ | exact gn0 _ _)) (by first | rfl | assumption)) rfl (eqr _ (by first | rfl | exact lpl (by assumption) | (simp [AV.plain, AV.plains, AV.cells, AV.plain])))) (sco (sld rfl rfl (lda (n := 1) (by kernel_rfl) (by first | assumption | (simp (disch := first | omega | (simp only [hNw, hPt]; omega)) only [gN] <;> first | rfl | assumption | exact gp0 _ _ _ | exact gn0 _ _)) (by first | rfl | assumption)) rfl (eqr _ (by first | rfl | exact lpl (by assumption) | (simp [AV.plain, AV.plains, AV.cells, AV.plain])))) (sco (sld rfl rfl (lda (n := 1) (by kernel_rfl) (by first | assumption | (simp (disch := first | omega | (simp only [hNw, hPt]; omega)) only [gN] <;> first | rfl | assumption | exact gp0 _ _ _ | exact gn0 _ _)) (by first | rfl | assumption)) rfl (eqr _ (by first | rfl | exact lpl (by assumption) | (simp [AV.plain, AV.plains, AV.cells, AV.plain])))) rfl))))))), ?_⟩
      refine OkP.step ?_
      refine OkO.store rfl rfl rfl (sAc (n := 1) (ag := false) (by kernel_rfl) (by first | assumption | (simp (disch := first | omega | (simp only [hNw, hPt]; omega)) only [gN] <;> first | rfl | assumption | exact gp0 _ _ _ | exact gn0 _ _)) rfl (by first | rfl | assumption) (by first | rfl | exact spl_set _ _ _ (by first | assumption | omega | (simp; omega)))) ?_
      refine OkO.nil ⟨rfl, ?_⟩
      refine OkP.nil ?_
      refine ⟨_, _, _, _, _, _, _, (by first | assumption | (simp (disch := first | omega | (simp only [hNw, hPt]; omega)) only [gN] <;> first | rfl | assumption | exact gp0 _ _ _ | exact gn0 _ _)), .inl ⟨rfl, rfl, ⟨(Grow.ext (W := W) (by (try dsimp only); repeat (first | exact hg9 | exact q2 | exact s2 | apply Grow.new | (refine Grow.put ?_ _ (by first | omega | (simp only [hNw, hPt]; omega)))))), (by first | omega | (simp only [hNw, hPt]; omega)), (by first | assumption | (simp (disch := first | omega | (simp only [hNw, hPt]; omega)) only [gN] <;> first | rfl | assumption | exact gp0 _ _ _ | exact gn0 _ _)), (by first | assumption | (simp (disch := first | omega | (simp only [hNw, hPt]; omega)) only [gN] <;> first | rfl | assumption | exact gp0 _ _ _ | exact gn0 _ _)), (by first | assumption | (simp (disch := first | omega | (simp only [hNw, hPt]; omega)) only [gN] <;> first | rfl | assumption | exact gp0 _ _ _ | exact gn0 _ _)), (by first | assumption | (simp (disch := first | omega | (simp only [hNw, hPt]; omega)) only [gN] <;> first | rfl | assumption | exact gp0 _ _ _ | exact gn0 _ _)), (by first | assumption | (simp (disch := first | omega | (simp only [hNw, hPt]; omega)) only [gN] <;> first | rfl | assumption | exact gp0 _ _ _ | exact gn0 _ _)), ⟨_, l ++ [cost + A j] ++ [cost + B j], (by first | assumption | (simp (disch := first | omega | (simp only [hNw, hPt]; omega)) only [gN] <;> first | rfl | assumption | exact gp0 _ _ _ | exact gn0 _ _)), by simpa using (Mine.putO (Mine.put s1 _ (by omega)) _ (by first | exact p3y | (rw [gpo _ _ _ _ (by omega)]; exact p3y)) (by intro a b c; simp)), hlim.step hnx (.inl ⟨hr0, rfl⟩) (.inl ⟨hrl, rfl⟩), by simp; omega⟩, (by first | assumption | (simp (disch := first | omega | (simp only [hNw, hPt]; omega)) only [gN] <;> first | rfl | assumption | exact gp0 _ _ _ | exact gn0 _ _)), (by first | assumption | (simp (disch := first | omega | (simp only [hNw, hPt]; omega)) only [gN] <;> first | rfl | assumption | exact gp0 _ _ _ | exact gn0 _ _)), (by first | assumption | (simp (disch := first | omega | (simp only [hNw, hPt]; omega)) only [gN] <;> first | rfl | assumption | exact gp0 _ _ _ | exact gn0 _ _)), (by first | assumption | (simp (disch := first | omega | (simp only [hNw, hPt]; omega)) only [gN] <;> first | rfl | assumption | exact gp0 _ _ _ | exact gn0 _ _))⟩, (Nat.le_trans (Nat.le_of_eq hN) (Grow.lo (W := W) (by (try dsimp only); repeat (first | exact hg9 | exact q2 | exact s2 | apply Grow.new | (refine Grow.put ?_ _ (by first | omega | (simp only [hNw, hPt]; omega))))))), (by simp only [Heap.lo_put, Heap.lo_new]; omega), (by first | omega | (simp only [hNw, hPt]; omega))⟩⟩
    · -- no h2
      have hrl : ¬ r + 1 = L := by (have h9 : ¬ (r : Int) = (L : Int) - 1 := by simpa using h2); omega
      refine Ok.skip ?_
      refine ⟨_, _, _, _, _, _, _, (by first | assumption | (simp (disch := first | omega | (simp only [hNw, hPt]; omega)) only [gN] <;> first | rfl | assumption | exact gp0 _ _ _ | exact gn0 _ _)), .inl ⟨rfl, rfl, ⟨(Grow.ext (W := W) (by (try dsimp only); repeat (first | exact hg9 | exact q2 | exact s2 | apply Grow.new | (refine Grow.put ?_ _ (by first | omega | (simp only [hNw, hPt]; omega)))))), (by first | omega | (simp only [hNw, hPt]; omega)), (by first | assumption | (simp (disch := first | omega | (simp only [hNw, hPt]; omega)) only [gN] <;> first | rfl | assumption | exact gp0 _ _ _ | exact gn0 _ _)), (by first | assumption | (simp (disch := first | omega | (simp only [hNw, hPt]; omega)) only [gN] <;> first | rfl | assumption | exact gp0 _ _ _ | exact gn0 _ _)), (by first | assumption | (simp (disch := first | omega | (simp only [hNw, hPt]; omega)) only [gN] <;> first | rfl | assumption | exact gp0 _ _ _ | exact gn0 _ _)), (by first | assumption | (simp (disch := first | omega | (simp only [hNw, hPt]; omega)) only [gN] <;> first | rfl | assumption | exact gp0 _ _ _ | exact gn0 _ _)), (by first | assumption | (simp (disch := first | omega | (simp only [hNw, hPt]; omega)) only [gN] <;> first | rfl | assumption | exact gp0 _ _ _ | exact gn0 _ _)), ⟨_, l ++ [cost + A j] ++ [], (by first | assumption | (simp (disch := first | omega | (simp only [hNw, hPt]; omega)) only [gN] <;> first | rfl | assumption | exact gp0 _ _ _ | exact gn0 _ _)), by simpa using (Mine.putO (Mine.put q1 _ (by omega)) _ (by first | exact p3x | (rw [gpo _ _ _ _ (by omega)]; exact p3x)) (by intro a b c; simp)), hlim.step hnx (.inl ⟨hr0, rfl⟩) (.inr ⟨hrl, rfl⟩), by simp; omega⟩, (by first | assumption | (simp (disch := first | omega | (simp only [hNw, hPt]; omega)) only [gN] <;> first | rfl | assumption | exact gp0 _ _ _ | exact gn0 _ _)), (by first | assumption | (simp (disch := first | omega | (simp only [hNw, hPt]; omega)) only [gN] <;> first | rfl | assumption | exact gp0 _ _ _ | exact gn0 _ _)), (by first | assumption | (simp (disch := first | omega | (simp only [hNw, hPt]; omega)) only [gN] <;> first | rfl | assumption | exact gp0 _ _ _ | exact gn0 _ _)), (by first | assumption | (simp (disch := first | omega | (simp only [hNw, hPt]; omega)) only [gN] <;> first | rfl | assumption | exact gp0 _ _ _ | exact gn0 _ _))⟩, (Nat.le_trans (Nat.le_of_eq hN) (Grow.lo (W := W) (by (try dsimp only); repeat (first | exact hg9 | exact q2 | exact s2 | apply Grow.new | (refine Grow.put ?_ _ (by first | omega | (simp only [hNw, hPt]; omega))))))), (by simp only [Heap.lo_put, Heap.lo_new]; omega), (by first | omega | (simp only [hNw, hPt]; omega))⟩⟩
  · -- no h1
    have hr0 : ¬ 0 < r := by simpa using h1
    refine Ok.skip ?_
    refine Ok.seq ?_
    refine Ok.region ?_
    refine OkO.load rfl rfl (lda (n := 1) (by kernel_rfl) (by first | assumption | (simp (disch := first | omega | (simp only [hNw, hPt]; omega)) only [gN] <;> first | rfl | assumption | exact gp0 _ _ _ | exact gn0 _ _)) (by first | rfl | assumption)) ?_
    refine OkO.fieldAddr (o := 0) rfl (by kernel_rfl) rfl ?_
    refine OkO.fieldAddr (o := 1) rfl (by kernel_rfl) rfl ?_
    refine OkO.load rfl rfl (lda (n := 1) (by kernel_rfl) (by first | assumption | (simp (disch := first | omega | (simp only [hNw, hPt]; omega)) only [gN] <;> first | rfl | assumption | exact gp0 _ _ _ | exact gn0 _ _)) (by first | rfl | assumption)) ?_
    refine OkO.bin rfl rfl rfl (bin_sub (by omega) (by omega)) ?_
    refine OkO.bin rfl rfl rfl (bin_eql _ _) ?_
    refine OkO.nil ?_
    refine Ok.cond rfl (fun h3 => ?_) (fun h3 => ?_)
    · -- yes h3
      have hrl : r + 1 = L := by (have h9 : (r : Int) = (L : Int) - 1 := by simpa using h3); omega
      obtain ⟨tl, htb, htl⟩ := hB hrl
      obtain ⟨rows, rv, cs, cvv, t1, t2, t3, t4, t5⟩ := htb
      obtain ⟨ab, ao, acs, a1, a2, a3, a4⟩ := t1.at_ (r) [rv] (by rw [List.getElem?_map, t2]; rfl)
      have a5 := seg_one a3
      obtain ⟨ib, io, ics, i1, i2, i3, i4⟩ := t3.at_ c [cvv] (by rw [List.getElem?_map, t4]; rfl)
      have i5 := seg_one i3
      obtain ⟨kb, ko, kcs, k1, k2, k3, k4⟩ := t5.at_ j [I (B j)] (by rw [List.getElem?_map, htl j hjn]; rfl)
      have k5 := seg_one k3
      have a6 : (G9.get ab).bind AObj.cs = some acs := by rw [hg9.get _ a4]; exact a2
      have i6 : (G9.get ib).bind AObj.cs = some ics := by rw [hg9.get _ i4]; exact i2
      have k6 : (G9.get kb).bind AObj.cs = some kcs := by rw [hg9.get _ k4]; exact k2
      have tl1 := t1.len
      have tl3 := t3.len
      have tl5 := t5.len
      clear t1 t3 t5
      refine Ok.drawn [(0, true, []), (1, true, []), (2, true, []), (3, true, []), (4, true, []), (5, true, []), (6, true, []), (7, true, []), (8, true, []), (9, true, []), (10, true, []), (11, true, []), (12, true, []), (13, true, []), (14, true, []), (15, true, [13, 10, 7, 5, 3, 2, 1, 0]), (16, false, [13, 10, 7, 5, 3, 2, 1]), (17, false, [])] (by kernel_rfl) ?_
      refine OkP.step ?_
      refine OkO.load rfl rfl (lda (n := 1) (by kernel_rfl) (by first | assumption | (simp (disch := first | omega | (simp only [hNw, hPt]; omega)) only [gN] <;> first | rfl | assumption | exact gp0 _ _ _ | exact gn0 _ _)) (by first | rfl | assumption)) ?_
      refine OkO.nil ⟨rfl, ?_⟩
      refine OkP.step ?_
      refine OkO.load rfl rfl (lda (n := 1) (by kernel_rfl) (by first | assumption | (simp (disch := first | omega | (simp only [hNw, hPt]; omega)) only [gN] <;> first | rfl | assumption | exact gp0 _ _ _ | exact gn0 _ _)) (by first | rfl | assumption)) ?_
      refine OkO.nil ⟨rfl, ?_⟩
      refine OkP.step ?_
      refine OkO.load rfl rfl (lda (n := 1) (by kernel_rfl) (by first | assumption | (simp (disch := first | omega | (simp only [hNw, hPt]; omega)) only [gN] <;> first | rfl | assumption | exact gp0 _ _ _ | exact gn0 _ _)) (by first | rfl | assumption)) ?_
      refine OkO.nil ⟨rfl, ?_⟩
      refine OkP.step ?_
      refine OkO.load rfl rfl (lda (n := 1) (by kernel_rfl) (by first | assumption | (simp (disch := first | omega | (simp only [hNw, hPt]; omega)) only [gN] <;> first | rfl | assumption | exact gp0 _ _ _ | exact gn0 _ _)) (by first | rfl | assumption)) ?_
      refine OkO.nil ⟨rfl, ?_⟩
      refine OkP.step ?_
      refine OkO.index (sz := 1) (n := r) rfl rfl rfl (by kernel_rfl) (by first | assumption | rfl | exact slAt_slice (by omega) | exact slAt_opn (by omega)) ?_
      refine OkO.nil ⟨rfl, ?_⟩
      refine OkP.step ?_
      refine OkO.load rfl rfl (lda (n := 1) (by kernel_rfl) (by first | assumption | (simp (disch := first | omega | (simp only [hNw, hPt]; omega)) only [gN] <;> first | rfl | assumption | exact gp0 _ _ _ | exact gn0 _ _)) (by first | rfl | assumption)) ?_
      refine OkO.nil ⟨rfl, ?_⟩
      refine OkP.step ?_
      refine OkO.fieldAddr (o := 0) rfl (by kernel_rfl) rfl ?_
      refine OkO.nil ⟨rfl, ?_⟩
      refine OkP.step ?_
      refine OkO.load rfl rfl (lda (n := 1) (by kernel_rfl) (by first | assumption | (simp (disch := first | omega | (simp only [hNw, hPt]; omega)) only [gN] <;> first | rfl | assumption | exact gp0 _ _ _ | exact gn0 _ _)) (by first | rfl | assumption)) ?_
      refine OkO.nil ⟨rfl, ?_⟩
      refine OkP.step ?_
      refine OkO.bin rfl rfl rfl (bin_sub (by omega) (by omega)) ?_
      refine OkO.nil ⟨rfl, ?_⟩
      refine OkP.step ?_
      refine OkO.index (sz := 1) (n := c) rfl rfl (congrArg (fun z => some (I z)) (by omega)) (by kernel_rfl) (by first | assumption | rfl | exact slAt_slice (by omega) | exact slAt_opn (by omega)) ?_
      refine OkO.nil ⟨rfl, ?_⟩
      refine OkP.step ?_
      refine OkO.load rfl rfl (lda (n := 1) (by kernel_rfl) (by first | assumption | (simp (disch := first | omega | (simp only [hNw, hPt]; omega)) only [gN] <;> first | rfl | assumption | exact gp0 _ _ _ | exact gn0 _ _)) (by first | rfl | assumption)) ?_
      refine OkO.nil ⟨rfl, ?_⟩
      refine OkP.step ?_
      refine OkO.move rfl rfl ?_
      refine OkO.nil ⟨rfl, ?_⟩
      refine OkP.step ?_
      refine OkO.index (sz := 1) (n := j) rfl rfl rfl (by kernel_rfl) (by first | assumption | rfl | exact slAt_slice (by omega) | exact slAt_opn (by omega)) ?_
      refine OkO.nil ⟨rfl, ?_⟩
      refine OkP.step ?_
      refine OkO.load rfl rfl (lda (n := 1) (by kernel_rfl) (by first | assumption | (simp (disch := first | omega | (simp only [hNw, hPt]; omega)) only [gN] <;> first | rfl | assumption | exact gp0 _ _ _ | exact gn0 _ _)) (by first | rfl | assumption)) ?_
      refine OkO.nil ⟨rfl, ?_⟩
      refine OkP.step ?_
      refine OkO.bin rfl rfl rfl (bin_add (by omega) (by omega)) ?_
      refine OkO.nil ⟨rfl, ?_⟩
      refine OkP.step ?_
      refine OkO.buildSlice (el := 3) (sz := 1) (z := [.int .i64 0]) rfl (by kernel_rfl) (by decide) rfl rfl ?_
      refine OkO.nil ⟨(sco (sld rfl rfl (lda (n := 1) (by kernel_rfl) (by first | assumption | (simp (disch := first | omega | (simp only [hNw, hPt]; omega)) only [gN] <;> first | rfl | assumption | exact gp0 _ _ _ | exact gn0 _ _)) (by first | rfl | assumption)) rfl (eqr _ (by first | rfl | exact lpl (by assumption) | (simp [AV.plain, AV.plains, AV.cells, AV.plain])))) (sco (sld rfl rfl (lda (n := 1) (by kernel_rfl) (by first | assumption | (simp (disch := first | omega | (simp only [hNw, hPt]; omega)) only [gN] <;> first | rfl | assumption | exact gp0 _ _ _ | exact gn0 _ _)) (by first | rfl | assumption)) rfl (eqr _ (by first | rfl | exact lpl (by assumption) | (simp [AV.plain, AV.plains, AV.cells, AV.plain])))) (sco (sld rfl rfl (lda (n := 1) (by kernel_rfl) (by first | assumption | (simp (disch := first | omega | (simp only [hNw, hPt]; omega)) only [gN] <;> first | rfl | assumption | exact gp0 _ _ _ | exact gn0 _ _)) (by first | rfl | assumption)) rfl (eqr _ (by first | rfl | exact lpl (by assumption) | (simp [AV.plain, AV.plains, AV.cells, AV.plain])))) (sco (sld rfl rfl (lda (n := 1) (by kernel_rfl) (by first | assumption | (simp (disch := first | omega | (simp only [hNw, hPt]; omega)) only [gN] <;> first | rfl | assumption | exact gp0 _ _ _ | exact gn0 _ _)) (by first | rfl | assumption)) rfl (eqr _ (by first | rfl | exact lpl (by assumption) | (simp [AV.plain, AV.plains, AV.cells, AV.plain])))) (sco (sld rfl rfl (lda (n := 1) (by kernel_rfl) (by first | assumption | (simp (disch := first | omega | (simp only [hNw, hPt]; omega)) only [gN] <;> first | rfl | assumption | exact gp0 _ _ _ | exact gn0 _ _)) (by first | rfl | assumption)) rfl (eqr _ (by first | rfl | exact lpl (by assumption) | (simp [AV.plain, AV.plains, AV.cells, AV.plain])))) (sco (sld rfl rfl (lda (n := 1) (by kernel_rfl) (by first | assumption | (simp (disch := first | omega | (simp only [hNw, hPt]; omega)) only [gN] <;> first | rfl | assumption | exact gp0 _ _ _ | exact gn0 _ _)) (by first | rfl | assumption)) rfl (eqr _ (by first | rfl | exact lpl (by assumption) | (simp [AV.plain, AV.plains, AV.cells, AV.plain])))) (sco (sld rfl rfl (lda (n := 1) (by kernel_rfl) (by first | assumption | (simp (disch := first | omega | (simp only [hNw, hPt]; omega)) only [gN] <;> first | rfl | assumption | exact gp0 _ _ _ | exact gn0 _ _)) (by first | rfl | assumption)) rfl (eqr _ (by first | rfl | exact lpl (by assumption) | (simp [AV.plain, AV.plains, AV.cells, AV.plain])))) (sco (sld rfl rfl (lda (n := 1) (by kernel_rfl) (by first | assumption | (simp (disch := first | omega | (simp only [hNw, hPt]; omega)) only [gN] <;> first | rfl | assumption | exact gp0 _ _ _ | exact gn0 _ _)) (by first | rfl | assumption)) rfl (eqr _ (by first | rfl | exact lpl (by assumption) | (simp [AV.plain, AV.plains, AV.cells, AV.plain])))) rfl)))))))), ?_⟩
      refine OkP.step ?_
      refine OkO.builtinE rfl rfl rfl (Mine.app2 (W := W) (k0 := N + 6) (t := 25) (u := 25) (sz := 1) (by_ := 8) (e := 3) (n := 1) (new := [I (cost + B j)]) (Mine.to (hm9) (by (try dsimp only); repeat (first | exact Ext.refl _ | apply Ext.new | (refine Ext.put ?_ _ (by first | omega | (simp only [hNw, hPt]; omega)))))) (by (try dsimp only); repeat (first | exact hg9 | exact q2 | exact s2 | apply Grow.new | (refine Grow.put ?_ _ (by first | omega | (simp only [hNw, hPt]; omega))))) (by omega) (by first | omega | (simp only [hNw, hPt]; omega)) (by kernel_rfl) (by kernel_rfl) (elems_new (n := 1) (sz := 1) rfl) rfl rfl (by simp only [List.length_map, List.length_append, List.length_cons, List.length_nil]; omega) (by omega) (by omega) rfl) ?_
      rintro v3 G3 ⟨s1, s2, _, s4, s3, ⟨mv3, hv3⟩⟩
      obtain ⟨bk3, hbk3⟩ : ∃ bk, v3 = .opn bk mv3 := ⟨_, hv3⟩
      subst hbk3
      clear hv3
      simp only [hNw, hPt] at s3
      have b0y : G3.get (N) = some (.cells [cv, I (L : Int), I fa, .fn 66 [] []] 119) := by rw [s4 _ (by first | omega | (simp only [hNw, hPt]; omega)) (hm9.ne b0v (by intro a b c; simp))]; simp (disch := first | omega | (simp only [hNw, hPt]; omega)) only [gN]; exact b0v
      have b1y : G3.get (N + 1) = some (.cells [tv] 60) := by rw [s4 _ (by first | omega | (simp only [hNw, hPt]; omega)) (hm9.ne b1v (by intro a b c; simp))]; simp (disch := first | omega | (simp only [hNw, hPt]; omega)) only [gN]; exact b1v
      have b2y : G3.get (N + 2) = some (.cells [I (r : Int)] 3) := by rw [s4 _ (by first | omega | (simp only [hNw, hPt]; omega)) (hm9.ne b2v (by intro a b c; simp))]; simp (disch := first | omega | (simp only [hNw, hPt]; omega)) only [gN]; exact b2v
      have b3y : G3.get (N + 3) = some (.cells [I ((c + 1 : Nat) : Int), I (k : Int)] 145) := by rw [s4 _ (by first | omega | (simp only [hNw, hPt]; omega)) (hm9.ne b3v (by intro a b c; simp))]; simp (disch := first | omega | (simp only [hNw, hPt]; omega)) only [gN]; exact b3v
      have b4y : G3.get (N + 4) = some (.cells [I cost] 3) := by rw [s4 _ (by first | omega | (simp only [hNw, hPt]; omega)) (hm9.ne b4v (by intro a b c; simp))]; simp (disch := first | omega | (simp only [hNw, hPt]; omega)) only [gN]; exact b4v
      have p0y : G3.get (Pb) = some (.cells [I (k : Int)] 3) := by rw [s4 _ (by first | omega | (simp only [hNw, hPt]; omega)) (hm9.ne p0v (by intro a b c; simp))]; simp (disch := first | omega | (simp only [hNw, hPt]; omega)) only [gN]; exact p0v
      have p1y : G3.get (Pb + 1) = some (.cells [I (n : Int)] 3) := by rw [s4 _ (by first | omega | (simp only [hNw, hPt]; omega)) (hm9.ne p1v (by intro a b c; simp))]; simp (disch := first | omega | (simp only [hNw, hPt]; omega)) only [gN]; exact p1v
      have p2y : G3.get (Pb + 2) = some .defd := by rw [s4 _ (by first | omega | (simp only [hNw, hPt]; omega)) (hm9.ne p2v (by intro a b c; simp))]; simp (disch := first | omega | (simp only [hNw, hPt]; omega)) only [gN]; exact p2v
      have p3y : G3.get (Pb + 3) = some (.loop .busy none (mkT 7 0 1 (upd fr [(4, .ptr N 0), (5, .ptr (N + 1) 0), (6, .ptr (N + 2) 0), (7, .ptr (N + 3) 0), (9, .ptr (N + 4) 0), (10, .ptr (N + 5) 0)])) [37] as100 bd100 (Pb + 2)) := by rw [s4 _ (by first | omega | (simp only [hNw, hPt]; omega)) (hm9.ne p3v (by intro a b c; simp))]; simp (disch := first | omega | (simp only [hNw, hPt]; omega)) only [gN]; exact p3v
      have eb0y : (G3.get (N)).bind AObj.cs = some [cv, I (L : Int), I fa, .fn 66 [] []] := by rw [b0y]; rfl
      have eb1y : (G3.get (N + 1)).bind AObj.cs = some [tv] := by rw [b1y]; rfl
      have eb2y : (G3.get (N + 2)).bind AObj.cs = some [I (r : Int)] := by rw [b2y]; rfl
      have eb3y : (G3.get (N + 3)).bind AObj.cs = some [I ((c + 1 : Nat) : Int), I (k : Int)] := by rw [b3y]; rfl
      have eb4y : (G3.get (N + 4)).bind AObj.cs = some [I cost] := by rw [b4y]; rfl
      have b5y : G3.get (N + 5) = some (.cells [lv] 25) := by rw [s4 _ (by first | omega | (simp only [hNw, hPt]; omega)) (hm9.far (by omega)), gno _ _ _ (by omega)]; exact b5v
      have eb5y : (G3.get (N + 5)).bind AObj.cs = some [lv] := by rw [b5y]; rfl
      obtain ⟨ml3, hl3, _⟩ := s1.len
      have a7y : (G3.get ab).bind AObj.cs = some acs := by rw [s2.get _ a4]; exact a2
      have i7y : (G3.get ib).bind AObj.cs = some ics := by rw [s2.get _ i4]; exact i2
      have k7y : (G3.get kb).bind AObj.cs = some kcs := by rw [s2.get _ k4]; exact k2
      refine OkO.nil ⟨(sco (sld rfl rfl (lda (n := 1) (by kernel_rfl) (by first | assumption | (simp (disch := first | omega | (simp only [hNw, hPt]; omega)) only [gN] <;> first | rfl | assumption | exact gp0 _ _ _ | exact gn0 _ _)) (by first | rfl | assumption)) rfl (eqr _ (by first | rfl | exact lpl (by assumption) | (simp [AV.plain, AV.plains, AV.cells, AV.plain])))) (sco (sld rfl rfl (lda (n := 1) (by kernel_rfl) (by first | assumption | (simp (disch := first | omega | (simp only [hNw, hPt]; omega)) only [gN] <;> first | rfl | assumption | exact gp0 _ _ _ | exact gn0 _ _)) (by first | rfl | assumption)) rfl (eqr _ (by first | rfl | exact lpl (by assumption) | (simp [AV.plain, AV.plains, AV.cells, AV.plain])))) (sco (sld rfl rfl (lda (n := 1) (by kernel_rfl) (by first | assumption | (simp (disch := first | omega | (simp only [hNw, hPt]; omega)) only [gN] <;> first | rfl | assumption | exact gp0 _ _ _ | exact gn0 _ _)) (by first | rfl | assumption)) rfl (eqr _ (by first | rfl | exact lpl (by assumption) | (simp [AV.plain, AV.plains, AV.cells, AV.plain])))) (sco (sld rfl rfl (lda (n := 1) (by kernel_rfl) (by first | assumption | (simp (disch := first | omega | (simp only [hNw, hPt]; omega)) only [gN] <;> first | rfl | assumption | exact gp0 _ _ _ | exact gn0 _ _)) (by first | rfl | assumption)) rfl (eqr _ (by first | rfl | exact lpl (by assumption) | (simp [AV.plain, AV.plains, AV.cells, AV.plain])))) (sco (sld rfl rfl (lda (n := 1) (by kernel_rfl) (by first | assumption | (simp (disch := first | omega | (simp only [hNw, hPt]; omega)) only [gN] <;> first | rfl | assumption | exact gp0 _ _ _ | exact gn0 _ _)) (by first | rfl | assumption)) rfl (eqr _ (by first | rfl | exact lpl (by assumption) | (simp [AV.plain, AV.plains, AV.cells, AV.plain])))) (sco (sld rfl rfl (lda (n := 1) (by kernel_rfl) (by first | assumption | (simp (disch := first | omega | (simp only [hNw, hPt]; omega)) only [gN] <;> first | rfl | assumption | exact gp0 _ _ _ | exact gn0 _ _)) (by first | rfl | assumption)) rfl (eqr _ (by first | rfl | exact lpl (by assumption) | (simp [AV.plain, AV.plains, AV.cells, AV.plain])))) (sco (sld rfl rfl (lda (n := 1) (by kernel_rfl) (by first | assumption | (simp (disch := first | omega | (simp only [hNw, hPt]; omega)) only [gN] <;> first | rfl | assumption | exact gp0 _ _ _ | exact gn0 _ _)) (by first | rfl | assumption)) rfl (eqr _ (by first | rfl | exact lpl (by assumption) | (simp [AV.plain, AV.plains, AV.cells, AV.plain])))) rfl))))))), ?_⟩
      refine OkP.step ?_
      refine OkO.store rfl rfl rfl (sAc (n := 1) (ag := false) (by kernel_rfl) (by first | assumption | (simp (disch := first | omega | (simp only [hNw, hPt]; omega)) only [gN] <;> first | rfl | assumption | exact gp0 _ _ _ | exact gn0 _ _)) rfl (by first | rfl | assumption) (by first | rfl | exact spl_set _ _ _ (by first | assumption | omega | (simp; omega)))) ?_
      refine OkO.nil ⟨rfl, ?_⟩
      refine OkP.nil ?_
      refine ⟨_, _, _, _, _, _, _, (by first | assumption | (simp (disch := first | omega | (simp only [hNw, hPt]; omega)) only [gN] <;> first | rfl | assumption | exact gp0 _ _ _ | exact gn0 _ _)), .inl ⟨rfl, rfl, ⟨(Grow.ext (W := W) (by (try dsimp only); repeat (first | exact hg9 | exact q2 | exact s2 | apply Grow.new | (refine Grow.put ?_ _ (by first | omega | (simp only [hNw, hPt]; omega)))))), (by first | omega | (simp only [hNw, hPt]; omega)), (by first | assumption | (simp (disch := first | omega | (simp only [hNw, hPt]; omega)) only [gN] <;> first | rfl | assumption | exact gp0 _ _ _ | exact gn0 _ _)), (by first | assumption | (simp (disch := first | omega | (simp only [hNw, hPt]; omega)) only [gN] <;> first | rfl | assumption | exact gp0 _ _ _ | exact gn0 _ _)), (by first | assumption | (simp (disch := first | omega | (simp only [hNw, hPt]; omega)) only [gN] <;> first | rfl | assumption | exact gp0 _ _ _ | exact gn0 _ _)), (by first | assumption | (simp (disch := first | omega | (simp only [hNw, hPt]; omega)) only [gN] <;> first | rfl | assumption | exact gp0 _ _ _ | exact gn0 _ _)), (by first | assumption | (simp (disch := first | omega | (simp only [hNw, hPt]; omega)) only [gN] <;> first | rfl | assumption | exact gp0 _ _ _ | exact gn0 _ _)), ⟨_, l ++ [] ++ [cost + B j], (by first | assumption | (simp (disch := first | omega | (simp only [hNw, hPt]; omega)) only [gN] <;> first | rfl | assumption | exact gp0 _ _ _ | exact gn0 _ _)), by simpa using (Mine.putO (Mine.put s1 _ (by omega)) _ (by first | exact p3y | (rw [gpo _ _ _ _ (by omega)]; exact p3y)) (by intro a b c; simp)), hlim.step hnx (.inr ⟨hr0, rfl⟩) (.inl ⟨hrl, rfl⟩), by simp; omega⟩, (by first | assumption | (simp (disch := first | omega | (simp only [hNw, hPt]; omega)) only [gN] <;> first | rfl | assumption | exact gp0 _ _ _ | exact gn0 _ _)), (by first | assumption | (simp (disch := first | omega | (simp only [hNw, hPt]; omega)) only [gN] <;> first | rfl | assumption | exact gp0 _ _ _ | exact gn0 _ _)), (by first | assumption | (simp (disch := first | omega | (simp only [hNw, hPt]; omega)) only [gN] <;> first | rfl | assumption | exact gp0 _ _ _ | exact gn0 _ _)), (by first | assumption | (simp (disch := first | omega | (simp only [hNw, hPt]; omega)) only [gN] <;> first | rfl | assumption | exact gp0 _ _ _ | exact gn0 _ _))⟩, (Nat.le_trans (Nat.le_of_eq hN) (Grow.lo (W := W) (by (try dsimp only); repeat (first | exact hg9 | exact q2 | exact s2 | apply Grow.new | (refine Grow.put ?_ _ (by first | omega | (simp only [hNw, hPt]; omega))))))), (by simp only [Heap.lo_put, Heap.lo_new]; omega), (by first | omega | (simp only [hNw, hPt]; omega))⟩⟩
    · -- no h3
      have hrl : ¬ r + 1 = L := by (have h9 : ¬ (r : Int) = (L : Int) - 1 := by simpa using h3); omega
      refine Ok.skip ?_
      refine ⟨_, _, _, _, _, _, _, (by first | assumption | (simp (disch := first | omega | (simp only [hNw, hPt]; omega)) only [gN] <;> first | rfl | assumption | exact gp0 _ _ _ | exact gn0 _ _)), .inl ⟨rfl, rfl, ⟨(Grow.ext (W := W) (by (try dsimp only); repeat (first | exact hg9 | exact q2 | exact s2 | apply Grow.new | (refine Grow.put ?_ _ (by first | omega | (simp only [hNw, hPt]; omega)))))), (by first | omega | (simp only [hNw, hPt]; omega)), (by first | assumption | (simp (disch := first | omega | (simp only [hNw, hPt]; omega)) only [gN] <;> first | rfl | assumption | exact gp0 _ _ _ | exact gn0 _ _)), (by first | assumption | (simp (disch := first | omega | (simp only [hNw, hPt]; omega)) only [gN] <;> first | rfl | assumption | exact gp0 _ _ _ | exact gn0 _ _)), (by first | assumption | (simp (disch := first | omega | (simp only [hNw, hPt]; omega)) only [gN] <;> first | rfl | assumption | exact gp0 _ _ _ | exact gn0 _ _)), (by first | assumption | (simp (disch := first | omega | (simp only [hNw, hPt]; omega)) only [gN] <;> first | rfl | assumption | exact gp0 _ _ _ | exact gn0 _ _)), (by first | assumption | (simp (disch := first | omega | (simp only [hNw, hPt]; omega)) only [gN] <;> first | rfl | assumption | exact gp0 _ _ _ | exact gn0 _ _)), ⟨_, l ++ [] ++ [], (by first | assumption | (simp (disch := first | omega | (simp only [hNw, hPt]; omega)) only [gN] <;> first | rfl | assumption | exact gp0 _ _ _ | exact gn0 _ _)), by simpa using (Mine.putO hm9 _ (by first | exact p3v | (rw [gpo _ _ _ _ (by omega)]; exact p3v)) (by intro a b c; simp)), hlim.step hnx (.inr ⟨hr0, rfl⟩) (.inr ⟨hrl, rfl⟩), by simp; omega⟩, (by first | assumption | (simp (disch := first | omega | (simp only [hNw, hPt]; omega)) only [gN] <;> first | rfl | assumption | exact gp0 _ _ _ | exact gn0 _ _)), (by first | assumption | (simp (disch := first | omega | (simp only [hNw, hPt]; omega)) only [gN] <;> first | rfl | assumption | exact gp0 _ _ _ | exact gn0 _ _)), (by first | assumption | (simp (disch := first | omega | (simp only [hNw, hPt]; omega)) only [gN] <;> first | rfl | assumption | exact gp0 _ _ _ | exact gn0 _ _)), (by first | assumption | (simp (disch := first | omega | (simp only [hNw, hPt]; omega)) only [gN] <;> first | rfl | assumption | exact gp0 _ _ _ | exact gn0 _ _))⟩, (Nat.le_trans (Nat.le_of_eq hN) (Grow.lo (W := W) (by (try dsimp only); repeat (first | exact hg9 | exact q2 | exact s2 | apply Grow.new | (refine Grow.put ?_ _ (by first | omega | (simp only [hNw, hPt]; omega))))))), (by simp only [Heap.lo_put, Heap.lo_new]; omega), (by first | omega | (simp only [hNw, hPt]; omega))⟩⟩
end
end Go.Ev

set_option maxRecDepth 100000
set_option linter.unusedSimpArgs false
set_option linter.unusedVariables false
namespace Go.Ev
open Go Go.Proofs
noncomputable section
/-- What a place of a table is given: the greatest number that is allowed. -/
def MostIs (cost : Int) (A B : Nat → Int) (r L c k n : Nat) (x : Int) : Prop :=
  x ≤ 1000000000000000 ∧ (r = 0 → x ≤ cost) ∧ (0 < c → ∀ i, Nxt n k i → (0 < r → x ≤ cost + A i) ∧ (r + 1 = L → x ≤ cost + B i)) ∧
    (x = 1000000000000000 ∨ (r = 0 ∧ x = cost) ∨ (0 < c ∧ ∃ i, Nxt n k i ∧ ((0 < r ∧ x = cost + A i) ∨ (r + 1 = L ∧ x = cost + B i))))
theorem flatI : ∀ (l : List Int), (l.map fun x => [I x]).flatten = l.map I
  | [] => rfl
  | a :: l => by rw [List.map_cons, List.flatten_cons, flatI l]; rfl
theorem lims_most {cost : Int} {A B : Nat → Int} {r L c k n : Nat} {l : List Int} (hc : 0 < c) (h : Lims cost A B r L k n (min (k + 2) n) l) : MostIs cost A B r L c k n (minL 1000000000000000 l) := by
  obtain ⟨h1, h2, h3⟩ := h
  have hm := minL_le l 1000000000000000
  refine ⟨hm.1, fun hr => hm.2 _ (h1 hr), fun _ i hi => ?_, ?_⟩
  · have hi2 := hi.2
    have hi1 := hi.1
    have := h2 i (by omega) (by omega) hi
    exact ⟨fun hr => hm.2 _ (this.1 hr), fun hr => hm.2 _ (this.2 hr)⟩
  · rcases minL_or l 1000000000000000 with h | h
    · exact .inl h
    · rcases h3 _ h with h | h
      · exact .inr (.inl h)
      · exact .inr (.inr ⟨hc, h⟩)
theorem most_edge {cost : Int} {A B : Nat → Int} {r L k n : Nat} {l : List Int} (h : (r = 0 ∧ l = [cost]) ∨ (r ≠ 0 ∧ l = [])) : MostIs cost A B r L 0 k n (minL 1000000000000000 l) := by
  rcases h with ⟨hr, rfl⟩ | ⟨hr, rfl⟩
  · have hm := minL_le [cost] 1000000000000000
    refine ⟨hm.1, fun _ => hm.2 _ (by simp), fun h => by omega, ?_⟩
    rcases minL_or [cost] 1000000000000000 with h | h
    · exact .inl h
    · simp at h
      exact .inr (.inl ⟨hr, h⟩)
  · exact ⟨Int.le_refl _, fun h => absurd h hr, fun h => by omega, .inl rfl⟩
theorem c100 (m : Nat) (cv tv : AV) (cols : List (List Bed)) (fa : Int) (A B : Nat → Int) (r L c k n : Nat) (H : Heap) (hM : Mat H cv cols) (hcl : ∀ c ∈ cols, c.length = n) (hok : BedsOk cols) (hf : 0 ≤ fa ∧ fa ≤ 10000) (hc : c < cols.length) (hk : k < n) (hN9 : cols.length ≤ 100) (hn9 : n ≤ 100) (hr9 : r ≤ 100) (hL9 : 1 ≤ L ∧ L ≤ 100) (hA : 0 < r → 0 < c → ∃ tl, TabAt H tv (r - 1) (c - 1) tl ∧ ∀ i, i < n → tl[i]? = some (A i)) (hB : r + 1 = L → 0 < c → ∃ tl, TabAt H tv r (c - 1) tl ∧ ∀ i, i < n → tl[i]? = some (B i)) (hAb : ∀ i, -10000000000000000 ≤ A i ∧ A i ≤ 10000000000000000) (hBb : ∀ i, -10000000000000000 ≤ B i ∧ B i ≤ 10000000000000000) (htv : ∃ q, lenOf tv = some q) : ∃ v H', RR (m + 5) (.fn 100 [.agg [cv, I (L : Int), I fa, .fn 66 [] []], tv, I (r : Int), .agg [I (c : Int), I (k : Int)]]) H = some (v, H') ∧ ∃ x, v = I x ∧ H' = H ∧ MostIs (prC cols fa c k) A B r L c k n x := by
  show ∃ v H', evFn Try.prog (RR (m + 4)) 100 [.agg [cv, I (L : Int), I fa, .fn 66 [] []], tv, I (r : Int), .agg [I (c : Int), I (k : Int)]] H = some (v, H') ∧ ∃ x, v = I x ∧ H' = H ∧ MostIs (prC cols fa c k) A B r L c k n x
  refine fn_okE Try.func100 rfl rfl (by kernel_rfl) (by kernel_rfl) ?_
  obtain ⟨W, hW, hg, hN, hE, hG⟩ := wOf H
  rw [← hW]
  obtain ⟨vs, hR, hvl, hv⟩ := id hM
  have hlen : lenOf cv = some cols.length := by rw [← hvl]; simpa using hR.len
  have pc : cv.plain = true := lpl hlen
  obtain ⟨tq, htl⟩ := htv
  have htc := len_cells htl
  obtain ⟨col, hp1, hp2⟩ := bedAt_get hcl hc hk
  obtain ⟨bed, hbed⟩ : ∃ bed, bed = bedAt cols c k := ⟨_, rfl⟩
  rw [← hbed] at hp2
  have hbok : bed.ok = true := by rw [hbed]; exact bedAt_ok hok c k
  have hpr : prC cols fa c k = costOf fa bed := by rw [hbed]; rfl
  have hcb := prC_bd hok hf c k
  rw [hpr] at hcb
  have hcn : col.length = n := hcl col (List.mem_of_getElem? hp1)
  have hcl2 : c < vs.length := by omega
  obtain ⟨cb, co, ccs, j1, j20, j3, j4⟩ := hR.at_ c [vs[c]] (by simp [hcl2])
  have j5 := seg_one j3
  have hlcol : lenOf vs[c] = some n := by rw [← hcn]; simpa using (hv c vs[c] col (by simp [hcl2]) hp1).len
  have j2 : (W.get cb).bind AObj.cs = some ccs := by rw [hg]; exact j20
  rw [hpr]
  refine Ok.seq ?_
  refine Ok.region ?_
  refine OkO.box rfl rfl ?_
  refine OkO.box rfl rfl ?_
  refine OkO.box rfl rfl ?_
  refine OkO.box rfl rfl ?_
  refine OkO.assign rfl rfl ?_
  refine OkO.nil ?_
  refine Ok.seq ?_
  refine Ok.region ?_
  refine OkO.load rfl rfl (ldg (n := 4) (by kernel_rfl) (by first | assumption | (simp (disch := first | omega | (simp only [hNw, hPt]; omega)) only [gN] <;> first | rfl | assumption | exact gp0 _ _ _ | exact gn0 _ _)) (by first | rfl | assumption)) ?_
  refine OkO.load rfl rfl (ldg (n := 2) (by kernel_rfl) (by first | assumption | (simp (disch := first | omega | (simp only [hNw, hPt]; omega)) only [gN] <;> first | rfl | assumption | exact gp0 _ _ _ | exact gn0 _ _)) (by first | rfl | assumption)) ?_
  refine OkO.callV rfl rfl rfl rfl rfl (c71 m cv cols (L : Int) fa c k col bed _ (hM.ext (hE _ (by (try dsimp only); repeat (first | exact hG | apply Grow.new | (refine Grow.put ?_ _ (by first | omega | (simp only [hNw, hPt]; omega))))))) hp1 hp2 hbok (by omega) (by omega) hf) ?_
  refine OkO.alloc (z := [.int .i64 0]) rfl (by kernel_rfl) ?_
  refine OkO.store rfl rfl rfl (sAc (n := 1) (ag := false) (by kernel_rfl) (by first | assumption | (simp (disch := first | omega | (simp only [hNw, hPt]; omega)) only [gN] <;> first | rfl | assumption | exact gp0 _ _ _ | exact gn0 _ _)) rfl (by first | rfl | assumption) (by first | rfl | exact spl_set _ _ _ (by first | assumption | omega | (simp; omega)))) ?_
  refine OkO.nil ?_
  refine Ok.seq ?_
  refine Ok.region ?_
  refine OkO.alloc (z := [.nils]) rfl (by kernel_rfl) ?_
  refine OkO.nil ?_
  refine Ok.seq ?_
  refine Ok.seq ?_
  refine Ok.region ?_
  refine OkO.load rfl rfl (lda (n := 1) (by kernel_rfl) (by first | assumption | (simp (disch := first | omega | (simp only [hNw, hPt]; omega)) only [gN] <;> first | rfl | assumption | exact gp0 _ _ _ | exact gn0 _ _)) (by first | rfl | assumption)) ?_
  refine OkO.bin rfl rfl rfl (bin_eql _ _) ?_
  refine OkO.nil ?_
  refine Ok.cond rfl (fun h1 => ?_) (fun h1 => ?_)
  · -- yes h1
    have hr0 : r = 0 := by (have h9 : (r : Int) = 0 := by simpa using h1); omega
    refine Ok.region ?_
    refine OkO.load rfl rfl (lda (n := 1) (by kernel_rfl) (by first | assumption | (simp (disch := first | omega | (simp only [hNw, hPt]; omega)) only [gN] <;> first | rfl | assumption | exact gp0 _ _ _ | exact gn0 _ _)) (by first | rfl | assumption)) ?_
    refine OkO.load rfl rfl (lda (n := 1) (by kernel_rfl) (by first | assumption | (simp (disch := first | omega | (simp only [hNw, hPt]; omega)) only [gN] <;> first | rfl | assumption | exact gp0 _ _ _ | exact gn0 _ _)) (by first | rfl | assumption)) ?_
    refine OkO.buildSlice (el := 3) (sz := 1) (z := [.int .i64 0]) rfl (by kernel_rfl) (by decide) rfl rfl ?_
    refine OkO.builtinE rfl rfl rfl (Mine.app2 (W := W) (k0 := W.next + 6) (t := 25) (u := 25) (sz := 1) (by_ := 8) (e := 3) (n := 1) (new := [I (costOf fa bed)]) (Mine.nil _ _ _ _) (by (try dsimp only); repeat (first | exact g3 | exact g2 | exact hG | apply Grow.new | (refine Grow.put ?_ _ (by first | omega | (simp only [hNw, hPt]; omega))))) (by omega) (by first | omega | (simp only [hNw, hPt]; omega)) (by kernel_rfl) (by kernel_rfl) (elems_new (n := 1) (sz := 1) rfl) rfl rfl (by simp) (by omega) (by omega) rfl) ?_
    rintro v2 G2 ⟨q1, g2, _, q4, q3, ⟨mv2, hv2⟩⟩
    obtain ⟨bk2, hbk2⟩ : ∃ bk, v2 = .opn bk mv2 := ⟨_, hv2⟩
    subst hbk2
    clear hv2
    simp only [hNw, hPt] at q3
    have b0x : G2.get (W.next) = some (.cells [cv, I (L : Int), I fa, .fn 66 [] []] 119) := by rw [q4 _ (by first | omega | (simp only [hNw, hPt]; omega)) (by intro m; simp)]; first | assumption | (simp (disch := first | omega | (simp only [hNw, hPt]; omega)) only [gN] <;> first | rfl | assumption | exact gp0 _ _ _ | exact gn0 _ _)
    have b1x : G2.get (W.next + 1) = some (.cells [tv] 60) := by rw [q4 _ (by first | omega | (simp only [hNw, hPt]; omega)) (by intro m; simp)]; simp (disch := first | omega | (simp only [hNw, hPt]; omega)) only [gN]; exact congrArg (fun l => some (AObj.cells l 60)) htc
    have b2x : G2.get (W.next + 2) = some (.cells [I (r : Int)] 3) := by rw [q4 _ (by first | omega | (simp only [hNw, hPt]; omega)) (by intro m; simp)]; first | assumption | (simp (disch := first | omega | (simp only [hNw, hPt]; omega)) only [gN] <;> first | rfl | assumption | exact gp0 _ _ _ | exact gn0 _ _)
    have b3x : G2.get (W.next + 3) = some (.cells [I (c : Int), I (k : Int)] 145) := by rw [q4 _ (by first | omega | (simp only [hNw, hPt]; omega)) (by intro m; simp)]; first | assumption | (simp (disch := first | omega | (simp only [hNw, hPt]; omega)) only [gN] <;> first | rfl | assumption | exact gp0 _ _ _ | exact gn0 _ _)
    have b4x : G2.get (W.next + 4) = some (.cells [I (costOf fa bed)] 3) := by rw [q4 _ (by first | omega | (simp only [hNw, hPt]; omega)) (by intro m; simp)]; first | assumption | (simp (disch := first | omega | (simp only [hNw, hPt]; omega)) only [gN] <;> first | rfl | assumption | exact gp0 _ _ _ | exact gn0 _ _)
    have eb0x : (G2.get (W.next)).bind AObj.cs = some [cv, I (L : Int), I fa, .fn 66 [] []] := by rw [b0x]; rfl
    have eb1x : (G2.get (W.next + 1)).bind AObj.cs = some [tv] := by rw [b1x]; rfl
    have eb2x : (G2.get (W.next + 2)).bind AObj.cs = some [I (r : Int)] := by rw [b2x]; rfl
    have eb3x : (G2.get (W.next + 3)).bind AObj.cs = some [I (c : Int), I (k : Int)] := by rw [b3x]; rfl
    have eb4x : (G2.get (W.next + 4)).bind AObj.cs = some [I (costOf fa bed)] := by rw [b4x]; rfl
    have b5x : G2.get (W.next + 5) = some (.cells [.nils] 25) := by rw [q4 _ (by first | omega | (simp only [hNw, hPt]; omega)) (by intro m; simp)]; first | assumption | (simp (disch := first | omega | (simp only [hNw, hPt]; omega)) only [gN] <;> first | rfl | assumption | exact gp0 _ _ _ | exact gn0 _ _)
    have eb5x : (G2.get (W.next + 5)).bind AObj.cs = some [.nils] := by rw [b5x]; rfl
    have hcbx : (G2.get cb).bind AObj.cs = some ccs := by rw [g2.get _ (by omega), hg]; exact j20
    obtain ⟨ml2, hl2, _⟩ := q1.len
    refine OkO.store rfl rfl rfl (sAc (n := 1) (ag := false) (by kernel_rfl) (by first | assumption | (simp (disch := first | omega | (simp only [hNw, hPt]; omega)) only [gN] <;> first | rfl | assumption | exact gp0 _ _ _ | exact gn0 _ _)) rfl (by first | rfl | assumption) (by first | rfl | exact spl_set _ _ _ (by first | assumption | omega | (simp; omega)))) ?_
    refine OkO.nil ?_
    refine Ok.seq ?_
    refine Ok.seq ?_
    refine Ok.region ?_
    refine OkO.fieldAddr (o := 0) rfl (by kernel_rfl) rfl ?_
    refine OkO.load rfl rfl (lda (n := 1) (by kernel_rfl) (by first | assumption | (simp (disch := first | omega | (simp only [hNw, hPt]; omega)) only [gN] <;> first | rfl | assumption | exact gp0 _ _ _ | exact gn0 _ _)) (by first | rfl | assumption)) ?_
    refine OkO.bin rfl rfl rfl (bin_eql _ _) ?_
    refine OkO.nil ?_
    refine Ok.cond rfl (fun h2 => ?_) (fun h2 => ?_)
    · -- yes h2
      have hc0 : c = 0 := by (have h9 : (c : Int) = 0 := by simpa using h2); omega
      refine Ok.seq ?_
      refine Ok.region ?_
      refine OkO.load rfl rfl (lda (n := 1) (by kernel_rfl) (by first | assumption | (simp (disch := first | omega | (simp only [hNw, hPt]; omega)) only [gN] <;> first | rfl | assumption | exact gp0 _ _ _ | exact gn0 _ _)) (by first | rfl | assumption)) ?_
      refine OkO.callV rfl rfl rfl rfl rfl (c110 (m + 3) (.opn bk2 mv2) 1000000000000000 [costOf fa bed] _ (Mine.row (l := [costOf fa bed].map fun x => [I x]) (Mine.put (n := W.next + 5) q1 _ (by omega)) (fun x hx => by simp at hx; rw [hx]; rfl) (by omega)) (by simp)) ?_
      refine OkO.assign rfl rfl ?_
      refine OkO.nil ?_
      refine Ok.ret ⟨.inr rfl, ?_⟩
      exact ⟨_, _, back_flat rfl rfl rfl (by rw [← hW]; exact (by (try dsimp only); repeat (first | exact g3 | exact g2 | exact hG | apply Grow.new | (refine Grow.put ?_ _ (by first | omega | (simp only [hNw, hPt]; omega)))))), _, rfl, rfl, by (subst hc0; exact most_edge (.inl ⟨hr0, rfl⟩))⟩
    · -- no h2
      have hc0 : c ≠ 0 := by (intro h9; rw [h9] at h2; simp at h2)
      obtain ⟨c1, hc1⟩ : ∃ c1, c = c1 + 1 := ⟨c - 1, by omega⟩
      subst hc1
      refine Ok.skip ?_
      refine Ok.seq ?_
      refine Ok.seq ?_
      refine Ok.drawn [(0, true, []), (1, true, []), (2, true, []), (3, true, []), (4, true, []), (5, true, []), (6, true, []), (7, true, []), (8, true, []), (9, true, []), (10, false, [8, 6, 4])] (by kernel_rfl) ?_
      refine OkP.step ?_
      refine OkO.fieldAddr (o := 1) rfl (by kernel_rfl) rfl ?_
      refine OkO.nil ⟨rfl, ?_⟩
      refine OkP.step ?_
      refine OkO.load rfl rfl (lda (n := 1) (by kernel_rfl) (by first | assumption | (simp (disch := first | omega | (simp only [hNw, hPt]; omega)) only [gN] <;> first | rfl | assumption | exact gp0 _ _ _ | exact gn0 _ _)) (by first | rfl | assumption)) ?_
      refine OkO.nil ⟨rfl, ?_⟩
      refine OkP.step ?_
      refine OkO.fieldAddr (o := 0) rfl (by kernel_rfl) rfl ?_
      refine OkO.nil ⟨rfl, ?_⟩
      refine OkP.step ?_
      refine OkO.fieldAddr (o := 0) rfl (by kernel_rfl) rfl ?_
      refine OkO.nil ⟨rfl, ?_⟩
      refine OkP.step ?_
      refine OkO.load rfl rfl (lda (n := 1) (by kernel_rfl) (by first | assumption | (simp (disch := first | omega | (simp only [hNw, hPt]; omega)) only [gN] <;> first | rfl | assumption | exact gp0 _ _ _ | exact gn0 _ _)) (by first | rfl | assumption)) ?_
      refine OkO.nil ⟨rfl, ?_⟩
      refine OkP.step ?_
      refine OkO.fieldAddr (o := 0) rfl (by kernel_rfl) rfl ?_
      refine OkO.nil ⟨rfl, ?_⟩
      refine OkP.step ?_
      refine OkO.load rfl rfl (lda (n := 1) (by kernel_rfl) (by first | assumption | (simp (disch := first | omega | (simp only [hNw, hPt]; omega)) only [gN] <;> first | rfl | assumption | exact gp0 _ _ _ | exact gn0 _ _)) (by first | rfl | assumption)) ?_
      refine OkO.nil ⟨rfl, ?_⟩
      refine OkP.step ?_
      refine OkO.index (sz := 1) (n := c1 + 1) rfl rfl rfl (by kernel_rfl) (by first | assumption | rfl | exact slAt_slice (by omega) | exact slAt_opn (by omega)) ?_
      refine OkO.nil ⟨rfl, ?_⟩
      refine OkP.step ?_
      refine OkO.load rfl rfl (lda (n := 1) (by kernel_rfl) (by first | assumption | (simp (disch := first | omega | (simp only [hNw, hPt]; omega)) only [gN] <;> first | rfl | assumption | exact gp0 _ _ _ | exact gn0 _ _)) (by first | rfl | assumption)) ?_
      refine OkO.nil ⟨rfl, ?_⟩
      refine OkP.step ?_
      refine OkO.builtin rfl rfl rfl (bln (by kernel_rfl) (by first | assumption | rfl)) ?_
      refine OkO.nil ⟨rfl, ?_⟩
      refine OkP.step ?_
      refine OkO.callE rfl rfl rfl rfl rfl (c111 (m + 3) (k : Int) (n : Int) _) ?_
      rintro v111 H111 ⟨rfl, q111, z5, z6, n111⟩
      have n111p : H111.next = G2.next + 2 := n111
      have b0z : H111.get (W.next) = some (.cells [cv, I (L : Int), I fa, .fn 66 [] []] 119) := by rw [q111.ext.get _ (by first | omega | (simp only [hNw, hPt]; omega))]; first | assumption | exact (by first | assumption | (simp (disch := first | omega | (simp only [hNw, hPt]; omega)) only [gN] <;> first | rfl | assumption | exact gp0 _ _ _ | exact gn0 _ _))
      have b1z : H111.get (W.next + 1) = some (.cells [tv] 60) := by rw [q111.ext.get _ (by first | omega | (simp only [hNw, hPt]; omega))]; first | assumption | exact (by simp (disch := first | omega | (simp only [hNw, hPt]; omega)) only [gN]; first | assumption | exact congrArg (fun l => some (AObj.cells l 60)) htc)
      have b2z : H111.get (W.next + 2) = some (.cells [I (r : Int)] 3) := by rw [q111.ext.get _ (by first | omega | (simp only [hNw, hPt]; omega))]; first | assumption | exact (by first | assumption | (simp (disch := first | omega | (simp only [hNw, hPt]; omega)) only [gN] <;> first | rfl | assumption | exact gp0 _ _ _ | exact gn0 _ _))
      have b3z : H111.get (W.next + 3) = some (.cells [I ((c1 + 1 : Nat) : Int), I (k : Int)] 145) := by rw [q111.ext.get _ (by first | omega | (simp only [hNw, hPt]; omega))]; first | assumption | exact (by first | assumption | (simp (disch := first | omega | (simp only [hNw, hPt]; omega)) only [gN] <;> first | rfl | assumption | exact gp0 _ _ _ | exact gn0 _ _))
      have b4z : H111.get (W.next + 4) = some (.cells [I (costOf fa bed)] 3) := by rw [q111.ext.get _ (by first | omega | (simp only [hNw, hPt]; omega))]; first | assumption | exact (by first | assumption | (simp (disch := first | omega | (simp only [hNw, hPt]; omega)) only [gN] <;> first | rfl | assumption | exact gp0 _ _ _ | exact gn0 _ _))
      have eb0z : (H111.get (W.next)).bind AObj.cs = some [cv, I (L : Int), I fa, .fn 66 [] []] := by rw [b0z]; rfl
      have eb1z : (H111.get (W.next + 1)).bind AObj.cs = some [tv] := by rw [b1z]; rfl
      have eb2z : (H111.get (W.next + 2)).bind AObj.cs = some [I (r : Int)] := by rw [b2z]; rfl
      have eb3z : (H111.get (W.next + 3)).bind AObj.cs = some [I ((c1 + 1 : Nat) : Int), I (k : Int)] := by rw [b3z]; rfl
      have eb4z : (H111.get (W.next + 4)).bind AObj.cs = some [I (costOf fa bed)] := by rw [b4z]; rfl
      have b5z : H111.get (W.next + 5) = some (.cells [.opn bk2 mv2] 25) := by rw [q111.ext.get _ (by first | omega | (simp only [hNw, hPt]; omega))]; first | exact gp0 _ _ _ | exact gn0 _ _
      have g111 : Grow W H111 := Grow.ret (by (try dsimp only); repeat (first | exact g3 | exact g2 | exact hG | apply Grow.new | (refine Grow.put ?_ _ (by first | omega | (simp only [hNw, hPt]; omega))))) q111
      have hcbz : (H111.get cb).bind AObj.cs = some ccs := by rw [g111.get _ (by omega), hg]; exact j20
      have m5z : Mine (W.next + 6) H111 (.opn bk2 mv2) 3 1 (([costOf fa bed] : List Int).map I) := (Mine.put (n := W.next + 5) q1 (.cells [.opn bk2 mv2] 25) (by omega)).to q111.ext
      refine OkO.nil ⟨(sco (sld rfl rfl (lda (n := 1) (by kernel_rfl) (by first | assumption | (simp (disch := first | omega | (simp only [hNw, hPt]; omega)) only [gN] <;> first | rfl | assumption | exact gp0 _ _ _ | exact gn0 _ _)) (by first | rfl | assumption)) rfl (eqr _ (by first | rfl | exact lpl (by assumption) | (simp [AV.plain, AV.plains, AV.cells, pc])))) (sco (sld rfl rfl (lda (n := 1) (by kernel_rfl) (by first | assumption | (simp (disch := first | omega | (simp only [hNw, hPt]; omega)) only [gN] <;> first | rfl | assumption | exact gp0 _ _ _ | exact gn0 _ _)) (by first | rfl | assumption)) rfl (eqr _ (by first | rfl | exact lpl (by assumption) | (simp [AV.plain, AV.plains, AV.cells, pc])))) (sco (sld rfl rfl (lda (n := 1) (by kernel_rfl) (by first | assumption | (simp (disch := first | omega | (simp only [hNw, hPt]; omega)) only [gN] <;> first | rfl | assumption | exact gp0 _ _ _ | exact gn0 _ _)) (by first | rfl | assumption)) rfl (eqr _ (by first | rfl | exact lpl (by assumption) | (simp [AV.plain, AV.plains, AV.cells, pc])))) rfl))), ?_⟩
      refine OkP.nil ?_
      refine Ok.block ?_
      refine Ok.rangeX rfl rfl (fun T0 hT0 => ?_)
      have hH : Has 7 [(4, .ptr W.next 0), (5, .ptr (W.next + 1) 0), (6, .ptr (W.next + 2) 0), (7, .ptr (W.next + 3) 0), (9, .ptr (W.next + 4) 0), (10, .ptr (W.next + 5) 0)] T0 := by rw [hT0]; exact Has.of (by kernel_rfl)
      have hJ0 : MoJ W W.next G2.next cv tv fa (costOf fa bed) A B r L c1 k n T0 (k - 1) ((H111.new .defd).new (.loop .ready none T0 [37] as100 bd100 (G2.next + 2))) := ⟨(g111.ext.new _).new _, by simp only [hNw]; omega, by rw [gno _ _ _ (by simp only [hNw]; omega), gno _ _ _ (by omega)]; exact b0z, by rw [gno _ _ _ (by simp only [hNw]; omega), gno _ _ _ (by omega)]; exact b1z, by rw [gno _ _ _ (by simp only [hNw]; omega), gno _ _ _ (by omega)]; exact b2z, by rw [gno _ _ _ (by simp only [hNw]; omega), gno _ _ _ (by omega)]; exact b3z, by rw [gno _ _ _ (by simp only [hNw]; omega), gno _ _ _ (by omega)]; exact b4z, ⟨.opn bk2 mv2, [costOf fa bed], by rw [gno _ _ _ (by simp only [hNw]; omega), gno _ _ _ (by omega)]; exact b5z, (m5z.to (Grow.toNew _ _)).to (Grow.toNew _ _), ⟨fun _ => by simp, fun i i1 i2 _ => by omega, fun x hx => .inl ⟨hr0, by simpa using hx⟩⟩, by simp⟩, by rw [gno _ _ _ (by simp only [hNw]; omega), gno _ _ _ (by omega)]; exact z5, by rw [gno _ _ _ (by simp only [hNw]; omega), gno _ _ _ (by omega)]; exact z6, by rw [gno _ _ _ (by simp only [hNw]; omega), ← n111p]; exact gn0 _ _, by rw [show G2.next + 3 = H111.next + 1 from by omega]; exact gn1 _ _ _⟩
      have hA' : 0 < r → ∃ tl, TabAt W tv (r - 1) c1 tl ∧ ∀ i, i < n → tl[i]? = some (A i) := fun h9 => by (obtain ⟨tl, t1, t2⟩ := hA h9 (by omega); exact ⟨tl, t1.ext ⟨by omega, fun j _ => hg j⟩, t2⟩)
      have hB' : r + 1 = L → ∃ tl, TabAt W tv r c1 tl ∧ ∀ i, i < n → tl[i]? = some (B i) := fun h9 => by (obtain ⟨tl, t1, t2⟩ := hB h9 (by omega); exact ⟨tl, t1.ext ⟨by omega, fun j _ => hg j⟩, t2⟩)
      obtain ⟨v3, H3, k1, k2, k3⟩ := c112 (m + 3) (G2.next + 3) G2.next (G2.next + 1) W.next k n (MoJ W W.next G2.next cv tv fa (costOf fa bed) A B r L c1 k n T0) ((H111.new .defd).new (.loop .ready none T0 [37] as100 bd100 (G2.next + 2))) (fun i G G' h x => h.to (by omega) x) (fun i G h => ⟨by rw [h.p0]; rfl, by rw [h.p1]; rfl, by have := h.nx; omega⟩) (fun i G i1 i2 i3 hj hk9 => r100 (m + 2) W.next G2.next cv tv fa _ A B r L c1 k n i T0 W G rfl (by omega) hH hj hk9 hA' hB' hcb hAb hBb hr9 hL9 (by omega) (by omega) (by omega) i1 i2 i3) hJ0 (by show W.next ≤ H111.lo; exact g111.lo) (by omega) hk (by omega)
      have kn := k2.nx
      obtain ⟨lv, l, y5, ym, ylim, yl⟩ := k2.b5
      have ey5 : (H3.get (W.next + 5)).bind AObj.cs = some [lv] := by rw [y5]; rfl
      have y7 := k2.p2
      have y8 := k2.p3
      obtain ⟨mly, hly, _⟩ := ym.len
      have g3 : Grow W H3 := ⟨k2.ext.next, k2.ext.get, k3⟩
      rw [n111p]
      refine ⟨v3, H3, k1, _, _, T0, [37], as100, bd100, G2.next + 2, y8, .inl ⟨rfl, rfl, ?_⟩⟩
      clear k1 hJ0
      refine Ok.seq ?_
      refine Ok.region ?_
      refine OkO.load rfl rfl (lda (n := 1) (by kernel_rfl) (by first | assumption | (simp (disch := first | omega | (simp only [hNw, hPt]; omega)) only [gN] <;> first | rfl | assumption | exact gp0 _ _ _ | exact gn0 _ _)) (by first | rfl | assumption)) ?_
      refine OkO.callV rfl rfl rfl rfl rfl (c110 (m + 3) lv 1000000000000000 l _ (Mine.row (l := l.map fun x => [I x]) (by rw [flatI]; exact (ym.putO _ y8 (by intro a b c; simp)).putO _ (gp0 _ _ _) (by intro a b c; simp)) (fun x hx => by obtain ⟨y, _, rfl⟩ := List.mem_map.1 hx; rfl) (by omega)) (by omega)) ?_
      refine OkO.assign rfl rfl ?_
      refine OkO.nil ?_
      refine Ok.ret ⟨.inr rfl, ?_⟩
      rw [back_mark (d := G2.next + 2) (by first | assumption | (simp (disch := first | omega | (simp only [hNw, hPt]; omega)) only [gN] <;> first | rfl | assumption | exact gp0 _ _ _ | exact gn0 _ _))]
      exact ⟨_, _, back_flat (resV_tmp rfl resV_nil) rfl rfl (by rw [← hW]; exact (by (try dsimp only); repeat (first | exact g3 | exact g2 | exact hG | apply Grow.new | (refine Grow.put ?_ _ (by first | omega | (simp only [hNw, hPt]; omega)))))), _, rfl, rfl, lims_most (by omega) ylim⟩
  · -- no h1
    have hr0 : r ≠ 0 := by (intro h9; rw [h9] at h1; simp at h1)
    refine Ok.skip ?_
    refine Ok.seq ?_
    refine Ok.seq ?_
    refine Ok.region ?_
    refine OkO.fieldAddr (o := 0) rfl (by kernel_rfl) rfl ?_
    refine OkO.load rfl rfl (lda (n := 1) (by kernel_rfl) (by first | assumption | (simp (disch := first | omega | (simp only [hNw, hPt]; omega)) only [gN] <;> first | rfl | assumption | exact gp0 _ _ _ | exact gn0 _ _)) (by first | rfl | assumption)) ?_
    refine OkO.bin rfl rfl rfl (bin_eql _ _) ?_
    refine OkO.nil ?_
    refine Ok.cond rfl (fun h3 => ?_) (fun h3 => ?_)
    · -- yes h3
      have hc0 : c = 0 := by (have h9 : (c : Int) = 0 := by simpa using h3); omega
      refine Ok.seq ?_
      refine Ok.region ?_
      refine OkO.load rfl rfl (lda (n := 1) (by kernel_rfl) (by first | assumption | (simp (disch := first | omega | (simp only [hNw, hPt]; omega)) only [gN] <;> first | rfl | assumption | exact gp0 _ _ _ | exact gn0 _ _)) (by first | rfl | assumption)) ?_
      refine OkO.callV rfl rfl rfl rfl rfl (c110 (m + 3) .nils 1000000000000000 [] _ (Row.nil _ _) (by simp)) ?_
      refine OkO.assign rfl rfl ?_
      refine OkO.nil ?_
      refine Ok.ret ⟨.inr rfl, ?_⟩
      exact ⟨_, _, back_flat rfl rfl rfl (by rw [← hW]; exact (by (try dsimp only); repeat (first | exact g3 | exact g2 | exact hG | apply Grow.new | (refine Grow.put ?_ _ (by first | omega | (simp only [hNw, hPt]; omega)))))), _, rfl, rfl, by (subst hc0; exact most_edge (.inr ⟨hr0, rfl⟩))⟩
    · -- no h3
      have hc0 : c ≠ 0 := by (intro h9; rw [h9] at h3; simp at h3)
      obtain ⟨c1, hc1⟩ : ∃ c1, c = c1 + 1 := ⟨c - 1, by omega⟩
      subst hc1
      refine Ok.skip ?_
      refine Ok.seq ?_
      refine Ok.seq ?_
      refine Ok.drawn [(0, true, []), (1, true, []), (2, true, []), (3, true, []), (4, true, []), (5, true, []), (6, true, []), (7, true, []), (8, true, []), (9, true, []), (10, false, [8, 6, 4])] (by kernel_rfl) ?_
      refine OkP.step ?_
      refine OkO.fieldAddr (o := 1) rfl (by kernel_rfl) rfl ?_
      refine OkO.nil ⟨rfl, ?_⟩
      refine OkP.step ?_
      refine OkO.load rfl rfl (lda (n := 1) (by kernel_rfl) (by first | assumption | (simp (disch := first | omega | (simp only [hNw, hPt]; omega)) only [gN] <;> first | rfl | assumption | exact gp0 _ _ _ | exact gn0 _ _)) (by first | rfl | assumption)) ?_
      refine OkO.nil ⟨rfl, ?_⟩
      refine OkP.step ?_
      refine OkO.fieldAddr (o := 0) rfl (by kernel_rfl) rfl ?_
      refine OkO.nil ⟨rfl, ?_⟩
      refine OkP.step ?_
      refine OkO.fieldAddr (o := 0) rfl (by kernel_rfl) rfl ?_
      refine OkO.nil ⟨rfl, ?_⟩
      refine OkP.step ?_
      refine OkO.load rfl rfl (lda (n := 1) (by kernel_rfl) (by first | assumption | (simp (disch := first | omega | (simp only [hNw, hPt]; omega)) only [gN] <;> first | rfl | assumption | exact gp0 _ _ _ | exact gn0 _ _)) (by first | rfl | assumption)) ?_
      refine OkO.nil ⟨rfl, ?_⟩
      refine OkP.step ?_
      refine OkO.fieldAddr (o := 0) rfl (by kernel_rfl) rfl ?_
      refine OkO.nil ⟨rfl, ?_⟩
      refine OkP.step ?_
      refine OkO.load rfl rfl (lda (n := 1) (by kernel_rfl) (by first | assumption | (simp (disch := first | omega | (simp only [hNw, hPt]; omega)) only [gN] <;> first | rfl | assumption | exact gp0 _ _ _ | exact gn0 _ _)) (by first | rfl | assumption)) ?_
      refine OkO.nil ⟨rfl, ?_⟩
      refine OkP.step ?_
      refine OkO.index (sz := 1) (n := c1 + 1) rfl rfl rfl (by kernel_rfl) (by first | assumption | rfl | exact slAt_slice (by omega) | exact slAt_opn (by omega)) ?_
      refine OkO.nil ⟨rfl, ?_⟩
      refine OkP.step ?_
      refine OkO.load rfl rfl (lda (n := 1) (by kernel_rfl) (by first | assumption | (simp (disch := first | omega | (simp only [hNw, hPt]; omega)) only [gN] <;> first | rfl | assumption | exact gp0 _ _ _ | exact gn0 _ _)) (by first | rfl | assumption)) ?_
      refine OkO.nil ⟨rfl, ?_⟩
      refine OkP.step ?_
      refine OkO.builtin rfl rfl rfl (bln (by kernel_rfl) (by first | assumption | rfl)) ?_
      refine OkO.nil ⟨rfl, ?_⟩
      refine OkP.step ?_
      refine OkO.callE rfl rfl rfl rfl rfl (c111 (m + 3) (k : Int) (n : Int) _) ?_
      rintro v111 H111 ⟨rfl, q111, z5, z6, n111⟩
      have n111p : H111.next = (W.next + 6) + 2 := n111
      have b0z : H111.get (W.next) = some (.cells [cv, I (L : Int), I fa, .fn 66 [] []] 119) := by rw [q111.ext.get _ (by first | omega | (simp only [hNw, hPt]; omega))]; first | assumption | exact (by first | assumption | (simp (disch := first | omega | (simp only [hNw, hPt]; omega)) only [gN] <;> first | rfl | assumption | exact gp0 _ _ _ | exact gn0 _ _))
      have b1z : H111.get (W.next + 1) = some (.cells [tv] 60) := by rw [q111.ext.get _ (by first | omega | (simp only [hNw, hPt]; omega))]; first | assumption | exact (by simp (disch := first | omega | (simp only [hNw, hPt]; omega)) only [gN]; first | assumption | exact congrArg (fun l => some (AObj.cells l 60)) htc)
      have b2z : H111.get (W.next + 2) = some (.cells [I (r : Int)] 3) := by rw [q111.ext.get _ (by first | omega | (simp only [hNw, hPt]; omega))]; first | assumption | exact (by first | assumption | (simp (disch := first | omega | (simp only [hNw, hPt]; omega)) only [gN] <;> first | rfl | assumption | exact gp0 _ _ _ | exact gn0 _ _))
      have b3z : H111.get (W.next + 3) = some (.cells [I ((c1 + 1 : Nat) : Int), I (k : Int)] 145) := by rw [q111.ext.get _ (by first | omega | (simp only [hNw, hPt]; omega))]; first | assumption | exact (by first | assumption | (simp (disch := first | omega | (simp only [hNw, hPt]; omega)) only [gN] <;> first | rfl | assumption | exact gp0 _ _ _ | exact gn0 _ _))
      have b4z : H111.get (W.next + 4) = some (.cells [I (costOf fa bed)] 3) := by rw [q111.ext.get _ (by first | omega | (simp only [hNw, hPt]; omega))]; first | assumption | exact (by first | assumption | (simp (disch := first | omega | (simp only [hNw, hPt]; omega)) only [gN] <;> first | rfl | assumption | exact gp0 _ _ _ | exact gn0 _ _))
      have eb0z : (H111.get (W.next)).bind AObj.cs = some [cv, I (L : Int), I fa, .fn 66 [] []] := by rw [b0z]; rfl
      have eb1z : (H111.get (W.next + 1)).bind AObj.cs = some [tv] := by rw [b1z]; rfl
      have eb2z : (H111.get (W.next + 2)).bind AObj.cs = some [I (r : Int)] := by rw [b2z]; rfl
      have eb3z : (H111.get (W.next + 3)).bind AObj.cs = some [I ((c1 + 1 : Nat) : Int), I (k : Int)] := by rw [b3z]; rfl
      have eb4z : (H111.get (W.next + 4)).bind AObj.cs = some [I (costOf fa bed)] := by rw [b4z]; rfl
      have b5z : H111.get (W.next + 5) = some (.cells [.nils] 25) := by rw [q111.ext.get _ (by first | omega | (simp only [hNw, hPt]; omega))]; first | exact gp0 _ _ _ | exact gn0 _ _
      have g111 : Grow W H111 := Grow.ret (by (try dsimp only); repeat (first | exact g3 | exact g2 | exact hG | apply Grow.new | (refine Grow.put ?_ _ (by first | omega | (simp only [hNw, hPt]; omega))))) q111
      have hcbz : (H111.get cb).bind AObj.cs = some ccs := by rw [g111.get _ (by omega), hg]; exact j20
      have m5z : Mine (W.next + 6) H111 (.nils) 3 1 (([] : List Int).map I) := Mine.nil _ _ _ _
      refine OkO.nil ⟨(sco (sld rfl rfl (lda (n := 1) (by kernel_rfl) (by first | assumption | (simp (disch := first | omega | (simp only [hNw, hPt]; omega)) only [gN] <;> first | rfl | assumption | exact gp0 _ _ _ | exact gn0 _ _)) (by first | rfl | assumption)) rfl (eqr _ (by first | rfl | exact lpl (by assumption) | (simp [AV.plain, AV.plains, AV.cells, pc])))) (sco (sld rfl rfl (lda (n := 1) (by kernel_rfl) (by first | assumption | (simp (disch := first | omega | (simp only [hNw, hPt]; omega)) only [gN] <;> first | rfl | assumption | exact gp0 _ _ _ | exact gn0 _ _)) (by first | rfl | assumption)) rfl (eqr _ (by first | rfl | exact lpl (by assumption) | (simp [AV.plain, AV.plains, AV.cells, pc])))) (sco (sld rfl rfl (lda (n := 1) (by kernel_rfl) (by first | assumption | (simp (disch := first | omega | (simp only [hNw, hPt]; omega)) only [gN] <;> first | rfl | assumption | exact gp0 _ _ _ | exact gn0 _ _)) (by first | rfl | assumption)) rfl (eqr _ (by first | rfl | exact lpl (by assumption) | (simp [AV.plain, AV.plains, AV.cells, pc])))) rfl))), ?_⟩
      refine OkP.nil ?_
      refine Ok.block ?_
      refine Ok.rangeX rfl rfl (fun T0 hT0 => ?_)
      have hH : Has 7 [(4, .ptr W.next 0), (5, .ptr (W.next + 1) 0), (6, .ptr (W.next + 2) 0), (7, .ptr (W.next + 3) 0), (9, .ptr (W.next + 4) 0), (10, .ptr (W.next + 5) 0)] T0 := by rw [hT0]; exact Has.of (by kernel_rfl)
      have hJ0 : MoJ W W.next (W.next + 6) cv tv fa (costOf fa bed) A B r L c1 k n T0 (k - 1) ((H111.new .defd).new (.loop .ready none T0 [37] as100 bd100 ((W.next + 6) + 2))) := ⟨(g111.ext.new _).new _, by simp only [hNw]; omega, by rw [gno _ _ _ (by simp only [hNw]; omega), gno _ _ _ (by omega)]; exact b0z, by rw [gno _ _ _ (by simp only [hNw]; omega), gno _ _ _ (by omega)]; exact b1z, by rw [gno _ _ _ (by simp only [hNw]; omega), gno _ _ _ (by omega)]; exact b2z, by rw [gno _ _ _ (by simp only [hNw]; omega), gno _ _ _ (by omega)]; exact b3z, by rw [gno _ _ _ (by simp only [hNw]; omega), gno _ _ _ (by omega)]; exact b4z, ⟨.nils, [], by rw [gno _ _ _ (by simp only [hNw]; omega), gno _ _ _ (by omega)]; exact b5z, (m5z.to (Grow.toNew _ _)).to (Grow.toNew _ _), ⟨fun h9 => absurd h9 hr0, fun i i1 i2 _ => by omega, fun x hx => by simp at hx⟩, by simp⟩, by rw [gno _ _ _ (by simp only [hNw]; omega), gno _ _ _ (by omega)]; exact z5, by rw [gno _ _ _ (by simp only [hNw]; omega), gno _ _ _ (by omega)]; exact z6, by rw [gno _ _ _ (by simp only [hNw]; omega), ← n111p]; exact gn0 _ _, by rw [show (W.next + 6) + 3 = H111.next + 1 from by omega]; exact gn1 _ _ _⟩
      have hA' : 0 < r → ∃ tl, TabAt W tv (r - 1) c1 tl ∧ ∀ i, i < n → tl[i]? = some (A i) := fun h9 => by (obtain ⟨tl, t1, t2⟩ := hA h9 (by omega); exact ⟨tl, t1.ext ⟨by omega, fun j _ => hg j⟩, t2⟩)
      have hB' : r + 1 = L → ∃ tl, TabAt W tv r c1 tl ∧ ∀ i, i < n → tl[i]? = some (B i) := fun h9 => by (obtain ⟨tl, t1, t2⟩ := hB h9 (by omega); exact ⟨tl, t1.ext ⟨by omega, fun j _ => hg j⟩, t2⟩)
      obtain ⟨v3, H3, k1, k2, k3⟩ := c112 (m + 3) ((W.next + 6) + 3) (W.next + 6) ((W.next + 6) + 1) W.next k n (MoJ W W.next (W.next + 6) cv tv fa (costOf fa bed) A B r L c1 k n T0) ((H111.new .defd).new (.loop .ready none T0 [37] as100 bd100 ((W.next + 6) + 2))) (fun i G G' h x => h.to (by omega) x) (fun i G h => ⟨by rw [h.p0]; rfl, by rw [h.p1]; rfl, by have := h.nx; omega⟩) (fun i G i1 i2 i3 hj hk9 => r100 (m + 2) W.next (W.next + 6) cv tv fa _ A B r L c1 k n i T0 W G rfl (by omega) hH hj hk9 hA' hB' hcb hAb hBb hr9 hL9 (by omega) (by omega) (by omega) i1 i2 i3) hJ0 (by show W.next ≤ H111.lo; exact g111.lo) (by omega) hk (by omega)
      have kn := k2.nx
      obtain ⟨lv, l, y5, ym, ylim, yl⟩ := k2.b5
      have ey5 : (H3.get (W.next + 5)).bind AObj.cs = some [lv] := by rw [y5]; rfl
      have y7 := k2.p2
      have y8 := k2.p3
      obtain ⟨mly, hly, _⟩ := ym.len
      have g3 : Grow W H3 := ⟨k2.ext.next, k2.ext.get, k3⟩
      rw [n111p]
      refine ⟨v3, H3, k1, _, _, T0, [37], as100, bd100, (W.next + 6) + 2, y8, .inl ⟨rfl, rfl, ?_⟩⟩
      clear k1 hJ0
      refine Ok.seq ?_
      refine Ok.region ?_
      refine OkO.load rfl rfl (lda (n := 1) (by kernel_rfl) (by first | assumption | (simp (disch := first | omega | (simp only [hNw, hPt]; omega)) only [gN] <;> first | rfl | assumption | exact gp0 _ _ _ | exact gn0 _ _)) (by first | rfl | assumption)) ?_
      refine OkO.callV rfl rfl rfl rfl rfl (c110 (m + 3) lv 1000000000000000 l _ (Mine.row (l := l.map fun x => [I x]) (by rw [flatI]; exact (ym.putO _ y8 (by intro a b c; simp)).putO _ (gp0 _ _ _) (by intro a b c; simp)) (fun x hx => by obtain ⟨y, _, rfl⟩ := List.mem_map.1 hx; rfl) (by omega)) (by omega)) ?_
      refine OkO.assign rfl rfl ?_
      refine OkO.nil ?_
      refine Ok.ret ⟨.inr rfl, ?_⟩
      rw [back_mark (d := (W.next + 6) + 2) (by first | assumption | (simp (disch := first | omega | (simp only [hNw, hPt]; omega)) only [gN] <;> first | rfl | assumption | exact gp0 _ _ _ | exact gn0 _ _))]
      exact ⟨_, _, back_flat (resV_tmp rfl resV_nil) rfl rfl (by rw [← hW]; exact (by (try dsimp only); repeat (first | exact g3 | exact g2 | exact hG | apply Grow.new | (refine Grow.put ?_ _ (by first | omega | (simp only [hNw, hPt]; omega)))))), _, rfl, rfl, lims_most (by omega) ylim⟩
end
end Go.Ev

set_option maxRecDepth 100000
set_option linter.unusedSimpArgs false
set_option linter.unusedVariables false
namespace Go.Ev
open Go Go.Proofs
noncomputable section
theorem c103 (m : Nat) (v good : AV) (xs : List AV) (ps : List Bool) (H : Heap) (hR : Row H v 1 (xs.map fun x => [x])) (hl : xs.length ≤ 1000000) (hp : ps.length = xs.length) (hgood : ∀ (i : Nat) x b, xs[i]? = some x → ps[i]? = some b → CallB m good [x] H b) : RR (m + 1) (.fn 103 [v, good]) H = some (.bool (ps.all id), H) := by
  refine (R_fn _ _ _ _ _).trans ?_
  refine fn_ok Try.func103 rfl rfl (by kernel_rfl) (by kernel_rfl) ?_
  obtain ⟨W, hW, hg, hN, hE, hG⟩ := wOf H
  rw [← hW]
  have hlen : lenOf v = some xs.length := by simpa using hR.len
  refine Ok.seq ?_
  refine Ok.region ?_
  refine OkO.assign rfl rfl ?_
  refine OkO.nil ?_
  refine Ok.seq ?_
  refine Ok.seq ?_
  refine Ok.region ?_
  refine OkO.move rfl rfl ?_
  refine OkO.builtin rfl rfl rfl (bln (by kernel_rfl) (by first | assumption | rfl)) ?_
  refine OkO.move rfl rfl ?_
  refine OkO.nil ?_
  refine Ok.block ?_
  refine Ok.loop (fun n s => ∃ i : Nat, n = xs.length - i ∧ i ≤ xs.length ∧ (∀ j, j < i → ps[j]? = some true) ∧ Has 5 [(1, good), (4, .bool false), (7, v), (8, I xs.length), (9, I (i : Int))] s.T ∧ s.D = [] ∧ Grow W s.H) (xs.length) (by unfold loopFuel; omega)
    ⟨0, rfl, Nat.zero_le _, nofun, Has.of (by kernel_rfl), rfl, hG⟩ ?_
  rintro n ⟨T, D, G⟩ ⟨i, hn, hi, hall, ⟨f, hT⟩, hD, hg⟩
  dsimp only at *
  subst hT hD
  have hgn := hg.next
  refine Ok.seq ?_
  refine Ok.region ?_
  refine OkO.bin rfl rfl rfl (bin_lss _ _) ?_
  refine OkO.nil ?_
  refine Ok.seq ?_
  refine Ok.cond rfl (fun h1 => ?_) (fun h1 => ?_)
  · -- yes h1
    have hlt : i < xs.length := by simpa using h1
    obtain ⟨b, hb⟩ : ∃ b, ps[i]? = some b := ⟨_, List.getElem?_eq_getElem (by omega)⟩
    obtain ⟨bb, off, cs, i1, i2, i3, i4⟩ := (hR.ext (hE _ hg)).at_ i [xs[i]] (by simp [hlt])
    have hne : bb ≠ G.next := by omega
    have i5 := seg_one i3
    refine Ok.skip ?_
    refine Ok.seq ?_
    refine Ok.block ?_
    refine Ok.seq ?_
    refine Ok.region ?_
    refine OkO.index (sz := 1) rfl rfl rfl (by kernel_rfl) (by first | assumption | rfl | exact slAt_slice (by omega) | exact slAt_opn (by omega)) ?_
    refine OkO.load rfl rfl (lda (n := 1) (by kernel_rfl) (by first | assumption | (simp (disch := first | omega | (simp only [hNw, hPt]; omega)) only [gN] <;> first | rfl | assumption | exact gp0 _ _ _ | exact gn0 _ _)) (by first | rfl | assumption)) ?_
    refine OkO.assign rfl rfl ?_
    refine OkO.nil ?_
    refine Ok.seq ?_
    refine Ok.region ?_
    refine OkO.move rfl rfl ?_
    refine OkO.move rfl rfl ?_
    obtain ⟨gf, gas, hc1, hc2⟩ := hgood i xs[i] b (by simp [hlt]) hb
    refine OkO.callV rfl rfl rfl rfl hc1 (hc2 _ (hE _ (by (try dsimp only); repeat (first | (first | exact hg | exact hG) | apply Grow.new | (refine Grow.put ?_ _ (by first | omega | (simp only [hNw, hPt]; omega))))))) ?_
    refine OkO.un rfl rfl rfl ?_
    refine OkO.nil ?_
    refine Ok.cond rfl (fun h2 => ?_) (fun h2 => ?_)
    · -- yes h2
      refine Ok.seq ?_
      refine Ok.region ?_
      refine OkO.assign rfl rfl ?_
      refine OkO.nil ?_
      refine Ok.ret ⟨.inr rfl, ?_⟩
      exact back_flat rfl (congrArg AV.bool (by symm; rw [List.all_eq_false]; exact ⟨false, List.mem_of_getElem? (by rw [hb]; congr 1; simpa using h2), by simp⟩)) rfl (by rw [← hW]; exact (by (try dsimp only); repeat (first | (first | exact hg | exact hG) | apply Grow.new | (refine Grow.put ?_ _ (by first | omega | (simp only [hNw, hPt]; omega))))))
    · -- no h2
      refine Ok.skip ?_
      refine Ok.region ?_
      refine OkO.bin rfl rfl rfl (bin_add (by omega) (by omega)) ?_
      refine OkO.move rfl rfl ?_
      refine OkO.nil ?_
      refine ⟨xs.length - (i + 1), by omega, i + 1, rfl, hlt, fun j hj => ?_, Has.of (by kernel_rfl), rfl, (by (try dsimp only); repeat (first | (first | exact hg | exact hG) | apply Grow.new | (refine Grow.put ?_ _ (by first | omega | (simp only [hNw, hPt]; omega)))))⟩
      by_cases e : j = i
      · subst e; rw [hb]; simpa using h2
      · exact hall j (by omega)
  · -- no h1
    have hge : i = xs.length := by simp at h1; omega
    refine Ok.exit ?_
    refine Ok.seq ?_
    refine Ok.region ?_
    refine OkO.assign rfl rfl ?_
    refine OkO.nil ?_
    refine Ok.ret ⟨.inr rfl, ?_⟩
    exact back_flat rfl (congrArg AV.bool (by symm; rw [List.all_eq_true]; intro x hx; obtain ⟨j, hj, rfl⟩ := List.mem_iff_getElem.1 hx; have := hall j (by omega); rw [List.getElem?_eq_getElem hj] at this; simpa using this)) rfl (by rw [← hW]; exact (by (try dsimp only); repeat (first | (first | exact hg | exact hG) | apply Grow.new | (refine Grow.put ?_ _ (by first | omega | (simp only [hNw, hPt]; omega))))))
theorem c101 (m : Nat) (v good : AV) (xs : List AV) (ps : List Bool) (H : Heap) (hR : Row H v 1 (xs.map fun x => [x])) (hl : xs.length ≤ 1000000) (hp : ps.length = xs.length) (hgood : ∀ (i : Nat) x b, xs[i]? = some x → ps[i]? = some b → CallB m good [x] H b) : RR (m + 1) (.fn 101 [v, good]) H = some (.bool (ps.all id), H) := by
  refine (R_fn _ _ _ _ _).trans ?_
  refine fn_ok Try.func101 rfl rfl (by kernel_rfl) (by kernel_rfl) ?_
  obtain ⟨W, hW, hg, hN, hE, hG⟩ := wOf H
  rw [← hW]
  have hlen : lenOf v = some xs.length := by simpa using hR.len
  refine Ok.seq ?_
  refine Ok.region ?_
  refine OkO.assign rfl rfl ?_
  refine OkO.nil ?_
  refine Ok.seq ?_
  refine Ok.seq ?_
  refine Ok.region ?_
  refine OkO.move rfl rfl ?_
  refine OkO.builtin rfl rfl rfl (bln (by kernel_rfl) (by first | assumption | rfl)) ?_
  refine OkO.move rfl rfl ?_
  refine OkO.nil ?_
  refine Ok.block ?_
  refine Ok.loop (fun n s => ∃ i : Nat, n = xs.length - i ∧ i ≤ xs.length ∧ (∀ j, j < i → ps[j]? = some true) ∧ Has 5 [(1, good), (4, .bool false), (7, v), (8, I xs.length), (9, I (i : Int))] s.T ∧ s.D = [] ∧ Grow W s.H) (xs.length) (by unfold loopFuel; omega)
    ⟨0, rfl, Nat.zero_le _, nofun, Has.of (by kernel_rfl), rfl, hG⟩ ?_
  rintro n ⟨T, D, G⟩ ⟨i, hn, hi, hall, ⟨f, hT⟩, hD, hg⟩
  dsimp only at *
  subst hT hD
  have hgn := hg.next
  refine Ok.seq ?_
  refine Ok.region ?_
  refine OkO.bin rfl rfl rfl (bin_lss _ _) ?_
  refine OkO.nil ?_
  refine Ok.seq ?_
  refine Ok.cond rfl (fun h1 => ?_) (fun h1 => ?_)
  · -- yes h1
    have hlt : i < xs.length := by simpa using h1
    obtain ⟨b, hb⟩ : ∃ b, ps[i]? = some b := ⟨_, List.getElem?_eq_getElem (by omega)⟩
    obtain ⟨bb, off, cs, i1, i2, i3, i4⟩ := (hR.ext (hE _ hg)).at_ i [xs[i]] (by simp [hlt])
    have hne : bb ≠ G.next := by omega
    have i5 := seg_one i3
    refine Ok.skip ?_
    refine Ok.seq ?_
    refine Ok.block ?_
    refine Ok.seq ?_
    refine Ok.region ?_
    refine OkO.index (sz := 1) rfl rfl rfl (by kernel_rfl) (by first | assumption | rfl | exact slAt_slice (by omega) | exact slAt_opn (by omega)) ?_
    refine OkO.load rfl rfl (lda (n := 1) (by kernel_rfl) (by first | assumption | (simp (disch := first | omega | (simp only [hNw, hPt]; omega)) only [gN] <;> first | rfl | assumption | exact gp0 _ _ _ | exact gn0 _ _)) (by first | rfl | assumption)) ?_
    refine OkO.assign rfl rfl ?_
    refine OkO.nil ?_
    refine Ok.seq ?_
    refine Ok.region ?_
    refine OkO.move rfl rfl ?_
    refine OkO.move rfl rfl ?_
    obtain ⟨gf, gas, hc1, hc2⟩ := hgood i xs[i] b (by simp [hlt]) hb
    refine OkO.callV rfl rfl rfl rfl hc1 (hc2 _ (hE _ (by (try dsimp only); repeat (first | (first | exact hg | exact hG) | apply Grow.new | (refine Grow.put ?_ _ (by first | omega | (simp only [hNw, hPt]; omega))))))) ?_
    refine OkO.un rfl rfl rfl ?_
    refine OkO.nil ?_
    refine Ok.cond rfl (fun h2 => ?_) (fun h2 => ?_)
    · -- yes h2
      refine Ok.seq ?_
      refine Ok.region ?_
      refine OkO.assign rfl rfl ?_
      refine OkO.nil ?_
      refine Ok.ret ⟨.inr rfl, ?_⟩
      exact back_flat rfl (congrArg AV.bool (by symm; rw [List.all_eq_false]; exact ⟨false, List.mem_of_getElem? (by rw [hb]; congr 1; simpa using h2), by simp⟩)) rfl (by rw [← hW]; exact (by (try dsimp only); repeat (first | (first | exact hg | exact hG) | apply Grow.new | (refine Grow.put ?_ _ (by first | omega | (simp only [hNw, hPt]; omega))))))
    · -- no h2
      refine Ok.skip ?_
      refine Ok.region ?_
      refine OkO.bin rfl rfl rfl (bin_add (by omega) (by omega)) ?_
      refine OkO.move rfl rfl ?_
      refine OkO.nil ?_
      refine ⟨xs.length - (i + 1), by omega, i + 1, rfl, hlt, fun j hj => ?_, Has.of (by kernel_rfl), rfl, (by (try dsimp only); repeat (first | (first | exact hg | exact hG) | apply Grow.new | (refine Grow.put ?_ _ (by first | omega | (simp only [hNw, hPt]; omega)))))⟩
      by_cases e : j = i
      · subst e; rw [hb]; simpa using h2
      · exact hall j (by omega)
  · -- no h1
    have hge : i = xs.length := by simp at h1; omega
    refine Ok.exit ?_
    refine Ok.seq ?_
    refine Ok.region ?_
    refine OkO.assign rfl rfl ?_
    refine OkO.nil ?_
    refine Ok.ret ⟨.inr rfl, ?_⟩
    exact back_flat rfl (congrArg AV.bool (by symm; rw [List.all_eq_true]; intro x hx; obtain ⟨j, hj, rfl⟩ := List.mem_iff_getElem.1 hx; have := hall j (by omega); rw [List.getElem?_eq_getElem hj] at this; simpa using this)) rfl (by rw [← hW]; exact (by (try dsimp only); repeat (first | (first | exact hg | exact hG) | apply Grow.new | (refine Grow.put ?_ _ (by first | omega | (simp only [hNw, hPt]; omega))))))
/-- A row of a table, as it reads. -/
def Cols (H : Heap) (v : AV) (R : List (List Int)) : Prop := ∃ cvs : List AV, Row H v 1 (cvs.map fun x => [x]) ∧ cvs.length = R.length ∧ ∀ (i : Nat) x l, cvs[i]? = some x → R[i]? = some l → Row H x 1 (l.map fun y => [I y])
/-- A table, as it reads. -/
def Tab (H : Heap) (v : AV) (T : List (List (List Int))) : Prop := ∃ rvs : List AV, Row H v 1 (rvs.map fun x => [x]) ∧ rvs.length = T.length ∧ ∀ (i : Nat) x R, rvs[i]? = some x → T[i]? = some R → Cols H x R
theorem Cols.ext {H G : Heap} {v : AV} {R : List (List Int)} (h : Cols H v R) (g : Ext H G) : Cols G v R := let ⟨cvs, h1, h2, h3⟩ := h; ⟨cvs, h1.ext g, h2, fun i x l a c => (h3 i x l a c).ext g⟩
theorem Tab.ext {H G : Heap} {v : AV} {T : List (List (List Int))} (h : Tab H v T) (g : Ext H G) : Tab G v T := let ⟨rvs, h1, h2, h3⟩ := h; ⟨rvs, h1.ext g, h2, fun i x R a c => (h3 i x R a c).ext g⟩
theorem Tab.at_ {H : Heap} {v : AV} {T : List (List (List Int))} {R : List (List Int)} {l : List Int} {r c : Nat} (h : Tab H v T) (h1 : T[r]? = some R) (h2 : R[c]? = some l) : TabAt H v r c l := by
  obtain ⟨rvs, a1, a2, a3⟩ := h
  have hr : r < rvs.length := by rw [a2]; exact (List.getElem?_eq_some_iff.1 h1).1
  obtain ⟨cvs, b1, b2, b3⟩ := a3 r rvs[r] R (List.getElem?_eq_getElem hr) h1
  have hc : c < cvs.length := by rw [b2]; exact (List.getElem?_eq_some_iff.1 h2).1
  exact ⟨rvs, rvs[r], cvs, cvs[c], a1, List.getElem?_eq_getElem hr, b1, List.getElem?_eq_getElem hc, b3 c cvs[c] l (List.getElem?_eq_getElem hc) h2⟩
def numsB (n : Nat) (l : List Int) : Bool := decide ((l.length : Int) = (n : Int)) && l.all fun x => inB x (-1000000000000000) 1000000000000000
def rowB (N n : Nat) (R : List (List Int)) : Bool := decide ((R.length : Int) = (N : Int)) && R.all (numsB n)
def shapeB (N n : Nat) (least : Int) (T : List (List (List Int))) : Bool := decide ((T.length : Int) = least) && T.all (rowB N n)
theorem c104 (m : Nat) (n b1 b2 : Nat) (cv lv : AV) (cols : List (List Bed)) (least : Int) (l : List Int) (H : Heap) (hM : Mat H cv cols) (hcl : ∀ c ∈ cols, c.length = n) (hN9 : 1 ≤ cols.length ∧ cols.length ≤ 100) (hn9 : n ≤ 1000) (h1 : (H.get b1).bind AObj.cs = some [cv, I least]) (h2 : (H.get b2).bind AObj.cs = some [I (-1000000000000000), I 1000000000000000]) (l1 : b1 < H.next) (l2 : b2 < H.next) (hL : Row H lv 1 (l.map fun x => [I x])) (hl9 : l.length ≤ 1000) : RR (m + 3) (.fn 104 [lv, .ptr b1 0, .ptr b2 0]) H = some (.bool (numsB n l), H) := by
  refine (R_fn _ _ _ _ _).trans ?_
  refine fn_ok Try.func104 rfl rfl (by kernel_rfl) (by kernel_rfl) ?_
  obtain ⟨W, hW, hg, hN, hE, hG⟩ := wOf H
  rw [← hW]
  obtain ⟨vs, hR, hvl, hv⟩ := id hM
  have hlen : lenOf cv = some cols.length := by rw [← hvl]; simpa using hR.len
  have pc : cv.plain = true := lpl hlen
  have hg0 : ∀ j, W.get j = H.get j := hg
  obtain ⟨cb, co, ccs, j1, j20, j3, j4⟩ := hR.at_ 0 [vs[0]'(by omega)] (by simp [show 0 < vs.length by omega])
  have j5 := seg_one j3
  obtain ⟨col, hcol⟩ : ∃ col, cols[0]? = some col := ⟨_, List.getElem?_eq_getElem (by omega)⟩
  have hcn : col.length = n := hcl col (List.mem_of_getElem? hcol)
  have hlcol : lenOf (vs[0]'(by omega)) = some n := by rw [← hcn]; simpa using (hv 0 _ col (List.getElem?_eq_getElem (by omega)) hcol).len
  have j2 : (W.get cb).bind AObj.cs = some ccs := by rw [hg]; exact j20
  have w1 : (W.get b1).bind AObj.cs = some [cv, I least] := by rw [hg]; exact h1
  have w2 : (W.get b2).bind AObj.cs = some [I (-1000000000000000), I 1000000000000000] := by rw [hg]; exact h2
  have hll : lenOf lv = some l.length := by simpa using hL.len
  refine Ok.seq ?_
  refine Ok.region ?_
  refine OkO.assign rfl rfl ?_
  refine OkO.nil ?_
  refine Ok.seq ?_
  refine Ok.region ?_
  refine OkO.move rfl rfl ?_
  refine OkO.builtin rfl rfl rfl (bln (by kernel_rfl) (by first | assumption | rfl)) ?_
  refine OkO.fieldAddr (o := 0) rfl (by kernel_rfl) rfl ?_
  refine OkO.load rfl rfl (lda (n := 1) (by kernel_rfl) (by first | assumption | (simp (disch := first | omega | (simp only [hNw, hPt]; omega)) only [gN] <;> first | rfl | assumption | exact gp0 _ _ _ | exact gn0 _ _)) (by first | rfl | assumption)) ?_
  refine OkO.index (sz := 1) (n := 0) rfl rfl rfl (by kernel_rfl) (by first | assumption | rfl | exact slAt_slice (by omega) | exact slAt_opn (by omega)) ?_
  refine OkO.load rfl rfl (lda (n := 1) (by kernel_rfl) (by first | assumption | (simp (disch := first | omega | (simp only [hNw, hPt]; omega)) only [gN] <;> first | rfl | assumption | exact gp0 _ _ _ | exact gn0 _ _)) (by first | rfl | assumption)) ?_
  refine OkO.builtin rfl rfl rfl (bln (by kernel_rfl) (by first | assumption | rfl)) ?_
  refine OkO.bin rfl rfl rfl (bin_eql _ _) ?_
  refine OkO.move rfl rfl ?_
  refine OkO.split (d := 13) rfl (fun g1 => ?_) (fun g1 => ?_)
  · -- true g1
    refine OkO.move rfl rfl ?_
    refine OkO.load rfl rfl (ldg (n := 2) (by kernel_rfl) (by first | assumption | (simp (disch := first | omega | (simp only [hNw, hPt]; omega)) only [gN] <;> first | rfl | assumption | exact gp0 _ _ _ | exact gn0 _ _)) (by first | rfl | assumption)) ?_
    refine OkO.makeFunc rfl rfl rfl ?_
    refine OkO.callV rfl rfl rfl rfl rfl (c105 (m + 1) lv _ (l.map I) (l.map fun x => inB x (-1000000000000000) 1000000000000000) _ (by rw [List.map_map]; exact hL.ext (hE _ (by (try dsimp only); repeat (first | exact hG | apply Grow.new | (refine Grow.put ?_ _ (by first | omega | (simp only [hNw, hPt]; omega))))))) (by simp; omega) (by simp) ?hgood) ?_
    · intro i x b q1 q2
      rw [List.getElem?_map, Option.map_eq_some_iff] at q1 q2
      obtain ⟨u, hu, rfl⟩ := q1
      obtain ⟨u2, hu2, rfl⟩ := q2
      rw [hu] at hu2; cases hu2
      exact ⟨88, [.agg [I (-1000000000000000), I 1000000000000000], I u], rfl, fun G _ => c88 (m + 0) _ _ _ G⟩
    refine OkO.pick (b := true) rfl rfl (fun _ => rfl) nofun ?_
    refine OkO.assign rfl rfl ?_
    refine OkO.nil ?_
    refine Ok.ret ⟨.inr rfl, ?_⟩
    exact back_flat rfl (congrArg AV.bool (by unfold numsB; rw [show decide ((l.length : Int) = (n : Int)) = true from g1, Bool.true_and, List.all_map]; rfl)) rfl (by rw [← hW]; exact (by (try dsimp only); repeat (first | exact hG | apply Grow.new | (refine Grow.put ?_ _ (by first | omega | (simp only [hNw, hPt]; omega))))))
  · -- false g1
    refine OkO.skip rfl ?_
    refine OkO.skip rfl ?_
    refine OkO.skip rfl ?_
    refine OkO.skip rfl ?_
    refine OkO.pick (b := false) rfl rfl nofun (fun _ => rfl) ?_
    refine OkO.assign rfl rfl ?_
    refine OkO.nil ?_
    refine Ok.ret ⟨.inr rfl, ?_⟩
    exact back_flat rfl (congrArg AV.bool (by unfold numsB; rw [show decide ((l.length : Int) = (n : Int)) = false from g1]; rfl)) rfl (by rw [← hW]; exact (by (try dsimp only); repeat (first | exact hG | apply Grow.new | (refine Grow.put ?_ _ (by first | omega | (simp only [hNw, hPt]; omega))))))
theorem c102 (m : Nat) (n b1 b2 : Nat) (cv rv : AV) (cols : List (List Bed)) (least : Int) (R : List (List Int)) (H : Heap) (hM : Mat H cv cols) (hcl : ∀ c ∈ cols, c.length = n) (hN9 : 1 ≤ cols.length ∧ cols.length ≤ 100) (hn9 : n ≤ 1000) (h1 : (H.get b1).bind AObj.cs = some [cv, I least]) (h2 : (H.get b2).bind AObj.cs = some [I (-1000000000000000), I 1000000000000000]) (l1 : b1 < H.next) (l2 : b2 < H.next) (hC : Cols H rv R) (hRl : R.length ≤ 1000) (hll : ∀ l ∈ R, l.length ≤ 1000) : RR (m + 5) (.fn 102 [rv, .ptr b1 0, .ptr b2 0]) H = some (.bool (rowB cols.length n R), H) := by
  refine (R_fn _ _ _ _ _).trans ?_
  refine fn_ok Try.func102 rfl rfl (by kernel_rfl) (by kernel_rfl) ?_
  obtain ⟨W, hW, hg, hN, hE, hG⟩ := wOf H
  rw [← hW]
  obtain ⟨vs, hR, hvl, hv⟩ := id hM
  have hlen : lenOf cv = some cols.length := by rw [← hvl]; simpa using hR.len
  have pc : cv.plain = true := lpl hlen
  have hg0 : ∀ j, W.get j = H.get j := hg
  have w1 : (W.get b1).bind AObj.cs = some [cv, I least] := by rw [hg]; exact h1
  have w2 : (W.get b2).bind AObj.cs = some [I (-1000000000000000), I 1000000000000000] := by rw [hg]; exact h2
  obtain ⟨cvs, hC1, hC2, hC3⟩ := id hC
  have hrl : lenOf rv = some R.length := by rw [← hC2]; simpa using hC1.len
  refine Ok.seq ?_
  refine Ok.region ?_
  refine OkO.assign rfl rfl ?_
  refine OkO.nil ?_
  refine Ok.seq ?_
  refine Ok.region ?_
  refine OkO.move rfl rfl ?_
  refine OkO.builtin rfl rfl rfl (bln (by kernel_rfl) (by first | assumption | rfl)) ?_
  refine OkO.fieldAddr (o := 0) rfl (by kernel_rfl) rfl ?_
  refine OkO.load rfl rfl (lda (n := 1) (by kernel_rfl) (by first | assumption | (simp (disch := first | omega | (simp only [hNw, hPt]; omega)) only [gN] <;> first | rfl | assumption | exact gp0 _ _ _ | exact gn0 _ _)) (by first | rfl | assumption)) ?_
  refine OkO.builtin rfl rfl rfl (bln (by kernel_rfl) (by first | assumption | rfl)) ?_
  refine OkO.bin rfl rfl rfl (bin_eql _ _) ?_
  refine OkO.move rfl rfl ?_
  refine OkO.split (d := 11) rfl (fun g1 => ?_) (fun g1 => ?_)
  · -- true g1
    refine OkO.move rfl rfl ?_
    refine OkO.makeFunc rfl rfl rfl ?_
    refine OkO.callV rfl rfl rfl rfl rfl (c103 (m + 3) rv _ cvs (R.map (numsB n)) _ (hC1.ext (hE _ (by (try dsimp only); repeat (first | exact hG | apply Grow.new | (refine Grow.put ?_ _ (by first | omega | (simp only [hNw, hPt]; omega))))))) (by omega) (by simp; omega) ?hgood) ?_
    · intro i x b q1 q2
      rw [List.getElem?_map, Option.map_eq_some_iff] at q2
      obtain ⟨u, hu, rfl⟩ := q2
      exact ⟨104, _, rfl, fun G hX => c104 m n b1 b2 cv x cols least u G (hM.ext ((hE _ (by (try dsimp only); repeat (first | exact hG | apply Grow.new | (refine Grow.put ?_ _ (by first | omega | (simp only [hNw, hPt]; omega)))))).trans hX)) hcl hN9 hn9 (by rw [hX.get _ (by omega)]; exact w1) (by rw [hX.get _ (by omega)]; exact w2) (by have := hX.next; omega) (by have := hX.next; omega) ((hC3 i x u q1 hu).ext ((hE _ (by (try dsimp only); repeat (first | exact hG | apply Grow.new | (refine Grow.put ?_ _ (by first | omega | (simp only [hNw, hPt]; omega)))))).trans hX)) (hll u (List.mem_of_getElem? hu))⟩
    refine OkO.pick (b := true) rfl rfl (fun _ => rfl) nofun ?_
    refine OkO.assign rfl rfl ?_
    refine OkO.nil ?_
    refine Ok.ret ⟨.inr rfl, ?_⟩
    exact back_flat rfl (congrArg AV.bool (by unfold rowB; rw [show decide ((R.length : Int) = (cols.length : Int)) = true from g1, Bool.true_and, List.all_map]; rfl)) rfl (by rw [← hW]; exact (by (try dsimp only); repeat (first | exact hG | apply Grow.new | (refine Grow.put ?_ _ (by first | omega | (simp only [hNw, hPt]; omega))))))
  · -- false g1
    refine OkO.skip rfl ?_
    refine OkO.skip rfl ?_
    refine OkO.skip rfl ?_
    refine OkO.pick (b := false) rfl rfl nofun (fun _ => rfl) ?_
    refine OkO.assign rfl rfl ?_
    refine OkO.nil ?_
    refine Ok.ret ⟨.inr rfl, ?_⟩
    exact back_flat rfl (congrArg AV.bool (by unfold rowB; rw [show decide ((R.length : Int) = (cols.length : Int)) = false from g1]; rfl)) rfl (by rw [← hW]; exact (by (try dsimp only); repeat (first | exact hG | apply Grow.new | (refine Grow.put ?_ _ (by first | omega | (simp only [hNw, hPt]; omega))))))
theorem c77 (m : Nat) (n : Nat) (cv tv : AV) (cols : List (List Bed)) (least : Int) (T : List (List (List Int))) (H : Heap) (hM : Mat H cv cols) (hcl : ∀ c ∈ cols, c.length = n) (hN9 : 1 ≤ cols.length ∧ cols.length ≤ 100) (hn9 : n ≤ 1000) (hT : Tab H tv T) (hTl : T.length ≤ 1000) (hRl : ∀ R ∈ T, R.length ≤ 1000) (hll : ∀ R ∈ T, ∀ l ∈ R, l.length ≤ 1000) : RR (m + 7) (.fn 77 [.agg [cv, I least], tv]) H = some (.bool (shapeB cols.length n least T), H) := by
  refine (R_fn _ _ _ _ _).trans ?_
  refine fn_ok Try.func77 rfl rfl (by kernel_rfl) (by kernel_rfl) ?_
  obtain ⟨W, hW, hg, hN, hE, hG⟩ := wOf H
  rw [← hW]
  obtain ⟨vs, hR, hvl, hv⟩ := id hM
  have hlen : lenOf cv = some cols.length := by rw [← hvl]; simpa using hR.len
  have pc : cv.plain = true := lpl hlen
  have hg0 : ∀ j, W.get j = H.get j := hg
  obtain ⟨rvs, hC1, hC2, hC3⟩ := id hT
  have htl : lenOf tv = some T.length := by rw [← hC2]; simpa using hC1.len
  refine Ok.seq ?_
  refine Ok.region ?_
  refine OkO.box rfl rfl ?_
  refine OkO.assign rfl rfl ?_
  refine OkO.nil ?_
  refine Ok.seq ?_
  refine Ok.region ?_
  refine OkO.build (z := [.int .i64 0, .int .i64 0]) (pl := [(0, 1), (1, 1)]) rfl (by kernel_rfl) rfl rfl ?_
  refine OkO.alloc (z := [.int .i64 0, .int .i64 0]) rfl (by kernel_rfl) ?_
  refine OkO.store rfl rfl rfl (sAc (n := 2) (ag := true) (by kernel_rfl) (by first | assumption | (simp (disch := first | omega | (simp only [hNw, hPt]; omega)) only [gN] <;> first | rfl | assumption | exact gp0 _ _ _ | exact gn0 _ _)) rfl (by first | rfl | assumption) (by first | rfl | exact spl_set _ _ _ (by first | assumption | omega | (simp; omega)))) ?_
  refine OkO.nil ?_
  refine Ok.seq ?_
  refine Ok.region ?_
  refine OkO.move rfl rfl ?_
  refine OkO.builtin rfl rfl rfl (bln (by kernel_rfl) (by first | assumption | rfl)) ?_
  refine OkO.fieldAddr (o := 1) rfl (by kernel_rfl) rfl ?_
  refine OkO.load rfl rfl (lda (n := 1) (by kernel_rfl) (by first | assumption | (simp (disch := first | omega | (simp only [hNw, hPt]; omega)) only [gN] <;> first | rfl | assumption | exact gp0 _ _ _ | exact gn0 _ _)) (by first | rfl | assumption)) ?_
  refine OkO.bin rfl rfl rfl (bin_eql _ _) ?_
  refine OkO.move rfl rfl ?_
  refine OkO.split (d := 12) rfl (fun g1 => ?_) (fun g1 => ?_)
  · -- true g1
    refine OkO.move rfl rfl ?_
    refine OkO.makeFunc rfl rfl rfl ?_
    refine OkO.callV rfl rfl rfl rfl rfl (c101 (m + 5) tv _ rvs (T.map (rowB cols.length n)) _ (hC1.ext (hE _ (by (try dsimp only); repeat (first | exact hG | apply Grow.new | (refine Grow.put ?_ _ (by first | omega | (simp only [hNw, hPt]; omega))))))) (by omega) (by simp; omega) ?hgood) ?_
    · intro i x b q1 q2
      rw [List.getElem?_map, Option.map_eq_some_iff] at q2
      obtain ⟨u, hu, rfl⟩ := q2
      exact ⟨102, _, rfl, fun G hX => c102 m n W.next (W.next + 1) cv x cols least u G (hM.ext ((hE _ (by (try dsimp only); repeat (first | exact hG | apply Grow.new | (refine Grow.put ?_ _ (by first | omega | (simp only [hNw, hPt]; omega)))))).trans hX)) hcl hN9 hn9 (by rw [hX.get _ (by first | omega | (simp only [hNw, hPt]; omega))]; simp (disch := first | omega | (simp only [hNw, hPt]; omega)) only [gN] <;> rfl) (by rw [hX.get _ (by first | omega | (simp only [hNw, hPt]; omega))]; exact (congrArg (fun o => Option.bind o AObj.cs) (gp0 _ _ _)).trans rfl) (by have := hX.next; simp only [hNw, hPt] at this; omega) (by have := hX.next; simp only [hNw, hPt] at this; omega) ((hC3 i x u q1 hu).ext ((hE _ (by (try dsimp only); repeat (first | exact hG | apply Grow.new | (refine Grow.put ?_ _ (by first | omega | (simp only [hNw, hPt]; omega)))))).trans hX)) (hRl u (List.mem_of_getElem? hu)) (hll u (List.mem_of_getElem? hu))⟩
    refine OkO.pick (b := true) rfl rfl (fun _ => rfl) nofun ?_
    refine OkO.assign rfl rfl ?_
    refine OkO.nil ?_
    refine Ok.ret ⟨.inr rfl, ?_⟩
    exact back_flat rfl (congrArg AV.bool (by unfold shapeB; rw [show decide ((T.length : Int) = least) = true from g1, Bool.true_and, List.all_map]; rfl)) rfl (by rw [← hW]; exact (by (try dsimp only); repeat (first | exact hG | apply Grow.new | (refine Grow.put ?_ _ (by first | omega | (simp only [hNw, hPt]; omega))))))
  · -- false g1
    refine OkO.skip rfl ?_
    refine OkO.skip rfl ?_
    refine OkO.skip rfl ?_
    refine OkO.pick (b := false) rfl rfl nofun (fun _ => rfl) ?_
    refine OkO.assign rfl rfl ?_
    refine OkO.nil ?_
    refine Ok.ret ⟨.inr rfl, ?_⟩
    exact back_flat rfl (congrArg AV.bool (by unfold shapeB; rw [show decide ((T.length : Int) = least) = false from g1]; rfl)) rfl (by rw [← hW]; exact (by (try dsimp only); repeat (first | exact hG | apply Grow.new | (refine Grow.put ?_ _ (by first | omega | (simp only [hNw, hPt]; omega))))))
end
end Go.Ev

set_option maxRecDepth 100000
set_option linter.unusedSimpArgs false
set_option linter.unusedVariables false
namespace Go.Ev
open Go Go.Proofs
noncomputable section
/-- A number of a table. -/
def tabF (T : List (List (List Int))) (r c k : Nat) : Int := ((T.getD r []).getD c []).getD k 0
theorem shape_at {N n L : Nat} {T : List (List (List Int))} (h : shapeB N n (L : Int) T = true) {r c : Nat} (hr : r < L) (hc : c < N) : ∃ R l, T[r]? = some R ∧ R[c]? = some l ∧ l.length = n ∧ (∀ i, i < n → l[i]? = some (tabF T r c i)) ∧ ∀ x ∈ l, -1000000000000000 ≤ x ∧ x ≤ 1000000000000000 := by
  unfold shapeB at h
  simp only [Bool.and_eq_true, decide_eq_true_eq, List.all_eq_true] at h
  obtain ⟨h1, h2⟩ := h
  have hr' : r < T.length := by omega
  have h3 := h2 T[r] (List.getElem_mem hr')
  unfold rowB at h3
  simp only [Bool.and_eq_true, decide_eq_true_eq, List.all_eq_true] at h3
  have hc' : c < (T[r]).length := by omega
  have h4 := h3.2 (T[r])[c] (List.getElem_mem hc')
  unfold numsB at h4
  simp only [Bool.and_eq_true, decide_eq_true_eq, List.all_eq_true, inB] at h4
  refine ⟨T[r], (T[r])[c], List.getElem?_eq_getElem hr', List.getElem?_eq_getElem hc', by omega, fun i hi => ?_, fun x hx => h4.2 x hx⟩
  unfold tabF
  simp only [List.getD_eq_getElem?_getD, List.getElem?_eq_getElem hr', Option.getD_some, List.getElem?_eq_getElem hc']
  rw [List.getElem?_eq_getElem (show i < (T[r])[c].length by omega)]
  rfl
theorem tabF_bd {N n L : Nat} {T : List (List (List Int))} (h : shapeB N n (L : Int) T = true) {r c k : Nat} (hr : r < L) (hc : c < N) (hk : k < n) : -1000000000000000 ≤ tabF T r c k ∧ tabF T r c k ≤ 1000000000000000 := by
  obtain ⟨R, l, _, _, h3, h4, h5⟩ := shape_at h hr hc
  exact h5 _ (List.mem_of_getElem? (h4 k hk))
/-- What a proof asks of one place. -/
def PlaceP (pr : Nat → Nat → Int) (t : Nat → Nat → Nat → Int) (L n r c k : Nat) : Prop :=
  (r = 0 → t r c k ≤ pr c k) ∧ (0 < c → ∀ i, Nxt n k i → (0 < r → t r c k ≤ pr c k + t (r - 1) (c - 1) i) ∧ (r + 1 = L → t r c k ≤ pr c k + t r (c - 1) i)) ∧ (r + 1 = L → L ≤ c + 1 → 0 ≤ t r c k)
theorem place_yes {pr : Nat → Nat → Int} {t : Nat → Nat → Nat → Int} {L n r c k : Nat} {x : Int} (h : MostIs (pr c k) (t (r - 1) (c - 1)) (t r (c - 1)) r L c k n x) (hx : t r c k ≤ x) (hw : r + 1 = L → L ≤ c + 1 → 0 ≤ t r c k) : PlaceP pr t L n r c k :=
  ⟨fun hr => by have := h.2.1 hr; omega, fun hc i hi => ⟨fun hr => by have := (h.2.2.1 hc i hi).1 hr; omega, fun hr => by have := (h.2.2.1 hc i hi).2 hr; omega⟩, hw⟩
theorem place_no {pr : Nat → Nat → Int} {t : Nat → Nat → Nat → Int} {L n r c k : Nat} {x : Int} (h : MostIs (pr c k) (t (r - 1) (c - 1)) (t r (c - 1)) r L c k n x) (hM : t r c k ≤ 1000000000000000) (hx : x < t r c k) : ¬ PlaceP pr t L n r c k := fun hp => by
  rcases h.2.2.2 with e | ⟨hr, e⟩ | ⟨hc, i, hi, ⟨hr, e⟩ | ⟨hr, e⟩⟩
  · omega
  · have := hp.1 hr; omega
  · have := (hp.2.1 hc i hi).1 hr; omega
  · have := (hp.2.1 hc i hi).2 hr; omega
def TabP (pr : Nat → Nat → Int) (t : Nat → Nat → Nat → Int) (N n L : Nat) : Prop := ∀ r c k, r < L → c < N → k < n → PlaceP pr t L n r c k
theorem tabP_proved {pr : Nat → Nat → Int} {t : Nat → Nat → Nat → Int} {N n L : Nat} (hL : 1 ≤ L) (h : TabP pr t N n L) : ProvedT pr N n L t where
  first c k hc hk := (h 0 c k (by omega) hc hk).1 rfl
  up r c k j hr hc hk hj := by
    have := ((h (r + 1) (c + 1) j hr hc hj.1).2.1 (by omega) k ⟨hk, hj.2.2, hj.2.1⟩).1 (by omega)
    simpa using this
  on c k j hc hk hj := by
    have := ((h (L - 1) (c + 1) j (by omega) hc hj.1).2.1 (by omega) k ⟨hk, hj.2.2, hj.2.1⟩).2 (by omega)
    simpa using this
  whole c k hc hL9 hk := (h (L - 1) c k (by omega) hc hk).2.2 (by omega) (by omega)
theorem tab_reads {H : Heap} {tv : AV} {N n L : Nat} {T : List (List (List Int))} (hT : Tab H tv T) (h : shapeB N n (L : Int) T = true) {r c : Nat} (hr : r < L) (hc : c < N) : ∃ tl, TabAt H tv r c tl ∧ ∀ i, i < n → tl[i]? = some (tabF T r c i) := by
  obtain ⟨R, l, h1, h2, _, h4, _⟩ := shape_at h hr hc
  exact ⟨l, hT.at_ h1 h2, h4⟩
theorem tabF_any {N n L : Nat} {T : List (List (List Int))} (h : shapeB N n (L : Int) T = true) (r c k : Nat) : -10000000000000000 ≤ tabF T r c k ∧ tabF T r c k ≤ 10000000000000000 := by
  have h0 := h
  unfold shapeB at h0
  simp only [Bool.and_eq_true, decide_eq_true_eq, List.all_eq_true] at h0
  by_cases hr : r < L
  · have h1 := h0.2 _ (List.getElem_mem (show r < T.length by omega))
    unfold rowB at h1
    simp only [Bool.and_eq_true, decide_eq_true_eq, List.all_eq_true] at h1
    by_cases hc : c < N
    · obtain ⟨R, l, e1, e2, e3, e4, e5⟩ := shape_at h hr hc
      by_cases hk : k < n
      · have := e5 _ (List.mem_of_getElem? (e4 k hk))
        omega
      · have e : tabF T r c k = 0 := by
          unfold tabF
          simp only [List.getD_eq_getElem?_getD, e1, e2, Option.getD_some]
          rw [List.getElem?_eq_none (by omega)]
          rfl
        omega
    · have e : tabF T r c k = 0 := by
        unfold tabF
        simp only [List.getD_eq_getElem?_getD, List.getElem?_eq_getElem (show r < T.length by omega), Option.getD_some]
        rw [List.getElem?_eq_none (show (T[r]'(by omega)).length ≤ c by omega)]
        simp
      omega
  · have e : tabF T r c k = 0 := by
      unfold tabF
      simp only [List.getD_eq_getElem?_getD]
      rw [List.getElem?_eq_none (show T.length ≤ r by omega)]
      simp
    omega
theorem c78 (m : Nat) (cv tv : AV) (cols : List (List Bed)) (fa : Int) (L n : Nat) (T : List (List (List Int))) (H : Heap) (hM : Mat H cv cols) (hcl : ∀ c ∈ cols, c.length = n) (hok : BedsOk cols) (hf : 0 ≤ fa ∧ fa ≤ 10000) (hN9 : 1 ≤ cols.length ∧ cols.length ≤ 100) (hn9 : n ≤ 100) (hL9 : 1 ≤ L ∧ L ≤ 100) (hTb : Tab H tv T) (hsh : shapeB cols.length n (L : Int) T = true) : ∃ v H', RR (m + 6) (.fn 78 [.agg [cv, I (L : Int), I fa, .fn 66 [] []], tv]) H = some (v, H') ∧ ∃ b : Bool, v = .bool b ∧ H' = H ∧ (b = true ↔ TabP (prC cols fa) (tabF T) cols.length n L) := by
  show ∃ v H', evFn Try.prog (RR (m + 5)) 78 [.agg [cv, I (L : Int), I fa, .fn 66 [] []], tv] H = some (v, H') ∧ ∃ b : Bool, v = .bool b ∧ H' = H ∧ (b = true ↔ TabP (prC cols fa) (tabF T) cols.length n L)
  refine fn_okE Try.func78 rfl rfl (by kernel_rfl) (by kernel_rfl) ?_
  obtain ⟨W, hW, hg, hN, hE, hG⟩ := wOf H
  rw [← hW]
  obtain ⟨vs, hR, hvl, hv⟩ := id hM
  have hlen : lenOf cv = some cols.length := by rw [← hvl]; simpa using hR.len
  have pc : cv.plain = true := lpl hlen
  have htl : lenOf tv = some T.length := by obtain ⟨rvs, h1, h2, _⟩ := hTb; rw [← h2]; simpa using h1.len
  have hTW : Tab W tv T := hTb.ext ⟨by omega, fun j _ => hg j⟩
  refine Ok.seq ?_
  refine Ok.region ?_
  refine OkO.box rfl rfl ?_
  refine OkO.assign rfl rfl ?_
  refine OkO.nil ?_
  refine Ok.seq ?_
  refine Ok.seq ?_
  refine Ok.region ?_
  refine OkO.fieldAddr (o := 0) rfl (by kernel_rfl) rfl ?_
  refine OkO.fieldAddr (o := 1) rfl (by kernel_rfl) rfl ?_
  refine OkO.load rfl rfl (lda (n := 1) (by kernel_rfl) (by first | assumption | (simp (disch := first | omega | (simp only [hNw, hPt]; omega)) only [gN] <;> first | rfl | assumption | exact gp0 _ _ _ | exact gn0 _ _)) (by first | rfl | assumption)) ?_
  refine OkO.move rfl rfl ?_
  refine OkO.nil ?_
  refine Ok.block ?_
  refine Ok.loop (fun n9 s_ => ∃ r : Nat, n9 = L - r ∧ r ≤ L ∧ (∀ r1 c k, r1 < r → c < cols.length → k < n → PlaceP (prC cols fa) (tabF T) L n r1 c k) ∧ Has 7 [(1, tv), (2, .ptr W.next 0), (12, I (L : Int)), (13, I (r : Int))] s_.T ∧ s_.D = [] ∧ Grow W s_.H ∧ s_.H.get W.next = some (.cells [cv, I (L : Int), I fa, .fn 66 [] []] 119)) (L) (by unfold loopFuel; omega)
    ⟨0, rfl, Nat.zero_le _, fun _ _ _ h => by omega, Has.of (by kernel_rfl), rfl, (by (try dsimp only); repeat (first | exact hG | apply Grow.new | (refine Grow.put ?_ _ (by first | omega | (simp only [hNw, hPt]; omega))))), (by first | assumption | (simp (disch := first | omega | (simp only [hNw, hPt]; omega)) only [gN] <;> first | rfl | assumption | exact gp0 _ _ _ | exact gn0 _ _))⟩ ?_
  rintro n9 ⟨T9, D, G⟩ ⟨r, hn9, hr, hpr, ⟨f, hT⟩, hD, hg, f0⟩
  dsimp only at *
  subst hT hD
  have hgn := hg.next
  have e0 : (G.get W.next).bind AObj.cs = some [cv, I (L : Int), I fa, .fn 66 [] []] := by rw [f0]; rfl
  refine Ok.seq ?_
  refine Ok.region ?_
  refine OkO.bin rfl rfl rfl (bin_lss _ _) ?_
  refine OkO.nil ?_
  refine Ok.seq ?_
  refine Ok.cond rfl (fun h1 => ?_) (fun h1 => ?_)
  · -- yes h1
    have hrL : r < L := by simpa using h1
    refine Ok.skip ?_
    refine Ok.seq ?_
    refine Ok.block ?_
    refine Ok.seq ?_
    refine Ok.region ?_
    refine OkO.move rfl rfl ?_
    refine OkO.assign rfl rfl ?_
    refine OkO.nil ?_
    refine Ok.seq ?_
    refine Ok.region ?_
    refine OkO.fieldAddr (o := 0) rfl (by kernel_rfl) rfl ?_
    refine OkO.fieldAddr (o := 0) rfl (by kernel_rfl) rfl ?_
    refine OkO.load rfl rfl (lda (n := 1) (by kernel_rfl) (by first | assumption | (simp (disch := first | omega | (simp only [hNw, hPt]; omega)) only [gN] <;> first | rfl | assumption | exact gp0 _ _ _ | exact gn0 _ _)) (by first | rfl | assumption)) ?_
    refine OkO.builtin rfl rfl rfl (bln (by kernel_rfl) (by first | assumption | rfl)) ?_
    refine OkO.move rfl rfl ?_
    refine OkO.nil ?_
    refine Ok.block ?_
    refine Ok.loop (fun n8 s_ => ∃ c : Nat, n8 = cols.length - c ∧ c ≤ cols.length ∧ (∀ c1 k, c1 < c → k < n → PlaceP (prC cols fa) (tabF T) L n r c1 k) ∧ Has 7 [(1, tv), (2, .ptr W.next 0), (12, I (L : Int)), (13, I (r : Int)), (5, I (r : Int)), (19, I (cols.length : Int)), (20, I (c : Int))] s_.T ∧ s_.D = [] ∧ Grow W s_.H ∧ s_.H.get W.next = some (.cells [cv, I (L : Int), I fa, .fn 66 [] []] 119)) (cols.length) (by unfold loopFuel; omega)
      ⟨0, rfl, Nat.zero_le _, fun _ _ h => by omega, Has.of (by kernel_rfl), rfl, hg, f0⟩ ?_
    rintro n8 ⟨T9, D, G⟩ ⟨c, hn8, hc, hpc, ⟨f, hT⟩, hD, hg, f0⟩
    dsimp only at *
    subst hT hD
    have hgn := hg.next
    have e0 : (G.get W.next).bind AObj.cs = some [cv, I (L : Int), I fa, .fn 66 [] []] := by rw [f0]; rfl
    refine Ok.seq ?_
    refine Ok.region ?_
    refine OkO.bin rfl rfl rfl (bin_lss _ _) ?_
    refine OkO.nil ?_
    refine Ok.seq ?_
    refine Ok.cond rfl (fun h2 => ?_) (fun h2 => ?_)
    · -- yes h2
      have hcn : c < cols.length := by simpa using h2
      refine Ok.skip ?_
      refine Ok.seq ?_
      refine Ok.block ?_
      refine Ok.seq ?_
      refine Ok.region ?_
      refine OkO.move rfl rfl ?_
      refine OkO.assign rfl rfl ?_
      refine OkO.nil ?_
      refine Ok.seq ?_
      refine Ok.region ?_
      refine OkO.move rfl rfl ?_
      refine OkO.fieldAddr (o := 0) rfl (by kernel_rfl) rfl ?_
      refine OkO.fieldAddr (o := 1) rfl (by kernel_rfl) rfl ?_
      refine OkO.load rfl rfl (lda (n := 1) (by kernel_rfl) (by first | assumption | (simp (disch := first | omega | (simp only [hNw, hPt]; omega)) only [gN] <;> first | rfl | assumption | exact gp0 _ _ _ | exact gn0 _ _)) (by first | rfl | assumption)) ?_
      refine OkO.bin rfl rfl rfl (bin_sub (by omega) (by omega)) ?_
      refine OkO.bin rfl rfl rfl (bin_eql _ _) ?_
      refine OkO.move rfl rfl ?_
      refine OkO.split (d := 29) rfl (fun g3 => ?_) (fun g3 => ?_)
      · -- true g3
        have hrl9 : r + 1 = L := by (have h9 : (r : Int) = (L : Int) - 1 := by simpa using g3); omega
        obtain ⟨R, l, hR1, hl1, hll, hlt, _⟩ := shape_at hsh hrL hcn
        obtain ⟨rvs, a1, a2, a3⟩ := id hTW
        have hrl : r < rvs.length := by rw [a2]; exact (List.getElem?_eq_some_iff.1 hR1).1
        obtain ⟨cvs, b1, b2, b3⟩ := a3 r rvs[r] R (List.getElem?_eq_getElem hrl) hR1
        have hcl9 : c < cvs.length := by rw [b2]; exact (List.getElem?_eq_some_iff.1 hl1).1
        have hlR := b3 c cvs[c] l (List.getElem?_eq_getElem hcl9) hl1
        obtain ⟨rv, hrv⟩ : ∃ rv, rv = rvs[r] := ⟨_, rfl⟩
        obtain ⟨lv, hlv⟩ : ∃ lv, lv = cvs[c] := ⟨_, rfl⟩
        rw [← hlv] at hlR
        rw [← hrv] at b1
        obtain ⟨ab, ao, acs, p1, p2, p3, p4⟩ := a1.at_ r [rv] (by simp [hrl, hrv])
        have p5 := seg_one p3
        obtain ⟨ib, io, ics, i1, i2, i3, i4⟩ := b1.at_ c [lv] (by simp [hcl9, hlv])
        have i5 := seg_one i3
        have hlvl : lenOf lv = some n := by rw [← hll]; simpa using hlR.len
        have p6 : (G.get ab).bind AObj.cs = some acs := by rw [hg.get _ p4]; exact p2
        have i6 : (G.get ib).bind AObj.cs = some ics := by rw [hg.get _ i4]; exact i2
        refine OkO.move rfl rfl ?_
        refine OkO.fieldAddr (o := 0) rfl (by kernel_rfl) rfl ?_
        refine OkO.fieldAddr (o := 1) rfl (by kernel_rfl) rfl ?_
        refine OkO.load rfl rfl (lda (n := 1) (by kernel_rfl) (by first | assumption | (simp (disch := first | omega | (simp only [hNw, hPt]; omega)) only [gN] <;> first | rfl | assumption | exact gp0 _ _ _ | exact gn0 _ _)) (by first | rfl | assumption)) ?_
        refine OkO.bin rfl rfl rfl (bin_sub (by omega) (by omega)) ?_
        refine OkO.bin rfl rfl rfl (bin_geq _ _) ?_
        refine OkO.pick (b := true) rfl rfl (fun _ => rfl) nofun ?_
        refine OkO.assign rfl rfl ?_
        refine OkO.nil ?_
        refine Ok.seq ?_
        refine Ok.region ?_
        refine OkO.move rfl rfl ?_
        refine OkO.move rfl rfl ?_
        refine OkO.index (sz := 1) (n := r) rfl rfl rfl (by kernel_rfl) (by first | assumption | rfl | exact slAt_slice (by omega) | exact slAt_opn (by omega)) ?_
        refine OkO.load rfl rfl (lda (n := 1) (by kernel_rfl) (by first | assumption | (simp (disch := first | omega | (simp only [hNw, hPt]; omega)) only [gN] <;> first | rfl | assumption | exact gp0 _ _ _ | exact gn0 _ _)) (by first | rfl | assumption)) ?_
        refine OkO.move rfl rfl ?_
        refine OkO.index (sz := 1) (n := c) rfl rfl rfl (by kernel_rfl) (by first | assumption | rfl | exact slAt_slice (by omega) | exact slAt_opn (by omega)) ?_
        refine OkO.load rfl rfl (lda (n := 1) (by kernel_rfl) (by first | assumption | (simp (disch := first | omega | (simp only [hNw, hPt]; omega)) only [gN] <;> first | rfl | assumption | exact gp0 _ _ _ | exact gn0 _ _)) (by first | rfl | assumption)) ?_
        refine OkO.builtin rfl rfl rfl (bln (by kernel_rfl) (by first | assumption | rfl)) ?_
        refine OkO.move rfl rfl ?_
        refine OkO.nil ?_
        refine Ok.block ?_
        refine Ok.loop (fun n7 s_ => ∃ k : Nat, n7 = n - k ∧ k ≤ n ∧ (∀ k1, k1 < k → PlaceP (prC cols fa) (tabF T) L n r c k1) ∧ Has 7 [(1, tv), (2, .ptr W.next 0), (12, I (L : Int)), (13, I (r : Int)), (5, I (r : Int)), (19, I (cols.length : Int)), (20, I (c : Int)), (6, I (c : Int)), (7, .bool (decide (((L : Int) - 1) ≤ (c : Int)))), (43, lv), (44, I (n : Int)), (45, I (k : Int))] s_.T ∧ s_.D = [] ∧ Grow W s_.H ∧ s_.H.get W.next = some (.cells [cv, I (L : Int), I fa, .fn 66 [] []] 119)) (n) (by unfold loopFuel; omega)
          ⟨0, rfl, Nat.zero_le _, fun _ h => by omega, Has.of (by kernel_rfl), rfl, hg, f0⟩ ?_
        rintro n7 ⟨T9, D, G⟩ ⟨k, hn7, hk, hpk, ⟨f, hT⟩, hD, hg, f0⟩
        dsimp only at *
        subst hT hD
        have hgn := hg.next
        have e0 : (G.get W.next).bind AObj.cs = some [cv, I (L : Int), I fa, .fn 66 [] []] := by rw [f0]; rfl
        refine Ok.seq ?_
        refine Ok.region ?_
        refine OkO.bin rfl rfl rfl (bin_lss _ _) ?_
        refine OkO.nil ?_
        refine Ok.seq ?_
        refine Ok.cond rfl (fun h4 => ?_) (fun h4 => ?_)
        · -- yes h4
          have hkn : k < n := by simpa using h4
          obtain ⟨kb, ko, kcs, k1, k2, k3, k4⟩ := hlR.at_ k [I (tabF T r c k)] (by rw [List.getElem?_map, hlt k hkn]; rfl)
          have k5 := seg_one k3
          have k6 : (G.get kb).bind AObj.cs = some kcs := by rw [hg.get _ k4]; exact k2
          have htb9 := tabF_bd hsh hrL hcn hkn
          refine Ok.skip ?_
          refine Ok.seq ?_
          refine Ok.block ?_
          refine Ok.seq ?_
          refine Ok.region ?_
          refine OkO.move rfl rfl ?_
          refine OkO.index (sz := 1) (n := k) rfl rfl rfl (by kernel_rfl) (by first | assumption | rfl | exact slAt_slice (by omega) | exact slAt_opn (by omega)) ?_
          refine OkO.load rfl rfl (lda (n := 1) (by kernel_rfl) (by first | assumption | (simp (disch := first | omega | (simp only [hNw, hPt]; omega)) only [gN] <;> first | rfl | assumption | exact gp0 _ _ _ | exact gn0 _ _)) (by first | rfl | assumption)) ?_
          refine OkO.assign rfl rfl ?_
          refine OkO.assign rfl rfl ?_
          refine OkO.nil ?_
          refine Ok.seq ?_
          refine Ok.region ?_
          refine OkO.move rfl rfl ?_
          refine OkO.load rfl rfl (ldg (n := 4) (by kernel_rfl) (by first | assumption | (simp (disch := first | omega | (simp only [hNw, hPt]; omega)) only [gN] <;> first | rfl | assumption | exact gp0 _ _ _ | exact gn0 _ _)) (by first | rfl | assumption)) ?_
          refine OkO.move rfl rfl ?_
          refine OkO.move rfl rfl ?_
          refine OkO.move rfl rfl ?_
          refine OkO.move rfl rfl ?_
          refine OkO.build (z := [.int .i64 0, .int .i64 0]) (pl := [(0, 1), (1, 1)]) rfl (by kernel_rfl) rfl rfl ?_
          refine OkO.callE rfl rfl rfl rfl rfl (c100 m cv tv cols fa (tabF T (r - 1) (c - 1)) (tabF T r (c - 1)) r L c k n _ (hM.ext (hE _ hg)) hcl hok hf hcn hkn (by omega) (by omega) (by omega) (by omega) (fun h1 h2 => tab_reads (hTb.ext (hE _ hg)) hsh (by omega) (by omega)) (fun h1 h2 => tab_reads (hTb.ext (hE _ hg)) hsh (by omega) (by omega)) (fun i => tabF_any hsh _ _ i) (fun i => tabF_any hsh _ _ i) ⟨_, htl⟩) ?_
          rintro _ H100 ⟨x, rfl, rfl, hmx⟩
          refine OkO.bin rfl rfl rfl (bin_gtr _ _) ?_
          refine OkO.move rfl rfl ?_
          refine OkO.split (d := 59) rfl (fun g5 => ?_) (fun g5 => ?_)
          · -- true g5
            refine OkO.skip rfl ?_
            refine OkO.skip rfl ?_
            refine OkO.skip rfl ?_
            refine OkO.skip rfl ?_
            refine OkO.skip rfl ?_
            refine OkO.pick (b := true) rfl rfl (fun _ => rfl) nofun ?_
            refine OkO.nil ?_
            refine Ok.condT rfl ?_
            refine Ok.seq ?_
            refine Ok.region ?_
            refine OkO.assign rfl rfl ?_
            refine OkO.nil ?_
            refine Ok.ret ⟨.inr rfl, ?_⟩
            refine ⟨_, _, back_flat rfl rfl rfl (by rw [← hW]; exact hg), false, rfl, rfl, ?_⟩
            simp only [Bool.false_eq_true, false_iff]
            exact fun h9 => place_no hmx htb9.2 (by simpa using g5) (h9 r c k hrL hcn hkn)
          · -- false g5
            have hle : tabF T r c k ≤ x := by simpa using g5
            refine OkO.move rfl rfl ?_
            refine OkO.move rfl rfl ?_
            refine OkO.split (d := 61) rfl (fun g6 => ?_) (fun g6 => ?_)
            · -- true g6
              refine OkO.move rfl rfl ?_
              refine OkO.bin rfl rfl rfl (bin_lss _ _) ?_
              refine OkO.pick (b := true) rfl rfl (fun _ => rfl) nofun ?_
              refine OkO.pick (b := false) rfl rfl nofun (fun _ => rfl) ?_
              refine OkO.nil ?_
              refine Ok.cond rfl (fun h7 => ?_) (fun h7 => ?_)
              · -- yes h7
                refine Ok.seq ?_
                refine Ok.region ?_
                refine OkO.assign rfl rfl ?_
                refine OkO.nil ?_
                refine Ok.ret ⟨.inr rfl, ?_⟩
                refine ⟨_, _, back_flat rfl rfl rfl (by rw [← hW]; exact hg), false, rfl, rfl, ?_⟩
                simp only [Bool.false_eq_true, false_iff]
                exact fun h9 => by (have h8 := (h9 r c k hrL hcn hkn).2.2 hrl9 (by (have h5 : (L : Int) - 1 ≤ (c : Int) := by simpa using g6); omega)); (have h6 : tabF T r c k < 0 := by simpa using h7); omega
              · -- no h7
                have hwh : r + 1 = L → L ≤ c + 1 → 0 ≤ tabF T r c k := fun _ _ => by simpa using h7
                refine Ok.skip ?_
                refine Ok.region ?_
                refine OkO.bin rfl rfl rfl (bin_add (by omega) (by omega)) ?_
                refine OkO.move rfl rfl ?_
                refine OkO.nil ?_
                exact ⟨n - (k + 1), by omega, k + 1, rfl, by omega, fun k9 h1 => by (by_cases h4 : k9 = k; (· subst h4; exact place_yes hmx hle hwh); (· exact hpk k9 (by omega))), Has.of (by kernel_rfl), rfl, hg, f0⟩
            · -- false g6
              have hwh : r + 1 = L → L ≤ c + 1 → 0 ≤ tabF T r c k := fun _ h9 => by (have h8 : ¬ (L : Int) - 1 ≤ (c : Int) := by simpa using g6); omega
              refine OkO.skip rfl ?_
              refine OkO.skip rfl ?_
              refine OkO.pick (b := false) rfl rfl nofun (fun _ => rfl) ?_
              refine OkO.pick (b := false) rfl rfl nofun (fun _ => rfl) ?_
              refine OkO.nil ?_
              refine Ok.condF rfl ?_
              refine Ok.skip ?_
              refine Ok.region ?_
              refine OkO.bin rfl rfl rfl (bin_add (by omega) (by omega)) ?_
              refine OkO.move rfl rfl ?_
              refine OkO.nil ?_
              exact ⟨n - (k + 1), by omega, k + 1, rfl, by omega, fun k9 h1 => by (by_cases h4 : k9 = k; (· subst h4; exact place_yes hmx hle hwh); (· exact hpk k9 (by omega))), Has.of (by kernel_rfl), rfl, hg, f0⟩
        · -- no h4
          have hkn : k = n := by (have : ¬ k < n := by simpa using h4); omega
          refine Ok.exit ?_
          refine Ok.region ?_
          refine OkO.bin rfl rfl rfl (bin_add (by omega) (by omega)) ?_
          refine OkO.move rfl rfl ?_
          refine OkO.nil ?_
          exact ⟨cols.length - (c + 1), by omega, c + 1, rfl, by omega, fun c9 k9 h1 h3 => by (by_cases h4 : c9 = c; (· subst h4; exact hpk k9 (by omega)); (· exact hpc c9 k9 (by omega) h3)), Has.of (by kernel_rfl), rfl, hg, f0⟩
      · -- false g3
        have hrl9 : ¬ r + 1 = L := by (have h9 : ¬ (r : Int) = (L : Int) - 1 := by simpa using g3); omega
        obtain ⟨R, l, hR1, hl1, hll, hlt, _⟩ := shape_at hsh hrL hcn
        obtain ⟨rvs, a1, a2, a3⟩ := id hTW
        have hrl : r < rvs.length := by rw [a2]; exact (List.getElem?_eq_some_iff.1 hR1).1
        obtain ⟨cvs, b1, b2, b3⟩ := a3 r rvs[r] R (List.getElem?_eq_getElem hrl) hR1
        have hcl9 : c < cvs.length := by rw [b2]; exact (List.getElem?_eq_some_iff.1 hl1).1
        have hlR := b3 c cvs[c] l (List.getElem?_eq_getElem hcl9) hl1
        obtain ⟨rv, hrv⟩ : ∃ rv, rv = rvs[r] := ⟨_, rfl⟩
        obtain ⟨lv, hlv⟩ : ∃ lv, lv = cvs[c] := ⟨_, rfl⟩
        rw [← hlv] at hlR
        rw [← hrv] at b1
        obtain ⟨ab, ao, acs, p1, p2, p3, p4⟩ := a1.at_ r [rv] (by simp [hrl, hrv])
        have p5 := seg_one p3
        obtain ⟨ib, io, ics, i1, i2, i3, i4⟩ := b1.at_ c [lv] (by simp [hcl9, hlv])
        have i5 := seg_one i3
        have hlvl : lenOf lv = some n := by rw [← hll]; simpa using hlR.len
        have p6 : (G.get ab).bind AObj.cs = some acs := by rw [hg.get _ p4]; exact p2
        have i6 : (G.get ib).bind AObj.cs = some ics := by rw [hg.get _ i4]; exact i2
        refine OkO.skip rfl ?_
        refine OkO.skip rfl ?_
        refine OkO.skip rfl ?_
        refine OkO.skip rfl ?_
        refine OkO.skip rfl ?_
        refine OkO.skip rfl ?_
        refine OkO.pick (b := false) rfl rfl nofun (fun _ => rfl) ?_
        refine OkO.assign rfl rfl ?_
        refine OkO.nil ?_
        refine Ok.seq ?_
        refine Ok.region ?_
        refine OkO.move rfl rfl ?_
        refine OkO.move rfl rfl ?_
        refine OkO.index (sz := 1) (n := r) rfl rfl rfl (by kernel_rfl) (by first | assumption | rfl | exact slAt_slice (by omega) | exact slAt_opn (by omega)) ?_
        refine OkO.load rfl rfl (lda (n := 1) (by kernel_rfl) (by first | assumption | (simp (disch := first | omega | (simp only [hNw, hPt]; omega)) only [gN] <;> first | rfl | assumption | exact gp0 _ _ _ | exact gn0 _ _)) (by first | rfl | assumption)) ?_
        refine OkO.move rfl rfl ?_
        refine OkO.index (sz := 1) (n := c) rfl rfl rfl (by kernel_rfl) (by first | assumption | rfl | exact slAt_slice (by omega) | exact slAt_opn (by omega)) ?_
        refine OkO.load rfl rfl (lda (n := 1) (by kernel_rfl) (by first | assumption | (simp (disch := first | omega | (simp only [hNw, hPt]; omega)) only [gN] <;> first | rfl | assumption | exact gp0 _ _ _ | exact gn0 _ _)) (by first | rfl | assumption)) ?_
        refine OkO.builtin rfl rfl rfl (bln (by kernel_rfl) (by first | assumption | rfl)) ?_
        refine OkO.move rfl rfl ?_
        refine OkO.nil ?_
        refine Ok.block ?_
        refine Ok.loop (fun n7 s_ => ∃ k : Nat, n7 = n - k ∧ k ≤ n ∧ (∀ k1, k1 < k → PlaceP (prC cols fa) (tabF T) L n r c k1) ∧ Has 7 [(1, tv), (2, .ptr W.next 0), (12, I (L : Int)), (13, I (r : Int)), (5, I (r : Int)), (19, I (cols.length : Int)), (20, I (c : Int)), (6, I (c : Int)), (7, .bool false), (43, lv), (44, I (n : Int)), (45, I (k : Int))] s_.T ∧ s_.D = [] ∧ Grow W s_.H ∧ s_.H.get W.next = some (.cells [cv, I (L : Int), I fa, .fn 66 [] []] 119)) (n) (by unfold loopFuel; omega)
          ⟨0, rfl, Nat.zero_le _, fun _ h => by omega, Has.of (by kernel_rfl), rfl, hg, f0⟩ ?_
        rintro n7 ⟨T9, D, G⟩ ⟨k, hn7, hk, hpk, ⟨f, hT⟩, hD, hg, f0⟩
        dsimp only at *
        subst hT hD
        have hgn := hg.next
        have e0 : (G.get W.next).bind AObj.cs = some [cv, I (L : Int), I fa, .fn 66 [] []] := by rw [f0]; rfl
        refine Ok.seq ?_
        refine Ok.region ?_
        refine OkO.bin rfl rfl rfl (bin_lss _ _) ?_
        refine OkO.nil ?_
        refine Ok.seq ?_
        refine Ok.cond rfl (fun h8 => ?_) (fun h8 => ?_)
        · -- yes h8
          have hkn : k < n := by simpa using h8
          obtain ⟨kb, ko, kcs, k1, k2, k3, k4⟩ := hlR.at_ k [I (tabF T r c k)] (by rw [List.getElem?_map, hlt k hkn]; rfl)
          have k5 := seg_one k3
          have k6 : (G.get kb).bind AObj.cs = some kcs := by rw [hg.get _ k4]; exact k2
          have htb9 := tabF_bd hsh hrL hcn hkn
          refine Ok.skip ?_
          refine Ok.seq ?_
          refine Ok.block ?_
          refine Ok.seq ?_
          refine Ok.region ?_
          refine OkO.move rfl rfl ?_
          refine OkO.index (sz := 1) (n := k) rfl rfl rfl (by kernel_rfl) (by first | assumption | rfl | exact slAt_slice (by omega) | exact slAt_opn (by omega)) ?_
          refine OkO.load rfl rfl (lda (n := 1) (by kernel_rfl) (by first | assumption | (simp (disch := first | omega | (simp only [hNw, hPt]; omega)) only [gN] <;> first | rfl | assumption | exact gp0 _ _ _ | exact gn0 _ _)) (by first | rfl | assumption)) ?_
          refine OkO.assign rfl rfl ?_
          refine OkO.assign rfl rfl ?_
          refine OkO.nil ?_
          refine Ok.seq ?_
          refine Ok.region ?_
          refine OkO.move rfl rfl ?_
          refine OkO.load rfl rfl (ldg (n := 4) (by kernel_rfl) (by first | assumption | (simp (disch := first | omega | (simp only [hNw, hPt]; omega)) only [gN] <;> first | rfl | assumption | exact gp0 _ _ _ | exact gn0 _ _)) (by first | rfl | assumption)) ?_
          refine OkO.move rfl rfl ?_
          refine OkO.move rfl rfl ?_
          refine OkO.move rfl rfl ?_
          refine OkO.move rfl rfl ?_
          refine OkO.build (z := [.int .i64 0, .int .i64 0]) (pl := [(0, 1), (1, 1)]) rfl (by kernel_rfl) rfl rfl ?_
          refine OkO.callE rfl rfl rfl rfl rfl (c100 m cv tv cols fa (tabF T (r - 1) (c - 1)) (tabF T r (c - 1)) r L c k n _ (hM.ext (hE _ hg)) hcl hok hf hcn hkn (by omega) (by omega) (by omega) (by omega) (fun h1 h2 => tab_reads (hTb.ext (hE _ hg)) hsh (by omega) (by omega)) (fun h1 h2 => tab_reads (hTb.ext (hE _ hg)) hsh (by omega) (by omega)) (fun i => tabF_any hsh _ _ i) (fun i => tabF_any hsh _ _ i) ⟨_, htl⟩) ?_
          rintro _ H100 ⟨x, rfl, rfl, hmx⟩
          refine OkO.bin rfl rfl rfl (bin_gtr _ _) ?_
          refine OkO.move rfl rfl ?_
          refine OkO.split (d := 59) rfl (fun g9 => ?_) (fun g9 => ?_)
          · -- true g9
            refine OkO.skip rfl ?_
            refine OkO.skip rfl ?_
            refine OkO.skip rfl ?_
            refine OkO.skip rfl ?_
            refine OkO.skip rfl ?_
            refine OkO.pick (b := true) rfl rfl (fun _ => rfl) nofun ?_
            refine OkO.nil ?_
            refine Ok.condT rfl ?_
            refine Ok.seq ?_
            refine Ok.region ?_
            refine OkO.assign rfl rfl ?_
            refine OkO.nil ?_
            refine Ok.ret ⟨.inr rfl, ?_⟩
            refine ⟨_, _, back_flat rfl rfl rfl (by rw [← hW]; exact hg), false, rfl, rfl, ?_⟩
            simp only [Bool.false_eq_true, false_iff]
            exact fun h9 => place_no hmx htb9.2 (by simpa using g9) (h9 r c k hrL hcn hkn)
          · -- false g9
            have hle : tabF T r c k ≤ x := by simpa using g9
            refine OkO.move rfl rfl ?_
            refine OkO.move rfl rfl ?_
            refine OkO.split (d := 61) rfl (fun g10 => ?_) (fun g10 => ?_)
            · -- true g10
              exact absurd g10 (by simp)
            · -- false g10
              have hwh : r + 1 = L → L ≤ c + 1 → 0 ≤ tabF T r c k := fun h9 _ => absurd h9 hrl9
              refine OkO.skip rfl ?_
              refine OkO.skip rfl ?_
              refine OkO.pick (b := false) rfl rfl nofun (fun _ => rfl) ?_
              refine OkO.pick (b := false) rfl rfl nofun (fun _ => rfl) ?_
              refine OkO.nil ?_
              refine Ok.condF rfl ?_
              refine Ok.skip ?_
              refine Ok.region ?_
              refine OkO.bin rfl rfl rfl (bin_add (by omega) (by omega)) ?_
              refine OkO.move rfl rfl ?_
              refine OkO.nil ?_
              exact ⟨n - (k + 1), by omega, k + 1, rfl, by omega, fun k9 h1 => by (by_cases h4 : k9 = k; (· subst h4; exact place_yes hmx hle hwh); (· exact hpk k9 (by omega))), Has.of (by kernel_rfl), rfl, hg, f0⟩
        · -- no h8
          have hkn : k = n := by (have : ¬ k < n := by simpa using h8); omega
          refine Ok.exit ?_
          refine Ok.region ?_
          refine OkO.bin rfl rfl rfl (bin_add (by omega) (by omega)) ?_
          refine OkO.move rfl rfl ?_
          refine OkO.nil ?_
          exact ⟨cols.length - (c + 1), by omega, c + 1, rfl, by omega, fun c9 k9 h1 h3 => by (by_cases h4 : c9 = c; (· subst h4; exact hpk k9 (by omega)); (· exact hpc c9 k9 (by omega) h3)), Has.of (by kernel_rfl), rfl, hg, f0⟩
    · -- no h2
      have hcn : c = cols.length := by (have : ¬ c < cols.length := by simpa using h2); omega
      refine Ok.exit ?_
      refine Ok.region ?_
      refine OkO.bin rfl rfl rfl (bin_add (by omega) (by omega)) ?_
      refine OkO.move rfl rfl ?_
      refine OkO.nil ?_
      exact ⟨L - (r + 1), by omega, r + 1, rfl, by omega, fun r1 c9 k9 h1 h2 h3 => by (by_cases h4 : r1 = r; (· subst h4; exact hpc c9 k9 (by omega) h3); (· exact hpr r1 c9 k9 (by omega) h2 h3)), Has.of (by kernel_rfl), rfl, hg, f0⟩
  · -- no h1
    have hrL : r = L := by (have : ¬ r < L := by simpa using h1); omega
    refine Ok.exit ?_
    refine Ok.seq ?_
    refine Ok.region ?_
    refine OkO.assign rfl rfl ?_
    refine OkO.nil ?_
    refine Ok.ret ⟨.inr rfl, ?_⟩
    exact ⟨_, _, back_flat rfl rfl rfl (by rw [← hW]; exact hg), true, rfl, rfl, ⟨fun _ r9 c9 k9 h1 h2 h3 => hpr r9 c9 k9 (by omega) h2 h3, fun _ => rfl⟩⟩
end
end Go.Ev

set_option maxRecDepth 100000
set_option linter.unusedSimpArgs false
set_option linter.unusedVariables false
namespace Go.Ev
open Go Go.Proofs
noncomputable section
theorem c38S (m : Nat) (cv tv : AV) (cols : List (List Bed)) (fa : Int) (L : Nat) (T : List (List (List Int))) (H : Heap) (hM : Mat H cv cols) (hT : Tab H tv T) (hTl : T.length ≤ 1000) (hRl : ∀ R ∈ T, R.length ≤ 1000) (hll : ∀ R ∈ T, ∀ l ∈ R, l.length ≤ 1000) (hv : slOk cols (L : Int) = true) (hf : 0 ≤ fa ∧ fa ≤ 10000) (hsh : shapeB cols.length (cols.headD []).length (L : Int) T = false) : RR (m + 10) (.fn 38 [.agg [cv, I (L : Int)], I fa, tv]) H = some (.bool false, H) := by
  refine (R_fn _ _ _ _ _).trans ?_
  refine fn_ok Try.func38 rfl rfl (by kernel_rfl) (by kernel_rfl) ?_
  obtain ⟨W, hW, hg, hN, hE, hG⟩ := wOf H
  rw [← hW]
  have pc : cv.plain = true := by obtain ⟨vs, hR, _, _⟩ := hM; exact lpl hR.len
  have hsf := slOk_facts hv
  refine Ok.seq ?_
  refine Ok.region ?_
  refine OkO.box rfl rfl ?_
  refine OkO.assign rfl rfl ?_
  refine OkO.nil ?_
  refine Ok.seq ?_
  refine Ok.seq ?_
  refine Ok.region ?_
  refine OkO.load rfl rfl (ldg (n := 2) (by kernel_rfl) (by first | assumption | (simp (disch := first | omega | (simp only [hNw, hPt]; omega)) only [gN] <;> first | rfl | assumption | exact gp0 _ _ _ | exact gn0 _ _)) (by first | rfl | assumption)) ?_
  refine OkO.move rfl rfl ?_
  refine OkO.callV rfl rfl rfl rfl rfl ((c76 m cv cols (L : Int) fa _ (hM.ext (hE _ (by (try dsimp only); repeat (first | exact hG | apply Grow.new | (refine Grow.put ?_ _ (by first | omega | (simp only [hNw, hPt]; omega)))))))).trans (by rw [if_pos hv, if_pos (show inB fa 0 10000 = true by simp [inB]; omega)])) ?_
  refine OkO.bin rfl rfl rfl (bin_neq _ _) ?_
  refine OkO.move rfl rfl ?_
  refine OkO.split (d := 11) rfl (fun g1 => ?_) (fun g1 => ?_)
  · -- true g1
    exact absurd g1 (by simp)
  · -- false g1
    refine OkO.load rfl rfl (ldg (n := 2) (by kernel_rfl) (by first | assumption | (simp (disch := first | omega | (simp only [hNw, hPt]; omega)) only [gN] <;> first | rfl | assumption | exact gp0 _ _ _ | exact gn0 _ _)) (by first | rfl | assumption)) ?_
    refine OkO.move rfl rfl ?_
    refine OkO.callV rfl rfl rfl rfl rfl ((c77 (m + 2) (cols.headD []).length cv tv cols (L : Int) T _ (hM.ext (hE _ (by (try dsimp only); repeat (first | exact hG | apply Grow.new | (refine Grow.put ?_ _ (by first | omega | (simp only [hNw, hPt]; omega))))))) (lens_of hv) (by omega) (by omega) (hT.ext (hE _ (by (try dsimp only); repeat (first | exact hG | apply Grow.new | (refine Grow.put ?_ _ (by first | omega | (simp only [hNw, hPt]; omega))))))) hTl hRl hll).trans (by rw [hsh])) ?_
    refine OkO.un rfl rfl rfl ?_
    refine OkO.pick (b := false) rfl rfl nofun (fun _ => rfl) ?_
    refine OkO.nil ?_
    refine Ok.cond rfl (fun h2 => ?_) (fun h2 => ?_)
    · -- yes h2
      refine Ok.seq ?_
      refine Ok.region ?_
      refine OkO.assign rfl rfl ?_
      refine OkO.nil ?_
      refine Ok.ret ⟨.inr rfl, ?_⟩
      exact back_flat rfl rfl rfl (by rw [← hW]; exact (by (try dsimp only); repeat (first | exact hG | apply Grow.new | (refine Grow.put ?_ _ (by first | omega | (simp only [hNw, hPt]; omega))))))
    · -- no h2
      exact absurd h2 (by simp)
theorem c38 (m : Nat) (cv tv : AV) (cols : List (List Bed)) (fa : Int) (L : Nat) (T : List (List (List Int))) (H : Heap) (hM : Mat H cv cols) (hT : Tab H tv T) (hTl : T.length ≤ 1000) (hRl : ∀ R ∈ T, R.length ≤ 1000) (hll : ∀ R ∈ T, ∀ l ∈ R, l.length ≤ 1000) (hv : slOk cols (L : Int) = true) (hf : 0 ≤ fa ∧ fa ≤ 10000) (hsh : shapeB cols.length (cols.headD []).length (L : Int) T = true) : ∃ v H', RR (m + 10) (.fn 38 [.agg [cv, I (L : Int)], I fa, tv]) H = some (v, H') ∧ ∃ b : Bool, v = .bool b ∧ H' = H ∧ (b = true ↔ TabP (prC cols fa) (tabF T) cols.length (cols.headD []).length L) := by
  show ∃ v H', evFn Try.prog (RR (m + 9)) 38 [.agg [cv, I (L : Int)], I fa, tv] H = some (v, H') ∧ ∃ b : Bool, v = .bool b ∧ H' = H ∧ (b = true ↔ TabP (prC cols fa) (tabF T) cols.length (cols.headD []).length L)
  refine fn_okE Try.func38 rfl rfl (by kernel_rfl) (by kernel_rfl) ?_
  obtain ⟨W, hW, hg, hN, hE, hG⟩ := wOf H
  rw [← hW]
  have pc : cv.plain = true := by obtain ⟨vs, hR, _, _⟩ := hM; exact lpl hR.len
  have hsf := slOk_facts hv
  refine Ok.seq ?_
  refine Ok.region ?_
  refine OkO.box rfl rfl ?_
  refine OkO.assign rfl rfl ?_
  refine OkO.nil ?_
  refine Ok.seq ?_
  refine Ok.seq ?_
  refine Ok.region ?_
  refine OkO.load rfl rfl (ldg (n := 2) (by kernel_rfl) (by first | assumption | (simp (disch := first | omega | (simp only [hNw, hPt]; omega)) only [gN] <;> first | rfl | assumption | exact gp0 _ _ _ | exact gn0 _ _)) (by first | rfl | assumption)) ?_
  refine OkO.move rfl rfl ?_
  refine OkO.callV rfl rfl rfl rfl rfl ((c76 m cv cols (L : Int) fa _ (hM.ext (hE _ (by (try dsimp only); repeat (first | exact hG | apply Grow.new | (refine Grow.put ?_ _ (by first | omega | (simp only [hNw, hPt]; omega)))))))).trans (by rw [if_pos hv, if_pos (show inB fa 0 10000 = true by simp [inB]; omega)])) ?_
  refine OkO.bin rfl rfl rfl (bin_neq _ _) ?_
  refine OkO.move rfl rfl ?_
  refine OkO.split (d := 11) rfl (fun g1 => ?_) (fun g1 => ?_)
  · -- true g1
    exact absurd g1 (by simp)
  · -- false g1
    refine OkO.load rfl rfl (ldg (n := 2) (by kernel_rfl) (by first | assumption | (simp (disch := first | omega | (simp only [hNw, hPt]; omega)) only [gN] <;> first | rfl | assumption | exact gp0 _ _ _ | exact gn0 _ _)) (by first | rfl | assumption)) ?_
    refine OkO.move rfl rfl ?_
    refine OkO.callV rfl rfl rfl rfl rfl ((c77 (m + 2) (cols.headD []).length cv tv cols (L : Int) T _ (hM.ext (hE _ (by (try dsimp only); repeat (first | exact hG | apply Grow.new | (refine Grow.put ?_ _ (by first | omega | (simp only [hNw, hPt]; omega))))))) (lens_of hv) (by omega) (by omega) (hT.ext (hE _ (by (try dsimp only); repeat (first | exact hG | apply Grow.new | (refine Grow.put ?_ _ (by first | omega | (simp only [hNw, hPt]; omega))))))) hTl hRl hll).trans (by rw [hsh])) ?_
    refine OkO.un rfl rfl rfl ?_
    refine OkO.pick (b := false) rfl rfl nofun (fun _ => rfl) ?_
    refine OkO.nil ?_
    refine Ok.cond rfl (fun h2 => ?_) (fun h2 => ?_)
    · -- yes h2
      exact absurd h2 (by simp)
    · -- no h2
      refine Ok.skip ?_
      refine Ok.seq ?_
      refine Ok.region ?_
      refine OkO.load rfl rfl (ldg (n := 2) (by kernel_rfl) (by first | assumption | (simp (disch := first | omega | (simp only [hNw, hPt]; omega)) only [gN] <;> first | rfl | assumption | exact gp0 _ _ _ | exact gn0 _ _)) (by first | rfl | assumption)) ?_
      refine OkO.move rfl rfl ?_
      refine OkO.build (z := [.nils, .int .i64 0, .int .i64 0, .nilf]) (pl := [(0, 2), (2, 1), (3, 1)]) rfl (by kernel_rfl) rfl rfl ?_
      refine OkO.move rfl rfl ?_
      refine OkO.callE rfl rfl rfl rfl rfl (c78 (m + 3) cv tv cols fa L (cols.headD []).length T _ (hM.ext (hE _ (by (try dsimp only); repeat (first | exact hG | apply Grow.new | (refine Grow.put ?_ _ (by first | omega | (simp only [hNw, hPt]; omega))))))) (lens_of hv) (bedsOk_of hv) hf (by omega) (by omega) (by omega) (hT.ext (hE _ (by (try dsimp only); repeat (first | exact hG | apply Grow.new | (refine Grow.put ?_ _ (by first | omega | (simp only [hNw, hPt]; omega))))))) hsh) ?_
      rintro _ H78 ⟨bb, rfl, rfl, hbb⟩
      refine OkO.assign rfl rfl ?_
      refine OkO.nil ?_
      refine Ok.ret ⟨.inr rfl, ?_⟩
      exact ⟨_, _, back_flat rfl rfl rfl (by rw [← hW]; exact (by (try dsimp only); repeat (first | exact hG | apply Grow.new | (refine Grow.put ?_ _ (by first | omega | (simp only [hNw, hPt]; omega)))))), bb, rfl, rfl, hbb⟩
end
end Go.Ev

set_option maxRecDepth 100000
set_option linter.unusedSimpArgs false
set_option linter.unusedVariables false
namespace Go.Ev
open Go Go.Proofs
noncomputable section
/-- The limits of a place of a table, in a list. -/
def limL (cost : Int) (A B : Nat → Int) (r L c k n : Nat) : List Int :=
  (if r = 0 then [cost] else []) ++ (if 0 < c then ((List.range n).filter fun i => decide (i ≤ k + 1) && decide (k ≤ i + 1)).flatMap (fun i => (if 0 < r then [cost + A i] else []) ++ (if r + 1 = L then [cost + B i] else [])) else [])
def mostV (cost : Int) (A B : Nat → Int) (r L c k n : Nat) : Int := minL 1000000000000000 (limL cost A B r L c k n)
theorem lim_mem {cost : Int} {A B : Nat → Int} {r L c k n : Nat} {x : Int} : x ∈ limL cost A B r L c k n ↔ (r = 0 ∧ x = cost) ∨ (0 < c ∧ ∃ i, Nxt n k i ∧ ((0 < r ∧ x = cost + A i) ∨ (r + 1 = L ∧ x = cost + B i))) := by
  unfold limL
  rw [List.mem_append]
  have e1 : x ∈ (if r = 0 then [cost] else []) ↔ (r = 0 ∧ x = cost) := by
    by_cases h : r = 0
    · rw [if_pos h]; simp [h]
    · rw [if_neg h]; simp [h]
  have e2 : x ∈ (if 0 < c then ((List.range n).filter fun i => decide (i ≤ k + 1) && decide (k ≤ i + 1)).flatMap (fun i => (if 0 < r then [cost + A i] else []) ++ (if r + 1 = L then [cost + B i] else [])) else []) ↔ (0 < c ∧ ∃ i, Nxt n k i ∧ ((0 < r ∧ x = cost + A i) ∨ (r + 1 = L ∧ x = cost + B i))) := by
    by_cases h : 0 < c
    · rw [if_pos h]
      have e3 : ∀ i, x ∈ ((if 0 < r then [cost + A i] else []) ++ (if r + 1 = L then [cost + B i] else [])) ↔ ((0 < r ∧ x = cost + A i) ∨ (r + 1 = L ∧ x = cost + B i)) := fun i => by
        rw [List.mem_append]
        by_cases h1 : 0 < r <;> by_cases h2 : r + 1 = L <;> simp [h1, h2]
      rw [List.mem_flatMap]
      constructor
      · rintro ⟨i, hi, hx⟩
        rw [List.mem_filter, List.mem_range, Bool.and_eq_true, decide_eq_true_eq, decide_eq_true_eq] at hi
        exact ⟨h, i, ⟨hi.1, hi.2.1, hi.2.2⟩, (e3 i).1 hx⟩
      · rintro ⟨_, i, ⟨h1, h2, h3⟩, hx⟩
        exact ⟨i, by rw [List.mem_filter, List.mem_range, Bool.and_eq_true, decide_eq_true_eq, decide_eq_true_eq]; exact ⟨h1, h2, h3⟩, (e3 i).2 hx⟩
    · rw [if_neg h]
      exact ⟨fun h9 => absurd h9 List.not_mem_nil, fun h9 => absurd h9.1 h⟩
  rw [e1, e2]
theorem mostV_is (cost : Int) (A B : Nat → Int) (r L c k n : Nat) : MostIs cost A B r L c k n (mostV cost A B r L c k n) := by
  have hm := minL_le (limL cost A B r L c k n) 1000000000000000
  refine ⟨hm.1, fun hr => hm.2 _ (lim_mem.2 (.inl ⟨hr, rfl⟩)), fun hc i hi => ⟨fun hr => hm.2 _ (lim_mem.2 (.inr ⟨hc, i, hi, .inl ⟨hr, rfl⟩⟩)), fun hr => hm.2 _ (lim_mem.2 (.inr ⟨hc, i, hi, .inr ⟨hr, rfl⟩⟩))⟩, ?_⟩
  rcases minL_or (limL cost A B r L c k n) 1000000000000000 with h | h
  · exact .inl h
  · exact .inr (lim_mem.1 h)
theorem MostIs.le {cost : Int} {A B : Nat → Int} {r L c k n : Nat} {x y : Int} (hx : MostIs cost A B r L c k n x) (hy : MostIs cost A B r L c k n y) : x ≤ y := by
  obtain ⟨x1, x2, x3, _⟩ := hx
  obtain ⟨_, _, _, y4⟩ := hy
  rcases y4 with h | ⟨h, h2⟩ | ⟨hc, i, hi, h | h⟩
  · rw [h]; exact x1
  · rw [h2]; exact x2 h
  · rw [h.2]; exact (x3 hc i hi).1 h.1
  · rw [h.2]; exact (x3 hc i hi).2 h.1
theorem MostIs.uniq {cost : Int} {A B : Nat → Int} {r L c k n : Nat} {x y : Int} (hx : MostIs cost A B r L c k n x) (hy : MostIs cost A B r L c k n y) : x = y := Int.le_antisymm (hx.le hy) (hy.le hx)
theorem MostIs.zero {cost : Int} {A B A' B' : Nat → Int} {r L k n : Nat} {x : Int} (h : MostIs cost A B r L 0 k n x) : MostIs cost A' B' r L 0 k n x := by
  obtain ⟨h1, h2, _, h4⟩ := h
  refine ⟨h1, h2, fun h => absurd h (Nat.lt_irrefl 0), ?_⟩
  rcases h4 with h | h | h
  · exact .inl h
  · exact .inr (.inl h)
  · exact absurd h.1 (Nat.lt_irrefl 0)
/-- The numbers of the greatest table. -/
def tF (pr : Nat → Nat → Int) (n L : Nat) : Nat → Nat → Nat → Int
  | 0, r, k => mostV (pr 0 k) (fun _ => 0) (fun _ => 0) r L 0 k n
  | c + 1, r, k => mostV (pr (c + 1) k) (fun i => tF pr n L c (r - 1) i) (fun i => tF pr n L c r i) r L (c + 1) k n
theorem tF_most (pr : Nat → Nat → Int) (n L : Nat) : ∀ (c r k : Nat), MostIs (pr c k) (fun i => tF pr n L (c - 1) (r - 1) i) (fun i => tF pr n L (c - 1) r i) r L c k n (tF pr n L c r k)
  | 0, r, k => (mostV_is (pr 0 k) (fun _ => 0) (fun _ => 0) r L 0 k n).zero
  | c + 1, r, k => mostV_is (pr (c + 1) k) (fun i => tF pr n L c (r - 1) i) (fun i => tF pr n L c r i) r L (c + 1) k n
theorem tF_bd {pr : Nat → Nat → Int} (hB : PrB pr) (n L : Nat) : ∀ (c r k : Nat), -10000000000 * (c + 1 : Int) ≤ tF pr n L c r k ∧ tF pr n L c r k ≤ 1000000000000000
  | 0, r, k => by
    obtain ⟨h1, _, _, h4⟩ := tF_most pr n L 0 r k
    refine ⟨?_, h1⟩
    have hb := hB 0 k
    rcases h4 with h | ⟨_, h⟩ | ⟨h, _⟩
    · omega
    · omega
    · omega
  | c + 1, r, k => by
    obtain ⟨h1, _, _, h4⟩ := tF_most pr n L (c + 1) r k
    refine ⟨?_, h1⟩
    have hb := hB (c + 1) k
    rcases h4 with h | ⟨_, h⟩ | ⟨_, i, _, h | h⟩
    · omega
    · omega
    · have := (tF_bd hB n L c (r - 1) i).1
      have h2 := h.2
      simp only [Nat.add_sub_cancel] at h2
      omega
    · have := (tF_bd hB n L c r i).1
      have h2 := h.2
      simp only [Nat.add_sub_cancel] at h2
      omega
theorem Nxt.symm' {n k i : Nat} (h : Nxt n k i) (hk : k < n) : Nxt n i k := ⟨hk, h.2.2, h.2.1⟩
theorem tF_from {pr : Nat → Nat → Int} (hB : PrB pr) {n L : Nat} : ∀ (c r k : Nat), r ≤ L - 1 → k < n → FromW pr n L 1000000000000000 r c k (tF pr n L c r k)
  | 0, r, k, hr, hk => by
    obtain ⟨_, _, _, h4⟩ := tF_most pr n L 0 r k
    rcases h4 with h | ⟨h0, h⟩ | ⟨h, _⟩
    · rw [h]; exact FromW.top
    · rw [h, h0]; exact FromW.first hk
    · exact absurd h (Nat.lt_irrefl 0)
  | c + 1, r, k, hr, hk => by
    obtain ⟨_, _, _, h4⟩ := tF_most pr n L (c + 1) r k
    rcases h4 with h | ⟨h0, h⟩ | ⟨_, i, hi, h | h⟩
    · rw [h]; exact FromW.top
    · rw [h, h0]; exact FromW.first hk
    · rw [h.2]
      simp only [Nat.add_sub_cancel]
      exact FromW.step hB (tF_from hB c (r - 1) i (by omega) hi.1) (hi.symm' hk) (.inl (by omega)) hr
    · rw [h.2]
      simp only [Nat.add_sub_cancel]
      exact FromW.step hB (tF_from hB c r i hr hi.1) (hi.symm' hk) (.inr ⟨rfl, by omega⟩) hr
/-- The greatest table proves the factor, where no surface is below. -/
theorem tF_proved {pr : Nat → Nat → Int} (hB : PrB pr) {N n L : Nat} (hL : 1 ≤ L) (hN : N ≤ 100) (hb : belowB N n (L : Int) pr = false) : ProvedT pr N n L (fun r c k => tF pr n L c r k) where
  first := fun c k _ _ => (tF_most pr n L c 0 k).2.1 rfl
  up := fun r c k j _ _ hk hj => by
    have h := ((tF_most pr n L (c + 1) (r + 1) j).2.2.1 (Nat.succ_pos c) k (hj.symm' hk)).1 (Nat.succ_pos r)
    simpa using h
  on := fun c k j _ hk hj => by
    have h := ((tF_most pr n L (c + 1) (L - 1) j).2.2.1 (Nat.succ_pos c) k (hj.symm' hk)).2 (by omega)
    simpa using h
  whole := fun c k hc _ hk => FromW.whole (tF_from hB c (L - 1) k (Nat.le_refl _) hk) hL hc hN (by omega) hb
theorem tF_tab {pr : Nat → Nat → Int} (hB : PrB pr) {N n L : Nat} (hL : 1 ≤ L) (hN : N ≤ 100) (hb : belowB N n (L : Int) pr = false) {t : Nat → Nat → Nat → Int} (ht : ∀ r c k, r < L → c < N → k < n → t r c k = tF pr n L c r k) : TabP pr t N n L := fun r c k hr hc hk => by
  have hx := tF_most pr n L c r k
  refine place_yes (x := t r c k) ?_ (Int.le_refl _) (fun h1 h2 => ?_)
  · rw [ht r c k hr hc hk]
    obtain ⟨a1, a2, a3, a4⟩ := hx
    have hA : ∀ i, i < n → 0 < c → t (r - 1) (c - 1) i = tF pr n L (c - 1) (r - 1) i := fun i hi _ => ht _ _ _ (by omega) (by omega) hi
    have hBb : ∀ i, i < n → 0 < c → t r (c - 1) i = tF pr n L (c - 1) r i := fun i hi _ => ht _ _ _ hr (by omega) hi
    refine ⟨a1, a2, fun h i hi => ⟨fun h2 => ?_, fun h2 => ?_⟩, ?_⟩
    · rw [hA i hi.1 h]; exact (a3 h i hi).1 h2
    · rw [hBb i hi.1 h]; exact (a3 h i hi).2 h2
    · rcases a4 with h | h | ⟨h, i, hi, h2 | h2⟩
      · exact .inl h
      · exact .inr (.inl h)
      · exact .inr (.inr ⟨h, i, hi, .inl ⟨h2.1, by rw [hA i hi.1 h]; exact h2.2⟩⟩)
      · exact .inr (.inr ⟨h, i, hi, .inr ⟨h2.1, by rw [hBb i hi.1 h]; exact h2.2⟩⟩)
  · rw [ht r c k hr hc hk]
    have := (tF_proved hB hL hN hb).whole c k hc (by omega) hk
    have e : L - 1 = r := by omega
    rw [e] at this
    exact this
def colL (pr : Nat → Nat → Int) (n L r c : Nat) : List Int := (List.range n).map fun k => tF pr n L c r k
def rowL (pr : Nat → Nat → Int) (N n L r : Nat) : List (List Int) := (List.range N).map fun c => colL pr n L r c
def tabL (pr : Nat → Nat → Int) (N n L : Nat) : List (List (List Int)) := (List.range L).map fun r => rowL pr N n L r
theorem tabL_at {pr : Nat → Nat → Int} {N n L r c k : Nat} (hr : r < L) (hc : c < N) (hk : k < n) : tabF (tabL pr N n L) r c k = tF pr n L c r k := by
  simp [tabF, tabL, rowL, colL, List.getD, hr, hc, hk]
theorem tabL_shape {pr : Nat → Nat → Int} (hB : PrB pr) {N n L : Nat} (hN : N ≤ 100) : shapeB N n (L : Int) (tabL pr N n L) = true := by
  unfold shapeB
  rw [Bool.and_eq_true, decide_eq_true_eq, List.all_eq_true]
  refine ⟨by simp [tabL], fun R hR => ?_⟩
  obtain ⟨r, _, rfl⟩ := List.mem_map.1 hR
  unfold rowB
  rw [Bool.and_eq_true, decide_eq_true_eq, List.all_eq_true]
  refine ⟨by simp [rowL], fun l hl => ?_⟩
  obtain ⟨c, hc, rfl⟩ := List.mem_map.1 hl
  have hc2 := List.mem_range.1 hc
  unfold numsB
  rw [Bool.and_eq_true, decide_eq_true_eq, List.all_eq_true]
  refine ⟨by simp [colL], fun x hx => ?_⟩
  obtain ⟨k, _, rfl⟩ := List.mem_map.1 hx
  have := tF_bd hB n L c r k
  unfold inB
  simp
  omega
/-- Where the rows of a table lie. -/
def rbA (K N r : Nat) : Nat := K + r * (N + 1)
theorem rbA_zero (K N : Nat) : rbA K N 0 = K := by simp [rbA]
theorem rbA_succ (K N r : Nat) : rbA K N (r + 1) = rbA K N r + N + 1 := by
  unfold rbA
  rw [Nat.succ_mul]
  omega
theorem rbA_le (K N : Nat) : ∀ {i j : Nat}, i < j → rbA K N i + N + 1 ≤ rbA K N j
  | i, 0, h => absurd h (Nat.not_lt_zero i)
  | i, j + 1, h => by
    rw [rbA_succ]
    by_cases e : i = j
    · subst e; omega
    · have := rbA_le K N (i := i) (j := j) (by omega)
      omega
theorem rbA_ge (K N r : Nat) : K ≤ rbA K N r := Nat.le_add_right _ _
def topC (K N L r : Nat) : List AV := (List.range L).map fun i => if i < r then .slice (rbA K N i) 0 N N else .nils
def rowC (b N n c : Nat) : List AV := (List.range N).map fun j => if j < c then .slice (b + 1 + j) 0 n n else .nils
def colC (g : Nat → Int) (n k : Nat) : List AV := (List.range n).map fun i => if i < k then I (g i) else I 0
theorem set_rng {N i : Nat} {f : Nat → AV} {x : AV} {f' : Nat → AV} (h : f' i = x) (h2 : ∀ j, j ≠ i → f' j = f j) : ((List.range N).map f).set i x = (List.range N).map f' := by
  refine List.ext_getElem (by simp) fun j h1 h3 => ?_
  rw [List.length_set, List.length_map, List.length_range] at h1
  by_cases e : j = i
  · subst e
    rw [List.getElem_set_self, List.getElem_map, List.getElem_range, h]
  · rw [List.getElem_set_ne (fun h => e h.symm), List.getElem_map, List.getElem_map, List.getElem_range, h2 j e]
theorem topC_set (K N L r : Nat) : (topC K N L r).set r (.slice (rbA K N r) 0 N N) = topC K N L (r + 1) := set_rng (by rw [if_pos (Nat.lt_succ_self r)]) fun j hj => by
  by_cases h : j < r
  · rw [if_pos h, if_pos (by omega)]
  · rw [if_neg h, if_neg (by omega)]
theorem rowC_set (b N n c : Nat) : (rowC b N n c).set c (.slice (b + 1 + c) 0 n n) = rowC b N n (c + 1) := set_rng (by rw [if_pos (Nat.lt_succ_self c)]) fun j hj => by
  by_cases h : j < c
  · rw [if_pos h, if_pos (by omega)]
  · rw [if_neg h, if_neg (by omega)]
theorem colC_set (g : Nat → Int) (n k : Nat) : (colC g n k).set k (I (g k)) = colC g n (k + 1) := set_rng (by rw [if_pos (Nat.lt_succ_self k)]) fun j hj => by
  by_cases h : j < k
  · rw [if_pos h, if_pos (by omega)]
  · rw [if_neg h, if_neg (by omega)]
theorem rep_rng (x : AV) : ∀ n : Nat, rep [x] n = (List.range n).map fun _ => x
  | 0 => rfl
  | n + 1 => by
    show [x] ++ rep [x] n = _
    rw [rep_rng x n, List.range_succ_eq_map, List.map_cons, List.map_map]
    rfl
theorem topC_zero (K N L : Nat) : rep [.nils] L = topC K N L 0 := by rw [rep_rng]; exact List.map_congr_left fun i _ => by rw [if_neg (Nat.not_lt_zero i)]
theorem rowC_zero (b N n : Nat) : rep [.nils] N = rowC b N n 0 := by rw [rep_rng]; exact List.map_congr_left fun i _ => by rw [if_neg (Nat.not_lt_zero i)]
theorem colC_zero (g : Nat → Int) (n : Nat) : rep [I 0] n = colC g n 0 := by rw [rep_rng]; exact List.map_congr_left fun i _ => by rw [if_neg (Nat.not_lt_zero i)]
theorem topC_len (K N L r : Nat) : (topC K N L r).length = L := by simp [topC]
theorem rowC_len (b N n c : Nat) : (rowC b N n c).length = N := by simp [rowC]
theorem colC_len (g : Nat → Int) (n k : Nat) : (colC g n k).length = n := by simp [colC]
theorem topC_at {K N L r i : Nat} (hi : i < r) (hL : i < L) : (topC K N L r)[i]? = some (.slice (rbA K N i) 0 N N) := by simp [topC, hi, hL]
theorem rowC_at {b N n c j : Nat} (hj : j < c) (hN : j < N) : (rowC b N n c)[j]? = some (.slice (b + 1 + j) 0 n n) := by simp [rowC, hj, hN]
theorem colC_full (g : Nat → Int) (n : Nat) : colC g n n = ((List.range n).map g).map I := by
  unfold colC
  rw [List.map_map]
  exact List.map_congr_left fun i hi => by rw [if_pos (List.mem_range.1 hi)]; rfl
theorem seg_cell {cs : List AV} {k : Nat} {x : AV} (h : cs[k]? = some x) : seg cs k 1 = some [x] := by
  obtain ⟨hk, hx⟩ := List.getElem?_eq_some_iff.1 h
  have e : (cs.drop k).take 1 = [x] := by rw [List.drop_eq_getElem_cons hk, hx]; rfl
  unfold seg
  dsimp only
  rw [e]
  rfl
theorem row_cells {H : Heap} {b n : Nat} {vs : List AV} (h : (H.get b).bind AObj.cs = some vs) (hb : b < H.next) (hn : vs.length = n) : Row H (.slice b 0 n n) 1 (vs.map fun x => [x]) := ⟨by simp [lenOf, hn], fun i x hx => by
  have hi : i < vs.length := by (have h9 := (List.getElem?_eq_some_iff.1 hx).1); simpa using h9
  have hx2 : x = [vs[i]] := by (rw [List.getElem?_map, List.getElem?_eq_getElem hi] at hx); exact (Option.some.inj hx).symm
  subst hx2
  refine ⟨b, 0 + i * 1, vs, slAt_slice (by omega), h, ?_, hb⟩
  have e : vs[0 + i * 1]? = some vs[i] := by simp [hi]
  exact seg_cell e⟩
/-- The rows of a table that are done. -/
structure PT (K N n : Nat) (g : Nat → Nat → Nat → Int) (e2 e3 : TypeId) (H : Heap) (r : Nat) : Prop where
  rows : ∀ i, i < r → H.get (rbA K N i) = some (.cells (rowC (rbA K N i) N n N) e2)
  cols : ∀ i j, i < r → j < N → H.get (rbA K N i + 1 + j) = some (.cells (colC (g i j) n n) e3)
theorem PT.zero (K N n : Nat) (g : Nat → Nat → Nat → Int) (e2 e3 : TypeId) (H : Heap) : PT K N n g e2 e3 H 0 := ⟨fun i h => absurd h (Nat.not_lt_zero i), fun i _ h => absurd h (Nat.not_lt_zero i)⟩
theorem PT.keep {K N n : Nat} {g : Nat → Nat → Nat → Int} {e2 e3 : TypeId} {H H' : Heap} {r : Nat} (h : PT K N n g e2 e3 H r) (hk : ∀ b, K ≤ b → b < rbA K N r → H'.get b = H.get b) : PT K N n g e2 e3 H' r := ⟨fun i hi => by
    have := rbA_le K N hi
    rw [hk _ (rbA_ge K N i) (by omega)]
    exact h.rows i hi, fun i j hi hj => by
    have := rbA_le K N hi
    have := rbA_ge K N i
    rw [hk _ (by omega) (by omega)]
    exact h.cols i j hi hj⟩
/-- The columns of its row at hand that are done. -/
structure PR (b N n : Nat) (g : Nat → Nat → Int) (e2 e3 : TypeId) (H : Heap) (c : Nat) : Prop where
  row : H.get b = some (.cells (rowC b N n c) e2)
  cols : ∀ j, j < c → H.get (b + 1 + j) = some (.cells (colC (g j) n n) e3)
theorem PT.succ {K N n : Nat} {g : Nat → Nat → Nat → Int} {e2 e3 : TypeId} {H : Heap} {r : Nat} (h : PT K N n g e2 e3 H r) (h2 : PR (rbA K N r) N n (g r) e2 e3 H N) : PT K N n g e2 e3 H (r + 1) := ⟨fun i hi => by
    by_cases e : i = r
    · subst e; exact h2.row
    · exact h.rows i (by omega), fun i j hi hj => by
    by_cases e : i = r
    · subst e; exact h2.cols j hj
    · exact h.cols i j (by omega) hj⟩
theorem tab_at_mk {H : Heap} {tb n N L r c R C : Nat} {g : Nat → Int} {e1 e2 e3 : TypeId} {K : Nat} (h1 : H.get tb = some (.cells (topC K N L R) e1)) (h2 : H.get (rbA K N r) = some (.cells (rowC (rbA K N r) N n C) e2)) (h3 : H.get (rbA K N r + 1 + c) = some (.cells (colC g n n) e3)) (hr : r < R) (hL : r < L) (hc : c < C) (hN : c < N) (b1 : tb < H.next) (b2 : rbA K N r + 1 + c < H.next) : TabAt H (.slice tb 0 L L) r c ((List.range n).map g) :=
  ⟨topC K N L R, _, rowC (rbA K N r) N n C, _, row_cells (by rw [h1]; rfl) b1 (topC_len _ _ _ _), topC_at hr hL, row_cells (by rw [h2]; rfl) (by omega) (rowC_len _ _ _ _), rowC_at hc hN, by
    have := row_cells (H := H) (b := rbA K N r + 1 + c) (n := n) (vs := colC g n n) (by rw [h3]; rfl) b2 (colC_len _ _ _)
    rw [colC_full, List.map_map] at this
    exact this⟩
theorem spl_at1 {cs : List AV} {off : Nat} {x : AV} (h : off < cs.length) : spl cs off [x] = some (cs.set off x) := by
  have e : spl cs off [x] = (match Nat.ble (off + 1) cs.length with | true => some (cs.take off ++ ([x] ++ cs.drop (off + 1))) | false => none) := rfl
  rw [e, show Nat.ble (off + 1) cs.length = true from by simp; omega]
  simp [List.set_eq_take_append_cons_drop, h]
theorem tab_done {H : Heap} {tb K N n L : Nat} {g : Nat → Nat → Nat → Int} {e1 e2 e3 : TypeId} (h1 : H.get tb = some (.cells (topC K N L L) e1)) (h : PT K N n g e2 e3 H L) (b1 : tb < H.next) (b2 : rbA K N L ≤ H.next) : Tab H (.slice tb 0 L L) ((List.range L).map fun r => (List.range N).map fun c => (List.range n).map (g r c)) := by
  refine ⟨topC K N L L, row_cells (by rw [h1]; rfl) b1 (topC_len _ _ _ _), by simp [topC_len], fun r x R hx hR => ?_⟩
  have hr : r < L := by
    have := (List.getElem?_eq_some_iff.1 hx).1
    rw [topC_len] at this
    exact this
  rw [topC_at hr hr] at hx
  cases hx
  rw [List.getElem?_map, List.getElem?_range hr] at hR
  cases hR
  have hb := rbA_le K N hr
  refine ⟨rowC (rbA K N r) N n N, row_cells (by rw [h.rows r hr]; rfl) (by omega) (rowC_len _ _ _ _), by simp [rowC_len], fun c y l hy hl => ?_⟩
  have hc : c < N := by
    have := (List.getElem?_eq_some_iff.1 hy).1
    rw [rowC_len] at this
    exact this
  rw [rowC_at hc hc] at hy
  cases hy
  rw [List.getElem?_map, List.getElem?_range hc] at hl
  cases hl
  have := row_cells (H := H) (b := rbA K N r + 1 + c) (n := n) (vs := colC (g r c) n n) (by rw [h.cols r c hr hc]; rfl) (by omega) (colC_len _ _ _)
  rw [colC_full, List.map_map] at this
  exact this
end
end Go.Ev

set_option maxRecDepth 100000
set_option linter.unusedSimpArgs false
set_option linter.unusedVariables false
namespace Go.Ev
open Go Go.Proofs
noncomputable section
theorem c75 (m : Nat) (cv : AV) (cols : List (List Bed)) (fa : Int) (L n : Nat) (H : Heap) (hM : Mat H cv cols) (hcl : ∀ c ∈ cols, c.length = n) (hok : BedsOk cols) (hf : 0 ≤ fa ∧ fa ≤ 10000) (hN9 : 1 ≤ cols.length ∧ cols.length ≤ 100) (hn9 : n ≤ 100) (hL9 : 1 ≤ L ∧ L ≤ 100) : ∃ v H', RR (m + 6) (.fn 75 [.agg [cv, I (L : Int), I fa, .fn 66 [] []]]) H = some (v, H') ∧ Ret H H' ∧ Tab H' v (tabL (prC cols fa) cols.length n L) ∧ v.flat = false := by
  show ∃ v H', evFn Try.prog (RR (m + 5)) 75 [.agg [cv, I (L : Int), I fa, .fn 66 [] []]] H = some (v, H') ∧ Ret H H' ∧ Tab H' v (tabL (prC cols fa) cols.length n L) ∧ v.flat = false
  refine fn_okE Try.func75 rfl rfl (by kernel_rfl) (by kernel_rfl) ?_
  obtain ⟨W, hW, hg, hN, hE, hG⟩ := wOf H
  rw [← hW]
  obtain ⟨vs, hR, hvl, hv⟩ := id hM
  have hlen : lenOf cv = some cols.length := by rw [← hvl]; simpa using hR.len
  have pc : cv.plain = true := lpl hlen
  have hBB := prC_bd hok hf
  refine Ok.seq ?_
  refine Ok.region ?_
  refine OkO.box rfl rfl ?_
  refine OkO.assign rfl rfl ?_
  refine OkO.nil ?_
  refine Ok.seq ?_
  refine Ok.region ?_
  refine OkO.fieldAddr (o := 0) rfl (by kernel_rfl) rfl ?_
  refine OkO.fieldAddr (o := 1) rfl (by kernel_rfl) rfl ?_
  refine OkO.load rfl rfl (lda (n := 1) (by kernel_rfl) (by first | assumption | (simp (disch := first | omega | (simp only [hNw, hPt]; omega)) only [gN] <;> first | rfl | assumption | exact gp0 _ _ _ | exact gn0 _ _)) (by first | rfl | assumption)) ?_
  refine OkO.makeSlice (el := 62) (sz := 1) (z := [.nils]) (n := L) (by_ := 24) rfl (by kernel_rfl) (by kernel_rfl) (by omega) rfl rfl (by omega) ?_
  refine OkO.assign rfl rfl ?_
  refine OkO.nil ?_
  refine Ok.seq ?_
  refine Ok.seq ?_
  refine Ok.region ?_
  refine OkO.fieldAddr (o := 0) rfl (by kernel_rfl) rfl ?_
  refine OkO.fieldAddr (o := 1) rfl (by kernel_rfl) rfl ?_
  refine OkO.load rfl rfl (lda (n := 1) (by kernel_rfl) (by first | assumption | (simp (disch := first | omega | (simp only [hNw, hPt]; omega)) only [gN] <;> first | rfl | assumption | exact gp0 _ _ _ | exact gn0 _ _)) (by first | rfl | assumption)) ?_
  refine OkO.move rfl rfl ?_
  refine OkO.nil ?_
  refine Ok.block ?_
  refine Ok.loop (fun n9 s_ => ∃ r : Nat, n9 = L - r ∧ r ≤ L ∧ PT (W.next + 2) cols.length n (fun i j => tF (prC cols fa) n L j i) 25 3 s_.H r ∧ s_.H.get (W.next + 1) = some (.cells (topC (W.next + 2) cols.length L r) 62) ∧ s_.H.next = (rbA (W.next + 2) cols.length r) ∧ s_.H.get W.next = some (.cells [cv, I (L : Int), I fa, .fn 66 [] []] 119) ∧ Has 7 [(1, .ptr W.next 0), (3, .slice (W.next + 1) 0 L L), (13, I (L : Int)), (14, I (r : Int))] s_.T ∧ s_.D = [] ∧ Grow W s_.H) (L) (by unfold loopFuel; omega)
    ⟨0, rfl, Nat.zero_le _, PT.zero _ _ _ _ _ _ _, (by rw [gn1, topC_zero (W.next + 2) cols.length L]), (by simp [rbA_zero]), (by first | assumption | (simp (disch := first | omega | (simp only [hNw, hPt]; omega)) only [gN] <;> first | rfl | assumption | exact gp0 _ _ _ | exact gn0 _ _)), Has.of (by kernel_rfl), rfl, (by (try dsimp only); repeat (first | exact hG | apply Grow.new | (refine Grow.put ?_ _ (by first | omega | (simp only [hNw, hPt]; omega)))))⟩ ?_
  rintro nn_ ⟨T, D, G⟩ ⟨r, hn9_, hr, hPT, hTop, hnx, f0, ⟨f_, hT⟩, hD, hg⟩
  dsimp only at *
  subst hT hD
  have hgn := hg.next
  have e0 : (G.get W.next).bind AObj.cs = some [cv, I (L : Int), I fa, .fn 66 [] []] := by rw [f0]; rfl
  have et : (G.get (W.next + 1)).bind AObj.cs = some (topC (W.next + 2) cols.length L r) := by rw [hTop]; rfl
  have hrb0 := rbA_ge (W.next + 2) cols.length r
  have hrbs := rbA_succ (W.next + 2) cols.length r
  refine Ok.seq ?_
  refine Ok.region ?_
  refine OkO.bin rfl rfl rfl (bin_lss _ _) ?_
  refine OkO.nil ?_
  refine Ok.seq ?_
  refine Ok.cond rfl (fun h1 => ?_) (fun h1 => ?_)
  · -- yes h1
    have hrL : r < L := by simpa using h1
    refine Ok.skip ?_
    refine Ok.seq ?_
    refine Ok.block ?_
    refine Ok.seq ?_
    refine Ok.region ?_
    refine OkO.move rfl rfl ?_
    refine OkO.assign rfl rfl ?_
    refine OkO.nil ?_
    refine Ok.seq ?_
    refine Ok.region ?_
    refine OkO.move rfl rfl ?_
    refine OkO.move rfl rfl ?_
    refine OkO.fieldAddr (o := 0) rfl (by kernel_rfl) rfl ?_
    refine OkO.fieldAddr (o := 0) rfl (by kernel_rfl) rfl ?_
    refine OkO.load rfl rfl (lda (n := 1) (by kernel_rfl) (by first | assumption | (simp (disch := first | omega | (simp only [hNw, hPt]; omega)) only [gN] <;> first | rfl | assumption | exact gp0 _ _ _ | exact gn0 _ _)) (by first | rfl | assumption)) ?_
    refine OkO.builtin rfl rfl rfl (bln (by kernel_rfl) (by first | assumption | rfl)) ?_
    refine OkO.makeSlice (el := 25) (sz := 1) (z := [.nils]) (n := cols.length) (by_ := 24) rfl (by kernel_rfl) (by kernel_rfl) (by omega) rfl rfl (by omega) ?_
    refine OkO.index (sz := 1) (n := r) rfl rfl rfl (by kernel_rfl) (by first | assumption | rfl | exact slAt_slice (by omega) | exact slAt_opn (by omega)) ?_
    refine OkO.store rfl rfl rfl (sAc (n := 1) (ag := false) (l := topC (W.next + 2) cols.length L (r + 1)) (by kernel_rfl) (by rw [gno _ _ _ (by omega)]; exact hTop) rfl rfl (by rw [show 0 + r * 1 = r from by omega]; exact (spl_at1 (by rw [topC_len]; omega)).trans (congrArg some (by rw [hnx]; exact topC_set _ _ _ _)))) ?_
    refine OkO.nil ?_
    refine Ok.seq ?_
    refine Ok.region ?_
    refine OkO.fieldAddr (o := 0) rfl (by kernel_rfl) rfl ?_
    refine OkO.fieldAddr (o := 0) rfl (by kernel_rfl) rfl ?_
    refine OkO.load rfl rfl (lda (n := 1) (by kernel_rfl) (by first | assumption | (simp (disch := first | omega | (simp only [hNw, hPt]; omega)) only [gN] <;> first | rfl | assumption | exact gp0 _ _ _ | exact gn0 _ _)) (by first | rfl | assumption)) ?_
    refine OkO.builtin rfl rfl rfl (bln (by kernel_rfl) (by first | assumption | rfl)) ?_
    refine OkO.move rfl rfl ?_
    refine OkO.nil ?_
    refine Ok.block ?_
    refine Ok.loop (fun n8 s_ => ∃ c : Nat, n8 = cols.length - c ∧ c ≤ cols.length ∧ PT (W.next + 2) cols.length n (fun i j => tF (prC cols fa) n L j i) 25 3 s_.H r ∧ s_.H.get (W.next + 1) = some (.cells (topC (W.next + 2) cols.length L (r + 1)) 62) ∧ PR (rbA (W.next + 2) cols.length r) cols.length n ((fun i j => tF (prC cols fa) n L j i) r) 25 3 s_.H c ∧ s_.H.next = (rbA (W.next + 2) cols.length r) + 1 + c ∧ s_.H.get W.next = some (.cells [cv, I (L : Int), I fa, .fn 66 [] []] 119) ∧ Has 7 [(1, .ptr W.next 0), (3, .slice (W.next + 1) 0 L L), (13, I (L : Int)), (14, I (r : Int)), (4, I (r : Int)), (28, I (cols.length : Int)), (29, I (c : Int))] s_.T ∧ s_.D = [] ∧ Grow W s_.H) (cols.length) (by unfold loopFuel; omega)
      ⟨0, rfl, Nat.zero_le _, hPT.keep (fun b h1_ h2_ => by rw [gpo _ _ _ _ (by omega), gno _ _ _ (by omega)]), gp0 _ _ _, ⟨(by rw [gpo _ _ _ _ (by omega), ← hnx, gn0, rowC_zero G.next cols.length n]), fun j hj => absurd hj (Nat.not_lt_zero j)⟩, (by simp; omega), (by rw [gpo _ _ _ _ (by omega), gno _ _ _ (by omega)]; exact f0), Has.of (by kernel_rfl), rfl, (by (try dsimp only); repeat (first | exact hg | exact hG | apply Grow.new | (refine Grow.put ?_ _ (by first | omega | (simp only [hNw, hPt]; omega)))))⟩ ?_
    rintro nn_ ⟨T, D, G⟩ ⟨c, hn8, hc, hPT, hTop, hPR, hnx, f0, ⟨f2_, hT⟩, hD, hg⟩
    dsimp only at *
    subst hT hD
    have hgn := hg.next
    have e0 : (G.get W.next).bind AObj.cs = some [cv, I (L : Int), I fa, .fn 66 [] []] := by rw [f0]; rfl
    have et : (G.get (W.next + 1)).bind AObj.cs = some (topC (W.next + 2) cols.length L (r + 1)) := by rw [hTop]; rfl
    have hrb0 := rbA_ge (W.next + 2) cols.length r
    have hrbs := rbA_succ (W.next + 2) cols.length r
    have er : (G.get (rbA (W.next + 2) cols.length r)).bind AObj.cs = some (rowC (rbA (W.next + 2) cols.length r) cols.length n c) := by rw [hPR.row]; rfl
    refine Ok.seq ?_
    refine Ok.region ?_
    refine OkO.bin rfl rfl rfl (bin_lss _ _) ?_
    refine OkO.nil ?_
    refine Ok.seq ?_
    refine Ok.cond rfl (fun h2 => ?_) (fun h2 => ?_)
    · -- yes h2
      have hcn : c < cols.length := by simpa using h2
      have tat : (topC (W.next + 2) cols.length L (r + 1))[0 + r * 1]? = some (.slice (rbA (W.next + 2) cols.length r) 0 cols.length cols.length) := by simpa using topC_at (K := W.next + 2) (N := cols.length) (L := L) (i := r) (Nat.lt_succ_self r) hrL
      have hcl2 : c < vs.length := by omega
      obtain ⟨cb, co, ccs, j1, j20, j3, j4⟩ := hR.at_ c [vs[c]] (by simp [hcl2])
      have j5 := seg_one j3
      have j2 : (G.get cb).bind AObj.cs = some ccs := by rw [(hE _ hg).get _ j4]; exact j20
      have hcol : ∃ col, cols[c]? = some col := ⟨_, List.getElem?_eq_getElem hcn⟩
      obtain ⟨col, hp1⟩ := hcol
      have hcln : col.length = n := hcl col (List.mem_of_getElem? hp1)
      have hlcol : lenOf vs[c] = some n := by rw [← hcln]; simpa using (hv c vs[c] col (by simp [hcl2]) hp1).len
      have hcbW : cb < W.next := by omega
      have j4G : cb < G.next := by omega
      refine Ok.skip ?_
      refine Ok.seq ?_
      refine Ok.block ?_
      refine Ok.seq ?_
      refine Ok.region ?_
      refine OkO.move rfl rfl ?_
      refine OkO.assign rfl rfl ?_
      refine OkO.nil ?_
      refine Ok.seq ?_
      refine Ok.drawn [(0, true, []), (1, true, []), (2, true, []), (3, true, []), (4, true, []), (5, true, []), (6, true, []), (7, true, []), (8, true, []), (9, true, []), (10, true, []), (11, true, []), (12, true, [11, 10, 7, 3]), (13, true, []), (14, false, [])] (by kernel_rfl) ?_
      refine OkP.step ?_
      refine OkO.move rfl rfl ?_
      refine OkO.nil ⟨rfl, ?_⟩
      refine OkP.step ?_
      refine OkO.move rfl rfl ?_
      refine OkO.nil ⟨rfl, ?_⟩
      refine OkP.step ?_
      refine OkO.index (sz := 1) (n := r) rfl rfl rfl (by kernel_rfl) (by first | assumption | rfl | exact slAt_slice (by omega) | exact slAt_opn (by omega)) ?_
      refine OkO.nil ⟨rfl, ?_⟩
      refine OkP.step ?_
      refine OkO.load rfl rfl (lda (n := 1) (by kernel_rfl) (by first | assumption | (simp (disch := first | omega | (simp only [hNw, hPt]; omega)) only [gN] <;> first | rfl | assumption | exact gp0 _ _ _ | exact gn0 _ _)) (by first | rfl | assumption)) ?_
      refine OkO.nil ⟨rfl, ?_⟩
      refine OkP.step ?_
      refine OkO.move rfl rfl ?_
      refine OkO.nil ⟨rfl, ?_⟩
      refine OkP.step ?_
      refine OkO.fieldAddr (o := 0) rfl (by kernel_rfl) rfl ?_
      refine OkO.nil ⟨rfl, ?_⟩
      refine OkP.step ?_
      refine OkO.fieldAddr (o := 0) rfl (by kernel_rfl) rfl ?_
      refine OkO.nil ⟨rfl, ?_⟩
      refine OkP.step ?_
      refine OkO.load rfl rfl (lda (n := 1) (by kernel_rfl) (by first | assumption | (simp (disch := first | omega | (simp only [hNw, hPt]; omega)) only [gN] <;> first | rfl | assumption | exact gp0 _ _ _ | exact gn0 _ _)) (by first | rfl | assumption)) ?_
      refine OkO.nil ⟨rfl, ?_⟩
      refine OkP.step ?_
      refine OkO.move rfl rfl ?_
      refine OkO.nil ⟨rfl, ?_⟩
      refine OkP.step ?_
      refine OkO.index (sz := 1) (n := c) rfl rfl rfl (by kernel_rfl) (by first | assumption | rfl | exact slAt_slice (by omega) | exact slAt_opn (by omega)) ?_
      refine OkO.nil ⟨rfl, ?_⟩
      refine OkP.step ?_
      refine OkO.load rfl rfl (lda (n := 1) (by kernel_rfl) (by first | assumption | (simp (disch := first | omega | (simp only [hNw, hPt]; omega)) only [gN] <;> first | rfl | assumption | exact gp0 _ _ _ | exact gn0 _ _)) (by first | rfl | assumption)) ?_
      refine OkO.nil ⟨rfl, ?_⟩
      refine OkP.step ?_
      refine OkO.builtin rfl rfl rfl (bln (by kernel_rfl) (by first | assumption | rfl)) ?_
      refine OkO.nil ⟨rfl, ?_⟩
      refine OkP.step ?_
      refine OkO.makeSlice (el := 3) (sz := 1) (z := [.int .i64 0]) (n := n) (by_ := 8) rfl (by kernel_rfl) (by kernel_rfl) (by omega) rfl rfl (by omega) ?_
      refine OkO.nil ⟨(sco (svl rfl (ecb rfl rfl (bln (by kernel_rfl) (by first | assumption | rfl))) rfl (eqr _ rfl)) (sco (sld rfl rfl (lda (n := 1) (by kernel_rfl) (by first | assumption | (simp (disch := first | omega | (simp only [hNw, hPt]; omega)) only [gN] <;> first | rfl | assumption | exact gp0 _ _ _ | exact gn0 _ _)) (by first | rfl | assumption)) rfl (eqr _ (by first | rfl | exact lpl (by assumption) | (simp [AV.plain, AV.plains, AV.cells, pc])))) (sco (sld rfl rfl (lda (n := 1) (by kernel_rfl) (by first | assumption | (simp (disch := first | omega | (simp only [hNw, hPt]; omega)) only [gN] <;> first | rfl | assumption | exact gp0 _ _ _ | exact gn0 _ _)) (by first | rfl | assumption)) rfl (eqr _ (by first | rfl | exact lpl (by assumption) | (simp [AV.plain, AV.plains, AV.cells, pc])))) (sco (sld rfl rfl (lda (n := 1) (by kernel_rfl) (by first | assumption | (simp (disch := first | omega | (simp only [hNw, hPt]; omega)) only [gN] <;> first | rfl | assumption | exact gp0 _ _ _ | exact gn0 _ _)) (by first | rfl | assumption)) rfl (eqr _ (by first | rfl | exact lpl (by assumption) | (simp [AV.plain, AV.plains, AV.cells, pc])))) rfl)))), ?_⟩
      refine OkP.step ?_
      refine OkO.index (sz := 1) (n := c) rfl rfl rfl (by kernel_rfl) (by first | assumption | rfl | exact slAt_slice (by omega) | exact slAt_opn (by omega)) ?_
      refine OkO.nil ⟨rfl, ?_⟩
      refine OkP.step ?_
      refine OkO.store rfl rfl rfl (sAc (n := 1) (ag := false) (l := rowC (rbA (W.next + 2) cols.length r) cols.length n (c + 1)) (by kernel_rfl) (by rw [gno _ _ _ (by omega)]; exact hPR.row) rfl rfl (by rw [show 0 + c * 1 = c from by omega]; exact (spl_at1 (by rw [rowC_len]; omega)).trans (congrArg some (by rw [hnx]; exact rowC_set _ _ _ _)))) ?_
      refine OkO.nil ⟨rfl, ?_⟩
      refine OkP.nil ?_
      refine Ok.seq ?_
      refine Ok.region ?_
      refine OkO.fieldAddr (o := 0) rfl (by kernel_rfl) rfl ?_
      refine OkO.fieldAddr (o := 0) rfl (by kernel_rfl) rfl ?_
      refine OkO.load rfl rfl (lda (n := 1) (by kernel_rfl) (by first | assumption | (simp (disch := first | omega | (simp only [hNw, hPt]; omega)) only [gN] <;> first | rfl | assumption | exact gp0 _ _ _ | exact gn0 _ _)) (by first | rfl | assumption)) ?_
      refine OkO.move rfl rfl ?_
      refine OkO.index (sz := 1) (n := c) rfl rfl rfl (by kernel_rfl) (by first | assumption | rfl | exact slAt_slice (by omega) | exact slAt_opn (by omega)) ?_
      refine OkO.load rfl rfl (lda (n := 1) (by kernel_rfl) (by first | assumption | (simp (disch := first | omega | (simp only [hNw, hPt]; omega)) only [gN] <;> first | rfl | assumption | exact gp0 _ _ _ | exact gn0 _ _)) (by first | rfl | assumption)) ?_
      refine OkO.builtin rfl rfl rfl (bln (by kernel_rfl) (by first | assumption | rfl)) ?_
      refine OkO.move rfl rfl ?_
      refine OkO.nil ?_
      refine Ok.block ?_
      refine Ok.loop (fun n7 s_ => ∃ k : Nat, n7 = n - k ∧ k ≤ n ∧ PT (W.next + 2) cols.length n (fun i j => tF (prC cols fa) n L j i) 25 3 s_.H r ∧ s_.H.get (W.next + 1) = some (.cells (topC (W.next + 2) cols.length L (r + 1)) 62) ∧ s_.H.get (rbA (W.next + 2) cols.length r) = some (.cells (rowC (rbA (W.next + 2) cols.length r) cols.length n (c + 1)) 25) ∧ (∀ j, j < c → s_.H.get ((rbA (W.next + 2) cols.length r) + 1 + j) = some (.cells (colC ((fun i j => tF (prC cols fa) n L j i) r j) n n) 3)) ∧ s_.H.get ((rbA (W.next + 2) cols.length r) + 1 + c) = some (.cells (colC ((fun i j => tF (prC cols fa) n L j i) r c) n k) 3) ∧ s_.H.next = (rbA (W.next + 2) cols.length r) + 1 + c + 1 ∧ s_.H.get W.next = some (.cells [cv, I (L : Int), I fa, .fn 66 [] []] 119) ∧ Has 7 [(1, .ptr W.next 0), (3, .slice (W.next + 1) 0 L L), (13, I (L : Int)), (14, I (r : Int)), (4, I (r : Int)), (28, I (cols.length : Int)), (29, I (c : Int)), (5, I (c : Int)), (52, I (n : Int)), (53, I (k : Int))] s_.T ∧ s_.D = [] ∧ Grow W s_.H) (n) (by unfold loopFuel; omega)
        ⟨0, rfl, Nat.zero_le _, hPT.keep (fun b h1_ h2_ => by rw [gpo _ _ _ _ (by omega), gno _ _ _ (by omega)]), (by rw [gpo _ _ _ _ (by omega), gno _ _ _ (by omega)]; exact hTop), gp0 _ _ _, (fun j hj => by rw [gpo _ _ _ _ (by omega), gno _ _ _ (by omega)]; exact hPR.cols j hj), (by rw [gpo _ _ _ _ (by omega), ← hnx, gn0, colC_zero ((fun i j => tF (prC cols fa) n L j i) r c) n]), (by simp; omega), (by rw [gpo _ _ _ _ (by omega), gno _ _ _ (by omega)]; exact f0), Has.of (by kernel_rfl), rfl, (by (try dsimp only); repeat (first | exact hg | exact hG | apply Grow.new | (refine Grow.put ?_ _ (by first | omega | (simp only [hNw, hPt]; omega)))))⟩ ?_
      rintro nn_ ⟨T, D, G⟩ ⟨k, hn7, hk, hPT, hTop, hRow, hCols, hCol, hnx, f0, ⟨f3_, hT⟩, hD, hg⟩
      dsimp only at *
      subst hT hD
      have hgn := hg.next
      have e0 : (G.get W.next).bind AObj.cs = some [cv, I (L : Int), I fa, .fn 66 [] []] := by rw [f0]; rfl
      have et : (G.get (W.next + 1)).bind AObj.cs = some (topC (W.next + 2) cols.length L (r + 1)) := by rw [hTop]; rfl
      have hrb0 := rbA_ge (W.next + 2) cols.length r
      have hrbs := rbA_succ (W.next + 2) cols.length r
      have er : (G.get (rbA (W.next + 2) cols.length r)).bind AObj.cs = some (rowC (rbA (W.next + 2) cols.length r) cols.length n (c + 1)) := by rw [hRow]; rfl
      have ec : (G.get (rbA (W.next + 2) cols.length r + 1 + c)).bind AObj.cs = some (colC ((fun i j => tF (prC cols fa) n L j i) r c) n k) := by rw [hCol]; rfl
      refine Ok.seq ?_
      refine Ok.region ?_
      refine OkO.bin rfl rfl rfl (bin_lss _ _) ?_
      refine OkO.nil ?_
      refine Ok.seq ?_
      refine Ok.cond rfl (fun h3 => ?_) (fun h3 => ?_)
      · -- yes h3
        have hkn : k < n := by simpa using h3
        have tat : (topC (W.next + 2) cols.length L (r + 1))[0 + r * 1]? = some (.slice (rbA (W.next + 2) cols.length r) 0 cols.length cols.length) := by simpa using topC_at (K := W.next + 2) (N := cols.length) (L := L) (i := r) (Nat.lt_succ_self r) hrL
        have rat : (rowC (rbA (W.next + 2) cols.length r) cols.length n (c + 1))[0 + c * 1]? = some (.slice (rbA (W.next + 2) cols.length r + 1 + c) 0 n n) := by simpa using rowC_at (b := rbA (W.next + 2) cols.length r) (N := cols.length) (n := n) (j := c) (Nat.lt_succ_self c) hcn
        refine Ok.skip ?_
        refine Ok.seq ?_
        refine Ok.block ?_
        refine Ok.seq ?_
        refine Ok.region ?_
        refine OkO.move rfl rfl ?_
        refine OkO.assign rfl rfl ?_
        refine OkO.nil ?_
        refine Ok.drawn [(0, true, []), (1, true, []), (2, true, []), (3, true, []), (4, true, []), (5, true, []), (6, true, []), (7, true, []), (8, true, []), (9, true, []), (10, true, []), (11, true, []), (12, true, []), (13, true, []), (14, false, [6, 3]), (15, true, []), (16, false, [])] (by kernel_rfl) ?_
        refine OkP.step ?_
        refine OkO.move rfl rfl ?_
        refine OkO.nil ⟨rfl, ?_⟩
        refine OkP.step ?_
        refine OkO.move rfl rfl ?_
        refine OkO.nil ⟨rfl, ?_⟩
        refine OkP.step ?_
        refine OkO.index (sz := 1) (n := r) rfl rfl rfl (by kernel_rfl) (by first | assumption | rfl | exact slAt_slice (by omega) | exact slAt_opn (by omega)) ?_
        refine OkO.nil ⟨rfl, ?_⟩
        refine OkP.step ?_
        refine OkO.load rfl rfl (lda (n := 1) (by kernel_rfl) (by first | assumption | (simp (disch := first | omega | (simp only [hNw, hPt]; omega)) only [gN] <;> first | rfl | assumption | exact gp0 _ _ _ | exact gn0 _ _)) (by first | rfl | assumption)) ?_
        refine OkO.nil ⟨rfl, ?_⟩
        refine OkP.step ?_
        refine OkO.move rfl rfl ?_
        refine OkO.nil ⟨rfl, ?_⟩
        refine OkP.step ?_
        refine OkO.index (sz := 1) (n := c) rfl rfl rfl (by kernel_rfl) (by first | assumption | rfl | exact slAt_slice (by omega) | exact slAt_opn (by omega)) ?_
        refine OkO.nil ⟨rfl, ?_⟩
        refine OkP.step ?_
        refine OkO.load rfl rfl (lda (n := 1) (by kernel_rfl) (by first | assumption | (simp (disch := first | omega | (simp only [hNw, hPt]; omega)) only [gN] <;> first | rfl | assumption | exact gp0 _ _ _ | exact gn0 _ _)) (by first | rfl | assumption)) ?_
        refine OkO.nil ⟨rfl, ?_⟩
        refine OkP.step ?_
        refine OkO.move rfl rfl ?_
        refine OkO.nil ⟨rfl, ?_⟩
        refine OkP.step ?_
        refine OkO.load rfl rfl (ldg (n := 4) (by kernel_rfl) (by first | assumption | (simp (disch := first | omega | (simp only [hNw, hPt]; omega)) only [gN] <;> first | rfl | assumption | exact gp0 _ _ _ | exact gn0 _ _)) (by first | rfl | assumption)) ?_
        refine OkO.nil ⟨rfl, ?_⟩
        refine OkP.step ?_
        refine OkO.move rfl rfl ?_
        refine OkO.nil ⟨rfl, ?_⟩
        refine OkP.step ?_
        refine OkO.move rfl rfl ?_
        refine OkO.nil ⟨rfl, ?_⟩
        refine OkP.step ?_
        refine OkO.move rfl rfl ?_
        refine OkO.nil ⟨rfl, ?_⟩
        refine OkP.step ?_
        refine OkO.move rfl rfl ?_
        refine OkO.nil ⟨rfl, ?_⟩
        refine OkP.step ?_
        refine OkO.build (z := [.int .i64 0, .int .i64 0]) (pl := [(0, 1), (1, 1)]) rfl (by kernel_rfl) rfl rfl ?_
        refine OkO.nil ⟨rfl, ?_⟩
        refine OkP.step ?_
        refine OkO.callE rfl rfl rfl rfl rfl (c100 m cv (.slice (W.next + 1) 0 L L) cols fa (fun i => tF (prC cols fa) n L (c - 1) (r - 1) i) (fun i => tF (prC cols fa) n L (c - 1) r i) r L c k n _ (hM.ext (hE _ hg)) hcl hok hf hcn hkn (by omega) (by omega) (by omega) (by omega) (fun h1_ h2_ => ⟨_, tab_at_mk hTop (hPT.rows (r - 1) (by omega)) (hPT.cols (r - 1) (c - 1) (by omega) (by omega)) (by omega) (by omega) (by omega) (by omega) (by omega) (by (have h9 := rbA_le (W.next + 2) cols.length (show r - 1 < r by omega)); omega), fun i hi => by simp [hi]⟩) (fun h1_ h2_ => ⟨_, tab_at_mk hTop hRow (hCols (c - 1) (by omega)) (by omega) hrL (by omega) (by omega) (by omega) (by omega), fun i hi => by simp [hi]⟩) (fun i => by (have h9 := tF_bd hBB n L (c - 1) (r - 1) i); omega) (fun i => by (have h9 := tF_bd hBB n L (c - 1) r i); omega) ⟨_, rfl⟩) ?_
        rintro _ H100 ⟨x, rfl, rfl, hmx⟩
        have hx := hmx.uniq (tF_most (prC cols fa) n L c r k)
        subst hx
        refine OkO.nil ⟨(sco (sld rfl rfl (lda (n := 1) (by kernel_rfl) (by first | assumption | (simp (disch := first | omega | (simp only [hNw, hPt]; omega)) only [gN] <;> first | rfl | assumption | exact gp0 _ _ _ | exact gn0 _ _)) (by first | rfl | assumption)) rfl (eqr _ (by first | rfl | exact lpl (by assumption) | (simp [AV.plain, AV.plains, AV.cells, pc])))) (sco (sld rfl rfl (lda (n := 1) (by kernel_rfl) (by first | assumption | (simp (disch := first | omega | (simp only [hNw, hPt]; omega)) only [gN] <;> first | rfl | assumption | exact gp0 _ _ _ | exact gn0 _ _)) (by first | rfl | assumption)) rfl (eqr _ (by first | rfl | exact lpl (by assumption) | (simp [AV.plain, AV.plains, AV.cells, pc])))) rfl)), ?_⟩
        refine OkP.step ?_
        refine OkO.index (sz := 1) (n := k) rfl rfl rfl (by kernel_rfl) (by first | assumption | rfl | exact slAt_slice (by omega) | exact slAt_opn (by omega)) ?_
        refine OkO.nil ⟨rfl, ?_⟩
        refine OkP.step ?_
        refine OkO.store rfl rfl rfl (sAc (n := 1) (ag := false) (l := colC ((fun i j => tF (prC cols fa) n L j i) r c) n (k + 1)) (by kernel_rfl) hCol rfl rfl (by rw [show 0 + k * 1 = k from by omega]; exact (spl_at1 (by rw [colC_len]; omega)).trans (congrArg some (colC_set ((fun i j => tF (prC cols fa) n L j i) r c) n k)))) ?_
        refine OkO.nil ⟨rfl, ?_⟩
        refine OkP.nil ?_
        refine Ok.region ?_
        refine OkO.bin rfl rfl rfl (bin_add (by omega) (by omega)) ?_
        refine OkO.move rfl rfl ?_
        refine OkO.nil ?_
        refine ⟨n - (k + 1), by omega, k + 1, rfl, by omega, hPT.keep (fun b h1_ h2_ => by rw [gpo _ _ _ _ (by omega)]), (by rw [gpo _ _ _ _ (by omega)]; exact hTop), (by rw [gpo _ _ _ _ (by omega)]; exact hRow), (fun j hj => by rw [gpo _ _ _ _ (by omega)]; exact hCols j hj), gp0 _ _ _, (by simp; omega), (by rw [gpo _ _ _ _ (by omega)]; exact f0), Has.of (by kernel_rfl), rfl, hg.put _ (by omega)⟩
      · -- no h3
        have hge3 : k = n := by (have h9 : ¬ k < n := by simpa using h3); omega
        rw [hge3] at hCol
        refine Ok.exit ?_
        refine Ok.region ?_
        refine OkO.bin rfl rfl rfl (bin_add (by omega) (by omega)) ?_
        refine OkO.move rfl rfl ?_
        refine OkO.nil ?_
        refine ⟨cols.length - (c + 1), by omega, c + 1, rfl, by omega, hPT, hTop, ⟨hRow, fun j hj => ?_⟩, (by show G.next = _; omega), f0, Has.of (by kernel_rfl), rfl, hg⟩
        by_cases e : j = c
        · rw [e]; exact hCol
        · exact hCols j (by omega)
    · -- no h2
      have hge2 : c = cols.length := by (have h9 : ¬ c < cols.length := by simpa using h2); omega
      rw [hge2] at hPR
      refine Ok.exit ?_
      refine Ok.region ?_
      refine OkO.bin rfl rfl rfl (bin_add (by omega) (by omega)) ?_
      refine OkO.move rfl rfl ?_
      refine OkO.nil ?_
      refine ⟨L - (r + 1), by omega, r + 1, rfl, by omega, hPT.succ hPR, hTop, (by show G.next = _; omega), f0, Has.of (by kernel_rfl), rfl, hg⟩
  · -- no h1
    have hge : r = L := by (have h9 : ¬ r < L := by simpa using h1); omega
    rw [hge] at hPT hTop hnx
    refine Ok.exit ?_
    refine Ok.seq ?_
    refine Ok.region ?_
    refine OkO.move rfl rfl ?_
    refine OkO.assign rfl rfl ?_
    refine OkO.nil ?_
    refine Ok.ret ⟨.inr rfl, ?_⟩
    refine back_newQ rfl rfl (by rw [← hW]; exact hg) rfl (fun H9 p1 p2 p3 => ⟨p1, ?_, rfl⟩)
    have hrbL := rbA_ge (W.next + 2) cols.length L
    refine Tab.ext (tab_done hTop hPT (by omega) (by omega)) ⟨Nat.le_of_eq p3.symm, fun n _ => p2 n⟩
end
end Go.Ev

set_option maxRecDepth 100000
set_option linter.unusedSimpArgs false
set_option linter.unusedVariables false
namespace Go.Ev
open Go Go.Proofs
noncomputable section
/-- A list that was made, of things that lie in blocks of their own. -/
def FrL {β : Type} (S : β → AV → Heap → Prop) (k0 : Nat) (G : Heap) (lv : AV) (e : TypeId) (L : List β) : Prop :=
  ∃ xs : List AV, xs.length = L.length ∧ Mine k0 G lv e 1 xs ∧ ∀ (j : Nat) (x : AV) (r : β), xs[j]? = some x → L[j]? = some r → ∃ k e', k0 ≤ k ∧ e' ≤ G.next ∧ Fr k e' G (S r x) ∧ ∀ b m, lv = .opn b m → e' ≤ b
theorem FrL.nil {β : Type} (S : β → AV → Heap → Prop) (k0 : Nat) (G : Heap) (e : TypeId) : FrL S k0 G .nils e [] := ⟨[], rfl, Mine.nil _ _ _ _, fun j x r h _ => by simp at h⟩
theorem FrL.to {β : Type} {S : β → AV → Heap → Prop} {k0 : Nat} {G G' : Heap} {lv : AV} {e : TypeId} {L : List β} (h : FrL S k0 G lv e L) (g : Ext G G') : FrL S k0 G' lv e L := by
  obtain ⟨xs, h1, h2, h3⟩ := h
  refine ⟨xs, h1, h2.to g, fun j x r a c => ?_⟩
  obtain ⟨k, e', a1, a2, a3, a4⟩ := h3 j x r a c
  exact ⟨k, e', a1, Nat.le_trans a2 g.next, a3.to fun n _ h => g.get n (Nat.lt_of_lt_of_le h a2), a4⟩
theorem FrL.snoc {β : Type} {S : β → AV → Heap → Prop} {k0 : Nat} {G0 G : Heap} {lv x : AV} {e : TypeId} {L : List β} {r : β} (h : FrL S k0 G0 lv e L) (g : Ext G0 G) (hk : k0 ≤ G0.next) (hx : Fr G0.next G.next G (S r x)) : ∃ xs, Mine k0 G lv e 1 xs ∧ xs.length = L.length ∧ ∀ v2 G2 m, Mine k0 G2 v2 e 1 (xs ++ [x]) → v2 = .opn (G.next + 1) m → G2.next = G.next + 2 → (∀ j, j < G.next → (∀ m, lv ≠ .opn j m) → G2.get j = G.get j) → FrL S k0 G2 v2 e (L ++ [r]) := by
  obtain ⟨xs, h1, h2, h3⟩ := h
  have hgn := g.next
  refine ⟨xs, h2.to g, h1, fun v2 G2 m k1 k2 k3 k4 => ⟨xs ++ [x], by simp [h1], k1, fun j y s a c => ?_⟩⟩
  have hlv : ∀ b m, lv = .opn b m → b < G0.next := fun b m e => by
    rcases h2 with ⟨h, _⟩ | ⟨b', n, a1, _, _, _, a5⟩
    · rw [h] at e; cases e
    · rw [a1] at e; cases e; exact a5
  by_cases hj : j < xs.length
  · rw [List.getElem?_append_left hj] at a
    rw [List.getElem?_append_left (by omega)] at c
    obtain ⟨k, e', a1, a2, a3, a4⟩ := h3 j y s a c
    refine ⟨k, e', a1, by omega, a3.to fun q q1 q2 => ?_, fun b m e => by rw [k2] at e; cases e; omega⟩
    rw [k4 q (by omega) (fun m e => by have := a4 _ _ e; omega)]
    exact g.get q (by omega)
  · by_cases hj2 : j = xs.length
    · subst hj2
      rw [List.getElem?_append_right (Nat.le_refl _)] at a
      rw [List.getElem?_append_right (by omega), h1] at c
      simp at a c
      subst a c
      exact ⟨G0.next, G.next, hk, by omega, hx.to fun q q1 q2 => k4 q q2 (fun m e => by have := hlv _ _ e; omega), fun b m e => by rw [k2] at e; cases e; omega⟩
    · rw [List.getElem?_eq_none (by simp; omega)] at a; cases a
theorem flat_sing : ∀ vs : List AV, (vs.map fun x => [x]).flatten = vs
  | [] => rfl
  | a :: l => by rw [List.map_cons, List.flatten_cons, flat_sing l]; rfl
theorem FrL.done {β : Type} {S : β → AV → Heap → Prop} {k0 : Nat} {G : Heap} {lv : AV} {e : TypeId} {L : List β} (h : FrL S k0 G lv e L) : Fr k0 G.next G fun X => ∃ xs : List AV, Row X lv 1 (xs.map fun x => [x]) ∧ xs.length = L.length ∧ ∀ (j : Nat) x r, xs[j]? = some x → L[j]? = some r → S r x X := by
  obtain ⟨xs, h1, h2, h3⟩ := h
  intro X x1 x2
  refine ⟨xs, Mine.row (e := e) (by rw [flat_sing]; exact h2.fr X x1 x2) (fun x hx => by obtain ⟨y, _, rfl⟩ := List.mem_map.1 hx; rfl) (by omega), h1, fun j x r a c => ?_⟩
  obtain ⟨k, e', a1, a2, a3, _⟩ := h3 j x r a c
  exact a3 X (by omega) fun n n1 n2 => x2 n (by omega) (by omega)
theorem FrL.one {β : Type} {S : β → AV → Heap → Prop} {k0 : Nat} {G : Heap} {lv : AV} {e : TypeId} {L : List β} (h : FrL S k0 G lv e L) : lv.cells = [lv] ∧ lv.atom = true := by
  obtain ⟨xs, _, h2, _⟩ := h
  exact h2.one
def SI (l : List Int) (x : AV) (X : Heap) : Prop := Row X x 1 (l.map fun y => [I y])
def SC (R : List (List Int)) (x : AV) (X : Heap) : Prop := Cols X x R
theorem Cols.len {H : Heap} {v : AV} {R : List (List Int)} (h : Cols H v R) : lenOf v = some R.length := by
  obtain ⟨cvs, h1, h2, _⟩ := h
  rw [h1.len]; simp [h2]
theorem Tab.len {H : Heap} {v : AV} {T : List (List (List Int))} (h : Tab H v T) : lenOf v = some T.length := by
  obtain ⟨rvs, h1, h2, _⟩ := h
  rw [h1.len]; simp [h2]
theorem Tab.get {H : Heap} {v : AV} {T : List (List (List Int))} (h : Tab H v T) (i : Nat) (hi : i < T.length) : ∃ x b off cs, slAt v 1 i = some (b, off) ∧ (H.get b).bind AObj.cs = some cs ∧ cs[off]? = some x ∧ b < H.next ∧ Cols H x T[i] := by
  obtain ⟨rvs, h1, h2, h3⟩ := h
  have hv : i < rvs.length := by omega
  obtain ⟨b, off, cs, i1, i2, i3, i4⟩ := h1.at_ i [rvs[i]] (by simp [hv])
  exact ⟨rvs[i], b, off, cs, i1, i2, seg_one i3, i4, h3 i _ _ (List.getElem?_eq_getElem hv) (List.getElem?_eq_getElem hi)⟩
theorem Cols.get {H : Heap} {v : AV} {R : List (List Int)} (h : Cols H v R) (i : Nat) (hi : i < R.length) : ∃ x b off cs, slAt v 1 i = some (b, off) ∧ (H.get b).bind AObj.cs = some cs ∧ cs[off]? = some x ∧ b < H.next ∧ SI R[i] x H := by
  obtain ⟨rvs, h1, h2, h3⟩ := h
  have hv : i < rvs.length := by omega
  obtain ⟨b, off, cs, i1, i2, i3, i4⟩ := h1.at_ i [rvs[i]] (by simp [hv])
  exact ⟨rvs[i], b, off, cs, i1, i2, seg_one i3, i4, h3 i _ _ (List.getElem?_eq_getElem hv) (List.getElem?_eq_getElem hi)⟩
theorem c39 (m : Nat) (tv : AV) (TT : List (List (List Int))) (H : Heap) (hT : Tab H tv TT) (hTl : TT.length ≤ 100) (hT15 : ∀ R ∈ TT, R.length ≤ 100) (hT8 : ∀ R ∈ TT, ∀ l ∈ R, l.length ≤ 100) : ∃ v H', RR (m + 2) (.fn 39 [tv]) H = some (v, H') ∧ Ret H H' ∧ Tab H' v TT := by
  show ∃ v H', evFn Try.prog (RR (m + 1)) 39 [tv] H = some (v, H') ∧ Ret H H' ∧ Tab H' v TT
  refine fn_okE Try.func39 rfl rfl (by kernel_rfl) (by kernel_rfl) ?_
  obtain ⟨W, hW, hg, hN, hE, hG⟩ := wOf H
  rw [← hW]
  have hlen := hT.len
  refine Ok.seq ?_
  refine Ok.region ?_
  refine OkO.assign rfl rfl ?_
  refine OkO.nil ?_
  refine Ok.seq ?_
  refine Ok.region ?_
  refine OkO.assign rfl rfl ?_
  refine OkO.nil ?_
  refine Ok.seq ?_
  refine Ok.seq ?_
  refine Ok.region ?_
  refine OkO.assign rfl rfl ?_
  refine OkO.nil ?_
  refine Ok.block ?_
  refine Ok.loop (fun n9 s_ => ∃ (i : Nat) (ov : AV), n9 = TT.length - i ∧ i ≤ TT.length ∧ FrL SC W.next s_.H ov 62 (TT.take i) ∧ Has 6 [(0, tv), (3, ov), (4, I (i : Int))] s_.T ∧ s_.D = [] ∧ Grow W s_.H) (TT.length) (by unfold loopFuel; omega)
    ⟨0, .nils, rfl, Nat.zero_le _, FrL.nil _ _ _ _, Has.of (by kernel_rfl), rfl, hG⟩ ?_
  rintro nn_ ⟨T, D, G⟩ ⟨i, ov, hn9_, hi, hFO, ⟨f_, hTT⟩, hD, hg⟩
  dsimp only at *
  subst hTT hD
  skip
  obtain ⟨GA, hGA⟩ : ∃ GA : Heap, GA = G := ⟨_, rfl⟩
  subst hGA
  have hgan := hg.next
  refine Ok.seq ?_
  refine Ok.seq ?_
  refine Ok.region ?_
  refine OkO.move rfl rfl ?_
  refine OkO.move rfl rfl ?_
  refine OkO.builtin rfl rfl rfl (bln (by kernel_rfl) (by first | assumption | rfl)) ?_
  refine OkO.bin rfl rfl rfl (bin_lss _ _) ?_
  refine OkO.nil ?_
  refine Ok.cond rfl (fun h1 => ?_) (fun h1 => ?_)
  · -- yes h1
    have hlt : i < TT.length := by simpa using h1
    obtain ⟨xr, rb, ro, rcs, t1, t2, t3, t4, t5⟩ := hT.get i hlt
    have lq := t5.len
    have pxr : xr.plain = true := lpl lq
    have hRl := hT15 TT[i] (List.getElem_mem hlt)
    refine Ok.skip ?_
    refine Ok.seq ?_
    refine Ok.block ?_
    refine Ok.seq ?_
    refine Ok.region ?_
    refine OkO.assign rfl rfl ?_
    refine OkO.nil ?_
    refine Ok.seq ?_
    refine Ok.seq ?_
    refine Ok.region ?_
    refine OkO.assign rfl rfl ?_
    refine OkO.nil ?_
    refine Ok.block ?_
    refine Ok.loop (fun n8 s_ => ∃ (i2 : Nat) (lv : AV), n8 = TT[i].length - i2 ∧ i2 ≤ TT[i].length ∧ FrL SI GA.next s_.H lv 25 (TT[i].take i2) ∧ Ext GA s_.H ∧ Has 6 [(0, tv), (3, ov), (4, I (i : Int)), (5, lv), (6, I (i2 : Int))] s_.T ∧ s_.D = [] ∧ Grow W s_.H) (TT[i].length) (by unfold loopFuel; omega)
      ⟨0, .nils, rfl, Nat.zero_le _, FrL.nil _ _ _ _, Ext.refl _, Has.of (by kernel_rfl), rfl, hg⟩ ?_
    rintro nn_ ⟨T, D, G⟩ ⟨i2, lv, hn8_, hi2, hFL, hx6, ⟨f6_, hTT⟩, hD, hgi⟩
    dsimp only at *
    subst hTT hD
    skip
    have hx6n := hx6.next
    have hgin := hgi.next
    have t2G : (G.get rb).bind AObj.cs = some rcs := by rw [(hE _ hgi).get _ t4]; exact t2
    have t4G : rb < G.next := by omega
    refine Ok.seq ?_
    refine Ok.seq ?_
    refine Ok.region ?_
    refine OkO.move rfl rfl ?_
    refine OkO.move rfl rfl ?_
    refine OkO.move rfl rfl ?_
    refine OkO.index (sz := 1) (n := i) rfl rfl rfl (by kernel_rfl) (by first | assumption | rfl | exact slAt_slice (by omega) | exact slAt_opn (by omega)) ?_
    refine OkO.load rfl rfl (lda (n := 1) (by kernel_rfl) (by first | assumption | (simp (disch := first | omega | (simp only [hNw, hPt]; omega)) only [gN] <;> first | rfl | assumption | exact gp0 _ _ _ | exact gn0 _ _)) (by first | rfl | assumption)) ?_
    refine OkO.builtin rfl rfl rfl (bln (by kernel_rfl) (by first | assumption | rfl)) ?_
    refine OkO.bin rfl rfl rfl (bin_lss _ _) ?_
    refine OkO.nil ?_
    refine Ok.cond rfl (fun h2 => ?_) (fun h2 => ?_)
    · -- yes h2
      have hlt2 : i2 < TT[i].length := by simpa using h2
      obtain ⟨xl, cb, co, ccs, s1, s2, s3, s4, s5⟩ := t5.get i2 hlt2
      have s2G : (G.get cb).bind AObj.cs = some ccs := by rw [(hE _ hgi).get _ s4]; exact s2
      have hll8 := hT8 TT[i] (List.getElem_mem hlt) TT[i][i2] (List.getElem_mem hlt2)
      refine Ok.skip ?_
      refine Ok.seq ?_
      refine Ok.block ?_
      refine Ok.region ?_
      refine OkO.move rfl rfl ?_
      refine OkO.move rfl rfl ?_
      refine OkO.move rfl rfl ?_
      refine OkO.index (sz := 1) (n := i) rfl rfl rfl (by kernel_rfl) (by first | assumption | rfl | exact slAt_slice (by omega) | exact slAt_opn (by omega)) ?_
      refine OkO.load rfl rfl (lda (n := 1) (by kernel_rfl) (by first | assumption | (simp (disch := first | omega | (simp only [hNw, hPt]; omega)) only [gN] <;> first | rfl | assumption | exact gp0 _ _ _ | exact gn0 _ _)) (by first | rfl | assumption)) ?_
      refine OkO.move rfl rfl ?_
      refine OkO.index (sz := 1) (n := i2) rfl rfl rfl (by kernel_rfl) (by first | assumption | rfl | exact slAt_slice (by omega) | exact slAt_opn (by omega)) ?_
      refine OkO.load rfl rfl (lda (n := 1) (by kernel_rfl) (by first | assumption | (simp (disch := first | omega | (simp only [hNw, hPt]; omega)) only [gN] <;> first | rfl | assumption | exact gp0 _ _ _ | exact gn0 _ _)) (by first | rfl | assumption)) ?_
      refine OkO.callE rfl rfl rfl rfl rfl (c34 (m + 0) xl TT[i][i2] _ (s5.ext (hE _ hgi)) (by omega)) ?_
      rintro x' H34 ⟨q34, f34, o34⟩
      have g34 : Grow W H34 := Grow.ret hgi q34
      have n34 := q34.ext.next
      obtain ⟨xs8, hm8, hcl8, hsn8⟩ := FrL.snoc (r := TT[i][i2]) hFL q34.ext (by omega) (Fr.mono f34 (fun X h => h.1))
      refine OkO.buildSlice (el := 25) (sz := 1) (z := [.nils]) (cs := [x']) rfl (by kernel_rfl) (by decide) rfl (by show fillS (fun i => some (i * 1, 1)) [AV.nils] [(0, x')] = some [x']; simp [fillS, spl, o34.1]) ?_
      refine OkO.builtinE rfl rfl rfl (Mine.app2 (W := W) (k0 := GA.next) (t := 62) (u := 62) (sz := 1) (by_ := 24) (e := 25) (n := 1) (new := [x']) (hm8.to (Grow.toNew _ _)) (g34.new _) (by omega) (by simp; omega) (by kernel_rfl) (by kernel_rfl) (elems_new (n := 1) (sz := 1) rfl) rfl rfl (by rw [hcl8, List.length_take]; omega) (by omega) (by omega) (by simp [atoms, o34.2.1])) ?_
      rintro l2 G2 ⟨r1, r2, r3, r4, r5, r6⟩
      obtain ⟨mm, r6⟩ := r6
      simp only [hNw] at r5 r6
      have keep : ∀ j, j < H34.next → (∀ m, lv ≠ .opn j m) → G2.get j = H34.get j := fun j hj hne => by rw [r4 j (by simp; omega) hne]; exact gno _ _ _ (by omega)
      have hnew := hsn8 l2 G2 mm r1 r6 (by omega) keep
      have hx2 : Ext GA G2 := ⟨by omega, fun j hj => by rw [r3.get j hj (by simp; omega), gno _ _ _ (by omega), q34.ext.get j (by omega)]; exact hx6.get j hj⟩
      refine OkO.assign rfl rfl ?_
      refine OkO.nil ?_
      refine Ok.region ?_
      refine OkO.move rfl rfl ?_
      refine OkO.bin rfl rfl rfl (bin_add (by omega) (by omega)) ?_
      refine OkO.assign rfl rfl ?_
      refine OkO.nil ?_
      refine ⟨TT[i].length - (i2 + 1), by omega, i2 + 1, l2, rfl, by omega, ?_, hx2, Has.of (by kernel_rfl), rfl, r2⟩
      rw [List.take_succ_eq_append_getElem hlt2]
      exact hnew
    · -- no h2
      have hge2 : i2 = TT[i].length := by (have h9 : ¬ i2 < TT[i].length := by simpa using h2); omega
      subst hge2
      rw [List.take_length] at hFL
      obtain ⟨xs9, hm9, hcl9, hsn⟩ := FrL.snoc (r := TT[i]) hFO hx6 hgan (Fr.mono hFL.done (fun X h => h))
      have hone := hFL.one
      refine Ok.exit ?_
      refine Ok.region ?_
      refine OkO.move rfl rfl ?_
      refine OkO.move rfl rfl ?_
      refine OkO.buildSlice (el := 62) (sz := 1) (z := [.nils]) (cs := [lv]) rfl (by kernel_rfl) (by decide) rfl (by show fillS (fun i => some (i * 1, 1)) [AV.nils] [(0, lv)] = some [lv]; simp [fillS, spl, hone.1]) ?_
      refine OkO.builtinE rfl rfl rfl (Mine.app2 (W := W) (k0 := W.next) (t := 60) (u := 60) (sz := 1) (by_ := 24) (e := 62) (n := 1) (new := [lv]) (hm9.to (Grow.toNew _ _)) (hgi.new _) (Nat.le_refl _) (by simp; omega) (by kernel_rfl) (by kernel_rfl) (elems_new (n := 1) (sz := 1) rfl) rfl rfl (by rw [hcl9, List.length_take]; omega) (by omega) (by omega) (by simp [atoms, hone.2])) ?_
      rintro o2 G2 ⟨r1, r2, r3, r4, r5, r6⟩
      obtain ⟨mm, r6⟩ := r6
      simp only [hNw] at r5 r6
      have keep : ∀ j, j < G.next → (∀ m, ov ≠ .opn j m) → G2.get j = G.get j := fun j hj hne => by rw [r4 j (by simp; omega) hne]; exact gno _ _ _ (by omega)
      have hnew := hsn o2 G2 mm r1 r6 (by omega) keep
      refine OkO.assign rfl rfl ?_
      refine OkO.nil ?_
      refine Ok.region ?_
      refine OkO.move rfl rfl ?_
      refine OkO.bin rfl rfl rfl (bin_add (by omega) (by omega)) ?_
      refine OkO.assign rfl rfl ?_
      refine OkO.nil ?_
      refine ⟨TT.length - (i + 1), by omega, i + 1, o2, rfl, by omega, ?_, Has.of (by kernel_rfl), rfl, r2⟩
      rw [List.take_succ_eq_append_getElem hlt]
      exact hnew
  · -- no h1
    have hge : i = TT.length := by (have h9 : ¬ i < TT.length := by simpa using h1); omega
    subst hge
    rw [List.take_length] at hFO
    refine Ok.exit ?_
    refine Ok.seq ?_
    refine Ok.region ?_
    refine OkO.move rfl rfl ?_
    refine OkO.assign rfl rfl ?_
    refine OkO.nil ?_
    refine Ok.ret ⟨.inr rfl, ?_⟩
    refine back_newA (resV_tmp rfl resV_nil) rfl (by rw [← hW]; exact hg) (fun H9 p1 p2 => ⟨p1, ?_⟩)
    rcases p2 with ⟨hh, hf⟩ | ⟨p2, p3⟩
    · obtain ⟨xs, a1, a2, a3⟩ := hFO
      rcases a2 with ⟨e1, e2⟩ | ⟨b9, n9, e1, _⟩
      · subst e1 e2
        have hnil : TT = [] := List.eq_nil_of_length_eq_zero a1.symm
        rw [hnil]
        exact ⟨[], ⟨rfl, fun i x h => by simp at h⟩, rfl, fun i x R h _ => by simp at h⟩
      · rw [e1] at hf; cases hf
    · exact hFO.done H9 (Nat.le_of_eq p3.symm) (fun n _ _ => p2 n)
theorem c36E (m : Nat) (cv : AV) (cols : List (List Bed)) (least fa : Int) (H : Heap) (hM : Mat H cv cols) (he : reachE cols least fa ≠ 0) : RR (m + 211) (.fn 36 [.agg [cv, I least], I fa]) H = some (.tup [.nils, I (reachE cols least fa)], H) := by
  refine (R_fn _ _ _ _ _).trans ?_
  refine fn_ok Try.func36 rfl rfl (by kernel_rfl) (by kernel_rfl) ?_
  obtain ⟨W, hW, hg, hN, hE, hG⟩ := wOf H
  rw [← hW]
  have pc : cv.plain = true := by obtain ⟨vs, hR, _, _⟩ := hM; exact lpl hR.len
  refine Ok.seq ?_
  refine Ok.region ?_
  refine OkO.box rfl rfl ?_
  refine OkO.assign rfl rfl ?_
  refine OkO.assign rfl rfl ?_
  refine OkO.nil ?_
  refine Ok.seq ?_
  refine Ok.seq ?_
  refine Ok.region ?_
  refine OkO.load rfl rfl (ldg (n := 2) (by kernel_rfl) (by first | assumption | (simp (disch := first | omega | (simp only [hNw, hPt]; omega)) only [gN] <;> first | rfl | assumption | exact gp0 _ _ _ | exact gn0 _ _)) (by first | rfl | assumption)) ?_
  refine OkO.move rfl rfl ?_
  refine OkO.callV rfl rfl rfl rfl rfl (c74 (m + 0) cv cols least fa _ (hM.ext (hE _ (by (try dsimp only); repeat (first | exact hG | apply Grow.new | (refine Grow.put ?_ _ (by first | omega | (simp only [hNw, hPt]; omega)))))))) ?_
  refine OkO.assign rfl rfl ?_
  refine OkO.nil ?_
  refine Ok.seq ?_
  refine Ok.region ?_
  refine OkO.move rfl rfl ?_
  refine OkO.bin rfl rfl rfl ((bin_neq _ _).trans (congrArg (fun b => some (AV.bool b)) (show _ = true from (by simpa using he)))) ?_
  refine OkO.nil ?_
  refine Ok.condT rfl ?_
  refine Ok.seq ?_
  refine Ok.region ?_
  refine OkO.move rfl rfl ?_
  refine OkO.assign rfl rfl ?_
  refine OkO.assign rfl rfl ?_
  refine OkO.nil ?_
  refine Ok.ret ⟨.inr rfl, ?_⟩
  exact back_flat rfl rfl rfl (by rw [← hW]; exact (by (try dsimp only); repeat (first | exact hG | apply Grow.new | (refine Grow.put ?_ _ (by first | omega | (simp only [hNw, hPt]; omega))))))
theorem c36 (m : Nat) (cv : AV) (cols : List (List Bed)) (fa : Int) (L : Nat) (H : Heap) (hM : Mat H cv cols) (hv : slOk cols (L : Int) = true) (hf : 0 ≤ fa ∧ fa ≤ 10000) (he : reachE cols (L : Int) fa = 0) : ∃ v H', RR (m + 211) (.fn 36 [.agg [cv, I (L : Int)], I fa]) H = some (v, H') ∧ ∃ tv, v = .tup [tv, I 0] ∧ Ret H H' ∧ Tab H' tv (tabL (prC cols fa) cols.length (cols.headD []).length L) := by
  show ∃ v H', evFn Try.prog (RR (m + 210)) 36 [.agg [cv, I (L : Int)], I fa] H = some (v, H') ∧ ∃ tv, v = .tup [tv, I 0] ∧ Ret H H' ∧ Tab H' tv (tabL (prC cols fa) cols.length (cols.headD []).length L)
  refine fn_okE Try.func36 rfl rfl (by kernel_rfl) (by kernel_rfl) ?_
  obtain ⟨W, hW, hg, hN, hE, hG⟩ := wOf H
  rw [← hW]
  have pc : cv.plain = true := by obtain ⟨vs, hR, _, _⟩ := hM; exact lpl hR.len
  have hsf := slOk_facts hv
  refine Ok.seq ?_
  refine Ok.region ?_
  refine OkO.box rfl rfl ?_
  refine OkO.assign rfl rfl ?_
  refine OkO.assign rfl rfl ?_
  refine OkO.nil ?_
  refine Ok.seq ?_
  refine Ok.seq ?_
  refine Ok.region ?_
  refine OkO.load rfl rfl (ldg (n := 2) (by kernel_rfl) (by first | assumption | (simp (disch := first | omega | (simp only [hNw, hPt]; omega)) only [gN] <;> first | rfl | assumption | exact gp0 _ _ _ | exact gn0 _ _)) (by first | rfl | assumption)) ?_
  refine OkO.move rfl rfl ?_
  refine OkO.callV rfl rfl rfl rfl rfl ((c74 (m + 0) cv cols (L : Int) fa _ (hM.ext (hE _ (by (try dsimp only); repeat (first | exact hG | apply Grow.new | (refine Grow.put ?_ _ (by first | omega | (simp only [hNw, hPt]; omega)))))))).trans (by rw [he])) ?_
  refine OkO.assign rfl rfl ?_
  refine OkO.nil ?_
  refine Ok.seq ?_
  refine Ok.region ?_
  refine OkO.move rfl rfl ?_
  refine OkO.bin rfl rfl rfl ((bin_neq _ _).trans (congrArg (fun b => some (AV.bool b)) (show _ = false from (by rfl)))) ?_
  refine OkO.nil ?_
  refine Ok.condF rfl ?_
  refine Ok.skip ?_
  refine Ok.seq ?_
  refine Ok.region ?_
  refine OkO.load rfl rfl (ldg (n := 2) (by kernel_rfl) (by first | assumption | (simp (disch := first | omega | (simp only [hNw, hPt]; omega)) only [gN] <;> first | rfl | assumption | exact gp0 _ _ _ | exact gn0 _ _)) (by first | rfl | assumption)) ?_
  refine OkO.move rfl rfl ?_
  refine OkO.build (z := [.nils, .int .i64 0, .int .i64 0, .nilf]) (pl := [(0, 2), (2, 1), (3, 1)]) rfl (by kernel_rfl) rfl rfl ?_
  refine OkO.callE rfl rfl rfl rfl rfl (c75 (m + 204) cv cols fa L (cols.headD []).length _ (hM.ext (hE _ (by (try dsimp only); repeat (first | exact hG | apply Grow.new | (refine Grow.put ?_ _ (by first | omega | (simp only [hNw, hPt]; omega))))))) (lens_of hv) (bedsOk_of hv) hf (by omega) (by omega) (by omega)) ?_
  rintro tv9 Ht9 ⟨q9, t9, fl9⟩
  have n1 := q9.ext.next
  try simp only [hNw, hPt] at n1
  have gg1 : Grow W Ht9 := Grow.ret (by (try dsimp only); repeat (first | exact hG | apply Grow.new | (refine Grow.put ?_ _ (by first | omega | (simp only [hNw, hPt]; omega))))) q9
  refine OkO.assign rfl rfl ?_
  refine OkO.assign rfl rfl ?_
  refine OkO.nil ?_
  refine Ok.ret ⟨.inr rfl, ?_⟩
  refine back_newQ rfl rfl (by rw [← hW]; exact (by (try dsimp only); repeat (first | exact gg1 | apply Grow.new | (refine Grow.put ?_ _ (by first | omega | (simp only [hNw, hPt]; omega)))))) (by show AV.flats [tv9, I 0] = false; unfold AV.flats; rw [fl9]) (fun H9 p1 p2 p3 => ⟨tv9, rfl, p1, t9.ext ⟨Nat.le_of_eq p3.symm, fun n _ => p2 n⟩⟩)
end
end Go.Ev

