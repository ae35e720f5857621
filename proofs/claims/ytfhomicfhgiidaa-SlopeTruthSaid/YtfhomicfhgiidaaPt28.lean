/-
  Functions of the program, reckoned by the evaluator: what each answers, and that it leaves what came in as it was.
-/
import Derived.Test.YtfhomicfhgiidaaPt27
set_option maxRecDepth 100000
set_option linter.unusedSimpArgs false
set_option linter.unusedVariables false
namespace Go.Ev
open Go Go.Proofs
noncomputable section
theorem Walk.lt {n : Nat} : ∀ {us : List Nat}, Walk n us → ∀ (i : Nat) (h : i < us.length), us[i] < n
  | [k], h, 0, _ => h
  | k :: j :: l, h, 0, _ => h.1
  | k :: j :: l, h, i + 1, hi => Walk.lt (us := j :: l) h.2.2 i (by simpa using hi)
theorem flatN (us : List Nat) : (us.map fun (k : Nat) => [I (k : Int)]).flatten = us.map fun (k : Nat) => I (k : Int) := by induction us with | nil => rfl | cons a l ih => simp [ih]
theorem len_cells {v : AV} {n : Nat} (h : lenOf v = some n) : v.cells = [v] := by
  cases v with
  | raw x => cases x <;> first | rfl | (simp [lenOf] at h)
  | agg l => simp [lenOf] at h
  | _ => rfl
theorem c52 (m : Nat) (gk : Nat) (cv wv : AV) (cols : List (List Bed)) (least : Int) (ws : List Int) (H : Heap) (hM : Mat H cv cols) (hWs : Row H wv 1 (ws.map fun w => [U8 w])) (hws : Upto 255 ws) (hv : slOk cols least = true) (hgk : (cols.headD []).length = gk) (hlc : least ≤ cols.length) : ∃ v H', RR (m + 2) (.fn 52 [.agg [cv, I least], wv]) H = some (v, H') ∧ ∃ (fr : Nat) (us : List Nat) (bv : AV), v = .agg [I (fr : Int), bv] ∧ Ret H H' ∧ Mine H.next H' bv 3 1 (us.map fun (k : Nat) => I (k : Int)) ∧ bv ≠ .nils ∧ Surf cols.length gk least fr us ∧ us.length ≤ cols.length := by
  show ∃ v H', evFn Try.prog (RR (m + 1)) 52 [.agg [cv, I least], wv] H = some (v, H') ∧ ∃ (fr : Nat) (us : List Nat) (bv : AV), v = .agg [I (fr : Int), bv] ∧ Ret H H' ∧ Mine H.next H' bv 3 1 (us.map fun (k : Nat) => I (k : Int)) ∧ bv ≠ .nils ∧ Surf cols.length gk least fr us ∧ us.length ≤ cols.length
  refine fn_okE Try.func52 rfl rfl (by kernel_rfl) (by kernel_rfl) ?_
  obtain ⟨W, hW⟩ : ∃ W : Heap, W = ⟨H.t, H.next, H.next⟩ := ⟨_, rfl⟩
  have hg : ∀ n, W.get n = H.get n := fun n => by rw [hW]; rfl
  have hN : W.next = H.next := by rw [hW]
  have hE : ∀ G, Grow W G → Ext H G := fun G g => ⟨by rw [← hN]; exact g.next, fun n k => by rw [g.get n (by rw [hN]; exact k), hg]⟩
  have hG : Grow W W := Grow.refl (by rw [hW]; exact Nat.le_refl _)
  rw [← hW]
  have hsf := slOk_facts hv
  obtain ⟨vs, hR, hvl, hvv⟩ := id hM
  have hlen : lenOf cv = some cols.length := by rw [← hvl]; simpa using hR.len
  have pc : cv.plain = true := lpl hlen
  have hg0 : ∀ j, W.get j = H.get j := hg
  have hwl : lenOf wv = some ws.length := by simpa using hWs.len
  have hwc := len_cells hwl
  obtain ⟨cb, co, ccs, j1, j20, j3, j4⟩ := hR.at_ 0 [vs[0]'(by omega)] (by simp [show 0 < vs.length by omega])
  have j5 := seg_one j3
  obtain ⟨col, hcol⟩ : ∃ col, cols[0]? = some col := ⟨_, List.getElem?_eq_getElem (by omega)⟩
  have hcn : col.length = gk := by rw [← hgk]; cases cols with | nil => simp at hcol | cons a l => simp at hcol; rw [← hcol]; rfl
  have hlcol : lenOf (vs[0]'(by omega)) = some gk := by rw [← hcn]; simpa using (hvv 0 _ col (List.getElem?_eq_getElem (by omega)) hcol).len
  refine Ok.seq ?_
  refine Ok.region ?_
  refine OkO.box rfl rfl ?_
  refine OkO.box rfl rfl ?_
  refine OkO.alloc (z := [.int .i64 0, .nils]) rfl (by kernel_rfl) ?_
  refine OkO.nil ?_
  refine Ok.seq ?_
  refine Ok.region ?_
  refine OkO.makeFunc rfl rfl rfl ?_
  refine OkO.assign rfl rfl ?_
  refine OkO.nil ?_
  refine Ok.seq ?_
  refine Ok.region ?_
  refine OkO.fieldAddr (o := 1) rfl (by kernel_rfl) rfl ?_
  refine OkO.load rfl rfl (lda (n := 1) (by kernel_rfl) (by first | assumption | (simp (disch := first | omega | (simp only [hNw, hPt]; omega)) only [gn0, gn1, gn2, gn3, gn4, gn5, gp0, gno, gpo] <;> first | rfl | assumption | exact gp0 _ _ _ | exact gn0 _ _)) (by first | rfl | assumption)) ?_
  refine OkO.fieldAddr (o := 0) rfl (by kernel_rfl) rfl ?_
  refine OkO.load rfl rfl (lda (n := 1) (by kernel_rfl) (by first | assumption | (simp (disch := first | omega | (simp only [hNw, hPt]; omega)) only [gn0, gn1, gn2, gn3, gn4, gn5, gp0, gno, gpo] <;> first | rfl | assumption | exact gp0 _ _ _ | exact gn0 _ _)) (by first | rfl | assumption)) ?_
  refine OkO.builtin rfl rfl rfl (bln (by kernel_rfl) (by first | assumption | rfl)) ?_
  refine OkO.builtin rfl rfl rfl (builtin_min2 _ _) ?_
  refine OkO.assign rfl rfl ?_
  refine OkO.nil ?_
  refine Ok.seq ?_
  refine Ok.drawn [(0, true, []), (2, true, []), (3, true, []), (4, true, []), (5, true, []), (6, true, []), (7, true, []), (10, true, [4, 3]), (1, false, [4, 3]), (8, true, []), (9, true, []), (11, false, [])] (by kernel_rfl) ?_
  refine OkP.step ?_
  refine OkO.move rfl rfl ?_
  refine OkO.nil ⟨rfl, ?_⟩
  refine OkP.step ?_
  refine OkO.fieldAddr (o := 0) rfl (by kernel_rfl) rfl ?_
  refine OkO.nil ⟨rfl, ?_⟩
  refine OkP.step ?_
  refine OkO.load rfl rfl (lda (n := 1) (by kernel_rfl) (by first | assumption | (simp (disch := first | omega | (simp only [hNw, hPt]; omega)) only [gn0, gn1, gn2, gn3, gn4, gn5, gp0, gno, gpo] <;> first | rfl | assumption | exact gp0 _ _ _ | exact gn0 _ _)) (by first | rfl | assumption)) ?_
  refine OkO.nil ⟨rfl, ?_⟩
  refine OkP.step ?_
  refine OkO.builtin rfl rfl rfl (bln (by kernel_rfl) (by first | assumption | rfl)) ?_
  refine OkO.nil ⟨rfl, ?_⟩
  refine OkP.step ?_
  refine OkO.move rfl rfl ?_
  refine OkO.nil ⟨rfl, ?_⟩
  refine OkP.step ?_
  refine OkO.bin rfl rfl rfl (bin_sub (by omega) (by omega)) ?_
  refine OkO.nil ⟨rfl, ?_⟩
  refine OkP.step ?_
  refine OkO.bin rfl rfl rfl (bin_add (by omega) (by omega)) ?_
  refine OkO.nil ⟨rfl, ?_⟩
  refine OkP.step ?_
  refine OkO.alloc (z := [.int .i64 0, .nils]) rfl (by kernel_rfl) ?_
  refine OkO.nil ⟨(sco (svl rfl (ecb rfl rfl (bln (by kernel_rfl) (by first | assumption | rfl))) rfl (eqr _ rfl)) (sco (sld rfl rfl (lda (n := 1) (by kernel_rfl) (by first | assumption | (simp (disch := first | omega | (simp only [hNw, hPt]; omega)) only [gn0, gn1, gn2, gn3, gn4, gn5, gp0, gno, gpo] <;> first | rfl | assumption | exact gp0 _ _ _ | exact gn0 _ _)) (by first | rfl | assumption)) rfl (eqr _ (by first | rfl | exact lpl (by assumption) | (simp [AV.plain, AV.plains, AV.cells, pc, pbv])))) rfl)), ?_⟩
  refine OkP.step ?_
  refine OkO.callE rfl rfl rfl rfl rfl (c84 m 0 (W.next + 1) wv ws _ (by first | assumption | (simp (disch := first | omega | (simp only [hNw, hPt]; omega)) only [gn0, gn1, gn2, gn3, gn4, gn5, gp0, gno, gpo] <;> first | rfl | assumption | exact congrArg some hwc | (rw [gn1]; rfl))) (hWs.ext (hE _ (by (try dsimp only); repeat (first | exact hg | exact hG | apply Grow.new | (refine Grow.put ?_ _ (by first | omega | (simp only [hNw, hPt]; omega))))))) hws (by omega)) ?_ -- ('Go.Operand.tmp', 18)
  rintro vw Hw ⟨w0, rfl, rfl, hw1, hw2⟩
  have hwz2 := Int.emod_nonneg w0 (b := (cols.length : Int) - min least (cols.length : Int) + 1) (by omega)
  have hwz3 := Int.emod_lt_of_pos w0 (b := (cols.length : Int) - min least (cols.length : Int) + 1) (by omega)
  refine OkO.nil ⟨(sco (svl rfl (ecb rfl rfl (bln (by kernel_rfl) (by first | assumption | rfl))) rfl (eqr _ rfl)) (sco (sld rfl rfl (lda (n := 1) (by kernel_rfl) (by first | assumption | (simp (disch := first | omega | (simp only [hNw, hPt]; omega)) only [gn0, gn1, gn2, gn3, gn4, gn5, gp0, gno, gpo] <;> first | rfl | assumption | exact gp0 _ _ _ | exact gn0 _ _)) (by first | rfl | assumption)) rfl (eqr _ (by first | rfl | exact lpl (by assumption) | (simp [AV.plain, AV.plains, AV.cells, pc, pbv])))) rfl)), ?_⟩
  refine OkP.step ?_
  refine OkO.bin rfl rfl rfl (bin_rem (by omega) (by omega)) ?_
  refine OkO.nil ⟨rfl, ?_⟩
  refine OkP.step ?_
  obtain ⟨fr, hfr⟩ : ∃ fr : Nat, (fr : Int) = w0 % ((cols.length : Int) - min least (cols.length : Int) + 1) := ⟨(w0 % ((cols.length : Int) - min least (cols.length : Int) + 1)).toNat, by omega⟩
  rw [← hfr]
  refine OkO.build (z := [.int .i64 0, .nils]) (pl := [(0, 1), (1, 1)]) rfl (by kernel_rfl) rfl rfl ?_
  refine OkO.nil ⟨rfl, ?_⟩
  refine OkP.step ?_
  refine OkO.store rfl rfl rfl (stc (n := 2) (ag := true) (by kernel_rfl) (by first | assumption | (simp (disch := first | omega | (simp only [hNw, hPt]; omega)) only [gn0, gn1, gn2, gn3, gn4, gn5, gp0, gno, gpo] <;> first | rfl | assumption | exact gp0 _ _ _ | exact gn0 _ _)) rfl (by first | rfl | assumption) (by first | rfl | exact spl_set _ _ _ (by first | assumption | omega | (simp; omega)))) ?_
  refine OkO.nil ⟨rfl, ?_⟩
  refine OkP.nil ?_
  refine Ok.seq ?_
  refine Ok.drawn [(0, true, []), (1, true, []), (3, true, []), (4, true, []), (5, true, []), (6, true, []), (7, true, []), (8, true, []), (9, true, []), (10, true, []), (11, true, []), (2, false, [7, 5, 4]), (12, true, []), (13, true, []), (14, true, [])] (by kernel_rfl) ?_
  refine OkP.step ?_
  refine OkO.move rfl rfl ?_
  refine OkO.nil ⟨rfl, ?_⟩
  refine OkP.step ?_
  refine OkO.move rfl rfl ?_
  refine OkO.nil ⟨rfl, ?_⟩
  refine OkP.step ?_
  refine OkO.fieldAddr (o := 0) rfl (by kernel_rfl) rfl ?_
  refine OkO.nil ⟨rfl, ?_⟩
  refine OkP.step ?_
  refine OkO.load rfl rfl (lda (n := 1) (by kernel_rfl) (by first | assumption | (simp (disch := first | omega | (simp only [hNw, hPt]; omega)) only [gn0, gn1, gn2, gn3, gn4, gn5, gp0, gno, gpo] <;> first | rfl | assumption | exact gp0 _ _ _ | exact gn0 _ _)) (by first | rfl | assumption)) ?_
  refine OkO.nil ⟨rfl, ?_⟩
  refine OkP.step ?_
  refine OkO.builtin rfl rfl rfl (bln (by kernel_rfl) (by first | assumption | rfl)) ?_
  refine OkO.nil ⟨rfl, ?_⟩
  refine OkP.step ?_
  refine OkO.fieldAddr (o := 0) rfl (by kernel_rfl) rfl ?_
  refine OkO.nil ⟨rfl, ?_⟩
  refine OkP.step ?_
  refine OkO.load rfl rfl (lda (n := 1) (by kernel_rfl) (by first | assumption | (simp (disch := first | omega | (simp only [hNw, hPt]; omega)) only [gn0, gn1, gn2, gn3, gn4, gn5, gp0, gno, gpo] <;> first | rfl | assumption | exact gp0 _ _ _ | exact gn0 _ _)) (by first | rfl | assumption)) ?_
  refine OkO.nil ⟨rfl, ?_⟩
  refine OkP.step ?_
  refine OkO.bin rfl rfl rfl (bin_sub (by omega) (by omega)) ?_
  refine OkO.nil ⟨rfl, ?_⟩
  refine OkP.step ?_
  refine OkO.move rfl rfl ?_
  refine OkO.nil ⟨rfl, ?_⟩
  refine OkP.step ?_
  refine OkO.bin rfl rfl rfl (bin_sub (by omega) (by omega)) ?_
  refine OkO.nil ⟨rfl, ?_⟩
  refine OkP.step ?_
  refine OkO.bin rfl rfl rfl (bin_add (by omega) (by omega)) ?_
  refine OkO.nil ⟨rfl, ?_⟩
  refine OkP.step ?_
  refine OkO.callE rfl rfl rfl rfl rfl (c84 m 1 (W.next + 1) wv ws _ (by first | assumption | (simp (disch := first | omega | (simp only [hNw, hPt]; omega)) only [gn0, gn1, gn2, gn3, gn4, gn5, gp0, gno, gpo] <;> first | rfl | assumption | exact congrArg some hwc | (rw [gn1]; rfl))) (hWs.ext (hE _ (by (try dsimp only); repeat (first | exact hg | exact hG | apply Grow.new | (refine Grow.put ?_ _ (by first | omega | (simp only [hNw, hPt]; omega))))))) hws (by omega)) ?_ -- ('Go.Operand.tmp', 29)
  rintro vw Hw ⟨w, rfl, rfl, hw3, hw4⟩
  have hwm2 := Int.emod_nonneg w (b := (cols.length : Int) - (fr : Int) - min least (cols.length : Int) + 1) (by omega)
  have hwm3 := Int.emod_lt_of_pos w (b := (cols.length : Int) - (fr : Int) - min least (cols.length : Int) + 1) (by omega)
  obtain ⟨Ln, hLn⟩ : ∃ Ln : Nat, (Ln : Int) = min least (cols.length : Int) + w % ((cols.length : Int) - (fr : Int) - min least (cols.length : Int) + 1) := ⟨(min least (cols.length : Int) + w % ((cols.length : Int) - (fr : Int) - min least (cols.length : Int) + 1)).toNat, by omega⟩
  refine OkO.nil ⟨(sco (sld rfl rfl (lda (n := 1) (by kernel_rfl) (by first | assumption | (simp (disch := first | omega | (simp only [hNw, hPt]; omega)) only [gn0, gn1, gn2, gn3, gn4, gn5, gp0, gno, gpo] <;> first | rfl | assumption | exact gp0 _ _ _ | exact gn0 _ _)) (by first | rfl | assumption)) rfl (eqr _ (by first | rfl | exact lpl (by assumption) | (simp [AV.plain, AV.plains, AV.cells, pc, pbv])))) (sco (svl rfl (ecb rfl rfl (bln (by kernel_rfl) (by first | assumption | rfl))) rfl (eqr _ rfl)) (sco (sld rfl rfl (lda (n := 1) (by kernel_rfl) (by first | assumption | (simp (disch := first | omega | (simp only [hNw, hPt]; omega)) only [gn0, gn1, gn2, gn3, gn4, gn5, gp0, gno, gpo] <;> first | rfl | assumption | exact gp0 _ _ _ | exact gn0 _ _)) (by first | rfl | assumption)) rfl (eqr _ (by first | rfl | exact lpl (by assumption) | (simp [AV.plain, AV.plains, AV.cells, pc, pbv])))) rfl))), ?_⟩
  refine OkP.step ?_
  refine OkO.bin rfl rfl rfl (bin_rem (by omega) (by omega)) ?_
  refine OkO.nil ⟨rfl, ?_⟩
  refine OkP.step ?_
  refine OkO.bin rfl rfl rfl (bin_add (by omega) (by omega)) ?_
  refine OkO.nil ⟨rfl, ?_⟩
  refine OkP.step ?_
  refine OkO.assign rfl rfl ?_
  refine OkO.nil ⟨rfl, ?_⟩
  refine OkP.nil ?_
  refine Ok.seq ?_
  refine Ok.seq ?_
  refine Ok.region ?_
  refine OkO.assign rfl rfl ?_
  refine OkO.nil ?_
  refine Ok.block ?_
  rw [← hLn]
  refine Ok.loop (fun n9 s_ => ∃ (i : Nat) (bv : AV) (us : List Nat), n9 = Ln - i ∧ i ≤ Ln ∧ us.length = i ∧ Walk gk us ∧ Mine (W.next + 4) s_.H bv 3 1 (us.map fun (k : Nat) => I (k : Int)) ∧ Grow W s_.H ∧ W.next + 4 ≤ s_.H.next ∧ s_.H.get W.next = some (.cells [cv, I least] 24) ∧ s_.H.get (W.next + 1) = some (.cells [wv] 87) ∧ s_.H.get (W.next + 2) = some (.cells [I 0, .nils] 27) ∧ s_.H.get (W.next + 3) = some (.cells [I (fr : Int), bv] 27) ∧ Has 7 [(2, .ptr W.next 0), (4, .ptr (W.next + 2) 0), (5, .fn 84 [] [.ptr (W.next + 1) 0]), (7, .ptr (W.next + 3) 0), (8, I (Ln : Int)), (9, I (i : Int))] s_.T ∧ s_.D = []) (Ln) (by unfold loopFuel; omega)
    ⟨0, .nils, [], rfl, Nat.zero_le _, rfl, trivial, Mine.nil _ _ _ _, (by (try dsimp only); repeat (first | exact hg | exact hG | apply Grow.new | (refine Grow.put ?_ _ (by first | omega | (simp only [hNw, hPt]; omega))))), (by simp only [hNw, hPt]; omega), (by first | assumption | (simp (disch := first | omega | (simp only [hNw, hPt]; omega)) only [gn0, gn1, gn2, gn3, gn4, gn5, gp0, gno, gpo] <;> first | rfl | assumption | exact gp0 _ _ _ | exact gn0 _ _)), (by (simp (disch := first | omega | (simp only [hNw, hPt]; omega)) only [gn0, gn1, gn2, gn3, gn4, gn5, gp0, gno, gpo]); exact congrArg (fun l => some (AObj.cells l 87)) hwc), (by first | assumption | (simp (disch := first | omega | (simp only [hNw, hPt]; omega)) only [gn0, gn1, gn2, gn3, gn4, gn5, gp0, gno, gpo] <;> first | rfl | assumption | exact gp0 _ _ _ | exact gn0 _ _)), (by first | assumption | (simp (disch := first | omega | (simp only [hNw, hPt]; omega)) only [gn0, gn1, gn2, gn3, gn4, gn5, gp0, gno, gpo] <;> first | rfl | assumption | exact gp0 _ _ _ | exact gn0 _ _)), Has.of (by kernel_rfl), rfl⟩ ?_
  rintro n9 ⟨T, D, G⟩ ⟨i, bv, us, hn, hi, hlu, hwk, hm, hg, hgx, f0, f1, f2, f3, ⟨f, hT⟩, hD⟩
  dsimp only at *
  subst hT hD
  have hgn := hg.next
  have e0 : (G.get W.next).bind AObj.cs = some [cv, I least] := by rw [f0]; rfl
  have e1 : (G.get (W.next + 1)).bind AObj.cs = some [wv] := by rw [f1]; rfl
  have e3 : (G.get (W.next + 3)).bind AObj.cs = some [I (fr : Int), bv] := by rw [f3]; rfl
  have jc2 : (G.get cb).bind AObj.cs = some ccs := by rw [hg.get _ (by omega), hg0]; exact j20
  have pbv : bv.plain = true := by (rcases hm with ⟨h, _⟩ | ⟨_, _, h, _⟩) <;> rw [h] <;> rfl
  refine Ok.seq ?_
  refine Ok.seq ?_
  refine Ok.region ?_
  refine OkO.move rfl rfl ?_
  refine OkO.move rfl rfl ?_
  refine OkO.bin rfl rfl rfl (bin_lss _ _) ?_
  refine OkO.nil ?_
  refine Ok.cond rfl (fun h1 => ?_) (fun h1 => ?_)
  · -- yes h1
    have hil : i < Ln := by simpa using h1
    refine Ok.skip ?_
    refine Ok.seq ?_
    refine Ok.block ?_
    refine Ok.seq ?_
    refine Ok.drawn [(0, true, []), (1, true, []), (2, true, []), (4, true, []), (5, true, []), (6, true, []), (7, true, []), (8, true, []), (3, false, [8, 7, 5]), (9, true, []), (10, true, [])] (by kernel_rfl) ?_
    refine OkP.step ?_
    refine OkO.move rfl rfl ?_
    refine OkO.nil ⟨rfl, ?_⟩
    refine OkP.step ?_
    refine OkO.move rfl rfl ?_
    refine OkO.nil ⟨rfl, ?_⟩
    refine OkP.step ?_
    refine OkO.bin rfl rfl rfl (bin_add (by omega) (by omega)) ?_
    refine OkO.nil ⟨rfl, ?_⟩
    refine OkP.step ?_
    refine OkO.fieldAddr (o := 0) rfl (by kernel_rfl) rfl ?_
    refine OkO.nil ⟨rfl, ?_⟩
    refine OkP.step ?_
    refine OkO.load rfl rfl (lda (n := 1) (by kernel_rfl) (by first | assumption | (simp (disch := first | omega | (simp only [hNw, hPt]; omega)) only [gn0, gn1, gn2, gn3, gn4, gn5, gp0, gno, gpo] <;> first | rfl | assumption | exact gp0 _ _ _ | exact gn0 _ _)) (by first | rfl | assumption)) ?_
    refine OkO.nil ⟨rfl, ?_⟩
    refine OkP.step ?_
    refine OkO.index (sz := 1) (n := 0) rfl rfl rfl (by kernel_rfl) (by first | assumption | rfl | exact slAt_slice (by omega)) ?_ -- index ('Go.Operand.tmp', 52) ('Go.Operand.const', ('Go.Value.int', 'Go.IntKind.i64', 0))
    refine OkO.nil ⟨rfl, ?_⟩
    refine OkP.step ?_
    refine OkO.load rfl rfl (lda (n := 1) (by kernel_rfl) (by first | assumption | (simp (disch := first | omega | (simp only [hNw, hPt]; omega)) only [gn0, gn1, gn2, gn3, gn4, gn5, gp0, gno, gpo] <;> first | rfl | assumption | exact gp0 _ _ _ | exact gn0 _ _)) (by first | rfl | assumption)) ?_
    refine OkO.nil ⟨rfl, ?_⟩
    refine OkP.step ?_
    refine OkO.builtin rfl rfl rfl (bln (by kernel_rfl) (by first | assumption | rfl)) ?_
    refine OkO.nil ⟨rfl, ?_⟩
    refine OkP.step ?_
    refine OkO.callE rfl rfl rfl rfl rfl ((by rw [show (2 : Int) + (i : Int) = ((2 + i : Nat) : Int) from by push_cast; rfl]; exact c84 m (2 + i) (W.next + 1) wv ws _ (by first | assumption | (simp (disch := first | omega | (simp only [hNw, hPt]; omega)) only [gn0, gn1, gn2, gn3, gn4, gn5, gp0, gno, gpo] <;> first | rfl | assumption | exact congrArg some hwc | (rw [gn1]; rfl))) (hWs.ext (hE _ (by (try dsimp only); repeat (first | exact hg | exact hG | apply Grow.new | (refine Grow.put ?_ _ (by first | omega | (simp only [hNw, hPt]; omega))))))) hws (by omega))) ?_ -- ('Go.Operand.tmp', 47)
    rintro vw Hw ⟨w, rfl, rfl, hw1, hw2⟩
    have hwm := Int.emod_nonneg w (b := (gk : Int)) (by omega)
    have hwm1 := Int.emod_lt_of_pos w (b := (gk : Int)) (by omega)
    refine OkO.nil ⟨(sco (svl rfl (ecb rfl rfl (bln (by kernel_rfl) (by first | assumption | rfl))) rfl (eqr _ rfl)) (sco (sld rfl rfl (lda (n := 1) (by kernel_rfl) (by first | assumption | (simp (disch := first | omega | (simp only [hNw, hPt]; omega)) only [gn0, gn1, gn2, gn3, gn4, gn5, gp0, gno, gpo] <;> first | rfl | assumption | exact gp0 _ _ _ | exact gn0 _ _)) (by first | rfl | assumption)) rfl (eqr _ (by first | rfl | exact lpl (by assumption) | (simp [AV.plain, AV.plains, AV.cells, pc, pbv])))) (sco (sld rfl rfl (lda (n := 1) (by kernel_rfl) (by first | assumption | (simp (disch := first | omega | (simp only [hNw, hPt]; omega)) only [gn0, gn1, gn2, gn3, gn4, gn5, gp0, gno, gpo] <;> first | rfl | assumption | exact gp0 _ _ _ | exact gn0 _ _)) (by first | rfl | assumption)) rfl (eqr _ (by first | rfl | exact lpl (by assumption) | (simp [AV.plain, AV.plains, AV.cells, pc, pbv])))) rfl))), ?_⟩
    refine OkP.step ?_
    refine OkO.bin rfl rfl rfl (bin_rem (by omega) (by omega)) ?_
    refine OkO.nil ⟨rfl, ?_⟩
    refine OkP.step ?_
    refine OkO.assign rfl rfl ?_
    refine OkO.nil ⟨rfl, ?_⟩
    refine OkP.nil ?_
    refine Ok.seq ?_
    refine Ok.seq ?_
    refine Ok.region ?_
    refine OkO.move rfl rfl ?_
    refine OkO.bin rfl rfl rfl (bin_gtr _ _) ?_
    refine OkO.nil ?_
    refine Ok.cond rfl (fun h2 => ?_) (fun h2 => ?_)
    · -- yes h2
      have hi0 : 0 < i := by simpa using h2
      obtain ⟨up, hupg⟩ : ∃ up, us[i - 1]? = some up := ⟨_, List.getElem?_eq_getElem (by omega)⟩
      have hup9 : up < gk := by (have h9 := hwk.lt (i - 1) (by omega)); (rw [List.getElem?_eq_getElem (by omega)] at hupg); (cases hupg); exact h9
      obtain ⟨ub, uo, ucs, u1, u2, u3, u4⟩ := (Mine.row (l := us.map fun (k : Nat) => [I (k : Int)]) (by rw [flatN]; exact hm) (fun x hx => by simp only [List.mem_map] at hx; obtain ⟨y, _, rfl⟩ := hx; rfl) (by omega)).at_ (i - 1) [I (up : Int)] (by rw [List.getElem?_map, hupg]; rfl)
      have u5 := seg_one u3
      refine Ok.drawn [(0, true, []), (1, true, []), (2, true, []), (3, true, []), (4, true, []), (5, true, []), (6, true, []), (7, true, []), (8, true, []), (9, true, []), (14, true, []), (15, true, []), (16, true, []), (17, true, []), (18, true, []), (19, true, []), (10, false, [18, 17, 15, 5, 1]), (11, true, []), (12, true, []), (13, false, [18, 17, 15, 5, 1]), (20, false, [18, 17, 15, 5, 1]), (21, true, [])] (by kernel_rfl) ?_
      refine OkP.step ?_
      refine OkO.fieldAddr (o := 1) rfl (by kernel_rfl) rfl ?_
      refine OkO.nil ⟨rfl, ?_⟩
      refine OkP.step ?_
      refine OkO.load rfl rfl (lda (n := 1) (by kernel_rfl) (by first | assumption | (simp (disch := first | omega | (simp only [hNw, hPt]; omega)) only [gn0, gn1, gn2, gn3, gn4, gn5, gp0, gno, gpo] <;> first | rfl | assumption | exact gp0 _ _ _ | exact gn0 _ _)) (by first | rfl | assumption)) ?_
      refine OkO.nil ⟨rfl, ?_⟩
      refine OkP.step ?_
      refine OkO.move rfl rfl ?_
      refine OkO.nil ⟨rfl, ?_⟩
      refine OkP.step ?_
      refine OkO.bin rfl rfl rfl (bin_sub (by omega) (by omega)) ?_
      refine OkO.nil ⟨rfl, ?_⟩
      refine OkP.step ?_
      refine OkO.index (sz := 1) (n := i - 1) rfl rfl (congrArg (fun z => some (I z)) (by omega)) (by kernel_rfl) (by first | assumption | rfl | exact slAt_slice (by omega)) ?_ -- index ('Go.Operand.tmp', 60) ('Go.Operand.tmp', 62)
      refine OkO.nil ⟨rfl, ?_⟩
      refine OkP.step ?_
      refine OkO.load rfl rfl (lda (n := 1) (by kernel_rfl) (by first | assumption | (simp (disch := first | omega | (simp only [hNw, hPt]; omega)) only [gn0, gn1, gn2, gn3, gn4, gn5, gp0, gno, gpo] <;> first | rfl | assumption | exact gp0 _ _ _ | exact gn0 _ _)) (by first | rfl | assumption)) ?_
      refine OkO.nil ⟨rfl, ?_⟩
      refine OkP.step ?_
      refine OkO.bin rfl rfl rfl (bin_sub (by omega) (by omega)) ?_
      refine OkO.nil ⟨rfl, ?_⟩
      refine OkP.step ?_
      refine OkO.move rfl rfl ?_
      refine OkO.nil ⟨rfl, ?_⟩
      refine OkP.step ?_
      refine OkO.move rfl rfl ?_
      refine OkO.nil ⟨rfl, ?_⟩
      refine OkP.step ?_
      refine OkO.bin rfl rfl rfl (bin_add (by omega) (by omega)) ?_
      refine OkO.nil ⟨rfl, ?_⟩
      refine OkP.step ?_
      refine OkO.fieldAddr (o := 0) rfl (by kernel_rfl) rfl ?_
      refine OkO.nil ⟨rfl, ?_⟩
      refine OkP.step ?_
      refine OkO.load rfl rfl (lda (n := 1) (by kernel_rfl) (by first | assumption | (simp (disch := first | omega | (simp only [hNw, hPt]; omega)) only [gn0, gn1, gn2, gn3, gn4, gn5, gp0, gno, gpo] <;> first | rfl | assumption | exact gp0 _ _ _ | exact gn0 _ _)) (by first | rfl | assumption)) ?_
      refine OkO.nil ⟨rfl, ?_⟩
      refine OkP.step ?_
      refine OkO.index (sz := 1) (n := 0) rfl rfl rfl (by kernel_rfl) (by first | assumption | rfl | exact slAt_slice (by omega)) ?_ -- index ('Go.Operand.tmp', 74) ('Go.Operand.const', ('Go.Value.int', 'Go.IntKind.i64', 0))
      refine OkO.nil ⟨rfl, ?_⟩
      refine OkP.step ?_
      refine OkO.load rfl rfl (lda (n := 1) (by kernel_rfl) (by first | assumption | (simp (disch := first | omega | (simp only [hNw, hPt]; omega)) only [gn0, gn1, gn2, gn3, gn4, gn5, gp0, gno, gpo] <;> first | rfl | assumption | exact gp0 _ _ _ | exact gn0 _ _)) (by first | rfl | assumption)) ?_
      refine OkO.nil ⟨rfl, ?_⟩
      refine OkP.step ?_
      refine OkO.builtin rfl rfl rfl (bln (by kernel_rfl) (by first | assumption | rfl)) ?_
      refine OkO.nil ⟨rfl, ?_⟩
      refine OkP.step ?_
      refine OkO.bin rfl rfl rfl (bin_sub (by omega) (by omega)) ?_
      refine OkO.nil ⟨rfl, ?_⟩
      refine OkP.step ?_
      refine OkO.callE rfl rfl rfl rfl rfl ((by rw [show (2 : Int) + (i : Int) = ((2 + i : Nat) : Int) from by push_cast; rfl]; exact c84 m (2 + i) (W.next + 1) wv ws _ (by first | assumption | (simp (disch := first | omega | (simp only [hNw, hPt]; omega)) only [gn0, gn1, gn2, gn3, gn4, gn5, gp0, gno, gpo] <;> first | rfl | assumption | exact congrArg some hwc | (rw [gn1]; rfl))) (hWs.ext (hE _ (by (try dsimp only); repeat (first | exact hg | exact hG | apply Grow.new | (refine Grow.put ?_ _ (by first | omega | (simp only [hNw, hPt]; omega))))))) hws (by omega))) ?_ -- ('Go.Operand.tmp', 66)
      rintro vw Hw ⟨w2, rfl, rfl, hx1, hx2⟩
      have hwm4 := Int.emod_nonneg w2 (b := 3) (by omega)
      have hwm5 := Int.emod_lt_of_pos w2 (b := 3) (by omega)
      refine OkO.nil ⟨(sco (svl rfl (ecb rfl rfl (bln (by kernel_rfl) (by first | assumption | rfl))) rfl (eqr _ rfl)) (sco (sld rfl rfl (lda (n := 1) (by kernel_rfl) (by first | assumption | (simp (disch := first | omega | (simp only [hNw, hPt]; omega)) only [gn0, gn1, gn2, gn3, gn4, gn5, gp0, gno, gpo] <;> first | rfl | assumption | exact gp0 _ _ _ | exact gn0 _ _)) (by first | rfl | assumption)) rfl (eqr _ (by first | rfl | exact lpl (by assumption) | (simp [AV.plain, AV.plains, AV.cells, pc, pbv])))) (sco (sld rfl rfl (lda (n := 1) (by kernel_rfl) (by first | assumption | (simp (disch := first | omega | (simp only [hNw, hPt]; omega)) only [gn0, gn1, gn2, gn3, gn4, gn5, gp0, gno, gpo] <;> first | rfl | assumption | exact gp0 _ _ _ | exact gn0 _ _)) (by first | rfl | assumption)) rfl (eqr _ (by first | rfl | exact lpl (by assumption) | (simp [AV.plain, AV.plains, AV.cells, pc, pbv])))) (sco (sld rfl rfl (lda (n := 1) (by kernel_rfl) (by first | assumption | (simp (disch := first | omega | (simp only [hNw, hPt]; omega)) only [gn0, gn1, gn2, gn3, gn4, gn5, gp0, gno, gpo] <;> first | rfl | assumption | exact gp0 _ _ _ | exact gn0 _ _)) (by first | rfl | assumption)) rfl (eqr _ (by first | rfl | exact lpl (by assumption) | (simp [AV.plain, AV.plains, AV.cells, pc, pbv])))) (sco (sld rfl rfl (lda (n := 1) (by kernel_rfl) (by first | assumption | (simp (disch := first | omega | (simp only [hNw, hPt]; omega)) only [gn0, gn1, gn2, gn3, gn4, gn5, gp0, gno, gpo] <;> first | rfl | assumption | exact gp0 _ _ _ | exact gn0 _ _)) (by first | rfl | assumption)) rfl (eqr _ (by first | rfl | exact lpl (by assumption) | (simp [AV.plain, AV.plains, AV.cells, pc, pbv])))) rfl))))), ?_⟩
      refine OkP.step ?_
      refine OkO.bin rfl rfl rfl (bin_rem (by omega) (by omega)) ?_
      refine OkO.nil ⟨rfl, ?_⟩
      refine OkP.step ?_
      refine OkO.bin rfl rfl rfl (bin_add (by omega) (by omega)) ?_
      refine OkO.nil ⟨rfl, ?_⟩
      refine OkP.step ?_
      refine OkO.builtin rfl rfl rfl (builtin_max2 _ _) ?_
      refine OkO.nil ⟨(sco (svl rfl (ecb rfl rfl (bln (by kernel_rfl) (by first | assumption | rfl))) rfl (eqr _ rfl)) (sco (sld rfl rfl (lda (n := 1) (by kernel_rfl) (by first | assumption | (simp (disch := first | omega | (simp only [hNw, hPt]; omega)) only [gn0, gn1, gn2, gn3, gn4, gn5, gp0, gno, gpo] <;> first | rfl | assumption | exact gp0 _ _ _ | exact gn0 _ _)) (by first | rfl | assumption)) rfl (eqr _ (by first | rfl | exact lpl (by assumption) | (simp [AV.plain, AV.plains, AV.cells, pc, pbv])))) (sco (sld rfl rfl (lda (n := 1) (by kernel_rfl) (by first | assumption | (simp (disch := first | omega | (simp only [hNw, hPt]; omega)) only [gn0, gn1, gn2, gn3, gn4, gn5, gp0, gno, gpo] <;> first | rfl | assumption | exact gp0 _ _ _ | exact gn0 _ _)) (by first | rfl | assumption)) rfl (eqr _ (by first | rfl | exact lpl (by assumption) | (simp [AV.plain, AV.plains, AV.cells, pc, pbv])))) (sco (sld rfl rfl (lda (n := 1) (by kernel_rfl) (by first | assumption | (simp (disch := first | omega | (simp only [hNw, hPt]; omega)) only [gn0, gn1, gn2, gn3, gn4, gn5, gp0, gno, gpo] <;> first | rfl | assumption | exact gp0 _ _ _ | exact gn0 _ _)) (by first | rfl | assumption)) rfl (eqr _ (by first | rfl | exact lpl (by assumption) | (simp [AV.plain, AV.plains, AV.cells, pc, pbv])))) (sco (sld rfl rfl (lda (n := 1) (by kernel_rfl) (by first | assumption | (simp (disch := first | omega | (simp only [hNw, hPt]; omega)) only [gn0, gn1, gn2, gn3, gn4, gn5, gp0, gno, gpo] <;> first | rfl | assumption | exact gp0 _ _ _ | exact gn0 _ _)) (by first | rfl | assumption)) rfl (eqr _ (by first | rfl | exact lpl (by assumption) | (simp [AV.plain, AV.plains, AV.cells, pc, pbv])))) rfl))))), ?_⟩
      refine OkP.step ?_
      refine OkO.builtin rfl rfl rfl (builtin_min2 _ _) ?_
      refine OkO.nil ⟨(sco (svl rfl (ecb rfl rfl (bln (by kernel_rfl) (by first | assumption | rfl))) rfl (eqr _ rfl)) (sco (sld rfl rfl (lda (n := 1) (by kernel_rfl) (by first | assumption | (simp (disch := first | omega | (simp only [hNw, hPt]; omega)) only [gn0, gn1, gn2, gn3, gn4, gn5, gp0, gno, gpo] <;> first | rfl | assumption | exact gp0 _ _ _ | exact gn0 _ _)) (by first | rfl | assumption)) rfl (eqr _ (by first | rfl | exact lpl (by assumption) | (simp [AV.plain, AV.plains, AV.cells, pc, pbv])))) (sco (sld rfl rfl (lda (n := 1) (by kernel_rfl) (by first | assumption | (simp (disch := first | omega | (simp only [hNw, hPt]; omega)) only [gn0, gn1, gn2, gn3, gn4, gn5, gp0, gno, gpo] <;> first | rfl | assumption | exact gp0 _ _ _ | exact gn0 _ _)) (by first | rfl | assumption)) rfl (eqr _ (by first | rfl | exact lpl (by assumption) | (simp [AV.plain, AV.plains, AV.cells, pc, pbv])))) (sco (sld rfl rfl (lda (n := 1) (by kernel_rfl) (by first | assumption | (simp (disch := first | omega | (simp only [hNw, hPt]; omega)) only [gn0, gn1, gn2, gn3, gn4, gn5, gp0, gno, gpo] <;> first | rfl | assumption | exact gp0 _ _ _ | exact gn0 _ _)) (by first | rfl | assumption)) rfl (eqr _ (by first | rfl | exact lpl (by assumption) | (simp [AV.plain, AV.plains, AV.cells, pc, pbv])))) (sco (sld rfl rfl (lda (n := 1) (by kernel_rfl) (by first | assumption | (simp (disch := first | omega | (simp only [hNw, hPt]; omega)) only [gn0, gn1, gn2, gn3, gn4, gn5, gp0, gno, gpo] <;> first | rfl | assumption | exact gp0 _ _ _ | exact gn0 _ _)) (by first | rfl | assumption)) rfl (eqr _ (by first | rfl | exact lpl (by assumption) | (simp [AV.plain, AV.plains, AV.cells, pc, pbv])))) rfl))))), ?_⟩
      refine OkP.step ?_
      refine OkO.assign rfl rfl ?_
      refine OkO.nil ⟨rfl, ?_⟩
      refine OkP.nil ?_
      refine Ok.region ?_
      refine OkO.fieldAddr (o := 1) rfl (by kernel_rfl) rfl ?_
      refine OkO.load rfl rfl (lda (n := 1) (by kernel_rfl) (by first | assumption | (simp (disch := first | omega | (simp only [hNw, hPt]; omega)) only [gn0, gn1, gn2, gn3, gn4, gn5, gp0, gno, gpo] <;> first | rfl | assumption | exact gp0 _ _ _ | exact gn0 _ _)) (by first | rfl | assumption)) ?_
      refine OkO.move rfl rfl ?_
      refine OkO.buildSlice (el := 3) (sz := 1) (z := [.int .i64 0]) rfl (by kernel_rfl) (by decide) rfl rfl ?_
      obtain ⟨b9, hb9⟩ : ∃ b9 : Nat, (b9 : Int) = min (max 0 ((up : Int) - 1 + w2 % 3)) ((gk : Int) - 1) := ⟨(min (max 0 ((up : Int) - 1 + w2 % 3)) ((gk : Int) - 1)).toNat, by omega⟩
      rw [← hb9]
      have hbn : b9 < gk := by omega
      have hbx : ∀ k, us.getLast? = some k → Nxt gk k b9 := fun k hk => by (rw [List.getLast?_eq_getElem?, hlu, hupg] at hk); (cases hk); exact ⟨hbn, by omega, by omega⟩
      refine OkO.builtinE rfl rfl rfl (Mine.app2 (W := W) (k0 := W.next + 4) (sz := 1) (by_ := 8) (e := 3) (n := 1) (new := [I (b9 : Int)]) (hm.to (by (try dsimp only); repeat (first | exact Ext.refl _ | assumption | apply Ext.new | (refine Ext.put ?_ _ (by first | omega | (simp only [hNw, hPt]; omega)))))) (by (try dsimp only); repeat (first | exact hg | exact hG | apply Grow.new | (refine Grow.put ?_ _ (by first | omega | (simp only [hNw, hPt]; omega))))) (by omega) (by simp only [hNw, hPt]; omega) (by kernel_rfl) (by kernel_rfl) (elems_new (n := 1) (sz := 1) rfl) rfl rfl (by rw [List.length_map]; omega) (by omega) (by omega) rfl) ?_
      rintro v2 G2 ⟨q1, q2, q4, q5, q6, q7⟩
      simp only [hNw, hPt] at q6
      have z0 : G2.get W.next = some (.cells [cv, I least] 24) := by rw [q4.get _ (by omega) (by simp only [hNw, hPt]; omega)]; (simp (disch := first | omega | (simp only [hNw, hPt]; omega)) only [gn0, gn1, gn2, gn3, gn4, gn5, gp0, gno, gpo] <;> first | rfl | assumption)
      have z1 : G2.get (W.next + 1) = some (.cells [wv] 87) := by rw [q4.get _ (by omega) (by simp only [hNw, hPt]; omega)]; (simp (disch := first | omega | (simp only [hNw, hPt]; omega)) only [gn0, gn1, gn2, gn3, gn4, gn5, gp0, gno, gpo] <;> first | rfl | assumption)
      have z2 : G2.get (W.next + 2) = some (.cells [I 0, .nils] 27) := by rw [q4.get _ (by omega) (by simp only [hNw, hPt]; omega)]; (simp (disch := first | omega | (simp only [hNw, hPt]; omega)) only [gn0, gn1, gn2, gn3, gn4, gn5, gp0, gno, gpo] <;> first | rfl | assumption)
      have z3 : G2.get (W.next + 3) = some (.cells [I (fr : Int), bv] 27) := by rw [q4.get _ (by omega) (by simp only [hNw, hPt]; omega)]; (simp (disch := first | omega | (simp only [hNw, hPt]; omega)) only [gn0, gn1, gn2, gn3, gn4, gn5, gp0, gno, gpo] <;> first | rfl | assumption)
      obtain ⟨mm, hv2⟩ := q7
      subst hv2
      have y3 : (G2.get (W.next + 3)).bind AObj.cs = some [I (fr : Int), bv] := by rw [z3]; rfl
      refine OkO.fieldAddr (o := 1) rfl (by kernel_rfl) rfl ?_
      refine OkO.store rfl rfl rfl (stc (n := 1) (ag := false) (by kernel_rfl) (by first | assumption | (simp (disch := first | omega | (simp only [hNw, hPt]; omega)) only [gn0, gn1, gn2, gn3, gn4, gn5, gp0, gno, gpo] <;> first | rfl | assumption | exact gp0 _ _ _ | exact gn0 _ _)) rfl (by first | rfl | assumption) (by first | rfl | exact spl_set _ _ _ (by first | assumption | omega | (simp; omega)))) ?_
      refine OkO.nil ?_
      refine Ok.region ?_
      refine OkO.move rfl rfl ?_
      refine OkO.bin rfl rfl rfl (bin_add (by omega) (by omega)) ?_
      refine OkO.assign rfl rfl ?_
      refine OkO.nil ?_
      refine ⟨Ln - (i + 1), by omega, i + 1, _, us ++ [b9], rfl, by omega, by simp; omega, hwk.snoc hbn hbx, ?_, q2.put _ (by omega), (by simp only [hNw, hPt]; omega), (by first | assumption | (simp (disch := first | omega | (simp only [hNw, hPt]; omega)) only [gn0, gn1, gn2, gn3, gn4, gn5, gp0, gno, gpo] <;> first | rfl | assumption | exact gp0 _ _ _ | exact gn0 _ _)), (by first | assumption | (simp (disch := first | omega | (simp only [hNw, hPt]; omega)) only [gn0, gn1, gn2, gn3, gn4, gn5, gp0, gno, gpo] <;> first | rfl | assumption | exact gp0 _ _ _ | exact gn0 _ _)), (by first | assumption | (simp (disch := first | omega | (simp only [hNw, hPt]; omega)) only [gn0, gn1, gn2, gn3, gn4, gn5, gp0, gno, gpo] <;> first | rfl | assumption | exact gp0 _ _ _ | exact gn0 _ _)), (by first | assumption | (simp (disch := first | omega | (simp only [hNw, hPt]; omega)) only [gn0, gn1, gn2, gn3, gn4, gn5, gp0, gno, gpo] <;> first | rfl | assumption | exact gp0 _ _ _ | exact gn0 _ _)), Has.of (by kernel_rfl), rfl⟩
      rw [List.map_append]; exact q1.put _ (by omega)
    · -- no h2
      refine Ok.skip ?_
      refine Ok.region ?_
      refine OkO.fieldAddr (o := 1) rfl (by kernel_rfl) rfl ?_
      refine OkO.load rfl rfl (lda (n := 1) (by kernel_rfl) (by first | assumption | (simp (disch := first | omega | (simp only [hNw, hPt]; omega)) only [gn0, gn1, gn2, gn3, gn4, gn5, gp0, gno, gpo] <;> first | rfl | assumption | exact gp0 _ _ _ | exact gn0 _ _)) (by first | rfl | assumption)) ?_
      refine OkO.move rfl rfl ?_
      refine OkO.buildSlice (el := 3) (sz := 1) (z := [.int .i64 0]) rfl (by kernel_rfl) (by decide) rfl rfl ?_
      obtain ⟨b9, hb9⟩ : ∃ b9 : Nat, (b9 : Int) = w % (gk : Int) := ⟨(w % (gk : Int)).toNat, by omega⟩
      rw [← hb9]
      have hbn : b9 < gk := by omega
      have hi0 : i = 0 := by (have : ¬ (0 : Int) < (i : Int) := by simpa using h2); omega
      have hbx : ∀ k, us.getLast? = some k → Nxt gk k b9 := fun k hk => by (rw [List.eq_nil_of_length_eq_zero (show us.length = 0 by omega)] at hk); simp at hk
      refine OkO.builtinE rfl rfl rfl (Mine.app2 (W := W) (k0 := W.next + 4) (sz := 1) (by_ := 8) (e := 3) (n := 1) (new := [I (b9 : Int)]) (hm.to (by (try dsimp only); repeat (first | exact Ext.refl _ | assumption | apply Ext.new | (refine Ext.put ?_ _ (by first | omega | (simp only [hNw, hPt]; omega)))))) (by (try dsimp only); repeat (first | exact hg | exact hG | apply Grow.new | (refine Grow.put ?_ _ (by first | omega | (simp only [hNw, hPt]; omega))))) (by omega) (by simp only [hNw, hPt]; omega) (by kernel_rfl) (by kernel_rfl) (elems_new (n := 1) (sz := 1) rfl) rfl rfl (by rw [List.length_map]; omega) (by omega) (by omega) rfl) ?_
      rintro v2 G2 ⟨q1, q2, q4, q5, q6, q7⟩
      simp only [hNw, hPt] at q6
      have z0 : G2.get W.next = some (.cells [cv, I least] 24) := by rw [q4.get _ (by omega) (by simp only [hNw, hPt]; omega)]; (simp (disch := first | omega | (simp only [hNw, hPt]; omega)) only [gn0, gn1, gn2, gn3, gn4, gn5, gp0, gno, gpo] <;> first | rfl | assumption)
      have z1 : G2.get (W.next + 1) = some (.cells [wv] 87) := by rw [q4.get _ (by omega) (by simp only [hNw, hPt]; omega)]; (simp (disch := first | omega | (simp only [hNw, hPt]; omega)) only [gn0, gn1, gn2, gn3, gn4, gn5, gp0, gno, gpo] <;> first | rfl | assumption)
      have z2 : G2.get (W.next + 2) = some (.cells [I 0, .nils] 27) := by rw [q4.get _ (by omega) (by simp only [hNw, hPt]; omega)]; (simp (disch := first | omega | (simp only [hNw, hPt]; omega)) only [gn0, gn1, gn2, gn3, gn4, gn5, gp0, gno, gpo] <;> first | rfl | assumption)
      have z3 : G2.get (W.next + 3) = some (.cells [I (fr : Int), bv] 27) := by rw [q4.get _ (by omega) (by simp only [hNw, hPt]; omega)]; (simp (disch := first | omega | (simp only [hNw, hPt]; omega)) only [gn0, gn1, gn2, gn3, gn4, gn5, gp0, gno, gpo] <;> first | rfl | assumption)
      obtain ⟨mm, hv2⟩ := q7
      subst hv2
      have y3 : (G2.get (W.next + 3)).bind AObj.cs = some [I (fr : Int), bv] := by rw [z3]; rfl
      refine OkO.fieldAddr (o := 1) rfl (by kernel_rfl) rfl ?_
      refine OkO.store rfl rfl rfl (stc (n := 1) (ag := false) (by kernel_rfl) (by first | assumption | (simp (disch := first | omega | (simp only [hNw, hPt]; omega)) only [gn0, gn1, gn2, gn3, gn4, gn5, gp0, gno, gpo] <;> first | rfl | assumption | exact gp0 _ _ _ | exact gn0 _ _)) rfl (by first | rfl | assumption) (by first | rfl | exact spl_set _ _ _ (by first | assumption | omega | (simp; omega)))) ?_
      refine OkO.nil ?_
      refine Ok.region ?_
      refine OkO.move rfl rfl ?_
      refine OkO.bin rfl rfl rfl (bin_add (by omega) (by omega)) ?_
      refine OkO.assign rfl rfl ?_
      refine OkO.nil ?_
      refine ⟨Ln - (i + 1), by omega, i + 1, _, us ++ [b9], rfl, by omega, by simp; omega, hwk.snoc hbn hbx, ?_, q2.put _ (by omega), (by simp only [hNw, hPt]; omega), (by first | assumption | (simp (disch := first | omega | (simp only [hNw, hPt]; omega)) only [gn0, gn1, gn2, gn3, gn4, gn5, gp0, gno, gpo] <;> first | rfl | assumption | exact gp0 _ _ _ | exact gn0 _ _)), (by first | assumption | (simp (disch := first | omega | (simp only [hNw, hPt]; omega)) only [gn0, gn1, gn2, gn3, gn4, gn5, gp0, gno, gpo] <;> first | rfl | assumption | exact gp0 _ _ _ | exact gn0 _ _)), (by first | assumption | (simp (disch := first | omega | (simp only [hNw, hPt]; omega)) only [gn0, gn1, gn2, gn3, gn4, gn5, gp0, gno, gpo] <;> first | rfl | assumption | exact gp0 _ _ _ | exact gn0 _ _)), (by first | assumption | (simp (disch := first | omega | (simp only [hNw, hPt]; omega)) only [gn0, gn1, gn2, gn3, gn4, gn5, gp0, gno, gpo] <;> first | rfl | assumption | exact gp0 _ _ _ | exact gn0 _ _)), Has.of (by kernel_rfl), rfl⟩
      rw [List.map_append]; exact q1.put _ (by omega)
  · -- no h1
    have hil : i = Ln := by (have : ¬ i < Ln := by simpa using h1); omega
    have hnn : bv ≠ .nils := by (rcases hm with ⟨_, h⟩ | ⟨_, _, h, _⟩); (· cases us with | nil => (simp at hlu; omega) | cons _ _ => simp at h); (· rw [h]; simp)
    have hone : bv.cells = [bv] ∧ bv.atom = true := hm.one
    have hat : atoms [I (fr : Int), bv] = true := by (rw [atoms, atoms, hone.2]; rfl)
    have hfl : bv.flat = false := by (rcases hm with ⟨h, _⟩ | ⟨_, _, h, _⟩); (· exact absurd h hnn); (· rw [h]; rfl)
    refine Ok.exit ?_
    refine Ok.seq ?_
    refine Ok.region ?_
    refine OkO.load rfl rfl (ldg (n := 2) (by kernel_rfl) (by first | assumption | (simp (disch := first | omega | (simp only [hNw, hPt]; omega)) only [gn0, gn1, gn2, gn3, gn4, gn5, gp0, gno, gpo] <;> first | rfl | assumption | exact gp0 _ _ _ | exact gn0 _ _)) (by first | rfl | assumption)) ?_
    refine OkO.store rfl rfl rfl (stc (n := 2) (ag := true) (by kernel_rfl) (by first | assumption | (simp (disch := first | omega | (simp only [hNw, hPt]; omega)) only [gn0, gn1, gn2, gn3, gn4, gn5, gp0, gno, gpo] <;> first | rfl | assumption | exact gp0 _ _ _ | exact gn0 _ _)) rfl (by first | rfl | assumption) (by first | rfl | exact spl_set _ _ _ (by first | assumption | omega | (simp; omega)))) ?_
    refine OkO.nil ?_
    refine Ok.ret ⟨.inr rfl, ?_⟩
    refine back_newQ (resV_cell rfl (ldg (n := 2) (by kernel_rfl) (by first | assumption | (simp (disch := first | omega | (simp only [hNw, hPt]; omega)) only [gn0, gn1, gn2, gn3, gn4, gn5, gp0, gno, gpo] <;> first | rfl | assumption | exact gp0 _ _ _ | exact gn0 _ _)) (by first | rfl | assumption)) resV_nil) rfl (by rw [← hW]; exact (by (try dsimp only); repeat (first | exact hg | exact hG | apply Grow.new | (refine Grow.put ?_ _ (by first | omega | (simp only [hNw, hPt]; omega)))))) (by simp [resOf, AV.flat, AV.flats, hfl]) (fun H9 p1 p2 p3 => ⟨fr, us, bv, rfl, p1, ?_, hnn, ⟨hwk, by (intro h9; rw [h9] at hlu; simp at hlu; omega), by omega, by omega⟩, by omega⟩)
    · rcases hm with ⟨h, _⟩ | ⟨b9, m9, h1, h2, h3, h4, h5⟩
      · exact absurd h hnn
      · exact .inr ⟨b9, m9, h1, by rw [p2, gpo _ _ _ _ (by omega)]; exact h2, h3, by omega, by rw [p3, hPt]; exact h5⟩
end
end Go.Ev

set_option maxRecDepth 100000
set_option linter.unusedSimpArgs false
set_option linter.unusedVariables false
namespace Go.Ev
open Go Go.Proofs
noncomputable section
theorem spl_setU (a : List Int) (k : Nat) (z : Int) (h : k < a.length) : spl (a.map U16) (0 + k * 1) (U16 z).cells = some ((a.set k z).map U16) := by
  have e : spl (a.map U16) (0 + k * 1) (U16 z).cells = (match Nat.ble (0 + k * 1 + 1) (a.map U16).length with
    | true => some ((a.map U16).take (0 + k * 1) ++ ([U16 z] ++ (a.map U16).drop (0 + k * 1 + 1)))
    | false => none) := rfl
  rw [e, Nat.zero_add, Nat.mul_one, Nat.ble_eq_true_of_le (by simp; omega)]
  simp only
  rw [List.map_set, List.set_eq_take_append_cons_drop, if_pos (by simpa using h)]
  rfl
theorem list3 {a : List Int} (h : a.length = 3) : ∃ x y z, a = [x, y, z] := by
  match a, h with
  | [x, y, z], _ => exact ⟨x, y, z, rfl⟩
theorem bedsW_get {cols : List (List Bed)} : ∀ (us : List Nat) (c j : Nat) (h : j < us.length), (bedsW cols c us)[j]? = some (bedAt cols (c + j) us[j])
  | k :: l, c, 0, _ => rfl
  | k :: l, c, j + 1, h => by
    rw [bedsW, List.getElem?_cons_succ, bedsW_get l (c + 1) j (by simpa using h)]
    simp only [List.getElem_cons_succ]
    rw [show c + 1 + j = c + (j + 1) from by omega]
theorem upto_set {k : Int} {l : List Int} (h : Upto k l) {z : Int} (hz : 0 ≤ z ∧ z ≤ k) (i : Nat) : Upto k (l.set i z) := fun x hx => by
  rcases List.mem_or_eq_of_mem_set hx with h1 | rfl
  · exact h x h1
  · exact hz
theorem rl_snoc (R : List Rl) (r : Rl) : ((R ++ [r]).map rl).flatten = (R.map rl).flatten ++ rl r := by simp
theorem c53 (m : Nat) (gk fr : Nat) (cv bv wv : AV) (cols : List (List Bed)) (least : Int) (us : List Nat) (ws : List Int) (H : Heap) (hM : Mat H cv cols) (hU : Row H bv 1 (us.map fun (k : Nat) => [I (k : Int)])) (hWs : Row H wv 1 (ws.map fun w => [U16 w])) (hws : Upto 65535 ws) (hcl : ∀ c ∈ cols, c.length = gk) (hok : BedsOk cols) (hN9 : cols.length ≤ 100) (hg9 : gk ≤ 1000) (hwk : Walk gk us) (hfr : fr + us.length ≤ cols.length) : ∃ v H', RR (m + 2) (.fn 53 [.agg [cv, I least], .agg [I (fr : Int), bv], wv]) H = some (v, H') ∧ ∃ R : List Rl, Ret H H' ∧ Row H' v 3 (R.map rl) ∧ R.length = us.length ∧ fitsB (bedsW cols fr us) R = true := by
  show ∃ v H', evFn Try.prog (RR (m + 1)) 53 [.agg [cv, I least], .agg [I (fr : Int), bv], wv] H = some (v, H') ∧ ∃ R : List Rl, Ret H H' ∧ Row H' v 3 (R.map rl) ∧ R.length = us.length ∧ fitsB (bedsW cols fr us) R = true
  refine fn_okE Try.func53 rfl rfl (by kernel_rfl) (by kernel_rfl) ?_
  obtain ⟨W, hW⟩ : ∃ W : Heap, W = ⟨H.t, H.next, H.next⟩ := ⟨_, rfl⟩
  have hg : ∀ n, W.get n = H.get n := fun n => by rw [hW]; rfl
  have hN : W.next = H.next := by rw [hW]
  have hE : ∀ G, Grow W G → Ext H G := fun G g => ⟨by rw [← hN]; exact g.next, fun n k => by rw [g.get n (by rw [hN]; exact k), hg]⟩
  have hG : Grow W W := Grow.refl (by rw [hW]; exact Nat.le_refl _)
  rw [← hW]
  obtain ⟨vs, hR, hvl, hvv⟩ := id hM
  have hlen : lenOf cv = some cols.length := by rw [← hvl]; simpa using hR.len
  have pc : cv.plain = true := lpl hlen
  have hg0 : ∀ j, W.get j = H.get j := hg
  have hlu : lenOf bv = some us.length := by simpa using hU.len
  have hlw : lenOf wv = some ws.length := by simpa using hWs.len
  have pbv := lpl hlu
  refine Ok.seq ?_
  refine Ok.region ?_
  refine OkO.box rfl rfl ?_
  refine OkO.box rfl rfl ?_
  refine OkO.assign rfl rfl ?_
  refine OkO.nil ?_
  refine Ok.seq ?_
  refine Ok.region ?_
  refine OkO.assign rfl rfl ?_
  refine OkO.nil ?_
  refine Ok.seq ?_
  refine Ok.seq ?_
  refine Ok.region ?_
  refine OkO.assign rfl rfl ?_
  refine OkO.nil ?_
  refine Ok.block ?_
  refine Ok.loop (fun n9 s_ => ∃ (i : Nat) (rv : AV) (R : List Rl), n9 = us.length - i ∧ i ≤ us.length ∧ R.length = i ∧ (∀ j r, R[j]? = some r → ∃ u, us[j]? = some u ∧ fit1 (bedAt cols (fr + j) u) r = true) ∧ Mine (W.next + 2) s_.H rv 112 3 (R.map rl).flatten ∧ Grow W s_.H ∧ W.next + 2 ≤ s_.H.next ∧ s_.H.get W.next = some (.cells [cv, I least] 24) ∧ s_.H.get (W.next + 1) = some (.cells [I (fr : Int), bv] 27) ∧ Has 7 [(2, wv), (3, .ptr W.next 0), (4, .ptr (W.next + 1) 0), (7, rv), (8, I (i : Int))] s_.T ∧ s_.D = []) (us.length) (by unfold loopFuel; omega)
    ⟨0, .nils, [], rfl, Nat.zero_le _, rfl, nofun, Mine.nil _ _ _ _, (by (try dsimp only); repeat (first | exact hg | exact hG | apply Grow.new | (refine Grow.put ?_ _ (by first | omega | (simp only [hNw, hPt]; omega))))), (by simp only [hNw, hPt]; omega), (by first | assumption | (simp (disch := first | omega | (simp only [hNw, hPt]; omega)) only [gn0, gn1, gn2, gn3, gn4, gn5, gp0, gno, gpo] <;> first | rfl | assumption | exact gp0 _ _ _ | exact gn0 _ _)), (by first | assumption | (simp (disch := first | omega | (simp only [hNw, hPt]; omega)) only [gn0, gn1, gn2, gn3, gn4, gn5, gp0, gno, gpo] <;> first | rfl | assumption | exact gp0 _ _ _ | exact gn0 _ _)), Has.of (by kernel_rfl), rfl⟩ ?_
  rintro n9 ⟨T, D, G⟩ ⟨i, rv, R, hn, hi, hRl, hfit, hm, hg, hgx, f0, f1, ⟨f, hT⟩, hD⟩
  dsimp only at *
  subst hT hD
  have hgn := hg.next
  have e0 : (G.get W.next).bind AObj.cs = some [cv, I least] := by rw [f0]; rfl
  have e1 : (G.get (W.next + 1)).bind AObj.cs = some [I (fr : Int), bv] := by rw [f1]; rfl
  refine Ok.seq ?_
  refine Ok.seq ?_
  refine Ok.region ?_
  refine OkO.move rfl rfl ?_
  refine OkO.fieldAddr (o := 1) rfl (by kernel_rfl) rfl ?_
  refine OkO.load rfl rfl (lda (n := 1) (by kernel_rfl) (by first | assumption | (simp (disch := first | omega | (simp only [hNw, hPt]; omega)) only [gn0, gn1, gn2, gn3, gn4, gn5, gp0, gno, gpo] <;> first | rfl | assumption | exact gp0 _ _ _ | exact gn0 _ _)) (by first | rfl | assumption)) ?_
  refine OkO.builtin rfl rfl rfl (bln (by kernel_rfl) (by first | assumption | rfl)) ?_
  refine OkO.bin rfl rfl rfl (bin_lss _ _) ?_
  refine OkO.nil ?_
  refine Ok.cond rfl (fun h1 => ?_) (fun h1 => ?_)
  · -- yes h1
    have hil : i < us.length := by simpa using h1
    obtain ⟨up, hupg⟩ : ∃ up, us[i]? = some up := ⟨_, List.getElem?_eq_getElem hil⟩
    have hupl : up < gk := by (have h9 := hwk.lt i hil); (rw [List.getElem?_eq_getElem hil] at hupg); (cases hupg); exact h9
    have hcl9 : fr + i < vs.length := by omega
    obtain ⟨cb, co, ccs, j1, j20, j3, j4⟩ := hR.at_ (fr + i) [vs[fr + i]] (by simp [hcl9])
    have j5 := seg_one j3
    have j2 : (G.get cb).bind AObj.cs = some ccs := by rw [hg.get _ (by omega), hg0]; exact j20
    obtain ⟨col, hcol, hbed⟩ := bedAt_get (c := fr + i) (k := up) hcl (by omega) hupl
    have hrow := hvv (fr + i) vs[fr + i] col (by simp [hcl9]) hcol
    have hlcol : lenOf vs[fr + i] = some col.length := by simpa using hrow.len
    have hkc : up < col.length := (List.getElem?_eq_some_iff.1 hbed).1
    obtain ⟨bb, bo, bcs, k1, k20, k3, k4⟩ := hrow.at_ up (bedAt cols (fr + i) up).c (by rw [List.getElem?_map, hbed]; rfl)
    have k2 : (G.get bb).bind AObj.cs = some bcs := by rw [hg.get _ (by omega), hg0]; exact k20
    obtain ⟨ub, uo, ucs, u1, u20, u3, u4⟩ := hU.at_ i [I (up : Int)] (by rw [List.getElem?_map, hupg]; rfl)
    have u5 := seg_one u3
    have u2 : (G.get ub).bind AObj.cs = some ucs := by rw [hg.get _ (by omega), hg0]; exact u20
    have hblim := Bed.ok_lim (bedAt_ok hok (fr + i) up)
    unfold Bed.lim at hblim
    refine Ok.skip ?_
    refine Ok.seq ?_
    refine Ok.block ?_
    refine Ok.seq ?_
    refine Ok.drawn [(0, true, []), (1, true, []), (2, true, []), (3, true, []), (4, true, []), (5, true, []), (6, true, []), (7, true, []), (8, true, []), (9, true, []), (10, true, []), (11, true, []), (12, true, []), (13, true, []), (14, true, []), (15, true, [14, 12, 9, 7, 3, 1]), (16, false, [])] (by kernel_rfl) ?_
    refine OkP.step ?_
    refine OkO.fieldAddr (o := 0) rfl (by kernel_rfl) rfl ?_
    refine OkO.nil ⟨rfl, ?_⟩
    refine OkP.step ?_
    refine OkO.load rfl rfl (lda (n := 1) (by kernel_rfl) (by first | assumption | (simp (disch := first | omega | (simp only [hNw, hPt]; omega)) only [gn0, gn1, gn2, gn3, gn4, gn5, gp0, gno, gpo] <;> first | rfl | assumption | exact gp0 _ _ _ | exact gn0 _ _)) (by first | rfl | assumption)) ?_
    refine OkO.nil ⟨rfl, ?_⟩
    refine OkP.step ?_
    refine OkO.fieldAddr (o := 0) rfl (by kernel_rfl) rfl ?_
    refine OkO.nil ⟨rfl, ?_⟩
    refine OkP.step ?_
    refine OkO.load rfl rfl (lda (n := 1) (by kernel_rfl) (by first | assumption | (simp (disch := first | omega | (simp only [hNw, hPt]; omega)) only [gn0, gn1, gn2, gn3, gn4, gn5, gp0, gno, gpo] <;> first | rfl | assumption | exact gp0 _ _ _ | exact gn0 _ _)) (by first | rfl | assumption)) ?_
    refine OkO.nil ⟨rfl, ?_⟩
    refine OkP.step ?_
    refine OkO.move rfl rfl ?_
    refine OkO.nil ⟨rfl, ?_⟩
    refine OkP.step ?_
    refine OkO.bin rfl rfl rfl (bin_add (by omega) (by omega)) ?_
    refine OkO.nil ⟨rfl, ?_⟩
    refine OkP.step ?_
    refine OkO.index (sz := 1) (n := fr + i) rfl rfl (congrArg (fun z => some (I z)) (by push_cast; rfl)) (by kernel_rfl) (by first | assumption | rfl | exact slAt_slice (by omega)) ?_ -- index ('Go.Operand.tmp', 20) ('Go.Operand.tmp', 24)
    refine OkO.nil ⟨rfl, ?_⟩
    refine OkP.step ?_
    refine OkO.load rfl rfl (lda (n := 1) (by kernel_rfl) (by first | assumption | (simp (disch := first | omega | (simp only [hNw, hPt]; omega)) only [gn0, gn1, gn2, gn3, gn4, gn5, gp0, gno, gpo] <;> first | rfl | assumption | exact gp0 _ _ _ | exact gn0 _ _)) (by first | rfl | assumption)) ?_
    refine OkO.nil ⟨rfl, ?_⟩
    refine OkP.step ?_
    refine OkO.fieldAddr (o := 1) rfl (by kernel_rfl) rfl ?_
    refine OkO.nil ⟨rfl, ?_⟩
    refine OkP.step ?_
    refine OkO.load rfl rfl (lda (n := 1) (by kernel_rfl) (by first | assumption | (simp (disch := first | omega | (simp only [hNw, hPt]; omega)) only [gn0, gn1, gn2, gn3, gn4, gn5, gp0, gno, gpo] <;> first | rfl | assumption | exact gp0 _ _ _ | exact gn0 _ _)) (by first | rfl | assumption)) ?_
    refine OkO.nil ⟨rfl, ?_⟩
    refine OkP.step ?_
    refine OkO.move rfl rfl ?_
    refine OkO.nil ⟨rfl, ?_⟩
    refine OkP.step ?_
    refine OkO.index (sz := 1) (n := i) rfl rfl rfl (by kernel_rfl) (by first | assumption | rfl | exact slAt_slice (by omega)) ?_ -- index ('Go.Operand.tmp', 28) ('Go.Operand.tmp', 29)
    refine OkO.nil ⟨rfl, ?_⟩
    refine OkP.step ?_
    refine OkO.load rfl rfl (lda (n := 1) (by kernel_rfl) (by first | assumption | (simp (disch := first | omega | (simp only [hNw, hPt]; omega)) only [gn0, gn1, gn2, gn3, gn4, gn5, gp0, gno, gpo] <;> first | rfl | assumption | exact gp0 _ _ _ | exact gn0 _ _)) (by first | rfl | assumption)) ?_
    refine OkO.nil ⟨rfl, ?_⟩
    refine OkP.step ?_
    refine OkO.index (sz := 8) (n := up) rfl rfl rfl (by kernel_rfl) (by first | assumption | rfl | exact slAt_slice (by omega)) ?_ -- index ('Go.Operand.tmp', 26) ('Go.Operand.tmp', 31)
    refine OkO.nil ⟨rfl, ?_⟩
    refine OkP.step ?_
    refine OkO.load rfl rfl (ldg (n := 8) (by kernel_rfl) (by first | assumption | (simp (disch := first | omega | (simp only [hNw, hPt]; omega)) only [gn0, gn1, gn2, gn3, gn4, gn5, gp0, gno, gpo] <;> first | rfl | assumption | exact gp0 _ _ _ | exact gn0 _ _)) (by first | rfl | assumption)) ?_
    refine OkO.nil ⟨rfl, ?_⟩
    refine OkP.step ?_
    refine OkO.alloc (z := [.int .i64 0, .int .i64 0, .int .i64 0, .int .i64 0, .int .i64 0, .int .i64 0, .int .i64 0, .int .i64 0]) rfl (by kernel_rfl) ?_
    refine OkO.nil ⟨(sco (sld rfl rfl (ldg (n := 8) (by kernel_rfl) (by first | assumption | (simp (disch := first | omega | (simp only [hNw, hPt]; omega)) only [gn0, gn1, gn2, gn3, gn4, gn5, gp0, gno, gpo] <;> first | rfl | assumption | exact gp0 _ _ _ | exact gn0 _ _)) (by first | rfl | assumption)) rfl (eqr _ (by first | rfl | exact lpl (by assumption) | (simp [AV.plain, AV.plains, AV.cells, pc, Bed.c])))) (sco (sld rfl rfl (lda (n := 1) (by kernel_rfl) (by first | assumption | (simp (disch := first | omega | (simp only [hNw, hPt]; omega)) only [gn0, gn1, gn2, gn3, gn4, gn5, gp0, gno, gpo] <;> first | rfl | assumption | exact gp0 _ _ _ | exact gn0 _ _)) (by first | rfl | assumption)) rfl (eqr _ (by first | rfl | exact lpl (by assumption) | (simp [AV.plain, AV.plains, AV.cells, pc, Bed.c])))) (sco (sld rfl rfl (lda (n := 1) (by kernel_rfl) (by first | assumption | (simp (disch := first | omega | (simp only [hNw, hPt]; omega)) only [gn0, gn1, gn2, gn3, gn4, gn5, gp0, gno, gpo] <;> first | rfl | assumption | exact gp0 _ _ _ | exact gn0 _ _)) (by first | rfl | assumption)) rfl (eqr _ (by first | rfl | exact lpl (by assumption) | (simp [AV.plain, AV.plains, AV.cells, pc, Bed.c])))) (sco (sld rfl rfl (lda (n := 1) (by kernel_rfl) (by first | assumption | (simp (disch := first | omega | (simp only [hNw, hPt]; omega)) only [gn0, gn1, gn2, gn3, gn4, gn5, gp0, gno, gpo] <;> first | rfl | assumption | exact gp0 _ _ _ | exact gn0 _ _)) (by first | rfl | assumption)) rfl (eqr _ (by first | rfl | exact lpl (by assumption) | (simp [AV.plain, AV.plains, AV.cells, pc, Bed.c])))) (sco (sld rfl rfl (lda (n := 1) (by kernel_rfl) (by first | assumption | (simp (disch := first | omega | (simp only [hNw, hPt]; omega)) only [gn0, gn1, gn2, gn3, gn4, gn5, gp0, gno, gpo] <;> first | rfl | assumption | exact gp0 _ _ _ | exact gn0 _ _)) (by first | rfl | assumption)) rfl (eqr _ (by first | rfl | exact lpl (by assumption) | (simp [AV.plain, AV.plains, AV.cells, pc, Bed.c])))) (sco (sld rfl rfl (lda (n := 1) (by kernel_rfl) (by first | assumption | (simp (disch := first | omega | (simp only [hNw, hPt]; omega)) only [gn0, gn1, gn2, gn3, gn4, gn5, gp0, gno, gpo] <;> first | rfl | assumption | exact gp0 _ _ _ | exact gn0 _ _)) (by first | rfl | assumption)) rfl (eqr _ (by first | rfl | exact lpl (by assumption) | (simp [AV.plain, AV.plains, AV.cells, pc, Bed.c])))) rfl)))))), ?_⟩
    refine OkP.step ?_
    refine OkO.store rfl rfl rfl (stc (n := 8) (ag := true) (by kernel_rfl) (by first | assumption | (simp (disch := first | omega | (simp only [hNw, hPt]; omega)) only [gn0, gn1, gn2, gn3, gn4, gn5, gp0, gno, gpo] <;> first | rfl | assumption | exact gp0 _ _ _ | exact gn0 _ _)) rfl (by first | rfl | assumption) (by first | rfl | exact spl_setU _ _ _ (by first | assumption | omega | (simp; omega)))) ?_
    refine OkO.nil ⟨rfl, ?_⟩
    refine OkP.nil ?_
    refine Ok.seq ?_
    refine Ok.region ?_
    refine OkO.alloc (z := [.int .u16 0, .int .u16 0, .int .u16 0]) rfl (by kernel_rfl) ?_
    refine OkO.nil ?_
    refine Ok.seq ?_
    refine Ok.seq ?_
    refine Ok.region ?_
    refine OkO.assign rfl rfl ?_
    refine OkO.nil ?_
    refine Ok.block ?_
    obtain ⟨G0, hG0⟩ : ∃ G0, G0 = G := ⟨_, rfl⟩
    subst hG0
    refine Ok.loop (fun n8 s_ => ∃ (k : Nat) (arr : List Int), n8 = 3 - k ∧ k ≤ 3 ∧ arr.length = 3 ∧ Upto 65535 arr ∧ (∀ j, j < G0.next → s_.H.get j = G0.get j) ∧ Grow W s_.H ∧ s_.H.next = G0.next + 2 ∧ s_.H.get G0.next = some (.cells (bedAt cols (fr + i) up).c 100) ∧ s_.H.get (G0.next + 1) = some (.cells (arr.map U16) 133) ∧ Has 7 [(2, wv), (3, .ptr W.next 0), (4, .ptr (W.next + 1) 0), (7, rv), (8, I (i : Int)), (9, .ptr G0.next 0), (10, .ptr (G0.next + 1) 0), (11, I (k : Int))] s_.T ∧ s_.D = []) (3) (by unfold loopFuel; omega)
      ⟨0, [0, 0, 0], rfl, Nat.zero_le _, rfl, (fun x hx => by simp at hx; omega), (fun j hj => by simp (disch := first | omega | (simp only [hNw, hPt]; omega)) only [gno, gpo]), (by (try dsimp only); repeat (first | exact hg | exact hG | apply Grow.new | (refine Grow.put ?_ _ (by first | omega | (simp only [hNw, hPt]; omega))))), by simp only [hNw, hPt], (by first | assumption | (simp (disch := first | omega | (simp only [hNw, hPt]; omega)) only [gn0, gn1, gn2, gn3, gn4, gn5, gp0, gno, gpo] <;> first | rfl | assumption | exact gp0 _ _ _ | exact gn0 _ _)), (by first | assumption | (simp (disch := first | omega | (simp only [hNw, hPt]; omega)) only [gn0, gn1, gn2, gn3, gn4, gn5, gp0, gno, gpo] <;> first | rfl | assumption | exact gp0 _ _ _ | exact gn0 _ _)), Has.of (by kernel_rfl), rfl⟩ ?_
    rintro n8 ⟨T, D, G⟩ ⟨k, arr, hn2, hk, hal, hau, hold, hg, hgx2, h9, h10, ⟨f, hT⟩, hD⟩
    dsimp only at *
    subst hT hD
    have hgn := hg.next
    have e9 : (G.get G0.next).bind AObj.cs = some (bedAt cols (fr + i) up).c := by rw [h9]; rfl
    have e10 : (G.get (G0.next + 1)).bind AObj.cs = some (arr.map U16) := by rw [h10]; rfl
    refine Ok.seq ?_
    refine Ok.seq ?_
    refine Ok.region ?_
    refine OkO.move rfl rfl ?_
    refine OkO.bin rfl rfl rfl (bin_lss _ _) ?_
    refine OkO.move rfl rfl ?_
    refine OkO.split (d := 36) rfl (fun g2 => ?_) (fun g2 => ?_)
    · -- true g2
      have hk3 : k < 3 := by (have : (k : Int) < 3 := by simpa using g2); omega
      refine OkO.move rfl rfl ?_
      refine OkO.builtin rfl rfl rfl (bln (by kernel_rfl) (by first | assumption | rfl)) ?_
      refine OkO.bin rfl rfl rfl (bin_gtr _ _) ?_
      refine OkO.pick (b := true) rfl rfl (fun _ => rfl) nofun ?_
      refine OkO.nil ?_
      refine Ok.cond rfl (fun h3 => ?_) (fun h3 => ?_)
      · -- yes h3
        have hw0 : 0 < ws.length := by (have : (0 : Int) < (ws.length : Int) := by simpa using h3); omega
        have hwi : (3 * i + k) % ws.length < ws.length := Nat.mod_lt _ hw0
        obtain ⟨wx, hwxg⟩ : ∃ wx, ws[(3 * i + k) % ws.length]? = some wx := ⟨_, List.getElem?_eq_getElem hwi⟩
        have hwx := hws wx (List.mem_of_getElem? hwxg)
        obtain ⟨wb, wo, wcs, w2, w3w, w4, w5⟩ := hWs.at_ ((3 * i + k) % ws.length) [U16 wx] (by rw [List.getElem?_map, hwxg]; rfl)
        have w3 : (G.get wb).bind AObj.cs = some wcs := by rw [hg.get _ (by omega), hg0]; exact w3w
        have w6 := seg_one w4
        refine Ok.skip ?_
        refine Ok.seq ?_
        refine Ok.block ?_
        refine Ok.region ?_
        refine OkO.move rfl rfl ?_
        refine OkO.move rfl rfl ?_
        refine OkO.move rfl rfl ?_
        refine OkO.bin rfl rfl rfl (bin_mul (by omega) (by omega)) ?_
        refine OkO.move rfl rfl ?_
        refine OkO.bin rfl rfl rfl (bin_add (by omega) (by omega)) ?_
        refine OkO.move rfl rfl ?_
        refine OkO.builtin rfl rfl rfl (bln (by kernel_rfl) (by first | assumption | rfl)) ?_
        refine OkO.bin rfl rfl rfl (bin_rem (by omega) (by omega)) ?_
        refine OkO.index (sz := 1) (n := (3 * i + k) % ws.length) rfl rfl (congrArg (fun z => some (I z)) (by push_cast; rfl)) (by kernel_rfl) (by first | assumption | rfl | exact slAt_slice (by omega)) ?_ -- index ('Go.Operand.tmp', 44) ('Go.Operand.tmp', 51)
        refine OkO.load rfl rfl (lda (n := 1) (by kernel_rfl) (by first | assumption | (simp (disch := first | omega | (simp only [hNw, hPt]; omega)) only [gn0, gn1, gn2, gn3, gn4, gn5, gp0, gno, gpo] <;> first | rfl | assumption | exact gp0 _ _ _ | exact gn0 _ _)) (by first | rfl | assumption)) ?_
        refine OkO.indexArr (len := 3) (sz := 1) (n := k) rfl rfl rfl (by kernel_rfl) (by omega) ?_
        refine OkO.store rfl rfl rfl (stc (n := 1) (ag := false) (by kernel_rfl) (by first | assumption | (simp (disch := first | omega | (simp only [hNw, hPt]; omega)) only [gn0, gn1, gn2, gn3, gn4, gn5, gp0, gno, gpo] <;> first | rfl | assumption | exact gp0 _ _ _ | exact gn0 _ _)) rfl (by first | rfl | assumption) (by first | rfl | exact spl_setU _ _ _ (by first | assumption | omega | (simp; omega)))) ?_
        refine OkO.nil ?_
        refine Ok.region ?_
        refine OkO.move rfl rfl ?_
        refine OkO.bin rfl rfl rfl (bin_add (by omega) (by omega)) ?_
        refine OkO.assign rfl rfl ?_
        refine OkO.nil ?_
        refine ⟨3 - (k + 1), by omega, k + 1, arr.set k wx, rfl, by omega, by simp [hal], upto_set hau hwx k, (fun j hj => by rw [gpo _ _ _ _ (by omega)]; exact hold j hj), (by (try dsimp only); repeat (first | exact hg | exact hG | apply Grow.new | (refine Grow.put ?_ _ (by first | omega | (simp only [hNw, hPt]; omega))))), by simp only [hPt]; omega, (by first | assumption | (simp (disch := first | omega | (simp only [hNw, hPt]; omega)) only [gn0, gn1, gn2, gn3, gn4, gn5, gp0, gno, gpo] <;> first | rfl | assumption | exact gp0 _ _ _ | exact gn0 _ _)), (by first | assumption | (simp (disch := first | omega | (simp only [hNw, hPt]; omega)) only [gn0, gn1, gn2, gn3, gn4, gn5, gp0, gno, gpo] <;> first | rfl | assumption | exact gp0 _ _ _ | exact gn0 _ _)), Has.of (by kernel_rfl), rfl⟩
      · -- no h3
        obtain ⟨a0, a1, a2, hA⟩ := list3 hal
        subst hA
        have hb0 := hau a0 (by simp)
        have hb1 := hau a1 (by simp)
        have hb2 := hau a2 (by simp)
        have hp1 := pick_in (lo := (bedAt cols (fr + i) up).fl) (hi := (bedAt cols (fr + i) up).fh) (w := a0) (by omega)
        have hp2 := pick_in (lo := (bedAt cols (fr + i) up).cl) (hi := (bedAt cols (fr + i) up).ch) (w := a1) (by omega)
        have hp3 := pick_in (lo := (bedAt cols (fr + i) up).wl) (hi := (bedAt cols (fr + i) up).wh) (w := a2) (by omega)
        have e10c : (G.get (G0.next + 1)).bind AObj.cs = some [U16 a0, U16 a1, U16 a2] := e10
        refine Ok.exit ?_
        refine Ok.drawn [(0, true, []), (1, true, []), (2, true, []), (3, true, []), (4, true, []), (6, true, []), (7, true, []), (8, true, []), (9, true, []), (11, true, []), (12, true, []), (13, true, []), (14, true, []), (5, false, [14, 12, 9, 7]), (10, false, [14, 12, 4, 2]), (15, false, [9, 7, 4, 2]), (16, true, []), (17, true, [14, 12, 9, 7, 4, 2]), (18, false, [14, 12, 9, 7, 4, 2]), (19, false, [])] (by kernel_rfl) ?_
        refine OkP.step ?_
        refine OkO.move rfl rfl ?_
        refine OkO.nil ⟨rfl, ?_⟩
        refine OkP.step ?_
        refine OkO.fieldAddr (o := 2) rfl (by kernel_rfl) rfl ?_
        refine OkO.nil ⟨rfl, ?_⟩
        refine OkP.step ?_
        refine OkO.load rfl rfl (ldg (n := 2) (by kernel_rfl) (by first | assumption | (simp (disch := first | omega | (simp only [hNw, hPt]; omega)) only [gn0, gn1, gn2, gn3, gn4, gn5, gp0, gno, gpo] <;> first | rfl | assumption | exact gp0 _ _ _ | exact gn0 _ _)) (by first | rfl | assumption)) ?_
        refine OkO.nil ⟨rfl, ?_⟩
        refine OkP.step ?_
        refine OkO.indexArr (len := 3) (sz := 1) (n := 0) rfl rfl rfl (by kernel_rfl) (by omega) ?_
        refine OkO.nil ⟨rfl, ?_⟩
        refine OkP.step ?_
        refine OkO.load rfl rfl (lda (n := 1) (by kernel_rfl) (by first | assumption | (simp (disch := first | omega | (simp only [hNw, hPt]; omega)) only [gn0, gn1, gn2, gn3, gn4, gn5, gp0, gno, gpo] <;> first | rfl | assumption | exact gp0 _ _ _ | exact gn0 _ _)) (by first | rfl | assumption)) ?_
        refine OkO.nil ⟨rfl, ?_⟩
        refine OkP.step ?_
        refine OkO.fieldAddr (o := 4) rfl (by kernel_rfl) rfl ?_
        refine OkO.nil ⟨rfl, ?_⟩
        refine OkP.step ?_
        refine OkO.load rfl rfl (ldg (n := 2) (by kernel_rfl) (by first | assumption | (simp (disch := first | omega | (simp only [hNw, hPt]; omega)) only [gn0, gn1, gn2, gn3, gn4, gn5, gp0, gno, gpo] <;> first | rfl | assumption | exact gp0 _ _ _ | exact gn0 _ _)) (by first | rfl | assumption)) ?_
        refine OkO.nil ⟨rfl, ?_⟩
        refine OkP.step ?_
        refine OkO.indexArr (len := 3) (sz := 1) (n := 1) rfl rfl rfl (by kernel_rfl) (by omega) ?_
        refine OkO.nil ⟨rfl, ?_⟩
        refine OkP.step ?_
        refine OkO.load rfl rfl (lda (n := 1) (by kernel_rfl) (by first | assumption | (simp (disch := first | omega | (simp only [hNw, hPt]; omega)) only [gn0, gn1, gn2, gn3, gn4, gn5, gp0, gno, gpo] <;> first | rfl | assumption | exact gp0 _ _ _ | exact gn0 _ _)) (by first | rfl | assumption)) ?_
        refine OkO.nil ⟨rfl, ?_⟩
        refine OkP.step ?_
        refine OkO.fieldAddr (o := 6) rfl (by kernel_rfl) rfl ?_
        refine OkO.nil ⟨rfl, ?_⟩
        refine OkP.step ?_
        refine OkO.load rfl rfl (ldg (n := 2) (by kernel_rfl) (by first | assumption | (simp (disch := first | omega | (simp only [hNw, hPt]; omega)) only [gn0, gn1, gn2, gn3, gn4, gn5, gp0, gno, gpo] <;> first | rfl | assumption | exact gp0 _ _ _ | exact gn0 _ _)) (by first | rfl | assumption)) ?_
        refine OkO.nil ⟨rfl, ?_⟩
        refine OkP.step ?_
        refine OkO.indexArr (len := 3) (sz := 1) (n := 2) rfl rfl rfl (by kernel_rfl) (by omega) ?_
        refine OkO.nil ⟨rfl, ?_⟩
        refine OkP.step ?_
        refine OkO.load rfl rfl (lda (n := 1) (by kernel_rfl) (by first | assumption | (simp (disch := first | omega | (simp only [hNw, hPt]; omega)) only [gn0, gn1, gn2, gn3, gn4, gn5, gp0, gno, gpo] <;> first | rfl | assumption | exact gp0 _ _ _ | exact gn0 _ _)) (by first | rfl | assumption)) ?_
        refine OkO.nil ⟨rfl, ?_⟩
        refine OkP.step ?_
        refine OkO.callV rfl rfl rfl rfl rfl (c85 m _ _ a0 _ (by omega) hb0) ?_ -- "sackung/sackunglaw01.pick"
        refine OkO.nil ⟨(sco (sld rfl rfl (lda (n := 1) (by kernel_rfl) (by first | assumption | (simp (disch := first | omega | (simp only [hNw, hPt]; omega)) only [gn0, gn1, gn2, gn3, gn4, gn5, gp0, gno, gpo] <;> first | rfl | assumption | exact gp0 _ _ _ | exact gn0 _ _)) (by first | rfl | assumption)) rfl (eqr _ (by first | rfl | exact lpl (by assumption) | (simp [AV.plain, AV.plains, AV.cells, pc, Bed.c])))) (sco (sld rfl rfl (ldg (n := 2) (by kernel_rfl) (by first | assumption | (simp (disch := first | omega | (simp only [hNw, hPt]; omega)) only [gn0, gn1, gn2, gn3, gn4, gn5, gp0, gno, gpo] <;> first | rfl | assumption | exact gp0 _ _ _ | exact gn0 _ _)) (by first | rfl | assumption)) rfl (eqr _ (by first | rfl | exact lpl (by assumption) | (simp [AV.plain, AV.plains, AV.cells, pc, Bed.c])))) (sco (sld rfl rfl (lda (n := 1) (by kernel_rfl) (by first | assumption | (simp (disch := first | omega | (simp only [hNw, hPt]; omega)) only [gn0, gn1, gn2, gn3, gn4, gn5, gp0, gno, gpo] <;> first | rfl | assumption | exact gp0 _ _ _ | exact gn0 _ _)) (by first | rfl | assumption)) rfl (eqr _ (by first | rfl | exact lpl (by assumption) | (simp [AV.plain, AV.plains, AV.cells, pc, Bed.c])))) (sco (sld rfl rfl (ldg (n := 2) (by kernel_rfl) (by first | assumption | (simp (disch := first | omega | (simp only [hNw, hPt]; omega)) only [gn0, gn1, gn2, gn3, gn4, gn5, gp0, gno, gpo] <;> first | rfl | assumption | exact gp0 _ _ _ | exact gn0 _ _)) (by first | rfl | assumption)) rfl (eqr _ (by first | rfl | exact lpl (by assumption) | (simp [AV.plain, AV.plains, AV.cells, pc, Bed.c])))) rfl)))), ?_⟩
        refine OkP.step ?_
        refine OkO.callV rfl rfl rfl rfl rfl (c85 m _ _ a1 _ (by omega) hb1) ?_ -- "sackung/sackunglaw01.pick"
        refine OkO.nil ⟨(sco (sld rfl rfl (lda (n := 1) (by kernel_rfl) (by first | assumption | (simp (disch := first | omega | (simp only [hNw, hPt]; omega)) only [gn0, gn1, gn2, gn3, gn4, gn5, gp0, gno, gpo] <;> first | rfl | assumption | exact gp0 _ _ _ | exact gn0 _ _)) (by first | rfl | assumption)) rfl (eqr _ (by first | rfl | exact lpl (by assumption) | (simp [AV.plain, AV.plains, AV.cells, pc, Bed.c])))) (sco (sld rfl rfl (ldg (n := 2) (by kernel_rfl) (by first | assumption | (simp (disch := first | omega | (simp only [hNw, hPt]; omega)) only [gn0, gn1, gn2, gn3, gn4, gn5, gp0, gno, gpo] <;> first | rfl | assumption | exact gp0 _ _ _ | exact gn0 _ _)) (by first | rfl | assumption)) rfl (eqr _ (by first | rfl | exact lpl (by assumption) | (simp [AV.plain, AV.plains, AV.cells, pc, Bed.c])))) (sco (sld rfl rfl (lda (n := 1) (by kernel_rfl) (by first | assumption | (simp (disch := first | omega | (simp only [hNw, hPt]; omega)) only [gn0, gn1, gn2, gn3, gn4, gn5, gp0, gno, gpo] <;> first | rfl | assumption | exact gp0 _ _ _ | exact gn0 _ _)) (by first | rfl | assumption)) rfl (eqr _ (by first | rfl | exact lpl (by assumption) | (simp [AV.plain, AV.plains, AV.cells, pc, Bed.c])))) (sco (sld rfl rfl (ldg (n := 2) (by kernel_rfl) (by first | assumption | (simp (disch := first | omega | (simp only [hNw, hPt]; omega)) only [gn0, gn1, gn2, gn3, gn4, gn5, gp0, gno, gpo] <;> first | rfl | assumption | exact gp0 _ _ _ | exact gn0 _ _)) (by first | rfl | assumption)) rfl (eqr _ (by first | rfl | exact lpl (by assumption) | (simp [AV.plain, AV.plains, AV.cells, pc, Bed.c])))) rfl)))), ?_⟩
        refine OkP.step ?_
        refine OkO.callV rfl rfl rfl rfl rfl (c85 m _ _ a2 _ (by omega) hb2) ?_ -- "sackung/sackunglaw01.pick"
        refine OkO.nil ⟨(sco (sld rfl rfl (lda (n := 1) (by kernel_rfl) (by first | assumption | (simp (disch := first | omega | (simp only [hNw, hPt]; omega)) only [gn0, gn1, gn2, gn3, gn4, gn5, gp0, gno, gpo] <;> first | rfl | assumption | exact gp0 _ _ _ | exact gn0 _ _)) (by first | rfl | assumption)) rfl (eqr _ (by first | rfl | exact lpl (by assumption) | (simp [AV.plain, AV.plains, AV.cells, pc, Bed.c])))) (sco (sld rfl rfl (ldg (n := 2) (by kernel_rfl) (by first | assumption | (simp (disch := first | omega | (simp only [hNw, hPt]; omega)) only [gn0, gn1, gn2, gn3, gn4, gn5, gp0, gno, gpo] <;> first | rfl | assumption | exact gp0 _ _ _ | exact gn0 _ _)) (by first | rfl | assumption)) rfl (eqr _ (by first | rfl | exact lpl (by assumption) | (simp [AV.plain, AV.plains, AV.cells, pc, Bed.c])))) (sco (sld rfl rfl (lda (n := 1) (by kernel_rfl) (by first | assumption | (simp (disch := first | omega | (simp only [hNw, hPt]; omega)) only [gn0, gn1, gn2, gn3, gn4, gn5, gp0, gno, gpo] <;> first | rfl | assumption | exact gp0 _ _ _ | exact gn0 _ _)) (by first | rfl | assumption)) rfl (eqr _ (by first | rfl | exact lpl (by assumption) | (simp [AV.plain, AV.plains, AV.cells, pc, Bed.c])))) (sco (sld rfl rfl (ldg (n := 2) (by kernel_rfl) (by first | assumption | (simp (disch := first | omega | (simp only [hNw, hPt]; omega)) only [gn0, gn1, gn2, gn3, gn4, gn5, gp0, gno, gpo] <;> first | rfl | assumption | exact gp0 _ _ _ | exact gn0 _ _)) (by first | rfl | assumption)) rfl (eqr _ (by first | rfl | exact lpl (by assumption) | (simp [AV.plain, AV.plains, AV.cells, pc, Bed.c])))) rfl)))), ?_⟩
        refine OkP.step ?_
        refine OkO.build (z := [.int .i64 0, .int .i64 0, .int .i64 0]) (pl := [(0, 1), (1, 1), (2, 1)]) rfl (by kernel_rfl) rfl rfl ?_
        refine OkO.nil ⟨rfl, ?_⟩
        refine OkP.step ?_
        refine OkO.buildSlice (el := 112) (sz := 3) (z := [.int .i64 0, .int .i64 0, .int .i64 0]) rfl (by kernel_rfl) (by decide) rfl rfl ?_
        refine OkO.nil ⟨(sco (sld rfl rfl (lda (n := 1) (by kernel_rfl) (by first | assumption | (simp (disch := first | omega | (simp only [hNw, hPt]; omega)) only [gn0, gn1, gn2, gn3, gn4, gn5, gp0, gno, gpo] <;> first | rfl | assumption | exact gp0 _ _ _ | exact gn0 _ _)) (by first | rfl | assumption)) rfl (eqr _ (by first | rfl | exact lpl (by assumption) | (simp [AV.plain, AV.plains, AV.cells, pc, Bed.c])))) (sco (sld rfl rfl (ldg (n := 2) (by kernel_rfl) (by first | assumption | (simp (disch := first | omega | (simp only [hNw, hPt]; omega)) only [gn0, gn1, gn2, gn3, gn4, gn5, gp0, gno, gpo] <;> first | rfl | assumption | exact gp0 _ _ _ | exact gn0 _ _)) (by first | rfl | assumption)) rfl (eqr _ (by first | rfl | exact lpl (by assumption) | (simp [AV.plain, AV.plains, AV.cells, pc, Bed.c])))) (sco (sld rfl rfl (lda (n := 1) (by kernel_rfl) (by first | assumption | (simp (disch := first | omega | (simp only [hNw, hPt]; omega)) only [gn0, gn1, gn2, gn3, gn4, gn5, gp0, gno, gpo] <;> first | rfl | assumption | exact gp0 _ _ _ | exact gn0 _ _)) (by first | rfl | assumption)) rfl (eqr _ (by first | rfl | exact lpl (by assumption) | (simp [AV.plain, AV.plains, AV.cells, pc, Bed.c])))) (sco (sld rfl rfl (ldg (n := 2) (by kernel_rfl) (by first | assumption | (simp (disch := first | omega | (simp only [hNw, hPt]; omega)) only [gn0, gn1, gn2, gn3, gn4, gn5, gp0, gno, gpo] <;> first | rfl | assumption | exact gp0 _ _ _ | exact gn0 _ _)) (by first | rfl | assumption)) rfl (eqr _ (by first | rfl | exact lpl (by assumption) | (simp [AV.plain, AV.plains, AV.cells, pc, Bed.c])))) (sco (sld rfl rfl (lda (n := 1) (by kernel_rfl) (by first | assumption | (simp (disch := first | omega | (simp only [hNw, hPt]; omega)) only [gn0, gn1, gn2, gn3, gn4, gn5, gp0, gno, gpo] <;> first | rfl | assumption | exact gp0 _ _ _ | exact gn0 _ _)) (by first | rfl | assumption)) rfl (eqr _ (by first | rfl | exact lpl (by assumption) | (simp [AV.plain, AV.plains, AV.cells, pc, Bed.c])))) (sco (sld rfl rfl (ldg (n := 2) (by kernel_rfl) (by first | assumption | (simp (disch := first | omega | (simp only [hNw, hPt]; omega)) only [gn0, gn1, gn2, gn3, gn4, gn5, gp0, gno, gpo] <;> first | rfl | assumption | exact gp0 _ _ _ | exact gn0 _ _)) (by first | rfl | assumption)) rfl (eqr _ (by first | rfl | exact lpl (by assumption) | (simp [AV.plain, AV.plains, AV.cells, pc, Bed.c])))) rfl)))))), ?_⟩
        refine OkP.step ?_
        refine OkO.builtinE rfl rfl rfl (Mine.app2 (W := W) (k0 := W.next + 2) (sz := 3) (by_ := 24) (e := 112) (n := 1) (new := rl (pickI (bedAt cols (fr + i) up).fl (bedAt cols (fr + i) up).fh a0, pickI (bedAt cols (fr + i) up).cl (bedAt cols (fr + i) up).ch a1, pickI (bedAt cols (fr + i) up).wl (bedAt cols (fr + i) up).wh a2)) (Mine.to (G := G) (Mine.to (G := G0) hm ⟨by omega, fun n h => hold n h⟩) (Grow.toNew _ _)) (by (try dsimp only); repeat (first | exact hg | exact hG | apply Grow.new | (refine Grow.put ?_ _ (by first | omega | (simp only [hNw, hPt]; omega))))) (by omega) (by simp only [hNw, hPt]; omega) (by kernel_rfl) (by kernel_rfl) (elems_new (n := 1) (sz := 3) rfl) rfl rfl (by rw [flat_len _ 3 (rl_len R), List.length_map]; omega) (by omega) (by omega) rfl) ?_
        rintro v2 G2 ⟨q1, q2, q4, q5, q6, q7⟩
        simp only [hNw, hPt] at q6
        have z0 : G2.get W.next = some (.cells [cv, I least] 24) := by rw [q4.get _ (by omega) (by simp only [hNw, hPt]; omega), gno _ _ _ (by omega), hold _ (by omega)]; exact f0
        have z1 : G2.get (W.next + 1) = some (.cells [I (fr : Int), bv] 27) := by rw [q4.get _ (by omega) (by simp only [hNw, hPt]; omega), gno _ _ _ (by omega), hold _ (by omega)]; exact f1
        have hne : ∀ j m, G0.next ≤ j → rv ≠ .opn j m := fun j m9 hj h9 => by (have := hm.lt h9); omega
        have y9 : (G2.get G0.next).bind AObj.cs = some (bedAt cols (fr + i) up).c := by rw [q5 _ (by simp only [hNw, hPt]; omega) (fun m9 => hne _ m9 (by omega)), gno _ _ _ (by omega)]; exact e9
        have y10 : (G2.get (G0.next + 1)).bind AObj.cs = some [U16 a0, U16 a1, U16 a2] := by rw [q5 _ (by simp only [hNw, hPt]; omega) (fun m9 => hne _ m9 (by omega)), gno _ _ _ (by omega)]; exact e10c
        refine OkO.nil ⟨(sco (sld rfl rfl (lda (n := 1) (by kernel_rfl) (by first | assumption | (simp (disch := first | omega | (simp only [hNw, hPt]; omega)) only [gn0, gn1, gn2, gn3, gn4, gn5, gp0, gno, gpo] <;> first | rfl | assumption | exact gp0 _ _ _ | exact gn0 _ _)) (by first | rfl | assumption)) rfl (eqr _ (by first | rfl | exact lpl (by assumption) | (simp [AV.plain, AV.plains, AV.cells, pc, Bed.c])))) (sco (sld rfl rfl (ldg (n := 2) (by kernel_rfl) (by first | assumption | (simp (disch := first | omega | (simp only [hNw, hPt]; omega)) only [gn0, gn1, gn2, gn3, gn4, gn5, gp0, gno, gpo] <;> first | rfl | assumption | exact gp0 _ _ _ | exact gn0 _ _)) (by first | rfl | assumption)) rfl (eqr _ (by first | rfl | exact lpl (by assumption) | (simp [AV.plain, AV.plains, AV.cells, pc, Bed.c])))) (sco (sld rfl rfl (lda (n := 1) (by kernel_rfl) (by first | assumption | (simp (disch := first | omega | (simp only [hNw, hPt]; omega)) only [gn0, gn1, gn2, gn3, gn4, gn5, gp0, gno, gpo] <;> first | rfl | assumption | exact gp0 _ _ _ | exact gn0 _ _)) (by first | rfl | assumption)) rfl (eqr _ (by first | rfl | exact lpl (by assumption) | (simp [AV.plain, AV.plains, AV.cells, pc, Bed.c])))) (sco (sld rfl rfl (ldg (n := 2) (by kernel_rfl) (by first | assumption | (simp (disch := first | omega | (simp only [hNw, hPt]; omega)) only [gn0, gn1, gn2, gn3, gn4, gn5, gp0, gno, gpo] <;> first | rfl | assumption | exact gp0 _ _ _ | exact gn0 _ _)) (by first | rfl | assumption)) rfl (eqr _ (by first | rfl | exact lpl (by assumption) | (simp [AV.plain, AV.plains, AV.cells, pc, Bed.c])))) (sco (sld rfl rfl (lda (n := 1) (by kernel_rfl) (by first | assumption | (simp (disch := first | omega | (simp only [hNw, hPt]; omega)) only [gn0, gn1, gn2, gn3, gn4, gn5, gp0, gno, gpo] <;> first | rfl | assumption | exact gp0 _ _ _ | exact gn0 _ _)) (by first | rfl | assumption)) rfl (eqr _ (by first | rfl | exact lpl (by assumption) | (simp [AV.plain, AV.plains, AV.cells, pc, Bed.c])))) (sco (sld rfl rfl (ldg (n := 2) (by kernel_rfl) (by first | assumption | (simp (disch := first | omega | (simp only [hNw, hPt]; omega)) only [gn0, gn1, gn2, gn3, gn4, gn5, gp0, gno, gpo] <;> first | rfl | assumption | exact gp0 _ _ _ | exact gn0 _ _)) (by first | rfl | assumption)) rfl (eqr _ (by first | rfl | exact lpl (by assumption) | (simp [AV.plain, AV.plains, AV.cells, pc, Bed.c])))) rfl)))))), ?_⟩
        refine OkP.step ?_
        refine OkO.assign rfl rfl ?_
        refine OkO.nil ⟨rfl, ?_⟩
        refine OkP.nil ?_
        refine Ok.region ?_
        refine OkO.move rfl rfl ?_
        refine OkO.bin rfl rfl rfl (bin_add (by omega) (by omega)) ?_
        refine OkO.assign rfl rfl ?_
        refine OkO.nil ?_
        refine ⟨us.length - (i + 1), by omega, i + 1, v2, R ++ [(pickI (bedAt cols (fr + i) up).fl (bedAt cols (fr + i) up).fh a0, pickI (bedAt cols (fr + i) up).cl (bedAt cols (fr + i) up).ch a1, pickI (bedAt cols (fr + i) up).wl (bedAt cols (fr + i) up).wh a2)], rfl, by omega, by simp; omega, ?_, by rw [rl_snoc]; exact q1, q2, (by (try dsimp only); omega), z0, z1, Has.of (by kernel_rfl), rfl⟩
        intro j r hj
        rcases Nat.lt_or_ge j R.length with h9 | h9
        · rw [List.getElem?_append_left h9] at hj; exact hfit j r hj
        · rw [List.getElem?_append_right h9] at hj
          have hj0 : j - R.length = 0 := by (have := (List.getElem?_eq_some_iff.1 hj).1); simp at this; omega
          rw [hj0] at hj
          simp at hj
          subst hj
          refine ⟨up, by rw [show j = i from by omega]; exact hupg, ?_⟩
          rw [show j = i from by omega]
          simp only [fit1, inB, Bool.and_eq_true, decide_eq_true_eq]
          exact ⟨⟨hp1, hp2⟩, hp3⟩
    · -- false g2
      obtain ⟨a0, a1, a2, hA⟩ := list3 hal
      subst hA
      have hb0 := hau a0 (by simp)
      have hb1 := hau a1 (by simp)
      have hb2 := hau a2 (by simp)
      have hp1 := pick_in (lo := (bedAt cols (fr + i) up).fl) (hi := (bedAt cols (fr + i) up).fh) (w := a0) (by omega)
      have hp2 := pick_in (lo := (bedAt cols (fr + i) up).cl) (hi := (bedAt cols (fr + i) up).ch) (w := a1) (by omega)
      have hp3 := pick_in (lo := (bedAt cols (fr + i) up).wl) (hi := (bedAt cols (fr + i) up).wh) (w := a2) (by omega)
      have e10c : (G.get (G0.next + 1)).bind AObj.cs = some [U16 a0, U16 a1, U16 a2] := e10
      refine OkO.skip rfl ?_
      refine OkO.skip rfl ?_
      refine OkO.skip rfl ?_
      refine OkO.pick (b := false) rfl rfl nofun (fun _ => rfl) ?_
      refine OkO.nil ?_
      refine Ok.condF rfl ?_
      refine Ok.exit ?_
      refine Ok.drawn [(0, true, []), (1, true, []), (2, true, []), (3, true, []), (4, true, []), (6, true, []), (7, true, []), (8, true, []), (9, true, []), (11, true, []), (12, true, []), (13, true, []), (14, true, []), (5, false, [14, 12, 9, 7]), (10, false, [14, 12, 4, 2]), (15, false, [9, 7, 4, 2]), (16, true, []), (17, true, [14, 12, 9, 7, 4, 2]), (18, false, [14, 12, 9, 7, 4, 2]), (19, false, [])] (by kernel_rfl) ?_
      refine OkP.step ?_
      refine OkO.move rfl rfl ?_
      refine OkO.nil ⟨rfl, ?_⟩
      refine OkP.step ?_
      refine OkO.fieldAddr (o := 2) rfl (by kernel_rfl) rfl ?_
      refine OkO.nil ⟨rfl, ?_⟩
      refine OkP.step ?_
      refine OkO.load rfl rfl (ldg (n := 2) (by kernel_rfl) (by first | assumption | (simp (disch := first | omega | (simp only [hNw, hPt]; omega)) only [gn0, gn1, gn2, gn3, gn4, gn5, gp0, gno, gpo] <;> first | rfl | assumption | exact gp0 _ _ _ | exact gn0 _ _)) (by first | rfl | assumption)) ?_
      refine OkO.nil ⟨rfl, ?_⟩
      refine OkP.step ?_
      refine OkO.indexArr (len := 3) (sz := 1) (n := 0) rfl rfl rfl (by kernel_rfl) (by omega) ?_
      refine OkO.nil ⟨rfl, ?_⟩
      refine OkP.step ?_
      refine OkO.load rfl rfl (lda (n := 1) (by kernel_rfl) (by first | assumption | (simp (disch := first | omega | (simp only [hNw, hPt]; omega)) only [gn0, gn1, gn2, gn3, gn4, gn5, gp0, gno, gpo] <;> first | rfl | assumption | exact gp0 _ _ _ | exact gn0 _ _)) (by first | rfl | assumption)) ?_
      refine OkO.nil ⟨rfl, ?_⟩
      refine OkP.step ?_
      refine OkO.fieldAddr (o := 4) rfl (by kernel_rfl) rfl ?_
      refine OkO.nil ⟨rfl, ?_⟩
      refine OkP.step ?_
      refine OkO.load rfl rfl (ldg (n := 2) (by kernel_rfl) (by first | assumption | (simp (disch := first | omega | (simp only [hNw, hPt]; omega)) only [gn0, gn1, gn2, gn3, gn4, gn5, gp0, gno, gpo] <;> first | rfl | assumption | exact gp0 _ _ _ | exact gn0 _ _)) (by first | rfl | assumption)) ?_
      refine OkO.nil ⟨rfl, ?_⟩
      refine OkP.step ?_
      refine OkO.indexArr (len := 3) (sz := 1) (n := 1) rfl rfl rfl (by kernel_rfl) (by omega) ?_
      refine OkO.nil ⟨rfl, ?_⟩
      refine OkP.step ?_
      refine OkO.load rfl rfl (lda (n := 1) (by kernel_rfl) (by first | assumption | (simp (disch := first | omega | (simp only [hNw, hPt]; omega)) only [gn0, gn1, gn2, gn3, gn4, gn5, gp0, gno, gpo] <;> first | rfl | assumption | exact gp0 _ _ _ | exact gn0 _ _)) (by first | rfl | assumption)) ?_
      refine OkO.nil ⟨rfl, ?_⟩
      refine OkP.step ?_
      refine OkO.fieldAddr (o := 6) rfl (by kernel_rfl) rfl ?_
      refine OkO.nil ⟨rfl, ?_⟩
      refine OkP.step ?_
      refine OkO.load rfl rfl (ldg (n := 2) (by kernel_rfl) (by first | assumption | (simp (disch := first | omega | (simp only [hNw, hPt]; omega)) only [gn0, gn1, gn2, gn3, gn4, gn5, gp0, gno, gpo] <;> first | rfl | assumption | exact gp0 _ _ _ | exact gn0 _ _)) (by first | rfl | assumption)) ?_
      refine OkO.nil ⟨rfl, ?_⟩
      refine OkP.step ?_
      refine OkO.indexArr (len := 3) (sz := 1) (n := 2) rfl rfl rfl (by kernel_rfl) (by omega) ?_
      refine OkO.nil ⟨rfl, ?_⟩
      refine OkP.step ?_
      refine OkO.load rfl rfl (lda (n := 1) (by kernel_rfl) (by first | assumption | (simp (disch := first | omega | (simp only [hNw, hPt]; omega)) only [gn0, gn1, gn2, gn3, gn4, gn5, gp0, gno, gpo] <;> first | rfl | assumption | exact gp0 _ _ _ | exact gn0 _ _)) (by first | rfl | assumption)) ?_
      refine OkO.nil ⟨rfl, ?_⟩
      refine OkP.step ?_
      refine OkO.callV rfl rfl rfl rfl rfl (c85 m _ _ a0 _ (by omega) hb0) ?_ -- "sackung/sackunglaw01.pick"
      refine OkO.nil ⟨(sco (sld rfl rfl (lda (n := 1) (by kernel_rfl) (by first | assumption | (simp (disch := first | omega | (simp only [hNw, hPt]; omega)) only [gn0, gn1, gn2, gn3, gn4, gn5, gp0, gno, gpo] <;> first | rfl | assumption | exact gp0 _ _ _ | exact gn0 _ _)) (by first | rfl | assumption)) rfl (eqr _ (by first | rfl | exact lpl (by assumption) | (simp [AV.plain, AV.plains, AV.cells, pc, Bed.c])))) (sco (sld rfl rfl (ldg (n := 2) (by kernel_rfl) (by first | assumption | (simp (disch := first | omega | (simp only [hNw, hPt]; omega)) only [gn0, gn1, gn2, gn3, gn4, gn5, gp0, gno, gpo] <;> first | rfl | assumption | exact gp0 _ _ _ | exact gn0 _ _)) (by first | rfl | assumption)) rfl (eqr _ (by first | rfl | exact lpl (by assumption) | (simp [AV.plain, AV.plains, AV.cells, pc, Bed.c])))) (sco (sld rfl rfl (lda (n := 1) (by kernel_rfl) (by first | assumption | (simp (disch := first | omega | (simp only [hNw, hPt]; omega)) only [gn0, gn1, gn2, gn3, gn4, gn5, gp0, gno, gpo] <;> first | rfl | assumption | exact gp0 _ _ _ | exact gn0 _ _)) (by first | rfl | assumption)) rfl (eqr _ (by first | rfl | exact lpl (by assumption) | (simp [AV.plain, AV.plains, AV.cells, pc, Bed.c])))) (sco (sld rfl rfl (ldg (n := 2) (by kernel_rfl) (by first | assumption | (simp (disch := first | omega | (simp only [hNw, hPt]; omega)) only [gn0, gn1, gn2, gn3, gn4, gn5, gp0, gno, gpo] <;> first | rfl | assumption | exact gp0 _ _ _ | exact gn0 _ _)) (by first | rfl | assumption)) rfl (eqr _ (by first | rfl | exact lpl (by assumption) | (simp [AV.plain, AV.plains, AV.cells, pc, Bed.c])))) rfl)))), ?_⟩
      refine OkP.step ?_
      refine OkO.callV rfl rfl rfl rfl rfl (c85 m _ _ a1 _ (by omega) hb1) ?_ -- "sackung/sackunglaw01.pick"
      refine OkO.nil ⟨(sco (sld rfl rfl (lda (n := 1) (by kernel_rfl) (by first | assumption | (simp (disch := first | omega | (simp only [hNw, hPt]; omega)) only [gn0, gn1, gn2, gn3, gn4, gn5, gp0, gno, gpo] <;> first | rfl | assumption | exact gp0 _ _ _ | exact gn0 _ _)) (by first | rfl | assumption)) rfl (eqr _ (by first | rfl | exact lpl (by assumption) | (simp [AV.plain, AV.plains, AV.cells, pc, Bed.c])))) (sco (sld rfl rfl (ldg (n := 2) (by kernel_rfl) (by first | assumption | (simp (disch := first | omega | (simp only [hNw, hPt]; omega)) only [gn0, gn1, gn2, gn3, gn4, gn5, gp0, gno, gpo] <;> first | rfl | assumption | exact gp0 _ _ _ | exact gn0 _ _)) (by first | rfl | assumption)) rfl (eqr _ (by first | rfl | exact lpl (by assumption) | (simp [AV.plain, AV.plains, AV.cells, pc, Bed.c])))) (sco (sld rfl rfl (lda (n := 1) (by kernel_rfl) (by first | assumption | (simp (disch := first | omega | (simp only [hNw, hPt]; omega)) only [gn0, gn1, gn2, gn3, gn4, gn5, gp0, gno, gpo] <;> first | rfl | assumption | exact gp0 _ _ _ | exact gn0 _ _)) (by first | rfl | assumption)) rfl (eqr _ (by first | rfl | exact lpl (by assumption) | (simp [AV.plain, AV.plains, AV.cells, pc, Bed.c])))) (sco (sld rfl rfl (ldg (n := 2) (by kernel_rfl) (by first | assumption | (simp (disch := first | omega | (simp only [hNw, hPt]; omega)) only [gn0, gn1, gn2, gn3, gn4, gn5, gp0, gno, gpo] <;> first | rfl | assumption | exact gp0 _ _ _ | exact gn0 _ _)) (by first | rfl | assumption)) rfl (eqr _ (by first | rfl | exact lpl (by assumption) | (simp [AV.plain, AV.plains, AV.cells, pc, Bed.c])))) rfl)))), ?_⟩
      refine OkP.step ?_
      refine OkO.callV rfl rfl rfl rfl rfl (c85 m _ _ a2 _ (by omega) hb2) ?_ -- "sackung/sackunglaw01.pick"
      refine OkO.nil ⟨(sco (sld rfl rfl (lda (n := 1) (by kernel_rfl) (by first | assumption | (simp (disch := first | omega | (simp only [hNw, hPt]; omega)) only [gn0, gn1, gn2, gn3, gn4, gn5, gp0, gno, gpo] <;> first | rfl | assumption | exact gp0 _ _ _ | exact gn0 _ _)) (by first | rfl | assumption)) rfl (eqr _ (by first | rfl | exact lpl (by assumption) | (simp [AV.plain, AV.plains, AV.cells, pc, Bed.c])))) (sco (sld rfl rfl (ldg (n := 2) (by kernel_rfl) (by first | assumption | (simp (disch := first | omega | (simp only [hNw, hPt]; omega)) only [gn0, gn1, gn2, gn3, gn4, gn5, gp0, gno, gpo] <;> first | rfl | assumption | exact gp0 _ _ _ | exact gn0 _ _)) (by first | rfl | assumption)) rfl (eqr _ (by first | rfl | exact lpl (by assumption) | (simp [AV.plain, AV.plains, AV.cells, pc, Bed.c])))) (sco (sld rfl rfl (lda (n := 1) (by kernel_rfl) (by first | assumption | (simp (disch := first | omega | (simp only [hNw, hPt]; omega)) only [gn0, gn1, gn2, gn3, gn4, gn5, gp0, gno, gpo] <;> first | rfl | assumption | exact gp0 _ _ _ | exact gn0 _ _)) (by first | rfl | assumption)) rfl (eqr _ (by first | rfl | exact lpl (by assumption) | (simp [AV.plain, AV.plains, AV.cells, pc, Bed.c])))) (sco (sld rfl rfl (ldg (n := 2) (by kernel_rfl) (by first | assumption | (simp (disch := first | omega | (simp only [hNw, hPt]; omega)) only [gn0, gn1, gn2, gn3, gn4, gn5, gp0, gno, gpo] <;> first | rfl | assumption | exact gp0 _ _ _ | exact gn0 _ _)) (by first | rfl | assumption)) rfl (eqr _ (by first | rfl | exact lpl (by assumption) | (simp [AV.plain, AV.plains, AV.cells, pc, Bed.c])))) rfl)))), ?_⟩
      refine OkP.step ?_
      refine OkO.build (z := [.int .i64 0, .int .i64 0, .int .i64 0]) (pl := [(0, 1), (1, 1), (2, 1)]) rfl (by kernel_rfl) rfl rfl ?_
      refine OkO.nil ⟨rfl, ?_⟩
      refine OkP.step ?_
      refine OkO.buildSlice (el := 112) (sz := 3) (z := [.int .i64 0, .int .i64 0, .int .i64 0]) rfl (by kernel_rfl) (by decide) rfl rfl ?_
      refine OkO.nil ⟨(sco (sld rfl rfl (lda (n := 1) (by kernel_rfl) (by first | assumption | (simp (disch := first | omega | (simp only [hNw, hPt]; omega)) only [gn0, gn1, gn2, gn3, gn4, gn5, gp0, gno, gpo] <;> first | rfl | assumption | exact gp0 _ _ _ | exact gn0 _ _)) (by first | rfl | assumption)) rfl (eqr _ (by first | rfl | exact lpl (by assumption) | (simp [AV.plain, AV.plains, AV.cells, pc, Bed.c])))) (sco (sld rfl rfl (ldg (n := 2) (by kernel_rfl) (by first | assumption | (simp (disch := first | omega | (simp only [hNw, hPt]; omega)) only [gn0, gn1, gn2, gn3, gn4, gn5, gp0, gno, gpo] <;> first | rfl | assumption | exact gp0 _ _ _ | exact gn0 _ _)) (by first | rfl | assumption)) rfl (eqr _ (by first | rfl | exact lpl (by assumption) | (simp [AV.plain, AV.plains, AV.cells, pc, Bed.c])))) (sco (sld rfl rfl (lda (n := 1) (by kernel_rfl) (by first | assumption | (simp (disch := first | omega | (simp only [hNw, hPt]; omega)) only [gn0, gn1, gn2, gn3, gn4, gn5, gp0, gno, gpo] <;> first | rfl | assumption | exact gp0 _ _ _ | exact gn0 _ _)) (by first | rfl | assumption)) rfl (eqr _ (by first | rfl | exact lpl (by assumption) | (simp [AV.plain, AV.plains, AV.cells, pc, Bed.c])))) (sco (sld rfl rfl (ldg (n := 2) (by kernel_rfl) (by first | assumption | (simp (disch := first | omega | (simp only [hNw, hPt]; omega)) only [gn0, gn1, gn2, gn3, gn4, gn5, gp0, gno, gpo] <;> first | rfl | assumption | exact gp0 _ _ _ | exact gn0 _ _)) (by first | rfl | assumption)) rfl (eqr _ (by first | rfl | exact lpl (by assumption) | (simp [AV.plain, AV.plains, AV.cells, pc, Bed.c])))) (sco (sld rfl rfl (lda (n := 1) (by kernel_rfl) (by first | assumption | (simp (disch := first | omega | (simp only [hNw, hPt]; omega)) only [gn0, gn1, gn2, gn3, gn4, gn5, gp0, gno, gpo] <;> first | rfl | assumption | exact gp0 _ _ _ | exact gn0 _ _)) (by first | rfl | assumption)) rfl (eqr _ (by first | rfl | exact lpl (by assumption) | (simp [AV.plain, AV.plains, AV.cells, pc, Bed.c])))) (sco (sld rfl rfl (ldg (n := 2) (by kernel_rfl) (by first | assumption | (simp (disch := first | omega | (simp only [hNw, hPt]; omega)) only [gn0, gn1, gn2, gn3, gn4, gn5, gp0, gno, gpo] <;> first | rfl | assumption | exact gp0 _ _ _ | exact gn0 _ _)) (by first | rfl | assumption)) rfl (eqr _ (by first | rfl | exact lpl (by assumption) | (simp [AV.plain, AV.plains, AV.cells, pc, Bed.c])))) rfl)))))), ?_⟩
      refine OkP.step ?_
      refine OkO.builtinE rfl rfl rfl (Mine.app2 (W := W) (k0 := W.next + 2) (sz := 3) (by_ := 24) (e := 112) (n := 1) (new := rl (pickI (bedAt cols (fr + i) up).fl (bedAt cols (fr + i) up).fh a0, pickI (bedAt cols (fr + i) up).cl (bedAt cols (fr + i) up).ch a1, pickI (bedAt cols (fr + i) up).wl (bedAt cols (fr + i) up).wh a2)) (Mine.to (G := G) (Mine.to (G := G0) hm ⟨by omega, fun n h => hold n h⟩) (Grow.toNew _ _)) (by (try dsimp only); repeat (first | exact hg | exact hG | apply Grow.new | (refine Grow.put ?_ _ (by first | omega | (simp only [hNw, hPt]; omega))))) (by omega) (by simp only [hNw, hPt]; omega) (by kernel_rfl) (by kernel_rfl) (elems_new (n := 1) (sz := 3) rfl) rfl rfl (by rw [flat_len _ 3 (rl_len R), List.length_map]; omega) (by omega) (by omega) rfl) ?_
      rintro v2 G2 ⟨q1, q2, q4, q5, q6, q7⟩
      simp only [hNw, hPt] at q6
      have z0 : G2.get W.next = some (.cells [cv, I least] 24) := by rw [q4.get _ (by omega) (by simp only [hNw, hPt]; omega), gno _ _ _ (by omega), hold _ (by omega)]; exact f0
      have z1 : G2.get (W.next + 1) = some (.cells [I (fr : Int), bv] 27) := by rw [q4.get _ (by omega) (by simp only [hNw, hPt]; omega), gno _ _ _ (by omega), hold _ (by omega)]; exact f1
      have hne : ∀ j m, G0.next ≤ j → rv ≠ .opn j m := fun j m9 hj h9 => by (have := hm.lt h9); omega
      have y9 : (G2.get G0.next).bind AObj.cs = some (bedAt cols (fr + i) up).c := by rw [q5 _ (by simp only [hNw, hPt]; omega) (fun m9 => hne _ m9 (by omega)), gno _ _ _ (by omega)]; exact e9
      have y10 : (G2.get (G0.next + 1)).bind AObj.cs = some [U16 a0, U16 a1, U16 a2] := by rw [q5 _ (by simp only [hNw, hPt]; omega) (fun m9 => hne _ m9 (by omega)), gno _ _ _ (by omega)]; exact e10c
      refine OkO.nil ⟨(sco (sld rfl rfl (lda (n := 1) (by kernel_rfl) (by first | assumption | (simp (disch := first | omega | (simp only [hNw, hPt]; omega)) only [gn0, gn1, gn2, gn3, gn4, gn5, gp0, gno, gpo] <;> first | rfl | assumption | exact gp0 _ _ _ | exact gn0 _ _)) (by first | rfl | assumption)) rfl (eqr _ (by first | rfl | exact lpl (by assumption) | (simp [AV.plain, AV.plains, AV.cells, pc, Bed.c])))) (sco (sld rfl rfl (ldg (n := 2) (by kernel_rfl) (by first | assumption | (simp (disch := first | omega | (simp only [hNw, hPt]; omega)) only [gn0, gn1, gn2, gn3, gn4, gn5, gp0, gno, gpo] <;> first | rfl | assumption | exact gp0 _ _ _ | exact gn0 _ _)) (by first | rfl | assumption)) rfl (eqr _ (by first | rfl | exact lpl (by assumption) | (simp [AV.plain, AV.plains, AV.cells, pc, Bed.c])))) (sco (sld rfl rfl (lda (n := 1) (by kernel_rfl) (by first | assumption | (simp (disch := first | omega | (simp only [hNw, hPt]; omega)) only [gn0, gn1, gn2, gn3, gn4, gn5, gp0, gno, gpo] <;> first | rfl | assumption | exact gp0 _ _ _ | exact gn0 _ _)) (by first | rfl | assumption)) rfl (eqr _ (by first | rfl | exact lpl (by assumption) | (simp [AV.plain, AV.plains, AV.cells, pc, Bed.c])))) (sco (sld rfl rfl (ldg (n := 2) (by kernel_rfl) (by first | assumption | (simp (disch := first | omega | (simp only [hNw, hPt]; omega)) only [gn0, gn1, gn2, gn3, gn4, gn5, gp0, gno, gpo] <;> first | rfl | assumption | exact gp0 _ _ _ | exact gn0 _ _)) (by first | rfl | assumption)) rfl (eqr _ (by first | rfl | exact lpl (by assumption) | (simp [AV.plain, AV.plains, AV.cells, pc, Bed.c])))) (sco (sld rfl rfl (lda (n := 1) (by kernel_rfl) (by first | assumption | (simp (disch := first | omega | (simp only [hNw, hPt]; omega)) only [gn0, gn1, gn2, gn3, gn4, gn5, gp0, gno, gpo] <;> first | rfl | assumption | exact gp0 _ _ _ | exact gn0 _ _)) (by first | rfl | assumption)) rfl (eqr _ (by first | rfl | exact lpl (by assumption) | (simp [AV.plain, AV.plains, AV.cells, pc, Bed.c])))) (sco (sld rfl rfl (ldg (n := 2) (by kernel_rfl) (by first | assumption | (simp (disch := first | omega | (simp only [hNw, hPt]; omega)) only [gn0, gn1, gn2, gn3, gn4, gn5, gp0, gno, gpo] <;> first | rfl | assumption | exact gp0 _ _ _ | exact gn0 _ _)) (by first | rfl | assumption)) rfl (eqr _ (by first | rfl | exact lpl (by assumption) | (simp [AV.plain, AV.plains, AV.cells, pc, Bed.c])))) rfl)))))), ?_⟩
      refine OkP.step ?_
      refine OkO.assign rfl rfl ?_
      refine OkO.nil ⟨rfl, ?_⟩
      refine OkP.nil ?_
      refine Ok.region ?_
      refine OkO.move rfl rfl ?_
      refine OkO.bin rfl rfl rfl (bin_add (by omega) (by omega)) ?_
      refine OkO.assign rfl rfl ?_
      refine OkO.nil ?_
      refine ⟨us.length - (i + 1), by omega, i + 1, v2, R ++ [(pickI (bedAt cols (fr + i) up).fl (bedAt cols (fr + i) up).fh a0, pickI (bedAt cols (fr + i) up).cl (bedAt cols (fr + i) up).ch a1, pickI (bedAt cols (fr + i) up).wl (bedAt cols (fr + i) up).wh a2)], rfl, by omega, by simp; omega, ?_, by rw [rl_snoc]; exact q1, q2, (by (try dsimp only); omega), z0, z1, Has.of (by kernel_rfl), rfl⟩
      intro j r hj
      rcases Nat.lt_or_ge j R.length with h9 | h9
      · rw [List.getElem?_append_left h9] at hj; exact hfit j r hj
      · rw [List.getElem?_append_right h9] at hj
        have hj0 : j - R.length = 0 := by (have := (List.getElem?_eq_some_iff.1 hj).1); simp at this; omega
        rw [hj0] at hj
        simp at hj
        subst hj
        refine ⟨up, by rw [show j = i from by omega]; exact hupg, ?_⟩
        rw [show j = i from by omega]
        simp only [fit1, inB, Bool.and_eq_true, decide_eq_true_eq]
        exact ⟨⟨hp1, hp2⟩, hp3⟩
  · -- no h1
    have hil : i = us.length := by (have : ¬ i < us.length := by simpa using h1); omega
    refine Ok.exit ?_
    refine Ok.seq ?_
    refine Ok.region ?_
    refine OkO.move rfl rfl ?_
    refine OkO.assign rfl rfl ?_
    refine OkO.nil ?_
    refine Ok.ret ⟨.inr rfl, ?_⟩
    refine back_newA (resV_tmp rfl resV_nil) rfl (by rw [← hW]; exact (by (try dsimp only); repeat (first | exact hg | exact hG | apply Grow.new | (refine Grow.put ?_ _ (by first | omega | (simp only [hNw, hPt]; omega)))))) (fun H9 p1 p2 => ⟨R, p1, (Mine.back hm (fun x hx => rl_len R x hx) (by omega) p2).1, by omega, ?_⟩)
    refine fits_yes (by rw [bedsW_len]; omega) (fun j h1 h2 => ?_)
    obtain ⟨u, hu1, hu2⟩ := hfit j R[j] (List.getElem?_eq_getElem h2)
    have hj9 : j < us.length := by omega
    have hb9 := bedsW_get (cols := cols) us fr j hj9
    rw [List.getElem?_eq_getElem h1] at hb9
    rw [List.getElem?_eq_getElem hj9] at hu1
    cases hu1
    rw [Option.some.inj hb9]
    exact hu2
end
end Go.Ev

set_option maxRecDepth 100000
set_option linter.unusedSimpArgs false
set_option linter.unusedVariables false
namespace Go.Ev
open Go Go.Proofs
noncomputable section
def ofN (us : List Nat) : List Int := us.map fun (k : Nat) => (k : Int)
theorem ofN_len (us : List Nat) : (ofN us).length = us.length := by simp [ofN]
theorem ofN_get (us : List Nat) (i : Nat) (h : i < us.length) : (ofN us).getD i 0 = (us[i] : Int) := by simp [ofN, h]
theorem ints_N {H : Heap} {v : AV} {us : List Nat} (h : Row H v 1 (us.map fun (k : Nat) => [I (k : Int)])) : Ints H v (ofN us) := by
  unfold Ints ofN
  rw [List.map_map]
  exact h
theorem bedsOf_W (cols : List (List Bed)) (fr : Nat) (us : List Nat) : bedsOf cols (fr : Int) (ofN us) = bedsW cols fr us := by
  apply List.ext_getElem?
  intro i
  unfold bedsOf
  rw [ofN_len, List.getElem?_map]
  by_cases h : i < us.length
  · rw [List.getElem?_range h, bedsW_get us fr i h, Option.map_some, ofN_get us i h]
    rfl
  · rw [List.getElem?_eq_none (by simp; omega), List.getElem?_eq_none (by rw [bedsW_len]; omega)]
    rfl
theorem Walk.adj {n : Nat} : ∀ {us : List Nat}, Walk n us → ∀ (i : Nat) (h : i + 1 < us.length), Nxt n us[i] us[i + 1]
  | k :: j :: l, h, 0, _ => h.2.1
  | k :: j :: l, h, i + 1, hi => Walk.adj (us := j :: l) h.2.2 i (by simpa using hi)
theorem surf_B {cols : List (List Bed)} {least : Int} {fr : Nat} {us : List Nat} (hv : slOk cols least = true) (h : Surf cols.length (cols.headD []).length least fr us) : surfB cols least (fr : Int) (ofN us) = true := by
  obtain ⟨h1, h2, h3, h4⟩ := h
  have hf := slOk_facts hv
  have hl : 0 < us.length := List.length_pos_iff.2 h2
  unfold surfB
  simp only [Bool.and_eq_true]
  refine ⟨⟨⟨?_, ?_⟩, ?_⟩, ?_⟩
  · simp [inB]; omega
  · simp [inB, ofN_len]; omega
  · rw [List.all_eq_true]
    intro u hu
    obtain ⟨k, hk, rfl⟩ := List.mem_map.1 hu
    obtain ⟨i, hi, rfl⟩ := List.mem_iff_getElem.1 hk
    have := h1.lt i hi
    simp only [inB, Bool.and_eq_true, decide_eq_true_eq]; omega
  · unfold adjB
    rw [List.all_eq_true]
    intro i hi
    rw [List.mem_range, ofN_len] at hi
    rw [ofN_get us (i + 1) (by omega), ofN_get us i (by omega)]
    obtain ⟨_, a, b⟩ := h1.adj i (by omega)
    simp [inB]; omega
theorem surfErr_W {cols : List (List Bed)} {least : Int} {fr : Nat} {us : List Nat} (hv : slOk cols least = true) (h : Surf cols.length (cols.headD []).length least fr us) : surfErr cols least (fr : Int) (ofN us) = 0 := by
  unfold surfErr; rw [if_pos hv, if_pos (surf_B hv h)]
theorem bedsOk_of {cols : List (List Bed)} {least : Int} (hv : slOk cols least = true) : BedsOk cols := fun c hc b hb => ((slOk_facts hv).2.2.2.2.2.2 c hc).2 b hb
theorem lens_of {cols : List (List Bed)} {least : Int} (hv : slOk cols least = true) : ∀ c ∈ cols, c.length = (cols.headD []).length := fun c hc => ((slOk_facts hv).2.2.2.2.2.2 c hc).1
/-- What Span says of a surface. -/
theorem span_D {cols : List (List Bed)} {least : Int} {fr : Nat} {us : List Nat} (hv : slOk cols least = true) (h : Surf cols.length (cols.headD []).length least fr us) (hd : 1 ≤ drive (bedsW cols fr us)) :
    spanR cols least (fr : Int) (ofN us) = (facW cols fr us, factorOf (sumB strong (bedsW cols fr us)) (drive (bedsW cols fr us)), 0) := by
  unfold spanR
  rw [if_pos (surfErr_W hv h), bedsOf_W, if_neg (by omega)]
  rfl
theorem span_N {cols : List (List Bed)} {least : Int} {fr : Nat} {us : List Nat} (hv : slOk cols least = true) (h : Surf cols.length (cols.headD []).length least fr us) (hd : drive (bedsW cols fr us) < 1) :
    spanR cols least (fr : Int) (ofN us) = (0, 0, 7) := by
  unfold spanR
  rw [if_pos (surfErr_W hv h), bedsOf_W, if_pos hd]
theorem fac_D {cols : List (List Bed)} {least : Int} {fr : Nat} {us : List Nat} {R : List Rl} (hv : slOk cols least = true) (h : Surf cols.length (cols.headD []).length least fr us) (hd : 1 ≤ drive (bedsW cols fr us)) (hf : fitsB (bedsW cols fr us) R = true) :
    facR cols least (fr : Int) (ofN us) R = (factorOf (held (bedsW cols fr us) R) (drive (bedsW cols fr us)), 0) := by
  unfold facR
  rw [if_pos (surfErr_W hv h), bedsOf_W, if_pos hf, if_neg (by omega)]
theorem fac_N {cols : List (List Bed)} {least : Int} {fr : Nat} {us : List Nat} {R : List Rl} (hv : slOk cols least = true) (h : Surf cols.length (cols.headD []).length least fr us) (hd : drive (bedsW cols fr us) < 1) (hf : fitsB (bedsW cols fr us) R = true) :
    facR cols least (fr : Int) (ofN us) R = (0, 7) := by
  unfold facR
  rw [if_pos (surfErr_W hv h), bedsOf_W, if_pos hf, if_pos hd]
theorem fits_ends {L : List Bed} (h : ∀ b ∈ L, b.ok = true) (m : Bool) : fitsB L (L.map (endT m)) = true := by
  refine fits_yes (by simp) fun j h1 h2 => ?_
  have hb := Bed.ok_lim (h L[j] (List.getElem_mem h1))
  unfold Bed.lim at hb
  simp only [List.getElem_map]
  cases m <;> simp [endT, fit1, inB] <;> omega
theorem holds_mono {no f f' c c' w w' : Int} (hf : 0 ≤ f ∧ f ≤ f') (hc : c ≤ c') (hw : w' ≤ w) : holds no f c w ≤ holds no f' c' w' := by
  unfold holds
  have h1 : max (no - w) 0 ≤ max (no - w') 0 := by omega
  have h0 : 0 ≤ max (no - w) 0 := by omega
  have h2 : max (no - w) 0 * f ≤ max (no - w') 0 * f' := Int.mul_le_mul h1 hf.2 hf.1 (by omega)
  have h3 := Int.ediv_le_ediv (show (0 : Int) < 1000 by omega) h2
  omega
theorem fit_between {b : Bed} {r : Rl} (hb : b.ok = true) (h : fit1 b r = true) : weak b ≤ holdsR b r ∧ holdsR b r ≤ strong b := by
  have hl := Bed.ok_lim hb
  unfold Bed.lim at hl
  simp only [fit1, inB, Bool.and_eq_true, decide_eq_true_eq] at h
  unfold weak strong holdsR
  exact ⟨holds_mono (by omega) (by omega) (by omega), holds_mono (by omega) (by omega) (by omega)⟩
theorem held_between : ∀ {L : List Bed} {R : List Rl}, (∀ b ∈ L, b.ok = true) → fitsB L R = true → sumB weak L ≤ held L R ∧ held L R ≤ sumB strong L := by
  have key : ∀ (L : List Bed) (R : List Rl), R.length = L.length → ((L.zip R).all fun p => fit1 p.1 p.2) = true → (∀ b ∈ L, b.ok = true) → sumB weak L ≤ held L R ∧ held L R ≤ sumB strong L := by
    intro L
    induction L with
    | nil => intro R _ _ _; simp [sumB, held]
    | cons b L ih =>
      intro R hl ha ho
      cases R with
      | nil => simp at hl
      | cons r R =>
        simp only [List.zip_cons_cons, List.all_cons, Bool.and_eq_true] at ha
        have h1 := ih R (by simpa using hl) ha.2 (fun x hx => ho x (by simp [hx]))
        have h2 := fit_between (ho b (by simp)) ha.1
        unfold sumB held at h1 ⊢
        simp only [List.map_cons, List.sum_cons, List.zip_cons_cons]
        omega
  intro L R ho hf
  unfold fitsB at hf
  simp only [Bool.and_eq_true, decide_eq_true_eq] at hf
  exact key L R hf.1 hf.2 ho
theorem factorOf_mono {a b d : Int} (h : a ≤ b) (hd : 1 ≤ d) : factorOf a d ≤ factorOf b d := by
  unfold factorOf
  have := Int.ediv_le_ediv (show (0 : Int) < d by omega) (show 1000 * a ≤ 1000 * b by omega)
  omega
theorem picks_W {cols : List (List Bed)} {n : Nat} (hcl : ∀ c ∈ cols, c.length = n) {fr : Nat} {us : List Nat} (h : Walk n us) (hf : fr + us.length ≤ cols.length) : Picks cols fr us (bedsW cols fr us) := by
  refine ⟨bedsW_len cols us fr, fun i u hu => ?_⟩
  have hi := (List.getElem?_eq_some_iff.1 hu).1
  have hu2 : us[i] = u := (List.getElem?_eq_some_iff.1 hu).2
  have hlt := h.lt i hi
  obtain ⟨col, h1, h2⟩ := bedAt_get (c := fr + i) (k := u) hcl (by omega) (by omega)
  exact ⟨col, _, h1, h2, by rw [bedsW_get us fr i hi, hu2]⟩
end
end Go.Ev

set_option maxRecDepth 100000
set_option linter.unusedSimpArgs false
set_option linter.unusedVariables false
namespace Go.Ev
open Go Go.Proofs
noncomputable section
theorem c31' (m : Nat) (cv : AV) (cols : List (List Bed)) (least : Int) (H : Heap) (hM : Mat H cv cols) (hv : slOk cols least = true) :
    ∃ v H', RR (m + 211) (.fn 31 [.agg [cv, I least]]) H = some (v, H') ∧ Ret H H' ∧ ∃ x y z e, v = .tup [.agg [x, y], I z, I e] ∧ atoms [x, y] = true ∧
      ((e = 0 ∧ ∃ (fr : Nat) (us : List Nat), x = I (fr : Int) ∧ Mine H.next H' y 3 1 (us.map fun (k : Nat) => I (k : Int)) ∧ y ≠ .nils ∧ LowAt cols (cols.headD []).length least z fr us) ∨ (e = 7 ∧ x = I 0 ∧ y = .nils ∧ z = 0 ∧ H' = H ∧ NoneAt cols (cols.headD []).length least)) := by
  have hf := slOk_facts hv
  obtain ⟨v, H', h1, h2, h3⟩ := c31 m (cols.headD []).length cv cols least H hM (lens_of hv) (by omega) (by omega) (by omega) (bedsOk_of hv) hv
  rcases h3 with ⟨fr, us, bv, z, rfl, a, b, c⟩ | ⟨rfl, a, b⟩
  · exact ⟨_, H', h1, h2, I (fr : Int), bv, z, 0, rfl, by (rw [atoms, atoms, a.one.2]; rfl), .inl ⟨rfl, fr, us, rfl, a, b, c⟩⟩
  · exact ⟨_, H', h1, h2, I 0, .nils, 0, 7, rfl, rfl, .inr ⟨rfl, rfl, rfl, rfl, a, b⟩⟩
/-- What a surface's Span is. -/
def spW (cols : List (List Bed)) (fr : Nat) (us : List Nat) : Int × Int × Int := if 1 ≤ drive (bedsW cols fr us) then (facW cols fr us, factorOf (sumB strong (bedsW cols fr us)) (drive (bedsW cols fr us)), 0) else (0, 0, 7)
def faW (cols : List (List Bed)) (fr : Nat) (us : List Nat) (R : List Rl) : Int × Int := if 1 ≤ drive (bedsW cols fr us) then (factorOf (held (bedsW cols fr us) R) (drive (bedsW cols fr us)), 0) else (0, 7)
theorem span_W {cols : List (List Bed)} {least : Int} {fr : Nat} {us : List Nat} (hv : slOk cols least = true) (h : Surf cols.length (cols.headD []).length least fr us) : spanR cols least (fr : Int) (ofN us) = spW cols fr us := by
  unfold spW
  split
  · exact span_D hv h (by assumption)
  · exact span_N hv h (by omega)
theorem fac_W {cols : List (List Bed)} {least : Int} {fr : Nat} {us : List Nat} {R : List Rl} (hv : slOk cols least = true) (h : Surf cols.length (cols.headD []).length least fr us) (hf : fitsB (bedsW cols fr us) R = true) : facR cols least (fr : Int) (ofN us) R = faW cols fr us R := by
  unfold faW
  split
  · exact fac_D hv h (by assumption) hf
  · exact fac_N hv h (by omega) hf
theorem c10K (m : Nat) (cv wv tv : AV) (cols : List (List Bed)) (least : Int) (ws ts : List Int) (H : Heap) (hM : Mat H cv cols) (hWs : Row H wv 1 (ws.map fun w => [U8 w])) (hws : Upto 255 ws) (hTs : Row H tv 1 (ts.map fun w => [U16 w])) (hts : Upto 65535 ts) (hth : thinB cols = true) (hv : slOk cols least = true) (hlc : least ≤ cols.length) (hrd : readyS cols least = true)  : RR (m + 212) (.fn 10 [.agg [cv, I least], wv, tv]) H = some (.bool true, H) := by
  refine (R_fn _ _ _ _ _).trans ?_
  refine fn_ok Try.func10 rfl rfl (by kernel_rfl) (by kernel_rfl) ?_
  obtain ⟨W, hW⟩ : ∃ W : Heap, W = ⟨H.t, H.next, H.next⟩ := ⟨_, rfl⟩
  have hg : ∀ n, W.get n = H.get n := fun n => by rw [hW]; rfl
  have hN : W.next = H.next := by rw [hW]
  have hE : ∀ G, Grow W G → Ext H G := fun G g => ⟨by rw [← hN]; exact g.next, fun n k => by rw [g.get n (by rw [hN]; exact k), hg]⟩
  have hG : Grow W W := Grow.refl (by rw [hW]; exact Nat.le_refl _)
  rw [← hW]
  have pc : cv.plain = true := by obtain ⟨vs, hR, _, _⟩ := hM; exact lpl hR.len
  have ps : AV.plain (.agg [cv, I least]) = true := by simp [AV.plain, AV.plains, pc]
  have hsf := slOk_facts hv
  refine Ok.seq ?_
  refine Ok.region ?_
  refine OkO.box rfl rfl ?_
  refine OkO.assign rfl rfl ?_
  refine OkO.nil ?_
  refine Ok.seq ?_
  refine Ok.seq ?_
  refine Ok.region ?_
  refine OkO.load rfl rfl (ldg (n := 2) (by kernel_rfl) (by first | assumption | (simp (disch := first | omega | (simp only [hNw, hPt]; omega)) only [gn0, gn1, gn2, gn3, gn4, gn5, gp0, gno, gpo] <;> first | rfl | assumption | exact gp0 _ _ _ | exact gn0 _ _)) (by first | rfl | assumption)) ?_
  refine OkO.callV rfl rfl rfl rfl rfl ((c51 (m + 208) cv cols least _ (hM.ext (hE _ (by (try dsimp only); repeat (first | exact hG | apply Grow.new | (refine Grow.put ?_ _ (by first | omega | (simp only [hNw, hPt]; omega)))))))).trans (by rw [hrd])) ?_ -- "sackung/sackunglaw01.ready"
  refine OkO.un rfl rfl rfl ?_
  refine OkO.nil ?_
  refine Ok.cond rfl (fun h1 => ?_) (fun h1 => ?_)
  · -- yes h1
    exact absurd h1 (by simp)
  · -- no h1
    refine Ok.skip ?_
    refine Ok.seq ?_
    refine Ok.region ?_
    refine OkO.load rfl rfl (ldg (n := 2) (by kernel_rfl) (by first | assumption | (simp (disch := first | omega | (simp only [hNw, hPt]; omega)) only [gn0, gn1, gn2, gn3, gn4, gn5, gp0, gno, gpo] <;> first | rfl | assumption | exact gp0 _ _ _ | exact gn0 _ _)) (by first | rfl | assumption)) ?_
    refine OkO.move rfl rfl ?_
    refine OkO.callE rfl rfl rfl rfl rfl (c52 (m + 209) (cols.headD []).length cv wv cols least ws _ (hM.ext (hE _ (by (try dsimp only); repeat (first | exact hG | apply Grow.new | (refine Grow.put ?_ _ (by first | omega | (simp only [hNw, hPt]; omega))))))) (hWs.ext (hE _ (by (try dsimp only); repeat (first | exact hG | apply Grow.new | (refine Grow.put ?_ _ (by first | omega | (simp only [hNw, hPt]; omega))))))) hws hv rfl hlc) ?_ -- "sackung/sackunglaw01.Path"
    rintro v52 H52 ⟨fr, us, bv, rfl, q52, m52, nn52, hs, hlu⟩
    have n1 := q52.ext.next
    try simp only [hNw, hPt] at n1
    have gg1 : Grow W H52 := Grow.ret (by (try dsimp only); repeat (first | exact hG | apply Grow.new | (refine Grow.put ?_ _ (by first | omega | (simp only [hNw, hPt]; omega))))) q52
    have a1 : (H52.get (W.next)).bind AObj.cs = some [cv, I least] := by rw [q52.ext.get _ (by first | omega | (simp only [hNw, hPt]; omega))]; first | assumption | (rw [gn0]; rfl) | (rw [get_put_eq] <;> rfl) | (simp (disch := first | omega | (simp only [hNw, hPt]; omega)) only [gn0, gn1, gn2, gn3, gn4, gn5, gp0, gno, gpo] <;> first | rfl | assumption | (rw [get_put_eq] <;> rfl))
    have hone : bv.cells = [bv] ∧ bv.atom = true := m52.one
    have hat : atoms [I (fr : Int), bv] = true := by (rw [atoms, atoms, hone.2]; rfl)
    have hU : Row H52 bv 1 (us.map fun (k : Nat) => [I (k : Int)]) := Mine.row (by rw [flatN]; exact m52) (fun x hx => by simp only [List.mem_map] at hx; obtain ⟨y, _, rfl⟩ := hx; rfl) (by omega)
    have pbv := lpl hU.len
    have pu : AV.plain (.agg [I (fr : Int), bv]) = true := by simp [AV.plain, AV.plains, pbv]
    have hs4 : fr + us.length ≤ cols.length := hs.2.2.2
    have hlen9 := lens_of hv
    have hok9 := bedsOk_of hv
    have hpk := picks_W hlen9 hs.1 hs.2.2.2
    have hLok := bedsW_ok hok9 us fr
    have hheld := fun R (h : fitsB (bedsW cols fr us) R = true) => held_between hLok h
    have hsp := span_W hv hs
    have hfac := fun R h => fac_W (R := R) hv hs h
    obtain ⟨sa, sb, se, hspv⟩ : ∃ sa sb se, spW cols fr us = (sa, sb, se) := ⟨_, _, _, rfl⟩
    rw [hspv] at hsp
    refine OkO.alloc (z := [.int .i64 0, .nils]) rfl (by kernel_rfl) ?_
    refine OkO.store rfl rfl rfl (stc (n := 2) (ag := true) (by kernel_rfl) (by first | assumption | (simp (disch := first | omega | (simp only [hNw, hPt]; omega)) only [gn0, gn1, gn2, gn3, gn4, gn5, gp0, gno, gpo] <;> first | rfl | assumption | exact gp0 _ _ _ | exact gn0 _ _)) rfl (by first | rfl | assumption) (by first | rfl | exact spl_set _ _ _ (by first | assumption | omega | (simp; omega)))) ?_
    refine OkO.nil ?_
    refine Ok.seq ?_
    refine Ok.drawn [(0, true, []), (2, true, []), (8, true, [2, 0]), (1, false, [2]), (3, false, [0]), (4, false, [2, 0]), (5, true, []), (6, true, []), (7, true, []), (9, false, []), (10, true, [])] (by kernel_rfl) ?_
    refine OkP.step ?_
    refine OkO.load rfl rfl (ldg (n := 2) (by kernel_rfl) (by first | assumption | (simp (disch := first | omega | (simp only [hNw, hPt]; omega)) only [gn0, gn1, gn2, gn3, gn4, gn5, gp0, gno, gpo] <;> first | rfl | assumption | exact gp0 _ _ _ | exact gn0 _ _)) (by first | rfl | assumption)) ?_
    refine OkO.nil ⟨rfl, ?_⟩
    refine OkP.step ?_
    refine OkO.load rfl rfl (ldg (n := 2) (by kernel_rfl) (by first | assumption | (simp (disch := first | omega | (simp only [hNw, hPt]; omega)) only [gn0, gn1, gn2, gn3, gn4, gn5, gp0, gno, gpo] <;> first | rfl | assumption | exact gp0 _ _ _ | exact gn0 _ _)) (by first | rfl | assumption)) ?_
    refine OkO.nil ⟨rfl, ?_⟩
    refine OkP.step ?_
    refine OkO.alloc (z := [.int .i64 0, .int .i64 0]) rfl (by kernel_rfl) ?_
    refine OkO.nil ⟨(sco (sld rfl rfl (ldg (n := 2) (by kernel_rfl) (by first | assumption | (simp (disch := first | omega | (simp only [hNw, hPt]; omega)) only [gn0, gn1, gn2, gn3, gn4, gn5, gp0, gno, gpo] <;> first | rfl | assumption | exact gp0 _ _ _ | exact gn0 _ _)) (by first | rfl | assumption)) rfl (eqr _ (by first | rfl | exact ps | exact pu | exact lpl (by assumption) | (simp [AV.plain, AV.plains, AV.cells, pc, pbv])))) (sco (sld rfl rfl (ldg (n := 2) (by kernel_rfl) (by first | assumption | (simp (disch := first | omega | (simp only [hNw, hPt]; omega)) only [gn0, gn1, gn2, gn3, gn4, gn5, gp0, gno, gpo] <;> first | rfl | assumption | exact gp0 _ _ _ | exact gn0 _ _)) (by first | rfl | assumption)) rfl (eqr _ (by first | rfl | exact ps | exact pu | exact lpl (by assumption) | (simp [AV.plain, AV.plains, AV.cells, pc, pbv])))) rfl)), ?_⟩
    refine OkP.step ?_
    refine OkO.callE rfl rfl rfl rfl rfl (c19 (m + 209) cv cols least _ (hM.ext (hE _ (by (try dsimp only); repeat (first | exact gg1 | apply Grow.new | (refine Grow.put ?_ _ (by first | omega | (simp only [hNw, hPt]; omega))))))) hth) ?_ -- "sackung/sackunglaw01.Slope"
    rintro _ Ha1 ⟨cv1, rfl, qa1, fa1⟩
    have n2 := qa1.ext.next
    try simp only [hNw, hPt] at n2
    have gg2 : Grow W Ha1 := Grow.ret (by (try dsimp only); repeat (first | exact gg1 | apply Grow.new | (refine Grow.put ?_ _ (by first | omega | (simp only [hNw, hPt]; omega))))) qa1
    have a2 : (Ha1.get (W.next)).bind AObj.cs = some [cv, I least] := by rw [qa1.ext.get _ (by first | omega | (simp only [hNw, hPt]; omega))]; first | assumption | (rw [gn0]; rfl) | (rw [get_put_eq] <;> rfl) | (simp (disch := first | omega | (simp only [hNw, hPt]; omega)) only [gn0, gn1, gn2, gn3, gn4, gn5, gp0, gno, gpo] <;> first | rfl | assumption | (rw [get_put_eq] <;> rfl))
    have u2 : (Ha1.get (H52.next)).bind AObj.cs = some [I (fr : Int), bv] := by rw [qa1.ext.get _ (by first | omega | (simp only [hNw, hPt]; omega))]; first | assumption | (rw [gn0]; rfl) | (rw [get_put_eq] <;> rfl) | (simp (disch := first | omega | (simp only [hNw, hPt]; omega)) only [gn0, gn1, gn2, gn3, gn4, gn5, gp0, gno, gpo] <;> first | rfl | assumption | (rw [get_put_eq] <;> rfl))
    have o2 : Ha1.get (H52.next + 1) = some (.cells [I 0, I 0] 47) := by rw [qa1.ext.get _ (by first | omega | (simp only [hNw, hPt]; omega))]; first | assumption | exact gn0 _ _ | (simp (disch := first | omega | (simp only [hNw, hPt]; omega)) only [gn0, gn1, gn2, gn3, gn4, gn5, gp0, gno, gpo] <;> first | rfl | assumption | exact gp0 _ _ _ | exact gn0 _ _)
    have exH522 : Ext H52 Ha1 := Ext.trans (by (try dsimp only); repeat (first | exact Ext.refl _ | exact Ext.refl _ | apply Ext.new | (refine Ext.put ?_ _ (by first | omega | (simp only [hNw, hPt]; omega))))) qa1.ext
    have ma1 := fa1.now (Nat.le_refl _)
    refine OkO.nil ⟨(sco (sld rfl rfl (ldg (n := 2) (by kernel_rfl) (by first | assumption | (simp (disch := first | omega | (simp only [hNw, hPt]; omega)) only [gn0, gn1, gn2, gn3, gn4, gn5, gp0, gno, gpo] <;> first | rfl | assumption | exact gp0 _ _ _ | exact gn0 _ _)) (by first | rfl | assumption)) rfl (eqr _ (by first | rfl | exact ps | exact pu | exact lpl (by assumption) | (simp [AV.plain, AV.plains, AV.cells, pc, pbv])))) rfl), ?_⟩
    refine OkP.step ?_
    refine OkO.callE rfl rfl rfl rfl rfl (c21 (m + 209) bv (fr : Int) (ofN us) _ (ints_N (hU.ext (by (try dsimp only); repeat (first | exact exH522 | exact Ext.refl _ | apply Ext.new | (refine Ext.put ?_ _ (by first | omega | (simp only [hNw, hPt]; omega))))))) (by rw [ofN_len]; omega)) ?_ -- "sackung/sackunglaw01.Surface"
    rintro _ Hb1 ⟨bv1, rfl, qb1, fb1⟩
    have n3 := qb1.ext.next
    try simp only [hNw, hPt] at n3
    have gg3 : Grow W Hb1 := Grow.ret (by (try dsimp only); repeat (first | exact gg2 | apply Grow.new | (refine Grow.put ?_ _ (by first | omega | (simp only [hNw, hPt]; omega))))) qb1
    have a3 : (Hb1.get (W.next)).bind AObj.cs = some [cv, I least] := by rw [qb1.ext.get _ (by first | omega | (simp only [hNw, hPt]; omega))]; first | assumption | (rw [gn0]; rfl) | (rw [get_put_eq] <;> rfl) | (simp (disch := first | omega | (simp only [hNw, hPt]; omega)) only [gn0, gn1, gn2, gn3, gn4, gn5, gp0, gno, gpo] <;> first | rfl | assumption | (rw [get_put_eq] <;> rfl))
    have u3 : (Hb1.get (H52.next)).bind AObj.cs = some [I (fr : Int), bv] := by rw [qb1.ext.get _ (by first | omega | (simp only [hNw, hPt]; omega))]; first | assumption | (rw [gn0]; rfl) | (rw [get_put_eq] <;> rfl) | (simp (disch := first | omega | (simp only [hNw, hPt]; omega)) only [gn0, gn1, gn2, gn3, gn4, gn5, gp0, gno, gpo] <;> first | rfl | assumption | (rw [get_put_eq] <;> rfl))
    have o3 : Hb1.get (H52.next + 1) = some (.cells [I 0, I 0] 47) := by rw [qb1.ext.get _ (by first | omega | (simp only [hNw, hPt]; omega))]; first | assumption | exact gn0 _ _ | (simp (disch := first | omega | (simp only [hNw, hPt]; omega)) only [gn0, gn1, gn2, gn3, gn4, gn5, gp0, gno, gpo] <;> first | rfl | assumption | exact gp0 _ _ _ | exact gn0 _ _)
    have exH523 : Ext H52 Hb1 := Ext.trans (by (try dsimp only); repeat (first | exact exH522 | exact Ext.refl _ | apply Ext.new | (refine Ext.put ?_ _ (by first | omega | (simp only [hNw, hPt]; omega))))) qb1.ext
    have mb1 := ma1.ext qb1.ext
    have ib1 := fb1.now (Nat.le_refl _)
    refine OkO.nil ⟨(sco (sld rfl rfl (ldg (n := 2) (by kernel_rfl) (by first | assumption | (simp (disch := first | omega | (simp only [hNw, hPt]; omega)) only [gn0, gn1, gn2, gn3, gn4, gn5, gp0, gno, gpo] <;> first | rfl | assumption | exact gp0 _ _ _ | exact gn0 _ _)) (by first | rfl | assumption)) rfl (eqr _ (by first | rfl | exact ps | exact pu | exact lpl (by assumption) | (simp [AV.plain, AV.plains, AV.cells, pc, pbv])))) rfl), ?_⟩
    refine OkP.step ?_
    have h27 := c27 (m + 202) cv1 bv1 cols least (fr : Int) (ofN us) Hb1 mb1 ib1.1 ib1.2 (by rw [ofN_len]; omega)
    rw [hsp] at h27
    refine OkO.callV rfl rfl rfl rfl rfl (h27) ?_ -- "sackung/slope.Span"
    refine OkO.nil ⟨(sco (sld rfl rfl (ldg (n := 2) (by kernel_rfl) (by first | assumption | (simp (disch := first | omega | (simp only [hNw, hPt]; omega)) only [gn0, gn1, gn2, gn3, gn4, gn5, gp0, gno, gpo] <;> first | rfl | assumption | exact gp0 _ _ _ | exact gn0 _ _)) (by first | rfl | assumption)) rfl (eqr _ (by first | rfl | exact ps | exact pu | exact lpl (by assumption) | (simp [AV.plain, AV.plains, AV.cells, pc, pbv])))) (sco (sld rfl rfl (ldg (n := 2) (by kernel_rfl) (by first | assumption | (simp (disch := first | omega | (simp only [hNw, hPt]; omega)) only [gn0, gn1, gn2, gn3, gn4, gn5, gp0, gno, gpo] <;> first | rfl | assumption | exact gp0 _ _ _ | exact gn0 _ _)) (by first | rfl | assumption)) rfl (eqr _ (by first | rfl | exact ps | exact pu | exact lpl (by assumption) | (simp [AV.plain, AV.plains, AV.cells, pc, pbv])))) rfl)), ?_⟩
    refine OkP.step ?_
    refine OkO.move rfl rfl ?_
    refine OkO.nil ⟨rfl, ?_⟩
    refine OkP.step ?_
    refine OkO.extract rfl rfl rfl ?_
    refine OkO.nil ⟨rfl, ?_⟩
    refine OkP.step ?_
    refine OkO.extract rfl rfl rfl ?_
    refine OkO.nil ⟨rfl, ?_⟩
    refine OkP.step ?_
    refine OkO.store rfl rfl rfl (stc (n := 2) (ag := true) (by kernel_rfl) (by first | assumption | (simp (disch := first | omega | (simp only [hNw, hPt]; omega)) only [gn0, gn1, gn2, gn3, gn4, gn5, gp0, gno, gpo] <;> first | rfl | assumption | exact gp0 _ _ _ | exact gn0 _ _)) rfl (by first | rfl | assumption) (by first | rfl | exact spl_set _ _ _ (by first | assumption | omega | (simp; omega)))) ?_
    refine OkO.nil ⟨rfl, ?_⟩
    refine OkP.step ?_
    refine OkO.assign rfl rfl ?_
    refine OkO.nil ⟨rfl, ?_⟩
    refine OkP.nil ?_
    refine Ok.seq ?_
    refine Ok.region ?_
    refine OkO.load rfl rfl (ldg (n := 2) (by kernel_rfl) (by first | assumption | (simp (disch := first | omega | (simp only [hNw, hPt]; omega)) only [gn0, gn1, gn2, gn3, gn4, gn5, gp0, gno, gpo] <;> first | rfl | assumption | exact gp0 _ _ _ | exact gn0 _ _)) (by first | rfl | assumption)) ?_
    refine OkO.callE rfl rfl rfl rfl rfl (c19 (m + 209) cv cols least _ (hM.ext (hE _ (by (try dsimp only); repeat (first | exact gg3 | apply Grow.new | (refine Grow.put ?_ _ (by first | omega | (simp only [hNw, hPt]; omega))))))) hth) ?_ -- "sackung/sackunglaw01.Slope"
    rintro _ Ha2 ⟨cv2, rfl, qa2, fa2⟩
    have n4 := qa2.ext.next
    try simp only [hNw, hPt] at n4
    have gg4 : Grow W Ha2 := Grow.ret (by (try dsimp only); repeat (first | exact gg3 | apply Grow.new | (refine Grow.put ?_ _ (by first | omega | (simp only [hNw, hPt]; omega))))) qa2
    have a4 : (Ha2.get (W.next)).bind AObj.cs = some [cv, I least] := by rw [qa2.ext.get _ (by first | omega | (simp only [hNw, hPt]; omega))]; first | assumption | (rw [gn0]; rfl) | (rw [get_put_eq] <;> rfl) | (simp (disch := first | omega | (simp only [hNw, hPt]; omega)) only [gn0, gn1, gn2, gn3, gn4, gn5, gp0, gno, gpo] <;> first | rfl | assumption | (rw [get_put_eq] <;> rfl))
    have u4 : (Ha2.get (H52.next)).bind AObj.cs = some [I (fr : Int), bv] := by rw [qa2.ext.get _ (by first | omega | (simp only [hNw, hPt]; omega))]; first | assumption | (rw [gn0]; rfl) | (rw [get_put_eq] <;> rfl) | (simp (disch := first | omega | (simp only [hNw, hPt]; omega)) only [gn0, gn1, gn2, gn3, gn4, gn5, gp0, gno, gpo] <;> first | rfl | assumption | (rw [get_put_eq] <;> rfl))
    have s4 : (Ha2.get (H52.next + 1)).bind AObj.cs = some [I sa, I sb] := by rw [qa2.ext.get _ (by first | omega | (simp only [hNw, hPt]; omega))]; first | assumption | (rw [gn0]; rfl) | (rw [get_put_eq] <;> rfl) | (simp (disch := first | omega | (simp only [hNw, hPt]; omega)) only [gn0, gn1, gn2, gn3, gn4, gn5, gp0, gno, gpo] <;> first | rfl | assumption | (rw [get_put_eq] <;> rfl))
    have exH524 : Ext H52 Ha2 := Ext.trans (by (try dsimp only); repeat (first | exact exH523 | exact Ext.refl _ | apply Ext.new | (refine Ext.put ?_ _ (by first | omega | (simp only [hNw, hPt]; omega))))) qa2.ext
    have ma2 := fa2.now (Nat.le_refl _)
    refine OkO.callE rfl rfl rfl rfl rfl (c31' m cv2 cols least _ ma2 hv) ?_ -- "sackung/slope.Worst"
    rintro _ Hw ⟨qw, x31, y31, z31, e31, rfl, at31, hd31⟩
    have n5 := qw.ext.next
    try simp only [hNw, hPt] at n5
    have gg5 : Grow W Hw := Grow.ret (by (try dsimp only); repeat (first | exact gg4 | apply Grow.new | (refine Grow.put ?_ _ (by first | omega | (simp only [hNw, hPt]; omega))))) qw
    have a5 : (Hw.get (W.next)).bind AObj.cs = some [cv, I least] := by rw [qw.ext.get _ (by first | omega | (simp only [hNw, hPt]; omega))]; first | assumption | (rw [gn0]; rfl) | (rw [get_put_eq] <;> rfl) | (simp (disch := first | omega | (simp only [hNw, hPt]; omega)) only [gn0, gn1, gn2, gn3, gn4, gn5, gp0, gno, gpo] <;> first | rfl | assumption | (rw [get_put_eq] <;> rfl))
    have u5 : (Hw.get (H52.next)).bind AObj.cs = some [I (fr : Int), bv] := by rw [qw.ext.get _ (by first | omega | (simp only [hNw, hPt]; omega))]; first | assumption | (rw [gn0]; rfl) | (rw [get_put_eq] <;> rfl) | (simp (disch := first | omega | (simp only [hNw, hPt]; omega)) only [gn0, gn1, gn2, gn3, gn4, gn5, gp0, gno, gpo] <;> first | rfl | assumption | (rw [get_put_eq] <;> rfl))
    have s5 : (Hw.get (H52.next + 1)).bind AObj.cs = some [I sa, I sb] := by rw [qw.ext.get _ (by first | omega | (simp only [hNw, hPt]; omega))]; first | assumption | (rw [gn0]; rfl) | (rw [get_put_eq] <;> rfl) | (simp (disch := first | omega | (simp only [hNw, hPt]; omega)) only [gn0, gn1, gn2, gn3, gn4, gn5, gp0, gno, gpo] <;> first | rfl | assumption | (rw [get_put_eq] <;> rfl))
    have exH525 : Ext H52 Hw := Ext.trans (by (try dsimp only); repeat (first | exact exH524 | exact Ext.refl _ | apply Ext.new | (refine Ext.put ?_ _ (by first | omega | (simp only [hNw, hPt]; omega))))) qw.ext
    refine OkO.move rfl rfl ?_
    refine OkO.extract rfl rfl rfl ?_
    refine OkO.extract rfl rfl rfl ?_
    refine OkO.extract rfl rfl rfl ?_
    refine OkO.alloc (z := [.int .i64 0, .nils]) rfl (by kernel_rfl) ?_
    refine OkO.store rfl rfl rfl (stc (n := 2) (ag := true) (by kernel_rfl) (by first | assumption | (simp (disch := first | omega | (simp only [hNw, hPt]; omega)) only [gn0, gn1, gn2, gn3, gn4, gn5, gp0, gno, gpo] <;> first | rfl | assumption | exact gp0 _ _ _ | exact gn0 _ _)) rfl (by first | rfl | assumption) (by first | rfl | exact spl_set _ _ _ (by first | assumption | omega | (simp; omega)))) ?_
    refine OkO.assign rfl rfl ?_
    refine OkO.assign rfl rfl ?_
    refine OkO.nil ?_
    refine Ok.seq ?_
    refine Ok.drawn [(0, true, []), (2, true, []), (4, true, []), (5, true, []), (6, true, []), (1, false, [5, 4, 2]), (3, false, [5, 4, 0]), (7, false, [2, 0]), (8, false, [5, 4, 2, 0]), (9, false, [5, 4, 2, 0]), (10, true, []), (11, true, []), (12, true, []), (13, true, []), (14, true, [])] (by kernel_rfl) ?_
    refine OkP.step ?_
    refine OkO.load rfl rfl (ldg (n := 2) (by kernel_rfl) (by first | assumption | (simp (disch := first | omega | (simp only [hNw, hPt]; omega)) only [gn0, gn1, gn2, gn3, gn4, gn5, gp0, gno, gpo] <;> first | rfl | assumption | exact gp0 _ _ _ | exact gn0 _ _)) (by first | rfl | assumption)) ?_
    refine OkO.nil ⟨rfl, ?_⟩
    refine OkP.step ?_
    refine OkO.load rfl rfl (ldg (n := 2) (by kernel_rfl) (by first | assumption | (simp (disch := first | omega | (simp only [hNw, hPt]; omega)) only [gn0, gn1, gn2, gn3, gn4, gn5, gp0, gno, gpo] <;> first | rfl | assumption | exact gp0 _ _ _ | exact gn0 _ _)) (by first | rfl | assumption)) ?_
    refine OkO.nil ⟨rfl, ?_⟩
    refine OkP.step ?_
    refine OkO.load rfl rfl (ldg (n := 2) (by kernel_rfl) (by first | assumption | (simp (disch := first | omega | (simp only [hNw, hPt]; omega)) only [gn0, gn1, gn2, gn3, gn4, gn5, gp0, gno, gpo] <;> first | rfl | assumption | exact gp0 _ _ _ | exact gn0 _ _)) (by first | rfl | assumption)) ?_
    refine OkO.nil ⟨rfl, ?_⟩
    refine OkP.step ?_
    refine OkO.load rfl rfl (ldg (n := 2) (by kernel_rfl) (by first | assumption | (simp (disch := first | omega | (simp only [hNw, hPt]; omega)) only [gn0, gn1, gn2, gn3, gn4, gn5, gp0, gno, gpo] <;> first | rfl | assumption | exact gp0 _ _ _ | exact gn0 _ _)) (by first | rfl | assumption)) ?_
    refine OkO.nil ⟨rfl, ?_⟩
    refine OkP.step ?_
    refine OkO.move rfl rfl ?_
    refine OkO.nil ⟨rfl, ?_⟩
    refine OkP.step ?_
    refine OkO.callE rfl rfl rfl rfl rfl (c19 (m + 209) cv cols least _ (hM.ext (hE _ (by (try dsimp only); repeat (first | exact gg5 | apply Grow.new | (refine Grow.put ?_ _ (by first | omega | (simp only [hNw, hPt]; omega))))))) hth) ?_ -- "sackung/sackunglaw01.Slope"
    rintro _ Ha3 ⟨cv3, rfl, qa3, fa3⟩
    have n6 := qa3.ext.next
    try simp only [hNw, hPt] at n6
    have gg6 : Grow W Ha3 := Grow.ret (by (try dsimp only); repeat (first | exact gg5 | apply Grow.new | (refine Grow.put ?_ _ (by first | omega | (simp only [hNw, hPt]; omega))))) qa3
    have a6 : (Ha3.get (W.next)).bind AObj.cs = some [cv, I least] := by rw [qa3.ext.get _ (by first | omega | (simp only [hNw, hPt]; omega))]; first | assumption | (rw [gn0]; rfl) | (rw [get_put_eq] <;> rfl) | (simp (disch := first | omega | (simp only [hNw, hPt]; omega)) only [gn0, gn1, gn2, gn3, gn4, gn5, gp0, gno, gpo] <;> first | rfl | assumption | (rw [get_put_eq] <;> rfl))
    have u6 : (Ha3.get (H52.next)).bind AObj.cs = some [I (fr : Int), bv] := by rw [qa3.ext.get _ (by first | omega | (simp only [hNw, hPt]; omega))]; first | assumption | (rw [gn0]; rfl) | (rw [get_put_eq] <;> rfl) | (simp (disch := first | omega | (simp only [hNw, hPt]; omega)) only [gn0, gn1, gn2, gn3, gn4, gn5, gp0, gno, gpo] <;> first | rfl | assumption | (rw [get_put_eq] <;> rfl))
    have s6 : (Ha3.get (H52.next + 1)).bind AObj.cs = some [I sa, I sb] := by rw [qa3.ext.get _ (by first | omega | (simp only [hNw, hPt]; omega))]; first | assumption | (rw [gn0]; rfl) | (rw [get_put_eq] <;> rfl) | (simp (disch := first | omega | (simp only [hNw, hPt]; omega)) only [gn0, gn1, gn2, gn3, gn4, gn5, gp0, gno, gpo] <;> first | rfl | assumption | (rw [get_put_eq] <;> rfl))
    have exH526 : Ext H52 Ha3 := Ext.trans (by (try dsimp only); repeat (first | exact exH525 | exact Ext.refl _ | apply Ext.new | (refine Ext.put ?_ _ (by first | omega | (simp only [hNw, hPt]; omega))))) qa3.ext
    have ma3 := fa3.now (Nat.le_refl _)
    refine OkO.nil ⟨(sco (sld rfl rfl (ldg (n := 2) (by kernel_rfl) (by first | assumption | (simp (disch := first | omega | (simp only [hNw, hPt]; omega)) only [gn0, gn1, gn2, gn3, gn4, gn5, gp0, gno, gpo] <;> first | rfl | assumption | exact gp0 _ _ _ | exact gn0 _ _)) (by first | rfl | assumption)) rfl (eqr _ (by first | rfl | exact ps | exact pu | exact lpl (by assumption) | (simp [AV.plain, AV.plains, AV.cells, pc, pbv])))) (sco (sld rfl rfl (ldg (n := 2) (by kernel_rfl) (by first | assumption | (simp (disch := first | omega | (simp only [hNw, hPt]; omega)) only [gn0, gn1, gn2, gn3, gn4, gn5, gp0, gno, gpo] <;> first | rfl | assumption | exact gp0 _ _ _ | exact gn0 _ _)) (by first | rfl | assumption)) rfl (eqr _ (by first | rfl | exact ps | exact pu | exact lpl (by assumption) | (simp [AV.plain, AV.plains, AV.cells, pc, pbv])))) (sco (sld rfl rfl (ldg (n := 2) (by kernel_rfl) (by first | assumption | (simp (disch := first | omega | (simp only [hNw, hPt]; omega)) only [gn0, gn1, gn2, gn3, gn4, gn5, gp0, gno, gpo] <;> first | rfl | assumption | exact gp0 _ _ _ | exact gn0 _ _)) (by first | rfl | assumption)) rfl (eqr _ (by first | rfl | exact ps | exact pu | exact lpl (by assumption) | (simp [AV.plain, AV.plains, AV.cells, pc, pbv])))) rfl))), ?_⟩
    refine OkP.step ?_
    refine OkO.callE rfl rfl rfl rfl rfl (c21 (m + 209) bv (fr : Int) (ofN us) _ (ints_N (hU.ext (by (try dsimp only); repeat (first | exact exH526 | exact Ext.refl _ | apply Ext.new | (refine Ext.put ?_ _ (by first | omega | (simp only [hNw, hPt]; omega))))))) (by rw [ofN_len]; omega)) ?_ -- "sackung/sackunglaw01.Surface"
    rintro _ Hb3 ⟨bv3, rfl, qb3, fb3⟩
    have n7 := qb3.ext.next
    try simp only [hNw, hPt] at n7
    have gg7 : Grow W Hb3 := Grow.ret (by (try dsimp only); repeat (first | exact gg6 | apply Grow.new | (refine Grow.put ?_ _ (by first | omega | (simp only [hNw, hPt]; omega))))) qb3
    have a7 : (Hb3.get (W.next)).bind AObj.cs = some [cv, I least] := by rw [qb3.ext.get _ (by first | omega | (simp only [hNw, hPt]; omega))]; first | assumption | (rw [gn0]; rfl) | (rw [get_put_eq] <;> rfl) | (simp (disch := first | omega | (simp only [hNw, hPt]; omega)) only [gn0, gn1, gn2, gn3, gn4, gn5, gp0, gno, gpo] <;> first | rfl | assumption | (rw [get_put_eq] <;> rfl))
    have u7 : (Hb3.get (H52.next)).bind AObj.cs = some [I (fr : Int), bv] := by rw [qb3.ext.get _ (by first | omega | (simp only [hNw, hPt]; omega))]; first | assumption | (rw [gn0]; rfl) | (rw [get_put_eq] <;> rfl) | (simp (disch := first | omega | (simp only [hNw, hPt]; omega)) only [gn0, gn1, gn2, gn3, gn4, gn5, gp0, gno, gpo] <;> first | rfl | assumption | (rw [get_put_eq] <;> rfl))
    have s7 : (Hb3.get (H52.next + 1)).bind AObj.cs = some [I sa, I sb] := by rw [qb3.ext.get _ (by first | omega | (simp only [hNw, hPt]; omega))]; first | assumption | (rw [gn0]; rfl) | (rw [get_put_eq] <;> rfl) | (simp (disch := first | omega | (simp only [hNw, hPt]; omega)) only [gn0, gn1, gn2, gn3, gn4, gn5, gp0, gno, gpo] <;> first | rfl | assumption | (rw [get_put_eq] <;> rfl))
    have exH527 : Ext H52 Hb3 := Ext.trans (by (try dsimp only); repeat (first | exact exH526 | exact Ext.refl _ | apply Ext.new | (refine Ext.put ?_ _ (by first | omega | (simp only [hNw, hPt]; omega))))) qb3.ext
    have mb3 := ma3.ext qb3.ext
    have ib3 := fb3.now (Nat.le_refl _)
    refine OkO.nil ⟨(sco (sld rfl rfl (ldg (n := 2) (by kernel_rfl) (by first | assumption | (simp (disch := first | omega | (simp only [hNw, hPt]; omega)) only [gn0, gn1, gn2, gn3, gn4, gn5, gp0, gno, gpo] <;> first | rfl | assumption | exact gp0 _ _ _ | exact gn0 _ _)) (by first | rfl | assumption)) rfl (eqr _ (by first | rfl | exact ps | exact pu | exact lpl (by assumption) | (simp [AV.plain, AV.plains, AV.cells, pc, pbv])))) (sco (sld rfl rfl (ldg (n := 2) (by kernel_rfl) (by first | assumption | (simp (disch := first | omega | (simp only [hNw, hPt]; omega)) only [gn0, gn1, gn2, gn3, gn4, gn5, gp0, gno, gpo] <;> first | rfl | assumption | exact gp0 _ _ _ | exact gn0 _ _)) (by first | rfl | assumption)) rfl (eqr _ (by first | rfl | exact ps | exact pu | exact lpl (by assumption) | (simp [AV.plain, AV.plains, AV.cells, pc, pbv])))) (sco (sld rfl rfl (ldg (n := 2) (by kernel_rfl) (by first | assumption | (simp (disch := first | omega | (simp only [hNw, hPt]; omega)) only [gn0, gn1, gn2, gn3, gn4, gn5, gp0, gno, gpo] <;> first | rfl | assumption | exact gp0 _ _ _ | exact gn0 _ _)) (by first | rfl | assumption)) rfl (eqr _ (by first | rfl | exact ps | exact pu | exact lpl (by assumption) | (simp [AV.plain, AV.plains, AV.cells, pc, pbv])))) rfl))), ?_⟩
    refine OkP.step ?_
    refine OkO.callE rfl rfl rfl rfl rfl (c53 (m + 209) (cols.headD []).length fr cv bv tv cols least us ts _ (hM.ext (hE _ (by (try dsimp only); repeat (first | exact gg7 | apply Grow.new | (refine Grow.put ?_ _ (by first | omega | (simp only [hNw, hPt]; omega))))))) (hU.ext (by (try dsimp only); repeat (first | exact exH527 | exact Ext.refl _ | apply Ext.new | (refine Ext.put ?_ _ (by first | omega | (simp only [hNw, hPt]; omega)))))) (hTs.ext (hE _ (by (try dsimp only); repeat (first | exact gg7 | apply Grow.new | (refine Grow.put ?_ _ (by first | omega | (simp only [hNw, hPt]; omega))))))) hts hlen9 hok9 (by omega) (by omega) hs.1 hs.2.2.2) ?_ -- "sackung/sackunglaw01.Picked"
    rintro rv3 Hp3 ⟨R3, qp3, rp3, rl3, ft3⟩
    have n8 := qp3.ext.next
    try simp only [hNw, hPt] at n8
    have gg8 : Grow W Hp3 := Grow.ret (by (try dsimp only); repeat (first | exact gg7 | apply Grow.new | (refine Grow.put ?_ _ (by first | omega | (simp only [hNw, hPt]; omega))))) qp3
    have a8 : (Hp3.get (W.next)).bind AObj.cs = some [cv, I least] := by rw [qp3.ext.get _ (by first | omega | (simp only [hNw, hPt]; omega))]; first | assumption | (rw [gn0]; rfl) | (rw [get_put_eq] <;> rfl) | (simp (disch := first | omega | (simp only [hNw, hPt]; omega)) only [gn0, gn1, gn2, gn3, gn4, gn5, gp0, gno, gpo] <;> first | rfl | assumption | (rw [get_put_eq] <;> rfl))
    have u8 : (Hp3.get (H52.next)).bind AObj.cs = some [I (fr : Int), bv] := by rw [qp3.ext.get _ (by first | omega | (simp only [hNw, hPt]; omega))]; first | assumption | (rw [gn0]; rfl) | (rw [get_put_eq] <;> rfl) | (simp (disch := first | omega | (simp only [hNw, hPt]; omega)) only [gn0, gn1, gn2, gn3, gn4, gn5, gp0, gno, gpo] <;> first | rfl | assumption | (rw [get_put_eq] <;> rfl))
    have s8 : (Hp3.get (H52.next + 1)).bind AObj.cs = some [I sa, I sb] := by rw [qp3.ext.get _ (by first | omega | (simp only [hNw, hPt]; omega))]; first | assumption | (rw [gn0]; rfl) | (rw [get_put_eq] <;> rfl) | (simp (disch := first | omega | (simp only [hNw, hPt]; omega)) only [gn0, gn1, gn2, gn3, gn4, gn5, gp0, gno, gpo] <;> first | rfl | assumption | (rw [get_put_eq] <;> rfl))
    have exH528 : Ext H52 Hp3 := Ext.trans (by (try dsimp only); repeat (first | exact exH527 | exact Ext.refl _ | apply Ext.new | (refine Ext.put ?_ _ (by first | omega | (simp only [hNw, hPt]; omega))))) qp3.ext
    have hR3 : R3.length ≤ 1000 := by rw [rl3]; omega
    refine OkO.nil ⟨(sco (sld rfl rfl (ldg (n := 2) (by kernel_rfl) (by first | assumption | (simp (disch := first | omega | (simp only [hNw, hPt]; omega)) only [gn0, gn1, gn2, gn3, gn4, gn5, gp0, gno, gpo] <;> first | rfl | assumption | exact gp0 _ _ _ | exact gn0 _ _)) (by first | rfl | assumption)) rfl (eqr _ (by first | rfl | exact ps | exact pu | exact lpl (by assumption) | (simp [AV.plain, AV.plains, AV.cells, pc, pbv])))) (sco (sld rfl rfl (ldg (n := 2) (by kernel_rfl) (by first | assumption | (simp (disch := first | omega | (simp only [hNw, hPt]; omega)) only [gn0, gn1, gn2, gn3, gn4, gn5, gp0, gno, gpo] <;> first | rfl | assumption | exact gp0 _ _ _ | exact gn0 _ _)) (by first | rfl | assumption)) rfl (eqr _ (by first | rfl | exact ps | exact pu | exact lpl (by assumption) | (simp [AV.plain, AV.plains, AV.cells, pc, pbv])))) rfl)), ?_⟩
    refine OkP.step ?_
    refine OkO.callE rfl rfl rfl rfl rfl (c22 (m + 210) rv3 R3 _ rp3 hR3) ?_ -- "sackung/sackunglaw01.Truth"
    rintro tv3 Ht3 ⟨qt3, ftt3⟩
    have n9 := qt3.ext.next
    try simp only [hNw, hPt] at n9
    have gg9 : Grow W Ht3 := Grow.ret (by (try dsimp only); repeat (first | exact gg8 | apply Grow.new | (refine Grow.put ?_ _ (by first | omega | (simp only [hNw, hPt]; omega))))) qt3
    have a9 : (Ht3.get (W.next)).bind AObj.cs = some [cv, I least] := by rw [qt3.ext.get _ (by first | omega | (simp only [hNw, hPt]; omega))]; first | assumption | (rw [gn0]; rfl) | (rw [get_put_eq] <;> rfl) | (simp (disch := first | omega | (simp only [hNw, hPt]; omega)) only [gn0, gn1, gn2, gn3, gn4, gn5, gp0, gno, gpo] <;> first | rfl | assumption | (rw [get_put_eq] <;> rfl))
    have u9 : (Ht3.get (H52.next)).bind AObj.cs = some [I (fr : Int), bv] := by rw [qt3.ext.get _ (by first | omega | (simp only [hNw, hPt]; omega))]; first | assumption | (rw [gn0]; rfl) | (rw [get_put_eq] <;> rfl) | (simp (disch := first | omega | (simp only [hNw, hPt]; omega)) only [gn0, gn1, gn2, gn3, gn4, gn5, gp0, gno, gpo] <;> first | rfl | assumption | (rw [get_put_eq] <;> rfl))
    have s9 : (Ht3.get (H52.next + 1)).bind AObj.cs = some [I sa, I sb] := by rw [qt3.ext.get _ (by first | omega | (simp only [hNw, hPt]; omega))]; first | assumption | (rw [gn0]; rfl) | (rw [get_put_eq] <;> rfl) | (simp (disch := first | omega | (simp only [hNw, hPt]; omega)) only [gn0, gn1, gn2, gn3, gn4, gn5, gp0, gno, gpo] <;> first | rfl | assumption | (rw [get_put_eq] <;> rfl))
    have exH529 : Ext H52 Ht3 := Ext.trans (by (try dsimp only); repeat (first | exact exH528 | exact Ext.refl _ | apply Ext.new | (refine Ext.put ?_ _ (by first | omega | (simp only [hNw, hPt]; omega))))) qt3.ext
    have rt3 := ftt3.now (Nat.le_refl _)
    have mt3 := mb3.ext (qp3.ext.trans qt3.ext)
    have it3 := ib3.1.ext (qp3.ext.trans qt3.ext)
    have ic3 := ib3.2.ext (qp3.ext.trans qt3.ext)
    refine OkO.nil ⟨(sco (sld rfl rfl (ldg (n := 2) (by kernel_rfl) (by first | assumption | (simp (disch := first | omega | (simp only [hNw, hPt]; omega)) only [gn0, gn1, gn2, gn3, gn4, gn5, gp0, gno, gpo] <;> first | rfl | assumption | exact gp0 _ _ _ | exact gn0 _ _)) (by first | rfl | assumption)) rfl (eqr _ (by first | rfl | exact ps | exact pu | exact lpl (by assumption) | (simp [AV.plain, AV.plains, AV.cells, pc, pbv])))) (sco (sld rfl rfl (ldg (n := 2) (by kernel_rfl) (by first | assumption | (simp (disch := first | omega | (simp only [hNw, hPt]; omega)) only [gn0, gn1, gn2, gn3, gn4, gn5, gp0, gno, gpo] <;> first | rfl | assumption | exact gp0 _ _ _ | exact gn0 _ _)) (by first | rfl | assumption)) rfl (eqr _ (by first | rfl | exact ps | exact pu | exact lpl (by assumption) | (simp [AV.plain, AV.plains, AV.cells, pc, pbv])))) (sco (sld rfl rfl (ldg (n := 2) (by kernel_rfl) (by first | assumption | (simp (disch := first | omega | (simp only [hNw, hPt]; omega)) only [gn0, gn1, gn2, gn3, gn4, gn5, gp0, gno, gpo] <;> first | rfl | assumption | exact gp0 _ _ _ | exact gn0 _ _)) (by first | rfl | assumption)) rfl (eqr _ (by first | rfl | exact ps | exact pu | exact lpl (by assumption) | (simp [AV.plain, AV.plains, AV.cells, pc, pbv])))) (sco (sld rfl rfl (ldg (n := 2) (by kernel_rfl) (by first | assumption | (simp (disch := first | omega | (simp only [hNw, hPt]; omega)) only [gn0, gn1, gn2, gn3, gn4, gn5, gp0, gno, gpo] <;> first | rfl | assumption | exact gp0 _ _ _ | exact gn0 _ _)) (by first | rfl | assumption)) rfl (eqr _ (by first | rfl | exact ps | exact pu | exact lpl (by assumption) | (simp [AV.plain, AV.plains, AV.cells, pc, pbv])))) rfl)))), ?_⟩
    refine OkP.step ?_
    have h20_3 := c20 (m + 202) cv3 bv3 tv3 cols least (fr : Int) (ofN us) R3 Ht3 mt3 it3 ic3 (by rw [ofN_len]; omega) rt3
    rw [hfac R3 ft3] at h20_3
    obtain ⟨fx3, fe3, hfv3⟩ : ∃ fx fe, faW cols fr us R3 = (fx, fe) := ⟨_, _, rfl⟩
    rw [hfv3] at h20_3
    refine OkO.callV rfl rfl rfl rfl rfl (h20_3) ?_ -- "sackung/slope.Factor"
    refine OkO.nil ⟨(sco (sld rfl rfl (ldg (n := 2) (by kernel_rfl) (by first | assumption | (simp (disch := first | omega | (simp only [hNw, hPt]; omega)) only [gn0, gn1, gn2, gn3, gn4, gn5, gp0, gno, gpo] <;> first | rfl | assumption | exact gp0 _ _ _ | exact gn0 _ _)) (by first | rfl | assumption)) rfl (eqr _ (by first | rfl | exact ps | exact pu | exact lpl (by assumption) | (simp [AV.plain, AV.plains, AV.cells, pc, pbv])))) (sco (sld rfl rfl (ldg (n := 2) (by kernel_rfl) (by first | assumption | (simp (disch := first | omega | (simp only [hNw, hPt]; omega)) only [gn0, gn1, gn2, gn3, gn4, gn5, gp0, gno, gpo] <;> first | rfl | assumption | exact gp0 _ _ _ | exact gn0 _ _)) (by first | rfl | assumption)) rfl (eqr _ (by first | rfl | exact ps | exact pu | exact lpl (by assumption) | (simp [AV.plain, AV.plains, AV.cells, pc, pbv])))) (sco (sld rfl rfl (ldg (n := 2) (by kernel_rfl) (by first | assumption | (simp (disch := first | omega | (simp only [hNw, hPt]; omega)) only [gn0, gn1, gn2, gn3, gn4, gn5, gp0, gno, gpo] <;> first | rfl | assumption | exact gp0 _ _ _ | exact gn0 _ _)) (by first | rfl | assumption)) rfl (eqr _ (by first | rfl | exact ps | exact pu | exact lpl (by assumption) | (simp [AV.plain, AV.plains, AV.cells, pc, pbv])))) (sco (sld rfl rfl (ldg (n := 2) (by kernel_rfl) (by first | assumption | (simp (disch := first | omega | (simp only [hNw, hPt]; omega)) only [gn0, gn1, gn2, gn3, gn4, gn5, gp0, gno, gpo] <;> first | rfl | assumption | exact gp0 _ _ _ | exact gn0 _ _)) (by first | rfl | assumption)) rfl (eqr _ (by first | rfl | exact ps | exact pu | exact lpl (by assumption) | (simp [AV.plain, AV.plains, AV.cells, pc, pbv])))) rfl)))), ?_⟩
    refine OkP.step ?_
    refine OkO.move rfl rfl ?_
    refine OkO.nil ⟨rfl, ?_⟩
    refine OkP.step ?_
    refine OkO.extract rfl rfl rfl ?_
    refine OkO.nil ⟨rfl, ?_⟩
    refine OkP.step ?_
    refine OkO.extract rfl rfl rfl ?_
    refine OkO.nil ⟨rfl, ?_⟩
    refine OkP.step ?_
    refine OkO.assign rfl rfl ?_
    refine OkO.nil ⟨rfl, ?_⟩
    refine OkP.step ?_
    refine OkO.assign rfl rfl ?_
    refine OkO.nil ⟨rfl, ?_⟩
    refine OkP.nil ?_
    refine Ok.seq ?_
    refine Ok.drawn [(0, true, []), (2, true, []), (4, true, []), (5, true, []), (1, false, [5, 4, 2]), (3, false, [5, 4, 0]), (6, false, [2, 0]), (7, false, [5, 4, 2, 0]), (8, false, [5, 4, 2, 0]), (9, true, []), (10, true, []), (11, true, []), (12, true, []), (13, true, [])] (by kernel_rfl) ?_
    refine OkP.step ?_
    refine OkO.load rfl rfl (ldg (n := 2) (by kernel_rfl) (by first | assumption | (simp (disch := first | omega | (simp only [hNw, hPt]; omega)) only [gn0, gn1, gn2, gn3, gn4, gn5, gp0, gno, gpo] <;> first | rfl | assumption | exact gp0 _ _ _ | exact gn0 _ _)) (by first | rfl | assumption)) ?_
    refine OkO.nil ⟨rfl, ?_⟩
    refine OkP.step ?_
    refine OkO.load rfl rfl (ldg (n := 2) (by kernel_rfl) (by first | assumption | (simp (disch := first | omega | (simp only [hNw, hPt]; omega)) only [gn0, gn1, gn2, gn3, gn4, gn5, gp0, gno, gpo] <;> first | rfl | assumption | exact gp0 _ _ _ | exact gn0 _ _)) (by first | rfl | assumption)) ?_
    refine OkO.nil ⟨rfl, ?_⟩
    refine OkP.step ?_
    refine OkO.load rfl rfl (ldg (n := 2) (by kernel_rfl) (by first | assumption | (simp (disch := first | omega | (simp only [hNw, hPt]; omega)) only [gn0, gn1, gn2, gn3, gn4, gn5, gp0, gno, gpo] <;> first | rfl | assumption | exact gp0 _ _ _ | exact gn0 _ _)) (by first | rfl | assumption)) ?_
    refine OkO.nil ⟨rfl, ?_⟩
    refine OkP.step ?_
    refine OkO.load rfl rfl (ldg (n := 2) (by kernel_rfl) (by first | assumption | (simp (disch := first | omega | (simp only [hNw, hPt]; omega)) only [gn0, gn1, gn2, gn3, gn4, gn5, gp0, gno, gpo] <;> first | rfl | assumption | exact gp0 _ _ _ | exact gn0 _ _)) (by first | rfl | assumption)) ?_
    refine OkO.nil ⟨rfl, ?_⟩
    refine OkP.step ?_
    refine OkO.callE rfl rfl rfl rfl rfl (c19 (m + 209) cv cols least _ (hM.ext (hE _ (by (try dsimp only); repeat (first | exact gg9 | apply Grow.new | (refine Grow.put ?_ _ (by first | omega | (simp only [hNw, hPt]; omega))))))) hth) ?_ -- "sackung/sackunglaw01.Slope"
    rintro _ Ha4 ⟨cv4, rfl, qa4, fa4⟩
    have n10 := qa4.ext.next
    try simp only [hNw, hPt] at n10
    have gg10 : Grow W Ha4 := Grow.ret (by (try dsimp only); repeat (first | exact gg9 | apply Grow.new | (refine Grow.put ?_ _ (by first | omega | (simp only [hNw, hPt]; omega))))) qa4
    have a10 : (Ha4.get (W.next)).bind AObj.cs = some [cv, I least] := by rw [qa4.ext.get _ (by first | omega | (simp only [hNw, hPt]; omega))]; first | assumption | (rw [gn0]; rfl) | (rw [get_put_eq] <;> rfl) | (simp (disch := first | omega | (simp only [hNw, hPt]; omega)) only [gn0, gn1, gn2, gn3, gn4, gn5, gp0, gno, gpo] <;> first | rfl | assumption | (rw [get_put_eq] <;> rfl))
    have u10 : (Ha4.get (H52.next)).bind AObj.cs = some [I (fr : Int), bv] := by rw [qa4.ext.get _ (by first | omega | (simp only [hNw, hPt]; omega))]; first | assumption | (rw [gn0]; rfl) | (rw [get_put_eq] <;> rfl) | (simp (disch := first | omega | (simp only [hNw, hPt]; omega)) only [gn0, gn1, gn2, gn3, gn4, gn5, gp0, gno, gpo] <;> first | rfl | assumption | (rw [get_put_eq] <;> rfl))
    have s10 : (Ha4.get (H52.next + 1)).bind AObj.cs = some [I sa, I sb] := by rw [qa4.ext.get _ (by first | omega | (simp only [hNw, hPt]; omega))]; first | assumption | (rw [gn0]; rfl) | (rw [get_put_eq] <;> rfl) | (simp (disch := first | omega | (simp only [hNw, hPt]; omega)) only [gn0, gn1, gn2, gn3, gn4, gn5, gp0, gno, gpo] <;> first | rfl | assumption | (rw [get_put_eq] <;> rfl))
    have exH5210 : Ext H52 Ha4 := Ext.trans (by (try dsimp only); repeat (first | exact exH529 | exact Ext.refl _ | apply Ext.new | (refine Ext.put ?_ _ (by first | omega | (simp only [hNw, hPt]; omega))))) qa4.ext
    have ma4 := fa4.now (Nat.le_refl _)
    refine OkO.nil ⟨(sco (sld rfl rfl (ldg (n := 2) (by kernel_rfl) (by first | assumption | (simp (disch := first | omega | (simp only [hNw, hPt]; omega)) only [gn0, gn1, gn2, gn3, gn4, gn5, gp0, gno, gpo] <;> first | rfl | assumption | exact gp0 _ _ _ | exact gn0 _ _)) (by first | rfl | assumption)) rfl (eqr _ (by first | rfl | exact ps | exact pu | exact lpl (by assumption) | (simp [AV.plain, AV.plains, AV.cells, pc, pbv])))) (sco (sld rfl rfl (ldg (n := 2) (by kernel_rfl) (by first | assumption | (simp (disch := first | omega | (simp only [hNw, hPt]; omega)) only [gn0, gn1, gn2, gn3, gn4, gn5, gp0, gno, gpo] <;> first | rfl | assumption | exact gp0 _ _ _ | exact gn0 _ _)) (by first | rfl | assumption)) rfl (eqr _ (by first | rfl | exact ps | exact pu | exact lpl (by assumption) | (simp [AV.plain, AV.plains, AV.cells, pc, pbv])))) (sco (sld rfl rfl (ldg (n := 2) (by kernel_rfl) (by first | assumption | (simp (disch := first | omega | (simp only [hNw, hPt]; omega)) only [gn0, gn1, gn2, gn3, gn4, gn5, gp0, gno, gpo] <;> first | rfl | assumption | exact gp0 _ _ _ | exact gn0 _ _)) (by first | rfl | assumption)) rfl (eqr _ (by first | rfl | exact ps | exact pu | exact lpl (by assumption) | (simp [AV.plain, AV.plains, AV.cells, pc, pbv])))) rfl))), ?_⟩
    refine OkP.step ?_
    refine OkO.callE rfl rfl rfl rfl rfl (c21 (m + 209) bv (fr : Int) (ofN us) _ (ints_N (hU.ext (by (try dsimp only); repeat (first | exact exH5210 | exact Ext.refl _ | apply Ext.new | (refine Ext.put ?_ _ (by first | omega | (simp only [hNw, hPt]; omega))))))) (by rw [ofN_len]; omega)) ?_ -- "sackung/sackunglaw01.Surface"
    rintro _ Hb4 ⟨bv4, rfl, qb4, fb4⟩
    have n11 := qb4.ext.next
    try simp only [hNw, hPt] at n11
    have gg11 : Grow W Hb4 := Grow.ret (by (try dsimp only); repeat (first | exact gg10 | apply Grow.new | (refine Grow.put ?_ _ (by first | omega | (simp only [hNw, hPt]; omega))))) qb4
    have a11 : (Hb4.get (W.next)).bind AObj.cs = some [cv, I least] := by rw [qb4.ext.get _ (by first | omega | (simp only [hNw, hPt]; omega))]; first | assumption | (rw [gn0]; rfl) | (rw [get_put_eq] <;> rfl) | (simp (disch := first | omega | (simp only [hNw, hPt]; omega)) only [gn0, gn1, gn2, gn3, gn4, gn5, gp0, gno, gpo] <;> first | rfl | assumption | (rw [get_put_eq] <;> rfl))
    have u11 : (Hb4.get (H52.next)).bind AObj.cs = some [I (fr : Int), bv] := by rw [qb4.ext.get _ (by first | omega | (simp only [hNw, hPt]; omega))]; first | assumption | (rw [gn0]; rfl) | (rw [get_put_eq] <;> rfl) | (simp (disch := first | omega | (simp only [hNw, hPt]; omega)) only [gn0, gn1, gn2, gn3, gn4, gn5, gp0, gno, gpo] <;> first | rfl | assumption | (rw [get_put_eq] <;> rfl))
    have s11 : (Hb4.get (H52.next + 1)).bind AObj.cs = some [I sa, I sb] := by rw [qb4.ext.get _ (by first | omega | (simp only [hNw, hPt]; omega))]; first | assumption | (rw [gn0]; rfl) | (rw [get_put_eq] <;> rfl) | (simp (disch := first | omega | (simp only [hNw, hPt]; omega)) only [gn0, gn1, gn2, gn3, gn4, gn5, gp0, gno, gpo] <;> first | rfl | assumption | (rw [get_put_eq] <;> rfl))
    have exH5211 : Ext H52 Hb4 := Ext.trans (by (try dsimp only); repeat (first | exact exH5210 | exact Ext.refl _ | apply Ext.new | (refine Ext.put ?_ _ (by first | omega | (simp only [hNw, hPt]; omega))))) qb4.ext
    have mb4 := ma4.ext qb4.ext
    have ib4 := fb4.now (Nat.le_refl _)
    refine OkO.nil ⟨(sco (sld rfl rfl (ldg (n := 2) (by kernel_rfl) (by first | assumption | (simp (disch := first | omega | (simp only [hNw, hPt]; omega)) only [gn0, gn1, gn2, gn3, gn4, gn5, gp0, gno, gpo] <;> first | rfl | assumption | exact gp0 _ _ _ | exact gn0 _ _)) (by first | rfl | assumption)) rfl (eqr _ (by first | rfl | exact ps | exact pu | exact lpl (by assumption) | (simp [AV.plain, AV.plains, AV.cells, pc, pbv])))) (sco (sld rfl rfl (ldg (n := 2) (by kernel_rfl) (by first | assumption | (simp (disch := first | omega | (simp only [hNw, hPt]; omega)) only [gn0, gn1, gn2, gn3, gn4, gn5, gp0, gno, gpo] <;> first | rfl | assumption | exact gp0 _ _ _ | exact gn0 _ _)) (by first | rfl | assumption)) rfl (eqr _ (by first | rfl | exact ps | exact pu | exact lpl (by assumption) | (simp [AV.plain, AV.plains, AV.cells, pc, pbv])))) (sco (sld rfl rfl (ldg (n := 2) (by kernel_rfl) (by first | assumption | (simp (disch := first | omega | (simp only [hNw, hPt]; omega)) only [gn0, gn1, gn2, gn3, gn4, gn5, gp0, gno, gpo] <;> first | rfl | assumption | exact gp0 _ _ _ | exact gn0 _ _)) (by first | rfl | assumption)) rfl (eqr _ (by first | rfl | exact ps | exact pu | exact lpl (by assumption) | (simp [AV.plain, AV.plains, AV.cells, pc, pbv])))) rfl))), ?_⟩
    refine OkP.step ?_
    refine OkO.callE rfl rfl rfl rfl rfl (c54 (m + 209) cv bv cols least fr us _ false _ (hM.ext (hE _ (by (try dsimp only); repeat (first | exact gg11 | apply Grow.new | (refine Grow.put ?_ _ (by first | omega | (simp only [hNw, hPt]; omega))))))) (hU.ext (by (try dsimp only); repeat (first | exact exH5211 | exact Ext.refl _ | apply Ext.new | (refine Ext.put ?_ _ (by first | omega | (simp only [hNw, hPt]; omega)))))) hpk (by omega) (by omega)) ?_ -- "sackung/sackungref01.Ends"
    rintro rv4 Hp4 ⟨qp4, rp4⟩
    have n12 := qp4.ext.next
    try simp only [hNw, hPt] at n12
    have gg12 : Grow W Hp4 := Grow.ret (by (try dsimp only); repeat (first | exact gg11 | apply Grow.new | (refine Grow.put ?_ _ (by first | omega | (simp only [hNw, hPt]; omega))))) qp4
    have a12 : (Hp4.get (W.next)).bind AObj.cs = some [cv, I least] := by rw [qp4.ext.get _ (by first | omega | (simp only [hNw, hPt]; omega))]; first | assumption | (rw [gn0]; rfl) | (rw [get_put_eq] <;> rfl) | (simp (disch := first | omega | (simp only [hNw, hPt]; omega)) only [gn0, gn1, gn2, gn3, gn4, gn5, gp0, gno, gpo] <;> first | rfl | assumption | (rw [get_put_eq] <;> rfl))
    have u12 : (Hp4.get (H52.next)).bind AObj.cs = some [I (fr : Int), bv] := by rw [qp4.ext.get _ (by first | omega | (simp only [hNw, hPt]; omega))]; first | assumption | (rw [gn0]; rfl) | (rw [get_put_eq] <;> rfl) | (simp (disch := first | omega | (simp only [hNw, hPt]; omega)) only [gn0, gn1, gn2, gn3, gn4, gn5, gp0, gno, gpo] <;> first | rfl | assumption | (rw [get_put_eq] <;> rfl))
    have s12 : (Hp4.get (H52.next + 1)).bind AObj.cs = some [I sa, I sb] := by rw [qp4.ext.get _ (by first | omega | (simp only [hNw, hPt]; omega))]; first | assumption | (rw [gn0]; rfl) | (rw [get_put_eq] <;> rfl) | (simp (disch := first | omega | (simp only [hNw, hPt]; omega)) only [gn0, gn1, gn2, gn3, gn4, gn5, gp0, gno, gpo] <;> first | rfl | assumption | (rw [get_put_eq] <;> rfl))
    have exH5212 : Ext H52 Hp4 := Ext.trans (by (try dsimp only); repeat (first | exact exH5211 | exact Ext.refl _ | apply Ext.new | (refine Ext.put ?_ _ (by first | omega | (simp only [hNw, hPt]; omega))))) qp4.ext
    obtain ⟨R4, hRe4⟩ : ∃ R, R = (bedsW cols fr us).map (endT false) := ⟨_, rfl⟩
    rw [← hRe4] at rp4
    have ft4 : fitsB (bedsW cols fr us) R4 = true := by rw [hRe4]; exact fits_ends hLok false
    have hR4 : R4.length ≤ 1000 := by rw [hRe4, List.length_map, bedsW_len]; omega
    refine OkO.nil ⟨(sco (sld rfl rfl (ldg (n := 2) (by kernel_rfl) (by first | assumption | (simp (disch := first | omega | (simp only [hNw, hPt]; omega)) only [gn0, gn1, gn2, gn3, gn4, gn5, gp0, gno, gpo] <;> first | rfl | assumption | exact gp0 _ _ _ | exact gn0 _ _)) (by first | rfl | assumption)) rfl (eqr _ (by first | rfl | exact ps | exact pu | exact lpl (by assumption) | (simp [AV.plain, AV.plains, AV.cells, pc, pbv])))) (sco (sld rfl rfl (ldg (n := 2) (by kernel_rfl) (by first | assumption | (simp (disch := first | omega | (simp only [hNw, hPt]; omega)) only [gn0, gn1, gn2, gn3, gn4, gn5, gp0, gno, gpo] <;> first | rfl | assumption | exact gp0 _ _ _ | exact gn0 _ _)) (by first | rfl | assumption)) rfl (eqr _ (by first | rfl | exact ps | exact pu | exact lpl (by assumption) | (simp [AV.plain, AV.plains, AV.cells, pc, pbv])))) rfl)), ?_⟩
    refine OkP.step ?_
    refine OkO.callE rfl rfl rfl rfl rfl (c22 (m + 210) rv4 R4 _ rp4 hR4) ?_ -- "sackung/sackunglaw01.Truth"
    rintro tv4 Ht4 ⟨qt4, ftt4⟩
    have n13 := qt4.ext.next
    try simp only [hNw, hPt] at n13
    have gg13 : Grow W Ht4 := Grow.ret (by (try dsimp only); repeat (first | exact gg12 | apply Grow.new | (refine Grow.put ?_ _ (by first | omega | (simp only [hNw, hPt]; omega))))) qt4
    have a13 : (Ht4.get (W.next)).bind AObj.cs = some [cv, I least] := by rw [qt4.ext.get _ (by first | omega | (simp only [hNw, hPt]; omega))]; first | assumption | (rw [gn0]; rfl) | (rw [get_put_eq] <;> rfl) | (simp (disch := first | omega | (simp only [hNw, hPt]; omega)) only [gn0, gn1, gn2, gn3, gn4, gn5, gp0, gno, gpo] <;> first | rfl | assumption | (rw [get_put_eq] <;> rfl))
    have u13 : (Ht4.get (H52.next)).bind AObj.cs = some [I (fr : Int), bv] := by rw [qt4.ext.get _ (by first | omega | (simp only [hNw, hPt]; omega))]; first | assumption | (rw [gn0]; rfl) | (rw [get_put_eq] <;> rfl) | (simp (disch := first | omega | (simp only [hNw, hPt]; omega)) only [gn0, gn1, gn2, gn3, gn4, gn5, gp0, gno, gpo] <;> first | rfl | assumption | (rw [get_put_eq] <;> rfl))
    have s13 : (Ht4.get (H52.next + 1)).bind AObj.cs = some [I sa, I sb] := by rw [qt4.ext.get _ (by first | omega | (simp only [hNw, hPt]; omega))]; first | assumption | (rw [gn0]; rfl) | (rw [get_put_eq] <;> rfl) | (simp (disch := first | omega | (simp only [hNw, hPt]; omega)) only [gn0, gn1, gn2, gn3, gn4, gn5, gp0, gno, gpo] <;> first | rfl | assumption | (rw [get_put_eq] <;> rfl))
    have exH5213 : Ext H52 Ht4 := Ext.trans (by (try dsimp only); repeat (first | exact exH5212 | exact Ext.refl _ | apply Ext.new | (refine Ext.put ?_ _ (by first | omega | (simp only [hNw, hPt]; omega))))) qt4.ext
    have rt4 := ftt4.now (Nat.le_refl _)
    have mt4 := mb4.ext (qp4.ext.trans qt4.ext)
    have it4 := ib4.1.ext (qp4.ext.trans qt4.ext)
    have ic4 := ib4.2.ext (qp4.ext.trans qt4.ext)
    refine OkO.nil ⟨(sco (sld rfl rfl (ldg (n := 2) (by kernel_rfl) (by first | assumption | (simp (disch := first | omega | (simp only [hNw, hPt]; omega)) only [gn0, gn1, gn2, gn3, gn4, gn5, gp0, gno, gpo] <;> first | rfl | assumption | exact gp0 _ _ _ | exact gn0 _ _)) (by first | rfl | assumption)) rfl (eqr _ (by first | rfl | exact ps | exact pu | exact lpl (by assumption) | (simp [AV.plain, AV.plains, AV.cells, pc, pbv])))) (sco (sld rfl rfl (ldg (n := 2) (by kernel_rfl) (by first | assumption | (simp (disch := first | omega | (simp only [hNw, hPt]; omega)) only [gn0, gn1, gn2, gn3, gn4, gn5, gp0, gno, gpo] <;> first | rfl | assumption | exact gp0 _ _ _ | exact gn0 _ _)) (by first | rfl | assumption)) rfl (eqr _ (by first | rfl | exact ps | exact pu | exact lpl (by assumption) | (simp [AV.plain, AV.plains, AV.cells, pc, pbv])))) (sco (sld rfl rfl (ldg (n := 2) (by kernel_rfl) (by first | assumption | (simp (disch := first | omega | (simp only [hNw, hPt]; omega)) only [gn0, gn1, gn2, gn3, gn4, gn5, gp0, gno, gpo] <;> first | rfl | assumption | exact gp0 _ _ _ | exact gn0 _ _)) (by first | rfl | assumption)) rfl (eqr _ (by first | rfl | exact ps | exact pu | exact lpl (by assumption) | (simp [AV.plain, AV.plains, AV.cells, pc, pbv])))) (sco (sld rfl rfl (ldg (n := 2) (by kernel_rfl) (by first | assumption | (simp (disch := first | omega | (simp only [hNw, hPt]; omega)) only [gn0, gn1, gn2, gn3, gn4, gn5, gp0, gno, gpo] <;> first | rfl | assumption | exact gp0 _ _ _ | exact gn0 _ _)) (by first | rfl | assumption)) rfl (eqr _ (by first | rfl | exact ps | exact pu | exact lpl (by assumption) | (simp [AV.plain, AV.plains, AV.cells, pc, pbv])))) rfl)))), ?_⟩
    refine OkP.step ?_
    have h20_4 := c20 (m + 202) cv4 bv4 tv4 cols least (fr : Int) (ofN us) R4 Ht4 mt4 it4 ic4 (by rw [ofN_len]; omega) rt4
    rw [hfac R4 ft4] at h20_4
    obtain ⟨fx4, fe4, hfv4⟩ : ∃ fx fe, faW cols fr us R4 = (fx, fe) := ⟨_, _, rfl⟩
    rw [hfv4] at h20_4
    refine OkO.callV rfl rfl rfl rfl rfl (h20_4) ?_ -- "sackung/slope.Factor"
    refine OkO.nil ⟨(sco (sld rfl rfl (ldg (n := 2) (by kernel_rfl) (by first | assumption | (simp (disch := first | omega | (simp only [hNw, hPt]; omega)) only [gn0, gn1, gn2, gn3, gn4, gn5, gp0, gno, gpo] <;> first | rfl | assumption | exact gp0 _ _ _ | exact gn0 _ _)) (by first | rfl | assumption)) rfl (eqr _ (by first | rfl | exact ps | exact pu | exact lpl (by assumption) | (simp [AV.plain, AV.plains, AV.cells, pc, pbv])))) (sco (sld rfl rfl (ldg (n := 2) (by kernel_rfl) (by first | assumption | (simp (disch := first | omega | (simp only [hNw, hPt]; omega)) only [gn0, gn1, gn2, gn3, gn4, gn5, gp0, gno, gpo] <;> first | rfl | assumption | exact gp0 _ _ _ | exact gn0 _ _)) (by first | rfl | assumption)) rfl (eqr _ (by first | rfl | exact ps | exact pu | exact lpl (by assumption) | (simp [AV.plain, AV.plains, AV.cells, pc, pbv])))) (sco (sld rfl rfl (ldg (n := 2) (by kernel_rfl) (by first | assumption | (simp (disch := first | omega | (simp only [hNw, hPt]; omega)) only [gn0, gn1, gn2, gn3, gn4, gn5, gp0, gno, gpo] <;> first | rfl | assumption | exact gp0 _ _ _ | exact gn0 _ _)) (by first | rfl | assumption)) rfl (eqr _ (by first | rfl | exact ps | exact pu | exact lpl (by assumption) | (simp [AV.plain, AV.plains, AV.cells, pc, pbv])))) (sco (sld rfl rfl (ldg (n := 2) (by kernel_rfl) (by first | assumption | (simp (disch := first | omega | (simp only [hNw, hPt]; omega)) only [gn0, gn1, gn2, gn3, gn4, gn5, gp0, gno, gpo] <;> first | rfl | assumption | exact gp0 _ _ _ | exact gn0 _ _)) (by first | rfl | assumption)) rfl (eqr _ (by first | rfl | exact ps | exact pu | exact lpl (by assumption) | (simp [AV.plain, AV.plains, AV.cells, pc, pbv])))) rfl)))), ?_⟩
    refine OkP.step ?_
    refine OkO.move rfl rfl ?_
    refine OkO.nil ⟨rfl, ?_⟩
    refine OkP.step ?_
    refine OkO.extract rfl rfl rfl ?_
    refine OkO.nil ⟨rfl, ?_⟩
    refine OkP.step ?_
    refine OkO.extract rfl rfl rfl ?_
    refine OkO.nil ⟨rfl, ?_⟩
    refine OkP.step ?_
    refine OkO.assign rfl rfl ?_
    refine OkO.nil ⟨rfl, ?_⟩
    refine OkP.step ?_
    refine OkO.assign rfl rfl ?_
    refine OkO.nil ⟨rfl, ?_⟩
    refine OkP.nil ?_
    refine Ok.seq ?_
    refine Ok.drawn [(0, true, []), (2, true, []), (4, true, []), (5, true, []), (1, false, [5, 4, 2]), (3, false, [5, 4, 0]), (6, false, [2, 0]), (7, false, [5, 4, 2, 0]), (8, false, [5, 4, 2, 0]), (9, true, []), (10, true, []), (11, true, []), (12, true, []), (13, true, [])] (by kernel_rfl) ?_
    refine OkP.step ?_
    refine OkO.load rfl rfl (ldg (n := 2) (by kernel_rfl) (by first | assumption | (simp (disch := first | omega | (simp only [hNw, hPt]; omega)) only [gn0, gn1, gn2, gn3, gn4, gn5, gp0, gno, gpo] <;> first | rfl | assumption | exact gp0 _ _ _ | exact gn0 _ _)) (by first | rfl | assumption)) ?_
    refine OkO.nil ⟨rfl, ?_⟩
    refine OkP.step ?_
    refine OkO.load rfl rfl (ldg (n := 2) (by kernel_rfl) (by first | assumption | (simp (disch := first | omega | (simp only [hNw, hPt]; omega)) only [gn0, gn1, gn2, gn3, gn4, gn5, gp0, gno, gpo] <;> first | rfl | assumption | exact gp0 _ _ _ | exact gn0 _ _)) (by first | rfl | assumption)) ?_
    refine OkO.nil ⟨rfl, ?_⟩
    refine OkP.step ?_
    refine OkO.load rfl rfl (ldg (n := 2) (by kernel_rfl) (by first | assumption | (simp (disch := first | omega | (simp only [hNw, hPt]; omega)) only [gn0, gn1, gn2, gn3, gn4, gn5, gp0, gno, gpo] <;> first | rfl | assumption | exact gp0 _ _ _ | exact gn0 _ _)) (by first | rfl | assumption)) ?_
    refine OkO.nil ⟨rfl, ?_⟩
    refine OkP.step ?_
    refine OkO.load rfl rfl (ldg (n := 2) (by kernel_rfl) (by first | assumption | (simp (disch := first | omega | (simp only [hNw, hPt]; omega)) only [gn0, gn1, gn2, gn3, gn4, gn5, gp0, gno, gpo] <;> first | rfl | assumption | exact gp0 _ _ _ | exact gn0 _ _)) (by first | rfl | assumption)) ?_
    refine OkO.nil ⟨rfl, ?_⟩
    refine OkP.step ?_
    refine OkO.callE rfl rfl rfl rfl rfl (c19 (m + 209) cv cols least _ (hM.ext (hE _ (by (try dsimp only); repeat (first | exact gg13 | apply Grow.new | (refine Grow.put ?_ _ (by first | omega | (simp only [hNw, hPt]; omega))))))) hth) ?_ -- "sackung/sackunglaw01.Slope"
    rintro _ Ha5 ⟨cv5, rfl, qa5, fa5⟩
    have n14 := qa5.ext.next
    try simp only [hNw, hPt] at n14
    have gg14 : Grow W Ha5 := Grow.ret (by (try dsimp only); repeat (first | exact gg13 | apply Grow.new | (refine Grow.put ?_ _ (by first | omega | (simp only [hNw, hPt]; omega))))) qa5
    have a14 : (Ha5.get (W.next)).bind AObj.cs = some [cv, I least] := by rw [qa5.ext.get _ (by first | omega | (simp only [hNw, hPt]; omega))]; first | assumption | (rw [gn0]; rfl) | (rw [get_put_eq] <;> rfl) | (simp (disch := first | omega | (simp only [hNw, hPt]; omega)) only [gn0, gn1, gn2, gn3, gn4, gn5, gp0, gno, gpo] <;> first | rfl | assumption | (rw [get_put_eq] <;> rfl))
    have u14 : (Ha5.get (H52.next)).bind AObj.cs = some [I (fr : Int), bv] := by rw [qa5.ext.get _ (by first | omega | (simp only [hNw, hPt]; omega))]; first | assumption | (rw [gn0]; rfl) | (rw [get_put_eq] <;> rfl) | (simp (disch := first | omega | (simp only [hNw, hPt]; omega)) only [gn0, gn1, gn2, gn3, gn4, gn5, gp0, gno, gpo] <;> first | rfl | assumption | (rw [get_put_eq] <;> rfl))
    have s14 : (Ha5.get (H52.next + 1)).bind AObj.cs = some [I sa, I sb] := by rw [qa5.ext.get _ (by first | omega | (simp only [hNw, hPt]; omega))]; first | assumption | (rw [gn0]; rfl) | (rw [get_put_eq] <;> rfl) | (simp (disch := first | omega | (simp only [hNw, hPt]; omega)) only [gn0, gn1, gn2, gn3, gn4, gn5, gp0, gno, gpo] <;> first | rfl | assumption | (rw [get_put_eq] <;> rfl))
    have exH5214 : Ext H52 Ha5 := Ext.trans (by (try dsimp only); repeat (first | exact exH5213 | exact Ext.refl _ | apply Ext.new | (refine Ext.put ?_ _ (by first | omega | (simp only [hNw, hPt]; omega))))) qa5.ext
    have ma5 := fa5.now (Nat.le_refl _)
    refine OkO.nil ⟨(sco (sld rfl rfl (ldg (n := 2) (by kernel_rfl) (by first | assumption | (simp (disch := first | omega | (simp only [hNw, hPt]; omega)) only [gn0, gn1, gn2, gn3, gn4, gn5, gp0, gno, gpo] <;> first | rfl | assumption | exact gp0 _ _ _ | exact gn0 _ _)) (by first | rfl | assumption)) rfl (eqr _ (by first | rfl | exact ps | exact pu | exact lpl (by assumption) | (simp [AV.plain, AV.plains, AV.cells, pc, pbv])))) (sco (sld rfl rfl (ldg (n := 2) (by kernel_rfl) (by first | assumption | (simp (disch := first | omega | (simp only [hNw, hPt]; omega)) only [gn0, gn1, gn2, gn3, gn4, gn5, gp0, gno, gpo] <;> first | rfl | assumption | exact gp0 _ _ _ | exact gn0 _ _)) (by first | rfl | assumption)) rfl (eqr _ (by first | rfl | exact ps | exact pu | exact lpl (by assumption) | (simp [AV.plain, AV.plains, AV.cells, pc, pbv])))) (sco (sld rfl rfl (ldg (n := 2) (by kernel_rfl) (by first | assumption | (simp (disch := first | omega | (simp only [hNw, hPt]; omega)) only [gn0, gn1, gn2, gn3, gn4, gn5, gp0, gno, gpo] <;> first | rfl | assumption | exact gp0 _ _ _ | exact gn0 _ _)) (by first | rfl | assumption)) rfl (eqr _ (by first | rfl | exact ps | exact pu | exact lpl (by assumption) | (simp [AV.plain, AV.plains, AV.cells, pc, pbv])))) rfl))), ?_⟩
    refine OkP.step ?_
    refine OkO.callE rfl rfl rfl rfl rfl (c21 (m + 209) bv (fr : Int) (ofN us) _ (ints_N (hU.ext (by (try dsimp only); repeat (first | exact exH5214 | exact Ext.refl _ | apply Ext.new | (refine Ext.put ?_ _ (by first | omega | (simp only [hNw, hPt]; omega))))))) (by rw [ofN_len]; omega)) ?_ -- "sackung/sackunglaw01.Surface"
    rintro _ Hb5 ⟨bv5, rfl, qb5, fb5⟩
    have n15 := qb5.ext.next
    try simp only [hNw, hPt] at n15
    have gg15 : Grow W Hb5 := Grow.ret (by (try dsimp only); repeat (first | exact gg14 | apply Grow.new | (refine Grow.put ?_ _ (by first | omega | (simp only [hNw, hPt]; omega))))) qb5
    have a15 : (Hb5.get (W.next)).bind AObj.cs = some [cv, I least] := by rw [qb5.ext.get _ (by first | omega | (simp only [hNw, hPt]; omega))]; first | assumption | (rw [gn0]; rfl) | (rw [get_put_eq] <;> rfl) | (simp (disch := first | omega | (simp only [hNw, hPt]; omega)) only [gn0, gn1, gn2, gn3, gn4, gn5, gp0, gno, gpo] <;> first | rfl | assumption | (rw [get_put_eq] <;> rfl))
    have u15 : (Hb5.get (H52.next)).bind AObj.cs = some [I (fr : Int), bv] := by rw [qb5.ext.get _ (by first | omega | (simp only [hNw, hPt]; omega))]; first | assumption | (rw [gn0]; rfl) | (rw [get_put_eq] <;> rfl) | (simp (disch := first | omega | (simp only [hNw, hPt]; omega)) only [gn0, gn1, gn2, gn3, gn4, gn5, gp0, gno, gpo] <;> first | rfl | assumption | (rw [get_put_eq] <;> rfl))
    have s15 : (Hb5.get (H52.next + 1)).bind AObj.cs = some [I sa, I sb] := by rw [qb5.ext.get _ (by first | omega | (simp only [hNw, hPt]; omega))]; first | assumption | (rw [gn0]; rfl) | (rw [get_put_eq] <;> rfl) | (simp (disch := first | omega | (simp only [hNw, hPt]; omega)) only [gn0, gn1, gn2, gn3, gn4, gn5, gp0, gno, gpo] <;> first | rfl | assumption | (rw [get_put_eq] <;> rfl))
    have exH5215 : Ext H52 Hb5 := Ext.trans (by (try dsimp only); repeat (first | exact exH5214 | exact Ext.refl _ | apply Ext.new | (refine Ext.put ?_ _ (by first | omega | (simp only [hNw, hPt]; omega))))) qb5.ext
    have mb5 := ma5.ext qb5.ext
    have ib5 := fb5.now (Nat.le_refl _)
    refine OkO.nil ⟨(sco (sld rfl rfl (ldg (n := 2) (by kernel_rfl) (by first | assumption | (simp (disch := first | omega | (simp only [hNw, hPt]; omega)) only [gn0, gn1, gn2, gn3, gn4, gn5, gp0, gno, gpo] <;> first | rfl | assumption | exact gp0 _ _ _ | exact gn0 _ _)) (by first | rfl | assumption)) rfl (eqr _ (by first | rfl | exact ps | exact pu | exact lpl (by assumption) | (simp [AV.plain, AV.plains, AV.cells, pc, pbv])))) (sco (sld rfl rfl (ldg (n := 2) (by kernel_rfl) (by first | assumption | (simp (disch := first | omega | (simp only [hNw, hPt]; omega)) only [gn0, gn1, gn2, gn3, gn4, gn5, gp0, gno, gpo] <;> first | rfl | assumption | exact gp0 _ _ _ | exact gn0 _ _)) (by first | rfl | assumption)) rfl (eqr _ (by first | rfl | exact ps | exact pu | exact lpl (by assumption) | (simp [AV.plain, AV.plains, AV.cells, pc, pbv])))) (sco (sld rfl rfl (ldg (n := 2) (by kernel_rfl) (by first | assumption | (simp (disch := first | omega | (simp only [hNw, hPt]; omega)) only [gn0, gn1, gn2, gn3, gn4, gn5, gp0, gno, gpo] <;> first | rfl | assumption | exact gp0 _ _ _ | exact gn0 _ _)) (by first | rfl | assumption)) rfl (eqr _ (by first | rfl | exact ps | exact pu | exact lpl (by assumption) | (simp [AV.plain, AV.plains, AV.cells, pc, pbv])))) rfl))), ?_⟩
    refine OkP.step ?_
    refine OkO.callE rfl rfl rfl rfl rfl (c54 (m + 209) cv bv cols least fr us _ true _ (hM.ext (hE _ (by (try dsimp only); repeat (first | exact gg15 | apply Grow.new | (refine Grow.put ?_ _ (by first | omega | (simp only [hNw, hPt]; omega))))))) (hU.ext (by (try dsimp only); repeat (first | exact exH5215 | exact Ext.refl _ | apply Ext.new | (refine Ext.put ?_ _ (by first | omega | (simp only [hNw, hPt]; omega)))))) hpk (by omega) (by omega)) ?_ -- "sackung/sackungref01.Ends"
    rintro rv5 Hp5 ⟨qp5, rp5⟩
    have n16 := qp5.ext.next
    try simp only [hNw, hPt] at n16
    have gg16 : Grow W Hp5 := Grow.ret (by (try dsimp only); repeat (first | exact gg15 | apply Grow.new | (refine Grow.put ?_ _ (by first | omega | (simp only [hNw, hPt]; omega))))) qp5
    have a16 : (Hp5.get (W.next)).bind AObj.cs = some [cv, I least] := by rw [qp5.ext.get _ (by first | omega | (simp only [hNw, hPt]; omega))]; first | assumption | (rw [gn0]; rfl) | (rw [get_put_eq] <;> rfl) | (simp (disch := first | omega | (simp only [hNw, hPt]; omega)) only [gn0, gn1, gn2, gn3, gn4, gn5, gp0, gno, gpo] <;> first | rfl | assumption | (rw [get_put_eq] <;> rfl))
    have u16 : (Hp5.get (H52.next)).bind AObj.cs = some [I (fr : Int), bv] := by rw [qp5.ext.get _ (by first | omega | (simp only [hNw, hPt]; omega))]; first | assumption | (rw [gn0]; rfl) | (rw [get_put_eq] <;> rfl) | (simp (disch := first | omega | (simp only [hNw, hPt]; omega)) only [gn0, gn1, gn2, gn3, gn4, gn5, gp0, gno, gpo] <;> first | rfl | assumption | (rw [get_put_eq] <;> rfl))
    have s16 : (Hp5.get (H52.next + 1)).bind AObj.cs = some [I sa, I sb] := by rw [qp5.ext.get _ (by first | omega | (simp only [hNw, hPt]; omega))]; first | assumption | (rw [gn0]; rfl) | (rw [get_put_eq] <;> rfl) | (simp (disch := first | omega | (simp only [hNw, hPt]; omega)) only [gn0, gn1, gn2, gn3, gn4, gn5, gp0, gno, gpo] <;> first | rfl | assumption | (rw [get_put_eq] <;> rfl))
    have exH5216 : Ext H52 Hp5 := Ext.trans (by (try dsimp only); repeat (first | exact exH5215 | exact Ext.refl _ | apply Ext.new | (refine Ext.put ?_ _ (by first | omega | (simp only [hNw, hPt]; omega))))) qp5.ext
    obtain ⟨R5, hRe5⟩ : ∃ R, R = (bedsW cols fr us).map (endT true) := ⟨_, rfl⟩
    rw [← hRe5] at rp5
    have ft5 : fitsB (bedsW cols fr us) R5 = true := by rw [hRe5]; exact fits_ends hLok true
    have hR5 : R5.length ≤ 1000 := by rw [hRe5, List.length_map, bedsW_len]; omega
    refine OkO.nil ⟨(sco (sld rfl rfl (ldg (n := 2) (by kernel_rfl) (by first | assumption | (simp (disch := first | omega | (simp only [hNw, hPt]; omega)) only [gn0, gn1, gn2, gn3, gn4, gn5, gp0, gno, gpo] <;> first | rfl | assumption | exact gp0 _ _ _ | exact gn0 _ _)) (by first | rfl | assumption)) rfl (eqr _ (by first | rfl | exact ps | exact pu | exact lpl (by assumption) | (simp [AV.plain, AV.plains, AV.cells, pc, pbv])))) (sco (sld rfl rfl (ldg (n := 2) (by kernel_rfl) (by first | assumption | (simp (disch := first | omega | (simp only [hNw, hPt]; omega)) only [gn0, gn1, gn2, gn3, gn4, gn5, gp0, gno, gpo] <;> first | rfl | assumption | exact gp0 _ _ _ | exact gn0 _ _)) (by first | rfl | assumption)) rfl (eqr _ (by first | rfl | exact ps | exact pu | exact lpl (by assumption) | (simp [AV.plain, AV.plains, AV.cells, pc, pbv])))) rfl)), ?_⟩
    refine OkP.step ?_
    refine OkO.callE rfl rfl rfl rfl rfl (c22 (m + 210) rv5 R5 _ rp5 hR5) ?_ -- "sackung/sackunglaw01.Truth"
    rintro tv5 Ht5 ⟨qt5, ftt5⟩
    have n17 := qt5.ext.next
    try simp only [hNw, hPt] at n17
    have gg17 : Grow W Ht5 := Grow.ret (by (try dsimp only); repeat (first | exact gg16 | apply Grow.new | (refine Grow.put ?_ _ (by first | omega | (simp only [hNw, hPt]; omega))))) qt5
    have a17 : (Ht5.get (W.next)).bind AObj.cs = some [cv, I least] := by rw [qt5.ext.get _ (by first | omega | (simp only [hNw, hPt]; omega))]; first | assumption | (rw [gn0]; rfl) | (rw [get_put_eq] <;> rfl) | (simp (disch := first | omega | (simp only [hNw, hPt]; omega)) only [gn0, gn1, gn2, gn3, gn4, gn5, gp0, gno, gpo] <;> first | rfl | assumption | (rw [get_put_eq] <;> rfl))
    have u17 : (Ht5.get (H52.next)).bind AObj.cs = some [I (fr : Int), bv] := by rw [qt5.ext.get _ (by first | omega | (simp only [hNw, hPt]; omega))]; first | assumption | (rw [gn0]; rfl) | (rw [get_put_eq] <;> rfl) | (simp (disch := first | omega | (simp only [hNw, hPt]; omega)) only [gn0, gn1, gn2, gn3, gn4, gn5, gp0, gno, gpo] <;> first | rfl | assumption | (rw [get_put_eq] <;> rfl))
    have s17 : (Ht5.get (H52.next + 1)).bind AObj.cs = some [I sa, I sb] := by rw [qt5.ext.get _ (by first | omega | (simp only [hNw, hPt]; omega))]; first | assumption | (rw [gn0]; rfl) | (rw [get_put_eq] <;> rfl) | (simp (disch := first | omega | (simp only [hNw, hPt]; omega)) only [gn0, gn1, gn2, gn3, gn4, gn5, gp0, gno, gpo] <;> first | rfl | assumption | (rw [get_put_eq] <;> rfl))
    have exH5217 : Ext H52 Ht5 := Ext.trans (by (try dsimp only); repeat (first | exact exH5216 | exact Ext.refl _ | apply Ext.new | (refine Ext.put ?_ _ (by first | omega | (simp only [hNw, hPt]; omega))))) qt5.ext
    have rt5 := ftt5.now (Nat.le_refl _)
    have mt5 := mb5.ext (qp5.ext.trans qt5.ext)
    have it5 := ib5.1.ext (qp5.ext.trans qt5.ext)
    have ic5 := ib5.2.ext (qp5.ext.trans qt5.ext)
    refine OkO.nil ⟨(sco (sld rfl rfl (ldg (n := 2) (by kernel_rfl) (by first | assumption | (simp (disch := first | omega | (simp only [hNw, hPt]; omega)) only [gn0, gn1, gn2, gn3, gn4, gn5, gp0, gno, gpo] <;> first | rfl | assumption | exact gp0 _ _ _ | exact gn0 _ _)) (by first | rfl | assumption)) rfl (eqr _ (by first | rfl | exact ps | exact pu | exact lpl (by assumption) | (simp [AV.plain, AV.plains, AV.cells, pc, pbv])))) (sco (sld rfl rfl (ldg (n := 2) (by kernel_rfl) (by first | assumption | (simp (disch := first | omega | (simp only [hNw, hPt]; omega)) only [gn0, gn1, gn2, gn3, gn4, gn5, gp0, gno, gpo] <;> first | rfl | assumption | exact gp0 _ _ _ | exact gn0 _ _)) (by first | rfl | assumption)) rfl (eqr _ (by first | rfl | exact ps | exact pu | exact lpl (by assumption) | (simp [AV.plain, AV.plains, AV.cells, pc, pbv])))) (sco (sld rfl rfl (ldg (n := 2) (by kernel_rfl) (by first | assumption | (simp (disch := first | omega | (simp only [hNw, hPt]; omega)) only [gn0, gn1, gn2, gn3, gn4, gn5, gp0, gno, gpo] <;> first | rfl | assumption | exact gp0 _ _ _ | exact gn0 _ _)) (by first | rfl | assumption)) rfl (eqr _ (by first | rfl | exact ps | exact pu | exact lpl (by assumption) | (simp [AV.plain, AV.plains, AV.cells, pc, pbv])))) (sco (sld rfl rfl (ldg (n := 2) (by kernel_rfl) (by first | assumption | (simp (disch := first | omega | (simp only [hNw, hPt]; omega)) only [gn0, gn1, gn2, gn3, gn4, gn5, gp0, gno, gpo] <;> first | rfl | assumption | exact gp0 _ _ _ | exact gn0 _ _)) (by first | rfl | assumption)) rfl (eqr _ (by first | rfl | exact ps | exact pu | exact lpl (by assumption) | (simp [AV.plain, AV.plains, AV.cells, pc, pbv])))) rfl)))), ?_⟩
    refine OkP.step ?_
    have h20_5 := c20 (m + 202) cv5 bv5 tv5 cols least (fr : Int) (ofN us) R5 Ht5 mt5 it5 ic5 (by rw [ofN_len]; omega) rt5
    rw [hfac R5 ft5] at h20_5
    obtain ⟨fx5, fe5, hfv5⟩ : ∃ fx fe, faW cols fr us R5 = (fx, fe) := ⟨_, _, rfl⟩
    rw [hfv5] at h20_5
    refine OkO.callV rfl rfl rfl rfl rfl (h20_5) ?_ -- "sackung/slope.Factor"
    refine OkO.nil ⟨(sco (sld rfl rfl (ldg (n := 2) (by kernel_rfl) (by first | assumption | (simp (disch := first | omega | (simp only [hNw, hPt]; omega)) only [gn0, gn1, gn2, gn3, gn4, gn5, gp0, gno, gpo] <;> first | rfl | assumption | exact gp0 _ _ _ | exact gn0 _ _)) (by first | rfl | assumption)) rfl (eqr _ (by first | rfl | exact ps | exact pu | exact lpl (by assumption) | (simp [AV.plain, AV.plains, AV.cells, pc, pbv])))) (sco (sld rfl rfl (ldg (n := 2) (by kernel_rfl) (by first | assumption | (simp (disch := first | omega | (simp only [hNw, hPt]; omega)) only [gn0, gn1, gn2, gn3, gn4, gn5, gp0, gno, gpo] <;> first | rfl | assumption | exact gp0 _ _ _ | exact gn0 _ _)) (by first | rfl | assumption)) rfl (eqr _ (by first | rfl | exact ps | exact pu | exact lpl (by assumption) | (simp [AV.plain, AV.plains, AV.cells, pc, pbv])))) (sco (sld rfl rfl (ldg (n := 2) (by kernel_rfl) (by first | assumption | (simp (disch := first | omega | (simp only [hNw, hPt]; omega)) only [gn0, gn1, gn2, gn3, gn4, gn5, gp0, gno, gpo] <;> first | rfl | assumption | exact gp0 _ _ _ | exact gn0 _ _)) (by first | rfl | assumption)) rfl (eqr _ (by first | rfl | exact ps | exact pu | exact lpl (by assumption) | (simp [AV.plain, AV.plains, AV.cells, pc, pbv])))) (sco (sld rfl rfl (ldg (n := 2) (by kernel_rfl) (by first | assumption | (simp (disch := first | omega | (simp only [hNw, hPt]; omega)) only [gn0, gn1, gn2, gn3, gn4, gn5, gp0, gno, gpo] <;> first | rfl | assumption | exact gp0 _ _ _ | exact gn0 _ _)) (by first | rfl | assumption)) rfl (eqr _ (by first | rfl | exact ps | exact pu | exact lpl (by assumption) | (simp [AV.plain, AV.plains, AV.cells, pc, pbv])))) rfl)))), ?_⟩
    refine OkP.step ?_
    refine OkO.move rfl rfl ?_
    refine OkO.nil ⟨rfl, ?_⟩
    refine OkP.step ?_
    refine OkO.extract rfl rfl rfl ?_
    refine OkO.nil ⟨rfl, ?_⟩
    refine OkP.step ?_
    refine OkO.extract rfl rfl rfl ?_
    refine OkO.nil ⟨rfl, ?_⟩
    refine OkP.step ?_
    refine OkO.assign rfl rfl ?_
    refine OkO.nil ⟨rfl, ?_⟩
    refine OkP.step ?_
    refine OkO.assign rfl rfl ?_
    refine OkO.nil ⟨rfl, ?_⟩
    refine OkP.nil ?_
    refine Ok.seq ?_
    refine Ok.seq ?_
    refine Ok.region ?_
    refine OkO.move rfl rfl ?_
    refine OkO.bin rfl rfl rfl (bin_neq _ _) ?_
    refine OkO.nil ?_
    refine Ok.cond rfl (fun h2 => ?_) (fun h2 => ?_)
    · -- yes h2
      have hcase : (1 ≤ drive (bedsW cols fr us) ∧ sa = facW cols fr us ∧ sb = factorOf (sumB strong (bedsW cols fr us)) (drive (bedsW cols fr us)) ∧ se = 0) ∨ (¬ 1 ≤ drive (bedsW cols fr us) ∧ se = 7) := by (unfold spW at hspv); (split at hspv); (· cases hspv; exact .inl ⟨by assumption, rfl, rfl, rfl⟩); (· cases hspv; exact .inr ⟨by assumption, rfl⟩)
      have hc3 : (1 ≤ drive (bedsW cols fr us) ∧ fx3 = factorOf (held (bedsW cols fr us) R3) (drive (bedsW cols fr us)) ∧ fe3 = 0) ∨ (¬ 1 ≤ drive (bedsW cols fr us) ∧ fe3 = 7) := by (unfold faW at hfv3); (split at hfv3); (· cases hfv3; exact .inl ⟨by assumption, rfl, rfl⟩); (· cases hfv3; exact .inr ⟨by assumption, rfl⟩)
      have hc4 : (1 ≤ drive (bedsW cols fr us) ∧ fx4 = factorOf (held (bedsW cols fr us) R4) (drive (bedsW cols fr us)) ∧ fe4 = 0) ∨ (¬ 1 ≤ drive (bedsW cols fr us) ∧ fe4 = 7) := by (unfold faW at hfv4); (split at hfv4); (· cases hfv4; exact .inl ⟨by assumption, rfl, rfl⟩); (· cases hfv4; exact .inr ⟨by assumption, rfl⟩)
      have hc5 : (1 ≤ drive (bedsW cols fr us) ∧ fx5 = factorOf (held (bedsW cols fr us) R5) (drive (bedsW cols fr us)) ∧ fe5 = 0) ∨ (¬ 1 ≤ drive (bedsW cols fr us) ∧ fe5 = 7) := by (unfold faW at hfv5); (split at hfv5); (· cases hfv5; exact .inl ⟨by assumption, rfl, rfl⟩); (· cases hfv5; exact .inr ⟨by assumption, rfl⟩)
      have hse : se = 7 := by (rcases hcase with h | h); (· simp [h.2.2.2] at h2); (· exact h.2)
      have hnd : ¬ 1 ≤ drive (bedsW cols fr us) := by (rcases hcase with h | h); (· (have := h.2.2.2); omega); (· exact h.1)
      have hfe3 : fe3 = 7 := by (rcases hc3 with h | h); (· exact absurd h.1 hnd); (· exact h.2)
      have hfe4 : fe4 = 7 := by (rcases hc4 with h | h); (· exact absurd h.1 hnd); (· exact h.2)
      have hfe5 : fe5 = 7 := by (rcases hc5 with h | h); (· exact absurd h.1 hnd); (· exact h.2)
      refine Ok.seq ?_
      refine Ok.region ?_
      refine OkO.move rfl rfl ?_
      refine OkO.bin rfl rfl rfl (bin_eql _ _) ?_
      refine OkO.move rfl rfl ?_
      refine OkO.split (d := 82) rfl (fun g3 => ?_) (fun g3 => ?_)
      · -- true g3
        refine OkO.move rfl rfl ?_
        refine OkO.move rfl rfl ?_
        refine OkO.bin rfl rfl rfl (bin_eql _ _) ?_
        refine OkO.pick (b := true) rfl rfl (fun _ => rfl) nofun ?_
        refine OkO.move rfl rfl ?_
        refine OkO.split (d := 87) rfl (fun g4 => ?_) (fun g4 => ?_)
        · -- true g4
          refine OkO.move rfl rfl ?_
          refine OkO.move rfl rfl ?_
          refine OkO.bin rfl rfl rfl (bin_eql _ _) ?_
          refine OkO.pick (b := true) rfl rfl (fun _ => rfl) nofun ?_
          refine OkO.move rfl rfl ?_
          refine OkO.split (d := 92) rfl (fun g5 => ?_) (fun g5 => ?_)
          · -- true g5
            refine OkO.move rfl rfl ?_
            refine OkO.move rfl rfl ?_
            refine OkO.bin rfl rfl rfl (bin_eql _ _) ?_
            refine OkO.pick (b := true) rfl rfl (fun _ => rfl) nofun ?_
            refine OkO.move rfl rfl ?_
            refine OkO.split (d := 97) rfl (fun g6 => ?_) (fun g6 => ?_)
            · -- true g6
              refine OkO.move rfl rfl ?_
              refine OkO.bin rfl rfl rfl (bin_eql _ _) ?_
              refine OkO.move rfl rfl ?_
              refine OkO.split (d := 100) rfl (fun g7 => ?_) (fun g7 => ?_)
              · -- true g7
                refine OkO.skip rfl ?_
                refine OkO.skip rfl ?_
                refine OkO.pick (b := true) rfl rfl (fun _ => rfl) nofun ?_
                refine OkO.pick (b := true) rfl rfl (fun _ => rfl) nofun ?_
                refine OkO.move rfl rfl ?_
                refine OkO.callV rfl rfl rfl rfl rfl (rfl) ?_ -- "sackung/sackunglaw01.wakes"
                refine OkO.pick (b := true) rfl rfl (fun _ => rfl) nofun ?_
                refine OkO.assign rfl rfl ?_
                refine OkO.nil ?_
                refine Ok.ret ⟨.inr rfl, ?_⟩
                exact back_flat rfl rfl rfl (by rw [← hW]; exact (by (try dsimp only); repeat (first | exact gg17 | apply Grow.new | (refine Grow.put ?_ _ (by first | omega | (simp only [hNw, hPt]; omega))))))
              · -- false g7
                refine OkO.move rfl rfl ?_
                refine OkO.bin rfl rfl rfl (bin_eql _ _) ?_
                refine OkO.pick (b := false) rfl rfl nofun (fun _ => rfl) ?_
                refine OkO.pick (b := true) rfl rfl (fun _ => rfl) nofun ?_
                refine OkO.move rfl rfl ?_
                refine OkO.split (d := 105) rfl (fun g8 => ?_) (fun g8 => ?_)
                · -- true g8
                  refine OkO.callV rfl rfl rfl rfl rfl (rfl) ?_ -- "sackung/sackunglaw01.wakes"
                  refine OkO.pick (b := true) rfl rfl (fun _ => rfl) nofun ?_
                  refine OkO.assign rfl rfl ?_
                  refine OkO.nil ?_
                  refine Ok.ret ⟨.inr rfl, ?_⟩
                  exact back_flat rfl rfl rfl (by rw [← hW]; exact (by (try dsimp only); repeat (first | exact gg17 | apply Grow.new | (refine Grow.put ?_ _ (by first | omega | (simp only [hNw, hPt]; omega))))))
                · -- false g8
                  exact absurd g8 (by rcases hd31 with ⟨h, _⟩ | ⟨h, _⟩ <;> simp [h] at g7 ⊢)
            · -- false g6
              exact absurd g6 (by simp [hse, hfe5])
          · -- false g5
            exact absurd g5 (by simp [hse, hfe4])
        · -- false g4
          exact absurd g4 (by simp [hse, hfe3])
      · -- false g3
        exact absurd g3 (by simp [hse])
    · -- no h2
      have hcase : (1 ≤ drive (bedsW cols fr us) ∧ sa = facW cols fr us ∧ sb = factorOf (sumB strong (bedsW cols fr us)) (drive (bedsW cols fr us)) ∧ se = 0) ∨ (¬ 1 ≤ drive (bedsW cols fr us) ∧ se = 7) := by (unfold spW at hspv); (split at hspv); (· cases hspv; exact .inl ⟨by assumption, rfl, rfl, rfl⟩); (· cases hspv; exact .inr ⟨by assumption, rfl⟩)
      have hc3 : (1 ≤ drive (bedsW cols fr us) ∧ fx3 = factorOf (held (bedsW cols fr us) R3) (drive (bedsW cols fr us)) ∧ fe3 = 0) ∨ (¬ 1 ≤ drive (bedsW cols fr us) ∧ fe3 = 7) := by (unfold faW at hfv3); (split at hfv3); (· cases hfv3; exact .inl ⟨by assumption, rfl, rfl⟩); (· cases hfv3; exact .inr ⟨by assumption, rfl⟩)
      have hc4 : (1 ≤ drive (bedsW cols fr us) ∧ fx4 = factorOf (held (bedsW cols fr us) R4) (drive (bedsW cols fr us)) ∧ fe4 = 0) ∨ (¬ 1 ≤ drive (bedsW cols fr us) ∧ fe4 = 7) := by (unfold faW at hfv4); (split at hfv4); (· cases hfv4; exact .inl ⟨by assumption, rfl, rfl⟩); (· cases hfv4; exact .inr ⟨by assumption, rfl⟩)
      have hc5 : (1 ≤ drive (bedsW cols fr us) ∧ fx5 = factorOf (held (bedsW cols fr us) R5) (drive (bedsW cols fr us)) ∧ fe5 = 0) ∨ (¬ 1 ≤ drive (bedsW cols fr us) ∧ fe5 = 7) := by (unfold faW at hfv5); (split at hfv5); (· cases hfv5; exact .inl ⟨by assumption, rfl, rfl⟩); (· cases hfv5; exact .inr ⟨by assumption, rfl⟩)
      have hse : se = 0 := by (have h9 : ¬ ¬ se = 0 := by simpa using h2); omega
      have hyd : 1 ≤ drive (bedsW cols fr us) := by (rcases hcase with h | h); (· exact h.1); (· (have := h.2); omega)
      obtain ⟨hfx3, hfe3⟩ : fx3 = factorOf (held (bedsW cols fr us) R3) (drive (bedsW cols fr us)) ∧ fe3 = 0 := by (rcases hc3 with h | h); (· exact h.2); (· exact absurd hyd h.1)
      obtain ⟨hfx4, hfe4⟩ : fx4 = factorOf (held (bedsW cols fr us) R4) (drive (bedsW cols fr us)) ∧ fe4 = 0 := by (rcases hc4 with h | h); (· exact h.2); (· exact absurd hyd h.1)
      obtain ⟨hfx5, hfe5⟩ : fx5 = factorOf (held (bedsW cols fr us) R5) (drive (bedsW cols fr us)) ∧ fe5 = 0 := by (rcases hc5 with h | h); (· exact h.2); (· exact absurd hyd h.1)
      obtain ⟨hsa, hsb⟩ : sa = facW cols fr us ∧ sb = factorOf (sumB strong (bedsW cols fr us)) (drive (bedsW cols fr us)) := by (rcases hcase with h | h); (· exact ⟨h.2.1, h.2.2.1⟩); (· exact absurd hyd h.1)
      obtain ⟨he31, hz31⟩ : e31 = 0 ∧ z31 ≤ facW cols fr us := by (rcases hd31 with ⟨h, f9, u9, _, _, _, h9⟩ | ⟨_, _, _, _, _, h9⟩); (· exact ⟨h, h9.2.2.2 fr us hs hyd⟩); (· exact absurd (h9 fr us hs) (by omega))
      have hb3 := hheld R3 ft3
      have hm1 := factorOf_mono hb3.1 hyd
      have hm2 := factorOf_mono hb3.2 hyd
      have hw4 : fx4 = sa := by rw [hfx4, hsa, hRe4, held_end false weak (fun _ => rfl)]; rfl
      have hw5 : fx5 = sb := by rw [hfx5, hsb, hRe5, held_end true strong (fun _ => rfl)]
      have hfw : facW cols fr us = factorOf (sumB weak (bedsW cols fr us)) (drive (bedsW cols fr us)) := rfl
      refine Ok.skip ?_
      refine Ok.seq ?_
      refine Ok.region ?_
      refine OkO.move rfl rfl ?_
      refine OkO.bin rfl rfl rfl (bin_eql _ _) ?_
      refine OkO.move rfl rfl ?_
      refine OkO.split (d := 110) rfl (fun g9 => ?_) (fun g9 => ?_)
      · -- true g9
        refine OkO.move rfl rfl ?_
        refine OkO.bin rfl rfl rfl (bin_eql _ _) ?_
        refine OkO.pick (b := true) rfl rfl (fun _ => rfl) nofun ?_
        refine OkO.move rfl rfl ?_
        refine OkO.split (d := 114) rfl (fun g10 => ?_) (fun g10 => ?_)
        · -- true g10
          refine OkO.move rfl rfl ?_
          refine OkO.bin rfl rfl rfl (bin_eql _ _) ?_
          refine OkO.pick (b := true) rfl rfl (fun _ => rfl) nofun ?_
          refine OkO.move rfl rfl ?_
          refine OkO.split (d := 118) rfl (fun g11 => ?_) (fun g11 => ?_)
          · -- true g11
            refine OkO.move rfl rfl ?_
            refine OkO.bin rfl rfl rfl (bin_eql _ _) ?_
            refine OkO.pick (b := true) rfl rfl (fun _ => rfl) nofun ?_
            refine OkO.move rfl rfl ?_
            refine OkO.split (d := 122) rfl (fun g12 => ?_) (fun g12 => ?_)
            · -- true g12
              refine OkO.move rfl rfl ?_
              refine OkO.fieldAddr (o := 0) rfl (by kernel_rfl) rfl ?_
              refine OkO.load rfl rfl (lda (n := 1) (by kernel_rfl) (by first | assumption | (simp (disch := first | omega | (simp only [hNw, hPt]; omega)) only [gn0, gn1, gn2, gn3, gn4, gn5, gp0, gno, gpo] <;> first | rfl | assumption | exact gp0 _ _ _ | exact gn0 _ _)) (by first | rfl | assumption)) ?_
              refine OkO.bin rfl rfl rfl (bin_eql _ _) ?_
              refine OkO.pick (b := true) rfl rfl (fun _ => rfl) nofun ?_
              refine OkO.move rfl rfl ?_
              refine OkO.split (d := 128) rfl (fun g13 => ?_) (fun g13 => ?_)
              · -- true g13
                refine OkO.move rfl rfl ?_
                refine OkO.fieldAddr (o := 1) rfl (by kernel_rfl) rfl ?_
                refine OkO.load rfl rfl (lda (n := 1) (by kernel_rfl) (by first | assumption | (simp (disch := first | omega | (simp only [hNw, hPt]; omega)) only [gn0, gn1, gn2, gn3, gn4, gn5, gp0, gno, gpo] <;> first | rfl | assumption | exact gp0 _ _ _ | exact gn0 _ _)) (by first | rfl | assumption)) ?_
                refine OkO.bin rfl rfl rfl (bin_eql _ _) ?_
                refine OkO.pick (b := true) rfl rfl (fun _ => rfl) nofun ?_
                refine OkO.move rfl rfl ?_
                refine OkO.split (d := 134) rfl (fun g14 => ?_) (fun g14 => ?_)
                · -- true g14
                  refine OkO.move rfl rfl ?_
                  refine OkO.fieldAddr (o := 0) rfl (by kernel_rfl) rfl ?_
                  refine OkO.load rfl rfl (lda (n := 1) (by kernel_rfl) (by first | assumption | (simp (disch := first | omega | (simp only [hNw, hPt]; omega)) only [gn0, gn1, gn2, gn3, gn4, gn5, gp0, gno, gpo] <;> first | rfl | assumption | exact gp0 _ _ _ | exact gn0 _ _)) (by first | rfl | assumption)) ?_
                  refine OkO.bin rfl rfl rfl (bin_geq _ _) ?_
                  refine OkO.pick (b := true) rfl rfl (fun _ => rfl) nofun ?_
                  refine OkO.move rfl rfl ?_
                  refine OkO.split (d := 140) rfl (fun g15 => ?_) (fun g15 => ?_)
                  · -- true g15
                    refine OkO.move rfl rfl ?_
                    refine OkO.fieldAddr (o := 1) rfl (by kernel_rfl) rfl ?_
                    refine OkO.load rfl rfl (lda (n := 1) (by kernel_rfl) (by first | assumption | (simp (disch := first | omega | (simp only [hNw, hPt]; omega)) only [gn0, gn1, gn2, gn3, gn4, gn5, gp0, gno, gpo] <;> first | rfl | assumption | exact gp0 _ _ _ | exact gn0 _ _)) (by first | rfl | assumption)) ?_
                    refine OkO.bin rfl rfl rfl (bin_leq _ _) ?_
                    refine OkO.pick (b := true) rfl rfl (fun _ => rfl) nofun ?_
                    refine OkO.move rfl rfl ?_
                    refine OkO.split (d := 146) rfl (fun g16 => ?_) (fun g16 => ?_)
                    · -- true g16
                      refine OkO.move rfl rfl ?_
                      refine OkO.fieldAddr (o := 0) rfl (by kernel_rfl) rfl ?_
                      refine OkO.load rfl rfl (lda (n := 1) (by kernel_rfl) (by first | assumption | (simp (disch := first | omega | (simp only [hNw, hPt]; omega)) only [gn0, gn1, gn2, gn3, gn4, gn5, gp0, gno, gpo] <;> first | rfl | assumption | exact gp0 _ _ _ | exact gn0 _ _)) (by first | rfl | assumption)) ?_
                      refine OkO.bin rfl rfl rfl (bin_leq _ _) ?_
                      refine OkO.pick (b := true) rfl rfl (fun _ => rfl) nofun ?_
                      refine OkO.move rfl rfl ?_
                      refine OkO.split (d := 152) rfl (fun g17 => ?_) (fun g17 => ?_)
                      · -- true g17
                        refine OkO.callV rfl rfl rfl rfl rfl (rfl) ?_ -- "sackung/sackunglaw01.wakes"
                        refine OkO.pick (b := true) rfl rfl (fun _ => rfl) nofun ?_
                        refine OkO.assign rfl rfl ?_
                        refine OkO.nil ?_
                        refine Ok.ret ⟨.inr rfl, ?_⟩
                        exact back_flat rfl rfl rfl (by rw [← hW]; exact (by (try dsimp only); repeat (first | exact gg17 | apply Grow.new | (refine Grow.put ?_ _ (by first | omega | (simp only [hNw, hPt]; omega))))))
                      · -- false g17
                        exact absurd g17 (by simp; omega)
                    · -- false g16
                      exact absurd g16 (by simp; omega)
                  · -- false g15
                    exact absurd g15 (by simp; omega)
                · -- false g14
                  exact absurd g14 (by simp [hw5])
              · -- false g13
                exact absurd g13 (by simp [hw4])
            · -- false g12
              exact absurd g12 (by simp [hfe5])
          · -- false g11
            exact absurd g11 (by simp [hfe4])
        · -- false g10
          exact absurd g10 (by simp [hfe3])
      · -- false g9
        exact absurd g9 (by simp [he31])
theorem c10W (m : Nat) (cv wv tv : AV) (cols : List (List Bed)) (least : Int) (ws ts : List Int) (H : Heap) (hM : Mat H cv cols) (hWs : Row H wv 1 (ws.map fun w => [U8 w])) (hws : Upto 255 ws) (hTs : Row H tv 1 (ts.map fun w => [U16 w])) (hts : Upto 65535 ts) (hrd : readyS cols least = false) : RR (m + 212) (.fn 10 [.agg [cv, I least], wv, tv]) H = some (.bool true, H) := by
  refine (R_fn _ _ _ _ _).trans ?_
  refine fn_ok Try.func10 rfl rfl (by kernel_rfl) (by kernel_rfl) ?_
  obtain ⟨W, hW⟩ : ∃ W : Heap, W = ⟨H.t, H.next, H.next⟩ := ⟨_, rfl⟩
  have hg : ∀ n, W.get n = H.get n := fun n => by rw [hW]; rfl
  have hN : W.next = H.next := by rw [hW]
  have hE : ∀ G, Grow W G → Ext H G := fun G g => ⟨by rw [← hN]; exact g.next, fun n k => by rw [g.get n (by rw [hN]; exact k), hg]⟩
  have hG : Grow W W := Grow.refl (by rw [hW]; exact Nat.le_refl _)
  rw [← hW]
  refine Ok.seq ?_
  refine Ok.region ?_
  refine OkO.box rfl rfl ?_
  refine OkO.assign rfl rfl ?_
  refine OkO.nil ?_
  refine Ok.seq ?_
  refine Ok.seq ?_
  refine Ok.region ?_
  refine OkO.load rfl rfl (ldg (n := 2) (by kernel_rfl) (by first | assumption | (simp (disch := first | omega | (simp only [hNw, hPt]; omega)) only [gn0, gn1, gn2, gn3, gn4, gn5, gp0, gno, gpo] <;> first | rfl | assumption | exact gp0 _ _ _ | exact gn0 _ _)) (by first | rfl | assumption)) ?_
  refine OkO.callV rfl rfl rfl rfl rfl ((c51 (m + 208) cv cols least _ (hM.ext (hE _ (by (try dsimp only); repeat (first | exact hG | apply Grow.new | (refine Grow.put ?_ _ (by first | omega | (simp only [hNw, hPt]; omega)))))))).trans (by rw [hrd])) ?_ -- "sackung/sackunglaw01.ready"
  refine OkO.un rfl rfl rfl ?_
  refine OkO.nil ?_
  refine Ok.cond rfl (fun h1 => ?_) (fun h1 => ?_)
  · -- yes h1
    refine Ok.seq ?_
    refine Ok.region ?_
    refine OkO.callV rfl rfl rfl rfl rfl (rfl) ?_ -- "sackung/sackunglaw01.wakes"
    refine OkO.assign rfl rfl ?_
    refine OkO.nil ?_
    refine Ok.ret ⟨.inr rfl, ?_⟩
    exact back_flat rfl rfl rfl (by rw [← hW]; exact (by (try dsimp only); repeat (first | exact hG | apply Grow.new | (refine Grow.put ?_ _ (by first | omega | (simp only [hNw, hPt]; omega))))))
  · -- no h1
    exact absurd h1 (by simp)
theorem ready_facts {cols : List (List Bed)} {least : Int} (h : readyS cols least = true) : thinB cols = true ∧ slOk cols least = true ∧ least ≤ cols.length := by
  unfold readyS at h
  simp only [Bool.and_eq_true, decide_eq_true_eq] at h
  exact ⟨h.1, h.2.1, h.2.2⟩
theorem c10 (m : Nat) (cv wv tv : AV) (cols : List (List Bed)) (least : Int) (ws ts : List Int) (H : Heap) (hM : Mat H cv cols) (hWs : Row H wv 1 (ws.map fun w => [U8 w])) (hws : Upto 255 ws) (hTs : Row H tv 1 (ts.map fun w => [U16 w])) (hts : Upto 65535 ts) : RR (m + 212) (.fn 10 [.agg [cv, I least], wv, tv]) H = some (.bool true, H) := by
  cases hrd : readyS cols least with
  | false => exact c10W m cv wv tv cols least ws ts H hM hWs hws hTs hts hrd
  | true =>
    obtain ⟨h1, h2, h3⟩ := ready_facts hrd
    exact c10K m cv wv tv cols least ws ts H hM hWs hws hTs hts h1 h2 h3 hrd
end
end Go.Ev

set_option maxRecDepth 100000
set_option linter.unusedSimpArgs false
set_option linter.unusedVariables false
namespace Go.Ev
open Go Go.Proofs
noncomputable section
section
open Go.ChangeShapes Go.WideShapes Go.RowKit
variable {H0 : Type} {enc : TypeId × Value → H0} {w : World} {base n : Nat} {sp : Nat → Bool} {hd : Bool}
theorem u8_open {c : List Value} {y} (h : DataW.trod enc Try.prog w base sp hd n 5 c = some y) : ∃ x : Int, c = [.int .u8 x] ∧ 0 ≤ x ∧ x ≤ 255 := by
  obtain ⟨x, h1, _, hw⟩ := DataW.trod_int Try.underlying5 h
  refine ⟨x, h1, ?_⟩
  have h2 : (decide (IntKind.min .u8 ≤ x) && decide (x ≤ IntKind.max .u8)) = true := hw
  rw [Bool.and_eq_true] at h2
  have h3 := of_decide_eq_true h2.1
  have h4 := of_decide_eq_true h2.2
  have e1 : IntKind.min .u8 = 0 := by decide
  have e2 : IntKind.max .u8 = 255 := by decide
  omega
theorem u16_open {c : List Value} {y} (h : DataW.trod enc Try.prog w base sp hd n 93 c = some y) : ∃ x : Int, c = [.int .u16 x] ∧ 0 ≤ x ∧ x ≤ 65535 := by
  obtain ⟨x, h1, _, hw⟩ := DataW.trod_int Try.underlying93 h
  refine ⟨x, h1, ?_⟩
  have h2 : (decide (IntKind.min .u16 ≤ x) && decide (x ≤ IntKind.max .u16)) = true := hw
  rw [Bool.and_eq_true] at h2
  have h3 := of_decide_eq_true h2.1
  have h4 := of_decide_eq_true h2.2
  have e1 : IntKind.min .u16 = 0 := by decide
  have e2 : IntKind.max .u16 = 65535 := by decide
  omega
theorem cellsw5 : Try.prog.cellsOf 5 = 1 := by kernel_rfl
theorem wordsu8_open {H : Heap} (hs : Snap w H) {v : Value} {y} (h : DataW.trod enc Try.prog w base sp hd n 87 [v] = some y) : ∃ us : List Int, Row H (toAV w.heap.size v) 1 (us.map fun n => [U8 n]) ∧ Upto 255 us := by
  obtain ⟨l, hR, _, hl⟩ := hs.slice Try.underlying87 cellsw5 (by decide) h
  obtain ⟨us, hus, hr⟩ := choose_list (R := fun c (x : Int) => c = [.int .u8 x] ∧ 0 ≤ x ∧ x ≤ 255) l fun c hc => by
    obtain ⟨_, n', y', hy⟩ := hl c hc
    exact u8_open hy
  refine ⟨us, ?_, fun z hz => ?_⟩
  · have : l.map (toAVs w.heap.size) = us.map fun n => [U8 n] := map_of_get (by simp [hus]) fun i x z h1 h2 => by
      rw [List.getElem?_map, Option.map_eq_some_iff] at h2
      obtain ⟨b, h3, rfl⟩ := h2
      rw [(hr i x b h1 h3).1]
      rfl
    rwa [this] at hR
  · obtain ⟨i, hi, rfl⟩ := List.mem_iff_getElem.1 hz
    exact (hr i (l[i]'(by omega)) us[i] (List.getElem?_eq_getElem (by omega)) (List.getElem?_eq_getElem hi)).2
theorem wordsu8_arg {H : Heap} (hs : Snap w H) {v : Value} {d : DataW H0} {p : List MemPlace} (hv : ∃ a len cap, v = .slice a len cap) (h : DataW.Trod enc Try.prog w base sp hd 87 v d p) :
    ∃ (wv : AV) (ws : List Int), argAV w.heap.size v = wv ∧ Row H wv 1 (ws.map fun n => [U8 n]) ∧ Upto 255 ws := by
  obtain ⟨a, len, cap, rfl⟩ := hv
  obtain ⟨fuel, h⟩ := h
  obtain ⟨ws, hR, hb⟩ := wordsu8_open hs (v := .slice a len cap) h
  exact ⟨_, ws, rfl, hR, hb⟩
theorem cellsw93 : Try.prog.cellsOf 93 = 1 := by kernel_rfl
theorem wordsu16_open {H : Heap} (hs : Snap w H) {v : Value} {y} (h : DataW.trod enc Try.prog w base sp hd n 88 [v] = some y) : ∃ us : List Int, Row H (toAV w.heap.size v) 1 (us.map fun n => [U16 n]) ∧ Upto 65535 us := by
  obtain ⟨l, hR, _, hl⟩ := hs.slice Try.underlying88 cellsw93 (by decide) h
  obtain ⟨us, hus, hr⟩ := choose_list (R := fun c (x : Int) => c = [.int .u16 x] ∧ 0 ≤ x ∧ x ≤ 65535) l fun c hc => by
    obtain ⟨_, n', y', hy⟩ := hl c hc
    exact u16_open hy
  refine ⟨us, ?_, fun z hz => ?_⟩
  · have : l.map (toAVs w.heap.size) = us.map fun n => [U16 n] := map_of_get (by simp [hus]) fun i x z h1 h2 => by
      rw [List.getElem?_map, Option.map_eq_some_iff] at h2
      obtain ⟨b, h3, rfl⟩ := h2
      rw [(hr i x b h1 h3).1]
      rfl
    rwa [this] at hR
  · obtain ⟨i, hi, rfl⟩ := List.mem_iff_getElem.1 hz
    exact (hr i (l[i]'(by omega)) us[i] (List.getElem?_eq_getElem (by omega)) (List.getElem?_eq_getElem hi)).2
theorem wordsu16_arg {H : Heap} (hs : Snap w H) {v : Value} {d : DataW H0} {p : List MemPlace} (hv : ∃ a len cap, v = .slice a len cap) (h : DataW.Trod enc Try.prog w base sp hd 88 v d p) :
    ∃ (wv : AV) (ws : List Int), argAV w.heap.size v = wv ∧ Row H wv 1 (ws.map fun n => [U16 n]) ∧ Upto 65535 ws := by
  obtain ⟨a, len, cap, rfl⟩ := hv
  obtain ⟨fuel, h⟩ := h
  obtain ⟨ws, hR, hb⟩ := wordsu16_open hs (v := .slice a len cap) h
  exact ⟨_, ws, rfl, hR, hb⟩
end
end
end Go.Ev

