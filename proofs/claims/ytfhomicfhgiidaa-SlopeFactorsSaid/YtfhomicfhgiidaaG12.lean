/-
  Functions of the program, reckoned by the evaluator: what each answers, in the document's words, and that it leaves what came in as it was (part 12).
-/
import Derived.Test.YtfhomicfhgiidaaG11
set_option maxRecDepth 100000
set_option linter.unusedSimpArgs false
set_option linter.unusedVariables false
namespace Go.Ev
open Go Go.Proofs
noncomputable section
theorem c54 (m : Nat) (cv bv : AV) (cols : List (List Bed)) (least : Int) (f0 : Nat) (us : List Nat) (L : List Bed) (most : Bool) (H : Heap) (hM : Mat H cv cols) (hU : Row H bv 1 (us.map fun (n : Nat) => [I (n : Int)])) (hp : Picks cols f0 us L) (hl : us.length ≤ 1000) (hf : f0 ≤ 1000) : ∃ v H', RR (m + 2) (.fn 54 [.agg [cv, I least], .agg [I (f0 : Int), bv], .bool most]) H = some (v, H') ∧ Ret H H' ∧ Row H' v 3 ((L.map (endT most)).map rl) := by
  show ∃ v H', evFn Try.prog (RR (m + 1)) 54 [.agg [cv, I least], .agg [I (f0 : Int), bv], .bool most] H = some (v, H') ∧ Ret H H' ∧ Row H' v 3 ((L.map (endT most)).map rl)
  refine fn_okE Try.func54 rfl rfl (by kernel_rfl) (by kernel_rfl) ?_
  obtain ⟨W, hW⟩ : ∃ W : Heap, W = ⟨H.t, H.next, H.next⟩ := ⟨_, rfl⟩
  have hg : ∀ n, W.get n = H.get n := fun n => by rw [hW]; rfl
  have hN : W.next = H.next := by rw [hW]
  have hE : ∀ G, Grow W G → Ext H G := fun G g => ⟨by rw [← hN]; exact g.next, fun n k => by rw [g.get n (by rw [hN]; exact k), hg]⟩
  have hG : Grow W W := Grow.refl (by rw [hW]; exact Nat.le_refl _)
  rw [← hW]
  obtain ⟨vs, hR, hvl, hv⟩ := hM
  have hlen : lenOf bv = some us.length := by simpa using hU.len
  have hlencv : lenOf cv = some vs.length := by simpa using hR.len
  refine Ok.seq ?_
  refine Ok.region ?_
  refine OkO.box rfl rfl ?_
  refine OkO.box rfl rfl ?_
  refine OkO.assign rfl rfl ?_
  refine OkO.nil ?_
  refine Ok.seq ?_
  refine Ok.region ?_
  refine OkO.assign rfl rfl ?_
  refine OkO.nil ?_
  refine Ok.seq ?_
  refine Ok.seq ?_
  refine Ok.region ?_
  refine OkO.assign rfl rfl ?_
  refine OkO.nil ?_
  refine Ok.block ?_
  refine Ok.loop (fun n s => ∃ (i : Nat) (v7 : AV), n = us.length - i ∧ i ≤ us.length ∧ Mine (W.next + 2) s.H v7 112 3 (((L.take i).map fun b => rl (endT most b)).flatten) ∧ Has 6 [(2, .bool most), (3, .ptr W.next 0), (4, .ptr (W.next + 1) 0), (6, .nils), (7, v7), (8, I (i : Int))] s.T ∧ s.D = [] ∧ Grow W s.H ∧ s.H.get W.next = some (.cells [cv, I least] 24) ∧ s.H.get (W.next + 1) = some (.cells [I (f0 : Int), bv] 27) ∧ W.next + 2 ≤ s.H.next) (us.length) (by unfold loopFuel; omega)
    ⟨0, .nils, rfl, Nat.zero_le _, Mine.nil _ _ _ _, Has.of (by kernel_rfl), rfl, (by (try dsimp only); repeat (first | exact hG | apply Grow.new | (refine Grow.put ?_ _ (by first | omega | (simp only [Heap.next_new, Heap.next_put]; omega))))), (by simp (disch := first | omega | (simp only [Heap.next_new, Heap.next_put]; omega)) only [get_new_same, get_new_same1, get_new_same2, get_put_same, get_new_other, get_put_other] <;> rfl), (by simp (disch := first | omega | (simp only [Heap.next_new, Heap.next_put]; omega)) only [get_new_same, get_new_same1, get_new_same2, get_put_same, get_new_other, get_put_other] <;> rfl), (by simp)⟩ ?_
  rintro n ⟨T, D, G⟩ ⟨i, v7, hn, hi, hm, ⟨f, hT⟩, hD, hg, hb1, hb2, hb3⟩
  dsimp only at *
  subst hT hD
  have hgn := hg.next
  have hc1 : (G.get W.next).bind AObj.cs = some [cv, I least] := by rw [hb1]; rfl
  have hc2 : (G.get (W.next + 1)).bind AObj.cs = some [I (f0 : Int), bv] := by rw [hb2]; rfl
  have hEg := hE _ hg
  refine Ok.seq ?_
  refine Ok.seq ?_
  refine Ok.region ?_
  refine OkO.move rfl rfl ?_
  refine OkO.fieldAddr (o := 1) rfl (by kernel_rfl) rfl ?_
  refine OkO.load rfl rfl (loadAt_atom (n := 1) (by kernel_rfl) (by first | assumption | (simp (disch := first | omega | (simp only [Heap.next_new, Heap.next_put]; omega)) only [get_new_same, get_new_same1, get_new_same2, get_put_same, get_new_other, get_put_other] <;> first | rfl | assumption)) (by first | rfl | assumption)) ?_
  refine OkO.builtin rfl rfl rfl (builtin_len (by kernel_rfl) (by first | assumption | rfl)) ?_
  refine OkO.bin rfl rfl rfl (bin_lss _ _) ?_
  refine OkO.nil ?_
  refine Ok.cond rfl (fun h1 => ?_) (fun h1 => ?_)
  · -- yes h1
    have hlt : i < us.length := by simpa using h1
    obtain ⟨col, bed, hp1, hp2, hp3⟩ := hp.2 i us[i] (by simp [hlt])
    obtain ⟨ub, uo, ucs, i1, i2, i3, i4⟩ := (hU.ext hEg).at_ i [I ((us[i] : Nat) : Int)] (by simp [hlt])
    have i5 := seg_one i3
    have hcl : f0 + i < vs.length := by rw [hvl]; exact (List.getElem?_eq_some_iff.1 hp1).1
    obtain ⟨cb, co, ccs, j1, j2, j3, j4⟩ := (hR.ext hEg).at_ (f0 + i) [vs[f0 + i]] (by simp [hcl])
    have j5 := seg_one j3
    have hcol := (hv (f0 + i) vs[f0 + i] col (by simp [hcl]) hp1).ext hEg
    have hlcol : lenOf vs[f0 + i] = some col.length := by simpa using hcol.len
    obtain ⟨bb, bo, bcs, k1, k2, k3, k4⟩ := hcol.at_ us[i] bed.c (by rw [List.getElem?_map, hp2]; rfl)
    have hLi := List.getElem?_eq_some_iff.1 hp3
    have hne1 : W.next ≠ G.next := by omega
    have hne2 : W.next + 1 ≠ G.next := by omega
    have ht : ((L.take (i + 1)).map fun b => rl (endT most b)).flatten = ((L.take i).map fun b => rl (endT most b)).flatten ++ rl (endT most bed) := by (rw [List.take_succ_eq_append_getElem hLi.1, hLi.2]; simp)
    have hml : ((L.take i).map fun b => rl (endT most b)).flatten.length = i * 3 := by (rw [flat_len _ 3 (fun x hx => by simp only [List.mem_map] at hx; obtain ⟨y, _, rfl⟩ := hx; rfl)]; simp; rw [hp.1]; omega)
    refine Ok.skip ?_
    refine Ok.seq ?_
    refine Ok.block ?_
    refine Ok.seq ?_
    refine Ok.drawn [(0, true, []), (1, true, []), (2, true, []), (3, true, []), (4, true, []), (5, true, []), (6, true, []), (7, true, []), (8, true, []), (9, true, []), (10, true, []), (11, true, []), (12, true, []), (13, true, []), (14, true, []), (15, true, [14, 12, 9, 7, 3, 1]), (16, false, [])] (by kernel_rfl) ?_
    refine OkP.step ?_
    refine OkO.fieldAddr (o := 0) rfl (by kernel_rfl) rfl ?_
    refine OkO.nil ⟨rfl, ?_⟩
    refine OkP.step ?_
    refine OkO.load rfl rfl (loadAt_atom (n := 1) (by kernel_rfl) (by first | assumption | (simp (disch := first | omega | (simp only [Heap.next_new, Heap.next_put]; omega)) only [get_new_same, get_new_same1, get_new_same2, get_put_same, get_new_other, get_put_other] <;> first | rfl | assumption)) (by first | rfl | assumption)) ?_
    refine OkO.nil ⟨rfl, ?_⟩
    refine OkP.step ?_
    refine OkO.fieldAddr (o := 0) rfl (by kernel_rfl) rfl ?_
    refine OkO.nil ⟨rfl, ?_⟩
    refine OkP.step ?_
    refine OkO.load rfl rfl (loadAt_atom (n := 1) (by kernel_rfl) (by first | assumption | (simp (disch := first | omega | (simp only [Heap.next_new, Heap.next_put]; omega)) only [get_new_same, get_new_same1, get_new_same2, get_put_same, get_new_other, get_put_other] <;> first | rfl | assumption)) (by first | rfl | assumption)) ?_
    refine OkO.nil ⟨rfl, ?_⟩
    refine OkP.step ?_
    refine OkO.move rfl rfl ?_
    refine OkO.nil ⟨rfl, ?_⟩
    refine OkP.step ?_
    refine OkO.bin rfl rfl rfl (bin_add (by omega) (by omega)) ?_
    refine OkO.nil ⟨rfl, ?_⟩
    refine OkP.step ?_
    refine OkO.index (sz := 1) (n := f0 + i) rfl rfl rfl (by kernel_rfl) (by first | assumption | rfl) ?_ -- index ('Go.Operand.tmp', 18) ('Go.Operand.tmp', 22)
    refine OkO.nil ⟨rfl, ?_⟩
    refine OkP.step ?_
    refine OkO.load rfl rfl (loadAt_atom (n := 1) (by kernel_rfl) (by first | assumption | (simp (disch := first | omega | (simp only [Heap.next_new, Heap.next_put]; omega)) only [get_new_same, get_new_same1, get_new_same2, get_put_same, get_new_other, get_put_other] <;> first | rfl | assumption)) (by first | rfl | assumption)) ?_
    refine OkO.nil ⟨rfl, ?_⟩
    refine OkP.step ?_
    refine OkO.fieldAddr (o := 1) rfl (by kernel_rfl) rfl ?_
    refine OkO.nil ⟨rfl, ?_⟩
    refine OkP.step ?_
    refine OkO.load rfl rfl (loadAt_atom (n := 1) (by kernel_rfl) (by first | assumption | (simp (disch := first | omega | (simp only [Heap.next_new, Heap.next_put]; omega)) only [get_new_same, get_new_same1, get_new_same2, get_put_same, get_new_other, get_put_other] <;> first | rfl | assumption)) (by first | rfl | assumption)) ?_
    refine OkO.nil ⟨rfl, ?_⟩
    refine OkP.step ?_
    refine OkO.move rfl rfl ?_
    refine OkO.nil ⟨rfl, ?_⟩
    refine OkP.step ?_
    refine OkO.index (sz := 1) (n := i) rfl rfl rfl (by kernel_rfl) (by first | assumption | rfl) ?_ -- index ('Go.Operand.tmp', 26) ('Go.Operand.tmp', 27)
    refine OkO.nil ⟨rfl, ?_⟩
    refine OkP.step ?_
    refine OkO.load rfl rfl (loadAt_atom (n := 1) (by kernel_rfl) (by first | assumption | (simp (disch := first | omega | (simp only [Heap.next_new, Heap.next_put]; omega)) only [get_new_same, get_new_same1, get_new_same2, get_put_same, get_new_other, get_put_other] <;> first | rfl | assumption)) (by first | rfl | assumption)) ?_
    refine OkO.nil ⟨rfl, ?_⟩
    refine OkP.step ?_
    refine OkO.index (sz := 8) (n := us[i]) rfl rfl rfl (by kernel_rfl) (by first | assumption | rfl) ?_ -- index ('Go.Operand.tmp', 24) ('Go.Operand.tmp', 29)
    refine OkO.nil ⟨rfl, ?_⟩
    refine OkP.step ?_
    refine OkO.load rfl rfl (loadAt_agg (n := 8) (by kernel_rfl) (by first | assumption | (simp (disch := first | omega | (simp only [Heap.next_new, Heap.next_put]; omega)) only [get_new_same, get_new_same1, get_new_same2, get_put_same, get_new_other, get_put_other] <;> first | rfl | assumption)) (by first | rfl | assumption)) ?_
    refine OkO.nil ⟨rfl, ?_⟩
    refine OkP.step ?_
    refine OkO.alloc (z := [.int .i64 0, .int .i64 0, .int .i64 0, .int .i64 0, .int .i64 0, .int .i64 0, .int .i64 0, .int .i64 0]) rfl (by kernel_rfl) ?_
    refine OkO.nil ⟨(stills_cons (still_load rfl rfl (loadAt_agg (n := 8) (by kernel_rfl) (by first | assumption | (simp (disch := first | omega | (simp only [Heap.next_new, Heap.next_put]; omega)) only [get_new_same, get_new_same1, get_new_same2, get_put_same, get_new_other, get_put_other] <;> first | rfl | assumption)) (by first | rfl | assumption)) rfl (eqv_refl _ (by first | rfl | exact len_plain (by assumption)))) (stills_cons (still_load rfl rfl (loadAt_atom (n := 1) (by kernel_rfl) (by first | assumption | (simp (disch := first | omega | (simp only [Heap.next_new, Heap.next_put]; omega)) only [get_new_same, get_new_same1, get_new_same2, get_put_same, get_new_other, get_put_other] <;> first | rfl | assumption)) (by first | rfl | assumption)) rfl (eqv_refl _ (by first | rfl | exact len_plain (by assumption)))) (stills_cons (still_load rfl rfl (loadAt_atom (n := 1) (by kernel_rfl) (by first | assumption | (simp (disch := first | omega | (simp only [Heap.next_new, Heap.next_put]; omega)) only [get_new_same, get_new_same1, get_new_same2, get_put_same, get_new_other, get_put_other] <;> first | rfl | assumption)) (by first | rfl | assumption)) rfl (eqv_refl _ (by first | rfl | exact len_plain (by assumption)))) (stills_cons (still_load rfl rfl (loadAt_atom (n := 1) (by kernel_rfl) (by first | assumption | (simp (disch := first | omega | (simp only [Heap.next_new, Heap.next_put]; omega)) only [get_new_same, get_new_same1, get_new_same2, get_put_same, get_new_other, get_put_other] <;> first | rfl | assumption)) (by first | rfl | assumption)) rfl (eqv_refl _ (by first | rfl | exact len_plain (by assumption)))) (stills_cons (still_load rfl rfl (loadAt_atom (n := 1) (by kernel_rfl) (by first | assumption | (simp (disch := first | omega | (simp only [Heap.next_new, Heap.next_put]; omega)) only [get_new_same, get_new_same1, get_new_same2, get_put_same, get_new_other, get_put_other] <;> first | rfl | assumption)) (by first | rfl | assumption)) rfl (eqv_refl _ (by first | rfl | exact len_plain (by assumption)))) (stills_cons (still_load rfl rfl (loadAt_atom (n := 1) (by kernel_rfl) (by first | assumption | (simp (disch := first | omega | (simp only [Heap.next_new, Heap.next_put]; omega)) only [get_new_same, get_new_same1, get_new_same2, get_put_same, get_new_other, get_put_other] <;> first | rfl | assumption)) (by first | rfl | assumption)) rfl (eqv_refl _ (by first | rfl | exact len_plain (by assumption)))) rfl)))))), ?_⟩
    refine OkP.step ?_
    refine OkO.store rfl rfl rfl (storeAt_cells (n := 8) (ag := true) (by kernel_rfl) (by first | assumption | (simp (disch := first | omega | (simp only [Heap.next_new, Heap.next_put]; omega)) only [get_new_same, get_new_same1, get_new_same2, get_put_same, get_new_other, get_put_other] <;> first | rfl | assumption)) rfl rfl rfl) ?_
    refine OkO.nil ⟨rfl, ?_⟩
    refine OkP.nil ?_
    refine Ok.seq ?_
    refine Ok.region ?_
    refine OkO.move rfl rfl ?_
    refine OkO.nil ?_
    refine Ok.cond rfl (fun h2 => ?_) (fun h2 => ?_)
    · -- yes h2
      have hmo : most = true := h2
      subst hmo
      refine Ok.region ?_
      refine OkO.move rfl rfl ?_
      refine OkO.load rfl rfl (loadAt_agg (n := 8) (by kernel_rfl) (by first | assumption | (simp (disch := first | omega | (simp only [Heap.next_new, Heap.next_put]; omega)) only [get_new_same, get_new_same1, get_new_same2, get_put_same, get_new_other, get_put_other] <;> first | rfl | assumption)) (by first | rfl | assumption)) ?_
      refine OkO.callV rfl rfl rfl rfl rfl (c86 m bed _) ?_ -- "sackung/sackungref01.Most"
      refine OkO.buildSlice (el := 112) (sz := 3) (z := [.int .i64 0, .int .i64 0, .int .i64 0]) rfl (by kernel_rfl) (by decide) rfl rfl ?_
      refine OkO.builtinE rfl rfl rfl (Mine.app (sz := 3) (by_ := 24) (e := 112) (n := 1) (new := rl (endT true bed)) (hm.to ⟨by simp only [Heap.next_new, Heap.next_put]; omega, fun n hn => by simp (disch := first | omega | (simp only [Heap.next_new, Heap.next_put]; omega)) only [get_new_same, get_new_same1, get_new_same2, get_put_same, get_new_other, get_put_other]⟩) (by (try dsimp only); repeat (first | (first | exact hg | exact hG) | apply Grow.new | (refine Grow.put ?_ _ (by first | omega | (simp only [Heap.next_new, Heap.next_put]; omega))))) (by omega) (by simp only [Heap.next_new, Heap.next_put]; omega) (by kernel_rfl) (by kernel_rfl) (elems_new (n := 1) (sz := 3) rfl) rfl rfl (by rw [hml]; omega) (by omega) (by omega) rfl) ?_
      rintro v2 G2 ⟨q1, q2, q3⟩
      refine OkO.assign rfl rfl ?_
      refine OkO.nil ?_
      refine Ok.region ?_
      refine OkO.move rfl rfl ?_
      refine OkO.bin rfl rfl rfl (bin_add (by omega) (by omega)) ?_
      refine OkO.assign rfl rfl ?_
      refine OkO.nil ?_
      have q3n := q3.next
      simp only [Heap.next_new, Heap.next_put] at q3n
      refine ⟨us.length - (i + 1), by omega, i + 1, v2, rfl, hlt, ?_, Has.of (by kernel_rfl), rfl, q2, ?_, ?_, ?_⟩
      · rw [ht]; exact q1
      · rw [q3.get _ (by omega) (by simp only [Heap.next_new, Heap.next_put]; omega)]; simp (disch := first | omega | (simp only [Heap.next_new, Heap.next_put]; omega)) only [get_new_same, get_new_same1, get_new_same2, get_put_same, get_new_other, get_put_other]; exact hb1
      · rw [q3.get _ (by omega) (by simp only [Heap.next_new, Heap.next_put]; omega)]; simp (disch := first | omega | (simp only [Heap.next_new, Heap.next_put]; omega)) only [get_new_same, get_new_same1, get_new_same2, get_put_same, get_new_other, get_put_other]; exact hb2
      · show W.next + 2 ≤ G2.next
        omega
    · -- no h2
      have hmo : most = false := h2
      subst hmo
      refine Ok.region ?_
      refine OkO.move rfl rfl ?_
      refine OkO.load rfl rfl (loadAt_agg (n := 8) (by kernel_rfl) (by first | assumption | (simp (disch := first | omega | (simp only [Heap.next_new, Heap.next_put]; omega)) only [get_new_same, get_new_same1, get_new_same2, get_put_same, get_new_other, get_put_other] <;> first | rfl | assumption)) (by first | rfl | assumption)) ?_
      refine OkO.callV rfl rfl rfl rfl rfl (c87 m bed _) ?_ -- "sackung/sackungref01.Least"
      refine OkO.buildSlice (el := 112) (sz := 3) (z := [.int .i64 0, .int .i64 0, .int .i64 0]) rfl (by kernel_rfl) (by decide) rfl rfl ?_
      refine OkO.builtinE rfl rfl rfl (Mine.app (sz := 3) (by_ := 24) (e := 112) (n := 1) (new := rl (endT false bed)) (hm.to ⟨by simp only [Heap.next_new, Heap.next_put]; omega, fun n hn => by simp (disch := first | omega | (simp only [Heap.next_new, Heap.next_put]; omega)) only [get_new_same, get_new_same1, get_new_same2, get_put_same, get_new_other, get_put_other]⟩) (by (try dsimp only); repeat (first | (first | exact hg | exact hG) | apply Grow.new | (refine Grow.put ?_ _ (by first | omega | (simp only [Heap.next_new, Heap.next_put]; omega))))) (by omega) (by simp only [Heap.next_new, Heap.next_put]; omega) (by kernel_rfl) (by kernel_rfl) (elems_new (n := 1) (sz := 3) rfl) rfl rfl (by rw [hml]; omega) (by omega) (by omega) rfl) ?_
      rintro v2 G2 ⟨q1, q2, q3⟩
      refine OkO.assign rfl rfl ?_
      refine OkO.nil ?_
      refine Ok.region ?_
      refine OkO.move rfl rfl ?_
      refine OkO.bin rfl rfl rfl (bin_add (by omega) (by omega)) ?_
      refine OkO.assign rfl rfl ?_
      refine OkO.nil ?_
      have q3n := q3.next
      simp only [Heap.next_new, Heap.next_put] at q3n
      refine ⟨us.length - (i + 1), by omega, i + 1, v2, rfl, hlt, ?_, Has.of (by kernel_rfl), rfl, q2, ?_, ?_, ?_⟩
      · rw [ht]; exact q1
      · rw [q3.get _ (by omega) (by simp only [Heap.next_new, Heap.next_put]; omega)]; simp (disch := first | omega | (simp only [Heap.next_new, Heap.next_put]; omega)) only [get_new_same, get_new_same1, get_new_same2, get_put_same, get_new_other, get_put_other]; exact hb1
      · rw [q3.get _ (by omega) (by simp only [Heap.next_new, Heap.next_put]; omega)]; simp (disch := first | omega | (simp only [Heap.next_new, Heap.next_put]; omega)) only [get_new_same, get_new_same1, get_new_same2, get_put_same, get_new_other, get_put_other]; exact hb2
      · show W.next + 2 ≤ G2.next
        omega
  · -- no h1
    have hge : i = us.length := by simp at h1; omega
    refine Ok.exit ?_
    refine Ok.seq ?_
    refine Ok.region ?_
    refine OkO.move rfl rfl ?_
    refine OkO.assign rfl rfl ?_
    refine OkO.nil ?_
    refine Ok.ret ⟨.inr rfl, ?_⟩
    subst hge
    have hrow : Row G v7 3 ((L.map (endT most)).map rl) := Mine.row (by rw [List.take_of_length_le (by rw [hp.1]; omega)] at hm; rw [List.map_map]; exact hm) (fun x hx => by simp only [List.mem_map] at hx; obtain ⟨y, _, rfl⟩ := hx; rfl) (by omega)
    exact back_rowQ (resV_tmp rfl resV_nil) rfl (by rw [← hW]; exact hg) hrow (fun H' r2 r3 => ⟨r2, r3⟩)
theorem c26 (m : Nat) (cv bv tv : AV) (cols : List (List Bed)) (least : Int) (f0 : Nat) (us : List Nat) (L : List Bed) (R : List Rl) (H : Heap) (hM : Mat H cv cols) (hU : Row H bv 1 (us.map fun (n : Nat) => [I (n : Int)])) (hp : Picks cols f0 us L) (hl : us.length ≤ 1000) (hf : f0 ≤ 1000) (hT0 : Row H tv 3 (R.map rl)) (hRL : R.length = L.length) (hLok : ∀ b ∈ L, b.ok = true) (hRl : ∀ r ∈ R, r.lim) : RR (m + 2) (.fn 26 [.agg [cv, I least], .agg [I (f0 : Int), bv], tv]) H = some (I (refFactor L R), H) := by
  refine (R_fn _ _ _ _ _).trans ?_
  refine fn_ok Try.func26 rfl rfl (by kernel_rfl) (by kernel_rfl) ?_
  obtain ⟨W, hW⟩ : ∃ W : Heap, W = ⟨H.t, H.next, H.next⟩ := ⟨_, rfl⟩
  have hg : ∀ n, W.get n = H.get n := fun n => by rw [hW]; rfl
  have hN : W.next = H.next := by rw [hW]
  have hE : ∀ G, Grow W G → Ext H G := fun G g => ⟨by rw [← hN]; exact g.next, fun n k => by rw [g.get n (by rw [hN]; exact k), hg]⟩
  have hG : Grow W W := Grow.refl (by rw [hW]; exact Nat.le_refl _)
  rw [← hW]
  obtain ⟨vs, hR, hvl, hv⟩ := hM
  have hlen : lenOf bv = some us.length := by simpa using hU.len
  have hlencv : lenOf cv = some vs.length := by simpa using hR.len
  have hLl : L.length ≤ 1000 := by rw [hp.1]; exact hl
  have hdr : ∀ b ∈ L, -100000 ≤ b.dr ∧ b.dr ≤ 100000 := fun b hb => by have := Bed.ok_lim (hLok b hb); unfold Bed.lim at this; omega
  refine Ok.seq ?_
  refine Ok.region ?_
  refine OkO.box rfl rfl ?_
  refine OkO.box rfl rfl ?_
  refine OkO.assign rfl rfl ?_
  refine OkO.nil ?_
  refine Ok.seq ?_
  refine Ok.region ?_
  refine OkO.assign rfl rfl ?_
  refine OkO.assign rfl rfl ?_
  refine OkO.nil ?_
  refine Ok.seq ?_
  refine Ok.seq ?_
  refine Ok.region ?_
  refine OkO.assign rfl rfl ?_
  refine OkO.nil ?_
  refine Ok.block ?_
  refine Ok.loop (fun n s => ∃ (i : Nat), n = us.length - i ∧ i ≤ us.length ∧ Has 6 [(2, tv), (3, .ptr W.next 0), (4, .ptr (W.next + 1) 0), (6, I 0), (7, I (held (L.take i) (R.take i))), (8, I (drive (L.take i))), (9, I (i : Int))] s.T ∧ s.D = [] ∧ Grow W s.H ∧ s.H.get W.next = some (.cells [cv, I least] 24) ∧ s.H.get (W.next + 1) = some (.cells [I (f0 : Int), bv] 27) ∧ W.next + 2 ≤ s.H.next) (us.length) (by unfold loopFuel; omega)
    ⟨0, rfl, Nat.zero_le _, Has.of (by kernel_rfl), rfl, (by (try dsimp only); repeat (first | exact hG | apply Grow.new | (refine Grow.put ?_ _ (by first | omega | (simp only [Heap.next_new, Heap.next_put]; omega))))), (by simp (disch := first | omega | (simp only [Heap.next_new, Heap.next_put]; omega)) only [get_new_same, get_new_same1, get_new_same2, get_put_same, get_new_other, get_put_other] <;> rfl), (by simp (disch := first | omega | (simp only [Heap.next_new, Heap.next_put]; omega)) only [get_new_same, get_new_same1, get_new_same2, get_put_same, get_new_other, get_put_other] <;> rfl), (by simp)⟩ ?_
  rintro n ⟨T, D, G⟩ ⟨i, hn, hi, ⟨f, hT⟩, hD, hg, hb1, hb2, hb3⟩
  dsimp only at *
  subst hT hD
  have hgn := hg.next
  have hc1 : (G.get W.next).bind AObj.cs = some [cv, I least] := by rw [hb1]; rfl
  have hc2 : (G.get (W.next + 1)).bind AObj.cs = some [I (f0 : Int), bv] := by rw [hb2]; rfl
  have hEg := hE _ hg
  refine Ok.seq ?_
  refine Ok.seq ?_
  refine Ok.region ?_
  refine OkO.move rfl rfl ?_
  refine OkO.fieldAddr (o := 1) rfl (by kernel_rfl) rfl ?_
  refine OkO.load rfl rfl (loadAt_atom (n := 1) (by kernel_rfl) (by first | assumption | (simp (disch := first | omega | (simp only [Heap.next_new, Heap.next_put]; omega)) only [get_new_same, get_new_same1, get_new_same2, get_put_same, get_new_other, get_put_other] <;> first | rfl | assumption)) (by first | rfl | assumption)) ?_
  refine OkO.builtin rfl rfl rfl (builtin_len (by kernel_rfl) (by first | assumption | rfl)) ?_
  refine OkO.bin rfl rfl rfl (bin_lss _ _) ?_
  refine OkO.nil ?_
  refine Ok.cond rfl (fun h1 => ?_) (fun h1 => ?_)
  · -- yes h1
    have hlt : i < us.length := by simpa using h1
    obtain ⟨col, bed, hp1, hp2, hp3⟩ := hp.2 i us[i] (by simp [hlt])
    obtain ⟨ub, uo, ucs, i1, i2, i3, i4⟩ := (hU.ext hEg).at_ i [I ((us[i] : Nat) : Int)] (by simp [hlt])
    have i5 := seg_one i3
    have hcl : f0 + i < vs.length := by rw [hvl]; exact (List.getElem?_eq_some_iff.1 hp1).1
    obtain ⟨cb, co, ccs, j1, j2, j3, j4⟩ := (hR.ext hEg).at_ (f0 + i) [vs[f0 + i]] (by simp [hcl])
    have j5 := seg_one j3
    have hcol := (hv (f0 + i) vs[f0 + i] col (by simp [hcl]) hp1).ext hEg
    have hlcol : lenOf vs[f0 + i] = some col.length := by simpa using hcol.len
    obtain ⟨bb, bo, bcs, k1, k2, k3, k4⟩ := hcol.at_ us[i] bed.c (by rw [List.getElem?_map, hp2]; rfl)
    have hLi := List.getElem?_eq_some_iff.1 hp3
    have hne1 : W.next ≠ G.next := by omega
    have hne2 : W.next + 1 ≠ G.next := by omega
    have hRi : i < R.length := by rw [hRL, hp.1]; exact hlt
    obtain ⟨tb, to, tcs, t1, t2, t3, t4⟩ := (hT0.ext hEg).at_ i (rl R[i]) (by simp [hRi])
    have hne3 : tb ≠ G.next := by omega
    have hbo := hLok bed (hLi.2 ▸ List.getElem_mem hLi.1)
    have hlim := Bed.ok_lim hbo
    unfold Bed.lim at hlim
    have hs := held_bd (L.take i) (R.take i) (fun b hb => hLok b (List.mem_of_mem_take hb)) (fun r hr => hRl r (List.mem_of_mem_take hr))
    have hs2 : (L.take i).length ≤ 1000 := by simp; omega
    have hd := drive_bd (L.take i) (fun b hb => hdr b (List.mem_of_mem_take hb))
    have hrl := hRl _ (List.getElem_mem hRi)
    have hh : 0 ≤ holdsR bed R[i] ∧ holdsR bed R[i] ≤ 300000 := by unfold Rl.lim at hrl; exact (holds_bd (no := bed.no) (f := R[i].1) (c := R[i].2.1) (w := R[i].2.2) (by omega) (by omega) (by omega) (by omega)).2.2.2.2
    refine Ok.skip ?_
    refine Ok.seq ?_
    refine Ok.block ?_
    refine Ok.seq ?_
    refine Ok.drawn [(0, true, []), (1, true, []), (2, true, []), (3, true, []), (4, true, []), (5, true, []), (6, true, []), (7, true, []), (8, true, []), (9, true, []), (10, true, []), (11, true, []), (12, true, []), (13, true, []), (14, true, []), (15, true, [14, 12, 9, 7, 3, 1]), (16, false, [])] (by kernel_rfl) ?_
    refine OkP.step ?_
    refine OkO.fieldAddr (o := 0) rfl (by kernel_rfl) rfl ?_
    refine OkO.nil ⟨rfl, ?_⟩
    refine OkP.step ?_
    refine OkO.load rfl rfl (loadAt_atom (n := 1) (by kernel_rfl) (by first | assumption | (simp (disch := first | omega | (simp only [Heap.next_new, Heap.next_put]; omega)) only [get_new_same, get_new_same1, get_new_same2, get_put_same, get_new_other, get_put_other] <;> first | rfl | assumption)) (by first | rfl | assumption)) ?_
    refine OkO.nil ⟨rfl, ?_⟩
    refine OkP.step ?_
    refine OkO.fieldAddr (o := 0) rfl (by kernel_rfl) rfl ?_
    refine OkO.nil ⟨rfl, ?_⟩
    refine OkP.step ?_
    refine OkO.load rfl rfl (loadAt_atom (n := 1) (by kernel_rfl) (by first | assumption | (simp (disch := first | omega | (simp only [Heap.next_new, Heap.next_put]; omega)) only [get_new_same, get_new_same1, get_new_same2, get_put_same, get_new_other, get_put_other] <;> first | rfl | assumption)) (by first | rfl | assumption)) ?_
    refine OkO.nil ⟨rfl, ?_⟩
    refine OkP.step ?_
    refine OkO.move rfl rfl ?_
    refine OkO.nil ⟨rfl, ?_⟩
    refine OkP.step ?_
    refine OkO.bin rfl rfl rfl (bin_add (by omega) (by omega)) ?_
    refine OkO.nil ⟨rfl, ?_⟩
    refine OkP.step ?_
    refine OkO.index (sz := 1) (n := f0 + i) rfl rfl rfl (by kernel_rfl) (by first | assumption | rfl) ?_ -- index ('Go.Operand.tmp', 19) ('Go.Operand.tmp', 23)
    refine OkO.nil ⟨rfl, ?_⟩
    refine OkP.step ?_
    refine OkO.load rfl rfl (loadAt_atom (n := 1) (by kernel_rfl) (by first | assumption | (simp (disch := first | omega | (simp only [Heap.next_new, Heap.next_put]; omega)) only [get_new_same, get_new_same1, get_new_same2, get_put_same, get_new_other, get_put_other] <;> first | rfl | assumption)) (by first | rfl | assumption)) ?_
    refine OkO.nil ⟨rfl, ?_⟩
    refine OkP.step ?_
    refine OkO.fieldAddr (o := 1) rfl (by kernel_rfl) rfl ?_
    refine OkO.nil ⟨rfl, ?_⟩
    refine OkP.step ?_
    refine OkO.load rfl rfl (loadAt_atom (n := 1) (by kernel_rfl) (by first | assumption | (simp (disch := first | omega | (simp only [Heap.next_new, Heap.next_put]; omega)) only [get_new_same, get_new_same1, get_new_same2, get_put_same, get_new_other, get_put_other] <;> first | rfl | assumption)) (by first | rfl | assumption)) ?_
    refine OkO.nil ⟨rfl, ?_⟩
    refine OkP.step ?_
    refine OkO.move rfl rfl ?_
    refine OkO.nil ⟨rfl, ?_⟩
    refine OkP.step ?_
    refine OkO.index (sz := 1) (n := i) rfl rfl rfl (by kernel_rfl) (by first | assumption | rfl) ?_ -- index ('Go.Operand.tmp', 27) ('Go.Operand.tmp', 28)
    refine OkO.nil ⟨rfl, ?_⟩
    refine OkP.step ?_
    refine OkO.load rfl rfl (loadAt_atom (n := 1) (by kernel_rfl) (by first | assumption | (simp (disch := first | omega | (simp only [Heap.next_new, Heap.next_put]; omega)) only [get_new_same, get_new_same1, get_new_same2, get_put_same, get_new_other, get_put_other] <;> first | rfl | assumption)) (by first | rfl | assumption)) ?_
    refine OkO.nil ⟨rfl, ?_⟩
    refine OkP.step ?_
    refine OkO.index (sz := 8) (n := us[i]) rfl rfl rfl (by kernel_rfl) (by first | assumption | rfl) ?_ -- index ('Go.Operand.tmp', 25) ('Go.Operand.tmp', 30)
    refine OkO.nil ⟨rfl, ?_⟩
    refine OkP.step ?_
    refine OkO.load rfl rfl (loadAt_agg (n := 8) (by kernel_rfl) (by first | assumption | (simp (disch := first | omega | (simp only [Heap.next_new, Heap.next_put]; omega)) only [get_new_same, get_new_same1, get_new_same2, get_put_same, get_new_other, get_put_other] <;> first | rfl | assumption)) (by first | rfl | assumption)) ?_
    refine OkO.nil ⟨rfl, ?_⟩
    refine OkP.step ?_
    refine OkO.alloc (z := [.int .i64 0, .int .i64 0, .int .i64 0, .int .i64 0, .int .i64 0, .int .i64 0, .int .i64 0, .int .i64 0]) rfl (by kernel_rfl) ?_
    refine OkO.nil ⟨(stills_cons (still_load rfl rfl (loadAt_agg (n := 8) (by kernel_rfl) (by first | assumption | (simp (disch := first | omega | (simp only [Heap.next_new, Heap.next_put]; omega)) only [get_new_same, get_new_same1, get_new_same2, get_put_same, get_new_other, get_put_other] <;> first | rfl | assumption)) (by first | rfl | assumption)) rfl (eqv_refl _ (by first | rfl | exact len_plain (by assumption)))) (stills_cons (still_load rfl rfl (loadAt_atom (n := 1) (by kernel_rfl) (by first | assumption | (simp (disch := first | omega | (simp only [Heap.next_new, Heap.next_put]; omega)) only [get_new_same, get_new_same1, get_new_same2, get_put_same, get_new_other, get_put_other] <;> first | rfl | assumption)) (by first | rfl | assumption)) rfl (eqv_refl _ (by first | rfl | exact len_plain (by assumption)))) (stills_cons (still_load rfl rfl (loadAt_atom (n := 1) (by kernel_rfl) (by first | assumption | (simp (disch := first | omega | (simp only [Heap.next_new, Heap.next_put]; omega)) only [get_new_same, get_new_same1, get_new_same2, get_put_same, get_new_other, get_put_other] <;> first | rfl | assumption)) (by first | rfl | assumption)) rfl (eqv_refl _ (by first | rfl | exact len_plain (by assumption)))) (stills_cons (still_load rfl rfl (loadAt_atom (n := 1) (by kernel_rfl) (by first | assumption | (simp (disch := first | omega | (simp only [Heap.next_new, Heap.next_put]; omega)) only [get_new_same, get_new_same1, get_new_same2, get_put_same, get_new_other, get_put_other] <;> first | rfl | assumption)) (by first | rfl | assumption)) rfl (eqv_refl _ (by first | rfl | exact len_plain (by assumption)))) (stills_cons (still_load rfl rfl (loadAt_atom (n := 1) (by kernel_rfl) (by first | assumption | (simp (disch := first | omega | (simp only [Heap.next_new, Heap.next_put]; omega)) only [get_new_same, get_new_same1, get_new_same2, get_put_same, get_new_other, get_put_other] <;> first | rfl | assumption)) (by first | rfl | assumption)) rfl (eqv_refl _ (by first | rfl | exact len_plain (by assumption)))) (stills_cons (still_load rfl rfl (loadAt_atom (n := 1) (by kernel_rfl) (by first | assumption | (simp (disch := first | omega | (simp only [Heap.next_new, Heap.next_put]; omega)) only [get_new_same, get_new_same1, get_new_same2, get_put_same, get_new_other, get_put_other] <;> first | rfl | assumption)) (by first | rfl | assumption)) rfl (eqv_refl _ (by first | rfl | exact len_plain (by assumption)))) rfl)))))), ?_⟩
    refine OkP.step ?_
    refine OkO.store rfl rfl rfl (storeAt_cells (n := 8) (ag := true) (by kernel_rfl) (by first | assumption | (simp (disch := first | omega | (simp only [Heap.next_new, Heap.next_put]; omega)) only [get_new_same, get_new_same1, get_new_same2, get_put_same, get_new_other, get_put_other] <;> first | rfl | assumption)) rfl rfl rfl) ?_
    refine OkO.nil ⟨rfl, ?_⟩
    refine OkP.nil ?_
    refine Ok.seq ?_
    refine Ok.drawn [(0, true, []), (1, true, []), (2, true, []), (3, true, []), (4, true, []), (5, true, []), (6, false, []), (7, true, []), (8, false, [])] (by kernel_rfl) ?_
    refine OkP.step ?_
    refine OkO.move rfl rfl ?_
    refine OkO.nil ⟨rfl, ?_⟩
    refine OkP.step ?_
    refine OkO.load rfl rfl (loadAt_agg (n := 8) (by kernel_rfl) (by first | assumption | (simp (disch := first | omega | (simp only [Heap.next_new, Heap.next_put]; omega)) only [get_new_same, get_new_same1, get_new_same2, get_put_same, get_new_other, get_put_other] <;> first | rfl | assumption)) (by first | rfl | assumption)) ?_
    refine OkO.nil ⟨rfl, ?_⟩
    refine OkP.step ?_
    refine OkO.move rfl rfl ?_
    refine OkO.nil ⟨rfl, ?_⟩
    refine OkP.step ?_
    refine OkO.move rfl rfl ?_
    refine OkO.nil ⟨rfl, ?_⟩
    refine OkP.step ?_
    refine OkO.index (sz := 3) (n := i) rfl rfl rfl (by kernel_rfl) (by first | assumption | rfl) ?_ -- index ('Go.Operand.tmp', 35) ('Go.Operand.tmp', 36)
    refine OkO.nil ⟨rfl, ?_⟩
    refine OkP.step ?_
    refine OkO.load rfl rfl (loadAt_agg (n := 3) (by kernel_rfl) (by first | assumption | (simp (disch := first | omega | (simp only [Heap.next_new, Heap.next_put]; omega)) only [get_new_same, get_new_same1, get_new_same2, get_put_same, get_new_other, get_put_other] <;> first | rfl | assumption)) (by first | rfl | assumption)) ?_
    refine OkO.nil ⟨rfl, ?_⟩
    refine OkP.step ?_
    refine OkO.callV rfl rfl rfl rfl rfl (c65 m bed R[i] _ (by omega) (hRl _ (List.getElem_mem hRi))) ?_ -- "sackung/sackungref01.Holds"
    refine OkO.nil ⟨rfl, ?_⟩
    refine OkP.step ?_
    refine OkO.bin rfl rfl rfl (bin_add (by omega) (by omega)) ?_
    refine OkO.nil ⟨rfl, ?_⟩
    refine OkP.step ?_
    refine OkO.assign rfl rfl ?_
    refine OkO.nil ⟨rfl, ?_⟩
    refine OkP.nil ?_
    refine Ok.region ?_
    refine OkO.move rfl rfl ?_
    refine OkO.fieldAddr (o := 0) rfl (by kernel_rfl) rfl ?_
    refine OkO.load rfl rfl (loadAt_atom (n := 1) (by kernel_rfl) (by first | assumption | (simp (disch := first | omega | (simp only [Heap.next_new, Heap.next_put]; omega)) only [get_new_same, get_new_same1, get_new_same2, get_put_same, get_new_other, get_put_other] <;> first | rfl | assumption)) (by first | rfl | assumption)) ?_
    refine OkO.bin rfl rfl rfl (bin_add (by omega) (by omega)) ?_
    refine OkO.assign rfl rfl ?_
    refine OkO.nil ?_
    refine Ok.region ?_
    refine OkO.move rfl rfl ?_
    refine OkO.bin rfl rfl rfl (bin_add (by omega) (by omega)) ?_
    refine OkO.assign rfl rfl ?_
    refine OkO.nil ?_
    refine ⟨us.length - (i + 1), by omega, i + 1, rfl, hlt, ?_, rfl, (by (try dsimp only); repeat (first | (first | exact hg | exact hG) | apply Grow.new | (refine Grow.put ?_ _ (by first | omega | (simp only [Heap.next_new, Heap.next_put]; omega))))), ?_, ?_, (by simp only [Heap.next_new, Heap.next_put]; omega)⟩
    · rw [held_take _ _ _ hLi.1 hRi, drive_take _ _ hLi.1, hLi.2]; exact Has.of (by kernel_rfl)
    · show (((G.new _).put _ _)).get (W.next) = _
      rw [get_put_other _ _ _ _ (by omega), get_new_other _ _ _ (by omega)]; exact hb1
    · show (((G.new _).put _ _)).get (W.next + 1) = _
      rw [get_put_other _ _ _ _ (by omega), get_new_other _ _ _ (by omega)]; exact hb2
  · -- no h1
    have hge : i = us.length := by simp at h1; omega
    have hs := held_bd L R hLok hRl
    have hd := drive_bd L hdr
    have e1 : L.take i = L := List.take_of_length_le (by rw [hp.1]; omega)
    have e2 : R.take i = R := List.take_of_length_le (by rw [hRL, hp.1]; omega)
    rw [e1, e2]
    refine Ok.exit ?_
    refine Ok.seq ?_
    refine Ok.seq ?_
    refine Ok.region ?_
    refine OkO.move rfl rfl ?_
    refine OkO.bin rfl rfl rfl (bin_lss _ _) ?_
    refine OkO.nil ?_
    refine Ok.cond rfl (fun h2 => ?_) (fun h2 => ?_)
    · -- yes h2
      have hr : refFactor L R = -1 := by unfold refFactor; rw [if_pos (by simpa using h2)]
      refine Ok.seq ?_
      refine Ok.region ?_
      refine OkO.assign rfl rfl ?_
      refine OkO.nil ?_
      refine Ok.ret ⟨.inr rfl, ?_⟩
      exact back_flat rfl (by rw [hr]; rfl) rfl (by rw [← hW]; exact (by (try dsimp only); repeat (first | (first | exact hg | exact hG) | apply Grow.new | (refine Grow.put ?_ _ (by first | omega | (simp only [Heap.next_new, Heap.next_put]; omega))))))
    · -- no h2
      have hd1 : ¬ drive L < 1 := by simpa using h2
      have hr : refFactor L R = min 10000 (1000 * held L R / drive L) := by unfold refFactor; rw [if_neg hd1]
      refine Ok.skip ?_
      refine Ok.seq ?_
      refine Ok.region ?_
      refine OkO.move rfl rfl ?_
      refine OkO.bin rfl rfl rfl (bin_mul (by omega) (by omega)) ?_
      refine OkO.move rfl rfl ?_
      refine OkO.bin rfl rfl rfl (bin_quo (by omega) (by omega) (by omega)) ?_
      refine OkO.builtin rfl rfl rfl (builtin_min2 _ _) ?_
      refine OkO.assign rfl rfl ?_
      refine OkO.nil ?_
      refine Ok.ret ⟨.inr rfl, ?_⟩
      exact back_flat rfl (by rw [hr]; rfl) rfl (by rw [← hW]; exact (by (try dsimp only); repeat (first | (first | exact hg | exact hG) | apply Grow.new | (refine Grow.put ?_ _ (by first | omega | (simp only [Heap.next_new, Heap.next_put]; omega))))))
end
end Go.Ev
