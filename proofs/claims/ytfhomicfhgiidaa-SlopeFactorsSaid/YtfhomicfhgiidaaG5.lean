/-
  Functions of the program, reckoned by the evaluator: what each answers, in the document's words, and that it leaves what came in as it was (part 5).
-/
import Derived.Test.YtfhomicfhgiidaaG4
set_option maxRecDepth 100000
set_option linter.unusedSimpArgs false
set_option linter.unusedVariables false
namespace Go.Ev
open Go Go.Proofs
noncomputable section
/-- The beds of a surface that is within its slope. -/
def Picks (cols : List (List Bed)) (f0 : Nat) (us : List Nat) (L : List Bed) : Prop := L.length = us.length ∧ ∀ i u, us[i]? = some u → ∃ col b, cols[f0 + i]? = some col ∧ col[u]? = some b ∧ L[i]? = some b
theorem flat_len (l : List (List AV)) (k : Nat) (h : ∀ x ∈ l, x.length = k) : l.flatten.length = l.length * k := by
  induction l with
  | nil => simp
  | cons x l ih => rw [List.flatten_cons, List.length_append, ih (fun y hy => h y (by simp [hy])), h x (by simp), List.length_cons, Nat.add_mul]; omega
theorem c59 (m : Nat) (cv bv : AV) (cols : List (List Bed)) (least : Int) (f0 : Nat) (us : List Nat) (L : List Bed) (H : Heap) (hM : Mat H cv cols) (hU : Row H bv 1 (us.map fun (n : Nat) => [I (n : Int)])) (hp : Picks cols f0 us L) (hl : us.length ≤ 1000) (hf : f0 ≤ 1000) : ∃ v H', RR (m + 1) (.fn 59 [.agg [cv, I least], .agg [I (f0 : Int), bv]]) H = some (v, H') ∧ Ret H H' ∧ Row H' v 8 (L.map Bed.c) := by
  show ∃ v H', evFn Try.prog (RR (m + 0)) 59 [.agg [cv, I least], .agg [I (f0 : Int), bv]] H = some (v, H') ∧ Ret H H' ∧ Row H' v 8 (L.map Bed.c)
  refine fn_okE Try.func59 rfl rfl (by kernel_rfl) (by kernel_rfl) ?_
  obtain ⟨W, hW⟩ : ∃ W : Heap, W = ⟨H.t, H.next, H.next⟩ := ⟨_, rfl⟩
  have hg : ∀ n, W.get n = H.get n := fun n => by rw [hW]; rfl
  have hN : W.next = H.next := by rw [hW]
  have hE : ∀ G, Grow W G → Ext H G := fun G g => ⟨by rw [← hN]; exact g.next, fun n k => by rw [g.get n (by rw [hN]; exact k), hg]⟩
  have hG : Grow W W := Grow.refl (by rw [hW]; exact Nat.le_refl _)
  rw [← hW]
  obtain ⟨vs, hR, hvl, hv⟩ := hM
  have hlen : lenOf bv = some us.length := by simpa using hU.len
  refine Ok.seq ?_
  refine Ok.region ?_
  refine OkO.box rfl rfl ?_
  refine OkO.box rfl rfl ?_
  refine OkO.assign rfl rfl ?_
  refine OkO.nil ?_
  refine Ok.seq ?_
  refine Ok.region ?_
  refine OkO.assign rfl rfl ?_
  refine OkO.nil ?_
  refine Ok.seq ?_
  refine Ok.seq ?_
  refine Ok.region ?_
  refine OkO.fieldAddr (o := 1) rfl (by kernel_rfl) rfl ?_
  refine OkO.load rfl rfl (loadAt_atom (n := 1) (by kernel_rfl) (by first | assumption | (simp (disch := first | omega | (simp only [Heap.next_new, Heap.next_put]; omega)) only [get_new_same, get_new_same1, get_new_same2, get_put_same, get_new_other, get_put_other] <;> first | rfl | assumption)) (by first | rfl | assumption)) ?_
  refine OkO.builtin rfl rfl rfl (builtin_len (by kernel_rfl) (by first | assumption | rfl)) ?_
  refine OkO.move rfl rfl ?_
  refine OkO.nil ?_
  refine Ok.block ?_
  refine Ok.loop (fun n s => ∃ (i : Nat) (v5 : AV), n = us.length - i ∧ i ≤ us.length ∧ Mine (W.next + 2) s.H v5 85 8 ((L.take i).map Bed.c).flatten ∧ Has 6 [(2, .ptr W.next 0), (3, .ptr (W.next + 1) 0), (5, v5), (9, bv), (10, I us.length), (11, I (i : Int))] s.T ∧ s.D = [] ∧ Grow W s.H ∧ s.H.get W.next = some (.cells [cv, I least] 35) ∧ s.H.get (W.next + 1) = some (.cells [I (f0 : Int), bv] 39) ∧ W.next + 2 ≤ s.H.next) (us.length) (by unfold loopFuel; omega)
    ⟨0, .nils, rfl, Nat.zero_le _, Mine.nil _ _ _ _, Has.of (by kernel_rfl), rfl, (by (try dsimp only); repeat (first | exact hG | apply Grow.new | (refine Grow.put ?_ _ (by first | omega | (simp only [Heap.next_new, Heap.next_put]; omega))))), (by simp (disch := first | omega | (simp only [Heap.next_new, Heap.next_put]; omega)) only [get_new_same, get_new_same1, get_new_same2, get_put_same, get_new_other, get_put_other] <;> rfl), (by first | rfl | exact get_new_same (W.new _) _), (by simp)⟩ ?_
  rintro n ⟨T, D, G⟩ ⟨i, v5, hn, hi, hm, ⟨f, hT⟩, hD, hg, hb1, hb2, hb3⟩
  dsimp only at *
  subst hT hD
  have hgn := hg.next
  have hc1 : (G.get W.next).bind AObj.cs = some [cv, I least] := by rw [hb1]; rfl
  have hc2 : (G.get (W.next + 1)).bind AObj.cs = some [I (f0 : Int), bv] := by rw [hb2]; rfl
  refine Ok.seq ?_
  refine Ok.region ?_
  refine OkO.bin rfl rfl rfl (bin_lss _ _) ?_
  refine OkO.nil ?_
  refine Ok.seq ?_
  refine Ok.cond rfl (fun h1 => ?_) (fun h1 => ?_)
  · -- yes h1
    have hlt : i < us.length := by simpa using h1
    obtain ⟨col, bed, hp1, hp2, hp3⟩ := hp.2 i us[i] (by simp [hlt])
    have hEg := hE _ hg
    obtain ⟨ub, uo, ucs, i1, i2, i3, i4⟩ := (hU.ext hEg).at_ i [I ((us[i] : Nat) : Int)] (by simp [hlt])
    have i5 := seg_one i3
    have hcl : f0 + i < vs.length := by rw [hvl]; exact (List.getElem?_eq_some_iff.1 hp1).1
    obtain ⟨cb, co, ccs, j1, j2, j3, j4⟩ := (hR.ext hEg).at_ (f0 + i) [vs[f0 + i]] (by simp [hcl])
    have j5 := seg_one j3
    have hcol := (hv (f0 + i) vs[f0 + i] col (by simp [hcl]) hp1).ext hEg
    obtain ⟨bb, bo, bcs, k1, k2, k3, k4⟩ := hcol.at_ us[i] bed.c (by rw [List.getElem?_map, hp2]; rfl)
    have ht : ((L.take (i + 1)).map Bed.c).flatten = ((L.take i).map Bed.c).flatten ++ bed.c := by
          have hl := (List.getElem?_eq_some_iff.1 hp3)
          rw [List.take_succ_eq_append_getElem hl.1, hl.2]; simp
    have hml : ((L.take i).map Bed.c).flatten.length = i * 8 := by
          rw [flat_len _ 8 (fun x hx => by simp only [List.mem_map] at hx; obtain ⟨y, _, rfl⟩ := hx; rfl)]; simp; rw [hp.1]; omega
    refine Ok.skip ?_
    refine Ok.seq ?_
    refine Ok.block ?_
    refine Ok.seq ?_
    refine Ok.region ?_
    refine OkO.move rfl rfl ?_
    refine OkO.index (sz := 1) (n := i) rfl rfl rfl (by kernel_rfl) (by first | assumption | rfl) ?_ -- index ('Go.Operand.tmp', 9) ('Go.Operand.tmp', 11)
    refine OkO.load rfl rfl (loadAt_atom (n := 1) (by kernel_rfl) (by first | assumption | (simp (disch := first | omega | (simp only [Heap.next_new, Heap.next_put]; omega)) only [get_new_same, get_new_same1, get_new_same2, get_put_same, get_new_other, get_put_other] <;> first | rfl | assumption)) (by first | rfl | assumption)) ?_
    refine OkO.assign rfl rfl ?_
    refine OkO.assign rfl rfl ?_
    refine OkO.nil ?_
    refine Ok.region ?_
    refine OkO.move rfl rfl ?_
    refine OkO.fieldAddr (o := 0) rfl (by kernel_rfl) rfl ?_
    refine OkO.load rfl rfl (loadAt_atom (n := 1) (by kernel_rfl) (by first | assumption | (simp (disch := first | omega | (simp only [Heap.next_new, Heap.next_put]; omega)) only [get_new_same, get_new_same1, get_new_same2, get_put_same, get_new_other, get_put_other] <;> first | rfl | assumption)) (by first | rfl | assumption)) ?_
    refine OkO.fieldAddr (o := 0) rfl (by kernel_rfl) rfl ?_
    refine OkO.load rfl rfl (loadAt_atom (n := 1) (by kernel_rfl) (by first | assumption | (simp (disch := first | omega | (simp only [Heap.next_new, Heap.next_put]; omega)) only [get_new_same, get_new_same1, get_new_same2, get_put_same, get_new_other, get_put_other] <;> first | rfl | assumption)) (by first | rfl | assumption)) ?_
    refine OkO.move rfl rfl ?_
    refine OkO.bin rfl rfl rfl (bin_add (by omega) (by omega)) ?_
    refine OkO.index (sz := 1) (n := f0 + i) rfl rfl rfl (by kernel_rfl) (by first | assumption | rfl) ?_ -- index ('Go.Operand.tmp', 18) ('Go.Operand.tmp', 22)
    refine OkO.load rfl rfl (loadAt_atom (n := 1) (by kernel_rfl) (by first | assumption | (simp (disch := first | omega | (simp only [Heap.next_new, Heap.next_put]; omega)) only [get_new_same, get_new_same1, get_new_same2, get_put_same, get_new_other, get_put_other] <;> first | rfl | assumption)) (by first | rfl | assumption)) ?_
    refine OkO.move rfl rfl ?_
    refine OkO.index (sz := 8) (n := us[i]) rfl rfl rfl (by kernel_rfl) (by first | assumption | rfl) ?_ -- index ('Go.Operand.tmp', 24) ('Go.Operand.tmp', 25)
    refine OkO.load rfl rfl (loadAt_agg (n := 8) (by kernel_rfl) (by first | assumption | (simp (disch := first | omega | (simp only [Heap.next_new, Heap.next_put]; omega)) only [get_new_same, get_new_same1, get_new_same2, get_put_same, get_new_other, get_put_other] <;> first | rfl | assumption)) (by first | rfl | assumption)) ?_
    refine OkO.buildSlice (el := 85) (sz := 8) (z := [.int .i64 0, .int .i64 0, .int .i64 0, .int .i64 0, .int .i64 0, .int .i64 0, .int .i64 0, .int .i64 0]) rfl (by kernel_rfl) (by decide) rfl rfl ?_
    refine OkO.builtinE rfl rfl rfl (Mine.app (sz := 8) (by_ := 64) (e := 85) (n := 1) (new := bed.c) (hm.to (Grow.toNew _ _)) (hg.new _) (by omega) (by simp; omega) (by kernel_rfl) (by kernel_rfl) (elems_new (n := 1) (sz := 8) rfl) rfl rfl (by rw [hml]; omega) (by omega) (by omega) rfl) ?_
    rintro v2 G2 ⟨q1, q2, q3⟩
    refine OkO.assign rfl rfl ?_
    refine OkO.nil ?_
    refine Ok.region ?_
    refine OkO.bin rfl rfl rfl (bin_add (by omega) (by omega)) ?_
    refine OkO.move rfl rfl ?_
    refine OkO.nil ?_
    refine ⟨us.length - (i + 1), by omega, i + 1, v2, rfl, hlt, ?_, Has.of (by kernel_rfl), rfl, q2, ?_, ?_, ?_⟩
    · rw [ht]; exact q1
    · rw [q3.get _ (by omega) (by simp; omega), get_new_other _ _ _ (by omega)]; exact hb1
    · rw [q3.get _ (by omega) (by simp; omega), get_new_other _ _ _ (by omega)]; exact hb2
    · show W.next + 2 ≤ G2.next
      have := q3.next; simp at this; omega
  · -- no h1
    have hge : i = us.length := by simp at h1; omega
    refine Ok.exit ?_
    refine Ok.seq ?_
    refine Ok.region ?_
    refine OkO.move rfl rfl ?_
    refine OkO.assign rfl rfl ?_
    refine OkO.nil ?_
    refine Ok.ret ⟨.inr rfl, ?_⟩
    subst hge
    have hrow : Row G v5 8 (L.map Bed.c) := Mine.row (by rw [List.take_of_length_le (by rw [hp.1]; omega)] at hm; exact hm) (fun x hx => by simp only [List.mem_map] at hx; obtain ⟨y, _, rfl⟩ := hx; rfl) (by omega)
    exact back_rowQ (resV_tmp rfl resV_nil) rfl (by rw [← hW]; exact hg) hrow (fun H' r2 r3 => ⟨r2, r3⟩)
end
end Go.Ev
