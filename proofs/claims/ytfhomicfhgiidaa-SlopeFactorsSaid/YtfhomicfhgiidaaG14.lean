/-
  Functions of the program, reckoned by the evaluator: what each answers, in the document's words, and that it leaves what came in as it was (part 14).
-/
import Derived.Test.YtfhomicfhgiidaaG13
set_option maxRecDepth 100000
set_option linter.unusedSimpArgs false
set_option linter.unusedVariables false
namespace Go.Ev
open Go Go.Proofs
noncomputable section
theorem ints_flat (us : List Int) : (us.map fun n => [I n]).flatten = us.map I := by induction us with | nil => rfl | cons a l ih => simp [ih]
theorem atoms_ints (us : List Int) : atoms (us.map I) = true := by induction us with | nil => rfl | cons a l ih => exact ih
theorem c29 (m : Nat) (a d : Int) (H : Heap)  : RR (m + 1) (.fn 29 [.agg [I a, I d]]) H = some (.agg [I a, I d], H) := by
  refine (R_fn _ _ _ _ _).trans ?_
  refine fn_ok Try.func29 rfl rfl (by kernel_rfl) (by kernel_rfl) ?_
  obtain ⟨W, hW⟩ : ∃ W : Heap, W = ⟨H.t, H.next, H.next⟩ := ⟨_, rfl⟩
  have hg : ∀ n, W.get n = H.get n := fun n => by rw [hW]; rfl
  have hN : W.next = H.next := by rw [hW]
  have hE : ∀ G, Grow W G → Ext H G := fun G g => ⟨by rw [← hN]; exact g.next, fun n k => by rw [g.get n (by rw [hN]; exact k), hg]⟩
  have hG : Grow W W := Grow.refl (by rw [hW]; exact Nat.le_refl _)
  rw [← hW]
  refine Ok.seq ?_
  refine Ok.region ?_
  refine OkO.box rfl rfl ?_
  refine OkO.alloc (z := [.int .i64 0, .int .i64 0]) rfl (by kernel_rfl) ?_
  refine OkO.nil ?_
  refine Ok.seq ?_
  refine Ok.region ?_
  refine OkO.fieldAddr (o := 0) rfl (by kernel_rfl) rfl ?_
  refine OkO.load rfl rfl (loadAt_atom (n := 1) (by kernel_rfl) (by first | assumption | (simp (disch := first | omega | (simp only [Heap.next_new, Heap.next_put]; omega)) only [get_new_same, get_new_same1, get_new_same2, get_put_same, get_new_other, get_put_other] <;> first | rfl | assumption)) (by first | rfl | assumption)) ?_
  refine OkO.fieldAddr (o := 1) rfl (by kernel_rfl) rfl ?_
  refine OkO.load rfl rfl (loadAt_atom (n := 1) (by kernel_rfl) (by first | assumption | (simp (disch := first | omega | (simp only [Heap.next_new, Heap.next_put]; omega)) only [get_new_same, get_new_same1, get_new_same2, get_put_same, get_new_other, get_put_other] <;> first | rfl | assumption)) (by first | rfl | assumption)) ?_
  refine OkO.build (z := [.int .i64 0, .int .i64 0]) (pl := [(0, 1), (1, 1)]) rfl (by kernel_rfl) rfl rfl ?_
  refine OkO.store rfl rfl rfl (storeAt_cells (n := 2) (ag := true) (by kernel_rfl) (by first | assumption | (simp (disch := first | omega | (simp only [Heap.next_new, Heap.next_put]; omega)) only [get_new_same, get_new_same1, get_new_same2, get_put_same, get_new_other, get_put_other] <;> first | rfl | assumption)) rfl rfl rfl) ?_
  refine OkO.nil ?_
  refine Ok.ret ⟨.inr rfl, ?_⟩
  exact back_flat (resV_cell rfl (loadAt_agg (n := 2) (by kernel_rfl) (by first | assumption | (simp (disch := first | omega | (simp only [Heap.next_new, Heap.next_put]; omega)) only [get_new_same, get_new_same1, get_new_same2, get_put_same, get_new_other, get_put_other] <;> first | rfl | assumption)) (by first | rfl | assumption)) resV_nil) (rfl) rfl (by rw [← hW]; exact (by (try dsimp only); repeat (first | exact hG | apply Grow.new | (refine Grow.put ?_ _ (by first | omega | (simp only [Heap.next_new, Heap.next_put]; omega))))))
theorem c34 (m : Nat) (bv : AV) (us : List Int) (H : Heap) (hU : Ints H bv us) (hl : us.length ≤ 1000) : ∃ v H', RR (m + 1) (.fn 34 [bv]) H = some (v, H') ∧ Ret H H' ∧ Fr H.next H'.next H' (fun X => Ints X v us ∧ Cut X v 1) ∧ One v := by
  show ∃ v H', evFn Try.prog (RR (m + 0)) 34 [bv] H = some (v, H') ∧ Ret H H' ∧ Fr H.next H'.next H' (fun X => Ints X v us ∧ Cut X v 1) ∧ One v
  refine fn_okE Try.func34 rfl rfl (by kernel_rfl) (by kernel_rfl) ?_
  obtain ⟨W, hW⟩ : ∃ W : Heap, W = ⟨H.t, H.next, H.next⟩ := ⟨_, rfl⟩
  have hg : ∀ n, W.get n = H.get n := fun n => by rw [hW]; rfl
  have hN : W.next = H.next := by rw [hW]
  have hE : ∀ G, Grow W G → Ext H G := fun G g => ⟨by rw [← hN]; exact g.next, fun n k => by rw [g.get n (by rw [hN]; exact k), hg]⟩
  have hG : Grow W W := Grow.refl (by rw [hW]; exact Nat.le_refl _)
  rw [← hW]
  refine Ok.seq ?_
  refine Ok.region ?_
  refine OkO.assign rfl rfl ?_
  refine OkO.nil ?_
  refine Ok.seq ?_
  refine Ok.region ?_
  refine OkO.buildSlice (el := 3) (sz := 1) (z := [.int .i64 0]) rfl (by kernel_rfl) (by decide) rfl rfl ?_
  refine OkO.move rfl rfl ?_
  refine OkO.builtinE rfl rfl rfl (app_lit (el := 3) (sz := 1) (by_ := 8) (e := 3) (rows := us.map fun n => [I n]) hG (by kernel_rfl) (by kernel_rfl) ((hU.ext (hE _ hG)).ext (Grow.toNew _ _)) (fun y hy => by simp only [List.mem_map] at hy; obtain ⟨q, _, rfl⟩ := hy; rfl) (by simp; omega) (by omega) (by rw [ints_flat]; exact atoms_ints us)) ?_
  rintro v2 G2 ⟨r1, r3, r4, r5⟩
  refine OkO.assign rfl rfl ?_
  refine OkO.nil ?_
  refine Ok.ret ⟨.inr rfl, ?_⟩
  exact back_newQ (resV_tmp rfl resV_nil) rfl (by rw [← hW]; exact r3) r4.2.2 (fun H' q1 q2 q3 => ⟨q1, by rw [q3, ← hN]; exact Fr.to r1 (fun n _ _ => q2 n), r4⟩)
theorem c21 (m : Nat) (bv : AV) (fr : Int) (us : List Int) (H : Heap) (hU : Ints H bv us) (hl : us.length ≤ 1000) : ∃ v H', RR (m + 2) (.fn 21 [.agg [I fr, bv]]) H = some (v, H') ∧ ∃ bv', v = .agg [I fr, bv'] ∧ Ret H H' ∧ Fr H.next H'.next H' (fun X => Ints X bv' us ∧ Cut X bv' 1) := by
  show ∃ v H', evFn Try.prog (RR (m + 1)) 21 [.agg [I fr, bv]] H = some (v, H') ∧ ∃ bv', v = .agg [I fr, bv'] ∧ Ret H H' ∧ Fr H.next H'.next H' (fun X => Ints X bv' us ∧ Cut X bv' 1)
  refine fn_okE Try.func21 rfl rfl (by kernel_rfl) (by kernel_rfl) ?_
  obtain ⟨W, hW⟩ : ∃ W : Heap, W = ⟨H.t, H.next, H.next⟩ := ⟨_, rfl⟩
  have hg : ∀ n, W.get n = H.get n := fun n => by rw [hW]; rfl
  have hN : W.next = H.next := by rw [hW]
  have hE : ∀ G, Grow W G → Ext H G := fun G g => ⟨by rw [← hN]; exact g.next, fun n k => by rw [g.get n (by rw [hN]; exact k), hg]⟩
  have hG : Grow W W := Grow.refl (by rw [hW]; exact Nat.le_refl _)
  rw [← hW]
  have pb : bv.plain = true := len_plain hU.len
  refine Ok.seq ?_
  refine Ok.region ?_
  refine OkO.box rfl rfl ?_
  refine OkO.alloc (z := [.int .i64 0, .nils]) rfl (by kernel_rfl) ?_
  refine OkO.nil ?_
  refine Ok.seq ?_
  refine Ok.drawn [(0, true, []), (1, true, []), (2, true, []), (3, true, []), (4, false, [1]), (5, true, []), (6, false, [])] (by kernel_rfl) ?_
  refine OkP.step ?_
  refine OkO.fieldAddr (o := 0) rfl (by kernel_rfl) rfl ?_
  refine OkO.nil ⟨rfl, ?_⟩
  refine OkP.step ?_
  refine OkO.load rfl rfl (loadAt_atom (n := 1) (by kernel_rfl) (by first | assumption | (simp (disch := first | omega | (simp only [Heap.next_new, Heap.next_put]; omega)) only [get_new_same, get_new_same1, get_new_same2, get_put_same, get_new_other, get_put_other] <;> first | rfl | assumption)) (by first | rfl | assumption)) ?_
  refine OkO.nil ⟨rfl, ?_⟩
  refine OkP.step ?_
  refine OkO.fieldAddr (o := 1) rfl (by kernel_rfl) rfl ?_
  refine OkO.nil ⟨rfl, ?_⟩
  refine OkP.step ?_
  refine OkO.load rfl rfl (loadAt_atom (n := 1) (by kernel_rfl) (by first | assumption | (simp (disch := first | omega | (simp only [Heap.next_new, Heap.next_put]; omega)) only [get_new_same, get_new_same1, get_new_same2, get_put_same, get_new_other, get_put_other] <;> first | rfl | assumption)) (by first | rfl | assumption)) ?_
  refine OkO.nil ⟨rfl, ?_⟩
  refine OkP.step ?_
  refine OkO.callE rfl rfl rfl rfl rfl (c34 m bv us _ (hU.ext (hE _ (by (try dsimp only); repeat (first | exact hG | apply Grow.new | (refine Grow.put ?_ _ (by first | omega | (simp only [Heap.next_new, Heap.next_put]; omega))))))) hl) ?_ -- "sackung/sackunglaw01.list"
  rintro v34 H34 ⟨q1, r1, hv1, hv2, hv3⟩
  have g34 : Grow W H34 := Grow.ret (by (try dsimp only); repeat (first | exact hG | apply Grow.new | (refine Grow.put ?_ _ (by first | omega | (simp only [Heap.next_new, Heap.next_put]; omega))))) q1
  have n34 : W.next + 2 ≤ H34.next := by have := q1.ext.next; simpa using this
  have a34 : (H34.get W.next).bind AObj.cs = some [I fr, bv] := by rw [q1.ext.get _ (by simp only [Heap.next_new]; omega)]; simp (disch := first | omega | (simp only [Heap.next_new, Heap.next_put]; omega)) only [get_new_same, get_new_same1, get_new_same2, get_put_same, get_new_other, get_put_other] <;> rfl
  have o34 : H34.get (W.next + 1) = some (.cells [I 0, .nils] 39) := by rw [q1.ext.get _ (by simp only [Heap.next_new]; omega)]; exact get_new_same1 _ _ _
  refine OkO.nil ⟨(stills_cons (still_load rfl rfl (loadAt_atom (n := 1) (by kernel_rfl) (by first | assumption | (simp (disch := first | omega | (simp only [Heap.next_new, Heap.next_put]; omega)) only [get_new_same, get_new_same1, get_new_same2, get_put_same, get_new_other, get_put_other] <;> first | rfl | assumption)) (by first | rfl | assumption)) rfl (eqv_refl _ (by first | rfl | exact len_plain (by assumption)))) rfl), ?_⟩
  refine OkP.step ?_
  refine OkO.build (cs := [I fr, v34]) (z := [.int .i64 0, .nils]) (pl := [(0, 1), (1, 1)]) rfl (by kernel_rfl) rfl (by simp [fillS, spl, hv1, show ∀ z, (I z).cells = [I z] from fun _ => rfl]) ?_
  refine OkO.nil ⟨rfl, ?_⟩
  refine OkP.step ?_
  refine OkO.store rfl rfl rfl (storeAt_cells (n := 2) (ag := true) (by kernel_rfl) (by first | assumption | (simp (disch := first | omega | (simp only [Heap.next_new, Heap.next_put]; omega)) only [get_new_same, get_new_same1, get_new_same2, get_put_same, get_new_other, get_put_other] <;> first | rfl | assumption)) rfl (by show atoms [I fr, v34] = true; simp [atoms, hv2, show ∀ z, (I z).atom = true from fun _ => rfl]) rfl) ?_
  refine OkO.nil ⟨rfl, ?_⟩
  refine OkP.nil ?_
  refine Ok.ret ⟨.inr rfl, ?_⟩
  exact back_newQ (resV_cell rfl (loadAt_agg (n := 2) (by kernel_rfl) (by first | assumption | (simp (disch := first | omega | (simp only [Heap.next_new, Heap.next_put]; omega)) only [get_new_same, get_new_same1, get_new_same2, get_put_same, get_new_other, get_put_other] <;> first | rfl | assumption)) (by first | rfl | assumption)) resV_nil) rfl (by rw [← hW]; exact (by (try dsimp only); repeat (first | exact g34 | apply Grow.new | (refine Grow.put ?_ _ (by first | omega | (simp only [Heap.next_new, Heap.next_put]; omega)))))) (by show (AV.agg [I fr, v34]).flat = false; simp [AV.flat, AV.flats, hv3]) (fun H' p1 p2 p3 => ⟨v34, rfl, p1, by rw [p3, ← hN]; exact Fr.wide (Fr.to r1 (fun n h1 h2 => by rw [p2 n, get_put_other _ _ _ _ (by simp only [Heap.next_new] at h1 ⊢; omega)])) (by simp only [Heap.next_new]; omega) (Nat.le_refl _)⟩)
end
end Go.Ev
