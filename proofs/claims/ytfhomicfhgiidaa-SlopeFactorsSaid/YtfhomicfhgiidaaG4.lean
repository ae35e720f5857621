/-
  Functions of the program, reckoned by the evaluator: what each answers, in the document's words, and that it leaves what came in as it was (part 4).
-/
import Derived.Test.YtfhomicfhgiidaaG3
set_option maxRecDepth 100000
set_option linter.unusedSimpArgs false
set_option linter.unusedVariables false
namespace Go.Ev
open Go Go.Proofs
noncomputable section
def Bed.lim (b : Bed) : Prop := (-100000 ≤ b.dr ∧ b.dr ≤ 100000) ∧ (0 ≤ b.no ∧ b.no ≤ 100000) ∧ (0 ≤ b.fl ∧ b.fl ≤ b.fh ∧ b.fh ≤ 2000) ∧ (0 ≤ b.cl ∧ b.cl ≤ b.ch ∧ b.ch ≤ 100000) ∧ 0 ≤ b.wl ∧ b.wl ≤ b.wh ∧ b.wh ≤ 100000
theorem Bed.ok_lim {b : Bed} (h : b.ok = true) : b.lim := by simp [Bed.ok, inB, okR] at h; unfold Bed.lim; omega
theorem holds_bd {no f c w : Int} (h1 : 0 ≤ no ∧ no ≤ 100000) (h2 : 0 ≤ f ∧ f ≤ 2000) (h3 : 0 ≤ c ∧ c ≤ 100000) (h4 : 0 ≤ w) :
    0 ≤ max (no - w) 0 ∧ max (no - w) 0 ≤ 100000 ∧ 0 ≤ max (no - w) 0 * f ∧ max (no - w) 0 * f ≤ 200000000 ∧ 0 ≤ holds no f c w ∧ holds no f c w ≤ 300000 := by
  have a1 : 0 ≤ max (no - w) 0 ∧ max (no - w) 0 ≤ 100000 := by omega
  have a2 : 0 ≤ max (no - w) 0 * f := Int.mul_nonneg a1.1 h2.1
  have a3 : max (no - w) 0 * f ≤ 100000 * 2000 := Int.mul_le_mul a1.2 h2.2 h2.1 (by omega)
  unfold holds
  omega
theorem c62 (m : Nat) (b : Bed) (f c w : Int) (H : Heap) (h1 : 0 ≤ b.no ∧ b.no ≤ 100000) (h2 : 0 ≤ f ∧ f ≤ 2000) (h3 : 0 ≤ c ∧ c ≤ 100000) (h4 : 0 ≤ w ∧ w ≤ 100000) : RR (m + 1) (.fn 62 [.agg b.c, .agg [I f, I c, I w]]) H = some (I (holds b.no f c w), H) := by
  refine (R_fn _ _ _ _ _).trans ?_
  refine fn_ok Try.func62 rfl rfl (by kernel_rfl) (by kernel_rfl) ?_
  obtain ⟨W, hW⟩ : ∃ W : Heap, W = ⟨H.t, H.next, H.next⟩ := ⟨_, rfl⟩
  have hg : ∀ n, W.get n = H.get n := fun n => by rw [hW]; rfl
  have hN : W.next = H.next := by rw [hW]
  have hE : ∀ G, Grow W G → Ext H G := fun G g => ⟨by rw [← hN]; exact g.next, fun n k => by rw [g.get n (by rw [hN]; exact k), hg]⟩
  have hG : Grow W W := Grow.refl (by rw [hW]; exact Nat.le_refl _)
  rw [← hW]
  have hbd := holds_bd h1 h2 h3 h4.1
  have hd : holds b.no f c w = max (b.no - w) 0 * f / 1000 + c := rfl
  refine Ok.seq ?_
  refine Ok.region ?_
  refine OkO.box rfl rfl ?_
  refine OkO.box rfl rfl ?_
  refine OkO.assign rfl rfl ?_
  refine OkO.nil ?_
  refine Ok.seq ?_
  refine Ok.region ?_
  refine OkO.fieldAddr (o := 1) rfl (by kernel_rfl) rfl ?_
  refine OkO.load rfl rfl (loadAt_atom (n := 1) (by kernel_rfl) (by first | assumption | (simp (disch := first | omega | (simp only [Heap.next_new, Heap.next_put]; omega)) only [get_new_same, get_new_same1, get_new_same2, get_put_same, get_new_other, get_put_other] <;> first | rfl | assumption)) (by first | rfl | assumption)) ?_
  refine OkO.fieldAddr (o := 2) rfl (by kernel_rfl) rfl ?_
  refine OkO.load rfl rfl (loadAt_atom (n := 1) (by kernel_rfl) (by first | assumption | (simp (disch := first | omega | (simp only [Heap.next_new, Heap.next_put]; omega)) only [get_new_same, get_new_same1, get_new_same2, get_put_same, get_new_other, get_put_other] <;> first | rfl | assumption)) (by first | rfl | assumption)) ?_
  refine OkO.bin rfl rfl rfl (bin_sub (by omega) (by omega)) ?_
  refine OkO.builtin rfl rfl rfl (builtin_max2 _ _) ?_
  refine OkO.fieldAddr (o := 0) rfl (by kernel_rfl) rfl ?_
  refine OkO.load rfl rfl (loadAt_atom (n := 1) (by kernel_rfl) (by first | assumption | (simp (disch := first | omega | (simp only [Heap.next_new, Heap.next_put]; omega)) only [get_new_same, get_new_same1, get_new_same2, get_put_same, get_new_other, get_put_other] <;> first | rfl | assumption)) (by first | rfl | assumption)) ?_
  refine OkO.bin rfl rfl rfl (bin_mul (by omega) (by omega)) ?_
  refine OkO.bin rfl rfl rfl (bin_quo (by omega) (by omega) (by omega)) ?_
  refine OkO.fieldAddr (o := 1) rfl (by kernel_rfl) rfl ?_
  refine OkO.load rfl rfl (loadAt_atom (n := 1) (by kernel_rfl) (by first | assumption | (simp (disch := first | omega | (simp only [Heap.next_new, Heap.next_put]; omega)) only [get_new_same, get_new_same1, get_new_same2, get_put_same, get_new_other, get_put_other] <;> first | rfl | assumption)) (by first | rfl | assumption)) ?_
  refine OkO.bin rfl rfl rfl (bin_add (by omega) (by omega)) ?_
  refine OkO.assign rfl rfl ?_
  refine OkO.nil ?_
  refine Ok.ret ⟨.inr rfl, ?_⟩
  exact back_flat rfl (rfl) rfl (by rw [← hW]; exact (by (try dsimp only); repeat (first | exact hG | apply Grow.new | (refine Grow.put ?_ _ (by first | omega | (simp only [Heap.next_new, Heap.next_put]; omega))))))
theorem c94w (m : Nat) (b : Bed) (H : Heap)  : RR (m + 2) (.fn 94 [.agg b.c, .fn 95 [] [], .fn 96 [] []]) H = some (.agg [I b.fl, I b.cl, I b.wh], H) := by
  refine (R_fn _ _ _ _ _).trans ?_
  refine fn_ok Try.func94 rfl rfl (by kernel_rfl) (by kernel_rfl) ?_
  obtain ⟨W, hW⟩ : ∃ W : Heap, W = ⟨H.t, H.next, H.next⟩ := ⟨_, rfl⟩
  have hg : ∀ n, W.get n = H.get n := fun n => by rw [hW]; rfl
  have hN : W.next = H.next := by rw [hW]
  have hE : ∀ G, Grow W G → Ext H G := fun G g => ⟨by rw [← hN]; exact g.next, fun n k => by rw [g.get n (by rw [hN]; exact k), hg]⟩
  have hG : Grow W W := Grow.refl (by rw [hW]; exact Nat.le_refl _)
  rw [← hW]
  refine Ok.seq ?_
  refine Ok.region ?_
  refine OkO.box rfl rfl ?_
  refine OkO.alloc (z := [.int .i64 0, .int .i64 0, .int .i64 0]) rfl (by kernel_rfl) ?_
  refine OkO.nil ?_
  refine Ok.seq ?_
  refine Ok.drawn [(0, true, []), (1, true, []), (2, true, []), (4, true, []), (5, true, []), (6, true, []), (8, true, []), (9, true, []), (10, true, []), (3, false, [10, 6]), (7, false, [10, 2]), (11, false, [6, 2]), (12, true, []), (13, false, [])] (by kernel_rfl) ?_
  refine OkP.step ?_
  refine OkO.move rfl rfl ?_
  refine OkO.nil ⟨rfl, ?_⟩
  refine OkP.step ?_
  refine OkO.fieldAddr (o := 2) rfl (by kernel_rfl) rfl ?_
  refine OkO.nil ⟨rfl, ?_⟩
  refine OkP.step ?_
  refine OkO.load rfl rfl (loadAt_agg (n := 2) (by kernel_rfl) (by first | assumption | (simp (disch := first | omega | (simp only [Heap.next_new, Heap.next_put]; omega)) only [get_new_same, get_new_same1, get_new_same2, get_put_same, get_new_other, get_put_other] <;> first | rfl | assumption)) (by first | rfl | assumption)) ?_
  refine OkO.nil ⟨rfl, ?_⟩
  refine OkP.step ?_
  refine OkO.move rfl rfl ?_
  refine OkO.nil ⟨rfl, ?_⟩
  refine OkP.step ?_
  refine OkO.fieldAddr (o := 4) rfl (by kernel_rfl) rfl ?_
  refine OkO.nil ⟨rfl, ?_⟩
  refine OkP.step ?_
  refine OkO.load rfl rfl (loadAt_agg (n := 2) (by kernel_rfl) (by first | assumption | (simp (disch := first | omega | (simp only [Heap.next_new, Heap.next_put]; omega)) only [get_new_same, get_new_same1, get_new_same2, get_put_same, get_new_other, get_put_other] <;> first | rfl | assumption)) (by first | rfl | assumption)) ?_
  refine OkO.nil ⟨rfl, ?_⟩
  refine OkP.step ?_
  refine OkO.move rfl rfl ?_
  refine OkO.nil ⟨rfl, ?_⟩
  refine OkP.step ?_
  refine OkO.fieldAddr (o := 6) rfl (by kernel_rfl) rfl ?_
  refine OkO.nil ⟨rfl, ?_⟩
  refine OkP.step ?_
  refine OkO.load rfl rfl (loadAt_agg (n := 2) (by kernel_rfl) (by first | assumption | (simp (disch := first | omega | (simp only [Heap.next_new, Heap.next_put]; omega)) only [get_new_same, get_new_same1, get_new_same2, get_put_same, get_new_other, get_put_other] <;> first | rfl | assumption)) (by first | rfl | assumption)) ?_
  refine OkO.nil ⟨rfl, ?_⟩
  refine OkP.step ?_
  refine OkO.callV rfl rfl rfl rfl rfl (c95 _ _ _ _) ?_ -- ('Go.Operand.tmp', 7)
  refine OkO.nil ⟨(stills_cons (still_load rfl rfl (loadAt_agg (n := 2) (by kernel_rfl) (by first | assumption | (simp (disch := first | omega | (simp only [Heap.next_new, Heap.next_put]; omega)) only [get_new_same, get_new_same1, get_new_same2, get_put_same, get_new_other, get_put_other] <;> first | rfl | assumption)) (by first | rfl | assumption)) rfl (eqv_refl _ (by first | rfl | exact len_plain (by assumption)))) (stills_cons (still_load rfl rfl (loadAt_agg (n := 2) (by kernel_rfl) (by first | assumption | (simp (disch := first | omega | (simp only [Heap.next_new, Heap.next_put]; omega)) only [get_new_same, get_new_same1, get_new_same2, get_put_same, get_new_other, get_put_other] <;> first | rfl | assumption)) (by first | rfl | assumption)) rfl (eqv_refl _ (by first | rfl | exact len_plain (by assumption)))) rfl)), ?_⟩
  refine OkP.step ?_
  refine OkO.callV rfl rfl rfl rfl rfl (c95 _ _ _ _) ?_ -- ('Go.Operand.tmp', 11)
  refine OkO.nil ⟨(stills_cons (still_load rfl rfl (loadAt_agg (n := 2) (by kernel_rfl) (by first | assumption | (simp (disch := first | omega | (simp only [Heap.next_new, Heap.next_put]; omega)) only [get_new_same, get_new_same1, get_new_same2, get_put_same, get_new_other, get_put_other] <;> first | rfl | assumption)) (by first | rfl | assumption)) rfl (eqv_refl _ (by first | rfl | exact len_plain (by assumption)))) (stills_cons (still_load rfl rfl (loadAt_agg (n := 2) (by kernel_rfl) (by first | assumption | (simp (disch := first | omega | (simp only [Heap.next_new, Heap.next_put]; omega)) only [get_new_same, get_new_same1, get_new_same2, get_put_same, get_new_other, get_put_other] <;> first | rfl | assumption)) (by first | rfl | assumption)) rfl (eqv_refl _ (by first | rfl | exact len_plain (by assumption)))) rfl)), ?_⟩
  refine OkP.step ?_
  refine OkO.callV rfl rfl rfl rfl rfl (c96 _ _ _ _) ?_ -- ('Go.Operand.tmp', 15)
  refine OkO.nil ⟨(stills_cons (still_load rfl rfl (loadAt_agg (n := 2) (by kernel_rfl) (by first | assumption | (simp (disch := first | omega | (simp only [Heap.next_new, Heap.next_put]; omega)) only [get_new_same, get_new_same1, get_new_same2, get_put_same, get_new_other, get_put_other] <;> first | rfl | assumption)) (by first | rfl | assumption)) rfl (eqv_refl _ (by first | rfl | exact len_plain (by assumption)))) (stills_cons (still_load rfl rfl (loadAt_agg (n := 2) (by kernel_rfl) (by first | assumption | (simp (disch := first | omega | (simp only [Heap.next_new, Heap.next_put]; omega)) only [get_new_same, get_new_same1, get_new_same2, get_put_same, get_new_other, get_put_other] <;> first | rfl | assumption)) (by first | rfl | assumption)) rfl (eqv_refl _ (by first | rfl | exact len_plain (by assumption)))) rfl)), ?_⟩
  refine OkP.step ?_
  refine OkO.build (z := [.int .i64 0, .int .i64 0, .int .i64 0]) (pl := [(0, 1), (1, 1), (2, 1)]) rfl (by kernel_rfl) rfl rfl ?_
  refine OkO.nil ⟨rfl, ?_⟩
  refine OkP.step ?_
  refine OkO.store rfl rfl rfl (storeAt_cells (n := 3) (ag := true) (by kernel_rfl) (by first | assumption | (simp (disch := first | omega | (simp only [Heap.next_new, Heap.next_put]; omega)) only [get_new_same, get_new_same1, get_new_same2, get_put_same, get_new_other, get_put_other] <;> first | rfl | assumption)) rfl rfl rfl) ?_
  refine OkO.nil ⟨rfl, ?_⟩
  refine OkP.nil ?_
  refine Ok.ret ⟨.inr rfl, ?_⟩
  exact back_flat (resV_cell rfl (loadAt_agg (n := 3) (by kernel_rfl) (by first | assumption | (simp (disch := first | omega | (simp only [Heap.next_new, Heap.next_put]; omega)) only [get_new_same, get_new_same1, get_new_same2, get_put_same, get_new_other, get_put_other] <;> first | rfl | assumption)) (by first | rfl | assumption)) resV_nil) (rfl) rfl (by rw [← hW]; exact (by (try dsimp only); repeat (first | exact hG | apply Grow.new | (refine Grow.put ?_ _ (by first | omega | (simp only [Heap.next_new, Heap.next_put]; omega))))))
theorem c94s (m : Nat) (b : Bed) (H : Heap)  : RR (m + 2) (.fn 94 [.agg b.c, .fn 96 [] [], .fn 95 [] []]) H = some (.agg [I b.fh, I b.ch, I b.wl], H) := by
  refine (R_fn _ _ _ _ _).trans ?_
  refine fn_ok Try.func94 rfl rfl (by kernel_rfl) (by kernel_rfl) ?_
  obtain ⟨W, hW⟩ : ∃ W : Heap, W = ⟨H.t, H.next, H.next⟩ := ⟨_, rfl⟩
  have hg : ∀ n, W.get n = H.get n := fun n => by rw [hW]; rfl
  have hN : W.next = H.next := by rw [hW]
  have hE : ∀ G, Grow W G → Ext H G := fun G g => ⟨by rw [← hN]; exact g.next, fun n k => by rw [g.get n (by rw [hN]; exact k), hg]⟩
  have hG : Grow W W := Grow.refl (by rw [hW]; exact Nat.le_refl _)
  rw [← hW]
  refine Ok.seq ?_
  refine Ok.region ?_
  refine OkO.box rfl rfl ?_
  refine OkO.alloc (z := [.int .i64 0, .int .i64 0, .int .i64 0]) rfl (by kernel_rfl) ?_
  refine OkO.nil ?_
  refine Ok.seq ?_
  refine Ok.drawn [(0, true, []), (1, true, []), (2, true, []), (4, true, []), (5, true, []), (6, true, []), (8, true, []), (9, true, []), (10, true, []), (3, false, [10, 6]), (7, false, [10, 2]), (11, false, [6, 2]), (12, true, []), (13, false, [])] (by kernel_rfl) ?_
  refine OkP.step ?_
  refine OkO.move rfl rfl ?_
  refine OkO.nil ⟨rfl, ?_⟩
  refine OkP.step ?_
  refine OkO.fieldAddr (o := 2) rfl (by kernel_rfl) rfl ?_
  refine OkO.nil ⟨rfl, ?_⟩
  refine OkP.step ?_
  refine OkO.load rfl rfl (loadAt_agg (n := 2) (by kernel_rfl) (by first | assumption | (simp (disch := first | omega | (simp only [Heap.next_new, Heap.next_put]; omega)) only [get_new_same, get_new_same1, get_new_same2, get_put_same, get_new_other, get_put_other] <;> first | rfl | assumption)) (by first | rfl | assumption)) ?_
  refine OkO.nil ⟨rfl, ?_⟩
  refine OkP.step ?_
  refine OkO.move rfl rfl ?_
  refine OkO.nil ⟨rfl, ?_⟩
  refine OkP.step ?_
  refine OkO.fieldAddr (o := 4) rfl (by kernel_rfl) rfl ?_
  refine OkO.nil ⟨rfl, ?_⟩
  refine OkP.step ?_
  refine OkO.load rfl rfl (loadAt_agg (n := 2) (by kernel_rfl) (by first | assumption | (simp (disch := first | omega | (simp only [Heap.next_new, Heap.next_put]; omega)) only [get_new_same, get_new_same1, get_new_same2, get_put_same, get_new_other, get_put_other] <;> first | rfl | assumption)) (by first | rfl | assumption)) ?_
  refine OkO.nil ⟨rfl, ?_⟩
  refine OkP.step ?_
  refine OkO.move rfl rfl ?_
  refine OkO.nil ⟨rfl, ?_⟩
  refine OkP.step ?_
  refine OkO.fieldAddr (o := 6) rfl (by kernel_rfl) rfl ?_
  refine OkO.nil ⟨rfl, ?_⟩
  refine OkP.step ?_
  refine OkO.load rfl rfl (loadAt_agg (n := 2) (by kernel_rfl) (by first | assumption | (simp (disch := first | omega | (simp only [Heap.next_new, Heap.next_put]; omega)) only [get_new_same, get_new_same1, get_new_same2, get_put_same, get_new_other, get_put_other] <;> first | rfl | assumption)) (by first | rfl | assumption)) ?_
  refine OkO.nil ⟨rfl, ?_⟩
  refine OkP.step ?_
  refine OkO.callV rfl rfl rfl rfl rfl (c96 _ _ _ _) ?_ -- ('Go.Operand.tmp', 7)
  refine OkO.nil ⟨(stills_cons (still_load rfl rfl (loadAt_agg (n := 2) (by kernel_rfl) (by first | assumption | (simp (disch := first | omega | (simp only [Heap.next_new, Heap.next_put]; omega)) only [get_new_same, get_new_same1, get_new_same2, get_put_same, get_new_other, get_put_other] <;> first | rfl | assumption)) (by first | rfl | assumption)) rfl (eqv_refl _ (by first | rfl | exact len_plain (by assumption)))) (stills_cons (still_load rfl rfl (loadAt_agg (n := 2) (by kernel_rfl) (by first | assumption | (simp (disch := first | omega | (simp only [Heap.next_new, Heap.next_put]; omega)) only [get_new_same, get_new_same1, get_new_same2, get_put_same, get_new_other, get_put_other] <;> first | rfl | assumption)) (by first | rfl | assumption)) rfl (eqv_refl _ (by first | rfl | exact len_plain (by assumption)))) rfl)), ?_⟩
  refine OkP.step ?_
  refine OkO.callV rfl rfl rfl rfl rfl (c96 _ _ _ _) ?_ -- ('Go.Operand.tmp', 11)
  refine OkO.nil ⟨(stills_cons (still_load rfl rfl (loadAt_agg (n := 2) (by kernel_rfl) (by first | assumption | (simp (disch := first | omega | (simp only [Heap.next_new, Heap.next_put]; omega)) only [get_new_same, get_new_same1, get_new_same2, get_put_same, get_new_other, get_put_other] <;> first | rfl | assumption)) (by first | rfl | assumption)) rfl (eqv_refl _ (by first | rfl | exact len_plain (by assumption)))) (stills_cons (still_load rfl rfl (loadAt_agg (n := 2) (by kernel_rfl) (by first | assumption | (simp (disch := first | omega | (simp only [Heap.next_new, Heap.next_put]; omega)) only [get_new_same, get_new_same1, get_new_same2, get_put_same, get_new_other, get_put_other] <;> first | rfl | assumption)) (by first | rfl | assumption)) rfl (eqv_refl _ (by first | rfl | exact len_plain (by assumption)))) rfl)), ?_⟩
  refine OkP.step ?_
  refine OkO.callV rfl rfl rfl rfl rfl (c95 _ _ _ _) ?_ -- ('Go.Operand.tmp', 15)
  refine OkO.nil ⟨(stills_cons (still_load rfl rfl (loadAt_agg (n := 2) (by kernel_rfl) (by first | assumption | (simp (disch := first | omega | (simp only [Heap.next_new, Heap.next_put]; omega)) only [get_new_same, get_new_same1, get_new_same2, get_put_same, get_new_other, get_put_other] <;> first | rfl | assumption)) (by first | rfl | assumption)) rfl (eqv_refl _ (by first | rfl | exact len_plain (by assumption)))) (stills_cons (still_load rfl rfl (loadAt_agg (n := 2) (by kernel_rfl) (by first | assumption | (simp (disch := first | omega | (simp only [Heap.next_new, Heap.next_put]; omega)) only [get_new_same, get_new_same1, get_new_same2, get_put_same, get_new_other, get_put_other] <;> first | rfl | assumption)) (by first | rfl | assumption)) rfl (eqv_refl _ (by first | rfl | exact len_plain (by assumption)))) rfl)), ?_⟩
  refine OkP.step ?_
  refine OkO.build (z := [.int .i64 0, .int .i64 0, .int .i64 0]) (pl := [(0, 1), (1, 1), (2, 1)]) rfl (by kernel_rfl) rfl rfl ?_
  refine OkO.nil ⟨rfl, ?_⟩
  refine OkP.step ?_
  refine OkO.store rfl rfl rfl (storeAt_cells (n := 3) (ag := true) (by kernel_rfl) (by first | assumption | (simp (disch := first | omega | (simp only [Heap.next_new, Heap.next_put]; omega)) only [get_new_same, get_new_same1, get_new_same2, get_put_same, get_new_other, get_put_other] <;> first | rfl | assumption)) rfl rfl rfl) ?_
  refine OkO.nil ⟨rfl, ?_⟩
  refine OkP.nil ?_
  refine Ok.ret ⟨.inr rfl, ?_⟩
  exact back_flat (resV_cell rfl (loadAt_agg (n := 3) (by kernel_rfl) (by first | assumption | (simp (disch := first | omega | (simp only [Heap.next_new, Heap.next_put]; omega)) only [get_new_same, get_new_same1, get_new_same2, get_put_same, get_new_other, get_put_other] <;> first | rfl | assumption)) (by first | rfl | assumption)) resV_nil) (rfl) rfl (by rw [← hW]; exact (by (try dsimp only); repeat (first | exact hG | apply Grow.new | (refine Grow.put ?_ _ (by first | omega | (simp only [Heap.next_new, Heap.next_put]; omega))))))
theorem c66 (m : Nat) (b : Bed) (H : Heap)  : RR (m + 3) (.fn 66 [.agg b.c]) H = some (.agg [I b.fl, I b.cl, I b.wh], H) := by
  refine (R_fn _ _ _ _ _).trans ?_
  refine fn_ok Try.func66 rfl rfl (by kernel_rfl) (by kernel_rfl) ?_
  obtain ⟨W, hW⟩ : ∃ W : Heap, W = ⟨H.t, H.next, H.next⟩ := ⟨_, rfl⟩
  have hg : ∀ n, W.get n = H.get n := fun n => by rw [hW]; rfl
  have hN : W.next = H.next := by rw [hW]
  have hE : ∀ G, Grow W G → Ext H G := fun G g => ⟨by rw [← hN]; exact g.next, fun n k => by rw [g.get n (by rw [hN]; exact k), hg]⟩
  have hG : Grow W W := Grow.refl (by rw [hW]; exact Nat.le_refl _)
  rw [← hW]
  refine Ok.seq ?_
  refine Ok.region ?_
  refine OkO.box rfl rfl ?_
  refine OkO.alloc (z := [.int .i64 0, .int .i64 0, .int .i64 0]) rfl (by kernel_rfl) ?_
  refine OkO.nil ?_
  refine Ok.seq ?_
  refine Ok.region ?_
  refine OkO.load rfl rfl (loadAt_agg (n := 8) (by kernel_rfl) (by first | assumption | (simp (disch := first | omega | (simp only [Heap.next_new, Heap.next_put]; omega)) only [get_new_same, get_new_same1, get_new_same2, get_put_same, get_new_other, get_put_other] <;> first | rfl | assumption)) (by first | rfl | assumption)) ?_
  refine OkO.callV rfl rfl rfl rfl rfl (c94w _ _ _) ?_ -- "(sackung/slope.Bed).ends"
  refine OkO.store rfl rfl rfl (storeAt_cells (n := 3) (ag := true) (by kernel_rfl) (by first | assumption | (simp (disch := first | omega | (simp only [Heap.next_new, Heap.next_put]; omega)) only [get_new_same, get_new_same1, get_new_same2, get_put_same, get_new_other, get_put_other] <;> first | rfl | assumption)) rfl rfl rfl) ?_
  refine OkO.nil ?_
  refine Ok.ret ⟨.inr rfl, ?_⟩
  exact back_flat (resV_cell rfl (loadAt_agg (n := 3) (by kernel_rfl) (by first | assumption | (simp (disch := first | omega | (simp only [Heap.next_new, Heap.next_put]; omega)) only [get_new_same, get_new_same1, get_new_same2, get_put_same, get_new_other, get_put_other] <;> first | rfl | assumption)) (by first | rfl | assumption)) resV_nil) (rfl) rfl (by rw [← hW]; exact (by (try dsimp only); repeat (first | exact hG | apply Grow.new | (refine Grow.put ?_ _ (by first | omega | (simp only [Heap.next_new, Heap.next_put]; omega))))))
theorem c67 (m : Nat) (b : Bed) (H : Heap)  : RR (m + 3) (.fn 67 [.agg b.c]) H = some (.agg [I b.fh, I b.ch, I b.wl], H) := by
  refine (R_fn _ _ _ _ _).trans ?_
  refine fn_ok Try.func67 rfl rfl (by kernel_rfl) (by kernel_rfl) ?_
  obtain ⟨W, hW⟩ : ∃ W : Heap, W = ⟨H.t, H.next, H.next⟩ := ⟨_, rfl⟩
  have hg : ∀ n, W.get n = H.get n := fun n => by rw [hW]; rfl
  have hN : W.next = H.next := by rw [hW]
  have hE : ∀ G, Grow W G → Ext H G := fun G g => ⟨by rw [← hN]; exact g.next, fun n k => by rw [g.get n (by rw [hN]; exact k), hg]⟩
  have hG : Grow W W := Grow.refl (by rw [hW]; exact Nat.le_refl _)
  rw [← hW]
  refine Ok.seq ?_
  refine Ok.region ?_
  refine OkO.box rfl rfl ?_
  refine OkO.alloc (z := [.int .i64 0, .int .i64 0, .int .i64 0]) rfl (by kernel_rfl) ?_
  refine OkO.nil ?_
  refine Ok.seq ?_
  refine Ok.region ?_
  refine OkO.load rfl rfl (loadAt_agg (n := 8) (by kernel_rfl) (by first | assumption | (simp (disch := first | omega | (simp only [Heap.next_new, Heap.next_put]; omega)) only [get_new_same, get_new_same1, get_new_same2, get_put_same, get_new_other, get_put_other] <;> first | rfl | assumption)) (by first | rfl | assumption)) ?_
  refine OkO.callV rfl rfl rfl rfl rfl (c94s _ _ _) ?_ -- "(sackung/slope.Bed).ends"
  refine OkO.store rfl rfl rfl (storeAt_cells (n := 3) (ag := true) (by kernel_rfl) (by first | assumption | (simp (disch := first | omega | (simp only [Heap.next_new, Heap.next_put]; omega)) only [get_new_same, get_new_same1, get_new_same2, get_put_same, get_new_other, get_put_other] <;> first | rfl | assumption)) rfl rfl rfl) ?_
  refine OkO.nil ?_
  refine Ok.ret ⟨.inr rfl, ?_⟩
  exact back_flat (resV_cell rfl (loadAt_agg (n := 3) (by kernel_rfl) (by first | assumption | (simp (disch := first | omega | (simp only [Heap.next_new, Heap.next_put]; omega)) only [get_new_same, get_new_same1, get_new_same2, get_put_same, get_new_other, get_put_other] <;> first | rfl | assumption)) (by first | rfl | assumption)) resV_nil) (rfl) rfl (by rw [← hW]; exact (by (try dsimp only); repeat (first | exact hG | apply Grow.new | (refine Grow.put ?_ _ (by first | omega | (simp only [Heap.next_new, Heap.next_put]; omega))))))
def factorOf (held drive : Int) : Int := min (1000 * held / drive) 10000
theorem c63 (m : Nat) (a d : Int) (H : Heap) (h1 : 0 ≤ a ∧ a ≤ 100000000) (h2 : 0 < d) : RR (m + 1) (.fn 63 [I a, I d]) H = some (I (factorOf a d), H) := by
  refine (R_fn _ _ _ _ _).trans ?_
  refine fn_ok Try.func63 rfl rfl (by kernel_rfl) (by kernel_rfl) ?_
  obtain ⟨W, hW⟩ : ∃ W : Heap, W = ⟨H.t, H.next, H.next⟩ := ⟨_, rfl⟩
  have hg : ∀ n, W.get n = H.get n := fun n => by rw [hW]; rfl
  have hN : W.next = H.next := by rw [hW]
  have hE : ∀ G, Grow W G → Ext H G := fun G g => ⟨by rw [← hN]; exact g.next, fun n k => by rw [g.get n (by rw [hN]; exact k), hg]⟩
  have hG : Grow W W := Grow.refl (by rw [hW]; exact Nat.le_refl _)
  rw [← hW]
  refine Ok.seq ?_
  refine Ok.region ?_
  refine OkO.assign rfl rfl ?_
  refine OkO.nil ?_
  refine Ok.seq ?_
  refine Ok.region ?_
  refine OkO.move rfl rfl ?_
  refine OkO.bin rfl rfl rfl (bin_mul (by omega) (by omega)) ?_
  refine OkO.move rfl rfl ?_
  refine OkO.bin rfl rfl rfl (bin_quo (by omega) (by omega) (by omega)) ?_
  refine OkO.builtin rfl rfl rfl (builtin_min2 _ _) ?_
  refine OkO.assign rfl rfl ?_
  refine OkO.nil ?_
  refine Ok.ret ⟨.inr rfl, ?_⟩
  exact back_flat rfl (rfl) rfl (by rw [← hW]; exact (by (try dsimp only); repeat (first | exact hG | apply Grow.new | (refine Grow.put ?_ _ (by first | omega | (simp only [Heap.next_new, Heap.next_put]; omega))))))
def drive (l : List Bed) : Int := (l.map (·.dr)).sum
theorem drive_bd (l : List Bed) (h : ∀ b ∈ l, -100000 ≤ b.dr ∧ b.dr ≤ 100000) : -100000 * (l.length : Int) ≤ drive l ∧ drive l ≤ 100000 * (l.length : Int) := by
  induction l with
  | nil => simp [drive]
  | cons b l ih =>
    have h1 := h b (by simp)
    have h2 := ih (fun x hx => h x (by simp [hx]))
    have e : drive (b :: l) = b.dr + drive l := by simp [drive]
    rw [e]; simp only [List.length_cons]; omega
theorem drive_take (l : List Bed) (i : Nat) (h : i < l.length) : drive (l.take (i + 1)) = drive (l.take i) + l[i].dr := by
  unfold drive
  rw [List.take_succ_eq_append_getElem h, List.map_append, List.sum_append]; simp
theorem c61 (m : Nat) (v : AV) (l : List Bed) (H : Heap) (hR : Row H v 8 (l.map Bed.c)) (hl : l.length ≤ 1000) (hd : ∀ b ∈ l, -100000 ≤ b.dr ∧ b.dr ≤ 100000) : RR (m + 1) (.fn 61 [v]) H = some (I (drive l), H) := by
  refine (R_fn _ _ _ _ _).trans ?_
  refine fn_ok Try.func61 rfl rfl (by kernel_rfl) (by kernel_rfl) ?_
  obtain ⟨W, hW⟩ : ∃ W : Heap, W = ⟨H.t, H.next, H.next⟩ := ⟨_, rfl⟩
  have hg : ∀ n, W.get n = H.get n := fun n => by rw [hW]; rfl
  have hN : W.next = H.next := by rw [hW]
  have hE : ∀ G, Grow W G → Ext H G := fun G g => ⟨by rw [← hN]; exact g.next, fun n k => by rw [g.get n (by rw [hN]; exact k), hg]⟩
  have hG : Grow W W := Grow.refl (by rw [hW]; exact Nat.le_refl _)
  rw [← hW]
  have hlen : lenOf v = some l.length := by simpa using hR.len
  refine Ok.seq ?_
  refine Ok.region ?_
  refine OkO.assign rfl rfl ?_
  refine OkO.nil ?_
  refine Ok.seq ?_
  refine Ok.region ?_
  refine OkO.assign rfl rfl ?_
  refine OkO.nil ?_
  refine Ok.seq ?_
  refine Ok.seq ?_
  refine Ok.region ?_
  refine OkO.move rfl rfl ?_
  refine OkO.builtin rfl rfl rfl (builtin_len (by kernel_rfl) (by first | assumption | rfl)) ?_
  refine OkO.move rfl rfl ?_
  refine OkO.nil ?_
  refine Ok.block ?_
  refine Ok.loop (fun n s => ∃ i : Nat, n = l.length - i ∧ i ≤ l.length ∧ Has 5 [(3, I (drive (l.take i))), (6, v), (7, I l.length), (8, I (i : Int))] s.T ∧ s.D = [] ∧ Grow W s.H) (l.length) (by unfold loopFuel; omega)
    ⟨0, rfl, Nat.zero_le _, Has.of (by kernel_rfl), rfl, hG⟩ ?_
  rintro n ⟨T, D, G⟩ ⟨i, hn, hi, ⟨f, hT⟩, hD, hg⟩
  dsimp only at *
  subst hT hD
  have hgn := hg.next
  refine Ok.seq ?_
  refine Ok.region ?_
  refine OkO.bin rfl rfl rfl (bin_lss _ _) ?_
  refine OkO.nil ?_
  refine Ok.seq ?_
  refine Ok.cond rfl (fun h1 => ?_) (fun h1 => ?_)
  · -- yes h1
    have hlt : i < l.length := by simpa using h1
    have hb := hd l[i] (List.getElem_mem hlt)
    have hs := drive_bd (l.take i) (fun b hb => hd b (List.mem_of_mem_take hb))
    have hs2 : (l.take i).length ≤ 1000 := by simp; omega
    obtain ⟨bb, off, cs, i1, i2, i3, i4⟩ := (hR.ext (hE _ hg)).at_ i l[i].c (by simp [hlt])
    have hne : bb ≠ G.next := by omega
    refine Ok.skip ?_
    refine Ok.seq ?_
    refine Ok.block ?_
    refine Ok.seq ?_
    refine Ok.region ?_
    refine OkO.index (sz := 8) rfl rfl rfl (by kernel_rfl) (by first | assumption | rfl) ?_ -- index ('Go.Operand.tmp', 6) ('Go.Operand.tmp', 8)
    refine OkO.load rfl rfl (loadAt_agg (n := 8) (by kernel_rfl) (by first | assumption | (simp (disch := first | omega | (simp only [Heap.next_new, Heap.next_put]; omega)) only [get_new_same, get_new_same1, get_new_same2, get_put_same, get_new_other, get_put_other] <;> first | rfl | assumption)) (by first | rfl | assumption)) ?_
    refine OkO.alloc (z := [.int .i64 0, .int .i64 0, .int .i64 0, .int .i64 0, .int .i64 0, .int .i64 0, .int .i64 0, .int .i64 0]) rfl (by kernel_rfl) ?_
    refine OkO.store rfl rfl rfl (storeAt_cells (n := 8) (ag := true) (by kernel_rfl) (by first | assumption | (simp (disch := first | omega | (simp only [Heap.next_new, Heap.next_put]; omega)) only [get_new_same, get_new_same1, get_new_same2, get_put_same, get_new_other, get_put_other] <;> first | rfl | assumption)) rfl rfl rfl) ?_
    refine OkO.nil ?_
    refine Ok.region ?_
    refine OkO.move rfl rfl ?_
    refine OkO.fieldAddr (o := 0) rfl (by kernel_rfl) rfl ?_
    refine OkO.load rfl rfl (loadAt_atom (n := 1) (by kernel_rfl) (by first | assumption | (simp (disch := first | omega | (simp only [Heap.next_new, Heap.next_put]; omega)) only [get_new_same, get_new_same1, get_new_same2, get_put_same, get_new_other, get_put_other] <;> first | rfl | assumption)) (by first | rfl | assumption)) ?_
    refine OkO.bin rfl rfl rfl (bin_add (by omega) (by omega)) ?_
    refine OkO.assign rfl rfl ?_
    refine OkO.nil ?_
    refine Ok.region ?_
    refine OkO.bin rfl rfl rfl (bin_add (by omega) (by omega)) ?_
    refine OkO.move rfl rfl ?_
    refine OkO.nil ?_
    refine ⟨l.length - (i + 1), by omega, i + 1, rfl, hlt, ?_, rfl, (by (try dsimp only); repeat (first | (first | exact hg | exact hG) | apply Grow.new | (refine Grow.put ?_ _ (by first | omega | (simp only [Heap.next_new, Heap.next_put]; omega)))))⟩
    rw [drive_take l i hlt]
    exact Has.of (by kernel_rfl)
  · -- no h1
    have hge : i = l.length := by simp at h1; omega
    refine Ok.exit ?_
    refine Ok.seq ?_
    refine Ok.region ?_
    refine OkO.move rfl rfl ?_
    refine OkO.assign rfl rfl ?_
    refine OkO.nil ?_
    refine Ok.ret ⟨.inr rfl, ?_⟩
    subst hge
    rw [List.take_length]
    exact back_flat rfl (rfl) rfl (by rw [← hW]; exact (by (try dsimp only); repeat (first | (first | exact hg | exact hG) | apply Grow.new | (refine Grow.put ?_ _ (by first | omega | (simp only [Heap.next_new, Heap.next_put]; omega))))))
end
end Go.Ev
