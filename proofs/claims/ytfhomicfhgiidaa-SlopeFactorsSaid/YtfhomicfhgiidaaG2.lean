/-
  Functions of the program, reckoned by the evaluator: what each answers, in the document's words, and that it leaves what came in as it was (part 2).
-/
import Derived.Test.YtfhomicfhgiidaaG1
set_option maxRecDepth 100000
set_option linter.unusedSimpArgs false
set_option linter.unusedVariables false
namespace Go.Ev
open Go Go.Proofs
noncomputable section
/-- A call that answers a bool, and leaves the heap as it was. -/
def CallB (m : Nat) (fv : AV) (args : List AV) (H : Heap) (r : Bool) : Prop := ∃ f bs, Go.Ev.callV fv args = some (.fn f bs) ∧ ∀ G, Ext H G → RR m (.fn f bs) G = some (.bool r, G)
theorem c91 (m : Nat) (v good : AV) (xs : List Bed) (ps : List Bool) (H : Heap) (hR : Row H v 8 (xs.map Bed.c)) (hl : xs.length ≤ 1000000) (hp : ps.length = xs.length) (hgood : ∀ (i : Nat) x b, xs[i]? = some x → ps[i]? = some b → CallB m good [.agg x.c] H b) : RR (m + 1) (.fn 91 [v, good]) H = some (.bool (ps.all id), H) := by
  refine (R_fn _ _ _ _ _).trans ?_
  refine fn_ok Try.func91 rfl rfl (by kernel_rfl) (by kernel_rfl) ?_
  obtain ⟨W, hW⟩ : ∃ W : Heap, W = ⟨H.t, H.next, H.next⟩ := ⟨_, rfl⟩
  have hg : ∀ n, W.get n = H.get n := fun n => by rw [hW]; rfl
  have hN : W.next = H.next := by rw [hW]
  have hE : ∀ G, Grow W G → Ext H G := fun G g => ⟨by rw [← hN]; exact g.next, fun n k => by rw [g.get n (by rw [hN]; exact k), hg]⟩
  have hG : Grow W W := Grow.refl (by rw [hW]; exact Nat.le_refl _)
  rw [← hW]
  have hlen : lenOf v = some xs.length := by simpa using hR.len
  refine Ok.seq ?_
  refine Ok.region ?_
  refine OkO.assign rfl rfl ?_
  refine OkO.nil ?_
  refine Ok.seq ?_
  refine Ok.seq ?_
  refine Ok.region ?_
  refine OkO.move rfl rfl ?_
  refine OkO.builtin rfl rfl rfl (builtin_len (by kernel_rfl) (by first | assumption | rfl)) ?_
  refine OkO.move rfl rfl ?_
  refine OkO.nil ?_
  refine Ok.block ?_
  refine Ok.loop (fun n s => ∃ i : Nat, n = xs.length - i ∧ i ≤ xs.length ∧ (∀ j, j < i → ps[j]? = some true) ∧ Has 5 [(1, good), (4, .bool false), (7, v), (8, I xs.length), (9, I (i : Int))] s.T ∧ s.D = [] ∧ Grow W s.H) (xs.length) (by unfold loopFuel; omega)
    ⟨0, rfl, Nat.zero_le _, nofun, Has.of (by kernel_rfl), rfl, hG⟩ ?_
  rintro n ⟨T, D, G⟩ ⟨i, hn, hi, hall, ⟨f, hT⟩, hD, hg⟩
  dsimp only at *
  subst hT hD
  have hgn := hg.next
  refine Ok.seq ?_
  refine Ok.region ?_
  refine OkO.bin rfl rfl rfl (bin_lss _ _) ?_
  refine OkO.nil ?_
  refine Ok.seq ?_
  refine Ok.cond rfl (fun h1 => ?_) (fun h1 => ?_)
  · -- yes h1
    have hlt : i < xs.length := by simpa using h1
    obtain ⟨b, hb⟩ : ∃ b, ps[i]? = some b := ⟨_, List.getElem?_eq_getElem (by omega)⟩
    obtain ⟨bb, off, cs, i1, i2, i3, i4⟩ := (hR.ext (hE _ hg)).at_ i xs[i].c (by simp [hlt])
    have hne : bb ≠ G.next := by omega
    refine Ok.skip ?_
    refine Ok.seq ?_
    refine Ok.block ?_
    refine Ok.seq ?_
    refine Ok.region ?_
    refine OkO.index (sz := 8) rfl rfl rfl (by kernel_rfl) (by first | assumption | rfl) ?_ -- index ('Go.Operand.tmp', 7) ('Go.Operand.tmp', 9)
    refine OkO.load rfl rfl (loadAt_agg (n := 8) (by kernel_rfl) (by first | assumption | (simp (disch := first | omega | (simp only [Heap.next_new, Heap.next_put]; omega)) only [get_new_same, get_new_same1, get_new_same2, get_put_same, get_new_other, get_put_other] <;> first | rfl | assumption)) (by first | rfl | assumption)) ?_
    refine OkO.alloc (z := [.int .i64 0, .int .i64 0, .int .i64 0, .int .i64 0, .int .i64 0, .int .i64 0, .int .i64 0, .int .i64 0]) rfl (by kernel_rfl) ?_
    refine OkO.store rfl rfl rfl (storeAt_cells (n := 8) (ag := true) (by kernel_rfl) (by first | assumption | (simp (disch := first | omega | (simp only [Heap.next_new, Heap.next_put]; omega)) only [get_new_same, get_new_same1, get_new_same2, get_put_same, get_new_other, get_put_other] <;> first | rfl | assumption)) rfl rfl rfl) ?_
    refine OkO.nil ?_
    refine Ok.seq ?_
    refine Ok.region ?_
    refine OkO.move rfl rfl ?_
    refine OkO.load rfl rfl (loadAt_agg (n := 8) (by kernel_rfl) (by first | assumption | (simp (disch := first | omega | (simp only [Heap.next_new, Heap.next_put]; omega)) only [get_new_same, get_new_same1, get_new_same2, get_put_same, get_new_other, get_put_other] <;> first | rfl | assumption)) (by first | rfl | assumption)) ?_
    obtain ⟨gf, gas, hc1, hc2⟩ := hgood i xs[i] b (by simp [hlt]) hb
    refine OkO.callV rfl rfl rfl rfl hc1 (hc2 _ (hE _ (by (try dsimp only); repeat (first | (first | exact hg | exact hG) | apply Grow.new | (refine Grow.put ?_ _ (by first | omega | (simp only [Heap.next_new, Heap.next_put]; omega))))))) ?_ -- ('Go.Operand.tmp', 13)
    refine OkO.un rfl rfl rfl ?_
    refine OkO.nil ?_
    refine Ok.cond rfl (fun h2 => ?_) (fun h2 => ?_)
    · -- yes h2
      refine Ok.seq ?_
      refine Ok.region ?_
      refine OkO.assign rfl rfl ?_
      refine OkO.nil ?_
      refine Ok.ret ⟨.inr rfl, ?_⟩
      exact back_flat rfl (congrArg AV.bool (by symm; rw [List.all_eq_false]; exact ⟨false, List.mem_of_getElem? (by rw [hb]; congr 1; simpa using h2), by simp⟩)) rfl (by rw [← hW]; exact (by (try dsimp only); repeat (first | (first | exact hg | exact hG) | apply Grow.new | (refine Grow.put ?_ _ (by first | omega | (simp only [Heap.next_new, Heap.next_put]; omega))))))
    · -- no h2
      refine Ok.skip ?_
      refine Ok.region ?_
      refine OkO.bin rfl rfl rfl (bin_add (by omega) (by omega)) ?_
      refine OkO.move rfl rfl ?_
      refine OkO.nil ?_
      refine ⟨xs.length - (i + 1), by omega, i + 1, rfl, hlt, fun j hj => ?_, Has.of (by kernel_rfl), rfl, (by (try dsimp only); repeat (first | (first | exact hg | exact hG) | apply Grow.new | (refine Grow.put ?_ _ (by first | omega | (simp only [Heap.next_new, Heap.next_put]; omega)))))⟩
      by_cases e : j = i
      · subst e; rw [hb]; simpa using h2
      · exact hall j (by omega)
  · -- no h1
    have hge : i = xs.length := by simp at h1; omega
    refine Ok.exit ?_
    refine Ok.seq ?_
    refine Ok.region ?_
    refine OkO.assign rfl rfl ?_
    refine OkO.nil ?_
    refine Ok.ret ⟨.inr rfl, ?_⟩
    exact back_flat rfl (congrArg AV.bool (by symm; rw [List.all_eq_true]; intro x hx; obtain ⟨j, hj, rfl⟩ := List.mem_iff_getElem.1 hx; have := hall j (by omega); rw [List.getElem?_eq_getElem hj] at this; simpa using this)) rfl (by rw [← hW]; exact (by (try dsimp only); repeat (first | (first | exact hg | exact hG) | apply Grow.new | (refine Grow.put ?_ _ (by first | omega | (simp only [Heap.next_new, Heap.next_put]; omega))))))
theorem c89 (m : Nat) (v good : AV) (xs : List AV) (ps : List Bool) (H : Heap) (hR : Row H v 1 (xs.map fun x => [x])) (hl : xs.length ≤ 1000000) (hp : ps.length = xs.length) (hgood : ∀ (i : Nat) x b, xs[i]? = some x → ps[i]? = some b → CallB m good [x] H b) : RR (m + 1) (.fn 89 [v, good]) H = some (.bool (ps.all id), H) := by
  refine (R_fn _ _ _ _ _).trans ?_
  refine fn_ok Try.func89 rfl rfl (by kernel_rfl) (by kernel_rfl) ?_
  obtain ⟨W, hW⟩ : ∃ W : Heap, W = ⟨H.t, H.next, H.next⟩ := ⟨_, rfl⟩
  have hg : ∀ n, W.get n = H.get n := fun n => by rw [hW]; rfl
  have hN : W.next = H.next := by rw [hW]
  have hE : ∀ G, Grow W G → Ext H G := fun G g => ⟨by rw [← hN]; exact g.next, fun n k => by rw [g.get n (by rw [hN]; exact k), hg]⟩
  have hG : Grow W W := Grow.refl (by rw [hW]; exact Nat.le_refl _)
  rw [← hW]
  have hlen : lenOf v = some xs.length := by simpa using hR.len
  refine Ok.seq ?_
  refine Ok.region ?_
  refine OkO.assign rfl rfl ?_
  refine OkO.nil ?_
  refine Ok.seq ?_
  refine Ok.seq ?_
  refine Ok.region ?_
  refine OkO.move rfl rfl ?_
  refine OkO.builtin rfl rfl rfl (builtin_len (by kernel_rfl) (by first | assumption | rfl)) ?_
  refine OkO.move rfl rfl ?_
  refine OkO.nil ?_
  refine Ok.block ?_
  refine Ok.loop (fun n s => ∃ i : Nat, n = xs.length - i ∧ i ≤ xs.length ∧ (∀ j, j < i → ps[j]? = some true) ∧ Has 5 [(1, good), (4, .bool false), (7, v), (8, I xs.length), (9, I (i : Int))] s.T ∧ s.D = [] ∧ Grow W s.H) (xs.length) (by unfold loopFuel; omega)
    ⟨0, rfl, Nat.zero_le _, nofun, Has.of (by kernel_rfl), rfl, hG⟩ ?_
  rintro n ⟨T, D, G⟩ ⟨i, hn, hi, hall, ⟨f, hT⟩, hD, hg⟩
  dsimp only at *
  subst hT hD
  have hgn := hg.next
  refine Ok.seq ?_
  refine Ok.region ?_
  refine OkO.bin rfl rfl rfl (bin_lss _ _) ?_
  refine OkO.nil ?_
  refine Ok.seq ?_
  refine Ok.cond rfl (fun h1 => ?_) (fun h1 => ?_)
  · -- yes h1
    have hlt : i < xs.length := by simpa using h1
    obtain ⟨b, hb⟩ : ∃ b, ps[i]? = some b := ⟨_, List.getElem?_eq_getElem (by omega)⟩
    obtain ⟨bb, off, cs, i1, i2, i3, i4⟩ := (hR.ext (hE _ hg)).at_ i [xs[i]] (by simp [hlt])
    have hne : bb ≠ G.next := by omega
    have i5 := seg_one i3
    refine Ok.skip ?_
    refine Ok.seq ?_
    refine Ok.block ?_
    refine Ok.seq ?_
    refine Ok.region ?_
    refine OkO.index (sz := 1) rfl rfl rfl (by kernel_rfl) (by first | assumption | rfl) ?_ -- index ('Go.Operand.tmp', 7) ('Go.Operand.tmp', 9)
    refine OkO.load rfl rfl (loadAt_atom (n := 1) (by kernel_rfl) (by first | assumption | (simp (disch := first | omega | (simp only [Heap.next_new, Heap.next_put]; omega)) only [get_new_same, get_new_same1, get_new_same2, get_put_same, get_new_other, get_put_other] <;> first | rfl | assumption)) (by first | rfl | assumption)) ?_
    refine OkO.assign rfl rfl ?_
    refine OkO.nil ?_
    refine Ok.seq ?_
    refine Ok.region ?_
    refine OkO.move rfl rfl ?_
    refine OkO.move rfl rfl ?_
    obtain ⟨gf, gas, hc1, hc2⟩ := hgood i xs[i] b (by simp [hlt]) hb
    refine OkO.callV rfl rfl rfl rfl hc1 (hc2 _ (hE _ (by (try dsimp only); repeat (first | (first | exact hg | exact hG) | apply Grow.new | (refine Grow.put ?_ _ (by first | omega | (simp only [Heap.next_new, Heap.next_put]; omega))))))) ?_ -- ('Go.Operand.tmp', 13)
    refine OkO.un rfl rfl rfl ?_
    refine OkO.nil ?_
    refine Ok.cond rfl (fun h2 => ?_) (fun h2 => ?_)
    · -- yes h2
      refine Ok.seq ?_
      refine Ok.region ?_
      refine OkO.assign rfl rfl ?_
      refine OkO.nil ?_
      refine Ok.ret ⟨.inr rfl, ?_⟩
      exact back_flat rfl (congrArg AV.bool (by symm; rw [List.all_eq_false]; exact ⟨false, List.mem_of_getElem? (by rw [hb]; congr 1; simpa using h2), by simp⟩)) rfl (by rw [← hW]; exact (by (try dsimp only); repeat (first | (first | exact hg | exact hG) | apply Grow.new | (refine Grow.put ?_ _ (by first | omega | (simp only [Heap.next_new, Heap.next_put]; omega))))))
    · -- no h2
      refine Ok.skip ?_
      refine Ok.region ?_
      refine OkO.bin rfl rfl rfl (bin_add (by omega) (by omega)) ?_
      refine OkO.move rfl rfl ?_
      refine OkO.nil ?_
      refine ⟨xs.length - (i + 1), by omega, i + 1, rfl, hlt, fun j hj => ?_, Has.of (by kernel_rfl), rfl, (by (try dsimp only); repeat (first | (first | exact hg | exact hG) | apply Grow.new | (refine Grow.put ?_ _ (by first | omega | (simp only [Heap.next_new, Heap.next_put]; omega)))))⟩
      by_cases e : j = i
      · subst e; rw [hb]; simpa using h2
      · exact hall j (by omega)
  · -- no h1
    have hge : i = xs.length := by simp at h1; omega
    refine Ok.exit ?_
    refine Ok.seq ?_
    refine Ok.region ?_
    refine OkO.assign rfl rfl ?_
    refine OkO.nil ?_
    refine Ok.ret ⟨.inr rfl, ?_⟩
    exact back_flat rfl (congrArg AV.bool (by symm; rw [List.all_eq_true]; intro x hx; obtain ⟨j, hj, rfl⟩ := List.mem_iff_getElem.1 hx; have := hall j (by omega); rw [List.getElem?_eq_getElem hj] at this; simpa using this)) rfl (by rw [← hW]; exact (by (try dsimp only); repeat (first | (first | exact hg | exact hG) | apply Grow.new | (refine Grow.put ?_ _ (by first | omega | (simp only [Heap.next_new, Heap.next_put]; omega))))))
theorem c105 (m : Nat) (v good : AV) (xs : List AV) (ps : List Bool) (H : Heap) (hR : Row H v 1 (xs.map fun x => [x])) (hl : xs.length ≤ 1000000) (hp : ps.length = xs.length) (hgood : ∀ (i : Nat) x b, xs[i]? = some x → ps[i]? = some b → CallB m good [x] H b) : RR (m + 1) (.fn 105 [v, good]) H = some (.bool (ps.all id), H) := by
  refine (R_fn _ _ _ _ _).trans ?_
  refine fn_ok Try.func105 rfl rfl (by kernel_rfl) (by kernel_rfl) ?_
  obtain ⟨W, hW⟩ : ∃ W : Heap, W = ⟨H.t, H.next, H.next⟩ := ⟨_, rfl⟩
  have hg : ∀ n, W.get n = H.get n := fun n => by rw [hW]; rfl
  have hN : W.next = H.next := by rw [hW]
  have hE : ∀ G, Grow W G → Ext H G := fun G g => ⟨by rw [← hN]; exact g.next, fun n k => by rw [g.get n (by rw [hN]; exact k), hg]⟩
  have hG : Grow W W := Grow.refl (by rw [hW]; exact Nat.le_refl _)
  rw [← hW]
  have hlen : lenOf v = some xs.length := by simpa using hR.len
  refine Ok.seq ?_
  refine Ok.region ?_
  refine OkO.assign rfl rfl ?_
  refine OkO.nil ?_
  refine Ok.seq ?_
  refine Ok.seq ?_
  refine Ok.region ?_
  refine OkO.move rfl rfl ?_
  refine OkO.builtin rfl rfl rfl (builtin_len (by kernel_rfl) (by first | assumption | rfl)) ?_
  refine OkO.move rfl rfl ?_
  refine OkO.nil ?_
  refine Ok.block ?_
  refine Ok.loop (fun n s => ∃ i : Nat, n = xs.length - i ∧ i ≤ xs.length ∧ (∀ j, j < i → ps[j]? = some true) ∧ Has 5 [(1, good), (4, .bool false), (7, v), (8, I xs.length), (9, I (i : Int))] s.T ∧ s.D = [] ∧ Grow W s.H) (xs.length) (by unfold loopFuel; omega)
    ⟨0, rfl, Nat.zero_le _, nofun, Has.of (by kernel_rfl), rfl, hG⟩ ?_
  rintro n ⟨T, D, G⟩ ⟨i, hn, hi, hall, ⟨f, hT⟩, hD, hg⟩
  dsimp only at *
  subst hT hD
  have hgn := hg.next
  refine Ok.seq ?_
  refine Ok.region ?_
  refine OkO.bin rfl rfl rfl (bin_lss _ _) ?_
  refine OkO.nil ?_
  refine Ok.seq ?_
  refine Ok.cond rfl (fun h1 => ?_) (fun h1 => ?_)
  · -- yes h1
    have hlt : i < xs.length := by simpa using h1
    obtain ⟨b, hb⟩ : ∃ b, ps[i]? = some b := ⟨_, List.getElem?_eq_getElem (by omega)⟩
    obtain ⟨bb, off, cs, i1, i2, i3, i4⟩ := (hR.ext (hE _ hg)).at_ i [xs[i]] (by simp [hlt])
    have hne : bb ≠ G.next := by omega
    have i5 := seg_one i3
    refine Ok.skip ?_
    refine Ok.seq ?_
    refine Ok.block ?_
    refine Ok.seq ?_
    refine Ok.region ?_
    refine OkO.index (sz := 1) rfl rfl rfl (by kernel_rfl) (by first | assumption | rfl) ?_ -- index ('Go.Operand.tmp', 7) ('Go.Operand.tmp', 9)
    refine OkO.load rfl rfl (loadAt_atom (n := 1) (by kernel_rfl) (by first | assumption | (simp (disch := first | omega | (simp only [Heap.next_new, Heap.next_put]; omega)) only [get_new_same, get_new_same1, get_new_same2, get_put_same, get_new_other, get_put_other] <;> first | rfl | assumption)) (by first | rfl | assumption)) ?_
    refine OkO.assign rfl rfl ?_
    refine OkO.nil ?_
    refine Ok.seq ?_
    refine Ok.region ?_
    refine OkO.move rfl rfl ?_
    refine OkO.move rfl rfl ?_
    obtain ⟨gf, gas, hc1, hc2⟩ := hgood i xs[i] b (by simp [hlt]) hb
    refine OkO.callV rfl rfl rfl rfl hc1 (hc2 _ (hE _ (by (try dsimp only); repeat (first | (first | exact hg | exact hG) | apply Grow.new | (refine Grow.put ?_ _ (by first | omega | (simp only [Heap.next_new, Heap.next_put]; omega))))))) ?_ -- ('Go.Operand.tmp', 13)
    refine OkO.un rfl rfl rfl ?_
    refine OkO.nil ?_
    refine Ok.cond rfl (fun h2 => ?_) (fun h2 => ?_)
    · -- yes h2
      refine Ok.seq ?_
      refine Ok.region ?_
      refine OkO.assign rfl rfl ?_
      refine OkO.nil ?_
      refine Ok.ret ⟨.inr rfl, ?_⟩
      exact back_flat rfl (congrArg AV.bool (by symm; rw [List.all_eq_false]; exact ⟨false, List.mem_of_getElem? (by rw [hb]; congr 1; simpa using h2), by simp⟩)) rfl (by rw [← hW]; exact (by (try dsimp only); repeat (first | (first | exact hg | exact hG) | apply Grow.new | (refine Grow.put ?_ _ (by first | omega | (simp only [Heap.next_new, Heap.next_put]; omega))))))
    · -- no h2
      refine Ok.skip ?_
      refine Ok.region ?_
      refine OkO.bin rfl rfl rfl (bin_add (by omega) (by omega)) ?_
      refine OkO.move rfl rfl ?_
      refine OkO.nil ?_
      refine ⟨xs.length - (i + 1), by omega, i + 1, rfl, hlt, fun j hj => ?_, Has.of (by kernel_rfl), rfl, (by (try dsimp only); repeat (first | (first | exact hg | exact hG) | apply Grow.new | (refine Grow.put ?_ _ (by first | omega | (simp only [Heap.next_new, Heap.next_put]; omega)))))⟩
      by_cases e : j = i
      · subst e; rw [hb]; simpa using h2
      · exact hall j (by omega)
  · -- no h1
    have hge : i = xs.length := by simp at h1; omega
    refine Ok.exit ?_
    refine Ok.seq ?_
    refine Ok.region ?_
    refine OkO.assign rfl rfl ?_
    refine OkO.nil ?_
    refine Ok.ret ⟨.inr rfl, ?_⟩
    exact back_flat rfl (congrArg AV.bool (by symm; rw [List.all_eq_true]; intro x hx; obtain ⟨j, hj, rfl⟩ := List.mem_iff_getElem.1 hx; have := hall j (by omega); rw [List.getElem?_eq_getElem hj] at this; simpa using this)) rfl (by rw [← hW]; exact (by (try dsimp only); repeat (first | (first | exact hg | exact hG) | apply Grow.new | (refine Grow.put ?_ _ (by first | omega | (simp only [Heap.next_new, Heap.next_put]; omega))))))
end
end Go.Ev
