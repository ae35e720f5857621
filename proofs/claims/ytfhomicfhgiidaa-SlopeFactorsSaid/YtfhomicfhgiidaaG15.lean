/-
  Functions of the program, reckoned by the evaluator: what each answers, in the document's words, and that it leaves what came in as it was (part 15).
-/
import Derived.Test.YtfhomicfhgiidaaG14
set_option maxRecDepth 100000
set_option linter.unusedSimpArgs false
set_option linter.unusedVariables false
namespace Go.Ev
open Go Go.Proofs
noncomputable section
def thinB (cols : List (List Bed)) : Bool := decide (cols.length ≤ 15) && cols.all fun c => decide (c.length ≤ 8)
theorem c16 (m : Nat) (cv : AV) (cols : List (List Bed)) (least : Int) (H : Heap) (hM : Mat H cv cols) : RR (m + 1) (.fn 16 [.agg [cv, I least]]) H = some (.bool (thinB cols), H) := by
  refine (R_fn _ _ _ _ _).trans ?_
  refine fn_ok Try.func16 rfl rfl (by kernel_rfl) (by kernel_rfl) ?_
  obtain ⟨W, hW⟩ : ∃ W : Heap, W = ⟨H.t, H.next, H.next⟩ := ⟨_, rfl⟩
  have hg : ∀ n, W.get n = H.get n := fun n => by rw [hW]; rfl
  have hN : W.next = H.next := by rw [hW]
  have hE : ∀ G, Grow W G → Ext H G := fun G g => ⟨by rw [← hN]; exact g.next, fun n k => by rw [g.get n (by rw [hN]; exact k), hg]⟩
  have hG : Grow W W := Grow.refl (by rw [hW]; exact Nat.le_refl _)
  rw [← hW]
  obtain ⟨vs, hR, hvl, hv⟩ := hM
  have hlen : lenOf cv = some vs.length := by simpa using hR.len
  refine Ok.seq ?_
  refine Ok.region ?_
  refine OkO.box rfl rfl ?_
  refine OkO.assign rfl rfl ?_
  refine OkO.nil ?_
  refine Ok.seq ?_
  refine Ok.seq ?_
  refine Ok.region ?_
  refine OkO.assign rfl rfl ?_
  refine OkO.nil ?_
  refine Ok.block ?_
  refine Ok.loop (fun n s => ∃ (i : Nat), n = 17 - i ∧ i ≤ 16 ∧ i ≤ cols.length ∧ (∀ j c, j < i → cols[j]? = some c → c.length ≤ 8) ∧ Has 5 [(1, .ptr W.next 0), (2, .bool false), (3, I (i : Int))] s.T ∧ s.D = [] ∧ Grow W s.H ∧ s.H.get W.next = some (.cells [cv, I least] 24)) (17) (by unfold loopFuel; omega)
    ⟨0, rfl, by omega, Nat.zero_le _, nofun, Has.of (by kernel_rfl), rfl, (by (try dsimp only); repeat (first | exact hG | apply Grow.new | (refine Grow.put ?_ _ (by first | omega | (simp only [Heap.next_new, Heap.next_put]; omega))))), (by simp (disch := first | omega | (simp only [Heap.next_new, Heap.next_put]; omega)) only [get_new_same, get_new_same1, get_new_same2, get_put_same, get_new_other, get_put_other] <;> rfl)⟩ ?_
  rintro n ⟨T, D, G⟩ ⟨i, hn, hi16, hi, hcl, ⟨f, hT⟩, hD, hg, ob⟩
  dsimp only at *
  subst hT hD
  have hgn := hg.next
  have hc1 : (G.get W.next).bind AObj.cs = some [cv, I least] := by rw [ob]; rfl
  have hEg := hE _ hg
  refine Ok.seq ?_
  refine Ok.seq ?_
  refine Ok.region ?_
  refine OkO.move rfl rfl ?_
  refine OkO.fieldAddr (o := 0) rfl (by kernel_rfl) rfl ?_
  refine OkO.load rfl rfl (loadAt_atom (n := 1) (by kernel_rfl) (by first | assumption | (simp (disch := first | omega | (simp only [Heap.next_new, Heap.next_put]; omega)) only [get_new_same, get_new_same1, get_new_same2, get_put_same, get_new_other, get_put_other] <;> first | rfl | assumption)) (by first | rfl | assumption)) ?_
  refine OkO.builtin rfl rfl rfl (builtin_len (by kernel_rfl) (by first | assumption | rfl)) ?_
  refine OkO.bin rfl rfl rfl (bin_lss _ _) ?_
  refine OkO.nil ?_
  refine Ok.cond rfl (fun h1 => ?_) (fun h1 => ?_)
  · -- yes h1
    have hlt : i < cols.length := by simp at h1; omega
    obtain ⟨c, hci⟩ : ∃ c, cols[i]? = some c := ⟨_, List.getElem?_eq_getElem hlt⟩
    have hvi : i < vs.length := by omega
    obtain ⟨cb, co, ccs, j1, j2, j3, j4⟩ := (hR.ext hEg).at_ i [vs[i]] (by simp [hvi])
    have j5 := seg_one j3
    have hlc : lenOf vs[i] = some c.length := by simpa using (hv i vs[i] c (List.getElem?_eq_getElem hvi) hci).len
    refine Ok.skip ?_
    refine Ok.seq ?_
    refine Ok.block ?_
    refine Ok.seq ?_
    refine Ok.region ?_
    refine OkO.move rfl rfl ?_
    refine OkO.bin rfl rfl rfl (bin_gtr _ _) ?_
    refine OkO.move rfl rfl ?_
    refine OkO.split (d := 13) rfl (fun g2 => ?_) (fun g2 => ?_)
    · -- true g2
      have hz : false = thinB cols := by unfold thinB; rw [show decide (cols.length ≤ 15) = false from by simp at g2 ⊢; omega]; rfl
      refine OkO.skip rfl ?_
      refine OkO.skip rfl ?_
      refine OkO.skip rfl ?_
      refine OkO.skip rfl ?_
      refine OkO.skip rfl ?_
      refine OkO.skip rfl ?_
      refine OkO.skip rfl ?_
      refine OkO.pick (b := true) rfl rfl (fun _ => rfl) nofun ?_
      refine OkO.nil ?_
      refine Ok.condT rfl ?_
      refine Ok.seq ?_
      refine Ok.region ?_
      refine OkO.assign rfl rfl ?_
      refine OkO.nil ?_
      refine Ok.ret ⟨.inr rfl, ?_⟩
      exact back_flat rfl (congrArg AV.bool hz) rfl (by rw [← hW]; exact hg)
    · -- false g2
      refine OkO.fieldAddr (o := 0) rfl (by kernel_rfl) rfl ?_
      refine OkO.load rfl rfl (loadAt_atom (n := 1) (by kernel_rfl) (by first | assumption | (simp (disch := first | omega | (simp only [Heap.next_new, Heap.next_put]; omega)) only [get_new_same, get_new_same1, get_new_same2, get_put_same, get_new_other, get_put_other] <;> first | rfl | assumption)) (by first | rfl | assumption)) ?_
      refine OkO.move rfl rfl ?_
      refine OkO.index (sz := 1) (n := i) rfl rfl rfl (by kernel_rfl) (by first | assumption | rfl) ?_ -- index ('Go.Operand.tmp', 15) ('Go.Operand.tmp', 16)
      refine OkO.load rfl rfl (loadAt_atom (n := 1) (by kernel_rfl) (by first | assumption | (simp (disch := first | omega | (simp only [Heap.next_new, Heap.next_put]; omega)) only [get_new_same, get_new_same1, get_new_same2, get_put_same, get_new_other, get_put_other] <;> first | rfl | assumption)) (by first | rfl | assumption)) ?_
      refine OkO.builtin rfl rfl rfl (builtin_len (by kernel_rfl) (by first | assumption | rfl)) ?_
      refine OkO.bin rfl rfl rfl (bin_gtr _ _) ?_
      refine OkO.pick (b := false) rfl rfl nofun (fun _ => rfl) ?_
      refine OkO.nil ?_
      refine Ok.cond rfl (fun h3 => ?_) (fun h3 => ?_)
      · -- yes h3
        have hz : false = thinB cols := by unfold thinB; rw [show (cols.all fun c => decide (c.length ≤ 8)) = false from by rw [List.all_eq_false]; exact ⟨c, List.mem_of_getElem? hci, by simp at h3 ⊢; omega⟩]; simp
        refine Ok.seq ?_
        refine Ok.region ?_
        refine OkO.assign rfl rfl ?_
        refine OkO.nil ?_
        refine Ok.ret ⟨.inr rfl, ?_⟩
        exact back_flat rfl (congrArg AV.bool hz) rfl (by rw [← hW]; exact hg)
      · -- no h3
        refine Ok.skip ?_
        refine Ok.region ?_
        refine OkO.move rfl rfl ?_
        refine OkO.bin rfl rfl rfl (bin_add (by omega) (by omega)) ?_
        refine OkO.assign rfl rfl ?_
        refine OkO.nil ?_
        refine ⟨17 - (i + 1), by omega, i + 1, rfl, by simp at g2; omega, by omega, fun j x hj hx => ?_, Has.of (by kernel_rfl), rfl, hg, ob⟩
        by_cases e : j = i
        · subst e; rw [hci] at hx; cases hx; simp at h3; omega
        · exact hcl j x (by omega) hx
  · -- no h1
    have hge : i = cols.length := by simp at h1; omega
    have hz : decide ((vs.length : Int) ≤ 15) = thinB cols := by unfold thinB; rw [show (cols.all fun c => decide (c.length ≤ 8)) = true from by rw [List.all_eq_true]; intro x hx; obtain ⟨q, hq, rfl⟩ := List.mem_iff_getElem.1 hx; simpa using hcl q _ (by omega) (List.getElem?_eq_getElem hq)]; rw [hvl, Bool.and_true, Bool.eq_iff_iff]; simp; omega
    refine Ok.exit ?_
    refine Ok.seq ?_
    refine Ok.region ?_
    refine OkO.fieldAddr (o := 0) rfl (by kernel_rfl) rfl ?_
    refine OkO.load rfl rfl (loadAt_atom (n := 1) (by kernel_rfl) (by first | assumption | (simp (disch := first | omega | (simp only [Heap.next_new, Heap.next_put]; omega)) only [get_new_same, get_new_same1, get_new_same2, get_put_same, get_new_other, get_put_other] <;> first | rfl | assumption)) (by first | rfl | assumption)) ?_
    refine OkO.builtin rfl rfl rfl (builtin_len (by kernel_rfl) (by first | assumption | rfl)) ?_
    refine OkO.bin rfl rfl rfl (bin_leq _ _) ?_
    refine OkO.assign rfl rfl ?_
    refine OkO.nil ?_
    refine Ok.ret ⟨.inr rfl, ?_⟩
    exact back_flat rfl (congrArg AV.bool hz) rfl (by rw [← hW]; exact hg)
end
end Go.Ev
