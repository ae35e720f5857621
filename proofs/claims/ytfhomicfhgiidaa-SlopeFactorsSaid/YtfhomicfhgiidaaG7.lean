/-
  Functions of the program, reckoned by the evaluator: what each answers, in the document's words, and that it leaves what came in as it was (part 7).
-/
import Derived.Test.YtfhomicfhgiidaaG6
set_option maxRecDepth 100000
set_option linter.unusedSimpArgs false
set_option linter.unusedVariables false
namespace Go.Ev
open Go Go.Proofs
noncomputable section
def surfErr (cols : List (List Bed)) (least fr : Int) (us : List Int) : Int := if slOk cols least = true then (if surfB cols least fr us = true then 0 else 2) else 1
/-- The beds of a surface. -/
def bedsOf (cols : List (List Bed)) (fr : Int) (us : List Int) : List Bed := (List.range us.length).map fun i => ((cols.getD (fr.toNat + i) []).getD (us.getD i 0).toNat ⟨0, 0, 0, 0, 0, 0, 0, 0⟩)
def weak (b : Bed) : Int := holds b.no b.fl b.cl b.wh
def strong (b : Bed) : Int := holds b.no b.fh b.ch b.wl
def sumB (g : Bed → Int) (L : List Bed) : Int := (L.map g).sum
theorem sumB_take (g : Bed → Int) (l : List Bed) (i : Nat) (h : i < l.length) : sumB g (l.take (i + 1)) = sumB g (l.take i) + g l[i] := by
  unfold sumB
  rw [List.take_succ_eq_append_getElem h, List.map_append, List.sum_append]; simp
theorem sumB_bd (g : Bed → Int) (l : List Bed) (h : ∀ b ∈ l, 0 ≤ g b ∧ g b ≤ 300000) : 0 ≤ sumB g l ∧ sumB g l ≤ 300000 * (l.length : Int) := by
  induction l with
  | nil => simp [sumB]
  | cons b l ih =>
    have h1 := h b (by simp)
    have h2 := ih (fun x hx => h x (by simp [hx]))
    have e : sumB g (b :: l) = g b + sumB g l := by simp [sumB]
    rw [e]; simp only [List.length_cons]; omega
theorem weak_bd {b : Bed} (h : b.ok = true) : 0 ≤ weak b ∧ weak b ≤ 300000 := by
  have := Bed.ok_lim h; unfold Bed.lim at this
  exact (holds_bd (no := b.no) (f := b.fl) (c := b.cl) (w := b.wh) (by omega) (by omega) (by omega) (by omega)).2.2.2.2
theorem strong_bd {b : Bed} (h : b.ok = true) : 0 ≤ strong b ∧ strong b ≤ 300000 := by
  have := Bed.ok_lim h; unfold Bed.lim at this
  exact (holds_bd (no := b.no) (f := b.fh) (c := b.ch) (w := b.wl) (by omega) (by omega) (by omega) (by omega)).2.2.2.2
theorem surf_facts {cols : List (List Bed)} {least fr : Int} {us : List Int} (h : slOk cols least = true) (k : surfB cols least fr us = true) :
    ∃ (f0 : Nat) (us' : List Nat), fr = (f0 : Int) ∧ us = us'.map (fun (n : Nat) => (n : Int)) ∧ Picks cols f0 us' (bedsOf cols fr us) ∧ (∀ b ∈ bedsOf cols fr us, b.ok = true) ∧ f0 ≤ 12 ∧ us'.length ≤ 12 ∧ 1 ≤ us'.length := by
  obtain ⟨f1, f2, f3, f4, f5, f6, f7⟩ := slOk_facts h
  simp only [surfB, inB, Bool.and_eq_true, decide_eq_true_eq, List.all_eq_true] at k
  obtain ⟨⟨⟨⟨k1, k2⟩, k3, k4⟩, k5⟩, _⟩ := k
  obtain ⟨f0, rfl⟩ := Int.eq_ofNat_of_zero_le k1
  have hus : us = (us.map Int.toNat).map (fun (n : Nat) => (n : Int)) := by
    rw [List.map_map]
    conv => lhs; rw [← List.map_id us]
    apply List.map_congr_left
    intro u hu
    have := (k5 u hu).1
    simp; omega
  have hpick : ∀ i, i < us.length → ∃ col b, cols[f0 + i]? = some col ∧ col[(us.getD i 0).toNat]? = some b ∧ b.ok = true ∧ ((cols.getD (f0 + i) []).getD (us.getD i 0).toNat ⟨0, 0, 0, 0, 0, 0, 0, 0⟩) = b := by
    intro i hi
    have hc : f0 + i < cols.length := by omega
    have hcol := f7 cols[f0 + i] (List.getElem_mem hc)
    have hu := k5 us[i] (List.getElem_mem hi)
    have e : us.getD i 0 = us[i] := by simp [hi]
    have hb : (us[i]).toNat < cols[f0 + i].length := by rw [hcol.1]; omega
    refine ⟨cols[f0 + i], cols[f0 + i][(us[i]).toNat], by simp [hc], by rw [e]; simp [hb], hcol.2 _ (List.getElem_mem _), ?_⟩
    rw [e]; simp [List.getD, hc, hb]
  refine ⟨f0, us.map Int.toNat, rfl, hus, ⟨by simp [bedsOf], fun i u hi => ?_⟩, fun b hb => ?_, by omega, by simp; omega, by simp; omega⟩
  · have hi' : i < us.length := by have := (List.getElem?_eq_some_iff.1 hi).1; simpa using this
    obtain ⟨col, b, p1, p2, p3, p4⟩ := hpick i hi'
    have hu : u = (us.getD i 0).toNat := by
      rw [List.getElem?_map, List.getElem?_eq_getElem hi'] at hi
      simp [hi'] at hi ⊢; omega
    refine ⟨col, b, p1, by rw [hu]; exact p2, ?_⟩
    simp only [bedsOf, List.getElem?_map, List.getElem?_range hi', Option.map_some, Int.toNat_natCast]
    rw [p4]
  · simp only [bedsOf, List.mem_map, List.mem_range, Int.toNat_natCast] at hb
    obtain ⟨i, hi, rfl⟩ := hb
    obtain ⟨col, b, p1, p2, p3, p4⟩ := hpick i hi
    rw [p4]; exact p3
/-- What Span answers. -/
def spanR (cols : List (List Bed)) (least fr : Int) (us : List Int) : Int × Int × Int :=
  if surfErr cols least fr us = 0 then (if drive (bedsOf cols fr us) < 1 then (0, 0, 7) else (factorOf (sumB weak (bedsOf cols fr us)) (drive (bedsOf cols fr us)), factorOf (sumB strong (bedsOf cols fr us)) (drive (bedsOf cols fr us)), 0)) else (0, 0, surfErr cols least fr us)
theorem c18 (m : Nat) (cv : AV) (cols : List (List Bed)) (least : Int) (H : Heap) (hM : Mat H cv cols) : RR (m + 7) (.fn 18 [.agg [cv, I least]]) H = some (I (if slOk cols least = true then 0 else 1), H) := by
  refine (R_fn _ _ _ _ _).trans ?_
  refine fn_ok Try.func18 rfl rfl (by kernel_rfl) (by kernel_rfl) ?_
  obtain ⟨W, hW⟩ : ∃ W : Heap, W = ⟨H.t, H.next, H.next⟩ := ⟨_, rfl⟩
  have hg : ∀ n, W.get n = H.get n := fun n => by rw [hW]; rfl
  have hN : W.next = H.next := by rw [hW]
  have hE : ∀ G, Grow W G → Ext H G := fun G g => ⟨by rw [← hN]; exact g.next, fun n k => by rw [g.get n (by rw [hN]; exact k), hg]⟩
  have hG : Grow W W := Grow.refl (by rw [hW]; exact Nat.le_refl _)
  rw [← hW]
  refine Ok.seq ?_
  refine Ok.region ?_
  refine OkO.box rfl rfl ?_
  refine OkO.assign rfl rfl ?_
  refine OkO.nil ?_
  refine Ok.seq ?_
  refine Ok.seq ?_
  refine Ok.region ?_
  refine OkO.load rfl rfl (loadAt_agg (n := 2) (by kernel_rfl) (by first | assumption | (simp (disch := first | omega | (simp only [Heap.next_new, Heap.next_put]; omega)) only [get_new_same, get_new_same1, get_new_same2, get_put_same, get_new_other, get_put_other] <;> first | rfl | assumption)) (by first | rfl | assumption)) ?_
  refine OkO.callV rfl rfl rfl rfl rfl (c57 m cv cols least _ (hM.ext (hE _ (by (try dsimp only); repeat (first | exact hG | apply Grow.new | (refine Grow.put ?_ _ (by first | omega | (simp only [Heap.next_new, Heap.next_put]; omega)))))))) ?_ -- "(sackung/slope.Slope).valid"
  refine OkO.un rfl rfl rfl ?_
  refine OkO.nil ?_
  refine Ok.cond rfl (fun h1 => ?_) (fun h1 => ?_)
  · -- yes h1
    refine Ok.seq ?_
    refine Ok.region ?_
    refine OkO.assign rfl rfl ?_
    refine OkO.nil ?_
    refine Ok.ret ⟨.inr rfl, ?_⟩
    have hf : slOk cols least = false := by simpa using h1
    exact back_flat rfl (by simp [hf]; rfl) rfl (by rw [← hW]; exact (by (try dsimp only); repeat (first | exact hG | apply Grow.new | (refine Grow.put ?_ _ (by first | omega | (simp only [Heap.next_new, Heap.next_put]; omega))))))
  · -- no h1
    refine Ok.skip ?_
    refine Ok.seq ?_
    refine Ok.region ?_
    refine OkO.assign rfl rfl ?_
    refine OkO.nil ?_
    refine Ok.ret ⟨.inr rfl, ?_⟩
    have hf : slOk cols least = true := by simpa using h1
    exact back_flat rfl (by simp [hf]; rfl) rfl (by rw [← hW]; exact (by (try dsimp only); repeat (first | exact hG | apply Grow.new | (refine Grow.put ?_ _ (by first | omega | (simp only [Heap.next_new, Heap.next_put]; omega))))))
theorem c58 (m : Nat) (cv bv : AV) (cols : List (List Bed)) (least fr : Int) (us : List Int) (H : Heap) (hM : Mat H cv cols) (hU : Ints H bv us) (hcut : Cut H bv 1) (hbig : us.length ≤ 1000000) : RR (m + 8) (.fn 58 [.agg [cv, I least], .agg [I fr, bv]]) H = some (I (surfErr cols least fr us), H) := by
  refine (R_fn _ _ _ _ _).trans ?_
  refine fn_ok Try.func58 rfl rfl (by kernel_rfl) (by kernel_rfl) ?_
  obtain ⟨W, hW⟩ : ∃ W : Heap, W = ⟨H.t, H.next, H.next⟩ := ⟨_, rfl⟩
  have hg : ∀ n, W.get n = H.get n := fun n => by rw [hW]; rfl
  have hN : W.next = H.next := by rw [hW]
  have hE : ∀ G, Grow W G → Ext H G := fun G g => ⟨by rw [← hN]; exact g.next, fun n k => by rw [g.get n (by rw [hN]; exact k), hg]⟩
  have hG : Grow W W := Grow.refl (by rw [hW]; exact Nat.le_refl _)
  rw [← hW]
  refine Ok.seq ?_
  refine Ok.region ?_
  refine OkO.box rfl rfl ?_
  refine OkO.box rfl rfl ?_
  refine OkO.assign rfl rfl ?_
  refine OkO.nil ?_
  refine Ok.seq ?_
  refine Ok.seq ?_
  refine Ok.region ?_
  refine OkO.load rfl rfl (loadAt_agg (n := 2) (by kernel_rfl) (by first | assumption | (simp (disch := first | omega | (simp only [Heap.next_new, Heap.next_put]; omega)) only [get_new_same, get_new_same1, get_new_same2, get_put_same, get_new_other, get_put_other] <;> first | rfl | assumption)) (by first | rfl | assumption)) ?_
  refine OkO.callV rfl rfl rfl rfl rfl (c18 m cv cols least _ (hM.ext (hE _ (by (try dsimp only); repeat (first | exact hG | apply Grow.new | (refine Grow.put ?_ _ (by first | omega | (simp only [Heap.next_new, Heap.next_put]; omega)))))))) ?_ -- "sackung/slope.CheckSlope"
  refine OkO.assign rfl rfl ?_
  refine OkO.nil ?_
  refine Ok.seq ?_
  refine Ok.region ?_
  refine OkO.move rfl rfl ?_
  refine OkO.bin rfl rfl rfl (bin_neq _ _) ?_
  refine OkO.nil ?_
  refine Ok.cond rfl (fun h1 => ?_) (fun h1 => ?_)
  · -- yes h1
    have hok : slOk cols least = false := by cases hs : slOk cols least with | false => rfl | true => (rw [hs] at h1; simp at h1)
    refine Ok.seq ?_
    refine Ok.region ?_
    refine OkO.move rfl rfl ?_
    refine OkO.assign rfl rfl ?_
    refine OkO.nil ?_
    refine Ok.ret ⟨.inr rfl, ?_⟩
    exact back_flat rfl (by simp [surfErr, hok]; rfl) rfl (by rw [← hW]; exact (by (try dsimp only); repeat (first | exact hG | apply Grow.new | (refine Grow.put ?_ _ (by first | omega | (simp only [Heap.next_new, Heap.next_put]; omega))))))
  · -- no h1
    have hok : slOk cols least = true := by cases hs : slOk cols least with | true => rfl | false => (rw [hs] at h1; simp at h1)
    refine Ok.skip ?_
    refine Ok.seq ?_
    refine Ok.seq ?_
    refine Ok.region ?_
    refine OkO.load rfl rfl (loadAt_agg (n := 2) (by kernel_rfl) (by first | assumption | (simp (disch := first | omega | (simp only [Heap.next_new, Heap.next_put]; omega)) only [get_new_same, get_new_same1, get_new_same2, get_put_same, get_new_other, get_put_other] <;> first | rfl | assumption)) (by first | rfl | assumption)) ?_
    refine OkO.load rfl rfl (loadAt_agg (n := 2) (by kernel_rfl) (by first | assumption | (simp (disch := first | omega | (simp only [Heap.next_new, Heap.next_put]; omega)) only [get_new_same, get_new_same1, get_new_same2, get_put_same, get_new_other, get_put_other] <;> first | rfl | assumption)) (by first | rfl | assumption)) ?_
    refine OkO.callV rfl rfl rfl rfl rfl (c93 (m + 4) cv bv cols least fr us _ (hM.ext (hE _ (by (try dsimp only); repeat (first | exact hG | apply Grow.new | (refine Grow.put ?_ _ (by first | omega | (simp only [Heap.next_new, Heap.next_put]; omega))))))) (hU.ext (hE _ (by (try dsimp only); repeat (first | exact hG | apply Grow.new | (refine Grow.put ?_ _ (by first | omega | (simp only [Heap.next_new, Heap.next_put]; omega))))))) (hcut.ext (hE _ (by (try dsimp only); repeat (first | exact hG | apply Grow.new | (refine Grow.put ?_ _ (by first | omega | (simp only [Heap.next_new, Heap.next_put]; omega))))))) hok hbig) ?_ -- "(sackung/slope.Slope).has"
    refine OkO.un rfl rfl rfl ?_
    refine OkO.nil ?_
    refine Ok.cond rfl (fun h2 => ?_) (fun h2 => ?_)
    · -- yes h2
      refine Ok.seq ?_
      refine Ok.region ?_
      refine OkO.assign rfl rfl ?_
      refine OkO.nil ?_
      refine Ok.ret ⟨.inr rfl, ?_⟩
      have hs : surfB cols least fr us = false := by simpa using h2
      exact back_flat rfl (by simp [surfErr, hok, hs]; rfl) rfl (by rw [← hW]; exact (by (try dsimp only); repeat (first | exact hG | apply Grow.new | (refine Grow.put ?_ _ (by first | omega | (simp only [Heap.next_new, Heap.next_put]; omega))))))
    · -- no h2
      refine Ok.skip ?_
      refine Ok.seq ?_
      refine Ok.region ?_
      refine OkO.assign rfl rfl ?_
      refine OkO.nil ?_
      refine Ok.ret ⟨.inr rfl, ?_⟩
      have hs : surfB cols least fr us = true := by simpa using h2
      exact back_flat rfl (by simp [surfErr, hok, hs]; rfl) rfl (by rw [← hW]; exact (by (try dsimp only); repeat (first | exact hG | apply Grow.new | (refine Grow.put ?_ _ (by first | omega | (simp only [Heap.next_new, Heap.next_put]; omega))))))
end
end Go.Ev
