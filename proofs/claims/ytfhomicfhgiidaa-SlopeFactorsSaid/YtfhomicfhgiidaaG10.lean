/-
  Functions of the program, reckoned by the evaluator: what each answers, in the document's words, and that it leaves what came in as it was (part 10).
-/
import Derived.Test.YtfhomicfhgiidaaG9
set_option maxRecDepth 100000
set_option linter.unusedSimpArgs false
set_option linter.unusedVariables false
namespace Go.Ev
open Go Go.Proofs
noncomputable section
theorem surfB_eq {cols : List (List Bed)} {least fr : Int} {us : List Int} (h : slOk cols least = true) : surfB cols least fr us =
    (decide (least ≤ us.length) && decide ((us.length : Int) ≤ cols.length) && inB fr 0 (cols.length - us.length) && us.all (fun u => inB u 0 ((cols.headD []).length - 1)) && adjB us) := by
  have := slOk_facts h
  have e : (inB fr 0 (cols.length - 1) && inB us.length least (cols.length - fr)) = (decide (least ≤ us.length) && decide ((us.length : Int) ≤ cols.length) && inB fr 0 (cols.length - us.length)) := by
    rw [Bool.eq_iff_iff]; simp [inB]; omega
  unfold surfB; rw [e]
theorem bad_u {cols : List (List Bed)} {least fr : Int} {us : List Int} {j : Nat} (hj : j < us.length) (hb : inB us[j] 0 ((cols.headD []).length - 1) = false) : false = surfB cols least fr us := by
  unfold surfB; rw [show us.all (fun u => inB u 0 ((cols.headD []).length - 1)) = false from by rw [List.all_eq_false]; exact ⟨us[j], List.getElem_mem hj, by rw [hb]; simp⟩]; simp
theorem bad_a {cols : List (List Bed)} {least fr : Int} {us : List Int} {j : Nat} (hj : j + 1 < us.length) (hb : inB us[j + 1] (us[j] - 1) (us[j] + 1) = false) : false = surfB cols least fr us := by
  unfold surfB; rw [show adjB us = false from by unfold adjB; rw [List.all_eq_false]; exact ⟨j, by simp; omega, by simp [hj, show j < us.length from by omega, hb]⟩]; simp
theorem c35 (m : Nat) (cv bv : AV) (cols : List (List Bed)) (least fr : Int) (us : List Int) (H : Heap) (hM : Mat H cv cols) (hU : Ints H bv us) (hok : slOk cols least = true) (hbig : us.length ≤ 1000000) : RR (m + 2) (.fn 35 [.agg [cv, I least], .agg [I fr, bv]]) H = some (.bool (surfB cols least fr us), H) := by
  refine (R_fn _ _ _ _ _).trans ?_
  refine fn_ok Try.func35 rfl rfl (by kernel_rfl) (by kernel_rfl) ?_
  obtain ⟨W, hW⟩ : ∃ W : Heap, W = ⟨H.t, H.next, H.next⟩ := ⟨_, rfl⟩
  have hg : ∀ n, W.get n = H.get n := fun n => by rw [hW]; rfl
  have hN : W.next = H.next := by rw [hW]
  have hE : ∀ G, Grow W G → Ext H G := fun G g => ⟨by rw [← hN]; exact g.next, fun n k => by rw [g.get n (by rw [hN]; exact k), hg]⟩
  have hG : Grow W W := Grow.refl (by rw [hW]; exact Nat.le_refl _)
  rw [← hW]
  obtain ⟨vs, hR, hvl, hv⟩ := hM
  have hlen : lenOf cv = some vs.length := by simpa using hR.len
  have hlenb := hU.len
  have hvl2 : vs.length ≤ 12 ∧ 1 ≤ vs.length := by rw [hvl]; have := slOk_facts hok; omega
  have hleast : 1 ≤ least ∧ least ≤ 4 := by have := slOk_facts hok; omega
  refine Ok.seq ?_
  refine Ok.region ?_
  refine OkO.box rfl rfl ?_
  refine OkO.box rfl rfl ?_
  refine OkO.assign rfl rfl ?_
  refine OkO.nil ?_
  refine Ok.seq ?_
  refine Ok.region ?_
  refine OkO.fieldAddr (o := 1) rfl (by kernel_rfl) rfl ?_
  refine OkO.load rfl rfl (loadAt_atom (n := 1) (by kernel_rfl) (by first | assumption | (simp (disch := first | omega | (simp only [Heap.next_new, Heap.next_put]; omega)) only [get_new_same, get_new_same1, get_new_same2, get_put_same, get_new_other, get_put_other] <;> first | rfl | assumption)) (by first | rfl | assumption)) ?_
  refine OkO.builtin rfl rfl rfl (builtin_len (by kernel_rfl) (by first | assumption | rfl)) ?_
  refine OkO.assign rfl rfl ?_
  refine OkO.nil ?_
  refine Ok.seq ?_
  refine Ok.seq ?_
  refine Ok.region ?_
  refine OkO.move rfl rfl ?_
  refine OkO.fieldAddr (o := 1) rfl (by kernel_rfl) rfl ?_
  refine OkO.load rfl rfl (loadAt_atom (n := 1) (by kernel_rfl) (by first | assumption | (simp (disch := first | omega | (simp only [Heap.next_new, Heap.next_put]; omega)) only [get_new_same, get_new_same1, get_new_same2, get_put_same, get_new_other, get_put_other] <;> first | rfl | assumption)) (by first | rfl | assumption)) ?_
  refine OkO.bin rfl rfl rfl (bin_lss _ _) ?_
  refine OkO.move rfl rfl ?_
  refine OkO.split (d := 14) rfl (fun g1 => ?_) (fun g1 => ?_)
  · -- true g1
    refine OkO.skip rfl ?_
    refine OkO.skip rfl ?_
    refine OkO.skip rfl ?_
    refine OkO.skip rfl ?_
    refine OkO.skip rfl ?_
    refine OkO.pick (b := true) rfl rfl (fun _ => rfl) nofun ?_
    refine OkO.move rfl rfl ?_
    refine OkO.skip rfl ?_
    refine OkO.skip rfl ?_
    refine OkO.skip rfl ?_
    refine OkO.skip rfl ?_
    refine OkO.skip rfl ?_
    refine OkO.skip rfl ?_
    refine OkO.skip rfl ?_
    refine OkO.skip rfl ?_
    refine OkO.skip rfl ?_
    refine OkO.pick (b := true) rfl rfl (fun _ => rfl) nofun ?_
    refine OkO.nil ?_
    refine Ok.condT rfl ?_
    refine Ok.seq ?_
    refine Ok.region ?_
    refine OkO.assign rfl rfl ?_
    refine OkO.nil ?_
    refine Ok.ret ⟨.inr rfl, ?_⟩
    have hz : false = surfB cols least fr us := by rw [surfB_eq hok]; simp at g1; rw [show decide (least ≤ (us.length : Int)) = false from by simp; omega]; simp
    exact back_flat rfl (congrArg AV.bool hz) rfl (by rw [← hW]; exact (by (try dsimp only); repeat (first | exact hG | apply Grow.new | (refine Grow.put ?_ _ (by first | omega | (simp only [Heap.next_new, Heap.next_put]; omega))))))
  · -- false g1
    have hl1 : least ≤ us.length := by simp at g1; omega
    refine OkO.move rfl rfl ?_
    refine OkO.fieldAddr (o := 0) rfl (by kernel_rfl) rfl ?_
    refine OkO.load rfl rfl (loadAt_atom (n := 1) (by kernel_rfl) (by first | assumption | (simp (disch := first | omega | (simp only [Heap.next_new, Heap.next_put]; omega)) only [get_new_same, get_new_same1, get_new_same2, get_put_same, get_new_other, get_put_other] <;> first | rfl | assumption)) (by first | rfl | assumption)) ?_
    refine OkO.builtin rfl rfl rfl (builtin_len (by kernel_rfl) (by first | assumption | rfl)) ?_
    refine OkO.bin rfl rfl rfl (bin_gtr _ _) ?_
    refine OkO.pick (b := false) rfl rfl nofun (fun _ => rfl) ?_
    refine OkO.move rfl rfl ?_
    refine OkO.split (d := 21) rfl (fun g2 => ?_) (fun g2 => ?_)
    · -- true g2
      refine OkO.skip rfl ?_
      refine OkO.skip rfl ?_
      refine OkO.skip rfl ?_
      refine OkO.skip rfl ?_
      refine OkO.skip rfl ?_
      refine OkO.skip rfl ?_
      refine OkO.skip rfl ?_
      refine OkO.skip rfl ?_
      refine OkO.skip rfl ?_
      refine OkO.pick (b := true) rfl rfl (fun _ => rfl) nofun ?_
      refine OkO.nil ?_
      refine Ok.condT rfl ?_
      refine Ok.seq ?_
      refine Ok.region ?_
      refine OkO.assign rfl rfl ?_
      refine OkO.nil ?_
      refine Ok.ret ⟨.inr rfl, ?_⟩
      have hz : false = surfB cols least fr us := by rw [surfB_eq hok]; simp at g2; rw [show decide ((us.length : Int) ≤ cols.length) = false from by simp; omega]; simp
      exact back_flat rfl (congrArg AV.bool hz) rfl (by rw [← hW]; exact (by (try dsimp only); repeat (first | exact hG | apply Grow.new | (refine Grow.put ?_ _ (by first | omega | (simp only [Heap.next_new, Heap.next_put]; omega))))))
    · -- false g2
      refine OkO.fieldAddr (o := 0) rfl (by kernel_rfl) rfl ?_
      refine OkO.load rfl rfl (loadAt_atom (n := 1) (by kernel_rfl) (by first | assumption | (simp (disch := first | omega | (simp only [Heap.next_new, Heap.next_put]; omega)) only [get_new_same, get_new_same1, get_new_same2, get_put_same, get_new_other, get_put_other] <;> first | rfl | assumption)) (by first | rfl | assumption)) ?_
      refine OkO.fieldAddr (o := 0) rfl (by kernel_rfl) rfl ?_
      refine OkO.load rfl rfl (loadAt_atom (n := 1) (by kernel_rfl) (by first | assumption | (simp (disch := first | omega | (simp only [Heap.next_new, Heap.next_put]; omega)) only [get_new_same, get_new_same1, get_new_same2, get_put_same, get_new_other, get_put_other] <;> first | rfl | assumption)) (by first | rfl | assumption)) ?_
      refine OkO.builtin rfl rfl rfl (builtin_len (by kernel_rfl) (by first | assumption | rfl)) ?_
      refine OkO.move rfl rfl ?_
      refine OkO.bin rfl rfl rfl (bin_sub (by omega) (by omega)) ?_
      refine OkO.callV rfl rfl rfl rfl rfl (c37 _ _ _ _ _) ?_ -- "sackung/sackungref01.In"
      refine OkO.un rfl rfl rfl ?_
      refine OkO.pick (b := false) rfl rfl nofun (fun _ => rfl) ?_
      refine OkO.nil ?_
      refine Ok.cond rfl (fun h3 => ?_) (fun h3 => ?_)
      · -- yes h3
        refine Ok.seq ?_
        refine Ok.region ?_
        refine OkO.assign rfl rfl ?_
        refine OkO.nil ?_
        refine Ok.ret ⟨.inr rfl, ?_⟩
        have hz : false = surfB cols least fr us := by (rw [surfB_eq hok]; simp at h3; rw [hvl] at h3; rw [h3]; simp)
        exact back_flat rfl (congrArg AV.bool hz) rfl (by rw [← hW]; exact (by (try dsimp only); repeat (first | exact hG | apply Grow.new | (refine Grow.put ?_ _ (by first | omega | (simp only [Heap.next_new, Heap.next_put]; omega))))))
      · -- no h3
        have hul : us.length ≤ 12 := by simp at g2; omega
        have hv0 : 0 < vs.length := by omega
        obtain ⟨c0, hc0⟩ : ∃ c0, cols[0]? = some c0 := ⟨_, List.getElem?_eq_getElem (by omega)⟩
        have hhd : cols.head? = some c0 := by rw [← hc0]; cases cols <;> rfl
        have hlz : lenOf vs[0] = some c0.length := by simpa using (hv 0 vs[0] c0 (List.getElem?_eq_getElem hv0) hc0).len
        have hc05 : 1 ≤ c0.length ∧ c0.length ≤ 5 := by have := slOk_facts hok; rw [List.headD_eq_head?_getD, hhd] at this; simp at this; omega
        refine Ok.skip ?_
        refine Ok.seq ?_
        refine Ok.seq ?_
        refine Ok.region ?_
        refine OkO.assign rfl rfl ?_
        refine OkO.nil ?_
        refine Ok.block ?_
        refine Ok.loop (fun n s => ∃ (i : Nat), n = us.length - i ∧ i ≤ us.length ∧ (∀ (j : Nat) (hj : j < us.length), j < i → inB us[j] 0 ((cols.headD []).length - 1) = true) ∧ (∀ (j : Nat) (hj : j + 1 < us.length), j + 1 < i → inB us[j + 1] (us[j] - 1) (us[j] + 1) = true) ∧ Has 7 [(2, .ptr W.next 0), (3, .ptr (W.next + 1) 0), (4, .bool false), (5, I us.length), (6, I (i : Int))] s.T ∧ s.D = [] ∧ Grow W s.H ∧ s.H.get W.next = some (.cells [cv, I least] 24) ∧ s.H.get (W.next + 1) = some (.cells [I fr, bv] 27)) (us.length) (by unfold loopFuel; omega)
          ⟨0, rfl, Nat.zero_le _, (fun j _ h => by omega), (fun j _ h => by omega), Has.of (by kernel_rfl), rfl, (by (try dsimp only); repeat (first | exact hG | apply Grow.new | (refine Grow.put ?_ _ (by first | omega | (simp only [Heap.next_new, Heap.next_put]; omega))))), (by simp (disch := first | omega | (simp only [Heap.next_new, Heap.next_put]; omega)) only [get_new_same, get_new_same1, get_new_same2, get_put_same, get_new_other, get_put_other] <;> rfl), (by simp (disch := first | omega | (simp only [Heap.next_new, Heap.next_put]; omega)) only [get_new_same, get_new_same1, get_new_same2, get_put_same, get_new_other, get_put_other] <;> rfl)⟩ ?_
        rintro n ⟨T, D, G⟩ ⟨i, hn, hi, ha1, ha2, ⟨f, hT⟩, hD, hg, ob1, ob2⟩
        dsimp only at *
        subst hT hD
        have hgn := hg.next
        have hc1 : (G.get W.next).bind AObj.cs = some [cv, I least] := by rw [ob1]; rfl
        have hc2 : (G.get (W.next + 1)).bind AObj.cs = some [I fr, bv] := by rw [ob2]; rfl
        have hEg := hE _ hg
        refine Ok.seq ?_
        refine Ok.seq ?_
        refine Ok.region ?_
        refine OkO.move rfl rfl ?_
        refine OkO.move rfl rfl ?_
        refine OkO.bin rfl rfl rfl (bin_lss _ _) ?_
        refine OkO.nil ?_
        refine Ok.cond rfl (fun h4 => ?_) (fun h4 => ?_)
        · -- yes h4
          have hlt : i < us.length := by simp at h4; omega
          obtain ⟨ub, uo, ucs, i1, i2, i5, i4⟩ := (hU.ext hEg).at' i hlt
          obtain ⟨zb, zo, zcs, z1, z2, z3, z4⟩ := (hR.ext hEg).at_ 0 [vs[0]] (by simp [hv0])
          have z5 := seg_one z3
          refine Ok.skip ?_
          refine Ok.seq ?_
          refine Ok.block ?_
          refine Ok.seq ?_
          refine Ok.drawn [(0, true, []), (1, true, []), (2, true, []), (3, true, []), (4, true, []), (5, true, []), (6, true, []), (7, true, []), (8, true, []), (9, true, []), (10, true, []), (11, false, [9, 8, 6, 1]), (12, true, []), (13, true, []), (14, true, []), (15, true, []), (16, true, []), (17, true, []), (18, true, []), (19, true, []), (20, true, []), (21, true, []), (22, true, []), (23, true, []), (24, true, []), (25, true, []), (26, true, []), (27, true, []), (28, true, []), (29, false, [27, 23, 21, 18, 9, 8, 6, 4, 1]), (30, true, []), (31, true, []), (32, true, [])] (by kernel_rfl) ?_
          refine OkP.step ?_
          refine OkO.fieldAddr (o := 1) rfl (by kernel_rfl) rfl ?_
          refine OkO.nil ⟨rfl, ?_⟩
          refine OkP.step ?_
          refine OkO.load rfl rfl (loadAt_atom (n := 1) (by kernel_rfl) (by first | assumption | (simp (disch := first | omega | (simp only [Heap.next_new, Heap.next_put]; omega)) only [get_new_same, get_new_same1, get_new_same2, get_put_same, get_new_other, get_put_other] <;> first | rfl | assumption)) (by first | rfl | assumption)) ?_
          refine OkO.nil ⟨rfl, ?_⟩
          refine OkP.step ?_
          refine OkO.move rfl rfl ?_
          refine OkO.nil ⟨rfl, ?_⟩
          refine OkP.step ?_
          refine OkO.index (sz := 1) (n := i) rfl rfl rfl (by kernel_rfl) (by first | assumption | rfl) ?_ -- index ('Go.Operand.tmp', 38) ('Go.Operand.tmp', 39)
          refine OkO.nil ⟨rfl, ?_⟩
          refine OkP.step ?_
          refine OkO.load rfl rfl (loadAt_atom (n := 1) (by kernel_rfl) (by first | assumption | (simp (disch := first | omega | (simp only [Heap.next_new, Heap.next_put]; omega)) only [get_new_same, get_new_same1, get_new_same2, get_put_same, get_new_other, get_put_other] <;> first | rfl | assumption)) (by first | rfl | assumption)) ?_
          refine OkO.nil ⟨rfl, ?_⟩
          refine OkP.step ?_
          refine OkO.fieldAddr (o := 0) rfl (by kernel_rfl) rfl ?_
          refine OkO.nil ⟨rfl, ?_⟩
          refine OkP.step ?_
          refine OkO.load rfl rfl (loadAt_atom (n := 1) (by kernel_rfl) (by first | assumption | (simp (disch := first | omega | (simp only [Heap.next_new, Heap.next_put]; omega)) only [get_new_same, get_new_same1, get_new_same2, get_put_same, get_new_other, get_put_other] <;> first | rfl | assumption)) (by first | rfl | assumption)) ?_
          refine OkO.nil ⟨rfl, ?_⟩
          refine OkP.step ?_
          refine OkO.index (sz := 1) rfl rfl rfl (by kernel_rfl) (by first | assumption | rfl) ?_ -- index ('Go.Operand.tmp', 43) ('Go.Operand.const', ('Go.Value.int', 'Go.IntKind.i64', 0))
          refine OkO.nil ⟨rfl, ?_⟩
          refine OkP.step ?_
          refine OkO.load rfl rfl (loadAt_atom (n := 1) (by kernel_rfl) (by first | assumption | (simp (disch := first | omega | (simp only [Heap.next_new, Heap.next_put]; omega)) only [get_new_same, get_new_same1, get_new_same2, get_put_same, get_new_other, get_put_other] <;> first | rfl | assumption)) (by first | rfl | assumption)) ?_
          refine OkO.nil ⟨rfl, ?_⟩
          refine OkP.step ?_
          refine OkO.builtin rfl rfl rfl (builtin_len (by kernel_rfl) (by first | assumption | rfl)) ?_
          refine OkO.nil ⟨rfl, ?_⟩
          refine OkP.step ?_
          refine OkO.bin rfl rfl rfl (bin_sub (by omega) (by omega)) ?_
          refine OkO.nil ⟨rfl, ?_⟩
          refine OkP.step ?_
          refine OkO.callV rfl rfl rfl rfl rfl (c37 _ _ _ _ _) ?_ -- "sackung/sackungref01.In"
          refine OkO.nil ⟨(stills_cons (still_val rfl (evCall_builtin rfl rfl (builtin_len (by kernel_rfl) (by first | assumption | rfl))) rfl (eqv_refl _ rfl)) (stills_cons (still_load rfl rfl (loadAt_atom (n := 1) (by kernel_rfl) (by first | assumption | (simp (disch := first | omega | (simp only [Heap.next_new, Heap.next_put]; omega)) only [get_new_same, get_new_same1, get_new_same2, get_put_same, get_new_other, get_put_other] <;> first | rfl | assumption)) (by first | rfl | assumption)) rfl (eqv_refl _ (by first | rfl | exact len_plain (by assumption)))) (stills_cons (still_load rfl rfl (loadAt_atom (n := 1) (by kernel_rfl) (by first | assumption | (simp (disch := first | omega | (simp only [Heap.next_new, Heap.next_put]; omega)) only [get_new_same, get_new_same1, get_new_same2, get_put_same, get_new_other, get_put_other] <;> first | rfl | assumption)) (by first | rfl | assumption)) rfl (eqv_refl _ (by first | rfl | exact len_plain (by assumption)))) (stills_cons (still_load rfl rfl (loadAt_atom (n := 1) (by kernel_rfl) (by first | assumption | (simp (disch := first | omega | (simp only [Heap.next_new, Heap.next_put]; omega)) only [get_new_same, get_new_same1, get_new_same2, get_put_same, get_new_other, get_put_other] <;> first | rfl | assumption)) (by first | rfl | assumption)) rfl (eqv_refl _ (by first | rfl | exact len_plain (by assumption)))) rfl)))), ?_⟩
          refine OkP.step ?_
          refine OkO.un rfl rfl rfl ?_
          refine OkO.nil ⟨rfl, ?_⟩
          refine OkP.step ?_
          refine OkO.move rfl rfl ?_
          refine OkO.nil ⟨rfl, ?_⟩
          refine OkP.split (d := 50) rfl (fun g5 => ?_) (fun g5 => ?_)
          · -- true g5
            have hz : false = surfB cols least fr us := bad_u hlt (by rw [List.headD_eq_head?_getD, hhd]; simpa using g5)
            refine OkP.step ?_
            refine OkO.skip rfl ?_
            refine OkO.nil ⟨rfl, ?_⟩
            refine OkP.step ?_
            refine OkO.skip rfl ?_
            refine OkO.nil ⟨rfl, ?_⟩
            refine OkP.step ?_
            refine OkO.skip rfl ?_
            refine OkO.nil ⟨rfl, ?_⟩
            refine OkP.step ?_
            refine OkO.skip rfl ?_
            refine OkO.nil ⟨rfl, ?_⟩
            refine OkP.step ?_
            refine OkO.skip rfl ?_
            refine OkO.nil ⟨rfl, ?_⟩
            refine OkP.step ?_
            refine OkO.skip rfl ?_
            refine OkO.nil ⟨rfl, ?_⟩
            refine OkP.step ?_
            refine OkO.skip rfl ?_
            refine OkO.nil ⟨rfl, ?_⟩
            refine OkP.step ?_
            refine OkO.skip rfl ?_
            refine OkO.nil ⟨rfl, ?_⟩
            refine OkP.step ?_
            refine OkO.skip rfl ?_
            refine OkO.nil ⟨rfl, ?_⟩
            refine OkP.step ?_
            refine OkO.skip rfl ?_
            refine OkO.nil ⟨rfl, ?_⟩
            refine OkP.step ?_
            refine OkO.skip rfl ?_
            refine OkO.nil ⟨rfl, ?_⟩
            refine OkP.step ?_
            refine OkO.skip rfl ?_
            refine OkO.nil ⟨rfl, ?_⟩
            refine OkP.step ?_
            refine OkO.skip rfl ?_
            refine OkO.nil ⟨rfl, ?_⟩
            refine OkP.step ?_
            refine OkO.skip rfl ?_
            refine OkO.nil ⟨rfl, ?_⟩
            refine OkP.step ?_
            refine OkO.skip rfl ?_
            refine OkO.nil ⟨rfl, ?_⟩
            refine OkP.step ?_
            refine OkO.skip rfl ?_
            refine OkO.nil ⟨(stills_cons (still_skip rfl) (stills_cons (still_skip rfl) (stills_cons (still_skip rfl) (stills_cons (still_skip rfl) (stills_cons (still_val rfl (evCall_builtin rfl rfl (builtin_len (by kernel_rfl) (by first | assumption | rfl))) rfl (eqv_refl _ rfl)) (stills_cons (still_load rfl rfl (loadAt_atom (n := 1) (by kernel_rfl) (by first | assumption | (simp (disch := first | omega | (simp only [Heap.next_new, Heap.next_put]; omega)) only [get_new_same, get_new_same1, get_new_same2, get_put_same, get_new_other, get_put_other] <;> first | rfl | assumption)) (by first | rfl | assumption)) rfl (eqv_refl _ (by first | rfl | exact len_plain (by assumption)))) (stills_cons (still_load rfl rfl (loadAt_atom (n := 1) (by kernel_rfl) (by first | assumption | (simp (disch := first | omega | (simp only [Heap.next_new, Heap.next_put]; omega)) only [get_new_same, get_new_same1, get_new_same2, get_put_same, get_new_other, get_put_other] <;> first | rfl | assumption)) (by first | rfl | assumption)) rfl (eqv_refl _ (by first | rfl | exact len_plain (by assumption)))) (stills_cons (still_load rfl rfl (loadAt_atom (n := 1) (by kernel_rfl) (by first | assumption | (simp (disch := first | omega | (simp only [Heap.next_new, Heap.next_put]; omega)) only [get_new_same, get_new_same1, get_new_same2, get_put_same, get_new_other, get_put_other] <;> first | rfl | assumption)) (by first | rfl | assumption)) rfl (eqv_refl _ (by first | rfl | exact len_plain (by assumption)))) (stills_cons (still_load rfl rfl (loadAt_atom (n := 1) (by kernel_rfl) (by first | assumption | (simp (disch := first | omega | (simp only [Heap.next_new, Heap.next_put]; omega)) only [get_new_same, get_new_same1, get_new_same2, get_put_same, get_new_other, get_put_other] <;> first | rfl | assumption)) (by first | rfl | assumption)) rfl (eqv_refl _ (by first | rfl | exact len_plain (by assumption)))) rfl))))))))), ?_⟩
            refine OkP.step ?_
            refine OkO.skip rfl ?_
            refine OkO.nil ⟨rfl, ?_⟩
            refine OkP.step ?_
            refine OkO.skip rfl ?_
            refine OkO.nil ⟨rfl, ?_⟩
            refine OkP.step ?_
            refine OkO.pick (b := true) rfl rfl (fun _ => rfl) nofun ?_
            refine OkO.nil ⟨rfl, ?_⟩
            refine OkP.nil ?_
            refine Ok.condT rfl ?_
            refine Ok.seq ?_
            refine Ok.region ?_
            refine OkO.assign rfl rfl ?_
            refine OkO.nil ?_
            refine Ok.ret ⟨.inr rfl, ?_⟩
            exact back_flat rfl (congrArg AV.bool hz) rfl (by rw [← hW]; exact hg)
          · -- false g5
            refine OkP.step ?_
            refine OkO.move rfl rfl ?_
            refine OkO.nil ⟨rfl, ?_⟩
            refine OkP.step ?_
            refine OkO.bin rfl rfl rfl (bin_gtr _ _) ?_
            refine OkO.nil ⟨rfl, ?_⟩
            refine OkP.step ?_
            refine OkO.move rfl rfl ?_
            refine OkO.nil ⟨rfl, ?_⟩
            refine OkP.split (d := 53) rfl (fun g6 => ?_) (fun g6 => ?_)
            · -- true g6
              obtain ⟨q, hq⟩ : ∃ q, i = q + 1 := ⟨i - 1, by simp at g6; omega⟩
              have eq : ((i : Nat) : Int) - 1 = (q : Int) := by omega
              obtain ⟨yb, yo, ycs, y1, y2, y5, y4⟩ := (hU.ext hEg).at' q (by omega)
              have hb1 : 0 ≤ us[i] ∧ us[i] ≤ 4 := by simp [inB] at g5; omega
              have hb2 : 0 ≤ us[q] ∧ us[q] ≤ 4 := by have := ha1 q (by omega) (by omega); rw [List.headD_eq_head?_getD, hhd] at this; simp [inB] at this; omega
              refine OkP.step ?_
              refine OkO.fieldAddr (o := 1) rfl (by kernel_rfl) rfl ?_
              refine OkO.nil ⟨rfl, ?_⟩
              refine OkP.step ?_
              refine OkO.load rfl rfl (loadAt_atom (n := 1) (by kernel_rfl) (by first | assumption | (simp (disch := first | omega | (simp only [Heap.next_new, Heap.next_put]; omega)) only [get_new_same, get_new_same1, get_new_same2, get_put_same, get_new_other, get_put_other] <;> first | rfl | assumption)) (by first | rfl | assumption)) ?_
              refine OkO.nil ⟨rfl, ?_⟩
              refine OkP.step ?_
              refine OkO.move rfl rfl ?_
              refine OkO.nil ⟨rfl, ?_⟩
              refine OkP.step ?_
              refine OkO.index (sz := 1) (n := i) rfl rfl rfl (by kernel_rfl) (by first | assumption | rfl) ?_ -- index ('Go.Operand.tmp', 55) ('Go.Operand.tmp', 56)
              refine OkO.nil ⟨rfl, ?_⟩
              refine OkP.step ?_
              refine OkO.load rfl rfl (loadAt_atom (n := 1) (by kernel_rfl) (by first | assumption | (simp (disch := first | omega | (simp only [Heap.next_new, Heap.next_put]; omega)) only [get_new_same, get_new_same1, get_new_same2, get_put_same, get_new_other, get_put_other] <;> first | rfl | assumption)) (by first | rfl | assumption)) ?_
              refine OkO.nil ⟨rfl, ?_⟩
              refine OkP.step ?_
              refine OkO.fieldAddr (o := 1) rfl (by kernel_rfl) rfl ?_
              refine OkO.nil ⟨rfl, ?_⟩
              refine OkP.step ?_
              refine OkO.load rfl rfl (loadAt_atom (n := 1) (by kernel_rfl) (by first | assumption | (simp (disch := first | omega | (simp only [Heap.next_new, Heap.next_put]; omega)) only [get_new_same, get_new_same1, get_new_same2, get_put_same, get_new_other, get_put_other] <;> first | rfl | assumption)) (by first | rfl | assumption)) ?_
              refine OkO.nil ⟨rfl, ?_⟩
              refine OkP.step ?_
              refine OkO.move rfl rfl ?_
              refine OkO.nil ⟨rfl, ?_⟩
              refine OkP.step ?_
              refine OkO.bin rfl rfl rfl (bin_sub (by omega) (by omega)) ?_
              refine OkO.nil ⟨rfl, ?_⟩
              refine OkP.step ?_
              refine OkO.index (sz := 1) (n := q) rfl rfl (congrArg (fun z => some (AV.int .i64 z)) eq) (by kernel_rfl) (by first | assumption | rfl) ?_ -- index ('Go.Operand.tmp', 60) ('Go.Operand.tmp', 62)
              refine OkO.nil ⟨rfl, ?_⟩
              refine OkP.step ?_
              refine OkO.load rfl rfl (loadAt_atom (n := 1) (by kernel_rfl) (by first | assumption | (simp (disch := first | omega | (simp only [Heap.next_new, Heap.next_put]; omega)) only [get_new_same, get_new_same1, get_new_same2, get_put_same, get_new_other, get_put_other] <;> first | rfl | assumption)) (by first | rfl | assumption)) ?_
              refine OkO.nil ⟨rfl, ?_⟩
              refine OkP.step ?_
              refine OkO.bin rfl rfl rfl (bin_sub (by omega) (by omega)) ?_
              refine OkO.nil ⟨rfl, ?_⟩
              refine OkP.step ?_
              refine OkO.callV rfl rfl rfl rfl rfl (c37 _ _ _ _ _) ?_ -- "sackung/sackungref01.In"
              refine OkO.nil ⟨(stills_cons (still_load rfl rfl (loadAt_atom (n := 1) (by kernel_rfl) (by first | assumption | (simp (disch := first | omega | (simp only [Heap.next_new, Heap.next_put]; omega)) only [get_new_same, get_new_same1, get_new_same2, get_put_same, get_new_other, get_put_other] <;> first | rfl | assumption)) (by first | rfl | assumption)) rfl (eqv_refl _ (by first | rfl | exact len_plain (by assumption)))) (stills_cons (still_load rfl rfl (loadAt_atom (n := 1) (by kernel_rfl) (by first | assumption | (simp (disch := first | omega | (simp only [Heap.next_new, Heap.next_put]; omega)) only [get_new_same, get_new_same1, get_new_same2, get_put_same, get_new_other, get_put_other] <;> first | rfl | assumption)) (by first | rfl | assumption)) rfl (eqv_refl _ (by first | rfl | exact len_plain (by assumption)))) (stills_cons (still_load rfl rfl (loadAt_atom (n := 1) (by kernel_rfl) (by first | assumption | (simp (disch := first | omega | (simp only [Heap.next_new, Heap.next_put]; omega)) only [get_new_same, get_new_same1, get_new_same2, get_put_same, get_new_other, get_put_other] <;> first | rfl | assumption)) (by first | rfl | assumption)) rfl (eqv_refl _ (by first | rfl | exact len_plain (by assumption)))) (stills_cons (still_load rfl rfl (loadAt_atom (n := 1) (by kernel_rfl) (by first | assumption | (simp (disch := first | omega | (simp only [Heap.next_new, Heap.next_put]; omega)) only [get_new_same, get_new_same1, get_new_same2, get_put_same, get_new_other, get_put_other] <;> first | rfl | assumption)) (by first | rfl | assumption)) rfl (eqv_refl _ (by first | rfl | exact len_plain (by assumption)))) (stills_cons (still_val rfl (evCall_builtin rfl rfl (builtin_len (by kernel_rfl) (by first | assumption | rfl))) rfl (eqv_refl _ rfl)) (stills_cons (still_load rfl rfl (loadAt_atom (n := 1) (by kernel_rfl) (by first | assumption | (simp (disch := first | omega | (simp only [Heap.next_new, Heap.next_put]; omega)) only [get_new_same, get_new_same1, get_new_same2, get_put_same, get_new_other, get_put_other] <;> first | rfl | assumption)) (by first | rfl | assumption)) rfl (eqv_refl _ (by first | rfl | exact len_plain (by assumption)))) (stills_cons (still_load rfl rfl (loadAt_atom (n := 1) (by kernel_rfl) (by first | assumption | (simp (disch := first | omega | (simp only [Heap.next_new, Heap.next_put]; omega)) only [get_new_same, get_new_same1, get_new_same2, get_put_same, get_new_other, get_put_other] <;> first | rfl | assumption)) (by first | rfl | assumption)) rfl (eqv_refl _ (by first | rfl | exact len_plain (by assumption)))) (stills_cons (still_load rfl rfl (loadAt_atom (n := 1) (by kernel_rfl) (by first | assumption | (simp (disch := first | omega | (simp only [Heap.next_new, Heap.next_put]; omega)) only [get_new_same, get_new_same1, get_new_same2, get_put_same, get_new_other, get_put_other] <;> first | rfl | assumption)) (by first | rfl | assumption)) rfl (eqv_refl _ (by first | rfl | exact len_plain (by assumption)))) (stills_cons (still_load rfl rfl (loadAt_atom (n := 1) (by kernel_rfl) (by first | assumption | (simp (disch := first | omega | (simp only [Heap.next_new, Heap.next_put]; omega)) only [get_new_same, get_new_same1, get_new_same2, get_put_same, get_new_other, get_put_other] <;> first | rfl | assumption)) (by first | rfl | assumption)) rfl (eqv_refl _ (by first | rfl | exact len_plain (by assumption)))) rfl))))))))), ?_⟩
              refine OkP.step ?_
              refine OkO.un rfl rfl rfl ?_
              refine OkO.nil ⟨rfl, ?_⟩
              refine OkP.step ?_
              refine OkO.pick (b := true) rfl rfl (fun _ => rfl) nofun ?_
              refine OkO.nil ⟨rfl, ?_⟩
              refine OkP.step ?_
              refine OkO.pick (b := false) rfl rfl nofun (fun _ => rfl) ?_
              refine OkO.nil ⟨rfl, ?_⟩
              refine OkP.nil ?_
              refine Ok.cond rfl (fun h7 => ?_) (fun h7 => ?_)
              · -- yes h7
                subst hq
                have hz : false = surfB cols least fr us := bad_a hlt (by simp [inB] at h7 ⊢; omega)
                refine Ok.seq ?_
                refine Ok.region ?_
                refine OkO.assign rfl rfl ?_
                refine OkO.nil ?_
                refine Ok.ret ⟨.inr rfl, ?_⟩
                exact back_flat rfl (congrArg AV.bool hz) rfl (by rw [← hW]; exact hg)
              · -- no h7
                refine Ok.skip ?_
                refine Ok.region ?_
                refine OkO.move rfl rfl ?_
                refine OkO.bin rfl rfl rfl (bin_add (by omega) (by omega)) ?_
                refine OkO.assign rfl rfl ?_
                refine OkO.nil ?_
                refine ⟨us.length - (i + 1), by omega, i + 1, rfl, hlt, fun j hj hji => ?_, fun j hj hji => ?_, Has.of (by kernel_rfl), rfl, hg, ob1, ob2⟩
                · by_cases e : j = i
                  · subst e; rw [List.headD_eq_head?_getD, hhd]; simpa using g5
                  · exact ha1 j hj (by omega)
                · by_cases e : j + 1 = i
                  · (obtain rfl : j = q := by omega); subst hq; simp [inB] at h7 ⊢; omega
                  · exact ha2 j hj (by omega)
            · -- false g6
              have hi0 : i = 0 := by simp at g6; omega
              refine OkP.step ?_
              refine OkO.skip rfl ?_
              refine OkO.nil ⟨rfl, ?_⟩
              refine OkP.step ?_
              refine OkO.skip rfl ?_
              refine OkO.nil ⟨rfl, ?_⟩
              refine OkP.step ?_
              refine OkO.skip rfl ?_
              refine OkO.nil ⟨rfl, ?_⟩
              refine OkP.step ?_
              refine OkO.skip rfl ?_
              refine OkO.nil ⟨rfl, ?_⟩
              refine OkP.step ?_
              refine OkO.skip rfl ?_
              refine OkO.nil ⟨rfl, ?_⟩
              refine OkP.step ?_
              refine OkO.skip rfl ?_
              refine OkO.nil ⟨rfl, ?_⟩
              refine OkP.step ?_
              refine OkO.skip rfl ?_
              refine OkO.nil ⟨rfl, ?_⟩
              refine OkP.step ?_
              refine OkO.skip rfl ?_
              refine OkO.nil ⟨rfl, ?_⟩
              refine OkP.step ?_
              refine OkO.skip rfl ?_
              refine OkO.nil ⟨rfl, ?_⟩
              refine OkP.step ?_
              refine OkO.skip rfl ?_
              refine OkO.nil ⟨rfl, ?_⟩
              refine OkP.step ?_
              refine OkO.skip rfl ?_
              refine OkO.nil ⟨rfl, ?_⟩
              refine OkP.step ?_
              refine OkO.skip rfl ?_
              refine OkO.nil ⟨rfl, ?_⟩
              refine OkP.step ?_
              refine OkO.skip rfl ?_
              refine OkO.nil ⟨(stills_cons (still_skip rfl) (stills_cons (still_skip rfl) (stills_cons (still_skip rfl) (stills_cons (still_skip rfl) (stills_cons (still_val rfl (evCall_builtin rfl rfl (builtin_len (by kernel_rfl) (by first | assumption | rfl))) rfl (eqv_refl _ rfl)) (stills_cons (still_load rfl rfl (loadAt_atom (n := 1) (by kernel_rfl) (by first | assumption | (simp (disch := first | omega | (simp only [Heap.next_new, Heap.next_put]; omega)) only [get_new_same, get_new_same1, get_new_same2, get_put_same, get_new_other, get_put_other] <;> first | rfl | assumption)) (by first | rfl | assumption)) rfl (eqv_refl _ (by first | rfl | exact len_plain (by assumption)))) (stills_cons (still_load rfl rfl (loadAt_atom (n := 1) (by kernel_rfl) (by first | assumption | (simp (disch := first | omega | (simp only [Heap.next_new, Heap.next_put]; omega)) only [get_new_same, get_new_same1, get_new_same2, get_put_same, get_new_other, get_put_other] <;> first | rfl | assumption)) (by first | rfl | assumption)) rfl (eqv_refl _ (by first | rfl | exact len_plain (by assumption)))) (stills_cons (still_load rfl rfl (loadAt_atom (n := 1) (by kernel_rfl) (by first | assumption | (simp (disch := first | omega | (simp only [Heap.next_new, Heap.next_put]; omega)) only [get_new_same, get_new_same1, get_new_same2, get_put_same, get_new_other, get_put_other] <;> first | rfl | assumption)) (by first | rfl | assumption)) rfl (eqv_refl _ (by first | rfl | exact len_plain (by assumption)))) (stills_cons (still_load rfl rfl (loadAt_atom (n := 1) (by kernel_rfl) (by first | assumption | (simp (disch := first | omega | (simp only [Heap.next_new, Heap.next_put]; omega)) only [get_new_same, get_new_same1, get_new_same2, get_put_same, get_new_other, get_put_other] <;> first | rfl | assumption)) (by first | rfl | assumption)) rfl (eqv_refl _ (by first | rfl | exact len_plain (by assumption)))) rfl))))))))), ?_⟩
              refine OkP.step ?_
              refine OkO.skip rfl ?_
              refine OkO.nil ⟨rfl, ?_⟩
              refine OkP.step ?_
              refine OkO.pick (b := false) rfl rfl nofun (fun _ => rfl) ?_
              refine OkO.nil ⟨rfl, ?_⟩
              refine OkP.step ?_
              refine OkO.pick (b := false) rfl rfl nofun (fun _ => rfl) ?_
              refine OkO.nil ⟨rfl, ?_⟩
              refine OkP.nil ?_
              refine Ok.condF rfl ?_
              refine Ok.skip ?_
              refine Ok.region ?_
              refine OkO.move rfl rfl ?_
              refine OkO.bin rfl rfl rfl (bin_add (by omega) (by omega)) ?_
              refine OkO.assign rfl rfl ?_
              refine OkO.nil ?_
              refine ⟨us.length - (i + 1), by omega, i + 1, rfl, hlt, fun j hj hji => ?_, fun j hj hji => ?_, Has.of (by kernel_rfl), rfl, hg, ob1, ob2⟩
              · by_cases e : j = i
                · subst e; rw [List.headD_eq_head?_getD, hhd]; simpa using g5
                · exact ha1 j hj (by omega)
              · by_cases e : j + 1 = i
                · omega
                · exact ha2 j hj (by omega)
        · -- no h4
          have hge : i = us.length := by simp at h4; omega
          have hz : true = surfB cols least fr us := by (rw [surfB_eq hok, show us.all (fun u => inB u 0 ((cols.headD []).length - 1)) = true from by rw [List.all_eq_true]; intro x hx; obtain ⟨q, hq, rfl⟩ := List.mem_iff_getElem.1 hx; exact ha1 q hq (by omega), show adjB us = true from by unfold adjB; rw [List.all_eq_true]; intro j hj; have hj2 : j + 1 < us.length := (by have := List.mem_range.1 hj; omega); simpa [hj2, show j < us.length from by omega] using ha2 j hj2 (by omega)]; simp at g1 g2 h3; rw [hvl] at g2 h3; simp [g1, g2, h3])
          refine Ok.exit ?_
          refine Ok.seq ?_
          refine Ok.region ?_
          refine OkO.assign rfl rfl ?_
          refine OkO.nil ?_
          refine Ok.ret ⟨.inr rfl, ?_⟩
          exact back_flat rfl (congrArg AV.bool hz) rfl (by rw [← hW]; exact hg)
end
end Go.Ev
