/-
  Functions of the program, reckoned by the evaluator: what each answers, in the document's words, and that it leaves what came in as it was (part 23).
-/
import Derived.Test.YtfhomicfhgiidaaG22
set_option maxRecDepth 100000
set_option linter.unusedSimpArgs false
set_option linter.unusedVariables false
namespace Go.Ev
open Go Go.Proofs
noncomputable section
theorem neq4 (x y : Bool) : binT Try.prog .neq 4 (.bool x) (.bool y) = some (.bool (x != y)) := by cases x <;> cases y <;> kernel_rfl
theorem ref_fac {L : List Bed} {R : List Rl} (h : ¬ drive L < 1) : refFactor L R = factorOf (held L R) (drive L) := by
  unfold refFactor factorOf; rw [if_neg h, Int.min_comm]
theorem c3W (m : Nat) (cv bv tv : AV) (cols : List (List Bed)) (least fr : Int) (us : List Int) (R : List Rl) (H : Heap) (hM : Mat H cv cols) (hU : Ints H bv us) (hT : Row H tv 3 (R.map rl)) (hw : ¬ (thinB cols = true ∧ us.length ≤ 20 ∧ R.length ≤ 20)) : RR (m + 10) (.fn 3 [.agg [cv, I least], .agg [I fr, bv], tv]) H = some (.bool true, H) := by
  refine (R_fn _ _ _ _ _).trans ?_
  refine fn_ok Try.func3 rfl rfl (by kernel_rfl) (by kernel_rfl) ?_
  obtain ⟨W, hW⟩ : ∃ W : Heap, W = ⟨H.t, H.next, H.next⟩ := ⟨_, rfl⟩
  have hg : ∀ n, W.get n = H.get n := fun n => by rw [hW]; rfl
  have hN : W.next = H.next := by rw [hW]
  have hE : ∀ G, Grow W G → Ext H G := fun G g => ⟨by rw [← hN]; exact g.next, fun n k => by rw [g.get n (by rw [hN]; exact k), hg]⟩
  have hG : Grow W W := Grow.refl (by rw [hW]; exact Nat.le_refl _)
  rw [← hW]
  have pc : cv.plain = true := by obtain ⟨vs, hR, _, _⟩ := hM; exact len_plain hR.len
  have pb : bv.plain = true := len_plain hU.len
  have ps : AV.plain (.agg [cv, I least]) = true := by simp [AV.plain, AV.plains, pc]
  have pu : AV.plain (.agg [I fr, bv]) = true := by simp [AV.plain, AV.plains, pb]
  have hlenb := hU.len
  have hlent : lenOf tv = some R.length := by simpa using hT.len
  refine Ok.seq ?_
  refine Ok.region ?_
  refine OkO.box rfl rfl ?_
  refine OkO.box rfl rfl ?_
  refine OkO.assign rfl rfl ?_
  refine OkO.nil ?_
  refine Ok.seq ?_
  refine Ok.seq ?_
  refine Ok.region ?_
  refine OkO.load rfl rfl (loadAt_agg (n := 2) (by kernel_rfl) (by first | assumption | (simp (disch := first | omega | (simp only [Heap.next_new, Heap.next_put]; omega)) only [get_new_same, get_new_same1, get_new_same2, get_put_same, get_new_other, get_put_other] <;> first | rfl | assumption)) (by first | rfl | assumption)) ?_
  refine OkO.callV rfl rfl rfl rfl rfl (c16 (m + 8) cv cols least _ (hM.ext (hE _ (by (try dsimp only); repeat (first | exact hG | apply Grow.new | (refine Grow.put ?_ _ (by first | omega | (simp only [Heap.next_new, Heap.next_put]; omega)))))))) ?_ -- "sackung/sackunglaw01.Thin"
  refine OkO.un rfl rfl rfl ?_
  refine OkO.move rfl rfl ?_
  refine OkO.split (d := 15) rfl (fun g1 => ?_) (fun g1 => ?_)
  · -- true g1
    refine OkO.skip rfl ?_
    refine OkO.skip rfl ?_
    refine OkO.skip rfl ?_
    refine OkO.skip rfl ?_
    refine OkO.pick (b := true) rfl rfl (fun _ => rfl) nofun ?_
    refine OkO.move rfl rfl ?_
    refine OkO.skip rfl ?_
    refine OkO.skip rfl ?_
    refine OkO.skip rfl ?_
    refine OkO.pick (b := true) rfl rfl (fun _ => rfl) nofun ?_
    refine OkO.nil ?_
    refine Ok.condT rfl ?_
    refine Ok.seq ?_
    refine Ok.region ?_
    refine OkO.callV rfl rfl rfl rfl rfl (rfl) ?_ -- "sackung/sackunglaw01.wakes"
    refine OkO.assign rfl rfl ?_
    refine OkO.nil ?_
    refine Ok.ret ⟨.inr rfl, ?_⟩
    exact back_flat rfl rfl rfl (by rw [← hW]; exact (by (try dsimp only); repeat (first | exact hG | apply Grow.new | (refine Grow.put ?_ _ (by first | omega | (simp only [Heap.next_new, Heap.next_put]; omega))))))
  · -- false g1
    refine OkO.fieldAddr (o := 1) rfl (by kernel_rfl) rfl ?_
    refine OkO.load rfl rfl (loadAt_atom (n := 1) (by kernel_rfl) (by first | assumption | (simp (disch := first | omega | (simp only [Heap.next_new, Heap.next_put]; omega)) only [get_new_same, get_new_same1, get_new_same2, get_put_same, get_new_other, get_put_other] <;> first | rfl | assumption)) (by first | rfl | assumption)) ?_
    refine OkO.builtin rfl rfl rfl (builtin_len (by kernel_rfl) (by first | assumption | rfl)) ?_
    refine OkO.bin rfl rfl rfl (bin_gtr _ _) ?_
    refine OkO.pick (b := false) rfl rfl nofun (fun _ => rfl) ?_
    refine OkO.move rfl rfl ?_
    refine OkO.split (d := 21) rfl (fun g2 => ?_) (fun g2 => ?_)
    · -- true g2
      refine OkO.skip rfl ?_
      refine OkO.skip rfl ?_
      refine OkO.skip rfl ?_
      refine OkO.pick (b := true) rfl rfl (fun _ => rfl) nofun ?_
      refine OkO.nil ?_
      refine Ok.condT rfl ?_
      refine Ok.seq ?_
      refine Ok.region ?_
      refine OkO.callV rfl rfl rfl rfl rfl (rfl) ?_ -- "sackung/sackunglaw01.wakes"
      refine OkO.assign rfl rfl ?_
      refine OkO.nil ?_
      refine Ok.ret ⟨.inr rfl, ?_⟩
      exact back_flat rfl rfl rfl (by rw [← hW]; exact (by (try dsimp only); repeat (first | exact hG | apply Grow.new | (refine Grow.put ?_ _ (by first | omega | (simp only [Heap.next_new, Heap.next_put]; omega))))))
    · -- false g2
      refine OkO.move rfl rfl ?_
      refine OkO.builtin rfl rfl rfl (builtin_len (by kernel_rfl) (by first | assumption | rfl)) ?_
      refine OkO.bin rfl rfl rfl (bin_gtr _ _) ?_
      refine OkO.pick (b := false) rfl rfl nofun (fun _ => rfl) ?_
      refine OkO.nil ?_
      refine Ok.cond rfl (fun h3 => ?_) (fun h3 => ?_)
      · -- yes h3
        refine Ok.seq ?_
        refine Ok.region ?_
        refine OkO.callV rfl rfl rfl rfl rfl (rfl) ?_ -- "sackung/sackunglaw01.wakes"
        refine OkO.assign rfl rfl ?_
        refine OkO.nil ?_
        refine Ok.ret ⟨.inr rfl, ?_⟩
        exact back_flat rfl rfl rfl (by rw [← hW]; exact (by (try dsimp only); repeat (first | exact hG | apply Grow.new | (refine Grow.put ?_ _ (by first | omega | (simp only [Heap.next_new, Heap.next_put]; omega))))))
      · -- no h3
        exact absurd ⟨by simpa using g1, by simp at g2; omega, by simp at h3; omega⟩ hw
theorem c3A (m : Nat) (cv bv tv : AV) (cols : List (List Bed)) (least fr : Int) (us : List Int) (R : List Rl) (H : Heap) (hM : Mat H cv cols) (hU : Ints H bv us) (hT : Row H tv 3 (R.map rl)) (hth : thinB cols = true) (hl20 : us.length ≤ 20) (hr20 : R.length ≤ 20) (hok : slOk cols least = false) : RR (m + 10) (.fn 3 [.agg [cv, I least], .agg [I fr, bv], tv]) H = some (.bool true, H) := by
  refine (R_fn _ _ _ _ _).trans ?_
  refine fn_ok Try.func3 rfl rfl (by kernel_rfl) (by kernel_rfl) ?_
  obtain ⟨W, hW⟩ : ∃ W : Heap, W = ⟨H.t, H.next, H.next⟩ := ⟨_, rfl⟩
  have hg : ∀ n, W.get n = H.get n := fun n => by rw [hW]; rfl
  have hN : W.next = H.next := by rw [hW]
  have hE : ∀ G, Grow W G → Ext H G := fun G g => ⟨by rw [← hN]; exact g.next, fun n k => by rw [g.get n (by rw [hN]; exact k), hg]⟩
  have hG : Grow W W := Grow.refl (by rw [hW]; exact Nat.le_refl _)
  rw [← hW]
  have pc : cv.plain = true := by obtain ⟨vs, hR, _, _⟩ := hM; exact len_plain hR.len
  have pb : bv.plain = true := len_plain hU.len
  have ps : AV.plain (.agg [cv, I least]) = true := by simp [AV.plain, AV.plains, pc]
  have pu : AV.plain (.agg [I fr, bv]) = true := by simp [AV.plain, AV.plains, pb]
  have hlenb := hU.len
  have hlent : lenOf tv = some R.length := by simpa using hT.len
  have he : surfErr cols least fr us = 1 := by simp [surfErr, hok]
  have sr : facR cols least fr us R = (0, 1) := by unfold facR; rw [he]; rfl
  refine Ok.seq ?_
  refine Ok.region ?_
  refine OkO.box rfl rfl ?_
  refine OkO.box rfl rfl ?_
  refine OkO.assign rfl rfl ?_
  refine OkO.nil ?_
  refine Ok.seq ?_
  refine Ok.seq ?_
  refine Ok.region ?_
  refine OkO.load rfl rfl (loadAt_agg (n := 2) (by kernel_rfl) (by first | assumption | (simp (disch := first | omega | (simp only [Heap.next_new, Heap.next_put]; omega)) only [get_new_same, get_new_same1, get_new_same2, get_put_same, get_new_other, get_put_other] <;> first | rfl | assumption)) (by first | rfl | assumption)) ?_
  refine OkO.callV rfl rfl rfl rfl rfl (c16 (m + 8) cv cols least _ (hM.ext (hE _ (by (try dsimp only); repeat (first | exact hG | apply Grow.new | (refine Grow.put ?_ _ (by first | omega | (simp only [Heap.next_new, Heap.next_put]; omega)))))))) ?_ -- "sackung/sackunglaw01.Thin"
  refine OkO.un rfl rfl rfl ?_
  refine OkO.move rfl rfl ?_
  refine OkO.split (d := 15) rfl (fun g1 => ?_) (fun g1 => ?_)
  · -- true g1
    exact absurd g1 (by simp [hth])
  · -- false g1
    refine OkO.fieldAddr (o := 1) rfl (by kernel_rfl) rfl ?_
    refine OkO.load rfl rfl (loadAt_atom (n := 1) (by kernel_rfl) (by first | assumption | (simp (disch := first | omega | (simp only [Heap.next_new, Heap.next_put]; omega)) only [get_new_same, get_new_same1, get_new_same2, get_put_same, get_new_other, get_put_other] <;> first | rfl | assumption)) (by first | rfl | assumption)) ?_
    refine OkO.builtin rfl rfl rfl (builtin_len (by kernel_rfl) (by first | assumption | rfl)) ?_
    refine OkO.bin rfl rfl rfl (bin_gtr _ _) ?_
    refine OkO.pick (b := false) rfl rfl nofun (fun _ => rfl) ?_
    refine OkO.move rfl rfl ?_
    refine OkO.split (d := 21) rfl (fun g2 => ?_) (fun g2 => ?_)
    · -- true g2
      exact absurd g2 (by simp; omega)
    · -- false g2
      refine OkO.move rfl rfl ?_
      refine OkO.builtin rfl rfl rfl (builtin_len (by kernel_rfl) (by first | assumption | rfl)) ?_
      refine OkO.bin rfl rfl rfl (bin_gtr _ _) ?_
      refine OkO.pick (b := false) rfl rfl nofun (fun _ => rfl) ?_
      refine OkO.nil ?_
      refine Ok.cond rfl (fun h3 => ?_) (fun h3 => ?_)
      · -- yes h3
        exact absurd h3 (by simp; omega)
      · -- no h3
        refine Ok.skip ?_
        refine Ok.seq ?_
        refine Ok.region ?_
        refine OkO.load rfl rfl (loadAt_agg (n := 2) (by kernel_rfl) (by first | assumption | (simp (disch := first | omega | (simp only [Heap.next_new, Heap.next_put]; omega)) only [get_new_same, get_new_same1, get_new_same2, get_put_same, get_new_other, get_put_other] <;> first | rfl | assumption)) (by first | rfl | assumption)) ?_
        refine OkO.callE rfl rfl rfl rfl rfl (c19 (m + 7) cv cols least _ (hM.ext (hE _ (by (try dsimp only); repeat (first | exact hG | apply Grow.new | (refine Grow.put ?_ _ (by first | omega | (simp only [Heap.next_new, Heap.next_put]; omega))))))) hth) ?_ -- "sackung/sackunglaw01.Slope"
        rintro _ H19 ⟨cv2, rfl, q19, f19⟩
        have g19 : Grow W H19 := Grow.ret (by (try dsimp only); repeat (first | exact hG | apply Grow.new | (refine Grow.put ?_ _ (by first | omega | (simp only [Heap.next_new, Heap.next_put]; omega))))) q19
        have n19 : W.next + 2 ≤ H19.next := by have := q19.ext.next; simpa using this
        have a19 : (H19.get W.next).bind AObj.cs = some [cv, I least] := by rw [q19.ext.get _ (by simp only [Heap.next_new]; omega)]; simp (disch := first | omega | (simp only [Heap.next_new, Heap.next_put]; omega)) only [get_new_same, get_new_same1, get_new_same2, get_put_same, get_new_other, get_put_other] <;> rfl
        have b19 : (H19.get (W.next + 1)).bind AObj.cs = some [I fr, bv] := by rw [q19.ext.get _ (by simp only [Heap.next_new]; omega)]; simp (disch := first | omega | (simp only [Heap.next_new, Heap.next_put]; omega)) only [get_new_same, get_new_same1, get_new_same2, get_put_same, get_new_other, get_put_other] <;> rfl
        have m19 := f19.now (Nat.le_refl _)
        have h18 := c18 (m + 2) cv2 cols least H19 m19
        rw [hok] at h18
        refine OkO.callV rfl rfl rfl rfl rfl (h18) ?_ -- "sackung/slope.CheckSlope"
        refine OkO.assign rfl rfl ?_
        refine OkO.nil ?_
        refine Ok.seq ?_
        refine Ok.drawn [(0, true, []), (2, true, []), (4, true, []), (1, false, [2]), (3, false, [0]), (5, false, [2, 0]), (6, false, [2, 0]), (7, true, []), (8, true, []), (9, true, []), (10, true, []), (11, true, [])] (by kernel_rfl) ?_
        refine OkP.step ?_
        refine OkO.load rfl rfl (loadAt_agg (n := 2) (by kernel_rfl) (by first | assumption | (simp (disch := first | omega | (simp only [Heap.next_new, Heap.next_put]; omega)) only [get_new_same, get_new_same1, get_new_same2, get_put_same, get_new_other, get_put_other] <;> first | rfl | assumption)) (by first | rfl | assumption)) ?_
        refine OkO.nil ⟨rfl, ?_⟩
        refine OkP.step ?_
        refine OkO.load rfl rfl (loadAt_agg (n := 2) (by kernel_rfl) (by first | assumption | (simp (disch := first | omega | (simp only [Heap.next_new, Heap.next_put]; omega)) only [get_new_same, get_new_same1, get_new_same2, get_put_same, get_new_other, get_put_other] <;> first | rfl | assumption)) (by first | rfl | assumption)) ?_
        refine OkO.nil ⟨rfl, ?_⟩
        refine OkP.step ?_
        refine OkO.move rfl rfl ?_
        refine OkO.nil ⟨rfl, ?_⟩
        refine OkP.step ?_
        refine OkO.callE rfl rfl rfl rfl rfl (c19 (m + 7) cv cols least _ (hM.ext (hE _ g19)) hth) ?_ -- "sackung/sackunglaw01.Slope"
        rintro _ H2 ⟨cv3, rfl, q2, f2⟩
        have g2 : Grow W H2 := Grow.ret g19 q2
        have n2 : W.next + 2 ≤ H2.next := by have := q2.ext.next; omega
        have a2 : (H2.get W.next).bind AObj.cs = some [cv, I least] := by rw [q2.ext.get _ (by omega)]; exact a19
        have b2 : (H2.get (W.next + 1)).bind AObj.cs = some [I fr, bv] := by rw [q2.ext.get _ (by omega)]; exact b19
        have m2 := f2.now (Nat.le_refl _)
        refine OkO.nil ⟨(stills_cons (still_load rfl rfl (loadAt_agg (n := 2) (by kernel_rfl) (by first | assumption | (simp (disch := first | omega | (simp only [Heap.next_new, Heap.next_put]; omega)) only [get_new_same, get_new_same1, get_new_same2, get_put_same, get_new_other, get_put_other] <;> first | rfl | assumption)) (by first | rfl | assumption)) rfl (eqv_refl _ (by first | rfl | exact ps | exact pu | exact len_plain (by assumption)))) rfl), ?_⟩
        refine OkP.step ?_
        refine OkO.callE rfl rfl rfl rfl rfl (c21 (m + 7) bv fr us _ (hU.ext (hE _ g2)) (by omega)) ?_ -- "sackung/sackunglaw01.Surface"
        rintro _ H21 ⟨bv2, rfl, q21, f21⟩
        have g21 : Grow W H21 := Grow.ret g2 q21
        have n21 : W.next + 2 ≤ H21.next := by have := q21.ext.next; omega
        have a21 : (H21.get W.next).bind AObj.cs = some [cv, I least] := by rw [q21.ext.get _ (by omega)]; exact a2
        have b21 : (H21.get (W.next + 1)).bind AObj.cs = some [I fr, bv] := by rw [q21.ext.get _ (by omega)]; exact b2
        have m21 := m2.ext q21.ext
        have i21 := f21.now (Nat.le_refl _)
        refine OkO.nil ⟨(stills_cons (still_load rfl rfl (loadAt_agg (n := 2) (by kernel_rfl) (by first | assumption | (simp (disch := first | omega | (simp only [Heap.next_new, Heap.next_put]; omega)) only [get_new_same, get_new_same1, get_new_same2, get_put_same, get_new_other, get_put_other] <;> first | rfl | assumption)) (by first | rfl | assumption)) rfl (eqv_refl _ (by first | rfl | exact ps | exact pu | exact len_plain (by assumption)))) rfl), ?_⟩
        refine OkP.step ?_
        refine OkO.callE rfl rfl rfl rfl rfl (c22 (m + 8) tv R _ (hT.ext (hE _ g21)) (by omega)) ?_ -- "sackung/sackunglaw01.Truth"
        rintro tv2 H22 ⟨q22, f22⟩
        have g22 : Grow W H22 := Grow.ret g21 q22
        have n22 : W.next + 2 ≤ H22.next := by have := q22.ext.next; omega
        have a22 : (H22.get W.next).bind AObj.cs = some [cv, I least] := by rw [q22.ext.get _ (by omega)]; exact a21
        have b22 : (H22.get (W.next + 1)).bind AObj.cs = some [I fr, bv] := by rw [q22.ext.get _ (by omega)]; exact b21
        have m22 := m21.ext q22.ext
        have r22 := f22.now (Nat.le_refl _)
        refine OkO.nil ⟨(stills_cons (still_load rfl rfl (loadAt_agg (n := 2) (by kernel_rfl) (by first | assumption | (simp (disch := first | omega | (simp only [Heap.next_new, Heap.next_put]; omega)) only [get_new_same, get_new_same1, get_new_same2, get_put_same, get_new_other, get_put_other] <;> first | rfl | assumption)) (by first | rfl | assumption)) rfl (eqv_refl _ (by first | rfl | exact ps | exact pu | exact len_plain (by assumption)))) (stills_cons (still_load rfl rfl (loadAt_agg (n := 2) (by kernel_rfl) (by first | assumption | (simp (disch := first | omega | (simp only [Heap.next_new, Heap.next_put]; omega)) only [get_new_same, get_new_same1, get_new_same2, get_put_same, get_new_other, get_put_other] <;> first | rfl | assumption)) (by first | rfl | assumption)) rfl (eqv_refl _ (by first | rfl | exact ps | exact pu | exact len_plain (by assumption)))) rfl)), ?_⟩
        refine OkP.step ?_
        have hsp := c20 m cv3 bv2 tv2 cols least fr us R H22 m22 (i21.1.ext q22.ext) (i21.2.ext q22.ext) (by omega) r22
        rw [sr] at hsp
        refine OkO.callV rfl rfl rfl rfl rfl (hsp) ?_ -- "sackung/slope.Factor"
        refine OkO.nil ⟨(stills_cons (still_load rfl rfl (loadAt_agg (n := 2) (by kernel_rfl) (by first | assumption | (simp (disch := first | omega | (simp only [Heap.next_new, Heap.next_put]; omega)) only [get_new_same, get_new_same1, get_new_same2, get_put_same, get_new_other, get_put_other] <;> first | rfl | assumption)) (by first | rfl | assumption)) rfl (eqv_refl _ (by first | rfl | exact ps | exact pu | exact len_plain (by assumption)))) (stills_cons (still_load rfl rfl (loadAt_agg (n := 2) (by kernel_rfl) (by first | assumption | (simp (disch := first | omega | (simp only [Heap.next_new, Heap.next_put]; omega)) only [get_new_same, get_new_same1, get_new_same2, get_put_same, get_new_other, get_put_other] <;> first | rfl | assumption)) (by first | rfl | assumption)) rfl (eqv_refl _ (by first | rfl | exact ps | exact pu | exact len_plain (by assumption)))) rfl)), ?_⟩
        refine OkP.step ?_
        refine OkO.move rfl rfl ?_
        refine OkO.nil ⟨rfl, ?_⟩
        refine OkP.step ?_
        refine OkO.extract rfl rfl rfl ?_
        refine OkO.nil ⟨rfl, ?_⟩
        refine OkP.step ?_
        refine OkO.extract rfl rfl rfl ?_
        refine OkO.nil ⟨rfl, ?_⟩
        refine OkP.step ?_
        refine OkO.assign rfl rfl ?_
        refine OkO.nil ⟨rfl, ?_⟩
        refine OkP.step ?_
        refine OkO.assign rfl rfl ?_
        refine OkO.nil ⟨rfl, ?_⟩
        refine OkP.nil ?_
        refine Ok.seq ?_
        refine Ok.seq ?_
        refine Ok.region ?_
        refine OkO.move rfl rfl ?_
        refine OkO.bin rfl rfl rfl (bin_eql _ _) ?_
        refine OkO.load rfl rfl (loadAt_agg (n := 2) (by kernel_rfl) (by first | assumption | (simp (disch := first | omega | (simp only [Heap.next_new, Heap.next_put]; omega)) only [get_new_same, get_new_same1, get_new_same2, get_put_same, get_new_other, get_put_other] <;> first | rfl | assumption)) (by first | rfl | assumption)) ?_
        have h23 := c23 (m + 7) cv cols least H22 (hM.ext (hE _ g22))
        rw [hok] at h23
        refine OkO.callV rfl rfl rfl rfl rfl (h23) ?_ -- "sackung/sackungref01.Right"
        refine OkO.binT rfl rfl rfl (neq4 _ _) ?_
        refine OkO.move rfl rfl ?_
        refine OkO.split (d := 45) rfl (fun g4 => ?_) (fun g4 => ?_)
        · -- true g4
          exact absurd g4 (by simp)
        · -- false g4
          refine OkO.move rfl rfl ?_
          refine OkO.bin rfl rfl rfl (bin_neq _ _) ?_
          refine OkO.move rfl rfl ?_
          refine OkO.split (d := 48) rfl (fun g5 => ?_) (fun g5 => ?_)
          · -- true g5
            refine OkO.move rfl rfl ?_
            refine OkO.bin rfl rfl rfl (bin_neq _ _) ?_
            refine OkO.pick (b := true) rfl rfl (fun _ => rfl) nofun ?_
            refine OkO.pick (b := false) rfl rfl nofun (fun _ => rfl) ?_
            refine OkO.nil ?_
            refine Ok.cond rfl (fun h6 => ?_) (fun h6 => ?_)
            · -- yes h6
              exact absurd h6 (by simp)
            · -- no h6
              refine Ok.skip ?_
              refine Ok.seq ?_
              refine Ok.region ?_
              refine OkO.load rfl rfl (loadAt_agg (n := 2) (by kernel_rfl) (by first | assumption | (simp (disch := first | omega | (simp only [Heap.next_new, Heap.next_put]; omega)) only [get_new_same, get_new_same1, get_new_same2, get_put_same, get_new_other, get_put_other] <;> first | rfl | assumption)) (by first | rfl | assumption)) ?_
              refine OkO.load rfl rfl (loadAt_agg (n := 2) (by kernel_rfl) (by first | assumption | (simp (disch := first | omega | (simp only [Heap.next_new, Heap.next_put]; omega)) only [get_new_same, get_new_same1, get_new_same2, get_put_same, get_new_other, get_put_other] <;> first | rfl | assumption)) (by first | rfl | assumption)) ?_
              have h24 := c24 (m + 6) cv bv cols least fr us H22 (hM.ext (hE _ g22)) (hU.ext (hE _ g22)) (by omega)
              rw [he] at h24
              refine OkO.callV rfl rfl rfl rfl rfl (h24) ?_ -- "sackung/sackunglaw01.fault"
              refine OkO.assign rfl rfl ?_
              refine OkO.nil ?_
              refine Ok.seq ?_
              refine Ok.seq ?_
              refine Ok.region ?_
              refine OkO.move rfl rfl ?_
              refine OkO.bin rfl rfl rfl (bin_eql _ _) ?_
              refine OkO.move rfl rfl ?_
              refine OkO.split (d := 58) rfl (fun g7 => ?_) (fun g7 => ?_)
              · -- true g7
                exact absurd g7 (by simp)
              · -- false g7
                refine OkO.skip rfl ?_
                refine OkO.skip rfl ?_
                refine OkO.skip rfl ?_
                refine OkO.skip rfl ?_
                refine OkO.skip rfl ?_
                refine OkO.pick (b := false) rfl rfl nofun (fun _ => rfl) ?_
                refine OkO.nil ?_
                refine Ok.condF rfl ?_
                refine Ok.skip ?_
                refine Ok.seq ?_
                refine Ok.region ?_
                refine OkO.assign rfl rfl ?_
                refine OkO.nil ?_
                refine Ok.seq ?_
                refine Ok.seq ?_
                refine Ok.region ?_
                refine OkO.move rfl rfl ?_
                refine OkO.bin rfl rfl rfl (bin_eql _ _) ?_
                refine OkO.nil ?_
                refine Ok.cond rfl (fun h8 => ?_) (fun h8 => ?_)
                · -- yes h8
                  exact absurd h8 (by simp)
                · -- no h8
                  refine Ok.skip ?_
                  refine Ok.seq ?_
                  refine Ok.region ?_
                  refine OkO.move rfl rfl ?_
                  refine OkO.move rfl rfl ?_
                  refine OkO.bin rfl rfl rfl (bin_eql _ _) ?_
                  refine OkO.move rfl rfl ?_
                  refine OkO.split (d := 76) rfl (fun g9 => ?_) (fun g9 => ?_)
                  · -- true g9
                    refine OkO.move rfl rfl ?_
                    refine OkO.move rfl rfl ?_
                    refine OkO.bin rfl rfl rfl (bin_eql _ _) ?_
                    refine OkO.pick (b := true) rfl rfl (fun _ => rfl) nofun ?_
                    refine OkO.move rfl rfl ?_
                    refine OkO.split (d := 81) rfl (fun g10 => ?_) (fun g10 => ?_)
                    · -- true g10
                      refine OkO.callV rfl rfl rfl rfl rfl (rfl) ?_ -- "sackung/sackunglaw01.wakes"
                      refine OkO.pick (b := true) rfl rfl (fun _ => rfl) nofun ?_
                      refine OkO.assign rfl rfl ?_
                      refine OkO.nil ?_
                      refine Ok.ret ⟨.inr rfl, ?_⟩
                      exact back_flat rfl rfl rfl (by rw [← hW]; exact (by (try dsimp only); repeat (first | exact g22 | apply Grow.new | (refine Grow.put ?_ _ (by first | omega | (simp only [Heap.next_new, Heap.next_put]; omega))))))
                    · -- false g10
                      exact absurd g10 (by simp)
                  · -- false g9
                    exact absurd g9 (by simp)
          · -- false g5
            exact absurd g5 (by simp)
theorem c3E (m : Nat) (cv bv tv : AV) (cols : List (List Bed)) (least fr : Int) (us : List Int) (R : List Rl) (H : Heap) (hM : Mat H cv cols) (hU : Ints H bv us) (hT : Row H tv 3 (R.map rl)) (hth : thinB cols = true) (hl20 : us.length ≤ 20) (hr20 : R.length ≤ 20) (hok : slOk cols least = true) (hs : surfB cols least fr us = false) : RR (m + 10) (.fn 3 [.agg [cv, I least], .agg [I fr, bv], tv]) H = some (.bool true, H) := by
  refine (R_fn _ _ _ _ _).trans ?_
  refine fn_ok Try.func3 rfl rfl (by kernel_rfl) (by kernel_rfl) ?_
  obtain ⟨W, hW⟩ : ∃ W : Heap, W = ⟨H.t, H.next, H.next⟩ := ⟨_, rfl⟩
  have hg : ∀ n, W.get n = H.get n := fun n => by rw [hW]; rfl
  have hN : W.next = H.next := by rw [hW]
  have hE : ∀ G, Grow W G → Ext H G := fun G g => ⟨by rw [← hN]; exact g.next, fun n k => by rw [g.get n (by rw [hN]; exact k), hg]⟩
  have hG : Grow W W := Grow.refl (by rw [hW]; exact Nat.le_refl _)
  rw [← hW]
  have pc : cv.plain = true := by obtain ⟨vs, hR, _, _⟩ := hM; exact len_plain hR.len
  have pb : bv.plain = true := len_plain hU.len
  have ps : AV.plain (.agg [cv, I least]) = true := by simp [AV.plain, AV.plains, pc]
  have pu : AV.plain (.agg [I fr, bv]) = true := by simp [AV.plain, AV.plains, pb]
  have hlenb := hU.len
  have hlent : lenOf tv = some R.length := by simpa using hT.len
  have he : surfErr cols least fr us = 2 := by simp [surfErr, hok, hs]
  have sr : facR cols least fr us R = (0, 2) := by unfold facR; rw [he]; rfl
  refine Ok.seq ?_
  refine Ok.region ?_
  refine OkO.box rfl rfl ?_
  refine OkO.box rfl rfl ?_
  refine OkO.assign rfl rfl ?_
  refine OkO.nil ?_
  refine Ok.seq ?_
  refine Ok.seq ?_
  refine Ok.region ?_
  refine OkO.load rfl rfl (loadAt_agg (n := 2) (by kernel_rfl) (by first | assumption | (simp (disch := first | omega | (simp only [Heap.next_new, Heap.next_put]; omega)) only [get_new_same, get_new_same1, get_new_same2, get_put_same, get_new_other, get_put_other] <;> first | rfl | assumption)) (by first | rfl | assumption)) ?_
  refine OkO.callV rfl rfl rfl rfl rfl (c16 (m + 8) cv cols least _ (hM.ext (hE _ (by (try dsimp only); repeat (first | exact hG | apply Grow.new | (refine Grow.put ?_ _ (by first | omega | (simp only [Heap.next_new, Heap.next_put]; omega)))))))) ?_ -- "sackung/sackunglaw01.Thin"
  refine OkO.un rfl rfl rfl ?_
  refine OkO.move rfl rfl ?_
  refine OkO.split (d := 15) rfl (fun g1 => ?_) (fun g1 => ?_)
  · -- true g1
    exact absurd g1 (by simp [hth])
  · -- false g1
    refine OkO.fieldAddr (o := 1) rfl (by kernel_rfl) rfl ?_
    refine OkO.load rfl rfl (loadAt_atom (n := 1) (by kernel_rfl) (by first | assumption | (simp (disch := first | omega | (simp only [Heap.next_new, Heap.next_put]; omega)) only [get_new_same, get_new_same1, get_new_same2, get_put_same, get_new_other, get_put_other] <;> first | rfl | assumption)) (by first | rfl | assumption)) ?_
    refine OkO.builtin rfl rfl rfl (builtin_len (by kernel_rfl) (by first | assumption | rfl)) ?_
    refine OkO.bin rfl rfl rfl (bin_gtr _ _) ?_
    refine OkO.pick (b := false) rfl rfl nofun (fun _ => rfl) ?_
    refine OkO.move rfl rfl ?_
    refine OkO.split (d := 21) rfl (fun g2 => ?_) (fun g2 => ?_)
    · -- true g2
      exact absurd g2 (by simp; omega)
    · -- false g2
      refine OkO.move rfl rfl ?_
      refine OkO.builtin rfl rfl rfl (builtin_len (by kernel_rfl) (by first | assumption | rfl)) ?_
      refine OkO.bin rfl rfl rfl (bin_gtr _ _) ?_
      refine OkO.pick (b := false) rfl rfl nofun (fun _ => rfl) ?_
      refine OkO.nil ?_
      refine Ok.cond rfl (fun h3 => ?_) (fun h3 => ?_)
      · -- yes h3
        exact absurd h3 (by simp; omega)
      · -- no h3
        refine Ok.skip ?_
        refine Ok.seq ?_
        refine Ok.region ?_
        refine OkO.load rfl rfl (loadAt_agg (n := 2) (by kernel_rfl) (by first | assumption | (simp (disch := first | omega | (simp only [Heap.next_new, Heap.next_put]; omega)) only [get_new_same, get_new_same1, get_new_same2, get_put_same, get_new_other, get_put_other] <;> first | rfl | assumption)) (by first | rfl | assumption)) ?_
        refine OkO.callE rfl rfl rfl rfl rfl (c19 (m + 7) cv cols least _ (hM.ext (hE _ (by (try dsimp only); repeat (first | exact hG | apply Grow.new | (refine Grow.put ?_ _ (by first | omega | (simp only [Heap.next_new, Heap.next_put]; omega))))))) hth) ?_ -- "sackung/sackunglaw01.Slope"
        rintro _ H19 ⟨cv2, rfl, q19, f19⟩
        have g19 : Grow W H19 := Grow.ret (by (try dsimp only); repeat (first | exact hG | apply Grow.new | (refine Grow.put ?_ _ (by first | omega | (simp only [Heap.next_new, Heap.next_put]; omega))))) q19
        have n19 : W.next + 2 ≤ H19.next := by have := q19.ext.next; simpa using this
        have a19 : (H19.get W.next).bind AObj.cs = some [cv, I least] := by rw [q19.ext.get _ (by simp only [Heap.next_new]; omega)]; simp (disch := first | omega | (simp only [Heap.next_new, Heap.next_put]; omega)) only [get_new_same, get_new_same1, get_new_same2, get_put_same, get_new_other, get_put_other] <;> rfl
        have b19 : (H19.get (W.next + 1)).bind AObj.cs = some [I fr, bv] := by rw [q19.ext.get _ (by simp only [Heap.next_new]; omega)]; simp (disch := first | omega | (simp only [Heap.next_new, Heap.next_put]; omega)) only [get_new_same, get_new_same1, get_new_same2, get_put_same, get_new_other, get_put_other] <;> rfl
        have m19 := f19.now (Nat.le_refl _)
        have h18 := c18 (m + 2) cv2 cols least H19 m19
        rw [hok] at h18
        refine OkO.callV rfl rfl rfl rfl rfl (h18) ?_ -- "sackung/slope.CheckSlope"
        refine OkO.assign rfl rfl ?_
        refine OkO.nil ?_
        refine Ok.seq ?_
        refine Ok.drawn [(0, true, []), (2, true, []), (4, true, []), (1, false, [2]), (3, false, [0]), (5, false, [2, 0]), (6, false, [2, 0]), (7, true, []), (8, true, []), (9, true, []), (10, true, []), (11, true, [])] (by kernel_rfl) ?_
        refine OkP.step ?_
        refine OkO.load rfl rfl (loadAt_agg (n := 2) (by kernel_rfl) (by first | assumption | (simp (disch := first | omega | (simp only [Heap.next_new, Heap.next_put]; omega)) only [get_new_same, get_new_same1, get_new_same2, get_put_same, get_new_other, get_put_other] <;> first | rfl | assumption)) (by first | rfl | assumption)) ?_
        refine OkO.nil ⟨rfl, ?_⟩
        refine OkP.step ?_
        refine OkO.load rfl rfl (loadAt_agg (n := 2) (by kernel_rfl) (by first | assumption | (simp (disch := first | omega | (simp only [Heap.next_new, Heap.next_put]; omega)) only [get_new_same, get_new_same1, get_new_same2, get_put_same, get_new_other, get_put_other] <;> first | rfl | assumption)) (by first | rfl | assumption)) ?_
        refine OkO.nil ⟨rfl, ?_⟩
        refine OkP.step ?_
        refine OkO.move rfl rfl ?_
        refine OkO.nil ⟨rfl, ?_⟩
        refine OkP.step ?_
        refine OkO.callE rfl rfl rfl rfl rfl (c19 (m + 7) cv cols least _ (hM.ext (hE _ g19)) hth) ?_ -- "sackung/sackunglaw01.Slope"
        rintro _ H2 ⟨cv3, rfl, q2, f2⟩
        have g2 : Grow W H2 := Grow.ret g19 q2
        have n2 : W.next + 2 ≤ H2.next := by have := q2.ext.next; omega
        have a2 : (H2.get W.next).bind AObj.cs = some [cv, I least] := by rw [q2.ext.get _ (by omega)]; exact a19
        have b2 : (H2.get (W.next + 1)).bind AObj.cs = some [I fr, bv] := by rw [q2.ext.get _ (by omega)]; exact b19
        have m2 := f2.now (Nat.le_refl _)
        refine OkO.nil ⟨(stills_cons (still_load rfl rfl (loadAt_agg (n := 2) (by kernel_rfl) (by first | assumption | (simp (disch := first | omega | (simp only [Heap.next_new, Heap.next_put]; omega)) only [get_new_same, get_new_same1, get_new_same2, get_put_same, get_new_other, get_put_other] <;> first | rfl | assumption)) (by first | rfl | assumption)) rfl (eqv_refl _ (by first | rfl | exact ps | exact pu | exact len_plain (by assumption)))) rfl), ?_⟩
        refine OkP.step ?_
        refine OkO.callE rfl rfl rfl rfl rfl (c21 (m + 7) bv fr us _ (hU.ext (hE _ g2)) (by omega)) ?_ -- "sackung/sackunglaw01.Surface"
        rintro _ H21 ⟨bv2, rfl, q21, f21⟩
        have g21 : Grow W H21 := Grow.ret g2 q21
        have n21 : W.next + 2 ≤ H21.next := by have := q21.ext.next; omega
        have a21 : (H21.get W.next).bind AObj.cs = some [cv, I least] := by rw [q21.ext.get _ (by omega)]; exact a2
        have b21 : (H21.get (W.next + 1)).bind AObj.cs = some [I fr, bv] := by rw [q21.ext.get _ (by omega)]; exact b2
        have m21 := m2.ext q21.ext
        have i21 := f21.now (Nat.le_refl _)
        refine OkO.nil ⟨(stills_cons (still_load rfl rfl (loadAt_agg (n := 2) (by kernel_rfl) (by first | assumption | (simp (disch := first | omega | (simp only [Heap.next_new, Heap.next_put]; omega)) only [get_new_same, get_new_same1, get_new_same2, get_put_same, get_new_other, get_put_other] <;> first | rfl | assumption)) (by first | rfl | assumption)) rfl (eqv_refl _ (by first | rfl | exact ps | exact pu | exact len_plain (by assumption)))) rfl), ?_⟩
        refine OkP.step ?_
        refine OkO.callE rfl rfl rfl rfl rfl (c22 (m + 8) tv R _ (hT.ext (hE _ g21)) (by omega)) ?_ -- "sackung/sackunglaw01.Truth"
        rintro tv2 H22 ⟨q22, f22⟩
        have g22 : Grow W H22 := Grow.ret g21 q22
        have n22 : W.next + 2 ≤ H22.next := by have := q22.ext.next; omega
        have a22 : (H22.get W.next).bind AObj.cs = some [cv, I least] := by rw [q22.ext.get _ (by omega)]; exact a21
        have b22 : (H22.get (W.next + 1)).bind AObj.cs = some [I fr, bv] := by rw [q22.ext.get _ (by omega)]; exact b21
        have m22 := m21.ext q22.ext
        have r22 := f22.now (Nat.le_refl _)
        refine OkO.nil ⟨(stills_cons (still_load rfl rfl (loadAt_agg (n := 2) (by kernel_rfl) (by first | assumption | (simp (disch := first | omega | (simp only [Heap.next_new, Heap.next_put]; omega)) only [get_new_same, get_new_same1, get_new_same2, get_put_same, get_new_other, get_put_other] <;> first | rfl | assumption)) (by first | rfl | assumption)) rfl (eqv_refl _ (by first | rfl | exact ps | exact pu | exact len_plain (by assumption)))) (stills_cons (still_load rfl rfl (loadAt_agg (n := 2) (by kernel_rfl) (by first | assumption | (simp (disch := first | omega | (simp only [Heap.next_new, Heap.next_put]; omega)) only [get_new_same, get_new_same1, get_new_same2, get_put_same, get_new_other, get_put_other] <;> first | rfl | assumption)) (by first | rfl | assumption)) rfl (eqv_refl _ (by first | rfl | exact ps | exact pu | exact len_plain (by assumption)))) rfl)), ?_⟩
        refine OkP.step ?_
        have hsp := c20 m cv3 bv2 tv2 cols least fr us R H22 m22 (i21.1.ext q22.ext) (i21.2.ext q22.ext) (by omega) r22
        rw [sr] at hsp
        refine OkO.callV rfl rfl rfl rfl rfl (hsp) ?_ -- "sackung/slope.Factor"
        refine OkO.nil ⟨(stills_cons (still_load rfl rfl (loadAt_agg (n := 2) (by kernel_rfl) (by first | assumption | (simp (disch := first | omega | (simp only [Heap.next_new, Heap.next_put]; omega)) only [get_new_same, get_new_same1, get_new_same2, get_put_same, get_new_other, get_put_other] <;> first | rfl | assumption)) (by first | rfl | assumption)) rfl (eqv_refl _ (by first | rfl | exact ps | exact pu | exact len_plain (by assumption)))) (stills_cons (still_load rfl rfl (loadAt_agg (n := 2) (by kernel_rfl) (by first | assumption | (simp (disch := first | omega | (simp only [Heap.next_new, Heap.next_put]; omega)) only [get_new_same, get_new_same1, get_new_same2, get_put_same, get_new_other, get_put_other] <;> first | rfl | assumption)) (by first | rfl | assumption)) rfl (eqv_refl _ (by first | rfl | exact ps | exact pu | exact len_plain (by assumption)))) rfl)), ?_⟩
        refine OkP.step ?_
        refine OkO.move rfl rfl ?_
        refine OkO.nil ⟨rfl, ?_⟩
        refine OkP.step ?_
        refine OkO.extract rfl rfl rfl ?_
        refine OkO.nil ⟨rfl, ?_⟩
        refine OkP.step ?_
        refine OkO.extract rfl rfl rfl ?_
        refine OkO.nil ⟨rfl, ?_⟩
        refine OkP.step ?_
        refine OkO.assign rfl rfl ?_
        refine OkO.nil ⟨rfl, ?_⟩
        refine OkP.step ?_
        refine OkO.assign rfl rfl ?_
        refine OkO.nil ⟨rfl, ?_⟩
        refine OkP.nil ?_
        refine Ok.seq ?_
        refine Ok.seq ?_
        refine Ok.region ?_
        refine OkO.move rfl rfl ?_
        refine OkO.bin rfl rfl rfl (bin_eql _ _) ?_
        refine OkO.load rfl rfl (loadAt_agg (n := 2) (by kernel_rfl) (by first | assumption | (simp (disch := first | omega | (simp only [Heap.next_new, Heap.next_put]; omega)) only [get_new_same, get_new_same1, get_new_same2, get_put_same, get_new_other, get_put_other] <;> first | rfl | assumption)) (by first | rfl | assumption)) ?_
        have h23 := c23 (m + 7) cv cols least H22 (hM.ext (hE _ g22))
        rw [hok] at h23
        refine OkO.callV rfl rfl rfl rfl rfl (h23) ?_ -- "sackung/sackungref01.Right"
        refine OkO.binT rfl rfl rfl (neq4 _ _) ?_
        refine OkO.move rfl rfl ?_
        refine OkO.split (d := 45) rfl (fun g4 => ?_) (fun g4 => ?_)
        · -- true g4
          exact absurd g4 (by simp)
        · -- false g4
          refine OkO.move rfl rfl ?_
          refine OkO.bin rfl rfl rfl (bin_neq _ _) ?_
          refine OkO.move rfl rfl ?_
          refine OkO.split (d := 48) rfl (fun g5 => ?_) (fun g5 => ?_)
          · -- true g5
            exact absurd g5 (by simp)
          · -- false g5
            refine OkO.skip rfl ?_
            refine OkO.skip rfl ?_
            refine OkO.pick (b := false) rfl rfl nofun (fun _ => rfl) ?_
            refine OkO.pick (b := false) rfl rfl nofun (fun _ => rfl) ?_
            refine OkO.nil ?_
            refine Ok.condF rfl ?_
            refine Ok.skip ?_
            refine Ok.seq ?_
            refine Ok.region ?_
            refine OkO.load rfl rfl (loadAt_agg (n := 2) (by kernel_rfl) (by first | assumption | (simp (disch := first | omega | (simp only [Heap.next_new, Heap.next_put]; omega)) only [get_new_same, get_new_same1, get_new_same2, get_put_same, get_new_other, get_put_other] <;> first | rfl | assumption)) (by first | rfl | assumption)) ?_
            refine OkO.load rfl rfl (loadAt_agg (n := 2) (by kernel_rfl) (by first | assumption | (simp (disch := first | omega | (simp only [Heap.next_new, Heap.next_put]; omega)) only [get_new_same, get_new_same1, get_new_same2, get_put_same, get_new_other, get_put_other] <;> first | rfl | assumption)) (by first | rfl | assumption)) ?_
            have h24 := c24 (m + 6) cv bv cols least fr us H22 (hM.ext (hE _ g22)) (hU.ext (hE _ g22)) (by omega)
            rw [he] at h24
            refine OkO.callV rfl rfl rfl rfl rfl (h24) ?_ -- "sackung/sackunglaw01.fault"
            refine OkO.assign rfl rfl ?_
            refine OkO.nil ?_
            refine Ok.seq ?_
            refine Ok.seq ?_
            refine Ok.region ?_
            refine OkO.move rfl rfl ?_
            refine OkO.bin rfl rfl rfl (bin_eql _ _) ?_
            refine OkO.move rfl rfl ?_
            refine OkO.split (d := 58) rfl (fun g6 => ?_) (fun g6 => ?_)
            · -- true g6
              exact absurd g6 (by simp)
            · -- false g6
              refine OkO.skip rfl ?_
              refine OkO.skip rfl ?_
              refine OkO.skip rfl ?_
              refine OkO.skip rfl ?_
              refine OkO.skip rfl ?_
              refine OkO.pick (b := false) rfl rfl nofun (fun _ => rfl) ?_
              refine OkO.nil ?_
              refine Ok.condF rfl ?_
              refine Ok.skip ?_
              refine Ok.seq ?_
              refine Ok.region ?_
              refine OkO.assign rfl rfl ?_
              refine OkO.nil ?_
              refine Ok.seq ?_
              refine Ok.seq ?_
              refine Ok.region ?_
              refine OkO.move rfl rfl ?_
              refine OkO.bin rfl rfl rfl (bin_eql _ _) ?_
              refine OkO.nil ?_
              refine Ok.cond rfl (fun h7 => ?_) (fun h7 => ?_)
              · -- yes h7
                exact absurd h7 (by simp)
              · -- no h7
                refine Ok.skip ?_
                refine Ok.seq ?_
                refine Ok.region ?_
                refine OkO.move rfl rfl ?_
                refine OkO.move rfl rfl ?_
                refine OkO.bin rfl rfl rfl (bin_eql _ _) ?_
                refine OkO.move rfl rfl ?_
                refine OkO.split (d := 76) rfl (fun g8 => ?_) (fun g8 => ?_)
                · -- true g8
                  refine OkO.move rfl rfl ?_
                  refine OkO.move rfl rfl ?_
                  refine OkO.bin rfl rfl rfl (bin_eql _ _) ?_
                  refine OkO.pick (b := true) rfl rfl (fun _ => rfl) nofun ?_
                  refine OkO.move rfl rfl ?_
                  refine OkO.split (d := 81) rfl (fun g9 => ?_) (fun g9 => ?_)
                  · -- true g9
                    refine OkO.callV rfl rfl rfl rfl rfl (rfl) ?_ -- "sackung/sackunglaw01.wakes"
                    refine OkO.pick (b := true) rfl rfl (fun _ => rfl) nofun ?_
                    refine OkO.assign rfl rfl ?_
                    refine OkO.nil ?_
                    refine Ok.ret ⟨.inr rfl, ?_⟩
                    exact back_flat rfl rfl rfl (by rw [← hW]; exact (by (try dsimp only); repeat (first | exact g22 | apply Grow.new | (refine Grow.put ?_ _ (by first | omega | (simp only [Heap.next_new, Heap.next_put]; omega))))))
                  · -- false g9
                    exact absurd g9 (by simp)
                · -- false g8
                  exact absurd g8 (by simp)
theorem c3F (m : Nat) (cv bv tv : AV) (cols : List (List Bed)) (least fr : Int) (us : List Int) (R : List Rl) (H : Heap) (hM : Mat H cv cols) (hU : Ints H bv us) (hT : Row H tv 3 (R.map rl)) (hth : thinB cols = true) (hl20 : us.length ≤ 20) (hr20 : R.length ≤ 20) (hok : slOk cols least = true) (hsf : surfB cols least fr us = true) (hft : fitsB (bedsOf cols fr us) R = false) : RR (m + 10) (.fn 3 [.agg [cv, I least], .agg [I fr, bv], tv]) H = some (.bool true, H) := by
  refine (R_fn _ _ _ _ _).trans ?_
  refine fn_ok Try.func3 rfl rfl (by kernel_rfl) (by kernel_rfl) ?_
  obtain ⟨W, hW⟩ : ∃ W : Heap, W = ⟨H.t, H.next, H.next⟩ := ⟨_, rfl⟩
  have hg : ∀ n, W.get n = H.get n := fun n => by rw [hW]; rfl
  have hN : W.next = H.next := by rw [hW]
  have hE : ∀ G, Grow W G → Ext H G := fun G g => ⟨by rw [← hN]; exact g.next, fun n k => by rw [g.get n (by rw [hN]; exact k), hg]⟩
  have hG : Grow W W := Grow.refl (by rw [hW]; exact Nat.le_refl _)
  rw [← hW]
  have pc : cv.plain = true := by obtain ⟨vs, hR, _, _⟩ := hM; exact len_plain hR.len
  have pb : bv.plain = true := len_plain hU.len
  have ps : AV.plain (.agg [cv, I least]) = true := by simp [AV.plain, AV.plains, pc]
  have pu : AV.plain (.agg [I fr, bv]) = true := by simp [AV.plain, AV.plains, pb]
  have hlenb := hU.len
  have hlent : lenOf tv = some R.length := by simpa using hT.len
  have he : surfErr cols least fr us = 0 := by simp [surfErr, hok, hsf]
  obtain ⟨f0, us2, hf0, hus, hp, hLok, hf12, hu12, hu1⟩ := surf_facts hok hsf
  have hU2 : Row H bv 1 (us2.map fun (n : Nat) => [I (n : Int)]) := by have h9 := hU; unfold Ints at h9; rw [hus, List.map_map] at h9; exact h9
  have sr : facR cols least fr us R = (0, 9) := by unfold facR; rw [if_pos he, hft]; rfl
  refine Ok.seq ?_
  refine Ok.region ?_
  refine OkO.box rfl rfl ?_
  refine OkO.box rfl rfl ?_
  refine OkO.assign rfl rfl ?_
  refine OkO.nil ?_
  refine Ok.seq ?_
  refine Ok.seq ?_
  refine Ok.region ?_
  refine OkO.load rfl rfl (loadAt_agg (n := 2) (by kernel_rfl) (by first | assumption | (simp (disch := first | omega | (simp only [Heap.next_new, Heap.next_put]; omega)) only [get_new_same, get_new_same1, get_new_same2, get_put_same, get_new_other, get_put_other] <;> first | rfl | assumption)) (by first | rfl | assumption)) ?_
  refine OkO.callV rfl rfl rfl rfl rfl (c16 (m + 8) cv cols least _ (hM.ext (hE _ (by (try dsimp only); repeat (first | exact hG | apply Grow.new | (refine Grow.put ?_ _ (by first | omega | (simp only [Heap.next_new, Heap.next_put]; omega)))))))) ?_ -- "sackung/sackunglaw01.Thin"
  refine OkO.un rfl rfl rfl ?_
  refine OkO.move rfl rfl ?_
  refine OkO.split (d := 15) rfl (fun g1 => ?_) (fun g1 => ?_)
  · -- true g1
    exact absurd g1 (by simp [hth])
  · -- false g1
    refine OkO.fieldAddr (o := 1) rfl (by kernel_rfl) rfl ?_
    refine OkO.load rfl rfl (loadAt_atom (n := 1) (by kernel_rfl) (by first | assumption | (simp (disch := first | omega | (simp only [Heap.next_new, Heap.next_put]; omega)) only [get_new_same, get_new_same1, get_new_same2, get_put_same, get_new_other, get_put_other] <;> first | rfl | assumption)) (by first | rfl | assumption)) ?_
    refine OkO.builtin rfl rfl rfl (builtin_len (by kernel_rfl) (by first | assumption | rfl)) ?_
    refine OkO.bin rfl rfl rfl (bin_gtr _ _) ?_
    refine OkO.pick (b := false) rfl rfl nofun (fun _ => rfl) ?_
    refine OkO.move rfl rfl ?_
    refine OkO.split (d := 21) rfl (fun g2 => ?_) (fun g2 => ?_)
    · -- true g2
      exact absurd g2 (by simp; omega)
    · -- false g2
      refine OkO.move rfl rfl ?_
      refine OkO.builtin rfl rfl rfl (builtin_len (by kernel_rfl) (by first | assumption | rfl)) ?_
      refine OkO.bin rfl rfl rfl (bin_gtr _ _) ?_
      refine OkO.pick (b := false) rfl rfl nofun (fun _ => rfl) ?_
      refine OkO.nil ?_
      refine Ok.cond rfl (fun h3 => ?_) (fun h3 => ?_)
      · -- yes h3
        exact absurd h3 (by simp; omega)
      · -- no h3
        refine Ok.skip ?_
        refine Ok.seq ?_
        refine Ok.region ?_
        refine OkO.load rfl rfl (loadAt_agg (n := 2) (by kernel_rfl) (by first | assumption | (simp (disch := first | omega | (simp only [Heap.next_new, Heap.next_put]; omega)) only [get_new_same, get_new_same1, get_new_same2, get_put_same, get_new_other, get_put_other] <;> first | rfl | assumption)) (by first | rfl | assumption)) ?_
        refine OkO.callE rfl rfl rfl rfl rfl (c19 (m + 7) cv cols least _ (hM.ext (hE _ (by (try dsimp only); repeat (first | exact hG | apply Grow.new | (refine Grow.put ?_ _ (by first | omega | (simp only [Heap.next_new, Heap.next_put]; omega))))))) hth) ?_ -- "sackung/sackunglaw01.Slope"
        rintro _ H19 ⟨cv2, rfl, q19, f19⟩
        have g19 : Grow W H19 := Grow.ret (by (try dsimp only); repeat (first | exact hG | apply Grow.new | (refine Grow.put ?_ _ (by first | omega | (simp only [Heap.next_new, Heap.next_put]; omega))))) q19
        have n19 : W.next + 2 ≤ H19.next := by have := q19.ext.next; simpa using this
        have a19 : (H19.get W.next).bind AObj.cs = some [cv, I least] := by rw [q19.ext.get _ (by simp only [Heap.next_new]; omega)]; simp (disch := first | omega | (simp only [Heap.next_new, Heap.next_put]; omega)) only [get_new_same, get_new_same1, get_new_same2, get_put_same, get_new_other, get_put_other] <;> rfl
        have b19 : (H19.get (W.next + 1)).bind AObj.cs = some [I fr, bv] := by rw [q19.ext.get _ (by simp only [Heap.next_new]; omega)]; simp (disch := first | omega | (simp only [Heap.next_new, Heap.next_put]; omega)) only [get_new_same, get_new_same1, get_new_same2, get_put_same, get_new_other, get_put_other] <;> rfl
        have m19 := f19.now (Nat.le_refl _)
        have h18 := c18 (m + 2) cv2 cols least H19 m19
        rw [hok] at h18
        refine OkO.callV rfl rfl rfl rfl rfl (h18) ?_ -- "sackung/slope.CheckSlope"
        refine OkO.assign rfl rfl ?_
        refine OkO.nil ?_
        refine Ok.seq ?_
        refine Ok.drawn [(0, true, []), (2, true, []), (4, true, []), (1, false, [2]), (3, false, [0]), (5, false, [2, 0]), (6, false, [2, 0]), (7, true, []), (8, true, []), (9, true, []), (10, true, []), (11, true, [])] (by kernel_rfl) ?_
        refine OkP.step ?_
        refine OkO.load rfl rfl (loadAt_agg (n := 2) (by kernel_rfl) (by first | assumption | (simp (disch := first | omega | (simp only [Heap.next_new, Heap.next_put]; omega)) only [get_new_same, get_new_same1, get_new_same2, get_put_same, get_new_other, get_put_other] <;> first | rfl | assumption)) (by first | rfl | assumption)) ?_
        refine OkO.nil ⟨rfl, ?_⟩
        refine OkP.step ?_
        refine OkO.load rfl rfl (loadAt_agg (n := 2) (by kernel_rfl) (by first | assumption | (simp (disch := first | omega | (simp only [Heap.next_new, Heap.next_put]; omega)) only [get_new_same, get_new_same1, get_new_same2, get_put_same, get_new_other, get_put_other] <;> first | rfl | assumption)) (by first | rfl | assumption)) ?_
        refine OkO.nil ⟨rfl, ?_⟩
        refine OkP.step ?_
        refine OkO.move rfl rfl ?_
        refine OkO.nil ⟨rfl, ?_⟩
        refine OkP.step ?_
        refine OkO.callE rfl rfl rfl rfl rfl (c19 (m + 7) cv cols least _ (hM.ext (hE _ g19)) hth) ?_ -- "sackung/sackunglaw01.Slope"
        rintro _ H2 ⟨cv3, rfl, q2, f2⟩
        have g2 : Grow W H2 := Grow.ret g19 q2
        have n2 : W.next + 2 ≤ H2.next := by have := q2.ext.next; omega
        have a2 : (H2.get W.next).bind AObj.cs = some [cv, I least] := by rw [q2.ext.get _ (by omega)]; exact a19
        have b2 : (H2.get (W.next + 1)).bind AObj.cs = some [I fr, bv] := by rw [q2.ext.get _ (by omega)]; exact b19
        have m2 := f2.now (Nat.le_refl _)
        refine OkO.nil ⟨(stills_cons (still_load rfl rfl (loadAt_agg (n := 2) (by kernel_rfl) (by first | assumption | (simp (disch := first | omega | (simp only [Heap.next_new, Heap.next_put]; omega)) only [get_new_same, get_new_same1, get_new_same2, get_put_same, get_new_other, get_put_other] <;> first | rfl | assumption)) (by first | rfl | assumption)) rfl (eqv_refl _ (by first | rfl | exact ps | exact pu | exact len_plain (by assumption)))) rfl), ?_⟩
        refine OkP.step ?_
        refine OkO.callE rfl rfl rfl rfl rfl (c21 (m + 7) bv fr us _ (hU.ext (hE _ g2)) (by omega)) ?_ -- "sackung/sackunglaw01.Surface"
        rintro _ H21 ⟨bv2, rfl, q21, f21⟩
        have g21 : Grow W H21 := Grow.ret g2 q21
        have n21 : W.next + 2 ≤ H21.next := by have := q21.ext.next; omega
        have a21 : (H21.get W.next).bind AObj.cs = some [cv, I least] := by rw [q21.ext.get _ (by omega)]; exact a2
        have b21 : (H21.get (W.next + 1)).bind AObj.cs = some [I fr, bv] := by rw [q21.ext.get _ (by omega)]; exact b2
        have m21 := m2.ext q21.ext
        have i21 := f21.now (Nat.le_refl _)
        refine OkO.nil ⟨(stills_cons (still_load rfl rfl (loadAt_agg (n := 2) (by kernel_rfl) (by first | assumption | (simp (disch := first | omega | (simp only [Heap.next_new, Heap.next_put]; omega)) only [get_new_same, get_new_same1, get_new_same2, get_put_same, get_new_other, get_put_other] <;> first | rfl | assumption)) (by first | rfl | assumption)) rfl (eqv_refl _ (by first | rfl | exact ps | exact pu | exact len_plain (by assumption)))) rfl), ?_⟩
        refine OkP.step ?_
        refine OkO.callE rfl rfl rfl rfl rfl (c22 (m + 8) tv R _ (hT.ext (hE _ g21)) (by omega)) ?_ -- "sackung/sackunglaw01.Truth"
        rintro tv2 H22 ⟨q22, f22⟩
        have g22 : Grow W H22 := Grow.ret g21 q22
        have n22 : W.next + 2 ≤ H22.next := by have := q22.ext.next; omega
        have a22 : (H22.get W.next).bind AObj.cs = some [cv, I least] := by rw [q22.ext.get _ (by omega)]; exact a21
        have b22 : (H22.get (W.next + 1)).bind AObj.cs = some [I fr, bv] := by rw [q22.ext.get _ (by omega)]; exact b21
        have m22 := m21.ext q22.ext
        have r22 := f22.now (Nat.le_refl _)
        refine OkO.nil ⟨(stills_cons (still_load rfl rfl (loadAt_agg (n := 2) (by kernel_rfl) (by first | assumption | (simp (disch := first | omega | (simp only [Heap.next_new, Heap.next_put]; omega)) only [get_new_same, get_new_same1, get_new_same2, get_put_same, get_new_other, get_put_other] <;> first | rfl | assumption)) (by first | rfl | assumption)) rfl (eqv_refl _ (by first | rfl | exact ps | exact pu | exact len_plain (by assumption)))) (stills_cons (still_load rfl rfl (loadAt_agg (n := 2) (by kernel_rfl) (by first | assumption | (simp (disch := first | omega | (simp only [Heap.next_new, Heap.next_put]; omega)) only [get_new_same, get_new_same1, get_new_same2, get_put_same, get_new_other, get_put_other] <;> first | rfl | assumption)) (by first | rfl | assumption)) rfl (eqv_refl _ (by first | rfl | exact ps | exact pu | exact len_plain (by assumption)))) rfl)), ?_⟩
        refine OkP.step ?_
        have hsp := c20 m cv3 bv2 tv2 cols least fr us R H22 m22 (i21.1.ext q22.ext) (i21.2.ext q22.ext) (by omega) r22
        rw [sr] at hsp
        refine OkO.callV rfl rfl rfl rfl rfl (hsp) ?_ -- "sackung/slope.Factor"
        refine OkO.nil ⟨(stills_cons (still_load rfl rfl (loadAt_agg (n := 2) (by kernel_rfl) (by first | assumption | (simp (disch := first | omega | (simp only [Heap.next_new, Heap.next_put]; omega)) only [get_new_same, get_new_same1, get_new_same2, get_put_same, get_new_other, get_put_other] <;> first | rfl | assumption)) (by first | rfl | assumption)) rfl (eqv_refl _ (by first | rfl | exact ps | exact pu | exact len_plain (by assumption)))) (stills_cons (still_load rfl rfl (loadAt_agg (n := 2) (by kernel_rfl) (by first | assumption | (simp (disch := first | omega | (simp only [Heap.next_new, Heap.next_put]; omega)) only [get_new_same, get_new_same1, get_new_same2, get_put_same, get_new_other, get_put_other] <;> first | rfl | assumption)) (by first | rfl | assumption)) rfl (eqv_refl _ (by first | rfl | exact ps | exact pu | exact len_plain (by assumption)))) rfl)), ?_⟩
        refine OkP.step ?_
        refine OkO.move rfl rfl ?_
        refine OkO.nil ⟨rfl, ?_⟩
        refine OkP.step ?_
        refine OkO.extract rfl rfl rfl ?_
        refine OkO.nil ⟨rfl, ?_⟩
        refine OkP.step ?_
        refine OkO.extract rfl rfl rfl ?_
        refine OkO.nil ⟨rfl, ?_⟩
        refine OkP.step ?_
        refine OkO.assign rfl rfl ?_
        refine OkO.nil ⟨rfl, ?_⟩
        refine OkP.step ?_
        refine OkO.assign rfl rfl ?_
        refine OkO.nil ⟨rfl, ?_⟩
        refine OkP.nil ?_
        refine Ok.seq ?_
        refine Ok.seq ?_
        refine Ok.region ?_
        refine OkO.move rfl rfl ?_
        refine OkO.bin rfl rfl rfl (bin_eql _ _) ?_
        refine OkO.load rfl rfl (loadAt_agg (n := 2) (by kernel_rfl) (by first | assumption | (simp (disch := first | omega | (simp only [Heap.next_new, Heap.next_put]; omega)) only [get_new_same, get_new_same1, get_new_same2, get_put_same, get_new_other, get_put_other] <;> first | rfl | assumption)) (by first | rfl | assumption)) ?_
        have h23 := c23 (m + 7) cv cols least H22 (hM.ext (hE _ g22))
        rw [hok] at h23
        refine OkO.callV rfl rfl rfl rfl rfl (h23) ?_ -- "sackung/sackungref01.Right"
        refine OkO.binT rfl rfl rfl (neq4 _ _) ?_
        refine OkO.move rfl rfl ?_
        refine OkO.split (d := 45) rfl (fun g4 => ?_) (fun g4 => ?_)
        · -- true g4
          exact absurd g4 (by simp)
        · -- false g4
          refine OkO.move rfl rfl ?_
          refine OkO.bin rfl rfl rfl (bin_neq _ _) ?_
          refine OkO.move rfl rfl ?_
          refine OkO.split (d := 48) rfl (fun g5 => ?_) (fun g5 => ?_)
          · -- true g5
            exact absurd g5 (by simp)
          · -- false g5
            refine OkO.skip rfl ?_
            refine OkO.skip rfl ?_
            refine OkO.pick (b := false) rfl rfl nofun (fun _ => rfl) ?_
            refine OkO.pick (b := false) rfl rfl nofun (fun _ => rfl) ?_
            refine OkO.nil ?_
            refine Ok.condF rfl ?_
            refine Ok.skip ?_
            refine Ok.seq ?_
            refine Ok.region ?_
            refine OkO.load rfl rfl (loadAt_agg (n := 2) (by kernel_rfl) (by first | assumption | (simp (disch := first | omega | (simp only [Heap.next_new, Heap.next_put]; omega)) only [get_new_same, get_new_same1, get_new_same2, get_put_same, get_new_other, get_put_other] <;> first | rfl | assumption)) (by first | rfl | assumption)) ?_
            refine OkO.load rfl rfl (loadAt_agg (n := 2) (by kernel_rfl) (by first | assumption | (simp (disch := first | omega | (simp only [Heap.next_new, Heap.next_put]; omega)) only [get_new_same, get_new_same1, get_new_same2, get_put_same, get_new_other, get_put_other] <;> first | rfl | assumption)) (by first | rfl | assumption)) ?_
            have h24 := c24 (m + 6) cv bv cols least fr us H22 (hM.ext (hE _ g22)) (hU.ext (hE _ g22)) (by omega)
            rw [he] at h24
            refine OkO.callV rfl rfl rfl rfl rfl (h24) ?_ -- "sackung/sackunglaw01.fault"
            refine OkO.assign rfl rfl ?_
            refine OkO.nil ?_
            refine Ok.seq ?_
            refine Ok.seq ?_
            refine Ok.region ?_
            refine OkO.move rfl rfl ?_
            refine OkO.bin rfl rfl rfl (bin_eql _ _) ?_
            refine OkO.move rfl rfl ?_
            refine OkO.split (d := 58) rfl (fun g6 => ?_) (fun g6 => ?_)
            · -- true g6
              refine OkO.load rfl rfl (loadAt_agg (n := 2) (by kernel_rfl) (by first | assumption | (simp (disch := first | omega | (simp only [Heap.next_new, Heap.next_put]; omega)) only [get_new_same, get_new_same1, get_new_same2, get_put_same, get_new_other, get_put_other] <;> first | rfl | assumption)) (by first | rfl | assumption)) ?_
              refine OkO.load rfl rfl (loadAt_agg (n := 2) (by kernel_rfl) (by first | assumption | (simp (disch := first | omega | (simp only [Heap.next_new, Heap.next_put]; omega)) only [get_new_same, get_new_same1, get_new_same2, get_put_same, get_new_other, get_put_other] <;> first | rfl | assumption)) (by first | rfl | assumption)) ?_
              refine OkO.move rfl rfl ?_
              have h25 := c25 (m + 7) cv bv tv cols least f0 us2 _ R H22 (hM.ext (hE _ g22)) (hU2.ext (hE _ g22)) hp (by omega) (by omega) (hT.ext (hE _ g22)) (by omega)
              rw [hft, ← hf0] at h25
              refine OkO.callV rfl rfl rfl rfl rfl (h25) ?_ -- "sackung/sackungref01.Fits"
              refine OkO.un rfl rfl rfl ?_
              refine OkO.pick (b := true) rfl rfl (fun _ => rfl) nofun ?_
              refine OkO.nil ?_
              refine Ok.cond rfl (fun h7 => ?_) (fun h7 => ?_)
              · -- yes h7
                refine Ok.region ?_
                refine OkO.assign rfl rfl ?_
                refine OkO.nil ?_
                refine Ok.seq ?_
                refine Ok.region ?_
                refine OkO.assign rfl rfl ?_
                refine OkO.nil ?_
                refine Ok.seq ?_
                refine Ok.seq ?_
                refine Ok.region ?_
                refine OkO.move rfl rfl ?_
                refine OkO.bin rfl rfl rfl (bin_eql _ _) ?_
                refine OkO.nil ?_
                refine Ok.cond rfl (fun h8 => ?_) (fun h8 => ?_)
                · -- yes h8
                  exact absurd h8 (by simp)
                · -- no h8
                  refine Ok.skip ?_
                  refine Ok.seq ?_
                  refine Ok.region ?_
                  refine OkO.move rfl rfl ?_
                  refine OkO.move rfl rfl ?_
                  refine OkO.bin rfl rfl rfl (bin_eql _ _) ?_
                  refine OkO.move rfl rfl ?_
                  refine OkO.split (d := 76) rfl (fun g9 => ?_) (fun g9 => ?_)
                  · -- true g9
                    refine OkO.move rfl rfl ?_
                    refine OkO.move rfl rfl ?_
                    refine OkO.bin rfl rfl rfl (bin_eql _ _) ?_
                    refine OkO.pick (b := true) rfl rfl (fun _ => rfl) nofun ?_
                    refine OkO.move rfl rfl ?_
                    refine OkO.split (d := 81) rfl (fun g10 => ?_) (fun g10 => ?_)
                    · -- true g10
                      refine OkO.callV rfl rfl rfl rfl rfl (rfl) ?_ -- "sackung/sackunglaw01.wakes"
                      refine OkO.pick (b := true) rfl rfl (fun _ => rfl) nofun ?_
                      refine OkO.assign rfl rfl ?_
                      refine OkO.nil ?_
                      refine Ok.ret ⟨.inr rfl, ?_⟩
                      exact back_flat rfl rfl rfl (by rw [← hW]; exact (by (try dsimp only); repeat (first | exact g22 | apply Grow.new | (refine Grow.put ?_ _ (by first | omega | (simp only [Heap.next_new, Heap.next_put]; omega))))))
                    · -- false g10
                      exact absurd g10 (by simp)
                  · -- false g9
                    exact absurd g9 (by simp)
              · -- no h7
                exact absurd h7 (by simp)
            · -- false g6
              exact absurd g6 (by simp)
theorem c3N (m : Nat) (cv bv tv : AV) (cols : List (List Bed)) (least fr : Int) (us : List Int) (R : List Rl) (H : Heap) (hM : Mat H cv cols) (hU : Ints H bv us) (hT : Row H tv 3 (R.map rl)) (hth : thinB cols = true) (hl20 : us.length ≤ 20) (hr20 : R.length ≤ 20) (hok : slOk cols least = true) (hsf : surfB cols least fr us = true) (hft : fitsB (bedsOf cols fr us) R = true) (hd : drive (bedsOf cols fr us) < 1) : RR (m + 10) (.fn 3 [.agg [cv, I least], .agg [I fr, bv], tv]) H = some (.bool true, H) := by
  refine (R_fn _ _ _ _ _).trans ?_
  refine fn_ok Try.func3 rfl rfl (by kernel_rfl) (by kernel_rfl) ?_
  obtain ⟨W, hW⟩ : ∃ W : Heap, W = ⟨H.t, H.next, H.next⟩ := ⟨_, rfl⟩
  have hg : ∀ n, W.get n = H.get n := fun n => by rw [hW]; rfl
  have hN : W.next = H.next := by rw [hW]
  have hE : ∀ G, Grow W G → Ext H G := fun G g => ⟨by rw [← hN]; exact g.next, fun n k => by rw [g.get n (by rw [hN]; exact k), hg]⟩
  have hG : Grow W W := Grow.refl (by rw [hW]; exact Nat.le_refl _)
  rw [← hW]
  have pc : cv.plain = true := by obtain ⟨vs, hR, _, _⟩ := hM; exact len_plain hR.len
  have pb : bv.plain = true := len_plain hU.len
  have ps : AV.plain (.agg [cv, I least]) = true := by simp [AV.plain, AV.plains, pc]
  have pu : AV.plain (.agg [I fr, bv]) = true := by simp [AV.plain, AV.plains, pb]
  have hlenb := hU.len
  have hlent : lenOf tv = some R.length := by simpa using hT.len
  have he : surfErr cols least fr us = 0 := by simp [surfErr, hok, hsf]
  obtain ⟨f0, us2, hf0, hus, hp, hLok, hf12, hu12, hu1⟩ := surf_facts hok hsf
  have hU2 : Row H bv 1 (us2.map fun (n : Nat) => [I (n : Int)]) := by have h9 := hU; unfold Ints at h9; rw [hus, List.map_map] at h9; exact h9
  obtain ⟨hRLl, hRl⟩ := fits_facts hft hLok
  have sr : facR cols least fr us R = (0, 7) := by unfold facR; rw [if_pos he, if_pos hft, if_pos hd]
  have hrf : refFactor (bedsOf cols fr us) R = -1 := by unfold refFactor; rw [if_pos hd]
  refine Ok.seq ?_
  refine Ok.region ?_
  refine OkO.box rfl rfl ?_
  refine OkO.box rfl rfl ?_
  refine OkO.assign rfl rfl ?_
  refine OkO.nil ?_
  refine Ok.seq ?_
  refine Ok.seq ?_
  refine Ok.region ?_
  refine OkO.load rfl rfl (loadAt_agg (n := 2) (by kernel_rfl) (by first | assumption | (simp (disch := first | omega | (simp only [Heap.next_new, Heap.next_put]; omega)) only [get_new_same, get_new_same1, get_new_same2, get_put_same, get_new_other, get_put_other] <;> first | rfl | assumption)) (by first | rfl | assumption)) ?_
  refine OkO.callV rfl rfl rfl rfl rfl (c16 (m + 8) cv cols least _ (hM.ext (hE _ (by (try dsimp only); repeat (first | exact hG | apply Grow.new | (refine Grow.put ?_ _ (by first | omega | (simp only [Heap.next_new, Heap.next_put]; omega)))))))) ?_ -- "sackung/sackunglaw01.Thin"
  refine OkO.un rfl rfl rfl ?_
  refine OkO.move rfl rfl ?_
  refine OkO.split (d := 15) rfl (fun g1 => ?_) (fun g1 => ?_)
  · -- true g1
    exact absurd g1 (by simp [hth])
  · -- false g1
    refine OkO.fieldAddr (o := 1) rfl (by kernel_rfl) rfl ?_
    refine OkO.load rfl rfl (loadAt_atom (n := 1) (by kernel_rfl) (by first | assumption | (simp (disch := first | omega | (simp only [Heap.next_new, Heap.next_put]; omega)) only [get_new_same, get_new_same1, get_new_same2, get_put_same, get_new_other, get_put_other] <;> first | rfl | assumption)) (by first | rfl | assumption)) ?_
    refine OkO.builtin rfl rfl rfl (builtin_len (by kernel_rfl) (by first | assumption | rfl)) ?_
    refine OkO.bin rfl rfl rfl (bin_gtr _ _) ?_
    refine OkO.pick (b := false) rfl rfl nofun (fun _ => rfl) ?_
    refine OkO.move rfl rfl ?_
    refine OkO.split (d := 21) rfl (fun g2 => ?_) (fun g2 => ?_)
    · -- true g2
      exact absurd g2 (by simp; omega)
    · -- false g2
      refine OkO.move rfl rfl ?_
      refine OkO.builtin rfl rfl rfl (builtin_len (by kernel_rfl) (by first | assumption | rfl)) ?_
      refine OkO.bin rfl rfl rfl (bin_gtr _ _) ?_
      refine OkO.pick (b := false) rfl rfl nofun (fun _ => rfl) ?_
      refine OkO.nil ?_
      refine Ok.cond rfl (fun h3 => ?_) (fun h3 => ?_)
      · -- yes h3
        exact absurd h3 (by simp; omega)
      · -- no h3
        refine Ok.skip ?_
        refine Ok.seq ?_
        refine Ok.region ?_
        refine OkO.load rfl rfl (loadAt_agg (n := 2) (by kernel_rfl) (by first | assumption | (simp (disch := first | omega | (simp only [Heap.next_new, Heap.next_put]; omega)) only [get_new_same, get_new_same1, get_new_same2, get_put_same, get_new_other, get_put_other] <;> first | rfl | assumption)) (by first | rfl | assumption)) ?_
        refine OkO.callE rfl rfl rfl rfl rfl (c19 (m + 7) cv cols least _ (hM.ext (hE _ (by (try dsimp only); repeat (first | exact hG | apply Grow.new | (refine Grow.put ?_ _ (by first | omega | (simp only [Heap.next_new, Heap.next_put]; omega))))))) hth) ?_ -- "sackung/sackunglaw01.Slope"
        rintro _ H19 ⟨cv2, rfl, q19, f19⟩
        have g19 : Grow W H19 := Grow.ret (by (try dsimp only); repeat (first | exact hG | apply Grow.new | (refine Grow.put ?_ _ (by first | omega | (simp only [Heap.next_new, Heap.next_put]; omega))))) q19
        have n19 : W.next + 2 ≤ H19.next := by have := q19.ext.next; simpa using this
        have a19 : (H19.get W.next).bind AObj.cs = some [cv, I least] := by rw [q19.ext.get _ (by simp only [Heap.next_new]; omega)]; simp (disch := first | omega | (simp only [Heap.next_new, Heap.next_put]; omega)) only [get_new_same, get_new_same1, get_new_same2, get_put_same, get_new_other, get_put_other] <;> rfl
        have b19 : (H19.get (W.next + 1)).bind AObj.cs = some [I fr, bv] := by rw [q19.ext.get _ (by simp only [Heap.next_new]; omega)]; simp (disch := first | omega | (simp only [Heap.next_new, Heap.next_put]; omega)) only [get_new_same, get_new_same1, get_new_same2, get_put_same, get_new_other, get_put_other] <;> rfl
        have m19 := f19.now (Nat.le_refl _)
        have h18 := c18 (m + 2) cv2 cols least H19 m19
        rw [hok] at h18
        refine OkO.callV rfl rfl rfl rfl rfl (h18) ?_ -- "sackung/slope.CheckSlope"
        refine OkO.assign rfl rfl ?_
        refine OkO.nil ?_
        refine Ok.seq ?_
        refine Ok.drawn [(0, true, []), (2, true, []), (4, true, []), (1, false, [2]), (3, false, [0]), (5, false, [2, 0]), (6, false, [2, 0]), (7, true, []), (8, true, []), (9, true, []), (10, true, []), (11, true, [])] (by kernel_rfl) ?_
        refine OkP.step ?_
        refine OkO.load rfl rfl (loadAt_agg (n := 2) (by kernel_rfl) (by first | assumption | (simp (disch := first | omega | (simp only [Heap.next_new, Heap.next_put]; omega)) only [get_new_same, get_new_same1, get_new_same2, get_put_same, get_new_other, get_put_other] <;> first | rfl | assumption)) (by first | rfl | assumption)) ?_
        refine OkO.nil ⟨rfl, ?_⟩
        refine OkP.step ?_
        refine OkO.load rfl rfl (loadAt_agg (n := 2) (by kernel_rfl) (by first | assumption | (simp (disch := first | omega | (simp only [Heap.next_new, Heap.next_put]; omega)) only [get_new_same, get_new_same1, get_new_same2, get_put_same, get_new_other, get_put_other] <;> first | rfl | assumption)) (by first | rfl | assumption)) ?_
        refine OkO.nil ⟨rfl, ?_⟩
        refine OkP.step ?_
        refine OkO.move rfl rfl ?_
        refine OkO.nil ⟨rfl, ?_⟩
        refine OkP.step ?_
        refine OkO.callE rfl rfl rfl rfl rfl (c19 (m + 7) cv cols least _ (hM.ext (hE _ g19)) hth) ?_ -- "sackung/sackunglaw01.Slope"
        rintro _ H2 ⟨cv3, rfl, q2, f2⟩
        have g2 : Grow W H2 := Grow.ret g19 q2
        have n2 : W.next + 2 ≤ H2.next := by have := q2.ext.next; omega
        have a2 : (H2.get W.next).bind AObj.cs = some [cv, I least] := by rw [q2.ext.get _ (by omega)]; exact a19
        have b2 : (H2.get (W.next + 1)).bind AObj.cs = some [I fr, bv] := by rw [q2.ext.get _ (by omega)]; exact b19
        have m2 := f2.now (Nat.le_refl _)
        refine OkO.nil ⟨(stills_cons (still_load rfl rfl (loadAt_agg (n := 2) (by kernel_rfl) (by first | assumption | (simp (disch := first | omega | (simp only [Heap.next_new, Heap.next_put]; omega)) only [get_new_same, get_new_same1, get_new_same2, get_put_same, get_new_other, get_put_other] <;> first | rfl | assumption)) (by first | rfl | assumption)) rfl (eqv_refl _ (by first | rfl | exact ps | exact pu | exact len_plain (by assumption)))) rfl), ?_⟩
        refine OkP.step ?_
        refine OkO.callE rfl rfl rfl rfl rfl (c21 (m + 7) bv fr us _ (hU.ext (hE _ g2)) (by omega)) ?_ -- "sackung/sackunglaw01.Surface"
        rintro _ H21 ⟨bv2, rfl, q21, f21⟩
        have g21 : Grow W H21 := Grow.ret g2 q21
        have n21 : W.next + 2 ≤ H21.next := by have := q21.ext.next; omega
        have a21 : (H21.get W.next).bind AObj.cs = some [cv, I least] := by rw [q21.ext.get _ (by omega)]; exact a2
        have b21 : (H21.get (W.next + 1)).bind AObj.cs = some [I fr, bv] := by rw [q21.ext.get _ (by omega)]; exact b2
        have m21 := m2.ext q21.ext
        have i21 := f21.now (Nat.le_refl _)
        refine OkO.nil ⟨(stills_cons (still_load rfl rfl (loadAt_agg (n := 2) (by kernel_rfl) (by first | assumption | (simp (disch := first | omega | (simp only [Heap.next_new, Heap.next_put]; omega)) only [get_new_same, get_new_same1, get_new_same2, get_put_same, get_new_other, get_put_other] <;> first | rfl | assumption)) (by first | rfl | assumption)) rfl (eqv_refl _ (by first | rfl | exact ps | exact pu | exact len_plain (by assumption)))) rfl), ?_⟩
        refine OkP.step ?_
        refine OkO.callE rfl rfl rfl rfl rfl (c22 (m + 8) tv R _ (hT.ext (hE _ g21)) (by omega)) ?_ -- "sackung/sackunglaw01.Truth"
        rintro tv2 H22 ⟨q22, f22⟩
        have g22 : Grow W H22 := Grow.ret g21 q22
        have n22 : W.next + 2 ≤ H22.next := by have := q22.ext.next; omega
        have a22 : (H22.get W.next).bind AObj.cs = some [cv, I least] := by rw [q22.ext.get _ (by omega)]; exact a21
        have b22 : (H22.get (W.next + 1)).bind AObj.cs = some [I fr, bv] := by rw [q22.ext.get _ (by omega)]; exact b21
        have m22 := m21.ext q22.ext
        have r22 := f22.now (Nat.le_refl _)
        refine OkO.nil ⟨(stills_cons (still_load rfl rfl (loadAt_agg (n := 2) (by kernel_rfl) (by first | assumption | (simp (disch := first | omega | (simp only [Heap.next_new, Heap.next_put]; omega)) only [get_new_same, get_new_same1, get_new_same2, get_put_same, get_new_other, get_put_other] <;> first | rfl | assumption)) (by first | rfl | assumption)) rfl (eqv_refl _ (by first | rfl | exact ps | exact pu | exact len_plain (by assumption)))) (stills_cons (still_load rfl rfl (loadAt_agg (n := 2) (by kernel_rfl) (by first | assumption | (simp (disch := first | omega | (simp only [Heap.next_new, Heap.next_put]; omega)) only [get_new_same, get_new_same1, get_new_same2, get_put_same, get_new_other, get_put_other] <;> first | rfl | assumption)) (by first | rfl | assumption)) rfl (eqv_refl _ (by first | rfl | exact ps | exact pu | exact len_plain (by assumption)))) rfl)), ?_⟩
        refine OkP.step ?_
        have hsp := c20 m cv3 bv2 tv2 cols least fr us R H22 m22 (i21.1.ext q22.ext) (i21.2.ext q22.ext) (by omega) r22
        rw [sr] at hsp
        refine OkO.callV rfl rfl rfl rfl rfl (hsp) ?_ -- "sackung/slope.Factor"
        refine OkO.nil ⟨(stills_cons (still_load rfl rfl (loadAt_agg (n := 2) (by kernel_rfl) (by first | assumption | (simp (disch := first | omega | (simp only [Heap.next_new, Heap.next_put]; omega)) only [get_new_same, get_new_same1, get_new_same2, get_put_same, get_new_other, get_put_other] <;> first | rfl | assumption)) (by first | rfl | assumption)) rfl (eqv_refl _ (by first | rfl | exact ps | exact pu | exact len_plain (by assumption)))) (stills_cons (still_load rfl rfl (loadAt_agg (n := 2) (by kernel_rfl) (by first | assumption | (simp (disch := first | omega | (simp only [Heap.next_new, Heap.next_put]; omega)) only [get_new_same, get_new_same1, get_new_same2, get_put_same, get_new_other, get_put_other] <;> first | rfl | assumption)) (by first | rfl | assumption)) rfl (eqv_refl _ (by first | rfl | exact ps | exact pu | exact len_plain (by assumption)))) rfl)), ?_⟩
        refine OkP.step ?_
        refine OkO.move rfl rfl ?_
        refine OkO.nil ⟨rfl, ?_⟩
        refine OkP.step ?_
        refine OkO.extract rfl rfl rfl ?_
        refine OkO.nil ⟨rfl, ?_⟩
        refine OkP.step ?_
        refine OkO.extract rfl rfl rfl ?_
        refine OkO.nil ⟨rfl, ?_⟩
        refine OkP.step ?_
        refine OkO.assign rfl rfl ?_
        refine OkO.nil ⟨rfl, ?_⟩
        refine OkP.step ?_
        refine OkO.assign rfl rfl ?_
        refine OkO.nil ⟨rfl, ?_⟩
        refine OkP.nil ?_
        refine Ok.seq ?_
        refine Ok.seq ?_
        refine Ok.region ?_
        refine OkO.move rfl rfl ?_
        refine OkO.bin rfl rfl rfl (bin_eql _ _) ?_
        refine OkO.load rfl rfl (loadAt_agg (n := 2) (by kernel_rfl) (by first | assumption | (simp (disch := first | omega | (simp only [Heap.next_new, Heap.next_put]; omega)) only [get_new_same, get_new_same1, get_new_same2, get_put_same, get_new_other, get_put_other] <;> first | rfl | assumption)) (by first | rfl | assumption)) ?_
        have h23 := c23 (m + 7) cv cols least H22 (hM.ext (hE _ g22))
        rw [hok] at h23
        refine OkO.callV rfl rfl rfl rfl rfl (h23) ?_ -- "sackung/sackungref01.Right"
        refine OkO.binT rfl rfl rfl (neq4 _ _) ?_
        refine OkO.move rfl rfl ?_
        refine OkO.split (d := 45) rfl (fun g4 => ?_) (fun g4 => ?_)
        · -- true g4
          exact absurd g4 (by simp)
        · -- false g4
          refine OkO.move rfl rfl ?_
          refine OkO.bin rfl rfl rfl (bin_neq _ _) ?_
          refine OkO.move rfl rfl ?_
          refine OkO.split (d := 48) rfl (fun g5 => ?_) (fun g5 => ?_)
          · -- true g5
            exact absurd g5 (by simp)
          · -- false g5
            refine OkO.skip rfl ?_
            refine OkO.skip rfl ?_
            refine OkO.pick (b := false) rfl rfl nofun (fun _ => rfl) ?_
            refine OkO.pick (b := false) rfl rfl nofun (fun _ => rfl) ?_
            refine OkO.nil ?_
            refine Ok.condF rfl ?_
            refine Ok.skip ?_
            refine Ok.seq ?_
            refine Ok.region ?_
            refine OkO.load rfl rfl (loadAt_agg (n := 2) (by kernel_rfl) (by first | assumption | (simp (disch := first | omega | (simp only [Heap.next_new, Heap.next_put]; omega)) only [get_new_same, get_new_same1, get_new_same2, get_put_same, get_new_other, get_put_other] <;> first | rfl | assumption)) (by first | rfl | assumption)) ?_
            refine OkO.load rfl rfl (loadAt_agg (n := 2) (by kernel_rfl) (by first | assumption | (simp (disch := first | omega | (simp only [Heap.next_new, Heap.next_put]; omega)) only [get_new_same, get_new_same1, get_new_same2, get_put_same, get_new_other, get_put_other] <;> first | rfl | assumption)) (by first | rfl | assumption)) ?_
            have h24 := c24 (m + 6) cv bv cols least fr us H22 (hM.ext (hE _ g22)) (hU.ext (hE _ g22)) (by omega)
            rw [he] at h24
            refine OkO.callV rfl rfl rfl rfl rfl (h24) ?_ -- "sackung/sackunglaw01.fault"
            refine OkO.assign rfl rfl ?_
            refine OkO.nil ?_
            refine Ok.seq ?_
            refine Ok.seq ?_
            refine Ok.region ?_
            refine OkO.move rfl rfl ?_
            refine OkO.bin rfl rfl rfl (bin_eql _ _) ?_
            refine OkO.move rfl rfl ?_
            refine OkO.split (d := 58) rfl (fun g6 => ?_) (fun g6 => ?_)
            · -- true g6
              refine OkO.load rfl rfl (loadAt_agg (n := 2) (by kernel_rfl) (by first | assumption | (simp (disch := first | omega | (simp only [Heap.next_new, Heap.next_put]; omega)) only [get_new_same, get_new_same1, get_new_same2, get_put_same, get_new_other, get_put_other] <;> first | rfl | assumption)) (by first | rfl | assumption)) ?_
              refine OkO.load rfl rfl (loadAt_agg (n := 2) (by kernel_rfl) (by first | assumption | (simp (disch := first | omega | (simp only [Heap.next_new, Heap.next_put]; omega)) only [get_new_same, get_new_same1, get_new_same2, get_put_same, get_new_other, get_put_other] <;> first | rfl | assumption)) (by first | rfl | assumption)) ?_
              refine OkO.move rfl rfl ?_
              have h25 := c25 (m + 7) cv bv tv cols least f0 us2 _ R H22 (hM.ext (hE _ g22)) (hU2.ext (hE _ g22)) hp (by omega) (by omega) (hT.ext (hE _ g22)) (by omega)
              rw [hft, ← hf0] at h25
              refine OkO.callV rfl rfl rfl rfl rfl (h25) ?_ -- "sackung/sackungref01.Fits"
              refine OkO.un rfl rfl rfl ?_
              refine OkO.pick (b := true) rfl rfl (fun _ => rfl) nofun ?_
              refine OkO.nil ?_
              refine Ok.cond rfl (fun h7 => ?_) (fun h7 => ?_)
              · -- yes h7
                exact absurd h7 (by simp)
              · -- no h7
                refine Ok.skip ?_
                refine Ok.seq ?_
                refine Ok.region ?_
                refine OkO.assign rfl rfl ?_
                refine OkO.nil ?_
                refine Ok.seq ?_
                refine Ok.seq ?_
                refine Ok.region ?_
                refine OkO.move rfl rfl ?_
                refine OkO.bin rfl rfl rfl (bin_eql _ _) ?_
                refine OkO.nil ?_
                refine Ok.cond rfl (fun h8 => ?_) (fun h8 => ?_)
                · -- yes h8
                  refine Ok.seq ?_
                  refine Ok.region ?_
                  refine OkO.load rfl rfl (loadAt_agg (n := 2) (by kernel_rfl) (by first | assumption | (simp (disch := first | omega | (simp only [Heap.next_new, Heap.next_put]; omega)) only [get_new_same, get_new_same1, get_new_same2, get_put_same, get_new_other, get_put_other] <;> first | rfl | assumption)) (by first | rfl | assumption)) ?_
                  refine OkO.load rfl rfl (loadAt_agg (n := 2) (by kernel_rfl) (by first | assumption | (simp (disch := first | omega | (simp only [Heap.next_new, Heap.next_put]; omega)) only [get_new_same, get_new_same1, get_new_same2, get_put_same, get_new_other, get_put_other] <;> first | rfl | assumption)) (by first | rfl | assumption)) ?_
                  refine OkO.move rfl rfl ?_
                  have h26 := c26 (m + 7) cv bv tv cols least f0 us2 _ R H22 (hM.ext (hE _ g22)) (hU2.ext (hE _ g22)) hp (by omega) (by omega) (hT.ext (hE _ g22)) hRLl hLok hRl
                  rw [hrf, ← hf0] at h26
                  refine OkO.callV rfl rfl rfl rfl rfl (h26) ?_ -- "sackung/sackungref01.Factor"
                  refine OkO.assign rfl rfl ?_
                  refine OkO.nil ?_
                  refine Ok.seq ?_
                  refine Ok.region ?_
                  refine OkO.move rfl rfl ?_
                  refine OkO.bin rfl rfl rfl (bin_lss _ _) ?_
                  refine OkO.nil ?_
                  refine Ok.cond rfl (fun h9 => ?_) (fun h9 => ?_)
                  · -- yes h9
                    refine Ok.region ?_
                    refine OkO.assign rfl rfl ?_
                    refine OkO.assign rfl rfl ?_
                    refine OkO.nil ?_
                    refine Ok.seq ?_
                    refine Ok.region ?_
                    refine OkO.move rfl rfl ?_
                    refine OkO.move rfl rfl ?_
                    refine OkO.bin rfl rfl rfl (bin_eql _ _) ?_
                    refine OkO.move rfl rfl ?_
                    refine OkO.split (d := 76) rfl (fun g10 => ?_) (fun g10 => ?_)
                    · -- true g10
                      refine OkO.move rfl rfl ?_
                      refine OkO.move rfl rfl ?_
                      refine OkO.bin rfl rfl rfl (bin_eql _ _) ?_
                      refine OkO.pick (b := true) rfl rfl (fun _ => rfl) nofun ?_
                      refine OkO.move rfl rfl ?_
                      refine OkO.split (d := 81) rfl (fun g11 => ?_) (fun g11 => ?_)
                      · -- true g11
                        refine OkO.callV rfl rfl rfl rfl rfl (rfl) ?_ -- "sackung/sackunglaw01.wakes"
                        refine OkO.pick (b := true) rfl rfl (fun _ => rfl) nofun ?_
                        refine OkO.assign rfl rfl ?_
                        refine OkO.nil ?_
                        refine Ok.ret ⟨.inr rfl, ?_⟩
                        exact back_flat rfl rfl rfl (by rw [← hW]; exact (by (try dsimp only); repeat (first | exact g22 | apply Grow.new | (refine Grow.put ?_ _ (by first | omega | (simp only [Heap.next_new, Heap.next_put]; omega))))))
                      · -- false g11
                        exact absurd g11 (by simp)
                    · -- false g10
                      exact absurd g10 (by simp)
                  · -- no h9
                    exact absurd h9 (by simp)
                · -- no h8
                  exact absurd h8 (by simp)
            · -- false g6
              exact absurd g6 (by simp)
theorem c3D (m : Nat) (cv bv tv : AV) (cols : List (List Bed)) (least fr : Int) (us : List Int) (R : List Rl) (H : Heap) (hM : Mat H cv cols) (hU : Ints H bv us) (hT : Row H tv 3 (R.map rl)) (hth : thinB cols = true) (hl20 : us.length ≤ 20) (hr20 : R.length ≤ 20) (hok : slOk cols least = true) (hsf : surfB cols least fr us = true) (hft : fitsB (bedsOf cols fr us) R = true) (hd : ¬ drive (bedsOf cols fr us) < 1) : RR (m + 10) (.fn 3 [.agg [cv, I least], .agg [I fr, bv], tv]) H = some (.bool true, H) := by
  refine (R_fn _ _ _ _ _).trans ?_
  refine fn_ok Try.func3 rfl rfl (by kernel_rfl) (by kernel_rfl) ?_
  obtain ⟨W, hW⟩ : ∃ W : Heap, W = ⟨H.t, H.next, H.next⟩ := ⟨_, rfl⟩
  have hg : ∀ n, W.get n = H.get n := fun n => by rw [hW]; rfl
  have hN : W.next = H.next := by rw [hW]
  have hE : ∀ G, Grow W G → Ext H G := fun G g => ⟨by rw [← hN]; exact g.next, fun n k => by rw [g.get n (by rw [hN]; exact k), hg]⟩
  have hG : Grow W W := Grow.refl (by rw [hW]; exact Nat.le_refl _)
  rw [← hW]
  have pc : cv.plain = true := by obtain ⟨vs, hR, _, _⟩ := hM; exact len_plain hR.len
  have pb : bv.plain = true := len_plain hU.len
  have ps : AV.plain (.agg [cv, I least]) = true := by simp [AV.plain, AV.plains, pc]
  have pu : AV.plain (.agg [I fr, bv]) = true := by simp [AV.plain, AV.plains, pb]
  have hlenb := hU.len
  have hlent : lenOf tv = some R.length := by simpa using hT.len
  have he : surfErr cols least fr us = 0 := by simp [surfErr, hok, hsf]
  obtain ⟨f0, us2, hf0, hus, hp, hLok, hf12, hu12, hu1⟩ := surf_facts hok hsf
  have hU2 : Row H bv 1 (us2.map fun (n : Nat) => [I (n : Int)]) := by have h9 := hU; unfold Ints at h9; rw [hus, List.map_map] at h9; exact h9
  obtain ⟨hRLl, hRl⟩ := fits_facts hft hLok
  have sr : facR cols least fr us R = (factorOf (held (bedsOf cols fr us) R) (drive (bedsOf cols fr us)), 0) := by unfold facR; rw [if_pos he, if_pos hft, if_neg hd]
  have hrf := ref_fac (R := R) hd
  have hnn := factorOf_nn (held_bd _ _ hLok hRl).1 hd
  refine Ok.seq ?_
  refine Ok.region ?_
  refine OkO.box rfl rfl ?_
  refine OkO.box rfl rfl ?_
  refine OkO.assign rfl rfl ?_
  refine OkO.nil ?_
  refine Ok.seq ?_
  refine Ok.seq ?_
  refine Ok.region ?_
  refine OkO.load rfl rfl (loadAt_agg (n := 2) (by kernel_rfl) (by first | assumption | (simp (disch := first | omega | (simp only [Heap.next_new, Heap.next_put]; omega)) only [get_new_same, get_new_same1, get_new_same2, get_put_same, get_new_other, get_put_other] <;> first | rfl | assumption)) (by first | rfl | assumption)) ?_
  refine OkO.callV rfl rfl rfl rfl rfl (c16 (m + 8) cv cols least _ (hM.ext (hE _ (by (try dsimp only); repeat (first | exact hG | apply Grow.new | (refine Grow.put ?_ _ (by first | omega | (simp only [Heap.next_new, Heap.next_put]; omega)))))))) ?_ -- "sackung/sackunglaw01.Thin"
  refine OkO.un rfl rfl rfl ?_
  refine OkO.move rfl rfl ?_
  refine OkO.split (d := 15) rfl (fun g1 => ?_) (fun g1 => ?_)
  · -- true g1
    exact absurd g1 (by simp [hth])
  · -- false g1
    refine OkO.fieldAddr (o := 1) rfl (by kernel_rfl) rfl ?_
    refine OkO.load rfl rfl (loadAt_atom (n := 1) (by kernel_rfl) (by first | assumption | (simp (disch := first | omega | (simp only [Heap.next_new, Heap.next_put]; omega)) only [get_new_same, get_new_same1, get_new_same2, get_put_same, get_new_other, get_put_other] <;> first | rfl | assumption)) (by first | rfl | assumption)) ?_
    refine OkO.builtin rfl rfl rfl (builtin_len (by kernel_rfl) (by first | assumption | rfl)) ?_
    refine OkO.bin rfl rfl rfl (bin_gtr _ _) ?_
    refine OkO.pick (b := false) rfl rfl nofun (fun _ => rfl) ?_
    refine OkO.move rfl rfl ?_
    refine OkO.split (d := 21) rfl (fun g2 => ?_) (fun g2 => ?_)
    · -- true g2
      exact absurd g2 (by simp; omega)
    · -- false g2
      refine OkO.move rfl rfl ?_
      refine OkO.builtin rfl rfl rfl (builtin_len (by kernel_rfl) (by first | assumption | rfl)) ?_
      refine OkO.bin rfl rfl rfl (bin_gtr _ _) ?_
      refine OkO.pick (b := false) rfl rfl nofun (fun _ => rfl) ?_
      refine OkO.nil ?_
      refine Ok.cond rfl (fun h3 => ?_) (fun h3 => ?_)
      · -- yes h3
        exact absurd h3 (by simp; omega)
      · -- no h3
        refine Ok.skip ?_
        refine Ok.seq ?_
        refine Ok.region ?_
        refine OkO.load rfl rfl (loadAt_agg (n := 2) (by kernel_rfl) (by first | assumption | (simp (disch := first | omega | (simp only [Heap.next_new, Heap.next_put]; omega)) only [get_new_same, get_new_same1, get_new_same2, get_put_same, get_new_other, get_put_other] <;> first | rfl | assumption)) (by first | rfl | assumption)) ?_
        refine OkO.callE rfl rfl rfl rfl rfl (c19 (m + 7) cv cols least _ (hM.ext (hE _ (by (try dsimp only); repeat (first | exact hG | apply Grow.new | (refine Grow.put ?_ _ (by first | omega | (simp only [Heap.next_new, Heap.next_put]; omega))))))) hth) ?_ -- "sackung/sackunglaw01.Slope"
        rintro _ H19 ⟨cv2, rfl, q19, f19⟩
        have g19 : Grow W H19 := Grow.ret (by (try dsimp only); repeat (first | exact hG | apply Grow.new | (refine Grow.put ?_ _ (by first | omega | (simp only [Heap.next_new, Heap.next_put]; omega))))) q19
        have n19 : W.next + 2 ≤ H19.next := by have := q19.ext.next; simpa using this
        have a19 : (H19.get W.next).bind AObj.cs = some [cv, I least] := by rw [q19.ext.get _ (by simp only [Heap.next_new]; omega)]; simp (disch := first | omega | (simp only [Heap.next_new, Heap.next_put]; omega)) only [get_new_same, get_new_same1, get_new_same2, get_put_same, get_new_other, get_put_other] <;> rfl
        have b19 : (H19.get (W.next + 1)).bind AObj.cs = some [I fr, bv] := by rw [q19.ext.get _ (by simp only [Heap.next_new]; omega)]; simp (disch := first | omega | (simp only [Heap.next_new, Heap.next_put]; omega)) only [get_new_same, get_new_same1, get_new_same2, get_put_same, get_new_other, get_put_other] <;> rfl
        have m19 := f19.now (Nat.le_refl _)
        have h18 := c18 (m + 2) cv2 cols least H19 m19
        rw [hok] at h18
        refine OkO.callV rfl rfl rfl rfl rfl (h18) ?_ -- "sackung/slope.CheckSlope"
        refine OkO.assign rfl rfl ?_
        refine OkO.nil ?_
        refine Ok.seq ?_
        refine Ok.drawn [(0, true, []), (2, true, []), (4, true, []), (1, false, [2]), (3, false, [0]), (5, false, [2, 0]), (6, false, [2, 0]), (7, true, []), (8, true, []), (9, true, []), (10, true, []), (11, true, [])] (by kernel_rfl) ?_
        refine OkP.step ?_
        refine OkO.load rfl rfl (loadAt_agg (n := 2) (by kernel_rfl) (by first | assumption | (simp (disch := first | omega | (simp only [Heap.next_new, Heap.next_put]; omega)) only [get_new_same, get_new_same1, get_new_same2, get_put_same, get_new_other, get_put_other] <;> first | rfl | assumption)) (by first | rfl | assumption)) ?_
        refine OkO.nil ⟨rfl, ?_⟩
        refine OkP.step ?_
        refine OkO.load rfl rfl (loadAt_agg (n := 2) (by kernel_rfl) (by first | assumption | (simp (disch := first | omega | (simp only [Heap.next_new, Heap.next_put]; omega)) only [get_new_same, get_new_same1, get_new_same2, get_put_same, get_new_other, get_put_other] <;> first | rfl | assumption)) (by first | rfl | assumption)) ?_
        refine OkO.nil ⟨rfl, ?_⟩
        refine OkP.step ?_
        refine OkO.move rfl rfl ?_
        refine OkO.nil ⟨rfl, ?_⟩
        refine OkP.step ?_
        refine OkO.callE rfl rfl rfl rfl rfl (c19 (m + 7) cv cols least _ (hM.ext (hE _ g19)) hth) ?_ -- "sackung/sackunglaw01.Slope"
        rintro _ H2 ⟨cv3, rfl, q2, f2⟩
        have g2 : Grow W H2 := Grow.ret g19 q2
        have n2 : W.next + 2 ≤ H2.next := by have := q2.ext.next; omega
        have a2 : (H2.get W.next).bind AObj.cs = some [cv, I least] := by rw [q2.ext.get _ (by omega)]; exact a19
        have b2 : (H2.get (W.next + 1)).bind AObj.cs = some [I fr, bv] := by rw [q2.ext.get _ (by omega)]; exact b19
        have m2 := f2.now (Nat.le_refl _)
        refine OkO.nil ⟨(stills_cons (still_load rfl rfl (loadAt_agg (n := 2) (by kernel_rfl) (by first | assumption | (simp (disch := first | omega | (simp only [Heap.next_new, Heap.next_put]; omega)) only [get_new_same, get_new_same1, get_new_same2, get_put_same, get_new_other, get_put_other] <;> first | rfl | assumption)) (by first | rfl | assumption)) rfl (eqv_refl _ (by first | rfl | exact ps | exact pu | exact len_plain (by assumption)))) rfl), ?_⟩
        refine OkP.step ?_
        refine OkO.callE rfl rfl rfl rfl rfl (c21 (m + 7) bv fr us _ (hU.ext (hE _ g2)) (by omega)) ?_ -- "sackung/sackunglaw01.Surface"
        rintro _ H21 ⟨bv2, rfl, q21, f21⟩
        have g21 : Grow W H21 := Grow.ret g2 q21
        have n21 : W.next + 2 ≤ H21.next := by have := q21.ext.next; omega
        have a21 : (H21.get W.next).bind AObj.cs = some [cv, I least] := by rw [q21.ext.get _ (by omega)]; exact a2
        have b21 : (H21.get (W.next + 1)).bind AObj.cs = some [I fr, bv] := by rw [q21.ext.get _ (by omega)]; exact b2
        have m21 := m2.ext q21.ext
        have i21 := f21.now (Nat.le_refl _)
        refine OkO.nil ⟨(stills_cons (still_load rfl rfl (loadAt_agg (n := 2) (by kernel_rfl) (by first | assumption | (simp (disch := first | omega | (simp only [Heap.next_new, Heap.next_put]; omega)) only [get_new_same, get_new_same1, get_new_same2, get_put_same, get_new_other, get_put_other] <;> first | rfl | assumption)) (by first | rfl | assumption)) rfl (eqv_refl _ (by first | rfl | exact ps | exact pu | exact len_plain (by assumption)))) rfl), ?_⟩
        refine OkP.step ?_
        refine OkO.callE rfl rfl rfl rfl rfl (c22 (m + 8) tv R _ (hT.ext (hE _ g21)) (by omega)) ?_ -- "sackung/sackunglaw01.Truth"
        rintro tv2 H22 ⟨q22, f22⟩
        have g22 : Grow W H22 := Grow.ret g21 q22
        have n22 : W.next + 2 ≤ H22.next := by have := q22.ext.next; omega
        have a22 : (H22.get W.next).bind AObj.cs = some [cv, I least] := by rw [q22.ext.get _ (by omega)]; exact a21
        have b22 : (H22.get (W.next + 1)).bind AObj.cs = some [I fr, bv] := by rw [q22.ext.get _ (by omega)]; exact b21
        have m22 := m21.ext q22.ext
        have r22 := f22.now (Nat.le_refl _)
        refine OkO.nil ⟨(stills_cons (still_load rfl rfl (loadAt_agg (n := 2) (by kernel_rfl) (by first | assumption | (simp (disch := first | omega | (simp only [Heap.next_new, Heap.next_put]; omega)) only [get_new_same, get_new_same1, get_new_same2, get_put_same, get_new_other, get_put_other] <;> first | rfl | assumption)) (by first | rfl | assumption)) rfl (eqv_refl _ (by first | rfl | exact ps | exact pu | exact len_plain (by assumption)))) (stills_cons (still_load rfl rfl (loadAt_agg (n := 2) (by kernel_rfl) (by first | assumption | (simp (disch := first | omega | (simp only [Heap.next_new, Heap.next_put]; omega)) only [get_new_same, get_new_same1, get_new_same2, get_put_same, get_new_other, get_put_other] <;> first | rfl | assumption)) (by first | rfl | assumption)) rfl (eqv_refl _ (by first | rfl | exact ps | exact pu | exact len_plain (by assumption)))) rfl)), ?_⟩
        refine OkP.step ?_
        have hsp := c20 m cv3 bv2 tv2 cols least fr us R H22 m22 (i21.1.ext q22.ext) (i21.2.ext q22.ext) (by omega) r22
        rw [sr] at hsp
        refine OkO.callV rfl rfl rfl rfl rfl (hsp) ?_ -- "sackung/slope.Factor"
        refine OkO.nil ⟨(stills_cons (still_load rfl rfl (loadAt_agg (n := 2) (by kernel_rfl) (by first | assumption | (simp (disch := first | omega | (simp only [Heap.next_new, Heap.next_put]; omega)) only [get_new_same, get_new_same1, get_new_same2, get_put_same, get_new_other, get_put_other] <;> first | rfl | assumption)) (by first | rfl | assumption)) rfl (eqv_refl _ (by first | rfl | exact ps | exact pu | exact len_plain (by assumption)))) (stills_cons (still_load rfl rfl (loadAt_agg (n := 2) (by kernel_rfl) (by first | assumption | (simp (disch := first | omega | (simp only [Heap.next_new, Heap.next_put]; omega)) only [get_new_same, get_new_same1, get_new_same2, get_put_same, get_new_other, get_put_other] <;> first | rfl | assumption)) (by first | rfl | assumption)) rfl (eqv_refl _ (by first | rfl | exact ps | exact pu | exact len_plain (by assumption)))) rfl)), ?_⟩
        refine OkP.step ?_
        refine OkO.move rfl rfl ?_
        refine OkO.nil ⟨rfl, ?_⟩
        refine OkP.step ?_
        refine OkO.extract rfl rfl rfl ?_
        refine OkO.nil ⟨rfl, ?_⟩
        refine OkP.step ?_
        refine OkO.extract rfl rfl rfl ?_
        refine OkO.nil ⟨rfl, ?_⟩
        refine OkP.step ?_
        refine OkO.assign rfl rfl ?_
        refine OkO.nil ⟨rfl, ?_⟩
        refine OkP.step ?_
        refine OkO.assign rfl rfl ?_
        refine OkO.nil ⟨rfl, ?_⟩
        refine OkP.nil ?_
        refine Ok.seq ?_
        refine Ok.seq ?_
        refine Ok.region ?_
        refine OkO.move rfl rfl ?_
        refine OkO.bin rfl rfl rfl (bin_eql _ _) ?_
        refine OkO.load rfl rfl (loadAt_agg (n := 2) (by kernel_rfl) (by first | assumption | (simp (disch := first | omega | (simp only [Heap.next_new, Heap.next_put]; omega)) only [get_new_same, get_new_same1, get_new_same2, get_put_same, get_new_other, get_put_other] <;> first | rfl | assumption)) (by first | rfl | assumption)) ?_
        have h23 := c23 (m + 7) cv cols least H22 (hM.ext (hE _ g22))
        rw [hok] at h23
        refine OkO.callV rfl rfl rfl rfl rfl (h23) ?_ -- "sackung/sackungref01.Right"
        refine OkO.binT rfl rfl rfl (neq4 _ _) ?_
        refine OkO.move rfl rfl ?_
        refine OkO.split (d := 45) rfl (fun g4 => ?_) (fun g4 => ?_)
        · -- true g4
          exact absurd g4 (by simp)
        · -- false g4
          refine OkO.move rfl rfl ?_
          refine OkO.bin rfl rfl rfl (bin_neq _ _) ?_
          refine OkO.move rfl rfl ?_
          refine OkO.split (d := 48) rfl (fun g5 => ?_) (fun g5 => ?_)
          · -- true g5
            exact absurd g5 (by simp)
          · -- false g5
            refine OkO.skip rfl ?_
            refine OkO.skip rfl ?_
            refine OkO.pick (b := false) rfl rfl nofun (fun _ => rfl) ?_
            refine OkO.pick (b := false) rfl rfl nofun (fun _ => rfl) ?_
            refine OkO.nil ?_
            refine Ok.condF rfl ?_
            refine Ok.skip ?_
            refine Ok.seq ?_
            refine Ok.region ?_
            refine OkO.load rfl rfl (loadAt_agg (n := 2) (by kernel_rfl) (by first | assumption | (simp (disch := first | omega | (simp only [Heap.next_new, Heap.next_put]; omega)) only [get_new_same, get_new_same1, get_new_same2, get_put_same, get_new_other, get_put_other] <;> first | rfl | assumption)) (by first | rfl | assumption)) ?_
            refine OkO.load rfl rfl (loadAt_agg (n := 2) (by kernel_rfl) (by first | assumption | (simp (disch := first | omega | (simp only [Heap.next_new, Heap.next_put]; omega)) only [get_new_same, get_new_same1, get_new_same2, get_put_same, get_new_other, get_put_other] <;> first | rfl | assumption)) (by first | rfl | assumption)) ?_
            have h24 := c24 (m + 6) cv bv cols least fr us H22 (hM.ext (hE _ g22)) (hU.ext (hE _ g22)) (by omega)
            rw [he] at h24
            refine OkO.callV rfl rfl rfl rfl rfl (h24) ?_ -- "sackung/sackunglaw01.fault"
            refine OkO.assign rfl rfl ?_
            refine OkO.nil ?_
            refine Ok.seq ?_
            refine Ok.seq ?_
            refine Ok.region ?_
            refine OkO.move rfl rfl ?_
            refine OkO.bin rfl rfl rfl (bin_eql _ _) ?_
            refine OkO.move rfl rfl ?_
            refine OkO.split (d := 58) rfl (fun g6 => ?_) (fun g6 => ?_)
            · -- true g6
              refine OkO.load rfl rfl (loadAt_agg (n := 2) (by kernel_rfl) (by first | assumption | (simp (disch := first | omega | (simp only [Heap.next_new, Heap.next_put]; omega)) only [get_new_same, get_new_same1, get_new_same2, get_put_same, get_new_other, get_put_other] <;> first | rfl | assumption)) (by first | rfl | assumption)) ?_
              refine OkO.load rfl rfl (loadAt_agg (n := 2) (by kernel_rfl) (by first | assumption | (simp (disch := first | omega | (simp only [Heap.next_new, Heap.next_put]; omega)) only [get_new_same, get_new_same1, get_new_same2, get_put_same, get_new_other, get_put_other] <;> first | rfl | assumption)) (by first | rfl | assumption)) ?_
              refine OkO.move rfl rfl ?_
              have h25 := c25 (m + 7) cv bv tv cols least f0 us2 _ R H22 (hM.ext (hE _ g22)) (hU2.ext (hE _ g22)) hp (by omega) (by omega) (hT.ext (hE _ g22)) (by omega)
              rw [hft, ← hf0] at h25
              refine OkO.callV rfl rfl rfl rfl rfl (h25) ?_ -- "sackung/sackungref01.Fits"
              refine OkO.un rfl rfl rfl ?_
              refine OkO.pick (b := true) rfl rfl (fun _ => rfl) nofun ?_
              refine OkO.nil ?_
              refine Ok.cond rfl (fun h7 => ?_) (fun h7 => ?_)
              · -- yes h7
                exact absurd h7 (by simp)
              · -- no h7
                refine Ok.skip ?_
                refine Ok.seq ?_
                refine Ok.region ?_
                refine OkO.assign rfl rfl ?_
                refine OkO.nil ?_
                refine Ok.seq ?_
                refine Ok.seq ?_
                refine Ok.region ?_
                refine OkO.move rfl rfl ?_
                refine OkO.bin rfl rfl rfl (bin_eql _ _) ?_
                refine OkO.nil ?_
                refine Ok.cond rfl (fun h8 => ?_) (fun h8 => ?_)
                · -- yes h8
                  refine Ok.seq ?_
                  refine Ok.region ?_
                  refine OkO.load rfl rfl (loadAt_agg (n := 2) (by kernel_rfl) (by first | assumption | (simp (disch := first | omega | (simp only [Heap.next_new, Heap.next_put]; omega)) only [get_new_same, get_new_same1, get_new_same2, get_put_same, get_new_other, get_put_other] <;> first | rfl | assumption)) (by first | rfl | assumption)) ?_
                  refine OkO.load rfl rfl (loadAt_agg (n := 2) (by kernel_rfl) (by first | assumption | (simp (disch := first | omega | (simp only [Heap.next_new, Heap.next_put]; omega)) only [get_new_same, get_new_same1, get_new_same2, get_put_same, get_new_other, get_put_other] <;> first | rfl | assumption)) (by first | rfl | assumption)) ?_
                  refine OkO.move rfl rfl ?_
                  have h26 := c26 (m + 7) cv bv tv cols least f0 us2 _ R H22 (hM.ext (hE _ g22)) (hU2.ext (hE _ g22)) hp (by omega) (by omega) (hT.ext (hE _ g22)) hRLl hLok hRl
                  rw [hrf, ← hf0] at h26
                  refine OkO.callV rfl rfl rfl rfl rfl (h26) ?_ -- "sackung/sackungref01.Factor"
                  refine OkO.assign rfl rfl ?_
                  refine OkO.nil ?_
                  refine Ok.seq ?_
                  refine Ok.region ?_
                  refine OkO.move rfl rfl ?_
                  refine OkO.bin rfl rfl rfl (bin_lss _ _) ?_
                  refine OkO.nil ?_
                  refine Ok.cond rfl (fun h9 => ?_) (fun h9 => ?_)
                  · -- yes h9
                    exact absurd h9 (by simp; omega)
                  · -- no h9
                    refine Ok.skip ?_
                    refine Ok.seq ?_
                    refine Ok.region ?_
                    refine OkO.move rfl rfl ?_
                    refine OkO.move rfl rfl ?_
                    refine OkO.bin rfl rfl rfl (bin_eql _ _) ?_
                    refine OkO.move rfl rfl ?_
                    refine OkO.split (d := 76) rfl (fun g10 => ?_) (fun g10 => ?_)
                    · -- true g10
                      refine OkO.move rfl rfl ?_
                      refine OkO.move rfl rfl ?_
                      refine OkO.bin rfl rfl rfl (bin_eql _ _) ?_
                      refine OkO.pick (b := true) rfl rfl (fun _ => rfl) nofun ?_
                      refine OkO.move rfl rfl ?_
                      refine OkO.split (d := 81) rfl (fun g11 => ?_) (fun g11 => ?_)
                      · -- true g11
                        refine OkO.callV rfl rfl rfl rfl rfl (rfl) ?_ -- "sackung/sackunglaw01.wakes"
                        refine OkO.pick (b := true) rfl rfl (fun _ => rfl) nofun ?_
                        refine OkO.assign rfl rfl ?_
                        refine OkO.nil ?_
                        refine Ok.ret ⟨.inr rfl, ?_⟩
                        exact back_flat rfl rfl rfl (by rw [← hW]; exact (by (try dsimp only); repeat (first | exact g22 | apply Grow.new | (refine Grow.put ?_ _ (by first | omega | (simp only [Heap.next_new, Heap.next_put]; omega))))))
                      · -- false g11
                        exact absurd g11 (by simp)
                    · -- false g10
                      exact absurd g10 (by simp)
                · -- no h8
                  exact absurd h8 (by simp)
            · -- false g6
              exact absurd g6 (by simp)
theorem c3 (m : Nat) (cv bv tv : AV) (cols : List (List Bed)) (least fr : Int) (us : List Int) (R : List Rl) (H : Heap) (hM : Mat H cv cols) (hU : Ints H bv us) (hT : Row H tv 3 (R.map rl)) :
    RR (m + 10) (.fn 3 [.agg [cv, I least], .agg [I fr, bv], tv]) H = some (.bool true, H) := by
  by_cases hw : thinB cols = true ∧ us.length ≤ 20 ∧ R.length ≤ 20
  · obtain ⟨h1, h2, h3⟩ := hw
    cases hok : slOk cols least with
    | false => exact c3A m cv bv tv cols least fr us R H hM hU hT h1 h2 h3 hok
    | true =>
      cases hs : surfB cols least fr us with
      | false => exact c3E m cv bv tv cols least fr us R H hM hU hT h1 h2 h3 hok hs
      | true =>
        cases hf : fitsB (bedsOf cols fr us) R with
        | false => exact c3F m cv bv tv cols least fr us R H hM hU hT h1 h2 h3 hok hs hf
        | true =>
          by_cases hd : drive (bedsOf cols fr us) < 1
          · exact c3N m cv bv tv cols least fr us R H hM hU hT h1 h2 h3 hok hs hf hd
          · exact c3D m cv bv tv cols least fr us R H hM hU hT h1 h2 h3 hok hs hf hd
  · exact c3W m cv bv tv cols least fr us R H hM hU hT hw
end
end Go.Ev
