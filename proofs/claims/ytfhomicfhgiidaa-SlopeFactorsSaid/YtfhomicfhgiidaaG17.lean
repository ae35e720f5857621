/-
  Functions of the program, reckoned by the evaluator: what each answers, in the document's words, and that it leaves what came in as it was (part 17).
-/
import Derived.Test.YtfhomicfhgiidaaG16
set_option maxRecDepth 100000
set_option linter.unusedSimpArgs false
set_option linter.unusedVariables false
namespace Go.Ev
open Go Go.Proofs
noncomputable section
theorem eq3 (x y : Int) : eqT Try.prog 7 3 (I x) (I y) = some (decide (x = y)) := by
  unfold eqT
  rw [Try.underlying3]
  show (match sameKind .i64 .i64 with | true => some (eqI x y) | false => none) = _
  rw [eqI_eq]; rfl
theorem eq47 (a b c d : Int) : binT Try.prog .eql 47 (.agg [I a, I b]) (.agg [I c, I d]) = some (.bool (decide (a = c) && decide (b = d))) := by
  have h1 : Try.prog.eqGuardType Try.prog.depth 47 = false := by kernel_rfl
  have h2 : Try.prog.stoodInHeld 47 = false := by kernel_rfl
  have h5 : ∀ x y : Int, eqT.part Try.prog 3 [I x, I y] 0 = some (I x) := fun x y => by kernel_rfl
  have h6 : ∀ x y : Int, eqT.part Try.prog 3 [I x, I y] 1 = some (I y) := fun x y => by kernel_rfl
  show (eqB Try.prog 47 (.agg [I a, I b]) (.agg [I c, I d])).map AV.bool = _
  show (match Try.prog.eqGuardType Try.prog.depth 47 with | true => none | false => eqT Try.prog 8 47 (.agg [I a, I b]) (.agg [I c, I d])).map AV.bool = _
  rw [h1]
  dsimp only
  unfold eqT
  rw [Try.underlying47]
  dsimp only
  rw [h2]
  dsimp only [eqT.eqFs]
  rw [h5, h5, h6, h6, show ("Lo" == "_") = false from rfl, show ("Hi" == "_") = false from rfl]
  dsimp only
  rw [eq3, eq3]
  by_cases e1 : a = c <;> by_cases e2 : b = d <;> simp [e1, e2]
theorem held_end (m : Bool) (g : Bed → Int) (hg : ∀ b, holdsR b (endT m b) = g b) (L : List Bed) : held L (L.map (endT m)) = sumB g L := by
  unfold held sumB
  induction L with
  | nil => rfl
  | cons b l ih => simp only [List.map_cons, List.zip_cons_cons, List.sum_cons, hg]; rw [ih]
theorem ref_weak {L : List Bed} (h : ¬ drive L < 1) : refFactor L (L.map (endT false)) = factorOf (sumB weak L) (drive L) := by
  unfold refFactor factorOf; rw [if_neg h, held_end false weak (fun _ => rfl), Int.min_comm]
theorem ref_strong {L : List Bed} (h : ¬ drive L < 1) : refFactor L (L.map (endT true)) = factorOf (sumB strong L) (drive L) := by
  unfold refFactor factorOf; rw [if_neg h, held_end true strong (fun _ => rfl), Int.min_comm]
theorem factorOf_nn {a d : Int} (h1 : 0 ≤ a) (h2 : ¬ d < 1) : 0 ≤ factorOf a d := by
  unfold factorOf
  have : 0 ≤ 1000 * a / d := Int.ediv_nonneg (by omega) (by omega)
  omega
theorem c4A (m : Nat) (cv bv : AV) (cols : List (List Bed)) (least fr : Int) (us : List Int) (H : Heap) (hM : Mat H cv cols) (hU : Ints H bv us) (hth : thinB cols = true) (hl20 : us.length ≤ 20) (hA : surfErr cols least fr us ≠ 0) : RR (m + 10) (.fn 4 [.agg [cv, I least], .agg [I fr, bv]]) H = some (.bool true, H) := by
  refine (R_fn _ _ _ _ _).trans ?_
  refine fn_ok Try.func4 rfl rfl (by kernel_rfl) (by kernel_rfl) ?_
  obtain ⟨W, hW⟩ : ∃ W : Heap, W = ⟨H.t, H.next, H.next⟩ := ⟨_, rfl⟩
  have hg : ∀ n, W.get n = H.get n := fun n => by rw [hW]; rfl
  have hN : W.next = H.next := by rw [hW]
  have hE : ∀ G, Grow W G → Ext H G := fun G g => ⟨by rw [← hN]; exact g.next, fun n k => by rw [g.get n (by rw [hN]; exact k), hg]⟩
  have hG : Grow W W := Grow.refl (by rw [hW]; exact Nat.le_refl _)
  rw [← hW]
  have pc : cv.plain = true := by obtain ⟨vs, hR, _, _⟩ := hM; exact len_plain hR.len
  have pb : bv.plain = true := len_plain hU.len
  have ps : AV.plain (.agg [cv, I least]) = true := by simp [AV.plain, AV.plains, pc]
  have pu : AV.plain (.agg [I fr, bv]) = true := by simp [AV.plain, AV.plains, pb]
  have hlenb := hU.len
  have sr : spanR cols least fr us = (0, 0, surfErr cols least fr us) := by unfold spanR; rw [if_neg hA]
  refine Ok.seq ?_
  refine Ok.region ?_
  refine OkO.box rfl rfl ?_
  refine OkO.box rfl rfl ?_
  refine OkO.assign rfl rfl ?_
  refine OkO.nil ?_
  refine Ok.seq ?_
  refine Ok.seq ?_
  refine Ok.region ?_
  refine OkO.load rfl rfl (loadAt_agg (n := 2) (by kernel_rfl) (by first | assumption | (simp (disch := first | omega | (simp only [Heap.next_new, Heap.next_put]; omega)) only [get_new_same, get_new_same1, get_new_same2, get_put_same, get_new_other, get_put_other] <;> first | rfl | assumption)) (by first | rfl | assumption)) ?_
  refine OkO.callV rfl rfl rfl rfl rfl (c16 (m + 8) cv cols least _ (hM.ext (hE _ (by (try dsimp only); repeat (first | exact hG | apply Grow.new | (refine Grow.put ?_ _ (by first | omega | (simp only [Heap.next_new, Heap.next_put]; omega)))))))) ?_ -- "sackung/sackunglaw01.Thin"
  refine OkO.un rfl rfl rfl ?_
  refine OkO.move rfl rfl ?_
  refine OkO.split (d := 11) rfl (fun g1 => ?_) (fun g1 => ?_)
  · -- true g1
    exact absurd g1 (by simp [hth])
  · -- false g1
    refine OkO.fieldAddr (o := 1) rfl (by kernel_rfl) rfl ?_
    refine OkO.load rfl rfl (loadAt_atom (n := 1) (by kernel_rfl) (by first | assumption | (simp (disch := first | omega | (simp only [Heap.next_new, Heap.next_put]; omega)) only [get_new_same, get_new_same1, get_new_same2, get_put_same, get_new_other, get_put_other] <;> first | rfl | assumption)) (by first | rfl | assumption)) ?_
    refine OkO.builtin rfl rfl rfl (builtin_len (by kernel_rfl) (by first | assumption | rfl)) ?_
    refine OkO.bin rfl rfl rfl (bin_gtr _ _) ?_
    refine OkO.pick (b := false) rfl rfl nofun (fun _ => rfl) ?_
    refine OkO.nil ?_
    refine Ok.cond rfl (fun h2 => ?_) (fun h2 => ?_)
    · -- yes h2
      exact absurd h2 (by simp; omega)
    · -- no h2
      refine Ok.skip ?_
      refine Ok.seq ?_
      refine Ok.drawn [(0, true, []), (2, true, []), (8, true, [2, 0]), (1, false, [2]), (3, false, [0]), (4, false, [2, 0]), (5, true, []), (6, true, []), (7, true, []), (9, false, []), (10, true, [])] (by kernel_rfl) ?_
      refine OkP.step ?_
      refine OkO.load rfl rfl (loadAt_agg (n := 2) (by kernel_rfl) (by first | assumption | (simp (disch := first | omega | (simp only [Heap.next_new, Heap.next_put]; omega)) only [get_new_same, get_new_same1, get_new_same2, get_put_same, get_new_other, get_put_other] <;> first | rfl | assumption)) (by first | rfl | assumption)) ?_
      refine OkO.nil ⟨rfl, ?_⟩
      refine OkP.step ?_
      refine OkO.load rfl rfl (loadAt_agg (n := 2) (by kernel_rfl) (by first | assumption | (simp (disch := first | omega | (simp only [Heap.next_new, Heap.next_put]; omega)) only [get_new_same, get_new_same1, get_new_same2, get_put_same, get_new_other, get_put_other] <;> first | rfl | assumption)) (by first | rfl | assumption)) ?_
      refine OkO.nil ⟨rfl, ?_⟩
      refine OkP.step ?_
      refine OkO.alloc (z := [.int .i64 0, .int .i64 0]) rfl (by kernel_rfl) ?_
      refine OkO.nil ⟨(stills_cons (still_load rfl rfl (loadAt_agg (n := 2) (by kernel_rfl) (by first | assumption | (simp (disch := first | omega | (simp only [Heap.next_new, Heap.next_put]; omega)) only [get_new_same, get_new_same1, get_new_same2, get_put_same, get_new_other, get_put_other] <;> first | rfl | assumption)) (by first | rfl | assumption)) rfl (eqv_refl _ (by first | rfl | exact ps | exact pu | exact len_plain (by assumption)))) (stills_cons (still_load rfl rfl (loadAt_agg (n := 2) (by kernel_rfl) (by first | assumption | (simp (disch := first | omega | (simp only [Heap.next_new, Heap.next_put]; omega)) only [get_new_same, get_new_same1, get_new_same2, get_put_same, get_new_other, get_put_other] <;> first | rfl | assumption)) (by first | rfl | assumption)) rfl (eqv_refl _ (by first | rfl | exact ps | exact pu | exact len_plain (by assumption)))) rfl)), ?_⟩
      refine OkP.step ?_
      refine OkO.callE rfl rfl rfl rfl rfl (c19 (m + 7) cv cols least _ (hM.ext (hE _ (by (try dsimp only); repeat (first | exact hG | apply Grow.new | (refine Grow.put ?_ _ (by first | omega | (simp only [Heap.next_new, Heap.next_put]; omega))))))) hth) ?_ -- "sackung/sackunglaw01.Slope"
      rintro _ H19 ⟨cv2, rfl, q19, f19⟩
      have g19 : Grow W H19 := Grow.ret (by (try dsimp only); repeat (first | exact hG | apply Grow.new | (refine Grow.put ?_ _ (by first | omega | (simp only [Heap.next_new, Heap.next_put]; omega))))) q19
      have n19 : W.next + 3 ≤ H19.next := by have := q19.ext.next; simpa using this
      have a19 : (H19.get W.next).bind AObj.cs = some [cv, I least] := by rw [q19.ext.get _ (by simp only [Heap.next_new]; omega)]; simp (disch := first | omega | (simp only [Heap.next_new, Heap.next_put]; omega)) only [get_new_same, get_new_same1, get_new_same2, get_put_same, get_new_other, get_put_other] <;> rfl
      have b19 : (H19.get (W.next + 1)).bind AObj.cs = some [I fr, bv] := by rw [q19.ext.get _ (by simp only [Heap.next_new]; omega)]; simp (disch := first | omega | (simp only [Heap.next_new, Heap.next_put]; omega)) only [get_new_same, get_new_same1, get_new_same2, get_put_same, get_new_other, get_put_other] <;> rfl
      have o19 : H19.get (W.next + 2) = some (.cells [I 0, I 0] 47) := by rw [q19.ext.get _ (by simp only [Heap.next_new]; omega)]; exact get_new_same2 _ _ _ _
      have m19 := f19.now (Nat.le_refl _)
      refine OkO.nil ⟨(stills_cons (still_load rfl rfl (loadAt_agg (n := 2) (by kernel_rfl) (by first | assumption | (simp (disch := first | omega | (simp only [Heap.next_new, Heap.next_put]; omega)) only [get_new_same, get_new_same1, get_new_same2, get_put_same, get_new_other, get_put_other] <;> first | rfl | assumption)) (by first | rfl | assumption)) rfl (eqv_refl _ (by first | rfl | exact ps | exact pu | exact len_plain (by assumption)))) rfl), ?_⟩
      refine OkP.step ?_
      refine OkO.callE rfl rfl rfl rfl rfl (c21 (m + 7) bv fr us _ (hU.ext (hE _ g19)) (by omega)) ?_ -- "sackung/sackunglaw01.Surface"
      rintro _ H21 ⟨bv2, rfl, q21, f21⟩
      have g21 : Grow W H21 := Grow.ret g19 q21
      have n21 : W.next + 3 ≤ H21.next := by have := q21.ext.next; omega
      have a21 : (H21.get W.next).bind AObj.cs = some [cv, I least] := by rw [q21.ext.get _ (by omega)]; exact a19
      have b21 : (H21.get (W.next + 1)).bind AObj.cs = some [I fr, bv] := by rw [q21.ext.get _ (by omega)]; exact b19
      have o21 : H21.get (W.next + 2) = some (.cells [I 0, I 0] 47) := by rw [q21.ext.get _ (by omega)]; exact o19
      have m21 := m19.ext q21.ext
      have i21 := f21.now (Nat.le_refl _)
      have HS := sr
      refine OkO.nil ⟨(stills_cons (still_load rfl rfl (loadAt_agg (n := 2) (by kernel_rfl) (by first | assumption | (simp (disch := first | omega | (simp only [Heap.next_new, Heap.next_put]; omega)) only [get_new_same, get_new_same1, get_new_same2, get_put_same, get_new_other, get_put_other] <;> first | rfl | assumption)) (by first | rfl | assumption)) rfl (eqv_refl _ (by first | rfl | exact ps | exact pu | exact len_plain (by assumption)))) rfl), ?_⟩
      refine OkP.step ?_
      have hsp := c27 m cv2 bv2 cols least fr us H21 m21 i21.1 i21.2 (by omega)
      rw [sr] at hsp
      refine OkO.callV rfl rfl rfl rfl rfl (hsp) ?_ -- "sackung/slope.Span"
      refine OkO.nil ⟨(stills_cons (still_load rfl rfl (loadAt_agg (n := 2) (by kernel_rfl) (by first | assumption | (simp (disch := first | omega | (simp only [Heap.next_new, Heap.next_put]; omega)) only [get_new_same, get_new_same1, get_new_same2, get_put_same, get_new_other, get_put_other] <;> first | rfl | assumption)) (by first | rfl | assumption)) rfl (eqv_refl _ (by first | rfl | exact ps | exact pu | exact len_plain (by assumption)))) (stills_cons (still_load rfl rfl (loadAt_agg (n := 2) (by kernel_rfl) (by first | assumption | (simp (disch := first | omega | (simp only [Heap.next_new, Heap.next_put]; omega)) only [get_new_same, get_new_same1, get_new_same2, get_put_same, get_new_other, get_put_other] <;> first | rfl | assumption)) (by first | rfl | assumption)) rfl (eqv_refl _ (by first | rfl | exact ps | exact pu | exact len_plain (by assumption)))) rfl)), ?_⟩
      refine OkP.step ?_
      refine OkO.move rfl rfl ?_
      refine OkO.nil ⟨rfl, ?_⟩
      refine OkP.step ?_
      refine OkO.extract rfl rfl rfl ?_
      refine OkO.nil ⟨rfl, ?_⟩
      refine OkP.step ?_
      refine OkO.extract rfl rfl rfl ?_
      refine OkO.nil ⟨rfl, ?_⟩
      refine OkP.step ?_
      refine OkO.store rfl rfl rfl (storeAt_cells (n := 2) (ag := true) (by kernel_rfl) (by first | assumption | (simp (disch := first | omega | (simp only [Heap.next_new, Heap.next_put]; omega)) only [get_new_same, get_new_same1, get_new_same2, get_put_same, get_new_other, get_put_other] <;> first | rfl | assumption)) rfl rfl rfl) ?_
      refine OkO.nil ⟨rfl, ?_⟩
      refine OkP.step ?_
      refine OkO.assign rfl rfl ?_
      refine OkO.nil ⟨rfl, ?_⟩
      refine OkP.nil ?_
      refine Ok.seq ?_
      refine Ok.region ?_
      refine OkO.load rfl rfl (loadAt_agg (n := 2) (by kernel_rfl) (by first | assumption | (simp (disch := first | omega | (simp only [Heap.next_new, Heap.next_put]; omega)) only [get_new_same, get_new_same1, get_new_same2, get_put_same, get_new_other, get_put_other] <;> first | rfl | assumption)) (by first | rfl | assumption)) ?_
      refine OkO.load rfl rfl (loadAt_agg (n := 2) (by kernel_rfl) (by first | assumption | (simp (disch := first | omega | (simp only [Heap.next_new, Heap.next_put]; omega)) only [get_new_same, get_new_same1, get_new_same2, get_put_same, get_new_other, get_put_other] <;> first | rfl | assumption)) (by first | rfl | assumption)) ?_
      refine OkO.callV rfl rfl rfl rfl rfl (c24 (m + 6) cv bv cols least fr us _ (hM.ext (hE _ (by (try dsimp only); repeat (first | exact g21 | apply Grow.new | (refine Grow.put ?_ _ (by first | omega | (simp only [Heap.next_new, Heap.next_put]; omega))))))) (hU.ext (hE _ (by (try dsimp only); repeat (first | exact g21 | apply Grow.new | (refine Grow.put ?_ _ (by first | omega | (simp only [Heap.next_new, Heap.next_put]; omega))))))) (by omega)) ?_ -- "sackung/sackunglaw01.fault"
      refine OkO.assign rfl rfl ?_
      refine OkO.nil ?_
      refine Ok.seq ?_
      refine Ok.seq ?_
      refine Ok.region ?_
      refine OkO.move rfl rfl ?_
      refine OkO.bin rfl rfl rfl (bin_eql _ _) ?_
      refine OkO.move rfl rfl ?_
      refine OkO.split (d := 31) rfl (fun g3 => ?_) (fun g3 => ?_)
      · -- true g3
        exact absurd g3 (by simpa using hA)
      · -- false g3
        refine OkO.skip rfl ?_
        refine OkO.skip rfl ?_
        refine OkO.skip rfl ?_
        refine OkO.skip rfl ?_
        refine OkO.skip rfl ?_
        refine OkO.pick (b := false) rfl rfl nofun (fun _ => rfl) ?_
        refine OkO.nil ?_
        refine Ok.condF rfl ?_
        refine Ok.skip ?_
        refine Ok.seq ?_
        refine Ok.seq ?_
        refine Ok.region ?_
        refine OkO.move rfl rfl ?_
        refine OkO.bin rfl rfl rfl (bin_neq _ _) ?_
        refine OkO.nil ?_
        refine Ok.cond rfl (fun h4 => ?_) (fun h4 => ?_)
        · -- yes h4
          refine Ok.seq ?_
          refine Ok.region ?_
          refine OkO.move rfl rfl ?_
          refine OkO.move rfl rfl ?_
          refine OkO.bin rfl rfl rfl (bin_eql _ _) ?_
          refine OkO.move rfl rfl ?_
          refine OkO.split (d := 43) rfl (fun g5 => ?_) (fun g5 => ?_)
          · -- true g5
            refine OkO.load rfl rfl (loadAt_agg (n := 2) (by kernel_rfl) (by first | assumption | (simp (disch := first | omega | (simp only [Heap.next_new, Heap.next_put]; omega)) only [get_new_same, get_new_same1, get_new_same2, get_put_same, get_new_other, get_put_other] <;> first | rfl | assumption)) (by first | rfl | assumption)) ?_
            refine OkO.build (z := [.int .i64 0, .int .i64 0]) (pl := [(0, 1), (1, 1)]) rfl (by kernel_rfl) rfl rfl ?_
            refine OkO.binT rfl rfl rfl (eq47 _ _ _ _) ?_
            refine OkO.pick (b := true) rfl rfl (fun _ => rfl) nofun ?_
            refine OkO.move rfl rfl ?_
            refine OkO.split (d := 48) rfl (fun g6 => ?_) (fun g6 => ?_)
            · -- true g6
              refine OkO.callV rfl rfl rfl rfl rfl (rfl) ?_ -- "sackung/sackunglaw01.wakes"
              refine OkO.pick (b := true) rfl rfl (fun _ => rfl) nofun ?_
              refine OkO.assign rfl rfl ?_
              refine OkO.nil ?_
              refine Ok.ret ⟨.inr rfl, ?_⟩
              exact back_flat rfl rfl rfl (by rw [← hW]; exact (by (try dsimp only); repeat (first | exact g21 | apply Grow.new | (refine Grow.put ?_ _ (by first | omega | (simp only [Heap.next_new, Heap.next_put]; omega))))))
            · -- false g6
              exact absurd g6 (by simp)
          · -- false g5
            exact absurd g5 (by simp)
        · -- no h4
          exact absurd h4 (by simpa using hA)
theorem c4W (m : Nat) (cv bv : AV) (cols : List (List Bed)) (least fr : Int) (us : List Int) (H : Heap) (hM : Mat H cv cols) (hU : Ints H bv us) (hw : ¬ (thinB cols = true ∧ us.length ≤ 20)) : RR (m + 10) (.fn 4 [.agg [cv, I least], .agg [I fr, bv]]) H = some (.bool true, H) := by
  refine (R_fn _ _ _ _ _).trans ?_
  refine fn_ok Try.func4 rfl rfl (by kernel_rfl) (by kernel_rfl) ?_
  obtain ⟨W, hW⟩ : ∃ W : Heap, W = ⟨H.t, H.next, H.next⟩ := ⟨_, rfl⟩
  have hg : ∀ n, W.get n = H.get n := fun n => by rw [hW]; rfl
  have hN : W.next = H.next := by rw [hW]
  have hE : ∀ G, Grow W G → Ext H G := fun G g => ⟨by rw [← hN]; exact g.next, fun n k => by rw [g.get n (by rw [hN]; exact k), hg]⟩
  have hG : Grow W W := Grow.refl (by rw [hW]; exact Nat.le_refl _)
  rw [← hW]
  have pc : cv.plain = true := by obtain ⟨vs, hR, _, _⟩ := hM; exact len_plain hR.len
  have pb : bv.plain = true := len_plain hU.len
  have ps : AV.plain (.agg [cv, I least]) = true := by simp [AV.plain, AV.plains, pc]
  have pu : AV.plain (.agg [I fr, bv]) = true := by simp [AV.plain, AV.plains, pb]
  have hlenb := hU.len
  refine Ok.seq ?_
  refine Ok.region ?_
  refine OkO.box rfl rfl ?_
  refine OkO.box rfl rfl ?_
  refine OkO.assign rfl rfl ?_
  refine OkO.nil ?_
  refine Ok.seq ?_
  refine Ok.seq ?_
  refine Ok.region ?_
  refine OkO.load rfl rfl (loadAt_agg (n := 2) (by kernel_rfl) (by first | assumption | (simp (disch := first | omega | (simp only [Heap.next_new, Heap.next_put]; omega)) only [get_new_same, get_new_same1, get_new_same2, get_put_same, get_new_other, get_put_other] <;> first | rfl | assumption)) (by first | rfl | assumption)) ?_
  refine OkO.callV rfl rfl rfl rfl rfl (c16 (m + 8) cv cols least _ (hM.ext (hE _ (by (try dsimp only); repeat (first | exact hG | apply Grow.new | (refine Grow.put ?_ _ (by first | omega | (simp only [Heap.next_new, Heap.next_put]; omega)))))))) ?_ -- "sackung/sackunglaw01.Thin"
  refine OkO.un rfl rfl rfl ?_
  refine OkO.move rfl rfl ?_
  refine OkO.split (d := 11) rfl (fun g1 => ?_) (fun g1 => ?_)
  · -- true g1
    refine OkO.skip rfl ?_
    refine OkO.skip rfl ?_
    refine OkO.skip rfl ?_
    refine OkO.skip rfl ?_
    refine OkO.pick (b := true) rfl rfl (fun _ => rfl) nofun ?_
    refine OkO.nil ?_
    refine Ok.condT rfl ?_
    refine Ok.seq ?_
    refine Ok.region ?_
    refine OkO.callV rfl rfl rfl rfl rfl (rfl) ?_ -- "sackung/sackunglaw01.wakes"
    refine OkO.assign rfl rfl ?_
    refine OkO.nil ?_
    refine Ok.ret ⟨.inr rfl, ?_⟩
    exact back_flat rfl rfl rfl (by rw [← hW]; exact (by (try dsimp only); repeat (first | exact hG | apply Grow.new | (refine Grow.put ?_ _ (by first | omega | (simp only [Heap.next_new, Heap.next_put]; omega))))))
  · -- false g1
    refine OkO.fieldAddr (o := 1) rfl (by kernel_rfl) rfl ?_
    refine OkO.load rfl rfl (loadAt_atom (n := 1) (by kernel_rfl) (by first | assumption | (simp (disch := first | omega | (simp only [Heap.next_new, Heap.next_put]; omega)) only [get_new_same, get_new_same1, get_new_same2, get_put_same, get_new_other, get_put_other] <;> first | rfl | assumption)) (by first | rfl | assumption)) ?_
    refine OkO.builtin rfl rfl rfl (builtin_len (by kernel_rfl) (by first | assumption | rfl)) ?_
    refine OkO.bin rfl rfl rfl (bin_gtr _ _) ?_
    refine OkO.pick (b := false) rfl rfl nofun (fun _ => rfl) ?_
    refine OkO.nil ?_
    refine Ok.cond rfl (fun h2 => ?_) (fun h2 => ?_)
    · -- yes h2
      refine Ok.seq ?_
      refine Ok.region ?_
      refine OkO.callV rfl rfl rfl rfl rfl (rfl) ?_ -- "sackung/sackunglaw01.wakes"
      refine OkO.assign rfl rfl ?_
      refine OkO.nil ?_
      refine Ok.ret ⟨.inr rfl, ?_⟩
      exact back_flat rfl rfl rfl (by rw [← hW]; exact (by (try dsimp only); repeat (first | exact hG | apply Grow.new | (refine Grow.put ?_ _ (by first | omega | (simp only [Heap.next_new, Heap.next_put]; omega))))))
    · -- no h2
      exact absurd ⟨by simpa using g1, by simp at h2; omega⟩ hw
theorem c4B (m : Nat) (cv bv : AV) (cols : List (List Bed)) (least fr : Int) (us : List Int) (H : Heap) (hM : Mat H cv cols) (hU : Ints H bv us) (hth : thinB cols = true) (hl20 : us.length ≤ 20) (hB0 : surfErr cols least fr us = 0) (hB : drive (bedsOf cols fr us) < 1) : RR (m + 10) (.fn 4 [.agg [cv, I least], .agg [I fr, bv]]) H = some (.bool true, H) := by
  refine (R_fn _ _ _ _ _).trans ?_
  refine fn_ok Try.func4 rfl rfl (by kernel_rfl) (by kernel_rfl) ?_
  obtain ⟨W, hW⟩ : ∃ W : Heap, W = ⟨H.t, H.next, H.next⟩ := ⟨_, rfl⟩
  have hg : ∀ n, W.get n = H.get n := fun n => by rw [hW]; rfl
  have hN : W.next = H.next := by rw [hW]
  have hE : ∀ G, Grow W G → Ext H G := fun G g => ⟨by rw [← hN]; exact g.next, fun n k => by rw [g.get n (by rw [hN]; exact k), hg]⟩
  have hG : Grow W W := Grow.refl (by rw [hW]; exact Nat.le_refl _)
  rw [← hW]
  have pc : cv.plain = true := by obtain ⟨vs, hR, _, _⟩ := hM; exact len_plain hR.len
  have pb : bv.plain = true := len_plain hU.len
  have ps : AV.plain (.agg [cv, I least]) = true := by simp [AV.plain, AV.plains, pc]
  have pu : AV.plain (.agg [I fr, bv]) = true := by simp [AV.plain, AV.plains, pb]
  have hlenb := hU.len
  have he := hB0
  have sr : spanR cols least fr us = (0, 0, 7) := by unfold spanR; rw [if_pos hB0, if_pos hB]
  refine Ok.seq ?_
  refine Ok.region ?_
  refine OkO.box rfl rfl ?_
  refine OkO.box rfl rfl ?_
  refine OkO.assign rfl rfl ?_
  refine OkO.nil ?_
  refine Ok.seq ?_
  refine Ok.seq ?_
  refine Ok.region ?_
  refine OkO.load rfl rfl (loadAt_agg (n := 2) (by kernel_rfl) (by first | assumption | (simp (disch := first | omega | (simp only [Heap.next_new, Heap.next_put]; omega)) only [get_new_same, get_new_same1, get_new_same2, get_put_same, get_new_other, get_put_other] <;> first | rfl | assumption)) (by first | rfl | assumption)) ?_
  refine OkO.callV rfl rfl rfl rfl rfl (c16 (m + 8) cv cols least _ (hM.ext (hE _ (by (try dsimp only); repeat (first | exact hG | apply Grow.new | (refine Grow.put ?_ _ (by first | omega | (simp only [Heap.next_new, Heap.next_put]; omega)))))))) ?_ -- "sackung/sackunglaw01.Thin"
  refine OkO.un rfl rfl rfl ?_
  refine OkO.move rfl rfl ?_
  refine OkO.split (d := 11) rfl (fun g1 => ?_) (fun g1 => ?_)
  · -- true g1
    exact absurd g1 (by simp [hth])
  · -- false g1
    refine OkO.fieldAddr (o := 1) rfl (by kernel_rfl) rfl ?_
    refine OkO.load rfl rfl (loadAt_atom (n := 1) (by kernel_rfl) (by first | assumption | (simp (disch := first | omega | (simp only [Heap.next_new, Heap.next_put]; omega)) only [get_new_same, get_new_same1, get_new_same2, get_put_same, get_new_other, get_put_other] <;> first | rfl | assumption)) (by first | rfl | assumption)) ?_
    refine OkO.builtin rfl rfl rfl (builtin_len (by kernel_rfl) (by first | assumption | rfl)) ?_
    refine OkO.bin rfl rfl rfl (bin_gtr _ _) ?_
    refine OkO.pick (b := false) rfl rfl nofun (fun _ => rfl) ?_
    refine OkO.nil ?_
    refine Ok.cond rfl (fun h2 => ?_) (fun h2 => ?_)
    · -- yes h2
      exact absurd h2 (by simp; omega)
    · -- no h2
      refine Ok.skip ?_
      refine Ok.seq ?_
      refine Ok.drawn [(0, true, []), (2, true, []), (8, true, [2, 0]), (1, false, [2]), (3, false, [0]), (4, false, [2, 0]), (5, true, []), (6, true, []), (7, true, []), (9, false, []), (10, true, [])] (by kernel_rfl) ?_
      refine OkP.step ?_
      refine OkO.load rfl rfl (loadAt_agg (n := 2) (by kernel_rfl) (by first | assumption | (simp (disch := first | omega | (simp only [Heap.next_new, Heap.next_put]; omega)) only [get_new_same, get_new_same1, get_new_same2, get_put_same, get_new_other, get_put_other] <;> first | rfl | assumption)) (by first | rfl | assumption)) ?_
      refine OkO.nil ⟨rfl, ?_⟩
      refine OkP.step ?_
      refine OkO.load rfl rfl (loadAt_agg (n := 2) (by kernel_rfl) (by first | assumption | (simp (disch := first | omega | (simp only [Heap.next_new, Heap.next_put]; omega)) only [get_new_same, get_new_same1, get_new_same2, get_put_same, get_new_other, get_put_other] <;> first | rfl | assumption)) (by first | rfl | assumption)) ?_
      refine OkO.nil ⟨rfl, ?_⟩
      refine OkP.step ?_
      refine OkO.alloc (z := [.int .i64 0, .int .i64 0]) rfl (by kernel_rfl) ?_
      refine OkO.nil ⟨(stills_cons (still_load rfl rfl (loadAt_agg (n := 2) (by kernel_rfl) (by first | assumption | (simp (disch := first | omega | (simp only [Heap.next_new, Heap.next_put]; omega)) only [get_new_same, get_new_same1, get_new_same2, get_put_same, get_new_other, get_put_other] <;> first | rfl | assumption)) (by first | rfl | assumption)) rfl (eqv_refl _ (by first | rfl | exact ps | exact pu | exact len_plain (by assumption)))) (stills_cons (still_load rfl rfl (loadAt_agg (n := 2) (by kernel_rfl) (by first | assumption | (simp (disch := first | omega | (simp only [Heap.next_new, Heap.next_put]; omega)) only [get_new_same, get_new_same1, get_new_same2, get_put_same, get_new_other, get_put_other] <;> first | rfl | assumption)) (by first | rfl | assumption)) rfl (eqv_refl _ (by first | rfl | exact ps | exact pu | exact len_plain (by assumption)))) rfl)), ?_⟩
      refine OkP.step ?_
      refine OkO.callE rfl rfl rfl rfl rfl (c19 (m + 7) cv cols least _ (hM.ext (hE _ (by (try dsimp only); repeat (first | exact hG | apply Grow.new | (refine Grow.put ?_ _ (by first | omega | (simp only [Heap.next_new, Heap.next_put]; omega))))))) hth) ?_ -- "sackung/sackunglaw01.Slope"
      rintro _ H19 ⟨cv2, rfl, q19, f19⟩
      have g19 : Grow W H19 := Grow.ret (by (try dsimp only); repeat (first | exact hG | apply Grow.new | (refine Grow.put ?_ _ (by first | omega | (simp only [Heap.next_new, Heap.next_put]; omega))))) q19
      have n19 : W.next + 3 ≤ H19.next := by have := q19.ext.next; simpa using this
      have a19 : (H19.get W.next).bind AObj.cs = some [cv, I least] := by rw [q19.ext.get _ (by simp only [Heap.next_new]; omega)]; simp (disch := first | omega | (simp only [Heap.next_new, Heap.next_put]; omega)) only [get_new_same, get_new_same1, get_new_same2, get_put_same, get_new_other, get_put_other] <;> rfl
      have b19 : (H19.get (W.next + 1)).bind AObj.cs = some [I fr, bv] := by rw [q19.ext.get _ (by simp only [Heap.next_new]; omega)]; simp (disch := first | omega | (simp only [Heap.next_new, Heap.next_put]; omega)) only [get_new_same, get_new_same1, get_new_same2, get_put_same, get_new_other, get_put_other] <;> rfl
      have o19 : H19.get (W.next + 2) = some (.cells [I 0, I 0] 47) := by rw [q19.ext.get _ (by simp only [Heap.next_new]; omega)]; exact get_new_same2 _ _ _ _
      have m19 := f19.now (Nat.le_refl _)
      refine OkO.nil ⟨(stills_cons (still_load rfl rfl (loadAt_agg (n := 2) (by kernel_rfl) (by first | assumption | (simp (disch := first | omega | (simp only [Heap.next_new, Heap.next_put]; omega)) only [get_new_same, get_new_same1, get_new_same2, get_put_same, get_new_other, get_put_other] <;> first | rfl | assumption)) (by first | rfl | assumption)) rfl (eqv_refl _ (by first | rfl | exact ps | exact pu | exact len_plain (by assumption)))) rfl), ?_⟩
      refine OkP.step ?_
      refine OkO.callE rfl rfl rfl rfl rfl (c21 (m + 7) bv fr us _ (hU.ext (hE _ g19)) (by omega)) ?_ -- "sackung/sackunglaw01.Surface"
      rintro _ H21 ⟨bv2, rfl, q21, f21⟩
      have g21 : Grow W H21 := Grow.ret g19 q21
      have n21 : W.next + 3 ≤ H21.next := by have := q21.ext.next; omega
      have a21 : (H21.get W.next).bind AObj.cs = some [cv, I least] := by rw [q21.ext.get _ (by omega)]; exact a19
      have b21 : (H21.get (W.next + 1)).bind AObj.cs = some [I fr, bv] := by rw [q21.ext.get _ (by omega)]; exact b19
      have o21 : H21.get (W.next + 2) = some (.cells [I 0, I 0] 47) := by rw [q21.ext.get _ (by omega)]; exact o19
      have m21 := m19.ext q21.ext
      have i21 := f21.now (Nat.le_refl _)
      have HS := sr
      refine OkO.nil ⟨(stills_cons (still_load rfl rfl (loadAt_agg (n := 2) (by kernel_rfl) (by first | assumption | (simp (disch := first | omega | (simp only [Heap.next_new, Heap.next_put]; omega)) only [get_new_same, get_new_same1, get_new_same2, get_put_same, get_new_other, get_put_other] <;> first | rfl | assumption)) (by first | rfl | assumption)) rfl (eqv_refl _ (by first | rfl | exact ps | exact pu | exact len_plain (by assumption)))) rfl), ?_⟩
      refine OkP.step ?_
      have hsp := c27 m cv2 bv2 cols least fr us H21 m21 i21.1 i21.2 (by omega)
      rw [sr] at hsp
      refine OkO.callV rfl rfl rfl rfl rfl (hsp) ?_ -- "sackung/slope.Span"
      refine OkO.nil ⟨(stills_cons (still_load rfl rfl (loadAt_agg (n := 2) (by kernel_rfl) (by first | assumption | (simp (disch := first | omega | (simp only [Heap.next_new, Heap.next_put]; omega)) only [get_new_same, get_new_same1, get_new_same2, get_put_same, get_new_other, get_put_other] <;> first | rfl | assumption)) (by first | rfl | assumption)) rfl (eqv_refl _ (by first | rfl | exact ps | exact pu | exact len_plain (by assumption)))) (stills_cons (still_load rfl rfl (loadAt_agg (n := 2) (by kernel_rfl) (by first | assumption | (simp (disch := first | omega | (simp only [Heap.next_new, Heap.next_put]; omega)) only [get_new_same, get_new_same1, get_new_same2, get_put_same, get_new_other, get_put_other] <;> first | rfl | assumption)) (by first | rfl | assumption)) rfl (eqv_refl _ (by first | rfl | exact ps | exact pu | exact len_plain (by assumption)))) rfl)), ?_⟩
      refine OkP.step ?_
      refine OkO.move rfl rfl ?_
      refine OkO.nil ⟨rfl, ?_⟩
      refine OkP.step ?_
      refine OkO.extract rfl rfl rfl ?_
      refine OkO.nil ⟨rfl, ?_⟩
      refine OkP.step ?_
      refine OkO.extract rfl rfl rfl ?_
      refine OkO.nil ⟨rfl, ?_⟩
      refine OkP.step ?_
      refine OkO.store rfl rfl rfl (storeAt_cells (n := 2) (ag := true) (by kernel_rfl) (by first | assumption | (simp (disch := first | omega | (simp only [Heap.next_new, Heap.next_put]; omega)) only [get_new_same, get_new_same1, get_new_same2, get_put_same, get_new_other, get_put_other] <;> first | rfl | assumption)) rfl rfl rfl) ?_
      refine OkO.nil ⟨rfl, ?_⟩
      refine OkP.step ?_
      refine OkO.assign rfl rfl ?_
      refine OkO.nil ⟨rfl, ?_⟩
      refine OkP.nil ?_
      refine Ok.seq ?_
      refine Ok.region ?_
      refine OkO.load rfl rfl (loadAt_agg (n := 2) (by kernel_rfl) (by first | assumption | (simp (disch := first | omega | (simp only [Heap.next_new, Heap.next_put]; omega)) only [get_new_same, get_new_same1, get_new_same2, get_put_same, get_new_other, get_put_other] <;> first | rfl | assumption)) (by first | rfl | assumption)) ?_
      refine OkO.load rfl rfl (loadAt_agg (n := 2) (by kernel_rfl) (by first | assumption | (simp (disch := first | omega | (simp only [Heap.next_new, Heap.next_put]; omega)) only [get_new_same, get_new_same1, get_new_same2, get_put_same, get_new_other, get_put_other] <;> first | rfl | assumption)) (by first | rfl | assumption)) ?_
      refine OkO.callV rfl rfl rfl rfl rfl (c24 (m + 6) cv bv cols least fr us _ (hM.ext (hE _ (by (try dsimp only); repeat (first | exact g21 | apply Grow.new | (refine Grow.put ?_ _ (by first | omega | (simp only [Heap.next_new, Heap.next_put]; omega))))))) (hU.ext (hE _ (by (try dsimp only); repeat (first | exact g21 | apply Grow.new | (refine Grow.put ?_ _ (by first | omega | (simp only [Heap.next_new, Heap.next_put]; omega))))))) (by omega)) ?_ -- "sackung/sackunglaw01.fault"
      refine OkO.assign rfl rfl ?_
      refine OkO.nil ?_
      refine Ok.seq ?_
      refine Ok.seq ?_
      refine Ok.region ?_
      refine OkO.move rfl rfl ?_
      refine OkO.bin rfl rfl rfl (bin_eql _ _) ?_
      refine OkO.move rfl rfl ?_
      refine OkO.split (d := 31) rfl (fun g3 => ?_) (fun g3 => ?_)
      · -- true g3
        have hok : slOk cols least = true := by cases hs : slOk cols least with | true => rfl | false => simp [surfErr, hs] at he
        have hsf : surfB cols least fr us = true := by cases hs : surfB cols least fr us with | true => rfl | false => simp [surfErr, hok, hs] at he
        obtain ⟨f0, us2, hf0, hus, hp, hLok, hf12, hu12, hu1⟩ := surf_facts hok hsf
        have hU2 : Row H bv 1 (us2.map fun (n : Nat) => [I (n : Int)]) := by have h9 := hU; unfold Ints at h9; rw [hus, List.map_map] at h9; exact h9
        subst hf0
        have hrf := (show refFactor (bedsOf cols (f0 : Int) us) ((bedsOf cols (f0 : Int) us).map (endT false)) = -1 from by unfold refFactor; rw [if_pos hB])
        refine OkO.load rfl rfl (loadAt_agg (n := 2) (by kernel_rfl) (by first | assumption | (simp (disch := first | omega | (simp only [Heap.next_new, Heap.next_put]; omega)) only [get_new_same, get_new_same1, get_new_same2, get_put_same, get_new_other, get_put_other] <;> first | rfl | assumption)) (by first | rfl | assumption)) ?_
        refine OkO.load rfl rfl (loadAt_agg (n := 2) (by kernel_rfl) (by first | assumption | (simp (disch := first | omega | (simp only [Heap.next_new, Heap.next_put]; omega)) only [get_new_same, get_new_same1, get_new_same2, get_put_same, get_new_other, get_put_other] <;> first | rfl | assumption)) (by first | rfl | assumption)) ?_
        refine OkO.callV rfl rfl rfl rfl rfl (c28 (m + 6) cv bv cols least f0 us2 _ _ (hM.ext (hE _ (by (try dsimp only); repeat (first | exact g21 | apply Grow.new | (refine Grow.put ?_ _ (by first | omega | (simp only [Heap.next_new, Heap.next_put]; omega))))))) (hU2.ext (hE _ (by (try dsimp only); repeat (first | exact g21 | apply Grow.new | (refine Grow.put ?_ _ (by first | omega | (simp only [Heap.next_new, Heap.next_put]; omega))))))) hp (by omega) (by omega) hLok) ?_ -- "sackung/sackungref01.Span"
        refine OkO.field (ag := false) (o := 0) (n := 1) rfl (by kernel_rfl) rfl rfl ?_
        refine OkO.bin rfl rfl rfl (bin_lss _ _) ?_
        refine OkO.pick (b := true) rfl rfl (fun _ => rfl) nofun ?_
        refine OkO.nil ?_
        refine Ok.cond rfl (fun h4 => ?_) (fun h4 => ?_)
        · -- yes h4
          refine Ok.region ?_
          refine OkO.assign rfl rfl ?_
          refine OkO.nil ?_
          refine Ok.seq ?_
          refine Ok.seq ?_
          refine Ok.region ?_
          refine OkO.move rfl rfl ?_
          refine OkO.bin rfl rfl rfl (bin_neq _ _) ?_
          refine OkO.nil ?_
          refine Ok.cond rfl (fun h5 => ?_) (fun h5 => ?_)
          · -- yes h5
            refine Ok.seq ?_
            refine Ok.region ?_
            refine OkO.move rfl rfl ?_
            refine OkO.move rfl rfl ?_
            refine OkO.bin rfl rfl rfl (bin_eql _ _) ?_
            refine OkO.move rfl rfl ?_
            refine OkO.split (d := 43) rfl (fun g6 => ?_) (fun g6 => ?_)
            · -- true g6
              refine OkO.load rfl rfl (loadAt_agg (n := 2) (by kernel_rfl) (by first | assumption | (simp (disch := first | omega | (simp only [Heap.next_new, Heap.next_put]; omega)) only [get_new_same, get_new_same1, get_new_same2, get_put_same, get_new_other, get_put_other] <;> first | rfl | assumption)) (by first | rfl | assumption)) ?_
              refine OkO.build (z := [.int .i64 0, .int .i64 0]) (pl := [(0, 1), (1, 1)]) rfl (by kernel_rfl) rfl rfl ?_
              refine OkO.binT rfl rfl rfl (eq47 _ _ _ _) ?_
              refine OkO.pick (b := true) rfl rfl (fun _ => rfl) nofun ?_
              refine OkO.move rfl rfl ?_
              refine OkO.split (d := 48) rfl (fun g7 => ?_) (fun g7 => ?_)
              · -- true g7
                refine OkO.callV rfl rfl rfl rfl rfl (rfl) ?_ -- "sackung/sackunglaw01.wakes"
                refine OkO.pick (b := true) rfl rfl (fun _ => rfl) nofun ?_
                refine OkO.assign rfl rfl ?_
                refine OkO.nil ?_
                refine Ok.ret ⟨.inr rfl, ?_⟩
                exact back_flat rfl rfl rfl (by rw [← hW]; exact (by (try dsimp only); repeat (first | exact g21 | apply Grow.new | (refine Grow.put ?_ _ (by first | omega | (simp only [Heap.next_new, Heap.next_put]; omega))))))
              · -- false g7
                exact absurd g7 (by simp)
            · -- false g6
              exact absurd g6 (by simp)
          · -- no h5
            exact absurd h5 (by simp)
        · -- no h4
          exact absurd h4 (by rw [hrf]; simp)
      · -- false g3
        exact absurd hB0 (by simpa using g3)
theorem c4C (m : Nat) (cv bv : AV) (cols : List (List Bed)) (least fr : Int) (us : List Int) (H : Heap) (hM : Mat H cv cols) (hU : Ints H bv us) (hth : thinB cols = true) (hl20 : us.length ≤ 20) (hB0 : surfErr cols least fr us = 0) (hC : ¬ drive (bedsOf cols fr us) < 1) : RR (m + 10) (.fn 4 [.agg [cv, I least], .agg [I fr, bv]]) H = some (.bool true, H) := by
  refine (R_fn _ _ _ _ _).trans ?_
  refine fn_ok Try.func4 rfl rfl (by kernel_rfl) (by kernel_rfl) ?_
  obtain ⟨W, hW⟩ : ∃ W : Heap, W = ⟨H.t, H.next, H.next⟩ := ⟨_, rfl⟩
  have hg : ∀ n, W.get n = H.get n := fun n => by rw [hW]; rfl
  have hN : W.next = H.next := by rw [hW]
  have hE : ∀ G, Grow W G → Ext H G := fun G g => ⟨by rw [← hN]; exact g.next, fun n k => by rw [g.get n (by rw [hN]; exact k), hg]⟩
  have hG : Grow W W := Grow.refl (by rw [hW]; exact Nat.le_refl _)
  rw [← hW]
  have pc : cv.plain = true := by obtain ⟨vs, hR, _, _⟩ := hM; exact len_plain hR.len
  have pb : bv.plain = true := len_plain hU.len
  have ps : AV.plain (.agg [cv, I least]) = true := by simp [AV.plain, AV.plains, pc]
  have pu : AV.plain (.agg [I fr, bv]) = true := by simp [AV.plain, AV.plains, pb]
  have hlenb := hU.len
  have he := hB0
  have sr : spanR cols least fr us = (factorOf (sumB weak (bedsOf cols fr us)) (drive (bedsOf cols fr us)), factorOf (sumB strong (bedsOf cols fr us)) (drive (bedsOf cols fr us)), 0) := by unfold spanR; rw [if_pos hB0, if_neg hC]
  refine Ok.seq ?_
  refine Ok.region ?_
  refine OkO.box rfl rfl ?_
  refine OkO.box rfl rfl ?_
  refine OkO.assign rfl rfl ?_
  refine OkO.nil ?_
  refine Ok.seq ?_
  refine Ok.seq ?_
  refine Ok.region ?_
  refine OkO.load rfl rfl (loadAt_agg (n := 2) (by kernel_rfl) (by first | assumption | (simp (disch := first | omega | (simp only [Heap.next_new, Heap.next_put]; omega)) only [get_new_same, get_new_same1, get_new_same2, get_put_same, get_new_other, get_put_other] <;> first | rfl | assumption)) (by first | rfl | assumption)) ?_
  refine OkO.callV rfl rfl rfl rfl rfl (c16 (m + 8) cv cols least _ (hM.ext (hE _ (by (try dsimp only); repeat (first | exact hG | apply Grow.new | (refine Grow.put ?_ _ (by first | omega | (simp only [Heap.next_new, Heap.next_put]; omega)))))))) ?_ -- "sackung/sackunglaw01.Thin"
  refine OkO.un rfl rfl rfl ?_
  refine OkO.move rfl rfl ?_
  refine OkO.split (d := 11) rfl (fun g1 => ?_) (fun g1 => ?_)
  · -- true g1
    exact absurd g1 (by simp [hth])
  · -- false g1
    refine OkO.fieldAddr (o := 1) rfl (by kernel_rfl) rfl ?_
    refine OkO.load rfl rfl (loadAt_atom (n := 1) (by kernel_rfl) (by first | assumption | (simp (disch := first | omega | (simp only [Heap.next_new, Heap.next_put]; omega)) only [get_new_same, get_new_same1, get_new_same2, get_put_same, get_new_other, get_put_other] <;> first | rfl | assumption)) (by first | rfl | assumption)) ?_
    refine OkO.builtin rfl rfl rfl (builtin_len (by kernel_rfl) (by first | assumption | rfl)) ?_
    refine OkO.bin rfl rfl rfl (bin_gtr _ _) ?_
    refine OkO.pick (b := false) rfl rfl nofun (fun _ => rfl) ?_
    refine OkO.nil ?_
    refine Ok.cond rfl (fun h2 => ?_) (fun h2 => ?_)
    · -- yes h2
      exact absurd h2 (by simp; omega)
    · -- no h2
      refine Ok.skip ?_
      refine Ok.seq ?_
      refine Ok.drawn [(0, true, []), (2, true, []), (8, true, [2, 0]), (1, false, [2]), (3, false, [0]), (4, false, [2, 0]), (5, true, []), (6, true, []), (7, true, []), (9, false, []), (10, true, [])] (by kernel_rfl) ?_
      refine OkP.step ?_
      refine OkO.load rfl rfl (loadAt_agg (n := 2) (by kernel_rfl) (by first | assumption | (simp (disch := first | omega | (simp only [Heap.next_new, Heap.next_put]; omega)) only [get_new_same, get_new_same1, get_new_same2, get_put_same, get_new_other, get_put_other] <;> first | rfl | assumption)) (by first | rfl | assumption)) ?_
      refine OkO.nil ⟨rfl, ?_⟩
      refine OkP.step ?_
      refine OkO.load rfl rfl (loadAt_agg (n := 2) (by kernel_rfl) (by first | assumption | (simp (disch := first | omega | (simp only [Heap.next_new, Heap.next_put]; omega)) only [get_new_same, get_new_same1, get_new_same2, get_put_same, get_new_other, get_put_other] <;> first | rfl | assumption)) (by first | rfl | assumption)) ?_
      refine OkO.nil ⟨rfl, ?_⟩
      refine OkP.step ?_
      refine OkO.alloc (z := [.int .i64 0, .int .i64 0]) rfl (by kernel_rfl) ?_
      refine OkO.nil ⟨(stills_cons (still_load rfl rfl (loadAt_agg (n := 2) (by kernel_rfl) (by first | assumption | (simp (disch := first | omega | (simp only [Heap.next_new, Heap.next_put]; omega)) only [get_new_same, get_new_same1, get_new_same2, get_put_same, get_new_other, get_put_other] <;> first | rfl | assumption)) (by first | rfl | assumption)) rfl (eqv_refl _ (by first | rfl | exact ps | exact pu | exact len_plain (by assumption)))) (stills_cons (still_load rfl rfl (loadAt_agg (n := 2) (by kernel_rfl) (by first | assumption | (simp (disch := first | omega | (simp only [Heap.next_new, Heap.next_put]; omega)) only [get_new_same, get_new_same1, get_new_same2, get_put_same, get_new_other, get_put_other] <;> first | rfl | assumption)) (by first | rfl | assumption)) rfl (eqv_refl _ (by first | rfl | exact ps | exact pu | exact len_plain (by assumption)))) rfl)), ?_⟩
      refine OkP.step ?_
      refine OkO.callE rfl rfl rfl rfl rfl (c19 (m + 7) cv cols least _ (hM.ext (hE _ (by (try dsimp only); repeat (first | exact hG | apply Grow.new | (refine Grow.put ?_ _ (by first | omega | (simp only [Heap.next_new, Heap.next_put]; omega))))))) hth) ?_ -- "sackung/sackunglaw01.Slope"
      rintro _ H19 ⟨cv2, rfl, q19, f19⟩
      have g19 : Grow W H19 := Grow.ret (by (try dsimp only); repeat (first | exact hG | apply Grow.new | (refine Grow.put ?_ _ (by first | omega | (simp only [Heap.next_new, Heap.next_put]; omega))))) q19
      have n19 : W.next + 3 ≤ H19.next := by have := q19.ext.next; simpa using this
      have a19 : (H19.get W.next).bind AObj.cs = some [cv, I least] := by rw [q19.ext.get _ (by simp only [Heap.next_new]; omega)]; simp (disch := first | omega | (simp only [Heap.next_new, Heap.next_put]; omega)) only [get_new_same, get_new_same1, get_new_same2, get_put_same, get_new_other, get_put_other] <;> rfl
      have b19 : (H19.get (W.next + 1)).bind AObj.cs = some [I fr, bv] := by rw [q19.ext.get _ (by simp only [Heap.next_new]; omega)]; simp (disch := first | omega | (simp only [Heap.next_new, Heap.next_put]; omega)) only [get_new_same, get_new_same1, get_new_same2, get_put_same, get_new_other, get_put_other] <;> rfl
      have o19 : H19.get (W.next + 2) = some (.cells [I 0, I 0] 47) := by rw [q19.ext.get _ (by simp only [Heap.next_new]; omega)]; exact get_new_same2 _ _ _ _
      have m19 := f19.now (Nat.le_refl _)
      refine OkO.nil ⟨(stills_cons (still_load rfl rfl (loadAt_agg (n := 2) (by kernel_rfl) (by first | assumption | (simp (disch := first | omega | (simp only [Heap.next_new, Heap.next_put]; omega)) only [get_new_same, get_new_same1, get_new_same2, get_put_same, get_new_other, get_put_other] <;> first | rfl | assumption)) (by first | rfl | assumption)) rfl (eqv_refl _ (by first | rfl | exact ps | exact pu | exact len_plain (by assumption)))) rfl), ?_⟩
      refine OkP.step ?_
      refine OkO.callE rfl rfl rfl rfl rfl (c21 (m + 7) bv fr us _ (hU.ext (hE _ g19)) (by omega)) ?_ -- "sackung/sackunglaw01.Surface"
      rintro _ H21 ⟨bv2, rfl, q21, f21⟩
      have g21 : Grow W H21 := Grow.ret g19 q21
      have n21 : W.next + 3 ≤ H21.next := by have := q21.ext.next; omega
      have a21 : (H21.get W.next).bind AObj.cs = some [cv, I least] := by rw [q21.ext.get _ (by omega)]; exact a19
      have b21 : (H21.get (W.next + 1)).bind AObj.cs = some [I fr, bv] := by rw [q21.ext.get _ (by omega)]; exact b19
      have o21 : H21.get (W.next + 2) = some (.cells [I 0, I 0] 47) := by rw [q21.ext.get _ (by omega)]; exact o19
      have m21 := m19.ext q21.ext
      have i21 := f21.now (Nat.le_refl _)
      have HS := sr
      refine OkO.nil ⟨(stills_cons (still_load rfl rfl (loadAt_agg (n := 2) (by kernel_rfl) (by first | assumption | (simp (disch := first | omega | (simp only [Heap.next_new, Heap.next_put]; omega)) only [get_new_same, get_new_same1, get_new_same2, get_put_same, get_new_other, get_put_other] <;> first | rfl | assumption)) (by first | rfl | assumption)) rfl (eqv_refl _ (by first | rfl | exact ps | exact pu | exact len_plain (by assumption)))) rfl), ?_⟩
      refine OkP.step ?_
      have hsp := c27 m cv2 bv2 cols least fr us H21 m21 i21.1 i21.2 (by omega)
      rw [sr] at hsp
      refine OkO.callV rfl rfl rfl rfl rfl (hsp) ?_ -- "sackung/slope.Span"
      refine OkO.nil ⟨(stills_cons (still_load rfl rfl (loadAt_agg (n := 2) (by kernel_rfl) (by first | assumption | (simp (disch := first | omega | (simp only [Heap.next_new, Heap.next_put]; omega)) only [get_new_same, get_new_same1, get_new_same2, get_put_same, get_new_other, get_put_other] <;> first | rfl | assumption)) (by first | rfl | assumption)) rfl (eqv_refl _ (by first | rfl | exact ps | exact pu | exact len_plain (by assumption)))) (stills_cons (still_load rfl rfl (loadAt_agg (n := 2) (by kernel_rfl) (by first | assumption | (simp (disch := first | omega | (simp only [Heap.next_new, Heap.next_put]; omega)) only [get_new_same, get_new_same1, get_new_same2, get_put_same, get_new_other, get_put_other] <;> first | rfl | assumption)) (by first | rfl | assumption)) rfl (eqv_refl _ (by first | rfl | exact ps | exact pu | exact len_plain (by assumption)))) rfl)), ?_⟩
      refine OkP.step ?_
      refine OkO.move rfl rfl ?_
      refine OkO.nil ⟨rfl, ?_⟩
      refine OkP.step ?_
      refine OkO.extract rfl rfl rfl ?_
      refine OkO.nil ⟨rfl, ?_⟩
      refine OkP.step ?_
      refine OkO.extract rfl rfl rfl ?_
      refine OkO.nil ⟨rfl, ?_⟩
      refine OkP.step ?_
      refine OkO.store rfl rfl rfl (storeAt_cells (n := 2) (ag := true) (by kernel_rfl) (by first | assumption | (simp (disch := first | omega | (simp only [Heap.next_new, Heap.next_put]; omega)) only [get_new_same, get_new_same1, get_new_same2, get_put_same, get_new_other, get_put_other] <;> first | rfl | assumption)) rfl rfl rfl) ?_
      refine OkO.nil ⟨rfl, ?_⟩
      refine OkP.step ?_
      refine OkO.assign rfl rfl ?_
      refine OkO.nil ⟨rfl, ?_⟩
      refine OkP.nil ?_
      refine Ok.seq ?_
      refine Ok.region ?_
      refine OkO.load rfl rfl (loadAt_agg (n := 2) (by kernel_rfl) (by first | assumption | (simp (disch := first | omega | (simp only [Heap.next_new, Heap.next_put]; omega)) only [get_new_same, get_new_same1, get_new_same2, get_put_same, get_new_other, get_put_other] <;> first | rfl | assumption)) (by first | rfl | assumption)) ?_
      refine OkO.load rfl rfl (loadAt_agg (n := 2) (by kernel_rfl) (by first | assumption | (simp (disch := first | omega | (simp only [Heap.next_new, Heap.next_put]; omega)) only [get_new_same, get_new_same1, get_new_same2, get_put_same, get_new_other, get_put_other] <;> first | rfl | assumption)) (by first | rfl | assumption)) ?_
      refine OkO.callV rfl rfl rfl rfl rfl (c24 (m + 6) cv bv cols least fr us _ (hM.ext (hE _ (by (try dsimp only); repeat (first | exact g21 | apply Grow.new | (refine Grow.put ?_ _ (by first | omega | (simp only [Heap.next_new, Heap.next_put]; omega))))))) (hU.ext (hE _ (by (try dsimp only); repeat (first | exact g21 | apply Grow.new | (refine Grow.put ?_ _ (by first | omega | (simp only [Heap.next_new, Heap.next_put]; omega))))))) (by omega)) ?_ -- "sackung/sackunglaw01.fault"
      refine OkO.assign rfl rfl ?_
      refine OkO.nil ?_
      refine Ok.seq ?_
      refine Ok.seq ?_
      refine Ok.region ?_
      refine OkO.move rfl rfl ?_
      refine OkO.bin rfl rfl rfl (bin_eql _ _) ?_
      refine OkO.move rfl rfl ?_
      refine OkO.split (d := 31) rfl (fun g3 => ?_) (fun g3 => ?_)
      · -- true g3
        have hok : slOk cols least = true := by cases hs : slOk cols least with | true => rfl | false => simp [surfErr, hs] at he
        have hsf : surfB cols least fr us = true := by cases hs : surfB cols least fr us with | true => rfl | false => simp [surfErr, hok, hs] at he
        obtain ⟨f0, us2, hf0, hus, hp, hLok, hf12, hu12, hu1⟩ := surf_facts hok hsf
        have hU2 : Row H bv 1 (us2.map fun (n : Nat) => [I (n : Int)]) := by have h9 := hU; unfold Ints at h9; rw [hus, List.map_map] at h9; exact h9
        subst hf0
        have hrw := ref_weak hC
        have hrs := ref_strong hC
        have hnn := factorOf_nn (sumB_bd weak _ (fun b hb => weak_bd (hLok b hb))).1 hC
        refine OkO.load rfl rfl (loadAt_agg (n := 2) (by kernel_rfl) (by first | assumption | (simp (disch := first | omega | (simp only [Heap.next_new, Heap.next_put]; omega)) only [get_new_same, get_new_same1, get_new_same2, get_put_same, get_new_other, get_put_other] <;> first | rfl | assumption)) (by first | rfl | assumption)) ?_
        refine OkO.load rfl rfl (loadAt_agg (n := 2) (by kernel_rfl) (by first | assumption | (simp (disch := first | omega | (simp only [Heap.next_new, Heap.next_put]; omega)) only [get_new_same, get_new_same1, get_new_same2, get_put_same, get_new_other, get_put_other] <;> first | rfl | assumption)) (by first | rfl | assumption)) ?_
        refine OkO.callV rfl rfl rfl rfl rfl (c28 (m + 6) cv bv cols least f0 us2 _ _ (hM.ext (hE _ (by (try dsimp only); repeat (first | exact g21 | apply Grow.new | (refine Grow.put ?_ _ (by first | omega | (simp only [Heap.next_new, Heap.next_put]; omega))))))) (hU2.ext (hE _ (by (try dsimp only); repeat (first | exact g21 | apply Grow.new | (refine Grow.put ?_ _ (by first | omega | (simp only [Heap.next_new, Heap.next_put]; omega))))))) hp (by omega) (by omega) hLok) ?_ -- "sackung/sackungref01.Span"
        refine OkO.field (ag := false) (o := 0) (n := 1) rfl (by kernel_rfl) rfl rfl ?_
        refine OkO.bin rfl rfl rfl (bin_lss _ _) ?_
        refine OkO.pick (b := true) rfl rfl (fun _ => rfl) nofun ?_
        refine OkO.nil ?_
        refine Ok.cond rfl (fun h4 => ?_) (fun h4 => ?_)
        · -- yes h4
          exact absurd h4 (by rw [hrw]; simp; omega)
        · -- no h4
          refine Ok.skip ?_
          refine Ok.seq ?_
          refine Ok.seq ?_
          refine Ok.region ?_
          refine OkO.move rfl rfl ?_
          refine OkO.bin rfl rfl rfl (bin_neq _ _) ?_
          refine OkO.nil ?_
          refine Ok.cond rfl (fun h5 => ?_) (fun h5 => ?_)
          · -- yes h5
            exact absurd h5 (by rw [hB0]; simp)
          · -- no h5
            refine Ok.skip ?_
            refine Ok.seq ?_
            refine Ok.drawn [(0, true, []), (1, true, []), (2, true, []), (3, true, []), (4, true, []), (5, true, []), (6, false, [3]), (7, false, [5, 4, 3]), (8, true, []), (9, true, []), (10, true, []), (11, false, [5, 4, 3]), (12, true, []), (13, true, [])] (by kernel_rfl) ?_
            refine OkP.step ?_
            refine OkO.move rfl rfl ?_
            refine OkO.nil ⟨rfl, ?_⟩
            refine OkP.step ?_
            refine OkO.bin rfl rfl rfl (bin_eql _ _) ?_
            refine OkO.nil ⟨rfl, ?_⟩
            refine OkP.step ?_
            refine OkO.move rfl rfl ?_
            refine OkO.nil ⟨rfl, ?_⟩
            refine OkP.split (d := 53) rfl (fun g6 => ?_) (fun g6 => ?_)
            · -- true g6
              refine OkP.step ?_
              refine OkO.load rfl rfl (loadAt_agg (n := 2) (by kernel_rfl) (by first | assumption | (simp (disch := first | omega | (simp only [Heap.next_new, Heap.next_put]; omega)) only [get_new_same, get_new_same1, get_new_same2, get_put_same, get_new_other, get_put_other] <;> first | rfl | assumption)) (by first | rfl | assumption)) ?_
              refine OkO.nil ⟨rfl, ?_⟩
              refine OkP.step ?_
              refine OkO.load rfl rfl (loadAt_agg (n := 2) (by kernel_rfl) (by first | assumption | (simp (disch := first | omega | (simp only [Heap.next_new, Heap.next_put]; omega)) only [get_new_same, get_new_same1, get_new_same2, get_put_same, get_new_other, get_put_other] <;> first | rfl | assumption)) (by first | rfl | assumption)) ?_
              refine OkO.nil ⟨rfl, ?_⟩
              refine OkP.step ?_
              refine OkO.load rfl rfl (loadAt_agg (n := 2) (by kernel_rfl) (by first | assumption | (simp (disch := first | omega | (simp only [Heap.next_new, Heap.next_put]; omega)) only [get_new_same, get_new_same1, get_new_same2, get_put_same, get_new_other, get_put_other] <;> first | rfl | assumption)) (by first | rfl | assumption)) ?_
              refine OkO.nil ⟨rfl, ?_⟩
              refine OkP.step ?_
              refine OkO.callV rfl rfl rfl rfl rfl (c28 (m + 6) cv bv cols least f0 us2 _ _ (hM.ext (hE _ (by (try dsimp only); repeat (first | exact g21 | apply Grow.new | (refine Grow.put ?_ _ (by first | omega | (simp only [Heap.next_new, Heap.next_put]; omega))))))) (hU2.ext (hE _ (by (try dsimp only); repeat (first | exact g21 | apply Grow.new | (refine Grow.put ?_ _ (by first | omega | (simp only [Heap.next_new, Heap.next_put]; omega))))))) hp (by omega) (by omega) hLok) ?_ -- "sackung/sackungref01.Span"
              refine OkO.nil ⟨(stills_cons (still_load rfl rfl (loadAt_agg (n := 2) (by kernel_rfl) (by first | assumption | (simp (disch := first | omega | (simp only [Heap.next_new, Heap.next_put]; omega)) only [get_new_same, get_new_same1, get_new_same2, get_put_same, get_new_other, get_put_other] <;> first | rfl | assumption)) (by first | rfl | assumption)) rfl (eqv_refl _ (by first | rfl | exact ps | exact pu | exact len_plain (by assumption)))) rfl), ?_⟩
              refine OkP.step ?_
              refine OkO.callV rfl rfl rfl rfl rfl (c29 (m + 8) _ _ _) ?_ -- "sackung/sackunglaw01.to"
              refine OkO.nil ⟨(stills_cons (still_load rfl rfl (loadAt_agg (n := 2) (by kernel_rfl) (by first | assumption | (simp (disch := first | omega | (simp only [Heap.next_new, Heap.next_put]; omega)) only [get_new_same, get_new_same1, get_new_same2, get_put_same, get_new_other, get_put_other] <;> first | rfl | assumption)) (by first | rfl | assumption)) rfl (eqv_refl _ (by first | rfl | exact ps | exact pu | exact len_plain (by assumption)))) (stills_cons (still_load rfl rfl (loadAt_agg (n := 2) (by kernel_rfl) (by first | assumption | (simp (disch := first | omega | (simp only [Heap.next_new, Heap.next_put]; omega)) only [get_new_same, get_new_same1, get_new_same2, get_put_same, get_new_other, get_put_other] <;> first | rfl | assumption)) (by first | rfl | assumption)) rfl (eqv_refl _ (by first | rfl | exact ps | exact pu | exact len_plain (by assumption)))) (stills_cons (still_load rfl rfl (loadAt_agg (n := 2) (by kernel_rfl) (by first | assumption | (simp (disch := first | omega | (simp only [Heap.next_new, Heap.next_put]; omega)) only [get_new_same, get_new_same1, get_new_same2, get_put_same, get_new_other, get_put_other] <;> first | rfl | assumption)) (by first | rfl | assumption)) rfl (eqv_refl _ (by first | rfl | exact ps | exact pu | exact len_plain (by assumption)))) rfl))), ?_⟩
              refine OkP.step ?_
              refine OkO.binT rfl rfl rfl (eq47 _ _ _ _) ?_
              refine OkO.nil ⟨rfl, ?_⟩
              refine OkP.step ?_
              refine OkO.pick (b := true) rfl rfl (fun _ => rfl) nofun ?_
              refine OkO.nil ⟨rfl, ?_⟩
              refine OkP.step ?_
              refine OkO.move rfl rfl ?_
              refine OkO.nil ⟨rfl, ?_⟩
              refine OkP.split (d := 61) rfl (fun g7 => ?_) (fun g7 => ?_)
              · -- true g7
                refine OkP.step ?_
                refine OkO.callV rfl rfl rfl rfl rfl (rfl) ?_ -- "sackung/sackunglaw01.wakes"
                refine OkO.nil ⟨(stills_cons (still_load rfl rfl (loadAt_agg (n := 2) (by kernel_rfl) (by first | assumption | (simp (disch := first | omega | (simp only [Heap.next_new, Heap.next_put]; omega)) only [get_new_same, get_new_same1, get_new_same2, get_put_same, get_new_other, get_put_other] <;> first | rfl | assumption)) (by first | rfl | assumption)) rfl (eqv_refl _ (by first | rfl | exact ps | exact pu | exact len_plain (by assumption)))) (stills_cons (still_load rfl rfl (loadAt_agg (n := 2) (by kernel_rfl) (by first | assumption | (simp (disch := first | omega | (simp only [Heap.next_new, Heap.next_put]; omega)) only [get_new_same, get_new_same1, get_new_same2, get_put_same, get_new_other, get_put_other] <;> first | rfl | assumption)) (by first | rfl | assumption)) rfl (eqv_refl _ (by first | rfl | exact ps | exact pu | exact len_plain (by assumption)))) (stills_cons (still_load rfl rfl (loadAt_agg (n := 2) (by kernel_rfl) (by first | assumption | (simp (disch := first | omega | (simp only [Heap.next_new, Heap.next_put]; omega)) only [get_new_same, get_new_same1, get_new_same2, get_put_same, get_new_other, get_put_other] <;> first | rfl | assumption)) (by first | rfl | assumption)) rfl (eqv_refl _ (by first | rfl | exact ps | exact pu | exact len_plain (by assumption)))) rfl))), ?_⟩
                refine OkP.step ?_
                refine OkO.pick (b := true) rfl rfl (fun _ => rfl) nofun ?_
                refine OkO.nil ⟨rfl, ?_⟩
                refine OkP.step ?_
                refine OkO.assign rfl rfl ?_
                refine OkO.nil ⟨rfl, ?_⟩
                refine OkP.nil ?_
                refine Ok.ret ⟨.inr rfl, ?_⟩
                exact back_flat rfl rfl rfl (by rw [← hW]; exact (by (try dsimp only); repeat (first | exact g21 | apply Grow.new | (refine Grow.put ?_ _ (by first | omega | (simp only [Heap.next_new, Heap.next_put]; omega))))))
              · -- false g7
                exact absurd g7 (by rw [hrw, hrs]; simp)
            · -- false g6
              exact absurd g6 (by simp)
      · -- false g3
        exact absurd hB0 (by simpa using g3)
end
end Go.Ev
