/-
  Functions of the program, reckoned by the evaluator: what each answers, in the document's words, and that it leaves what came in as it was (part 8).
-/
import Derived.Test.YtfhomicfhgiidaaG7
set_option maxRecDepth 100000
set_option linter.unusedSimpArgs false
set_option linter.unusedVariables false
namespace Go.Ev
open Go Go.Proofs
noncomputable section
theorem c27 (m : Nat) (cv bv : AV) (cols : List (List Bed)) (least fr : Int) (us : List Int) (H : Heap) (hM : Mat H cv cols) (hU : Ints H bv us) (hcut : Cut H bv 1) (hbig : us.length ≤ 1000000) : RR (m + 9) (.fn 27 [.agg [cv, I least], .agg [I fr, bv]]) H = some (.tup [.agg [I (spanR cols least fr us).1, I (spanR cols least fr us).2.1], I (spanR cols least fr us).2.2], H) := by
  refine (R_fn _ _ _ _ _).trans ?_
  refine fn_ok Try.func27 rfl rfl (by kernel_rfl) (by kernel_rfl) ?_
  obtain ⟨W, hW⟩ : ∃ W : Heap, W = ⟨H.t, H.next, H.next⟩ := ⟨_, rfl⟩
  have hg : ∀ n, W.get n = H.get n := fun n => by rw [hW]; rfl
  have hN : W.next = H.next := by rw [hW]
  have hE : ∀ G, Grow W G → Ext H G := fun G g => ⟨by rw [← hN]; exact g.next, fun n k => by rw [g.get n (by rw [hN]; exact k), hg]⟩
  have hG : Grow W W := Grow.refl (by rw [hW]; exact Nat.le_refl _)
  rw [← hW]
  refine Ok.seq ?_
  refine Ok.region ?_
  refine OkO.box rfl rfl ?_
  refine OkO.box rfl rfl ?_
  refine OkO.alloc (z := [.int .i64 0, .int .i64 0]) rfl (by kernel_rfl) ?_
  refine OkO.assign rfl rfl ?_
  refine OkO.nil ?_
  refine Ok.seq ?_
  refine Ok.seq ?_
  refine Ok.region ?_
  refine OkO.load rfl rfl (loadAt_agg (n := 2) (by kernel_rfl) (by first | assumption | (simp (disch := first | omega | (simp only [Heap.next_new, Heap.next_put]; omega)) only [get_new_same, get_new_same1, get_new_same2, get_put_same, get_new_other, get_put_other] <;> first | rfl | assumption)) (by first | rfl | assumption)) ?_
  refine OkO.load rfl rfl (loadAt_agg (n := 2) (by kernel_rfl) (by first | assumption | (simp (disch := first | omega | (simp only [Heap.next_new, Heap.next_put]; omega)) only [get_new_same, get_new_same1, get_new_same2, get_put_same, get_new_other, get_put_other] <;> first | rfl | assumption)) (by first | rfl | assumption)) ?_
  refine OkO.callV rfl rfl rfl rfl rfl (c58 m cv bv cols least fr us _ (hM.ext (hE _ (by (try dsimp only); repeat (first | exact hG | apply Grow.new | (refine Grow.put ?_ _ (by first | omega | (simp only [Heap.next_new, Heap.next_put]; omega))))))) (hU.ext (hE _ (by (try dsimp only); repeat (first | exact hG | apply Grow.new | (refine Grow.put ?_ _ (by first | omega | (simp only [Heap.next_new, Heap.next_put]; omega))))))) (hcut.ext (hE _ (by (try dsimp only); repeat (first | exact hG | apply Grow.new | (refine Grow.put ?_ _ (by first | omega | (simp only [Heap.next_new, Heap.next_put]; omega))))))) hbig) ?_ -- "sackung/slope.checkSurface"
  refine OkO.assign rfl rfl ?_
  refine OkO.nil ?_
  refine Ok.seq ?_
  refine Ok.region ?_
  refine OkO.move rfl rfl ?_
  refine OkO.bin rfl rfl rfl (bin_neq _ _) ?_
  refine OkO.nil ?_
  refine Ok.cond rfl (fun h1 => ?_) (fun h1 => ?_)
  · -- yes h1
    have he : ¬ surfErr cols least fr us = 0 := by simpa using h1
    refine Ok.seq ?_
    refine Ok.region ?_
    refine OkO.build (z := [.int .i64 0, .int .i64 0]) (pl := [(0, 1), (1, 1)]) rfl (by kernel_rfl) rfl rfl ?_
    refine OkO.move rfl rfl ?_
    refine OkO.store rfl rfl rfl (storeAt_cells (n := 2) (ag := true) (by kernel_rfl) (by first | assumption | (simp (disch := first | omega | (simp only [Heap.next_new, Heap.next_put]; omega)) only [get_new_same, get_new_same1, get_new_same2, get_put_same, get_new_other, get_put_other] <;> first | rfl | assumption)) rfl rfl rfl) ?_
    refine OkO.assign rfl rfl ?_
    refine OkO.nil ?_
    refine Ok.ret ⟨.inr rfl, ?_⟩
    have hr : spanR cols least fr us = (0, 0, surfErr cols least fr us) := by unfold spanR; rw [if_neg he]
    exact back_flat (resV_cell rfl (loadAt_agg (n := 2) (by kernel_rfl) (by first | assumption | (simp (disch := first | omega | (simp only [Heap.next_new, Heap.next_put]; omega)) only [get_new_same, get_new_same1, get_new_same2, get_put_same, get_new_other, get_put_other] <;> first | rfl | assumption)) (by first | rfl | assumption)) (resV_tmp rfl resV_nil)) (by rw [hr]; rfl) rfl (by rw [← hW]; exact (by (try dsimp only); repeat (first | exact hG | apply Grow.new | (refine Grow.put ?_ _ (by first | omega | (simp only [Heap.next_new, Heap.next_put]; omega))))))
  · -- no h1
    have he : surfErr cols least fr us = 0 := by simpa using h1
    have hok : slOk cols least = true := by cases hs : slOk cols least with | true => rfl | false => simp [surfErr, hs] at he
    have hsf : surfB cols least fr us = true := by cases hs : surfB cols least fr us with | true => rfl | false => simp [surfErr, hok, hs] at he
    obtain ⟨f0, us2, hf0, hus, hp, hLok, hf12, hu12, hu1⟩ := surf_facts hok hsf
    obtain ⟨L, hL⟩ : ∃ L, L = bedsOf cols fr us := ⟨_, rfl⟩
    rw [← hL] at hp hLok
    have hLl : L.length ≤ 12 := by rw [hp.1]; exact hu12
    have hspan : spanR cols least fr us = if drive L < 1 then (0, 0, 7) else (factorOf (sumB weak L) (drive L), factorOf (sumB strong L) (drive L), 0) := by unfold spanR; rw [if_pos he, ← hL]
    have hdr : ∀ b ∈ L, -100000 ≤ b.dr ∧ b.dr ≤ 100000 := fun b hb => by have := Bed.ok_lim (hLok b hb); unfold Bed.lim at this; omega
    have hU2 : Row H bv 1 (us2.map fun (n : Nat) => [I (n : Int)]) := by have h9 := hU; unfold Ints at h9; rw [hus, List.map_map] at h9; exact h9
    subst hf0
    refine Ok.skip ?_
    refine Ok.seq ?_
    refine Ok.region ?_
    refine OkO.load rfl rfl (loadAt_agg (n := 2) (by kernel_rfl) (by first | assumption | (simp (disch := first | omega | (simp only [Heap.next_new, Heap.next_put]; omega)) only [get_new_same, get_new_same1, get_new_same2, get_put_same, get_new_other, get_put_other] <;> first | rfl | assumption)) (by first | rfl | assumption)) ?_
    refine OkO.load rfl rfl (loadAt_agg (n := 2) (by kernel_rfl) (by first | assumption | (simp (disch := first | omega | (simp only [Heap.next_new, Heap.next_put]; omega)) only [get_new_same, get_new_same1, get_new_same2, get_put_same, get_new_other, get_put_other] <;> first | rfl | assumption)) (by first | rfl | assumption)) ?_
    refine OkO.callE rfl rfl rfl rfl rfl (c59 (m + 7) cv bv cols least f0 us2 L _ (hM.ext (hE _ (by (try dsimp only); repeat (first | exact hG | apply Grow.new | (refine Grow.put ?_ _ (by first | omega | (simp only [Heap.next_new, Heap.next_put]; omega))))))) (hU2.ext (hE _ (by (try dsimp only); repeat (first | exact hG | apply Grow.new | (refine Grow.put ?_ _ (by first | omega | (simp only [Heap.next_new, Heap.next_put]; omega))))))) hp (by omega) (by omega)) ?_ -- "(sackung/slope.Slope).bedsOf"
    rintro v59 H59 ⟨q1, r59⟩
    have g59 : Grow W H59 := Grow.ret (by (try dsimp only); repeat (first | exact hG | apply Grow.new | (refine Grow.put ?_ _ (by first | omega | (simp only [Heap.next_new, Heap.next_put]; omega))))) q1
    have hn59 : W.next + 3 ≤ H59.next := by have := q1.ext.next; simpa using this
    have o59 : H59.get (W.next + 2) = some (.cells [I 0, I 0] 47) := by rw [q1.ext.get _ (by simp)]; exact get_new_same2 _ _ _ _
    have hlen59 : lenOf v59 = some L.length := by simpa using r59.len
    refine OkO.assign rfl rfl ?_
    refine OkO.nil ?_
    refine Ok.seq ?_
    refine Ok.seq ?_
    refine Ok.region ?_
    refine OkO.move rfl rfl ?_
    refine OkO.callV rfl rfl rfl rfl rfl (c61 (m + 7) v59 L _ r59 (by omega) hdr) ?_ -- "sackung/slope.driveOf"
    refine OkO.bin rfl rfl rfl (bin_lss _ _) ?_
    refine OkO.nil ?_
    refine Ok.cond rfl (fun h2 => ?_) (fun h2 => ?_)
    · -- yes h2
      have hd2 : drive L < 1 := by simpa using h2
      refine Ok.seq ?_
      refine Ok.region ?_
      refine OkO.build (z := [.int .i64 0, .int .i64 0]) (pl := [(0, 1), (1, 1)]) rfl (by kernel_rfl) rfl rfl ?_
      refine OkO.store rfl rfl rfl (storeAt_cells (n := 2) (ag := true) (by kernel_rfl) (by first | assumption | (simp (disch := first | omega | (simp only [Heap.next_new, Heap.next_put]; omega)) only [get_new_same, get_new_same1, get_new_same2, get_put_same, get_new_other, get_put_other] <;> first | rfl | assumption)) rfl rfl rfl) ?_
      refine OkO.assign rfl rfl ?_
      refine OkO.nil ?_
      refine Ok.ret ⟨.inr rfl, ?_⟩
      exact back_flat (resV_cell rfl (loadAt_agg (n := 2) (by kernel_rfl) (by first | assumption | (simp (disch := first | omega | (simp only [Heap.next_new, Heap.next_put]; omega)) only [get_new_same, get_new_same1, get_new_same2, get_put_same, get_new_other, get_put_other] <;> first | rfl | assumption)) (by first | rfl | assumption)) (resV_tmp rfl resV_nil)) (by rw [hspan, if_pos hd2]; rfl) rfl (by rw [← hW]; exact (by (try dsimp only); repeat (first | exact hG | exact hg | exact g59 | apply Grow.new | (refine Grow.put ?_ _ (by first | omega | (simp only [Heap.next_new, Heap.next_put]; omega))))))
    · -- no h2
      have hd2 : ¬ drive L < 1 := by simpa using h2
      refine Ok.skip ?_
      refine Ok.seq ?_
      refine Ok.region ?_
      refine OkO.assign rfl rfl ?_
      refine OkO.assign rfl rfl ?_
      refine OkO.nil ?_
      refine Ok.seq ?_
      refine Ok.seq ?_
      refine Ok.region ?_
      refine OkO.move rfl rfl ?_
      refine OkO.builtin rfl rfl rfl (builtin_len (by kernel_rfl) (by first | assumption | rfl)) ?_
      refine OkO.move rfl rfl ?_
      refine OkO.nil ?_
      refine Ok.block ?_
      refine Ok.loop (fun n s => ∃ (i : Nat), n = L.length - i ∧ i ≤ L.length ∧ Has 6 [(4, .ptr (W.next + 2) 0), (7, v59), (8, I (sumB weak (L.take i))), (9, I (sumB strong (L.take i))), (26, v59), (27, I L.length), (28, I (i : Int))] s.T ∧ s.D = [] ∧ Grow W s.H ∧ Ext H59 s.H ∧ s.H.get (W.next + 2) = some (.cells [I 0, I 0] 47)) (L.length) (by unfold loopFuel; omega)
        ⟨0, rfl, Nat.zero_le _, Has.of (by kernel_rfl), rfl, g59, Ext.refl _, o59⟩ ?_
      rintro n ⟨T, D, G⟩ ⟨i, hn, hi, ⟨f, hT⟩, hD, hg, hx, ho⟩
      dsimp only at *
      subst hT hD
      have hgn := hg.next
      have hxn := hx.next
      refine Ok.seq ?_
      refine Ok.region ?_
      refine OkO.bin rfl rfl rfl (bin_lss _ _) ?_
      refine OkO.nil ?_
      refine Ok.seq ?_
      refine Ok.cond rfl (fun h3 => ?_) (fun h3 => ?_)
      · -- yes h3
        have hlt : i < L.length := by simpa using h3
        have hbo := hLok L[i] (List.getElem_mem hlt)
        have hlim := Bed.ok_lim hbo
        unfold Bed.lim at hlim
        have hw1 := weak_bd hbo
        have hw2 := strong_bd hbo
        have hs1 := sumB_bd weak (L.take i) (fun b hb => weak_bd (hLok b (List.mem_of_mem_take hb)))
        have hs2 := sumB_bd strong (L.take i) (fun b hb => strong_bd (hLok b (List.mem_of_mem_take hb)))
        have hs3 : (L.take i).length ≤ 12 := by simp; omega
        obtain ⟨bb, off, cs, i1, i2, i3, i4⟩ := (r59.ext hx).at_ i L[i].c (by simp [hlt])
        have hne : bb ≠ G.next := by omega
        have ew : weak L[i] = holds L[i].no L[i].fl L[i].cl L[i].wh := rfl
        have es : strong L[i] = holds L[i].no L[i].fh L[i].ch L[i].wl := rfl
        refine Ok.skip ?_
        refine Ok.seq ?_
        refine Ok.block ?_
        refine Ok.seq ?_
        refine Ok.region ?_
        refine OkO.index (sz := 8) (n := i) rfl rfl rfl (by kernel_rfl) (by first | assumption | rfl) ?_ -- index ('Go.Operand.tmp', 26) ('Go.Operand.tmp', 28)
        refine OkO.load rfl rfl (loadAt_agg (n := 8) (by kernel_rfl) (by first | assumption | (simp (disch := first | omega | (simp only [Heap.next_new, Heap.next_put]; omega)) only [get_new_same, get_new_same1, get_new_same2, get_put_same, get_new_other, get_put_other] <;> first | rfl | assumption)) (by first | rfl | assumption)) ?_
        refine OkO.alloc (z := [.int .i64 0, .int .i64 0, .int .i64 0, .int .i64 0, .int .i64 0, .int .i64 0, .int .i64 0, .int .i64 0]) rfl (by kernel_rfl) ?_
        refine OkO.store rfl rfl rfl (storeAt_cells (n := 8) (ag := true) (by kernel_rfl) (by first | assumption | (simp (disch := first | omega | (simp only [Heap.next_new, Heap.next_put]; omega)) only [get_new_same, get_new_same1, get_new_same2, get_put_same, get_new_other, get_put_other] <;> first | rfl | assumption)) rfl rfl rfl) ?_
        refine OkO.nil ?_
        refine Ok.seq ?_
        refine Ok.drawn [(0, true, []), (1, true, []), (2, true, []), (3, false, [1]), (4, false, [2]), (5, true, []), (6, false, [])] (by kernel_rfl) ?_
        refine OkP.step ?_
        refine OkO.move rfl rfl ?_
        refine OkO.nil ⟨rfl, ?_⟩
        refine OkP.step ?_
        refine OkO.load rfl rfl (loadAt_agg (n := 8) (by kernel_rfl) (by first | assumption | (simp (disch := first | omega | (simp only [Heap.next_new, Heap.next_put]; omega)) only [get_new_same, get_new_same1, get_new_same2, get_put_same, get_new_other, get_put_other] <;> first | rfl | assumption)) (by first | rfl | assumption)) ?_
        refine OkO.nil ⟨rfl, ?_⟩
        refine OkP.step ?_
        refine OkO.load rfl rfl (loadAt_agg (n := 8) (by kernel_rfl) (by first | assumption | (simp (disch := first | omega | (simp only [Heap.next_new, Heap.next_put]; omega)) only [get_new_same, get_new_same1, get_new_same2, get_put_same, get_new_other, get_put_other] <;> first | rfl | assumption)) (by first | rfl | assumption)) ?_
        refine OkO.nil ⟨rfl, ?_⟩
        refine OkP.step ?_
        refine OkO.callV rfl rfl rfl rfl rfl (c66 (m + 5) L[i] _) ?_ -- "(sackung/slope.Bed).weakest"
        refine OkO.nil ⟨(stills_cons (still_load rfl rfl (loadAt_agg (n := 8) (by kernel_rfl) (by first | assumption | (simp (disch := first | omega | (simp only [Heap.next_new, Heap.next_put]; omega)) only [get_new_same, get_new_same1, get_new_same2, get_put_same, get_new_other, get_put_other] <;> first | rfl | assumption)) (by first | rfl | assumption)) rfl (eqv_refl _ (by first | rfl | exact len_plain (by assumption)))) rfl), ?_⟩
        refine OkP.step ?_
        refine OkO.callV rfl rfl rfl rfl rfl (c62 (m + 7) L[i] _ _ _ _ (by omega) (by omega) (by omega) (by omega)) ?_ -- "(sackung/slope.Bed).holds"
        refine OkO.nil ⟨(stills_cons (still_load rfl rfl (loadAt_agg (n := 8) (by kernel_rfl) (by first | assumption | (simp (disch := first | omega | (simp only [Heap.next_new, Heap.next_put]; omega)) only [get_new_same, get_new_same1, get_new_same2, get_put_same, get_new_other, get_put_other] <;> first | rfl | assumption)) (by first | rfl | assumption)) rfl (eqv_refl _ (by first | rfl | exact len_plain (by assumption)))) rfl), ?_⟩
        refine OkP.step ?_
        refine OkO.bin rfl rfl rfl (bin_add (by omega) (by omega)) ?_
        refine OkO.nil ⟨rfl, ?_⟩
        refine OkP.step ?_
        refine OkO.assign rfl rfl ?_
        refine OkO.nil ⟨rfl, ?_⟩
        refine OkP.nil ?_
        refine Ok.drawn [(0, true, []), (1, true, []), (2, true, []), (3, false, [1]), (4, false, [2]), (5, true, []), (6, false, [])] (by kernel_rfl) ?_
        refine OkP.step ?_
        refine OkO.move rfl rfl ?_
        refine OkO.nil ⟨rfl, ?_⟩
        refine OkP.step ?_
        refine OkO.load rfl rfl (loadAt_agg (n := 8) (by kernel_rfl) (by first | assumption | (simp (disch := first | omega | (simp only [Heap.next_new, Heap.next_put]; omega)) only [get_new_same, get_new_same1, get_new_same2, get_put_same, get_new_other, get_put_other] <;> first | rfl | assumption)) (by first | rfl | assumption)) ?_
        refine OkO.nil ⟨rfl, ?_⟩
        refine OkP.step ?_
        refine OkO.load rfl rfl (loadAt_agg (n := 8) (by kernel_rfl) (by first | assumption | (simp (disch := first | omega | (simp only [Heap.next_new, Heap.next_put]; omega)) only [get_new_same, get_new_same1, get_new_same2, get_put_same, get_new_other, get_put_other] <;> first | rfl | assumption)) (by first | rfl | assumption)) ?_
        refine OkO.nil ⟨rfl, ?_⟩
        refine OkP.step ?_
        refine OkO.callV rfl rfl rfl rfl rfl (c67 (m + 5) L[i] _) ?_ -- "(sackung/slope.Bed).strongest"
        refine OkO.nil ⟨(stills_cons (still_load rfl rfl (loadAt_agg (n := 8) (by kernel_rfl) (by first | assumption | (simp (disch := first | omega | (simp only [Heap.next_new, Heap.next_put]; omega)) only [get_new_same, get_new_same1, get_new_same2, get_put_same, get_new_other, get_put_other] <;> first | rfl | assumption)) (by first | rfl | assumption)) rfl (eqv_refl _ (by first | rfl | exact len_plain (by assumption)))) rfl), ?_⟩
        refine OkP.step ?_
        refine OkO.callV rfl rfl rfl rfl rfl (c62 (m + 7) L[i] _ _ _ _ (by omega) (by omega) (by omega) (by omega)) ?_ -- "(sackung/slope.Bed).holds"
        refine OkO.nil ⟨(stills_cons (still_load rfl rfl (loadAt_agg (n := 8) (by kernel_rfl) (by first | assumption | (simp (disch := first | omega | (simp only [Heap.next_new, Heap.next_put]; omega)) only [get_new_same, get_new_same1, get_new_same2, get_put_same, get_new_other, get_put_other] <;> first | rfl | assumption)) (by first | rfl | assumption)) rfl (eqv_refl _ (by first | rfl | exact len_plain (by assumption)))) rfl), ?_⟩
        refine OkP.step ?_
        refine OkO.bin rfl rfl rfl (bin_add (by omega) (by omega)) ?_
        refine OkO.nil ⟨rfl, ?_⟩
        refine OkP.step ?_
        refine OkO.assign rfl rfl ?_
        refine OkO.nil ⟨rfl, ?_⟩
        refine OkP.nil ?_
        refine Ok.region ?_
        refine OkO.bin rfl rfl rfl (bin_add (by omega) (by omega)) ?_
        refine OkO.move rfl rfl ?_
        refine OkO.nil ?_
        refine ⟨L.length - (i + 1), by omega, i + 1, rfl, hlt, ?_, rfl, (by (try dsimp only); repeat (first | exact hG | exact hg | exact g59 | apply Grow.new | (refine Grow.put ?_ _ (by first | omega | (simp only [Heap.next_new, Heap.next_put]; omega))))), ?_, ?_⟩
        · rw [sumB_take _ _ _ hlt, sumB_take _ _ _ hlt]; exact Has.of (by kernel_rfl)
        · exact ⟨by simp only [Heap.next_new, Heap.next_put]; omega, fun k hk => by (rw [get_put_other _ _ _ _ (by omega), get_new_other _ _ _ (by omega)]; exact hx.get k hk)⟩
        · show ((G.new _).put _ _).get (W.next + 2) = _
          rw [get_put_other _ _ _ _ (by omega), get_new_other _ _ _ (by omega)]; exact ho
      · -- no h3
        have hge : i = L.length := by simp at h3; omega
        subst hge
        rw [List.take_length]
        have hs1 := sumB_bd weak L (fun b hb => weak_bd (hLok b hb))
        have hs2 := sumB_bd strong L (fun b hb => strong_bd (hLok b hb))
        refine Ok.exit ?_
        refine Ok.seq ?_
        refine Ok.region ?_
        refine OkO.move rfl rfl ?_
        refine OkO.move rfl rfl ?_
        refine OkO.callV rfl rfl rfl rfl rfl (c61 (m + 7) v59 L _ (r59.ext hx) (by omega) hdr) ?_ -- "sackung/slope.driveOf"
        refine OkO.callV rfl rfl rfl rfl rfl (c63 (m + 7) _ _ _ (by omega) (by omega)) ?_ -- "sackung/slope.factorOf"
        refine OkO.move rfl rfl ?_
        refine OkO.move rfl rfl ?_
        refine OkO.callV rfl rfl rfl rfl rfl (c61 (m + 7) v59 L _ (r59.ext hx) (by omega) hdr) ?_ -- "sackung/slope.driveOf"
        refine OkO.callV rfl rfl rfl rfl rfl (c63 (m + 7) _ _ _ (by omega) (by omega)) ?_ -- "sackung/slope.factorOf"
        refine OkO.build (z := [.int .i64 0, .int .i64 0]) (pl := [(0, 1), (1, 1)]) rfl (by kernel_rfl) rfl rfl ?_
        refine OkO.store rfl rfl rfl (storeAt_cells (n := 2) (ag := true) (by kernel_rfl) (by first | assumption | (simp (disch := first | omega | (simp only [Heap.next_new, Heap.next_put]; omega)) only [get_new_same, get_new_same1, get_new_same2, get_put_same, get_new_other, get_put_other] <;> first | rfl | assumption)) rfl rfl rfl) ?_
        refine OkO.assign rfl rfl ?_
        refine OkO.nil ?_
        refine Ok.ret ⟨.inr rfl, ?_⟩
        exact back_flat (resV_cell rfl (loadAt_agg (n := 2) (by kernel_rfl) (by first | assumption | (simp (disch := first | omega | (simp only [Heap.next_new, Heap.next_put]; omega)) only [get_new_same, get_new_same1, get_new_same2, get_put_same, get_new_other, get_put_other] <;> first | rfl | assumption)) (by first | rfl | assumption)) (resV_tmp rfl resV_nil)) (by rw [hspan, if_neg hd2]; rfl) rfl (by rw [← hW]; exact (by (try dsimp only); repeat (first | exact hG | exact hg | exact g59 | apply Grow.new | (refine Grow.put ?_ _ (by first | omega | (simp only [Heap.next_new, Heap.next_put]; omega))))))
end
end Go.Ev
