/-
  Functions of the program, reckoned by the evaluator: what each answers, in the document's words, and that it leaves what came in as it was (part 9).
-/
import Derived.Test.YtfhomicfhgiidaaG8
set_option maxRecDepth 100000
set_option linter.unusedSimpArgs false
set_option linter.unusedVariables false
namespace Go.Ev
open Go Go.Proofs
noncomputable section
def colR (k : Nat) (c : List Bed) : Bool := inB c.length 1 5 && (decide (c.length = k) && c.all Bed.ok)
theorem slOk_eq (cols : List (List Bed)) (least : Int) : slOk cols least = (inB least 1 4 && inB cols.length 1 12 && cols.all (colR (cols.headD []).length)) := by
  cases cols with
  | nil => simp [slOk, inB]
  | cons c0 rest =>
    simp only [slOk, List.headD_cons]
    have e : ∀ c, (inB c0.length 1 5 && colOk c0.length c) = (inB c0.length 1 5 && colR c0.length c) := by
      intro c
      unfold colR colOk
      by_cases h : c.length = c0.length
      · rw [h]; cases inB (↑c0.length) 1 5 <;> simp
      · simp [h]
    rw [Bool.eq_iff_iff]
    simp only [Bool.and_eq_true, List.all_eq_true]
    constructor
    · rintro ⟨⟨h1, h2⟩, h3⟩
      exact ⟨h1, fun c hc => by have := e c; rw [h2, h3 c hc] at this; simpa using this.symm⟩
    · rintro ⟨h1, h3⟩
      have h2 : inB c0.length 1 5 = true := by have := h3 c0 (by simp); simp only [colR, Bool.and_eq_true] at this; exact this.1
      exact ⟨⟨h1, h2⟩, fun c hc => by have := e c; rw [h2, h3 c hc] at this; simpa using this⟩
theorem bad_col {cols : List (List Bed)} {least : Int} {j : Nat} {c : List Bed} (h : cols[j]? = some c) (hb : colR (cols.headD []).length c = false) : false = slOk cols least := by
  rw [slOk_eq, show cols.all (colR (cols.headD []).length) = false from by rw [List.all_eq_false]; exact ⟨c, List.mem_of_getElem? h, by rw [hb]; simp⟩]; simp
theorem bad_bed {cols : List (List Bed)} {least : Int} {j k : Nat} {c : List Bed} {b : Bed} (h : cols[j]? = some c) (hk : c[k]? = some b) (hb : b.ok = false) : false = slOk cols least :=
  bad_col h (by unfold colR; rw [show c.all Bed.ok = false from by rw [List.all_eq_false]; exact ⟨b, List.mem_of_getElem? hk, by simp [hb]⟩]; simp)
theorem c23 (m : Nat) (cv : AV) (cols : List (List Bed)) (least : Int) (H : Heap) (hM : Mat H cv cols) : RR (m + 2) (.fn 23 [.agg [cv, I least]]) H = some (.bool (slOk cols least), H) := by
  refine (R_fn _ _ _ _ _).trans ?_
  refine fn_ok Try.func23 rfl rfl (by kernel_rfl) (by kernel_rfl) ?_
  obtain ⟨W, hW⟩ : ∃ W : Heap, W = ⟨H.t, H.next, H.next⟩ := ⟨_, rfl⟩
  have hg : ∀ n, W.get n = H.get n := fun n => by rw [hW]; rfl
  have hN : W.next = H.next := by rw [hW]
  have hE : ∀ G, Grow W G → Ext H G := fun G g => ⟨by rw [← hN]; exact g.next, fun n k => by rw [g.get n (by rw [hN]; exact k), hg]⟩
  have hG : Grow W W := Grow.refl (by rw [hW]; exact Nat.le_refl _)
  rw [← hW]
  obtain ⟨vs, hR, hvl, hv⟩ := hM
  have hlen : lenOf cv = some vs.length := by simpa using hR.len
  refine Ok.seq ?_
  refine Ok.region ?_
  refine OkO.box rfl rfl ?_
  refine OkO.assign rfl rfl ?_
  refine OkO.nil ?_
  refine Ok.seq ?_
  refine Ok.seq ?_
  refine Ok.region ?_
  refine OkO.fieldAddr (o := 0) rfl (by kernel_rfl) rfl ?_
  refine OkO.load rfl rfl (loadAt_atom (n := 1) (by kernel_rfl) (by first | assumption | (simp (disch := first | omega | (simp only [Heap.next_new, Heap.next_put]; omega)) only [get_new_same, get_new_same1, get_new_same2, get_put_same, get_new_other, get_put_other] <;> first | rfl | assumption)) (by first | rfl | assumption)) ?_
  refine OkO.builtin rfl rfl rfl (builtin_len (by kernel_rfl) (by first | assumption | rfl)) ?_
  refine OkO.callV rfl rfl rfl rfl rfl (c37 _ _ _ _ _) ?_ -- "sackung/sackungref01.In"
  refine OkO.un rfl rfl rfl ?_
  refine OkO.move rfl rfl ?_
  refine OkO.split (d := 11) rfl (fun g1 => ?_) (fun g1 => ?_)
  · -- true g1
    refine OkO.skip rfl ?_
    refine OkO.skip rfl ?_
    refine OkO.skip rfl ?_
    refine OkO.skip rfl ?_
    refine OkO.pick (b := true) rfl rfl (fun _ => rfl) nofun ?_
    refine OkO.nil ?_
    refine Ok.condT rfl ?_
    refine Ok.seq ?_
    refine Ok.region ?_
    refine OkO.assign rfl rfl ?_
    refine OkO.nil ?_
    refine Ok.ret ⟨.inr rfl, ?_⟩
    exact back_flat rfl (congrArg AV.bool (by simp at g1; rw [hvl] at g1; simp [slOk, g1])) rfl (by rw [← hW]; exact (by (try dsimp only); repeat (first | exact hG | apply Grow.new | (refine Grow.put ?_ _ (by first | omega | (simp only [Heap.next_new, Heap.next_put]; omega))))))
  · -- false g1
    refine OkO.fieldAddr (o := 1) rfl (by kernel_rfl) rfl ?_
    refine OkO.load rfl rfl (loadAt_atom (n := 1) (by kernel_rfl) (by first | assumption | (simp (disch := first | omega | (simp only [Heap.next_new, Heap.next_put]; omega)) only [get_new_same, get_new_same1, get_new_same2, get_put_same, get_new_other, get_put_other] <;> first | rfl | assumption)) (by first | rfl | assumption)) ?_
    refine OkO.callV rfl rfl rfl rfl rfl (c37 _ _ _ _ _) ?_ -- "sackung/sackungref01.In"
    refine OkO.un rfl rfl rfl ?_
    refine OkO.pick (b := false) rfl rfl nofun (fun _ => rfl) ?_
    refine OkO.nil ?_
    refine Ok.cond rfl (fun h2 => ?_) (fun h2 => ?_)
    · -- yes h2
      refine Ok.seq ?_
      refine Ok.region ?_
      refine OkO.assign rfl rfl ?_
      refine OkO.nil ?_
      refine Ok.ret ⟨.inr rfl, ?_⟩
      exact back_flat rfl (congrArg AV.bool (by simp at h2; simp [slOk, h2])) rfl (by rw [← hW]; exact (by (try dsimp only); repeat (first | exact hG | apply Grow.new | (refine Grow.put ?_ _ (by first | omega | (simp only [Heap.next_new, Heap.next_put]; omega))))))
    · -- no h2
      have hcl12 : vs.length ≤ 12 := by simp [inB] at g1; omega
      refine Ok.skip ?_
      refine Ok.seq ?_
      refine Ok.seq ?_
      refine Ok.region ?_
      refine OkO.assign rfl rfl ?_
      refine OkO.nil ?_
      refine Ok.block ?_
      refine Ok.loop (fun n s => ∃ (i : Nat), n = cols.length - i ∧ i ≤ cols.length ∧ (∀ j c, j < i → cols[j]? = some c → colR (cols.headD []).length c = true) ∧ Has 7 [(1, .ptr W.next 0), (2, .bool false), (3, I (i : Int))] s.T ∧ s.D = [] ∧ Grow W s.H ∧ s.H.get W.next = some (.cells [cv, I least] 24) ∧ W.next + 1 ≤ s.H.next) (cols.length) (by unfold loopFuel; omega)
        ⟨0, rfl, Nat.zero_le _, nofun, Has.of (by kernel_rfl), rfl, (by (try dsimp only); repeat (first | exact hG | apply Grow.new | (refine Grow.put ?_ _ (by first | omega | (simp only [Heap.next_new, Heap.next_put]; omega))))), (by simp (disch := first | omega | (simp only [Heap.next_new, Heap.next_put]; omega)) only [get_new_same, get_new_same1, get_new_same2, get_put_same, get_new_other, get_put_other] <;> rfl), (by simp)⟩ ?_
      rintro n ⟨T, D, G⟩ ⟨i, hn, hi, hcl, ⟨f, hT⟩, hD, hg, ob, on⟩
      dsimp only at *
      subst hT hD
      have hgn := hg.next
      have hc1 : (G.get W.next).bind AObj.cs = some [cv, I least] := by rw [ob]; rfl
      have hEg := hE _ hg
      refine Ok.seq ?_
      refine Ok.seq ?_
      refine Ok.region ?_
      refine OkO.move rfl rfl ?_
      refine OkO.fieldAddr (o := 0) rfl (by kernel_rfl) rfl ?_
      refine OkO.load rfl rfl (loadAt_atom (n := 1) (by kernel_rfl) (by first | assumption | (simp (disch := first | omega | (simp only [Heap.next_new, Heap.next_put]; omega)) only [get_new_same, get_new_same1, get_new_same2, get_put_same, get_new_other, get_put_other] <;> first | rfl | assumption)) (by first | rfl | assumption)) ?_
      refine OkO.builtin rfl rfl rfl (builtin_len (by kernel_rfl) (by first | assumption | rfl)) ?_
      refine OkO.bin rfl rfl rfl (bin_lss _ _) ?_
      refine OkO.nil ?_
      refine Ok.cond rfl (fun h3 => ?_) (fun h3 => ?_)
      · -- yes h3
        have hlt : i < cols.length := by simp at h3; omega
        obtain ⟨c, hci⟩ : ∃ c, cols[i]? = some c := ⟨_, List.getElem?_eq_getElem hlt⟩
        have hvi : i < vs.length := by omega
        obtain ⟨cb, co, ccs, j1, j2, j3, j4⟩ := (hR.ext hEg).at_ i [vs[i]] (by simp [hvi])
        have j5 := seg_one j3
        have hv0 : 0 < vs.length := by omega
        obtain ⟨c0, hc0⟩ : ∃ c0, cols[0]? = some c0 := ⟨_, List.getElem?_eq_getElem (by omega)⟩
        have hhd : cols.head? = some c0 := by rw [← hc0]; cases cols <;> rfl
        obtain ⟨zb, zo, zcs, z1, z2, z3, z4⟩ := (hR.ext hEg).at_ 0 [vs[0]] (by simp [hv0])
        have z5 := seg_one z3
        have hlc : lenOf vs[i] = some c.length := by simpa using (hv i vs[i] c (List.getElem?_eq_getElem hvi) hci).len
        have hlz : lenOf vs[0] = some c0.length := by simpa using (hv 0 vs[0] c0 (List.getElem?_eq_getElem hv0) hc0).len
        refine Ok.skip ?_
        refine Ok.seq ?_
        refine Ok.block ?_
        refine Ok.seq ?_
        refine Ok.seq ?_
        refine Ok.drawn [(0, true, []), (1, true, []), (2, true, []), (3, true, []), (4, true, []), (5, true, []), (6, false, [4, 1]), (7, true, []), (8, true, []), (9, true, []), (10, true, []), (11, true, []), (12, true, []), (13, true, []), (14, true, []), (15, true, []), (16, true, []), (17, true, []), (18, true, []), (19, true, []), (20, true, []), (21, true, [])] (by kernel_rfl) ?_
        refine OkP.step ?_
        refine OkO.fieldAddr (o := 0) rfl (by kernel_rfl) rfl ?_
        refine OkO.nil ⟨rfl, ?_⟩
        refine OkP.step ?_
        refine OkO.load rfl rfl (loadAt_atom (n := 1) (by kernel_rfl) (by first | assumption | (simp (disch := first | omega | (simp only [Heap.next_new, Heap.next_put]; omega)) only [get_new_same, get_new_same1, get_new_same2, get_put_same, get_new_other, get_put_other] <;> first | rfl | assumption)) (by first | rfl | assumption)) ?_
        refine OkO.nil ⟨rfl, ?_⟩
        refine OkP.step ?_
        refine OkO.move rfl rfl ?_
        refine OkO.nil ⟨rfl, ?_⟩
        refine OkP.step ?_
        refine OkO.index (sz := 1) (n := i) rfl rfl rfl (by kernel_rfl) (by first | assumption | rfl) ?_ -- index ('Go.Operand.tmp', 25) ('Go.Operand.tmp', 26)
        refine OkO.nil ⟨rfl, ?_⟩
        refine OkP.step ?_
        refine OkO.load rfl rfl (loadAt_atom (n := 1) (by kernel_rfl) (by first | assumption | (simp (disch := first | omega | (simp only [Heap.next_new, Heap.next_put]; omega)) only [get_new_same, get_new_same1, get_new_same2, get_put_same, get_new_other, get_put_other] <;> first | rfl | assumption)) (by first | rfl | assumption)) ?_
        refine OkO.nil ⟨rfl, ?_⟩
        refine OkP.step ?_
        refine OkO.builtin rfl rfl rfl (builtin_len (by kernel_rfl) (by first | assumption | rfl)) ?_
        refine OkO.nil ⟨rfl, ?_⟩
        refine OkP.step ?_
        refine OkO.callV rfl rfl rfl rfl rfl (c37 _ _ _ _ _) ?_ -- "sackung/sackungref01.In"
        refine OkO.nil ⟨(stills_cons (still_load rfl rfl (loadAt_atom (n := 1) (by kernel_rfl) (by first | assumption | (simp (disch := first | omega | (simp only [Heap.next_new, Heap.next_put]; omega)) only [get_new_same, get_new_same1, get_new_same2, get_put_same, get_new_other, get_put_other] <;> first | rfl | assumption)) (by first | rfl | assumption)) rfl (eqv_refl _ (by first | rfl | exact len_plain (by assumption)))) (stills_cons (still_load rfl rfl (loadAt_atom (n := 1) (by kernel_rfl) (by first | assumption | (simp (disch := first | omega | (simp only [Heap.next_new, Heap.next_put]; omega)) only [get_new_same, get_new_same1, get_new_same2, get_put_same, get_new_other, get_put_other] <;> first | rfl | assumption)) (by first | rfl | assumption)) rfl (eqv_refl _ (by first | rfl | exact len_plain (by assumption)))) rfl)), ?_⟩
        refine OkP.step ?_
        refine OkO.un rfl rfl rfl ?_
        refine OkO.nil ⟨rfl, ?_⟩
        refine OkP.step ?_
        refine OkO.move rfl rfl ?_
        refine OkO.nil ⟨rfl, ?_⟩
        refine OkP.split (d := 32) rfl (fun g4 => ?_) (fun g4 => ?_)
        · -- true g4
          have hz : false = slOk cols least := bad_col hci (by simp at g4; simp [colR, g4])
          refine OkP.step ?_
          refine OkO.skip rfl ?_
          refine OkO.nil ⟨rfl, ?_⟩
          refine OkP.step ?_
          refine OkO.skip rfl ?_
          refine OkO.nil ⟨rfl, ?_⟩
          refine OkP.step ?_
          refine OkO.skip rfl ?_
          refine OkO.nil ⟨rfl, ?_⟩
          refine OkP.step ?_
          refine OkO.skip rfl ?_
          refine OkO.nil ⟨rfl, ?_⟩
          refine OkP.step ?_
          refine OkO.skip rfl ?_
          refine OkO.nil ⟨rfl, ?_⟩
          refine OkP.step ?_
          refine OkO.skip rfl ?_
          refine OkO.nil ⟨rfl, ?_⟩
          refine OkP.step ?_
          refine OkO.skip rfl ?_
          refine OkO.nil ⟨rfl, ?_⟩
          refine OkP.step ?_
          refine OkO.skip rfl ?_
          refine OkO.nil ⟨rfl, ?_⟩
          refine OkP.step ?_
          refine OkO.skip rfl ?_
          refine OkO.nil ⟨rfl, ?_⟩
          refine OkP.step ?_
          refine OkO.skip rfl ?_
          refine OkO.nil ⟨rfl, ?_⟩
          refine OkP.step ?_
          refine OkO.skip rfl ?_
          refine OkO.nil ⟨rfl, ?_⟩
          refine OkP.step ?_
          refine OkO.skip rfl ?_
          refine OkO.nil ⟨rfl, ?_⟩
          refine OkP.step ?_
          refine OkO.pick (b := true) rfl rfl (fun _ => rfl) nofun ?_
          refine OkO.nil ⟨rfl, ?_⟩
          refine OkP.nil ?_
          refine Ok.condT rfl ?_
          refine Ok.seq ?_
          refine Ok.region ?_
          refine OkO.assign rfl rfl ?_
          refine OkO.nil ?_
          refine Ok.ret ⟨.inr rfl, ?_⟩
          exact back_flat rfl (congrArg AV.bool hz) rfl (by rw [← hW]; exact (by (try dsimp only); repeat (first | (first | exact hg | exact hG) | apply Grow.new | (refine Grow.put ?_ _ (by first | omega | (simp only [Heap.next_new, Heap.next_put]; omega))))))
        · -- false g4
          refine OkP.step ?_
          refine OkO.fieldAddr (o := 0) rfl (by kernel_rfl) rfl ?_
          refine OkO.nil ⟨rfl, ?_⟩
          refine OkP.step ?_
          refine OkO.load rfl rfl (loadAt_atom (n := 1) (by kernel_rfl) (by first | assumption | (simp (disch := first | omega | (simp only [Heap.next_new, Heap.next_put]; omega)) only [get_new_same, get_new_same1, get_new_same2, get_put_same, get_new_other, get_put_other] <;> first | rfl | assumption)) (by first | rfl | assumption)) ?_
          refine OkO.nil ⟨rfl, ?_⟩
          refine OkP.step ?_
          refine OkO.move rfl rfl ?_
          refine OkO.nil ⟨rfl, ?_⟩
          refine OkP.step ?_
          refine OkO.index (sz := 1) (n := i) rfl rfl rfl (by kernel_rfl) (by first | assumption | rfl) ?_ -- index ('Go.Operand.tmp', 34) ('Go.Operand.tmp', 35)
          refine OkO.nil ⟨rfl, ?_⟩
          refine OkP.step ?_
          refine OkO.load rfl rfl (loadAt_atom (n := 1) (by kernel_rfl) (by first | assumption | (simp (disch := first | omega | (simp only [Heap.next_new, Heap.next_put]; omega)) only [get_new_same, get_new_same1, get_new_same2, get_put_same, get_new_other, get_put_other] <;> first | rfl | assumption)) (by first | rfl | assumption)) ?_
          refine OkO.nil ⟨rfl, ?_⟩
          refine OkP.step ?_
          refine OkO.builtin rfl rfl rfl (builtin_len (by kernel_rfl) (by first | assumption | rfl)) ?_
          refine OkO.nil ⟨rfl, ?_⟩
          refine OkP.step ?_
          refine OkO.fieldAddr (o := 0) rfl (by kernel_rfl) rfl ?_
          refine OkO.nil ⟨rfl, ?_⟩
          refine OkP.step ?_
          refine OkO.load rfl rfl (loadAt_atom (n := 1) (by kernel_rfl) (by first | assumption | (simp (disch := first | omega | (simp only [Heap.next_new, Heap.next_put]; omega)) only [get_new_same, get_new_same1, get_new_same2, get_put_same, get_new_other, get_put_other] <;> first | rfl | assumption)) (by first | rfl | assumption)) ?_
          refine OkO.nil ⟨rfl, ?_⟩
          refine OkP.step ?_
          refine OkO.index (sz := 1) rfl rfl rfl (by kernel_rfl) (by first | assumption | rfl) ?_ -- index ('Go.Operand.tmp', 40) ('Go.Operand.const', ('Go.Value.int', 'Go.IntKind.i64', 0))
          refine OkO.nil ⟨rfl, ?_⟩
          refine OkP.step ?_
          refine OkO.load rfl rfl (loadAt_atom (n := 1) (by kernel_rfl) (by first | assumption | (simp (disch := first | omega | (simp only [Heap.next_new, Heap.next_put]; omega)) only [get_new_same, get_new_same1, get_new_same2, get_put_same, get_new_other, get_put_other] <;> first | rfl | assumption)) (by first | rfl | assumption)) ?_
          refine OkO.nil ⟨rfl, ?_⟩
          refine OkP.step ?_
          refine OkO.builtin rfl rfl rfl (builtin_len (by kernel_rfl) (by first | assumption | rfl)) ?_
          refine OkO.nil ⟨rfl, ?_⟩
          refine OkP.step ?_
          refine OkO.bin rfl rfl rfl (bin_neq _ _) ?_
          refine OkO.nil ⟨rfl, ?_⟩
          refine OkP.step ?_
          refine OkO.pick (b := false) rfl rfl nofun (fun _ => rfl) ?_
          refine OkO.nil ⟨rfl, ?_⟩
          refine OkP.nil ?_
          refine Ok.cond rfl (fun h5 => ?_) (fun h5 => ?_)
          · -- yes h5
            have hz : false = slOk cols least := bad_col hci (by (unfold colR; rw [List.headD_eq_head?_getD, hhd]; simp at h5 ⊢; intro _ h; omega))
            refine Ok.seq ?_
            refine Ok.region ?_
            refine OkO.assign rfl rfl ?_
            refine OkO.nil ?_
            refine Ok.ret ⟨.inr rfl, ?_⟩
            exact back_flat rfl (congrArg AV.bool hz) rfl (by rw [← hW]; exact (by (try dsimp only); repeat (first | (first | exact hg | exact hG) | apply Grow.new | (refine Grow.put ?_ _ (by first | omega | (simp only [Heap.next_new, Heap.next_put]; omega))))))
          · -- no h5
            have hin : inB c.length 1 5 = true := by simpa using g4
            have hll : c.length = c0.length := by simp at h5; omega
            have hin2 : 1 ≤ c.length ∧ c.length ≤ 5 := by simp [inB] at hin; omega
            refine Ok.skip ?_
            refine Ok.seq ?_
            refine Ok.region ?_
            refine OkO.assign rfl rfl ?_
            refine OkO.nil ?_
            refine Ok.block ?_
            refine Ok.loop (fun n s => ∃ (k : Nat), n = c.length - k ∧ k ≤ c.length ∧ (∀ j b, j < k → c[j]? = some b → b.ok = true) ∧ Has 7 [(1, .ptr W.next 0), (2, .bool false), (3, I (i : Int)), (4, I (k : Int))] s.T ∧ s.D = [] ∧ Grow W s.H ∧ s.H.get W.next = some (.cells [cv, I least] 24) ∧ W.next + 1 ≤ s.H.next) (c.length) (by unfold loopFuel; omega)
              ⟨0, rfl, Nat.zero_le _, nofun, Has.of (by kernel_rfl), rfl, hg, ob, on⟩ ?_
            rintro n ⟨T, D, G⟩ ⟨k, hn2, hk, hbl, ⟨f2, hT⟩, hD, hg, ob, on⟩
            dsimp only at *
            subst hT hD
            have hgn := hg.next
            have hc1 : (G.get W.next).bind AObj.cs = some [cv, I least] := by rw [ob]; rfl
            have hEg := hE _ hg
            obtain ⟨mb, mo, mcs, m1, m2, m3, m4⟩ := (hR.ext hEg).at_ i [vs[i]] (by simp [hvi])
            have m5 := seg_one m3
            refine Ok.seq ?_
            refine Ok.seq ?_
            refine Ok.region ?_
            refine OkO.move rfl rfl ?_
            refine OkO.fieldAddr (o := 0) rfl (by kernel_rfl) rfl ?_
            refine OkO.load rfl rfl (loadAt_atom (n := 1) (by kernel_rfl) (by first | assumption | (simp (disch := first | omega | (simp only [Heap.next_new, Heap.next_put]; omega)) only [get_new_same, get_new_same1, get_new_same2, get_put_same, get_new_other, get_put_other] <;> first | rfl | assumption)) (by first | rfl | assumption)) ?_
            refine OkO.move rfl rfl ?_
            refine OkO.index (sz := 1) (n := i) rfl rfl rfl (by kernel_rfl) (by first | assumption | rfl) ?_ -- index ('Go.Operand.tmp', 48) ('Go.Operand.tmp', 49)
            refine OkO.load rfl rfl (loadAt_atom (n := 1) (by kernel_rfl) (by first | assumption | (simp (disch := first | omega | (simp only [Heap.next_new, Heap.next_put]; omega)) only [get_new_same, get_new_same1, get_new_same2, get_put_same, get_new_other, get_put_other] <;> first | rfl | assumption)) (by first | rfl | assumption)) ?_
            refine OkO.builtin rfl rfl rfl (builtin_len (by kernel_rfl) (by first | assumption | rfl)) ?_
            refine OkO.bin rfl rfl rfl (bin_lss _ _) ?_
            refine OkO.nil ?_
            refine Ok.cond rfl (fun h6 => ?_) (fun h6 => ?_)
            · -- yes h6
              have hkl : k < c.length := by simp at h6; omega
              obtain ⟨bb, bo, bcs, k1, k2, k3, k4⟩ := ((hv i vs[i] c (List.getElem?_eq_getElem hvi) hci).ext hEg).at_ k c[k].c (by simp [hkl])
              have hne : bb ≠ G.next := by omega
              have hck : c[k]? = some c[k] := List.getElem?_eq_getElem hkl
              have hgn := hg.next
              have hne2 : W.next ≠ G.next := by omega
              refine Ok.skip ?_
              refine Ok.seq ?_
              refine Ok.block ?_
              refine Ok.seq ?_
              refine Ok.region ?_
              refine OkO.fieldAddr (o := 0) rfl (by kernel_rfl) rfl ?_
              refine OkO.load rfl rfl (loadAt_atom (n := 1) (by kernel_rfl) (by first | assumption | (simp (disch := first | omega | (simp only [Heap.next_new, Heap.next_put]; omega)) only [get_new_same, get_new_same1, get_new_same2, get_put_same, get_new_other, get_put_other] <;> first | rfl | assumption)) (by first | rfl | assumption)) ?_
              refine OkO.move rfl rfl ?_
              refine OkO.index (sz := 1) (n := i) rfl rfl rfl (by kernel_rfl) (by first | assumption | rfl) ?_ -- index ('Go.Operand.tmp', 57) ('Go.Operand.tmp', 58)
              refine OkO.load rfl rfl (loadAt_atom (n := 1) (by kernel_rfl) (by first | assumption | (simp (disch := first | omega | (simp only [Heap.next_new, Heap.next_put]; omega)) only [get_new_same, get_new_same1, get_new_same2, get_put_same, get_new_other, get_put_other] <;> first | rfl | assumption)) (by first | rfl | assumption)) ?_
              refine OkO.move rfl rfl ?_
              refine OkO.index (sz := 8) (n := k) rfl rfl rfl (by kernel_rfl) (by first | assumption | rfl) ?_ -- index ('Go.Operand.tmp', 60) ('Go.Operand.tmp', 61)
              refine OkO.load rfl rfl (loadAt_agg (n := 8) (by kernel_rfl) (by first | assumption | (simp (disch := first | omega | (simp only [Heap.next_new, Heap.next_put]; omega)) only [get_new_same, get_new_same1, get_new_same2, get_put_same, get_new_other, get_put_other] <;> first | rfl | assumption)) (by first | rfl | assumption)) ?_
              refine OkO.alloc (z := [.int .i64 0, .int .i64 0, .int .i64 0, .int .i64 0, .int .i64 0, .int .i64 0, .int .i64 0, .int .i64 0]) rfl (by kernel_rfl) ?_
              refine OkO.store rfl rfl rfl (storeAt_cells (n := 8) (ag := true) (by kernel_rfl) (by first | assumption | (simp (disch := first | omega | (simp only [Heap.next_new, Heap.next_put]; omega)) only [get_new_same, get_new_same1, get_new_same2, get_put_same, get_new_other, get_put_other] <;> first | rfl | assumption)) rfl rfl rfl) ?_
              refine OkO.nil ?_
              refine Ok.seq ?_
              refine Ok.region ?_
              refine OkO.fieldAddr (o := 0) rfl (by kernel_rfl) rfl ?_
              refine OkO.load rfl rfl (loadAt_atom (n := 1) (by kernel_rfl) (by first | assumption | (simp (disch := first | omega | (simp only [Heap.next_new, Heap.next_put]; omega)) only [get_new_same, get_new_same1, get_new_same2, get_put_same, get_new_other, get_put_other] <;> first | rfl | assumption)) (by first | rfl | assumption)) ?_
              refine OkO.callV rfl rfl rfl rfl rfl (c37 _ _ _ _ _) ?_ -- "sackung/sackungref01.In"
              refine OkO.un rfl rfl rfl ?_
              refine OkO.move rfl rfl ?_
              refine OkO.split (d := 68) rfl (fun g7 => ?_) (fun g7 => ?_)
              · -- true g7
                have hz : false = slOk cols least := bad_bed hci hck (by simp at g7; simp [Bed.ok, g7])
                refine OkO.skip rfl ?_
                refine OkO.skip rfl ?_
                refine OkO.skip rfl ?_
                refine OkO.skip rfl ?_
                refine OkO.pick (b := true) rfl rfl (fun _ => rfl) nofun ?_
                refine OkO.move rfl rfl ?_
                refine OkO.skip rfl ?_
                refine OkO.skip rfl ?_
                refine OkO.skip rfl ?_
                refine OkO.skip rfl ?_
                refine OkO.pick (b := true) rfl rfl (fun _ => rfl) nofun ?_
                refine OkO.move rfl rfl ?_
                refine OkO.skip rfl ?_
                refine OkO.skip rfl ?_
                refine OkO.skip rfl ?_
                refine OkO.skip rfl ?_
                refine OkO.pick (b := true) rfl rfl (fun _ => rfl) nofun ?_
                refine OkO.move rfl rfl ?_
                refine OkO.skip rfl ?_
                refine OkO.skip rfl ?_
                refine OkO.skip rfl ?_
                refine OkO.skip rfl ?_
                refine OkO.pick (b := true) rfl rfl (fun _ => rfl) nofun ?_
                refine OkO.nil ?_
                refine Ok.condT rfl ?_
                refine Ok.seq ?_
                refine Ok.region ?_
                refine OkO.assign rfl rfl ?_
                refine OkO.nil ?_
                refine Ok.ret ⟨.inr rfl, ?_⟩
                exact back_flat rfl (congrArg AV.bool hz) rfl (by rw [← hW]; exact (by (try dsimp only); repeat (first | (first | exact hg | exact hG) | apply Grow.new | (refine Grow.put ?_ _ (by first | omega | (simp only [Heap.next_new, Heap.next_put]; omega))))))
              · -- false g7
                refine OkO.fieldAddr (o := 1) rfl (by kernel_rfl) rfl ?_
                refine OkO.load rfl rfl (loadAt_atom (n := 1) (by kernel_rfl) (by first | assumption | (simp (disch := first | omega | (simp only [Heap.next_new, Heap.next_put]; omega)) only [get_new_same, get_new_same1, get_new_same2, get_put_same, get_new_other, get_put_other] <;> first | rfl | assumption)) (by first | rfl | assumption)) ?_
                refine OkO.callV rfl rfl rfl rfl rfl (c37 _ _ _ _ _) ?_ -- "sackung/sackungref01.In"
                refine OkO.un rfl rfl rfl ?_
                refine OkO.pick (b := false) rfl rfl nofun (fun _ => rfl) ?_
                refine OkO.move rfl rfl ?_
                refine OkO.split (d := 74) rfl (fun g8 => ?_) (fun g8 => ?_)
                · -- true g8
                  have hz : false = slOk cols least := bad_bed hci hck (by simp at g8; simp [Bed.ok, g8])
                  refine OkO.skip rfl ?_
                  refine OkO.skip rfl ?_
                  refine OkO.skip rfl ?_
                  refine OkO.skip rfl ?_
                  refine OkO.pick (b := true) rfl rfl (fun _ => rfl) nofun ?_
                  refine OkO.move rfl rfl ?_
                  refine OkO.skip rfl ?_
                  refine OkO.skip rfl ?_
                  refine OkO.skip rfl ?_
                  refine OkO.skip rfl ?_
                  refine OkO.pick (b := true) rfl rfl (fun _ => rfl) nofun ?_
                  refine OkO.move rfl rfl ?_
                  refine OkO.skip rfl ?_
                  refine OkO.skip rfl ?_
                  refine OkO.skip rfl ?_
                  refine OkO.skip rfl ?_
                  refine OkO.pick (b := true) rfl rfl (fun _ => rfl) nofun ?_
                  refine OkO.nil ?_
                  refine Ok.condT rfl ?_
                  refine Ok.seq ?_
                  refine Ok.region ?_
                  refine OkO.assign rfl rfl ?_
                  refine OkO.nil ?_
                  refine Ok.ret ⟨.inr rfl, ?_⟩
                  exact back_flat rfl (congrArg AV.bool hz) rfl (by rw [← hW]; exact (by (try dsimp only); repeat (first | (first | exact hg | exact hG) | apply Grow.new | (refine Grow.put ?_ _ (by first | omega | (simp only [Heap.next_new, Heap.next_put]; omega))))))
                · -- false g8
                  refine OkO.fieldAddr (o := 2) rfl (by kernel_rfl) rfl ?_
                  refine OkO.load rfl rfl (loadAt_agg (n := 2) (by kernel_rfl) (by first | assumption | (simp (disch := first | omega | (simp only [Heap.next_new, Heap.next_put]; omega)) only [get_new_same, get_new_same1, get_new_same2, get_put_same, get_new_other, get_put_other] <;> first | rfl | assumption)) (by first | rfl | assumption)) ?_
                  refine OkO.callV rfl rfl rfl rfl rfl (c64 _ _ _ _ _) ?_ -- "sackung/sackungref01.upTo"
                  refine OkO.un rfl rfl rfl ?_
                  refine OkO.pick (b := false) rfl rfl nofun (fun _ => rfl) ?_
                  refine OkO.move rfl rfl ?_
                  refine OkO.split (d := 80) rfl (fun g9 => ?_) (fun g9 => ?_)
                  · -- true g9
                    have hz : false = slOk cols least := bad_bed hci hck (by simp at g9; simp [Bed.ok, g9])
                    refine OkO.skip rfl ?_
                    refine OkO.skip rfl ?_
                    refine OkO.skip rfl ?_
                    refine OkO.skip rfl ?_
                    refine OkO.pick (b := true) rfl rfl (fun _ => rfl) nofun ?_
                    refine OkO.move rfl rfl ?_
                    refine OkO.skip rfl ?_
                    refine OkO.skip rfl ?_
                    refine OkO.skip rfl ?_
                    refine OkO.skip rfl ?_
                    refine OkO.pick (b := true) rfl rfl (fun _ => rfl) nofun ?_
                    refine OkO.nil ?_
                    refine Ok.condT rfl ?_
                    refine Ok.seq ?_
                    refine Ok.region ?_
                    refine OkO.assign rfl rfl ?_
                    refine OkO.nil ?_
                    refine Ok.ret ⟨.inr rfl, ?_⟩
                    exact back_flat rfl (congrArg AV.bool hz) rfl (by rw [← hW]; exact (by (try dsimp only); repeat (first | (first | exact hg | exact hG) | apply Grow.new | (refine Grow.put ?_ _ (by first | omega | (simp only [Heap.next_new, Heap.next_put]; omega))))))
                  · -- false g9
                    refine OkO.fieldAddr (o := 4) rfl (by kernel_rfl) rfl ?_
                    refine OkO.load rfl rfl (loadAt_agg (n := 2) (by kernel_rfl) (by first | assumption | (simp (disch := first | omega | (simp only [Heap.next_new, Heap.next_put]; omega)) only [get_new_same, get_new_same1, get_new_same2, get_put_same, get_new_other, get_put_other] <;> first | rfl | assumption)) (by first | rfl | assumption)) ?_
                    refine OkO.callV rfl rfl rfl rfl rfl (c64 _ _ _ _ _) ?_ -- "sackung/sackungref01.upTo"
                    refine OkO.un rfl rfl rfl ?_
                    refine OkO.pick (b := false) rfl rfl nofun (fun _ => rfl) ?_
                    refine OkO.move rfl rfl ?_
                    refine OkO.split (d := 86) rfl (fun g10 => ?_) (fun g10 => ?_)
                    · -- true g10
                      have hz : false = slOk cols least := bad_bed hci hck (by simp at g10; simp [Bed.ok, g10])
                      refine OkO.skip rfl ?_
                      refine OkO.skip rfl ?_
                      refine OkO.skip rfl ?_
                      refine OkO.skip rfl ?_
                      refine OkO.pick (b := true) rfl rfl (fun _ => rfl) nofun ?_
                      refine OkO.nil ?_
                      refine Ok.condT rfl ?_
                      refine Ok.seq ?_
                      refine Ok.region ?_
                      refine OkO.assign rfl rfl ?_
                      refine OkO.nil ?_
                      refine Ok.ret ⟨.inr rfl, ?_⟩
                      exact back_flat rfl (congrArg AV.bool hz) rfl (by rw [← hW]; exact (by (try dsimp only); repeat (first | (first | exact hg | exact hG) | apply Grow.new | (refine Grow.put ?_ _ (by first | omega | (simp only [Heap.next_new, Heap.next_put]; omega))))))
                    · -- false g10
                      refine OkO.fieldAddr (o := 6) rfl (by kernel_rfl) rfl ?_
                      refine OkO.load rfl rfl (loadAt_agg (n := 2) (by kernel_rfl) (by first | assumption | (simp (disch := first | omega | (simp only [Heap.next_new, Heap.next_put]; omega)) only [get_new_same, get_new_same1, get_new_same2, get_put_same, get_new_other, get_put_other] <;> first | rfl | assumption)) (by first | rfl | assumption)) ?_
                      refine OkO.callV rfl rfl rfl rfl rfl (c64 _ _ _ _ _) ?_ -- "sackung/sackungref01.upTo"
                      refine OkO.un rfl rfl rfl ?_
                      refine OkO.pick (b := false) rfl rfl nofun (fun _ => rfl) ?_
                      refine OkO.nil ?_
                      refine Ok.cond rfl (fun h11 => ?_) (fun h11 => ?_)
                      · -- yes h11
                        have hz : false = slOk cols least := bad_bed hci hck (by simp at h11; simp [Bed.ok, h11])
                        refine Ok.seq ?_
                        refine Ok.region ?_
                        refine OkO.assign rfl rfl ?_
                        refine OkO.nil ?_
                        refine Ok.ret ⟨.inr rfl, ?_⟩
                        exact back_flat rfl (congrArg AV.bool hz) rfl (by rw [← hW]; exact (by (try dsimp only); repeat (first | (first | exact hg | exact hG) | apply Grow.new | (refine Grow.put ?_ _ (by first | omega | (simp only [Heap.next_new, Heap.next_put]; omega))))))
                      · -- no h11
                        refine Ok.skip ?_
                        refine Ok.region ?_
                        refine OkO.move rfl rfl ?_
                        refine OkO.bin rfl rfl rfl (bin_add (by omega) (by omega)) ?_
                        refine OkO.assign rfl rfl ?_
                        refine OkO.nil ?_
                        have hok : c[k].ok = true := by simp at g7 g8 g9 g10 h11; simp [Bed.ok, g7, g8, g9, g10, h11]
                        refine ⟨c.length - (k + 1), by omega, k + 1, rfl, hkl, fun j x hj hx => ?_, Has.of (by kernel_rfl), rfl, (by (try dsimp only); repeat (first | (first | exact hg | exact hG) | apply Grow.new | (refine Grow.put ?_ _ (by first | omega | (simp only [Heap.next_new, Heap.next_put]; omega))))), ?_, (by simp only [Heap.next_new, Heap.next_put]; omega)⟩
                        · by_cases e : j = k
                          · subst e; rw [List.getElem?_eq_getElem hkl] at hx; cases hx; exact hok
                          · exact hbl j x (by omega) hx
                        · show ((G.new _).put _ _).get W.next = _
                          rw [get_put_other _ _ _ _ (by omega), get_new_other _ _ _ (by omega)]; exact ob
            · -- no h6
              have hke : k = c.length := by simp at h6; omega
              subst hke
              refine Ok.exit ?_
              refine Ok.region ?_
              refine OkO.move rfl rfl ?_
              refine OkO.bin rfl rfl rfl (bin_add (by omega) (by omega)) ?_
              refine OkO.assign rfl rfl ?_
              refine OkO.nil ?_
              have hcg : colR (cols.headD []).length c = true := by unfold colR; rw [List.headD_eq_head?_getD, hhd]; simp only [Option.getD_some]; rw [hin, show c.all Bed.ok = true from by rw [List.all_eq_true]; intro x hx; obtain ⟨q, hq, rfl⟩ := List.mem_iff_getElem.1 hx; exact hbl q _ (by omega) (List.getElem?_eq_getElem hq)]; simp [hll]
              refine ⟨cols.length - (i + 1), by omega, i + 1, rfl, hlt, fun j x hj hx => ?_, Has.of (by kernel_rfl), rfl, hg, ob, on⟩
              by_cases e : j = i
              · subst e; rw [hci] at hx; cases hx; exact hcg
              · exact hcl j x (by omega) hx
      · -- no h3
        have hge : i = cols.length := by simp at h3; omega
        have hz : true = slOk cols least := by (rw [slOk_eq]; simp at g1 h2; rw [hvl] at g1; rw [g1, h2, show cols.all (colR (cols.headD []).length) = true from by rw [List.all_eq_true]; intro x hx; obtain ⟨q, hq, rfl⟩ := List.mem_iff_getElem.1 hx; exact hcl q _ (by omega) (List.getElem?_eq_getElem hq)]; rfl)
        refine Ok.exit ?_
        refine Ok.seq ?_
        refine Ok.region ?_
        refine OkO.assign rfl rfl ?_
        refine OkO.nil ?_
        refine Ok.ret ⟨.inr rfl, ?_⟩
        exact back_flat rfl (congrArg AV.bool hz) rfl (by rw [← hW]; exact (by (try dsimp only); repeat (first | (first | exact hg | exact hG) | apply Grow.new | (refine Grow.put ?_ _ (by first | omega | (simp only [Heap.next_new, Heap.next_put]; omega))))))
end
end Go.Ev
