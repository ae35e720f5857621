/-
  Functions of the program, reckoned by the evaluator: what each answers, in the document's words, and that it leaves what came in as it was (part 16).
-/
import Derived.Test.YtfhomicfhgiidaaG15
set_option maxRecDepth 100000
set_option linter.unusedSimpArgs false
set_option linter.unusedVariables false
namespace Go.Ev
open Go Go.Proofs
noncomputable section
theorem sing_flat (vals : List AV) : (vals.map fun x => [x]).flatten = vals := by
  induction vals with
  | nil => rfl
  | cons a l ih => rw [List.map_cons, List.flatten_cons, ih]; rfl
theorem Mine.cols {k0 : Nat} {X : Heap} {ov : AV} {vals : List AV} {cols : List (List Bed)} (h : Mine k0 X ov 86 1 vals) (hl : vals.length = cols.length) (hc : ∀ (j : Nat) x c, vals[j]? = some x → cols[j]? = some c → Row X x 8 (c.map Bed.c)) : Mat X ov cols :=
  ⟨vals, Mine.row (l := vals.map fun x => [x]) (by rw [sing_flat]; exact h) (fun x hx => by simp only [List.mem_map] at hx; obtain ⟨y, _, rfl⟩ := hx; rfl) (by omega), hl, hc⟩
theorem thin_facts {cols : List (List Bed)} (h : thinB cols = true) : cols.length ≤ 15 ∧ ∀ c ∈ cols, c.length ≤ 8 := by
  simp only [thinB, Bool.and_eq_true, decide_eq_true_eq, List.all_eq_true] at h
  exact h
theorem c19 (m : Nat) (cv : AV) (cols : List (List Bed)) (least : Int) (H : Heap) (hM : Mat H cv cols) (hth : thinB cols = true) : ∃ v H', RR (m + 2) (.fn 19 [.agg [cv, I least]]) H = some (v, H') ∧ ∃ cv', v = .agg [cv', I least] ∧ Ret H H' ∧ Fr H.next H'.next H' (fun X => Mat X cv' cols) := by
  show ∃ v H', evFn Try.prog (RR (m + 1)) 19 [.agg [cv, I least]] H = some (v, H') ∧ ∃ cv', v = .agg [cv', I least] ∧ Ret H H' ∧ Fr H.next H'.next H' (fun X => Mat X cv' cols)
  refine fn_okE Try.func19 rfl rfl (by kernel_rfl) (by kernel_rfl) ?_
  obtain ⟨W, hW⟩ : ∃ W : Heap, W = ⟨H.t, H.next, H.next⟩ := ⟨_, rfl⟩
  have hg : ∀ n, W.get n = H.get n := fun n => by rw [hW]; rfl
  have hN : W.next = H.next := by rw [hW]
  have hE : ∀ G, Grow W G → Ext H G := fun G g => ⟨by rw [← hN]; exact g.next, fun n k => by rw [g.get n (by rw [hN]; exact k), hg]⟩
  have hG : Grow W W := Grow.refl (by rw [hW]; exact Nat.le_refl _)
  rw [← hW]
  obtain ⟨vs, hR, hvl, hv⟩ := hM
  have hlen : lenOf cv = some vs.length := by simpa using hR.len
  have hc15 := (thin_facts hth).1
  refine Ok.seq ?_
  refine Ok.region ?_
  refine OkO.box rfl rfl ?_
  refine OkO.alloc (z := [.nils, .int .i64 0]) rfl (by kernel_rfl) ?_
  refine OkO.nil ?_
  refine Ok.seq ?_
  refine Ok.region ?_
  refine OkO.fieldAddr (o := 1) rfl (by kernel_rfl) rfl ?_
  refine OkO.load rfl rfl (loadAt_atom (n := 1) (by kernel_rfl) (by first | assumption | (simp (disch := first | omega | (simp only [Heap.next_new, Heap.next_put]; omega)) only [get_new_same, get_new_same1, get_new_same2, get_put_same, get_new_other, get_put_other] <;> first | rfl | assumption)) (by first | rfl | assumption)) ?_
  refine OkO.build (z := [.nils, .int .i64 0]) (pl := [(0, 1), (1, 1)]) rfl (by kernel_rfl) rfl rfl ?_
  refine OkO.alloc (z := [.nils, .int .i64 0]) rfl (by kernel_rfl) ?_
  refine OkO.store rfl rfl rfl (storeAt_cells (n := 2) (ag := true) (by kernel_rfl) (by first | assumption | (simp (disch := first | omega | (simp only [Heap.next_new, Heap.next_put]; omega)) only [get_new_same, get_new_same1, get_new_same2, get_put_same, get_new_other, get_put_other] <;> first | rfl | assumption)) rfl rfl rfl) ?_
  refine OkO.nil ?_
  refine Ok.seq ?_
  refine Ok.seq ?_
  refine Ok.region ?_
  refine OkO.assign rfl rfl ?_
  refine OkO.nil ?_
  refine Ok.block ?_
  refine Ok.loop (fun n s => ∃ (i : Nat) (ov : AV) (vals : List AV), n = cols.length - i ∧ i ≤ cols.length ∧ vals.length = i ∧ Mine (W.next + 3) s.H ov 86 1 vals ∧ (∀ (j : Nat) x c, vals[j]? = some x → cols[j]? = some c → ∃ k e, W.next + 3 ≤ k ∧ e ≤ s.H.next ∧ Fr k e s.H (fun X => Row X x 8 (c.map Bed.c)) ∧ ∀ b m, ov = .opn b m → e ≤ b) ∧ Has 6 [(1, .ptr W.next 0), (2, .ptr (W.next + 1) 0), (3, .ptr (W.next + 2) 0), (4, I (i : Int))] s.T ∧ s.D = [] ∧ Grow W s.H ∧ s.H.get W.next = some (.cells [cv, I least] 24) ∧ s.H.get (W.next + 1) = some (.cells [.nils, I 0] 35) ∧ s.H.get (W.next + 2) = some (.cells [ov, I least] 35) ∧ W.next + 3 ≤ s.H.next) (cols.length) (by unfold loopFuel; omega)
    ⟨0, .nils, [], rfl, Nat.zero_le _, rfl, Mine.nil _ _ _ _, nofun, Has.of (by kernel_rfl), rfl, (by (try dsimp only); repeat (first | exact hG | apply Grow.new | (refine Grow.put ?_ _ (by first | omega | (simp only [Heap.next_new, Heap.next_put]; omega))))), (by simp (disch := first | omega | (simp only [Heap.next_new, Heap.next_put]; omega)) only [get_new_same, get_new_same1, get_new_same2, get_put_same, get_new_other, get_put_other] <;> rfl), (by simp (disch := first | omega | (simp only [Heap.next_new, Heap.next_put]; omega)) only [get_new_same, get_new_same1, get_new_same2, get_put_same, get_new_other, get_put_other] <;> rfl), (by first | exact get_put_same _ _ _ | (simp (disch := first | omega | (simp only [Heap.next_new, Heap.next_put]; omega)) only [get_new_same, get_new_same1, get_new_same2, get_put_same, get_new_other, get_put_other] <;> rfl)), (by simp)⟩ ?_
  rintro n ⟨T, D, G⟩ ⟨i, ov, vals, hn, hi, hvals, hmo, hcl, ⟨f, hT⟩, hD, hg, o1, o2, o3, on⟩
  dsimp only at *
  subst hT hD
  have hgn := hg.next
  have hc1 : (G.get W.next).bind AObj.cs = some [cv, I least] := by rw [o1]; rfl
  have hEg := hE _ hg
  have hfl : ∀ l : List Bed, (l.map Bed.c).flatten.length = l.length * 8 := fun l => by (rw [flatten_len _ 8 (fun x hx => by simp only [List.mem_map] at hx; obtain ⟨y, _, rfl⟩ := hx; rfl)]; simp)
  refine Ok.seq ?_
  refine Ok.seq ?_
  refine Ok.region ?_
  refine OkO.move rfl rfl ?_
  refine OkO.fieldAddr (o := 0) rfl (by kernel_rfl) rfl ?_
  refine OkO.load rfl rfl (loadAt_atom (n := 1) (by kernel_rfl) (by first | assumption | (simp (disch := first | omega | (simp only [Heap.next_new, Heap.next_put]; omega)) only [get_new_same, get_new_same1, get_new_same2, get_put_same, get_new_other, get_put_other] <;> first | rfl | assumption)) (by first | rfl | assumption)) ?_
  refine OkO.builtin rfl rfl rfl (builtin_len (by kernel_rfl) (by first | assumption | rfl)) ?_
  refine OkO.bin rfl rfl rfl (bin_lss _ _) ?_
  refine OkO.nil ?_
  refine Ok.cond rfl (fun h1 => ?_) (fun h1 => ?_)
  · -- yes h1
    have hlt : i < cols.length := by simp at h1; omega
    obtain ⟨c, hci⟩ : ∃ c, cols[i]? = some c := ⟨_, List.getElem?_eq_getElem hlt⟩
    have hvi : i < vs.length := by omega
    have hc8 : c.length ≤ 8 := (thin_facts hth).2 c (List.mem_of_getElem? hci)
    have hlc : lenOf vs[i] = some c.length := by simpa using (hv i vs[i] c (List.getElem?_eq_getElem hvi) hci).len
    obtain ⟨Gi, hGi⟩ : ∃ Gi, Gi = G := ⟨_, rfl⟩
    rw [← hGi] at hmo hcl o1 o2 o3 on hgn
    have hgi := hg
    rw [← hGi] at hgi
    refine Ok.skip ?_
    refine Ok.seq ?_
    refine Ok.block ?_
    refine Ok.seq ?_
    refine Ok.region ?_
    refine OkO.assign rfl rfl ?_
    refine OkO.nil ?_
    refine Ok.seq ?_
    refine Ok.seq ?_
    refine Ok.region ?_
    refine OkO.assign rfl rfl ?_
    refine OkO.nil ?_
    refine Ok.block ?_
    refine Ok.loop (fun n s => ∃ (k : Nat) (v5 : AV), n = c.length - k ∧ k ≤ c.length ∧ Mine Gi.next s.H v5 85 8 ((c.take k).map Bed.c).flatten ∧ Has 6 [(1, .ptr W.next 0), (2, .ptr (W.next + 1) 0), (3, .ptr (W.next + 2) 0), (4, I (i : Int)), (5, v5), (6, I (k : Int))] s.T ∧ s.D = [] ∧ Grow W s.H ∧ Ext Gi s.H) (c.length) (by unfold loopFuel; omega)
      ⟨0, .nils, rfl, Nat.zero_le _, Mine.nil _ _ _ _, Has.of (by kernel_rfl), rfl, hg, (by show Ext Gi G; rw [hGi]; exact Ext.refl _)⟩ ?_
    rintro n ⟨T, D, G⟩ ⟨k, v5, hn2, hk, hm5, ⟨f2, hT⟩, hD, hg, hxi⟩
    dsimp only at *
    subst hT hD
    have hgn := hg.next
    have hc1 : (G.get W.next).bind AObj.cs = some [cv, I least] := by rw [hxi.get _ (by omega), o1]; rfl
    have hEg := hE _ hg
    have hgx := hxi.next
    obtain ⟨mb, mo, mcs, m1, m2, m3, m4⟩ := (hR.ext hEg).at_ i [vs[i]] (by simp [hvi])
    have m5 := seg_one m3
    refine Ok.seq ?_
    refine Ok.seq ?_
    refine Ok.region ?_
    refine OkO.move rfl rfl ?_
    refine OkO.fieldAddr (o := 0) rfl (by kernel_rfl) rfl ?_
    refine OkO.load rfl rfl (loadAt_atom (n := 1) (by kernel_rfl) (by first | assumption | (simp (disch := first | omega | (simp only [Heap.next_new, Heap.next_put]; omega)) only [get_new_same, get_new_same1, get_new_same2, get_put_same, get_new_other, get_put_other] <;> first | rfl | assumption)) (by first | rfl | assumption)) ?_
    refine OkO.move rfl rfl ?_
    refine OkO.index (sz := 1) (n := i) rfl rfl rfl (by kernel_rfl) (by first | assumption | rfl) ?_ -- index ('Go.Operand.tmp', 20) ('Go.Operand.tmp', 21)
    refine OkO.load rfl rfl (loadAt_atom (n := 1) (by kernel_rfl) (by first | assumption | (simp (disch := first | omega | (simp only [Heap.next_new, Heap.next_put]; omega)) only [get_new_same, get_new_same1, get_new_same2, get_put_same, get_new_other, get_put_other] <;> first | rfl | assumption)) (by first | rfl | assumption)) ?_
    refine OkO.builtin rfl rfl rfl (builtin_len (by kernel_rfl) (by first | assumption | rfl)) ?_
    refine OkO.bin rfl rfl rfl (bin_lss _ _) ?_
    refine OkO.nil ?_
    refine Ok.cond rfl (fun h2 => ?_) (fun h2 => ?_)
    · -- yes h2
      have hkl : k < c.length := by simp at h2; omega
      obtain ⟨bb, bo, bcs, k1, k2, k3, k4⟩ := ((hv i vs[i] c (List.getElem?_eq_getElem hvi) hci).ext hEg).at_ k c[k].c (by simp [hkl])
      have hne : bb ≠ G.next := by omega
      have hne3 : W.next ≠ G.next := by omega
      have ht : ((c.take (k + 1)).map Bed.c).flatten = ((c.take k).map Bed.c).flatten ++ c[k].c := by (rw [List.take_succ_eq_append_getElem hkl, List.map_append, List.flatten_append]; rfl)
      refine Ok.skip ?_
      refine Ok.seq ?_
      refine Ok.block ?_
      refine Ok.seq ?_
      refine Ok.region ?_
      refine OkO.fieldAddr (o := 0) rfl (by kernel_rfl) rfl ?_
      refine OkO.load rfl rfl (loadAt_atom (n := 1) (by kernel_rfl) (by first | assumption | (simp (disch := first | omega | (simp only [Heap.next_new, Heap.next_put]; omega)) only [get_new_same, get_new_same1, get_new_same2, get_put_same, get_new_other, get_put_other] <;> first | rfl | assumption)) (by first | rfl | assumption)) ?_
      refine OkO.move rfl rfl ?_
      refine OkO.index (sz := 1) (n := i) rfl rfl rfl (by kernel_rfl) (by first | assumption | rfl) ?_ -- index ('Go.Operand.tmp', 29) ('Go.Operand.tmp', 30)
      refine OkO.load rfl rfl (loadAt_atom (n := 1) (by kernel_rfl) (by first | assumption | (simp (disch := first | omega | (simp only [Heap.next_new, Heap.next_put]; omega)) only [get_new_same, get_new_same1, get_new_same2, get_put_same, get_new_other, get_put_other] <;> first | rfl | assumption)) (by first | rfl | assumption)) ?_
      refine OkO.move rfl rfl ?_
      refine OkO.index (sz := 8) (n := k) rfl rfl rfl (by kernel_rfl) (by first | assumption | rfl) ?_ -- index ('Go.Operand.tmp', 32) ('Go.Operand.tmp', 33)
      refine OkO.load rfl rfl (loadAt_agg (n := 8) (by kernel_rfl) (by first | assumption | (simp (disch := first | omega | (simp only [Heap.next_new, Heap.next_put]; omega)) only [get_new_same, get_new_same1, get_new_same2, get_put_same, get_new_other, get_put_other] <;> first | rfl | assumption)) (by first | rfl | assumption)) ?_
      refine OkO.alloc (z := [.int .i64 0, .int .i64 0, .int .i64 0, .int .i64 0, .int .i64 0, .int .i64 0, .int .i64 0, .int .i64 0]) rfl (by kernel_rfl) ?_
      refine OkO.store rfl rfl rfl (storeAt_cells (n := 8) (ag := true) (by kernel_rfl) (by first | assumption | (simp (disch := first | omega | (simp only [Heap.next_new, Heap.next_put]; omega)) only [get_new_same, get_new_same1, get_new_same2, get_put_same, get_new_other, get_put_other] <;> first | rfl | assumption)) rfl rfl rfl) ?_
      refine OkO.nil ?_
      refine Ok.drawn [(0, true, []), (1, true, []), (2, true, []), (3, true, []), (4, true, []), (5, true, []), (6, true, []), (8, true, []), (9, true, []), (11, true, []), (12, true, []), (7, false, [12, 9, 4, 2]), (10, false, [12, 6, 4, 2]), (13, false, [9, 6, 4, 2]), (14, true, []), (15, true, [12, 9, 6, 4, 2]), (16, false, [12, 9, 6, 4, 2]), (17, false, [])] (by kernel_rfl) ?_
      refine OkP.step ?_
      refine OkO.move rfl rfl ?_
      refine OkO.nil ⟨rfl, ?_⟩
      refine OkP.step ?_
      refine OkO.fieldAddr (o := 0) rfl (by kernel_rfl) rfl ?_
      refine OkO.nil ⟨rfl, ?_⟩
      refine OkP.step ?_
      refine OkO.load rfl rfl (loadAt_atom (n := 1) (by kernel_rfl) (by first | assumption | (simp (disch := first | omega | (simp only [Heap.next_new, Heap.next_put]; omega)) only [get_new_same, get_new_same1, get_new_same2, get_put_same, get_new_other, get_put_other] <;> first | rfl | assumption)) (by first | rfl | assumption)) ?_
      refine OkO.nil ⟨rfl, ?_⟩
      refine OkP.step ?_
      refine OkO.fieldAddr (o := 1) rfl (by kernel_rfl) rfl ?_
      refine OkO.nil ⟨rfl, ?_⟩
      refine OkP.step ?_
      refine OkO.load rfl rfl (loadAt_atom (n := 1) (by kernel_rfl) (by first | assumption | (simp (disch := first | omega | (simp only [Heap.next_new, Heap.next_put]; omega)) only [get_new_same, get_new_same1, get_new_same2, get_put_same, get_new_other, get_put_other] <;> first | rfl | assumption)) (by first | rfl | assumption)) ?_
      refine OkO.nil ⟨rfl, ?_⟩
      refine OkP.step ?_
      refine OkO.fieldAddr (o := 2) rfl (by kernel_rfl) rfl ?_
      refine OkO.nil ⟨rfl, ?_⟩
      refine OkP.step ?_
      refine OkO.load rfl rfl (loadAt_agg (n := 2) (by kernel_rfl) (by first | assumption | (simp (disch := first | omega | (simp only [Heap.next_new, Heap.next_put]; omega)) only [get_new_same, get_new_same1, get_new_same2, get_put_same, get_new_other, get_put_other] <;> first | rfl | assumption)) (by first | rfl | assumption)) ?_
      refine OkO.nil ⟨rfl, ?_⟩
      refine OkP.step ?_
      refine OkO.fieldAddr (o := 4) rfl (by kernel_rfl) rfl ?_
      refine OkO.nil ⟨rfl, ?_⟩
      refine OkP.step ?_
      refine OkO.load rfl rfl (loadAt_agg (n := 2) (by kernel_rfl) (by first | assumption | (simp (disch := first | omega | (simp only [Heap.next_new, Heap.next_put]; omega)) only [get_new_same, get_new_same1, get_new_same2, get_put_same, get_new_other, get_put_other] <;> first | rfl | assumption)) (by first | rfl | assumption)) ?_
      refine OkO.nil ⟨rfl, ?_⟩
      refine OkP.step ?_
      refine OkO.fieldAddr (o := 6) rfl (by kernel_rfl) rfl ?_
      refine OkO.nil ⟨rfl, ?_⟩
      refine OkP.step ?_
      refine OkO.load rfl rfl (loadAt_agg (n := 2) (by kernel_rfl) (by first | assumption | (simp (disch := first | omega | (simp only [Heap.next_new, Heap.next_put]; omega)) only [get_new_same, get_new_same1, get_new_same2, get_put_same, get_new_other, get_put_other] <;> first | rfl | assumption)) (by first | rfl | assumption)) ?_
      refine OkO.nil ⟨rfl, ?_⟩
      refine OkP.step ?_
      refine OkO.callV rfl rfl rfl rfl rfl (c29 _ _ _ _) ?_ -- "sackung/sackunglaw01.to"
      refine OkO.nil ⟨(stills_cons (still_load rfl rfl (loadAt_agg (n := 2) (by kernel_rfl) (by first | assumption | (simp (disch := first | omega | (simp only [Heap.next_new, Heap.next_put]; omega)) only [get_new_same, get_new_same1, get_new_same2, get_put_same, get_new_other, get_put_other] <;> first | rfl | assumption)) (by first | rfl | assumption)) rfl (eqv_refl _ (by first | rfl | exact len_plain (by assumption)))) (stills_cons (still_load rfl rfl (loadAt_agg (n := 2) (by kernel_rfl) (by first | assumption | (simp (disch := first | omega | (simp only [Heap.next_new, Heap.next_put]; omega)) only [get_new_same, get_new_same1, get_new_same2, get_put_same, get_new_other, get_put_other] <;> first | rfl | assumption)) (by first | rfl | assumption)) rfl (eqv_refl _ (by first | rfl | exact len_plain (by assumption)))) (stills_cons (still_load rfl rfl (loadAt_atom (n := 1) (by kernel_rfl) (by first | assumption | (simp (disch := first | omega | (simp only [Heap.next_new, Heap.next_put]; omega)) only [get_new_same, get_new_same1, get_new_same2, get_put_same, get_new_other, get_put_other] <;> first | rfl | assumption)) (by first | rfl | assumption)) rfl (eqv_refl _ (by first | rfl | exact len_plain (by assumption)))) (stills_cons (still_load rfl rfl (loadAt_atom (n := 1) (by kernel_rfl) (by first | assumption | (simp (disch := first | omega | (simp only [Heap.next_new, Heap.next_put]; omega)) only [get_new_same, get_new_same1, get_new_same2, get_put_same, get_new_other, get_put_other] <;> first | rfl | assumption)) (by first | rfl | assumption)) rfl (eqv_refl _ (by first | rfl | exact len_plain (by assumption)))) rfl)))), ?_⟩
      refine OkP.step ?_
      refine OkO.callV rfl rfl rfl rfl rfl (c29 _ _ _ _) ?_ -- "sackung/sackunglaw01.to"
      refine OkO.nil ⟨(stills_cons (still_load rfl rfl (loadAt_agg (n := 2) (by kernel_rfl) (by first | assumption | (simp (disch := first | omega | (simp only [Heap.next_new, Heap.next_put]; omega)) only [get_new_same, get_new_same1, get_new_same2, get_put_same, get_new_other, get_put_other] <;> first | rfl | assumption)) (by first | rfl | assumption)) rfl (eqv_refl _ (by first | rfl | exact len_plain (by assumption)))) (stills_cons (still_load rfl rfl (loadAt_agg (n := 2) (by kernel_rfl) (by first | assumption | (simp (disch := first | omega | (simp only [Heap.next_new, Heap.next_put]; omega)) only [get_new_same, get_new_same1, get_new_same2, get_put_same, get_new_other, get_put_other] <;> first | rfl | assumption)) (by first | rfl | assumption)) rfl (eqv_refl _ (by first | rfl | exact len_plain (by assumption)))) (stills_cons (still_load rfl rfl (loadAt_atom (n := 1) (by kernel_rfl) (by first | assumption | (simp (disch := first | omega | (simp only [Heap.next_new, Heap.next_put]; omega)) only [get_new_same, get_new_same1, get_new_same2, get_put_same, get_new_other, get_put_other] <;> first | rfl | assumption)) (by first | rfl | assumption)) rfl (eqv_refl _ (by first | rfl | exact len_plain (by assumption)))) (stills_cons (still_load rfl rfl (loadAt_atom (n := 1) (by kernel_rfl) (by first | assumption | (simp (disch := first | omega | (simp only [Heap.next_new, Heap.next_put]; omega)) only [get_new_same, get_new_same1, get_new_same2, get_put_same, get_new_other, get_put_other] <;> first | rfl | assumption)) (by first | rfl | assumption)) rfl (eqv_refl _ (by first | rfl | exact len_plain (by assumption)))) rfl)))), ?_⟩
      refine OkP.step ?_
      refine OkO.callV rfl rfl rfl rfl rfl (c29 _ _ _ _) ?_ -- "sackung/sackunglaw01.to"
      refine OkO.nil ⟨(stills_cons (still_load rfl rfl (loadAt_agg (n := 2) (by kernel_rfl) (by first | assumption | (simp (disch := first | omega | (simp only [Heap.next_new, Heap.next_put]; omega)) only [get_new_same, get_new_same1, get_new_same2, get_put_same, get_new_other, get_put_other] <;> first | rfl | assumption)) (by first | rfl | assumption)) rfl (eqv_refl _ (by first | rfl | exact len_plain (by assumption)))) (stills_cons (still_load rfl rfl (loadAt_agg (n := 2) (by kernel_rfl) (by first | assumption | (simp (disch := first | omega | (simp only [Heap.next_new, Heap.next_put]; omega)) only [get_new_same, get_new_same1, get_new_same2, get_put_same, get_new_other, get_put_other] <;> first | rfl | assumption)) (by first | rfl | assumption)) rfl (eqv_refl _ (by first | rfl | exact len_plain (by assumption)))) (stills_cons (still_load rfl rfl (loadAt_atom (n := 1) (by kernel_rfl) (by first | assumption | (simp (disch := first | omega | (simp only [Heap.next_new, Heap.next_put]; omega)) only [get_new_same, get_new_same1, get_new_same2, get_put_same, get_new_other, get_put_other] <;> first | rfl | assumption)) (by first | rfl | assumption)) rfl (eqv_refl _ (by first | rfl | exact len_plain (by assumption)))) (stills_cons (still_load rfl rfl (loadAt_atom (n := 1) (by kernel_rfl) (by first | assumption | (simp (disch := first | omega | (simp only [Heap.next_new, Heap.next_put]; omega)) only [get_new_same, get_new_same1, get_new_same2, get_put_same, get_new_other, get_put_other] <;> first | rfl | assumption)) (by first | rfl | assumption)) rfl (eqv_refl _ (by first | rfl | exact len_plain (by assumption)))) rfl)))), ?_⟩
      refine OkP.step ?_
      refine OkO.build (z := [.int .i64 0, .int .i64 0, .int .i64 0, .int .i64 0, .int .i64 0, .int .i64 0, .int .i64 0, .int .i64 0]) (pl := [(0, 1), (1, 1), (2, 2), (4, 2), (6, 2)]) rfl (by kernel_rfl) rfl rfl ?_
      refine OkO.nil ⟨rfl, ?_⟩
      refine OkP.step ?_
      refine OkO.buildSlice (el := 85) (sz := 8) (z := [.int .i64 0, .int .i64 0, .int .i64 0, .int .i64 0, .int .i64 0, .int .i64 0, .int .i64 0, .int .i64 0]) rfl (by kernel_rfl) (by decide) rfl rfl ?_
      refine OkO.nil ⟨(stills_cons (still_load rfl rfl (loadAt_agg (n := 2) (by kernel_rfl) (by first | assumption | (simp (disch := first | omega | (simp only [Heap.next_new, Heap.next_put]; omega)) only [get_new_same, get_new_same1, get_new_same2, get_put_same, get_new_other, get_put_other] <;> first | rfl | assumption)) (by first | rfl | assumption)) rfl (eqv_refl _ (by first | rfl | exact len_plain (by assumption)))) (stills_cons (still_load rfl rfl (loadAt_agg (n := 2) (by kernel_rfl) (by first | assumption | (simp (disch := first | omega | (simp only [Heap.next_new, Heap.next_put]; omega)) only [get_new_same, get_new_same1, get_new_same2, get_put_same, get_new_other, get_put_other] <;> first | rfl | assumption)) (by first | rfl | assumption)) rfl (eqv_refl _ (by first | rfl | exact len_plain (by assumption)))) (stills_cons (still_load rfl rfl (loadAt_agg (n := 2) (by kernel_rfl) (by first | assumption | (simp (disch := first | omega | (simp only [Heap.next_new, Heap.next_put]; omega)) only [get_new_same, get_new_same1, get_new_same2, get_put_same, get_new_other, get_put_other] <;> first | rfl | assumption)) (by first | rfl | assumption)) rfl (eqv_refl _ (by first | rfl | exact len_plain (by assumption)))) (stills_cons (still_load rfl rfl (loadAt_atom (n := 1) (by kernel_rfl) (by first | assumption | (simp (disch := first | omega | (simp only [Heap.next_new, Heap.next_put]; omega)) only [get_new_same, get_new_same1, get_new_same2, get_put_same, get_new_other, get_put_other] <;> first | rfl | assumption)) (by first | rfl | assumption)) rfl (eqv_refl _ (by first | rfl | exact len_plain (by assumption)))) (stills_cons (still_load rfl rfl (loadAt_atom (n := 1) (by kernel_rfl) (by first | assumption | (simp (disch := first | omega | (simp only [Heap.next_new, Heap.next_put]; omega)) only [get_new_same, get_new_same1, get_new_same2, get_put_same, get_new_other, get_put_other] <;> first | rfl | assumption)) (by first | rfl | assumption)) rfl (eqv_refl _ (by first | rfl | exact len_plain (by assumption)))) rfl))))), ?_⟩
      refine OkP.step ?_
      refine OkO.builtinE rfl rfl rfl ((hm5.to ⟨by simp only [Heap.next_new, Heap.next_put]; omega, fun n hn => by simp (disch := first | omega | (simp only [Heap.next_new, Heap.next_put]; omega)) only [get_new_same, get_new_same1, get_new_same2, get_put_same, get_new_other, get_put_other]⟩).app2 (W := W) (sz := 8) (by_ := 64) (e := 85) (n := 1) (new := c[k].c) (by (try dsimp only); repeat (first | (first | exact hg | exact hG) | apply Grow.new | (refine Grow.put ?_ _ (by first | omega | (simp only [Heap.next_new, Heap.next_put]; omega))))) (by omega) (by simp only [Heap.next_new, Heap.next_put]; omega) (by kernel_rfl) (by kernel_rfl) (elems_new (n := 1) (sz := 8) rfl) rfl rfl (by rw [hfl]; simp; omega) (by omega) (by omega) rfl) ?_
      rintro v2 G2 ⟨q1, q2, q3, q4, q5⟩
      have hbk : (G2.get G.next).bind AObj.cs = some c[k].c := by rw [q4 _ (by simp only [Heap.next_new, Heap.next_put]; omega) (fun m e => by rcases hm5 with ⟨h, _⟩ | ⟨b2, n2, h, _, _, _, h5⟩ <;> rw [h] at e <;> cases e; omega)]; simp (disch := first | omega | (simp only [Heap.next_new, Heap.next_put]; omega)) only [get_new_same, get_new_same1, get_new_same2, get_put_same, get_new_other, get_put_other]; rfl
      refine OkO.nil ⟨(stills_cons (still_load rfl rfl (loadAt_agg (n := 2) (by kernel_rfl) (by first | assumption | (simp (disch := first | omega | (simp only [Heap.next_new, Heap.next_put]; omega)) only [get_new_same, get_new_same1, get_new_same2, get_put_same, get_new_other, get_put_other] <;> first | rfl | assumption)) (by first | rfl | assumption)) rfl (eqv_refl _ (by first | rfl | exact len_plain (by assumption)))) (stills_cons (still_load rfl rfl (loadAt_agg (n := 2) (by kernel_rfl) (by first | assumption | (simp (disch := first | omega | (simp only [Heap.next_new, Heap.next_put]; omega)) only [get_new_same, get_new_same1, get_new_same2, get_put_same, get_new_other, get_put_other] <;> first | rfl | assumption)) (by first | rfl | assumption)) rfl (eqv_refl _ (by first | rfl | exact len_plain (by assumption)))) (stills_cons (still_load rfl rfl (loadAt_agg (n := 2) (by kernel_rfl) (by first | assumption | (simp (disch := first | omega | (simp only [Heap.next_new, Heap.next_put]; omega)) only [get_new_same, get_new_same1, get_new_same2, get_put_same, get_new_other, get_put_other] <;> first | rfl | assumption)) (by first | rfl | assumption)) rfl (eqv_refl _ (by first | rfl | exact len_plain (by assumption)))) (stills_cons (still_load rfl rfl (loadAt_atom (n := 1) (by kernel_rfl) (by first | assumption | (simp (disch := first | omega | (simp only [Heap.next_new, Heap.next_put]; omega)) only [get_new_same, get_new_same1, get_new_same2, get_put_same, get_new_other, get_put_other] <;> first | rfl | assumption)) (by first | rfl | assumption)) rfl (eqv_refl _ (by first | rfl | exact len_plain (by assumption)))) (stills_cons (still_load rfl rfl (loadAt_atom (n := 1) (by kernel_rfl) (by first | assumption | (simp (disch := first | omega | (simp only [Heap.next_new, Heap.next_put]; omega)) only [get_new_same, get_new_same1, get_new_same2, get_put_same, get_new_other, get_put_other] <;> first | rfl | assumption)) (by first | rfl | assumption)) rfl (eqv_refl _ (by first | rfl | exact len_plain (by assumption)))) rfl))))), ?_⟩
      refine OkP.step ?_
      refine OkO.assign rfl rfl ?_
      refine OkO.nil ⟨rfl, ?_⟩
      refine OkP.nil ?_
      refine Ok.region ?_
      refine OkO.move rfl rfl ?_
      refine OkO.bin rfl rfl rfl (bin_add (by omega) (by omega)) ?_
      refine OkO.assign rfl rfl ?_
      refine OkO.nil ?_
      refine ⟨c.length - (k + 1), by omega, k + 1, v2, rfl, hkl, by rw [ht]; exact q1, Has.of (by kernel_rfl), rfl, q2, ⟨by show Gi.next ≤ G2.next; have := q3.next; simp only [Heap.next_new, Heap.next_put] at this; omega, fun q hq => ?_⟩⟩
      show G2.get q = _
      rw [q3.get _ hq (by simp only [Heap.next_new, Heap.next_put]; omega)]
      simp (disch := first | omega | (simp only [Heap.next_new, Heap.next_put]; omega)) only [get_new_same, get_new_same1, get_new_same2, get_put_same, get_new_other, get_put_other]
      exact hxi.get q hq
    · -- no h2
      have hke : k = c.length := by simp at h2; omega
      subst hke
      rw [List.take_length] at hm5
      have v51 := hm5.one
      have hc3b : (G.get (W.next + 2)).bind AObj.cs = some [ov, I least] := by rw [hxi.get _ (by omega), o3]; rfl
      refine Ok.exit ?_
      refine Ok.region ?_
      refine OkO.fieldAddr (o := 0) rfl (by kernel_rfl) rfl ?_
      refine OkO.load rfl rfl (loadAt_atom (n := 1) (by kernel_rfl) (by first | assumption | (simp (disch := first | omega | (simp only [Heap.next_new, Heap.next_put]; omega)) only [get_new_same, get_new_same1, get_new_same2, get_put_same, get_new_other, get_put_other] <;> first | rfl | assumption)) (by first | rfl | assumption)) ?_
      refine OkO.move rfl rfl ?_
      refine OkO.buildSlice (el := 86) (sz := 1) (z := [.nils]) (cs := [v5]) rfl (by kernel_rfl) (by decide) rfl (by show fillS (fun i => some (i * 1, 1)) [AV.nils] [(0, v5)] = some [v5]; simp [fillS, spl, v51.1]) ?_
      refine OkO.builtinE rfl rfl rfl ((Mine.to hmo (Ext.trans hxi (Grow.toNew _ _))).app2 (W := W) (sz := 1) (by_ := 24) (e := 86) (n := 1) (new := [v5]) (hg.new _) (by omega) (by simp only [Heap.next_new]; omega) (by kernel_rfl) (by kernel_rfl) (elems_new (n := 1) (sz := 1) rfl) rfl rfl (by omega) (by omega) (by omega) (by simp [atoms, v51.2])) ?_
      rintro v2 G2 ⟨p1, p2, p3, p4, p5, p6⟩
      obtain ⟨mm, rfl⟩ := p6
      have ovb0 : ∀ m, ov ≠ .opn (W.next + 2) m := fun m e => by rcases hmo with ⟨h, _⟩ | ⟨b2, n2, h, _, _, h4, h5⟩ <;> rw [h] at e <;> cases e; omega
      have hc3 : G2.get (W.next + 2) = some (.cells [ov, I least] 35) := by rw [p4 _ (by simp only [Heap.next_new]; omega) ovb0, get_new_other _ _ _ (by omega), hxi.get _ (by omega)]; exact o3
      refine OkO.fieldAddr (o := 0) rfl (by kernel_rfl) rfl ?_
      refine OkO.store rfl rfl rfl (storeAt_cells (n := 1) (ag := false) (by kernel_rfl) (by first | assumption | (simp (disch := first | omega | (simp only [Heap.next_new, Heap.next_put]; omega)) only [get_new_same, get_new_same1, get_new_same2, get_put_same, get_new_other, get_put_other] <;> first | rfl | assumption)) rfl rfl rfl) ?_
      refine OkO.nil ?_
      refine Ok.region ?_
      refine OkO.move rfl rfl ?_
      refine OkO.bin rfl rfl rfl (bin_add (by omega) (by omega)) ?_
      refine OkO.assign rfl rfl ?_
      refine OkO.nil ?_
      simp only [Heap.next_new] at p5
      have fr3 : ∀ j, j < G.next → j ≠ W.next + 2 → (∀ m, ov ≠ .opn j m) → ((G2.put (W.next + 2) (.cells [.opn (G.next + 1) mm, I least] 35)).get j) = G.get j := fun j h1 h2 h3 => by rw [get_put_other _ _ _ _ h2, p4 j (by simp only [Heap.next_new]; omega) h3, get_new_other _ _ _ (by omega)]
      have ovb : ∀ b m, ov = .opn b m → b < Gi.next ∧ W.next + 3 ≤ b := fun b m e => by rcases hmo with ⟨h, _⟩ | ⟨b2, n2, h, _, _, h4, h5⟩ <;> rw [h] at e <;> cases e; exact ⟨h5, h4⟩
      have gi : ∀ j, j < Gi.next → j ≠ W.next + 2 → (∀ m, ov ≠ .opn j m) → ((G2.put (W.next + 2) (.cells [.opn (G.next + 1) mm, I least] 35)).get j) = Gi.get j := fun j h1 h2 h3 => by rw [fr3 j (by have := hxi.next; omega) h2 h3, hxi.get j h1]
      refine ⟨cols.length - (i + 1), by omega, i + 1, .opn (G.next + 1) mm, vals ++ [v5], rfl, by omega, by simp [hvals], ?_, ?_, Has.of (by kernel_rfl), rfl, (by (try dsimp only); repeat (first | (first | exact hg | exact p2 | exact hG) | apply Grow.new | (refine Grow.put ?_ _ (by first | omega | (simp only [Heap.next_new, Heap.next_put]; omega))))), ?_, ?_, ?_, ?_⟩
      · rcases p1 with ⟨h, _⟩ | ⟨b2, n2, h, h2, h3, h4, h5⟩
        · cases h
        · exact .inr ⟨b2, n2, h, by show (G2.put _ _).get b2 = _; rw [get_put_other _ _ _ _ (by omega)]; exact h2, h3, h4, h5⟩
      · intro j x c2 hx hc2
        by_cases hj : j < vals.length
        · rw [List.getElem?_append_left hj] at hx
          obtain ⟨k9, e9, u1, u2, u3, u4⟩ := hcl j x c2 hx hc2
          refine ⟨k9, e9, u1, by show e9 ≤ G2.next; have := hxi.next; omega, Fr.to u3 (fun q a1 a2 => gi q (by omega) (by omega) (fun m e => by have := u4 _ _ e; omega)), fun b m e => by cases e; have := hxi.next; omega⟩
        · have hj2 : j = i := by have := (List.getElem?_eq_some_iff.1 hx).1; simp at this; omega
          subst hj2
          rw [hci] at hc2; cases hc2
          rw [List.getElem?_append_right (by omega), show j - vals.length = 0 from by omega] at hx
          cases hx
          refine ⟨Gi.next, G.next, by omega, by show G.next ≤ G2.next; omega, ?_, fun b m e => by cases e; omega⟩
          refine Fr.to ((Mine.fr hm5).mono fun X h => Mine.row h (fun x hx => by simp only [List.mem_map] at hx; obtain ⟨y, _, rfl⟩ := hx; rfl) (by omega)) (fun q a1 a2 => fr3 q a2 (by omega) (fun m e => by have := ovb _ _ e; omega))
      · show (G2.put _ _).get W.next = _
        exact (gi W.next (by omega) (by omega) (fun m e => by have := ovb _ _ e; omega)).trans o1
      · show (G2.put _ _).get (W.next + 1) = _
        exact (gi (W.next + 1) (by omega) (by omega) (fun m e => by have := ovb _ _ e; omega)).trans o2
      · exact get_put_same _ _ _
      · show W.next + 3 ≤ G2.next
        omega
  · -- no h1
    have hge : i = cols.length := by simp at h1; omega
    have hz3 : (G.get (W.next + 2)).bind AObj.cs = some [ov, I least] := by rw [o3]; rfl
    have ov1 := hmo.one
    refine Ok.exit ?_
    refine Ok.seq ?_
    refine Ok.region ?_
    refine OkO.load rfl rfl (loadAt_agg (n := 2) (by kernel_rfl) (by first | assumption | (simp (disch := first | omega | (simp only [Heap.next_new, Heap.next_put]; omega)) only [get_new_same, get_new_same1, get_new_same2, get_put_same, get_new_other, get_put_other] <;> first | rfl | assumption)) (by first | rfl | assumption)) ?_
    refine OkO.store rfl rfl rfl (storeAt_cells (n := 2) (ag := true) (by kernel_rfl) o2 rfl (by show atoms [ov, I least] = true; simp [atoms, ov1.2, show ∀ z, (I z).atom = true from fun _ => rfl]) rfl) ?_
    refine OkO.nil ?_
    refine Ok.ret ⟨.inr rfl, ?_⟩
    have hgf : Grow W (G.put (W.next + 1) (.cells [ov, I least] 35)) := hg.put _ (by omega)
    refine back_newA (v := .agg [ov, I least]) (resV_cell rfl (loadAt_agg (n := 2) (by kernel_rfl) (by first | assumption | (simp (disch := first | omega | (simp only [Heap.next_new, Heap.next_put]; omega)) only [get_new_same, get_new_same1, get_new_same2, get_put_same, get_new_other, get_put_other] <;> first | rfl | assumption)) (by first | rfl | assumption)) resV_nil) rfl (by rw [← hW]; exact hgf) (fun H' r1 r2 => ⟨ov, rfl, r1, ?_⟩)
    rcases r2 with ⟨_, hf⟩ | ⟨r2, r3⟩
    · intro X _ _
      have hn0 : ov = .nils := by rcases hmo with ⟨h, _⟩ | ⟨b2, n2, h, _⟩; (exact h); (rw [h] at hf; simp [AV.flat, AV.flats] at hf)
      have hv0 : vals = [] := by rcases hmo with ⟨_, h⟩ | ⟨b2, n2, h, _⟩; (exact h); (rw [h] at hn0; cases hn0)
      subst hn0 hv0
      exact Mine.cols (k0 := 0) (.inl ⟨rfl, rfl⟩) (by rw [hvals, hge]) (fun j x c hx => by simp at hx)
    · rw [r3, ← hN]
      intro X x1 x2
      have hX : ∀ n, W.next ≤ n → n < G.next → n ≠ W.next + 1 → X.get n = G.get n := fun n a1 a2 a3 => by rw [x2 n a1 a2, r2 n, get_put_other _ _ _ _ a3]
      refine Mine.cols (hmo.fr X x1 (fun n a1 a2 => hX n (by omega) a2 (by omega))) (by rw [hvals, hge]) (fun j x c hx hc => ?_)
      obtain ⟨k9, e9, u1, u2, u3, _⟩ := hcl j x c hx hc
      have x1' : G.next ≤ X.next := x1
      exact u3 X (by omega) (fun n a1 a2 => hX n (by omega) (by omega) (by omega))
end
end Go.Ev
