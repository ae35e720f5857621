/-
  Functions of the program, reckoned by the evaluator: what each answers, in the document's words, and that it leaves what came in as it was (part 3).
-/
import Derived.Test.YtfhomicfhgiidaaG2
set_option maxRecDepth 100000
set_option linter.unusedSimpArgs false
set_option linter.unusedVariables false
namespace Go.Ev
open Go Go.Proofs
noncomputable section
/-- A slice of columns of beds. -/
def Mat (H : Heap) (v : AV) (cols : List (List Bed)) : Prop := ∃ vs : List AV, Row H v 1 (vs.map fun x => [x]) ∧ vs.length = cols.length ∧ ∀ (i : Nat) x l, vs[i]? = some x → cols[i]? = some l → Row H x 8 (l.map Bed.c)
theorem Mat.ext {H G : Heap} {v : AV} {cols : List (List Bed)} (h : Mat H v cols) (g : Ext H G) : Mat G v cols := let ⟨vs, h1, h2, h3⟩ := h; ⟨vs, h1.ext g, h2, fun i x l k q => (h3 i x l k q).ext g⟩
def colOk (k : Nat) (l : List Bed) : Bool := decide (l.length = k) && l.all Bed.ok
/-- Is a slope valid? -/
def slOk (cols : List (List Bed)) (least : Int) : Bool := inB least 1 4 && inB cols.length 1 12 && inB (cols.headD []).length 1 5 && cols.all (colOk (cols.headD []).length)
theorem c90 (m : Nat) (v : AV) (l : List Bed) (k bx : Nat) (t : TypeId) (H : Heap) (hR : Row H v 8 (l.map Bed.c)) (hb : H.get bx = some (.cells [I (k : Int)] t)) (hk : k ≤ 1000000) : RR (m + 4) (.fn 90 [v, .ptr bx 0]) H = some (.bool (colOk k l), H) := by
  refine (R_fn _ _ _ _ _).trans ?_
  refine fn_ok Try.func90 rfl rfl (by kernel_rfl) (by kernel_rfl) ?_
  obtain ⟨W, hW⟩ : ∃ W : Heap, W = ⟨H.t, H.next, H.next⟩ := ⟨_, rfl⟩
  have hg : ∀ n, W.get n = H.get n := fun n => by rw [hW]; rfl
  have hN : W.next = H.next := by rw [hW]
  have hE : ∀ G, Grow W G → Ext H G := fun G g => ⟨by rw [← hN]; exact g.next, fun n k => by rw [g.get n (by rw [hN]; exact k), hg]⟩
  have hG : Grow W W := Grow.refl (by rw [hW]; exact Nat.le_refl _)
  rw [← hW]
  have hlen : lenOf v = some l.length := by simpa using hR.len
  have hbW : (W.get bx).bind AObj.cs = some [I (k : Int)] := by rw [hg, hb]; rfl
  refine Ok.seq ?_
  refine Ok.region ?_
  refine OkO.assign rfl rfl ?_
  refine OkO.nil ?_
  refine Ok.seq ?_
  refine Ok.region ?_
  refine OkO.move rfl rfl ?_
  refine OkO.builtin rfl rfl rfl (builtin_len (by kernel_rfl) (by first | assumption | rfl)) ?_
  refine OkO.load rfl rfl (loadAt_atom (n := 1) (by kernel_rfl) (by first | assumption | (simp (disch := first | omega | (simp only [Heap.next_new, Heap.next_put]; omega)) only [get_new_same, get_new_same1, get_new_same2, get_put_same, get_new_other, get_put_other] <;> first | rfl | assumption)) (by first | rfl | assumption)) ?_
  refine OkO.bin rfl rfl rfl (bin_eql _ _) ?_
  refine OkO.move rfl rfl ?_
  refine OkO.split (d := 8) rfl (fun g1 => ?_) (fun g1 => ?_)
  · -- true g1
    have hk1 : (l.length : Int) = k := by simpa using g1
    have hle : l.length ≤ 1000000 := by omega
    have hfin : (l.map Bed.ok).all id = colOk k l := by unfold colOk; rw [show decide (l.length = k) = true from by simp; omega, List.all_map]; rfl
    refine OkO.move rfl rfl ?_
    refine OkO.callV rfl rfl rfl rfl rfl (c91 (m + 2) v _ l (l.map Bed.ok) _ (hR.ext (hE _ (by (try dsimp only); repeat (first | exact hG | apply Grow.new | (refine Grow.put ?_ _ (by first | omega | (simp only [Heap.next_new, Heap.next_put]; omega))))))) hle (by simp) (fun i x b h1 h2 => ⟨92, [.agg x.c], rfl, fun G _ => by rw [List.getElem?_map, h1] at h2; cases h2; exact c92 m x G⟩)) ?_ -- "sackung/slope.all[sackung/slope.Bed]"
    refine OkO.pick (b := true) rfl rfl (fun _ => rfl) nofun ?_
    refine OkO.assign rfl rfl ?_
    refine OkO.nil ?_
    refine Ok.ret ⟨.inr rfl, ?_⟩
    exact back_flat rfl (congrArg AV.bool hfin) rfl (by rw [← hW]; exact (by (try dsimp only); repeat (first | exact hG | apply Grow.new | (refine Grow.put ?_ _ (by first | omega | (simp only [Heap.next_new, Heap.next_put]; omega))))))
  · -- false g1
    have hk1 : ¬ (l.length : Int) = k := by simpa using g1
    have hfin : false = colOk k l := by unfold colOk; rw [show decide (l.length = k) = false from by simp; omega]; rfl
    refine OkO.skip rfl ?_
    refine OkO.skip rfl ?_
    refine OkO.pick (b := false) rfl rfl nofun (fun _ => rfl) ?_
    refine OkO.assign rfl rfl ?_
    refine OkO.nil ?_
    refine Ok.ret ⟨.inr rfl, ?_⟩
    exact back_flat rfl (congrArg AV.bool hfin) rfl (by rw [← hW]; exact (by (try dsimp only); repeat (first | exact hG | apply Grow.new | (refine Grow.put ?_ _ (by first | omega | (simp only [Heap.next_new, Heap.next_put]; omega))))))
theorem c57 (m : Nat) (cv : AV) (cols : List (List Bed)) (least : Int) (H : Heap) (hM : Mat H cv cols) : RR (m + 6) (.fn 57 [.agg [cv, I least]]) H = some (.bool (slOk cols least), H) := by
  refine (R_fn _ _ _ _ _).trans ?_
  refine fn_ok Try.func57 rfl rfl (by kernel_rfl) (by kernel_rfl) ?_
  obtain ⟨W, hW⟩ : ∃ W : Heap, W = ⟨H.t, H.next, H.next⟩ := ⟨_, rfl⟩
  have hg : ∀ n, W.get n = H.get n := fun n => by rw [hW]; rfl
  have hN : W.next = H.next := by rw [hW]
  have hE : ∀ G, Grow W G → Ext H G := fun G g => ⟨by rw [← hN]; exact g.next, fun n k => by rw [g.get n (by rw [hN]; exact k), hg]⟩
  have hG : Grow W W := Grow.refl (by rw [hW]; exact Nat.le_refl _)
  rw [← hW]
  obtain ⟨vs, hR, hvl, hv⟩ := hM
  have hlen : lenOf cv = some vs.length := by simpa using hR.len
  refine Ok.seq ?_
  refine Ok.region ?_
  refine OkO.box rfl rfl ?_
  refine OkO.assign rfl rfl ?_
  refine OkO.nil ?_
  refine Ok.seq ?_
  refine Ok.seq ?_
  refine Ok.region ?_
  refine OkO.build (z := [.int .i64 0, .int .i64 0]) (pl := [(0, 1), (1, 1)]) rfl (by kernel_rfl) rfl rfl ?_
  refine OkO.fieldAddr (o := 1) rfl (by kernel_rfl) rfl ?_
  refine OkO.load rfl rfl (loadAt_atom (n := 1) (by kernel_rfl) (by first | assumption | (simp (disch := first | omega | (simp only [Heap.next_new, Heap.next_put]; omega)) only [get_new_same, get_new_same1, get_new_same2, get_put_same, get_new_other, get_put_other] <;> first | rfl | assumption)) (by first | rfl | assumption)) ?_
  refine OkO.callV rfl rfl rfl rfl rfl (c88 _ _ _ _ _) ?_ -- "(sackung/slope.Range).has"
  refine OkO.un rfl rfl rfl ?_
  refine OkO.move rfl rfl ?_
  refine OkO.split (d := 9) rfl (fun g1 => ?_) (fun g1 => ?_)
  · -- true g1
    refine OkO.skip rfl ?_
    refine OkO.skip rfl ?_
    refine OkO.skip rfl ?_
    refine OkO.skip rfl ?_
    refine OkO.skip rfl ?_
    refine OkO.skip rfl ?_
    refine OkO.pick (b := true) rfl rfl (fun _ => rfl) nofun ?_
    refine OkO.nil ?_
    refine Ok.condT rfl ?_
    refine Ok.seq ?_
    refine Ok.region ?_
    refine OkO.assign rfl rfl ?_
    refine OkO.nil ?_
    refine Ok.ret ⟨.inr rfl, ?_⟩
    exact back_flat rfl (congrArg AV.bool (by simp at g1; simp [slOk, g1])) rfl (by rw [← hW]; exact (by (try dsimp only); repeat (first | exact hG | apply Grow.new | (refine Grow.put ?_ _ (by first | omega | (simp only [Heap.next_new, Heap.next_put]; omega))))))
  · -- false g1
    refine OkO.build (z := [.int .i64 0, .int .i64 0]) (pl := [(0, 1), (1, 1)]) rfl (by kernel_rfl) rfl rfl ?_
    refine OkO.fieldAddr (o := 0) rfl (by kernel_rfl) rfl ?_
    refine OkO.load rfl rfl (loadAt_atom (n := 1) (by kernel_rfl) (by first | assumption | (simp (disch := first | omega | (simp only [Heap.next_new, Heap.next_put]; omega)) only [get_new_same, get_new_same1, get_new_same2, get_put_same, get_new_other, get_put_other] <;> first | rfl | assumption)) (by first | rfl | assumption)) ?_
    refine OkO.builtin rfl rfl rfl (builtin_len (by kernel_rfl) (by first | assumption | rfl)) ?_
    refine OkO.callV rfl rfl rfl rfl rfl (c88 _ _ _ _ _) ?_ -- "(sackung/slope.Range).has"
    refine OkO.un rfl rfl rfl ?_
    refine OkO.pick (b := false) rfl rfl nofun (fun _ => rfl) ?_
    refine OkO.nil ?_
    refine Ok.cond rfl (fun h2 => ?_) (fun h2 => ?_)
    · -- yes h2
      refine Ok.seq ?_
      refine Ok.region ?_
      refine OkO.assign rfl rfl ?_
      refine OkO.nil ?_
      refine Ok.ret ⟨.inr rfl, ?_⟩
      exact back_flat rfl (congrArg AV.bool (by simp at h2; rw [hvl] at h2; simp [slOk, h2])) rfl (by rw [← hW]; exact (by (try dsimp only); repeat (first | exact hG | apply Grow.new | (refine Grow.put ?_ _ (by first | omega | (simp only [Heap.next_new, Heap.next_put]; omega))))))
    · -- no h2
      have hps : 0 < vs.length := by simp [inB] at h2; omega
      obtain ⟨c0, rest, rfl⟩ : ∃ c0 rest, cols = c0 :: rest := by cases cols with | nil => (simp at hvl; subst hvl; simp at hps) | cons a b => exact ⟨a, b, rfl⟩
      obtain ⟨bb, off, cs, i1, i2, i3, i4⟩ := (hR.ext (hE _ hG)).at_ 0 [vs[0]] (by simp [hps])
      have i5 := seg_one i3
      have hlen0 : lenOf vs[0] = some c0.length := by simpa using (hv 0 vs[0] c0 (List.getElem?_eq_getElem hps) rfl).len
      have hne : bb ≠ W.next := by omega
      refine Ok.skip ?_
      refine Ok.seq ?_
      refine Ok.region ?_
      refine OkO.fieldAddr (o := 0) rfl (by kernel_rfl) rfl ?_
      refine OkO.load rfl rfl (loadAt_atom (n := 1) (by kernel_rfl) (by first | assumption | (simp (disch := first | omega | (simp only [Heap.next_new, Heap.next_put]; omega)) only [get_new_same, get_new_same1, get_new_same2, get_put_same, get_new_other, get_put_other] <;> first | rfl | assumption)) (by first | rfl | assumption)) ?_
      refine OkO.index (sz := 1) rfl rfl rfl (by kernel_rfl) (by first | assumption | rfl) ?_ -- index ('Go.Operand.tmp', 18) ('Go.Operand.const', ('Go.Value.int', 'Go.IntKind.i64', 0))
      refine OkO.load rfl rfl (loadAt_atom (n := 1) (by kernel_rfl) (by first | assumption | (simp (disch := first | omega | (simp only [Heap.next_new, Heap.next_put]; omega)) only [get_new_same, get_new_same1, get_new_same2, get_put_same, get_new_other, get_put_other] <;> first | rfl | assumption)) (by first | rfl | assumption)) ?_
      refine OkO.builtin rfl rfl rfl (builtin_len (by kernel_rfl) (by first | assumption | rfl)) ?_
      refine OkO.alloc (z := [.int .i64 0]) rfl (by kernel_rfl) ?_
      refine OkO.store rfl rfl rfl (storeAt_cells (n := 1) (ag := false) (by kernel_rfl) (by first | assumption | (simp (disch := first | omega | (simp only [Heap.next_new, Heap.next_put]; omega)) only [get_new_same, get_new_same1, get_new_same2, get_put_same, get_new_other, get_put_other] <;> first | rfl | assumption)) rfl rfl rfl) ?_
      refine OkO.nil ?_
      refine Ok.seq ?_
      refine Ok.region ?_
      refine OkO.build (z := [.int .i64 0, .int .i64 0]) (pl := [(0, 1), (1, 1)]) rfl (by kernel_rfl) rfl rfl ?_
      refine OkO.load rfl rfl (loadAt_atom (n := 1) (by kernel_rfl) (by first | assumption | (simp (disch := first | omega | (simp only [Heap.next_new, Heap.next_put]; omega)) only [get_new_same, get_new_same1, get_new_same2, get_put_same, get_new_other, get_put_other] <;> first | rfl | assumption)) (by first | rfl | assumption)) ?_
      refine OkO.callV rfl rfl rfl rfl rfl (c88 _ _ _ _ _) ?_ -- "(sackung/slope.Range).has"
      refine OkO.move rfl rfl ?_
      refine OkO.split (d := 25) rfl (fun g3 => ?_) (fun g3 => ?_)
      · -- true g3
        have hz : c0.length ≤ 1000000 := by simp [inB] at g3; omega
        refine OkO.fieldAddr (o := 0) rfl (by kernel_rfl) rfl ?_
        refine OkO.load rfl rfl (loadAt_atom (n := 1) (by kernel_rfl) (by first | assumption | (simp (disch := first | omega | (simp only [Heap.next_new, Heap.next_put]; omega)) only [get_new_same, get_new_same1, get_new_same2, get_put_same, get_new_other, get_put_other] <;> first | rfl | assumption)) (by first | rfl | assumption)) ?_
        refine OkO.makeFunc rfl rfl rfl ?_
        refine OkO.callV rfl rfl rfl rfl rfl (c89 (m + 4) cv _ vs ((c0 :: rest).map (colOk c0.length)) _ (hR.ext (hE _ (by (try dsimp only); repeat (first | exact hG | apply Grow.new | (refine Grow.put ?_ _ (by first | omega | (simp only [Heap.next_new, Heap.next_put]; omega))))))) (by simp [inB] at h2; omega) (by simp [hvl]) ?hgood) ?_ -- "sackung/slope.all[[]sackung/slope.Bed]"
        · intro i x b q1 q2
          rw [List.getElem?_map, Option.map_eq_some_iff] at q2
          obtain ⟨l, hl, rfl⟩ := q2
          refine ⟨90, [x, .ptr _ 0], rfl, fun G hE2 => c90 m x l c0.length _ 3 G ((hv i x l q1 hl).ext (Ext.trans (hE _ (by (try dsimp only); repeat (first | exact hG | apply Grow.new | (refine Grow.put ?_ _ (by first | omega | (simp only [Heap.next_new, Heap.next_put]; omega)))))) hE2)) ?_ hz⟩
          rw [hE2.get _ (by simp only [Heap.next_new, Heap.next_put]; omega)]
          simp (disch := first | omega | (simp only [Heap.next_new, Heap.next_put]; omega)) only [get_new_same, get_new_same1, get_new_same2, get_put_same, get_new_other, get_put_other] <;> rfl
        refine OkO.pick (b := true) rfl rfl (fun _ => rfl) nofun ?_
        refine OkO.assign rfl rfl ?_
        refine OkO.nil ?_
        refine Ok.ret ⟨.inr rfl, ?_⟩
        exact back_flat rfl (congrArg AV.bool (by simp at g1 h2; rw [hvl] at h2; unfold slOk; rw [g1, h2]; simp only [List.headD_cons, g3, Bool.true_and, List.all_map]; rfl)) rfl (by rw [← hW]; exact (by (try dsimp only); repeat (first | exact hG | apply Grow.new | (refine Grow.put ?_ _ (by first | omega | (simp only [Heap.next_new, Heap.next_put]; omega))))))
      · -- false g3
        refine OkO.skip rfl ?_
        refine OkO.skip rfl ?_
        refine OkO.skip rfl ?_
        refine OkO.skip rfl ?_
        refine OkO.pick (b := false) rfl rfl nofun (fun _ => rfl) ?_
        refine OkO.assign rfl rfl ?_
        refine OkO.nil ?_
        refine Ok.ret ⟨.inr rfl, ?_⟩
        exact back_flat rfl (congrArg AV.bool (by simp [slOk, g3])) rfl (by rw [← hW]; exact (by (try dsimp only); repeat (first | exact hG | apply Grow.new | (refine Grow.put ?_ _ (by first | omega | (simp only [Heap.next_new, Heap.next_put]; omega))))))
end
end Go.Ev
