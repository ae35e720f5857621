/-
  Functions of the program, reckoned by the evaluator: what each answers, in the document's words, and that it leaves what came in as it was (part 6).
-/
import Derived.Test.YtfhomicfhgiidaaG5
set_option maxRecDepth 100000
set_option linter.unusedSimpArgs false
set_option linter.unusedVariables false
namespace Go.Ev
open Go Go.Proofs
noncomputable section
def adjB (us : List Int) : Bool := (List.range (us.length - 1)).all fun i => inB (us.getD (i + 1) 0) (us.getD i 0 - 1) (us.getD i 0 + 1)
/-- Is a surface one of a valid slope? -/
def surfB (cols : List (List Bed)) (least fr : Int) (us : List Int) : Bool :=
  inB fr 0 (cols.length - 1) && inB us.length least (cols.length - fr) && us.all (fun u => inB u 0 ((cols.headD []).length - 1)) && adjB us
/-- A surface's numbers of beds. -/
def Ints (H : Heap) (v : AV) (us : List Int) : Prop := Row H v 1 (us.map fun n => [I n])
theorem Ints.ext {H G : Heap} {v : AV} {us : List Int} (h : Ints H v us) (g : Ext H G) : Ints G v us := Row.ext h g
theorem Ints.len {H : Heap} {v : AV} {us : List Int} (h : Ints H v us) : lenOf v = some us.length := by simpa using Row.len h
theorem Ints.at' {H : Heap} {v : AV} {us : List Int} (h : Ints H v us) (i : Nat) (hi : i < us.length) : ∃ b off cs, slAt v 1 i = some (b, off) ∧ (H.get b).bind AObj.cs = some cs ∧ cs[off]? = some (I us[i]) ∧ b < H.next := by
  obtain ⟨b, off, cs, h1, h2, h3, h4⟩ := Row.at_ h i [I us[i]] (by simp [hi])
  exact ⟨b, off, cs, h1, h2, seg_one h3, h4⟩
theorem slOk_facts {cols : List (List Bed)} {least : Int} (h : slOk cols least = true) : 1 ≤ least ∧ least ≤ 4 ∧ 1 ≤ cols.length ∧ cols.length ≤ 12 ∧ 1 ≤ (cols.headD []).length ∧ (cols.headD []).length ≤ 5 ∧ ∀ c ∈ cols, c.length = (cols.headD []).length ∧ ∀ b ∈ c, b.ok = true := by
  simp only [slOk, inB, Bool.and_eq_true, decide_eq_true_eq, List.all_eq_true] at h
  obtain ⟨⟨⟨⟨h1, h2⟩, h3, h4⟩, h5, h6⟩, h7⟩ := h
  refine ⟨h1, h2, by omega, by omega, by omega, by omega, fun c hc => ?_⟩
  have := h7 c hc
  simp only [colOk, Bool.and_eq_true, decide_eq_true_eq, List.all_eq_true] at this
  exact this
theorem c93 (m : Nat) (cv bv : AV) (cols : List (List Bed)) (least fr : Int) (us : List Int) (H : Heap) (hM : Mat H cv cols) (hU : Ints H bv us) (hcut : Cut H bv 1) (hok : slOk cols least = true) (hbig : us.length ≤ 1000000) : RR (m + 3) (.fn 93 [.agg [cv, I least], .agg [I fr, bv]]) H = some (.bool (surfB cols least fr us), H) := by
  refine (R_fn _ _ _ _ _).trans ?_
  refine fn_ok Try.func93 rfl rfl (by kernel_rfl) (by kernel_rfl) ?_
  obtain ⟨W, hW⟩ : ∃ W : Heap, W = ⟨H.t, H.next, H.next⟩ := ⟨_, rfl⟩
  have hg : ∀ n, W.get n = H.get n := fun n => by rw [hW]; rfl
  have hN : W.next = H.next := by rw [hW]
  have hE : ∀ G, Grow W G → Ext H G := fun G g => ⟨by rw [← hN]; exact g.next, fun n k => by rw [g.get n (by rw [hN]; exact k), hg]⟩
  have hG : Grow W W := Grow.refl (by rw [hW]; exact Nat.le_refl _)
  rw [← hW]
  obtain ⟨vs, hR, hvl, hv⟩ := hM
  have hlen : lenOf cv = some vs.length := by simpa using hR.len
  have hlenb := hU.len
  have hvl2 : vs.length ≤ 12 := by rw [hvl]; exact (slOk_facts hok).2.2.2.1
  refine Ok.seq ?_
  refine Ok.region ?_
  refine OkO.box rfl rfl ?_
  refine OkO.box rfl rfl ?_
  refine OkO.assign rfl rfl ?_
  refine OkO.nil ?_
  refine Ok.seq ?_
  refine Ok.seq ?_
  refine Ok.region ?_
  refine OkO.fieldAddr (o := 0) rfl (by kernel_rfl) rfl ?_
  refine OkO.load rfl rfl (loadAt_atom (n := 1) (by kernel_rfl) (by first | assumption | (simp (disch := first | omega | (simp only [Heap.next_new, Heap.next_put]; omega)) only [get_new_same, get_new_same1, get_new_same2, get_put_same, get_new_other, get_put_other] <;> first | rfl | assumption)) (by first | rfl | assumption)) ?_
  refine OkO.builtin rfl rfl rfl (builtin_len (by kernel_rfl) (by first | assumption | rfl)) ?_
  refine OkO.bin rfl rfl rfl (bin_sub (by omega) (by omega)) ?_
  refine OkO.build (z := [.int .i64 0, .int .i64 0]) (pl := [(0, 1), (1, 1)]) rfl (by kernel_rfl) rfl rfl ?_
  refine OkO.fieldAddr (o := 0) rfl (by kernel_rfl) rfl ?_
  refine OkO.load rfl rfl (loadAt_atom (n := 1) (by kernel_rfl) (by first | assumption | (simp (disch := first | omega | (simp only [Heap.next_new, Heap.next_put]; omega)) only [get_new_same, get_new_same1, get_new_same2, get_put_same, get_new_other, get_put_other] <;> first | rfl | assumption)) (by first | rfl | assumption)) ?_
  refine OkO.callV rfl rfl rfl rfl rfl (c88 _ _ _ _ _) ?_ -- "(sackung/slope.Range).has"
  refine OkO.un rfl rfl rfl ?_
  refine OkO.move rfl rfl ?_
  refine OkO.split (d := 18) rfl (fun g1 => ?_) (fun g1 => ?_)
  · -- true g1
    refine OkO.skip rfl ?_
    refine OkO.skip rfl ?_
    refine OkO.skip rfl ?_
    refine OkO.skip rfl ?_
    refine OkO.skip rfl ?_
    refine OkO.skip rfl ?_
    refine OkO.skip rfl ?_
    refine OkO.skip rfl ?_
    refine OkO.skip rfl ?_
    refine OkO.skip rfl ?_
    refine OkO.skip rfl ?_
    refine OkO.skip rfl ?_
    refine OkO.skip rfl ?_
    refine OkO.skip rfl ?_
    refine OkO.pick (b := true) rfl rfl (fun _ => rfl) nofun ?_
    refine OkO.nil ?_
    refine Ok.condT rfl ?_
    refine Ok.seq ?_
    refine Ok.region ?_
    refine OkO.assign rfl rfl ?_
    refine OkO.nil ?_
    refine Ok.ret ⟨.inr rfl, ?_⟩
    exact back_flat rfl (congrArg AV.bool (by simp at g1; rw [hvl] at g1; simp [surfB, g1])) rfl (by rw [← hW]; exact (by (try dsimp only); repeat (first | exact hG | apply Grow.new | (refine Grow.put ?_ _ (by first | omega | (simp only [Heap.next_new, Heap.next_put]; omega))))))
  · -- false g1
    have hfr : 0 ≤ fr ∧ fr ≤ 12 := by simp [inB] at g1; omega
    refine OkO.fieldAddr (o := 1) rfl (by kernel_rfl) rfl ?_
    refine OkO.load rfl rfl (loadAt_atom (n := 1) (by kernel_rfl) (by first | assumption | (simp (disch := first | omega | (simp only [Heap.next_new, Heap.next_put]; omega)) only [get_new_same, get_new_same1, get_new_same2, get_put_same, get_new_other, get_put_other] <;> first | rfl | assumption)) (by first | rfl | assumption)) ?_
    refine OkO.fieldAddr (o := 0) rfl (by kernel_rfl) rfl ?_
    refine OkO.load rfl rfl (loadAt_atom (n := 1) (by kernel_rfl) (by first | assumption | (simp (disch := first | omega | (simp only [Heap.next_new, Heap.next_put]; omega)) only [get_new_same, get_new_same1, get_new_same2, get_put_same, get_new_other, get_put_other] <;> first | rfl | assumption)) (by first | rfl | assumption)) ?_
    refine OkO.builtin rfl rfl rfl (builtin_len (by kernel_rfl) (by first | assumption | rfl)) ?_
    refine OkO.fieldAddr (o := 0) rfl (by kernel_rfl) rfl ?_
    refine OkO.load rfl rfl (loadAt_atom (n := 1) (by kernel_rfl) (by first | assumption | (simp (disch := first | omega | (simp only [Heap.next_new, Heap.next_put]; omega)) only [get_new_same, get_new_same1, get_new_same2, get_put_same, get_new_other, get_put_other] <;> first | rfl | assumption)) (by first | rfl | assumption)) ?_
    refine OkO.bin rfl rfl rfl (bin_sub (by omega) (by omega)) ?_
    refine OkO.build (z := [.int .i64 0, .int .i64 0]) (pl := [(0, 1), (1, 1)]) rfl (by kernel_rfl) rfl rfl ?_
    refine OkO.fieldAddr (o := 1) rfl (by kernel_rfl) rfl ?_
    refine OkO.load rfl rfl (loadAt_atom (n := 1) (by kernel_rfl) (by first | assumption | (simp (disch := first | omega | (simp only [Heap.next_new, Heap.next_put]; omega)) only [get_new_same, get_new_same1, get_new_same2, get_put_same, get_new_other, get_put_other] <;> first | rfl | assumption)) (by first | rfl | assumption)) ?_
    refine OkO.builtin rfl rfl rfl (builtin_len (by kernel_rfl) (by first | assumption | rfl)) ?_
    refine OkO.callV rfl rfl rfl rfl rfl (c88 _ _ _ _ _) ?_ -- "(sackung/slope.Range).has"
    refine OkO.un rfl rfl rfl ?_
    refine OkO.pick (b := false) rfl rfl nofun (fun _ => rfl) ?_
    refine OkO.nil ?_
    refine Ok.cond rfl (fun h2 => ?_) (fun h2 => ?_)
    · -- yes h2
      refine Ok.seq ?_
      refine Ok.region ?_
      refine OkO.assign rfl rfl ?_
      refine OkO.nil ?_
      refine Ok.ret ⟨.inr rfl, ?_⟩
      exact back_flat rfl (congrArg AV.bool (by simp at h2; rw [hvl] at h2; simp [surfB, h2])) rfl (by rw [← hW]; exact (by (try dsimp only); repeat (first | exact hG | apply Grow.new | (refine Grow.put ?_ _ (by first | omega | (simp only [Heap.next_new, Heap.next_put]; omega))))))
    · -- no h2
      obtain ⟨f1, f2, f3, f4, f5, f6, f7⟩ := slOk_facts hok
      obtain ⟨c0, rest, rfl⟩ : ∃ c0 rest, cols = c0 :: rest := by cases cols with | nil => simp at f3 | cons a b => exact ⟨a, b, rfl⟩
      have hps : 0 < vs.length := by rw [hvl]; simp
      obtain ⟨bb, off, cs, i1, i2, i3, i4⟩ := (hR.ext (hE _ hG)).at_ 0 [vs[0]] (by simp [hps])
      have i5 := seg_one i3
      have hlen0 : lenOf vs[0] = some c0.length := by simpa using (hv 0 vs[0] c0 (List.getElem?_eq_getElem hps) rfl).len
      have hne : bb ≠ W.next := by omega
      have hne2 : bb ≠ W.next + 1 := by omega
      simp only [List.headD_cons] at f5 f6 f7
      have hul : 1 ≤ us.length ∧ us.length ≤ 12 := by simp [inB] at h2 g1; omega
      refine Ok.skip ?_
      refine Ok.seq ?_
      refine Ok.region ?_
      refine OkO.fieldAddr (o := 0) rfl (by kernel_rfl) rfl ?_
      refine OkO.load rfl rfl (loadAt_atom (n := 1) (by kernel_rfl) (by first | assumption | (simp (disch := first | omega | (simp only [Heap.next_new, Heap.next_put]; omega)) only [get_new_same, get_new_same1, get_new_same2, get_put_same, get_new_other, get_put_other] <;> first | rfl | assumption)) (by first | rfl | assumption)) ?_
      refine OkO.index (sz := 1) rfl rfl rfl (by kernel_rfl) (by first | assumption | rfl) ?_ -- index ('Go.Operand.tmp', 35) ('Go.Operand.const', ('Go.Value.int', 'Go.IntKind.i64', 0))
      refine OkO.load rfl rfl (loadAt_atom (n := 1) (by kernel_rfl) (by first | assumption | (simp (disch := first | omega | (simp only [Heap.next_new, Heap.next_put]; omega)) only [get_new_same, get_new_same1, get_new_same2, get_put_same, get_new_other, get_put_other] <;> first | rfl | assumption)) (by first | rfl | assumption)) ?_
      refine OkO.builtin rfl rfl rfl (builtin_len (by kernel_rfl) (by first | assumption | rfl)) ?_
      refine OkO.bin rfl rfl rfl (bin_sub (by omega) (by omega)) ?_
      refine OkO.build (z := [.int .i64 0, .int .i64 0]) (pl := [(0, 1), (1, 1)]) rfl (by kernel_rfl) rfl rfl ?_
      refine OkO.alloc (z := [.int .i64 0, .int .i64 0]) rfl (by kernel_rfl) ?_
      refine OkO.store rfl rfl rfl (storeAt_cells (n := 2) (ag := true) (by kernel_rfl) (by first | assumption | (simp (disch := first | omega | (simp only [Heap.next_new, Heap.next_put]; omega)) only [get_new_same, get_new_same1, get_new_same2, get_put_same, get_new_other, get_put_other] <;> first | rfl | assumption)) rfl rfl rfl) ?_
      refine OkO.nil ?_
      refine Ok.seq ?_
      refine Ok.seq ?_
      refine Ok.region ?_
      refine OkO.fieldAddr (o := 1) rfl (by kernel_rfl) rfl ?_
      refine OkO.load rfl rfl (loadAt_atom (n := 1) (by kernel_rfl) (by first | assumption | (simp (disch := first | omega | (simp only [Heap.next_new, Heap.next_put]; omega)) only [get_new_same, get_new_same1, get_new_same2, get_put_same, get_new_other, get_put_other] <;> first | rfl | assumption)) (by first | rfl | assumption)) ?_
      refine OkO.load rfl rfl (loadAt_agg (n := 2) (by kernel_rfl) (by first | assumption | (simp (disch := first | omega | (simp only [Heap.next_new, Heap.next_put]; omega)) only [get_new_same, get_new_same1, get_new_same2, get_put_same, get_new_other, get_put_other] <;> first | rfl | assumption)) (by first | rfl | assumption)) ?_
      refine OkO.makeFunc rfl rfl rfl ?_
      refine OkO.callV rfl rfl rfl rfl rfl (c105 (m + 1) bv _ (us.map I) (us.map fun u => inB u 0 ((c0.length : Int) - 1)) _ (by rw [List.map_map]; exact hU.ext (hE _ (by (try dsimp only); repeat (first | exact hG | apply Grow.new | (refine Grow.put ?_ _ (by first | omega | (simp only [Heap.next_new, Heap.next_put]; omega))))))) (by simp; omega) (by simp) ?hgood) ?_ -- "sackung/slope.all[int]"
      · intro i x b q1 q2
        rw [List.getElem?_map, Option.map_eq_some_iff] at q1 q2
        obtain ⟨u, hu, rfl⟩ := q1
        obtain ⟨u2, hu2, rfl⟩ := q2
        rw [hu] at hu2; cases hu2
        exact ⟨88, [.agg [I 0, I ((c0.length : Int) - 1)], I u], rfl, fun G _ => c88 m _ _ _ G⟩
      refine OkO.un rfl rfl rfl ?_
      refine OkO.nil ?_
      refine Ok.cond rfl (fun h3 => ?_) (fun h3 => ?_)
      · -- yes h3
        refine Ok.seq ?_
        refine Ok.region ?_
        refine OkO.assign rfl rfl ?_
        refine OkO.nil ?_
        refine Ok.ret ⟨.inr rfl, ?_⟩
        have ha : us.all (fun u => inB u 0 ((c0.length : Int) - 1)) = false := by (rw [Bool.not_eq_true', List.all_map] at h3; exact h3)
        have hz : false = surfB (c0 :: rest) least fr us := by unfold surfB; rw [List.headD_cons, ha]; simp
        exact back_flat rfl (congrArg AV.bool hz) rfl (by rw [← hW]; exact (by (try dsimp only); repeat (first | exact hG | apply Grow.new | (refine Grow.put ?_ _ (by first | omega | (simp only [Heap.next_new, Heap.next_put]; omega))))))
      · -- no h3
        have hall : ∀ u ∈ us, 0 ≤ u ∧ u ≤ 4 := by
          intro u hu
          simp only [Bool.not_eq_false', List.all_map, List.all_eq_true] at h3
          have := h3 u hu
          simp [inB] at this
          omega
        refine Ok.skip ?_
        refine Ok.seq ?_
        refine Ok.seq ?_
        refine Ok.region ?_
        refine OkO.fieldAddr (o := 1) rfl (by kernel_rfl) rfl ?_
        refine OkO.load rfl rfl (loadAt_atom (n := 1) (by kernel_rfl) (by first | assumption | (simp (disch := first | omega | (simp only [Heap.next_new, Heap.next_put]; omega)) only [get_new_same, get_new_same1, get_new_same2, get_put_same, get_new_other, get_put_other] <;> first | rfl | assumption)) (by first | rfl | assumption)) ?_
        refine OkO.sliceFrom (kk := .i64) (k := 1) (sz := 1) rfl (by kernel_rfl) rfl rfl (hcut.ext (hE _ (by (try dsimp only); repeat (first | exact hG | apply Grow.new | (refine Grow.put ?_ _ (by first | omega | (simp only [Heap.next_new, Heap.next_put]; omega))))))) (hU.ext (hE _ (by (try dsimp only); repeat (first | exact hG | apply Grow.new | (refine Grow.put ?_ _ (by first | omega | (simp only [Heap.next_new, Heap.next_put]; omega))))))) (by simp; omega) (by omega) (fun v2 hv2 => ?_)
        have hs2 : Ints H v2 (us.drop 1) := by have := hv2 H hU; rwa [← List.map_drop] at this
        have hlen2 : lenOf v2 = some (us.length - 1) := by simpa using hs2.len
        refine OkO.builtin rfl rfl rfl (builtin_len (by kernel_rfl) (by first | assumption | rfl)) ?_
        refine OkO.move rfl rfl ?_
        refine OkO.nil ?_
        refine Ok.block ?_
        refine Ok.loop (fun n s => ∃ (i : Nat), n = us.length - 1 - i ∧ i ≤ us.length - 1 ∧ (∀ j, j < i → inB (us.getD (j + 1) 0) (us.getD j 0 - 1) (us.getD j 0 + 1) = true) ∧ Has 7 [(2, .ptr W.next 0), (3, .ptr (W.next + 1) 0), (4, .bool false), (49, v2), (50, I ((us.length - 1 : Nat) : Int)), (51, I (i : Int))] s.T ∧ s.D = [] ∧ Grow W s.H ∧ s.H.get (W.next + 1) = some (.cells [I fr, bv] 39)) (us.length - 1) (by unfold loopFuel; omega)
          ⟨0, rfl, Nat.zero_le _, nofun, Has.of (by kernel_rfl), rfl, (by (try dsimp only); repeat (first | exact hG | apply Grow.new | (refine Grow.put ?_ _ (by first | omega | (simp only [Heap.next_new, Heap.next_put]; omega))))), (by simp (disch := first | omega | (simp only [Heap.next_new, Heap.next_put]; omega)) only [get_new_same, get_new_same1, get_new_same2, get_put_same, get_new_other, get_put_other] <;> rfl)⟩ ?_
        rintro n ⟨T, D, G⟩ ⟨i, hn, hi, hadj, ⟨f, hT⟩, hD, hg, hb2⟩
        dsimp only at *
        subst hT hD
        have hgn := hg.next
        have hc2 : (G.get (W.next + 1)).bind AObj.cs = some [I fr, bv] := by rw [hb2]; rfl
        have hEg := hE _ hg
        refine Ok.seq ?_
        refine Ok.region ?_
        refine OkO.bin rfl rfl rfl (bin_lss _ _) ?_
        refine OkO.nil ?_
        refine Ok.seq ?_
        refine Ok.cond rfl (fun h4 => ?_) (fun h4 => ?_)
        · -- yes h4
          have hlt : i + 1 < us.length := by simp at h4; omega
          obtain ⟨ub, uo, ucs, i1, i2, i5, i4⟩ := (hs2.ext hEg).at' i (by simp; omega)
          obtain ⟨cb, co, ccs, j1, j2, j5, j4⟩ := (hU.ext hEg).at' i (by omega)
          have e1 : us.getD (i + 1) 0 = us[i + 1] := by simp [hlt]
          have e2 : us.getD i 0 = us[i] := by simp [show i < us.length from by omega]
          have hb1 := hall us[i] (List.getElem_mem _)
          have hb5 := hall us[i + 1] (List.getElem_mem _)
          rw [show (us.drop 1)[i]'(by simp; omega) = us[i + 1] from by simp [Nat.add_comm]] at i5
          refine Ok.skip ?_
          refine Ok.seq ?_
          refine Ok.block ?_
          refine Ok.seq ?_
          refine Ok.region ?_
          refine OkO.move rfl rfl ?_
          refine OkO.index (sz := 1) (n := i) rfl rfl rfl (by kernel_rfl) (by first | assumption | rfl) ?_ -- index ('Go.Operand.tmp', 49) ('Go.Operand.tmp', 51)
          refine OkO.load rfl rfl (loadAt_atom (n := 1) (by kernel_rfl) (by first | assumption | (simp (disch := first | omega | (simp only [Heap.next_new, Heap.next_put]; omega)) only [get_new_same, get_new_same1, get_new_same2, get_put_same, get_new_other, get_put_other] <;> first | rfl | assumption)) (by first | rfl | assumption)) ?_
          refine OkO.assign rfl rfl ?_
          refine OkO.assign rfl rfl ?_
          refine OkO.nil ?_
          refine Ok.seq ?_
          refine Ok.region ?_
          refine OkO.fieldAddr (o := 1) rfl (by kernel_rfl) rfl ?_
          refine OkO.load rfl rfl (loadAt_atom (n := 1) (by kernel_rfl) (by first | assumption | (simp (disch := first | omega | (simp only [Heap.next_new, Heap.next_put]; omega)) only [get_new_same, get_new_same1, get_new_same2, get_put_same, get_new_other, get_put_other] <;> first | rfl | assumption)) (by first | rfl | assumption)) ?_
          refine OkO.move rfl rfl ?_
          refine OkO.index (sz := 1) (n := i) rfl rfl rfl (by kernel_rfl) (by first | assumption | rfl) ?_ -- index ('Go.Operand.tmp', 57) ('Go.Operand.tmp', 58)
          refine OkO.load rfl rfl (loadAt_atom (n := 1) (by kernel_rfl) (by first | assumption | (simp (disch := first | omega | (simp only [Heap.next_new, Heap.next_put]; omega)) only [get_new_same, get_new_same1, get_new_same2, get_put_same, get_new_other, get_put_other] <;> first | rfl | assumption)) (by first | rfl | assumption)) ?_
          refine OkO.assign rfl rfl ?_
          refine OkO.nil ?_
          refine Ok.seq ?_
          refine Ok.region ?_
          refine OkO.move rfl rfl ?_
          refine OkO.move rfl rfl ?_
          refine OkO.bin rfl rfl rfl (bin_sub (by omega) (by omega)) ?_
          refine OkO.bin rfl rfl rfl (bin_lss _ _) ?_
          refine OkO.move rfl rfl ?_
          refine OkO.split (d := 65) rfl (fun g5 => ?_) (fun g5 => ?_)
          · -- true g5
            refine OkO.skip rfl ?_
            refine OkO.skip rfl ?_
            refine OkO.skip rfl ?_
            refine OkO.skip rfl ?_
            refine OkO.pick (b := true) rfl rfl (fun _ => rfl) nofun ?_
            refine OkO.nil ?_
            refine Ok.condT rfl ?_
            refine Ok.seq ?_
            refine Ok.region ?_
            refine OkO.assign rfl rfl ?_
            refine OkO.nil ?_
            refine Ok.ret ⟨.inr rfl, ?_⟩
            have ha : adjB us = false := by unfold adjB; rw [List.all_eq_false]; exact ⟨i, by simp; omega, by rw [e1, e2]; simp [inB] at g5 ⊢; omega⟩
            have hz : false = surfB (c0 :: rest) least fr us := by unfold surfB; rw [ha]; simp
            exact back_flat rfl (congrArg AV.bool hz) rfl (by rw [← hW]; exact (by (try dsimp only); repeat (first | (first | exact hg | exact hG) | apply Grow.new | (refine Grow.put ?_ _ (by first | omega | (simp only [Heap.next_new, Heap.next_put]; omega))))))
          · -- false g5
            refine OkO.move rfl rfl ?_
            refine OkO.move rfl rfl ?_
            refine OkO.bin rfl rfl rfl (bin_add (by omega) (by omega)) ?_
            refine OkO.bin rfl rfl rfl (bin_gtr _ _) ?_
            refine OkO.pick (b := false) rfl rfl nofun (fun _ => rfl) ?_
            refine OkO.nil ?_
            refine Ok.cond rfl (fun h6 => ?_) (fun h6 => ?_)
            · -- yes h6
              refine Ok.seq ?_
              refine Ok.region ?_
              refine OkO.assign rfl rfl ?_
              refine OkO.nil ?_
              refine Ok.ret ⟨.inr rfl, ?_⟩
              have ha : adjB us = false := by unfold adjB; rw [List.all_eq_false]; exact ⟨i, by simp; omega, by rw [e1, e2]; simp [inB] at h6 ⊢; omega⟩
              have hz : false = surfB (c0 :: rest) least fr us := by unfold surfB; rw [ha]; simp
              exact back_flat rfl (congrArg AV.bool hz) rfl (by rw [← hW]; exact (by (try dsimp only); repeat (first | (first | exact hg | exact hG) | apply Grow.new | (refine Grow.put ?_ _ (by first | omega | (simp only [Heap.next_new, Heap.next_put]; omega))))))
            · -- no h6
              refine Ok.skip ?_
              refine Ok.region ?_
              refine OkO.bin rfl rfl rfl (bin_add (by omega) (by omega)) ?_
              refine OkO.move rfl rfl ?_
              refine OkO.nil ?_
              refine ⟨us.length - 1 - (i + 1), by omega, i + 1, rfl, by omega, fun j hj => ?_, Has.of (by kernel_rfl), rfl, hg, hb2⟩
              by_cases e : j = i
              · subst e; simp only [inB, e1, e2]; simp at g5 h6 ⊢; omega
              · exact hadj j (by omega)
        · -- no h4
          have hge : i = us.length - 1 := by simp at h4; omega
          refine Ok.exit ?_
          refine Ok.seq ?_
          refine Ok.region ?_
          refine OkO.assign rfl rfl ?_
          refine OkO.nil ?_
          refine Ok.ret ⟨.inr rfl, ?_⟩
          have ha : adjB us = true := by unfold adjB; rw [List.all_eq_true]; intro j hj; exact hadj j (by simp at hj; omega)
          have ha2 : us.all (fun u => inB u 0 ((c0.length : Int) - 1)) = true := by (rw [Bool.not_eq_false', List.all_map] at h3; exact h3)
          have hz : true = surfB (c0 :: rest) least fr us := by rw [hvl] at g1 h2; simp only [Bool.not_eq_false'] at g1 h2; unfold surfB; rw [g1, h2, List.headD_cons, ha, ha2]; rfl
          exact back_flat rfl (congrArg AV.bool hz) rfl (by rw [← hW]; exact (by (try dsimp only); repeat (first | (first | exact hg | exact hG) | apply Grow.new | (refine Grow.put ?_ _ (by first | omega | (simp only [Heap.next_new, Heap.next_put]; omega))))))
end
end Go.Ev
