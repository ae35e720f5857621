/-
  Rules of the evaluator, more of them.
-/
import Derived.Test.YtibplmibcbillaaV21
import Derived.Test.YtibplmibcbillaaV17
import Derived.Test.YtibplmibcbillaaV25
set_option maxRecDepth 100000
set_option linter.unusedSimpArgs false
set_option linter.unusedVariables false
namespace Go.Ev
open Go Go.Proofs
noncomputable section
def askErr (cs : List Cell) (g : Gr) (ds : List Day) (cell level : Int) : Int :=
  if daysErr cs g ds = 0 then (if (inB cell 0 ((cs.length : Int) - 1) && inB level 0 100000) = true then 0 else 2) else daysErr cs g ds
/-- The first of so many at which `f` is at least `lv`, or -1. -/
def firstD (f : Nat → Int) (lv : Int) : Nat → Int
  | 0 => -1
  | n + 1 => if firstD f lv n = -1 then (if lv ≤ f n then (n : Int) else -1) else firstD f lv n
theorem firstD_lt {f : Nat → Int} {lv : Int} (n : Nat) : firstD f lv n = -1 ∨ (0 ≤ firstD f lv n ∧ firstD f lv n < n) := by
  induction n with
  | zero => exact .inl rfl
  | succ n ih => rw [firstD]; split <;> (try split) <;> omega
theorem firstD_neg {f : Nat → Int} {lv : Int} (n : Nat) (h : ∀ j, j < n → f j < lv) : firstD f lv n = -1 := by
  induction n with
  | zero => rfl
  | succ n ih => rw [firstD, if_pos (ih fun j hj => h j (by omega)), if_neg (by have := h n (by omega); omega)]
theorem firstD_of_neg {f : Nat → Int} {lv : Int} (n : Nat) (h : firstD f lv n = -1) : ∀ j, j < n → f j < lv := by
  induction n with
  | zero => intro j hj; omega
  | succ n ih =>
    intro j hj
    rw [firstD] at h
    split at h
    · rename_i h1
      split at h
      · omega
      · rcases Nat.lt_or_ge j n with h2 | h2
        · exact ih h1 j h2
        · have : j = n := by omega
          subst this; omega
    · exact absurd h (by assumption)
theorem firstD_keep {f : Nat → Int} {lv : Int} (n m : Nat) (hnm : n ≤ m) (h : ¬firstD f lv n = -1) : firstD f lv m = firstD f lv n := by
  induction m with
  | zero => have : n = 0 := by omega
            subst this; rfl
  | succ m ih =>
    rcases Nat.lt_or_ge m n with h2 | h2
    · have : n = m + 1 := by omega
      subst this; rfl
    · have := ih h2
      rw [firstD, if_neg (by rw [this]; exact h), this]
theorem firstD_at {f : Nat → Int} {lv : Int} (i n : Nat) (hi : i < n) (h : lv ≤ f i) (hb : ∀ j, j < i → f j < lv) : firstD f lv n = i := by
  have h1 : firstD f lv (i + 1) = i := by rw [firstD, if_pos (firstD_neg i hb), if_pos h]
  rw [firstD_keep (i + 1) n (by omega) (by rw [h1]; omega), h1]
theorem firstD_congr {f f' : Nat → Int} {lv : Int} (n : Nat) (h : ∀ j, j < n → f j = f' j) : firstD f lv n = firstD f' lv n := by
  induction n with
  | zero => rfl
  | succ n ih => rw [firstD, firstD, ih fun j hj => h j (by omega), h n (by omega)]
theorem firstD_le {f f' : Nat → Int} {lv : Int} (n : Nat) (h : ∀ j, j < n → f j ≤ f' j) : firstD f' lv n = -1 → firstD f lv n = -1 := fun h1 => firstD_neg n fun j hj => by have := firstD_of_neg n h1 j hj; have := h j hj; omega
theorem c31 (m : Nat) (cv dv : AV) (cs : List Cell) (g : Gr) (ds : List Day) (cell level : Int) (H : Heap) (hR : Row H cv 7 (cs.map Cell.c)) (hbig : cs.length ≤ 1000000) (hY : Row H dv 3 (ds.map Day.c)) (hbd : ds.length ≤ 1000000) : RR (m + 5) (.fn 31 [.agg [cv, I g.slo, I g.shi, I g.klo, I g.khi, I g.melt], dv, I cell, I level]) H = some (I (askErr cs g ds cell level), H) := by
  refine (R_fn _ _ _ _ _).trans ?_
  refine fn_ok Try.func31 rfl rfl (by kernel_rfl) (by kernel_rfl) ?_
  obtain ⟨W, hW⟩ : ∃ W : Heap, W = ⟨H.t, H.next, H.next⟩ := ⟨_, rfl⟩
  have hg : ∀ n, W.get n = H.get n := fun n => by rw [hW]; rfl
  have hN : W.next = H.next := by rw [hW]
  have hE : ∀ G, Grow W G → Ext H G := fun G g => ⟨by rw [← hN]; exact g.next, fun n k => by rw [g.get n (by rw [hN]; exact k), hg]⟩
  have hG : Grow W W := Grow.refl (by rw [hW]; exact Nat.le_refl _)
  rw [← hW]
  have hlc : lenOf cv = some cs.length := by simpa using hR.len
  have hld : lenOf dv = some ds.length := by simpa using hY.len
  have pc := lpl hlc
  refine Ok.seq ?_
  refine Ok.region ?_
  refine OkO.box rfl rfl ?_
  refine OkO.assign rfl rfl ?_
  refine OkO.nil ?_
  refine Ok.seq ?_
  refine Ok.seq ?_
  refine Ok.region ?_
  refine OkO.load rfl rfl (ldg (n := 6) (by kernel_rfl) (by first | assumption | (simp (disch := first | omega | (simp only [hNw, hPt]; omega)) only [gn0, gn1, gn2, gn3, gn4, gn5, gp0, gno, gpo] <;> first | rfl | assumption)) (by first | rfl | assumption)) ?_
  refine OkO.move rfl rfl ?_
  refine OkO.callV rfl rfl rfl rfl rfl (c24 m cv dv cs g ds _ (hR.ext (hE _ (by (try dsimp only); repeat (first | exact hG | apply Grow.new | (refine Grow.put ?_ _ (by first | omega | (simp only [hNw, hPt]; omega))))))) (by omega) (hY.ext (hE _ (by (try dsimp only); repeat (first | exact hG | apply Grow.new | (refine Grow.put ?_ _ (by first | omega | (simp only [hNw, hPt]; omega))))))) (by omega)) ?_ -- "sackung/sackunglaw02.fault"
  refine OkO.assign rfl rfl ?_
  refine OkO.nil ?_
  refine Ok.seq ?_
  refine Ok.region ?_
  refine OkO.move rfl rfl ?_
  refine OkO.bin rfl rfl rfl (bin_neq _ _) ?_
  refine OkO.nil ?_
  refine Ok.cond rfl (fun h1 => ?_) (fun h1 => ?_)
  · -- yes h1
    have hde : ¬daysErr cs g ds = 0 := by simpa using h1
    refine Ok.seq ?_
    refine Ok.region ?_
    refine OkO.move rfl rfl ?_
    refine OkO.assign rfl rfl ?_
    refine OkO.nil ?_
    refine Ok.ret ⟨.inr rfl, ?_⟩
    exact back_flat rfl (by unfold askErr; rw [if_neg hde]; rfl) rfl (by rw [← hW]; exact (by (try dsimp only); repeat (first | exact hG | apply Grow.new | (refine Grow.put ?_ _ (by first | omega | (simp only [hNw, hPt]; omega))))))
  · -- no h1
    have hde : daysErr cs g ds = 0 := by simpa using h1
    refine Ok.skip ?_
    refine Ok.seq ?_
    refine Ok.seq ?_
    refine Ok.region ?_
    refine OkO.move rfl rfl ?_
    refine OkO.fieldAddr (o := 0) rfl (by kernel_rfl) rfl ?_
    refine OkO.load rfl rfl (lda (n := 1) (by kernel_rfl) (by first | assumption | (simp (disch := first | omega | (simp only [hNw, hPt]; omega)) only [gn0, gn1, gn2, gn3, gn4, gn5, gp0, gno, gpo] <;> first | rfl | assumption)) (by first | rfl | assumption)) ?_
    refine OkO.builtin rfl rfl rfl (bln (by kernel_rfl) (by first | assumption | rfl)) ?_
    refine OkO.bin rfl rfl rfl (bin_sub (by omega) (by omega)) ?_
    refine OkO.callV rfl rfl rfl rfl rfl (c37 _ _ _ _ _) ?_ -- "sackung/sackungref02.In"
    refine OkO.un rfl rfl rfl ?_
    refine OkO.move rfl rfl ?_
    refine OkO.split (d := 23) rfl (fun g2 => ?_) (fun g2 => ?_)
    · -- true g2
      have hin : inB cell 0 ((cs.length : Int) - 1) = false := by simpa using g2
      refine OkO.skip rfl ?_
      refine OkO.skip rfl ?_
      refine OkO.skip rfl ?_
      refine OkO.pick (b := true) rfl rfl (fun _ => rfl) nofun ?_
      refine OkO.nil ?_
      refine Ok.condT rfl ?_
      refine Ok.seq ?_
      refine Ok.region ?_
      refine OkO.assign rfl rfl ?_
      refine OkO.nil ?_
      refine Ok.ret ⟨.inr rfl, ?_⟩
      exact back_flat rfl (by unfold askErr; rw [if_pos hde, hin]; rfl) rfl (by rw [← hW]; exact (by (try dsimp only); repeat (first | exact hG | apply Grow.new | (refine Grow.put ?_ _ (by first | omega | (simp only [hNw, hPt]; omega))))))
    · -- false g2
      have hin : inB cell 0 ((cs.length : Int) - 1) = true := by simpa using g2
      refine OkO.move rfl rfl ?_
      refine OkO.callV rfl rfl rfl rfl rfl (c37 _ _ _ _ _) ?_ -- "sackung/sackungref02.In"
      refine OkO.un rfl rfl rfl ?_
      refine OkO.pick (b := false) rfl rfl nofun (fun _ => rfl) ?_
      refine OkO.nil ?_
      refine Ok.cond rfl (fun h3 => ?_) (fun h3 => ?_)
      · -- yes h3
        have hin2 : inB level 0 100000 = false := by simpa using h3
        refine Ok.seq ?_
        refine Ok.region ?_
        refine OkO.assign rfl rfl ?_
        refine OkO.nil ?_
        refine Ok.ret ⟨.inr rfl, ?_⟩
        exact back_flat rfl (by unfold askErr; rw [if_pos hde, hin, hin2]; rfl) rfl (by rw [← hW]; exact (by (try dsimp only); repeat (first | exact hG | apply Grow.new | (refine Grow.put ?_ _ (by first | omega | (simp only [hNw, hPt]; omega))))))
      · -- no h3
        have hin2 : inB level 0 100000 = true := by simpa using h3
        refine Ok.skip ?_
        refine Ok.seq ?_
        refine Ok.region ?_
        refine OkO.assign rfl rfl ?_
        refine OkO.nil ?_
        refine Ok.ret ⟨.inr rfl, ?_⟩
        exact back_flat rfl (by unfold askErr; rw [if_pos hde, hin, hin2]; rfl) rfl (by rw [← hW]; exact (by (try dsimp only); repeat (first | exact hG | apply Grow.new | (refine Grow.put ?_ _ (by first | omega | (simp only [hNw, hPt]; omega))))))
theorem c62 (m : Nat) (cv dv : AV) (cs : List Cell) (g : Gr) (ds : List Day) (cell level : Int) (H : Heap) (hR : Row H cv 7 (cs.map Cell.c)) (hbig : cs.length ≤ 1000000) (hY : Row H dv 3 (ds.map Day.c)) (hbd : ds.length ≤ 1000000) : RR (m + 7) (.fn 62 [.agg [cv, I g.slo, I g.shi, I g.klo, I g.khi, I g.melt], dv, I cell, I level]) H = some (I (askErr cs g ds cell level), H) := by
  refine (R_fn _ _ _ _ _).trans ?_
  refine fn_ok Try.func62 rfl rfl (by kernel_rfl) (by kernel_rfl) ?_
  obtain ⟨W, hW⟩ : ∃ W : Heap, W = ⟨H.t, H.next, H.next⟩ := ⟨_, rfl⟩
  have hg : ∀ n, W.get n = H.get n := fun n => by rw [hW]; rfl
  have hN : W.next = H.next := by rw [hW]
  have hE : ∀ G, Grow W G → Ext H G := fun G g => ⟨by rw [← hN]; exact g.next, fun n k => by rw [g.get n (by rw [hN]; exact k), hg]⟩
  have hG : Grow W W := Grow.refl (by rw [hW]; exact Nat.le_refl _)
  rw [← hW]
  have hlc : lenOf cv = some cs.length := by simpa using hR.len
  have hld : lenOf dv = some ds.length := by simpa using hY.len
  have pc := lpl hlc
  refine Ok.seq ?_
  refine Ok.region ?_
  refine OkO.box rfl rfl ?_
  refine OkO.assign rfl rfl ?_
  refine OkO.nil ?_
  refine Ok.seq ?_
  refine Ok.seq ?_
  refine Ok.region ?_
  refine OkO.load rfl rfl (ldg (n := 6) (by kernel_rfl) (by first | assumption | (simp (disch := first | omega | (simp only [hNw, hPt]; omega)) only [gn0, gn1, gn2, gn3, gn4, gn5, gp0, gno, gpo] <;> first | rfl | assumption)) (by first | rfl | assumption)) ?_
  refine OkO.move rfl rfl ?_
  refine OkO.callV rfl rfl rfl rfl rfl (c60 m cv dv cs g ds _ (hR.ext (hE _ (by (try dsimp only); repeat (first | exact hG | apply Grow.new | (refine Grow.put ?_ _ (by first | omega | (simp only [hNw, hPt]; omega))))))) (by omega) (hY.ext (hE _ (by (try dsimp only); repeat (first | exact hG | apply Grow.new | (refine Grow.put ?_ _ (by first | omega | (simp only [hNw, hPt]; omega))))))) (by omega)) ?_ -- "sackung/water.checkDays"
  refine OkO.assign rfl rfl ?_
  refine OkO.nil ?_
  refine Ok.seq ?_
  refine Ok.region ?_
  refine OkO.move rfl rfl ?_
  refine OkO.bin rfl rfl rfl (bin_neq _ _) ?_
  refine OkO.nil ?_
  refine Ok.cond rfl (fun h1 => ?_) (fun h1 => ?_)
  · -- yes h1
    have hde : ¬daysErr cs g ds = 0 := by simpa using h1
    refine Ok.seq ?_
    refine Ok.region ?_
    refine OkO.move rfl rfl ?_
    refine OkO.assign rfl rfl ?_
    refine OkO.nil ?_
    refine Ok.ret ⟨.inr rfl, ?_⟩
    exact back_flat rfl (by unfold askErr; rw [if_neg hde]; rfl) rfl (by rw [← hW]; exact (by (try dsimp only); repeat (first | exact hG | apply Grow.new | (refine Grow.put ?_ _ (by first | omega | (simp only [hNw, hPt]; omega))))))
  · -- no h1
    have hde : daysErr cs g ds = 0 := by simpa using h1
    refine Ok.skip ?_
    refine Ok.seq ?_
    refine Ok.seq ?_
    refine Ok.region ?_
    refine OkO.fieldAddr (o := 0) rfl (by kernel_rfl) rfl ?_
    refine OkO.load rfl rfl (lda (n := 1) (by kernel_rfl) (by first | assumption | (simp (disch := first | omega | (simp only [hNw, hPt]; omega)) only [gn0, gn1, gn2, gn3, gn4, gn5, gp0, gno, gpo] <;> first | rfl | assumption)) (by first | rfl | assumption)) ?_
    refine OkO.callV rfl rfl rfl rfl rfl (c74 _ cv cs.length _ hlc (by omega)) ?_ -- "sackung/water.indexes[sackung/water.Cell]"
    refine OkO.move rfl rfl ?_
    refine OkO.callV rfl rfl rfl rfl rfl (c71 _ _ _ _ _) ?_ -- "(sackung/water.Range).has"
    refine OkO.un rfl rfl rfl ?_
    refine OkO.move rfl rfl ?_
    refine OkO.split (d := 22) rfl (fun g2 => ?_) (fun g2 => ?_)
    · -- true g2
      have hin : inB cell 0 ((cs.length : Int) - 1) = false := by simpa using g2
      refine OkO.skip rfl ?_
      refine OkO.skip rfl ?_
      refine OkO.skip rfl ?_
      refine OkO.skip rfl ?_
      refine OkO.pick (b := true) rfl rfl (fun _ => rfl) nofun ?_
      refine OkO.nil ?_
      refine Ok.condT rfl ?_
      refine Ok.seq ?_
      refine Ok.region ?_
      refine OkO.assign rfl rfl ?_
      refine OkO.nil ?_
      refine Ok.ret ⟨.inr rfl, ?_⟩
      exact back_flat rfl (by unfold askErr; rw [if_pos hde, hin]; rfl) rfl (by rw [← hW]; exact (by (try dsimp only); repeat (first | exact hG | apply Grow.new | (refine Grow.put ?_ _ (by first | omega | (simp only [hNw, hPt]; omega))))))
    · -- false g2
      have hin : inB cell 0 ((cs.length : Int) - 1) = true := by simpa using g2
      refine OkO.build (z := [.int .i64 0, .int .i64 0]) (pl := [(0, 1), (1, 1)]) rfl (by kernel_rfl) rfl rfl ?_
      refine OkO.move rfl rfl ?_
      refine OkO.callV rfl rfl rfl rfl rfl (c71 _ _ _ _ _) ?_ -- "(sackung/water.Range).has"
      refine OkO.un rfl rfl rfl ?_
      refine OkO.pick (b := false) rfl rfl nofun (fun _ => rfl) ?_
      refine OkO.nil ?_
      refine Ok.cond rfl (fun h3 => ?_) (fun h3 => ?_)
      · -- yes h3
        have hin2 : inB level 0 100000 = false := by simpa using h3
        refine Ok.seq ?_
        refine Ok.region ?_
        refine OkO.assign rfl rfl ?_
        refine OkO.nil ?_
        refine Ok.ret ⟨.inr rfl, ?_⟩
        exact back_flat rfl (by unfold askErr; rw [if_pos hde, hin, hin2]; rfl) rfl (by rw [← hW]; exact (by (try dsimp only); repeat (first | exact hG | apply Grow.new | (refine Grow.put ?_ _ (by first | omega | (simp only [hNw, hPt]; omega))))))
      · -- no h3
        have hin2 : inB level 0 100000 = true := by simpa using h3
        refine Ok.skip ?_
        refine Ok.seq ?_
        refine Ok.region ?_
        refine OkO.assign rfl rfl ?_
        refine OkO.nil ?_
        refine Ok.ret ⟨.inr rfl, ?_⟩
        exact back_flat rfl (by unfold askErr; rw [if_pos hde, hin, hin2]; rfl) rfl (by rw [← hW]; exact (by (try dsimp only); repeat (first | exact hG | apply Grow.new | (refine Grow.put ?_ _ (by first | omega | (simp only [hNw, hPt]; omega))))))
theorem c63 (m : Nat) (v : AV) (rows : List (List Rg)) (k : Nat) (lv : Int) (H : Heap) (hV : ListsR H v rows) (hk : ∀ r ∈ rows, k < r.length) (hlh : ∀ r ∈ rows, (r.getD k ⟨0, 0⟩).lo ≤ (r.getD k ⟨0, 0⟩).hi) (hl : rows.length ≤ 1000) : RR (m + 1) (.fn 63 [v, I (k : Int), I lv]) H = some (.tup [I (firstD (fun j => (((rows.getD j []).getD k ⟨0, 0⟩).hi)) lv rows.length), I (firstD (fun j => (((rows.getD j []).getD k ⟨0, 0⟩).lo)) lv rows.length)], H) := by
  refine (R_fn _ _ _ _ _).trans ?_
  refine fn_ok Try.func63 rfl rfl (by kernel_rfl) (by kernel_rfl) ?_
  obtain ⟨W, hW⟩ : ∃ W : Heap, W = ⟨H.t, H.next, H.next⟩ := ⟨_, rfl⟩
  have hg : ∀ n, W.get n = H.get n := fun n => by rw [hW]; rfl
  have hN : W.next = H.next := by rw [hW]
  have hE : ∀ G, Grow W G → Ext H G := fun G g => ⟨by rw [← hN]; exact g.next, fun n k => by rw [g.get n (by rw [hN]; exact k), hg]⟩
  have hG : Grow W W := Grow.refl (by rw [hW]; exact Nat.le_refl _)
  rw [← hW]
  obtain ⟨vs, s1, s2, s3⟩ := hV
  have hla : lenOf v = some rows.length := by rw [s1.len]; simp; omega
  refine Ok.seq ?_
  refine Ok.region ?_
  refine OkO.assign rfl rfl ?_
  refine OkO.assign rfl rfl ?_
  refine OkO.nil ?_
  refine Ok.scope ?_
  refine Ok.seq ?_
  refine Ok.region ?_
  refine OkO.assign rfl rfl ?_
  refine OkO.assign rfl rfl ?_
  refine OkO.nil ?_
  refine Ok.seq ?_
  refine Ok.label ?_
  refine Ok.seq ?_
  refine Ok.seq ?_
  refine Ok.region ?_
  refine OkO.move rfl rfl ?_
  refine OkO.builtin rfl rfl rfl (bln (by kernel_rfl) (by first | assumption | rfl)) ?_
  refine OkO.move rfl rfl ?_
  refine OkO.nil ?_
  refine Ok.block ?_
  refine Ok.loop (fun n s => ∃ i : Nat, n = rows.length - i ∧ i ≤ rows.length ∧ (∀ j, j < i → (fun j => (((rows.getD j []).getD k ⟨0, 0⟩).lo)) j < lv) ∧ Has 6 [(0, v), (1, I (k : Int)), (2, I lv), (6, I (firstD (fun j => (((rows.getD j []).getD k ⟨0, 0⟩).hi)) lv i)), (7, I (-1)), (10, v), (11, I rows.length), (12, I (i : Int))] s.T ∧ s.D = [] ∧ Grow W s.H) (rows.length) (by unfold loopFuel; omega)
    ⟨0, rfl, Nat.zero_le _, nofun, Has.of (by kernel_rfl), rfl, hG⟩ ?_
  rintro n ⟨T, D, G⟩ ⟨i, hn, hi, hall, ⟨f, hT⟩, hD, hg⟩
  dsimp only at *
  subst hT hD
  have hgn := hg.next
  refine Ok.seq ?_
  refine Ok.region ?_
  refine OkO.bin rfl rfl rfl (bin_lss _ _) ?_
  refine OkO.nil ?_
  refine Ok.seq ?_
  refine Ok.cond rfl (fun h1 => ?_) (fun h1 => ?_)
  · -- yes h1
    have hlt : i < rows.length := by simpa using h1
    have i1 : i < vs.length := by omega
    obtain ⟨xb, xo, xcs, x1, x2, x3, x4⟩ := (s1.ext (hE _ hg)).at_ i [vs[i]] (by simp [i1])
    have x5 := seg_one x3
    have xr : Row G vs[i] 2 (rows[i].map Rg.c) := (s3 i vs[i] rows[i] (List.getElem?_eq_getElem i1) (List.getElem?_eq_getElem hlt)).ext (hE _ hg)
    have hkr : k < rows[i].length := hk _ (List.getElem_mem hlt)
    obtain ⟨yb, yo, ycs, y1, y2, y3, y4⟩ := xr.at_ k rows[i][k].c (by rw [List.getElem?_map, List.getElem?_eq_getElem hkr]; rfl)
    have hgd : (rows.getD i []).getD k ⟨0, 0⟩ = rows[i][k] := by simp [hlt, hkr]
    have y5 : ycs[yo + 0]? = some (I rows[i][k].lo) := seg_get y3 0 (by omega)
    have y6 : ycs[yo + 1]? = some (I rows[i][k].hi) := seg_get y3 1 (by omega)
    refine Ok.skip ?_
    refine Ok.seq ?_
    refine Ok.block ?_
    refine Ok.seq ?_
    refine Ok.region ?_
    refine OkO.move rfl rfl ?_
    refine OkO.index (sz := 1) (n := i) rfl rfl rfl (by kernel_rfl) (by first | assumption | rfl | exact slAt_slice (by omega)) ?_ -- index ('Go.Operand.tmp', 10) ('Go.Operand.tmp', 12)
    refine OkO.load rfl rfl (lda (n := 1) (by kernel_rfl) (by first | assumption | (simp (disch := first | omega | (simp only [hNw, hPt]; omega)) only [gn0, gn1, gn2, gn3, gn4, gn5, gp0, gno, gpo] <;> first | rfl | assumption)) (by first | rfl | assumption)) ?_
    refine OkO.assign rfl rfl ?_
    refine OkO.assign rfl rfl ?_
    refine OkO.nil ?_
    refine Ok.block ?_
    refine Ok.seq ?_
    refine Ok.region ?_
    refine OkO.move rfl rfl ?_
    refine OkO.move rfl rfl ?_
    refine OkO.move rfl rfl ?_
    refine OkO.index (sz := 2) (n := k) rfl rfl rfl (by kernel_rfl) (by first | assumption | rfl | exact slAt_slice (by omega)) ?_ -- index ('Go.Operand.tmp', 19) ('Go.Operand.tmp', 20)
    refine OkO.fieldAddr (o := 0) rfl (by kernel_rfl) rfl ?_
    refine OkO.load rfl rfl (lda (n := 1) (by kernel_rfl) (by first | assumption | (simp (disch := first | omega | (simp only [hNw, hPt]; omega)) only [gn0, gn1, gn2, gn3, gn4, gn5, gp0, gno, gpo] <;> first | rfl | assumption)) (by first | rfl | assumption)) ?_
    refine OkO.bin rfl rfl rfl (bin_leq _ _) ?_
    refine OkO.assign rfl rfl ?_
    refine OkO.nil ?_
    refine Ok.cond rfl (fun h2 => ?_) (fun h2 => ?_)
    · -- yes h2
      have hge : lv ≤ rows[i][k].lo := by simpa using h2
      have es : firstD (fun j => (((rows.getD j []).getD k ⟨0, 0⟩).lo)) lv rows.length = i := firstD_at i _ hlt (by (try dsimp only); rw [hgd]; exact hge) hall
      refine Ok.seq ?_
      refine Ok.region ?_
      refine OkO.move rfl rfl ?_
      refine OkO.assign rfl rfl ?_
      refine OkO.nil ?_
      refine Ok.exit ?_
      refine Ok.seq ?_
      refine Ok.seq ?_
      refine Ok.region ?_
      refine OkO.move rfl rfl ?_
      refine OkO.bin rfl rfl rfl (bin_eql _ _) ?_
      refine OkO.nil ?_
      refine Ok.cond rfl (fun h3 => ?_) (fun h3 => ?_)
      · -- yes h3
        have e3 : firstD (fun j => (((rows.getD j []).getD k ⟨0, 0⟩).hi)) lv i = -1 := by simpa using h3
        have e4 : firstD (fun j => (((rows.getD j []).getD k ⟨0, 0⟩).hi)) lv rows.length = i := firstD_at i _ hlt (by (try dsimp only); have e8 := hlh _ (List.getElem_mem hlt); rw [show rows[i].getD k ⟨0, 0⟩ = rows[i][k] from by simp [hkr]] at e8; rw [hgd]; omega) (firstD_of_neg i e3)
        refine Ok.region ?_
        refine OkO.move rfl rfl ?_
        refine OkO.assign rfl rfl ?_
        refine OkO.nil ?_
        refine Ok.seq ?_
        refine Ok.region ?_
        refine OkO.move rfl rfl ?_
        refine OkO.move rfl rfl ?_
        refine OkO.assign rfl rfl ?_
        refine OkO.assign rfl rfl ?_
        refine OkO.nil ?_
        refine Ok.ret ⟨.inr rfl, ?_⟩
        exact back_flat (resV_tmp rfl (resV_tmp rfl resV_nil)) (by rw [es, e4]; rfl) rfl (by rw [← hW]; exact hg)
      · -- no h3
        have e3 : ¬firstD (fun j => (((rows.getD j []).getD k ⟨0, 0⟩).hi)) lv i = -1 := by simpa using h3
        have e4 : firstD (fun j => (((rows.getD j []).getD k ⟨0, 0⟩).hi)) lv rows.length = firstD (fun j => (((rows.getD j []).getD k ⟨0, 0⟩).hi)) lv i := firstD_keep i _ (by omega) e3
        refine Ok.skip ?_
        refine Ok.seq ?_
        refine Ok.region ?_
        refine OkO.move rfl rfl ?_
        refine OkO.move rfl rfl ?_
        refine OkO.assign rfl rfl ?_
        refine OkO.assign rfl rfl ?_
        refine OkO.nil ?_
        refine Ok.ret ⟨.inr rfl, ?_⟩
        exact back_flat (resV_tmp rfl (resV_tmp rfl resV_nil)) (by rw [es, e4]; rfl) rfl (by rw [← hW]; exact hg)
    · -- no h2
      have hlo : rows[i][k].lo < lv := by simpa using h2
      refine Ok.seq ?_
      refine Ok.region ?_
      refine OkO.move rfl rfl ?_
      refine OkO.move rfl rfl ?_
      refine OkO.move rfl rfl ?_
      refine OkO.index (sz := 2) (n := k) rfl rfl rfl (by kernel_rfl) (by first | assumption | rfl | exact slAt_slice (by omega)) ?_ -- index ('Go.Operand.tmp', 28) ('Go.Operand.tmp', 29)
      refine OkO.fieldAddr (o := 1) rfl (by kernel_rfl) rfl ?_
      refine OkO.load rfl rfl (lda (n := 1) (by kernel_rfl) (by first | assumption | (simp (disch := first | omega | (simp only [hNw, hPt]; omega)) only [gn0, gn1, gn2, gn3, gn4, gn5, gp0, gno, gpo] <;> first | rfl | assumption)) (by first | rfl | assumption)) ?_
      refine OkO.bin rfl rfl rfl (bin_leq _ _) ?_
      refine OkO.move rfl rfl ?_
      refine OkO.split (d := 34) rfl (fun g4 => ?_) (fun g4 => ?_)
      · -- true g4
        have ghi : lv ≤ rows[i][k].hi := by simpa using g4
        refine OkO.move rfl rfl ?_
        refine OkO.bin rfl rfl rfl (bin_eql _ _) ?_
        refine OkO.pick (b := true) rfl rfl (fun _ => rfl) nofun ?_
        refine OkO.assign rfl rfl ?_
        refine OkO.nil ?_
        refine Ok.cond rfl (fun h5 => ?_) (fun h5 => ?_)
        · -- yes h5
          have e3 : firstD (fun j => (((rows.getD j []).getD k ⟨0, 0⟩).hi)) lv i = -1 := by simpa using h5
          have hnx : firstD (fun j => (((rows.getD j []).getD k ⟨0, 0⟩).hi)) lv (i + 1) = i := by rw [firstD, if_pos e3, if_pos (by (try dsimp only); rw [hgd]; exact ghi)]
          refine Ok.region ?_
          refine OkO.move rfl rfl ?_
          refine OkO.assign rfl rfl ?_
          refine OkO.nil ?_
          refine Ok.region ?_
          refine OkO.bin rfl rfl rfl (bin_add (by omega) (by omega)) ?_
          refine OkO.move rfl rfl ?_
          refine OkO.nil ?_
          refine ⟨rows.length - (i + 1), by omega, i + 1, rfl, hlt, fun j hj => ?_, ?_, rfl, hg⟩
          · rcases Nat.lt_or_ge j i with e | e
            · exact hall j e
            · have : j = i := by omega
              subst this; (try dsimp only); rw [hgd]; exact hlo
          · rw [hnx]; exact Has.of (by kernel_rfl)
        · -- no h5
          have e3 : ¬firstD (fun j => (((rows.getD j []).getD k ⟨0, 0⟩).hi)) lv i = -1 := by simpa using h5
          have hnx : firstD (fun j => (((rows.getD j []).getD k ⟨0, 0⟩).hi)) lv (i + 1) = firstD (fun j => (((rows.getD j []).getD k ⟨0, 0⟩).hi)) lv i := by rw [firstD, if_neg e3]
          refine Ok.skip ?_
          refine Ok.region ?_
          refine OkO.bin rfl rfl rfl (bin_add (by omega) (by omega)) ?_
          refine OkO.move rfl rfl ?_
          refine OkO.nil ?_
          refine ⟨rows.length - (i + 1), by omega, i + 1, rfl, hlt, fun j hj => ?_, ?_, rfl, hg⟩
          · rcases Nat.lt_or_ge j i with e | e
            · exact hall j e
            · have : j = i := by omega
              subst this; (try dsimp only); rw [hgd]; exact hlo
          · rw [hnx]; exact Has.of (by kernel_rfl)
      · -- false g4
        have ghi : ¬lv ≤ rows[i][k].hi := by simpa using g4
        have hnx : firstD (fun j => (((rows.getD j []).getD k ⟨0, 0⟩).hi)) lv (i + 1) = firstD (fun j => (((rows.getD j []).getD k ⟨0, 0⟩).hi)) lv i := by rw [firstD, if_neg (c := lv ≤ _) (by (try dsimp only); rw [hgd]; exact ghi)]; split <;> simp_all
        refine OkO.skip rfl ?_
        refine OkO.skip rfl ?_
        refine OkO.pick (b := false) rfl rfl nofun (fun _ => rfl) ?_
        refine OkO.assign rfl rfl ?_
        refine OkO.nil ?_
        refine Ok.condF rfl ?_
        refine Ok.skip ?_
        refine Ok.region ?_
        refine OkO.bin rfl rfl rfl (bin_add (by omega) (by omega)) ?_
        refine OkO.move rfl rfl ?_
        refine OkO.nil ?_
        refine ⟨rows.length - (i + 1), by omega, i + 1, rfl, hlt, fun j hj => ?_, ?_, rfl, hg⟩
        · rcases Nat.lt_or_ge j i with e | e
          · exact hall j e
          · have : j = i := by omega
            subst this; (try dsimp only); rw [hgd]; exact hlo
        · rw [hnx]; exact Has.of (by kernel_rfl)
  · -- no h1
    have hge : i = rows.length := by simp at h1; omega
    subst hge
    have es : firstD (fun j => (((rows.getD j []).getD k ⟨0, 0⟩).lo)) lv rows.length = -1 := firstD_neg _ hall
    refine Ok.exit ?_
    refine Ok.seq ?_
    refine Ok.seq ?_
    refine Ok.region ?_
    refine OkO.move rfl rfl ?_
    refine OkO.bin rfl rfl rfl (bin_eql _ _) ?_
    refine OkO.nil ?_
    refine Ok.cond rfl (fun h6 => ?_) (fun h6 => ?_)
    · -- yes h6
      have e3 : firstD (fun j => (((rows.getD j []).getD k ⟨0, 0⟩).hi)) lv rows.length = -1 := by simpa using h6
      refine Ok.region ?_
      refine OkO.move rfl rfl ?_
      refine OkO.assign rfl rfl ?_
      refine OkO.nil ?_
      refine Ok.seq ?_
      refine Ok.region ?_
      refine OkO.move rfl rfl ?_
      refine OkO.move rfl rfl ?_
      refine OkO.assign rfl rfl ?_
      refine OkO.assign rfl rfl ?_
      refine OkO.nil ?_
      refine Ok.ret ⟨.inr rfl, ?_⟩
      exact back_flat (resV_tmp rfl (resV_tmp rfl resV_nil)) (by rw [es, e3]; rfl) rfl (by rw [← hW]; exact hg)
    · -- no h6
      refine Ok.skip ?_
      refine Ok.seq ?_
      refine Ok.region ?_
      refine OkO.move rfl rfl ?_
      refine OkO.move rfl rfl ?_
      refine OkO.assign rfl rfl ?_
      refine OkO.assign rfl rfl ?_
      refine OkO.nil ?_
      refine Ok.ret ⟨.inr rfl, ?_⟩
      exact back_flat (resV_tmp rfl (resV_tmp rfl resV_nil)) (by rw [es]; rfl) rfl (by rw [← hW]; exact hg)
end
end Go.Ev

set_option maxRecDepth 100000
set_option linter.unusedSimpArgs false
set_option linter.unusedVariables false
namespace Go.Ev
open Go Go.Proofs
noncomputable section
theorem c63G (m : Nat) (v : AV) (cs : List Cell) (g : Gr) (ds : List Day) (k : Nat) (lv : Int) (H : Heap) (hV : ListsR H v (rowsG cs g ds ds.length)) (hk : k < cs.length) (hd0 : daysErr cs g ds = 0) :
    RR (m + 1) (.fn 63 [v, I (k : Int), I lv]) H = some (.tup [I (firstD (fun j => (levP cs g ds (highT g) (highL cs) (highR ds) (j + 1)).getD k 0) lv ds.length), I (firstD (fun j => (levP cs g ds (lowT g) (lowL cs) (lowR ds) (j + 1)).getD k 0) lv ds.length)], H) := by
  have hFl := fit_of (low_ok hd0)
  have hrl : (rowsG cs g ds ds.length).length = ds.length := by simp [rowsG]
  have hat : ∀ j, j < ds.length → (((rowsG cs g ds ds.length).getD j []).getD k ⟨0, 0⟩) = lvR cs g ds j k := fun j hj => by
    have h1 : (rowsG cs g ds ds.length).getD j [] = rowG cs g ds j cs.length := by simp [rowsG, hj]
    have h2 : (rowG cs g ds j cs.length).getD k ⟨0, 0⟩ = lvR cs g ds j k := by simp [rowG, hk]
    rw [h1, h2]
  have e := c63 m v (rowsG cs g ds ds.length) k lv H hV (fun r hr => by
      rw [rowsG, List.mem_map] at hr
      obtain ⟨i, _, rfl⟩ := hr
      simp [rowG]; exact hk) (fun r hr => by
      obtain ⟨i, hi, rfl⟩ := List.mem_iff_getElem.1 hr
      have hi2 : i < ds.length := by omega
      have h1 := hat i hi2
      rw [show (rowsG cs g ds ds.length).getD i [] = (rowsG cs g ds ds.length)[i] from by simp [hi]] at h1
      rw [h1]
      have h2 := betw_lev hd0 (low_ok hd0) (i + 1) (by omega) k
      exact Int.le_trans h2.1 h2.2) (by have := hFl.d30; omega)
  have e1 : firstD (fun j => (((rowsG cs g ds ds.length).getD j []).getD k ⟨0, 0⟩).hi) lv ds.length = firstD (fun j => (levP cs g ds (highT g) (highL cs) (highR ds) (j + 1)).getD k 0) lv ds.length := firstD_congr _ fun j hj => by
    show (((rowsG cs g ds ds.length).getD j []).getD k ⟨0, 0⟩).hi = _
    rw [hat j hj]; rfl
  have e2 : firstD (fun j => (((rowsG cs g ds ds.length).getD j []).getD k ⟨0, 0⟩).lo) lv ds.length = firstD (fun j => (levP cs g ds (lowT g) (lowL cs) (lowR ds) (j + 1)).getD k 0) lv ds.length := firstD_congr _ fun j hj => by
    show (((rowsG cs g ds ds.length).getD j []).getD k ⟨0, 0⟩).lo = _
    rw [hat j hj]; rfl
  rw [hrl, e1, e2] at e
  exact e
theorem c62w (m : Nat) (cv dv : AV) (cs : List Cell) (g : Gr) (ds : List Day) (cell level : Int) (H : Heap) (hR : Row H cv 7 (cs.map Cell.c)) (hbig : cs.length ≤ 1000000) (hY : Row H dv 3 (ds.map Day.c)) (hbd : ds.length ≤ 1000000) {e : Int} (hk : askErr cs g ds cell level = e) : RR (m + 7) (.fn 62 [.agg [cv, I g.slo, I g.shi, I g.klo, I g.khi, I g.melt], dv, I cell, I level]) H = some (I e, H) := by
  have e1 := c62 m cv dv cs g ds cell level H hR hbig hY hbd
  rw [hk] at e1
  exact e1
theorem c31w (m : Nat) (cv dv : AV) (cs : List Cell) (g : Gr) (ds : List Day) (cell level : Int) (H : Heap) (hR : Row H cv 7 (cs.map Cell.c)) (hbig : cs.length ≤ 1000000) (hY : Row H dv 3 (ds.map Day.c)) (hbd : ds.length ≤ 1000000) {e : Int} (hk : askErr cs g ds cell level = e) : RR (m + 5) (.fn 31 [.agg [cv, I g.slo, I g.shi, I g.klo, I g.khi, I g.melt], dv, I cell, I level]) H = some (I e, H) := by
  have e1 := c31 m cv dv cs g ds cell level H hR hbig hY hbd
  rw [hk] at e1
  exact e1
theorem ask_ok {cs : List Cell} {g : Gr} {ds : List Day} {cell level : Int} (h : askErr cs g ds cell level = 0) : daysErr cs g ds = 0 ∧ (∃ k : Nat, cell = (k : Int) ∧ k < cs.length) ∧ 0 ≤ level ∧ level ≤ 100000 := by
  unfold askErr at h
  split at h
  · rename_i h0
    split at h
    · rename_i h1
      simp only [inB, Bool.and_eq_true, decide_eq_true_eq] at h1
      exact ⟨h0, ⟨cell.toNat, by omega, by omega⟩, by omega, by omega⟩
    · omega
  · exact absurd h (by assumption)
theorem c30E (m : Nat) (cv dv : AV) (cs : List Cell) (g : Gr) (ds : List Day) (cell level : Int) (H : Heap) (hR : Row H cv 7 (cs.map Cell.c)) (hY : Row H dv 3 (ds.map Day.c)) (hbig : cs.length ≤ 1000000) (hbd : ds.length ≤ 1000000) {e : Int} (hke : askErr cs g ds cell level = e) (he : ¬e = 0) : RR (m + 8) (.fn 30 [.agg [cv, I g.slo, I g.shi, I g.klo, I g.khi, I g.melt], dv, I cell, I level]) H = some (.tup [I 0, I 0, I e], H) := by
  refine (R_fn _ _ _ _ _).trans ?_
  refine fn_ok Try.func30 rfl rfl (by kernel_rfl) (by kernel_rfl) ?_
  obtain ⟨W, hW⟩ : ∃ W : Heap, W = ⟨H.t, H.next, H.next⟩ := ⟨_, rfl⟩
  have hg : ∀ n, W.get n = H.get n := fun n => by rw [hW]; rfl
  have hN : W.next = H.next := by rw [hW]
  have hE : ∀ G, Grow W G → Ext H G := fun G g => ⟨by rw [← hN]; exact g.next, fun n k => by rw [g.get n (by rw [hN]; exact k), hg]⟩
  have hG : Grow W W := Grow.refl (by rw [hW]; exact Nat.le_refl _)
  rw [← hW]
  have hlc : lenOf cv = some cs.length := by simpa using hR.len
  have hld : lenOf dv = some ds.length := by simpa using hY.len
  have pc := lpl hlc
  refine Ok.seq ?_
  refine Ok.region ?_
  refine OkO.box rfl rfl ?_
  refine OkO.assign rfl rfl ?_
  refine OkO.assign rfl rfl ?_
  refine OkO.assign rfl rfl ?_
  refine OkO.nil ?_
  refine Ok.seq ?_
  refine Ok.seq ?_
  refine Ok.region ?_
  refine OkO.load rfl rfl (ldg (n := 6) (by kernel_rfl) (by first | assumption | (simp (disch := first | omega | (simp only [hNw, hPt]; omega)) only [gn0, gn1, gn2, gn3, gn4, gn5, gp0, gno, gpo] <;> first | rfl | assumption)) (by first | rfl | assumption)) ?_
  refine OkO.move rfl rfl ?_
  refine OkO.move rfl rfl ?_
  refine OkO.move rfl rfl ?_
  refine OkO.callV rfl rfl rfl rfl rfl (c62w m cv dv cs g ds cell level _ (hR.ext (hE _ (by (try dsimp only); repeat (first | exact hG | apply Grow.new | (refine Grow.put ?_ _ (by first | omega | (simp only [hNw, hPt]; omega))))))) (by omega) (hY.ext (hE _ (by (try dsimp only); repeat (first | exact hG | apply Grow.new | (refine Grow.put ?_ _ (by first | omega | (simp only [hNw, hPt]; omega))))))) (by omega) hke) ?_ -- "sackung/water.checkLevel"
  refine OkO.assign rfl rfl ?_
  refine OkO.nil ?_
  refine Ok.seq ?_
  refine Ok.region ?_
  refine OkO.move rfl rfl ?_
  refine OkO.bin rfl rfl rfl (bin_neq _ _) ?_
  refine OkO.nil ?_
  refine Ok.cond rfl (fun h1 => ?_) (fun h1 => ?_)
  · -- yes h1
    refine Ok.seq ?_
    refine Ok.region ?_
    refine OkO.move rfl rfl ?_
    refine OkO.assign rfl rfl ?_
    refine OkO.assign rfl rfl ?_
    refine OkO.assign rfl rfl ?_
    refine OkO.nil ?_
    refine Ok.ret ⟨.inr rfl, ?_⟩
    exact back_flat (resV_tmp rfl (resV_tmp rfl (resV_tmp rfl resV_nil))) rfl rfl (by rw [← hW]; exact (by (try dsimp only); repeat (first | exact hG | apply Grow.new | (refine Grow.put ?_ _ (by first | omega | (simp only [hNw, hPt]; omega))))))
  · -- no h1
    exact absurd h1 (by simp [he])
theorem c30K (m : Nat) (cv dv : AV) (cs : List Cell) (g : Gr) (ds : List Day) (k : Nat) (level : Int) (H : Heap) (hR : Row H cv 7 (cs.map Cell.c)) (hY : Row H dv 3 (ds.map Day.c)) (hca : cv.atom = true) (hda : dv.atom = true) (hk : k < cs.length) (hke : askErr cs g ds (k : Int) level = 0) : RR (m + 9) (.fn 30 [.agg [cv, I g.slo, I g.shi, I g.klo, I g.khi, I g.melt], dv, I (k : Int), I level]) H = some (.tup [I (firstD (fun j => (levP cs g ds (highT g) (highL cs) (highR ds) (j + 1)).getD k 0) level ds.length), I (firstD (fun j => (levP cs g ds (lowT g) (lowL cs) (lowR ds) (j + 1)).getD k 0) level ds.length), I 0], H) := by
  refine (R_fn _ _ _ _ _).trans ?_
  refine fn_ok Try.func30 rfl rfl (by kernel_rfl) (by kernel_rfl) ?_
  obtain ⟨W, hW⟩ : ∃ W : Heap, W = ⟨H.t, H.next, H.next⟩ := ⟨_, rfl⟩
  have hg : ∀ n, W.get n = H.get n := fun n => by rw [hW]; rfl
  have hN : W.next = H.next := by rw [hW]
  have hE : ∀ G, Grow W G → Ext H G := fun G g => ⟨by rw [← hN]; exact g.next, fun n k => by rw [g.get n (by rw [hN]; exact k), hg]⟩
  have hG : Grow W W := Grow.refl (by rw [hW]; exact Nat.le_refl _)
  rw [← hW]
  have hlc : lenOf cv = some cs.length := by simpa using hR.len
  have hld : lenOf dv = some ds.length := by simpa using hY.len
  have pc := lpl hlc
  have hak := ask_ok hke
  have hGF := gf_of hak.1
  have hn8 := hGF.n8
  have hd30 := hGF.d30
  refine Ok.seq ?_
  refine Ok.region ?_
  refine OkO.box rfl rfl ?_
  refine OkO.assign rfl rfl ?_
  refine OkO.assign rfl rfl ?_
  refine OkO.assign rfl rfl ?_
  refine OkO.nil ?_
  refine Ok.seq ?_
  refine Ok.seq ?_
  refine Ok.region ?_
  refine OkO.load rfl rfl (ldg (n := 6) (by kernel_rfl) (by first | assumption | (simp (disch := first | omega | (simp only [hNw, hPt]; omega)) only [gn0, gn1, gn2, gn3, gn4, gn5, gp0, gno, gpo] <;> first | rfl | assumption)) (by first | rfl | assumption)) ?_
  refine OkO.move rfl rfl ?_
  refine OkO.move rfl rfl ?_
  refine OkO.move rfl rfl ?_
  refine OkO.callV rfl rfl rfl rfl rfl (c62w (m + 1) cv dv cs g ds _ level _ (hR.ext (hE _ (by (try dsimp only); repeat (first | exact hG | apply Grow.new | (refine Grow.put ?_ _ (by first | omega | (simp only [hNw, hPt]; omega))))))) (by omega) (hY.ext (hE _ (by (try dsimp only); repeat (first | exact hG | apply Grow.new | (refine Grow.put ?_ _ (by first | omega | (simp only [hNw, hPt]; omega))))))) (by omega) hke) ?_ -- "sackung/water.checkLevel"
  refine OkO.assign rfl rfl ?_
  refine OkO.nil ?_
  refine Ok.seq ?_
  refine Ok.region ?_
  refine OkO.move rfl rfl ?_
  refine OkO.bin rfl rfl rfl (bin_neq _ _) ?_
  refine OkO.nil ?_
  refine Ok.cond rfl (fun h1 => ?_) (fun h1 => ?_)
  · -- yes h1
    exact absurd h1 (by simp)
  · -- no h1
    refine Ok.skip ?_
    refine Ok.seq ?_
    refine Ok.region ?_
    refine OkO.load rfl rfl (ldg (n := 6) (by kernel_rfl) (by first | assumption | (simp (disch := first | omega | (simp only [hNw, hPt]; omega)) only [gn0, gn1, gn2, gn3, gn4, gn5, gp0, gno, gpo] <;> first | rfl | assumption)) (by first | rfl | assumption)) ?_
    refine OkO.move rfl rfl ?_
    refine OkO.callE rfl rfl rfl rfl rfl (c61 (m + 1) cv dv cs g ds _ (hR.ext (hE _ (by (try dsimp only); repeat (first | exact hG | apply Grow.new | (refine Grow.put ?_ _ (by first | omega | (simp only [hNw, hPt]; omega))))))) (hY.ext (hE _ (by (try dsimp only); repeat (first | exact hG | apply Grow.new | (refine Grow.put ?_ _ (by first | omega | (simp only [hNw, hPt]; omega))))))) hca hda hak.1) ?_ -- "sackung/water.spans"
    rintro v61 H61 ⟨v4, v5, rfl, q61, ls61, in61⟩
    have g61 : Grow W H61 := Grow.ret (by (try dsimp only); repeat (first | exact hG | apply Grow.new | (refine Grow.put ?_ _ (by first | omega | (simp only [hNw, hPt]; omega))))) q61
    refine OkO.move rfl rfl ?_
    refine OkO.extract rfl rfl rfl ?_
    refine OkO.extract rfl rfl rfl ?_
    refine OkO.assign rfl rfl ?_
    refine OkO.assign rfl rfl ?_
    refine OkO.nil ?_
    refine Ok.seq ?_
    refine Ok.region ?_
    refine OkO.move rfl rfl ?_
    refine OkO.move rfl rfl ?_
    refine OkO.move rfl rfl ?_
    refine OkO.callV rfl rfl rfl rfl rfl (c63G (m + 7) v4 cs g ds k level _ ls61 hk hak.1) ?_ -- "sackung/water.firstDays"
    refine OkO.move rfl rfl ?_
    refine OkO.extract rfl rfl rfl ?_
    refine OkO.extract rfl rfl rfl ?_
    refine OkO.assign rfl rfl ?_
    refine OkO.assign rfl rfl ?_
    refine OkO.nil ?_
    refine Ok.seq ?_
    refine Ok.region ?_
    refine OkO.move rfl rfl ?_
    refine OkO.move rfl rfl ?_
    refine OkO.assign rfl rfl ?_
    refine OkO.assign rfl rfl ?_
    refine OkO.assign rfl rfl ?_
    refine OkO.nil ?_
    refine Ok.ret ⟨.inr rfl, ?_⟩
    exact back_flat (resV_tmp rfl (resV_tmp rfl (resV_tmp rfl resV_nil))) rfl rfl (by rw [← hW]; exact g61)
end
end Go.Ev

set_option maxRecDepth 100000
set_option linter.unusedSimpArgs false
set_option linter.unusedVariables false
namespace Go.Ev
open Go Go.Proofs
noncomputable section
section
open Go.ChangeShapes Go.WideShapes Go.RowKit
variable {H0 : Type} {enc : TypeId × Value → H0} {w : World} {base : Nat} {sp : Nat → Bool} {hd : Bool}
/-- A number at hand. -/
theorem int_arg {H : Heap} (hs : Snap w H) {v : Value} {d : DataW H0} {p : List MemPlace} (hv : ∃ n, v = .int .i64 n) (h : DataW.Trod enc Try.prog w base sp hd 3 v d p) : ∃ x : Int, argAV w.heap.size v = I x := by
  obtain ⟨n, rfl⟩ := hv
  exact ⟨n, rfl⟩
end
theorem c32 (m : Nat) (cv dv lv rv : AV) (cs : List Cell) (g : Gr) (ds : List Day) (t : Tru) (lvs rain : List Int) (k : Nat) (x : Int) (H : Heap) (hR : Row H cv 7 (cs.map Cell.c)) (hY : Row H dv 3 (ds.map Day.c)) (hL : Ints H lv lvs) (hA : Ints H rv rain) (hF : Fit cs g ds t lvs rain) (hk : k < cs.length) : RR (m + 40) (.fn 32 [.agg [cv, I g.slo, I g.shi, I g.klo, I g.khi, I g.melt], dv, .agg [I t.snow, I t.soak, lv, rv], I (k : Int), I x]) H = some (I (firstD (fun j => (levP cs g ds t lvs rain (j + 1)).getD k 0) x ds.length), H) := by
  refine (R_fn _ _ _ _ _).trans ?_
  refine fn_ok Try.func32 rfl rfl (by kernel_rfl) (by kernel_rfl) ?_
  obtain ⟨W, hW⟩ : ∃ W : Heap, W = ⟨H.t, H.next, H.next⟩ := ⟨_, rfl⟩
  have hg : ∀ n, W.get n = H.get n := fun n => by rw [hW]; rfl
  have hN : W.next = H.next := by rw [hW]
  have hE : ∀ G, Grow W G → Ext H G := fun G g => ⟨by rw [← hN]; exact g.next, fun n k => by rw [g.get n (by rw [hN]; exact k), hg]⟩
  have hG : Grow W W := Grow.refl (by rw [hW]; exact Nat.le_refl _)
  rw [← hW]
  have hlc : lenOf cv = some cs.length := by simpa using hR.len
  have pc := lpl hlc
  have hld : lenOf dv = some ds.length := by simpa using hY.len
  have hll : lenOf lv = some lvs.length := by simpa using hL.len
  have hlr : lenOf rv = some rain.length := by simpa using hA.len
  have pl := lpl hll
  have pr := lpl hlr
  have hd30 := hF.d30
  have hfl := hF.ll
  have hn8 := hF.n8
  refine Ok.seq ?_
  refine Ok.region ?_
  refine OkO.box rfl rfl ?_
  refine OkO.box rfl rfl ?_
  refine OkO.assign rfl rfl ?_
  refine OkO.nil ?_
  refine Ok.seq ?_
  refine Ok.seq ?_
  refine Ok.region ?_
  refine OkO.assign rfl rfl ?_
  refine OkO.nil ?_
  refine Ok.block ?_
  refine Ok.loop (fun n s => ∃ i : Nat, n = ds.length - i ∧ i ≤ ds.length ∧ (∀ j, j < i → (fun j => (levP cs g ds t lvs rain (j + 1)).getD k 0) j < x) ∧ Has 6 [(1, dv), (3, I (k : Int)), (4, I x), (5, .ptr W.next 0), (7, .ptr (W.next + 1) 0), (11, I (i : Int))] s.T ∧ s.D = [] ∧ Grow W s.H ∧ (s.H.get W.next).bind AObj.cs = some [cv, I g.slo, I g.shi, I g.klo, I g.khi, I g.melt] ∧ (s.H.get (W.next + 1)).bind AObj.cs = some [I t.snow, I t.soak, lv, rv] ∧ W.next + 2 ≤ s.H.next) (ds.length) (by unfold loopFuel; omega)
    ⟨0, rfl, Nat.zero_le _, nofun, Has.of (by kernel_rfl), rfl, (by (try dsimp only); repeat (first | exact hG | apply Grow.new | (refine Grow.put ?_ _ (by first | omega | (simp only [hNw, hPt]; omega))))), (by simp (disch := first | omega | (simp only [hNw, hPt]; omega)) only [gn0, gn1, gn2, gn3, gn4, gn5, gp0, gno, gpo] <;> first | rfl | assumption), (by simp (disch := first | omega | (simp only [hNw, hPt]; omega)) only [gn0, gn1, gn2, gn3, gn4, gn5, gp0, gno, gpo] <;> first | rfl | assumption), by simp only [hNw]; omega⟩ ?_
  rintro n ⟨T, D, G⟩ ⟨i, hn, hi, hall, ⟨f, hT⟩, hD, hg, ea, eb, hb2⟩
  dsimp only at *
  subst hT hD
  have hgn := hg.next
  refine Ok.seq ?_
  refine Ok.seq ?_
  refine Ok.region ?_
  refine OkO.move rfl rfl ?_
  refine OkO.move rfl rfl ?_
  refine OkO.builtin rfl rfl rfl (bln (by kernel_rfl) (by first | assumption | rfl)) ?_
  refine OkO.bin rfl rfl rfl (bin_lss _ _) ?_
  refine OkO.nil ?_
  refine Ok.cond rfl (fun h1 => ?_) (fun h1 => ?_)
  · -- yes h1
    have hlt : i < ds.length := by simpa using h1
    refine Ok.skip ?_
    refine Ok.seq ?_
    refine Ok.block ?_
    refine Ok.seq ?_
    refine Ok.region ?_
    refine OkO.load rfl rfl (ldg (n := 6) (by kernel_rfl) (by first | assumption | (simp (disch := first | omega | (simp only [hNw, hPt]; omega)) only [gn0, gn1, gn2, gn3, gn4, gn5, gp0, gno, gpo] <;> first | rfl | assumption)) (by first | rfl | assumption)) ?_
    refine OkO.move rfl rfl ?_
    refine OkO.load rfl rfl (ldg (n := 4) (by kernel_rfl) (by first | assumption | (simp (disch := first | omega | (simp only [hNw, hPt]; omega)) only [gn0, gn1, gn2, gn3, gn4, gn5, gp0, gno, gpo] <;> first | rfl | assumption)) (by first | rfl | assumption)) ?_
    refine OkO.move rfl rfl ?_
    refine OkO.bin rfl rfl rfl (bin_add (by omega) (by omega)) ?_
    refine OkO.callE rfl rfl rfl rfl rfl (c26 cv dv lv rv cs g ds t lvs rain hF (i + 1) _ _ _ (by omega) (by omega) (by omega) (hR.ext (hE _ hg)) (hY.ext (hE _ hg)) (hL.ext (hE _ hg)) (hA.ext (hE _ hg))) ?_ -- "sackung/sackungref02.After"
    rintro vS HS ⟨vp, rfl, qS, inS⟩
    have gS : Grow W HS := Grow.ret hg qS
    have aS : (HS.get W.next).bind AObj.cs = some [cv, I g.slo, I g.shi, I g.klo, I g.khi, I g.melt] := by rw [qS.ext.get _ (by omega)]; exact ea
    have bS : (HS.get (W.next + 1)).bind AObj.cs = some [I t.snow, I t.soak, lv, rv] := by rw [qS.ext.get _ (by omega)]; exact eb
    have nS : W.next + 2 ≤ HS.next := Nat.le_trans hb2 qS.ext.next
    have fz := lev_facts hF (i + 1) (by omega)
    obtain ⟨yb, yo, ycs, y1, y2, y3, y4⟩ := inS.at_ k [I ((levP cs g ds t lvs rain (i + 1)).getD k 0)] (by rw [List.getElem?_map, List.getElem?_take, if_pos hk, List.getElem?_eq_getElem (by omega), getD_lt (by omega)]; rfl)
    have y5 := seg_one y3
    refine OkO.move rfl rfl ?_
    refine OkO.extract rfl rfl rfl ?_
    refine OkO.extract rfl rfl rfl ?_
    refine OkO.extract rfl rfl rfl ?_
    refine OkO.assign rfl rfl ?_
    refine OkO.assign rfl rfl ?_
    refine OkO.assign rfl rfl ?_
    refine OkO.nil ?_
    refine Ok.seq ?_
    refine Ok.region ?_
    refine OkO.move rfl rfl ?_
    refine OkO.move rfl rfl ?_
    refine OkO.index (sz := 1) (n := k) rfl rfl rfl (by kernel_rfl) (by first | assumption | rfl | exact slAt_slice (by omega)) ?_ -- index ('Go.Operand.tmp', 31) ('Go.Operand.tmp', 32)
    refine OkO.load rfl rfl (lda (n := 1) (by kernel_rfl) (by first | assumption | (simp (disch := first | omega | (simp only [hNw, hPt]; omega)) only [gn0, gn1, gn2, gn3, gn4, gn5, gp0, gno, gpo] <;> first | rfl | assumption)) (by first | rfl | assumption)) ?_
    refine OkO.move rfl rfl ?_
    refine OkO.bin rfl rfl rfl (bin_geq _ _) ?_
    refine OkO.nil ?_
    refine Ok.cond rfl (fun h2 => ?_) (fun h2 => ?_)
    · -- yes h2
      have hge : x ≤ (levP cs g ds t lvs rain (i + 1)).getD k 0 := by simpa using h2
      have es : firstD (fun j => (levP cs g ds t lvs rain (j + 1)).getD k 0) x ds.length = i := firstD_at i _ hlt hge hall
      refine Ok.seq ?_
      refine Ok.region ?_
      refine OkO.move rfl rfl ?_
      refine OkO.assign rfl rfl ?_
      refine OkO.nil ?_
      refine Ok.ret ⟨.inr rfl, ?_⟩
      exact back_flat rfl (by rw [es]; rfl) rfl (by rw [← hW]; exact gS)
    · -- no h2
      have hlo : (levP cs g ds t lvs rain (i + 1)).getD k 0 < x := by simpa using h2
      refine Ok.skip ?_
      refine Ok.region ?_
      refine OkO.move rfl rfl ?_
      refine OkO.bin rfl rfl rfl (bin_add (by omega) (by omega)) ?_
      refine OkO.assign rfl rfl ?_
      refine OkO.nil ?_
      refine ⟨ds.length - (i + 1), by omega, i + 1, rfl, hlt, fun j hj => ?_, Has.of (by kernel_rfl), rfl, gS, aS, bS, by omega⟩
      rcases Nat.lt_or_ge j i with e | e
      · exact hall j e
      · have : j = i := by omega
        subst this; exact hlo
  · -- no h1
    have hge : i = ds.length := by simp at h1; omega
    subst hge
    have es : firstD (fun j => (levP cs g ds t lvs rain (j + 1)).getD k 0) x ds.length = -1 := firstD_neg _ hall
    refine Ok.exit ?_
    refine Ok.seq ?_
    refine Ok.region ?_
    refine OkO.assign rfl rfl ?_
    refine OkO.nil ?_
    refine Ok.ret ⟨.inr rfl, ?_⟩
    exact back_flat rfl (by rw [es]; rfl) rfl (by rw [← hW]; exact hg)
end
end Go.Ev

