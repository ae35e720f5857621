/-
  Rules of the evaluator, more of them.
-/
import Derived.Test.YtibplmibcbillaaV21
import Derived.Test.YtibplmibcbillaaV17
set_option maxRecDepth 100000
set_option linter.unusedSimpArgs false
set_option linter.unusedVariables false
namespace Go.Ev
open Go Go.Proofs
noncomputable section
def askErr (cs : List Cell) (g : Gr) (ds : List Day) (cell level : Int) : Int :=
  if daysErr cs g ds = 0 then (if (inB cell 0 ((cs.length : Int) - 1) && inB level 0 100000) = true then 0 else 2) else daysErr cs g ds
/-- The first of so many at which `f` is at least `lv`, or -1. -/
def firstD (f : Nat → Int) (lv : Int) : Nat → Int
  | 0 => -1
  | n + 1 => if firstD f lv n = -1 then (if lv ≤ f n then (n : Int) else -1) else firstD f lv n
theorem firstD_lt {f : Nat → Int} {lv : Int} (n : Nat) : firstD f lv n = -1 ∨ (0 ≤ firstD f lv n ∧ firstD f lv n < n) := by
  induction n with
  | zero => exact .inl rfl
  | succ n ih => rw [firstD]; split <;> (try split) <;> omega
theorem firstD_neg {f : Nat → Int} {lv : Int} (n : Nat) (h : ∀ j, j < n → f j < lv) : firstD f lv n = -1 := by
  induction n with
  | zero => rfl
  | succ n ih => rw [firstD, if_pos (ih fun j hj => h j (by omega)), if_neg (by have := h n (by omega); omega)]
theorem firstD_of_neg {f : Nat → Int} {lv : Int} (n : Nat) (h : firstD f lv n = -1) : ∀ j, j < n → f j < lv := by
  induction n with
  | zero => intro j hj; omega
  | succ n ih =>
    intro j hj
    rw [firstD] at h
    split at h
    · rename_i h1
      split at h
      · omega
      · rcases Nat.lt_or_ge j n with h2 | h2
        · exact ih h1 j h2
        · have : j = n := by omega
          subst this; omega
    · exact absurd h (by assumption)
theorem firstD_keep {f : Nat → Int} {lv : Int} (n m : Nat) (hnm : n ≤ m) (h : ¬firstD f lv n = -1) : firstD f lv m = firstD f lv n := by
  induction m with
  | zero => have : n = 0 := by omega
            subst this; rfl
  | succ m ih =>
    rcases Nat.lt_or_ge m n with h2 | h2
    · have : n = m + 1 := by omega
      subst this; rfl
    · have := ih h2
      rw [firstD, if_neg (by rw [this]; exact h), this]
theorem firstD_at {f : Nat → Int} {lv : Int} (i n : Nat) (hi : i < n) (h : lv ≤ f i) (hb : ∀ j, j < i → f j < lv) : firstD f lv n = i := by
  have h1 : firstD f lv (i + 1) = i := by rw [firstD, if_pos (firstD_neg i hb), if_pos h]
  rw [firstD_keep (i + 1) n (by omega) (by rw [h1]; omega), h1]
theorem firstD_congr {f f' : Nat → Int} {lv : Int} (n : Nat) (h : ∀ j, j < n → f j = f' j) : firstD f lv n = firstD f' lv n := by
  induction n with
  | zero => rfl
  | succ n ih => rw [firstD, firstD, ih fun j hj => h j (by omega), h n (by omega)]
theorem firstD_le {f f' : Nat → Int} {lv : Int} (n : Nat) (h : ∀ j, j < n → f j ≤ f' j) : firstD f' lv n = -1 → firstD f lv n = -1 := fun h1 => firstD_neg n fun j hj => by have := firstD_of_neg n h1 j hj; have := h j hj; omega
theorem c31 (m : Nat) (cv dv : AV) (cs : List Cell) (g : Gr) (ds : List Day) (cell level : Int) (H : Heap) (hR : Row H cv 7 (cs.map Cell.c)) (hbig : cs.length ≤ 1000000) (hY : Row H dv 3 (ds.map Day.c)) (hbd : ds.length ≤ 1000000) : RR (m + 5) (.fn 31 [.agg [cv, I g.slo, I g.shi, I g.klo, I g.khi, I g.melt], dv, I cell, I level]) H = some (I (askErr cs g ds cell level), H) := by
  refine (R_fn _ _ _ _ _).trans ?_
  refine fn_ok Try.func31 rfl rfl (by kernel_rfl) (by kernel_rfl) ?_
  obtain ⟨W, hW⟩ : ∃ W : Heap, W = ⟨H.t, H.next, H.next⟩ := ⟨_, rfl⟩
  have hg : ∀ n, W.get n = H.get n := fun n => by rw [hW]; rfl
  have hN : W.next = H.next := by rw [hW]
  have hE : ∀ G, Grow W G → Ext H G := fun G g => ⟨by rw [← hN]; exact g.next, fun n k => by rw [g.get n (by rw [hN]; exact k), hg]⟩
  have hG : Grow W W := Grow.refl (by rw [hW]; exact Nat.le_refl _)
  rw [← hW]
  have hlc : lenOf cv = some cs.length := by simpa using hR.len
  have hld : lenOf dv = some ds.length := by simpa using hY.len
  have pc := lpl hlc
  refine Ok.seq ?_
  refine Ok.region ?_
  refine OkO.box rfl rfl ?_
  refine OkO.assign rfl rfl ?_
  refine OkO.nil ?_
  refine Ok.seq ?_
  refine Ok.seq ?_
  refine Ok.region ?_
  refine OkO.load rfl rfl (ldg (n := 6) (by kernel_rfl) (by first | assumption | (simp (disch := first | omega | (simp only [hNw, hPt]; omega)) only [gn0, gn1, gn2, gn3, gn4, gn5, gp0, gno, gpo] <;> first | rfl | assumption)) (by first | rfl | assumption)) ?_
  refine OkO.move rfl rfl ?_
  refine OkO.callV rfl rfl rfl rfl rfl (c24 m cv dv cs g ds _ (hR.ext (hE _ (by (try dsimp only); repeat (first | exact hG | apply Grow.new | (refine Grow.put ?_ _ (by first | omega | (simp only [hNw, hPt]; omega))))))) (by omega) (hY.ext (hE _ (by (try dsimp only); repeat (first | exact hG | apply Grow.new | (refine Grow.put ?_ _ (by first | omega | (simp only [hNw, hPt]; omega))))))) (by omega)) ?_ -- "sackung/sackunglaw02.fault"
  refine OkO.assign rfl rfl ?_
  refine OkO.nil ?_
  refine Ok.seq ?_
  refine Ok.region ?_
  refine OkO.move rfl rfl ?_
  refine OkO.bin rfl rfl rfl (bin_neq _ _) ?_
  refine OkO.nil ?_
  refine Ok.cond rfl (fun h1 => ?_) (fun h1 => ?_)
  · -- yes h1
    have hde : ¬daysErr cs g ds = 0 := by simpa using h1
    refine Ok.seq ?_
    refine Ok.region ?_
    refine OkO.move rfl rfl ?_
    refine OkO.assign rfl rfl ?_
    refine OkO.nil ?_
    refine Ok.ret ⟨.inr rfl, ?_⟩
    exact back_flat rfl (by unfold askErr; rw [if_neg hde]; rfl) rfl (by rw [← hW]; exact (by (try dsimp only); repeat (first | exact hG | apply Grow.new | (refine Grow.put ?_ _ (by first | omega | (simp only [hNw, hPt]; omega))))))
  · -- no h1
    have hde : daysErr cs g ds = 0 := by simpa using h1
    refine Ok.skip ?_
    refine Ok.seq ?_
    refine Ok.seq ?_
    refine Ok.region ?_
    refine OkO.move rfl rfl ?_
    refine OkO.fieldAddr (o := 0) rfl (by kernel_rfl) rfl ?_
    refine OkO.load rfl rfl (lda (n := 1) (by kernel_rfl) (by first | assumption | (simp (disch := first | omega | (simp only [hNw, hPt]; omega)) only [gn0, gn1, gn2, gn3, gn4, gn5, gp0, gno, gpo] <;> first | rfl | assumption)) (by first | rfl | assumption)) ?_
    refine OkO.builtin rfl rfl rfl (bln (by kernel_rfl) (by first | assumption | rfl)) ?_
    refine OkO.bin rfl rfl rfl (bin_sub (by omega) (by omega)) ?_
    refine OkO.callV rfl rfl rfl rfl rfl (c37 _ _ _ _ _) ?_ -- "sackung/sackungref02.In"
    refine OkO.un rfl rfl rfl ?_
    refine OkO.move rfl rfl ?_
    refine OkO.split (d := 23) rfl (fun g2 => ?_) (fun g2 => ?_)
    · -- true g2
      have hin : inB cell 0 ((cs.length : Int) - 1) = false := by simpa using g2
      refine OkO.skip rfl ?_
      refine OkO.skip rfl ?_
      refine OkO.skip rfl ?_
      refine OkO.pick (b := true) rfl rfl (fun _ => rfl) nofun ?_
      refine OkO.nil ?_
      refine Ok.condT rfl ?_
      refine Ok.seq ?_
      refine Ok.region ?_
      refine OkO.assign rfl rfl ?_
      refine OkO.nil ?_
      refine Ok.ret ⟨.inr rfl, ?_⟩
      exact back_flat rfl (by unfold askErr; rw [if_pos hde, hin]; rfl) rfl (by rw [← hW]; exact (by (try dsimp only); repeat (first | exact hG | apply Grow.new | (refine Grow.put ?_ _ (by first | omega | (simp only [hNw, hPt]; omega))))))
    · -- false g2
      have hin : inB cell 0 ((cs.length : Int) - 1) = true := by simpa using g2
      refine OkO.move rfl rfl ?_
      refine OkO.callV rfl rfl rfl rfl rfl (c37 _ _ _ _ _) ?_ -- "sackung/sackungref02.In"
      refine OkO.un rfl rfl rfl ?_
      refine OkO.pick (b := false) rfl rfl nofun (fun _ => rfl) ?_
      refine OkO.nil ?_
      refine Ok.cond rfl (fun h3 => ?_) (fun h3 => ?_)
      · -- yes h3
        have hin2 : inB level 0 100000 = false := by simpa using h3
        refine Ok.seq ?_
        refine Ok.region ?_
        refine OkO.assign rfl rfl ?_
        refine OkO.nil ?_
        refine Ok.ret ⟨.inr rfl, ?_⟩
        exact back_flat rfl (by unfold askErr; rw [if_pos hde, hin, hin2]; rfl) rfl (by rw [← hW]; exact (by (try dsimp only); repeat (first | exact hG | apply Grow.new | (refine Grow.put ?_ _ (by first | omega | (simp only [hNw, hPt]; omega))))))
      · -- no h3
        have hin2 : inB level 0 100000 = true := by simpa using h3
        refine Ok.skip ?_
        refine Ok.seq ?_
        refine Ok.region ?_
        refine OkO.assign rfl rfl ?_
        refine OkO.nil ?_
        refine Ok.ret ⟨.inr rfl, ?_⟩
        exact back_flat rfl (by unfold askErr; rw [if_pos hde, hin, hin2]; rfl) rfl (by rw [← hW]; exact (by (try dsimp only); repeat (first | exact hG | apply Grow.new | (refine Grow.put ?_ _ (by first | omega | (simp only [hNw, hPt]; omega))))))
theorem c62 (m : Nat) (cv dv : AV) (cs : List Cell) (g : Gr) (ds : List Day) (cell level : Int) (H : Heap) (hR : Row H cv 7 (cs.map Cell.c)) (hbig : cs.length ≤ 1000000) (hY : Row H dv 3 (ds.map Day.c)) (hbd : ds.length ≤ 1000000) : RR (m + 7) (.fn 62 [.agg [cv, I g.slo, I g.shi, I g.klo, I g.khi, I g.melt], dv, I cell, I level]) H = some (I (askErr cs g ds cell level), H) := by
  refine (R_fn _ _ _ _ _).trans ?_
  refine fn_ok Try.func62 rfl rfl (by kernel_rfl) (by kernel_rfl) ?_
  obtain ⟨W, hW⟩ : ∃ W : Heap, W = ⟨H.t, H.next, H.next⟩ := ⟨_, rfl⟩
  have hg : ∀ n, W.get n = H.get n := fun n => by rw [hW]; rfl
  have hN : W.next = H.next := by rw [hW]
  have hE : ∀ G, Grow W G → Ext H G := fun G g => ⟨by rw [← hN]; exact g.next, fun n k => by rw [g.get n (by rw [hN]; exact k), hg]⟩
  have hG : Grow W W := Grow.refl (by rw [hW]; exact Nat.le_refl _)
  rw [← hW]
  have hlc : lenOf cv = some cs.length := by simpa using hR.len
  have hld : lenOf dv = some ds.length := by simpa using hY.len
  have pc := lpl hlc
  refine Ok.seq ?_
  refine Ok.region ?_
  refine OkO.box rfl rfl ?_
  refine OkO.assign rfl rfl ?_
  refine OkO.nil ?_
  refine Ok.seq ?_
  refine Ok.seq ?_
  refine Ok.region ?_
  refine OkO.load rfl rfl (ldg (n := 6) (by kernel_rfl) (by first | assumption | (simp (disch := first | omega | (simp only [hNw, hPt]; omega)) only [gn0, gn1, gn2, gn3, gn4, gn5, gp0, gno, gpo] <;> first | rfl | assumption)) (by first | rfl | assumption)) ?_
  refine OkO.move rfl rfl ?_
  refine OkO.callV rfl rfl rfl rfl rfl (c60 m cv dv cs g ds _ (hR.ext (hE _ (by (try dsimp only); repeat (first | exact hG | apply Grow.new | (refine Grow.put ?_ _ (by first | omega | (simp only [hNw, hPt]; omega))))))) (by omega) (hY.ext (hE _ (by (try dsimp only); repeat (first | exact hG | apply Grow.new | (refine Grow.put ?_ _ (by first | omega | (simp only [hNw, hPt]; omega))))))) (by omega)) ?_ -- "sackung/water.checkDays"
  refine OkO.assign rfl rfl ?_
  refine OkO.nil ?_
  refine Ok.seq ?_
  refine Ok.region ?_
  refine OkO.move rfl rfl ?_
  refine OkO.bin rfl rfl rfl (bin_neq _ _) ?_
  refine OkO.nil ?_
  refine Ok.cond rfl (fun h1 => ?_) (fun h1 => ?_)
  · -- yes h1
    have hde : ¬daysErr cs g ds = 0 := by simpa using h1
    refine Ok.seq ?_
    refine Ok.region ?_
    refine OkO.move rfl rfl ?_
    refine OkO.assign rfl rfl ?_
    refine OkO.nil ?_
    refine Ok.ret ⟨.inr rfl, ?_⟩
    exact back_flat rfl (by unfold askErr; rw [if_neg hde]; rfl) rfl (by rw [← hW]; exact (by (try dsimp only); repeat (first | exact hG | apply Grow.new | (refine Grow.put ?_ _ (by first | omega | (simp only [hNw, hPt]; omega))))))
  · -- no h1
    have hde : daysErr cs g ds = 0 := by simpa using h1
    refine Ok.skip ?_
    refine Ok.seq ?_
    refine Ok.seq ?_
    refine Ok.region ?_
    refine OkO.fieldAddr (o := 0) rfl (by kernel_rfl) rfl ?_
    refine OkO.load rfl rfl (lda (n := 1) (by kernel_rfl) (by first | assumption | (simp (disch := first | omega | (simp only [hNw, hPt]; omega)) only [gn0, gn1, gn2, gn3, gn4, gn5, gp0, gno, gpo] <;> first | rfl | assumption)) (by first | rfl | assumption)) ?_
    refine OkO.callV rfl rfl rfl rfl rfl (c74 _ cv cs.length _ hlc (by omega)) ?_ -- "sackung/water.indexes[sackung/water.Cell]"
    refine OkO.move rfl rfl ?_
    refine OkO.callV rfl rfl rfl rfl rfl (c71 _ _ _ _ _) ?_ -- "(sackung/water.Range).has"
    refine OkO.un rfl rfl rfl ?_
    refine OkO.move rfl rfl ?_
    refine OkO.split (d := 22) rfl (fun g2 => ?_) (fun g2 => ?_)
    · -- true g2
      have hin : inB cell 0 ((cs.length : Int) - 1) = false := by simpa using g2
      refine OkO.skip rfl ?_
      refine OkO.skip rfl ?_
      refine OkO.skip rfl ?_
      refine OkO.skip rfl ?_
      refine OkO.pick (b := true) rfl rfl (fun _ => rfl) nofun ?_
      refine OkO.nil ?_
      refine Ok.condT rfl ?_
      refine Ok.seq ?_
      refine Ok.region ?_
      refine OkO.assign rfl rfl ?_
      refine OkO.nil ?_
      refine Ok.ret ⟨.inr rfl, ?_⟩
      exact back_flat rfl (by unfold askErr; rw [if_pos hde, hin]; rfl) rfl (by rw [← hW]; exact (by (try dsimp only); repeat (first | exact hG | apply Grow.new | (refine Grow.put ?_ _ (by first | omega | (simp only [hNw, hPt]; omega))))))
    · -- false g2
      have hin : inB cell 0 ((cs.length : Int) - 1) = true := by simpa using g2
      refine OkO.build (z := [.int .i64 0, .int .i64 0]) (pl := [(0, 1), (1, 1)]) rfl (by kernel_rfl) rfl rfl ?_
      refine OkO.move rfl rfl ?_
      refine OkO.callV rfl rfl rfl rfl rfl (c71 _ _ _ _ _) ?_ -- "(sackung/water.Range).has"
      refine OkO.un rfl rfl rfl ?_
      refine OkO.pick (b := false) rfl rfl nofun (fun _ => rfl) ?_
      refine OkO.nil ?_
      refine Ok.cond rfl (fun h3 => ?_) (fun h3 => ?_)
      · -- yes h3
        have hin2 : inB level 0 100000 = false := by simpa using h3
        refine Ok.seq ?_
        refine Ok.region ?_
        refine OkO.assign rfl rfl ?_
        refine OkO.nil ?_
        refine Ok.ret ⟨.inr rfl, ?_⟩
        exact back_flat rfl (by unfold askErr; rw [if_pos hde, hin, hin2]; rfl) rfl (by rw [← hW]; exact (by (try dsimp only); repeat (first | exact hG | apply Grow.new | (refine Grow.put ?_ _ (by first | omega | (simp only [hNw, hPt]; omega))))))
      · -- no h3
        have hin2 : inB level 0 100000 = true := by simpa using h3
        refine Ok.skip ?_
        refine Ok.seq ?_
        refine Ok.region ?_
        refine OkO.assign rfl rfl ?_
        refine OkO.nil ?_
        refine Ok.ret ⟨.inr rfl, ?_⟩
        exact back_flat rfl (by unfold askErr; rw [if_pos hde, hin, hin2]; rfl) rfl (by rw [← hW]; exact (by (try dsimp only); repeat (first | exact hG | apply Grow.new | (refine Grow.put ?_ _ (by first | omega | (simp only [hNw, hPt]; omega))))))
end
end Go.Ev

set_option maxRecDepth 100000
set_option linter.unusedSimpArgs false
set_option linter.unusedVariables false
namespace Go.Ev
open Go Go.Proofs
noncomputable section
theorem c62w (m : Nat) (cv dv : AV) (cs : List Cell) (g : Gr) (ds : List Day) (cell level : Int) (H : Heap) (hR : Row H cv 7 (cs.map Cell.c)) (hbig : cs.length ≤ 1000000) (hY : Row H dv 3 (ds.map Day.c)) (hbd : ds.length ≤ 1000000) {e : Int} (hk : askErr cs g ds cell level = e) : RR (m + 7) (.fn 62 [.agg [cv, I g.slo, I g.shi, I g.klo, I g.khi, I g.melt], dv, I cell, I level]) H = some (I e, H) := by
  have e1 := c62 m cv dv cs g ds cell level H hR hbig hY hbd
  rw [hk] at e1
  exact e1
theorem c31w (m : Nat) (cv dv : AV) (cs : List Cell) (g : Gr) (ds : List Day) (cell level : Int) (H : Heap) (hR : Row H cv 7 (cs.map Cell.c)) (hbig : cs.length ≤ 1000000) (hY : Row H dv 3 (ds.map Day.c)) (hbd : ds.length ≤ 1000000) {e : Int} (hk : askErr cs g ds cell level = e) : RR (m + 5) (.fn 31 [.agg [cv, I g.slo, I g.shi, I g.klo, I g.khi, I g.melt], dv, I cell, I level]) H = some (I e, H) := by
  have e1 := c31 m cv dv cs g ds cell level H hR hbig hY hbd
  rw [hk] at e1
  exact e1
theorem ask_ok {cs : List Cell} {g : Gr} {ds : List Day} {cell level : Int} (h : askErr cs g ds cell level = 0) : daysErr cs g ds = 0 ∧ (∃ k : Nat, cell = (k : Int) ∧ k < cs.length) ∧ 0 ≤ level ∧ level ≤ 100000 := by
  unfold askErr at h
  split at h
  · rename_i h0
    split at h
    · rename_i h1
      simp only [inB, Bool.and_eq_true, decide_eq_true_eq] at h1
      exact ⟨h0, ⟨cell.toNat, by omega, by omega⟩, by omega, by omega⟩
    · omega
  · exact absurd h (by assumption)
end
end Go.Ev

set_option maxRecDepth 100000
set_option linter.unusedSimpArgs false
set_option linter.unusedVariables false
namespace Go.Ev
open Go Go.Proofs
noncomputable section
section
open Go.ChangeShapes Go.WideShapes Go.RowKit
variable {H0 : Type} {enc : TypeId × Value → H0} {w : World} {base : Nat} {sp : Nat → Bool} {hd : Bool}
/-- A number at hand. -/
theorem int_arg {H : Heap} (hs : Snap w H) {v : Value} {d : DataW H0} {p : List MemPlace} (hv : ∃ n, v = .int .i64 n) (h : DataW.Trod enc Try.prog w base sp hd 3 v d p) : ∃ x : Int, argAV w.heap.size v = I x := by
  obtain ⟨n, rfl⟩ := hv
  exact ⟨n, rfl⟩
end
end
end Go.Ev

