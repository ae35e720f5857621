/-
  Functions of the program, reckoned by the evaluator: what each answers, and that it leaves what came in as it was (part 1).
-/
import Derived.Test.YtibplmibcbillaaEvX3
import Derived.KernelRfl
import Derived.Test.YtibplmibcbillaaProg
set_option maxRecDepth 100000
set_option linter.unusedSimpArgs false
set_option linter.unusedVariables false
namespace Go.Ev
open Go Go.Proofs
noncomputable section
abbrev I (n : Int) : AV := .int .i64 n
/-- Is a number from lo to hi? -/
def inB (a lo hi : Int) : Bool := decide (lo ≤ a) && decide (a ≤ hi)
/-- Is a range one from 0 to most? -/
def okR (lo hi most : Int) : Bool := decide (0 ≤ lo) && decide (lo ≤ hi) && decide (hi ≤ most)
def RR (m : Nat) : Rec := runO Try.prog (closedO 17 (.bool true)) m
theorem R_fn (m : Nat) (f : FuncId) (a : AV) (l : List AV) (H : Heap) : RR (m + 1) (.fn f (a :: l)) H = evFn Try.prog (RR m) f (a :: l) H := rfl
theorem R_round (m : Nat) (l : Nat) (xs : List AV) (H : Heap) : RR (m + 1) (.round l xs) H = evRound Try.prog (RR m) l xs H := rfl
structure Cell where (lo hi cap keep pass to pump : Int)
def Cell.c (x : Cell) : List AV := [I x.lo, I x.hi, I x.cap, I x.keep, I x.pass, I x.to, I x.pump]
def Cell.ok (x : Cell) : Bool := inB x.cap 1 100000 && okR x.lo x.hi x.cap && inB x.keep 0 x.cap && inB x.pass 0 1000 && inB x.pump 0 100000
structure Day where (lo hi warm : Int)
def Day.c (x : Day) : List AV := [I x.lo, I x.hi, I x.warm]
def Day.ok (x : Day) : Bool := okR x.lo x.hi 1000 && inB x.warm (-50) 50
structure Gr where (slo shi klo khi melt : Int)
structure Tru where (snow soak : Int)
abbrev Ints (H : Heap) (v : AV) (us : List Int) : Prop := Row H v 1 (us.map fun n => [I n])
theorem c37 (m : Nat) (a lo hi : Int) (H : Heap)  : RR (m + 1) (.fn 37 [I a, I lo, I hi]) H = some (.bool (inB a lo hi), H) := by
  refine (R_fn _ _ _ _ _).trans ?_
  refine fn_ok Try.func37 rfl rfl (by kernel_rfl) (by kernel_rfl) ?_
  obtain ⟨W, hW⟩ : ∃ W : Heap, W = ⟨H.t, H.next, H.next⟩ := ⟨_, rfl⟩
  have hg : ∀ n, W.get n = H.get n := fun n => by rw [hW]; rfl
  have hN : W.next = H.next := by rw [hW]
  have hE : ∀ G, Grow W G → Ext H G := fun G g => ⟨by rw [← hN]; exact g.next, fun n k => by rw [g.get n (by rw [hN]; exact k), hg]⟩
  have hG : Grow W W := Grow.refl (by rw [hW]; exact Nat.le_refl _)
  rw [← hW]
  refine Ok.seq ?_
  refine Ok.region ?_
  refine OkO.assign rfl rfl ?_
  refine OkO.nil ?_
  refine Ok.seq ?_
  refine Ok.region ?_
  refine OkO.move rfl rfl ?_
  refine OkO.move rfl rfl ?_
  refine OkO.bin rfl rfl rfl (bin_geq _ _) ?_
  refine OkO.move rfl rfl ?_
  refine OkO.split (d := 10) rfl (fun g1 => ?_) (fun g1 => ?_)
  · -- true g1
    refine OkO.move rfl rfl ?_
    refine OkO.move rfl rfl ?_
    refine OkO.bin rfl rfl rfl (bin_leq _ _) ?_
    refine OkO.pick (b := true) rfl rfl (fun _ => rfl) nofun ?_
    refine OkO.assign rfl rfl ?_
    refine OkO.nil ?_
    refine Ok.ret ⟨.inr rfl, ?_⟩
    exact back_flat rfl (by first | rfl | exact congrArg AV.bool (by clear hg hN hG hE; first | (simp_all [inB]; done) | (rw [Bool.eq_iff_iff]; simp [inB] at *; omega))) rfl (by rw [← hW]; exact (by (try dsimp only); repeat (first | exact hG | apply Grow.new | (refine Grow.put ?_ _ (by first | omega | (simp only [hNw, hPt]; omega))))))
  · -- false g1
    refine OkO.skip rfl ?_
    refine OkO.skip rfl ?_
    refine OkO.skip rfl ?_
    refine OkO.pick (b := false) rfl rfl nofun (fun _ => rfl) ?_
    refine OkO.assign rfl rfl ?_
    refine OkO.nil ?_
    refine Ok.ret ⟨.inr rfl, ?_⟩
    exact back_flat rfl (by first | rfl | exact congrArg AV.bool (by clear hg hN hG hE; first | (simp_all [inB]; done) | (rw [Bool.eq_iff_iff]; simp [inB] at *; omega))) rfl (by rw [← hW]; exact (by (try dsimp only); repeat (first | exact hG | apply Grow.new | (refine Grow.put ?_ _ (by first | omega | (simp only [hNw, hPt]; omega))))))
theorem c57 (m : Nat) (a b x : Int) (H : Heap)  : RR (m + 1) (.fn 57 [.agg [I a, I b], I x]) H = some (.bool (okR a b x), H) := by
  refine (R_fn _ _ _ _ _).trans ?_
  refine fn_ok Try.func57 rfl rfl (by kernel_rfl) (by kernel_rfl) ?_
  obtain ⟨W, hW⟩ : ∃ W : Heap, W = ⟨H.t, H.next, H.next⟩ := ⟨_, rfl⟩
  have hg : ∀ n, W.get n = H.get n := fun n => by rw [hW]; rfl
  have hN : W.next = H.next := by rw [hW]
  have hE : ∀ G, Grow W G → Ext H G := fun G g => ⟨by rw [← hN]; exact g.next, fun n k => by rw [g.get n (by rw [hN]; exact k), hg]⟩
  have hG : Grow W W := Grow.refl (by rw [hW]; exact Nat.le_refl _)
  rw [← hW]
  refine Ok.seq ?_
  refine Ok.region ?_
  refine OkO.box rfl rfl ?_
  refine OkO.assign rfl rfl ?_
  refine OkO.nil ?_
  refine Ok.seq ?_
  refine Ok.region ?_
  refine OkO.fieldAddr (o := 0) rfl (by kernel_rfl) rfl ?_
  refine OkO.load rfl rfl (lda (n := 1) (by kernel_rfl) (by first | assumption | (simp (disch := first | omega | (simp only [hNw, hPt]; omega)) only [gn0, gn1, gn2, gn3, gn4, gn5, gp0, gno, gpo] <;> first | rfl | assumption)) (by first | rfl | assumption)) ?_
  refine OkO.bin rfl rfl rfl (bin_geq _ _) ?_
  refine OkO.move rfl rfl ?_
  refine OkO.split (d := 8) rfl (fun g1 => ?_) (fun g1 => ?_)
  · -- true g1
    refine OkO.fieldAddr (o := 0) rfl (by kernel_rfl) rfl ?_
    refine OkO.load rfl rfl (lda (n := 1) (by kernel_rfl) (by first | assumption | (simp (disch := first | omega | (simp only [hNw, hPt]; omega)) only [gn0, gn1, gn2, gn3, gn4, gn5, gp0, gno, gpo] <;> first | rfl | assumption)) (by first | rfl | assumption)) ?_
    refine OkO.fieldAddr (o := 1) rfl (by kernel_rfl) rfl ?_
    refine OkO.load rfl rfl (lda (n := 1) (by kernel_rfl) (by first | assumption | (simp (disch := first | omega | (simp only [hNw, hPt]; omega)) only [gn0, gn1, gn2, gn3, gn4, gn5, gp0, gno, gpo] <;> first | rfl | assumption)) (by first | rfl | assumption)) ?_
    refine OkO.bin rfl rfl rfl (bin_leq _ _) ?_
    refine OkO.pick (b := true) rfl rfl (fun _ => rfl) nofun ?_
    refine OkO.move rfl rfl ?_
    refine OkO.split (d := 15) rfl (fun g2 => ?_) (fun g2 => ?_)
    · -- true g2
      refine OkO.fieldAddr (o := 1) rfl (by kernel_rfl) rfl ?_
      refine OkO.load rfl rfl (lda (n := 1) (by kernel_rfl) (by first | assumption | (simp (disch := first | omega | (simp only [hNw, hPt]; omega)) only [gn0, gn1, gn2, gn3, gn4, gn5, gp0, gno, gpo] <;> first | rfl | assumption)) (by first | rfl | assumption)) ?_
      refine OkO.move rfl rfl ?_
      refine OkO.bin rfl rfl rfl (bin_leq _ _) ?_
      refine OkO.pick (b := true) rfl rfl (fun _ => rfl) nofun ?_
      refine OkO.assign rfl rfl ?_
      refine OkO.nil ?_
      refine Ok.ret ⟨.inr rfl, ?_⟩
      exact back_flat rfl (by first | rfl | exact congrArg AV.bool (by clear hg hN hG hE; first | (simp_all [okR]; done) | (rw [Bool.eq_iff_iff]; simp [okR] at *; omega))) rfl (by rw [← hW]; exact (by (try dsimp only); repeat (first | exact hG | apply Grow.new | (refine Grow.put ?_ _ (by first | omega | (simp only [hNw, hPt]; omega))))))
    · -- false g2
      refine OkO.skip rfl ?_
      refine OkO.skip rfl ?_
      refine OkO.skip rfl ?_
      refine OkO.skip rfl ?_
      refine OkO.pick (b := false) rfl rfl nofun (fun _ => rfl) ?_
      refine OkO.assign rfl rfl ?_
      refine OkO.nil ?_
      refine Ok.ret ⟨.inr rfl, ?_⟩
      exact back_flat rfl (by first | rfl | exact congrArg AV.bool (by clear hg hN hG hE; first | (simp_all [okR]; done) | (rw [Bool.eq_iff_iff]; simp [okR] at *; omega))) rfl (by rw [← hW]; exact (by (try dsimp only); repeat (first | exact hG | apply Grow.new | (refine Grow.put ?_ _ (by first | omega | (simp only [hNw, hPt]; omega))))))
  · -- false g1
    refine OkO.skip rfl ?_
    refine OkO.skip rfl ?_
    refine OkO.skip rfl ?_
    refine OkO.skip rfl ?_
    refine OkO.skip rfl ?_
    refine OkO.pick (b := false) rfl rfl nofun (fun _ => rfl) ?_
    refine OkO.move rfl rfl ?_
    refine OkO.skip rfl ?_
    refine OkO.skip rfl ?_
    refine OkO.skip rfl ?_
    refine OkO.skip rfl ?_
    refine OkO.pick (b := false) rfl rfl nofun (fun _ => rfl) ?_
    refine OkO.assign rfl rfl ?_
    refine OkO.nil ?_
    refine Ok.ret ⟨.inr rfl, ?_⟩
    exact back_flat rfl (by first | rfl | exact congrArg AV.bool (by clear hg hN hG hE; first | (simp_all [okR]; done) | (rw [Bool.eq_iff_iff]; simp [okR] at *; omega))) rfl (by rw [← hW]; exact (by (try dsimp only); repeat (first | exact hG | apply Grow.new | (refine Grow.put ?_ _ (by first | omega | (simp only [hNw, hPt]; omega))))))
theorem c59 (m : Nat) (a b x : Int) (H : Heap)  : RR (m + 2) (.fn 59 [.agg [I a, I b], I x]) H = some (.bool (inB x a b), H) := by
  refine (R_fn _ _ _ _ _).trans ?_
  refine fn_ok Try.func59 rfl rfl (by kernel_rfl) (by kernel_rfl) ?_
  obtain ⟨W, hW⟩ : ∃ W : Heap, W = ⟨H.t, H.next, H.next⟩ := ⟨_, rfl⟩
  have hg : ∀ n, W.get n = H.get n := fun n => by rw [hW]; rfl
  have hN : W.next = H.next := by rw [hW]
  have hE : ∀ G, Grow W G → Ext H G := fun G g => ⟨by rw [← hN]; exact g.next, fun n k => by rw [g.get n (by rw [hN]; exact k), hg]⟩
  have hG : Grow W W := Grow.refl (by rw [hW]; exact Nat.le_refl _)
  rw [← hW]
  refine Ok.seq ?_
  refine Ok.region ?_
  refine OkO.box rfl rfl ?_
  refine OkO.assign rfl rfl ?_
  refine OkO.nil ?_
  refine Ok.seq ?_
  refine Ok.region ?_
  refine OkO.move rfl rfl ?_
  refine OkO.fieldAddr (o := 0) rfl (by kernel_rfl) rfl ?_
  refine OkO.load rfl rfl (lda (n := 1) (by kernel_rfl) (by first | assumption | (simp (disch := first | omega | (simp only [hNw, hPt]; omega)) only [gn0, gn1, gn2, gn3, gn4, gn5, gp0, gno, gpo] <;> first | rfl | assumption)) (by first | rfl | assumption)) ?_
  refine OkO.fieldAddr (o := 1) rfl (by kernel_rfl) rfl ?_
  refine OkO.load rfl rfl (lda (n := 1) (by kernel_rfl) (by first | assumption | (simp (disch := first | omega | (simp only [hNw, hPt]; omega)) only [gn0, gn1, gn2, gn3, gn4, gn5, gp0, gno, gpo] <;> first | rfl | assumption)) (by first | rfl | assumption)) ?_
  refine OkO.callV rfl rfl rfl rfl rfl (c37 _ _ _ _ _) ?_ -- "sackung/sackungref02.In"
  refine OkO.assign rfl rfl ?_
  refine OkO.nil ?_
  refine Ok.ret ⟨.inr rfl, ?_⟩
  exact back_flat rfl (by first | rfl | exact congrArg AV.bool (by clear hg hN hG hE; first | (simp_all [inB]; done) | (rw [Bool.eq_iff_iff]; simp [inB] at *; omega))) rfl (by rw [← hW]; exact (by (try dsimp only); repeat (first | exact hG | apply Grow.new | (refine Grow.put ?_ _ (by first | omega | (simp only [hNw, hPt]; omega))))))
theorem c71 (m : Nat) (a b x : Int) (H : Heap)  : RR (m + 1) (.fn 71 [.agg [I a, I b], I x]) H = some (.bool (inB x a b), H) := by
  refine (R_fn _ _ _ _ _).trans ?_
  refine fn_ok Try.func71 rfl rfl (by kernel_rfl) (by kernel_rfl) ?_
  obtain ⟨W, hW⟩ : ∃ W : Heap, W = ⟨H.t, H.next, H.next⟩ := ⟨_, rfl⟩
  have hg : ∀ n, W.get n = H.get n := fun n => by rw [hW]; rfl
  have hN : W.next = H.next := by rw [hW]
  have hE : ∀ G, Grow W G → Ext H G := fun G g => ⟨by rw [← hN]; exact g.next, fun n k => by rw [g.get n (by rw [hN]; exact k), hg]⟩
  have hG : Grow W W := Grow.refl (by rw [hW]; exact Nat.le_refl _)
  rw [← hW]
  refine Ok.seq ?_
  refine Ok.region ?_
  refine OkO.box rfl rfl ?_
  refine OkO.assign rfl rfl ?_
  refine OkO.nil ?_
  refine Ok.seq ?_
  refine Ok.region ?_
  refine OkO.fieldAddr (o := 0) rfl (by kernel_rfl) rfl ?_
  refine OkO.load rfl rfl (lda (n := 1) (by kernel_rfl) (by first | assumption | (simp (disch := first | omega | (simp only [hNw, hPt]; omega)) only [gn0, gn1, gn2, gn3, gn4, gn5, gp0, gno, gpo] <;> first | rfl | assumption)) (by first | rfl | assumption)) ?_
  refine OkO.move rfl rfl ?_
  refine OkO.bin rfl rfl rfl (bin_leq _ _) ?_
  refine OkO.move rfl rfl ?_
  refine OkO.split (d := 9) rfl (fun g1 => ?_) (fun g1 => ?_)
  · -- true g1
    refine OkO.move rfl rfl ?_
    refine OkO.fieldAddr (o := 1) rfl (by kernel_rfl) rfl ?_
    refine OkO.load rfl rfl (lda (n := 1) (by kernel_rfl) (by first | assumption | (simp (disch := first | omega | (simp only [hNw, hPt]; omega)) only [gn0, gn1, gn2, gn3, gn4, gn5, gp0, gno, gpo] <;> first | rfl | assumption)) (by first | rfl | assumption)) ?_
    refine OkO.bin rfl rfl rfl (bin_leq _ _) ?_
    refine OkO.pick (b := true) rfl rfl (fun _ => rfl) nofun ?_
    refine OkO.assign rfl rfl ?_
    refine OkO.nil ?_
    refine Ok.ret ⟨.inr rfl, ?_⟩
    exact back_flat rfl (by first | rfl | exact congrArg AV.bool (by clear hg hN hG hE; first | (simp_all [inB]; done) | (rw [Bool.eq_iff_iff]; simp [inB] at *; omega))) rfl (by rw [← hW]; exact (by (try dsimp only); repeat (first | exact hG | apply Grow.new | (refine Grow.put ?_ _ (by first | omega | (simp only [hNw, hPt]; omega))))))
  · -- false g1
    refine OkO.skip rfl ?_
    refine OkO.skip rfl ?_
    refine OkO.skip rfl ?_
    refine OkO.skip rfl ?_
    refine OkO.pick (b := false) rfl rfl nofun (fun _ => rfl) ?_
    refine OkO.assign rfl rfl ?_
    refine OkO.nil ?_
    refine Ok.ret ⟨.inr rfl, ?_⟩
    exact back_flat rfl (by first | rfl | exact congrArg AV.bool (by clear hg hN hG hE; first | (simp_all [inB]; done) | (rw [Bool.eq_iff_iff]; simp [inB] at *; omega))) rfl (by rw [← hW]; exact (by (try dsimp only); repeat (first | exact hG | apply Grow.new | (refine Grow.put ?_ _ (by first | omega | (simp only [hNw, hPt]; omega))))))
theorem c75 (m : Nat) (a b x : Int) (H : Heap)  : RR (m + 1) (.fn 75 [.agg [I a, I b], I x]) H = some (.bool (okR a b x), H) := by
  refine (R_fn _ _ _ _ _).trans ?_
  refine fn_ok Try.func75 rfl rfl (by kernel_rfl) (by kernel_rfl) ?_
  obtain ⟨W, hW⟩ : ∃ W : Heap, W = ⟨H.t, H.next, H.next⟩ := ⟨_, rfl⟩
  have hg : ∀ n, W.get n = H.get n := fun n => by rw [hW]; rfl
  have hN : W.next = H.next := by rw [hW]
  have hE : ∀ G, Grow W G → Ext H G := fun G g => ⟨by rw [← hN]; exact g.next, fun n k => by rw [g.get n (by rw [hN]; exact k), hg]⟩
  have hG : Grow W W := Grow.refl (by rw [hW]; exact Nat.le_refl _)
  rw [← hW]
  refine Ok.seq ?_
  refine Ok.region ?_
  refine OkO.box rfl rfl ?_
  refine OkO.assign rfl rfl ?_
  refine OkO.nil ?_
  refine Ok.seq ?_
  refine Ok.region ?_
  refine OkO.fieldAddr (o := 0) rfl (by kernel_rfl) rfl ?_
  refine OkO.load rfl rfl (lda (n := 1) (by kernel_rfl) (by first | assumption | (simp (disch := first | omega | (simp only [hNw, hPt]; omega)) only [gn0, gn1, gn2, gn3, gn4, gn5, gp0, gno, gpo] <;> first | rfl | assumption)) (by first | rfl | assumption)) ?_
  refine OkO.bin rfl rfl rfl (bin_leq _ _) ?_
  refine OkO.move rfl rfl ?_
  refine OkO.split (d := 8) rfl (fun g1 => ?_) (fun g1 => ?_)
  · -- true g1
    refine OkO.fieldAddr (o := 0) rfl (by kernel_rfl) rfl ?_
    refine OkO.load rfl rfl (lda (n := 1) (by kernel_rfl) (by first | assumption | (simp (disch := first | omega | (simp only [hNw, hPt]; omega)) only [gn0, gn1, gn2, gn3, gn4, gn5, gp0, gno, gpo] <;> first | rfl | assumption)) (by first | rfl | assumption)) ?_
    refine OkO.fieldAddr (o := 1) rfl (by kernel_rfl) rfl ?_
    refine OkO.load rfl rfl (lda (n := 1) (by kernel_rfl) (by first | assumption | (simp (disch := first | omega | (simp only [hNw, hPt]; omega)) only [gn0, gn1, gn2, gn3, gn4, gn5, gp0, gno, gpo] <;> first | rfl | assumption)) (by first | rfl | assumption)) ?_
    refine OkO.bin rfl rfl rfl (bin_leq _ _) ?_
    refine OkO.pick (b := true) rfl rfl (fun _ => rfl) nofun ?_
    refine OkO.move rfl rfl ?_
    refine OkO.split (d := 15) rfl (fun g2 => ?_) (fun g2 => ?_)
    · -- true g2
      refine OkO.fieldAddr (o := 1) rfl (by kernel_rfl) rfl ?_
      refine OkO.load rfl rfl (lda (n := 1) (by kernel_rfl) (by first | assumption | (simp (disch := first | omega | (simp only [hNw, hPt]; omega)) only [gn0, gn1, gn2, gn3, gn4, gn5, gp0, gno, gpo] <;> first | rfl | assumption)) (by first | rfl | assumption)) ?_
      refine OkO.move rfl rfl ?_
      refine OkO.bin rfl rfl rfl (bin_leq _ _) ?_
      refine OkO.pick (b := true) rfl rfl (fun _ => rfl) nofun ?_
      refine OkO.assign rfl rfl ?_
      refine OkO.nil ?_
      refine Ok.ret ⟨.inr rfl, ?_⟩
      exact back_flat rfl (by first | rfl | exact congrArg AV.bool (by clear hg hN hG hE; first | (simp_all [okR]; done) | (rw [Bool.eq_iff_iff]; simp [okR] at *; omega))) rfl (by rw [← hW]; exact (by (try dsimp only); repeat (first | exact hG | apply Grow.new | (refine Grow.put ?_ _ (by first | omega | (simp only [hNw, hPt]; omega))))))
    · -- false g2
      refine OkO.skip rfl ?_
      refine OkO.skip rfl ?_
      refine OkO.skip rfl ?_
      refine OkO.skip rfl ?_
      refine OkO.pick (b := false) rfl rfl nofun (fun _ => rfl) ?_
      refine OkO.assign rfl rfl ?_
      refine OkO.nil ?_
      refine Ok.ret ⟨.inr rfl, ?_⟩
      exact back_flat rfl (by first | rfl | exact congrArg AV.bool (by clear hg hN hG hE; first | (simp_all [okR]; done) | (rw [Bool.eq_iff_iff]; simp [okR] at *; omega))) rfl (by rw [← hW]; exact (by (try dsimp only); repeat (first | exact hG | apply Grow.new | (refine Grow.put ?_ _ (by first | omega | (simp only [hNw, hPt]; omega))))))
  · -- false g1
    refine OkO.skip rfl ?_
    refine OkO.skip rfl ?_
    refine OkO.skip rfl ?_
    refine OkO.skip rfl ?_
    refine OkO.skip rfl ?_
    refine OkO.pick (b := false) rfl rfl nofun (fun _ => rfl) ?_
    refine OkO.move rfl rfl ?_
    refine OkO.skip rfl ?_
    refine OkO.skip rfl ?_
    refine OkO.skip rfl ?_
    refine OkO.skip rfl ?_
    refine OkO.pick (b := false) rfl rfl nofun (fun _ => rfl) ?_
    refine OkO.assign rfl rfl ?_
    refine OkO.nil ?_
    refine Ok.ret ⟨.inr rfl, ?_⟩
    exact back_flat rfl (by first | rfl | exact congrArg AV.bool (by clear hg hN hG hE; first | (simp_all [okR]; done) | (rw [Bool.eq_iff_iff]; simp [okR] at *; omega))) rfl (by rw [← hW]; exact (by (try dsimp only); repeat (first | exact hG | apply Grow.new | (refine Grow.put ?_ _ (by first | omega | (simp only [hNw, hPt]; omega))))))
theorem c85 (m : Nat) (a b : Int) (H : Heap)  : RR (m + 1) (.fn 85 [.agg [I a, I b]]) H = some (I a, H) := by
  refine (R_fn _ _ _ _ _).trans ?_
  refine fn_ok Try.func85 rfl rfl (by kernel_rfl) (by kernel_rfl) ?_
  obtain ⟨W, hW⟩ : ∃ W : Heap, W = ⟨H.t, H.next, H.next⟩ := ⟨_, rfl⟩
  have hg : ∀ n, W.get n = H.get n := fun n => by rw [hW]; rfl
  have hN : W.next = H.next := by rw [hW]
  have hE : ∀ G, Grow W G → Ext H G := fun G g => ⟨by rw [← hN]; exact g.next, fun n k => by rw [g.get n (by rw [hN]; exact k), hg]⟩
  have hG : Grow W W := Grow.refl (by rw [hW]; exact Nat.le_refl _)
  rw [← hW]
  refine Ok.seq ?_
  refine Ok.region ?_
  refine OkO.box rfl rfl ?_
  refine OkO.assign rfl rfl ?_
  refine OkO.nil ?_
  refine Ok.seq ?_
  refine Ok.region ?_
  refine OkO.fieldAddr (o := 0) rfl (by kernel_rfl) rfl ?_
  refine OkO.load rfl rfl (lda (n := 1) (by kernel_rfl) (by first | assumption | (simp (disch := first | omega | (simp only [hNw, hPt]; omega)) only [gn0, gn1, gn2, gn3, gn4, gn5, gp0, gno, gpo] <;> first | rfl | assumption)) (by first | rfl | assumption)) ?_
  refine OkO.assign rfl rfl ?_
  refine OkO.nil ?_
  refine Ok.ret ⟨.inr rfl, ?_⟩
  exact back_flat rfl (by first | rfl | exact congrArg AV.bool (by clear hg hN hG hE; first | (simp_all; done) | (rw [Bool.eq_iff_iff]; simp at *; omega))) rfl (by rw [← hW]; exact (by (try dsimp only); repeat (first | exact hG | apply Grow.new | (refine Grow.put ?_ _ (by first | omega | (simp only [hNw, hPt]; omega))))))
theorem c87 (m : Nat) (a b : Int) (H : Heap)  : RR (m + 1) (.fn 87 [.agg [I a, I b]]) H = some (I b, H) := by
  refine (R_fn _ _ _ _ _).trans ?_
  refine fn_ok Try.func87 rfl rfl (by kernel_rfl) (by kernel_rfl) ?_
  obtain ⟨W, hW⟩ : ∃ W : Heap, W = ⟨H.t, H.next, H.next⟩ := ⟨_, rfl⟩
  have hg : ∀ n, W.get n = H.get n := fun n => by rw [hW]; rfl
  have hN : W.next = H.next := by rw [hW]
  have hE : ∀ G, Grow W G → Ext H G := fun G g => ⟨by rw [← hN]; exact g.next, fun n k => by rw [g.get n (by rw [hN]; exact k), hg]⟩
  have hG : Grow W W := Grow.refl (by rw [hW]; exact Nat.le_refl _)
  rw [← hW]
  refine Ok.seq ?_
  refine Ok.region ?_
  refine OkO.box rfl rfl ?_
  refine OkO.assign rfl rfl ?_
  refine OkO.nil ?_
  refine Ok.seq ?_
  refine Ok.region ?_
  refine OkO.fieldAddr (o := 1) rfl (by kernel_rfl) rfl ?_
  refine OkO.load rfl rfl (lda (n := 1) (by kernel_rfl) (by first | assumption | (simp (disch := first | omega | (simp only [hNw, hPt]; omega)) only [gn0, gn1, gn2, gn3, gn4, gn5, gp0, gno, gpo] <;> first | rfl | assumption)) (by first | rfl | assumption)) ?_
  refine OkO.assign rfl rfl ?_
  refine OkO.nil ?_
  refine Ok.ret ⟨.inr rfl, ?_⟩
  exact back_flat rfl (by first | rfl | exact congrArg AV.bool (by clear hg hN hG hE; first | (simp_all; done) | (rw [Bool.eq_iff_iff]; simp at *; omega))) rfl (by rw [← hW]; exact (by (try dsimp only); repeat (first | exact hG | apply Grow.new | (refine Grow.put ?_ _ (by first | omega | (simp only [hNw, hPt]; omega))))))
theorem c91 (m : Nat) (a b : Int) (H : Heap)  : RR (m + 1) (.fn 91 [.agg [I a, I b]]) H = some (.bool (decide (a = b)), H) := by
  refine (R_fn _ _ _ _ _).trans ?_
  refine fn_ok Try.func91 rfl rfl (by kernel_rfl) (by kernel_rfl) ?_
  obtain ⟨W, hW⟩ : ∃ W : Heap, W = ⟨H.t, H.next, H.next⟩ := ⟨_, rfl⟩
  have hg : ∀ n, W.get n = H.get n := fun n => by rw [hW]; rfl
  have hN : W.next = H.next := by rw [hW]
  have hE : ∀ G, Grow W G → Ext H G := fun G g => ⟨by rw [← hN]; exact g.next, fun n k => by rw [g.get n (by rw [hN]; exact k), hg]⟩
  have hG : Grow W W := Grow.refl (by rw [hW]; exact Nat.le_refl _)
  rw [← hW]
  refine Ok.seq ?_
  refine Ok.region ?_
  refine OkO.box rfl rfl ?_
  refine OkO.assign rfl rfl ?_
  refine OkO.nil ?_
  refine Ok.seq ?_
  refine Ok.region ?_
  refine OkO.fieldAddr (o := 0) rfl (by kernel_rfl) rfl ?_
  refine OkO.load rfl rfl (lda (n := 1) (by kernel_rfl) (by first | assumption | (simp (disch := first | omega | (simp only [hNw, hPt]; omega)) only [gn0, gn1, gn2, gn3, gn4, gn5, gp0, gno, gpo] <;> first | rfl | assumption)) (by first | rfl | assumption)) ?_
  refine OkO.fieldAddr (o := 1) rfl (by kernel_rfl) rfl ?_
  refine OkO.load rfl rfl (lda (n := 1) (by kernel_rfl) (by first | assumption | (simp (disch := first | omega | (simp only [hNw, hPt]; omega)) only [gn0, gn1, gn2, gn3, gn4, gn5, gp0, gno, gpo] <;> first | rfl | assumption)) (by first | rfl | assumption)) ?_
  refine OkO.bin rfl rfl rfl (bin_eql _ _) ?_
  refine OkO.assign rfl rfl ?_
  refine OkO.nil ?_
  refine Ok.ret ⟨.inr rfl, ?_⟩
  exact back_flat rfl (by first | rfl | exact congrArg AV.bool (by clear hg hN hG hE; first | (simp_all; done) | (rw [Bool.eq_iff_iff]; simp at *; omega))) rfl (by rw [← hW]; exact (by (try dsimp only); repeat (first | exact hG | apply Grow.new | (refine Grow.put ?_ _ (by first | omega | (simp only [hNw, hPt]; omega))))))
theorem c73 (m : Nat) (x : Cell) (H : Heap)  : RR (m + 2) (.fn 73 [.agg x.c]) H = some (.bool x.ok, H) := by
  refine (R_fn _ _ _ _ _).trans ?_
  refine fn_ok Try.func73 rfl rfl (by kernel_rfl) (by kernel_rfl) ?_
  obtain ⟨W, hW⟩ : ∃ W : Heap, W = ⟨H.t, H.next, H.next⟩ := ⟨_, rfl⟩
  have hg : ∀ n, W.get n = H.get n := fun n => by rw [hW]; rfl
  have hN : W.next = H.next := by rw [hW]
  have hE : ∀ G, Grow W G → Ext H G := fun G g => ⟨by rw [← hN]; exact g.next, fun n k => by rw [g.get n (by rw [hN]; exact k), hg]⟩
  have hG : Grow W W := Grow.refl (by rw [hW]; exact Nat.le_refl _)
  rw [← hW]
  refine Ok.seq ?_
  refine Ok.region ?_
  refine OkO.box rfl rfl ?_
  refine OkO.assign rfl rfl ?_
  refine OkO.nil ?_
  refine Ok.seq ?_
  refine Ok.region ?_
  refine OkO.build (z := [.int .i64 0, .int .i64 0]) (pl := [(0, 1), (1, 1)]) rfl (by kernel_rfl) rfl rfl ?_
  refine OkO.fieldAddr (o := 2) rfl (by kernel_rfl) rfl ?_
  refine OkO.load rfl rfl (lda (n := 1) (by kernel_rfl) (by first | assumption | (simp (disch := first | omega | (simp only [hNw, hPt]; omega)) only [gn0, gn1, gn2, gn3, gn4, gn5, gp0, gno, gpo] <;> first | rfl | assumption)) (by first | rfl | assumption)) ?_
  refine OkO.callV rfl rfl rfl rfl rfl (c71 _ _ _ _ _) ?_ -- "(sackung/water.Range).has"
  refine OkO.move rfl rfl ?_
  refine OkO.split (d := 7) rfl (fun g1 => ?_) (fun g1 => ?_)
  · -- true g1
    refine OkO.fieldAddr (o := 0) rfl (by kernel_rfl) rfl ?_
    refine OkO.load rfl rfl (ldg (n := 2) (by kernel_rfl) (by first | assumption | (simp (disch := first | omega | (simp only [hNw, hPt]; omega)) only [gn0, gn1, gn2, gn3, gn4, gn5, gp0, gno, gpo] <;> first | rfl | assumption)) (by first | rfl | assumption)) ?_
    refine OkO.fieldAddr (o := 2) rfl (by kernel_rfl) rfl ?_
    refine OkO.load rfl rfl (lda (n := 1) (by kernel_rfl) (by first | assumption | (simp (disch := first | omega | (simp only [hNw, hPt]; omega)) only [gn0, gn1, gn2, gn3, gn4, gn5, gp0, gno, gpo] <;> first | rfl | assumption)) (by first | rfl | assumption)) ?_
    refine OkO.callV rfl rfl rfl rfl rfl (c75 _ _ _ _ _) ?_ -- "(sackung/water.Range).within"
    refine OkO.pick (b := true) rfl rfl (fun _ => rfl) nofun ?_
    refine OkO.move rfl rfl ?_
    refine OkO.split (d := 14) rfl (fun g2 => ?_) (fun g2 => ?_)
    · -- true g2
      refine OkO.fieldAddr (o := 2) rfl (by kernel_rfl) rfl ?_
      refine OkO.load rfl rfl (lda (n := 1) (by kernel_rfl) (by first | assumption | (simp (disch := first | omega | (simp only [hNw, hPt]; omega)) only [gn0, gn1, gn2, gn3, gn4, gn5, gp0, gno, gpo] <;> first | rfl | assumption)) (by first | rfl | assumption)) ?_
      refine OkO.build (z := [.int .i64 0, .int .i64 0]) (pl := [(0, 1), (1, 1)]) rfl (by kernel_rfl) rfl rfl ?_
      refine OkO.fieldAddr (o := 3) rfl (by kernel_rfl) rfl ?_
      refine OkO.load rfl rfl (lda (n := 1) (by kernel_rfl) (by first | assumption | (simp (disch := first | omega | (simp only [hNw, hPt]; omega)) only [gn0, gn1, gn2, gn3, gn4, gn5, gp0, gno, gpo] <;> first | rfl | assumption)) (by first | rfl | assumption)) ?_
      refine OkO.callV rfl rfl rfl rfl rfl (c71 _ _ _ _ _) ?_ -- "(sackung/water.Range).has"
      refine OkO.pick (b := true) rfl rfl (fun _ => rfl) nofun ?_
      refine OkO.move rfl rfl ?_
      refine OkO.split (d := 22) rfl (fun g3 => ?_) (fun g3 => ?_)
      · -- true g3
        refine OkO.build (z := [.int .i64 0, .int .i64 0]) (pl := [(0, 1), (1, 1)]) rfl (by kernel_rfl) rfl rfl ?_
        refine OkO.fieldAddr (o := 4) rfl (by kernel_rfl) rfl ?_
        refine OkO.load rfl rfl (lda (n := 1) (by kernel_rfl) (by first | assumption | (simp (disch := first | omega | (simp only [hNw, hPt]; omega)) only [gn0, gn1, gn2, gn3, gn4, gn5, gp0, gno, gpo] <;> first | rfl | assumption)) (by first | rfl | assumption)) ?_
        refine OkO.callV rfl rfl rfl rfl rfl (c71 _ _ _ _ _) ?_ -- "(sackung/water.Range).has"
        refine OkO.pick (b := true) rfl rfl (fun _ => rfl) nofun ?_
        refine OkO.move rfl rfl ?_
        refine OkO.split (d := 28) rfl (fun g4 => ?_) (fun g4 => ?_)
        · -- true g4
          refine OkO.build (z := [.int .i64 0, .int .i64 0]) (pl := [(0, 1), (1, 1)]) rfl (by kernel_rfl) rfl rfl ?_
          refine OkO.fieldAddr (o := 6) rfl (by kernel_rfl) rfl ?_
          refine OkO.load rfl rfl (lda (n := 1) (by kernel_rfl) (by first | assumption | (simp (disch := first | omega | (simp only [hNw, hPt]; omega)) only [gn0, gn1, gn2, gn3, gn4, gn5, gp0, gno, gpo] <;> first | rfl | assumption)) (by first | rfl | assumption)) ?_
          refine OkO.callV rfl rfl rfl rfl rfl (c71 _ _ _ _ _) ?_ -- "(sackung/water.Range).has"
          refine OkO.pick (b := true) rfl rfl (fun _ => rfl) nofun ?_
          refine OkO.assign rfl rfl ?_
          refine OkO.nil ?_
          refine Ok.ret ⟨.inr rfl, ?_⟩
          exact back_flat rfl (by first | rfl | exact congrArg AV.bool (by clear hg hN hG hE; first | (simp_all [Cell.ok]; done) | (rw [Bool.eq_iff_iff]; simp [Cell.ok] at *; omega))) rfl (by rw [← hW]; exact (by (try dsimp only); repeat (first | exact hG | apply Grow.new | (refine Grow.put ?_ _ (by first | omega | (simp only [hNw, hPt]; omega))))))
        · -- false g4
          refine OkO.skip rfl ?_
          refine OkO.skip rfl ?_
          refine OkO.skip rfl ?_
          refine OkO.skip rfl ?_
          refine OkO.pick (b := false) rfl rfl nofun (fun _ => rfl) ?_
          refine OkO.assign rfl rfl ?_
          refine OkO.nil ?_
          refine Ok.ret ⟨.inr rfl, ?_⟩
          exact back_flat rfl (by first | rfl | exact congrArg AV.bool (by clear hg hN hG hE; first | (simp_all [Cell.ok]; done) | (rw [Bool.eq_iff_iff]; simp [Cell.ok] at *; omega))) rfl (by rw [← hW]; exact (by (try dsimp only); repeat (first | exact hG | apply Grow.new | (refine Grow.put ?_ _ (by first | omega | (simp only [hNw, hPt]; omega))))))
      · -- false g3
        refine OkO.skip rfl ?_
        refine OkO.skip rfl ?_
        refine OkO.skip rfl ?_
        refine OkO.skip rfl ?_
        refine OkO.pick (b := false) rfl rfl nofun (fun _ => rfl) ?_
        refine OkO.move rfl rfl ?_
        refine OkO.skip rfl ?_
        refine OkO.skip rfl ?_
        refine OkO.skip rfl ?_
        refine OkO.skip rfl ?_
        refine OkO.pick (b := false) rfl rfl nofun (fun _ => rfl) ?_
        refine OkO.assign rfl rfl ?_
        refine OkO.nil ?_
        refine Ok.ret ⟨.inr rfl, ?_⟩
        exact back_flat rfl (by first | rfl | exact congrArg AV.bool (by clear hg hN hG hE; first | (simp_all [Cell.ok]; done) | (rw [Bool.eq_iff_iff]; simp [Cell.ok] at *; omega))) rfl (by rw [← hW]; exact (by (try dsimp only); repeat (first | exact hG | apply Grow.new | (refine Grow.put ?_ _ (by first | omega | (simp only [hNw, hPt]; omega))))))
    · -- false g2
      refine OkO.skip rfl ?_
      refine OkO.skip rfl ?_
      refine OkO.skip rfl ?_
      refine OkO.skip rfl ?_
      refine OkO.skip rfl ?_
      refine OkO.skip rfl ?_
      refine OkO.pick (b := false) rfl rfl nofun (fun _ => rfl) ?_
      refine OkO.move rfl rfl ?_
      refine OkO.skip rfl ?_
      refine OkO.skip rfl ?_
      refine OkO.skip rfl ?_
      refine OkO.skip rfl ?_
      refine OkO.pick (b := false) rfl rfl nofun (fun _ => rfl) ?_
      refine OkO.move rfl rfl ?_
      refine OkO.skip rfl ?_
      refine OkO.skip rfl ?_
      refine OkO.skip rfl ?_
      refine OkO.skip rfl ?_
      refine OkO.pick (b := false) rfl rfl nofun (fun _ => rfl) ?_
      refine OkO.assign rfl rfl ?_
      refine OkO.nil ?_
      refine Ok.ret ⟨.inr rfl, ?_⟩
      exact back_flat rfl (by first | rfl | exact congrArg AV.bool (by clear hg hN hG hE; first | (simp_all [Cell.ok]; done) | (rw [Bool.eq_iff_iff]; simp [Cell.ok] at *; omega))) rfl (by rw [← hW]; exact (by (try dsimp only); repeat (first | exact hG | apply Grow.new | (refine Grow.put ?_ _ (by first | omega | (simp only [hNw, hPt]; omega))))))
  · -- false g1
    refine OkO.skip rfl ?_
    refine OkO.skip rfl ?_
    refine OkO.skip rfl ?_
    refine OkO.skip rfl ?_
    refine OkO.skip rfl ?_
    refine OkO.pick (b := false) rfl rfl nofun (fun _ => rfl) ?_
    refine OkO.move rfl rfl ?_
    refine OkO.skip rfl ?_
    refine OkO.skip rfl ?_
    refine OkO.skip rfl ?_
    refine OkO.skip rfl ?_
    refine OkO.skip rfl ?_
    refine OkO.skip rfl ?_
    refine OkO.pick (b := false) rfl rfl nofun (fun _ => rfl) ?_
    refine OkO.move rfl rfl ?_
    refine OkO.skip rfl ?_
    refine OkO.skip rfl ?_
    refine OkO.skip rfl ?_
    refine OkO.skip rfl ?_
    refine OkO.pick (b := false) rfl rfl nofun (fun _ => rfl) ?_
    refine OkO.move rfl rfl ?_
    refine OkO.skip rfl ?_
    refine OkO.skip rfl ?_
    refine OkO.skip rfl ?_
    refine OkO.skip rfl ?_
    refine OkO.pick (b := false) rfl rfl nofun (fun _ => rfl) ?_
    refine OkO.assign rfl rfl ?_
    refine OkO.nil ?_
    refine Ok.ret ⟨.inr rfl, ?_⟩
    exact back_flat rfl (by first | rfl | exact congrArg AV.bool (by clear hg hN hG hE; first | (simp_all [Cell.ok]; done) | (rw [Bool.eq_iff_iff]; simp [Cell.ok] at *; omega))) rfl (by rw [← hW]; exact (by (try dsimp only); repeat (first | exact hG | apply Grow.new | (refine Grow.put ?_ _ (by first | omega | (simp only [hNw, hPt]; omega))))))
theorem c84 (m : Nat) (x : Day) (H : Heap)  : RR (m + 2) (.fn 84 [.agg x.c]) H = some (.bool x.ok, H) := by
  refine (R_fn _ _ _ _ _).trans ?_
  refine fn_ok Try.func84 rfl rfl (by kernel_rfl) (by kernel_rfl) ?_
  obtain ⟨W, hW⟩ : ∃ W : Heap, W = ⟨H.t, H.next, H.next⟩ := ⟨_, rfl⟩
  have hg : ∀ n, W.get n = H.get n := fun n => by rw [hW]; rfl
  have hN : W.next = H.next := by rw [hW]
  have hE : ∀ G, Grow W G → Ext H G := fun G g => ⟨by rw [← hN]; exact g.next, fun n k => by rw [g.get n (by rw [hN]; exact k), hg]⟩
  have hG : Grow W W := Grow.refl (by rw [hW]; exact Nat.le_refl _)
  rw [← hW]
  refine Ok.seq ?_
  refine Ok.region ?_
  refine OkO.box rfl rfl ?_
  refine OkO.assign rfl rfl ?_
  refine OkO.nil ?_
  refine Ok.seq ?_
  refine Ok.region ?_
  refine OkO.fieldAddr (o := 0) rfl (by kernel_rfl) rfl ?_
  refine OkO.load rfl rfl (ldg (n := 2) (by kernel_rfl) (by first | assumption | (simp (disch := first | omega | (simp only [hNw, hPt]; omega)) only [gn0, gn1, gn2, gn3, gn4, gn5, gp0, gno, gpo] <;> first | rfl | assumption)) (by first | rfl | assumption)) ?_
  refine OkO.callV rfl rfl rfl rfl rfl (c75 _ _ _ _ _) ?_ -- "(sackung/water.Range).within"
  refine OkO.move rfl rfl ?_
  refine OkO.split (d := 6) rfl (fun g1 => ?_) (fun g1 => ?_)
  · -- true g1
    refine OkO.build (z := [.int .i64 0, .int .i64 0]) (pl := [(0, 1), (1, 1)]) rfl (by kernel_rfl) rfl rfl ?_
    refine OkO.fieldAddr (o := 2) rfl (by kernel_rfl) rfl ?_
    refine OkO.load rfl rfl (lda (n := 1) (by kernel_rfl) (by first | assumption | (simp (disch := first | omega | (simp only [hNw, hPt]; omega)) only [gn0, gn1, gn2, gn3, gn4, gn5, gp0, gno, gpo] <;> first | rfl | assumption)) (by first | rfl | assumption)) ?_
    refine OkO.callV rfl rfl rfl rfl rfl (c71 _ _ _ _ _) ?_ -- "(sackung/water.Range).has"
    refine OkO.pick (b := true) rfl rfl (fun _ => rfl) nofun ?_
    refine OkO.assign rfl rfl ?_
    refine OkO.nil ?_
    refine Ok.ret ⟨.inr rfl, ?_⟩
    exact back_flat rfl (by first | rfl | exact congrArg AV.bool (by clear hg hN hG hE; first | (simp_all [Day.ok]; done) | (rw [Bool.eq_iff_iff]; simp [Day.ok] at *; omega))) rfl (by rw [← hW]; exact (by (try dsimp only); repeat (first | exact hG | apply Grow.new | (refine Grow.put ?_ _ (by first | omega | (simp only [hNw, hPt]; omega))))))
  · -- false g1
    refine OkO.skip rfl ?_
    refine OkO.skip rfl ?_
    refine OkO.skip rfl ?_
    refine OkO.skip rfl ?_
    refine OkO.pick (b := false) rfl rfl nofun (fun _ => rfl) ?_
    refine OkO.assign rfl rfl ?_
    refine OkO.nil ?_
    refine Ok.ret ⟨.inr rfl, ?_⟩
    exact back_flat rfl (by first | rfl | exact congrArg AV.bool (by clear hg hN hG hE; first | (simp_all [Day.ok]; done) | (rw [Bool.eq_iff_iff]; simp [Day.ok] at *; omega))) rfl (by rw [← hW]; exact (by (try dsimp only); repeat (first | exact hG | apply Grow.new | (refine Grow.put ?_ _ (by first | omega | (simp only [hNw, hPt]; omega))))))
theorem c78 (m : Nat) (x : Cell) (H : Heap)  : RR (m + 1) (.fn 78 [.agg x.c]) H = some (.agg [I x.lo, I x.hi], H) := by
  refine (R_fn _ _ _ _ _).trans ?_
  refine fn_ok Try.func78 rfl rfl (by kernel_rfl) (by kernel_rfl) ?_
  obtain ⟨W, hW⟩ : ∃ W : Heap, W = ⟨H.t, H.next, H.next⟩ := ⟨_, rfl⟩
  have hg : ∀ n, W.get n = H.get n := fun n => by rw [hW]; rfl
  have hN : W.next = H.next := by rw [hW]
  have hE : ∀ G, Grow W G → Ext H G := fun G g => ⟨by rw [← hN]; exact g.next, fun n k => by rw [g.get n (by rw [hN]; exact k), hg]⟩
  have hG : Grow W W := Grow.refl (by rw [hW]; exact Nat.le_refl _)
  rw [← hW]
  refine Ok.seq ?_
  refine Ok.region ?_
  refine OkO.box rfl rfl ?_
  refine OkO.alloc (z := [.int .i64 0, .int .i64 0]) rfl (by kernel_rfl) ?_
  refine OkO.nil ?_
  refine Ok.seq ?_
  refine Ok.region ?_
  refine OkO.fieldAddr (o := 0) rfl (by kernel_rfl) rfl ?_
  refine OkO.load rfl rfl (ldg (n := 2) (by kernel_rfl) (by first | assumption | (simp (disch := first | omega | (simp only [hNw, hPt]; omega)) only [gn0, gn1, gn2, gn3, gn4, gn5, gp0, gno, gpo] <;> first | rfl | assumption)) (by first | rfl | assumption)) ?_
  refine OkO.store rfl rfl rfl (stc (n := 2) (ag := true) (by kernel_rfl) (by first | assumption | (simp (disch := first | omega | (simp only [hNw, hPt]; omega)) only [gn0, gn1, gn2, gn3, gn4, gn5, gp0, gno, gpo] <;> first | rfl | assumption)) rfl rfl (by first | rfl | exact spl_set _ _ _ (by first | assumption | (simp; omega)))) ?_
  refine OkO.nil ?_
  refine Ok.ret ⟨.inr rfl, ?_⟩
  exact back_flat (resV_cell rfl (ldg (n := 2) (by kernel_rfl) (by first | assumption | (simp (disch := first | omega | (simp only [hNw, hPt]; omega)) only [gn0, gn1, gn2, gn3, gn4, gn5, gp0, gno, gpo] <;> first | rfl | assumption)) (by first | rfl | assumption)) resV_nil) (rfl) rfl (by rw [← hW]; exact (by (try dsimp only); repeat (first | exact hG | apply Grow.new | (refine Grow.put ?_ _ (by first | omega | (simp only [hNw, hPt]; omega))))))
theorem c80 (m : Nat) (x : Day) (H : Heap)  : RR (m + 1) (.fn 80 [.agg x.c]) H = some (.agg [I x.lo, I x.hi], H) := by
  refine (R_fn _ _ _ _ _).trans ?_
  refine fn_ok Try.func80 rfl rfl (by kernel_rfl) (by kernel_rfl) ?_
  obtain ⟨W, hW⟩ : ∃ W : Heap, W = ⟨H.t, H.next, H.next⟩ := ⟨_, rfl⟩
  have hg : ∀ n, W.get n = H.get n := fun n => by rw [hW]; rfl
  have hN : W.next = H.next := by rw [hW]
  have hE : ∀ G, Grow W G → Ext H G := fun G g => ⟨by rw [← hN]; exact g.next, fun n k => by rw [g.get n (by rw [hN]; exact k), hg]⟩
  have hG : Grow W W := Grow.refl (by rw [hW]; exact Nat.le_refl _)
  rw [← hW]
  refine Ok.seq ?_
  refine Ok.region ?_
  refine OkO.box rfl rfl ?_
  refine OkO.alloc (z := [.int .i64 0, .int .i64 0]) rfl (by kernel_rfl) ?_
  refine OkO.nil ?_
  refine Ok.seq ?_
  refine Ok.region ?_
  refine OkO.fieldAddr (o := 0) rfl (by kernel_rfl) rfl ?_
  refine OkO.load rfl rfl (ldg (n := 2) (by kernel_rfl) (by first | assumption | (simp (disch := first | omega | (simp only [hNw, hPt]; omega)) only [gn0, gn1, gn2, gn3, gn4, gn5, gp0, gno, gpo] <;> first | rfl | assumption)) (by first | rfl | assumption)) ?_
  refine OkO.store rfl rfl rfl (stc (n := 2) (ag := true) (by kernel_rfl) (by first | assumption | (simp (disch := first | omega | (simp only [hNw, hPt]; omega)) only [gn0, gn1, gn2, gn3, gn4, gn5, gp0, gno, gpo] <;> first | rfl | assumption)) rfl rfl (by first | rfl | exact spl_set _ _ _ (by first | assumption | (simp; omega)))) ?_
  refine OkO.nil ?_
  refine Ok.ret ⟨.inr rfl, ?_⟩
  exact back_flat (resV_cell rfl (ldg (n := 2) (by kernel_rfl) (by first | assumption | (simp (disch := first | omega | (simp only [hNw, hPt]; omega)) only [gn0, gn1, gn2, gn3, gn4, gn5, gp0, gno, gpo] <;> first | rfl | assumption)) (by first | rfl | assumption)) resV_nil) (rfl) rfl (by rw [← hW]; exact (by (try dsimp only); repeat (first | exact hG | apply Grow.new | (refine Grow.put ?_ _ (by first | omega | (simp only [hNw, hPt]; omega))))))
theorem c52 (m : Nat) (a b : Int) (H : Heap)  : RR (m + 1) (.fn 52 [.agg [I a, I b]]) H = some (.agg [I a, I b], H) := by
  refine (R_fn _ _ _ _ _).trans ?_
  refine fn_ok Try.func52 rfl rfl (by kernel_rfl) (by kernel_rfl) ?_
  obtain ⟨W, hW⟩ : ∃ W : Heap, W = ⟨H.t, H.next, H.next⟩ := ⟨_, rfl⟩
  have hg : ∀ n, W.get n = H.get n := fun n => by rw [hW]; rfl
  have hN : W.next = H.next := by rw [hW]
  have hE : ∀ G, Grow W G → Ext H G := fun G g => ⟨by rw [← hN]; exact g.next, fun n k => by rw [g.get n (by rw [hN]; exact k), hg]⟩
  have hG : Grow W W := Grow.refl (by rw [hW]; exact Nat.le_refl _)
  rw [← hW]
  refine Ok.seq ?_
  refine Ok.region ?_
  refine OkO.box rfl rfl ?_
  refine OkO.alloc (z := [.int .i64 0, .int .i64 0]) rfl (by kernel_rfl) ?_
  refine OkO.nil ?_
  refine Ok.seq ?_
  refine Ok.region ?_
  refine OkO.fieldAddr (o := 0) rfl (by kernel_rfl) rfl ?_
  refine OkO.load rfl rfl (lda (n := 1) (by kernel_rfl) (by first | assumption | (simp (disch := first | omega | (simp only [hNw, hPt]; omega)) only [gn0, gn1, gn2, gn3, gn4, gn5, gp0, gno, gpo] <;> first | rfl | assumption)) (by first | rfl | assumption)) ?_
  refine OkO.fieldAddr (o := 1) rfl (by kernel_rfl) rfl ?_
  refine OkO.load rfl rfl (lda (n := 1) (by kernel_rfl) (by first | assumption | (simp (disch := first | omega | (simp only [hNw, hPt]; omega)) only [gn0, gn1, gn2, gn3, gn4, gn5, gp0, gno, gpo] <;> first | rfl | assumption)) (by first | rfl | assumption)) ?_
  refine OkO.build (z := [.int .i64 0, .int .i64 0]) (pl := [(0, 1), (1, 1)]) rfl (by kernel_rfl) rfl rfl ?_
  refine OkO.store rfl rfl rfl (stc (n := 2) (ag := true) (by kernel_rfl) (by first | assumption | (simp (disch := first | omega | (simp only [hNw, hPt]; omega)) only [gn0, gn1, gn2, gn3, gn4, gn5, gp0, gno, gpo] <;> first | rfl | assumption)) rfl rfl (by first | rfl | exact spl_set _ _ _ (by first | assumption | (simp; omega)))) ?_
  refine OkO.nil ?_
  refine Ok.ret ⟨.inr rfl, ?_⟩
  exact back_flat (resV_cell rfl (ldg (n := 2) (by kernel_rfl) (by first | assumption | (simp (disch := first | omega | (simp only [hNw, hPt]; omega)) only [gn0, gn1, gn2, gn3, gn4, gn5, gp0, gno, gpo] <;> first | rfl | assumption)) (by first | rfl | assumption)) resV_nil) (rfl) rfl (by rw [← hW]; exact (by (try dsimp only); repeat (first | exact hG | apply Grow.new | (refine Grow.put ?_ _ (by first | omega | (simp only [hNw, hPt]; omega))))))
theorem c74 (m : Nat) (v : AV) (n : Nat) (H : Heap) (hlen : lenOf v = some n) (hn : n ≤ 1000000) : RR (m + 1) (.fn 74 [v]) H = some (.agg [I 0, I ((n : Int) - 1)], H) := by
  refine (R_fn _ _ _ _ _).trans ?_
  refine fn_ok Try.func74 rfl rfl (by kernel_rfl) (by kernel_rfl) ?_
  obtain ⟨W, hW⟩ : ∃ W : Heap, W = ⟨H.t, H.next, H.next⟩ := ⟨_, rfl⟩
  have hg : ∀ n, W.get n = H.get n := fun n => by rw [hW]; rfl
  have hN : W.next = H.next := by rw [hW]
  have hE : ∀ G, Grow W G → Ext H G := fun G g => ⟨by rw [← hN]; exact g.next, fun n k => by rw [g.get n (by rw [hN]; exact k), hg]⟩
  have hG : Grow W W := Grow.refl (by rw [hW]; exact Nat.le_refl _)
  rw [← hW]
  refine Ok.seq ?_
  refine Ok.region ?_
  refine OkO.alloc (z := [.int .i64 0, .int .i64 0]) rfl (by kernel_rfl) ?_
  refine OkO.nil ?_
  refine Ok.seq ?_
  refine Ok.region ?_
  refine OkO.move rfl rfl ?_
  refine OkO.builtin rfl rfl rfl (bln (by kernel_rfl) (by first | assumption | rfl)) ?_
  refine OkO.bin rfl rfl rfl (bin_sub (by omega) (by omega)) ?_
  refine OkO.build (z := [.int .i64 0, .int .i64 0]) (pl := [(0, 1), (1, 1)]) rfl (by kernel_rfl) rfl rfl ?_
  refine OkO.store rfl rfl rfl (stc (n := 2) (ag := true) (by kernel_rfl) (by first | assumption | (simp (disch := first | omega | (simp only [hNw, hPt]; omega)) only [gn0, gn1, gn2, gn3, gn4, gn5, gp0, gno, gpo] <;> first | rfl | assumption)) rfl rfl (by first | rfl | exact spl_set _ _ _ (by first | assumption | (simp; omega)))) ?_
  refine OkO.nil ?_
  refine Ok.ret ⟨.inr rfl, ?_⟩
  exact back_flat (resV_cell rfl (ldg (n := 2) (by kernel_rfl) (by first | assumption | (simp (disch := first | omega | (simp only [hNw, hPt]; omega)) only [gn0, gn1, gn2, gn3, gn4, gn5, gp0, gno, gpo] <;> first | rfl | assumption)) (by first | rfl | assumption)) resV_nil) (rfl) rfl (by rw [← hW]; exact (by (try dsimp only); repeat (first | exact hG | apply Grow.new | (refine Grow.put ?_ _ (by first | omega | (simp only [hNw, hPt]; omega))))))
theorem c89 (m : Nat) (v : AV) (n : Nat) (H : Heap) (hlen : lenOf v = some n) (hn : n ≤ 1000000) : RR (m + 1) (.fn 89 [v]) H = some (.agg [I 0, I ((n : Int) - 1)], H) := by
  refine (R_fn _ _ _ _ _).trans ?_
  refine fn_ok Try.func89 rfl rfl (by kernel_rfl) (by kernel_rfl) ?_
  obtain ⟨W, hW⟩ : ∃ W : Heap, W = ⟨H.t, H.next, H.next⟩ := ⟨_, rfl⟩
  have hg : ∀ n, W.get n = H.get n := fun n => by rw [hW]; rfl
  have hN : W.next = H.next := by rw [hW]
  have hE : ∀ G, Grow W G → Ext H G := fun G g => ⟨by rw [← hN]; exact g.next, fun n k => by rw [g.get n (by rw [hN]; exact k), hg]⟩
  have hG : Grow W W := Grow.refl (by rw [hW]; exact Nat.le_refl _)
  rw [← hW]
  refine Ok.seq ?_
  refine Ok.region ?_
  refine OkO.alloc (z := [.int .i64 0, .int .i64 0]) rfl (by kernel_rfl) ?_
  refine OkO.nil ?_
  refine Ok.seq ?_
  refine Ok.region ?_
  refine OkO.move rfl rfl ?_
  refine OkO.builtin rfl rfl rfl (bln (by kernel_rfl) (by first | assumption | rfl)) ?_
  refine OkO.bin rfl rfl rfl (bin_sub (by omega) (by omega)) ?_
  refine OkO.build (z := [.int .i64 0, .int .i64 0]) (pl := [(0, 1), (1, 1)]) rfl (by kernel_rfl) rfl rfl ?_
  refine OkO.store rfl rfl rfl (stc (n := 2) (ag := true) (by kernel_rfl) (by first | assumption | (simp (disch := first | omega | (simp only [hNw, hPt]; omega)) only [gn0, gn1, gn2, gn3, gn4, gn5, gp0, gno, gpo] <;> first | rfl | assumption)) rfl rfl (by first | rfl | exact spl_set _ _ _ (by first | assumption | (simp; omega)))) ?_
  refine OkO.nil ?_
  refine Ok.ret ⟨.inr rfl, ?_⟩
  exact back_flat (resV_cell rfl (ldg (n := 2) (by kernel_rfl) (by first | assumption | (simp (disch := first | omega | (simp only [hNw, hPt]; omega)) only [gn0, gn1, gn2, gn3, gn4, gn5, gp0, gno, gpo] <;> first | rfl | assumption)) (by first | rfl | assumption)) resV_nil) (rfl) rfl (by rw [← hW]; exact (by (try dsimp only); repeat (first | exact hG | apply Grow.new | (refine Grow.put ?_ _ (by first | omega | (simp only [hNw, hPt]; omega))))))
end
end Go.Ev
