/-
  Functions of the program, reckoned by the evaluator: what each answers, and that it leaves what came in as it was.
-/
import Derived.Test.YtibplmibcbillaaEvX3
import Derived.Test.YtibplmibcbillaaEvM
import Derived.Test.YtibplmibcbillaaEvZ
import Derived.KernelRfl
import Derived.Test.YtibplmibcbillaaProg
import Derived.Test.YtibplmibcbillaaEvY
import Derived.WideShapes
import Derived.Carry
import Derived.Test.YtibplmibcbillaaEvNe
import Derived.IntWalk
set_option maxRecDepth 100000
set_option linter.unusedSimpArgs false
set_option linter.unusedVariables false
namespace Go.Ev
open Go Go.Proofs
noncomputable section
abbrev I (n : Int) : AV := .int .i64 n
/-- Is a number from lo to hi? -/
def inB (a lo hi : Int) : Bool := decide (lo ≤ a) && decide (a ≤ hi)
/-- Is a range one from 0 to most? -/
def okR (lo hi most : Int) : Bool := decide (0 ≤ lo) && decide (lo ≤ hi) && decide (hi ≤ most)
def RR (m : Nat) : Rec := runO Try.prog (closedO 17 (.bool true)) m
theorem R_fn (m : Nat) (f : FuncId) (a : AV) (l : List AV) (H : Heap) : RR (m + 1) (.fn f (a :: l)) H = evFn Try.prog (RR m) f (a :: l) H := rfl
structure Cell where (lo hi cap keep pass to pump : Int)
def Cell.c (x : Cell) : List AV := [I x.lo, I x.hi, I x.cap, I x.keep, I x.pass, I x.to, I x.pump]
def Cell.ok (x : Cell) : Bool := inB x.cap 1 100000 && okR x.lo x.hi x.cap && inB x.keep 0 x.cap && inB x.pass 0 1000 && inB x.pump 0 100000
structure Day where (lo hi warm : Int)
def Day.c (x : Day) : List AV := [I x.lo, I x.hi, I x.warm]
def Day.ok (x : Day) : Bool := okR x.lo x.hi 1000 && inB x.warm (-50) 50
structure Gr where (slo shi klo khi melt : Int)
structure Tru where (snow soak : Int)
abbrev Ints (H : Heap) (v : AV) (us : List Int) : Prop := Row H v 1 (us.map fun n => [I n])
theorem c71 (m : Nat) (a b x : Int) (H : Heap)  : RR (m + 1) (.fn 71 [.agg [I a, I b], I x]) H = some (.bool (inB x a b), H) := by
  refine (R_fn _ _ _ _ _).trans ?_; refine fn_ok Try.func71 rfl rfl (by kernel_rfl) (by kernel_rfl) ?_
  obtain ⟨W, hW, hg, hN, hE, hG⟩ := wOf H
  rw [← hW]
  refine kS ?_; refine kR ?_; refine OkO.box rfl rfl ?_; refine oA rfl rfl ?_; refine oN ?_; refine kS ?_; refine kR ?_; refine oF (o := 0) rfl (by kernel_rfl) rfl ?_; refine oL rfl rfl (lda (n := 1) (by kernel_rfl) (by first | assumption | (simp (disch := first | omega | (simp only [hNw, hPt]; omega)) only [gN] <;> first | rfl | assumption)) (by first | rfl | assumption)) ?_; refine oM rfl rfl ?_; refine OkO.bin rfl rfl rfl (bin_leq _ _) ?_; refine oM rfl rfl ?_
  refine OkO.split (d := 9) rfl (fun g1 => ?_) (fun g1 => ?_)
  · refine oM rfl rfl ?_
    refine oF (o := 1) rfl (by kernel_rfl) rfl ?_; refine oL rfl rfl (lda (n := 1) (by kernel_rfl) (by first | assumption | (simp (disch := first | omega | (simp only [hNw, hPt]; omega)) only [gN] <;> first | rfl | assumption)) (by first | rfl | assumption)) ?_; refine OkO.bin rfl rfl rfl (bin_leq _ _) ?_; refine OkO.pick (b := true) rfl rfl (fun _ => rfl) nofun ?_; refine oA rfl rfl ?_; refine oN ?_
    refine Ok.ret ⟨.inr rfl, ?_⟩
    exact back_flat rfl (by first | rfl | exact congrArg AV.bool (by clear hg hN hG hE; first | (simp_all [inB]; done) | (rw [Bool.eq_iff_iff]; simp [inB] at *; omega))) rfl (by rw [← hW]; exact (by (try dsimp only); repeat (first | exact hG | apply Grow.new | (refine Grow.put ?_ _ (by first | omega | (simp only [hNw, hPt]; omega))))))
  · refine oK rfl ?_
    refine oK rfl ?_; refine oK rfl ?_; refine oK rfl ?_; refine OkO.pick (b := false) rfl rfl nofun (fun _ => rfl) ?_; refine oA rfl rfl ?_; refine oN ?_
    refine Ok.ret ⟨.inr rfl, ?_⟩
    exact back_flat rfl (by first | rfl | exact congrArg AV.bool (by clear hg hN hG hE; first | (simp_all [inB]; done) | (rw [Bool.eq_iff_iff]; simp [inB] at *; omega))) rfl (by rw [← hW]; exact (by (try dsimp only); repeat (first | exact hG | apply Grow.new | (refine Grow.put ?_ _ (by first | omega | (simp only [hNw, hPt]; omega))))))
theorem c75 (m : Nat) (a b x : Int) (H : Heap)  : RR (m + 1) (.fn 75 [.agg [I a, I b], I x]) H = some (.bool (okR a b x), H) := by
  refine (R_fn _ _ _ _ _).trans ?_; refine fn_ok Try.func75 rfl rfl (by kernel_rfl) (by kernel_rfl) ?_
  obtain ⟨W, hW, hg, hN, hE, hG⟩ := wOf H
  rw [← hW]
  refine kS ?_; refine kR ?_; refine OkO.box rfl rfl ?_; refine oA rfl rfl ?_; refine oN ?_; refine kS ?_; refine kR ?_; refine oF (o := 0) rfl (by kernel_rfl) rfl ?_; refine oL rfl rfl (lda (n := 1) (by kernel_rfl) (by first | assumption | (simp (disch := first | omega | (simp only [hNw, hPt]; omega)) only [gN] <;> first | rfl | assumption)) (by first | rfl | assumption)) ?_; refine OkO.bin rfl rfl rfl (bin_leq _ _) ?_; refine oM rfl rfl ?_
  refine OkO.split (d := 8) rfl (fun g1 => ?_) (fun g1 => ?_)
  · refine oF (o := 0) rfl (by kernel_rfl) rfl ?_
    refine oL rfl rfl (lda (n := 1) (by kernel_rfl) (by first | assumption | (simp (disch := first | omega | (simp only [hNw, hPt]; omega)) only [gN] <;> first | rfl | assumption)) (by first | rfl | assumption)) ?_; refine oF (o := 1) rfl (by kernel_rfl) rfl ?_; refine oL rfl rfl (lda (n := 1) (by kernel_rfl) (by first | assumption | (simp (disch := first | omega | (simp only [hNw, hPt]; omega)) only [gN] <;> first | rfl | assumption)) (by first | rfl | assumption)) ?_; refine OkO.bin rfl rfl rfl (bin_leq _ _) ?_; refine OkO.pick (b := true) rfl rfl (fun _ => rfl) nofun ?_; refine oM rfl rfl ?_
    refine OkO.split (d := 15) rfl (fun g2 => ?_) (fun g2 => ?_)
    · refine oF (o := 1) rfl (by kernel_rfl) rfl ?_
      refine oL rfl rfl (lda (n := 1) (by kernel_rfl) (by first | assumption | (simp (disch := first | omega | (simp only [hNw, hPt]; omega)) only [gN] <;> first | rfl | assumption)) (by first | rfl | assumption)) ?_; refine oM rfl rfl ?_; refine OkO.bin rfl rfl rfl (bin_leq _ _) ?_; refine OkO.pick (b := true) rfl rfl (fun _ => rfl) nofun ?_; refine oA rfl rfl ?_; refine oN ?_
      refine Ok.ret ⟨.inr rfl, ?_⟩
      exact back_flat rfl (by first | rfl | exact congrArg AV.bool (by clear hg hN hG hE; first | (simp_all [okR]; done) | (rw [Bool.eq_iff_iff]; simp [okR] at *; omega))) rfl (by rw [← hW]; exact (by (try dsimp only); repeat (first | exact hG | apply Grow.new | (refine Grow.put ?_ _ (by first | omega | (simp only [hNw, hPt]; omega))))))
    · refine oK rfl ?_
      refine oK rfl ?_; refine oK rfl ?_; refine oK rfl ?_; refine OkO.pick (b := false) rfl rfl nofun (fun _ => rfl) ?_; refine oA rfl rfl ?_; refine oN ?_
      refine Ok.ret ⟨.inr rfl, ?_⟩
      exact back_flat rfl (by first | rfl | exact congrArg AV.bool (by clear hg hN hG hE; first | (simp_all [okR]; done) | (rw [Bool.eq_iff_iff]; simp [okR] at *; omega))) rfl (by rw [← hW]; exact (by (try dsimp only); repeat (first | exact hG | apply Grow.new | (refine Grow.put ?_ _ (by first | omega | (simp only [hNw, hPt]; omega))))))
  · refine oK rfl ?_
    refine oK rfl ?_; refine oK rfl ?_; refine oK rfl ?_; refine oK rfl ?_; refine OkO.pick (b := false) rfl rfl nofun (fun _ => rfl) ?_; refine oM rfl rfl ?_; refine oK rfl ?_; refine oK rfl ?_; refine oK rfl ?_; refine oK rfl ?_; refine OkO.pick (b := false) rfl rfl nofun (fun _ => rfl) ?_; refine oA rfl rfl ?_; refine oN ?_
    refine Ok.ret ⟨.inr rfl, ?_⟩
    exact back_flat rfl (by first | rfl | exact congrArg AV.bool (by clear hg hN hG hE; first | (simp_all [okR]; done) | (rw [Bool.eq_iff_iff]; simp [okR] at *; omega))) rfl (by rw [← hW]; exact (by (try dsimp only); repeat (first | exact hG | apply Grow.new | (refine Grow.put ?_ _ (by first | omega | (simp only [hNw, hPt]; omega))))))
theorem c85 (m : Nat) (a b : Int) (H : Heap)  : RR (m + 1) (.fn 85 [.agg [I a, I b]]) H = some (I a, H) := by
  refine (R_fn _ _ _ _ _).trans ?_; refine fn_ok Try.func85 rfl rfl (by kernel_rfl) (by kernel_rfl) ?_
  obtain ⟨W, hW, hg, hN, hE, hG⟩ := wOf H
  rw [← hW]
  refine kS ?_; refine kR ?_; refine OkO.box rfl rfl ?_; refine oA rfl rfl ?_; refine oN ?_; refine kS ?_; refine kR ?_; refine oF (o := 0) rfl (by kernel_rfl) rfl ?_; refine oL rfl rfl (lda (n := 1) (by kernel_rfl) (by first | assumption | (simp (disch := first | omega | (simp only [hNw, hPt]; omega)) only [gN] <;> first | rfl | assumption)) (by first | rfl | assumption)) ?_; refine oA rfl rfl ?_; refine oN ?_
  refine Ok.ret ⟨.inr rfl, ?_⟩
  exact back_flat rfl (by first | rfl | exact congrArg AV.bool (by clear hg hN hG hE; first | (simp_all; done) | (rw [Bool.eq_iff_iff]; simp at *; omega))) rfl (by rw [← hW]; exact (by (try dsimp only); repeat (first | exact hG | apply Grow.new | (refine Grow.put ?_ _ (by first | omega | (simp only [hNw, hPt]; omega))))))
theorem c91 (m : Nat) (a b : Int) (H : Heap)  : RR (m + 1) (.fn 91 [.agg [I a, I b]]) H = some (.bool (decide (a = b)), H) := by
  refine (R_fn _ _ _ _ _).trans ?_; refine fn_ok Try.func91 rfl rfl (by kernel_rfl) (by kernel_rfl) ?_
  obtain ⟨W, hW, hg, hN, hE, hG⟩ := wOf H
  rw [← hW]
  refine kS ?_; refine kR ?_; refine OkO.box rfl rfl ?_; refine oA rfl rfl ?_; refine oN ?_; refine kS ?_; refine kR ?_; refine oF (o := 0) rfl (by kernel_rfl) rfl ?_; refine oL rfl rfl (lda (n := 1) (by kernel_rfl) (by first | assumption | (simp (disch := first | omega | (simp only [hNw, hPt]; omega)) only [gN] <;> first | rfl | assumption)) (by first | rfl | assumption)) ?_; refine oF (o := 1) rfl (by kernel_rfl) rfl ?_; refine oL rfl rfl (lda (n := 1) (by kernel_rfl) (by first | assumption | (simp (disch := first | omega | (simp only [hNw, hPt]; omega)) only [gN] <;> first | rfl | assumption)) (by first | rfl | assumption)) ?_; refine OkO.bin rfl rfl rfl (bin_eql _ _) ?_; refine oA rfl rfl ?_; refine oN ?_
  refine Ok.ret ⟨.inr rfl, ?_⟩
  exact back_flat rfl (by first | rfl | exact congrArg AV.bool (by clear hg hN hG hE; first | (simp_all; done) | (rw [Bool.eq_iff_iff]; simp at *; omega))) rfl (by rw [← hW]; exact (by (try dsimp only); repeat (first | exact hG | apply Grow.new | (refine Grow.put ?_ _ (by first | omega | (simp only [hNw, hPt]; omega))))))
theorem c73 (m : Nat) (x : Cell) (H : Heap)  : RR (m + 2) (.fn 73 [.agg x.c]) H = some (.bool x.ok, H) := by
  refine (R_fn _ _ _ _ _).trans ?_; refine fn_ok Try.func73 rfl rfl (by kernel_rfl) (by kernel_rfl) ?_
  obtain ⟨W, hW, hg, hN, hE, hG⟩ := wOf H
  rw [← hW]
  refine kS ?_; refine kR ?_; refine OkO.box rfl rfl ?_; refine oA rfl rfl ?_; refine oN ?_; refine kS ?_; refine kR ?_; refine OkO.build (z := [.int .i64 0, .int .i64 0]) (pl := [(0, 1), (1, 1)]) rfl (by kernel_rfl) rfl rfl ?_; refine oF (o := 2) rfl (by kernel_rfl) rfl ?_; refine oL rfl rfl (lda (n := 1) (by kernel_rfl) (by first | assumption | (simp (disch := first | omega | (simp only [hNw, hPt]; omega)) only [gN] <;> first | rfl | assumption)) (by first | rfl | assumption)) ?_; refine oV rfl rfl rfl rfl rfl (c71 _ _ _ _ _) ?_; refine oM rfl rfl ?_
  refine OkO.split (d := 7) rfl (fun g1 => ?_) (fun g1 => ?_)
  · refine oF (o := 0) rfl (by kernel_rfl) rfl ?_
    refine oL rfl rfl (ldg (n := 2) (by kernel_rfl) (by first | assumption | (simp (disch := first | omega | (simp only [hNw, hPt]; omega)) only [gN] <;> first | rfl | assumption)) (by first | rfl | assumption)) ?_; refine oF (o := 2) rfl (by kernel_rfl) rfl ?_; refine oL rfl rfl (lda (n := 1) (by kernel_rfl) (by first | assumption | (simp (disch := first | omega | (simp only [hNw, hPt]; omega)) only [gN] <;> first | rfl | assumption)) (by first | rfl | assumption)) ?_; refine oV rfl rfl rfl rfl rfl (c75 _ _ _ _ _) ?_; refine OkO.pick (b := true) rfl rfl (fun _ => rfl) nofun ?_; refine oM rfl rfl ?_
    refine OkO.split (d := 14) rfl (fun g2 => ?_) (fun g2 => ?_)
    · refine oF (o := 2) rfl (by kernel_rfl) rfl ?_
      refine oL rfl rfl (lda (n := 1) (by kernel_rfl) (by first | assumption | (simp (disch := first | omega | (simp only [hNw, hPt]; omega)) only [gN] <;> first | rfl | assumption)) (by first | rfl | assumption)) ?_; refine OkO.build (z := [.int .i64 0, .int .i64 0]) (pl := [(0, 1), (1, 1)]) rfl (by kernel_rfl) rfl rfl ?_; refine oF (o := 3) rfl (by kernel_rfl) rfl ?_; refine oL rfl rfl (lda (n := 1) (by kernel_rfl) (by first | assumption | (simp (disch := first | omega | (simp only [hNw, hPt]; omega)) only [gN] <;> first | rfl | assumption)) (by first | rfl | assumption)) ?_; refine oV rfl rfl rfl rfl rfl (c71 _ _ _ _ _) ?_; refine OkO.pick (b := true) rfl rfl (fun _ => rfl) nofun ?_; refine oM rfl rfl ?_
      refine OkO.split (d := 22) rfl (fun g3 => ?_) (fun g3 => ?_)
      · refine OkO.build (z := [.int .i64 0, .int .i64 0]) (pl := [(0, 1), (1, 1)]) rfl (by kernel_rfl) rfl rfl ?_
        refine oF (o := 4) rfl (by kernel_rfl) rfl ?_; refine oL rfl rfl (lda (n := 1) (by kernel_rfl) (by first | assumption | (simp (disch := first | omega | (simp only [hNw, hPt]; omega)) only [gN] <;> first | rfl | assumption)) (by first | rfl | assumption)) ?_; refine oV rfl rfl rfl rfl rfl (c71 _ _ _ _ _) ?_; refine OkO.pick (b := true) rfl rfl (fun _ => rfl) nofun ?_; refine oM rfl rfl ?_
        refine OkO.split (d := 28) rfl (fun g4 => ?_) (fun g4 => ?_)
        · refine OkO.build (z := [.int .i64 0, .int .i64 0]) (pl := [(0, 1), (1, 1)]) rfl (by kernel_rfl) rfl rfl ?_
          refine oF (o := 6) rfl (by kernel_rfl) rfl ?_; refine oL rfl rfl (lda (n := 1) (by kernel_rfl) (by first | assumption | (simp (disch := first | omega | (simp only [hNw, hPt]; omega)) only [gN] <;> first | rfl | assumption)) (by first | rfl | assumption)) ?_; refine oV rfl rfl rfl rfl rfl (c71 _ _ _ _ _) ?_; refine OkO.pick (b := true) rfl rfl (fun _ => rfl) nofun ?_; refine oA rfl rfl ?_; refine oN ?_
          refine Ok.ret ⟨.inr rfl, ?_⟩
          exact back_flat rfl (by first | rfl | exact congrArg AV.bool (by clear hg hN hG hE; first | (simp_all [Cell.ok]; done) | (rw [Bool.eq_iff_iff]; simp [Cell.ok] at *; omega))) rfl (by rw [← hW]; exact (by (try dsimp only); repeat (first | exact hG | apply Grow.new | (refine Grow.put ?_ _ (by first | omega | (simp only [hNw, hPt]; omega))))))
        · refine oK rfl ?_
          refine oK rfl ?_; refine oK rfl ?_; refine oK rfl ?_; refine OkO.pick (b := false) rfl rfl nofun (fun _ => rfl) ?_; refine oA rfl rfl ?_; refine oN ?_
          refine Ok.ret ⟨.inr rfl, ?_⟩
          exact back_flat rfl (by first | rfl | exact congrArg AV.bool (by clear hg hN hG hE; first | (simp_all [Cell.ok]; done) | (rw [Bool.eq_iff_iff]; simp [Cell.ok] at *; omega))) rfl (by rw [← hW]; exact (by (try dsimp only); repeat (first | exact hG | apply Grow.new | (refine Grow.put ?_ _ (by first | omega | (simp only [hNw, hPt]; omega))))))
      · refine oK rfl ?_
        refine oK rfl ?_; refine oK rfl ?_; refine oK rfl ?_; refine OkO.pick (b := false) rfl rfl nofun (fun _ => rfl) ?_; refine oM rfl rfl ?_; refine oK rfl ?_; refine oK rfl ?_; refine oK rfl ?_; refine oK rfl ?_; refine OkO.pick (b := false) rfl rfl nofun (fun _ => rfl) ?_; refine oA rfl rfl ?_; refine oN ?_
        refine Ok.ret ⟨.inr rfl, ?_⟩
        exact back_flat rfl (by first | rfl | exact congrArg AV.bool (by clear hg hN hG hE; first | (simp_all [Cell.ok]; done) | (rw [Bool.eq_iff_iff]; simp [Cell.ok] at *; omega))) rfl (by rw [← hW]; exact (by (try dsimp only); repeat (first | exact hG | apply Grow.new | (refine Grow.put ?_ _ (by first | omega | (simp only [hNw, hPt]; omega))))))
    · refine oK rfl ?_
      refine oK rfl ?_; refine oK rfl ?_; refine oK rfl ?_; refine oK rfl ?_; refine oK rfl ?_; refine OkO.pick (b := false) rfl rfl nofun (fun _ => rfl) ?_; refine oM rfl rfl ?_; refine oK rfl ?_; refine oK rfl ?_; refine oK rfl ?_; refine oK rfl ?_; refine OkO.pick (b := false) rfl rfl nofun (fun _ => rfl) ?_; refine oM rfl rfl ?_; refine oK rfl ?_; refine oK rfl ?_; refine oK rfl ?_; refine oK rfl ?_; refine OkO.pick (b := false) rfl rfl nofun (fun _ => rfl) ?_; refine oA rfl rfl ?_; refine oN ?_
      refine Ok.ret ⟨.inr rfl, ?_⟩
      exact back_flat rfl (by first | rfl | exact congrArg AV.bool (by clear hg hN hG hE; first | (simp_all [Cell.ok]; done) | (rw [Bool.eq_iff_iff]; simp [Cell.ok] at *; omega))) rfl (by rw [← hW]; exact (by (try dsimp only); repeat (first | exact hG | apply Grow.new | (refine Grow.put ?_ _ (by first | omega | (simp only [hNw, hPt]; omega))))))
  · refine oK rfl ?_
    refine oK rfl ?_; refine oK rfl ?_; refine oK rfl ?_; refine oK rfl ?_; refine OkO.pick (b := false) rfl rfl nofun (fun _ => rfl) ?_; refine oM rfl rfl ?_; refine oK rfl ?_; refine oK rfl ?_; refine oK rfl ?_; refine oK rfl ?_; refine oK rfl ?_; refine oK rfl ?_; refine OkO.pick (b := false) rfl rfl nofun (fun _ => rfl) ?_; refine oM rfl rfl ?_; refine oK rfl ?_; refine oK rfl ?_; refine oK rfl ?_; refine oK rfl ?_; refine OkO.pick (b := false) rfl rfl nofun (fun _ => rfl) ?_; refine oM rfl rfl ?_; refine oK rfl ?_; refine oK rfl ?_; refine oK rfl ?_; refine oK rfl ?_; refine OkO.pick (b := false) rfl rfl nofun (fun _ => rfl) ?_; refine oA rfl rfl ?_; refine oN ?_
    refine Ok.ret ⟨.inr rfl, ?_⟩
    exact back_flat rfl (by first | rfl | exact congrArg AV.bool (by clear hg hN hG hE; first | (simp_all [Cell.ok]; done) | (rw [Bool.eq_iff_iff]; simp [Cell.ok] at *; omega))) rfl (by rw [← hW]; exact (by (try dsimp only); repeat (first | exact hG | apply Grow.new | (refine Grow.put ?_ _ (by first | omega | (simp only [hNw, hPt]; omega))))))
theorem c84 (m : Nat) (x : Day) (H : Heap)  : RR (m + 2) (.fn 84 [.agg x.c]) H = some (.bool x.ok, H) := by
  refine (R_fn _ _ _ _ _).trans ?_; refine fn_ok Try.func84 rfl rfl (by kernel_rfl) (by kernel_rfl) ?_
  obtain ⟨W, hW, hg, hN, hE, hG⟩ := wOf H
  rw [← hW]
  refine kS ?_; refine kR ?_; refine OkO.box rfl rfl ?_; refine oA rfl rfl ?_; refine oN ?_; refine kS ?_; refine kR ?_; refine oF (o := 0) rfl (by kernel_rfl) rfl ?_; refine oL rfl rfl (ldg (n := 2) (by kernel_rfl) (by first | assumption | (simp (disch := first | omega | (simp only [hNw, hPt]; omega)) only [gN] <;> first | rfl | assumption)) (by first | rfl | assumption)) ?_; refine oV rfl rfl rfl rfl rfl (c75 _ _ _ _ _) ?_; refine oM rfl rfl ?_
  refine OkO.split (d := 6) rfl (fun g1 => ?_) (fun g1 => ?_)
  · refine OkO.build (z := [.int .i64 0, .int .i64 0]) (pl := [(0, 1), (1, 1)]) rfl (by kernel_rfl) rfl rfl ?_
    refine oF (o := 2) rfl (by kernel_rfl) rfl ?_; refine oL rfl rfl (lda (n := 1) (by kernel_rfl) (by first | assumption | (simp (disch := first | omega | (simp only [hNw, hPt]; omega)) only [gN] <;> first | rfl | assumption)) (by first | rfl | assumption)) ?_; refine oV rfl rfl rfl rfl rfl (c71 _ _ _ _ _) ?_; refine OkO.pick (b := true) rfl rfl (fun _ => rfl) nofun ?_; refine oA rfl rfl ?_; refine oN ?_
    refine Ok.ret ⟨.inr rfl, ?_⟩
    exact back_flat rfl (by first | rfl | exact congrArg AV.bool (by clear hg hN hG hE; first | (simp_all [Day.ok]; done) | (rw [Bool.eq_iff_iff]; simp [Day.ok] at *; omega))) rfl (by rw [← hW]; exact (by (try dsimp only); repeat (first | exact hG | apply Grow.new | (refine Grow.put ?_ _ (by first | omega | (simp only [hNw, hPt]; omega))))))
  · refine oK rfl ?_
    refine oK rfl ?_; refine oK rfl ?_; refine oK rfl ?_; refine OkO.pick (b := false) rfl rfl nofun (fun _ => rfl) ?_; refine oA rfl rfl ?_; refine oN ?_
    refine Ok.ret ⟨.inr rfl, ?_⟩
    exact back_flat rfl (by first | rfl | exact congrArg AV.bool (by clear hg hN hG hE; first | (simp_all [Day.ok]; done) | (rw [Bool.eq_iff_iff]; simp [Day.ok] at *; omega))) rfl (by rw [← hW]; exact (by (try dsimp only); repeat (first | exact hG | apply Grow.new | (refine Grow.put ?_ _ (by first | omega | (simp only [hNw, hPt]; omega))))))
theorem c78 (m : Nat) (x : Cell) (H : Heap)  : RR (m + 1) (.fn 78 [.agg x.c]) H = some (.agg [I x.lo, I x.hi], H) := by
  refine (R_fn _ _ _ _ _).trans ?_; refine fn_ok Try.func78 rfl rfl (by kernel_rfl) (by kernel_rfl) ?_
  obtain ⟨W, hW, hg, hN, hE, hG⟩ := wOf H
  rw [← hW]
  refine kS ?_; refine kR ?_; refine OkO.box rfl rfl ?_; refine OkO.alloc (z := [.int .i64 0, .int .i64 0]) rfl (by kernel_rfl) ?_; refine oN ?_; refine kS ?_; refine kR ?_; refine oF (o := 0) rfl (by kernel_rfl) rfl ?_; refine oL rfl rfl (ldg (n := 2) (by kernel_rfl) (by first | assumption | (simp (disch := first | omega | (simp only [hNw, hPt]; omega)) only [gN] <;> first | rfl | assumption)) (by first | rfl | assumption)) ?_; refine oT rfl rfl rfl (sAc (n := 2) (ag := true) (by kernel_rfl) (by first | assumption | (simp (disch := first | omega | (simp only [hNw, hPt]; omega)) only [gN] <;> first | rfl | assumption)) rfl rfl (by first | rfl | exact spl_set _ _ _ (by first | assumption | (simp; omega)))) ?_; refine oN ?_
  refine Ok.ret ⟨.inr rfl, ?_⟩
  exact back_flat (resV_cell rfl (ldg (n := 2) (by kernel_rfl) (by first | assumption | (simp (disch := first | omega | (simp only [hNw, hPt]; omega)) only [gN] <;> first | rfl | assumption)) (by first | rfl | assumption)) resV_nil) (rfl) rfl (by rw [← hW]; exact (by (try dsimp only); repeat (first | exact hG | apply Grow.new | (refine Grow.put ?_ _ (by first | omega | (simp only [hNw, hPt]; omega))))))
theorem c80 (m : Nat) (x : Day) (H : Heap)  : RR (m + 1) (.fn 80 [.agg x.c]) H = some (.agg [I x.lo, I x.hi], H) := by
  refine (R_fn _ _ _ _ _).trans ?_; refine fn_ok Try.func80 rfl rfl (by kernel_rfl) (by kernel_rfl) ?_
  obtain ⟨W, hW, hg, hN, hE, hG⟩ := wOf H
  rw [← hW]
  refine kS ?_; refine kR ?_; refine OkO.box rfl rfl ?_; refine OkO.alloc (z := [.int .i64 0, .int .i64 0]) rfl (by kernel_rfl) ?_; refine oN ?_; refine kS ?_; refine kR ?_; refine oF (o := 0) rfl (by kernel_rfl) rfl ?_; refine oL rfl rfl (ldg (n := 2) (by kernel_rfl) (by first | assumption | (simp (disch := first | omega | (simp only [hNw, hPt]; omega)) only [gN] <;> first | rfl | assumption)) (by first | rfl | assumption)) ?_; refine oT rfl rfl rfl (sAc (n := 2) (ag := true) (by kernel_rfl) (by first | assumption | (simp (disch := first | omega | (simp only [hNw, hPt]; omega)) only [gN] <;> first | rfl | assumption)) rfl rfl (by first | rfl | exact spl_set _ _ _ (by first | assumption | (simp; omega)))) ?_; refine oN ?_
  refine Ok.ret ⟨.inr rfl, ?_⟩
  exact back_flat (resV_cell rfl (ldg (n := 2) (by kernel_rfl) (by first | assumption | (simp (disch := first | omega | (simp only [hNw, hPt]; omega)) only [gN] <;> first | rfl | assumption)) (by first | rfl | assumption)) resV_nil) (rfl) rfl (by rw [← hW]; exact (by (try dsimp only); repeat (first | exact hG | apply Grow.new | (refine Grow.put ?_ _ (by first | omega | (simp only [hNw, hPt]; omega))))))
theorem c74 (m : Nat) (v : AV) (n : Nat) (H : Heap) (hlen : lenOf v = some n) (hn : n ≤ 1000000) : RR (m + 1) (.fn 74 [v]) H = some (.agg [I 0, I ((n : Int) - 1)], H) := by
  refine (R_fn _ _ _ _ _).trans ?_; refine fn_ok Try.func74 rfl rfl (by kernel_rfl) (by kernel_rfl) ?_
  obtain ⟨W, hW, hg, hN, hE, hG⟩ := wOf H
  rw [← hW]
  refine kS ?_; refine kR ?_; refine OkO.alloc (z := [.int .i64 0, .int .i64 0]) rfl (by kernel_rfl) ?_; refine oN ?_; refine kS ?_; refine kR ?_; refine oM rfl rfl ?_; refine oB rfl rfl rfl qbl ?_; refine OkO.bin rfl rfl rfl (bin_sub (by omega) (by omega)) ?_; refine OkO.build (z := [.int .i64 0, .int .i64 0]) (pl := [(0, 1), (1, 1)]) rfl (by kernel_rfl) rfl rfl ?_; refine oT rfl rfl rfl (sAc (n := 2) (ag := true) (by kernel_rfl) (by first | assumption | (simp (disch := first | omega | (simp only [hNw, hPt]; omega)) only [gN] <;> first | rfl | assumption)) rfl rfl (by first | rfl | exact spl_set _ _ _ (by first | assumption | (simp; omega)))) ?_; refine oN ?_
  refine Ok.ret ⟨.inr rfl, ?_⟩
  exact back_flat (resV_cell rfl (ldg (n := 2) (by kernel_rfl) (by first | assumption | (simp (disch := first | omega | (simp only [hNw, hPt]; omega)) only [gN] <;> first | rfl | assumption)) (by first | rfl | assumption)) resV_nil) (rfl) rfl (by rw [← hW]; exact (by (try dsimp only); repeat (first | exact hG | apply Grow.new | (refine Grow.put ?_ _ (by first | omega | (simp only [hNw, hPt]; omega))))))
theorem c89 (m : Nat) (v : AV) (n : Nat) (H : Heap) (hlen : lenOf v = some n) (hn : n ≤ 1000000) : RR (m + 1) (.fn 89 [v]) H = some (.agg [I 0, I ((n : Int) - 1)], H) := by
  refine (R_fn _ _ _ _ _).trans ?_; refine fn_ok Try.func89 rfl rfl (by kernel_rfl) (by kernel_rfl) ?_
  obtain ⟨W, hW, hg, hN, hE, hG⟩ := wOf H
  rw [← hW]
  refine kS ?_; refine kR ?_; refine OkO.alloc (z := [.int .i64 0, .int .i64 0]) rfl (by kernel_rfl) ?_; refine oN ?_; refine kS ?_; refine kR ?_; refine oM rfl rfl ?_; refine oB rfl rfl rfl qbl ?_; refine OkO.bin rfl rfl rfl (bin_sub (by omega) (by omega)) ?_; refine OkO.build (z := [.int .i64 0, .int .i64 0]) (pl := [(0, 1), (1, 1)]) rfl (by kernel_rfl) rfl rfl ?_; refine oT rfl rfl rfl (sAc (n := 2) (ag := true) (by kernel_rfl) (by first | assumption | (simp (disch := first | omega | (simp only [hNw, hPt]; omega)) only [gN] <;> first | rfl | assumption)) rfl rfl (by first | rfl | exact spl_set _ _ _ (by first | assumption | (simp; omega)))) ?_; refine oN ?_
  refine Ok.ret ⟨.inr rfl, ?_⟩
  exact back_flat (resV_cell rfl (ldg (n := 2) (by kernel_rfl) (by first | assumption | (simp (disch := first | omega | (simp only [hNw, hPt]; omega)) only [gN] <;> first | rfl | assumption)) (by first | rfl | assumption)) resV_nil) (rfl) rfl (by rw [← hW]; exact (by (try dsimp only); repeat (first | exact hG | apply Grow.new | (refine Grow.put ?_ _ (by first | omega | (simp only [hNw, hPt]; omega))))))
end
end Go.Ev

set_option maxRecDepth 100000
set_option linter.unusedSimpArgs false
set_option linter.unusedVariables false
namespace Go.Ev
open Go Go.Proofs
noncomputable section
theorem flat_take {α : Type} (g : α → List AV) (xs : List α) (i : Nat) (h : i < xs.length) : ((xs.take (i + 1)).map g).flatten = ((xs.take i).map g).flatten ++ g xs[i] := by
  rw [List.take_succ_eq_append_getElem h, List.map_append, List.flatten_append]
  simp only [List.map_cons, List.map_nil, List.flatten_cons, List.flatten_nil, List.append_nil]
theorem flat_len (l : List (List AV)) (k : Nat) (h : ∀ x ∈ l, x.length = k) : l.flatten.length = l.length * k := flatten_len l k h
structure Rg where (lo hi : Int)
def Rg.c (r : Rg) : List AV := [I r.lo, I r.hi]
def Cell.lv (x : Cell) : Rg := ⟨x.lo, x.hi⟩
def Day.rn (x : Day) : Rg := ⟨x.lo, x.hi⟩
theorem c72 (m : Nat) (v : AV) (xs : List Cell)  (H : Heap) (hR : Row H v 7 (xs.map Cell.c)) (hl : xs.length ≤ 1000000)  : RR (m + 3) (.fn 72 [v, .fn 73 [] []]) H = some (.bool (xs.all fun x => x.ok), H) := by
  refine (R_fn _ _ _ _ _).trans ?_; refine fn_ok Try.func72 rfl rfl (by kernel_rfl) (by kernel_rfl) ?_
  obtain ⟨W, hW, hg, hN, hE, hG⟩ := wOf H
  rw [← hW]
  have hlen : lenOf v = some xs.length := by simpa using hR.len
  refine kS ?_; refine kR ?_; refine oA rfl rfl ?_; refine oN ?_; refine kS ?_; refine kS ?_; refine kR ?_; refine oM rfl rfl ?_; refine oB rfl rfl rfl qbl ?_; refine oM rfl rfl ?_; refine oN ?_; refine Ok.block ?_
  refine Ok.loop (fun n s => ∃ i : Nat, n = xs.length - i ∧ i ≤ xs.length ∧ (∀ j, j < i → ∀ x, xs[j]? = some x → x.ok = true) ∧ Has 5 [(1, .fn 73 [] []), (4, .bool false), (7, v), (8, I xs.length), (9, I (i : Int))] s.T ∧ s.D = [] ∧ Grow W s.H) (xs.length) (by unfold loopFuel; omega)
    ⟨0, rfl, Nat.zero_le _, nofun, Has.of (by kernel_rfl), rfl, hG⟩ ?_
  rintro n ⟨T, D, G⟩ ⟨i, hn, hi, hall, ⟨f, hT⟩, hD, hg⟩
  dsimp only at *
  subst hT hD
  have hgn := hg.next
  refine kS ?_; refine kR ?_; refine OkO.bin rfl rfl rfl (bin_lss _ _) ?_; refine oN ?_; refine kS ?_
  refine Ok.cond rfl (fun h1 => ?_) (fun h1 => ?_)
  · have hlt : i < xs.length := by simpa using h1
    obtain ⟨bb, off, cs, i1, i2, i3, i4⟩ := (hR.ext (hE _ hg)).at_ i xs[i].c (by simp [hlt])
    have hne : bb ≠ G.next := by omega
    refine Ok.skip ?_; refine kS ?_; refine Ok.block ?_; refine kS ?_; refine kR ?_; refine qX (sz := 7) rfl rfl rfl ?_; refine oL rfl rfl (ldg (n := 7) (by kernel_rfl) (by first | assumption | (simp (disch := first | omega | (simp only [hNw, hPt]; omega)) only [gN] <;> first | rfl | assumption)) (by first | rfl | assumption)) ?_; refine OkO.alloc (z := [.int .i64 0, .int .i64 0, .int .i64 0, .int .i64 0, .int .i64 0, .int .i64 0, .int .i64 0]) rfl (by kernel_rfl) ?_; refine oT rfl rfl rfl (sAc (n := 7) (ag := true) (by kernel_rfl) (by first | assumption | (simp (disch := first | omega | (simp only [hNw, hPt]; omega)) only [gN] <;> first | rfl | assumption)) rfl rfl (by first | rfl | exact spl_set _ _ _ (by first | assumption | (simp; omega)))) ?_; refine oN ?_; refine kS ?_; refine kR ?_; refine oM rfl rfl ?_; refine oL rfl rfl (ldg (n := 7) (by kernel_rfl) (by first | assumption | (simp (disch := first | omega | (simp only [hNw, hPt]; omega)) only [gN] <;> first | rfl | assumption)) (by first | rfl | assumption)) ?_; refine oV rfl rfl rfl rfl rfl (c73 m xs[i] _) ?_; refine OkO.un rfl rfl rfl ?_; refine oN ?_
    refine Ok.cond rfl (fun h2 => ?_) (fun h2 => ?_)
    · refine kS ?_
      refine kR ?_; refine oA rfl rfl ?_; refine oN ?_
      refine Ok.ret ⟨.inr rfl, ?_⟩
      exact back_flat rfl (congrArg AV.bool (by symm; rw [List.all_eq_false]; exact ⟨xs[i], List.getElem_mem hlt, by simpa using h2⟩)) rfl (by rw [← hW]; exact (by (try dsimp only); repeat (first | (first | exact hg | exact hG) | apply Grow.new | (refine Grow.put ?_ _ (by first | omega | (simp only [hNw, hPt]; omega))))))
    · refine Ok.skip ?_
      refine kR ?_; refine OkO.bin rfl rfl rfl (bin_add (by omega) (by omega)) ?_; refine oM rfl rfl ?_; refine oN ?_
      refine ⟨xs.length - (i + 1), by omega, i + 1, rfl, hlt, fun j hj x hx => ?_, Has.of (by kernel_rfl), rfl, (by (try dsimp only); repeat (first | (first | exact hg | exact hG) | apply Grow.new | (refine Grow.put ?_ _ (by first | omega | (simp only [hNw, hPt]; omega)))))⟩
      by_cases e : j = i
      · subst e; rw [List.getElem?_eq_getElem hlt] at hx; cases hx; simpa using h2
      · exact hall j (by omega) x hx
  · have hge : i = xs.length := by simp at h1; omega
    refine Ok.exit ?_; refine kS ?_; refine kR ?_; refine oA rfl rfl ?_; refine oN ?_
    refine Ok.ret ⟨.inr rfl, ?_⟩
    exact back_flat rfl (congrArg AV.bool (by symm; rw [List.all_eq_true]; intro x hx; obtain ⟨j, hj, rfl⟩ := List.mem_iff_getElem.1 hx; exact hall j (by omega) _ (List.getElem?_eq_getElem hj))) rfl (by rw [← hW]; exact (by (try dsimp only); repeat (first | (first | exact hg | exact hG) | apply Grow.new | (refine Grow.put ?_ _ (by first | omega | (simp only [hNw, hPt]; omega))))))
theorem c83 (m : Nat) (v : AV) (xs : List Day)  (H : Heap) (hR : Row H v 3 (xs.map Day.c)) (hl : xs.length ≤ 1000000)  : RR (m + 3) (.fn 83 [v, .fn 84 [] []]) H = some (.bool (xs.all fun x => x.ok), H) := by
  refine (R_fn _ _ _ _ _).trans ?_; refine fn_ok Try.func83 rfl rfl (by kernel_rfl) (by kernel_rfl) ?_
  obtain ⟨W, hW, hg, hN, hE, hG⟩ := wOf H
  rw [← hW]
  have hlen : lenOf v = some xs.length := by simpa using hR.len
  refine kS ?_; refine kR ?_; refine oA rfl rfl ?_; refine oN ?_; refine kS ?_; refine kS ?_; refine kR ?_; refine oM rfl rfl ?_; refine oB rfl rfl rfl qbl ?_; refine oM rfl rfl ?_; refine oN ?_; refine Ok.block ?_
  refine Ok.loop (fun n s => ∃ i : Nat, n = xs.length - i ∧ i ≤ xs.length ∧ (∀ j, j < i → ∀ x, xs[j]? = some x → x.ok = true) ∧ Has 5 [(1, .fn 84 [] []), (4, .bool false), (7, v), (8, I xs.length), (9, I (i : Int))] s.T ∧ s.D = [] ∧ Grow W s.H) (xs.length) (by unfold loopFuel; omega)
    ⟨0, rfl, Nat.zero_le _, nofun, Has.of (by kernel_rfl), rfl, hG⟩ ?_
  rintro n ⟨T, D, G⟩ ⟨i, hn, hi, hall, ⟨f, hT⟩, hD, hg⟩
  dsimp only at *
  subst hT hD
  have hgn := hg.next
  refine kS ?_; refine kR ?_; refine OkO.bin rfl rfl rfl (bin_lss _ _) ?_; refine oN ?_; refine kS ?_
  refine Ok.cond rfl (fun h1 => ?_) (fun h1 => ?_)
  · have hlt : i < xs.length := by simpa using h1
    obtain ⟨bb, off, cs, i1, i2, i3, i4⟩ := (hR.ext (hE _ hg)).at_ i xs[i].c (by simp [hlt])
    have hne : bb ≠ G.next := by omega
    refine Ok.skip ?_; refine kS ?_; refine Ok.block ?_; refine kS ?_; refine kR ?_; refine qX (sz := 3) rfl rfl rfl ?_; refine oL rfl rfl (ldg (n := 3) (by kernel_rfl) (by first | assumption | (simp (disch := first | omega | (simp only [hNw, hPt]; omega)) only [gN] <;> first | rfl | assumption)) (by first | rfl | assumption)) ?_; refine OkO.alloc (z := [.int .i64 0, .int .i64 0, .int .i64 0]) rfl (by kernel_rfl) ?_; refine oT rfl rfl rfl (sAc (n := 3) (ag := true) (by kernel_rfl) (by first | assumption | (simp (disch := first | omega | (simp only [hNw, hPt]; omega)) only [gN] <;> first | rfl | assumption)) rfl rfl (by first | rfl | exact spl_set _ _ _ (by first | assumption | (simp; omega)))) ?_; refine oN ?_; refine kS ?_; refine kR ?_; refine oM rfl rfl ?_; refine oL rfl rfl (ldg (n := 3) (by kernel_rfl) (by first | assumption | (simp (disch := first | omega | (simp only [hNw, hPt]; omega)) only [gN] <;> first | rfl | assumption)) (by first | rfl | assumption)) ?_; refine oV rfl rfl rfl rfl rfl (c84 m xs[i] _) ?_; refine OkO.un rfl rfl rfl ?_; refine oN ?_
    refine Ok.cond rfl (fun h2 => ?_) (fun h2 => ?_)
    · refine kS ?_
      refine kR ?_; refine oA rfl rfl ?_; refine oN ?_
      refine Ok.ret ⟨.inr rfl, ?_⟩
      exact back_flat rfl (congrArg AV.bool (by symm; rw [List.all_eq_false]; exact ⟨xs[i], List.getElem_mem hlt, by simpa using h2⟩)) rfl (by rw [← hW]; exact (by (try dsimp only); repeat (first | (first | exact hg | exact hG) | apply Grow.new | (refine Grow.put ?_ _ (by first | omega | (simp only [hNw, hPt]; omega))))))
    · refine Ok.skip ?_
      refine kR ?_; refine OkO.bin rfl rfl rfl (bin_add (by omega) (by omega)) ?_; refine oM rfl rfl ?_; refine oN ?_
      refine ⟨xs.length - (i + 1), by omega, i + 1, rfl, hlt, fun j hj x hx => ?_, Has.of (by kernel_rfl), rfl, (by (try dsimp only); repeat (first | (first | exact hg | exact hG) | apply Grow.new | (refine Grow.put ?_ _ (by first | omega | (simp only [hNw, hPt]; omega)))))⟩
      by_cases e : j = i
      · subst e; rw [List.getElem?_eq_getElem hlt] at hx; cases hx; simpa using h2
      · exact hall j (by omega) x hx
  · have hge : i = xs.length := by simp at h1; omega
    refine Ok.exit ?_; refine kS ?_; refine kR ?_; refine oA rfl rfl ?_; refine oN ?_
    refine Ok.ret ⟨.inr rfl, ?_⟩
    exact back_flat rfl (congrArg AV.bool (by symm; rw [List.all_eq_true]; intro x hx; obtain ⟨j, hj, rfl⟩ := List.mem_iff_getElem.1 hx; exact hall j (by omega) _ (List.getElem?_eq_getElem hj))) rfl (by rw [← hW]; exact (by (try dsimp only); repeat (first | (first | exact hg | exact hG) | apply Grow.new | (refine Grow.put ?_ _ (by first | omega | (simp only [hNw, hPt]; omega))))))
theorem c92 (m : Nat) (v : AV) (xs : List Rg)  (H : Heap) (hR : Row H v 2 (xs.map Rg.c)) (hl : xs.length ≤ 1000000)  : RR (m + 3) (.fn 92 [v, .fn 91 [] []]) H = some (.bool (xs.all fun x => decide (x.lo = x.hi)), H) := by
  refine (R_fn _ _ _ _ _).trans ?_; refine fn_ok Try.func92 rfl rfl (by kernel_rfl) (by kernel_rfl) ?_
  obtain ⟨W, hW, hg, hN, hE, hG⟩ := wOf H
  rw [← hW]
  have hlen : lenOf v = some xs.length := by simpa using hR.len
  refine kS ?_; refine kR ?_; refine oA rfl rfl ?_; refine oN ?_; refine kS ?_; refine kS ?_; refine kR ?_; refine oM rfl rfl ?_; refine oB rfl rfl rfl qbl ?_; refine oM rfl rfl ?_; refine oN ?_; refine Ok.block ?_
  refine Ok.loop (fun n s => ∃ i : Nat, n = xs.length - i ∧ i ≤ xs.length ∧ (∀ j, j < i → ∀ x, xs[j]? = some x → decide (x.lo = x.hi) = true) ∧ Has 5 [(1, .fn 91 [] []), (4, .bool false), (7, v), (8, I xs.length), (9, I (i : Int))] s.T ∧ s.D = [] ∧ Grow W s.H) (xs.length) (by unfold loopFuel; omega)
    ⟨0, rfl, Nat.zero_le _, nofun, Has.of (by kernel_rfl), rfl, hG⟩ ?_
  rintro n ⟨T, D, G⟩ ⟨i, hn, hi, hall, ⟨f, hT⟩, hD, hg⟩
  dsimp only at *
  subst hT hD
  have hgn := hg.next
  refine kS ?_; refine kR ?_; refine OkO.bin rfl rfl rfl (bin_lss _ _) ?_; refine oN ?_; refine kS ?_
  refine Ok.cond rfl (fun h1 => ?_) (fun h1 => ?_)
  · have hlt : i < xs.length := by simpa using h1
    obtain ⟨bb, off, cs, i1, i2, i3, i4⟩ := (hR.ext (hE _ hg)).at_ i xs[i].c (by simp [hlt])
    have hne : bb ≠ G.next := by omega
    refine Ok.skip ?_; refine kS ?_; refine Ok.block ?_; refine kS ?_; refine kR ?_; refine qX (sz := 2) rfl rfl rfl ?_; refine oL rfl rfl (ldg (n := 2) (by kernel_rfl) (by first | assumption | (simp (disch := first | omega | (simp only [hNw, hPt]; omega)) only [gN] <;> first | rfl | assumption)) (by first | rfl | assumption)) ?_; refine OkO.alloc (z := [.int .i64 0, .int .i64 0]) rfl (by kernel_rfl) ?_; refine oT rfl rfl rfl (sAc (n := 2) (ag := true) (by kernel_rfl) (by first | assumption | (simp (disch := first | omega | (simp only [hNw, hPt]; omega)) only [gN] <;> first | rfl | assumption)) rfl rfl (by first | rfl | exact spl_set _ _ _ (by first | assumption | (simp; omega)))) ?_; refine oN ?_; refine kS ?_; refine kR ?_; refine oM rfl rfl ?_; refine oL rfl rfl (ldg (n := 2) (by kernel_rfl) (by first | assumption | (simp (disch := first | omega | (simp only [hNw, hPt]; omega)) only [gN] <;> first | rfl | assumption)) (by first | rfl | assumption)) ?_; refine oV rfl rfl rfl rfl rfl (c91 (m + 1) xs[i].lo xs[i].hi _) ?_; refine OkO.un rfl rfl rfl ?_; refine oN ?_
    refine Ok.cond rfl (fun h2 => ?_) (fun h2 => ?_)
    · refine kS ?_
      refine kR ?_; refine oA rfl rfl ?_; refine oN ?_
      refine Ok.ret ⟨.inr rfl, ?_⟩
      exact back_flat rfl (congrArg AV.bool (by symm; rw [List.all_eq_false]; exact ⟨xs[i], List.getElem_mem hlt, by simpa using h2⟩)) rfl (by rw [← hW]; exact (by (try dsimp only); repeat (first | (first | exact hg | exact hG) | apply Grow.new | (refine Grow.put ?_ _ (by first | omega | (simp only [hNw, hPt]; omega))))))
    · refine Ok.skip ?_
      refine kR ?_; refine OkO.bin rfl rfl rfl (bin_add (by omega) (by omega)) ?_; refine oM rfl rfl ?_; refine oN ?_
      refine ⟨xs.length - (i + 1), by omega, i + 1, rfl, hlt, fun j hj x hx => ?_, Has.of (by kernel_rfl), rfl, (by (try dsimp only); repeat (first | (first | exact hg | exact hG) | apply Grow.new | (refine Grow.put ?_ _ (by first | omega | (simp only [hNw, hPt]; omega)))))⟩
      by_cases e : j = i
      · subst e; rw [List.getElem?_eq_getElem hlt] at hx; cases hx; simpa using h2
      · exact hall j (by omega) x hx
  · have hge : i = xs.length := by simp at h1; omega
    refine Ok.exit ?_; refine kS ?_; refine kR ?_; refine oA rfl rfl ?_; refine oN ?_
    refine Ok.ret ⟨.inr rfl, ?_⟩
    exact back_flat rfl (congrArg AV.bool (by symm; rw [List.all_eq_true]; intro x hx; obtain ⟨j, hj, rfl⟩ := List.mem_iff_getElem.1 hx; exact hall j (by omega) _ (List.getElem?_eq_getElem hj))) rfl (by rw [← hW]; exact (by (try dsimp only); repeat (first | (first | exact hg | exact hG) | apply Grow.new | (refine Grow.put ?_ _ (by first | omega | (simp only [hNw, hPt]; omega))))))
theorem c77 (m : Nat) (xv : AV) (xs : List Cell)  (H : Heap) (hR : Row H xv 7 (xs.map Cell.c)) (hl : xs.length ≤ 1000)  : ∃ v H', RR (m + 2) (.fn 77 [xv, .fn 78 [] []]) H = some (v, H') ∧ Ret H H' ∧ Row H' v 2 (xs.map fun x => x.lv.c) ∧ Cut H' v 2 ∧ Fr H.next H'.next H' (fun X => Row X v 2 (xs.map fun x => x.lv.c)) := by
  show ∃ v H', evFn Try.prog (RR (m + 1)) 77 [xv, .fn 78 [] []] H = some (v, H') ∧ Ret H H' ∧ Row H' v 2 (xs.map fun x => x.lv.c) ∧ Cut H' v 2 ∧ Fr H.next H'.next H' (fun X => Row X v 2 (xs.map fun x => x.lv.c))
  refine fn_okE Try.func77 rfl rfl (by kernel_rfl) (by kernel_rfl) ?_
  obtain ⟨W, hW, hg, hN, hE, hG⟩ := wOf H
  rw [← hW]
  have hlen : lenOf xv = some xs.length := by simpa using hR.len
  refine kS ?_; refine kR ?_; refine oA rfl rfl ?_; refine oN ?_; refine kS ?_; refine kR ?_; refine oA rfl rfl ?_; refine oN ?_; refine kS ?_; refine kS ?_; refine kR ?_; refine oM rfl rfl ?_; refine oB rfl rfl rfl qbl ?_; refine oM rfl rfl ?_; refine oN ?_; refine Ok.block ?_
  refine Ok.loop (fun n s => ∃ (i : Nat) (v5 : AV), n = xs.length - i ∧ i ≤ xs.length ∧ Mine W.next s.H v5 36 2 ((xs.take i).map fun x => x.lv.c).flatten ∧ Has 5 [(1, .fn 78 [] []), (4, .nils), (5, v5), (8, xv), (9, I xs.length), (10, I (i : Int))] s.T ∧ s.D = [] ∧ Grow W s.H) (xs.length) (by unfold loopFuel; omega)
    ⟨0, .nils, rfl, Nat.zero_le _, Mine.nil _ _ _ _, Has.of (by kernel_rfl), rfl, hG⟩ ?_
  rintro n ⟨T, D, G⟩ ⟨i, v5, hn, hi, hm, ⟨f, hT⟩, hD, hg⟩
  dsimp only at *
  subst hT hD
  have hgn := hg.next
  refine kS ?_; refine kR ?_; refine OkO.bin rfl rfl rfl (bin_lss _ _) ?_; refine oN ?_; refine kS ?_
  refine Ok.cond rfl (fun h1 => ?_) (fun h1 => ?_)
  · have hlt : i < xs.length := by simpa using h1
    obtain ⟨bb, off, cs, i1, i2, i3, i4⟩ := (hR.ext (hE _ hg)).at_ i xs[i].c (by simp [hlt])
    have hne : bb ≠ G.next := by omega
    have ht : ((xs.take (i + 1)).map fun x => x.lv.c).flatten = ((xs.take i).map fun x => x.lv.c).flatten ++ (fun (x : Cell) => x.lv.c) xs[i] := flat_take _ _ _ hlt
    have hml : ((xs.take i).map fun x => x.lv.c).flatten.length = i * 2 := by
          rw [flat_len _ 2 (fun x hx => by simp only [List.mem_map] at hx; obtain ⟨y, _, rfl⟩ := hx; rfl)]; simp; omega
    refine Ok.skip ?_; refine kS ?_; refine Ok.block ?_; refine kS ?_; refine kR ?_; refine qX (sz := 7) rfl rfl rfl ?_; refine oL rfl rfl (ldg (n := 7) (by kernel_rfl) (by first | assumption | (simp (disch := first | omega | (simp only [hNw, hPt]; omega)) only [gN] <;> first | rfl | assumption)) (by first | rfl | assumption)) ?_; refine OkO.alloc (z := [.int .i64 0, .int .i64 0, .int .i64 0, .int .i64 0, .int .i64 0, .int .i64 0, .int .i64 0]) rfl (by kernel_rfl) ?_; refine oT rfl rfl rfl (sAc (n := 7) (ag := true) (by kernel_rfl) (by first | assumption | (simp (disch := first | omega | (simp only [hNw, hPt]; omega)) only [gN] <;> first | rfl | assumption)) rfl rfl (by first | rfl | exact spl_set _ _ _ (by first | assumption | (simp; omega)))) ?_; refine oN ?_; refine kR ?_; refine oM rfl rfl ?_; refine oM rfl rfl ?_; refine oL rfl rfl (ldg (n := 7) (by kernel_rfl) (by first | assumption | (simp (disch := first | omega | (simp only [hNw, hPt]; omega)) only [gN] <;> first | rfl | assumption)) (by first | rfl | assumption)) ?_; refine oV rfl rfl rfl rfl rfl (c78 m xs[i] _) ?_; refine OkO.buildSlice (el := 36) (sz := 2) (z := [.int .i64 0, .int .i64 0]) rfl (by kernel_rfl) (by decide) rfl rfl ?_; refine OkO.builtinE rfl rfl rfl (Mine.app (sz := 2) (by_ := 16) (e := 36) (n := 1) (new := (fun (x : Cell) => x.lv.c) xs[i]) (hm.to (by (try dsimp only); repeat (first | exact Ext.refl _ | assumption | apply Ext.new | (refine Ext.put ?_ _ (by first | omega | (simp only [hNw, hPt]; omega)))))) (by (try dsimp only); repeat (first | (first | exact hg | exact hG) | apply Grow.new | (refine Grow.put ?_ _ (by first | omega | (simp only [hNw, hPt]; omega))))) (Nat.le_refl _) (by have := hg.next; simp; omega) (by kernel_rfl) (by kernel_rfl) (elems_new (n := 1) (sz := 2) rfl) rfl rfl (by rw [hml]; omega) (by omega) (by omega) rfl) ?_
    rintro v2 G2 ⟨q1, q2, q3⟩
    refine oA rfl rfl ?_; refine oN ?_; refine kR ?_; refine OkO.bin rfl rfl rfl (bin_add (by omega) (by omega)) ?_; refine oM rfl rfl ?_; refine oN ?_
    refine ⟨xs.length - (i + 1), by omega, i + 1, v2, rfl, hlt, ?_, Has.of (by kernel_rfl), rfl, q2⟩
    rw [ht]; exact q1
  · have hge : i = xs.length := by simp at h1; omega
    refine Ok.exit ?_; refine kS ?_; refine kR ?_; refine oM rfl rfl ?_; refine oA rfl rfl ?_; refine oN ?_
    refine Ok.ret ⟨.inr rfl, ?_⟩
    subst hge
    exact back_newA (resV_tmp rfl resV_nil) rfl (by rw [← hW]; exact hg) (fun H2 r2 r3 => ⟨r2, (Mine.back (by rw [List.take_length] at hm; exact hm) (fun x hx => by simp only [List.mem_map] at hx; obtain ⟨y, _, rfl⟩ := hx; rfl) (by omega) r3).1, (Mine.back (by rw [List.take_length] at hm; exact hm) (fun x hx => by simp only [List.mem_map] at hx; obtain ⟨y, _, rfl⟩ := hx; rfl) (by omega) r3).2, Mine.backF (by rw [List.take_length, hN] at hm; exact hm) (fun x hx => by simp only [List.mem_map] at hx; obtain ⟨y, _, rfl⟩ := hx; rfl) (by omega) r3⟩)
theorem c79 (m : Nat) (xv : AV) (xs : List Day)  (H : Heap) (hR : Row H xv 3 (xs.map Day.c)) (hl : xs.length ≤ 1000)  : ∃ v H', RR (m + 2) (.fn 79 [xv, .fn 80 [] []]) H = some (v, H') ∧ Ret H H' ∧ Row H' v 2 (xs.map fun x => x.rn.c) ∧ Cut H' v 2 ∧ Fr H.next H'.next H' (fun X => Row X v 2 (xs.map fun x => x.rn.c)) := by
  show ∃ v H', evFn Try.prog (RR (m + 1)) 79 [xv, .fn 80 [] []] H = some (v, H') ∧ Ret H H' ∧ Row H' v 2 (xs.map fun x => x.rn.c) ∧ Cut H' v 2 ∧ Fr H.next H'.next H' (fun X => Row X v 2 (xs.map fun x => x.rn.c))
  refine fn_okE Try.func79 rfl rfl (by kernel_rfl) (by kernel_rfl) ?_
  obtain ⟨W, hW, hg, hN, hE, hG⟩ := wOf H
  rw [← hW]
  have hlen : lenOf xv = some xs.length := by simpa using hR.len
  refine kS ?_; refine kR ?_; refine oA rfl rfl ?_; refine oN ?_; refine kS ?_; refine kR ?_; refine oA rfl rfl ?_; refine oN ?_; refine kS ?_; refine kS ?_; refine kR ?_; refine oM rfl rfl ?_; refine oB rfl rfl rfl qbl ?_; refine oM rfl rfl ?_; refine oN ?_; refine Ok.block ?_
  refine Ok.loop (fun n s => ∃ (i : Nat) (v5 : AV), n = xs.length - i ∧ i ≤ xs.length ∧ Mine W.next s.H v5 36 2 ((xs.take i).map fun x => x.rn.c).flatten ∧ Has 5 [(1, .fn 80 [] []), (4, .nils), (5, v5), (8, xv), (9, I xs.length), (10, I (i : Int))] s.T ∧ s.D = [] ∧ Grow W s.H) (xs.length) (by unfold loopFuel; omega)
    ⟨0, .nils, rfl, Nat.zero_le _, Mine.nil _ _ _ _, Has.of (by kernel_rfl), rfl, hG⟩ ?_
  rintro n ⟨T, D, G⟩ ⟨i, v5, hn, hi, hm, ⟨f, hT⟩, hD, hg⟩
  dsimp only at *
  subst hT hD
  have hgn := hg.next
  refine kS ?_; refine kR ?_; refine OkO.bin rfl rfl rfl (bin_lss _ _) ?_; refine oN ?_; refine kS ?_
  refine Ok.cond rfl (fun h1 => ?_) (fun h1 => ?_)
  · have hlt : i < xs.length := by simpa using h1
    obtain ⟨bb, off, cs, i1, i2, i3, i4⟩ := (hR.ext (hE _ hg)).at_ i xs[i].c (by simp [hlt])
    have hne : bb ≠ G.next := by omega
    have ht : ((xs.take (i + 1)).map fun x => x.rn.c).flatten = ((xs.take i).map fun x => x.rn.c).flatten ++ (fun (x : Day) => x.rn.c) xs[i] := flat_take _ _ _ hlt
    have hml : ((xs.take i).map fun x => x.rn.c).flatten.length = i * 2 := by
          rw [flat_len _ 2 (fun x hx => by simp only [List.mem_map] at hx; obtain ⟨y, _, rfl⟩ := hx; rfl)]; simp; omega
    refine Ok.skip ?_; refine kS ?_; refine Ok.block ?_; refine kS ?_; refine kR ?_; refine qX (sz := 3) rfl rfl rfl ?_; refine oL rfl rfl (ldg (n := 3) (by kernel_rfl) (by first | assumption | (simp (disch := first | omega | (simp only [hNw, hPt]; omega)) only [gN] <;> first | rfl | assumption)) (by first | rfl | assumption)) ?_; refine OkO.alloc (z := [.int .i64 0, .int .i64 0, .int .i64 0]) rfl (by kernel_rfl) ?_; refine oT rfl rfl rfl (sAc (n := 3) (ag := true) (by kernel_rfl) (by first | assumption | (simp (disch := first | omega | (simp only [hNw, hPt]; omega)) only [gN] <;> first | rfl | assumption)) rfl rfl (by first | rfl | exact spl_set _ _ _ (by first | assumption | (simp; omega)))) ?_; refine oN ?_; refine kR ?_; refine oM rfl rfl ?_; refine oM rfl rfl ?_; refine oL rfl rfl (ldg (n := 3) (by kernel_rfl) (by first | assumption | (simp (disch := first | omega | (simp only [hNw, hPt]; omega)) only [gN] <;> first | rfl | assumption)) (by first | rfl | assumption)) ?_; refine oV rfl rfl rfl rfl rfl (c80 m xs[i] _) ?_; refine OkO.buildSlice (el := 36) (sz := 2) (z := [.int .i64 0, .int .i64 0]) rfl (by kernel_rfl) (by decide) rfl rfl ?_; refine OkO.builtinE rfl rfl rfl (Mine.app (sz := 2) (by_ := 16) (e := 36) (n := 1) (new := (fun (x : Day) => x.rn.c) xs[i]) (hm.to (by (try dsimp only); repeat (first | exact Ext.refl _ | assumption | apply Ext.new | (refine Ext.put ?_ _ (by first | omega | (simp only [hNw, hPt]; omega)))))) (by (try dsimp only); repeat (first | (first | exact hg | exact hG) | apply Grow.new | (refine Grow.put ?_ _ (by first | omega | (simp only [hNw, hPt]; omega))))) (Nat.le_refl _) (by have := hg.next; simp; omega) (by kernel_rfl) (by kernel_rfl) (elems_new (n := 1) (sz := 2) rfl) rfl rfl (by rw [hml]; omega) (by omega) (by omega) rfl) ?_
    rintro v2 G2 ⟨q1, q2, q3⟩
    refine oA rfl rfl ?_; refine oN ?_; refine kR ?_; refine OkO.bin rfl rfl rfl (bin_add (by omega) (by omega)) ?_; refine oM rfl rfl ?_; refine oN ?_
    refine ⟨xs.length - (i + 1), by omega, i + 1, v2, rfl, hlt, ?_, Has.of (by kernel_rfl), rfl, q2⟩
    rw [ht]; exact q1
  · have hge : i = xs.length := by simp at h1; omega
    refine Ok.exit ?_; refine kS ?_; refine kR ?_; refine oM rfl rfl ?_; refine oA rfl rfl ?_; refine oN ?_
    refine Ok.ret ⟨.inr rfl, ?_⟩
    subst hge
    exact back_newA (resV_tmp rfl resV_nil) rfl (by rw [← hW]; exact hg) (fun H2 r2 r3 => ⟨r2, (Mine.back (by rw [List.take_length] at hm; exact hm) (fun x hx => by simp only [List.mem_map] at hx; obtain ⟨y, _, rfl⟩ := hx; rfl) (by omega) r3).1, (Mine.back (by rw [List.take_length] at hm; exact hm) (fun x hx => by simp only [List.mem_map] at hx; obtain ⟨y, _, rfl⟩ := hx; rfl) (by omega) r3).2, Mine.backF (by rw [List.take_length, hN] at hm; exact hm) (fun x hx => by simp only [List.mem_map] at hx; obtain ⟨y, _, rfl⟩ := hx; rfl) (by omega) r3⟩)
theorem c106l (m : Nat) (xv : AV) (xs : List Rg)  (H : Heap) (hR : Row H xv 2 (xs.map Rg.c)) (hl : xs.length ≤ 1000)  : ∃ v H', RR (m + 2) (.fn 106 [xv, .fn 85 [] []]) H = some (v, H') ∧ Ret H H' ∧ Row H' v 1 (xs.map fun x => [I x.lo]) ∧ Cut H' v 1 ∧ Fr H.next H'.next H' (fun X => Row X v 1 (xs.map fun x => [I x.lo])) := by
  show ∃ v H', evFn Try.prog (RR (m + 1)) 106 [xv, .fn 85 [] []] H = some (v, H') ∧ Ret H H' ∧ Row H' v 1 (xs.map fun x => [I x.lo]) ∧ Cut H' v 1 ∧ Fr H.next H'.next H' (fun X => Row X v 1 (xs.map fun x => [I x.lo]))
  refine fn_okE Try.func106 rfl rfl (by kernel_rfl) (by kernel_rfl) ?_
  obtain ⟨W, hW, hg, hN, hE, hG⟩ := wOf H
  rw [← hW]
  have hlen : lenOf xv = some xs.length := by simpa using hR.len
  refine kS ?_; refine kR ?_; refine oA rfl rfl ?_; refine oN ?_; refine kS ?_; refine kR ?_; refine oA rfl rfl ?_; refine oN ?_; refine kS ?_; refine kS ?_; refine kR ?_; refine oM rfl rfl ?_; refine oB rfl rfl rfl qbl ?_; refine oM rfl rfl ?_; refine oN ?_; refine Ok.block ?_
  refine Ok.loop (fun n s => ∃ (i : Nat) (v5 : AV), n = xs.length - i ∧ i ≤ xs.length ∧ Mine W.next s.H v5 3 1 ((xs.take i).map fun x => [I x.lo]).flatten ∧ Has 5 [(1, .fn 85 [] []), (4, .nils), (5, v5), (8, xv), (9, I xs.length), (10, I (i : Int))] s.T ∧ s.D = [] ∧ Grow W s.H) (xs.length) (by unfold loopFuel; omega)
    ⟨0, .nils, rfl, Nat.zero_le _, Mine.nil _ _ _ _, Has.of (by kernel_rfl), rfl, hG⟩ ?_
  rintro n ⟨T, D, G⟩ ⟨i, v5, hn, hi, hm, ⟨f, hT⟩, hD, hg⟩
  dsimp only at *
  subst hT hD
  have hgn := hg.next
  refine kS ?_; refine kR ?_; refine OkO.bin rfl rfl rfl (bin_lss _ _) ?_; refine oN ?_; refine kS ?_
  refine Ok.cond rfl (fun h1 => ?_) (fun h1 => ?_)
  · have hlt : i < xs.length := by simpa using h1
    obtain ⟨bb, off, cs, i1, i2, i3, i4⟩ := (hR.ext (hE _ hg)).at_ i xs[i].c (by simp [hlt])
    have hne : bb ≠ G.next := by omega
    have ht : ((xs.take (i + 1)).map fun x => [I x.lo]).flatten = ((xs.take i).map fun x => [I x.lo]).flatten ++ (fun (x : Rg) => [I x.lo]) xs[i] := flat_take _ _ _ hlt
    have hml : ((xs.take i).map fun x => [I x.lo]).flatten.length = i * 1 := by
          rw [flat_len _ 1 (fun x hx => by simp only [List.mem_map] at hx; obtain ⟨y, _, rfl⟩ := hx; rfl)]; simp; omega
    refine Ok.skip ?_; refine kS ?_; refine Ok.block ?_; refine kS ?_; refine kR ?_; refine qX (sz := 2) rfl rfl rfl ?_; refine oL rfl rfl (ldg (n := 2) (by kernel_rfl) (by first | assumption | (simp (disch := first | omega | (simp only [hNw, hPt]; omega)) only [gN] <;> first | rfl | assumption)) (by first | rfl | assumption)) ?_; refine OkO.alloc (z := [.int .i64 0, .int .i64 0]) rfl (by kernel_rfl) ?_; refine oT rfl rfl rfl (sAc (n := 2) (ag := true) (by kernel_rfl) (by first | assumption | (simp (disch := first | omega | (simp only [hNw, hPt]; omega)) only [gN] <;> first | rfl | assumption)) rfl rfl (by first | rfl | exact spl_set _ _ _ (by first | assumption | (simp; omega)))) ?_; refine oN ?_; refine kR ?_; refine oM rfl rfl ?_; refine oM rfl rfl ?_; refine oL rfl rfl (ldg (n := 2) (by kernel_rfl) (by first | assumption | (simp (disch := first | omega | (simp only [hNw, hPt]; omega)) only [gN] <;> first | rfl | assumption)) (by first | rfl | assumption)) ?_; refine oV rfl rfl rfl rfl rfl (c85 m xs[i].lo xs[i].hi _) ?_; refine OkO.buildSlice (el := 3) (sz := 1) (z := [.int .i64 0]) rfl (by kernel_rfl) (by decide) rfl rfl ?_; refine OkO.builtinE rfl rfl rfl (Mine.app (sz := 1) (by_ := 8) (e := 3) (n := 1) (new := (fun (x : Rg) => [I x.lo]) xs[i]) (hm.to (by (try dsimp only); repeat (first | exact Ext.refl _ | assumption | apply Ext.new | (refine Ext.put ?_ _ (by first | omega | (simp only [hNw, hPt]; omega)))))) (by (try dsimp only); repeat (first | (first | exact hg | exact hG) | apply Grow.new | (refine Grow.put ?_ _ (by first | omega | (simp only [hNw, hPt]; omega))))) (Nat.le_refl _) (by have := hg.next; simp; omega) (by kernel_rfl) (by kernel_rfl) (elems_new (n := 1) (sz := 1) rfl) rfl rfl (by rw [hml]; omega) (by omega) (by omega) rfl) ?_
    rintro v2 G2 ⟨q1, q2, q3⟩
    refine oA rfl rfl ?_; refine oN ?_; refine kR ?_; refine OkO.bin rfl rfl rfl (bin_add (by omega) (by omega)) ?_; refine oM rfl rfl ?_; refine oN ?_
    refine ⟨xs.length - (i + 1), by omega, i + 1, v2, rfl, hlt, ?_, Has.of (by kernel_rfl), rfl, q2⟩
    rw [ht]; exact q1
  · have hge : i = xs.length := by simp at h1; omega
    refine Ok.exit ?_; refine kS ?_; refine kR ?_; refine oM rfl rfl ?_; refine oA rfl rfl ?_; refine oN ?_
    refine Ok.ret ⟨.inr rfl, ?_⟩
    subst hge
    exact back_newA (resV_tmp rfl resV_nil) rfl (by rw [← hW]; exact hg) (fun H2 r2 r3 => ⟨r2, (Mine.back (by rw [List.take_length] at hm; exact hm) (fun x hx => by simp only [List.mem_map] at hx; obtain ⟨y, _, rfl⟩ := hx; rfl) (by omega) r3).1, (Mine.back (by rw [List.take_length] at hm; exact hm) (fun x hx => by simp only [List.mem_map] at hx; obtain ⟨y, _, rfl⟩ := hx; rfl) (by omega) r3).2, Mine.backF (by rw [List.take_length, hN] at hm; exact hm) (fun x hx => by simp only [List.mem_map] at hx; obtain ⟨y, _, rfl⟩ := hx; rfl) (by omega) r3⟩)
end
end Go.Ev

set_option maxRecDepth 100000
set_option linter.unusedSimpArgs false
set_option linter.unusedVariables false
namespace Go.Ev
open Go Go.Proofs
noncomputable section
def fitsB : List Int → List Rg → Bool
  | [], [] => true
  | u :: us, r :: rs => inB u r.lo r.hi && fitsB us rs
  | _, _ => false
theorem fits_iff : ∀ (us : List Int) (rs : List Rg), fitsB us rs = true ↔ us.length = rs.length ∧ ∀ (i : Nat) u r, us[i]? = some u → rs[i]? = some r → inB u r.lo r.hi = true := by
  intro us
  induction us with
  | nil =>
    intro rs
    cases rs with
    | nil => simp [fitsB]
    | cons r rs => simp [fitsB]
  | cons u us ih =>
    intro rs
    cases rs with
    | nil => simp [fitsB]
    | cons r rs =>
      simp only [fitsB, Bool.and_eq_true, ih rs, List.length_cons, Nat.add_right_cancel_iff]
      constructor
      · rintro ⟨h1, h2, h3⟩
        refine ⟨h2, fun i u' r' k1 k2 => ?_⟩
        cases i with
        | zero => simp at k1 k2; subst k1 k2; exact h1
        | succ i => exact h3 i u' r' (by simpa using k1) (by simpa using k2)
      · rintro ⟨h2, h3⟩
        exact ⟨h3 0 u r rfl rfl, h2, fun i u' r' k1 k2 => h3 (i + 1) u' r' (by simpa using k1) (by simpa using k2)⟩
def toOk (n : Int) : Int → List Cell → Bool
  | _, [] => true
  | i, c :: cs => (inB c.to (-1) (n - 1) && decide (c.to ≠ i)) && toOk n (i + 1) cs
theorem toOk_iff (n : Int) : ∀ (cs : List Cell) (k : Int), toOk n k cs = true ↔ ∀ (i : Nat) c, cs[i]? = some c → inB c.to (-1) (n - 1) = true ∧ c.to ≠ k + i := by
  intro cs
  induction cs with
  | nil => intro k; simp [toOk]
  | cons c cs ih =>
    intro k
    simp only [toOk, Bool.and_eq_true, ih, decide_eq_true_eq]
    constructor
    · rintro ⟨⟨h1, h2⟩, h3⟩ i c' hi
      cases i with
      | zero => simp at hi; subst hi; exact ⟨h1, by simpa using h2⟩
      | succ i =>
        have := h3 i c' (by simpa using hi)
        refine ⟨this.1, ?_⟩
        have h := this.2
        push_cast
        omega
    · intro h
      have h0 := h 0 c rfl
      refine ⟨⟨h0.1, by simpa using h0.2⟩, fun i c' hi => ?_⟩
      have := h (i + 1) c' (by simpa using hi)
      refine ⟨this.1, ?_⟩
      have h := this.2
      push_cast at h
      omega
theorem toOk_no {n : Int} {cs : List Cell} {i : Nat} {c : Cell} (hi : cs[i]? = some c) (h : inB c.to (-1) (n - 1) = false ∨ c.to = (i : Int)) : toOk n 0 cs = false := by
  cases hk : toOk n 0 cs with
  | false => rfl
  | true =>
    have := (toOk_iff n cs 0).1 hk i c hi
    rcases h with h | h
    · rw [h] at this; exact absurd this.1 (by simp)
    · exact absurd h (by have := this.2; omega)
def gOk (cs : List Cell) (g : Gr) : Bool := inB (cs.length : Int) 1 8 && (cs.all fun x => x.ok) && toOk (cs.length : Int) 0 cs && okR g.slo g.shi 100000 && okR g.klo g.khi 1000 && inB g.melt 0 50
theorem c51 (m : Nat) (cv : AV) (cs : List Cell) (g : Gr) (H : Heap) (hR : Row H cv 7 (cs.map Cell.c)) (hbig : cs.length ≤ 1000000) : RR (m + 4) (.fn 51 [.agg [cv, I g.slo, I g.shi, I g.klo, I g.khi, I g.melt]]) H = some (.bool (gOk cs g), H) := by
  refine (R_fn _ _ _ _ _).trans ?_; refine fn_ok Try.func51 rfl rfl (by kernel_rfl) (by kernel_rfl) ?_
  obtain ⟨W, hW, hg, hN, hE, hG⟩ := wOf H
  rw [← hW]
  have hlen : lenOf cv = some cs.length := by simpa using hR.len
  have pc : cv.plain = true := lpl hlen
  refine kS ?_; refine kR ?_; refine OkO.box rfl rfl ?_; refine oA rfl rfl ?_; refine oN ?_; refine kS ?_; refine kS ?_; refine kR ?_; refine OkO.build (z := [.int .i64 0, .int .i64 0]) (pl := [(0, 1), (1, 1)]) rfl (by kernel_rfl) rfl rfl ?_; refine oF (o := 0) rfl (by kernel_rfl) rfl ?_; refine oL rfl rfl (lda (n := 1) (by kernel_rfl) (by first | assumption | (simp (disch := first | omega | (simp only [hNw, hPt]; omega)) only [gN] <;> first | rfl | assumption)) (by first | rfl | assumption)) ?_; refine oB rfl rfl rfl qbl ?_; refine oV rfl rfl rfl rfl rfl (c71 _ _ _ _ _) ?_; refine OkO.un rfl rfl rfl ?_; refine oM rfl rfl ?_
  refine OkO.split (d := 11) rfl (fun g1 => ?_) (fun g1 => ?_)
  · have k1 : inB (cs.length : Int) 1 8 = false := by simpa using g1
    refine oK rfl ?_; refine oK rfl ?_; refine oK rfl ?_; refine oK rfl ?_; refine OkO.pick (b := true) rfl rfl (fun _ => rfl) nofun ?_; refine oN ?_; refine Ok.condT rfl ?_; refine kS ?_; refine kR ?_; refine oA rfl rfl ?_; refine oN ?_
    refine Ok.ret ⟨.inr rfl, ?_⟩
    have hz : gOk cs g = false := by unfold gOk; rw [k1]; simp
    exact back_flat rfl (congrArg AV.bool hz.symm) rfl (by rw [← hW]; exact (by (try dsimp only); repeat (first | exact hG | apply Grow.new | (refine Grow.put ?_ _ (by first | omega | (simp only [hNw, hPt]; omega))))))
  · refine oF (o := 0) rfl (by kernel_rfl) rfl ?_
    refine oL rfl rfl (lda (n := 1) (by kernel_rfl) (by first | assumption | (simp (disch := first | omega | (simp only [hNw, hPt]; omega)) only [gN] <;> first | rfl | assumption)) (by first | rfl | assumption)) ?_; refine oV rfl rfl rfl rfl rfl (c72 m cv cs _ (hR.ext (hE _ (by (try dsimp only); repeat (first | exact hG | apply Grow.new | (refine Grow.put ?_ _ (by first | omega | (simp only [hNw, hPt]; omega))))))) (by omega)) ?_; refine OkO.un rfl rfl rfl ?_; refine OkO.pick (b := false) rfl rfl nofun (fun _ => rfl) ?_; refine oN ?_
    refine Ok.cond rfl (fun h2 => ?_) (fun h2 => ?_)
    · have k1 : inB (cs.length : Int) 1 8 = true := by simpa using g1
      have k2 : (cs.all fun x => x.ok) = false := by simpa using h2
      refine kS ?_; refine kR ?_; refine oA rfl rfl ?_; refine oN ?_
      refine Ok.ret ⟨.inr rfl, ?_⟩
      have hz : gOk cs g = false := by unfold gOk; rw [k1, k2]; simp
      exact back_flat rfl (congrArg AV.bool hz.symm) rfl (by rw [← hW]; exact (by (try dsimp only); repeat (first | exact hG | apply Grow.new | (refine Grow.put ?_ _ (by first | omega | (simp only [hNw, hPt]; omega))))))
    · have k1 : inB (cs.length : Int) 1 8 = true := by simpa using g1
      have k2 : (cs.all fun x => x.ok) = true := by simpa using h2
      refine Ok.skip ?_; refine kS ?_; refine kS ?_; refine kR ?_; refine oF (o := 0) rfl (by kernel_rfl) rfl ?_; refine oL rfl rfl (lda (n := 1) (by kernel_rfl) (by first | assumption | (simp (disch := first | omega | (simp only [hNw, hPt]; omega)) only [gN] <;> first | rfl | assumption)) (by first | rfl | assumption)) ?_; refine oB rfl rfl rfl qbl ?_; refine oM rfl rfl ?_; refine oN ?_; refine Ok.block ?_
      refine Ok.loop (fun n s => ∃ i : Nat, n = cs.length - i ∧ i ≤ cs.length ∧ (∀ j, j < i → ∀ c, cs[j]? = some c → inB c.to (-1) ((cs.length : Int) - 1) = true ∧ c.to ≠ (0 : Int) + j) ∧ Has 6 [(1, .ptr W.next 0), (2, .bool false), (18, cv), (19, I cs.length), (20, I (i : Int))] s.T ∧ s.D = [] ∧ Grow W s.H ∧ s.H.get W.next = some (.cells [cv, I g.slo, I g.shi, I g.klo, I g.khi, I g.melt] 38) ∧ W.next + 1 ≤ s.H.next) (cs.length) (by unfold loopFuel; omega)
        ⟨0, rfl, Nat.zero_le _, nofun, Has.of (by kernel_rfl), rfl, (by (try dsimp only); repeat (first | exact hG | apply Grow.new | (refine Grow.put ?_ _ (by first | omega | (simp only [hNw, hPt]; omega))))), (by simp (disch := first | omega | (simp only [hNw, hPt]; omega)) only [gN] <;> first | rfl | assumption), by simp⟩ ?_
      rintro n ⟨T, D, G⟩ ⟨i, hn, hi, hall, ⟨f, hT⟩, hD, hg, hb1, hb2⟩
      dsimp only at *
      subst hT hD
      have hgn := hg.next
      have hb3 : (G.get W.next).bind AObj.cs = some [cv, I g.slo, I g.shi, I g.klo, I g.khi, I g.melt] := by rw [hb1]; rfl
      refine kS ?_; refine kR ?_; refine OkO.bin rfl rfl rfl (bin_lss _ _) ?_; refine oN ?_; refine kS ?_
      refine Ok.cond rfl (fun h3 => ?_) (fun h3 => ?_)
      · have hlt : i < cs.length := by simpa using h3
        obtain ⟨bb, off, ccs, i1, i2, i3, i4⟩ := (hR.ext (hE _ hg)).at_ i cs[i].c (by simp [hlt])
        have hne : bb ≠ G.next := by omega
        have hne2 : W.next ≠ G.next := by omega
        refine Ok.skip ?_; refine kS ?_; refine Ok.block ?_; refine kS ?_; refine kR ?_; refine oM rfl rfl ?_; refine qX (sz := 7) (n := i) rfl rfl rfl ?_; refine oL rfl rfl (ldg (n := 7) (by kernel_rfl) (by first | assumption | (simp (disch := first | omega | (simp only [hNw, hPt]; omega)) only [gN] <;> first | rfl | assumption)) (by first | rfl | assumption)) ?_; refine OkO.alloc (z := [.int .i64 0, .int .i64 0, .int .i64 0, .int .i64 0, .int .i64 0, .int .i64 0, .int .i64 0]) rfl (by kernel_rfl) ?_; refine oA rfl rfl ?_; refine oT rfl rfl rfl (sAc (n := 7) (ag := true) (by kernel_rfl) (by first | assumption | (simp (disch := first | omega | (simp only [hNw, hPt]; omega)) only [gN] <;> first | rfl | assumption)) rfl rfl (by first | rfl | exact spl_set _ _ _ (by first | assumption | (simp; omega)))) ?_; refine oN ?_; refine kS ?_; refine Ok.drawn [(0, true, []), (1, true, []), (2, true, []), (3, true, []), (4, true, []), (5, true, []), (7, true, []), (8, true, []), (6, false, [8, 1]), (9, false, [5, 1]), (10, true, []), (11, true, []), (12, true, []), (13, true, []), (14, true, []), (15, true, []), (16, true, []), (17, true, [])] (by kernel_rfl) ?_; refine pS ?_; refine oF (o := 5) rfl (by kernel_rfl) rfl ?_; refine oN ⟨rfl, ?_⟩; refine pS ?_; refine oL rfl rfl (lda (n := 1) (by kernel_rfl) (by first | assumption | (simp (disch := first | omega | (simp only [hNw, hPt]; omega)) only [gN] <;> first | rfl | assumption)) (by first | rfl | assumption)) ?_; refine oN ⟨rfl, ?_⟩; refine pS ?_; refine OkO.bin rfl rfl rfl (bin_neq _ _) ?_; refine oN ⟨rfl, ?_⟩; refine pS ?_; refine oM rfl rfl ?_; refine oN ⟨rfl, ?_⟩
        refine OkP.split (d := 28) rfl (fun g4 => ?_) (fun g4 => ?_)
        · refine pS ?_
          refine oF (o := 0) rfl (by kernel_rfl) rfl ?_; refine oN ⟨rfl, ?_⟩; refine pS ?_; refine oL rfl rfl (lda (n := 1) (by kernel_rfl) (by first | assumption | (simp (disch := first | omega | (simp only [hNw, hPt]; omega)) only [gN] <;> first | rfl | assumption)) (by first | rfl | assumption)) ?_; refine oN ⟨rfl, ?_⟩; refine pS ?_; refine oF (o := 5) rfl (by kernel_rfl) rfl ?_; refine oN ⟨rfl, ?_⟩; refine pS ?_; refine oL rfl rfl (lda (n := 1) (by kernel_rfl) (by first | assumption | (simp (disch := first | omega | (simp only [hNw, hPt]; omega)) only [gN] <;> first | rfl | assumption)) (by first | rfl | assumption)) ?_; refine oN ⟨rfl, ?_⟩; refine pS ?_; refine oV rfl rfl rfl rfl rfl (c74 _ cv cs.length _ hlen (by omega)) ?_
          refine oN ⟨(sco (sld rfl rfl (lda (n := 1) (by kernel_rfl) (by first | assumption | (simp (disch := first | omega | (simp only [hNw, hPt]; omega)) only [gN] <;> first | rfl | assumption)) (by first | rfl | assumption)) rfl (eqr _ (by first | rfl | exact lpl (by assumption) | (simp [AV.plain, AV.plains, AV.plain])))) (sco (sld rfl rfl (lda (n := 1) (by kernel_rfl) (by first | assumption | (simp (disch := first | omega | (simp only [hNw, hPt]; omega)) only [gN] <;> first | rfl | assumption)) (by first | rfl | assumption)) rfl (eqr _ (by first | rfl | exact lpl (by assumption) | (simp [AV.plain, AV.plains, AV.plain])))) rfl)), ?_⟩; refine pS ?_; refine oV rfl rfl rfl rfl rfl (c71 _ _ _ _ _) ?_
          refine oN ⟨(sco (sld rfl rfl (lda (n := 1) (by kernel_rfl) (by first | assumption | (simp (disch := first | omega | (simp only [hNw, hPt]; omega)) only [gN] <;> first | rfl | assumption)) (by first | rfl | assumption)) rfl (eqr _ (by first | rfl | exact lpl (by assumption) | (simp [AV.plain, AV.plains, AV.plain])))) (sco (sld rfl rfl (lda (n := 1) (by kernel_rfl) (by first | assumption | (simp (disch := first | omega | (simp only [hNw, hPt]; omega)) only [gN] <;> first | rfl | assumption)) (by first | rfl | assumption)) rfl (eqr _ (by first | rfl | exact lpl (by assumption) | (simp [AV.plain, AV.plains, AV.plain])))) rfl)), ?_⟩; refine pS ?_; refine OkO.un rfl rfl rfl ?_; refine oN ⟨rfl, ?_⟩; refine pS ?_; refine OkO.pick (b := true) rfl rfl (fun _ => rfl) nofun ?_; refine oN ⟨rfl, ?_⟩; refine pS ?_; refine oM rfl rfl ?_; refine oN ⟨rfl, ?_⟩
          refine OkP.split (d := 37) rfl (fun g5 => ?_) (fun g5 => ?_)
          · have k3 := toOk_no (n := (cs.length : Int)) (List.getElem?_eq_getElem hlt) (.inl (by (have e1 : ¬cs[i].to = -1 := by simpa using g4); simp [inB] at g5 ⊢; omega))
            refine pS ?_; refine oK rfl ?_; refine oN ⟨rfl, ?_⟩; refine pS ?_; refine oK rfl ?_; refine oN ⟨rfl, ?_⟩; refine pS ?_; refine oK rfl ?_; refine oN ⟨rfl, ?_⟩; refine pS ?_; refine oK rfl ?_; refine oN ⟨rfl, ?_⟩; refine pS ?_; refine OkO.pick (b := true) rfl rfl (fun _ => rfl) nofun ?_; refine oN ⟨rfl, ?_⟩; refine OkP.nil ?_; refine Ok.condT rfl ?_; refine kS ?_; refine kR ?_; refine oA rfl rfl ?_; refine oN ?_
            refine Ok.ret ⟨.inr rfl, ?_⟩
            have hz : gOk cs g = false := by unfold gOk; rw [k1, k2, k3]; simp
            exact back_flat rfl (congrArg AV.bool hz.symm) rfl (by rw [← hW]; exact (by (try dsimp only); repeat (first | (first | exact hg | exact hG) | apply Grow.new | (refine Grow.put ?_ _ (by first | omega | (simp only [hNw, hPt]; omega))))))
          · refine pS ?_
            refine oF (o := 5) rfl (by kernel_rfl) rfl ?_; refine oN ⟨rfl, ?_⟩; refine pS ?_; refine oL rfl rfl (lda (n := 1) (by kernel_rfl) (by first | assumption | (simp (disch := first | omega | (simp only [hNw, hPt]; omega)) only [gN] <;> first | rfl | assumption)) (by first | rfl | assumption)) ?_; refine oN ⟨rfl, ?_⟩; refine pS ?_; refine oM rfl rfl ?_; refine oN ⟨rfl, ?_⟩; refine pS ?_; refine OkO.bin rfl rfl rfl (bin_eql _ _) ?_; refine oN ⟨rfl, ?_⟩; refine pS ?_; refine OkO.pick (b := false) rfl rfl nofun (fun _ => rfl) ?_; refine oN ⟨rfl, ?_⟩; refine OkP.nil ?_
            refine Ok.cond rfl (fun h6 => ?_) (fun h6 => ?_)
            · have k3 := toOk_no (n := (cs.length : Int)) (List.getElem?_eq_getElem hlt) (.inr (by simpa using h6))
              refine kS ?_; refine kR ?_; refine oA rfl rfl ?_; refine oN ?_
              refine Ok.ret ⟨.inr rfl, ?_⟩
              have hz : gOk cs g = false := by unfold gOk; rw [k1, k2, k3]; simp
              exact back_flat rfl (congrArg AV.bool hz.symm) rfl (by rw [← hW]; exact (by (try dsimp only); repeat (first | (first | exact hg | exact hG) | apply Grow.new | (refine Grow.put ?_ _ (by first | omega | (simp only [hNw, hPt]; omega))))))
            · have hok : inB cs[i].to (-1) ((cs.length : Int) - 1) = true ∧ cs[i].to ≠ (0 : Int) + i := by (have e1 : ¬cs[i].to = -1 := by simpa using g4); (have e2 : ¬cs[i].to = (i : Int) := by simpa using h6); refine ⟨?_, by omega⟩; simp [inB] at g5 ⊢; omega
              refine Ok.skip ?_; refine kR ?_; refine OkO.bin rfl rfl rfl (bin_add (by omega) (by omega)) ?_; refine oM rfl rfl ?_; refine oN ?_
              refine ⟨cs.length - (i + 1), by omega, i + 1, rfl, hlt, fun j hj c hc => ?_, Has.of (by kernel_rfl), rfl, (by (try dsimp only); repeat (first | (first | exact hg | exact hG) | apply Grow.new | (refine Grow.put ?_ _ (by first | omega | (simp only [hNw, hPt]; omega))))), (by simp (disch := first | omega | (simp only [hNw, hPt]; omega)) only [gN] <;> first | rfl | assumption), by simp only [hNw, hPt]; omega⟩
              by_cases e : j = i
              · subst e; rw [List.getElem?_eq_getElem hlt] at hc; cases hc; exact hok
              · exact hall j (by omega) c hc
        · refine pS ?_
          refine oK rfl ?_; refine oN ⟨rfl, ?_⟩; refine pS ?_; refine oK rfl ?_; refine oN ⟨rfl, ?_⟩; refine pS ?_; refine oK rfl ?_; refine oN ⟨rfl, ?_⟩; refine pS ?_; refine oK rfl ?_; refine oN ⟨rfl, ?_⟩; refine pS ?_; refine oK rfl ?_
          refine oN ⟨(sco (ssk rfl) (sco (sld rfl rfl (lda (n := 1) (by kernel_rfl) (by first | assumption | (simp (disch := first | omega | (simp only [hNw, hPt]; omega)) only [gN] <;> first | rfl | assumption)) (by first | rfl | assumption)) rfl (eqr _ (by first | rfl | exact lpl (by assumption) | (simp [AV.plain, AV.plains, AV.plain])))) rfl)), ?_⟩; refine pS ?_; refine oK rfl ?_
          refine oN ⟨(sco (ssk rfl) (sco (sld rfl rfl (lda (n := 1) (by kernel_rfl) (by first | assumption | (simp (disch := first | omega | (simp only [hNw, hPt]; omega)) only [gN] <;> first | rfl | assumption)) (by first | rfl | assumption)) rfl (eqr _ (by first | rfl | exact lpl (by assumption) | (simp [AV.plain, AV.plains, AV.plain])))) rfl)), ?_⟩; refine pS ?_; refine oK rfl ?_; refine oN ⟨rfl, ?_⟩; refine pS ?_; refine OkO.pick (b := false) rfl rfl nofun (fun _ => rfl) ?_; refine oN ⟨rfl, ?_⟩; refine pS ?_; refine oM rfl rfl ?_; refine oN ⟨rfl, ?_⟩; refine pS ?_; refine oF (o := 5) rfl (by kernel_rfl) rfl ?_; refine oN ⟨rfl, ?_⟩; refine pS ?_; refine oL rfl rfl (lda (n := 1) (by kernel_rfl) (by first | assumption | (simp (disch := first | omega | (simp only [hNw, hPt]; omega)) only [gN] <;> first | rfl | assumption)) (by first | rfl | assumption)) ?_; refine oN ⟨rfl, ?_⟩; refine pS ?_; refine oM rfl rfl ?_; refine oN ⟨rfl, ?_⟩; refine pS ?_; refine OkO.bin rfl rfl rfl (bin_eql _ _) ?_; refine oN ⟨rfl, ?_⟩; refine pS ?_; refine OkO.pick (b := false) rfl rfl nofun (fun _ => rfl) ?_; refine oN ⟨rfl, ?_⟩; refine OkP.nil ?_
          refine Ok.cond rfl (fun h7 => ?_) (fun h7 => ?_)
          · have k3 := toOk_no (n := (cs.length : Int)) (List.getElem?_eq_getElem hlt) (.inr (by simpa using h7))
            refine kS ?_; refine kR ?_; refine oA rfl rfl ?_; refine oN ?_
            refine Ok.ret ⟨.inr rfl, ?_⟩
            have hz : gOk cs g = false := by unfold gOk; rw [k1, k2, k3]; simp
            exact back_flat rfl (congrArg AV.bool hz.symm) rfl (by rw [← hW]; exact (by (try dsimp only); repeat (first | (first | exact hg | exact hG) | apply Grow.new | (refine Grow.put ?_ _ (by first | omega | (simp only [hNw, hPt]; omega))))))
          · have hok : inB cs[i].to (-1) ((cs.length : Int) - 1) = true ∧ cs[i].to ≠ (0 : Int) + i := by (have e1 : cs[i].to = -1 := by simpa using g4); (have e2 : ¬cs[i].to = (i : Int) := by simpa using h7); refine ⟨?_, by omega⟩; simp [inB]; omega
            refine Ok.skip ?_; refine kR ?_; refine OkO.bin rfl rfl rfl (bin_add (by omega) (by omega)) ?_; refine oM rfl rfl ?_; refine oN ?_
            refine ⟨cs.length - (i + 1), by omega, i + 1, rfl, hlt, fun j hj c hc => ?_, Has.of (by kernel_rfl), rfl, (by (try dsimp only); repeat (first | (first | exact hg | exact hG) | apply Grow.new | (refine Grow.put ?_ _ (by first | omega | (simp only [hNw, hPt]; omega))))), (by simp (disch := first | omega | (simp only [hNw, hPt]; omega)) only [gN] <;> first | rfl | assumption), by simp only [hNw, hPt]; omega⟩
            by_cases e : j = i
            · subst e; rw [List.getElem?_eq_getElem hlt] at hc; cases hc; exact hok
            · exact hall j (by omega) c hc
      · have hge : i = cs.length := by simp at h3; omega
        have k3 : toOk (cs.length : Int) 0 cs = true := (toOk_iff _ _ _).2 fun j c hc => hall j (by have := (List.getElem?_eq_some_iff.1 hc).1; omega) c hc
        refine Ok.exit ?_; refine kS ?_; refine kR ?_; refine oF (o := 1) rfl (by kernel_rfl) rfl ?_; refine oL rfl rfl (ldg (n := 2) (by kernel_rfl) (by first | assumption | (simp (disch := first | omega | (simp only [hNw, hPt]; omega)) only [gN] <;> first | rfl | assumption)) (by first | rfl | assumption)) ?_; refine oV rfl rfl rfl rfl rfl (c75 _ _ _ _ _) ?_; refine oM rfl rfl ?_
        refine OkO.split (d := 47) rfl (fun g8 => ?_) (fun g8 => ?_)
        · refine oF (o := 3) rfl (by kernel_rfl) rfl ?_
          refine oL rfl rfl (ldg (n := 2) (by kernel_rfl) (by first | assumption | (simp (disch := first | omega | (simp only [hNw, hPt]; omega)) only [gN] <;> first | rfl | assumption)) (by first | rfl | assumption)) ?_; refine oV rfl rfl rfl rfl rfl (c75 _ _ _ _ _) ?_; refine OkO.pick (b := true) rfl rfl (fun _ => rfl) nofun ?_; refine oM rfl rfl ?_
          refine OkO.split (d := 52) rfl (fun g9 => ?_) (fun g9 => ?_)
          · refine OkO.build (z := [.int .i64 0, .int .i64 0]) (pl := [(0, 1), (1, 1)]) rfl (by kernel_rfl) rfl rfl ?_
            refine oF (o := 5) rfl (by kernel_rfl) rfl ?_; refine oL rfl rfl (lda (n := 1) (by kernel_rfl) (by first | assumption | (simp (disch := first | omega | (simp only [hNw, hPt]; omega)) only [gN] <;> first | rfl | assumption)) (by first | rfl | assumption)) ?_; refine oV rfl rfl rfl rfl rfl (c71 _ _ _ _ _) ?_; refine OkO.pick (b := true) rfl rfl (fun _ => rfl) nofun ?_; refine oA rfl rfl ?_; refine oN ?_
            refine Ok.ret ⟨.inr rfl, ?_⟩
            have hz : inB g.melt 0 50 = gOk cs g := by unfold gOk; rw [k1, k2, k3, g8, g9]; rfl
            exact back_flat rfl (congrArg AV.bool hz) rfl (by rw [← hW]; exact (by (try dsimp only); repeat (first | (first | exact hg | exact hG) | apply Grow.new | (refine Grow.put ?_ _ (by first | omega | (simp only [hNw, hPt]; omega))))))
          · refine oK rfl ?_
            refine oK rfl ?_; refine oK rfl ?_; refine oK rfl ?_; refine OkO.pick (b := false) rfl rfl nofun (fun _ => rfl) ?_; refine oA rfl rfl ?_; refine oN ?_
            refine Ok.ret ⟨.inr rfl, ?_⟩
            have hz : false = gOk cs g := by unfold gOk; rw [k1, k2, k3, g8, g9]; rfl
            exact back_flat rfl (congrArg AV.bool hz) rfl (by rw [← hW]; exact (by (try dsimp only); repeat (first | (first | exact hg | exact hG) | apply Grow.new | (refine Grow.put ?_ _ (by first | omega | (simp only [hNw, hPt]; omega))))))
        · refine oK rfl ?_
          refine oK rfl ?_; refine oK rfl ?_; refine OkO.pick (b := false) rfl rfl nofun (fun _ => rfl) ?_; refine oM rfl rfl ?_; refine oK rfl ?_; refine oK rfl ?_; refine oK rfl ?_; refine oK rfl ?_; refine OkO.pick (b := false) rfl rfl nofun (fun _ => rfl) ?_; refine oA rfl rfl ?_; refine oN ?_
          refine Ok.ret ⟨.inr rfl, ?_⟩
          have hz : false = gOk cs g := by unfold gOk; rw [k1, k2, k3, g8]; rfl
          exact back_flat rfl (congrArg AV.bool hz) rfl (by rw [← hW]; exact (by (try dsimp only); repeat (first | (first | exact hg | exact hG) | apply Grow.new | (refine Grow.put ?_ _ (by first | omega | (simp only [hNw, hPt]; omega))))))
theorem c18 (m : Nat) (cv : AV) (cs : List Cell) (g : Gr) (H : Heap) (hR : Row H cv 7 (cs.map Cell.c)) (hbig : cs.length ≤ 1000000) : RR (m + 5) (.fn 18 [.agg [cv, I g.slo, I g.shi, I g.klo, I g.khi, I g.melt]]) H = some (I (if gOk cs g = true then 0 else 1), H) := by
  refine (R_fn _ _ _ _ _).trans ?_; refine fn_ok Try.func18 rfl rfl (by kernel_rfl) (by kernel_rfl) ?_
  obtain ⟨W, hW, hg, hN, hE, hG⟩ := wOf H
  rw [← hW]
  refine kS ?_; refine kR ?_; refine OkO.box rfl rfl ?_; refine oA rfl rfl ?_; refine oN ?_; refine kS ?_; refine kS ?_; refine kR ?_; refine oL rfl rfl (ldg (n := 6) (by kernel_rfl) (by first | assumption | (simp (disch := first | omega | (simp only [hNw, hPt]; omega)) only [gN] <;> first | rfl | assumption)) (by first | rfl | assumption)) ?_; refine oV rfl rfl rfl rfl rfl (c51 m cv cs g _ (hR.ext (hE _ (by (try dsimp only); repeat (first | exact hG | apply Grow.new | (refine Grow.put ?_ _ (by first | omega | (simp only [hNw, hPt]; omega))))))) hbig) ?_; refine OkO.un rfl rfl rfl ?_; refine oN ?_
  refine Ok.cond rfl (fun h1 => ?_) (fun h1 => ?_)
  · refine kS ?_
    refine kR ?_; refine oA rfl rfl ?_; refine oN ?_
    refine Ok.ret ⟨.inr rfl, ?_⟩
    have hf : gOk cs g = false := by simpa using h1
    exact back_flat rfl (by simp [hf]; rfl) rfl (by rw [← hW]; exact (by (try dsimp only); repeat (first | exact hG | apply Grow.new | (refine Grow.put ?_ _ (by first | omega | (simp only [hNw, hPt]; omega))))))
  · refine Ok.skip ?_
    refine kS ?_; refine kR ?_; refine oA rfl rfl ?_; refine oN ?_
    refine Ok.ret ⟨.inr rfl, ?_⟩
    have hf : gOk cs g = true := by simpa using h1
    exact back_flat rfl (by simp [hf]; rfl) rfl (by rw [← hW]; exact (by (try dsimp only); repeat (first | exact hG | apply Grow.new | (refine Grow.put ?_ _ (by first | omega | (simp only [hNw, hPt]; omega))))))
/-- The error of a ground with days. -/
def daysErr (cs : List Cell) (g : Gr) (ds : List Day) : Int := if gOk cs g = true then (if (30 : Int) < (ds.length : Int) then 3 else if (ds.all fun x => x.ok) = true then 0 else 1) else 1
theorem c60 (m : Nat) (cv dv : AV) (cs : List Cell) (g : Gr) (ds : List Day) (H : Heap) (hR : Row H cv 7 (cs.map Cell.c)) (hbig : cs.length ≤ 1000000) (hD : Row H dv 3 (ds.map Day.c)) (hbd : ds.length ≤ 1000000) : RR (m + 6) (.fn 60 [.agg [cv, I g.slo, I g.shi, I g.klo, I g.khi, I g.melt], dv]) H = some (I (daysErr cs g ds), H) := by
  refine (R_fn _ _ _ _ _).trans ?_; refine fn_ok Try.func60 rfl rfl (by kernel_rfl) (by kernel_rfl) ?_
  obtain ⟨W, hW, hg, hN, hE, hG⟩ := wOf H
  rw [← hW]
  have hlen : lenOf dv = some ds.length := by simpa using hD.len
  have pd : dv.plain = true := lpl hlen
  refine kS ?_; refine kR ?_; refine OkO.box rfl rfl ?_; refine oA rfl rfl ?_; refine oN ?_; refine kS ?_; refine kS ?_; refine kR ?_; refine oL rfl rfl (ldg (n := 6) (by kernel_rfl) (by first | assumption | (simp (disch := first | omega | (simp only [hNw, hPt]; omega)) only [gN] <;> first | rfl | assumption)) (by first | rfl | assumption)) ?_; refine oV rfl rfl rfl rfl rfl (c18 m cv cs g _ (hR.ext (hE _ (by (try dsimp only); repeat (first | exact hG | apply Grow.new | (refine Grow.put ?_ _ (by first | omega | (simp only [hNw, hPt]; omega))))))) hbig) ?_; refine oA rfl rfl ?_; refine oN ?_; refine kS ?_; refine kR ?_; refine oM rfl rfl ?_; refine OkO.bin rfl rfl rfl (bin_neq _ _) ?_; refine oN ?_
  refine Ok.cond rfl (fun h1 => ?_) (fun h1 => ?_)
  · have hf : gOk cs g = false := by cases hs : gOk cs g with | false => rfl | true => (rw [hs] at h1; simp at h1)
    refine kS ?_; refine kR ?_; refine oM rfl rfl ?_; refine oA rfl rfl ?_; refine oN ?_
    refine Ok.ret ⟨.inr rfl, ?_⟩
    exact back_flat rfl (by simp [daysErr, hf]; rfl) rfl (by rw [← hW]; exact (by (try dsimp only); repeat (first | exact hG | apply Grow.new | (refine Grow.put ?_ _ (by first | omega | (simp only [hNw, hPt]; omega))))))
  · have hf : gOk cs g = true := by cases hs : gOk cs g with | true => rfl | false => (rw [hs] at h1; simp at h1)
    refine Ok.skip ?_; refine kS ?_; refine kS ?_; refine kR ?_; refine oM rfl rfl ?_; refine oB rfl rfl rfl qbl ?_; refine OkO.bin rfl rfl rfl (bin_gtr _ _) ?_; refine oN ?_
    refine Ok.cond rfl (fun h2 => ?_) (fun h2 => ?_)
    · refine kS ?_
      refine kR ?_; refine oA rfl rfl ?_; refine oN ?_
      refine Ok.ret ⟨.inr rfl, ?_⟩
      have h3 : (30 : Int) < (ds.length : Int) := by simpa using h2
      exact back_flat rfl (by simp [daysErr, hf, h3]; rfl) rfl (by rw [← hW]; exact (by (try dsimp only); repeat (first | exact hG | apply Grow.new | (refine Grow.put ?_ _ (by first | omega | (simp only [hNw, hPt]; omega))))))
    · refine Ok.skip ?_
      refine kS ?_; refine kS ?_; refine kR ?_; refine oM rfl rfl ?_; refine oV rfl rfl rfl rfl rfl (c83 (m + 2) dv ds _ (hD.ext (hE _ (by (try dsimp only); repeat (first | exact hG | apply Grow.new | (refine Grow.put ?_ _ (by first | omega | (simp only [hNw, hPt]; omega))))))) hbd) ?_; refine OkO.un rfl rfl rfl ?_; refine oN ?_
      refine Ok.cond rfl (fun h3 => ?_) (fun h3 => ?_)
      · refine kS ?_
        refine kR ?_; refine oA rfl rfl ?_; refine oN ?_
        refine Ok.ret ⟨.inr rfl, ?_⟩
        have h4 : ¬(30 : Int) < (ds.length : Int) := by simpa using h2
        have h5 : (ds.all fun x => x.ok) = false := by simpa using h3
        exact back_flat rfl (by unfold daysErr; rw [if_pos hf, if_neg h4, h5]; rfl) rfl (by rw [← hW]; exact (by (try dsimp only); repeat (first | exact hG | apply Grow.new | (refine Grow.put ?_ _ (by first | omega | (simp only [hNw, hPt]; omega))))))
      · refine Ok.skip ?_
        refine kS ?_; refine kR ?_; refine oA rfl rfl ?_; refine oN ?_
        refine Ok.ret ⟨.inr rfl, ?_⟩
        have h4 : ¬(30 : Int) < (ds.length : Int) := by simpa using h2
        have h5 : (ds.all fun x => x.ok) = true := by simpa using h3
        exact back_flat rfl (by unfold daysErr; rw [if_pos hf, if_neg h4, h5]; rfl) rfl (by rw [← hW]; exact (by (try dsimp only); repeat (first | exact hG | apply Grow.new | (refine Grow.put ?_ _ (by first | omega | (simp only [hNw, hPt]; omega))))))
end
end Go.Ev

set_option maxRecDepth 100000
set_option linter.unusedSimpArgs false
set_option linter.unusedVariables false
namespace Go.Ev
open Go Go.Proofs
noncomputable section
/-- The error of a truth. -/
def truthErr (cs : List Cell) (g : Gr) (ds : List Day) (t : Tru) (lvs rain : List Int) : Int :=
  if daysErr cs g ds = 0 then (if (inB t.snow g.slo g.shi && inB t.soak g.klo g.khi && fitsB lvs (cs.map Cell.lv) && fitsB rain (ds.map Day.rn)) = true then 0 else 9) else daysErr cs g ds
theorem lv_map (cs : List Cell) : (cs.map Cell.lv).map Rg.c = cs.map fun x => x.lv.c := by rw [List.map_map]; rfl
theorem rn_map (ds : List Day) : (ds.map Day.rn).map Rg.c = ds.map fun x => x.rn.c := by rw [List.map_map]; rfl
theorem ints_flat (us : List Int) : (us.map fun n => [I n]).flatten = us.map I := by induction us with | nil => rfl | cons a l ih => simp [ih]
theorem atoms_ints (us : List Int) : atoms (us.map I) = true := by induction us with | nil => rfl | cons a l ih => exact ih
theorem sum_take (l : List Int) (i : Nat) (h : i < l.length) : (l.take (i + 1)).sum = (l.take i).sum + l[i] := by
  rw [List.take_succ_eq_append_getElem h, List.sum_append]; simp
theorem sum_bd (k : Int) (hk : 0 ≤ k) (l : List Int) (h : ∀ x ∈ l, -k ≤ x ∧ x ≤ k) : -(k * l.length) ≤ l.sum ∧ l.sum ≤ k * l.length := by
  induction l with
  | nil => simp
  | cons a l ih =>
    have h1 := h a (by simp)
    have h2 := ih (fun x hx => h x (by simp [hx]))
    simp only [List.sum_cons, List.length_cons]
    push_cast
    rw [Int.mul_add, Int.mul_one]
    omega
theorem c105 (m : Nat) (uv : AV) (us : List Int) (H : Heap) (hU : Ints H uv us) (hl : us.length ≤ 1000) (hsm : ∀ x ∈ us, -10000000 ≤ x ∧ x ≤ 10000000) : RR (m + 1) (.fn 105 [uv]) H = some (I us.sum, H) := by
  refine (R_fn _ _ _ _ _).trans ?_; refine fn_ok Try.func105 rfl rfl (by kernel_rfl) (by kernel_rfl) ?_
  obtain ⟨W, hW, hg, hN, hE, hG⟩ := wOf H
  rw [← hW]
  have hlu : lenOf uv = some us.length := by simpa using hU.len
  refine kS ?_; refine kR ?_; refine oA rfl rfl ?_; refine oN ?_; refine kS ?_; refine kR ?_; refine oA rfl rfl ?_; refine oN ?_; refine kS ?_; refine kS ?_; refine kR ?_; refine oM rfl rfl ?_; refine oB rfl rfl rfl qbl ?_; refine oM rfl rfl ?_; refine oN ?_; refine Ok.block ?_
  refine Ok.loop (fun n s => ∃ i : Nat, n = us.length - i ∧ i ≤ us.length ∧ Has 5 [(3, I (us.take i).sum), (6, uv), (7, I us.length), (8, I (i : Int))] s.T ∧ s.D = [] ∧ Grow W s.H) (us.length) (by unfold loopFuel; omega)
    ⟨0, rfl, Nat.zero_le _, Has.of (by kernel_rfl), rfl, hG⟩ ?_
  rintro n ⟨T, D, G⟩ ⟨i, hn, hi, ⟨f, hT⟩, hD, hg⟩
  dsimp only at *
  subst hT hD
  have hgn := hg.next
  have hsb := sum_bd 10000000 (by omega) (us.take i) (fun x hx => hsm x (List.mem_of_mem_take hx))
  rw [List.length_take] at hsb
  refine kS ?_; refine kR ?_; refine OkO.bin rfl rfl rfl (bin_lss _ _) ?_; refine oN ?_; refine kS ?_
  refine Ok.cond rfl (fun h1 => ?_) (fun h1 => ?_)
  · have hlt : i < us.length := by simpa using h1
    obtain ⟨ub, uo, ucs, j1, j2, j3, j4⟩ := (hU.ext (hE _ hg)).at_ i [I us[i]] (by simp [hlt])
    have j5 := seg_one j3
    have hx := hsm us[i] (List.getElem_mem hlt)
    refine Ok.skip ?_; refine kS ?_; refine Ok.block ?_; refine kS ?_; refine kR ?_; refine qX (sz := 1) (n := i) rfl rfl rfl ?_; refine oL rfl rfl (lda (n := 1) (by kernel_rfl) (by first | assumption | (simp (disch := first | omega | (simp only [hNw, hPt]; omega)) only [gN] <;> first | rfl | assumption)) (by first | rfl | assumption)) ?_; refine oA rfl rfl ?_; refine oN ?_; refine kR ?_; refine oM rfl rfl ?_; refine oM rfl rfl ?_; refine OkO.bin rfl rfl rfl (bin_add (by omega) (by omega)) ?_; refine oA rfl rfl ?_; refine oN ?_; refine kR ?_; refine OkO.bin rfl rfl rfl (bin_add (by omega) (by omega)) ?_; refine oM rfl rfl ?_; refine oN ?_
    refine ⟨us.length - (i + 1), by omega, i + 1, rfl, hlt, ?_, rfl, (by (try dsimp only); repeat (first | (first | exact hg | exact hG) | apply Grow.new | (refine Grow.put ?_ _ (by first | omega | (simp only [hNw, hPt]; omega)))))⟩
    rw [sum_take us i hlt]
    exact Has.of (by kernel_rfl)
  · have hge : i = us.length := by simp at h1; omega
    refine Ok.exit ?_; refine kS ?_; refine kR ?_; refine oM rfl rfl ?_; refine oA rfl rfl ?_; refine oN ?_
    refine Ok.ret ⟨.inr rfl, ?_⟩
    subst hge
    exact back_flat rfl (by rw [List.take_length]; rfl) rfl (by rw [← hW]; exact hg)
/-- What is pumped out of a cell, and what passes. -/
def pumpd (x : Cell) (n : Int) : Int := min n x.pump
def passd (x : Cell) (n : Int) : Int := max (n - pumpd x n - x.keep) 0 * x.pass / 1000
def Cell.lim (x : Cell) : Prop := (1 ≤ x.cap ∧ x.cap ≤ 100000) ∧ (0 ≤ x.lo ∧ x.lo ≤ x.hi ∧ x.hi ≤ x.cap) ∧ (0 ≤ x.keep ∧ x.keep ≤ x.cap) ∧ (0 ≤ x.pass ∧ x.pass ≤ 1000) ∧ (0 ≤ x.pump ∧ x.pump ≤ 100000)
theorem Cell.ok_lim {x : Cell} (h : x.ok = true) : x.lim := by
  simp only [Cell.ok, inB, okR, Bool.and_eq_true, decide_eq_true_eq] at h
  unfold Cell.lim; omega
theorem mul_bd {a b p q : Int} (h : 0 ≤ a ∧ a ≤ p) (k : 0 ≤ b ∧ b ≤ q) : 0 ≤ a * b ∧ a * b ≤ p * q := by
  have h1 := Int.mul_le_mul_of_nonneg_left k.2 h.1
  have h3 := Int.mul_le_mul_of_nonneg_right h.2 (Int.le_trans k.1 k.2)
  exact ⟨Int.mul_nonneg h.1 k.1, Int.le_trans h1 h3⟩
theorem give_bd {x : Cell} (h : x.lim) {n : Int} (hn : 0 ≤ n ∧ n ≤ 100000) : (0 ≤ pumpd x n ∧ pumpd x n ≤ n) ∧ (0 ≤ max (n - pumpd x n - x.keep) 0 * x.pass ∧ max (n - pumpd x n - x.keep) 0 * x.pass ≤ 100000000) ∧ 0 ≤ passd x n ∧ passd x n ≤ n - pumpd x n := by
  unfold Cell.lim at h
  have h1 : 0 ≤ pumpd x n ∧ pumpd x n ≤ n := by unfold pumpd; omega
  have h2 : 0 ≤ max (n - pumpd x n - x.keep) 0 ∧ max (n - pumpd x n - x.keep) 0 ≤ n - pumpd x n := by omega
  have h3 := mul_bd h2 h.2.2.2.1
  refine ⟨h1, ⟨h3.1, by omega⟩, ?_, ?_⟩
  · unfold passd; omega
  · unfold passd; omega
theorem c104 (m : Nat) (x : Cell) (n : Int) (H : Heap) (hx : x.lim) (hn : 0 ≤ n ∧ n ≤ 100000) : RR (m + 1) (.fn 104 [.agg x.c, I n]) H = some (.tup [I (pumpd x n), I (passd x n)], H) := by
  refine (R_fn _ _ _ _ _).trans ?_; refine fn_ok Try.func104 rfl rfl (by kernel_rfl) (by kernel_rfl) ?_
  obtain ⟨W, hW, hg, hN, hE, hG⟩ := wOf H
  rw [← hW]
  have hgb := give_bd hx hn
  unfold passd pumpd at hgb
  unfold Cell.lim at hx
  refine kS ?_; refine kR ?_; refine OkO.box rfl rfl ?_; refine oA rfl rfl ?_; refine oA rfl rfl ?_; refine oN ?_; refine kS ?_; refine kR ?_; refine oM rfl rfl ?_; refine oF (o := 6) rfl (by kernel_rfl) rfl ?_; refine oL rfl rfl (lda (n := 1) (by kernel_rfl) (by first | assumption | (simp (disch := first | omega | (simp only [hNw, hPt]; omega)) only [gN] <;> first | rfl | assumption)) (by first | rfl | assumption)) ?_; refine oB rfl rfl rfl (builtin_min2 _ _) ?_; refine oA rfl rfl ?_; refine oN ?_; refine kS ?_; refine kR ?_; refine oM rfl rfl ?_; refine oM rfl rfl ?_; refine OkO.bin rfl rfl rfl (bin_sub (by omega) (by omega)) ?_; refine oF (o := 3) rfl (by kernel_rfl) rfl ?_; refine oL rfl rfl (lda (n := 1) (by kernel_rfl) (by first | assumption | (simp (disch := first | omega | (simp only [hNw, hPt]; omega)) only [gN] <;> first | rfl | assumption)) (by first | rfl | assumption)) ?_; refine OkO.bin rfl rfl rfl (bin_sub (by omega) (by omega)) ?_; refine oB rfl rfl rfl (builtin_max2 _ _) ?_; refine oF (o := 4) rfl (by kernel_rfl) rfl ?_; refine oL rfl rfl (lda (n := 1) (by kernel_rfl) (by first | assumption | (simp (disch := first | omega | (simp only [hNw, hPt]; omega)) only [gN] <;> first | rfl | assumption)) (by first | rfl | assumption)) ?_; refine OkO.bin rfl rfl rfl (bin_mul (by omega) (by omega)) ?_; refine OkO.bin rfl rfl rfl (bin_quo (by omega) (by omega) (by omega)) ?_; refine oA rfl rfl ?_; refine oN ?_; refine kS ?_; refine kR ?_; refine oM rfl rfl ?_; refine oM rfl rfl ?_; refine oA rfl rfl ?_; refine oA rfl rfl ?_; refine oN ?_
  refine Ok.ret ⟨.inr rfl, ?_⟩
  exact back_flat (resV_tmp rfl (resV_tmp rfl resV_nil)) rfl rfl (by rw [← hW]; exact (by (try dsimp only); repeat (first | exact hG | apply Grow.new | (refine Grow.put ?_ _ (by first | omega | (simp only [hNw, hPt]; omega))))))
end
end Go.Ev

set_option maxRecDepth 100000
set_option linter.unusedSimpArgs false
set_option linter.unusedVariables false
namespace Go.Ev
open Go Go.Proofs
noncomputable section
instance : Inhabited Cell := ⟨⟨0, 0, 0, 0, 0, 0, 0⟩⟩
instance : Inhabited Day := ⟨⟨0, 0, 0⟩⟩
/-- What one cell adds to what will be there: what passes to another one, and what stays. -/
def stepA (x : Cell) (i : Nat) (n so : Int) (a : List Int) : List Int :=
  (if x.to = -1 then a else a.set x.to.toNat (a.getD x.to.toNat 0 + passd x n)).set i ((if x.to = -1 then a else a.set x.to.toNat (a.getD x.to.toNat 0 + passd x n)).getD i 0 + (n - pumpd x n - passd x n + so))
def aftP (cs : List Cell) (bef : List Int) (so : Int) : Nat → List Int
  | 0 => [0, 0, 0, 0, 0, 0, 0, 0]
  | i + 1 => stepA (cs.getD i default) i (bef.getD i 0) so (aftP cs bef so i)
def leftP (cs : List Cell) (bef : List Int) (down so : Int) : Nat → List Int
  | 0 => []
  | i + 1 => (leftP cs bef down so i ++ [down - so, pumpd (cs.getD i default) (bef.getD i 0)]) ++ (if (cs.getD i default).to = -1 then [passd (cs.getD i default) (bef.getD i 0)] else [])
def cutP (cs : List Cell) (a : List Int) : Nat → List Int
  | 0 => a
  | i + 1 => (cutP cs a i).set i ((cutP cs a i).getD i 0 - max ((cutP cs a i).getD i 0 - (cs.getD i default).cap) 0)
def overP (cs : List Cell) (a l : List Int) : Nat → List Int
  | 0 => l
  | i + 1 => overP cs a l i ++ [max ((cutP cs a i).getD i 0 - (cs.getD i default).cap) 0]
/-- What a day leaves in the cells, and what left on it. -/
def dayL (cs : List Cell) (bef : List Int) (down soak : Int) : List Int := cutP cs (aftP cs bef (down * soak / 1000) cs.length) cs.length
def dayO (cs : List Cell) (bef : List Int) (down soak : Int) : Int := (overP cs (aftP cs bef (down * soak / 1000) cs.length) (leftP cs bef down (down * soak / 1000) cs.length) cs.length).sum
theorem stepA_len (x : Cell) (i : Nat) (n so : Int) (a : List Int) : (stepA x i n so a).length = a.length := by unfold stepA; split <;> simp
theorem aft_len (cs : List Cell) (bef : List Int) (so : Int) : ∀ i, (aftP cs bef so i).length = 8
  | 0 => rfl
  | i + 1 => by rw [aftP, stepA_len]; exact aft_len cs bef so i
theorem cut_len (cs : List Cell) (a : List Int) : ∀ i, (cutP cs a i).length = a.length
  | 0 => rfl
  | i + 1 => by rw [cutP, List.length_set]; exact cut_len cs a i
/-- All are from 0 to some number. -/
def Upto (k : Int) (a : List Int) : Prop := ∀ z ∈ a, 0 ≤ z ∧ z ≤ k
theorem Upto.getD {k : Int} {a : List Int} (h : Upto k a) (hk : 0 ≤ k) (i : Nat) : 0 ≤ a.getD i 0 ∧ a.getD i 0 ≤ k := by
  rw [List.getD_eq_getElem?_getD]
  cases hi : a[i]? with
  | none => simp; exact hk
  | some z => exact h z (List.mem_of_getElem? hi)
theorem Upto.set {k : Int} {a : List Int} (h : Upto k a) {z : Int} (hz : 0 ≤ z ∧ z ≤ k) (i : Nat) : Upto k (a.set i z) := fun y hy => by
  rcases List.mem_or_eq_of_mem_set hy with h1 | h1
  · exact h y h1
  · rw [h1]; exact hz
theorem Upto.mono {k k' : Int} {a : List Int} (h : Upto k a) (hk : k ≤ k') : Upto k' a := fun z hz => by have := h z hz; omega
theorem stepA_bd {x : Cell} (hx : x.lim) {n so k : Int} (hn : 0 ≤ n ∧ n ≤ 100000) (hs : 0 ≤ so ∧ so ≤ 4000) (hk : 0 ≤ k) {a : List Int} (h : Upto k a) (i : Nat) : Upto (k + 300000) (stepA x i n so a) := by
  have hg := give_bd hx hn
  have h1 : Upto (k + 100000) (if x.to = -1 then a else a.set x.to.toNat (a.getD x.to.toNat 0 + passd x n)) := by
    split
    · exact h.mono (by omega)
    · have := h.getD hk x.to.toNat
      exact (h.mono (by omega)).set (by omega) _
  have h2 := h1.getD (by omega) i
  exact (h1.mono (by omega)).set (by omega) _
theorem aft_bd {cs : List Cell} {bef : List Int} {so : Int} (hc : ∀ x ∈ cs, x.lim) (hb : Upto 100000 bef) (hs : 0 ≤ so ∧ so ≤ 4000) : ∀ i, i ≤ cs.length → Upto (300000 * i) (aftP cs bef so i)
  | 0, _ => fun z hz => by simp [aftP] at hz; omega
  | i + 1, hi => by
    have h := aft_bd hc hb hs i (by omega)
    have hx : cs.getD i default = cs[i]'(by omega) := by simp [show i < cs.length from by omega]
    have := stepA_bd (x := cs.getD i default) (by rw [hx]; exact hc _ (List.getElem_mem _)) (hb.getD (by omega) i) hs (by omega) h i
    rw [aftP]
    push_cast
    rw [show (300000 : Int) * (i + 1) = 300000 * i + 300000 from by omega]
    exact this
theorem cut_bd {cs : List Cell} {a : List Int} {k : Int} (hc : ∀ x ∈ cs, x.lim) (h : Upto k a) (hk : 0 ≤ k) : ∀ i, i ≤ cs.length → Upto k (cutP cs a i)
  | 0, _ => h
  | i + 1, hi => by
    have h1 := cut_bd hc h hk i (by omega)
    have h2 := h1.getD hk i
    have hx : cs.getD i default = cs[i]'(by omega) := by simp [show i < cs.length from by omega]
    have h3 := hc (cs.getD i default) (by rw [hx]; exact List.getElem_mem _)
    unfold Cell.lim at h3
    rw [cutP]
    exact h1.set (by omega) _
theorem left_bd {cs : List Cell} {bef : List Int} {down so : Int} (hc : ∀ x ∈ cs, x.lim) (hb : Upto 100000 bef) (hd : 0 ≤ down ∧ down ≤ 4000) (hs : 0 ≤ so ∧ so ≤ down) : ∀ i, i ≤ cs.length → Upto 100000 (leftP cs bef down so i) ∧ (leftP cs bef down so i).length ≤ 3 * i
  | 0, _ => ⟨nofun, by simp [leftP]⟩
  | i + 1, hi => by
    obtain ⟨h, hl⟩ := left_bd hc hb hd hs i (by omega)
    have hx : cs.getD i default = cs[i]'(by omega) := by simp [show i < cs.length from by omega]
    have hg := give_bd (x := cs.getD i default) (by rw [hx]; exact hc _ (List.getElem_mem _)) (hb.getD (by omega) i)
    have hb1 := hb.getD (by omega) i
    rw [leftP]
    constructor
    · intro z hz
      simp only [List.mem_append] at hz
      rcases hz with (hz | hz) | hz
      · exact h z hz
      · simp only [List.mem_cons, List.mem_singleton, List.not_mem_nil, or_false] at hz
        rcases hz with rfl | rfl <;> omega
      · split at hz
        · simp only [List.mem_singleton] at hz; omega
        · simp at hz
    · simp only [List.length_append, List.length_cons, List.length_nil]
      split <;> simp <;> omega
theorem over_bd {cs : List Cell} {a l : List Int} {k : Int} (hc : ∀ x ∈ cs, x.lim) (h : Upto k a) (hk : 0 ≤ k) (hl : Upto k l) : ∀ i, i ≤ cs.length → Upto k (overP cs a l i) ∧ (overP cs a l i).length = l.length + i
  | 0, _ => ⟨hl, rfl⟩
  | i + 1, hi => by
    obtain ⟨h1, h2⟩ := over_bd hc h hk hl i (by omega)
    have h3 := (cut_bd hc h hk i (by omega)).getD hk i
    have hx : cs.getD i default = cs[i]'(by omega) := by simp [show i < cs.length from by omega]
    have h4 := hc (cs.getD i default) (by rw [hx]; exact List.getElem_mem _)
    unfold Cell.lim at h4
    rw [overP]
    refine ⟨fun z hz => ?_, by simp [h2]; omega⟩
    rcases List.mem_append.1 hz with hz | hz
    · exact h1 z hz
    · simp only [List.mem_singleton] at hz; omega
theorem list8 {a : List Int} (h : a.length = 8) : ∃ a0 a1 a2 a3 a4 a5 a6 a7, a = [a0, a1, a2, a3, a4, a5, a6, a7] := by
  match a, h with
  | [a0, a1, a2, a3, a4, a5, a6, a7], _ => exact ⟨a0, a1, a2, a3, a4, a5, a6, a7, rfl⟩
theorem arr_get (a : List Int) (k : Nat) (h : k < a.length) : (a.map I)[0 + k * 1]? = some (I (a.getD k 0)) := by
  rw [Nat.zero_add, Nat.mul_one, List.getElem?_map, List.getElem?_eq_getElem h, List.getD_eq_getElem?_getD, List.getElem?_eq_getElem h]; rfl
theorem spl_set (a : List Int) (k : Nat) (z : Int) (h : k < a.length) : spl (a.map I) (0 + k * 1) (I z).cells = some ((a.set k z).map I) := by
  have e : spl (a.map I) (0 + k * 1) (I z).cells = (match Nat.ble (0 + k * 1 + 1) (a.map I).length with
    | true => some ((a.map I).take (0 + k * 1) ++ ([I z] ++ (a.map I).drop (0 + k * 1 + 1)))
    | false => none) := rfl
  rw [e, Nat.zero_add, Nat.mul_one, Nat.ble_eq_true_of_le (by simp; omega)]
  simp only
  rw [List.map_set, List.set_eq_take_append_cons_drop, if_pos (by simpa using h)]
  rfl
end
end Go.Ev

set_option maxRecDepth 100000
set_option linter.unusedSimpArgs false
set_option linter.unusedVariables false
namespace Go.Ev
open Go Go.Proofs
noncomputable section
theorem c82 (m : Nat) (cv dv lv rv : AV) (cs : List Cell) (g : Gr) (t : Tru) (bef : List Int) (down : Int) (H : Heap) (hR : Row H cv 7 (cs.map Cell.c)) (hn8 : cs.length ≤ 8) (hc : ∀ x ∈ cs, x.lim) (hto0 : toOk (cs.length : Int) 0 cs = true) (hbl : bef.length = 8) (hb : Upto 100000 bef) (hdw : 0 ≤ down ∧ down ≤ 4000) (hsk : 0 ≤ t.soak ∧ t.soak ≤ 1000) : RR (m + 2) (.fn 82 [.agg [cv, I g.slo, I g.shi, I g.klo, I g.khi, I g.melt, dv, I t.snow, I t.soak, lv, rv], .agg (bef.map I), I down]) H = some (.agg ((dayL cs bef down t.soak).map I ++ [I (dayO cs bef down t.soak), I 0]), H) := by
  refine (R_fn _ _ _ _ _).trans ?_; refine fn_ok Try.func82 rfl rfl (by kernel_rfl) (by kernel_rfl) ?_
  obtain ⟨W, hW, hg, hN, hE, hG⟩ := wOf H
  rw [← hW]
  have hlc0 : lenOf cv = some cs.length := by simpa using hR.len
  have pc : cv.plain = true := lpl hlc0
  have hb8 : bef.length = 8 := hbl
  have hmb := mul_bd (a := down) (b := t.soak) (p := 4000) (q := 1000) hdw hsk
  have hms := Int.mul_le_mul_of_nonneg_left hsk.2 hdw.1
  have hso : 0 ≤ (down * t.soak / 1000) ∧ (down * t.soak / 1000) ≤ down := by omega
  refine kS ?_; refine kR ?_; refine OkO.box rfl rfl ?_; refine OkO.box rfl rfl ?_; refine OkO.alloc (z := [.int .i64 0, .int .i64 0, .int .i64 0, .int .i64 0, .int .i64 0, .int .i64 0, .int .i64 0, .int .i64 0, .int .i64 0, .int .i64 0]) rfl (by kernel_rfl) ?_; refine oN ?_; refine kS ?_; refine kR ?_; refine oM rfl rfl ?_; refine oF (o := 7) rfl (by kernel_rfl) rfl ?_; refine oF (o := 1) rfl (by kernel_rfl) rfl ?_; refine oL rfl rfl (lda (n := 1) (by kernel_rfl) (by first | assumption | (simp (disch := first | omega | (simp only [hNw, hPt]; omega)) only [gN] <;> first | rfl | assumption)) (by first | rfl | assumption)) ?_; refine OkO.bin rfl rfl rfl (bin_mul (by omega) (by omega)) ?_; refine OkO.bin rfl rfl rfl (bin_quo (by omega) (by omega) (by omega)) ?_; refine oA rfl rfl ?_; refine oN ?_; refine kS ?_; refine kR ?_; refine OkO.alloc (z := [.int .i64 0, .int .i64 0, .int .i64 0, .int .i64 0, .int .i64 0, .int .i64 0, .int .i64 0, .int .i64 0]) rfl (by kernel_rfl) ?_; refine oN ?_; refine kS ?_; refine kR ?_; refine oA rfl rfl ?_; refine oN ?_; refine kS ?_; refine kS ?_; refine kR ?_; refine oF (o := 0) rfl (by kernel_rfl) rfl ?_; refine oF (o := 0) rfl (by kernel_rfl) rfl ?_; refine oL rfl rfl (lda (n := 1) (by kernel_rfl) (by first | assumption | (simp (disch := first | omega | (simp only [hNw, hPt]; omega)) only [gN] <;> first | rfl | assumption)) (by first | rfl | assumption)) ?_; refine oB rfl rfl rfl qbl ?_; refine oM rfl rfl ?_; refine oN ?_; refine Ok.block ?_
  refine Ok.loop (fun n s => ∃ (i : Nat) (v9 : AV), n = cs.length - i ∧ i ≤ cs.length ∧ Mine (W.next + 4) s.H v9 3 1 ((leftP cs bef down (down * t.soak / 1000) i).map I) ∧ Has 7 [(2, I down), (3, .ptr W.next 0), (4, .ptr (W.next + 1) 0), (6, .ptr (W.next + 2) 0), (7, I (down * t.soak / 1000)), (8, .ptr (W.next + 3) 0), (9, v9), (25, cv), (26, I cs.length), (27, I (i : Int))] s.T ∧ s.D = [] ∧ Grow W s.H ∧ s.H.get W.next = some (.cells [cv, I g.slo, I g.shi, I g.klo, I g.khi, I g.melt, dv, I t.snow, I t.soak, lv, rv] 110) ∧ s.H.get (W.next + 1) = some (.cells (bef.map I) 113) ∧ s.H.get (W.next + 2) = some (.cells [I 0, I 0, I 0, I 0, I 0, I 0, I 0, I 0, I 0, I 0] 115) ∧ s.H.get (W.next + 3) = some (.cells ((aftP cs bef (down * t.soak / 1000) i).map I) 113) ∧ W.next + 4 ≤ s.H.next) (cs.length) (by unfold loopFuel; omega)
    ⟨0, .nils, rfl, Nat.zero_le _, Mine.nil _ _ _ _, Has.of (by kernel_rfl), rfl, (by (try dsimp only); repeat (first | exact hG | apply Grow.new | (refine Grow.put ?_ _ (by first | omega | (simp only [hNw, hPt]; omega))))), (by simp (disch := first | omega | (simp only [hNw, hPt]; omega)) only [gN] <;> first | rfl | assumption), (by simp (disch := first | omega | (simp only [hNw, hPt]; omega)) only [gN] <;> first | rfl | assumption), (by simp (disch := first | omega | (simp only [hNw, hPt]; omega)) only [gN] <;> first | rfl | assumption), (by simp (disch := first | omega | (simp only [hNw, hPt]; omega)) only [gN] <;> first | rfl | assumption), by simp only [hNw, hPt]; omega⟩ ?_
  rintro n ⟨T, D, G⟩ ⟨i, v9, hn, hi, hm, ⟨f, hT⟩, hD, hg, f0G, f1G, f2G, f3G, hb4⟩
  dsimp only at *
  subst hT hD
  have hgn := hg.next
  have e0G : (G.get (W.next)).bind AObj.cs = some [cv, I g.slo, I g.shi, I g.klo, I g.khi, I g.melt, dv, I t.snow, I t.soak, lv, rv] := by rw [f0G]; rfl
  have e1G : (G.get (W.next + 1)).bind AObj.cs = some (bef.map I) := by rw [f1G]; rfl
  have e2G : (G.get (W.next + 2)).bind AObj.cs = some [I 0, I 0, I 0, I 0, I 0, I 0, I 0, I 0, I 0, I 0] := by rw [f2G]; rfl
  have e3G : (G.get (W.next + 3)).bind AObj.cs = some ((aftP cs bef (down * t.soak / 1000) i).map I) := by rw [f3G]; rfl
  refine kS ?_; refine kR ?_; refine OkO.bin rfl rfl rfl (bin_lss _ _) ?_; refine oN ?_; refine kS ?_
  refine Ok.cond rfl (fun h1 => ?_) (fun h1 => ?_)
  · have hlt : i < cs.length := by simpa using h1
    have hx0 : cs.getD i default = cs[i] := by simp [hlt]
    obtain ⟨bb, off, ccs, i1, i2, i3, i4⟩ := (hR.ext (hE _ hg)).at_ i cs[i].c (by simp [hlt])
    have hne : bb ≠ G.next := by omega
    have hxl : cs[i].lim := hc _ (List.getElem_mem hlt)
    have hbi := hb.getD (by omega) i
    have hgb := give_bd hxl hbi
    have hab := aft_bd (so := (down * t.soak / 1000)) hc hb (by omega) i (by omega)
    have halen := aft_len cs bef (down * t.soak / 1000) i
    have hlb := left_bd hc hb hdw hso i (by omega)
    have hai := hab.getD (by omega) i
    have hti := hab.getD (by omega) cs[i].to.toNat
    have p1 := arr_get bef i (by omega)
    have p2 := arr_get (aftP cs bef (down * t.soak / 1000) i) i (by omega)
    have i8 : i < (aftP cs bef (down * t.soak / 1000) i).length := by omega
    have hmlb := hlb.2
    refine Ok.skip ?_; refine kS ?_; refine Ok.block ?_; refine kS ?_; refine kR ?_; refine oM rfl rfl ?_; refine qX (sz := 7) (n := i) rfl rfl rfl ?_; refine oL rfl rfl (ldg (n := 7) (by kernel_rfl) (by first | assumption | (simp (disch := first | omega | (simp only [hNw, hPt]; omega)) only [gN] <;> first | rfl | assumption)) (by first | rfl | assumption)) ?_; refine OkO.alloc (z := [.int .i64 0, .int .i64 0, .int .i64 0, .int .i64 0, .int .i64 0, .int .i64 0, .int .i64 0]) rfl (by kernel_rfl) ?_; refine oA rfl rfl ?_; refine oT rfl rfl rfl (sAc (n := 7) (ag := true) (by kernel_rfl) (by first | assumption | (simp (disch := first | omega | (simp only [hNw, hPt]; omega)) only [gN] <;> first | rfl | assumption)) rfl rfl (by first | rfl | exact spl_set _ _ _ (by first | assumption | (simp; omega)))) ?_; refine oN ?_; refine kS ?_; refine Ok.drawn [(0, true, []), (1, true, []), (2, true, []), (3, true, []), (4, false, []), (5, true, []), (6, true, []), (7, true, []), (8, true, []), (9, true, [])] (by kernel_rfl) ?_; refine pS ?_; refine oL rfl rfl (ldg (n := 7) (by kernel_rfl) (by first | assumption | (simp (disch := first | omega | (simp only [hNw, hPt]; omega)) only [gN] <;> first | rfl | assumption)) (by first | rfl | assumption)) ?_; refine oN ⟨rfl, ?_⟩; refine pS ?_; refine oM rfl rfl ?_; refine oN ⟨rfl, ?_⟩; refine pS ?_; refine OkO.indexArr (len := 8) (sz := 1) (n := i) rfl rfl rfl (by kernel_rfl) (by omega) ?_; refine oN ⟨rfl, ?_⟩; refine pS ?_; refine oL rfl rfl (lda (n := 1) (by kernel_rfl) (by first | assumption | (simp (disch := first | omega | (simp only [hNw, hPt]; omega)) only [gN] <;> first | rfl | assumption)) (by first | rfl | assumption)) ?_; refine oN ⟨rfl, ?_⟩; refine pS ?_; refine oV rfl rfl rfl rfl rfl (c104 _ cs[i] (bef.getD i 0) _ hxl hbi) ?_; refine oN ⟨rfl, ?_⟩; refine pS ?_; refine oM rfl rfl ?_; refine oN ⟨rfl, ?_⟩; refine pS ?_; refine OkO.extract rfl rfl rfl ?_; refine oN ⟨rfl, ?_⟩; refine pS ?_; refine OkO.extract rfl rfl rfl ?_; refine oN ⟨rfl, ?_⟩; refine pS ?_; refine oA rfl rfl ?_; refine oN ⟨rfl, ?_⟩; refine pS ?_; refine oA rfl rfl ?_; refine oN ⟨rfl, ?_⟩; refine OkP.nil ?_; refine kS ?_; refine kR ?_; refine oM rfl rfl ?_; refine oM rfl rfl ?_; refine oM rfl rfl ?_; refine OkO.bin rfl rfl rfl (bin_sub (by omega) (by omega)) ?_; refine oM rfl rfl ?_; refine OkO.buildSlice (el := 3) (sz := 1) (z := [.int .i64 0]) rfl (by kernel_rfl) (by decide) rfl rfl ?_; refine OkO.builtinE rfl rfl rfl (Mine.app2 (k0 := W.next + 4) (sz := 1) (by_ := 8) (e := 3) (n := 2) (new := [I (down - (down * t.soak / 1000)), I (pumpd cs[i] (bef.getD i 0))]) (hm.to (by (try dsimp only); repeat (first | exact Ext.refl _ | assumption | apply Ext.new | (refine Ext.put ?_ _ (by first | omega | (simp only [hNw, hPt]; omega)))))) (by (try dsimp only); repeat (first | (first | exact hg | exact hG) | apply Grow.new | (refine Grow.put ?_ _ (by first | omega | (simp only [hNw, hPt]; omega))))) (by omega) (by first | omega | (simp only [hNw, hPt]; omega)) (by kernel_rfl) (by kernel_rfl) (elems_new (n := 2) (sz := 1) rfl) rfl rfl (by simp only [List.length_append, List.length_map, List.length_cons, List.length_nil]; omega) (by omega) (by omega) rfl) ?_
    rintro vP1 P1 ⟨q1P1, q2P1, q3P1, q4P1, q5P1, q6P1⟩
    have hnP1 : G.next + 1 ≤ P1.next := by have := q3P1.next; simp only [hNw, hPt] at this; omega
    have f0P1 : P1.get (W.next) = some (.cells [cv, I g.slo, I g.shi, I g.klo, I g.khi, I g.melt, dv, I t.snow, I t.soak, lv, rv] 110) := by rw [q3P1.get _ (by omega) (by first | omega | (simp only [hNw, hPt]; omega))]; first | exact f0G | (simp (disch := first | omega | (simp only [hNw, hPt]; omega)) only [gN] <;> first | rfl | assumption)
    have e0P1 : (P1.get (W.next)).bind AObj.cs = some [cv, I g.slo, I g.shi, I g.klo, I g.khi, I g.melt, dv, I t.snow, I t.soak, lv, rv] := by rw [f0P1]; rfl
    have f1P1 : P1.get (W.next + 1) = some (.cells (bef.map I) 113) := by rw [q3P1.get _ (by omega) (by first | omega | (simp only [hNw, hPt]; omega))]; first | exact f1G | (simp (disch := first | omega | (simp only [hNw, hPt]; omega)) only [gN] <;> first | rfl | assumption)
    have e1P1 : (P1.get (W.next + 1)).bind AObj.cs = some (bef.map I) := by rw [f1P1]; rfl
    have f2P1 : P1.get (W.next + 2) = some (.cells [I 0, I 0, I 0, I 0, I 0, I 0, I 0, I 0, I 0, I 0] 115) := by rw [q3P1.get _ (by omega) (by first | omega | (simp only [hNw, hPt]; omega))]; first | exact f2G | (simp (disch := first | omega | (simp only [hNw, hPt]; omega)) only [gN] <;> first | rfl | assumption)
    have e2P1 : (P1.get (W.next + 2)).bind AObj.cs = some [I 0, I 0, I 0, I 0, I 0, I 0, I 0, I 0, I 0, I 0] := by rw [f2P1]; rfl
    have f3P1 : P1.get (W.next + 3) = some (.cells ((aftP cs bef (down * t.soak / 1000) i).map I) 113) := by rw [q3P1.get _ (by omega) (by first | omega | (simp only [hNw, hPt]; omega))]; first | exact f3G | (simp (disch := first | omega | (simp only [hNw, hPt]; omega)) only [gN] <;> first | rfl | assumption)
    have e3P1 : (P1.get (W.next + 3)).bind AObj.cs = some ((aftP cs bef (down * t.soak / 1000) i).map I) := by rw [f3P1]; rfl
    have f4P1 : P1.get G.next = some (.cells (cs[i]).c 80) := by rw [q4P1 _ (by first | omega | (simp only [hNw, hPt]; omega)) (by rintro m rfl; rcases hm with ⟨h, _⟩ | ⟨b, k, h, _, _, _, h6⟩ <;> cases h; omega)]; first | assumption | (simp (disch := first | omega | (simp only [hNw, hPt]; omega)) only [gN] <;> first | rfl | assumption)
    have e4P1 : (P1.get G.next).bind AObj.cs = some (cs[i]).c := by rw [f4P1]; rfl
    refine oA rfl rfl ?_; refine oN ?_; refine kS ?_; refine kS ?_; refine kR ?_; refine oF (o := 5) rfl (by kernel_rfl) rfl ?_; refine oL rfl rfl (lda (n := 1) (by kernel_rfl) (by first | assumption | (simp (disch := first | omega | (simp only [hNw, hPt]; omega)) only [gN] <;> first | rfl | assumption)) (by first | rfl | assumption)) ?_; refine OkO.bin rfl rfl rfl (bin_eql _ _) ?_; refine oN ?_
    refine Ok.cond rfl (fun h2 => ?_) (fun h2 => ?_)
    · have hto : cs[i].to = -1 := by simpa using h2
      refine kR ?_; refine oM rfl rfl ?_; refine oM rfl rfl ?_; refine OkO.buildSlice (el := 3) (sz := 1) (z := [.int .i64 0]) rfl (by kernel_rfl) (by decide) rfl rfl ?_; refine OkO.builtinE rfl rfl rfl (Mine.app2 (k0 := W.next + 4) (sz := 1) (by_ := 8) (e := 3) (n := 1) (new := [I (passd cs[i] (bef.getD i 0))]) (q1P1.to (by (try dsimp only); repeat (first | exact Ext.refl _ | assumption | apply Ext.new | (refine Ext.put ?_ _ (by first | omega | (simp only [hNw, hPt]; omega)))))) (by (try dsimp only); repeat (first | exact q2P1 | exact hg | exact hG | apply Grow.new | (refine Grow.put ?_ _ (by first | omega | (simp only [hNw, hPt]; omega))))) (by omega) (by first | omega | (simp only [hNw, hPt]; omega)) (by kernel_rfl) (by kernel_rfl) (elems_new (n := 1) (sz := 1) rfl) rfl rfl (by simp only [List.length_append, List.length_map, List.length_cons, List.length_nil]; omega) (by omega) (by omega) rfl) ?_
      rintro vP2 P2 ⟨q1P2, q2P2, q3P2, q4P2, q5P2, q6P2⟩
      have hnP2 : G.next + 1 ≤ P2.next := by have := q3P2.next; simp only [hNw, hPt] at this; omega
      have f0P2 : P2.get (W.next) = some (.cells [cv, I g.slo, I g.shi, I g.klo, I g.khi, I g.melt, dv, I t.snow, I t.soak, lv, rv] 110) := by rw [q3P2.get _ (by omega) (by first | omega | (simp only [hNw, hPt]; omega))]; first | exact f0P1 | (simp (disch := first | omega | (simp only [hNw, hPt]; omega)) only [gN] <;> first | rfl | assumption)
      have e0P2 : (P2.get (W.next)).bind AObj.cs = some [cv, I g.slo, I g.shi, I g.klo, I g.khi, I g.melt, dv, I t.snow, I t.soak, lv, rv] := by rw [f0P2]; rfl
      have f1P2 : P2.get (W.next + 1) = some (.cells (bef.map I) 113) := by rw [q3P2.get _ (by omega) (by first | omega | (simp only [hNw, hPt]; omega))]; first | exact f1P1 | (simp (disch := first | omega | (simp only [hNw, hPt]; omega)) only [gN] <;> first | rfl | assumption)
      have e1P2 : (P2.get (W.next + 1)).bind AObj.cs = some (bef.map I) := by rw [f1P2]; rfl
      have f2P2 : P2.get (W.next + 2) = some (.cells [I 0, I 0, I 0, I 0, I 0, I 0, I 0, I 0, I 0, I 0] 115) := by rw [q3P2.get _ (by omega) (by first | omega | (simp only [hNw, hPt]; omega))]; first | exact f2P1 | (simp (disch := first | omega | (simp only [hNw, hPt]; omega)) only [gN] <;> first | rfl | assumption)
      have e2P2 : (P2.get (W.next + 2)).bind AObj.cs = some [I 0, I 0, I 0, I 0, I 0, I 0, I 0, I 0, I 0, I 0] := by rw [f2P2]; rfl
      have f3P2 : P2.get (W.next + 3) = some (.cells ((aftP cs bef (down * t.soak / 1000) i).map I) 113) := by rw [q3P2.get _ (by omega) (by first | omega | (simp only [hNw, hPt]; omega))]; first | exact f3P1 | (simp (disch := first | omega | (simp only [hNw, hPt]; omega)) only [gN] <;> first | rfl | assumption)
      have e3P2 : (P2.get (W.next + 3)).bind AObj.cs = some ((aftP cs bef (down * t.soak / 1000) i).map I) := by rw [f3P2]; rfl
      have f4P2 : P2.get G.next = some (.cells (cs[i]).c 80) := by rw [q4P2 _ (by first | omega | (simp only [hNw, hPt]; omega)) (by rintro m rfl; obtain ⟨w, hw⟩ := q6P1; simp only [AV.opn.injEq, hNw, hPt] at hw; omega)]; first | assumption | (simp (disch := first | omega | (simp only [hNw, hPt]; omega)) only [gN] <;> first | rfl | assumption)
      have e4P2 : (P2.get G.next).bind AObj.cs = some (cs[i]).c := by rw [f4P2]; rfl
      refine oA rfl rfl ?_; refine oN ?_; refine Ok.drawn [(0, true, []), (1, true, []), (2, true, []), (3, true, []), (4, true, []), (5, true, []), (6, true, []), (7, true, []), (8, true, []), (9, true, []), (10, true, []), (11, true, []), (12, true, []), (13, true, []), (14, false, [])] (by kernel_rfl) ?_; refine pS ?_; refine oM rfl rfl ?_; refine oN ⟨rfl, ?_⟩; refine pS ?_; refine OkO.indexArr (len := 8) (sz := 1) (n := i) rfl rfl rfl (by kernel_rfl) (by omega) ?_; refine oN ⟨rfl, ?_⟩; refine pS ?_; refine oL rfl rfl (lda (n := 1) (by kernel_rfl) (by first | assumption | (simp (disch := first | omega | (simp only [hNw, hPt]; omega)) only [gN] <;> first | rfl | assumption)) (by first | rfl | assumption)) ?_; refine oN ⟨rfl, ?_⟩; refine pS ?_; refine oM rfl rfl ?_; refine oN ⟨rfl, ?_⟩; refine pS ?_; refine OkO.indexArr (len := 8) (sz := 1) (n := i) rfl rfl rfl (by kernel_rfl) (by omega) ?_; refine oN ⟨rfl, ?_⟩; refine pS ?_; refine oL rfl rfl (lda (n := 1) (by kernel_rfl) (by first | assumption | (simp (disch := first | omega | (simp only [hNw, hPt]; omega)) only [gN] <;> first | rfl | assumption)) (by first | rfl | assumption)) ?_; refine oN ⟨rfl, ?_⟩; refine pS ?_; refine oM rfl rfl ?_; refine oN ⟨rfl, ?_⟩; refine pS ?_; refine OkO.bin rfl rfl rfl (bin_sub (by omega) (by omega)) ?_; refine oN ⟨rfl, ?_⟩; refine pS ?_; refine oM rfl rfl ?_; refine oN ⟨rfl, ?_⟩; refine pS ?_; refine OkO.bin rfl rfl rfl (bin_sub (by omega) (by omega)) ?_; refine oN ⟨rfl, ?_⟩; refine pS ?_; refine oM rfl rfl ?_; refine oN ⟨rfl, ?_⟩; refine pS ?_; refine OkO.bin rfl rfl rfl (bin_add (by omega) (by omega)) ?_; refine oN ⟨rfl, ?_⟩; refine pS ?_; refine OkO.bin rfl rfl rfl (bin_add (by omega) (by omega)) ?_; refine oN ⟨rfl, ?_⟩; refine pS ?_; refine OkO.indexArr (len := 8) (sz := 1) (n := i) rfl rfl rfl (by kernel_rfl) (by omega) ?_; refine oN ⟨rfl, ?_⟩; refine pS ?_; refine oT rfl rfl rfl (sAc (n := 1) (ag := false) (by kernel_rfl) (by first | assumption | (simp (disch := first | omega | (simp only [hNw, hPt]; omega)) only [gN] <;> first | rfl | assumption)) rfl rfl (by first | rfl | exact spl_set _ _ _ (by first | assumption | (simp; omega)))) ?_; refine oN ⟨rfl, ?_⟩; refine OkP.nil ?_; refine kR ?_; refine OkO.bin rfl rfl rfl (bin_add (by omega) (by omega)) ?_; refine oM rfl rfl ?_; refine oN ?_
      refine ⟨cs.length - (i + 1), by omega, i + 1, vP2, rfl, hlt, ?_, Has.of (by kernel_rfl), rfl, (by (try dsimp only); repeat (first | exact q2P2 | exact q2P1 | exact hg | exact hG | apply Grow.new | (refine Grow.put ?_ _ (by first | omega | (simp only [hNw, hPt]; omega))))), (by first | assumption | (simp (disch := first | omega | (simp only [hNw, hPt]; omega)) only [gN] <;> first | rfl | assumption)), (by first | assumption | (simp (disch := first | omega | (simp only [hNw, hPt]; omega)) only [gN] <;> first | rfl | assumption)), (by first | assumption | (simp (disch := first | omega | (simp only [hNw, hPt]; omega)) only [gN] <;> first | rfl | assumption)), ?_, by first | omega | (simp only [hNw, hPt]; omega)⟩
      · have hL : leftP cs bef down (down * t.soak / 1000) (i + 1) = (leftP cs bef down (down * t.soak / 1000) i ++ [down - (down * t.soak / 1000), pumpd cs[i] (bef.getD i 0)]) ++ [passd cs[i] (bef.getD i 0)] := by rw [leftP, hx0]; simp [hto]
        rw [hL]; exact (by have q := q1P2; simp only [List.map_append, List.map_cons, List.map_nil] at q ⊢; (try dsimp only); (repeat (refine Mine.put ?_ _ (by omega))); exact q)
      · have hA : aftP cs bef (down * t.soak / 1000) (i + 1) = (aftP cs bef (down * t.soak / 1000) i).set i ((aftP cs bef (down * t.soak / 1000) i).getD i 0 + (bef.getD i 0 - pumpd cs[i] (bef.getD i 0) - passd cs[i] (bef.getD i 0) + (down * t.soak / 1000))) := by rw [aftP, hx0, stepA, if_pos hto]
        rw [hA]; first | assumption | (simp (disch := first | omega | (simp only [hNw, hPt]; omega)) only [gN] <;> first | rfl | assumption)
    · have hnt : ¬cs[i].to = -1 := by simpa using h2
      have hto2 := (toOk_iff _ _ _).1 hto0 i cs[i] (List.getElem?_eq_getElem hlt)
      have hto3 : cs[i].to = ((cs[i].to.toNat : Nat) : Int) := by (have h4 := hto2.1; simp [inB] at h4; omega)
      have hto4 : cs[i].to.toNat < 8 := by (have h4 := hto2.1; simp [inB] at h4; omega)
      have t8 : cs[i].to.toNat < (aftP cs bef (down * t.soak / 1000) i).length := by omega
      have p3 := arr_get (aftP cs bef (down * t.soak / 1000) i) cs[i].to.toNat t8
      have i9 : i < (((aftP cs bef (down * t.soak / 1000) i).set cs[i].to.toNat ((aftP cs bef (down * t.soak / 1000) i).getD cs[i].to.toNat 0 + passd cs[i] (bef.getD i 0)))).length := by rw [List.length_set]; omega
      have p4 := arr_get ((aftP cs bef (down * t.soak / 1000) i).set cs[i].to.toNat ((aftP cs bef (down * t.soak / 1000) i).getD cs[i].to.toNat 0 + passd cs[i] (bef.getD i 0))) i i9
      have hb9 := ((hab.mono (show (300000 : Int) * i ≤ 300000 * i + 100000 by omega)).set (z := (aftP cs bef (down * t.soak / 1000) i).getD cs[i].to.toNat 0 + passd cs[i] (bef.getD i 0)) (by omega) cs[i].to.toNat).getD (by omega) i
      refine kR ?_; refine oF (o := 5) rfl (by kernel_rfl) rfl ?_; refine oL rfl rfl (lda (n := 1) (by kernel_rfl) (by first | assumption | (simp (disch := first | omega | (simp only [hNw, hPt]; omega)) only [gN] <;> first | rfl | assumption)) (by first | rfl | assumption)) ?_; refine OkO.indexArr (len := 8) (sz := 1) (n := cs[i].to.toNat) rfl rfl (congrArg (fun z => some (I z)) hto3) (by kernel_rfl) (by omega) ?_; refine oL rfl rfl (lda (n := 1) (by kernel_rfl) (by first | assumption | (simp (disch := first | omega | (simp only [hNw, hPt]; omega)) only [gN] <;> first | rfl | assumption)) (by first | rfl | assumption)) ?_; refine oM rfl rfl ?_; refine OkO.bin rfl rfl rfl (bin_add (by omega) (by omega)) ?_; refine OkO.indexArr (len := 8) (sz := 1) (n := cs[i].to.toNat) rfl rfl (congrArg (fun z => some (I z)) hto3) (by kernel_rfl) (by omega) ?_; refine oT rfl rfl rfl (sAc (n := 1) (ag := false) (by kernel_rfl) (by first | assumption | (simp (disch := first | omega | (simp only [hNw, hPt]; omega)) only [gN] <;> first | rfl | assumption)) rfl rfl (by first | rfl | exact spl_set _ _ _ (by first | assumption | (simp; omega)))) ?_; refine oN ?_; refine Ok.drawn [(0, true, []), (1, true, []), (2, true, []), (3, true, []), (4, true, []), (5, true, []), (6, true, []), (7, true, []), (8, true, []), (9, true, []), (10, true, []), (11, true, []), (12, true, []), (13, true, []), (14, false, [])] (by kernel_rfl) ?_; refine pS ?_; refine oM rfl rfl ?_; refine oN ⟨rfl, ?_⟩; refine pS ?_; refine OkO.indexArr (len := 8) (sz := 1) (n := i) rfl rfl rfl (by kernel_rfl) (by omega) ?_; refine oN ⟨rfl, ?_⟩; refine pS ?_; refine oL rfl rfl (lda (n := 1) (by kernel_rfl) (by first | assumption | (simp (disch := first | omega | (simp only [hNw, hPt]; omega)) only [gN] <;> first | rfl | assumption)) (by first | rfl | assumption)) ?_; refine oN ⟨rfl, ?_⟩; refine pS ?_; refine oM rfl rfl ?_; refine oN ⟨rfl, ?_⟩; refine pS ?_; refine OkO.indexArr (len := 8) (sz := 1) (n := i) rfl rfl rfl (by kernel_rfl) (by omega) ?_; refine oN ⟨rfl, ?_⟩; refine pS ?_; refine oL rfl rfl (lda (n := 1) (by kernel_rfl) (by first | assumption | (simp (disch := first | omega | (simp only [hNw, hPt]; omega)) only [gN] <;> first | rfl | assumption)) (by first | rfl | assumption)) ?_; refine oN ⟨rfl, ?_⟩; refine pS ?_; refine oM rfl rfl ?_; refine oN ⟨rfl, ?_⟩; refine pS ?_; refine OkO.bin rfl rfl rfl (bin_sub (by omega) (by omega)) ?_; refine oN ⟨rfl, ?_⟩; refine pS ?_; refine oM rfl rfl ?_; refine oN ⟨rfl, ?_⟩; refine pS ?_; refine OkO.bin rfl rfl rfl (bin_sub (by omega) (by omega)) ?_; refine oN ⟨rfl, ?_⟩; refine pS ?_; refine oM rfl rfl ?_; refine oN ⟨rfl, ?_⟩; refine pS ?_; refine OkO.bin rfl rfl rfl (bin_add (by omega) (by omega)) ?_; refine oN ⟨rfl, ?_⟩; refine pS ?_; refine OkO.bin rfl rfl rfl (bin_add (by omega) (by omega)) ?_; refine oN ⟨rfl, ?_⟩; refine pS ?_; refine OkO.indexArr (len := 8) (sz := 1) (n := i) rfl rfl rfl (by kernel_rfl) (by omega) ?_; refine oN ⟨rfl, ?_⟩; refine pS ?_; refine oT rfl rfl rfl (sAc (n := 1) (ag := false) (by kernel_rfl) (by first | assumption | (simp (disch := first | omega | (simp only [hNw, hPt]; omega)) only [gN] <;> first | rfl | assumption)) rfl rfl (by first | rfl | exact spl_set _ _ _ (by first | assumption | (simp; omega)))) ?_; refine oN ⟨rfl, ?_⟩; refine OkP.nil ?_; refine kR ?_; refine OkO.bin rfl rfl rfl (bin_add (by omega) (by omega)) ?_; refine oM rfl rfl ?_; refine oN ?_
      refine ⟨cs.length - (i + 1), by omega, i + 1, vP1, rfl, hlt, ?_, Has.of (by kernel_rfl), rfl, (by (try dsimp only); repeat (first | exact q2P1 | exact hg | exact hG | apply Grow.new | (refine Grow.put ?_ _ (by first | omega | (simp only [hNw, hPt]; omega))))), (by first | assumption | (simp (disch := first | omega | (simp only [hNw, hPt]; omega)) only [gN] <;> first | rfl | assumption)), (by first | assumption | (simp (disch := first | omega | (simp only [hNw, hPt]; omega)) only [gN] <;> first | rfl | assumption)), (by first | assumption | (simp (disch := first | omega | (simp only [hNw, hPt]; omega)) only [gN] <;> first | rfl | assumption)), ?_, by first | omega | (simp only [hNw, hPt]; omega)⟩
      · have hL : leftP cs bef down (down * t.soak / 1000) (i + 1) = leftP cs bef down (down * t.soak / 1000) i ++ [down - (down * t.soak / 1000), pumpd cs[i] (bef.getD i 0)] := by rw [leftP, hx0]; simp [hnt]
        rw [hL]; exact (by have q := q1P1; simp only [List.map_append, List.map_cons, List.map_nil] at q ⊢; (try dsimp only); (repeat (refine Mine.put ?_ _ (by omega))); exact q)
      · have hA : aftP cs bef (down * t.soak / 1000) (i + 1) = ((aftP cs bef (down * t.soak / 1000) i).set cs[i].to.toNat ((aftP cs bef (down * t.soak / 1000) i).getD cs[i].to.toNat 0 + passd cs[i] (bef.getD i 0))).set i (((aftP cs bef (down * t.soak / 1000) i).set cs[i].to.toNat ((aftP cs bef (down * t.soak / 1000) i).getD cs[i].to.toNat 0 + passd cs[i] (bef.getD i 0))).getD i 0 + (bef.getD i 0 - pumpd cs[i] (bef.getD i 0) - passd cs[i] (bef.getD i 0) + (down * t.soak / 1000))) := by rw [aftP, hx0, stepA, if_neg hnt]
        rw [hA]; first | assumption | (simp (disch := first | omega | (simp only [hNw, hPt]; omega)) only [gN] <;> first | rfl | assumption)
  · have hge : i = cs.length := by simp at h1; omega
    subst hge
    have haB := aft_bd (so := (down * t.soak / 1000)) hc hb (by omega) cs.length (Nat.le_refl _)
    have hlB := left_bd hc hb hdw hso cs.length (Nat.le_refl _)
    have halen := aft_len cs bef (down * t.soak / 1000) cs.length
    have F3 := f3G
    refine Ok.exit ?_; refine kS ?_; refine kS ?_; refine kR ?_; refine oF (o := 0) rfl (by kernel_rfl) rfl ?_; refine oF (o := 0) rfl (by kernel_rfl) rfl ?_; refine oL rfl rfl (lda (n := 1) (by kernel_rfl) (by first | assumption | (simp (disch := first | omega | (simp only [hNw, hPt]; omega)) only [gN] <;> first | rfl | assumption)) (by first | rfl | assumption)) ?_; refine oB rfl rfl rfl qbl ?_; refine oM rfl rfl ?_; refine oN ?_; refine Ok.block ?_
    refine Ok.loop (fun n s => ∃ (i : Nat) (v9 : AV), n = cs.length - i ∧ i ≤ cs.length ∧ Mine (W.next + 4) s.H v9 3 1 ((overP cs (aftP cs bef (down * t.soak / 1000) cs.length) (leftP cs bef down (down * t.soak / 1000) cs.length) i).map I) ∧ Has 7 [(3, .ptr W.next 0), (4, .ptr (W.next + 1) 0), (6, .ptr (W.next + 2) 0), (8, .ptr (W.next + 3) 0), (9, v9), (78, cv), (79, I cs.length), (80, I (i : Int))] s.T ∧ s.D = [] ∧ Grow W s.H ∧ s.H.get W.next = some (.cells [cv, I g.slo, I g.shi, I g.klo, I g.khi, I g.melt, dv, I t.snow, I t.soak, lv, rv] 110) ∧ s.H.get (W.next + 1) = some (.cells (bef.map I) 113) ∧ s.H.get (W.next + 2) = some (.cells [I 0, I 0, I 0, I 0, I 0, I 0, I 0, I 0, I 0, I 0] 115) ∧ s.H.get (W.next + 3) = some (.cells ((cutP cs (aftP cs bef (down * t.soak / 1000) cs.length) i).map I) 113) ∧ W.next + 4 ≤ s.H.next) (cs.length) (by unfold loopFuel; omega)
      ⟨0, v9, rfl, Nat.zero_le _, hm, Has.of (by kernel_rfl), rfl, hg, f0G, f1G, f2G, f3G, hb4⟩ ?_
    rintro n ⟨T, D, G⟩ ⟨i, v9, hn, hi, hm, ⟨f, hT⟩, hD, hg, f0G, f1G, f2G, f3G, hb4⟩
    dsimp only at *
    subst hT hD
    have hgn := hg.next
    have e0G : (G.get (W.next)).bind AObj.cs = some [cv, I g.slo, I g.shi, I g.klo, I g.khi, I g.melt, dv, I t.snow, I t.soak, lv, rv] := by rw [f0G]; rfl
    have e1G : (G.get (W.next + 1)).bind AObj.cs = some (bef.map I) := by rw [f1G]; rfl
    have e2G : (G.get (W.next + 2)).bind AObj.cs = some [I 0, I 0, I 0, I 0, I 0, I 0, I 0, I 0, I 0, I 0] := by rw [f2G]; rfl
    have e3G : (G.get (W.next + 3)).bind AObj.cs = some ((cutP cs (aftP cs bef (down * t.soak / 1000) cs.length) i).map I) := by rw [f3G]; rfl
    refine kS ?_; refine kR ?_; refine OkO.bin rfl rfl rfl (bin_lss _ _) ?_; refine oN ?_; refine kS ?_
    refine Ok.cond rfl (fun h3 => ?_) (fun h3 => ?_)
    · have hlt : i < cs.length := by simpa using h3
      have hx0 : cs.getD i default = cs[i] := by simp [hlt]
      obtain ⟨bb, off, ccs, i1, i2, i3, i4⟩ := (hR.ext (hE _ hg)).at_ i cs[i].c (by simp [hlt])
      have hne : bb ≠ G.next := by omega
      have hxl : cs[i].lim := hc _ (List.getElem_mem hlt)
      have hcb := (cut_bd hc haB (by omega) i (by omega)).getD (by omega) i
      have hob := over_bd (k := 3000000) hc (haB.mono (by omega)) (by omega) (hlB.1.mono (by omega)) i (by omega)
      have hclen : (cutP cs (aftP cs bef (down * t.soak / 1000) cs.length) i).length = 8 := by rw [cut_len, aft_len]
      have p1 := arr_get (cutP cs (aftP cs bef (down * t.soak / 1000) cs.length) i) i (by omega)
      have i8 : i < (cutP cs (aftP cs bef (down * t.soak / 1000) cs.length) i).length := by omega
      have hlc : cs[i].lim := hxl
      unfold Cell.lim at hlc
      refine Ok.skip ?_; refine kS ?_; refine Ok.block ?_; refine kS ?_; refine kR ?_; refine oM rfl rfl ?_; refine qX (sz := 7) (n := i) rfl rfl rfl ?_; refine oL rfl rfl (ldg (n := 7) (by kernel_rfl) (by first | assumption | (simp (disch := first | omega | (simp only [hNw, hPt]; omega)) only [gN] <;> first | rfl | assumption)) (by first | rfl | assumption)) ?_; refine OkO.alloc (z := [.int .i64 0, .int .i64 0, .int .i64 0, .int .i64 0, .int .i64 0, .int .i64 0, .int .i64 0]) rfl (by kernel_rfl) ?_; refine oA rfl rfl ?_; refine oT rfl rfl rfl (sAc (n := 7) (ag := true) (by kernel_rfl) (by first | assumption | (simp (disch := first | omega | (simp only [hNw, hPt]; omega)) only [gN] <;> first | rfl | assumption)) rfl rfl (by first | rfl | exact spl_set _ _ _ (by first | assumption | (simp; omega)))) ?_; refine oN ?_; refine kS ?_; refine Ok.drawn [(0, true, []), (1, true, []), (2, true, []), (3, true, []), (4, true, []), (5, true, []), (6, true, []), (7, true, [])] (by kernel_rfl) ?_; refine pS ?_; refine oM rfl rfl ?_; refine oN ⟨rfl, ?_⟩; refine pS ?_; refine OkO.indexArr (len := 8) (sz := 1) (n := i) rfl rfl rfl (by kernel_rfl) (by omega) ?_; refine oN ⟨rfl, ?_⟩; refine pS ?_; refine oL rfl rfl (lda (n := 1) (by kernel_rfl) (by first | assumption | (simp (disch := first | omega | (simp only [hNw, hPt]; omega)) only [gN] <;> first | rfl | assumption)) (by first | rfl | assumption)) ?_; refine oN ⟨rfl, ?_⟩; refine pS ?_; refine oF (o := 2) rfl (by kernel_rfl) rfl ?_; refine oN ⟨rfl, ?_⟩; refine pS ?_; refine oL rfl rfl (lda (n := 1) (by kernel_rfl) (by first | assumption | (simp (disch := first | omega | (simp only [hNw, hPt]; omega)) only [gN] <;> first | rfl | assumption)) (by first | rfl | assumption)) ?_; refine oN ⟨rfl, ?_⟩; refine pS ?_; refine OkO.bin rfl rfl rfl (bin_sub (by omega) (by omega)) ?_; refine oN ⟨rfl, ?_⟩; refine pS ?_; refine oB rfl rfl rfl (builtin_max2 _ _) ?_; refine oN ⟨rfl, ?_⟩; refine pS ?_; refine oA rfl rfl ?_; refine oN ⟨rfl, ?_⟩; refine OkP.nil ?_; refine kS ?_; refine kR ?_; refine oM rfl rfl ?_; refine oM rfl rfl ?_; refine OkO.buildSlice (el := 3) (sz := 1) (z := [.int .i64 0]) rfl (by kernel_rfl) (by decide) rfl rfl ?_; refine OkO.builtinE rfl rfl rfl (Mine.app2 (k0 := W.next + 4) (sz := 1) (by_ := 8) (e := 3) (n := 1) (new := [I (max ((cutP cs (aftP cs bef (down * t.soak / 1000) cs.length) i).getD i 0 - cs[i].cap) 0)]) (hm.to (by (try dsimp only); repeat (first | exact Ext.refl _ | assumption | apply Ext.new | (refine Ext.put ?_ _ (by first | omega | (simp only [hNw, hPt]; omega)))))) (by (try dsimp only); repeat (first | (first | exact hg | exact hG) | apply Grow.new | (refine Grow.put ?_ _ (by first | omega | (simp only [hNw, hPt]; omega))))) (by omega) (by first | omega | (simp only [hNw, hPt]; omega)) (by kernel_rfl) (by kernel_rfl) (elems_new (n := 1) (sz := 1) rfl) rfl rfl (by simp only [List.length_append, List.length_map, List.length_cons, List.length_nil]; omega) (by omega) (by omega) rfl) ?_
      rintro vP4 P4 ⟨q1P4, q2P4, q3P4, q4P4, q5P4, q6P4⟩
      have hnP4 : G.next + 1 ≤ P4.next := by have := q3P4.next; simp only [hNw, hPt] at this; omega
      have f0P4 : P4.get (W.next) = some (.cells [cv, I g.slo, I g.shi, I g.klo, I g.khi, I g.melt, dv, I t.snow, I t.soak, lv, rv] 110) := by rw [q3P4.get _ (by omega) (by first | omega | (simp only [hNw, hPt]; omega))]; first | exact f0G | (simp (disch := first | omega | (simp only [hNw, hPt]; omega)) only [gN] <;> first | rfl | assumption)
      have e0P4 : (P4.get (W.next)).bind AObj.cs = some [cv, I g.slo, I g.shi, I g.klo, I g.khi, I g.melt, dv, I t.snow, I t.soak, lv, rv] := by rw [f0P4]; rfl
      have f1P4 : P4.get (W.next + 1) = some (.cells (bef.map I) 113) := by rw [q3P4.get _ (by omega) (by first | omega | (simp only [hNw, hPt]; omega))]; first | exact f1G | (simp (disch := first | omega | (simp only [hNw, hPt]; omega)) only [gN] <;> first | rfl | assumption)
      have e1P4 : (P4.get (W.next + 1)).bind AObj.cs = some (bef.map I) := by rw [f1P4]; rfl
      have f2P4 : P4.get (W.next + 2) = some (.cells [I 0, I 0, I 0, I 0, I 0, I 0, I 0, I 0, I 0, I 0] 115) := by rw [q3P4.get _ (by omega) (by first | omega | (simp only [hNw, hPt]; omega))]; first | exact f2G | (simp (disch := first | omega | (simp only [hNw, hPt]; omega)) only [gN] <;> first | rfl | assumption)
      have e2P4 : (P4.get (W.next + 2)).bind AObj.cs = some [I 0, I 0, I 0, I 0, I 0, I 0, I 0, I 0, I 0, I 0] := by rw [f2P4]; rfl
      have f3P4 : P4.get (W.next + 3) = some (.cells ((cutP cs (aftP cs bef (down * t.soak / 1000) cs.length) i).map I) 113) := by rw [q3P4.get _ (by omega) (by first | omega | (simp only [hNw, hPt]; omega))]; first | exact f3G | (simp (disch := first | omega | (simp only [hNw, hPt]; omega)) only [gN] <;> first | rfl | assumption)
      have e3P4 : (P4.get (W.next + 3)).bind AObj.cs = some ((cutP cs (aftP cs bef (down * t.soak / 1000) cs.length) i).map I) := by rw [f3P4]; rfl
      have f4P4 : P4.get G.next = some (.cells (cs[i]).c 80) := by rw [q4P4 _ (by first | omega | (simp only [hNw, hPt]; omega)) (by rintro m rfl; rcases hm with ⟨h, _⟩ | ⟨b, k, h, _, _, _, h6⟩ <;> cases h; omega)]; first | assumption | (simp (disch := first | omega | (simp only [hNw, hPt]; omega)) only [gN] <;> first | rfl | assumption)
      have e4P4 : (P4.get G.next).bind AObj.cs = some (cs[i]).c := by rw [f4P4]; rfl
      refine oA rfl rfl ?_; refine oN ?_; refine kR ?_; refine oM rfl rfl ?_; refine OkO.indexArr (len := 8) (sz := 1) (n := i) rfl rfl rfl (by kernel_rfl) (by omega) ?_; refine oL rfl rfl (lda (n := 1) (by kernel_rfl) (by first | assumption | (simp (disch := first | omega | (simp only [hNw, hPt]; omega)) only [gN] <;> first | rfl | assumption)) (by first | rfl | assumption)) ?_; refine oM rfl rfl ?_; refine OkO.bin rfl rfl rfl (bin_sub (by omega) (by omega)) ?_; refine OkO.indexArr (len := 8) (sz := 1) (n := i) rfl rfl rfl (by kernel_rfl) (by omega) ?_; refine oT rfl rfl rfl (sAc (n := 1) (ag := false) (by kernel_rfl) (by first | assumption | (simp (disch := first | omega | (simp only [hNw, hPt]; omega)) only [gN] <;> first | rfl | assumption)) rfl rfl (by first | rfl | exact spl_set _ _ _ (by first | assumption | (simp; omega)))) ?_; refine oN ?_; refine kR ?_; refine OkO.bin rfl rfl rfl (bin_add (by omega) (by omega)) ?_; refine oM rfl rfl ?_; refine oN ?_
      refine ⟨cs.length - (i + 1), by omega, i + 1, vP4, rfl, hlt, ?_, Has.of (by kernel_rfl), rfl, (by (try dsimp only); repeat (first | exact q2P4 | exact hg | exact hG | apply Grow.new | (refine Grow.put ?_ _ (by first | omega | (simp only [hNw, hPt]; omega))))), (by first | assumption | (simp (disch := first | omega | (simp only [hNw, hPt]; omega)) only [gN] <;> first | rfl | assumption)), (by first | assumption | (simp (disch := first | omega | (simp only [hNw, hPt]; omega)) only [gN] <;> first | rfl | assumption)), (by first | assumption | (simp (disch := first | omega | (simp only [hNw, hPt]; omega)) only [gN] <;> first | rfl | assumption)), ?_, by first | omega | (simp only [hNw, hPt]; omega)⟩
      · have hL : overP cs (aftP cs bef (down * t.soak / 1000) cs.length) (leftP cs bef down (down * t.soak / 1000) cs.length) (i + 1) = overP cs (aftP cs bef (down * t.soak / 1000) cs.length) (leftP cs bef down (down * t.soak / 1000) cs.length) i ++ [max ((cutP cs (aftP cs bef (down * t.soak / 1000) cs.length) i).getD i 0 - cs[i].cap) 0] := by rw [overP, hx0]
        rw [hL, List.map_append]; exact (by have q := q1P4; simp only [List.map_append, List.map_cons, List.map_nil] at q ⊢; (try dsimp only); (repeat (refine Mine.put ?_ _ (by omega))); exact q)
      · have hA : cutP cs (aftP cs bef (down * t.soak / 1000) cs.length) (i + 1) = (cutP cs (aftP cs bef (down * t.soak / 1000) cs.length) i).set i ((cutP cs (aftP cs bef (down * t.soak / 1000) cs.length) i).getD i 0 - max ((cutP cs (aftP cs bef (down * t.soak / 1000) cs.length) i).getD i 0 - cs[i].cap) 0) := by rw [cutP, hx0]
        rw [hA]; first | assumption | (simp (disch := first | omega | (simp only [hNw, hPt]; omega)) only [gN] <;> first | rfl | assumption)
    · have hge : i = cs.length := by simp at h3; omega
      subst hge
      obtain ⟨a0, a1, a2, a3, a4, a5, a6, a7, hA⟩ := list8 (a := cutP cs (aftP cs bef (down * t.soak / 1000) cs.length) cs.length) (by rw [cut_len, aft_len])
      have e3 : (G.get (W.next + 3)).bind AObj.cs = some [I a0, I a1, I a2, I a3, I a4, I a5, I a6, I a7] := by rw [f3G, hA]; rfl
      have hob := over_bd (k := 3000000) hc (haB.mono (by omega)) (by omega) (hlB.1.mono (by omega)) cs.length (Nat.le_refl _)
      have hrow : Ints G v9 (overP cs (aftP cs bef (down * t.soak / 1000) cs.length) (leftP cs bef down (down * t.soak / 1000) cs.length) cs.length) := Mine.row (l := (overP cs (aftP cs bef (down * t.soak / 1000) cs.length) (leftP cs bef down (down * t.soak / 1000) cs.length) cs.length).map fun n => [I n]) (by rw [ints_flat]; exact hm) (fun x hx => by simp only [List.mem_map] at hx; obtain ⟨y, _, rfl⟩ := hx; rfl) (by omega)
      have hlo : lenOf v9 = some (overP cs (aftP cs bef (down * t.soak / 1000) cs.length) (leftP cs bef down (down * t.soak / 1000) cs.length) cs.length).length := by simpa using hrow.len
      refine Ok.exit ?_; refine kS ?_; refine Ok.drawn [(0, true, []), (1, true, []), (2, false, [0]), (3, true, []), (4, false, [])] (by kernel_rfl) ?_; refine pS ?_; refine oL rfl rfl (ldg (n := 8) (by kernel_rfl) (by first | assumption | (simp (disch := first | omega | (simp only [hNw, hPt]; omega)) only [gN] <;> first | rfl | assumption)) (by first | rfl | assumption)) ?_; refine oN ⟨rfl, ?_⟩; refine pS ?_; refine oM rfl rfl ?_; refine oN ⟨rfl, ?_⟩; refine pS ?_; refine oV rfl rfl rfl rfl rfl (c105 _ v9 (overP cs (aftP cs bef (down * t.soak / 1000) cs.length) (leftP cs bef down (down * t.soak / 1000) cs.length) cs.length) _ hrow (by omega) (fun x hx => by have := hob.1 x hx; omega)) ?_
      refine oN ⟨(sco (sld rfl rfl (ldg (n := 8) (by kernel_rfl) (by first | assumption | (simp (disch := first | omega | (simp only [hNw, hPt]; omega)) only [gN] <;> first | rfl | assumption)) (by first | rfl | assumption)) rfl (eqr _ (by first | rfl | exact lpl (by assumption) | (simp [AV.plain, AV.plains, AV.plain])))) rfl), ?_⟩; refine pS ?_; refine OkO.build (z := [.int .i64 0, .int .i64 0, .int .i64 0, .int .i64 0, .int .i64 0, .int .i64 0, .int .i64 0, .int .i64 0, .int .i64 0, .int .i64 0]) (pl := [(0, 8), (8, 1), (9, 1)]) rfl (by kernel_rfl) rfl rfl ?_; refine oN ⟨rfl, ?_⟩; refine pS ?_; refine oT rfl rfl rfl (sAc (n := 10) (ag := true) (by kernel_rfl) (by first | assumption | (simp (disch := first | omega | (simp only [hNw, hPt]; omega)) only [gN] <;> first | rfl | assumption)) rfl rfl (by first | rfl | exact spl_set _ _ _ (by first | assumption | (simp; omega)))) ?_; refine oN ⟨rfl, ?_⟩; refine OkP.nil ?_
      refine Ok.ret ⟨.inr rfl, ?_⟩
      exact back_flat (resV_cell (b := W.next + 2) (off := 0) rfl (ldg (n := 10) (by kernel_rfl) (by first | assumption | (simp (disch := first | omega | (simp only [hNw, hPt]; omega)) only [gN] <;> first | rfl | assumption)) rfl) resV_nil) (by unfold dayL dayO; rw [hA]; rfl) (by unfold dayL dayO; rw [hA]; rfl) (by rw [← hW]; exact (by (try dsimp only); repeat (first | (first | exact hg | exact hG) | apply Grow.new | (refine Grow.put ?_ _ (by first | omega | (simp only [hNw, hPt]; omega))))))
end
end Go.Ev

set_option maxRecDepth 100000
set_option linter.unusedSimpArgs false
set_option linter.unusedVariables false
namespace Go.Ev
open Go Go.Proofs
noncomputable section
/-- The snow after some days, and what comes down on one. -/
def snowP (melt : Int) (ds : List Day) (rain : List Int) (s0 : Int) : Nat → Int
  | 0 => s0
  | i + 1 => if 0 < (ds.getD i default).warm then snowP melt ds rain s0 i - min (snowP melt ds rain s0 i) (melt * (ds.getD i default).warm) else snowP melt ds rain s0 i + rain.getD i 0
def downP (melt : Int) (ds : List Day) (rain : List Int) (s0 : Int) (i : Nat) : Int :=
  if 0 < (ds.getD i default).warm then rain.getD i 0 + min (snowP melt ds rain s0 i) (melt * (ds.getD i default).warm) else 0
def Day.lim (x : Day) : Prop := (0 ≤ x.lo ∧ x.lo ≤ x.hi ∧ x.hi ≤ 1000) ∧ (-50 ≤ x.warm ∧ x.warm ≤ 50)
theorem Day.ok_lim {x : Day} (h : x.ok = true) : x.lim := by
  simp only [Day.ok, inB, okR, Bool.and_eq_true, decide_eq_true_eq] at h
  unfold Day.lim; omega
theorem melt_bd {melt : Int} (hm : 0 ≤ melt ∧ melt ≤ 50) {x : Day} (hx : x.lim) (h : 0 < x.warm) : 0 ≤ melt * x.warm ∧ melt * x.warm ≤ 2500 := by
  unfold Day.lim at hx
  exact mul_bd hm (q := 50) ⟨by omega, by omega⟩
theorem snow_bd {melt : Int} {ds : List Day} {rain : List Int} {s0 : Int} (hm : 0 ≤ melt ∧ melt ≤ 50) (hd : ∀ x ∈ ds, x.lim) (hr : Upto 1000 rain) (h0 : 0 ≤ s0 ∧ s0 ≤ 100000) : ∀ i, i ≤ ds.length → 0 ≤ snowP melt ds rain s0 i ∧ snowP melt ds rain s0 i ≤ 100000 + 1000 * i
  | 0, _ => by simp [snowP]; omega
  | i + 1, hi => by
    have h := snow_bd hm hd hr h0 i (by omega)
    have h2 := hr.getD (by omega) i
    have hx : ds.getD i default = ds[i]'(by omega) := by simp [show i < ds.length from by omega]
    rw [snowP]
    split
    · rename_i hw
      have h3 := melt_bd hm (x := ds.getD i default) (by rw [hx]; exact hd _ (List.getElem_mem _)) hw
      push_cast; omega
    · push_cast; omega
theorem down_bd {melt : Int} {ds : List Day} {rain : List Int} {s0 : Int} (hm : 0 ≤ melt ∧ melt ≤ 50) (hd : ∀ x ∈ ds, x.lim) (hr : Upto 1000 rain) (h0 : 0 ≤ s0 ∧ s0 ≤ 100000) (i : Nat) (hi : i < ds.length) : 0 ≤ downP melt ds rain s0 i ∧ downP melt ds rain s0 i ≤ 4000 := by
  have h := snow_bd hm hd hr h0 i (by omega)
  have h2 := hr.getD (by omega) i
  have hx : ds.getD i default = ds[i] := by simp [hi]
  unfold downP
  split
  · rename_i hw
    have h3 := melt_bd hm (x := ds.getD i default) (by rw [hx]; exact hd _ (List.getElem_mem _)) hw
    omega
  · omega
theorem c103 (m : Nat) (l fb K : Nat) (cv dv lv rv : AV) (g : Gr) (t : Tru) (ds : List Day) (rain : List Int) (J : Nat → Heap → Prop) (H : Heap) (hst : ∀ i G G', J i G → Ext G G' → J i G') (hJ : ∀ i G, J i G → (G.get fb).bind AObj.cs = some [cv, I g.slo, I g.shi, I g.klo, I g.khi, I g.melt, dv, I t.snow, I t.soak, lv, rv] ∧ Row G dv 3 (ds.map Day.c) ∧ Ints G rv rain ∧ fb < G.next ∧ l < G.next)
 (hrd : ∀ i G, i < ds.length → J i G → K ≤ G.lo → ∃ v H', RR m (.round l [I (downP g.melt ds rain t.snow i), I (snowP g.melt ds rain t.snow (i + 1))]) G = some (v, H') ∧ v = .bool true ∧ J (i + 1) H' ∧ K ≤ H'.lo ∧ H'.lo ≤ l ∧ G.next ≤ H'.next)
 (h0 : J 0 H) (hK : K ≤ H.lo) (hKl : K ≤ l) (hm : 0 ≤ g.melt ∧ g.melt ≤ 50) (hds : ∀ x ∈ ds, x.lim) (hra : Upto 1000 rain) (hs0 : 0 ≤ t.snow ∧ t.snow ≤ 100000) (hdl : ds.length ≤ 1000) (hrl : rain.length = ds.length) : ∃ v H', RR (m + 1) (.fn 103 [.yield l, .ptr fb 0]) H = some (v, H') ∧ J ds.length H' ∧ K ≤ H'.lo := by
  show ∃ v H', evFn Try.prog (RR (m + 0)) 103 [.yield l, .ptr fb 0] H = some (v, H') ∧ J ds.length H' ∧ K ≤ H'.lo
  refine fn_okE Try.func103 rfl rfl (by kernel_rfl) (by kernel_rfl) ?_
  obtain ⟨W, hW, hg, hN, hE, hG⟩ := wOf H
  rw [← hW]
  clear hE hG
  have hJW : J 0 W := hst 0 H W h0 ⟨by omega, fun n _ => hg n⟩
  obtain ⟨w1, w2, w3, w4, w5⟩ := hJ 0 W hJW
  have hKW : K ≤ W.lo := by rw [hW]; show K ≤ H.next; omega
  have hld : lenOf dv = some ds.length := by simpa using w2.len
  refine kS ?_; refine kR ?_; refine oF (o := 7) rfl (by kernel_rfl) rfl ?_; refine oF (o := 0) rfl (by kernel_rfl) rfl ?_; refine oL rfl rfl (lda (n := 1) (by kernel_rfl) (by first | assumption | (simp (disch := first | omega | (simp only [hNw, hPt]; omega)) only [gN] <;> first | rfl | assumption)) (by first | rfl | assumption)) ?_; refine oA rfl rfl ?_; refine oN ?_; refine kS ?_; refine kR ?_; refine oF (o := 6) rfl (by kernel_rfl) rfl ?_; refine oL rfl rfl (lda (n := 1) (by kernel_rfl) (by first | assumption | (simp (disch := first | omega | (simp only [hNw, hPt]; omega)) only [gN] <;> first | rfl | assumption)) (by first | rfl | assumption)) ?_; refine oB rfl rfl rfl qbl ?_; refine oM rfl rfl ?_; refine oN ?_; refine Ok.block ?_
  refine Ok.loop (fun n s => ∃ i : Nat, n = ds.length - i ∧ i ≤ ds.length ∧ J i s.H ∧ K ≤ s.H.lo ∧ (0 < i → s.H.lo ≤ l) ∧ W.next ≤ s.H.next ∧ Has 6 [(0, .yield l), (1, .ptr fb 0), (3, I (snowP g.melt ds rain t.snow i)), (12, dv), (13, I ds.length), (14, I (i : Int))] s.T ∧ s.D = []) (ds.length) (by unfold loopFuel; omega)
    ⟨0, rfl, Nat.zero_le _, hJW, hKW, nofun, Nat.le_refl _, Has.of (by kernel_rfl), rfl⟩ ?_
  rintro n ⟨T, D, G⟩ ⟨i, hn, hi, hji, hKG, hlo, hgn, ⟨f, hT⟩, hD⟩
  dsimp only at *
  subst hT hD
  obtain ⟨j1, j2, j3, j4, j5⟩ := hJ i G hji
  refine kS ?_; refine kR ?_; refine OkO.bin rfl rfl rfl (bin_lss _ _) ?_; refine oN ?_; refine kS ?_
  refine Ok.cond rfl (fun h1 => ?_) (fun h1 => ?_)
  · have hlt : i < ds.length := by simpa using h1
    have hx0 : ds.getD i default = ds[i] := by simp [hlt]
    obtain ⟨bb, off, ccs, i1, i2, i3, i4⟩ := j2.at_ i ds[i].c (by simp [hlt])
    have hne : bb ≠ G.next := by omega
    have hnf : fb ≠ G.next := by omega
    obtain ⟨ub, uo, ucs, u1, u2, u3, u4⟩ := j3.at_ i [I (rain.getD i 0)] (by simp [show i < rain.length from by omega])
    have hnu : ub ≠ G.next := by omega
    have u5 := seg_one u3
    have hsb := snow_bd hm hds hra hs0 i hi
    have hrb := hra.getD (by omega) i
    have hdlm := hds _ (List.getElem_mem hlt)
    refine Ok.skip ?_; refine kS ?_; refine Ok.block ?_; refine kS ?_; refine kR ?_; refine oM rfl rfl ?_; refine qX (sz := 3) (n := i) rfl rfl rfl ?_; refine oL rfl rfl (ldg (n := 3) (by kernel_rfl) (by first | assumption | (simp (disch := first | omega | (simp only [hNw, hPt]; omega)) only [gN] <;> first | rfl | assumption)) (by first | rfl | assumption)) ?_; refine OkO.alloc (z := [.int .i64 0, .int .i64 0, .int .i64 0]) rfl (by kernel_rfl) ?_; refine oA rfl rfl ?_; refine oT rfl rfl rfl (sAc (n := 3) (ag := true) (by kernel_rfl) (by first | assumption | (simp (disch := first | omega | (simp only [hNw, hPt]; omega)) only [gN] <;> first | rfl | assumption)) rfl rfl (by first | rfl | exact spl_set _ _ _ (by first | assumption | (simp; omega)))) ?_; refine oN ?_; refine kS ?_; refine kR ?_; refine oA rfl rfl ?_; refine oN ?_; refine kS ?_; refine kS ?_; refine kR ?_; refine oF (o := 2) rfl (by kernel_rfl) rfl ?_; refine oL rfl rfl (lda (n := 1) (by kernel_rfl) (by first | assumption | (simp (disch := first | omega | (simp only [hNw, hPt]; omega)) only [gN] <;> first | rfl | assumption)) (by first | rfl | assumption)) ?_; refine OkO.bin rfl rfl rfl (bin_gtr _ _) ?_; refine oN ?_
    refine Ok.cond rfl (fun h2 => ?_) (fun h2 => ?_)
    · have hwm : 0 < ds[i].warm := by simpa using h2
      have hmb := melt_bd hm hdlm hwm
      have hd : downP g.melt ds rain t.snow i = rain.getD i 0 + min (snowP g.melt ds rain t.snow i) (g.melt * ds[i].warm) := by unfold downP; rw [hx0, if_pos hwm]
      have hs : snowP g.melt ds rain t.snow (i + 1) = (snowP g.melt ds rain t.snow i) - min (snowP g.melt ds rain t.snow i) (g.melt * ds[i].warm) := by rw [snowP, hx0, if_pos hwm]
      have hrd2 : ∀ G, J i G → K ≤ G.lo → ∃ v H', RR m (.round l [I (rain.getD i 0 + min (snowP g.melt ds rain t.snow i) (g.melt * ds[i].warm)), I ((snowP g.melt ds rain t.snow i) - min (snowP g.melt ds rain t.snow i) (g.melt * ds[i].warm))]) G = some (v, H') ∧ v = .bool true ∧ J (i + 1) H' ∧ K ≤ H'.lo ∧ H'.lo ≤ l ∧ G.next ≤ H'.next := fun G h1 h2 => by have q := hrd i G hlt h1 h2; rw [hd, hs] at q; exact q
      refine kS ?_; refine kR ?_; refine oM rfl rfl ?_; refine oF (o := 0) rfl (by kernel_rfl) rfl ?_; refine oF (o := 5) rfl (by kernel_rfl) rfl ?_; refine oL rfl rfl (lda (n := 1) (by kernel_rfl) (by first | assumption | (simp (disch := first | omega | (simp only [hNw, hPt]; omega)) only [gN] <;> first | rfl | assumption)) (by first | rfl | assumption)) ?_; refine oF (o := 2) rfl (by kernel_rfl) rfl ?_; refine oL rfl rfl (lda (n := 1) (by kernel_rfl) (by first | assumption | (simp (disch := first | omega | (simp only [hNw, hPt]; omega)) only [gN] <;> first | rfl | assumption)) (by first | rfl | assumption)) ?_; refine OkO.bin rfl rfl rfl (bin_mul (by omega) (by omega)) ?_; refine oB rfl rfl rfl (builtin_min2 _ _) ?_; refine oA rfl rfl ?_; refine oN ?_; refine kS ?_; refine kR ?_; refine oM rfl rfl ?_; refine oM rfl rfl ?_; refine OkO.bin rfl rfl rfl (bin_sub (by omega) (by omega)) ?_; refine oA rfl rfl ?_; refine oN ?_; refine kR ?_; refine oF (o := 7) rfl (by kernel_rfl) rfl ?_; refine oF (o := 3) rfl (by kernel_rfl) rfl ?_; refine oL rfl rfl (lda (n := 1) (by kernel_rfl) (by first | assumption | (simp (disch := first | omega | (simp only [hNw, hPt]; omega)) only [gN] <;> first | rfl | assumption)) (by first | rfl | assumption)) ?_; refine oM rfl rfl ?_; refine qX (sz := 1) (n := i) rfl rfl rfl ?_; refine oL rfl rfl (lda (n := 1) (by kernel_rfl) (by first | assumption | (simp (disch := first | omega | (simp only [hNw, hPt]; omega)) only [gN] <;> first | rfl | assumption)) (by first | rfl | assumption)) ?_; refine oM rfl rfl ?_; refine OkO.bin rfl rfl rfl (bin_add (by omega) (by omega)) ?_; refine oA rfl rfl ?_; refine oN ?_; refine kS ?_; refine kR ?_; refine oM rfl rfl ?_; refine oM rfl rfl ?_; refine oM rfl rfl ?_; refine OkO.roundE rfl rfl rfl rfl (hrd2 _ (hst i _ _ hji (by (try dsimp only); repeat (first | exact Ext.refl _ | assumption | apply Ext.new | (refine Ext.put ?_ _ (by first | omega | (simp only [hNw, hPt]; omega)))))) (by simp only [Heap.lo_put, Heap.lo_new]; omega)) ?_
      rintro v H2 ⟨rfl, jn1, jn2, jn3, jn4⟩
      simp only [hNw, hPt] at jn4
      refine OkO.un rfl rfl rfl ?_; refine oN ?_
      refine Ok.cond rfl (fun h3 => ?_) (fun h3 => ?_)
      · simp at h3
      · refine Ok.skip ?_
        refine kR ?_; refine OkO.bin rfl rfl rfl (bin_add (by omega) (by omega)) ?_; refine oM rfl rfl ?_; refine oN ?_
        refine ⟨ds.length - (i + 1), by omega, i + 1, rfl, hlt, jn1, jn2, fun _ => jn3, ?_, ?_, rfl⟩
        · show W.next ≤ H2.next; omega
        · rw [hs]; exact Has.of (by kernel_rfl)
    · have hwm : ¬0 < ds[i].warm := by simpa using h2
      have hd : downP g.melt ds rain t.snow i = 0 := by unfold downP; rw [hx0, if_neg hwm]
      have hs : snowP g.melt ds rain t.snow (i + 1) = (snowP g.melt ds rain t.snow i) + rain.getD i 0 := by rw [snowP, hx0, if_neg hwm]
      have hrd2 : ∀ G, J i G → K ≤ G.lo → ∃ v H', RR m (.round l [I 0, I ((snowP g.melt ds rain t.snow i) + rain.getD i 0)]) G = some (v, H') ∧ v = .bool true ∧ J (i + 1) H' ∧ K ≤ H'.lo ∧ H'.lo ≤ l ∧ G.next ≤ H'.next := fun G h1 h2 => by have q := hrd i G hlt h1 h2; rw [hd, hs] at q; exact q
      refine kR ?_; refine oM rfl rfl ?_; refine oF (o := 7) rfl (by kernel_rfl) rfl ?_; refine oF (o := 3) rfl (by kernel_rfl) rfl ?_; refine oL rfl rfl (lda (n := 1) (by kernel_rfl) (by first | assumption | (simp (disch := first | omega | (simp only [hNw, hPt]; omega)) only [gN] <;> first | rfl | assumption)) (by first | rfl | assumption)) ?_; refine oM rfl rfl ?_; refine qX (sz := 1) (n := i) rfl rfl rfl ?_; refine oL rfl rfl (lda (n := 1) (by kernel_rfl) (by first | assumption | (simp (disch := first | omega | (simp only [hNw, hPt]; omega)) only [gN] <;> first | rfl | assumption)) (by first | rfl | assumption)) ?_; refine OkO.bin rfl rfl rfl (bin_add (by omega) (by omega)) ?_; refine oA rfl rfl ?_; refine oN ?_; refine kS ?_; refine kR ?_; refine oM rfl rfl ?_; refine oM rfl rfl ?_; refine oM rfl rfl ?_; refine OkO.roundE rfl rfl rfl rfl (hrd2 _ (hst i _ _ hji (by (try dsimp only); repeat (first | exact Ext.refl _ | assumption | apply Ext.new | (refine Ext.put ?_ _ (by first | omega | (simp only [hNw, hPt]; omega)))))) (by simp only [Heap.lo_put, Heap.lo_new]; omega)) ?_
      rintro v H2 ⟨rfl, jn1, jn2, jn3, jn4⟩
      simp only [hNw, hPt] at jn4
      refine OkO.un rfl rfl rfl ?_; refine oN ?_
      refine Ok.cond rfl (fun h4 => ?_) (fun h4 => ?_)
      · simp at h4
      · refine Ok.skip ?_
        refine kR ?_; refine OkO.bin rfl rfl rfl (bin_add (by omega) (by omega)) ?_; refine oM rfl rfl ?_; refine oN ?_
        refine ⟨ds.length - (i + 1), by omega, i + 1, rfl, hlt, jn1, jn2, fun _ => jn3, ?_, ?_, rfl⟩
        · show W.next ≤ H2.next; omega
        · rw [hs]; exact Has.of (by kernel_rfl)
  · have hge : i = ds.length := by simp at h1; omega
    refine Ok.exit ?_
    refine ⟨.inl rfl, ?_⟩
    subst hge
    obtain ⟨H2, q1, q2⟩ := back_any (H := H) (T := _) (G := G) (fn := Try.f103) (P := Try.prog) (vs := []) rfl rfl
    refine ⟨_, H2, q1, ?_⟩
    rcases q2 with ⟨q2, q3⟩ | ⟨q2, q3, q4⟩
    · by_cases hz : ds.length = 0
      · rw [q2, hz]; exact ⟨h0, hK⟩
      · exact absurd (hlo (by omega)) (by omega)
    · exact ⟨hst _ G H2 hji ⟨by omega, fun n _ => q2 n⟩, q4 K hK hKG⟩
end
end Go.Ev

set_option maxRecDepth 100000
set_option linter.unusedSimpArgs false
set_option linter.unusedVariables false
namespace Go.Ev
open Go Go.Proofs
noncomputable section
noncomputable def as54 : Code := match Try.f54.body.bind rangeOf with | some r => r.1 | none => .skip
noncomputable def bd54 : Code := match Try.f54.body.bind rangeOf with | some r => r.2 | none => .skip
/-- What a run has made when some days have passed. -/
structure RunJ (W : Heap) (N : Nat) (fc : List AV) (T0 : Tr AV) (lev : Nat → List Int) (ev : Nat → List AV) (i : Nat) (G : Heap) : Prop where
  ext : Ext W G
  n : N + 6 ≤ G.next
  b0 : G.get N = some (.cells fc 110)
  b1 : G.get (N + 1) = some (.cells ((lev i).map I) 113)
  b2 : ∃ v, G.get (N + 2) = some (.cells [v] 108) ∧ Mine (N + 6) G v 115 10 ((List.range i).map ev).flatten
  b3 : G.get (N + 3) = some (.cells fc 110)
  b4 : G.get (N + 4) = some .defd
  b5 : G.get (N + 5) = some (.loop .ready none T0 [15, 16] as54 bd54 (N + 4))
theorem RunJ.to {W : Heap} {N : Nat} {fc : List AV} {T0 : Tr AV} {lev : Nat → List Int} {ev : Nat → List AV} {i : Nat} {G G' : Heap} (h : RunJ W N fc T0 lev ev i G) (g : Ext G G') : RunJ W N fc T0 lev ev i G' := by
  have hn := h.n
  obtain ⟨v, h2, h3⟩ := h.b2
  exact ⟨h.ext.trans g, Nat.le_trans hn g.next, by rw [g.get _ (by omega)]; exact h.b0, by rw [g.get _ (by omega)]; exact h.b1, ⟨v, by rw [g.get _ (by omega)]; exact h2, h3.to g⟩, by rw [g.get _ (by omega)]; exact h.b3, by rw [g.get _ (by omega)]; exact h.b4, by rw [g.get _ (by omega)]; exact h.b5⟩
/-- The levels after some days, and what left on one. -/
def levP (cs : List Cell) (g : Gr) (ds : List Day) (t : Tru) (lvs rain : List Int) : Nat → List Int
  | 0 => lvs ++ List.replicate (8 - lvs.length) 0
  | i + 1 => dayL cs (levP cs g ds t lvs rain i) (downP g.melt ds rain t.snow i) t.soak
def leftD (cs : List Cell) (g : Gr) (ds : List Day) (t : Tru) (lvs rain : List Int) (i : Nat) : Int := dayO cs (levP cs g ds t lvs rain i) (downP g.melt ds rain t.snow i) t.soak
def evC (cs : List Cell) (g : Gr) (ds : List Day) (t : Tru) (lvs rain : List Int) (i : Nat) : List AV := (levP cs g ds t lvs rain (i + 1)).map I ++ [I (leftD cs g ds t lvs rain i), I (snowP g.melt ds rain t.snow (i + 1))]
/-- A truth that a run can take. -/
structure Fit (cs : List Cell) (g : Gr) (ds : List Day) (t : Tru) (lvs rain : List Int) : Prop where
  n8 : 1 ≤ cs.length ∧ cs.length ≤ 8
  lim : ∀ x ∈ cs, x.lim
  to_ : toOk (cs.length : Int) 0 cs = true
  melt : 0 ≤ g.melt ∧ g.melt ≤ 50
  d30 : ds.length ≤ 30
  dlim : ∀ x ∈ ds, x.lim
  ll : lvs.length = cs.length
  lb : ∀ (i : Nat) x n, cs[i]? = some x → lvs[i]? = some n → 0 ≤ n ∧ n ≤ x.cap
  rl : rain.length = ds.length
  rb : Upto 1000 rain
  snow : 0 ≤ t.snow ∧ t.snow ≤ 100000
  soak : 0 ≤ t.soak ∧ t.soak ≤ 1000
theorem cut_cap {cs : List Cell} {a : List Int} {k : Int} (hc : ∀ x ∈ cs, x.lim) (h : Upto k a) (hk : 0 ≤ k) (ha : a.length = 8) (hn : cs.length ≤ 8) : ∀ i, i ≤ cs.length → (∀ j, j < i → (cutP cs a i).getD j 0 ≤ (cs.getD j default).cap ∧ (cutP cs a i).getD j 0 = min (a.getD j 0) (cs.getD j default).cap) ∧ ∀ j, i ≤ j → (cutP cs a i).getD j 0 = a.getD j 0
  | 0, _ => ⟨nofun, fun _ _ => rfl⟩
  | i + 1, hi => by
    obtain ⟨h1, h2⟩ := cut_cap hc h hk ha hn i (by omega)
    have hlen := cut_len cs a i
    have e : ∀ j, (cutP cs a (i + 1)).getD j 0 = if i = j then (cutP cs a i).getD i 0 - max ((cutP cs a i).getD i 0 - (cs.getD i default).cap) 0 else (cutP cs a i).getD j 0 := by
      intro j
      rw [cutP, List.getD_eq_getElem?_getD, List.getElem?_set]
      split
      · rename_i hij
        rw [if_pos (by omega)]
        rfl
      · rw [← List.getD_eq_getElem?_getD]
    refine ⟨fun j hj => ?_, fun j hj => ?_⟩
    · rw [e j]
      split
      · rename_i hij
        subst hij
        rw [h2 i (Nat.le_refl _)]
        omega
      · exact h1 j (by omega)
    · rw [e j, if_neg (by omega)]
      exact h2 j (by omega)
theorem upto_lev {a : List Int} (h : ∀ j, 0 ≤ a.getD j 0 ∧ a.getD j 0 ≤ 100000) : Upto 100000 a := fun z hz => by
  obtain ⟨j, hj, rfl⟩ := List.mem_iff_getElem.1 hz
  have := h j
  rwa [List.getD_eq_getElem?_getD, List.getElem?_eq_getElem hj] at this
/-- What is in the places of an array that no cell has. -/
def Zed (n : Nat) (a : List Int) : Prop := ∀ j, n ≤ j → a.getD j 0 = 0
theorem aft_zed {cs : List Cell} {bef : List Int} {so : Int} (ht : toOk (cs.length : Int) 0 cs = true) : ∀ i, i ≤ cs.length → Zed cs.length (aftP cs bef so i)
  | 0, _ => fun j _ => by
    rw [aftP, List.getD_eq_getElem?_getD]
    match j with
    | 0 | 1 | 2 | 3 | 4 | 5 | 6 | 7 => rfl
    | j + 8 => rfl
  | i + 1, hi => by
    have h := aft_zed (so := so) (bef := bef) ht i (by omega)
    have hx : cs.getD i default = cs[i]'(by omega) := by simp [show i < cs.length from by omega]
    have hto := (toOk_iff _ _ _).1 ht i (cs[i]'(by omega)) (List.getElem?_eq_getElem (by omega))
    have hz : ∀ (a : List Int) (k : Nat) (z : Int), k < cs.length → Zed cs.length a → Zed cs.length (a.set k z) := by
      intro a k z hk ha j hj
      rw [List.getD_eq_getElem?_getD, List.getElem?_set, if_neg (by omega), ← List.getD_eq_getElem?_getD]
      exact ha j hj
    rw [aftP, stepA, hx]
    refine hz _ _ _ (by omega) ?_
    split
    · exact h
    · rename_i hne
      refine hz _ _ _ ?_ h
      have := hto.1
      simp [inB] at this
      omega
theorem day_facts {cs : List Cell} {bef : List Int} {down soak : Int} (hc : ∀ x ∈ cs, x.lim) (ht : toOk (cs.length : Int) 0 cs = true) (hn : cs.length ≤ 8) (hb : Upto 100000 bef) (hd : 0 ≤ down ∧ down ≤ 4000) (hs : 0 ≤ soak ∧ soak ≤ 1000) :
    (dayL cs bef down soak).length = 8 ∧ Upto 100000 (dayL cs bef down soak) ∧ (∀ j, j < cs.length → (dayL cs bef down soak).getD j 0 = min ((aftP cs bef (down * soak / 1000) cs.length).getD j 0) (cs.getD j default).cap) ∧ Zed cs.length (dayL cs bef down soak) := by
  have hmb := mul_bd (a := down) (b := soak) (p := 4000) (q := 1000) hd hs
  have hA := aft_bd (so := down * soak / 1000) hc hb (by omega) cs.length (Nat.le_refl _)
  have hl := aft_len cs bef (down * soak / 1000) cs.length
  obtain ⟨h1, h2⟩ := cut_cap hc hA (by omega) hl hn cs.length (Nat.le_refl _)
  have hz := aft_zed (so := down * soak / 1000) (bef := bef) ht cs.length (Nat.le_refl _)
  have hcut := cut_bd hc hA (by omega) cs.length (Nat.le_refl _)
  refine ⟨by unfold dayL; rw [cut_len, hl], upto_lev fun j => ?_, fun j hj => (h1 j hj).2, fun j hj => by unfold dayL; rw [h2 j hj]; exact hz j hj⟩
  unfold dayL
  have h0 := hcut.getD (by omega) j
  by_cases hj : j < cs.length
  · have h3 := (h1 j hj).1
    have hx : cs.getD j default = cs[j] := by simp [hj]
    have h4 := hc (cs.getD j default) (by rw [hx]; exact List.getElem_mem _)
    unfold Cell.lim at h4
    omega
  · rw [h2 j (by omega), hz j (by omega)]; omega
theorem lev_facts {cs : List Cell} {g : Gr} {ds : List Day} {t : Tru} {lvs rain : List Int} (h : Fit cs g ds t lvs rain) : ∀ i, i ≤ ds.length → (levP cs g ds t lvs rain i).length = 8 ∧ Upto 100000 (levP cs g ds t lvs rain i)
  | 0, _ => by
    have hn := h.n8
    have hl := h.ll
    refine ⟨by simp [levP]; omega, fun z hz => ?_⟩
    rw [levP] at hz
    rcases List.mem_append.1 hz with hz | hz
    · obtain ⟨j, hj, rfl⟩ := List.mem_iff_getElem.1 hz
      have h1 := h.lb j (cs[j]'(by omega)) lvs[j] (List.getElem?_eq_getElem (by omega)) (List.getElem?_eq_getElem hj)
      have h2 := h.lim _ (List.getElem_mem (show j < cs.length by omega))
      unfold Cell.lim at h2
      omega
    · have := (List.mem_replicate.1 hz).2; omega
  | i + 1, hi => by
    have h1 := lev_facts h i (by omega)
    have h2 := day_facts (down := downP g.melt ds rain t.snow i) (soak := t.soak) h.lim h.to_ h.n8.2 h1.2 (down_bd h.melt h.dlim h.rb h.snow i (by omega)) h.soak
    rw [levP]
    exact ⟨h2.1, h2.2.1⟩
theorem r54 (m N i : Nat) (cv dv lv rv : AV) (cs : List Cell) (g : Gr) (ds : List Day) (t : Tru) (lvs rain : List Int) (T0 : Tr AV) (W G : Heap) (hR : Row W cv 7 (cs.map Cell.c)) (hF : Fit cs g ds t lvs rain) (hN : W.next = N) (hi : i < ds.length) (hH : Has 5 [(1, .ptr N 0), (3, .ptr (N + 1) 0), (4, .ptr (N + 2) 0)] T0) (hJ : RunJ W N [cv, I g.slo, I g.shi, I g.klo, I g.khi, I g.melt, dv, I t.snow, I t.soak, lv, rv] T0 (levP cs g ds t lvs rain) (evC cs g ds t lvs rain) i G) (hlo : N ≤ G.lo) :
    ∃ v H', RR (m + 3) (.round (N + 5) [I (downP g.melt ds rain t.snow i), I (snowP g.melt ds rain t.snow (i + 1))]) G = some (v, H') ∧ v = .bool true ∧ RunJ W N [cv, I g.slo, I g.shi, I g.klo, I g.khi, I g.melt, dv, I t.snow, I t.soak, lv, rv] T0 (levP cs g ds t lvs rain) (evC cs g ds t lvs rain) (i + 1) H' ∧ N ≤ H'.lo ∧ H'.lo ≤ N + 5 ∧ G.next ≤ H'.next := by
  show ∃ v H', evRound Try.prog (RR (m + 2)) (N + 5) [I (downP g.melt ds rain t.snow i), I (snowP g.melt ds rain t.snow (i + 1))] G = some (v, H') ∧ v = .bool true ∧ RunJ W N [cv, I g.slo, I g.shi, I g.klo, I g.khi, I g.melt, dv, I t.snow, I t.soak, lv, rv] T0 (levP cs g ds t lvs rain) (evC cs g ds t lvs rain) (i + 1) H' ∧ N ≤ H'.lo ∧ H'.lo ≤ N + 5 ∧ G.next ≤ H'.next
  subst hN
  obtain ⟨f, hT⟩ := hH
  subst hT
  obtain ⟨N, hN⟩ : ∃ N, N = W.next := ⟨_, rfl⟩
  rw [← hN] at hJ hlo ⊢
  have hg : Grow W G := ⟨hJ.ext.next, hJ.ext.get, by omega⟩
  have hn6 := hJ.n
  have f0 := hJ.b0
  have f1 := hJ.b1
  obtain ⟨v0, f2, hmv⟩ := hJ.b2
  have hmv2 : ∀ o, Mine (N + 6) (G.put (N + 5) o) v0 115 10 _ := fun o => hmv.put o (by omega)
  have f3 := hJ.b3
  have f4 := hJ.b4
  have f5 := hJ.b5
  have hlf := lev_facts hF i (by omega)
  have hdb := down_bd hF.melt hF.dlim hF.rb hF.snow i hi
  have hdf := day_facts (down := (downP g.melt ds rain t.snow i)) (soak := t.soak) hF.lim hF.to_ hF.n8.2 hlf.2 hdb hF.soak
  obtain ⟨a0, a1, a2, a3, a4, a5, a6, a7, hA⟩ := list8 hdf.1
  obtain ⟨p0, p1, p2, p3, p4, p5, p6, p7, hP⟩ := list8 hlf.1
  have hL1 : levP cs g ds t lvs rain (i + 1) = [a0, a1, a2, a3, a4, a5, a6, a7] := hA
  have hE1 : (List.map (evC cs g ds t lvs rain) [i]).flatten = [I a0, I a1, I a2, I a3, I a4, I a5, I a6, I a7, I (leftD cs g ds t lvs rain i), I (snowP g.melt ds rain t.snow (i + 1))] := by simp [evC, hL1]
  have hc82 : ∀ G', Ext W G' → RR (m + 2) (.fn 82 [.agg [cv, I g.slo, I g.shi, I g.klo, I g.khi, I g.melt, dv, I t.snow, I t.soak, lv, rv], .agg ([p0, p1, p2, p3, p4, p5, p6, p7].map I), I (downP g.melt ds rain t.snow i)]) G' = some (.agg [I a0, I a1, I a2, I a3, I a4, I a5, I a6, I a7, I (leftD cs g ds t lvs rain i), I 0], G') := fun G' hx => by
    have q := c82 m cv dv lv rv cs g t (levP cs g ds t lvs rain i) (downP g.melt ds rain t.snow i) G' (hR.ext hx) hF.n8.2 hF.lim hF.to_ hlf.1 hlf.2 hdb hF.soak
    rw [hA, hP] at q
    rw [show leftD cs g ds t lvs rain i = dayO cs [p0, p1, p2, p3, p4, p5, p6, p7] (downP g.melt ds rain t.snow i) t.soak from by rw [← hP]; rfl]
    exact q
  rw [hP] at f1
  have hml : ((List.range i).map (evC cs g ds t lvs rain)).flatten.length = i * 10 := by
    rw [flat_len _ 10 (fun x hx => by simp only [List.mem_map, List.mem_range] at hx; obtain ⟨y, hy, rfl⟩ := hx; have := lev_facts hF (y + 1) (by omega); simp [evC, this.1])]; simp
  have hi30 := hF.d30
  have e0 : (G.get N).bind AObj.cs = some [cv, I g.slo, I g.shi, I g.klo, I g.khi, I g.melt, dv, I t.snow, I t.soak, lv, rv] := by rw [f0]; rfl
  have e1 : (G.get (N + 1)).bind AObj.cs = some ([p0, p1, p2, p3, p4, p5, p6, p7].map I) := by rw [f1]; rfl
  have e2 : (G.get (N + 2)).bind AObj.cs = some [v0] := by rw [f2]; rfl
  refine round_ok f5 rfl ?_; refine kS ?_; refine kR ?_; refine oA rfl rfl ?_; refine oN ?_; refine kR ?_; refine oA rfl rfl ?_; refine oN ?_
  refine ⟨rfl, _, _, _, _, _, _, hJ.b5, ?_⟩; refine Ok.block ?_; refine kS ?_; refine kR ?_; refine oL rfl rfl (ldg (n := 11) (by kernel_rfl) (by first | assumption | (simp (disch := first | omega | (simp only [hNw, hPt]; omega)) only [gN] <;> first | rfl | assumption)) (by first | rfl | assumption)) ?_; refine oL rfl rfl (ldg (n := 8) (by kernel_rfl) (by first | assumption | (simp (disch := first | omega | (simp only [hNw, hPt]; omega)) only [gN] <;> first | rfl | assumption)) (by first | rfl | assumption)) ?_; refine oM rfl rfl ?_; refine oV rfl rfl rfl rfl rfl (hc82 _ (Grow.ext (W := W) (by (try dsimp only); repeat (first | exact q2 | exact hg | apply Grow.new | (refine Grow.put ?_ _ (by first | omega | (simp only [hNw, hPt]; omega))))))) ?_; refine OkO.alloc (z := [.int .i64 0, .int .i64 0, .int .i64 0, .int .i64 0, .int .i64 0, .int .i64 0, .int .i64 0, .int .i64 0, .int .i64 0, .int .i64 0]) rfl (by kernel_rfl) ?_; refine oT rfl rfl rfl (sAc (n := 10) (ag := true) (by kernel_rfl) (by first | assumption | (simp (disch := first | omega | (simp only [hNw, hPt]; omega)) only [gN] <;> first | rfl | assumption)) rfl rfl (by first | rfl | exact spl_set _ _ _ (by first | assumption | (simp; omega)))) ?_; refine oN ?_; refine kS ?_; refine kR ?_; refine oM rfl rfl ?_; refine oF (o := 9) rfl (by kernel_rfl) rfl ?_; refine oT rfl rfl rfl (sAc (n := 1) (ag := false) (by kernel_rfl) (by first | assumption | (simp (disch := first | omega | (simp only [hNw, hPt]; omega)) only [gN] <;> first | rfl | assumption)) rfl rfl (by first | rfl | exact spl_set _ _ _ (by first | assumption | (simp; omega)))) ?_; refine oN ?_; refine kS ?_; refine kR ?_; refine oF (o := 0) rfl (by kernel_rfl) rfl ?_; refine oL rfl rfl (ldg (n := 8) (by kernel_rfl) (by first | assumption | (simp (disch := first | omega | (simp only [hNw, hPt]; omega)) only [gN] <;> first | rfl | assumption)) (by first | rfl | assumption)) ?_; refine oT rfl rfl rfl (sAc (n := 8) (ag := true) (by kernel_rfl) (by first | assumption | (simp (disch := first | omega | (simp only [hNw, hPt]; omega)) only [gN] <;> first | rfl | assumption)) rfl rfl (by first | rfl | exact spl_set _ _ _ (by first | assumption | (simp; omega)))) ?_; refine oN ?_; refine kR ?_; refine oL rfl rfl (lda (n := 1) (by kernel_rfl) (by first | assumption | (simp (disch := first | omega | (simp only [hNw, hPt]; omega)) only [gN] <;> first | rfl | assumption)) (by first | rfl | assumption)) ?_; refine oL rfl rfl (ldg (n := 10) (by kernel_rfl) (by first | assumption | (simp (disch := first | omega | (simp only [hNw, hPt]; omega)) only [gN] <;> first | rfl | assumption)) (by first | rfl | assumption)) ?_; refine OkO.buildSlice (el := 115) (sz := 10) (z := [.int .i64 0, .int .i64 0, .int .i64 0, .int .i64 0, .int .i64 0, .int .i64 0, .int .i64 0, .int .i64 0, .int .i64 0, .int .i64 0]) rfl (by kernel_rfl) (by decide) rfl rfl ?_
  -- append
  refine OkO.builtinE rfl rfl rfl (Mine.app2 (W := W) (k0 := N + 6) (sz := 10) (by_ := 80) (e := 115) (n := 1) (new := [I a0, I a1, I a2, I a3, I a4, I a5, I a6, I a7, I (leftD cs g ds t lvs rain i), I (snowP g.melt ds rain t.snow (i + 1))]) (by dsimp only; exact Mine.to (Mine.put (Mine.to (hmv2 (.loop .busy none (mkT 5 0 1 (upd f [(1, .ptr N 0), (3, .ptr (N + 1) 0), (4, .ptr (N + 2) 0)])) [15, 16] as54 bd54 (N + 4))) (by (try dsimp only); repeat (first | exact Ext.refl _ | assumption | apply Ext.new | (refine Ext.put ?_ _ (by first | omega | (simp only [hNw, hPt]; omega)))))) _ (by omega)) (Grow.toNew _ _)) (by (try dsimp only); repeat (first | exact q2 | exact hg | apply Grow.new | (refine Grow.put ?_ _ (by first | omega | (simp only [hNw, hPt]; omega))))) (by omega) (by first | omega | (simp only [hNw, hPt]; omega)) (by kernel_rfl) (by kernel_rfl) (elems_new (n := 1) (sz := 10) rfl) rfl rfl (by rw [hml]; omega) (by omega) (by omega) rfl) ?_
  rintro v2 G2 ⟨q1, q2, q3, q4, q5, q6⟩
  simp only [hNw, hPt] at q5
  have z0 : G2.get N = some (.cells [cv, I g.slo, I g.shi, I g.klo, I g.khi, I g.melt, dv, I t.snow, I t.soak, lv, rv] 110) := by rw [q3.get _ (by omega) (by first | omega | (simp only [hNw, hPt]; omega))]; simp (disch := first | omega | (simp only [hNw, hPt]; omega)) only [gN] <;> first | rfl | assumption
  have z1 : G2.get (N + 1) = some (.cells [I a0, I a1, I a2, I a3, I a4, I a5, I a6, I a7] 113) := by rw [q3.get _ (by omega) (by first | omega | (simp only [hNw, hPt]; omega))]; simp (disch := first | omega | (simp only [hNw, hPt]; omega)) only [gN] <;> first | rfl | assumption
  have z2 : G2.get (N + 2) = some (.cells [v0] 108) := by rw [q3.get _ (by omega) (by first | omega | (simp only [hNw, hPt]; omega))]; simp (disch := first | omega | (simp only [hNw, hPt]; omega)) only [gN] <;> first | rfl | assumption
  have z3 : G2.get (N + 3) = some (.cells [cv, I g.slo, I g.shi, I g.klo, I g.khi, I g.melt, dv, I t.snow, I t.soak, lv, rv] 110) := by rw [q3.get _ (by omega) (by first | omega | (simp only [hNw, hPt]; omega))]; simp (disch := first | omega | (simp only [hNw, hPt]; omega)) only [gN] <;> first | rfl | assumption
  have z4 : G2.get (N + 4) = some .defd := by rw [q3.get _ (by omega) (by first | omega | (simp only [hNw, hPt]; omega))]; simp (disch := first | omega | (simp only [hNw, hPt]; omega)) only [gN] <;> first | rfl | assumption
  have z5 : G2.get (N + 5) = some (.loop .busy none (mkT 5 0 1 (upd f [(1, .ptr N 0), (3, .ptr (N + 1) 0), (4, .ptr (N + 2) 0)])) [15, 16] as54 bd54 (N + 4)) := by rw [q3.get _ (by omega) (by first | omega | (simp only [hNw, hPt]; omega))]; simp (disch := first | omega | (simp only [hNw, hPt]; omega)) only [gN] <;> first | rfl | assumption
  obtain ⟨bb2, mm, hv2⟩ : ∃ b m, v2 = .opn b m := (let ⟨m, h⟩ := q6; ⟨_, m, h⟩)
  subst hv2
  refine oT rfl rfl rfl (sAc (n := 1) (ag := false) (by kernel_rfl) (by first | assumption | (simp (disch := first | omega | (simp only [hNw, hPt]; omega)) only [gN] <;> first | rfl | assumption)) rfl rfl (by first | rfl | exact spl_set _ _ _ (by first | assumption | (simp; omega)))) ?_; refine oN ?_
  have hgg : Grow W ((G2.put (N + 2) (.cells [.opn bb2 mm] 108)).put (N + 5) (.loop .ready none (mkT 5 0 1 (upd f [(1, .ptr N 0), (3, .ptr (N + 1) 0), (4, .ptr (N + 2) 0)])) [15, 16] as54 bd54 (N + 4))) := (q2.put _ (by omega)).put _ (by omega)
  refine ⟨rfl, _, _, _, _, _, _, _, (by rw [gpo _ _ _ _ (by omega)]; exact z5), rfl, ?_, ?_, ?_, ?_⟩
  · refine ⟨hgg.ext, by simp only [hPt]; omega, ?_, ?_, ⟨.opn bb2 mm, ?_, ?_⟩, ?_, ?_, ?_⟩
    · (simp (disch := first | omega | (simp only [hNw, hPt]; omega)) only [gN] <;> first | rfl | assumption)
    · rw [hL1]; (simp (disch := first | omega | (simp only [hNw, hPt]; omega)) only [gN] <;> first | rfl | assumption)
    · (simp (disch := first | omega | (simp only [hNw, hPt]; omega)) only [gN] <;> first | rfl | assumption)
    · rw [List.range_succ, List.map_append, List.flatten_append]; refine Mine.put (Mine.put ?_ _ (by omega)) _ (by omega); rw [hE1]; exact q1
    · (simp (disch := first | omega | (simp only [hNw, hPt]; omega)) only [gN] <;> first | rfl | assumption)
    · (simp (disch := first | omega | (simp only [hNw, hPt]; omega)) only [gN] <;> first | rfl | assumption)
    · (simp (disch := first | omega | (simp only [hNw, hPt]; omega)) only [gN] <;> first | rfl | assumption)
  · have := hgg.lo; rw [← hN] at this; exact this
  · rw [Heap.lo_put]; omega
  · simp only [hPt]; omega
end
end Go.Ev

set_option maxRecDepth 100000
set_option linter.unusedSimpArgs false
set_option linter.unusedVariables false
namespace Go.Ev
open Go Go.Proofs
noncomputable section
theorem spl_pad (l : List Int) (h : l.length ≤ 8) : spl [I 0, I 0, I 0, I 0, I 0, I 0, I 0, I 0] 0 (l.map I) = some ((l ++ List.replicate (8 - l.length) 0).map I) := by
  have e : spl [I 0, I 0, I 0, I 0, I 0, I 0, I 0, I 0] 0 (l.map I) = (match Nat.ble (0 + (l.map I).length) 8 with
    | true => some ([] ++ (l.map I ++ (List.replicate 8 (I 0)).drop (0 + (l.map I).length)))
    | false => none) := rfl
  rw [e, Nat.ble_eq_true_of_le (by simp; omega)]
  simp only [List.nil_append, List.map_append, List.map_replicate, List.length_map, Nat.zero_add, List.drop_replicate]
theorem c81 (m : Nat) (cv dv lv rv : AV) (g : Gr) (t : Tru) (H : Heap)  : ∃ v H', RR (m + 1) (.fn 81 [.agg [cv, I g.slo, I g.shi, I g.klo, I g.khi, I g.melt, dv, I t.snow, I t.soak, lv, rv]]) H = some (v, H') ∧ v = .fn 103 [] [.ptr H.next 0] ∧ Ret H H' ∧ H'.get H.next = some (.cells [cv, I g.slo, I g.shi, I g.klo, I g.khi, I g.melt, dv, I t.snow, I t.soak, lv, rv] 110) ∧ H'.next = H.next + 1 := by
  show ∃ v H', evFn Try.prog (RR (m + 0)) 81 [.agg [cv, I g.slo, I g.shi, I g.klo, I g.khi, I g.melt, dv, I t.snow, I t.soak, lv, rv]] H = some (v, H') ∧ v = .fn 103 [] [.ptr H.next 0] ∧ Ret H H' ∧ H'.get H.next = some (.cells [cv, I g.slo, I g.shi, I g.klo, I g.khi, I g.melt, dv, I t.snow, I t.soak, lv, rv] 110) ∧ H'.next = H.next + 1
  refine fn_okE Try.func81 rfl rfl (by kernel_rfl) (by kernel_rfl) ?_
  obtain ⟨W, hW, hg, hN, hE, hG⟩ := wOf H
  rw [← hW]
  refine kS ?_; refine kR ?_; refine OkO.box rfl rfl ?_; refine oA rfl rfl ?_; refine oN ?_; refine kS ?_; refine kR ?_; refine OkO.makeFunc rfl rfl rfl ?_; refine oA rfl rfl ?_; refine oN ?_
  refine Ok.ret ⟨.inr rfl, ?_⟩
  exact back_newQ (resV_tmp rfl resV_nil) (by rw [hN]; rfl) (by rw [← hW]; exact (by (try dsimp only); repeat (first | exact hG | apply Grow.new | (refine Grow.put ?_ _ (by first | omega | (simp only [hNw, hPt]; omega)))))) rfl (fun H' p1 p2 p3 => ⟨rfl, p1, by rw [p2, ← hN]; exact gn0 _ _, by rw [p3, ← hN]; rfl⟩)
theorem c54 (m : Nat) (cv dv lv rv : AV) (cs : List Cell) (g : Gr) (ds : List Day) (t : Tru) (lvs rain : List Int) (H : Heap) (hR : Row H cv 7 (cs.map Cell.c)) (hD : Row H dv 3 (ds.map Day.c)) (hL : Ints H lv lvs) (hA : Ints H rv rain) (hF : Fit cs g ds t lvs rain) : ∃ v H', RR (m + 5) (.fn 54 [.agg [cv, I g.slo, I g.shi, I g.klo, I g.khi, I g.melt, dv, I t.snow, I t.soak, lv, rv]]) H = some (v, H') ∧ Ret H H' ∧ Row H' v 10 ((List.range ds.length).map (evC cs g ds t lvs rain)) ∧ Cut H' v 10 := by
  show ∃ v H', evFn Try.prog (RR (m + 4)) 54 [.agg [cv, I g.slo, I g.shi, I g.klo, I g.khi, I g.melt, dv, I t.snow, I t.soak, lv, rv]] H = some (v, H') ∧ Ret H H' ∧ Row H' v 10 ((List.range ds.length).map (evC cs g ds t lvs rain)) ∧ Cut H' v 10
  refine fn_okE Try.func54 rfl rfl (by kernel_rfl) (by kernel_rfl) ?_
  obtain ⟨W, hW, hg, hN, hE, hG⟩ := wOf H
  rw [← hW]
  have hll : lenOf lv = some lvs.length := by simpa using hL.len
  have hlc : lenOf cv = some cs.length := by simpa using hR.len
  have hn8 := hF.n8
  have hflv := hF.ll
  refine kS ?_; refine kR ?_; refine OkO.box rfl rfl ?_; refine oA rfl rfl ?_; refine oN ?_; refine kS ?_; refine kR ?_; refine OkO.alloc (z := [.int .i64 0, .int .i64 0, .int .i64 0, .int .i64 0, .int .i64 0, .int .i64 0, .int .i64 0, .int .i64 0]) rfl (by kernel_rfl) ?_; refine oN ?_; refine kS ?_; refine Ok.drawn [(0, true, []), (1, true, []), (2, true, []), (3, true, []), (4, false, [])] (by kernel_rfl) ?_; refine pS ?_; refine OkO.sliceArr (len := 8) (sz := 1) (m := 8) rfl rfl (by kernel_rfl) rfl rfl (by omega) ?_; refine oN ⟨rfl, ?_⟩; refine pS ?_; refine oF (o := 7) rfl (by kernel_rfl) rfl ?_; refine oN ⟨rfl, ?_⟩; refine pS ?_; refine oF (o := 2) rfl (by kernel_rfl) rfl ?_; refine oN ⟨rfl, ?_⟩; refine pS ?_; refine oL rfl rfl (lda (n := 1) (by kernel_rfl) (by first | assumption | (simp (disch := first | omega | (simp only [hNw, hPt]; omega)) only [gN] <;> first | rfl | assumption)) (by first | rfl | assumption)) ?_; refine oN ⟨rfl, ?_⟩; refine pS ?_; refine oB rfl rfl rfl (builtin_copy (el := 113) (sz := 1) (n := lvs.length) (cs := [I 0, I 0, I 0, I 0, I 0, I 0, I 0, I 0]) (new := lvs.map I) (l := (levP cs g ds t lvs rain 0).map I) (by kernel_rfl) (by rw [← ints_flat]; exact (hL.ext (hE _ (by (try dsimp only); repeat (first | exact hG | apply Grow.new | (refine Grow.put ?_ _ (by first | omega | (simp only [hNw, hPt]; omega))))))).elems (fun x hx => by simp only [List.mem_map] at hx; obtain ⟨y, _, rfl⟩ := hx; rfl)) hll (by simp (disch := first | omega | (simp only [hNw, hPt]; omega)) only [gN] <;> first | rfl | assumption) (by omega) (atoms_ints _) (spl_pad lvs (by omega))) ?_; refine oN ⟨rfl, ?_⟩; refine OkP.nil ?_; refine kS ?_; refine kR ?_; refine OkO.alloc (z := [.nils]) rfl (by kernel_rfl) ?_; refine oN ?_; refine kS ?_; refine kS ?_; refine kR ?_; refine oL rfl rfl (ldg (n := 11) (by kernel_rfl) (by first | assumption | (simp (disch := first | omega | (simp only [hNw, hPt]; omega)) only [gN] <;> first | rfl | assumption)) (by first | rfl | assumption)) ?_; refine oE rfl rfl rfl rfl rfl (c81 (m + 3) cv dv lv rv g t _) ?_
  rintro v81 H81 ⟨rfl, q81, z3, n81⟩
  simp only [hNw, hPt] at z3 n81
  have z0 : H81.get (W.next) = some (.cells [cv, I g.slo, I g.shi, I g.klo, I g.khi, I g.melt, dv, I t.snow, I t.soak, lv, rv] 110) := by rw [q81.ext.get _ (by simp only [hNw, hPt]; omega)]; first | exact gn0 _ _ | (simp (disch := first | omega | (simp only [hNw, hPt]; omega)) only [gN] <;> first | rfl | assumption | exact gp0 _ _ _)
  have z1 : H81.get (W.next + 1) = some (.cells ((levP cs g ds t lvs rain 0).map I) 113) := by rw [q81.ext.get _ (by simp only [hNw, hPt]; omega)]; first | exact gn0 _ _ | (simp (disch := first | omega | (simp only [hNw, hPt]; omega)) only [gN] <;> first | rfl | assumption | exact gp0 _ _ _)
  have z2 : H81.get (W.next + 2) = some (.cells [.nils] 108) := by rw [q81.ext.get _ (by simp only [hNw, hPt]; omega)]; first | exact gn0 _ _ | (simp (disch := first | omega | (simp only [hNw, hPt]; omega)) only [gN] <;> first | rfl | assumption | exact gp0 _ _ _)
  have g81 : Grow W H81 := Grow.ret (by (try dsimp only); repeat (first | exact hG | apply Grow.new | (refine Grow.put ?_ _ (by first | omega | (simp only [hNw, hPt]; omega))))) q81
  have x81 : Ext W H81 := g81.ext
  refine oN ?_; refine Ok.block ?_
  refine Ok.rangeT rfl rfl (fun T0 hT0 => ?_)
  have hH : Has 5 [(1, .ptr W.next 0), (3, .ptr (W.next + 1) 0), (4, .ptr (W.next + 2) 0)] T0 := by rw [hT0]; exact Has.of (by kernel_rfl)
  have hJ0 : RunJ W W.next [cv, I g.slo, I g.shi, I g.klo, I g.khi, I g.melt, dv, I t.snow, I t.soak, lv, rv] T0 (levP cs g ds t lvs rain) (evC cs g ds t lvs rain) 0 ((H81.new .defd).new (.loop .ready none T0 [15, 16] as54 bd54 (W.next + 4))) := ⟨(x81.new _).new _, by simp only [hNw]; omega, by rw [gno _ _ _ (by simp only [hNw]; omega), gno _ _ _ (by omega)]; exact z0, by rw [gno _ _ _ (by simp only [hNw]; omega), gno _ _ _ (by omega)]; exact z1, ⟨.nils, by rw [gno _ _ _ (by simp only [hNw]; omega), gno _ _ _ (by omega)]; exact z2, Mine.nil _ _ _ _⟩, by rw [gno _ _ _ (by simp only [hNw]; omega), gno _ _ _ (by omega)]; exact z3, by rw [gno _ _ _ (by simp only [hNw]; omega), ← n81]; exact gn0 _ _, by rw [show W.next + 5 = H81.next + 1 from by omega]; exact gn1 _ _ _⟩
  have hRW : Row W cv 7 (cs.map Cell.c) := hR.ext ⟨by omega, fun n _ => hg n⟩
  have hDW : Row W dv 3 (ds.map Day.c) := hD.ext ⟨by omega, fun n _ => hg n⟩
  have hAW : Ints W rv rain := hA.ext ⟨by omega, fun n _ => hg n⟩
  obtain ⟨v3, H3, k1, k2, k3⟩ := c103 (m + 3) (W.next + 5) (W.next + 3) W.next cv dv lv rv g t ds rain (RunJ W W.next [cv, I g.slo, I g.shi, I g.klo, I g.khi, I g.melt, dv, I t.snow, I t.soak, lv, rv] T0 (levP cs g ds t lvs rain) (evC cs g ds t lvs rain)) ((H81.new .defd).new (.loop .ready none T0 [15, 16] as54 bd54 (W.next + 4))) (fun i G G' h x => h.to x) (fun i G h => ⟨by rw [h.b3]; rfl, hDW.ext h.ext, hAW.ext h.ext, by have := h.n; omega, by have := h.n; omega⟩) (fun i G hi hj hk => r54 m W.next i cv dv lv rv cs g ds t lvs rain T0 W G hRW hF rfl hi hH hj hk) hJ0 (by show W.next ≤ H81.lo; exact g81.lo) (by omega) hF.melt hF.dlim hF.rb hF.snow (by have := hF.d30; omega) hF.rl
  have kn := k2.n
  obtain ⟨v0, y2, ym⟩ := k2.b2
  rw [n81]
  refine ⟨v3, H3, k1, T0, [15, 16], as54, bd54, W.next + 4, k2.b5, ?_⟩
  have g3 : Grow W H3 := ⟨k2.ext.next, k2.ext.get, k3⟩
  have y2b : (H3.get (W.next + 2)).bind AObj.cs = some [v0] := by rw [y2]; rfl
  clear k1
  refine kS ?_; refine kR ?_; refine oL rfl rfl (lda (n := 1) (by kernel_rfl) (by first | assumption | (simp (disch := first | omega | (simp only [hNw, hPt]; omega)) only [gN] <;> first | rfl | assumption)) (by first | rfl | assumption)) ?_; refine oA rfl rfl ?_; refine oN ?_
  refine Ok.ret ⟨.inr rfl, ?_⟩
  rw [back_mark (d := W.next + 4) (by rw [gpo _ _ _ _ (by omega), gpo _ _ _ _ (by omega)]; exact k2.b4)]
  have ymm := ((ym.put (n := W.next + 5) (.loop .exhausted none T0 [15, 16] as54 bd54 (W.next + 4)) (by omega)).put (n := W.next + 5) .dead (by omega)).put (n := W.next + 4) .shut (by omega)
  exact back_newA (resV_tmp rfl resV_nil) rfl (by rw [← hW]; exact ((g3.put _ (by omega)).put _ (by omega)).put _ (by omega)) (fun H2 r2 r3 => ⟨r2, Mine.back ymm (fun x hx => by simp only [List.mem_map, List.mem_range] at hx; obtain ⟨y, hy, rfl⟩ := hx; have := lev_facts hF (y + 1) (by omega); simp [evC, this.1]) (by omega) r3⟩)
end
end Go.Ev

set_option maxRecDepth 100000
set_option linter.unusedSimpArgs false
set_option linter.unusedVariables false
namespace Go.Ev
open Go Go.Proofs
noncomputable section
/-- Lists of numbers, each in a block of its own, none of them that of either slice. -/
def RowsAt (G : Heap) (v6 v7 : AV) (vs : List AV) (rows : List (List Int)) : Prop := vs.length = rows.length ∧ ∀ (j : Nat) x r, vs[j]? = some x → rows[j]? = some r → ∃ b, x = .opn b r.length ∧ G.get b = some (.opn (r.map I) 3 1) ∧ b < G.next ∧ (∀ m, v6 ≠ .opn b m) ∧ (∀ m, v7 ≠ .opn b m)
theorem RowsAt.keep {G G' : Heap} {v6 v7 w6 w7 : AV} {vs : List AV} {rows : List (List Int)} (h : RowsAt G v6 v7 vs rows) (hk : ∀ j, j < G.next → (∀ m, v6 ≠ .opn j m) → (∀ m, v7 ≠ .opn j m) → G'.get j = G.get j) (hn : G.next ≤ G'.next)
    (h6 : ∀ b m, w6 = .opn b m → G.next ≤ b ∨ v6 = w6) (h7 : ∀ b m, w7 = .opn b m → G.next ≤ b ∨ v7 = w7) : RowsAt G' w6 w7 vs rows := by
  refine ⟨h.1, fun j x r k1 k2 => ?_⟩
  obtain ⟨b, a1, a2, a3, a4, a5⟩ := h.2 j x r k1 k2
  refine ⟨b, a1, by rw [hk b a3 a4 a5]; exact a2, by omega, fun m hm => ?_, fun m hm => ?_⟩
  · rcases h6 b m hm with h | h
    · omega
    · exact a4 m (h.trans hm)
  · rcases h7 b m hm with h | h
    · omega
    · exact a5 m (h.trans hm)
theorem RowsAt.snoc {G : Heap} {v6 v7 : AV} {vs : List AV} {rows : List (List Int)} (h : RowsAt G v6 v7 vs rows) {b : Nat} {r : List Int} (h1 : G.get b = some (.opn (r.map I) 3 1)) (h2 : b < G.next) (h3 : ∀ m, v6 ≠ .opn b m) (h4 : ∀ m, v7 ≠ .opn b m) : RowsAt G v6 v7 (vs ++ [.opn b r.length]) (rows ++ [r]) := by
  refine ⟨by simp [h.1], fun j x q k1 k2 => ?_⟩
  have hl := h.1
  by_cases hj : j < vs.length
  · rw [List.getElem?_append_left hj] at k1
    rw [List.getElem?_append_left (by omega)] at k2
    exact h.2 j x q k1 k2
  · have hj2 : j = vs.length := by
      have := (List.getElem?_eq_some_iff.1 k1).1
      simp at this; omega
    subst hj2
    simp at k1
    rw [hl] at k2
    simp at k2
    subst k1 k2
    exact ⟨b, rfl, h1, h2, h3, h4⟩
/-- A slice of lists of numbers. -/
def Lists (G : Heap) (v : AV) (rows : List (List Int)) : Prop := ∃ vs : List AV, Row G v 1 (vs.map fun x => [x]) ∧ vs.length = rows.length ∧ ∀ (j : Nat) x r, vs[j]? = some x → rows[j]? = some r → Ints G x r
theorem Lists.ext {H G : Heap} {v : AV} {rows : List (List Int)} (h : Lists H v rows) (g : Ext H G) : Lists G v rows := let ⟨vs, h1, h2, h3⟩ := h; ⟨vs, h1.ext g, h2, fun j x r k1 k2 => (h3 j x r k1 k2).ext g⟩
end
end Go.Ev

set_option maxRecDepth 100000
set_option linter.unusedSimpArgs false
set_option linter.unusedVariables false
namespace Go.Ev
open Go Go.Proofs
noncomputable section
theorem one_cells {v : AV} {n : Nat} (h : lenOf v = some n) : v.cells = [v] := by
  cases v with
  | raw u => cases u <;> simp [lenOf] at h; rfl
  | _ => first | rfl | simp [lenOf] at h
theorem build110 {dv : AV} {n : Nat} (h : lenOf dv = some n) (a0 a1 a2 a3 a4 a5 b0 b1 b2 b3 : AV) : fillS (fun i => [(0, 6), (6, 1), (7, 4)][i]?) [.nils, I 0, I 0, I 0, I 0, I 0, .nils, I 0, I 0, .nils, .nils] [(0, .agg [a0, a1, a2, a3, a4, a5]), (1, dv), (2, .agg [b0, b1, b2, b3])] = some [a0, a1, a2, a3, a4, a5, dv, b0, b1, b2, b3] := by
  cases dv with
  | raw u => cases u <;> simp [lenOf] at h; rfl
  | _ => first | (simp [lenOf] at h; done) | rfl
theorem fit_of {cs : List Cell} {g : Gr} {ds : List Day} {t : Tru} {lvs rain : List Int} (h : truthErr cs g ds t lvs rain = 0) : Fit cs g ds t lvs rain := by
  unfold truthErr at h
  split at h
  · rename_i h0
    split at h
    · rename_i h1
      simp only [Bool.and_eq_true] at h1
      obtain ⟨⟨⟨h2, h3⟩, h4⟩, h5⟩ := h1
      unfold daysErr at h0
      split at h0
      · rename_i h6
        split at h0
        · simp at h0
        · rename_i h7
          split at h0
          · rename_i h8
            simp only [gOk, Bool.and_eq_true] at h6
            obtain ⟨⟨⟨⟨⟨k1, k2⟩, k3⟩, k4⟩, k5⟩, k6⟩ := h6
            rw [List.all_eq_true] at k2 h8
            simp only [inB, okR, Bool.and_eq_true, decide_eq_true_eq] at k1 k4 k5 k6 h2 h3
            obtain ⟨l1, l2⟩ := (fits_iff _ _).1 h4
            obtain ⟨r1, r2⟩ := (fits_iff _ _).1 h5
            refine ⟨by omega, fun x hx => Cell.ok_lim (k2 x hx), k3, k6, by omega, fun x hx => Day.ok_lim (h8 x hx), by simpa using l1, fun i x n a1 a2 => ?_, by simpa using r1, fun z hz => ?_, by omega, by omega⟩
            · have := l2 i n x.lv a2 (by rw [List.getElem?_map, a1]; rfl)
              have hl := Cell.ok_lim (k2 x (List.mem_of_getElem? a1))
              unfold Cell.lim at hl
              have h9 : x.lo ≤ n ∧ n ≤ x.hi := by simp only [inB, Bool.and_eq_true] at this; exact ⟨of_decide_eq_true this.1, of_decide_eq_true this.2⟩
              omega
            · obtain ⟨j, hj, rfl⟩ := List.mem_iff_getElem.1 hz
              have hjd : j < ds.length := by simp at r1; omega
              have := r2 j rain[j] ds[j].rn (List.getElem?_eq_getElem hj) (by rw [List.getElem?_map, List.getElem?_eq_getElem hjd]; rfl)
              have hl := Day.ok_lim (h8 _ (List.getElem_mem hjd))
              unfold Day.lim at hl
              have h9 : ds[j].lo ≤ rain[j] ∧ rain[j] ≤ ds[j].hi := by simp only [inB, Bool.and_eq_true] at this; exact ⟨of_decide_eq_true this.1, of_decide_eq_true this.2⟩
              omega
          · simp at h0
      · simp at h0
    · simp at h
  · rename_i h0; exact absurd h h0
def rowsR (cs : List Cell) (g : Gr) (ds : List Day) (t : Tru) (lvs rain : List Int) (k : Nat) : List (List Int) := (List.range k).map fun i => (levP cs g ds t lvs rain (i + 1)).take cs.length
def leftsR (cs : List Cell) (g : Gr) (ds : List Day) (t : Tru) (lvs rain : List Int) (k : Nat) : List Int := (List.range k).map (leftD cs g ds t lvs rain)
end
end Go.Ev

set_option maxRecDepth 100000
set_option linter.unusedSimpArgs false
set_option linter.unusedVariables false
namespace Go.Ev
open Go Go.Proofs
noncomputable section
def thinB (cs : List Cell) (ds : List Day) : Bool := decide ((cs.length : Int) ≤ 10) && decide ((ds.length : Int) ≤ 35)
end
end Go.Ev

set_option maxRecDepth 100000
set_option linter.unusedSimpArgs false
set_option linter.unusedVariables false
namespace Go.Ev
open Go Go.Proofs
noncomputable section
end
end Go.Ev

set_option maxRecDepth 100000
set_option linter.unusedSimpArgs false
set_option linter.unusedVariables false
namespace Go.Ev
open Go Go.Proofs
noncomputable section
/-- A number of a range, by a word. -/
def pickI (lo hi w : Int) : Int := lo + w % (hi - lo + 1)
def U (w : Int) : AV := .int .u16 w
def readyB (cs : List Cell) (g : Gr) (ds : List Day) : Bool := thinB cs ds && decide (daysErr cs g ds = 0)
def nextW (ws : List Int) (i : Nat) : Int := ws.getD (i % ws.length) 0
def pickT (g : Gr) (ws : List Int) : Tru := ⟨pickI g.slo g.shi (nextW ws 0), pickI g.klo g.khi (nextW ws 1)⟩
def pickL (cs : List Cell) (ws : List Int) (k : Nat) : List Int := (List.range k).map fun i => pickI (cs.getD i default).lo (cs.getD i default).hi (nextW ws (2 + i))
def pickR (cs : List Cell) (ds : List Day) (ws : List Int) (k : Nat) : List Int := (List.range k).map fun i => pickI (ds.getD i default).lo (ds.getD i default).hi (nextW ws (2 + cs.length + i))
def fillW (ws : List Int) (k i : Nat) : List AV := (List.range k).map fun j => if j < i then U (nextW ws j) else U 0
end
end Go.Ev

set_option maxRecDepth 100000
set_option linter.unusedSimpArgs false
set_option linter.unusedVariables false
namespace Go.Ev
open Go Go.Proofs
noncomputable section
end
end Go.Ev

set_option maxRecDepth 100000
set_option linter.unusedSimpArgs false
set_option linter.unusedVariables false
namespace Go.Ev
open Go Go.Proofs
noncomputable section
theorem getD_lt {a : List Int} {i : Nat} (h : i < a.length) : a.getD i 0 = a[i] := by rw [List.getD_eq_getElem?_getD, List.getElem?_eq_getElem h]; rfl
/-- What a valid ground with days is. -/
structure GF (cs : List Cell) (g : Gr) (ds : List Day) : Prop where
  n8 : 1 ≤ cs.length ∧ cs.length ≤ 8
  lim : ∀ x ∈ cs, x.lim
  dlim : ∀ x ∈ ds, x.lim
  d30 : ds.length ≤ 30
  snow : 0 ≤ g.slo ∧ g.slo ≤ g.shi ∧ g.shi ≤ 100000
  soak : 0 ≤ g.klo ∧ g.klo ≤ g.khi ∧ g.khi ≤ 1000
theorem gf_of {cs : List Cell} {g : Gr} {ds : List Day} (h : daysErr cs g ds = 0) : GF cs g ds := by
  unfold daysErr at h
  split at h
  · rename_i h6
    split at h
    · simp at h
    · rename_i h7
      split at h
      · rename_i h8
        simp only [gOk, Bool.and_eq_true] at h6
        obtain ⟨⟨⟨⟨⟨k1, k2⟩, k3⟩, k4⟩, k5⟩, k6⟩ := h6
        rw [List.all_eq_true] at k2 h8
        simp only [inB, okR, Bool.and_eq_true, decide_eq_true_eq] at k1 k4 k5
        exact ⟨by omega, fun x hx => Cell.ok_lim (k2 x hx), fun x hx => Day.ok_lim (h8 x hx), by omega, by omega, by omega⟩
      · simp at h
  · simp at h
end
end Go.Ev

set_option maxRecDepth 100000
set_option linter.unusedSimpArgs false
set_option linter.unusedVariables false
namespace Go.Ev
open Go Go.Proofs
noncomputable section
end
end Go.Ev

set_option maxRecDepth 100000
set_option linter.unusedSimpArgs false
set_option linter.unusedVariables false
namespace Go.Ev
open Go Go.Proofs Go.RowKit
noncomputable section
variable {H0 : Type} {enc : TypeId × Value → H0} {w : World} {base : Nat} {sp : Nat → Bool} {hd : Bool} {n : Nat}
end
end Go.Ev

set_option maxRecDepth 100000
set_option linter.unusedSimpArgs false
set_option linter.unusedVariables false
namespace Go.Ev
open Go Go.Proofs
noncomputable section
theorem flat_no {v : AV} {n : Nat} (h : lenOf v = some n) (hn : 0 < n) : v.flat = false := by
  cases v with
  | nils => simp [lenOf] at h; omega
  | raw u => rfl
  | _ => first | rfl | simp [lenOf] at h
theorem flat_cons {v : AV} {l : List AV} (h : v.flat = false) : (AV.agg (v :: l)).flat = false := by rw [AV.flat, AV.flats, h]
theorem any_ok {cs : List Cell} {g : Gr} {ds : List Day} (h : daysErr cs g ds = 0) {t : Tru} {lvs rain : List Int} (h1 : g.slo ≤ t.snow ∧ t.snow ≤ g.shi) (h2 : g.klo ≤ t.soak ∧ t.soak ≤ g.khi) (h3 : lvs.length = cs.length) (h4 : rain.length = ds.length)
    (h5 : ∀ (i : Nat) x n, cs[i]? = some x → lvs[i]? = some n → x.lo ≤ n ∧ n ≤ x.hi) (h6 : ∀ (i : Nat) x n, ds[i]? = some x → rain[i]? = some n → x.lo ≤ n ∧ n ≤ x.hi) : truthErr cs g ds t lvs rain = 0 := by
  have e1 : inB t.snow g.slo g.shi = true := by simp only [inB, Bool.and_eq_true, decide_eq_true_eq]; exact h1
  have e2 : inB t.soak g.klo g.khi = true := by simp only [inB, Bool.and_eq_true, decide_eq_true_eq]; exact h2
  have e3 : fitsB lvs (cs.map Cell.lv) = true := (fits_iff _ _).2 ⟨by simp [h3], fun i u r q1 q2 => by
    rw [List.getElem?_map, Option.map_eq_some_iff] at q2
    obtain ⟨x, q4, rfl⟩ := q2
    have := h5 i x u q4 q1
    simp only [inB, Bool.and_eq_true]
    exact ⟨decide_eq_true this.1, decide_eq_true this.2⟩⟩
  have e4 : fitsB rain (ds.map Day.rn) = true := (fits_iff _ _).2 ⟨by simp [h4], fun i u r q1 q2 => by
    rw [List.getElem?_map, Option.map_eq_some_iff] at q2
    obtain ⟨x, q4, rfl⟩ := q2
    have := h6 i x u q4 q1
    simp only [inB, Bool.and_eq_true]
    exact ⟨decide_eq_true this.1, decide_eq_true this.2⟩⟩
  unfold truthErr
  rw [if_pos h, e1, e2, e3, e4]
  rfl
def lowT (g : Gr) : Tru := ⟨g.slo, g.klo⟩
def highT (g : Gr) : Tru := ⟨g.shi, g.khi⟩
def lowL (cs : List Cell) : List Int := cs.map Cell.lo
def highL (cs : List Cell) : List Int := cs.map Cell.hi
def lowR (ds : List Day) : List Int := ds.map Day.lo
def highR (ds : List Day) : List Int := ds.map Day.hi
theorem low_ok {cs : List Cell} {g : Gr} {ds : List Day} (h : daysErr cs g ds = 0) : truthErr cs g ds (lowT g) (lowL cs) (lowR ds) = 0 := by
  have hg := gf_of h
  have h1 := hg.snow
  have h2 := hg.soak
  refine any_ok h (by simp only [lowT]; omega) (by simp only [lowT]; omega) (by simp [lowL]) (by simp [lowR]) (fun i x n a1 a2 => ?_) (fun i x n a1 a2 => ?_)
  · simp only [lowL, List.getElem?_map, a1, Option.map_some, Option.some.injEq] at a2
    have := hg.lim x (List.mem_of_getElem? a1); unfold Cell.lim at this; omega
  · simp only [lowR, List.getElem?_map, a1, Option.map_some, Option.some.injEq] at a2
    have := hg.dlim x (List.mem_of_getElem? a1); unfold Day.lim at this; omega
theorem build45 {a b : AV} {n m : Nat} (h : lenOf a = some n) (k : lenOf b = some m) (x y : Int) : fillS (fun i => [(0, 1), (1, 1), (2, 1), (3, 1)][i]?) [I 0, I 0, .nils, .nils] [(0, I x), (1, I y), (2, a), (3, b)] = some [I x, I y, a, b] := by
  have ha := one_cells h
  have hb := one_cells k
  simp [fillS, spl, ha, hb, show ∀ z, (I z).cells = [I z] from fun _ => rfl]
theorem c93l (m : Nat) (cv dv : AV) (cs : List Cell) (g : Gr) (ds : List Day) (H : Heap) (hR : Row H cv 7 (cs.map Cell.c)) (hbig : cs.length ≤ 1000) (hY : Row H dv 3 (ds.map Day.c)) (hbd : ds.length ≤ 1000) (hca : cv.atom = true) (hda : dv.atom = true) (hn1 : 1 ≤ cs.length) : ∃ v H', RR (m + 3) (.fn 93 [.agg [.fn 85 [] []], .agg [cv, I g.slo, I g.shi, I g.klo, I g.khi, I g.melt], dv]) H = some (v, H') ∧ ∃ lv rv, v = .agg [cv, I g.slo, I g.shi, I g.klo, I g.khi, I g.melt, dv, I g.slo, I g.klo, lv, rv] ∧ Ret H H' ∧ Ints H' lv (lowL cs) ∧ Ints H' rv (lowR ds) := by
  show ∃ v H', evFn Try.prog (RR (m + 2)) 93 [.agg [.fn 85 [] []], .agg [cv, I g.slo, I g.shi, I g.klo, I g.khi, I g.melt], dv] H = some (v, H') ∧ ∃ lv rv, v = .agg [cv, I g.slo, I g.shi, I g.klo, I g.khi, I g.melt, dv, I g.slo, I g.klo, lv, rv] ∧ Ret H H' ∧ Ints H' lv (lowL cs) ∧ Ints H' rv (lowR ds)
  refine fn_okE Try.func93 rfl rfl (by kernel_rfl) (by kernel_rfl) ?_
  obtain ⟨W, hW, hg, hN, hE, hG⟩ := wOf H
  rw [← hW]
  have hlc : lenOf cv = some cs.length := by simpa using hR.len
  have pc := lpl hlc
  have hld : lenOf dv = some ds.length := by simpa using hY.len
  refine kS ?_; refine kR ?_; refine OkO.box rfl rfl ?_; refine OkO.box rfl rfl ?_; refine OkO.alloc (z := [.nils, .int .i64 0, .int .i64 0, .int .i64 0, .int .i64 0, .int .i64 0, .nils, .int .i64 0, .int .i64 0, .nils, .nils]) rfl (by kernel_rfl) ?_; refine oN ?_; refine kS ?_; refine Ok.drawn [(0, true, []), (1, true, []), (2, true, []), (3, true, []), (4, true, []), (5, true, []), (7, true, []), (8, true, []), (9, true, []), (10, true, []), (12, true, []), (13, true, []), (15, true, []), (16, true, []), (18, true, []), (20, true, []), (21, true, []), (6, false, [21, 16, 13, 10, 8, 0]), (11, false, [21, 16, 13, 5, 3, 0]), (14, false, [21, 16, 10, 8, 5, 3, 0]), (17, false, [21, 13, 10, 8, 5, 3, 0]), (19, false, [21, 16, 13, 10, 8, 5, 3, 0]), (22, false, [16, 13, 10, 8, 5, 3, 0]), (23, true, []), (24, true, []), (25, false, [])] (by kernel_rfl) ?_; refine pS ?_; refine oL rfl rfl (ldg (n := 6) (by kernel_rfl) (by first | assumption | (simp (disch := first | omega | (simp only [hNw, hPt]; omega)) only [gN] <;> first | rfl | assumption)) (by first | rfl | assumption)) ?_; refine oN ⟨rfl, ?_⟩; refine pS ?_; refine oM rfl rfl ?_; refine oN ⟨rfl, ?_⟩; refine pS ?_; refine oF (o := 0) rfl (by kernel_rfl) rfl ?_; refine oN ⟨rfl, ?_⟩; refine pS ?_; refine oL rfl rfl (lda (n := 1) (by kernel_rfl) (by first | assumption | (simp (disch := first | omega | (simp only [hNw, hPt]; omega)) only [gN] <;> first | rfl | assumption)) (by first | rfl | assumption)) ?_; refine oN ⟨rfl, ?_⟩; refine pS ?_; refine oF (o := 1) rfl (by kernel_rfl) rfl ?_; refine oN ⟨rfl, ?_⟩; refine pS ?_; refine oL rfl rfl (ldg (n := 2) (by kernel_rfl) (by first | assumption | (simp (disch := first | omega | (simp only [hNw, hPt]; omega)) only [gN] <;> first | rfl | assumption)) (by first | rfl | assumption)) ?_; refine oN ⟨rfl, ?_⟩; refine pS ?_; refine oF (o := 0) rfl (by kernel_rfl) rfl ?_; refine oN ⟨rfl, ?_⟩; refine pS ?_; refine oL rfl rfl (lda (n := 1) (by kernel_rfl) (by first | assumption | (simp (disch := first | omega | (simp only [hNw, hPt]; omega)) only [gN] <;> first | rfl | assumption)) (by first | rfl | assumption)) ?_; refine oN ⟨rfl, ?_⟩; refine pS ?_; refine oF (o := 3) rfl (by kernel_rfl) rfl ?_; refine oN ⟨rfl, ?_⟩; refine pS ?_; refine oL rfl rfl (ldg (n := 2) (by kernel_rfl) (by first | assumption | (simp (disch := first | omega | (simp only [hNw, hPt]; omega)) only [gN] <;> first | rfl | assumption)) (by first | rfl | assumption)) ?_; refine oN ⟨rfl, ?_⟩; refine pS ?_; refine oF (o := 0) rfl (by kernel_rfl) rfl ?_; refine oN ⟨rfl, ?_⟩; refine pS ?_; refine oL rfl rfl (lda (n := 1) (by kernel_rfl) (by first | assumption | (simp (disch := first | omega | (simp only [hNw, hPt]; omega)) only [gN] <;> first | rfl | assumption)) (by first | rfl | assumption)) ?_; refine oN ⟨rfl, ?_⟩; refine pS ?_; refine oF (o := 0) rfl (by kernel_rfl) rfl ?_; refine oN ⟨rfl, ?_⟩; refine pS ?_; refine oL rfl rfl (lda (n := 1) (by kernel_rfl) (by first | assumption | (simp (disch := first | omega | (simp only [hNw, hPt]; omega)) only [gN] <;> first | rfl | assumption)) (by first | rfl | assumption)) ?_; refine oN ⟨rfl, ?_⟩; refine pS ?_; refine oM rfl rfl ?_; refine oN ⟨rfl, ?_⟩; refine pS ?_; refine oF (o := 0) rfl (by kernel_rfl) rfl ?_; refine oN ⟨rfl, ?_⟩; refine pS ?_; refine oL rfl rfl (lda (n := 1) (by kernel_rfl) (by first | assumption | (simp (disch := first | omega | (simp only [hNw, hPt]; omega)) only [gN] <;> first | rfl | assumption)) (by first | rfl | assumption)) ?_; refine oN ⟨rfl, ?_⟩; refine pS ?_; refine oV rfl rfl rfl rfl rfl (c85 _ g.slo g.shi _) ?_
  refine oN ⟨(sco (sld rfl rfl (lda (n := 1) (by kernel_rfl) (by first | assumption | (simp (disch := first | omega | (simp only [hNw, hPt]; omega)) only [gN] <;> first | rfl | assumption)) (by first | rfl | assumption)) rfl (eqr _ (by first | rfl | exact lpl (by assumption) | (simp [AV.plain, AV.plains, AV.cells, pc])))) (sco (sld rfl rfl (lda (n := 1) (by kernel_rfl) (by first | assumption | (simp (disch := first | omega | (simp only [hNw, hPt]; omega)) only [gN] <;> first | rfl | assumption)) (by first | rfl | assumption)) rfl (eqr _ (by first | rfl | exact lpl (by assumption) | (simp [AV.plain, AV.plains, AV.cells, pc])))) (sco (sld rfl rfl (lda (n := 1) (by kernel_rfl) (by first | assumption | (simp (disch := first | omega | (simp only [hNw, hPt]; omega)) only [gN] <;> first | rfl | assumption)) (by first | rfl | assumption)) rfl (eqr _ (by first | rfl | exact lpl (by assumption) | (simp [AV.plain, AV.plains, AV.cells, pc])))) (sco (sld rfl rfl (ldg (n := 2) (by kernel_rfl) (by first | assumption | (simp (disch := first | omega | (simp only [hNw, hPt]; omega)) only [gN] <;> first | rfl | assumption)) (by first | rfl | assumption)) rfl (eqr _ (by first | rfl | exact lpl (by assumption) | (simp [AV.plain, AV.plains, AV.cells, pc])))) (sco (sld rfl rfl (lda (n := 1) (by kernel_rfl) (by first | assumption | (simp (disch := first | omega | (simp only [hNw, hPt]; omega)) only [gN] <;> first | rfl | assumption)) (by first | rfl | assumption)) rfl (eqr _ (by first | rfl | exact lpl (by assumption) | (simp [AV.plain, AV.plains, AV.cells, pc])))) (sco (sld rfl rfl (ldg (n := 6) (by kernel_rfl) (by first | assumption | (simp (disch := first | omega | (simp only [hNw, hPt]; omega)) only [gN] <;> first | rfl | assumption)) (by first | rfl | assumption)) rfl (eqr _ (by first | rfl | exact lpl (by assumption) | (simp [AV.plain, AV.plains, AV.cells, pc])))) rfl)))))), ?_⟩; refine pS ?_; refine oV rfl rfl rfl rfl rfl (c85 _ g.klo g.khi _) ?_
  refine oN ⟨(sco (sld rfl rfl (lda (n := 1) (by kernel_rfl) (by first | assumption | (simp (disch := first | omega | (simp only [hNw, hPt]; omega)) only [gN] <;> first | rfl | assumption)) (by first | rfl | assumption)) rfl (eqr _ (by first | rfl | exact lpl (by assumption) | (simp [AV.plain, AV.plains, AV.cells, pc])))) (sco (sld rfl rfl (lda (n := 1) (by kernel_rfl) (by first | assumption | (simp (disch := first | omega | (simp only [hNw, hPt]; omega)) only [gN] <;> first | rfl | assumption)) (by first | rfl | assumption)) rfl (eqr _ (by first | rfl | exact lpl (by assumption) | (simp [AV.plain, AV.plains, AV.cells, pc])))) (sco (sld rfl rfl (lda (n := 1) (by kernel_rfl) (by first | assumption | (simp (disch := first | omega | (simp only [hNw, hPt]; omega)) only [gN] <;> first | rfl | assumption)) (by first | rfl | assumption)) rfl (eqr _ (by first | rfl | exact lpl (by assumption) | (simp [AV.plain, AV.plains, AV.cells, pc])))) (sco (sld rfl rfl (ldg (n := 2) (by kernel_rfl) (by first | assumption | (simp (disch := first | omega | (simp only [hNw, hPt]; omega)) only [gN] <;> first | rfl | assumption)) (by first | rfl | assumption)) rfl (eqr _ (by first | rfl | exact lpl (by assumption) | (simp [AV.plain, AV.plains, AV.cells, pc])))) (sco (sld rfl rfl (lda (n := 1) (by kernel_rfl) (by first | assumption | (simp (disch := first | omega | (simp only [hNw, hPt]; omega)) only [gN] <;> first | rfl | assumption)) (by first | rfl | assumption)) rfl (eqr _ (by first | rfl | exact lpl (by assumption) | (simp [AV.plain, AV.plains, AV.cells, pc])))) (sco (sld rfl rfl (ldg (n := 6) (by kernel_rfl) (by first | assumption | (simp (disch := first | omega | (simp only [hNw, hPt]; omega)) only [gN] <;> first | rfl | assumption)) (by first | rfl | assumption)) rfl (eqr _ (by first | rfl | exact lpl (by assumption) | (simp [AV.plain, AV.plains, AV.cells, pc])))) rfl)))))), ?_⟩; refine pS ?_; refine oE rfl rfl rfl rfl rfl (c77 (m + 0) cv cs _ (hR.ext (hE _ (by (try dsimp only); repeat (first | exact hG | apply Grow.new | (refine Grow.put ?_ _ (by first | omega | (simp only [hNw, hPt]; omega))))))) hbig) ?_
  rintro vA HA ⟨qA, rA, cA, fA⟩
  have gA : Grow W HA := Grow.ret (by (try dsimp only); repeat (first | exact hG | apply Grow.new | (refine Grow.put ?_ _ (by first | omega | (simp only [hNw, hPt]; omega))))) qA
  have nA : W.next + 3 ≤ HA.next := by have := qA.ext.next; first | omega | (simp only [hNw] at this; omega)
  have aA : (HA.get W.next).bind AObj.cs = some [.fn 85 [] []] := by rw [qA.ext.get _ (by first | omega | (simp only [hNw]; omega))]; first | assumption | (simp (disch := first | omega | (simp only [hNw, hPt]; omega)) only [gN] <;> first | rfl | assumption)
  have bA : (HA.get (W.next + 1)).bind AObj.cs = some [cv, I g.slo, I g.shi, I g.klo, I g.khi, I g.melt] := by rw [qA.ext.get _ (by first | omega | (simp only [hNw]; omega))]; first | assumption | (simp (disch := first | omega | (simp only [hNw, hPt]; omega)) only [gN] <;> first | rfl | assumption)
  have zA : HA.get (W.next + 2) = some (.cells [.nils, I 0, I 0, I 0, I 0, I 0, .nils, I 0, I 0, .nils, .nils] 110) := by rw [qA.ext.get _ (by first | omega | (simp only [hNw]; omega))]; first | assumption | exact gn0 _ _ | (simp (disch := first | omega | (simp only [hNw, hPt]; omega)) only [gN] <;> first | rfl | assumption)
  refine oN ⟨(sco (sld rfl rfl (lda (n := 1) (by kernel_rfl) (by first | assumption | (simp (disch := first | omega | (simp only [hNw, hPt]; omega)) only [gN] <;> first | rfl | assumption)) (by first | rfl | assumption)) rfl (eqr _ (by first | rfl | exact lpl (by assumption) | (simp [AV.plain, AV.plains, AV.cells, pc])))) (sco (sld rfl rfl (lda (n := 1) (by kernel_rfl) (by first | assumption | (simp (disch := first | omega | (simp only [hNw, hPt]; omega)) only [gN] <;> first | rfl | assumption)) (by first | rfl | assumption)) rfl (eqr _ (by first | rfl | exact lpl (by assumption) | (simp [AV.plain, AV.plains, AV.cells, pc])))) (sco (sld rfl rfl (ldg (n := 2) (by kernel_rfl) (by first | assumption | (simp (disch := first | omega | (simp only [hNw, hPt]; omega)) only [gN] <;> first | rfl | assumption)) (by first | rfl | assumption)) rfl (eqr _ (by first | rfl | exact lpl (by assumption) | (simp [AV.plain, AV.plains, AV.cells, pc])))) (sco (sld rfl rfl (lda (n := 1) (by kernel_rfl) (by first | assumption | (simp (disch := first | omega | (simp only [hNw, hPt]; omega)) only [gN] <;> first | rfl | assumption)) (by first | rfl | assumption)) rfl (eqr _ (by first | rfl | exact lpl (by assumption) | (simp [AV.plain, AV.plains, AV.cells, pc])))) (sco (sld rfl rfl (ldg (n := 2) (by kernel_rfl) (by first | assumption | (simp (disch := first | omega | (simp only [hNw, hPt]; omega)) only [gN] <;> first | rfl | assumption)) (by first | rfl | assumption)) rfl (eqr _ (by first | rfl | exact lpl (by assumption) | (simp [AV.plain, AV.plains, AV.cells, pc])))) (sco (sld rfl rfl (lda (n := 1) (by kernel_rfl) (by first | assumption | (simp (disch := first | omega | (simp only [hNw, hPt]; omega)) only [gN] <;> first | rfl | assumption)) (by first | rfl | assumption)) rfl (eqr _ (by first | rfl | exact lpl (by assumption) | (simp [AV.plain, AV.plains, AV.cells, pc])))) (sco (sld rfl rfl (ldg (n := 6) (by kernel_rfl) (by first | assumption | (simp (disch := first | omega | (simp only [hNw, hPt]; omega)) only [gN] <;> first | rfl | assumption)) (by first | rfl | assumption)) rfl (eqr _ (by first | rfl | exact lpl (by assumption) | (simp [AV.plain, AV.plains, AV.cells, pc])))) rfl))))))), ?_⟩; refine pS ?_; refine oE rfl rfl rfl rfl rfl (c106l (m + 0) vA (cs.map Cell.lv) _ (by rw [lv_map]; exact rA) (by simp; omega)) ?_
  rintro lv HB ⟨qB, rB, cB, fB⟩
  have gB : Grow W HB := Grow.ret gA qB
  have nB : W.next + 3 ≤ HB.next := by have := qB.ext.next; first | omega | (simp only [hNw] at this; omega)
  have aB : (HB.get W.next).bind AObj.cs = some [.fn 85 [] []] := by rw [qB.ext.get _ (by first | omega | (simp only [hNw]; omega))]; first | assumption | (simp (disch := first | omega | (simp only [hNw, hPt]; omega)) only [gN] <;> first | rfl | assumption)
  have bB : (HB.get (W.next + 1)).bind AObj.cs = some [cv, I g.slo, I g.shi, I g.klo, I g.khi, I g.melt] := by rw [qB.ext.get _ (by first | omega | (simp only [hNw]; omega))]; first | assumption | (simp (disch := first | omega | (simp only [hNw, hPt]; omega)) only [gN] <;> first | rfl | assumption)
  have zB : HB.get (W.next + 2) = some (.cells [.nils, I 0, I 0, I 0, I 0, I 0, .nils, I 0, I 0, .nils, .nils] 110) := by rw [qB.ext.get _ (by first | omega | (simp only [hNw]; omega))]; first | assumption | exact gn0 _ _ | (simp (disch := first | omega | (simp only [hNw, hPt]; omega)) only [gN] <;> first | rfl | assumption)
  refine oN ⟨(sco (sld rfl rfl (lda (n := 1) (by kernel_rfl) (by first | assumption | (simp (disch := first | omega | (simp only [hNw, hPt]; omega)) only [gN] <;> first | rfl | assumption)) (by first | rfl | assumption)) rfl (eqr _ (by first | rfl | exact lpl (by assumption) | (simp [AV.plain, AV.plains, AV.cells, pc])))) (sco (sld rfl rfl (lda (n := 1) (by kernel_rfl) (by first | assumption | (simp (disch := first | omega | (simp only [hNw, hPt]; omega)) only [gN] <;> first | rfl | assumption)) (by first | rfl | assumption)) rfl (eqr _ (by first | rfl | exact lpl (by assumption) | (simp [AV.plain, AV.plains, AV.cells, pc])))) (sco (sld rfl rfl (ldg (n := 2) (by kernel_rfl) (by first | assumption | (simp (disch := first | omega | (simp only [hNw, hPt]; omega)) only [gN] <;> first | rfl | assumption)) (by first | rfl | assumption)) rfl (eqr _ (by first | rfl | exact lpl (by assumption) | (simp [AV.plain, AV.plains, AV.cells, pc])))) (sco (sld rfl rfl (lda (n := 1) (by kernel_rfl) (by first | assumption | (simp (disch := first | omega | (simp only [hNw, hPt]; omega)) only [gN] <;> first | rfl | assumption)) (by first | rfl | assumption)) rfl (eqr _ (by first | rfl | exact lpl (by assumption) | (simp [AV.plain, AV.plains, AV.cells, pc])))) (sco (sld rfl rfl (ldg (n := 2) (by kernel_rfl) (by first | assumption | (simp (disch := first | omega | (simp only [hNw, hPt]; omega)) only [gN] <;> first | rfl | assumption)) (by first | rfl | assumption)) rfl (eqr _ (by first | rfl | exact lpl (by assumption) | (simp [AV.plain, AV.plains, AV.cells, pc])))) (sco (sld rfl rfl (lda (n := 1) (by kernel_rfl) (by first | assumption | (simp (disch := first | omega | (simp only [hNw, hPt]; omega)) only [gN] <;> first | rfl | assumption)) (by first | rfl | assumption)) rfl (eqr _ (by first | rfl | exact lpl (by assumption) | (simp [AV.plain, AV.plains, AV.cells, pc])))) (sco (sld rfl rfl (ldg (n := 6) (by kernel_rfl) (by first | assumption | (simp (disch := first | omega | (simp only [hNw, hPt]; omega)) only [gN] <;> first | rfl | assumption)) (by first | rfl | assumption)) rfl (eqr _ (by first | rfl | exact lpl (by assumption) | (simp [AV.plain, AV.plains, AV.cells, pc])))) rfl))))))), ?_⟩; refine pS ?_; refine oE rfl rfl rfl rfl rfl (c79 (m + 0) dv ds _ (hY.ext (hE _ gB)) hbd) ?_
  rintro vC HC ⟨qC, rC, cC, fC⟩
  have gC : Grow W HC := Grow.ret gB qC
  have nC : W.next + 3 ≤ HC.next := by have := qC.ext.next; first | omega | (simp only [hNw] at this; omega)
  have aC : (HC.get W.next).bind AObj.cs = some [.fn 85 [] []] := by rw [qC.ext.get _ (by first | omega | (simp only [hNw]; omega))]; first | assumption | (simp (disch := first | omega | (simp only [hNw, hPt]; omega)) only [gN] <;> first | rfl | assumption)
  have bC : (HC.get (W.next + 1)).bind AObj.cs = some [cv, I g.slo, I g.shi, I g.klo, I g.khi, I g.melt] := by rw [qC.ext.get _ (by first | omega | (simp only [hNw]; omega))]; first | assumption | (simp (disch := first | omega | (simp only [hNw, hPt]; omega)) only [gN] <;> first | rfl | assumption)
  have zC : HC.get (W.next + 2) = some (.cells [.nils, I 0, I 0, I 0, I 0, I 0, .nils, I 0, I 0, .nils, .nils] 110) := by rw [qC.ext.get _ (by first | omega | (simp only [hNw]; omega))]; first | assumption | exact gn0 _ _ | (simp (disch := first | omega | (simp only [hNw, hPt]; omega)) only [gN] <;> first | rfl | assumption)
  refine oN ⟨(sco (sld rfl rfl (lda (n := 1) (by kernel_rfl) (by first | assumption | (simp (disch := first | omega | (simp only [hNw, hPt]; omega)) only [gN] <;> first | rfl | assumption)) (by first | rfl | assumption)) rfl (eqr _ (by first | rfl | exact lpl (by assumption) | (simp [AV.plain, AV.plains, AV.cells, pc])))) (sco (sld rfl rfl (lda (n := 1) (by kernel_rfl) (by first | assumption | (simp (disch := first | omega | (simp only [hNw, hPt]; omega)) only [gN] <;> first | rfl | assumption)) (by first | rfl | assumption)) rfl (eqr _ (by first | rfl | exact lpl (by assumption) | (simp [AV.plain, AV.plains, AV.cells, pc])))) (sco (sld rfl rfl (lda (n := 1) (by kernel_rfl) (by first | assumption | (simp (disch := first | omega | (simp only [hNw, hPt]; omega)) only [gN] <;> first | rfl | assumption)) (by first | rfl | assumption)) rfl (eqr _ (by first | rfl | exact lpl (by assumption) | (simp [AV.plain, AV.plains, AV.cells, pc])))) (sco (sld rfl rfl (ldg (n := 2) (by kernel_rfl) (by first | assumption | (simp (disch := first | omega | (simp only [hNw, hPt]; omega)) only [gN] <;> first | rfl | assumption)) (by first | rfl | assumption)) rfl (eqr _ (by first | rfl | exact lpl (by assumption) | (simp [AV.plain, AV.plains, AV.cells, pc])))) (sco (sld rfl rfl (lda (n := 1) (by kernel_rfl) (by first | assumption | (simp (disch := first | omega | (simp only [hNw, hPt]; omega)) only [gN] <;> first | rfl | assumption)) (by first | rfl | assumption)) rfl (eqr _ (by first | rfl | exact lpl (by assumption) | (simp [AV.plain, AV.plains, AV.cells, pc])))) (sco (sld rfl rfl (ldg (n := 2) (by kernel_rfl) (by first | assumption | (simp (disch := first | omega | (simp only [hNw, hPt]; omega)) only [gN] <;> first | rfl | assumption)) (by first | rfl | assumption)) rfl (eqr _ (by first | rfl | exact lpl (by assumption) | (simp [AV.plain, AV.plains, AV.cells, pc])))) (sco (sld rfl rfl (lda (n := 1) (by kernel_rfl) (by first | assumption | (simp (disch := first | omega | (simp only [hNw, hPt]; omega)) only [gN] <;> first | rfl | assumption)) (by first | rfl | assumption)) rfl (eqr _ (by first | rfl | exact lpl (by assumption) | (simp [AV.plain, AV.plains, AV.cells, pc])))) (sco (sld rfl rfl (ldg (n := 6) (by kernel_rfl) (by first | assumption | (simp (disch := first | omega | (simp only [hNw, hPt]; omega)) only [gN] <;> first | rfl | assumption)) (by first | rfl | assumption)) rfl (eqr _ (by first | rfl | exact lpl (by assumption) | (simp [AV.plain, AV.plains, AV.cells, pc])))) rfl)))))))), ?_⟩; refine pS ?_; refine oE rfl rfl rfl rfl rfl (c106l (m + 0) vC (ds.map Day.rn) _ (by rw [rn_map]; exact rC) (by simp; omega)) ?_
  rintro rv HD ⟨qD, rD, cD, fD⟩
  have gD : Grow W HD := Grow.ret gC qD
  have nD : W.next + 3 ≤ HD.next := by have := qD.ext.next; first | omega | (simp only [hNw] at this; omega)
  have aD : (HD.get W.next).bind AObj.cs = some [.fn 85 [] []] := by rw [qD.ext.get _ (by first | omega | (simp only [hNw]; omega))]; first | assumption | (simp (disch := first | omega | (simp only [hNw, hPt]; omega)) only [gN] <;> first | rfl | assumption)
  have bD : (HD.get (W.next + 1)).bind AObj.cs = some [cv, I g.slo, I g.shi, I g.klo, I g.khi, I g.melt] := by rw [qD.ext.get _ (by first | omega | (simp only [hNw]; omega))]; first | assumption | (simp (disch := first | omega | (simp only [hNw, hPt]; omega)) only [gN] <;> first | rfl | assumption)
  have zD : HD.get (W.next + 2) = some (.cells [.nils, I 0, I 0, I 0, I 0, I 0, .nils, I 0, I 0, .nils, .nils] 110) := by rw [qD.ext.get _ (by first | omega | (simp only [hNw]; omega))]; first | assumption | exact gn0 _ _ | (simp (disch := first | omega | (simp only [hNw, hPt]; omega)) only [gN] <;> first | rfl | assumption)
  have hlv : lenOf lv = some cs.length := by simpa using rB.len
  have hrv : lenOf rv = some ds.length := by simpa using rD.len
  refine oN ⟨(sco (sld rfl rfl (lda (n := 1) (by kernel_rfl) (by first | assumption | (simp (disch := first | omega | (simp only [hNw, hPt]; omega)) only [gN] <;> first | rfl | assumption)) (by first | rfl | assumption)) rfl (eqr _ (by first | rfl | exact lpl (by assumption) | (simp [AV.plain, AV.plains, AV.cells, pc])))) (sco (sld rfl rfl (lda (n := 1) (by kernel_rfl) (by first | assumption | (simp (disch := first | omega | (simp only [hNw, hPt]; omega)) only [gN] <;> first | rfl | assumption)) (by first | rfl | assumption)) rfl (eqr _ (by first | rfl | exact lpl (by assumption) | (simp [AV.plain, AV.plains, AV.cells, pc])))) (sco (sld rfl rfl (ldg (n := 2) (by kernel_rfl) (by first | assumption | (simp (disch := first | omega | (simp only [hNw, hPt]; omega)) only [gN] <;> first | rfl | assumption)) (by first | rfl | assumption)) rfl (eqr _ (by first | rfl | exact lpl (by assumption) | (simp [AV.plain, AV.plains, AV.cells, pc])))) (sco (sld rfl rfl (lda (n := 1) (by kernel_rfl) (by first | assumption | (simp (disch := first | omega | (simp only [hNw, hPt]; omega)) only [gN] <;> first | rfl | assumption)) (by first | rfl | assumption)) rfl (eqr _ (by first | rfl | exact lpl (by assumption) | (simp [AV.plain, AV.plains, AV.cells, pc])))) (sco (sld rfl rfl (ldg (n := 2) (by kernel_rfl) (by first | assumption | (simp (disch := first | omega | (simp only [hNw, hPt]; omega)) only [gN] <;> first | rfl | assumption)) (by first | rfl | assumption)) rfl (eqr _ (by first | rfl | exact lpl (by assumption) | (simp [AV.plain, AV.plains, AV.cells, pc])))) (sco (sld rfl rfl (lda (n := 1) (by kernel_rfl) (by first | assumption | (simp (disch := first | omega | (simp only [hNw, hPt]; omega)) only [gN] <;> first | rfl | assumption)) (by first | rfl | assumption)) rfl (eqr _ (by first | rfl | exact lpl (by assumption) | (simp [AV.plain, AV.plains, AV.cells, pc])))) (sco (sld rfl rfl (ldg (n := 6) (by kernel_rfl) (by first | assumption | (simp (disch := first | omega | (simp only [hNw, hPt]; omega)) only [gN] <;> first | rfl | assumption)) (by first | rfl | assumption)) rfl (eqr _ (by first | rfl | exact lpl (by assumption) | (simp [AV.plain, AV.plains, AV.cells, pc])))) rfl))))))), ?_⟩; refine pS ?_; refine OkO.build (z := [.int .i64 0, .int .i64 0, .nils, .nils]) (pl := [(0, 1), (1, 1), (2, 1), (3, 1)]) (cs := [I g.slo, I g.klo, lv, rv]) rfl (by kernel_rfl) rfl (build45 hlv hrv _ _) ?_; refine oN ⟨rfl, ?_⟩; refine pS ?_; refine OkO.build (z := [.nils, .int .i64 0, .int .i64 0, .int .i64 0, .int .i64 0, .int .i64 0, .nils, .int .i64 0, .int .i64 0, .nils, .nils]) (pl := [(0, 6), (6, 1), (7, 4)]) (cs := [cv, I g.slo, I g.shi, I g.klo, I g.khi, I g.melt, dv, I g.slo, I g.klo, lv, rv]) rfl (by kernel_rfl) rfl (build110 hld _ _ _ _ _ _ _ _ _ _) ?_; refine oN ⟨rfl, ?_⟩; refine pS ?_; refine oT rfl rfl rfl (sAc (n := 11) (ag := true) (l := [cv, I g.slo, I g.shi, I g.klo, I g.khi, I g.melt, dv, I g.slo, I g.klo, lv, rv]) (by kernel_rfl) (by first | assumption | simp (disch := first | omega | (simp only [hNw, hPt]; omega)) only [gN] <;> first | rfl | assumption) rfl (by show atoms [cv, I g.slo, I g.shi, I g.klo, I g.khi, I g.melt, dv, I g.slo, I g.klo, lv, rv] = true; simp [atoms, hca, hda, cB.atom.1, cD.atom.1, show ∀ z, (I z).atom = true from fun _ => rfl]) rfl) ?_; refine oN ⟨rfl, ?_⟩; refine OkP.nil ?_
  refine Ok.ret ⟨.inr rfl, ?_⟩
  refine back_newQ (resV_cell (b := W.next + 2) (off := 0) rfl (ldg (n := 11) (by kernel_rfl) (show ((HD.put (W.next + 2) (.cells [cv, I g.slo, I g.shi, I g.klo, I g.khi, I g.melt, dv, I g.slo, I g.klo, lv, rv] 110)).get (W.next + 2)).bind AObj.cs = some [cv, I g.slo, I g.shi, I g.klo, I g.khi, I g.melt, dv, I g.slo, I g.klo, lv, rv] by rw [gp0]; rfl) rfl) resV_nil) rfl (by rw [← hW]; exact gD.put _ (by simp only [hNw]; omega)) (flat_cons (flat_no hlc (by omega))) (fun H2 p1 h1 h2 => ⟨lv, rv, rfl, p1, ?_, ?_⟩)
  · exact by
      have hq : Ints H2 lv (lowL cs) := by
        have e : ((cs.map Cell.lv).map fun x => [I x.lo]) = (lowL cs).map fun n => [I n] := by simp [lowL, Cell.lv]
        rw [e] at fB rB
        exact fB H2 (by rw [h2]; exact Nat.le_trans qC.ext.next qD.ext.next) (fun n a1 a2 => by have := qA.ext.next; simp only [hNw] at this; rw [h1, gpo _ _ _ _ (by first | omega | (simp only [hNw]; omega)), qD.ext.get _ (by have := qC.ext.next; omega), qC.ext.get _ a2])
      exact hq
  · exact by
      have hq : Ints H2 rv (lowR ds) := by
        have e : ((ds.map Day.rn).map fun x => [I x.lo]) = (lowR ds).map fun n => [I n] := by simp [lowR, Day.rn]
        rw [e] at fD rD
        exact fD H2 (by rw [h2]; exact Nat.le_refl _) (fun n a1 a2 => by rw [h1, gpo _ _ _ _ (by first | omega | (simp only [hNw]; omega))])
      exact hq
end
end Go.Ev

set_option maxRecDepth 100000
set_option linter.unusedSimpArgs false
set_option linter.unusedVariables false
namespace Go.Ev
open Go Go.Proofs
noncomputable section
/-- Lists of ranges, each in a block of its own, none of them that of either slice. -/
def RowsR (G : Heap) (v6 v7 : AV) (vs : List AV) (rows : List (List Rg)) : Prop := vs.length = rows.length ∧ ∀ (j : Nat) x r, vs[j]? = some x → rows[j]? = some r → ∃ b, x = .opn b r.length ∧ G.get b = some (.opn ((r.map Rg.c).flatten) 36 2) ∧ b < G.next ∧ (∀ m, v6 ≠ .opn b m) ∧ (∀ m, v7 ≠ .opn b m)
theorem RowsR.keep {G G' : Heap} {v6 v7 w6 w7 : AV} {vs : List AV} {rows : List (List Rg)} (h : RowsR G v6 v7 vs rows) (hk : ∀ j, j < G.next → (∀ m, v6 ≠ .opn j m) → (∀ m, v7 ≠ .opn j m) → G'.get j = G.get j) (hn : G.next ≤ G'.next)
    (h6 : ∀ b m, w6 = .opn b m → G.next ≤ b ∨ v6 = w6) (h7 : ∀ b m, w7 = .opn b m → G.next ≤ b ∨ v7 = w7) : RowsR G' w6 w7 vs rows := by
  refine ⟨h.1, fun j x r k1 k2 => ?_⟩
  obtain ⟨b, a1, a2, a3, a4, a5⟩ := h.2 j x r k1 k2
  refine ⟨b, a1, by rw [hk b a3 a4 a5]; exact a2, by omega, fun m hm => ?_, fun m hm => ?_⟩
  · rcases h6 b m hm with h | h
    · omega
    · exact a4 m (h.trans hm)
  · rcases h7 b m hm with h | h
    · omega
    · exact a5 m (h.trans hm)
theorem RowsR.snoc {G : Heap} {v6 v7 : AV} {vs : List AV} {rows : List (List Rg)} (h : RowsR G v6 v7 vs rows) {b : Nat} {r : List Rg} (h1 : G.get b = some (.opn ((r.map Rg.c).flatten) 36 2)) (h2 : b < G.next) (h3 : ∀ m, v6 ≠ .opn b m) (h4 : ∀ m, v7 ≠ .opn b m) : RowsR G v6 v7 (vs ++ [.opn b r.length]) (rows ++ [r]) := by
  refine ⟨by simp [h.1], fun j x q k1 k2 => ?_⟩
  have hl := h.1
  by_cases hj : j < vs.length
  · rw [List.getElem?_append_left hj] at k1
    rw [List.getElem?_append_left (by omega)] at k2
    exact h.2 j x q k1 k2
  · have hj2 : j = vs.length := by
      have := (List.getElem?_eq_some_iff.1 k1).1
      simp at this; omega
    subst hj2
    simp at k1
    rw [hl] at k2
    simp at k2
    subst k1 k2
    exact ⟨b, rfl, h1, h2, h3, h4⟩
/-- A slice of lists of ranges. -/
def ListsR (G : Heap) (v : AV) (rows : List (List Rg)) : Prop := ∃ vs : List AV, Row G v 1 (vs.map fun x => [x]) ∧ vs.length = rows.length ∧ ∀ (j : Nat) x r, vs[j]? = some x → rows[j]? = some r → Row G x 2 (r.map Rg.c)
theorem ListsR.ext {H G : Heap} {v : AV} {rows : List (List Rg)} (h : ListsR H v rows) (g : Ext H G) : ListsR G v rows := let ⟨vs, h1, h2, h3⟩ := h; ⟨vs, h1.ext g, h2, fun j x r k1 k2 => (h3 j x r k1 k2).ext g⟩
theorem backRow {H G H' : Heap} {v : AV} {sz : Nat} {l : List (List AV)} (hc : Cut G v sz) (hr : Row G v sz l) (r : (H' = H ∧ v.flat = true) ∨ ((∀ n, H'.get n = G.get n) ∧ H'.next = G.next)) : Row H' v sz l := by
  rcases r with ⟨_, hf⟩ | ⟨h1, h2⟩
  · rcases hc with ⟨b, off, len, cap, rfl, _⟩ | ⟨b, len, cs, e, rfl, _⟩ | rfl
    · cases hf
    · cases hf
    · have hl : l = [] := by
        have := hr.len
        cases l with
        | nil => rfl
        | cons a b => simp [lenOf] at this
      subst hl
      exact Row.nil _ _
  · exact hr.same h1 h2
/-- The range of a level, of all on a day, of the snow. -/
def lvR (cs : List Cell) (g : Gr) (ds : List Day) (i k : Nat) : Rg := ⟨(levP cs g ds (lowT g) (lowL cs) (lowR ds) (i + 1)).getD k 0, (levP cs g ds (highT g) (highL cs) (highR ds) (i + 1)).getD k 0⟩
def rowG (cs : List Cell) (g : Gr) (ds : List Day) (i k : Nat) : List Rg := (List.range k).map (lvR cs g ds i)
def rowsG (cs : List Cell) (g : Gr) (ds : List Day) (n : Nat) : List (List Rg) := (List.range n).map fun i => rowG cs g ds i cs.length
def snG (cs : List Cell) (g : Gr) (ds : List Day) (n : Nat) : List Rg := (List.range n).map fun i => ⟨snowP g.melt ds (lowR ds) (lowT g).snow (i + 1), snowP g.melt ds (highR ds) (highT g).snow (i + 1)⟩
end
end Go.Ev

set_option maxRecDepth 100000
set_option linter.unusedSimpArgs false
set_option linter.unusedVariables false
namespace Go.Ev
open Go Go.Proofs
noncomputable section
theorem ListsR.same {G G' : Heap} {v : AV} {rows : List (List Rg)} (h : ListsR G v rows) (hg : ∀ n, G'.get n = G.get n) (hn : G'.next = G.next) : ListsR G' v rows := h.ext ⟨by omega, fun n _ => hg n⟩
/-- Lists of lists of the same lengths. -/
def Same (a b : List (List Int)) : Prop := a.length = b.length ∧ ∀ (i : Nat) x y, a[i]? = some x → b[i]? = some y → x.length = y.length
end
end Go.Ev

set_option maxRecDepth 100000
set_option linter.unusedSimpArgs false
set_option linter.unusedVariables false
namespace Go.Ev
open Go Go.Proofs
noncomputable section
/-- None is greater. -/
def LeL (a b : List Int) : Prop := ∀ j, a.getD j 0 ≤ b.getD j 0
theorem getD_set (a : List Int) (k j : Nat) (z : Int) (hk : k < a.length) : (a.set k z).getD j 0 = if k = j then z else a.getD j 0 := by
  rw [List.getD_eq_getElem?_getD, List.getElem?_set]
  split
  · first | rfl | (rw [if_pos (by omega)]; rfl)
  · rw [List.getD_eq_getElem?_getD]
theorem LeL.set {a b : List Int} (h : LeL a b) {k : Nat} {y z : Int} (hz : y ≤ z) (ha : k < a.length) (hb : k < b.length) : LeL (a.set k y) (b.set k z) := fun j => by
  rw [getD_set _ _ _ _ ha, getD_set _ _ _ _ hb]
  split
  · exact hz
  · exact h j
theorem LeL.refl (a : List Int) : LeL a a := fun _ => Int.le_refl _
/-- The same cell, with a pump that is not less. -/
structure LeC (x' x : Cell) : Prop where
  cap : x'.cap = x.cap
  keep : x'.keep = x.keep
  pass : x'.pass = x.pass
  to_ : x'.to = x.to
  pump : x.pump ≤ x'.pump
theorem LeC.refl (x : Cell) : LeC x x := ⟨rfl, rfl, rfl, rfl, Int.le_refl _⟩
theorem give_mono {x x' : Cell} (h : LeC x' x) (hx : x.lim) (hx' : x'.lim) {n' n : Int} (hn : n' ≤ n) : passd x' n' ≤ passd x n ∧ n' - pumpd x' n' - passd x' n' ≤ n - pumpd x n - passd x n := by
  have h1 := h.pump
  unfold Cell.lim at hx hx'
  have hr : n' - pumpd x' n' ≤ n - pumpd x n := by unfold pumpd; omega
  have he : max (n' - pumpd x' n' - x'.keep) 0 ≤ max (n - pumpd x n - x.keep) 0 := by rw [h.keep]; omega
  have hd : max (n - pumpd x n - x.keep) 0 - max (n' - pumpd x' n' - x'.keep) 0 ≤ (n - pumpd x n) - (n' - pumpd x' n') := by rw [h.keep]; omega
  unfold passd
  rw [h.pass]
  generalize n - pumpd x n = r at *
  generalize n' - pumpd x' n' = r' at *
  generalize max (r - x.keep) 0 = e at *
  generalize max (r' - x'.keep) 0 = e' at *
  have hp : 0 ≤ x.pass ∧ x.pass ≤ 1000 := hx.2.2.2.1
  have m1 := Int.mul_le_mul_of_nonneg_right he hp.1
  have m2 : e * x.pass ≤ e' * x.pass + (e - e') * 1000 := by
    have m3 := Int.mul_le_mul_of_nonneg_left hp.2 (show 0 ≤ e - e' by omega)
    have m4 : e * x.pass = e' * x.pass + (e - e') * x.pass := by rw [← Int.add_mul]; congr 1; omega
    omega
  constructor
  · exact Int.ediv_le_ediv (by omega) m1
  · omega
theorem stepA_mono {x x' : Cell} (h : LeC x' x) (hx : x.lim) (hx' : x'.lim) {i : Nat} {n' n so' so : Int} (hn : n' ≤ n) (hs : so' ≤ so) {a' a : List Int} (ha : LeL a' a) (hl' : a'.length = 8) (hl : a.length = 8) (hi : i < 8) (hto : x.to = -1 ∨ 0 ≤ x.to ∧ x.to < 8) : LeL (stepA x' i n' so' a') (stepA x i n so a) := by
  have hg := give_mono h hx hx' hn
  unfold stepA
  rw [h.to_]
  by_cases hm : x.to = -1
  · simp only [if_pos hm]
    exact ha.set (by have := ha i; omega) (by omega) (by omega)
  · simp only [if_neg hm]
    have h1 : LeL (a'.set x.to.toNat (a'.getD x.to.toNat 0 + passd x' n')) (a.set x.to.toNat (a.getD x.to.toNat 0 + passd x n)) := ha.set (by have := ha x.to.toNat; omega) (by omega) (by omega)
    exact h1.set (by have := h1 i; omega) (by rw [List.length_set]; omega) (by rw [List.length_set]; omega)
theorem aft_mono {cs cs' : List Cell} (hlen : cs'.length = cs.length) (hn : cs.length ≤ 8) (hc : ∀ i, i < cs.length → LeC (cs'.getD i default) (cs.getD i default)) (hlim : ∀ x ∈ cs, x.lim) (hlim' : ∀ x ∈ cs', x.lim) (ht : toOk (cs.length : Int) 0 cs = true) {bef' bef : List Int} (hb : LeL bef' bef) {so' so : Int} (hs : so' ≤ so) :
    ∀ i, i ≤ cs.length → LeL (aftP cs' bef' so' i) (aftP cs bef so i)
  | 0, _ => LeL.refl _
  | i + 1, hi => by
    have h := aft_mono hlen hn hc hlim hlim' ht hb hs i (by omega)
    have hx : cs.getD i default = cs[i]'(by omega) := by simp [show i < cs.length from by omega]
    have hx' : cs'.getD i default = cs'[i]'(by omega) := by simp [show i < cs'.length from by omega]
    have hto := ((toOk_iff _ _ _).1 ht i (cs[i]'(by omega)) (List.getElem?_eq_getElem (by omega))).1
    simp only [inB, Bool.and_eq_true, decide_eq_true_eq] at hto
    rw [aftP, aftP]
    exact stepA_mono (hc i (by omega)) (by rw [hx]; exact hlim _ (List.getElem_mem _)) (by rw [hx']; exact hlim' _ (List.getElem_mem _)) (hb i) hs h (aft_len _ _ _ _) (aft_len _ _ _ _) (by omega) (by rw [hx]; omega)
theorem cut_mono {cs cs' : List Cell} (hlen : cs'.length = cs.length) (hc : ∀ i, i < cs.length → LeC (cs'.getD i default) (cs.getD i default)) {a' a : List Int} (ha : LeL a' a) (hl' : a'.length = 8) (hl : a.length = 8) (hn : cs.length ≤ 8) : ∀ i, i ≤ cs.length → LeL (cutP cs' a' i) (cutP cs a i)
  | 0, _ => ha
  | i + 1, hi => by
    have h := cut_mono hlen hc ha hl' hl hn i (by omega)
    have hcap := (hc i (by omega)).cap
    rw [cutP, cutP, hcap]
    exact h.set (by have := h i; omega) (by rw [cut_len]; omega) (by rw [cut_len]; omega)
theorem day_mono {cs cs' : List Cell} (hlen : cs'.length = cs.length) (hn : cs.length ≤ 8) (hc : ∀ i, i < cs.length → LeC (cs'.getD i default) (cs.getD i default)) (hlim : ∀ x ∈ cs, x.lim) (hlim' : ∀ x ∈ cs', x.lim) (ht : toOk (cs.length : Int) 0 cs = true) {bef' bef : List Int} (hb : LeL bef' bef) {d' d s' s : Int}
    (hd : 0 ≤ d' ∧ d' ≤ d) (hs : 0 ≤ s' ∧ s' ≤ s) : LeL (dayL cs' bef' d' s') (dayL cs bef d s) := by
  have m : d' * s' / 1000 ≤ d * s / 1000 := Int.ediv_le_ediv (by omega) (Int.mul_le_mul hd.2 hs.2 hs.1 (by omega))
  unfold dayL
  rw [hlen]
  exact cut_mono hlen hc (aft_mono hlen hn hc hlim hlim' ht hb m cs.length (Nat.le_refl _)) (aft_len _ _ _ _) (aft_len _ _ _ _) hn cs.length (Nat.le_refl _)
theorem sd_mono {melt : Int} {ds : List Day} {rain' rain : List Int} {s' s : Int} (hr : LeL rain' rain) (hs : s' ≤ s) : ∀ i, snowP melt ds rain' s' i ≤ snowP melt ds rain s i ∧ downP melt ds rain' s' i ≤ downP melt ds rain s i
  | 0 => by
    have := hr 0
    refine ⟨by rw [snowP, snowP]; exact hs, ?_⟩
    rw [downP, downP, snowP, snowP]
    split <;> omega
  | i + 1 => by
    have h := sd_mono (melt := melt) (ds := ds) hr hs i
    have h0 := hr i
    have h1 := hr (i + 1)
    have e : snowP melt ds rain' s' (i + 1) ≤ snowP melt ds rain s (i + 1) := by
      rw [snowP, snowP]
      split <;> omega
    refine ⟨e, ?_⟩
    rw [downP, downP]
    split <;> omega
theorem app_zero (l : List Int) (k j : Nat) : (l ++ List.replicate k 0).getD j 0 = l.getD j 0 := by
  rw [List.getD_eq_getElem?_getD, List.getD_eq_getElem?_getD]
  by_cases h : j < l.length
  · rw [List.getElem?_append_left h]
  · rw [List.getElem?_append_right (by omega), List.getElem?_eq_none (by omega : l.length ≤ j), List.getElem?_replicate]
    split <;> rfl
theorem lev_mono {cs cs' : List Cell} {g g' : Gr} {ds : List Day} {t t' : Tru} {lvs lvs' rain rain' : List Int} (h : Fit cs g ds t lvs rain) (h' : Fit cs' g' ds t' lvs' rain') (hlen : cs'.length = cs.length) (hc : ∀ i, i < cs.length → LeC (cs'.getD i default) (cs.getD i default)) (hm : g'.melt = g.melt)
    (hs : t'.snow ≤ t.snow) (hk : t'.soak ≤ t.soak) (hl : LeL lvs' lvs) (hr : LeL rain' rain) : ∀ i, i ≤ ds.length → LeL (levP cs' g' ds t' lvs' rain' i) (levP cs g ds t lvs rain i)
  | 0, _ => fun j => by rw [levP, levP, app_zero, app_zero]; exact hl j
  | i + 1, hi => by
    have ih := lev_mono h h' hlen hc hm hs hk hl hr i (by omega)
    have hsd := sd_mono (melt := g.melt) (ds := ds) hr hs i
    have hdb := down_bd h'.melt h'.dlim h'.rb h'.snow i (by omega)
    have hsk := h'.soak
    rw [levP, levP, hm]
    rw [hm] at hdb
    exact day_mono hlen h.n8.2 hc h.lim h'.lim h.to_ ih ⟨hdb.1, hsd.2⟩ ⟨hsk.1, hk⟩
/-- A truth lies between the ends. -/
structure Betw (cs : List Cell) (g : Gr) (ds : List Day) (t : Tru) (lvs rain : List Int) : Prop where
  snow : g.slo ≤ t.snow ∧ t.snow ≤ g.shi
  soak : g.klo ≤ t.soak ∧ t.soak ≤ g.khi
  l1 : LeL (lowL cs) lvs
  l2 : LeL lvs (highL cs)
  r1 : LeL (lowR ds) rain
  r2 : LeL rain (highR ds)
theorem LeL.of {a b : List Int} (hl : a.length = b.length) (h : ∀ (j : Nat) x y, a[j]? = some x → b[j]? = some y → x ≤ y) : LeL a b := fun j => by
  by_cases hj : j < a.length
  · rw [getD_lt hj, getD_lt (by omega)]
    exact h j _ _ (List.getElem?_eq_getElem hj) (List.getElem?_eq_getElem (by omega))
  · rw [List.getD_eq_getElem?_getD, List.getD_eq_getElem?_getD, List.getElem?_eq_none (by omega), List.getElem?_eq_none (by omega)]
    exact Int.le_refl _
end
end Go.Ev

set_option maxRecDepth 100000
set_option linter.unusedSimpArgs false
set_option linter.unusedVariables false
namespace Go.Ev
open Go Go.Proofs
noncomputable section
end
end Go.Ev

set_option maxRecDepth 100000
set_option linter.unusedSimpArgs false
set_option linter.unusedVariables false
namespace Go.Ev
open Go Go.Proofs
noncomputable section
def stayI (cs : List Cell) (bef : List Int) (i : Nat) : Int := bef.getD i 0 - pumpd (cs.getD i default) (bef.getD i 0) - passd (cs.getD i default) (bef.getD i 0)
def passI (cs : List Cell) (bef : List Int) (i : Nat) : Int := passd (cs.getD i default) (bef.getD i 0)
def inflI (cs : List Cell) (bef : List Int) : Nat → Nat → Int
  | 0, _ => 0
  | k + 1, j => inflI cs bef k j + if (cs.getD k default).to = (j : Int) then passI cs bef k else 0
def lvlI (cs : List Cell) (bef : List Int) (so : Int) (j : Nat) : Int := stayI cs bef j + so + inflI cs bef cs.length j
def lAI (cs : List Cell) (bef : List Int) (dn so : Int) : Nat → Int
  | 0 => cs.length * (dn - so)
  | m + 1 => lAI cs bef dn so m + pumpd (cs.getD m default) (bef.getD m 0) + (if (cs.getD m default).to < 0 then passI cs bef m else 0)
def lBI (cs : List Cell) (bef : List Int) (dn so : Int) : Nat → Int
  | 0 => lAI cs bef dn so cs.length
  | m + 1 => lBI cs bef dn so m + (if (cs.getD m default).cap < lvlI cs bef so m then lvlI cs bef so m - (cs.getD m default).cap else 0)
def fillI (f : Nat → Int) (n i : Nat) : List Int := (List.range n).map fun j => if j < i then f j else 0
def outI (cs : List Cell) (bef : List Int) (so : Int) (k : Nat) : List Int := (List.range k).map fun j => min (lvlI cs bef so j) (cs.getD j default).cap
end
end Go.Ev

set_option maxRecDepth 100000
set_option linter.unusedSimpArgs false
set_option linter.unusedVariables false
namespace Go.Ev
open Go Go.Proofs
noncomputable section
def leftK (cs : List Cell) (g : Gr) (ds : List Day) (t : Tru) (lvs rain : List Int) : Nat → Int
  | 0 => 0
  | k + 1 => leftD cs g ds t lvs rain k
end
end Go.Ev

set_option maxRecDepth 100000
set_option linter.unusedSimpArgs false
set_option linter.unusedVariables false
namespace Go.Ev
open Go Go.Proofs
noncomputable section
def fitB (cs : List Cell) (g : Gr) (ds : List Day) (t : Tru) (lvs rain : List Int) : Bool := inB t.snow g.slo g.shi && inB t.soak g.klo g.khi && fitsB lvs (cs.map Cell.lv) && fitsB rain (ds.map Day.rn)
section
open Go.RowKit
variable {H0 : Type} {enc : TypeId × Value → H0} {w : World} {base : Nat} {sp : Nat → Bool} {hd : Bool}
end
end
end Go.Ev


set_option maxRecDepth 100000
set_option linter.unusedSimpArgs false
set_option linter.unusedVariables false
namespace Go.Ev
open Go Go.Proofs
noncomputable section
end
end Go.Ev

set_option maxRecDepth 100000
set_option linter.unusedSimpArgs false
set_option linter.unusedVariables false
namespace Go.Ev
open Go Go.Proofs
noncomputable section
end
end Go.Ev

set_option maxRecDepth 100000
set_option linter.unusedSimpArgs false
set_option linter.unusedVariables false
namespace Go.Ev
open Go Go.Proofs
noncomputable section
def askErr (cs : List Cell) (g : Gr) (ds : List Day) (cell level : Int) : Int :=
  if daysErr cs g ds = 0 then (if (inB cell 0 ((cs.length : Int) - 1) && inB level 0 100000) = true then 0 else 2) else daysErr cs g ds
/-- The first of so many at which `f` is at least `lv`, or -1. -/
def firstD (f : Nat → Int) (lv : Int) : Nat → Int
  | 0 => -1
  | n + 1 => if firstD f lv n = -1 then (if lv ≤ f n then (n : Int) else -1) else firstD f lv n
end
end Go.Ev

set_option maxRecDepth 100000
set_option linter.unusedSimpArgs false
set_option linter.unusedVariables false
namespace Go.Ev
open Go Go.Proofs
noncomputable section
end
end Go.Ev

set_option maxRecDepth 100000
set_option linter.unusedSimpArgs false
set_option linter.unusedVariables false
namespace Go.Ev
open Go Go.Proofs
noncomputable section
section
open Go.ChangeShapes Go.WideShapes Go.RowKit
variable {H0 : Type} {enc : TypeId × Value → H0} {w : World} {base : Nat} {sp : Nat → Bool} {hd : Bool}
end
end
end Go.Ev

set_option maxRecDepth 100000
set_option linter.unusedSimpArgs false
set_option linter.unusedVariables false
namespace Go.Ev
open Go Go.Proofs
noncomputable section
end
end Go.Ev

set_option maxRecDepth 100000
set_option linter.unusedSimpArgs false
set_option linter.unusedVariables false
namespace Go.Ev
open Go Go.Proofs
noncomputable section
section
open Go.ChangeShapes Go.WideShapes Go.RowKit
variable {H0 : Type} {enc : TypeId × Value → H0} {w : World} {base : Nat} {sp : Nat → Bool} {hd : Bool}
end
end
end Go.Ev

set_option linter.unusedVariables false
namespace Go.Ev
open Go Go.Proofs Go.ChangeShapes Go.WideShapes Go.RowKit
variable {H : Type} {enc : TypeId × Value → H} {P : Program} {w : World} {base : Nat} {spare : Nat → Bool} {held : Bool}
end Go.Ev

set_option maxRecDepth 100000
set_option linter.unusedSimpArgs false
set_option linter.unusedVariables false
namespace Go.Ev
open Go Go.Proofs
noncomputable section
/-- A day behind all others, where there is none. -/
def fixD (D : Nat) (x : Int) : Int := if x < 0 then (D : Int) else x
def lateL (D : Nat) (l : List Int) (i : Nat) : List Int := (l.take i).map (fixD D) ++ l.drop i
section
open Go.ChangeShapes Go.WideShapes Go.RowKit
variable {H0 : Type} {enc : TypeId × Value → H0} {w : World} {base : Nat} {sp : Nat → Bool} {hd : Bool}
end
end
end Go.Ev

set_option maxRecDepth 100000
set_option linter.unusedSimpArgs false
set_option linter.unusedVariables false
namespace Go.Ev
open Go Go.Proofs
noncomputable section
def setP (cs : List Cell) (k : Nat) (p : Int) : List Cell := cs.set k { cs.getD k default with pump := p }
end
end Go.Ev

set_option maxRecDepth 100000
set_option linter.unusedSimpArgs false
set_option linter.unusedVariables false
namespace Go.Ev
open Go
noncomputable section
theorem wrapF_u64 {n : Int} (h1 : 0 ≤ n) (h2 : n < 9223372036854775808) : wrapF .u64 n = n := by
  rw [wrapF_eq]
  exact IntWalk.u64_in _ (by omega)
/-- A reading: where, when, and from where to where. -/
structure Rd where
  cell : Int
  day : Int
  lo : Int
  hi : Int
abbrev Rd.k (x : Rd) : Int × Int := (x.cell, x.day)
def encW (k : Int × Int) : AV := .agg [.int .i64 k.1, .int .i64 k.2]
def encR2 (r : Int × Int) : AV := .agg [.int .i64 r.1, .int .i64 r.2]
def Rd.c (x : Rd) : List AV := [.int .i64 x.cell, .int .i64 x.day, .int .i64 x.lo, .int .i64 x.hi]
/-- One reading more. -/
def wst (f : Int × Int → Option (Int × Int)) (x : Rd) : Int × Int → Option (Int × Int) := fun k =>
  if k = x.k then some (match f k with | some r => (max r.1 x.lo, min r.2 x.hi) | none => (x.lo, x.hi)) else f k
def wf (rs : List Rd) : Int × Int → Option (Int × Int) := rs.foldl wst fun _ => none
theorem wf_snoc (rs : List Rd) (x : Rd) : wf (rs ++ [x]) = wst (wf rs) x := by unfold wf; rw [List.foldl_append]; rfl
def mapV (f : Int × Int → Option (Int × Int)) : Int × Int → Option AV := fun k => (f k).map encR2
def wv (f : Int × Int → Option (Int × Int)) (x : Rd) : Int × Int := match f x.k with | some r => (max r.1 x.lo, min r.2 x.hi) | none => (x.lo, x.hi)
theorem mapV_upd (f : Int × Int → Option (Int × Int)) (x : Rd) : updK (mapV f) x.k (encR2 (wv f x)) = mapV (wst f x) := by
  funext k
  unfold updK mapV wst wv
  by_cases h : k = x.k
  · subst h; simp
  · simp [h]
def WfOk (rs : List Rd) (k : Int × Int) : Option (Int × Int) → Prop
  | none => ∀ x ∈ rs, x.k ≠ k
  | some r => (∃ x ∈ rs, x.k = k) ∧ (∀ n, n < r.1 ↔ ∃ x ∈ rs, x.k = k ∧ n < x.lo) ∧ ∀ n, r.2 < n ↔ ∃ x ∈ rs, x.k = k ∧ x.hi < n
theorem wf_rev : ∀ (l : List Rd) (k : Int × Int), WfOk l k (wf l.reverse k)
  | [], k => by show ∀ x ∈ ([] : List Rd), _; intro x h; cases h
  | y :: l, k => by
    rw [List.reverse_cons, wf_snoc]
    have ih := wf_rev l k
    unfold wst
    by_cases h : k = y.k
    · rw [if_pos h]
      cases hw : wf l.reverse k with
      | none =>
        rw [hw] at ih
        refine ⟨⟨y, by simp, h.symm⟩, fun n => ⟨fun q => ⟨y, by simp, h.symm, q⟩, ?_⟩, fun n => ⟨fun q => ⟨y, by simp, h.symm, q⟩, ?_⟩⟩
        all_goals
          rintro ⟨x, hx, hk, q⟩
          rcases List.mem_cons.1 hx with rfl | hx
          · exact q
          · exact absurd hk (ih x hx)
      | some r =>
        rw [hw] at ih
        obtain ⟨_, h2, h3⟩ := ih
        refine ⟨⟨y, by simp, h.symm⟩, fun n => ⟨fun q => ?_, ?_⟩, fun n => ⟨fun q => ?_, ?_⟩⟩
        · dsimp only at q
          by_cases q1 : n < r.1
          · obtain ⟨x, hx, hk, hl⟩ := (h2 n).1 q1; exact ⟨x, by simp [hx], hk, hl⟩
          · exact ⟨y, by simp, h.symm, by omega⟩
        · rintro ⟨x, hx, hk, q⟩
          dsimp only
          rcases List.mem_cons.1 hx with rfl | hx
          · omega
          · have := (h2 n).2 ⟨x, hx, hk, q⟩; omega
        · dsimp only at q
          by_cases q1 : r.2 < n
          · obtain ⟨x, hx, hk, hl⟩ := (h3 n).1 q1; exact ⟨x, by simp [hx], hk, hl⟩
          · exact ⟨y, by simp, h.symm, by omega⟩
        · rintro ⟨x, hx, hk, q⟩
          dsimp only
          rcases List.mem_cons.1 hx with rfl | hx
          · omega
          · have := (h3 n).2 ⟨x, hx, hk, q⟩; omega
    · rw [if_neg h]
      cases hw : wf l.reverse k with
      | none =>
        rw [hw] at ih
        intro x hx
        rcases List.mem_cons.1 hx with rfl | hx
        · exact fun e => h e.symm
        · exact ih x hx
      | some r =>
        rw [hw] at ih
        obtain ⟨⟨x0, h0, k0⟩, h2, h3⟩ := ih
        refine ⟨⟨x0, by simp [h0], k0⟩, fun n => (h2 n).trans ⟨fun ⟨x, a, b⟩ => ⟨x, by simp [a], b⟩, ?_⟩, fun n => (h3 n).trans ⟨fun ⟨x, a, b⟩ => ⟨x, by simp [a], b⟩, ?_⟩⟩
        all_goals
          rintro ⟨x, hx, hk, q⟩
          rcases List.mem_cons.1 hx with rfl | hx
          · exact absurd hk.symm h
          · exact ⟨x, hx, hk, q⟩
theorem wf_spec (rs : List Rd) (k : Int × Int) : WfOk rs k (wf rs k) := by
  have h := wf_rev rs.reverse k
  rw [List.reverse_reverse] at h
  revert h
  cases wf rs k with
  | none => intro h x hx; exact h x (by simpa using hx)
  | some r =>
    rintro ⟨⟨x, a, b⟩, h2, h3⟩
    refine ⟨⟨x, by simpa using a, b⟩, fun n => (h2 n).trans ?_, fun n => (h3 n).trans ?_⟩ <;> simp

/-- What a map's key, or its range, says. -/
def dec2 : AV → Int × Int
  | .agg [.int _ a, .int _ b] => (a, b)
  | _ => (0, 0)
def tLow (lv : Int → Int → Int) (e : AV × AV × Nat) : Bool := decide (lv (dec2 e.1).2 (dec2 e.1).1 < (dec2 e.2.1).1)
def tHigh (lv : Int → Int → Int) (e : AV × AV × Nat) : Bool := decide ((dec2 e.2.1).2 < lv (dec2 e.1).2 (dec2 e.1).1)

theorem lookE_mem {l : List ((Int × Int) × AV × Nat)} (h : (l.map (·.1)).Nodup) {e : (Int × Int) × AV × Nat} (he : e ∈ l) : lookE l e.1 = some e.2.1 := by
  induction l with
  | nil => cases he
  | cons y l ih =>
    rw [List.map_cons, List.nodup_cons] at h
    rw [lookE]
    rcases List.mem_cons.1 he with rfl | he
    · rw [if_pos rfl]
    · rw [if_neg (fun q => h.1 (by rw [← q]; exact List.mem_map_of_mem he))]; exact ih h.2 he
theorem mem_lookE {l : List ((Int × Int) × AV × Nat)} {k : Int × Int} {v : AV} (h : lookE l k = some v) : ∃ n, (k, v, n) ∈ l := by
  induction l with
  | nil => cases h
  | cons y l ih =>
    rw [lookE] at h
    by_cases q : k = y.1
    · rw [if_pos q] at h
      cases h
      exact ⟨y.2.2, by rw [q]; simp⟩
    · rw [if_neg q] at h
      obtain ⟨n, hn⟩ := ih h
      exact ⟨n, by simp [hn]⟩

theorem len_le2 : ∀ (a b : List (Int × Int)), a.Nodup → (∀ x ∈ a, x ∈ b) → a.length ≤ b.length
  | [], _, _, _ => Nat.zero_le _
  | x :: a, b, hn, hs => by
    rw [List.nodup_cons] at hn
    have hx := hs x (by simp)
    have := len_le2 a (b.erase x) hn.2 fun y hy => (List.mem_erase_of_ne (fun q => hn.1 (by rw [← q]; exact hy))).2 (hs y (by simp [hy]))
    rw [List.length_erase_of_mem hx] at this
    have := List.length_pos_of_mem hx
    simp only [List.length_cons]
    omega
/-- The entries of the readings' map. -/
theorem map_entry {o : AObj} {rs : List Rd} (h : MapO o encW (mapV (wf rs))) : ∃ es c, o = .map es c ∧ es.length ≤ rs.length ∧ (∀ e ∈ es, e.2.2 < c) ∧ (es.map (·.2.2)).Nodup ∧
    (∀ e ∈ es, ∃ x ∈ rs, ∃ lo hi, e.1 = encW x.k ∧ e.2.1 = encR2 (lo, hi) ∧ wf rs x.k = some (lo, hi)) ∧
    ∀ x ∈ rs, ∃ lo hi n, (encW x.k, encR2 (lo, hi), n) ∈ es ∧ wf rs x.k = some (lo, hi) := by
  obtain ⟨l, c, rfl, h1, h2, h3, h4⟩ := h
  refine ⟨_, c, rfl, ?_, fun e he => ?_, ?_, fun e he => ?_, fun x hx => ?_⟩
  · have := len_le2 (l.map (·.1)) (rs.map Rd.k) h1 fun k hk => by
      obtain ⟨p, hp, rfl⟩ := List.mem_map.1 hk
      have q := lookE_mem h1 hp
      rw [h4] at q
      unfold mapV at q
      have hs := wf_spec rs p.1
      cases hw : wf rs p.1 with
      | none => rw [hw] at q; cases q
      | some r =>
        rw [hw] at hs
        obtain ⟨⟨x, hx, hk⟩, _⟩ := hs
        exact List.mem_map.2 ⟨x, hx, hk⟩
    simpa [entries] using this
  · unfold entries at he
    obtain ⟨p, hp, rfl⟩ := List.mem_map.1 he
    exact h3 p hp
  · unfold entries
    rw [List.map_map]
    exact h2
  · unfold entries at he
    obtain ⟨p, hp, rfl⟩ := List.mem_map.1 he
    have q := lookE_mem h1 hp
    rw [h4] at q
    unfold mapV at q
    have hs := wf_spec rs p.1
    cases hw : wf rs p.1 with
    | none => rw [hw] at q; cases q
    | some r =>
      rw [hw] at q hs
      obtain ⟨⟨x, hx, hk⟩, _⟩ := hs
      exact ⟨x, hx, r.1, r.2, by rw [hk], (Option.some.inj q).symm, by rw [hk]; exact hw⟩
  · have hs := wf_spec rs x.k
    cases hw : wf rs x.k with
    | none => rw [hw] at hs; exact absurd rfl (hs x hx)
    | some r =>
      have q : lookE l x.k = some (encR2 r) := by rw [h4]; unfold mapV; rw [hw]; rfl
      obtain ⟨n, hn⟩ := mem_lookE q
      exact ⟨r.1, r.2, n, List.mem_map.2 ⟨_, hn, rfl⟩, rfl⟩

theorem any_low {rs : List Rd} {es : List (AV × AV × Nat)} (lv : Int → Int → Int) (h1 : ∀ e ∈ es, ∃ x ∈ rs, ∃ lo hi, e.1 = encW x.k ∧ e.2.1 = encR2 (lo, hi) ∧ wf rs x.k = some (lo, hi))
    (h2 : ∀ x ∈ rs, ∃ lo hi n, (encW x.k, encR2 (lo, hi), n) ∈ es ∧ wf rs x.k = some (lo, hi)) : es.any (tLow lv) = rs.any fun x => decide (lv x.day x.cell < x.lo) := by
  rw [Bool.eq_iff_iff, List.any_eq_true, List.any_eq_true]
  constructor
  · rintro ⟨e, he, ht⟩
    obtain ⟨x, hx, lo, hi, e1, e2, hw⟩ := h1 e he
    have hs := wf_spec rs x.k
    rw [hw] at hs
    unfold tLow at ht
    rw [e1, e2] at ht
    obtain ⟨y, hy, hk, hl⟩ := (hs.2.1 _).1 (of_decide_eq_true ht)
    have hk1 : y.cell = x.cell := congrArg Prod.fst hk
    have hk2 : y.day = x.day := congrArg Prod.snd hk
    exact ⟨y, hy, by rw [hk1, hk2]; exact decide_eq_true hl⟩
  · rintro ⟨x, hx, ht⟩
    obtain ⟨lo, hi, n, he, hw⟩ := h2 x hx
    have hs := wf_spec rs x.k
    rw [hw] at hs
    exact ⟨_, he, decide_eq_true ((hs.2.1 _).2 ⟨x, hx, rfl, of_decide_eq_true ht⟩)⟩
theorem any_high {rs : List Rd} {es : List (AV × AV × Nat)} (lv : Int → Int → Int) (h1 : ∀ e ∈ es, ∃ x ∈ rs, ∃ lo hi, e.1 = encW x.k ∧ e.2.1 = encR2 (lo, hi) ∧ wf rs x.k = some (lo, hi))
    (h2 : ∀ x ∈ rs, ∃ lo hi n, (encW x.k, encR2 (lo, hi), n) ∈ es ∧ wf rs x.k = some (lo, hi)) : es.any (tHigh lv) = rs.any fun x => decide (x.hi < lv x.day x.cell) := by
  rw [Bool.eq_iff_iff, List.any_eq_true, List.any_eq_true]
  constructor
  · rintro ⟨e, he, ht⟩
    obtain ⟨x, hx, lo, hi, e1, e2, hw⟩ := h1 e he
    have hs := wf_spec rs x.k
    rw [hw] at hs
    unfold tHigh at ht
    rw [e1, e2] at ht
    obtain ⟨y, hy, hk, hl⟩ := (hs.2.2 _).1 (of_decide_eq_true ht)
    have hk1 : y.cell = x.cell := congrArg Prod.fst hk
    have hk2 : y.day = x.day := congrArg Prod.snd hk
    exact ⟨y, hy, by rw [hk1, hk2]; exact decide_eq_true hl⟩
  · rintro ⟨x, hx, ht⟩
    obtain ⟨lo, hi, n, he, hw⟩ := h2 x hx
    have hs := wf_spec rs x.k
    rw [hw] at hs
    exact ⟨_, he, decide_eq_true ((hs.2.2 _).2 ⟨x, hx, rfl, of_decide_eq_true ht⟩)⟩
theorem any_perm {α : Type} {a b : List α} (h : a.Perm b) (f : α → Bool) : a.any f = b.any f := by
  rw [Bool.eq_iff_iff, List.any_eq_true, List.any_eq_true]
  exact ⟨fun ⟨x, hx, q⟩ => ⟨x, h.mem_iff.1 hx, q⟩, fun ⟨x, hx, q⟩ => ⟨x, h.mem_iff.2 hx, q⟩⟩
end
end Go.Ev

