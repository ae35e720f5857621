/-
  Functions of the program, reckoned by the evaluator: what each answers, and that it leaves what came in as it was.
-/
import Derived.Test.YtibplmibcbillaaEvX3
import Derived.Test.YtibplmibcbillaaEvM
import Derived.Test.YtibplmibcbillaaEvZ
import Derived.KernelRfl
import Derived.Test.YtibplmibcbillaaProg
set_option maxRecDepth 100000
set_option linter.unusedSimpArgs false
set_option linter.unusedVariables false
namespace Go.Ev
open Go Go.Proofs
noncomputable section
abbrev I (n : Int) : AV := .int .i64 n
/-- Is a number from lo to hi? -/
def inB (a lo hi : Int) : Bool := decide (lo ≤ a) && decide (a ≤ hi)
/-- Is a range one from 0 to most? -/
def okR (lo hi most : Int) : Bool := decide (0 ≤ lo) && decide (lo ≤ hi) && decide (hi ≤ most)
def RR (m : Nat) : Rec := runO Try.prog (closedO 17 (.bool true)) m
theorem R_fn (m : Nat) (f : FuncId) (a : AV) (l : List AV) (H : Heap) : RR (m + 1) (.fn f (a :: l)) H = evFn Try.prog (RR m) f (a :: l) H := rfl
structure Cell where (lo hi cap keep pass to pump : Int)
def Cell.c (x : Cell) : List AV := [I x.lo, I x.hi, I x.cap, I x.keep, I x.pass, I x.to, I x.pump]
def Cell.ok (x : Cell) : Bool := inB x.cap 1 100000 && okR x.lo x.hi x.cap && inB x.keep 0 x.cap && inB x.pass 0 1000 && inB x.pump 0 100000
structure Day where (lo hi warm : Int)
def Day.c (x : Day) : List AV := [I x.lo, I x.hi, I x.warm]
def Day.ok (x : Day) : Bool := okR x.lo x.hi 1000 && inB x.warm (-50) 50
structure Gr where (slo shi klo khi melt : Int)
structure Tru where (snow soak : Int)
abbrev Ints (H : Heap) (v : AV) (us : List Int) : Prop := Row H v 1 (us.map fun n => [I n])
theorem c37 (m : Nat) (a lo hi : Int) (H : Heap)  : RR (m + 1) (.fn 37 [I a, I lo, I hi]) H = some (.bool (inB a lo hi), H) := by
  refine (R_fn _ _ _ _ _).trans ?_; refine fn_ok Try.func37 rfl rfl (by kernel_rfl) (by kernel_rfl) ?_
  obtain ⟨W, hW, hg, hN, hE, hG⟩ := wOf H
  rw [← hW]
  refine kS ?_; refine kR ?_; refine oA rfl rfl ?_; refine oN ?_; refine kS ?_; refine kR ?_; refine oM rfl rfl ?_; refine oM rfl rfl ?_; refine OkO.bin rfl rfl rfl (bin_geq _ _) ?_; refine oM rfl rfl ?_
  refine OkO.split (d := 10) rfl (fun g1 => ?_) (fun g1 => ?_)
  · refine oM rfl rfl ?_
    refine oM rfl rfl ?_; refine OkO.bin rfl rfl rfl (bin_leq _ _) ?_; refine OkO.pick (b := true) rfl rfl (fun _ => rfl) nofun ?_; refine oA rfl rfl ?_; refine oN ?_
    refine Ok.ret ⟨.inr rfl, ?_⟩
    exact back_flat rfl (by first | rfl | exact congrArg AV.bool (by clear hg hN hG hE; first | (simp_all [inB]; done) | (rw [Bool.eq_iff_iff]; simp [inB] at *; omega))) rfl (by rw [← hW]; exact (by (try dsimp only); repeat (first | exact hG | apply Grow.new | (refine Grow.put ?_ _ (by first | omega | (simp only [hNw, hPt]; omega))))))
  · refine oK rfl ?_
    refine oK rfl ?_; refine oK rfl ?_; refine OkO.pick (b := false) rfl rfl nofun (fun _ => rfl) ?_; refine oA rfl rfl ?_; refine oN ?_
    refine Ok.ret ⟨.inr rfl, ?_⟩
    exact back_flat rfl (by first | rfl | exact congrArg AV.bool (by clear hg hN hG hE; first | (simp_all [inB]; done) | (rw [Bool.eq_iff_iff]; simp [inB] at *; omega))) rfl (by rw [← hW]; exact (by (try dsimp only); repeat (first | exact hG | apply Grow.new | (refine Grow.put ?_ _ (by first | omega | (simp only [hNw, hPt]; omega))))))
theorem c57 (m : Nat) (a b x : Int) (H : Heap)  : RR (m + 1) (.fn 57 [.agg [I a, I b], I x]) H = some (.bool (okR a b x), H) := by
  refine (R_fn _ _ _ _ _).trans ?_; refine fn_ok Try.func57 rfl rfl (by kernel_rfl) (by kernel_rfl) ?_
  obtain ⟨W, hW, hg, hN, hE, hG⟩ := wOf H
  rw [← hW]
  refine kS ?_; refine kR ?_; refine OkO.box rfl rfl ?_; refine oA rfl rfl ?_; refine oN ?_; refine kS ?_; refine kR ?_; refine oF (o := 0) rfl (by kernel_rfl) rfl ?_; refine oL rfl rfl (lda (n := 1) (by kernel_rfl) (by first | assumption | (simp (disch := first | omega | (simp only [hNw, hPt]; omega)) only [gN] <;> first | rfl | assumption)) (by first | rfl | assumption)) ?_; refine OkO.bin rfl rfl rfl (bin_geq _ _) ?_; refine oM rfl rfl ?_
  refine OkO.split (d := 8) rfl (fun g1 => ?_) (fun g1 => ?_)
  · refine oF (o := 0) rfl (by kernel_rfl) rfl ?_
    refine oL rfl rfl (lda (n := 1) (by kernel_rfl) (by first | assumption | (simp (disch := first | omega | (simp only [hNw, hPt]; omega)) only [gN] <;> first | rfl | assumption)) (by first | rfl | assumption)) ?_; refine oF (o := 1) rfl (by kernel_rfl) rfl ?_; refine oL rfl rfl (lda (n := 1) (by kernel_rfl) (by first | assumption | (simp (disch := first | omega | (simp only [hNw, hPt]; omega)) only [gN] <;> first | rfl | assumption)) (by first | rfl | assumption)) ?_; refine OkO.bin rfl rfl rfl (bin_leq _ _) ?_; refine OkO.pick (b := true) rfl rfl (fun _ => rfl) nofun ?_; refine oM rfl rfl ?_
    refine OkO.split (d := 15) rfl (fun g2 => ?_) (fun g2 => ?_)
    · refine oF (o := 1) rfl (by kernel_rfl) rfl ?_
      refine oL rfl rfl (lda (n := 1) (by kernel_rfl) (by first | assumption | (simp (disch := first | omega | (simp only [hNw, hPt]; omega)) only [gN] <;> first | rfl | assumption)) (by first | rfl | assumption)) ?_; refine oM rfl rfl ?_; refine OkO.bin rfl rfl rfl (bin_leq _ _) ?_; refine OkO.pick (b := true) rfl rfl (fun _ => rfl) nofun ?_; refine oA rfl rfl ?_; refine oN ?_
      refine Ok.ret ⟨.inr rfl, ?_⟩
      exact back_flat rfl (by first | rfl | exact congrArg AV.bool (by clear hg hN hG hE; first | (simp_all [okR]; done) | (rw [Bool.eq_iff_iff]; simp [okR] at *; omega))) rfl (by rw [← hW]; exact (by (try dsimp only); repeat (first | exact hG | apply Grow.new | (refine Grow.put ?_ _ (by first | omega | (simp only [hNw, hPt]; omega))))))
    · refine oK rfl ?_
      refine oK rfl ?_; refine oK rfl ?_; refine oK rfl ?_; refine OkO.pick (b := false) rfl rfl nofun (fun _ => rfl) ?_; refine oA rfl rfl ?_; refine oN ?_
      refine Ok.ret ⟨.inr rfl, ?_⟩
      exact back_flat rfl (by first | rfl | exact congrArg AV.bool (by clear hg hN hG hE; first | (simp_all [okR]; done) | (rw [Bool.eq_iff_iff]; simp [okR] at *; omega))) rfl (by rw [← hW]; exact (by (try dsimp only); repeat (first | exact hG | apply Grow.new | (refine Grow.put ?_ _ (by first | omega | (simp only [hNw, hPt]; omega))))))
  · refine oK rfl ?_
    refine oK rfl ?_; refine oK rfl ?_; refine oK rfl ?_; refine oK rfl ?_; refine OkO.pick (b := false) rfl rfl nofun (fun _ => rfl) ?_; refine oM rfl rfl ?_; refine oK rfl ?_; refine oK rfl ?_; refine oK rfl ?_; refine oK rfl ?_; refine OkO.pick (b := false) rfl rfl nofun (fun _ => rfl) ?_; refine oA rfl rfl ?_; refine oN ?_
    refine Ok.ret ⟨.inr rfl, ?_⟩
    exact back_flat rfl (by first | rfl | exact congrArg AV.bool (by clear hg hN hG hE; first | (simp_all [okR]; done) | (rw [Bool.eq_iff_iff]; simp [okR] at *; omega))) rfl (by rw [← hW]; exact (by (try dsimp only); repeat (first | exact hG | apply Grow.new | (refine Grow.put ?_ _ (by first | omega | (simp only [hNw, hPt]; omega))))))
theorem c71 (m : Nat) (a b x : Int) (H : Heap)  : RR (m + 1) (.fn 71 [.agg [I a, I b], I x]) H = some (.bool (inB x a b), H) := by
  refine (R_fn _ _ _ _ _).trans ?_; refine fn_ok Try.func71 rfl rfl (by kernel_rfl) (by kernel_rfl) ?_
  obtain ⟨W, hW, hg, hN, hE, hG⟩ := wOf H
  rw [← hW]
  refine kS ?_; refine kR ?_; refine OkO.box rfl rfl ?_; refine oA rfl rfl ?_; refine oN ?_; refine kS ?_; refine kR ?_; refine oF (o := 0) rfl (by kernel_rfl) rfl ?_; refine oL rfl rfl (lda (n := 1) (by kernel_rfl) (by first | assumption | (simp (disch := first | omega | (simp only [hNw, hPt]; omega)) only [gN] <;> first | rfl | assumption)) (by first | rfl | assumption)) ?_; refine oM rfl rfl ?_; refine OkO.bin rfl rfl rfl (bin_leq _ _) ?_; refine oM rfl rfl ?_
  refine OkO.split (d := 9) rfl (fun g1 => ?_) (fun g1 => ?_)
  · refine oM rfl rfl ?_
    refine oF (o := 1) rfl (by kernel_rfl) rfl ?_; refine oL rfl rfl (lda (n := 1) (by kernel_rfl) (by first | assumption | (simp (disch := first | omega | (simp only [hNw, hPt]; omega)) only [gN] <;> first | rfl | assumption)) (by first | rfl | assumption)) ?_; refine OkO.bin rfl rfl rfl (bin_leq _ _) ?_; refine OkO.pick (b := true) rfl rfl (fun _ => rfl) nofun ?_; refine oA rfl rfl ?_; refine oN ?_
    refine Ok.ret ⟨.inr rfl, ?_⟩
    exact back_flat rfl (by first | rfl | exact congrArg AV.bool (by clear hg hN hG hE; first | (simp_all [inB]; done) | (rw [Bool.eq_iff_iff]; simp [inB] at *; omega))) rfl (by rw [← hW]; exact (by (try dsimp only); repeat (first | exact hG | apply Grow.new | (refine Grow.put ?_ _ (by first | omega | (simp only [hNw, hPt]; omega))))))
  · refine oK rfl ?_
    refine oK rfl ?_; refine oK rfl ?_; refine oK rfl ?_; refine OkO.pick (b := false) rfl rfl nofun (fun _ => rfl) ?_; refine oA rfl rfl ?_; refine oN ?_
    refine Ok.ret ⟨.inr rfl, ?_⟩
    exact back_flat rfl (by first | rfl | exact congrArg AV.bool (by clear hg hN hG hE; first | (simp_all [inB]; done) | (rw [Bool.eq_iff_iff]; simp [inB] at *; omega))) rfl (by rw [← hW]; exact (by (try dsimp only); repeat (first | exact hG | apply Grow.new | (refine Grow.put ?_ _ (by first | omega | (simp only [hNw, hPt]; omega))))))
theorem c75 (m : Nat) (a b x : Int) (H : Heap)  : RR (m + 1) (.fn 75 [.agg [I a, I b], I x]) H = some (.bool (okR a b x), H) := by
  refine (R_fn _ _ _ _ _).trans ?_; refine fn_ok Try.func75 rfl rfl (by kernel_rfl) (by kernel_rfl) ?_
  obtain ⟨W, hW, hg, hN, hE, hG⟩ := wOf H
  rw [← hW]
  refine kS ?_; refine kR ?_; refine OkO.box rfl rfl ?_; refine oA rfl rfl ?_; refine oN ?_; refine kS ?_; refine kR ?_; refine oF (o := 0) rfl (by kernel_rfl) rfl ?_; refine oL rfl rfl (lda (n := 1) (by kernel_rfl) (by first | assumption | (simp (disch := first | omega | (simp only [hNw, hPt]; omega)) only [gN] <;> first | rfl | assumption)) (by first | rfl | assumption)) ?_; refine OkO.bin rfl rfl rfl (bin_leq _ _) ?_; refine oM rfl rfl ?_
  refine OkO.split (d := 8) rfl (fun g1 => ?_) (fun g1 => ?_)
  · refine oF (o := 0) rfl (by kernel_rfl) rfl ?_
    refine oL rfl rfl (lda (n := 1) (by kernel_rfl) (by first | assumption | (simp (disch := first | omega | (simp only [hNw, hPt]; omega)) only [gN] <;> first | rfl | assumption)) (by first | rfl | assumption)) ?_; refine oF (o := 1) rfl (by kernel_rfl) rfl ?_; refine oL rfl rfl (lda (n := 1) (by kernel_rfl) (by first | assumption | (simp (disch := first | omega | (simp only [hNw, hPt]; omega)) only [gN] <;> first | rfl | assumption)) (by first | rfl | assumption)) ?_; refine OkO.bin rfl rfl rfl (bin_leq _ _) ?_; refine OkO.pick (b := true) rfl rfl (fun _ => rfl) nofun ?_; refine oM rfl rfl ?_
    refine OkO.split (d := 15) rfl (fun g2 => ?_) (fun g2 => ?_)
    · refine oF (o := 1) rfl (by kernel_rfl) rfl ?_
      refine oL rfl rfl (lda (n := 1) (by kernel_rfl) (by first | assumption | (simp (disch := first | omega | (simp only [hNw, hPt]; omega)) only [gN] <;> first | rfl | assumption)) (by first | rfl | assumption)) ?_; refine oM rfl rfl ?_; refine OkO.bin rfl rfl rfl (bin_leq _ _) ?_; refine OkO.pick (b := true) rfl rfl (fun _ => rfl) nofun ?_; refine oA rfl rfl ?_; refine oN ?_
      refine Ok.ret ⟨.inr rfl, ?_⟩
      exact back_flat rfl (by first | rfl | exact congrArg AV.bool (by clear hg hN hG hE; first | (simp_all [okR]; done) | (rw [Bool.eq_iff_iff]; simp [okR] at *; omega))) rfl (by rw [← hW]; exact (by (try dsimp only); repeat (first | exact hG | apply Grow.new | (refine Grow.put ?_ _ (by first | omega | (simp only [hNw, hPt]; omega))))))
    · refine oK rfl ?_
      refine oK rfl ?_; refine oK rfl ?_; refine oK rfl ?_; refine OkO.pick (b := false) rfl rfl nofun (fun _ => rfl) ?_; refine oA rfl rfl ?_; refine oN ?_
      refine Ok.ret ⟨.inr rfl, ?_⟩
      exact back_flat rfl (by first | rfl | exact congrArg AV.bool (by clear hg hN hG hE; first | (simp_all [okR]; done) | (rw [Bool.eq_iff_iff]; simp [okR] at *; omega))) rfl (by rw [← hW]; exact (by (try dsimp only); repeat (first | exact hG | apply Grow.new | (refine Grow.put ?_ _ (by first | omega | (simp only [hNw, hPt]; omega))))))
  · refine oK rfl ?_
    refine oK rfl ?_; refine oK rfl ?_; refine oK rfl ?_; refine oK rfl ?_; refine OkO.pick (b := false) rfl rfl nofun (fun _ => rfl) ?_; refine oM rfl rfl ?_; refine oK rfl ?_; refine oK rfl ?_; refine oK rfl ?_; refine oK rfl ?_; refine OkO.pick (b := false) rfl rfl nofun (fun _ => rfl) ?_; refine oA rfl rfl ?_; refine oN ?_
    refine Ok.ret ⟨.inr rfl, ?_⟩
    exact back_flat rfl (by first | rfl | exact congrArg AV.bool (by clear hg hN hG hE; first | (simp_all [okR]; done) | (rw [Bool.eq_iff_iff]; simp [okR] at *; omega))) rfl (by rw [← hW]; exact (by (try dsimp only); repeat (first | exact hG | apply Grow.new | (refine Grow.put ?_ _ (by first | omega | (simp only [hNw, hPt]; omega))))))
theorem c85 (m : Nat) (a b : Int) (H : Heap)  : RR (m + 1) (.fn 85 [.agg [I a, I b]]) H = some (I a, H) := by
  refine (R_fn _ _ _ _ _).trans ?_; refine fn_ok Try.func85 rfl rfl (by kernel_rfl) (by kernel_rfl) ?_
  obtain ⟨W, hW, hg, hN, hE, hG⟩ := wOf H
  rw [← hW]
  refine kS ?_; refine kR ?_; refine OkO.box rfl rfl ?_; refine oA rfl rfl ?_; refine oN ?_; refine kS ?_; refine kR ?_; refine oF (o := 0) rfl (by kernel_rfl) rfl ?_; refine oL rfl rfl (lda (n := 1) (by kernel_rfl) (by first | assumption | (simp (disch := first | omega | (simp only [hNw, hPt]; omega)) only [gN] <;> first | rfl | assumption)) (by first | rfl | assumption)) ?_; refine oA rfl rfl ?_; refine oN ?_
  refine Ok.ret ⟨.inr rfl, ?_⟩
  exact back_flat rfl (by first | rfl | exact congrArg AV.bool (by clear hg hN hG hE; first | (simp_all; done) | (rw [Bool.eq_iff_iff]; simp at *; omega))) rfl (by rw [← hW]; exact (by (try dsimp only); repeat (first | exact hG | apply Grow.new | (refine Grow.put ?_ _ (by first | omega | (simp only [hNw, hPt]; omega))))))
theorem c91 (m : Nat) (a b : Int) (H : Heap)  : RR (m + 1) (.fn 91 [.agg [I a, I b]]) H = some (.bool (decide (a = b)), H) := by
  refine (R_fn _ _ _ _ _).trans ?_; refine fn_ok Try.func91 rfl rfl (by kernel_rfl) (by kernel_rfl) ?_
  obtain ⟨W, hW, hg, hN, hE, hG⟩ := wOf H
  rw [← hW]
  refine kS ?_; refine kR ?_; refine OkO.box rfl rfl ?_; refine oA rfl rfl ?_; refine oN ?_; refine kS ?_; refine kR ?_; refine oF (o := 0) rfl (by kernel_rfl) rfl ?_; refine oL rfl rfl (lda (n := 1) (by kernel_rfl) (by first | assumption | (simp (disch := first | omega | (simp only [hNw, hPt]; omega)) only [gN] <;> first | rfl | assumption)) (by first | rfl | assumption)) ?_; refine oF (o := 1) rfl (by kernel_rfl) rfl ?_; refine oL rfl rfl (lda (n := 1) (by kernel_rfl) (by first | assumption | (simp (disch := first | omega | (simp only [hNw, hPt]; omega)) only [gN] <;> first | rfl | assumption)) (by first | rfl | assumption)) ?_; refine OkO.bin rfl rfl rfl (bin_eql _ _) ?_; refine oA rfl rfl ?_; refine oN ?_
  refine Ok.ret ⟨.inr rfl, ?_⟩
  exact back_flat rfl (by first | rfl | exact congrArg AV.bool (by clear hg hN hG hE; first | (simp_all; done) | (rw [Bool.eq_iff_iff]; simp at *; omega))) rfl (by rw [← hW]; exact (by (try dsimp only); repeat (first | exact hG | apply Grow.new | (refine Grow.put ?_ _ (by first | omega | (simp only [hNw, hPt]; omega))))))
theorem c73 (m : Nat) (x : Cell) (H : Heap)  : RR (m + 2) (.fn 73 [.agg x.c]) H = some (.bool x.ok, H) := by
  refine (R_fn _ _ _ _ _).trans ?_; refine fn_ok Try.func73 rfl rfl (by kernel_rfl) (by kernel_rfl) ?_
  obtain ⟨W, hW, hg, hN, hE, hG⟩ := wOf H
  rw [← hW]
  refine kS ?_; refine kR ?_; refine OkO.box rfl rfl ?_; refine oA rfl rfl ?_; refine oN ?_; refine kS ?_; refine kR ?_; refine OkO.build (z := [.int .i64 0, .int .i64 0]) (pl := [(0, 1), (1, 1)]) rfl (by kernel_rfl) rfl rfl ?_; refine oF (o := 2) rfl (by kernel_rfl) rfl ?_; refine oL rfl rfl (lda (n := 1) (by kernel_rfl) (by first | assumption | (simp (disch := first | omega | (simp only [hNw, hPt]; omega)) only [gN] <;> first | rfl | assumption)) (by first | rfl | assumption)) ?_; refine oV rfl rfl rfl rfl rfl (c71 _ _ _ _ _) ?_; refine oM rfl rfl ?_
  refine OkO.split (d := 7) rfl (fun g1 => ?_) (fun g1 => ?_)
  · refine oF (o := 0) rfl (by kernel_rfl) rfl ?_
    refine oL rfl rfl (ldg (n := 2) (by kernel_rfl) (by first | assumption | (simp (disch := first | omega | (simp only [hNw, hPt]; omega)) only [gN] <;> first | rfl | assumption)) (by first | rfl | assumption)) ?_; refine oF (o := 2) rfl (by kernel_rfl) rfl ?_; refine oL rfl rfl (lda (n := 1) (by kernel_rfl) (by first | assumption | (simp (disch := first | omega | (simp only [hNw, hPt]; omega)) only [gN] <;> first | rfl | assumption)) (by first | rfl | assumption)) ?_; refine oV rfl rfl rfl rfl rfl (c75 _ _ _ _ _) ?_; refine OkO.pick (b := true) rfl rfl (fun _ => rfl) nofun ?_; refine oM rfl rfl ?_
    refine OkO.split (d := 14) rfl (fun g2 => ?_) (fun g2 => ?_)
    · refine oF (o := 2) rfl (by kernel_rfl) rfl ?_
      refine oL rfl rfl (lda (n := 1) (by kernel_rfl) (by first | assumption | (simp (disch := first | omega | (simp only [hNw, hPt]; omega)) only [gN] <;> first | rfl | assumption)) (by first | rfl | assumption)) ?_; refine OkO.build (z := [.int .i64 0, .int .i64 0]) (pl := [(0, 1), (1, 1)]) rfl (by kernel_rfl) rfl rfl ?_; refine oF (o := 3) rfl (by kernel_rfl) rfl ?_; refine oL rfl rfl (lda (n := 1) (by kernel_rfl) (by first | assumption | (simp (disch := first | omega | (simp only [hNw, hPt]; omega)) only [gN] <;> first | rfl | assumption)) (by first | rfl | assumption)) ?_; refine oV rfl rfl rfl rfl rfl (c71 _ _ _ _ _) ?_; refine OkO.pick (b := true) rfl rfl (fun _ => rfl) nofun ?_; refine oM rfl rfl ?_
      refine OkO.split (d := 22) rfl (fun g3 => ?_) (fun g3 => ?_)
      · refine OkO.build (z := [.int .i64 0, .int .i64 0]) (pl := [(0, 1), (1, 1)]) rfl (by kernel_rfl) rfl rfl ?_
        refine oF (o := 4) rfl (by kernel_rfl) rfl ?_; refine oL rfl rfl (lda (n := 1) (by kernel_rfl) (by first | assumption | (simp (disch := first | omega | (simp only [hNw, hPt]; omega)) only [gN] <;> first | rfl | assumption)) (by first | rfl | assumption)) ?_; refine oV rfl rfl rfl rfl rfl (c71 _ _ _ _ _) ?_; refine OkO.pick (b := true) rfl rfl (fun _ => rfl) nofun ?_; refine oM rfl rfl ?_
        refine OkO.split (d := 28) rfl (fun g4 => ?_) (fun g4 => ?_)
        · refine OkO.build (z := [.int .i64 0, .int .i64 0]) (pl := [(0, 1), (1, 1)]) rfl (by kernel_rfl) rfl rfl ?_
          refine oF (o := 6) rfl (by kernel_rfl) rfl ?_; refine oL rfl rfl (lda (n := 1) (by kernel_rfl) (by first | assumption | (simp (disch := first | omega | (simp only [hNw, hPt]; omega)) only [gN] <;> first | rfl | assumption)) (by first | rfl | assumption)) ?_; refine oV rfl rfl rfl rfl rfl (c71 _ _ _ _ _) ?_; refine OkO.pick (b := true) rfl rfl (fun _ => rfl) nofun ?_; refine oA rfl rfl ?_; refine oN ?_
          refine Ok.ret ⟨.inr rfl, ?_⟩
          exact back_flat rfl (by first | rfl | exact congrArg AV.bool (by clear hg hN hG hE; first | (simp_all [Cell.ok]; done) | (rw [Bool.eq_iff_iff]; simp [Cell.ok] at *; omega))) rfl (by rw [← hW]; exact (by (try dsimp only); repeat (first | exact hG | apply Grow.new | (refine Grow.put ?_ _ (by first | omega | (simp only [hNw, hPt]; omega))))))
        · refine oK rfl ?_
          refine oK rfl ?_; refine oK rfl ?_; refine oK rfl ?_; refine OkO.pick (b := false) rfl rfl nofun (fun _ => rfl) ?_; refine oA rfl rfl ?_; refine oN ?_
          refine Ok.ret ⟨.inr rfl, ?_⟩
          exact back_flat rfl (by first | rfl | exact congrArg AV.bool (by clear hg hN hG hE; first | (simp_all [Cell.ok]; done) | (rw [Bool.eq_iff_iff]; simp [Cell.ok] at *; omega))) rfl (by rw [← hW]; exact (by (try dsimp only); repeat (first | exact hG | apply Grow.new | (refine Grow.put ?_ _ (by first | omega | (simp only [hNw, hPt]; omega))))))
      · refine oK rfl ?_
        refine oK rfl ?_; refine oK rfl ?_; refine oK rfl ?_; refine OkO.pick (b := false) rfl rfl nofun (fun _ => rfl) ?_; refine oM rfl rfl ?_; refine oK rfl ?_; refine oK rfl ?_; refine oK rfl ?_; refine oK rfl ?_; refine OkO.pick (b := false) rfl rfl nofun (fun _ => rfl) ?_; refine oA rfl rfl ?_; refine oN ?_
        refine Ok.ret ⟨.inr rfl, ?_⟩
        exact back_flat rfl (by first | rfl | exact congrArg AV.bool (by clear hg hN hG hE; first | (simp_all [Cell.ok]; done) | (rw [Bool.eq_iff_iff]; simp [Cell.ok] at *; omega))) rfl (by rw [← hW]; exact (by (try dsimp only); repeat (first | exact hG | apply Grow.new | (refine Grow.put ?_ _ (by first | omega | (simp only [hNw, hPt]; omega))))))
    · refine oK rfl ?_
      refine oK rfl ?_; refine oK rfl ?_; refine oK rfl ?_; refine oK rfl ?_; refine oK rfl ?_; refine OkO.pick (b := false) rfl rfl nofun (fun _ => rfl) ?_; refine oM rfl rfl ?_; refine oK rfl ?_; refine oK rfl ?_; refine oK rfl ?_; refine oK rfl ?_; refine OkO.pick (b := false) rfl rfl nofun (fun _ => rfl) ?_; refine oM rfl rfl ?_; refine oK rfl ?_; refine oK rfl ?_; refine oK rfl ?_; refine oK rfl ?_; refine OkO.pick (b := false) rfl rfl nofun (fun _ => rfl) ?_; refine oA rfl rfl ?_; refine oN ?_
      refine Ok.ret ⟨.inr rfl, ?_⟩
      exact back_flat rfl (by first | rfl | exact congrArg AV.bool (by clear hg hN hG hE; first | (simp_all [Cell.ok]; done) | (rw [Bool.eq_iff_iff]; simp [Cell.ok] at *; omega))) rfl (by rw [← hW]; exact (by (try dsimp only); repeat (first | exact hG | apply Grow.new | (refine Grow.put ?_ _ (by first | omega | (simp only [hNw, hPt]; omega))))))
  · refine oK rfl ?_
    refine oK rfl ?_; refine oK rfl ?_; refine oK rfl ?_; refine oK rfl ?_; refine OkO.pick (b := false) rfl rfl nofun (fun _ => rfl) ?_; refine oM rfl rfl ?_; refine oK rfl ?_; refine oK rfl ?_; refine oK rfl ?_; refine oK rfl ?_; refine oK rfl ?_; refine oK rfl ?_; refine OkO.pick (b := false) rfl rfl nofun (fun _ => rfl) ?_; refine oM rfl rfl ?_; refine oK rfl ?_; refine oK rfl ?_; refine oK rfl ?_; refine oK rfl ?_; refine OkO.pick (b := false) rfl rfl nofun (fun _ => rfl) ?_; refine oM rfl rfl ?_; refine oK rfl ?_; refine oK rfl ?_; refine oK rfl ?_; refine oK rfl ?_; refine OkO.pick (b := false) rfl rfl nofun (fun _ => rfl) ?_; refine oA rfl rfl ?_; refine oN ?_
    refine Ok.ret ⟨.inr rfl, ?_⟩
    exact back_flat rfl (by first | rfl | exact congrArg AV.bool (by clear hg hN hG hE; first | (simp_all [Cell.ok]; done) | (rw [Bool.eq_iff_iff]; simp [Cell.ok] at *; omega))) rfl (by rw [← hW]; exact (by (try dsimp only); repeat (first | exact hG | apply Grow.new | (refine Grow.put ?_ _ (by first | omega | (simp only [hNw, hPt]; omega))))))
theorem c84 (m : Nat) (x : Day) (H : Heap)  : RR (m + 2) (.fn 84 [.agg x.c]) H = some (.bool x.ok, H) := by
  refine (R_fn _ _ _ _ _).trans ?_; refine fn_ok Try.func84 rfl rfl (by kernel_rfl) (by kernel_rfl) ?_
  obtain ⟨W, hW, hg, hN, hE, hG⟩ := wOf H
  rw [← hW]
  refine kS ?_; refine kR ?_; refine OkO.box rfl rfl ?_; refine oA rfl rfl ?_; refine oN ?_; refine kS ?_; refine kR ?_; refine oF (o := 0) rfl (by kernel_rfl) rfl ?_; refine oL rfl rfl (ldg (n := 2) (by kernel_rfl) (by first | assumption | (simp (disch := first | omega | (simp only [hNw, hPt]; omega)) only [gN] <;> first | rfl | assumption)) (by first | rfl | assumption)) ?_; refine oV rfl rfl rfl rfl rfl (c75 _ _ _ _ _) ?_; refine oM rfl rfl ?_
  refine OkO.split (d := 6) rfl (fun g1 => ?_) (fun g1 => ?_)
  · refine OkO.build (z := [.int .i64 0, .int .i64 0]) (pl := [(0, 1), (1, 1)]) rfl (by kernel_rfl) rfl rfl ?_
    refine oF (o := 2) rfl (by kernel_rfl) rfl ?_; refine oL rfl rfl (lda (n := 1) (by kernel_rfl) (by first | assumption | (simp (disch := first | omega | (simp only [hNw, hPt]; omega)) only [gN] <;> first | rfl | assumption)) (by first | rfl | assumption)) ?_; refine oV rfl rfl rfl rfl rfl (c71 _ _ _ _ _) ?_; refine OkO.pick (b := true) rfl rfl (fun _ => rfl) nofun ?_; refine oA rfl rfl ?_; refine oN ?_
    refine Ok.ret ⟨.inr rfl, ?_⟩
    exact back_flat rfl (by first | rfl | exact congrArg AV.bool (by clear hg hN hG hE; first | (simp_all [Day.ok]; done) | (rw [Bool.eq_iff_iff]; simp [Day.ok] at *; omega))) rfl (by rw [← hW]; exact (by (try dsimp only); repeat (first | exact hG | apply Grow.new | (refine Grow.put ?_ _ (by first | omega | (simp only [hNw, hPt]; omega))))))
  · refine oK rfl ?_
    refine oK rfl ?_; refine oK rfl ?_; refine oK rfl ?_; refine OkO.pick (b := false) rfl rfl nofun (fun _ => rfl) ?_; refine oA rfl rfl ?_; refine oN ?_
    refine Ok.ret ⟨.inr rfl, ?_⟩
    exact back_flat rfl (by first | rfl | exact congrArg AV.bool (by clear hg hN hG hE; first | (simp_all [Day.ok]; done) | (rw [Bool.eq_iff_iff]; simp [Day.ok] at *; omega))) rfl (by rw [← hW]; exact (by (try dsimp only); repeat (first | exact hG | apply Grow.new | (refine Grow.put ?_ _ (by first | omega | (simp only [hNw, hPt]; omega))))))
theorem c78 (m : Nat) (x : Cell) (H : Heap)  : RR (m + 1) (.fn 78 [.agg x.c]) H = some (.agg [I x.lo, I x.hi], H) := by
  refine (R_fn _ _ _ _ _).trans ?_; refine fn_ok Try.func78 rfl rfl (by kernel_rfl) (by kernel_rfl) ?_
  obtain ⟨W, hW, hg, hN, hE, hG⟩ := wOf H
  rw [← hW]
  refine kS ?_; refine kR ?_; refine OkO.box rfl rfl ?_; refine OkO.alloc (z := [.int .i64 0, .int .i64 0]) rfl (by kernel_rfl) ?_; refine oN ?_; refine kS ?_; refine kR ?_; refine oF (o := 0) rfl (by kernel_rfl) rfl ?_; refine oL rfl rfl (ldg (n := 2) (by kernel_rfl) (by first | assumption | (simp (disch := first | omega | (simp only [hNw, hPt]; omega)) only [gN] <;> first | rfl | assumption)) (by first | rfl | assumption)) ?_; refine oT rfl rfl rfl (sAc (n := 2) (ag := true) (by kernel_rfl) (by first | assumption | (simp (disch := first | omega | (simp only [hNw, hPt]; omega)) only [gN] <;> first | rfl | assumption)) rfl rfl (by first | rfl | exact spl_set _ _ _ (by first | assumption | (simp; omega)))) ?_; refine oN ?_
  refine Ok.ret ⟨.inr rfl, ?_⟩
  exact back_flat (resV_cell rfl (ldg (n := 2) (by kernel_rfl) (by first | assumption | (simp (disch := first | omega | (simp only [hNw, hPt]; omega)) only [gN] <;> first | rfl | assumption)) (by first | rfl | assumption)) resV_nil) (rfl) rfl (by rw [← hW]; exact (by (try dsimp only); repeat (first | exact hG | apply Grow.new | (refine Grow.put ?_ _ (by first | omega | (simp only [hNw, hPt]; omega))))))
theorem c80 (m : Nat) (x : Day) (H : Heap)  : RR (m + 1) (.fn 80 [.agg x.c]) H = some (.agg [I x.lo, I x.hi], H) := by
  refine (R_fn _ _ _ _ _).trans ?_; refine fn_ok Try.func80 rfl rfl (by kernel_rfl) (by kernel_rfl) ?_
  obtain ⟨W, hW, hg, hN, hE, hG⟩ := wOf H
  rw [← hW]
  refine kS ?_; refine kR ?_; refine OkO.box rfl rfl ?_; refine OkO.alloc (z := [.int .i64 0, .int .i64 0]) rfl (by kernel_rfl) ?_; refine oN ?_; refine kS ?_; refine kR ?_; refine oF (o := 0) rfl (by kernel_rfl) rfl ?_; refine oL rfl rfl (ldg (n := 2) (by kernel_rfl) (by first | assumption | (simp (disch := first | omega | (simp only [hNw, hPt]; omega)) only [gN] <;> first | rfl | assumption)) (by first | rfl | assumption)) ?_; refine oT rfl rfl rfl (sAc (n := 2) (ag := true) (by kernel_rfl) (by first | assumption | (simp (disch := first | omega | (simp only [hNw, hPt]; omega)) only [gN] <;> first | rfl | assumption)) rfl rfl (by first | rfl | exact spl_set _ _ _ (by first | assumption | (simp; omega)))) ?_; refine oN ?_
  refine Ok.ret ⟨.inr rfl, ?_⟩
  exact back_flat (resV_cell rfl (ldg (n := 2) (by kernel_rfl) (by first | assumption | (simp (disch := first | omega | (simp only [hNw, hPt]; omega)) only [gN] <;> first | rfl | assumption)) (by first | rfl | assumption)) resV_nil) (rfl) rfl (by rw [← hW]; exact (by (try dsimp only); repeat (first | exact hG | apply Grow.new | (refine Grow.put ?_ _ (by first | omega | (simp only [hNw, hPt]; omega))))))
theorem c52 (m : Nat) (a b : Int) (H : Heap)  : RR (m + 1) (.fn 52 [.agg [I a, I b]]) H = some (.agg [I a, I b], H) := by
  refine (R_fn _ _ _ _ _).trans ?_; refine fn_ok Try.func52 rfl rfl (by kernel_rfl) (by kernel_rfl) ?_
  obtain ⟨W, hW, hg, hN, hE, hG⟩ := wOf H
  rw [← hW]
  refine kS ?_; refine kR ?_; refine OkO.box rfl rfl ?_; refine OkO.alloc (z := [.int .i64 0, .int .i64 0]) rfl (by kernel_rfl) ?_; refine oN ?_; refine kS ?_; refine kR ?_; refine oF (o := 0) rfl (by kernel_rfl) rfl ?_; refine oL rfl rfl (lda (n := 1) (by kernel_rfl) (by first | assumption | (simp (disch := first | omega | (simp only [hNw, hPt]; omega)) only [gN] <;> first | rfl | assumption)) (by first | rfl | assumption)) ?_; refine oF (o := 1) rfl (by kernel_rfl) rfl ?_; refine oL rfl rfl (lda (n := 1) (by kernel_rfl) (by first | assumption | (simp (disch := first | omega | (simp only [hNw, hPt]; omega)) only [gN] <;> first | rfl | assumption)) (by first | rfl | assumption)) ?_; refine OkO.build (z := [.int .i64 0, .int .i64 0]) (pl := [(0, 1), (1, 1)]) rfl (by kernel_rfl) rfl rfl ?_; refine oT rfl rfl rfl (sAc (n := 2) (ag := true) (by kernel_rfl) (by first | assumption | (simp (disch := first | omega | (simp only [hNw, hPt]; omega)) only [gN] <;> first | rfl | assumption)) rfl rfl (by first | rfl | exact spl_set _ _ _ (by first | assumption | (simp; omega)))) ?_; refine oN ?_
  refine Ok.ret ⟨.inr rfl, ?_⟩
  exact back_flat (resV_cell rfl (ldg (n := 2) (by kernel_rfl) (by first | assumption | (simp (disch := first | omega | (simp only [hNw, hPt]; omega)) only [gN] <;> first | rfl | assumption)) (by first | rfl | assumption)) resV_nil) (rfl) rfl (by rw [← hW]; exact (by (try dsimp only); repeat (first | exact hG | apply Grow.new | (refine Grow.put ?_ _ (by first | omega | (simp only [hNw, hPt]; omega))))))
theorem c74 (m : Nat) (v : AV) (n : Nat) (H : Heap) (hlen : lenOf v = some n) (hn : n ≤ 1000000) : RR (m + 1) (.fn 74 [v]) H = some (.agg [I 0, I ((n : Int) - 1)], H) := by
  refine (R_fn _ _ _ _ _).trans ?_; refine fn_ok Try.func74 rfl rfl (by kernel_rfl) (by kernel_rfl) ?_
  obtain ⟨W, hW, hg, hN, hE, hG⟩ := wOf H
  rw [← hW]
  refine kS ?_; refine kR ?_; refine OkO.alloc (z := [.int .i64 0, .int .i64 0]) rfl (by kernel_rfl) ?_; refine oN ?_; refine kS ?_; refine kR ?_; refine oM rfl rfl ?_; refine oB rfl rfl rfl qbl ?_; refine OkO.bin rfl rfl rfl (bin_sub (by omega) (by omega)) ?_; refine OkO.build (z := [.int .i64 0, .int .i64 0]) (pl := [(0, 1), (1, 1)]) rfl (by kernel_rfl) rfl rfl ?_; refine oT rfl rfl rfl (sAc (n := 2) (ag := true) (by kernel_rfl) (by first | assumption | (simp (disch := first | omega | (simp only [hNw, hPt]; omega)) only [gN] <;> first | rfl | assumption)) rfl rfl (by first | rfl | exact spl_set _ _ _ (by first | assumption | (simp; omega)))) ?_; refine oN ?_
  refine Ok.ret ⟨.inr rfl, ?_⟩
  exact back_flat (resV_cell rfl (ldg (n := 2) (by kernel_rfl) (by first | assumption | (simp (disch := first | omega | (simp only [hNw, hPt]; omega)) only [gN] <;> first | rfl | assumption)) (by first | rfl | assumption)) resV_nil) (rfl) rfl (by rw [← hW]; exact (by (try dsimp only); repeat (first | exact hG | apply Grow.new | (refine Grow.put ?_ _ (by first | omega | (simp only [hNw, hPt]; omega))))))
theorem c89 (m : Nat) (v : AV) (n : Nat) (H : Heap) (hlen : lenOf v = some n) (hn : n ≤ 1000000) : RR (m + 1) (.fn 89 [v]) H = some (.agg [I 0, I ((n : Int) - 1)], H) := by
  refine (R_fn _ _ _ _ _).trans ?_; refine fn_ok Try.func89 rfl rfl (by kernel_rfl) (by kernel_rfl) ?_
  obtain ⟨W, hW, hg, hN, hE, hG⟩ := wOf H
  rw [← hW]
  refine kS ?_; refine kR ?_; refine OkO.alloc (z := [.int .i64 0, .int .i64 0]) rfl (by kernel_rfl) ?_; refine oN ?_; refine kS ?_; refine kR ?_; refine oM rfl rfl ?_; refine oB rfl rfl rfl qbl ?_; refine OkO.bin rfl rfl rfl (bin_sub (by omega) (by omega)) ?_; refine OkO.build (z := [.int .i64 0, .int .i64 0]) (pl := [(0, 1), (1, 1)]) rfl (by kernel_rfl) rfl rfl ?_; refine oT rfl rfl rfl (sAc (n := 2) (ag := true) (by kernel_rfl) (by first | assumption | (simp (disch := first | omega | (simp only [hNw, hPt]; omega)) only [gN] <;> first | rfl | assumption)) rfl rfl (by first | rfl | exact spl_set _ _ _ (by first | assumption | (simp; omega)))) ?_; refine oN ?_
  refine Ok.ret ⟨.inr rfl, ?_⟩
  exact back_flat (resV_cell rfl (ldg (n := 2) (by kernel_rfl) (by first | assumption | (simp (disch := first | omega | (simp only [hNw, hPt]; omega)) only [gN] <;> first | rfl | assumption)) (by first | rfl | assumption)) resV_nil) (rfl) rfl (by rw [← hW]; exact (by (try dsimp only); repeat (first | exact hG | apply Grow.new | (refine Grow.put ?_ _ (by first | omega | (simp only [hNw, hPt]; omega))))))
end
end Go.Ev

set_option maxRecDepth 100000
set_option linter.unusedSimpArgs false
set_option linter.unusedVariables false
namespace Go.Ev
open Go Go.Proofs
noncomputable section
theorem flat_take {α : Type} (g : α → List AV) (xs : List α) (i : Nat) (h : i < xs.length) : ((xs.take (i + 1)).map g).flatten = ((xs.take i).map g).flatten ++ g xs[i] := by
  rw [List.take_succ_eq_append_getElem h, List.map_append, List.flatten_append]
  simp only [List.map_cons, List.map_nil, List.flatten_cons, List.flatten_nil, List.append_nil]
theorem flat_len (l : List (List AV)) (k : Nat) (h : ∀ x ∈ l, x.length = k) : l.flatten.length = l.length * k := flatten_len l k h
structure Rg where (lo hi : Int)
def Rg.c (r : Rg) : List AV := [I r.lo, I r.hi]
def Cell.lv (x : Cell) : Rg := ⟨x.lo, x.hi⟩
def Day.rn (x : Day) : Rg := ⟨x.lo, x.hi⟩
theorem c72 (m : Nat) (v : AV) (xs : List Cell)  (H : Heap) (hR : Row H v 7 (xs.map Cell.c)) (hl : xs.length ≤ 1000000)  : RR (m + 3) (.fn 72 [v, .fn 73 [] []]) H = some (.bool (xs.all fun x => x.ok), H) := by
  refine (R_fn _ _ _ _ _).trans ?_; refine fn_ok Try.func72 rfl rfl (by kernel_rfl) (by kernel_rfl) ?_
  obtain ⟨W, hW, hg, hN, hE, hG⟩ := wOf H
  rw [← hW]
  have hlen : lenOf v = some xs.length := by simpa using hR.len
  refine kS ?_; refine kR ?_; refine oA rfl rfl ?_; refine oN ?_; refine kS ?_; refine kS ?_; refine kR ?_; refine oM rfl rfl ?_; refine oB rfl rfl rfl qbl ?_; refine oM rfl rfl ?_; refine oN ?_; refine Ok.block ?_
  refine Ok.loop (fun n s => ∃ i : Nat, n = xs.length - i ∧ i ≤ xs.length ∧ (∀ j, j < i → ∀ x, xs[j]? = some x → x.ok = true) ∧ Has 5 [(1, .fn 73 [] []), (4, .bool false), (7, v), (8, I xs.length), (9, I (i : Int))] s.T ∧ s.D = [] ∧ Grow W s.H) (xs.length) (by unfold loopFuel; omega)
    ⟨0, rfl, Nat.zero_le _, nofun, Has.of (by kernel_rfl), rfl, hG⟩ ?_
  rintro n ⟨T, D, G⟩ ⟨i, hn, hi, hall, ⟨f, hT⟩, hD, hg⟩
  dsimp only at *
  subst hT hD
  have hgn := hg.next
  refine kS ?_; refine kR ?_; refine OkO.bin rfl rfl rfl (bin_lss _ _) ?_; refine oN ?_; refine kS ?_
  refine Ok.cond rfl (fun h1 => ?_) (fun h1 => ?_)
  · have hlt : i < xs.length := by simpa using h1
    obtain ⟨bb, off, cs, i1, i2, i3, i4⟩ := (hR.ext (hE _ hg)).at_ i xs[i].c (by simp [hlt])
    have hne : bb ≠ G.next := by omega
    refine Ok.skip ?_; refine kS ?_; refine Ok.block ?_; refine kS ?_; refine kR ?_; refine qX (sz := 7) rfl rfl rfl ?_; refine oL rfl rfl (ldg (n := 7) (by kernel_rfl) (by first | assumption | (simp (disch := first | omega | (simp only [hNw, hPt]; omega)) only [gN] <;> first | rfl | assumption)) (by first | rfl | assumption)) ?_; refine OkO.alloc (z := [.int .i64 0, .int .i64 0, .int .i64 0, .int .i64 0, .int .i64 0, .int .i64 0, .int .i64 0]) rfl (by kernel_rfl) ?_; refine oT rfl rfl rfl (sAc (n := 7) (ag := true) (by kernel_rfl) (by first | assumption | (simp (disch := first | omega | (simp only [hNw, hPt]; omega)) only [gN] <;> first | rfl | assumption)) rfl rfl (by first | rfl | exact spl_set _ _ _ (by first | assumption | (simp; omega)))) ?_; refine oN ?_; refine kS ?_; refine kR ?_; refine oM rfl rfl ?_; refine oL rfl rfl (ldg (n := 7) (by kernel_rfl) (by first | assumption | (simp (disch := first | omega | (simp only [hNw, hPt]; omega)) only [gN] <;> first | rfl | assumption)) (by first | rfl | assumption)) ?_; refine oV rfl rfl rfl rfl rfl (c73 m xs[i] _) ?_; refine OkO.un rfl rfl rfl ?_; refine oN ?_
    refine Ok.cond rfl (fun h2 => ?_) (fun h2 => ?_)
    · refine kS ?_
      refine kR ?_; refine oA rfl rfl ?_; refine oN ?_
      refine Ok.ret ⟨.inr rfl, ?_⟩
      exact back_flat rfl (congrArg AV.bool (by symm; rw [List.all_eq_false]; exact ⟨xs[i], List.getElem_mem hlt, by simpa using h2⟩)) rfl (by rw [← hW]; exact (by (try dsimp only); repeat (first | (first | exact hg | exact hG) | apply Grow.new | (refine Grow.put ?_ _ (by first | omega | (simp only [hNw, hPt]; omega))))))
    · refine Ok.skip ?_
      refine kR ?_; refine OkO.bin rfl rfl rfl (bin_add (by omega) (by omega)) ?_; refine oM rfl rfl ?_; refine oN ?_
      refine ⟨xs.length - (i + 1), by omega, i + 1, rfl, hlt, fun j hj x hx => ?_, Has.of (by kernel_rfl), rfl, (by (try dsimp only); repeat (first | (first | exact hg | exact hG) | apply Grow.new | (refine Grow.put ?_ _ (by first | omega | (simp only [hNw, hPt]; omega)))))⟩
      by_cases e : j = i
      · subst e; rw [List.getElem?_eq_getElem hlt] at hx; cases hx; simpa using h2
      · exact hall j (by omega) x hx
  · have hge : i = xs.length := by simp at h1; omega
    refine Ok.exit ?_; refine kS ?_; refine kR ?_; refine oA rfl rfl ?_; refine oN ?_
    refine Ok.ret ⟨.inr rfl, ?_⟩
    exact back_flat rfl (congrArg AV.bool (by symm; rw [List.all_eq_true]; intro x hx; obtain ⟨j, hj, rfl⟩ := List.mem_iff_getElem.1 hx; exact hall j (by omega) _ (List.getElem?_eq_getElem hj))) rfl (by rw [← hW]; exact (by (try dsimp only); repeat (first | (first | exact hg | exact hG) | apply Grow.new | (refine Grow.put ?_ _ (by first | omega | (simp only [hNw, hPt]; omega))))))
theorem c83 (m : Nat) (v : AV) (xs : List Day)  (H : Heap) (hR : Row H v 3 (xs.map Day.c)) (hl : xs.length ≤ 1000000)  : RR (m + 3) (.fn 83 [v, .fn 84 [] []]) H = some (.bool (xs.all fun x => x.ok), H) := by
  refine (R_fn _ _ _ _ _).trans ?_; refine fn_ok Try.func83 rfl rfl (by kernel_rfl) (by kernel_rfl) ?_
  obtain ⟨W, hW, hg, hN, hE, hG⟩ := wOf H
  rw [← hW]
  have hlen : lenOf v = some xs.length := by simpa using hR.len
  refine kS ?_; refine kR ?_; refine oA rfl rfl ?_; refine oN ?_; refine kS ?_; refine kS ?_; refine kR ?_; refine oM rfl rfl ?_; refine oB rfl rfl rfl qbl ?_; refine oM rfl rfl ?_; refine oN ?_; refine Ok.block ?_
  refine Ok.loop (fun n s => ∃ i : Nat, n = xs.length - i ∧ i ≤ xs.length ∧ (∀ j, j < i → ∀ x, xs[j]? = some x → x.ok = true) ∧ Has 5 [(1, .fn 84 [] []), (4, .bool false), (7, v), (8, I xs.length), (9, I (i : Int))] s.T ∧ s.D = [] ∧ Grow W s.H) (xs.length) (by unfold loopFuel; omega)
    ⟨0, rfl, Nat.zero_le _, nofun, Has.of (by kernel_rfl), rfl, hG⟩ ?_
  rintro n ⟨T, D, G⟩ ⟨i, hn, hi, hall, ⟨f, hT⟩, hD, hg⟩
  dsimp only at *
  subst hT hD
  have hgn := hg.next
  refine kS ?_; refine kR ?_; refine OkO.bin rfl rfl rfl (bin_lss _ _) ?_; refine oN ?_; refine kS ?_
  refine Ok.cond rfl (fun h1 => ?_) (fun h1 => ?_)
  · have hlt : i < xs.length := by simpa using h1
    obtain ⟨bb, off, cs, i1, i2, i3, i4⟩ := (hR.ext (hE _ hg)).at_ i xs[i].c (by simp [hlt])
    have hne : bb ≠ G.next := by omega
    refine Ok.skip ?_; refine kS ?_; refine Ok.block ?_; refine kS ?_; refine kR ?_; refine qX (sz := 3) rfl rfl rfl ?_; refine oL rfl rfl (ldg (n := 3) (by kernel_rfl) (by first | assumption | (simp (disch := first | omega | (simp only [hNw, hPt]; omega)) only [gN] <;> first | rfl | assumption)) (by first | rfl | assumption)) ?_; refine OkO.alloc (z := [.int .i64 0, .int .i64 0, .int .i64 0]) rfl (by kernel_rfl) ?_; refine oT rfl rfl rfl (sAc (n := 3) (ag := true) (by kernel_rfl) (by first | assumption | (simp (disch := first | omega | (simp only [hNw, hPt]; omega)) only [gN] <;> first | rfl | assumption)) rfl rfl (by first | rfl | exact spl_set _ _ _ (by first | assumption | (simp; omega)))) ?_; refine oN ?_; refine kS ?_; refine kR ?_; refine oM rfl rfl ?_; refine oL rfl rfl (ldg (n := 3) (by kernel_rfl) (by first | assumption | (simp (disch := first | omega | (simp only [hNw, hPt]; omega)) only [gN] <;> first | rfl | assumption)) (by first | rfl | assumption)) ?_; refine oV rfl rfl rfl rfl rfl (c84 m xs[i] _) ?_; refine OkO.un rfl rfl rfl ?_; refine oN ?_
    refine Ok.cond rfl (fun h2 => ?_) (fun h2 => ?_)
    · refine kS ?_
      refine kR ?_; refine oA rfl rfl ?_; refine oN ?_
      refine Ok.ret ⟨.inr rfl, ?_⟩
      exact back_flat rfl (congrArg AV.bool (by symm; rw [List.all_eq_false]; exact ⟨xs[i], List.getElem_mem hlt, by simpa using h2⟩)) rfl (by rw [← hW]; exact (by (try dsimp only); repeat (first | (first | exact hg | exact hG) | apply Grow.new | (refine Grow.put ?_ _ (by first | omega | (simp only [hNw, hPt]; omega))))))
    · refine Ok.skip ?_
      refine kR ?_; refine OkO.bin rfl rfl rfl (bin_add (by omega) (by omega)) ?_; refine oM rfl rfl ?_; refine oN ?_
      refine ⟨xs.length - (i + 1), by omega, i + 1, rfl, hlt, fun j hj x hx => ?_, Has.of (by kernel_rfl), rfl, (by (try dsimp only); repeat (first | (first | exact hg | exact hG) | apply Grow.new | (refine Grow.put ?_ _ (by first | omega | (simp only [hNw, hPt]; omega)))))⟩
      by_cases e : j = i
      · subst e; rw [List.getElem?_eq_getElem hlt] at hx; cases hx; simpa using h2
      · exact hall j (by omega) x hx
  · have hge : i = xs.length := by simp at h1; omega
    refine Ok.exit ?_; refine kS ?_; refine kR ?_; refine oA rfl rfl ?_; refine oN ?_
    refine Ok.ret ⟨.inr rfl, ?_⟩
    exact back_flat rfl (congrArg AV.bool (by symm; rw [List.all_eq_true]; intro x hx; obtain ⟨j, hj, rfl⟩ := List.mem_iff_getElem.1 hx; exact hall j (by omega) _ (List.getElem?_eq_getElem hj))) rfl (by rw [← hW]; exact (by (try dsimp only); repeat (first | (first | exact hg | exact hG) | apply Grow.new | (refine Grow.put ?_ _ (by first | omega | (simp only [hNw, hPt]; omega))))))
theorem c92 (m : Nat) (v : AV) (xs : List Rg)  (H : Heap) (hR : Row H v 2 (xs.map Rg.c)) (hl : xs.length ≤ 1000000)  : RR (m + 3) (.fn 92 [v, .fn 91 [] []]) H = some (.bool (xs.all fun x => decide (x.lo = x.hi)), H) := by
  refine (R_fn _ _ _ _ _).trans ?_; refine fn_ok Try.func92 rfl rfl (by kernel_rfl) (by kernel_rfl) ?_
  obtain ⟨W, hW, hg, hN, hE, hG⟩ := wOf H
  rw [← hW]
  have hlen : lenOf v = some xs.length := by simpa using hR.len
  refine kS ?_; refine kR ?_; refine oA rfl rfl ?_; refine oN ?_; refine kS ?_; refine kS ?_; refine kR ?_; refine oM rfl rfl ?_; refine oB rfl rfl rfl qbl ?_; refine oM rfl rfl ?_; refine oN ?_; refine Ok.block ?_
  refine Ok.loop (fun n s => ∃ i : Nat, n = xs.length - i ∧ i ≤ xs.length ∧ (∀ j, j < i → ∀ x, xs[j]? = some x → decide (x.lo = x.hi) = true) ∧ Has 5 [(1, .fn 91 [] []), (4, .bool false), (7, v), (8, I xs.length), (9, I (i : Int))] s.T ∧ s.D = [] ∧ Grow W s.H) (xs.length) (by unfold loopFuel; omega)
    ⟨0, rfl, Nat.zero_le _, nofun, Has.of (by kernel_rfl), rfl, hG⟩ ?_
  rintro n ⟨T, D, G⟩ ⟨i, hn, hi, hall, ⟨f, hT⟩, hD, hg⟩
  dsimp only at *
  subst hT hD
  have hgn := hg.next
  refine kS ?_; refine kR ?_; refine OkO.bin rfl rfl rfl (bin_lss _ _) ?_; refine oN ?_; refine kS ?_
  refine Ok.cond rfl (fun h1 => ?_) (fun h1 => ?_)
  · have hlt : i < xs.length := by simpa using h1
    obtain ⟨bb, off, cs, i1, i2, i3, i4⟩ := (hR.ext (hE _ hg)).at_ i xs[i].c (by simp [hlt])
    have hne : bb ≠ G.next := by omega
    refine Ok.skip ?_; refine kS ?_; refine Ok.block ?_; refine kS ?_; refine kR ?_; refine qX (sz := 2) rfl rfl rfl ?_; refine oL rfl rfl (ldg (n := 2) (by kernel_rfl) (by first | assumption | (simp (disch := first | omega | (simp only [hNw, hPt]; omega)) only [gN] <;> first | rfl | assumption)) (by first | rfl | assumption)) ?_; refine OkO.alloc (z := [.int .i64 0, .int .i64 0]) rfl (by kernel_rfl) ?_; refine oT rfl rfl rfl (sAc (n := 2) (ag := true) (by kernel_rfl) (by first | assumption | (simp (disch := first | omega | (simp only [hNw, hPt]; omega)) only [gN] <;> first | rfl | assumption)) rfl rfl (by first | rfl | exact spl_set _ _ _ (by first | assumption | (simp; omega)))) ?_; refine oN ?_; refine kS ?_; refine kR ?_; refine oM rfl rfl ?_; refine oL rfl rfl (ldg (n := 2) (by kernel_rfl) (by first | assumption | (simp (disch := first | omega | (simp only [hNw, hPt]; omega)) only [gN] <;> first | rfl | assumption)) (by first | rfl | assumption)) ?_; refine oV rfl rfl rfl rfl rfl (c91 (m + 1) xs[i].lo xs[i].hi _) ?_; refine OkO.un rfl rfl rfl ?_; refine oN ?_
    refine Ok.cond rfl (fun h2 => ?_) (fun h2 => ?_)
    · refine kS ?_
      refine kR ?_; refine oA rfl rfl ?_; refine oN ?_
      refine Ok.ret ⟨.inr rfl, ?_⟩
      exact back_flat rfl (congrArg AV.bool (by symm; rw [List.all_eq_false]; exact ⟨xs[i], List.getElem_mem hlt, by simpa using h2⟩)) rfl (by rw [← hW]; exact (by (try dsimp only); repeat (first | (first | exact hg | exact hG) | apply Grow.new | (refine Grow.put ?_ _ (by first | omega | (simp only [hNw, hPt]; omega))))))
    · refine Ok.skip ?_
      refine kR ?_; refine OkO.bin rfl rfl rfl (bin_add (by omega) (by omega)) ?_; refine oM rfl rfl ?_; refine oN ?_
      refine ⟨xs.length - (i + 1), by omega, i + 1, rfl, hlt, fun j hj x hx => ?_, Has.of (by kernel_rfl), rfl, (by (try dsimp only); repeat (first | (first | exact hg | exact hG) | apply Grow.new | (refine Grow.put ?_ _ (by first | omega | (simp only [hNw, hPt]; omega)))))⟩
      by_cases e : j = i
      · subst e; rw [List.getElem?_eq_getElem hlt] at hx; cases hx; simpa using h2
      · exact hall j (by omega) x hx
  · have hge : i = xs.length := by simp at h1; omega
    refine Ok.exit ?_; refine kS ?_; refine kR ?_; refine oA rfl rfl ?_; refine oN ?_
    refine Ok.ret ⟨.inr rfl, ?_⟩
    exact back_flat rfl (congrArg AV.bool (by symm; rw [List.all_eq_true]; intro x hx; obtain ⟨j, hj, rfl⟩ := List.mem_iff_getElem.1 hx; exact hall j (by omega) _ (List.getElem?_eq_getElem hj))) rfl (by rw [← hW]; exact (by (try dsimp only); repeat (first | (first | exact hg | exact hG) | apply Grow.new | (refine Grow.put ?_ _ (by first | omega | (simp only [hNw, hPt]; omega))))))
theorem c77 (m : Nat) (xv : AV) (xs : List Cell)  (H : Heap) (hR : Row H xv 7 (xs.map Cell.c)) (hl : xs.length ≤ 1000)  : ∃ v H', RR (m + 2) (.fn 77 [xv, .fn 78 [] []]) H = some (v, H') ∧ Ret H H' ∧ Row H' v 2 (xs.map fun x => x.lv.c) ∧ Cut H' v 2 ∧ Fr H.next H'.next H' (fun X => Row X v 2 (xs.map fun x => x.lv.c)) := by
  show ∃ v H', evFn Try.prog (RR (m + 1)) 77 [xv, .fn 78 [] []] H = some (v, H') ∧ Ret H H' ∧ Row H' v 2 (xs.map fun x => x.lv.c) ∧ Cut H' v 2 ∧ Fr H.next H'.next H' (fun X => Row X v 2 (xs.map fun x => x.lv.c))
  refine fn_okE Try.func77 rfl rfl (by kernel_rfl) (by kernel_rfl) ?_
  obtain ⟨W, hW, hg, hN, hE, hG⟩ := wOf H
  rw [← hW]
  have hlen : lenOf xv = some xs.length := by simpa using hR.len
  refine kS ?_; refine kR ?_; refine oA rfl rfl ?_; refine oN ?_; refine kS ?_; refine kR ?_; refine oA rfl rfl ?_; refine oN ?_; refine kS ?_; refine kS ?_; refine kR ?_; refine oM rfl rfl ?_; refine oB rfl rfl rfl qbl ?_; refine oM rfl rfl ?_; refine oN ?_; refine Ok.block ?_
  refine Ok.loop (fun n s => ∃ (i : Nat) (v5 : AV), n = xs.length - i ∧ i ≤ xs.length ∧ Mine W.next s.H v5 36 2 ((xs.take i).map fun x => x.lv.c).flatten ∧ Has 5 [(1, .fn 78 [] []), (4, .nils), (5, v5), (8, xv), (9, I xs.length), (10, I (i : Int))] s.T ∧ s.D = [] ∧ Grow W s.H) (xs.length) (by unfold loopFuel; omega)
    ⟨0, .nils, rfl, Nat.zero_le _, Mine.nil _ _ _ _, Has.of (by kernel_rfl), rfl, hG⟩ ?_
  rintro n ⟨T, D, G⟩ ⟨i, v5, hn, hi, hm, ⟨f, hT⟩, hD, hg⟩
  dsimp only at *
  subst hT hD
  have hgn := hg.next
  refine kS ?_; refine kR ?_; refine OkO.bin rfl rfl rfl (bin_lss _ _) ?_; refine oN ?_; refine kS ?_
  refine Ok.cond rfl (fun h1 => ?_) (fun h1 => ?_)
  · have hlt : i < xs.length := by simpa using h1
    obtain ⟨bb, off, cs, i1, i2, i3, i4⟩ := (hR.ext (hE _ hg)).at_ i xs[i].c (by simp [hlt])
    have hne : bb ≠ G.next := by omega
    have ht : ((xs.take (i + 1)).map fun x => x.lv.c).flatten = ((xs.take i).map fun x => x.lv.c).flatten ++ (fun (x : Cell) => x.lv.c) xs[i] := flat_take _ _ _ hlt
    have hml : ((xs.take i).map fun x => x.lv.c).flatten.length = i * 2 := by
          rw [flat_len _ 2 (fun x hx => by simp only [List.mem_map] at hx; obtain ⟨y, _, rfl⟩ := hx; rfl)]; simp; omega
    refine Ok.skip ?_; refine kS ?_; refine Ok.block ?_; refine kS ?_; refine kR ?_; refine qX (sz := 7) rfl rfl rfl ?_; refine oL rfl rfl (ldg (n := 7) (by kernel_rfl) (by first | assumption | (simp (disch := first | omega | (simp only [hNw, hPt]; omega)) only [gN] <;> first | rfl | assumption)) (by first | rfl | assumption)) ?_; refine OkO.alloc (z := [.int .i64 0, .int .i64 0, .int .i64 0, .int .i64 0, .int .i64 0, .int .i64 0, .int .i64 0]) rfl (by kernel_rfl) ?_; refine oT rfl rfl rfl (sAc (n := 7) (ag := true) (by kernel_rfl) (by first | assumption | (simp (disch := first | omega | (simp only [hNw, hPt]; omega)) only [gN] <;> first | rfl | assumption)) rfl rfl (by first | rfl | exact spl_set _ _ _ (by first | assumption | (simp; omega)))) ?_; refine oN ?_; refine kR ?_; refine oM rfl rfl ?_; refine oM rfl rfl ?_; refine oL rfl rfl (ldg (n := 7) (by kernel_rfl) (by first | assumption | (simp (disch := first | omega | (simp only [hNw, hPt]; omega)) only [gN] <;> first | rfl | assumption)) (by first | rfl | assumption)) ?_; refine oV rfl rfl rfl rfl rfl (c78 m xs[i] _) ?_; refine OkO.buildSlice (el := 36) (sz := 2) (z := [.int .i64 0, .int .i64 0]) rfl (by kernel_rfl) (by decide) rfl rfl ?_; refine OkO.builtinE rfl rfl rfl (Mine.app (sz := 2) (by_ := 16) (e := 36) (n := 1) (new := (fun (x : Cell) => x.lv.c) xs[i]) (hm.to (by (try dsimp only); repeat (first | exact Ext.refl _ | assumption | apply Ext.new | (refine Ext.put ?_ _ (by first | omega | (simp only [hNw, hPt]; omega)))))) (by (try dsimp only); repeat (first | (first | exact hg | exact hG) | apply Grow.new | (refine Grow.put ?_ _ (by first | omega | (simp only [hNw, hPt]; omega))))) (Nat.le_refl _) (by have := hg.next; simp; omega) (by kernel_rfl) (by kernel_rfl) (elems_new (n := 1) (sz := 2) rfl) rfl rfl (by rw [hml]; omega) (by omega) (by omega) rfl) ?_
    rintro v2 G2 ⟨q1, q2, q3⟩
    refine oA rfl rfl ?_; refine oN ?_; refine kR ?_; refine OkO.bin rfl rfl rfl (bin_add (by omega) (by omega)) ?_; refine oM rfl rfl ?_; refine oN ?_
    refine ⟨xs.length - (i + 1), by omega, i + 1, v2, rfl, hlt, ?_, Has.of (by kernel_rfl), rfl, q2⟩
    rw [ht]; exact q1
  · have hge : i = xs.length := by simp at h1; omega
    refine Ok.exit ?_; refine kS ?_; refine kR ?_; refine oM rfl rfl ?_; refine oA rfl rfl ?_; refine oN ?_
    refine Ok.ret ⟨.inr rfl, ?_⟩
    subst hge
    exact back_newA (resV_tmp rfl resV_nil) rfl (by rw [← hW]; exact hg) (fun H2 r2 r3 => ⟨r2, (Mine.back (by rw [List.take_length] at hm; exact hm) (fun x hx => by simp only [List.mem_map] at hx; obtain ⟨y, _, rfl⟩ := hx; rfl) (by omega) r3).1, (Mine.back (by rw [List.take_length] at hm; exact hm) (fun x hx => by simp only [List.mem_map] at hx; obtain ⟨y, _, rfl⟩ := hx; rfl) (by omega) r3).2, Mine.backF (by rw [List.take_length, hN] at hm; exact hm) (fun x hx => by simp only [List.mem_map] at hx; obtain ⟨y, _, rfl⟩ := hx; rfl) (by omega) r3⟩)
theorem c79 (m : Nat) (xv : AV) (xs : List Day)  (H : Heap) (hR : Row H xv 3 (xs.map Day.c)) (hl : xs.length ≤ 1000)  : ∃ v H', RR (m + 2) (.fn 79 [xv, .fn 80 [] []]) H = some (v, H') ∧ Ret H H' ∧ Row H' v 2 (xs.map fun x => x.rn.c) ∧ Cut H' v 2 ∧ Fr H.next H'.next H' (fun X => Row X v 2 (xs.map fun x => x.rn.c)) := by
  show ∃ v H', evFn Try.prog (RR (m + 1)) 79 [xv, .fn 80 [] []] H = some (v, H') ∧ Ret H H' ∧ Row H' v 2 (xs.map fun x => x.rn.c) ∧ Cut H' v 2 ∧ Fr H.next H'.next H' (fun X => Row X v 2 (xs.map fun x => x.rn.c))
  refine fn_okE Try.func79 rfl rfl (by kernel_rfl) (by kernel_rfl) ?_
  obtain ⟨W, hW, hg, hN, hE, hG⟩ := wOf H
  rw [← hW]
  have hlen : lenOf xv = some xs.length := by simpa using hR.len
  refine kS ?_; refine kR ?_; refine oA rfl rfl ?_; refine oN ?_; refine kS ?_; refine kR ?_; refine oA rfl rfl ?_; refine oN ?_; refine kS ?_; refine kS ?_; refine kR ?_; refine oM rfl rfl ?_; refine oB rfl rfl rfl qbl ?_; refine oM rfl rfl ?_; refine oN ?_; refine Ok.block ?_
  refine Ok.loop (fun n s => ∃ (i : Nat) (v5 : AV), n = xs.length - i ∧ i ≤ xs.length ∧ Mine W.next s.H v5 36 2 ((xs.take i).map fun x => x.rn.c).flatten ∧ Has 5 [(1, .fn 80 [] []), (4, .nils), (5, v5), (8, xv), (9, I xs.length), (10, I (i : Int))] s.T ∧ s.D = [] ∧ Grow W s.H) (xs.length) (by unfold loopFuel; omega)
    ⟨0, .nils, rfl, Nat.zero_le _, Mine.nil _ _ _ _, Has.of (by kernel_rfl), rfl, hG⟩ ?_
  rintro n ⟨T, D, G⟩ ⟨i, v5, hn, hi, hm, ⟨f, hT⟩, hD, hg⟩
  dsimp only at *
  subst hT hD
  have hgn := hg.next
  refine kS ?_; refine kR ?_; refine OkO.bin rfl rfl rfl (bin_lss _ _) ?_; refine oN ?_; refine kS ?_
  refine Ok.cond rfl (fun h1 => ?_) (fun h1 => ?_)
  · have hlt : i < xs.length := by simpa using h1
    obtain ⟨bb, off, cs, i1, i2, i3, i4⟩ := (hR.ext (hE _ hg)).at_ i xs[i].c (by simp [hlt])
    have hne : bb ≠ G.next := by omega
    have ht : ((xs.take (i + 1)).map fun x => x.rn.c).flatten = ((xs.take i).map fun x => x.rn.c).flatten ++ (fun (x : Day) => x.rn.c) xs[i] := flat_take _ _ _ hlt
    have hml : ((xs.take i).map fun x => x.rn.c).flatten.length = i * 2 := by
          rw [flat_len _ 2 (fun x hx => by simp only [List.mem_map] at hx; obtain ⟨y, _, rfl⟩ := hx; rfl)]; simp; omega
    refine Ok.skip ?_; refine kS ?_; refine Ok.block ?_; refine kS ?_; refine kR ?_; refine qX (sz := 3) rfl rfl rfl ?_; refine oL rfl rfl (ldg (n := 3) (by kernel_rfl) (by first | assumption | (simp (disch := first | omega | (simp only [hNw, hPt]; omega)) only [gN] <;> first | rfl | assumption)) (by first | rfl | assumption)) ?_; refine OkO.alloc (z := [.int .i64 0, .int .i64 0, .int .i64 0]) rfl (by kernel_rfl) ?_; refine oT rfl rfl rfl (sAc (n := 3) (ag := true) (by kernel_rfl) (by first | assumption | (simp (disch := first | omega | (simp only [hNw, hPt]; omega)) only [gN] <;> first | rfl | assumption)) rfl rfl (by first | rfl | exact spl_set _ _ _ (by first | assumption | (simp; omega)))) ?_; refine oN ?_; refine kR ?_; refine oM rfl rfl ?_; refine oM rfl rfl ?_; refine oL rfl rfl (ldg (n := 3) (by kernel_rfl) (by first | assumption | (simp (disch := first | omega | (simp only [hNw, hPt]; omega)) only [gN] <;> first | rfl | assumption)) (by first | rfl | assumption)) ?_; refine oV rfl rfl rfl rfl rfl (c80 m xs[i] _) ?_; refine OkO.buildSlice (el := 36) (sz := 2) (z := [.int .i64 0, .int .i64 0]) rfl (by kernel_rfl) (by decide) rfl rfl ?_; refine OkO.builtinE rfl rfl rfl (Mine.app (sz := 2) (by_ := 16) (e := 36) (n := 1) (new := (fun (x : Day) => x.rn.c) xs[i]) (hm.to (by (try dsimp only); repeat (first | exact Ext.refl _ | assumption | apply Ext.new | (refine Ext.put ?_ _ (by first | omega | (simp only [hNw, hPt]; omega)))))) (by (try dsimp only); repeat (first | (first | exact hg | exact hG) | apply Grow.new | (refine Grow.put ?_ _ (by first | omega | (simp only [hNw, hPt]; omega))))) (Nat.le_refl _) (by have := hg.next; simp; omega) (by kernel_rfl) (by kernel_rfl) (elems_new (n := 1) (sz := 2) rfl) rfl rfl (by rw [hml]; omega) (by omega) (by omega) rfl) ?_
    rintro v2 G2 ⟨q1, q2, q3⟩
    refine oA rfl rfl ?_; refine oN ?_; refine kR ?_; refine OkO.bin rfl rfl rfl (bin_add (by omega) (by omega)) ?_; refine oM rfl rfl ?_; refine oN ?_
    refine ⟨xs.length - (i + 1), by omega, i + 1, v2, rfl, hlt, ?_, Has.of (by kernel_rfl), rfl, q2⟩
    rw [ht]; exact q1
  · have hge : i = xs.length := by simp at h1; omega
    refine Ok.exit ?_; refine kS ?_; refine kR ?_; refine oM rfl rfl ?_; refine oA rfl rfl ?_; refine oN ?_
    refine Ok.ret ⟨.inr rfl, ?_⟩
    subst hge
    exact back_newA (resV_tmp rfl resV_nil) rfl (by rw [← hW]; exact hg) (fun H2 r2 r3 => ⟨r2, (Mine.back (by rw [List.take_length] at hm; exact hm) (fun x hx => by simp only [List.mem_map] at hx; obtain ⟨y, _, rfl⟩ := hx; rfl) (by omega) r3).1, (Mine.back (by rw [List.take_length] at hm; exact hm) (fun x hx => by simp only [List.mem_map] at hx; obtain ⟨y, _, rfl⟩ := hx; rfl) (by omega) r3).2, Mine.backF (by rw [List.take_length, hN] at hm; exact hm) (fun x hx => by simp only [List.mem_map] at hx; obtain ⟨y, _, rfl⟩ := hx; rfl) (by omega) r3⟩)
theorem c106l (m : Nat) (xv : AV) (xs : List Rg)  (H : Heap) (hR : Row H xv 2 (xs.map Rg.c)) (hl : xs.length ≤ 1000)  : ∃ v H', RR (m + 2) (.fn 106 [xv, .fn 85 [] []]) H = some (v, H') ∧ Ret H H' ∧ Row H' v 1 (xs.map fun x => [I x.lo]) ∧ Cut H' v 1 ∧ Fr H.next H'.next H' (fun X => Row X v 1 (xs.map fun x => [I x.lo])) := by
  show ∃ v H', evFn Try.prog (RR (m + 1)) 106 [xv, .fn 85 [] []] H = some (v, H') ∧ Ret H H' ∧ Row H' v 1 (xs.map fun x => [I x.lo]) ∧ Cut H' v 1 ∧ Fr H.next H'.next H' (fun X => Row X v 1 (xs.map fun x => [I x.lo]))
  refine fn_okE Try.func106 rfl rfl (by kernel_rfl) (by kernel_rfl) ?_
  obtain ⟨W, hW, hg, hN, hE, hG⟩ := wOf H
  rw [← hW]
  have hlen : lenOf xv = some xs.length := by simpa using hR.len
  refine kS ?_; refine kR ?_; refine oA rfl rfl ?_; refine oN ?_; refine kS ?_; refine kR ?_; refine oA rfl rfl ?_; refine oN ?_; refine kS ?_; refine kS ?_; refine kR ?_; refine oM rfl rfl ?_; refine oB rfl rfl rfl qbl ?_; refine oM rfl rfl ?_; refine oN ?_; refine Ok.block ?_
  refine Ok.loop (fun n s => ∃ (i : Nat) (v5 : AV), n = xs.length - i ∧ i ≤ xs.length ∧ Mine W.next s.H v5 3 1 ((xs.take i).map fun x => [I x.lo]).flatten ∧ Has 5 [(1, .fn 85 [] []), (4, .nils), (5, v5), (8, xv), (9, I xs.length), (10, I (i : Int))] s.T ∧ s.D = [] ∧ Grow W s.H) (xs.length) (by unfold loopFuel; omega)
    ⟨0, .nils, rfl, Nat.zero_le _, Mine.nil _ _ _ _, Has.of (by kernel_rfl), rfl, hG⟩ ?_
  rintro n ⟨T, D, G⟩ ⟨i, v5, hn, hi, hm, ⟨f, hT⟩, hD, hg⟩
  dsimp only at *
  subst hT hD
  have hgn := hg.next
  refine kS ?_; refine kR ?_; refine OkO.bin rfl rfl rfl (bin_lss _ _) ?_; refine oN ?_; refine kS ?_
  refine Ok.cond rfl (fun h1 => ?_) (fun h1 => ?_)
  · have hlt : i < xs.length := by simpa using h1
    obtain ⟨bb, off, cs, i1, i2, i3, i4⟩ := (hR.ext (hE _ hg)).at_ i xs[i].c (by simp [hlt])
    have hne : bb ≠ G.next := by omega
    have ht : ((xs.take (i + 1)).map fun x => [I x.lo]).flatten = ((xs.take i).map fun x => [I x.lo]).flatten ++ (fun (x : Rg) => [I x.lo]) xs[i] := flat_take _ _ _ hlt
    have hml : ((xs.take i).map fun x => [I x.lo]).flatten.length = i * 1 := by
          rw [flat_len _ 1 (fun x hx => by simp only [List.mem_map] at hx; obtain ⟨y, _, rfl⟩ := hx; rfl)]; simp; omega
    refine Ok.skip ?_; refine kS ?_; refine Ok.block ?_; refine kS ?_; refine kR ?_; refine qX (sz := 2) rfl rfl rfl ?_; refine oL rfl rfl (ldg (n := 2) (by kernel_rfl) (by first | assumption | (simp (disch := first | omega | (simp only [hNw, hPt]; omega)) only [gN] <;> first | rfl | assumption)) (by first | rfl | assumption)) ?_; refine OkO.alloc (z := [.int .i64 0, .int .i64 0]) rfl (by kernel_rfl) ?_; refine oT rfl rfl rfl (sAc (n := 2) (ag := true) (by kernel_rfl) (by first | assumption | (simp (disch := first | omega | (simp only [hNw, hPt]; omega)) only [gN] <;> first | rfl | assumption)) rfl rfl (by first | rfl | exact spl_set _ _ _ (by first | assumption | (simp; omega)))) ?_; refine oN ?_; refine kR ?_; refine oM rfl rfl ?_; refine oM rfl rfl ?_; refine oL rfl rfl (ldg (n := 2) (by kernel_rfl) (by first | assumption | (simp (disch := first | omega | (simp only [hNw, hPt]; omega)) only [gN] <;> first | rfl | assumption)) (by first | rfl | assumption)) ?_; refine oV rfl rfl rfl rfl rfl (c85 m xs[i].lo xs[i].hi _) ?_; refine OkO.buildSlice (el := 3) (sz := 1) (z := [.int .i64 0]) rfl (by kernel_rfl) (by decide) rfl rfl ?_; refine OkO.builtinE rfl rfl rfl (Mine.app (sz := 1) (by_ := 8) (e := 3) (n := 1) (new := (fun (x : Rg) => [I x.lo]) xs[i]) (hm.to (by (try dsimp only); repeat (first | exact Ext.refl _ | assumption | apply Ext.new | (refine Ext.put ?_ _ (by first | omega | (simp only [hNw, hPt]; omega)))))) (by (try dsimp only); repeat (first | (first | exact hg | exact hG) | apply Grow.new | (refine Grow.put ?_ _ (by first | omega | (simp only [hNw, hPt]; omega))))) (Nat.le_refl _) (by have := hg.next; simp; omega) (by kernel_rfl) (by kernel_rfl) (elems_new (n := 1) (sz := 1) rfl) rfl rfl (by rw [hml]; omega) (by omega) (by omega) rfl) ?_
    rintro v2 G2 ⟨q1, q2, q3⟩
    refine oA rfl rfl ?_; refine oN ?_; refine kR ?_; refine OkO.bin rfl rfl rfl (bin_add (by omega) (by omega)) ?_; refine oM rfl rfl ?_; refine oN ?_
    refine ⟨xs.length - (i + 1), by omega, i + 1, v2, rfl, hlt, ?_, Has.of (by kernel_rfl), rfl, q2⟩
    rw [ht]; exact q1
  · have hge : i = xs.length := by simp at h1; omega
    refine Ok.exit ?_; refine kS ?_; refine kR ?_; refine oM rfl rfl ?_; refine oA rfl rfl ?_; refine oN ?_
    refine Ok.ret ⟨.inr rfl, ?_⟩
    subst hge
    exact back_newA (resV_tmp rfl resV_nil) rfl (by rw [← hW]; exact hg) (fun H2 r2 r3 => ⟨r2, (Mine.back (by rw [List.take_length] at hm; exact hm) (fun x hx => by simp only [List.mem_map] at hx; obtain ⟨y, _, rfl⟩ := hx; rfl) (by omega) r3).1, (Mine.back (by rw [List.take_length] at hm; exact hm) (fun x hx => by simp only [List.mem_map] at hx; obtain ⟨y, _, rfl⟩ := hx; rfl) (by omega) r3).2, Mine.backF (by rw [List.take_length, hN] at hm; exact hm) (fun x hx => by simp only [List.mem_map] at hx; obtain ⟨y, _, rfl⟩ := hx; rfl) (by omega) r3⟩)
end
end Go.Ev

set_option maxRecDepth 100000
set_option linter.unusedSimpArgs false
set_option linter.unusedVariables false
namespace Go.Ev
open Go Go.Proofs
noncomputable section
def fitsB : List Int → List Rg → Bool
  | [], [] => true
  | u :: us, r :: rs => inB u r.lo r.hi && fitsB us rs
  | _, _ => false
theorem fits_iff : ∀ (us : List Int) (rs : List Rg), fitsB us rs = true ↔ us.length = rs.length ∧ ∀ (i : Nat) u r, us[i]? = some u → rs[i]? = some r → inB u r.lo r.hi = true := by
  intro us
  induction us with
  | nil =>
    intro rs
    cases rs with
    | nil => simp [fitsB]
    | cons r rs => simp [fitsB]
  | cons u us ih =>
    intro rs
    cases rs with
    | nil => simp [fitsB]
    | cons r rs =>
      simp only [fitsB, Bool.and_eq_true, ih rs, List.length_cons, Nat.add_right_cancel_iff]
      constructor
      · rintro ⟨h1, h2, h3⟩
        refine ⟨h2, fun i u' r' k1 k2 => ?_⟩
        cases i with
        | zero => simp at k1 k2; subst k1 k2; exact h1
        | succ i => exact h3 i u' r' (by simpa using k1) (by simpa using k2)
      · rintro ⟨h2, h3⟩
        exact ⟨h3 0 u r rfl rfl, h2, fun i u' r' k1 k2 => h3 (i + 1) u' r' (by simpa using k1) (by simpa using k2)⟩
def toOk (n : Int) : Int → List Cell → Bool
  | _, [] => true
  | i, c :: cs => (inB c.to (-1) (n - 1) && decide (c.to ≠ i)) && toOk n (i + 1) cs
theorem toOk_iff (n : Int) : ∀ (cs : List Cell) (k : Int), toOk n k cs = true ↔ ∀ (i : Nat) c, cs[i]? = some c → inB c.to (-1) (n - 1) = true ∧ c.to ≠ k + i := by
  intro cs
  induction cs with
  | nil => intro k; simp [toOk]
  | cons c cs ih =>
    intro k
    simp only [toOk, Bool.and_eq_true, ih, decide_eq_true_eq]
    constructor
    · rintro ⟨⟨h1, h2⟩, h3⟩ i c' hi
      cases i with
      | zero => simp at hi; subst hi; exact ⟨h1, by simpa using h2⟩
      | succ i =>
        have := h3 i c' (by simpa using hi)
        refine ⟨this.1, ?_⟩
        have h := this.2
        push_cast
        omega
    · intro h
      have h0 := h 0 c rfl
      refine ⟨⟨h0.1, by simpa using h0.2⟩, fun i c' hi => ?_⟩
      have := h (i + 1) c' (by simpa using hi)
      refine ⟨this.1, ?_⟩
      have h := this.2
      push_cast at h
      omega
theorem toOk_no {n : Int} {cs : List Cell} {i : Nat} {c : Cell} (hi : cs[i]? = some c) (h : inB c.to (-1) (n - 1) = false ∨ c.to = (i : Int)) : toOk n 0 cs = false := by
  cases hk : toOk n 0 cs with
  | false => rfl
  | true =>
    have := (toOk_iff n cs 0).1 hk i c hi
    rcases h with h | h
    · rw [h] at this; exact absurd this.1 (by simp)
    · exact absurd h (by have := this.2; omega)
def gOk (cs : List Cell) (g : Gr) : Bool := inB (cs.length : Int) 1 8 && (cs.all fun x => x.ok) && toOk (cs.length : Int) 0 cs && okR g.slo g.shi 100000 && okR g.klo g.khi 1000 && inB g.melt 0 50
theorem c76 (m : Nat) (uv rv : AV) (us : List Int) (rs : List Rg) (H : Heap) (hU : Ints H uv us) (hR : Row H rv 2 (rs.map Rg.c)) (hl : rs.length ≤ 1000000) (hl2 : us.length ≤ 1000000) : RR (m + 2) (.fn 76 [uv, rv]) H = some (.bool (fitsB us rs), H) := by
  refine (R_fn _ _ _ _ _).trans ?_; refine fn_ok Try.func76 rfl rfl (by kernel_rfl) (by kernel_rfl) ?_
  obtain ⟨W, hW, hg, hN, hE, hG⟩ := wOf H
  rw [← hW]
  have hlu : lenOf uv = some us.length := by simpa using hU.len
  have hlr : lenOf rv = some rs.length := by simpa using hR.len
  have pu : uv.plain = true := lpl hlu
  refine kS ?_; refine kR ?_; refine oA rfl rfl ?_; refine oN ?_; refine kS ?_; refine kS ?_; refine kR ?_; refine oM rfl rfl ?_; refine oB rfl rfl rfl qbl ?_; refine oM rfl rfl ?_; refine oB rfl rfl rfl qbl ?_; refine OkO.bin rfl rfl rfl (bin_neq _ _) ?_; refine oN ?_
  refine Ok.cond rfl (fun h1 => ?_) (fun h1 => ?_)
  · have hne : us.length ≠ rs.length := by simp at h1; omega
    refine kS ?_; refine kR ?_; refine oA rfl rfl ?_; refine oN ?_
    refine Ok.ret ⟨.inr rfl, ?_⟩
    exact back_flat rfl (congrArg AV.bool (by symm; cases hk : fitsB us rs with | false => rfl | true => exact absurd ((fits_iff us rs).1 hk).1 hne)) rfl (by rw [← hW]; exact (by (try dsimp only); repeat (first | exact hG | apply Grow.new | (refine Grow.put ?_ _ (by first | omega | (simp only [hNw, hPt]; omega))))))
  · have heq : us.length = rs.length := by simp at h1; omega
    refine Ok.skip ?_; refine kS ?_; refine kS ?_; refine kR ?_; refine oM rfl rfl ?_; refine oB rfl rfl rfl qbl ?_; refine oM rfl rfl ?_; refine oN ?_; refine Ok.block ?_
    refine Ok.loop (fun n s => ∃ i : Nat, n = rs.length - i ∧ i ≤ rs.length ∧ (∀ j, j < i → ∀ u r, us[j]? = some u → rs[j]? = some r → inB u r.lo r.hi = true) ∧ Has 5 [(0, uv), (4, .bool false), (12, rv), (13, I rs.length), (14, I (i : Int))] s.T ∧ s.D = [] ∧ Grow W s.H) (rs.length) (by unfold loopFuel; omega)
      ⟨0, rfl, Nat.zero_le _, nofun, Has.of (by kernel_rfl), rfl, hG⟩ ?_
    rintro n ⟨T, D, G⟩ ⟨i, hn, hi, hall, ⟨f, hT⟩, hD, hg⟩
    dsimp only at *
    subst hT hD
    have hgn := hg.next
    refine kS ?_; refine kR ?_; refine OkO.bin rfl rfl rfl (bin_lss _ _) ?_; refine oN ?_; refine kS ?_
    refine Ok.cond rfl (fun h2 => ?_) (fun h2 => ?_)
    · have hlt : i < rs.length := by simpa using h2
      have hltu : i < us.length := by omega
      obtain ⟨bb, off, cs, i1, i2, i3, i4⟩ := (hR.ext (hE _ hg)).at_ i rs[i].c (by simp [hlt])
      have hne : bb ≠ G.next := by omega
      obtain ⟨ub, uo, ucs, j1, j2, j3, j4⟩ := (hU.ext (hE _ hg)).at_ i [I us[i]] (by simp [hltu])
      have hne2 : ub ≠ G.next := by omega
      have j5 := seg_one j3
      refine Ok.skip ?_; refine kS ?_; refine Ok.block ?_; refine kS ?_; refine kR ?_; refine oM rfl rfl ?_; refine qX (sz := 2) (n := i) rfl rfl rfl ?_; refine oL rfl rfl (ldg (n := 2) (by kernel_rfl) (by first | assumption | (simp (disch := first | omega | (simp only [hNw, hPt]; omega)) only [gN] <;> first | rfl | assumption)) (by first | rfl | assumption)) ?_; refine OkO.alloc (z := [.int .i64 0, .int .i64 0]) rfl (by kernel_rfl) ?_; refine oA rfl rfl ?_; refine oT rfl rfl rfl (sAc (n := 2) (ag := true) (by kernel_rfl) (by first | assumption | (simp (disch := first | omega | (simp only [hNw, hPt]; omega)) only [gN] <;> first | rfl | assumption)) rfl rfl (by first | rfl | exact spl_set _ _ _ (by first | assumption | (simp; omega)))) ?_; refine oN ?_; refine kS ?_; refine Ok.drawn [(0, true, []), (1, true, []), (2, true, []), (3, true, []), (4, true, []), (5, false, []), (6, true, [])] (by kernel_rfl) ?_; refine pS ?_; refine oL rfl rfl (ldg (n := 2) (by kernel_rfl) (by first | assumption | (simp (disch := first | omega | (simp only [hNw, hPt]; omega)) only [gN] <;> first | rfl | assumption)) (by first | rfl | assumption)) ?_; refine oN ⟨rfl, ?_⟩; refine pS ?_; refine oM rfl rfl ?_; refine oN ⟨rfl, ?_⟩; refine pS ?_; refine oM rfl rfl ?_; refine oN ⟨rfl, ?_⟩; refine pS ?_; refine qX (sz := 1) (n := i) rfl rfl rfl ?_; refine oN ⟨rfl, ?_⟩; refine pS ?_; refine oL rfl rfl (lda (n := 1) (by kernel_rfl) (by first | assumption | (simp (disch := first | omega | (simp only [hNw, hPt]; omega)) only [gN] <;> first | rfl | assumption)) (by first | rfl | assumption)) ?_; refine oN ⟨rfl, ?_⟩; refine pS ?_; refine oV rfl rfl rfl rfl rfl (c71 m rs[i].lo rs[i].hi us[i] _) ?_; refine oN ⟨rfl, ?_⟩; refine pS ?_; refine OkO.un rfl rfl rfl ?_; refine oN ⟨rfl, ?_⟩; refine OkP.nil ?_
      refine Ok.cond rfl (fun h3 => ?_) (fun h3 => ?_)
      · refine kS ?_
        refine kR ?_; refine oA rfl rfl ?_; refine oN ?_
        refine Ok.ret ⟨.inr rfl, ?_⟩
        exact back_flat rfl (congrArg AV.bool (by symm; cases hk : fitsB us rs with | false => rfl | true => (have := ((fits_iff us rs).1 hk).2 i us[i] rs[i] (List.getElem?_eq_getElem hltu) (List.getElem?_eq_getElem hlt); rw [this] at h3; simp at h3))) rfl (by rw [← hW]; exact (by (try dsimp only); repeat (first | (first | exact hg | exact hG) | apply Grow.new | (refine Grow.put ?_ _ (by first | omega | (simp only [hNw, hPt]; omega))))))
      · refine Ok.skip ?_
        refine kR ?_; refine OkO.bin rfl rfl rfl (bin_add (by omega) (by omega)) ?_; refine oM rfl rfl ?_; refine oN ?_
        refine ⟨rs.length - (i + 1), by omega, i + 1, rfl, hlt, fun j hj u r k1 k2 => ?_, Has.of (by kernel_rfl), rfl, (by (try dsimp only); repeat (first | (first | exact hg | exact hG) | apply Grow.new | (refine Grow.put ?_ _ (by first | omega | (simp only [hNw, hPt]; omega)))))⟩
        by_cases e : j = i
        · subst e; rw [List.getElem?_eq_getElem hltu] at k1; rw [List.getElem?_eq_getElem hlt] at k2; cases k1; cases k2; simpa using h3
        · exact hall j (by omega) u r k1 k2
    · have hge : i = rs.length := by simp at h2; omega
      refine Ok.exit ?_; refine kS ?_; refine kR ?_; refine oA rfl rfl ?_; refine oN ?_
      refine Ok.ret ⟨.inr rfl, ?_⟩
      exact back_flat rfl (congrArg AV.bool (by symm; exact (fits_iff us rs).2 ⟨heq, fun j u r k1 k2 => hall j (by have := (List.getElem?_eq_some_iff.1 k2).1; omega) u r k1 k2⟩)) rfl (by rw [← hW]; exact (by (try dsimp only); repeat (first | (first | exact hg | exact hG) | apply Grow.new | (refine Grow.put ?_ _ (by first | omega | (simp only [hNw, hPt]; omega))))))
theorem c51 (m : Nat) (cv : AV) (cs : List Cell) (g : Gr) (H : Heap) (hR : Row H cv 7 (cs.map Cell.c)) (hbig : cs.length ≤ 1000000) : RR (m + 4) (.fn 51 [.agg [cv, I g.slo, I g.shi, I g.klo, I g.khi, I g.melt]]) H = some (.bool (gOk cs g), H) := by
  refine (R_fn _ _ _ _ _).trans ?_; refine fn_ok Try.func51 rfl rfl (by kernel_rfl) (by kernel_rfl) ?_
  obtain ⟨W, hW, hg, hN, hE, hG⟩ := wOf H
  rw [← hW]
  have hlen : lenOf cv = some cs.length := by simpa using hR.len
  have pc : cv.plain = true := lpl hlen
  refine kS ?_; refine kR ?_; refine OkO.box rfl rfl ?_; refine oA rfl rfl ?_; refine oN ?_; refine kS ?_; refine kS ?_; refine kR ?_; refine OkO.build (z := [.int .i64 0, .int .i64 0]) (pl := [(0, 1), (1, 1)]) rfl (by kernel_rfl) rfl rfl ?_; refine oF (o := 0) rfl (by kernel_rfl) rfl ?_; refine oL rfl rfl (lda (n := 1) (by kernel_rfl) (by first | assumption | (simp (disch := first | omega | (simp only [hNw, hPt]; omega)) only [gN] <;> first | rfl | assumption)) (by first | rfl | assumption)) ?_; refine oB rfl rfl rfl qbl ?_; refine oV rfl rfl rfl rfl rfl (c71 _ _ _ _ _) ?_; refine OkO.un rfl rfl rfl ?_; refine oM rfl rfl ?_
  refine OkO.split (d := 11) rfl (fun g1 => ?_) (fun g1 => ?_)
  · have k1 : inB (cs.length : Int) 1 8 = false := by simpa using g1
    refine oK rfl ?_; refine oK rfl ?_; refine oK rfl ?_; refine oK rfl ?_; refine OkO.pick (b := true) rfl rfl (fun _ => rfl) nofun ?_; refine oN ?_; refine Ok.condT rfl ?_; refine kS ?_; refine kR ?_; refine oA rfl rfl ?_; refine oN ?_
    refine Ok.ret ⟨.inr rfl, ?_⟩
    have hz : gOk cs g = false := by unfold gOk; rw [k1]; simp
    exact back_flat rfl (congrArg AV.bool hz.symm) rfl (by rw [← hW]; exact (by (try dsimp only); repeat (first | exact hG | apply Grow.new | (refine Grow.put ?_ _ (by first | omega | (simp only [hNw, hPt]; omega))))))
  · refine oF (o := 0) rfl (by kernel_rfl) rfl ?_
    refine oL rfl rfl (lda (n := 1) (by kernel_rfl) (by first | assumption | (simp (disch := first | omega | (simp only [hNw, hPt]; omega)) only [gN] <;> first | rfl | assumption)) (by first | rfl | assumption)) ?_; refine oV rfl rfl rfl rfl rfl (c72 m cv cs _ (hR.ext (hE _ (by (try dsimp only); repeat (first | exact hG | apply Grow.new | (refine Grow.put ?_ _ (by first | omega | (simp only [hNw, hPt]; omega))))))) (by omega)) ?_; refine OkO.un rfl rfl rfl ?_; refine OkO.pick (b := false) rfl rfl nofun (fun _ => rfl) ?_; refine oN ?_
    refine Ok.cond rfl (fun h2 => ?_) (fun h2 => ?_)
    · have k1 : inB (cs.length : Int) 1 8 = true := by simpa using g1
      have k2 : (cs.all fun x => x.ok) = false := by simpa using h2
      refine kS ?_; refine kR ?_; refine oA rfl rfl ?_; refine oN ?_
      refine Ok.ret ⟨.inr rfl, ?_⟩
      have hz : gOk cs g = false := by unfold gOk; rw [k1, k2]; simp
      exact back_flat rfl (congrArg AV.bool hz.symm) rfl (by rw [← hW]; exact (by (try dsimp only); repeat (first | exact hG | apply Grow.new | (refine Grow.put ?_ _ (by first | omega | (simp only [hNw, hPt]; omega))))))
    · have k1 : inB (cs.length : Int) 1 8 = true := by simpa using g1
      have k2 : (cs.all fun x => x.ok) = true := by simpa using h2
      refine Ok.skip ?_; refine kS ?_; refine kS ?_; refine kR ?_; refine oF (o := 0) rfl (by kernel_rfl) rfl ?_; refine oL rfl rfl (lda (n := 1) (by kernel_rfl) (by first | assumption | (simp (disch := first | omega | (simp only [hNw, hPt]; omega)) only [gN] <;> first | rfl | assumption)) (by first | rfl | assumption)) ?_; refine oB rfl rfl rfl qbl ?_; refine oM rfl rfl ?_; refine oN ?_; refine Ok.block ?_
      refine Ok.loop (fun n s => ∃ i : Nat, n = cs.length - i ∧ i ≤ cs.length ∧ (∀ j, j < i → ∀ c, cs[j]? = some c → inB c.to (-1) ((cs.length : Int) - 1) = true ∧ c.to ≠ (0 : Int) + j) ∧ Has 6 [(1, .ptr W.next 0), (2, .bool false), (18, cv), (19, I cs.length), (20, I (i : Int))] s.T ∧ s.D = [] ∧ Grow W s.H ∧ s.H.get W.next = some (.cells [cv, I g.slo, I g.shi, I g.klo, I g.khi, I g.melt] 38) ∧ W.next + 1 ≤ s.H.next) (cs.length) (by unfold loopFuel; omega)
        ⟨0, rfl, Nat.zero_le _, nofun, Has.of (by kernel_rfl), rfl, (by (try dsimp only); repeat (first | exact hG | apply Grow.new | (refine Grow.put ?_ _ (by first | omega | (simp only [hNw, hPt]; omega))))), (by simp (disch := first | omega | (simp only [hNw, hPt]; omega)) only [gN] <;> first | rfl | assumption), by simp⟩ ?_
      rintro n ⟨T, D, G⟩ ⟨i, hn, hi, hall, ⟨f, hT⟩, hD, hg, hb1, hb2⟩
      dsimp only at *
      subst hT hD
      have hgn := hg.next
      have hb3 : (G.get W.next).bind AObj.cs = some [cv, I g.slo, I g.shi, I g.klo, I g.khi, I g.melt] := by rw [hb1]; rfl
      refine kS ?_; refine kR ?_; refine OkO.bin rfl rfl rfl (bin_lss _ _) ?_; refine oN ?_; refine kS ?_
      refine Ok.cond rfl (fun h3 => ?_) (fun h3 => ?_)
      · have hlt : i < cs.length := by simpa using h3
        obtain ⟨bb, off, ccs, i1, i2, i3, i4⟩ := (hR.ext (hE _ hg)).at_ i cs[i].c (by simp [hlt])
        have hne : bb ≠ G.next := by omega
        have hne2 : W.next ≠ G.next := by omega
        refine Ok.skip ?_; refine kS ?_; refine Ok.block ?_; refine kS ?_; refine kR ?_; refine oM rfl rfl ?_; refine qX (sz := 7) (n := i) rfl rfl rfl ?_; refine oL rfl rfl (ldg (n := 7) (by kernel_rfl) (by first | assumption | (simp (disch := first | omega | (simp only [hNw, hPt]; omega)) only [gN] <;> first | rfl | assumption)) (by first | rfl | assumption)) ?_; refine OkO.alloc (z := [.int .i64 0, .int .i64 0, .int .i64 0, .int .i64 0, .int .i64 0, .int .i64 0, .int .i64 0]) rfl (by kernel_rfl) ?_; refine oA rfl rfl ?_; refine oT rfl rfl rfl (sAc (n := 7) (ag := true) (by kernel_rfl) (by first | assumption | (simp (disch := first | omega | (simp only [hNw, hPt]; omega)) only [gN] <;> first | rfl | assumption)) rfl rfl (by first | rfl | exact spl_set _ _ _ (by first | assumption | (simp; omega)))) ?_; refine oN ?_; refine kS ?_; refine Ok.drawn [(0, true, []), (1, true, []), (2, true, []), (3, true, []), (4, true, []), (5, true, []), (7, true, []), (8, true, []), (6, false, [8, 1]), (9, false, [5, 1]), (10, true, []), (11, true, []), (12, true, []), (13, true, []), (14, true, []), (15, true, []), (16, true, []), (17, true, [])] (by kernel_rfl) ?_; refine pS ?_; refine oF (o := 5) rfl (by kernel_rfl) rfl ?_; refine oN ⟨rfl, ?_⟩; refine pS ?_; refine oL rfl rfl (lda (n := 1) (by kernel_rfl) (by first | assumption | (simp (disch := first | omega | (simp only [hNw, hPt]; omega)) only [gN] <;> first | rfl | assumption)) (by first | rfl | assumption)) ?_; refine oN ⟨rfl, ?_⟩; refine pS ?_; refine OkO.bin rfl rfl rfl (bin_neq _ _) ?_; refine oN ⟨rfl, ?_⟩; refine pS ?_; refine oM rfl rfl ?_; refine oN ⟨rfl, ?_⟩
        refine OkP.split (d := 28) rfl (fun g4 => ?_) (fun g4 => ?_)
        · refine pS ?_
          refine oF (o := 0) rfl (by kernel_rfl) rfl ?_; refine oN ⟨rfl, ?_⟩; refine pS ?_; refine oL rfl rfl (lda (n := 1) (by kernel_rfl) (by first | assumption | (simp (disch := first | omega | (simp only [hNw, hPt]; omega)) only [gN] <;> first | rfl | assumption)) (by first | rfl | assumption)) ?_; refine oN ⟨rfl, ?_⟩; refine pS ?_; refine oF (o := 5) rfl (by kernel_rfl) rfl ?_; refine oN ⟨rfl, ?_⟩; refine pS ?_; refine oL rfl rfl (lda (n := 1) (by kernel_rfl) (by first | assumption | (simp (disch := first | omega | (simp only [hNw, hPt]; omega)) only [gN] <;> first | rfl | assumption)) (by first | rfl | assumption)) ?_; refine oN ⟨rfl, ?_⟩; refine pS ?_; refine oV rfl rfl rfl rfl rfl (c74 _ cv cs.length _ hlen (by omega)) ?_
          refine oN ⟨(sco (sld rfl rfl (lda (n := 1) (by kernel_rfl) (by first | assumption | (simp (disch := first | omega | (simp only [hNw, hPt]; omega)) only [gN] <;> first | rfl | assumption)) (by first | rfl | assumption)) rfl (eqr _ (by first | rfl | exact lpl (by assumption) | (simp [AV.plain, AV.plains, AV.plain])))) (sco (sld rfl rfl (lda (n := 1) (by kernel_rfl) (by first | assumption | (simp (disch := first | omega | (simp only [hNw, hPt]; omega)) only [gN] <;> first | rfl | assumption)) (by first | rfl | assumption)) rfl (eqr _ (by first | rfl | exact lpl (by assumption) | (simp [AV.plain, AV.plains, AV.plain])))) rfl)), ?_⟩; refine pS ?_; refine oV rfl rfl rfl rfl rfl (c71 _ _ _ _ _) ?_
          refine oN ⟨(sco (sld rfl rfl (lda (n := 1) (by kernel_rfl) (by first | assumption | (simp (disch := first | omega | (simp only [hNw, hPt]; omega)) only [gN] <;> first | rfl | assumption)) (by first | rfl | assumption)) rfl (eqr _ (by first | rfl | exact lpl (by assumption) | (simp [AV.plain, AV.plains, AV.plain])))) (sco (sld rfl rfl (lda (n := 1) (by kernel_rfl) (by first | assumption | (simp (disch := first | omega | (simp only [hNw, hPt]; omega)) only [gN] <;> first | rfl | assumption)) (by first | rfl | assumption)) rfl (eqr _ (by first | rfl | exact lpl (by assumption) | (simp [AV.plain, AV.plains, AV.plain])))) rfl)), ?_⟩; refine pS ?_; refine OkO.un rfl rfl rfl ?_; refine oN ⟨rfl, ?_⟩; refine pS ?_; refine OkO.pick (b := true) rfl rfl (fun _ => rfl) nofun ?_; refine oN ⟨rfl, ?_⟩; refine pS ?_; refine oM rfl rfl ?_; refine oN ⟨rfl, ?_⟩
          refine OkP.split (d := 37) rfl (fun g5 => ?_) (fun g5 => ?_)
          · have k3 := toOk_no (n := (cs.length : Int)) (List.getElem?_eq_getElem hlt) (.inl (by (have e1 : ¬cs[i].to = -1 := by simpa using g4); simp [inB] at g5 ⊢; omega))
            refine pS ?_; refine oK rfl ?_; refine oN ⟨rfl, ?_⟩; refine pS ?_; refine oK rfl ?_; refine oN ⟨rfl, ?_⟩; refine pS ?_; refine oK rfl ?_; refine oN ⟨rfl, ?_⟩; refine pS ?_; refine oK rfl ?_; refine oN ⟨rfl, ?_⟩; refine pS ?_; refine OkO.pick (b := true) rfl rfl (fun _ => rfl) nofun ?_; refine oN ⟨rfl, ?_⟩; refine OkP.nil ?_; refine Ok.condT rfl ?_; refine kS ?_; refine kR ?_; refine oA rfl rfl ?_; refine oN ?_
            refine Ok.ret ⟨.inr rfl, ?_⟩
            have hz : gOk cs g = false := by unfold gOk; rw [k1, k2, k3]; simp
            exact back_flat rfl (congrArg AV.bool hz.symm) rfl (by rw [← hW]; exact (by (try dsimp only); repeat (first | (first | exact hg | exact hG) | apply Grow.new | (refine Grow.put ?_ _ (by first | omega | (simp only [hNw, hPt]; omega))))))
          · refine pS ?_
            refine oF (o := 5) rfl (by kernel_rfl) rfl ?_; refine oN ⟨rfl, ?_⟩; refine pS ?_; refine oL rfl rfl (lda (n := 1) (by kernel_rfl) (by first | assumption | (simp (disch := first | omega | (simp only [hNw, hPt]; omega)) only [gN] <;> first | rfl | assumption)) (by first | rfl | assumption)) ?_; refine oN ⟨rfl, ?_⟩; refine pS ?_; refine oM rfl rfl ?_; refine oN ⟨rfl, ?_⟩; refine pS ?_; refine OkO.bin rfl rfl rfl (bin_eql _ _) ?_; refine oN ⟨rfl, ?_⟩; refine pS ?_; refine OkO.pick (b := false) rfl rfl nofun (fun _ => rfl) ?_; refine oN ⟨rfl, ?_⟩; refine OkP.nil ?_
            refine Ok.cond rfl (fun h6 => ?_) (fun h6 => ?_)
            · have k3 := toOk_no (n := (cs.length : Int)) (List.getElem?_eq_getElem hlt) (.inr (by simpa using h6))
              refine kS ?_; refine kR ?_; refine oA rfl rfl ?_; refine oN ?_
              refine Ok.ret ⟨.inr rfl, ?_⟩
              have hz : gOk cs g = false := by unfold gOk; rw [k1, k2, k3]; simp
              exact back_flat rfl (congrArg AV.bool hz.symm) rfl (by rw [← hW]; exact (by (try dsimp only); repeat (first | (first | exact hg | exact hG) | apply Grow.new | (refine Grow.put ?_ _ (by first | omega | (simp only [hNw, hPt]; omega))))))
            · have hok : inB cs[i].to (-1) ((cs.length : Int) - 1) = true ∧ cs[i].to ≠ (0 : Int) + i := by (have e1 : ¬cs[i].to = -1 := by simpa using g4); (have e2 : ¬cs[i].to = (i : Int) := by simpa using h6); refine ⟨?_, by omega⟩; simp [inB] at g5 ⊢; omega
              refine Ok.skip ?_; refine kR ?_; refine OkO.bin rfl rfl rfl (bin_add (by omega) (by omega)) ?_; refine oM rfl rfl ?_; refine oN ?_
              refine ⟨cs.length - (i + 1), by omega, i + 1, rfl, hlt, fun j hj c hc => ?_, Has.of (by kernel_rfl), rfl, (by (try dsimp only); repeat (first | (first | exact hg | exact hG) | apply Grow.new | (refine Grow.put ?_ _ (by first | omega | (simp only [hNw, hPt]; omega))))), (by simp (disch := first | omega | (simp only [hNw, hPt]; omega)) only [gN] <;> first | rfl | assumption), by simp only [hNw, hPt]; omega⟩
              by_cases e : j = i
              · subst e; rw [List.getElem?_eq_getElem hlt] at hc; cases hc; exact hok
              · exact hall j (by omega) c hc
        · refine pS ?_
          refine oK rfl ?_; refine oN ⟨rfl, ?_⟩; refine pS ?_; refine oK rfl ?_; refine oN ⟨rfl, ?_⟩; refine pS ?_; refine oK rfl ?_; refine oN ⟨rfl, ?_⟩; refine pS ?_; refine oK rfl ?_; refine oN ⟨rfl, ?_⟩; refine pS ?_; refine oK rfl ?_
          refine oN ⟨(sco (ssk rfl) (sco (sld rfl rfl (lda (n := 1) (by kernel_rfl) (by first | assumption | (simp (disch := first | omega | (simp only [hNw, hPt]; omega)) only [gN] <;> first | rfl | assumption)) (by first | rfl | assumption)) rfl (eqr _ (by first | rfl | exact lpl (by assumption) | (simp [AV.plain, AV.plains, AV.plain])))) rfl)), ?_⟩; refine pS ?_; refine oK rfl ?_
          refine oN ⟨(sco (ssk rfl) (sco (sld rfl rfl (lda (n := 1) (by kernel_rfl) (by first | assumption | (simp (disch := first | omega | (simp only [hNw, hPt]; omega)) only [gN] <;> first | rfl | assumption)) (by first | rfl | assumption)) rfl (eqr _ (by first | rfl | exact lpl (by assumption) | (simp [AV.plain, AV.plains, AV.plain])))) rfl)), ?_⟩; refine pS ?_; refine oK rfl ?_; refine oN ⟨rfl, ?_⟩; refine pS ?_; refine OkO.pick (b := false) rfl rfl nofun (fun _ => rfl) ?_; refine oN ⟨rfl, ?_⟩; refine pS ?_; refine oM rfl rfl ?_; refine oN ⟨rfl, ?_⟩; refine pS ?_; refine oF (o := 5) rfl (by kernel_rfl) rfl ?_; refine oN ⟨rfl, ?_⟩; refine pS ?_; refine oL rfl rfl (lda (n := 1) (by kernel_rfl) (by first | assumption | (simp (disch := first | omega | (simp only [hNw, hPt]; omega)) only [gN] <;> first | rfl | assumption)) (by first | rfl | assumption)) ?_; refine oN ⟨rfl, ?_⟩; refine pS ?_; refine oM rfl rfl ?_; refine oN ⟨rfl, ?_⟩; refine pS ?_; refine OkO.bin rfl rfl rfl (bin_eql _ _) ?_; refine oN ⟨rfl, ?_⟩; refine pS ?_; refine OkO.pick (b := false) rfl rfl nofun (fun _ => rfl) ?_; refine oN ⟨rfl, ?_⟩; refine OkP.nil ?_
          refine Ok.cond rfl (fun h7 => ?_) (fun h7 => ?_)
          · have k3 := toOk_no (n := (cs.length : Int)) (List.getElem?_eq_getElem hlt) (.inr (by simpa using h7))
            refine kS ?_; refine kR ?_; refine oA rfl rfl ?_; refine oN ?_
            refine Ok.ret ⟨.inr rfl, ?_⟩
            have hz : gOk cs g = false := by unfold gOk; rw [k1, k2, k3]; simp
            exact back_flat rfl (congrArg AV.bool hz.symm) rfl (by rw [← hW]; exact (by (try dsimp only); repeat (first | (first | exact hg | exact hG) | apply Grow.new | (refine Grow.put ?_ _ (by first | omega | (simp only [hNw, hPt]; omega))))))
          · have hok : inB cs[i].to (-1) ((cs.length : Int) - 1) = true ∧ cs[i].to ≠ (0 : Int) + i := by (have e1 : cs[i].to = -1 := by simpa using g4); (have e2 : ¬cs[i].to = (i : Int) := by simpa using h7); refine ⟨?_, by omega⟩; simp [inB]; omega
            refine Ok.skip ?_; refine kR ?_; refine OkO.bin rfl rfl rfl (bin_add (by omega) (by omega)) ?_; refine oM rfl rfl ?_; refine oN ?_
            refine ⟨cs.length - (i + 1), by omega, i + 1, rfl, hlt, fun j hj c hc => ?_, Has.of (by kernel_rfl), rfl, (by (try dsimp only); repeat (first | (first | exact hg | exact hG) | apply Grow.new | (refine Grow.put ?_ _ (by first | omega | (simp only [hNw, hPt]; omega))))), (by simp (disch := first | omega | (simp only [hNw, hPt]; omega)) only [gN] <;> first | rfl | assumption), by simp only [hNw, hPt]; omega⟩
            by_cases e : j = i
            · subst e; rw [List.getElem?_eq_getElem hlt] at hc; cases hc; exact hok
            · exact hall j (by omega) c hc
      · have hge : i = cs.length := by simp at h3; omega
        have k3 : toOk (cs.length : Int) 0 cs = true := (toOk_iff _ _ _).2 fun j c hc => hall j (by have := (List.getElem?_eq_some_iff.1 hc).1; omega) c hc
        refine Ok.exit ?_; refine kS ?_; refine kR ?_; refine oF (o := 1) rfl (by kernel_rfl) rfl ?_; refine oL rfl rfl (ldg (n := 2) (by kernel_rfl) (by first | assumption | (simp (disch := first | omega | (simp only [hNw, hPt]; omega)) only [gN] <;> first | rfl | assumption)) (by first | rfl | assumption)) ?_; refine oV rfl rfl rfl rfl rfl (c75 _ _ _ _ _) ?_; refine oM rfl rfl ?_
        refine OkO.split (d := 47) rfl (fun g8 => ?_) (fun g8 => ?_)
        · refine oF (o := 3) rfl (by kernel_rfl) rfl ?_
          refine oL rfl rfl (ldg (n := 2) (by kernel_rfl) (by first | assumption | (simp (disch := first | omega | (simp only [hNw, hPt]; omega)) only [gN] <;> first | rfl | assumption)) (by first | rfl | assumption)) ?_; refine oV rfl rfl rfl rfl rfl (c75 _ _ _ _ _) ?_; refine OkO.pick (b := true) rfl rfl (fun _ => rfl) nofun ?_; refine oM rfl rfl ?_
          refine OkO.split (d := 52) rfl (fun g9 => ?_) (fun g9 => ?_)
          · refine OkO.build (z := [.int .i64 0, .int .i64 0]) (pl := [(0, 1), (1, 1)]) rfl (by kernel_rfl) rfl rfl ?_
            refine oF (o := 5) rfl (by kernel_rfl) rfl ?_; refine oL rfl rfl (lda (n := 1) (by kernel_rfl) (by first | assumption | (simp (disch := first | omega | (simp only [hNw, hPt]; omega)) only [gN] <;> first | rfl | assumption)) (by first | rfl | assumption)) ?_; refine oV rfl rfl rfl rfl rfl (c71 _ _ _ _ _) ?_; refine OkO.pick (b := true) rfl rfl (fun _ => rfl) nofun ?_; refine oA rfl rfl ?_; refine oN ?_
            refine Ok.ret ⟨.inr rfl, ?_⟩
            have hz : inB g.melt 0 50 = gOk cs g := by unfold gOk; rw [k1, k2, k3, g8, g9]; rfl
            exact back_flat rfl (congrArg AV.bool hz) rfl (by rw [← hW]; exact (by (try dsimp only); repeat (first | (first | exact hg | exact hG) | apply Grow.new | (refine Grow.put ?_ _ (by first | omega | (simp only [hNw, hPt]; omega))))))
          · refine oK rfl ?_
            refine oK rfl ?_; refine oK rfl ?_; refine oK rfl ?_; refine OkO.pick (b := false) rfl rfl nofun (fun _ => rfl) ?_; refine oA rfl rfl ?_; refine oN ?_
            refine Ok.ret ⟨.inr rfl, ?_⟩
            have hz : false = gOk cs g := by unfold gOk; rw [k1, k2, k3, g8, g9]; rfl
            exact back_flat rfl (congrArg AV.bool hz) rfl (by rw [← hW]; exact (by (try dsimp only); repeat (first | (first | exact hg | exact hG) | apply Grow.new | (refine Grow.put ?_ _ (by first | omega | (simp only [hNw, hPt]; omega))))))
        · refine oK rfl ?_
          refine oK rfl ?_; refine oK rfl ?_; refine OkO.pick (b := false) rfl rfl nofun (fun _ => rfl) ?_; refine oM rfl rfl ?_; refine oK rfl ?_; refine oK rfl ?_; refine oK rfl ?_; refine oK rfl ?_; refine OkO.pick (b := false) rfl rfl nofun (fun _ => rfl) ?_; refine oA rfl rfl ?_; refine oN ?_
          refine Ok.ret ⟨.inr rfl, ?_⟩
          have hz : false = gOk cs g := by unfold gOk; rw [k1, k2, k3, g8]; rfl
          exact back_flat rfl (congrArg AV.bool hz) rfl (by rw [← hW]; exact (by (try dsimp only); repeat (first | (first | exact hg | exact hG) | apply Grow.new | (refine Grow.put ?_ _ (by first | omega | (simp only [hNw, hPt]; omega))))))
theorem c18 (m : Nat) (cv : AV) (cs : List Cell) (g : Gr) (H : Heap) (hR : Row H cv 7 (cs.map Cell.c)) (hbig : cs.length ≤ 1000000) : RR (m + 5) (.fn 18 [.agg [cv, I g.slo, I g.shi, I g.klo, I g.khi, I g.melt]]) H = some (I (if gOk cs g = true then 0 else 1), H) := by
  refine (R_fn _ _ _ _ _).trans ?_; refine fn_ok Try.func18 rfl rfl (by kernel_rfl) (by kernel_rfl) ?_
  obtain ⟨W, hW, hg, hN, hE, hG⟩ := wOf H
  rw [← hW]
  refine kS ?_; refine kR ?_; refine OkO.box rfl rfl ?_; refine oA rfl rfl ?_; refine oN ?_; refine kS ?_; refine kS ?_; refine kR ?_; refine oL rfl rfl (ldg (n := 6) (by kernel_rfl) (by first | assumption | (simp (disch := first | omega | (simp only [hNw, hPt]; omega)) only [gN] <;> first | rfl | assumption)) (by first | rfl | assumption)) ?_; refine oV rfl rfl rfl rfl rfl (c51 m cv cs g _ (hR.ext (hE _ (by (try dsimp only); repeat (first | exact hG | apply Grow.new | (refine Grow.put ?_ _ (by first | omega | (simp only [hNw, hPt]; omega))))))) hbig) ?_; refine OkO.un rfl rfl rfl ?_; refine oN ?_
  refine Ok.cond rfl (fun h1 => ?_) (fun h1 => ?_)
  · refine kS ?_
    refine kR ?_; refine oA rfl rfl ?_; refine oN ?_
    refine Ok.ret ⟨.inr rfl, ?_⟩
    have hf : gOk cs g = false := by simpa using h1
    exact back_flat rfl (by simp [hf]; rfl) rfl (by rw [← hW]; exact (by (try dsimp only); repeat (first | exact hG | apply Grow.new | (refine Grow.put ?_ _ (by first | omega | (simp only [hNw, hPt]; omega))))))
  · refine Ok.skip ?_
    refine kS ?_; refine kR ?_; refine oA rfl rfl ?_; refine oN ?_
    refine Ok.ret ⟨.inr rfl, ?_⟩
    have hf : gOk cs g = true := by simpa using h1
    exact back_flat rfl (by simp [hf]; rfl) rfl (by rw [← hW]; exact (by (try dsimp only); repeat (first | exact hG | apply Grow.new | (refine Grow.put ?_ _ (by first | omega | (simp only [hNw, hPt]; omega))))))
/-- The error of a ground with days. -/
def daysErr (cs : List Cell) (g : Gr) (ds : List Day) : Int := if gOk cs g = true then (if (30 : Int) < (ds.length : Int) then 3 else if (ds.all fun x => x.ok) = true then 0 else 1) else 1
theorem c60 (m : Nat) (cv dv : AV) (cs : List Cell) (g : Gr) (ds : List Day) (H : Heap) (hR : Row H cv 7 (cs.map Cell.c)) (hbig : cs.length ≤ 1000000) (hD : Row H dv 3 (ds.map Day.c)) (hbd : ds.length ≤ 1000000) : RR (m + 6) (.fn 60 [.agg [cv, I g.slo, I g.shi, I g.klo, I g.khi, I g.melt], dv]) H = some (I (daysErr cs g ds), H) := by
  refine (R_fn _ _ _ _ _).trans ?_; refine fn_ok Try.func60 rfl rfl (by kernel_rfl) (by kernel_rfl) ?_
  obtain ⟨W, hW, hg, hN, hE, hG⟩ := wOf H
  rw [← hW]
  have hlen : lenOf dv = some ds.length := by simpa using hD.len
  have pd : dv.plain = true := lpl hlen
  refine kS ?_; refine kR ?_; refine OkO.box rfl rfl ?_; refine oA rfl rfl ?_; refine oN ?_; refine kS ?_; refine kS ?_; refine kR ?_; refine oL rfl rfl (ldg (n := 6) (by kernel_rfl) (by first | assumption | (simp (disch := first | omega | (simp only [hNw, hPt]; omega)) only [gN] <;> first | rfl | assumption)) (by first | rfl | assumption)) ?_; refine oV rfl rfl rfl rfl rfl (c18 m cv cs g _ (hR.ext (hE _ (by (try dsimp only); repeat (first | exact hG | apply Grow.new | (refine Grow.put ?_ _ (by first | omega | (simp only [hNw, hPt]; omega))))))) hbig) ?_; refine oA rfl rfl ?_; refine oN ?_; refine kS ?_; refine kR ?_; refine oM rfl rfl ?_; refine OkO.bin rfl rfl rfl (bin_neq _ _) ?_; refine oN ?_
  refine Ok.cond rfl (fun h1 => ?_) (fun h1 => ?_)
  · have hf : gOk cs g = false := by cases hs : gOk cs g with | false => rfl | true => (rw [hs] at h1; simp at h1)
    refine kS ?_; refine kR ?_; refine oM rfl rfl ?_; refine oA rfl rfl ?_; refine oN ?_
    refine Ok.ret ⟨.inr rfl, ?_⟩
    exact back_flat rfl (by simp [daysErr, hf]; rfl) rfl (by rw [← hW]; exact (by (try dsimp only); repeat (first | exact hG | apply Grow.new | (refine Grow.put ?_ _ (by first | omega | (simp only [hNw, hPt]; omega))))))
  · have hf : gOk cs g = true := by cases hs : gOk cs g with | true => rfl | false => (rw [hs] at h1; simp at h1)
    refine Ok.skip ?_; refine kS ?_; refine kS ?_; refine kR ?_; refine oM rfl rfl ?_; refine oB rfl rfl rfl qbl ?_; refine OkO.bin rfl rfl rfl (bin_gtr _ _) ?_; refine oN ?_
    refine Ok.cond rfl (fun h2 => ?_) (fun h2 => ?_)
    · refine kS ?_
      refine kR ?_; refine oA rfl rfl ?_; refine oN ?_
      refine Ok.ret ⟨.inr rfl, ?_⟩
      have h3 : (30 : Int) < (ds.length : Int) := by simpa using h2
      exact back_flat rfl (by simp [daysErr, hf, h3]; rfl) rfl (by rw [← hW]; exact (by (try dsimp only); repeat (first | exact hG | apply Grow.new | (refine Grow.put ?_ _ (by first | omega | (simp only [hNw, hPt]; omega))))))
    · refine Ok.skip ?_
      refine kS ?_; refine kS ?_; refine kR ?_; refine oM rfl rfl ?_; refine oV rfl rfl rfl rfl rfl (c83 (m + 2) dv ds _ (hD.ext (hE _ (by (try dsimp only); repeat (first | exact hG | apply Grow.new | (refine Grow.put ?_ _ (by first | omega | (simp only [hNw, hPt]; omega))))))) hbd) ?_; refine OkO.un rfl rfl rfl ?_; refine oN ?_
      refine Ok.cond rfl (fun h3 => ?_) (fun h3 => ?_)
      · refine kS ?_
        refine kR ?_; refine oA rfl rfl ?_; refine oN ?_
        refine Ok.ret ⟨.inr rfl, ?_⟩
        have h4 : ¬(30 : Int) < (ds.length : Int) := by simpa using h2
        have h5 : (ds.all fun x => x.ok) = false := by simpa using h3
        exact back_flat rfl (by unfold daysErr; rw [if_pos hf, if_neg h4, h5]; rfl) rfl (by rw [← hW]; exact (by (try dsimp only); repeat (first | exact hG | apply Grow.new | (refine Grow.put ?_ _ (by first | omega | (simp only [hNw, hPt]; omega))))))
      · refine Ok.skip ?_
        refine kS ?_; refine kR ?_; refine oA rfl rfl ?_; refine oN ?_
        refine Ok.ret ⟨.inr rfl, ?_⟩
        have h4 : ¬(30 : Int) < (ds.length : Int) := by simpa using h2
        have h5 : (ds.all fun x => x.ok) = true := by simpa using h3
        exact back_flat rfl (by unfold daysErr; rw [if_pos hf, if_neg h4, h5]; rfl) rfl (by rw [← hW]; exact (by (try dsimp only); repeat (first | exact hG | apply Grow.new | (refine Grow.put ?_ _ (by first | omega | (simp only [hNw, hPt]; omega))))))
end
end Go.Ev

set_option maxRecDepth 100000
set_option linter.unusedSimpArgs false
set_option linter.unusedVariables false
namespace Go.Ev
open Go Go.Proofs
noncomputable section
/-- The error of a truth. -/
def truthErr (cs : List Cell) (g : Gr) (ds : List Day) (t : Tru) (lvs rain : List Int) : Int :=
  if daysErr cs g ds = 0 then (if (inB t.snow g.slo g.shi && inB t.soak g.klo g.khi && fitsB lvs (cs.map Cell.lv) && fitsB rain (ds.map Day.rn)) = true then 0 else 9) else daysErr cs g ds
theorem lv_map (cs : List Cell) : (cs.map Cell.lv).map Rg.c = cs.map fun x => x.lv.c := by rw [List.map_map]; rfl
theorem rn_map (ds : List Day) : (ds.map Day.rn).map Rg.c = ds.map fun x => x.rn.c := by rw [List.map_map]; rfl
theorem c53 (m : Nat) (cv dv lv rv : AV) (cs : List Cell) (g : Gr) (ds : List Day) (t : Tru) (lvs rain : List Int) (H : Heap) (hR : Row H cv 7 (cs.map Cell.c)) (hbig : cs.length ≤ 1000) (hD : Row H dv 3 (ds.map Day.c)) (hbd : ds.length ≤ 1000) (hL : Ints H lv lvs) (hbl : lvs.length ≤ 1000) (hA : Ints H rv rain) (hba : rain.length ≤ 1000) : RR (m + 7) (.fn 53 [.agg [cv, I g.slo, I g.shi, I g.klo, I g.khi, I g.melt], dv, .agg [I t.snow, I t.soak, lv, rv]]) H = some (I (truthErr cs g ds t lvs rain), H) := by
  refine (R_fn _ _ _ _ _).trans ?_; refine fn_ok Try.func53 rfl rfl (by kernel_rfl) (by kernel_rfl) ?_
  obtain ⟨W, hW, hg, hN, hE, hG⟩ := wOf H
  rw [← hW]
  have hlend : lenOf dv = some ds.length := by simpa using hD.len
  have pd : dv.plain = true := lpl hlend
  have hlc : lenOf cv = some cs.length := by simpa using hR.len
  have hll : lenOf lv = some lvs.length := by simpa using hL.len
  have hlr : lenOf rv = some rain.length := by simpa using hA.len
  refine kS ?_; refine kR ?_; refine OkO.box rfl rfl ?_; refine OkO.box rfl rfl ?_; refine oA rfl rfl ?_; refine oN ?_; refine kS ?_; refine kS ?_; refine kR ?_; refine oL rfl rfl (ldg (n := 6) (by kernel_rfl) (by first | assumption | (simp (disch := first | omega | (simp only [hNw, hPt]; omega)) only [gN] <;> first | rfl | assumption)) (by first | rfl | assumption)) ?_; refine oM rfl rfl ?_; refine oV rfl rfl rfl rfl rfl (c60 m cv dv cs g ds _ (hR.ext (hE _ (by (try dsimp only); repeat (first | exact hG | apply Grow.new | (refine Grow.put ?_ _ (by first | omega | (simp only [hNw, hPt]; omega))))))) (by omega) (hD.ext (hE _ (by (try dsimp only); repeat (first | exact hG | apply Grow.new | (refine Grow.put ?_ _ (by first | omega | (simp only [hNw, hPt]; omega))))))) (by omega)) ?_; refine oA rfl rfl ?_; refine oN ?_; refine kS ?_; refine kR ?_; refine oM rfl rfl ?_; refine OkO.bin rfl rfl rfl (bin_neq _ _) ?_; refine oN ?_
  refine Ok.cond rfl (fun h1 => ?_) (fun h1 => ?_)
  · have h0 : ¬ daysErr cs g ds = 0 := by simpa using h1
    refine kS ?_; refine kR ?_; refine oM rfl rfl ?_; refine oA rfl rfl ?_; refine oN ?_
    refine Ok.ret ⟨.inr rfl, ?_⟩
    exact back_flat rfl (by unfold truthErr; rw [if_neg h0]; rfl) rfl (by rw [← hW]; exact (by (try dsimp only); repeat (first | exact hG | apply Grow.new | (refine Grow.put ?_ _ (by first | omega | (simp only [hNw, hPt]; omega))))))
  · refine Ok.skip ?_
    refine kS ?_; refine kS ?_; refine Ok.drawn [(0, true, []), (1, true, []), (2, true, []), (3, true, []), (4, false, []), (5, true, []), (6, true, []), (7, true, []), (8, true, []), (9, true, []), (10, true, []), (11, false, [3, 1]), (12, true, []), (13, true, []), (14, true, []), (15, true, []), (16, true, []), (17, true, []), (18, true, []), (19, false, [16, 10, 8, 3, 1]), (20, false, [18, 10, 8, 3, 1]), (21, true, []), (22, true, []), (23, true, []), (24, true, []), (25, true, []), (26, true, []), (27, false, [25, 18, 16, 10, 8, 3, 1]), (28, false, [18, 16, 10, 8, 3, 1]), (29, true, []), (30, true, [])] (by kernel_rfl) ?_; refine pS ?_; refine oF (o := 1) rfl (by kernel_rfl) rfl ?_; refine oN ⟨rfl, ?_⟩; refine pS ?_; refine oL rfl rfl (ldg (n := 2) (by kernel_rfl) (by first | assumption | (simp (disch := first | omega | (simp only [hNw, hPt]; omega)) only [gN] <;> first | rfl | assumption)) (by first | rfl | assumption)) ?_; refine oN ⟨rfl, ?_⟩; refine pS ?_; refine oF (o := 0) rfl (by kernel_rfl) rfl ?_; refine oN ⟨rfl, ?_⟩; refine pS ?_; refine oL rfl rfl (lda (n := 1) (by kernel_rfl) (by first | assumption | (simp (disch := first | omega | (simp only [hNw, hPt]; omega)) only [gN] <;> first | rfl | assumption)) (by first | rfl | assumption)) ?_; refine oN ⟨rfl, ?_⟩; refine pS ?_; refine oV rfl rfl rfl rfl rfl (c71 _ _ _ _ _) ?_; refine oN ⟨rfl, ?_⟩; refine pS ?_; refine OkO.un rfl rfl rfl ?_; refine oN ⟨rfl, ?_⟩; refine pS ?_; refine oM rfl rfl ?_; refine oN ⟨rfl, ?_⟩
    refine OkP.split (d := 20) rfl (fun g2 => ?_) (fun g2 => ?_)
    · have h0 : daysErr cs g ds = 0 := by simpa using h1
      have k1 : inB t.snow g.slo g.shi = false := by simpa using g2
      refine pS ?_; refine oK rfl ?_; refine oN ⟨rfl, ?_⟩; refine pS ?_; refine oK rfl ?_; refine oN ⟨rfl, ?_⟩; refine pS ?_; refine oK rfl ?_; refine oN ⟨rfl, ?_⟩; refine pS ?_; refine oK rfl ?_; refine oN ⟨rfl, ?_⟩; refine pS ?_; refine oK rfl ?_
      refine oN ⟨(sco (sld rfl rfl (lda (n := 1) (by kernel_rfl) (by first | assumption | (simp (disch := first | omega | (simp only [hNw, hPt]; omega)) only [gN] <;> first | rfl | assumption)) (by first | rfl | assumption)) rfl (eqr _ (by first | rfl | exact lpl (by assumption) | (simp [AV.plain, AV.plains, AV.plain])))) (sco (sld rfl rfl (ldg (n := 2) (by kernel_rfl) (by first | assumption | (simp (disch := first | omega | (simp only [hNw, hPt]; omega)) only [gN] <;> first | rfl | assumption)) (by first | rfl | assumption)) rfl (eqr _ (by first | rfl | exact lpl (by assumption) | (simp [AV.plain, AV.plains, AV.plain])))) rfl)), ?_⟩; refine pS ?_; refine oK rfl ?_; refine oN ⟨rfl, ?_⟩; refine pS ?_; refine OkO.pick (b := true) rfl rfl (fun _ => rfl) nofun ?_; refine oN ⟨rfl, ?_⟩; refine pS ?_; refine oM rfl rfl ?_; refine oN ⟨rfl, ?_⟩; refine pS ?_; refine oK rfl ?_; refine oN ⟨rfl, ?_⟩; refine pS ?_; refine oK rfl ?_; refine oN ⟨rfl, ?_⟩; refine pS ?_; refine oK rfl ?_; refine oN ⟨rfl, ?_⟩; refine pS ?_; refine oK rfl ?_; refine oN ⟨rfl, ?_⟩; refine pS ?_; refine oK rfl ?_
      refine oN ⟨(sco (ssk rfl) (sco (ssk rfl) (sco (ssk rfl) (sco (sld rfl rfl (lda (n := 1) (by kernel_rfl) (by first | assumption | (simp (disch := first | omega | (simp only [hNw, hPt]; omega)) only [gN] <;> first | rfl | assumption)) (by first | rfl | assumption)) rfl (eqr _ (by first | rfl | exact lpl (by assumption) | (simp [AV.plain, AV.plains, AV.plain])))) (sco (sld rfl rfl (ldg (n := 2) (by kernel_rfl) (by first | assumption | (simp (disch := first | omega | (simp only [hNw, hPt]; omega)) only [gN] <;> first | rfl | assumption)) (by first | rfl | assumption)) rfl (eqr _ (by first | rfl | exact lpl (by assumption) | (simp [AV.plain, AV.plains, AV.plain])))) rfl))))), ?_⟩; refine pS ?_; refine oK rfl ?_
      refine oN ⟨(sco (ssk rfl) (sco (ssk rfl) (sco (ssk rfl) (sco (sld rfl rfl (lda (n := 1) (by kernel_rfl) (by first | assumption | (simp (disch := first | omega | (simp only [hNw, hPt]; omega)) only [gN] <;> first | rfl | assumption)) (by first | rfl | assumption)) rfl (eqr _ (by first | rfl | exact lpl (by assumption) | (simp [AV.plain, AV.plains, AV.plain])))) (sco (sld rfl rfl (ldg (n := 2) (by kernel_rfl) (by first | assumption | (simp (disch := first | omega | (simp only [hNw, hPt]; omega)) only [gN] <;> first | rfl | assumption)) (by first | rfl | assumption)) rfl (eqr _ (by first | rfl | exact lpl (by assumption) | (simp [AV.plain, AV.plains, AV.plain])))) rfl))))), ?_⟩; refine pS ?_; refine oK rfl ?_; refine oN ⟨rfl, ?_⟩; refine pS ?_; refine OkO.pick (b := true) rfl rfl (fun _ => rfl) nofun ?_; refine oN ⟨rfl, ?_⟩; refine pS ?_; refine oM rfl rfl ?_; refine oN ⟨rfl, ?_⟩; refine pS ?_; refine oK rfl ?_; refine oN ⟨rfl, ?_⟩; refine pS ?_; refine oK rfl ?_; refine oN ⟨rfl, ?_⟩; refine pS ?_; refine oK rfl ?_; refine oN ⟨rfl, ?_⟩; refine pS ?_; refine oK rfl ?_
      refine oN ⟨(sco (ssk rfl) (sco (ssk rfl) (sco (ssk rfl) (sco (ssk rfl) (sco (ssk rfl) (sco (sld rfl rfl (lda (n := 1) (by kernel_rfl) (by first | assumption | (simp (disch := first | omega | (simp only [hNw, hPt]; omega)) only [gN] <;> first | rfl | assumption)) (by first | rfl | assumption)) rfl (eqr _ (by first | rfl | exact lpl (by assumption) | (simp [AV.plain, AV.plains, AV.plain])))) (sco (sld rfl rfl (ldg (n := 2) (by kernel_rfl) (by first | assumption | (simp (disch := first | omega | (simp only [hNw, hPt]; omega)) only [gN] <;> first | rfl | assumption)) (by first | rfl | assumption)) rfl (eqr _ (by first | rfl | exact lpl (by assumption) | (simp [AV.plain, AV.plains, AV.plain])))) rfl))))))), ?_⟩; refine pS ?_; refine oK rfl ?_
      refine oN ⟨(sco (ssk rfl) (sco (ssk rfl) (sco (ssk rfl) (sco (ssk rfl) (sco (sld rfl rfl (lda (n := 1) (by kernel_rfl) (by first | assumption | (simp (disch := first | omega | (simp only [hNw, hPt]; omega)) only [gN] <;> first | rfl | assumption)) (by first | rfl | assumption)) rfl (eqr _ (by first | rfl | exact lpl (by assumption) | (simp [AV.plain, AV.plains, AV.plain])))) (sco (sld rfl rfl (ldg (n := 2) (by kernel_rfl) (by first | assumption | (simp (disch := first | omega | (simp only [hNw, hPt]; omega)) only [gN] <;> first | rfl | assumption)) (by first | rfl | assumption)) rfl (eqr _ (by first | rfl | exact lpl (by assumption) | (simp [AV.plain, AV.plains, AV.plain])))) rfl)))))), ?_⟩; refine pS ?_; refine oK rfl ?_; refine oN ⟨rfl, ?_⟩; refine pS ?_; refine OkO.pick (b := true) rfl rfl (fun _ => rfl) nofun ?_; refine oN ⟨rfl, ?_⟩; refine OkP.nil ?_; refine Ok.condT rfl ?_; refine kS ?_; refine kR ?_; refine oA rfl rfl ?_; refine oN ?_
      refine Ok.ret ⟨.inr rfl, ?_⟩
      have hz : (inB t.snow g.slo g.shi && inB t.soak g.klo g.khi && fitsB lvs (cs.map Cell.lv) && fitsB rain (ds.map Day.rn)) = false := by rw [k1]; simp
      exact back_flat rfl (by unfold truthErr; rw [if_pos h0, hz]; rfl) rfl (by rw [← hW]; exact (by (try dsimp only); repeat (first | exact hG | apply Grow.new | (refine Grow.put ?_ _ (by first | omega | (simp only [hNw, hPt]; omega))))))
    · have h0 : daysErr cs g ds = 0 := by simpa using h1
      have k1 : inB t.snow g.slo g.shi = true := by simpa using g2
      refine pS ?_; refine oF (o := 3) rfl (by kernel_rfl) rfl ?_; refine oN ⟨rfl, ?_⟩; refine pS ?_; refine oL rfl rfl (ldg (n := 2) (by kernel_rfl) (by first | assumption | (simp (disch := first | omega | (simp only [hNw, hPt]; omega)) only [gN] <;> first | rfl | assumption)) (by first | rfl | assumption)) ?_; refine oN ⟨rfl, ?_⟩; refine pS ?_; refine oF (o := 1) rfl (by kernel_rfl) rfl ?_; refine oN ⟨rfl, ?_⟩; refine pS ?_; refine oL rfl rfl (lda (n := 1) (by kernel_rfl) (by first | assumption | (simp (disch := first | omega | (simp only [hNw, hPt]; omega)) only [gN] <;> first | rfl | assumption)) (by first | rfl | assumption)) ?_; refine oN ⟨rfl, ?_⟩; refine pS ?_; refine oV rfl rfl rfl rfl rfl (c71 _ _ _ _ _) ?_
      refine oN ⟨(sco (sld rfl rfl (lda (n := 1) (by kernel_rfl) (by first | assumption | (simp (disch := first | omega | (simp only [hNw, hPt]; omega)) only [gN] <;> first | rfl | assumption)) (by first | rfl | assumption)) rfl (eqr _ (by first | rfl | exact lpl (by assumption) | (simp [AV.plain, AV.plains, AV.plain])))) (sco (sld rfl rfl (ldg (n := 2) (by kernel_rfl) (by first | assumption | (simp (disch := first | omega | (simp only [hNw, hPt]; omega)) only [gN] <;> first | rfl | assumption)) (by first | rfl | assumption)) rfl (eqr _ (by first | rfl | exact lpl (by assumption) | (simp [AV.plain, AV.plains, AV.plain])))) rfl)), ?_⟩; refine pS ?_; refine OkO.un rfl rfl rfl ?_; refine oN ⟨rfl, ?_⟩; refine pS ?_; refine OkO.pick (b := false) rfl rfl nofun (fun _ => rfl) ?_; refine oN ⟨rfl, ?_⟩; refine pS ?_; refine oM rfl rfl ?_; refine oN ⟨rfl, ?_⟩
      refine OkP.split (d := 28) rfl (fun g3 => ?_) (fun g3 => ?_)
      · have k2 : inB t.soak g.klo g.khi = false := by simpa using g3
        refine pS ?_; refine oK rfl ?_; refine oN ⟨rfl, ?_⟩; refine pS ?_; refine oK rfl ?_; refine oN ⟨rfl, ?_⟩; refine pS ?_; refine oK rfl ?_; refine oN ⟨rfl, ?_⟩; refine pS ?_; refine oK rfl ?_; refine oN ⟨rfl, ?_⟩; refine pS ?_; refine oK rfl ?_
        refine oN ⟨(sco (ssk rfl) (sco (sld rfl rfl (lda (n := 1) (by kernel_rfl) (by first | assumption | (simp (disch := first | omega | (simp only [hNw, hPt]; omega)) only [gN] <;> first | rfl | assumption)) (by first | rfl | assumption)) rfl (eqr _ (by first | rfl | exact lpl (by assumption) | (simp [AV.plain, AV.plains, AV.plain])))) (sco (sld rfl rfl (ldg (n := 2) (by kernel_rfl) (by first | assumption | (simp (disch := first | omega | (simp only [hNw, hPt]; omega)) only [gN] <;> first | rfl | assumption)) (by first | rfl | assumption)) rfl (eqr _ (by first | rfl | exact lpl (by assumption) | (simp [AV.plain, AV.plains, AV.plain])))) (sco (sld rfl rfl (lda (n := 1) (by kernel_rfl) (by first | assumption | (simp (disch := first | omega | (simp only [hNw, hPt]; omega)) only [gN] <;> first | rfl | assumption)) (by first | rfl | assumption)) rfl (eqr _ (by first | rfl | exact lpl (by assumption) | (simp [AV.plain, AV.plains, AV.plain])))) (sco (sld rfl rfl (ldg (n := 2) (by kernel_rfl) (by first | assumption | (simp (disch := first | omega | (simp only [hNw, hPt]; omega)) only [gN] <;> first | rfl | assumption)) (by first | rfl | assumption)) rfl (eqr _ (by first | rfl | exact lpl (by assumption) | (simp [AV.plain, AV.plains, AV.plain])))) rfl))))), ?_⟩; refine pS ?_; refine oK rfl ?_
        refine oN ⟨(sco (ssk rfl) (sco (sld rfl rfl (lda (n := 1) (by kernel_rfl) (by first | assumption | (simp (disch := first | omega | (simp only [hNw, hPt]; omega)) only [gN] <;> first | rfl | assumption)) (by first | rfl | assumption)) rfl (eqr _ (by first | rfl | exact lpl (by assumption) | (simp [AV.plain, AV.plains, AV.plain])))) (sco (sld rfl rfl (ldg (n := 2) (by kernel_rfl) (by first | assumption | (simp (disch := first | omega | (simp only [hNw, hPt]; omega)) only [gN] <;> first | rfl | assumption)) (by first | rfl | assumption)) rfl (eqr _ (by first | rfl | exact lpl (by assumption) | (simp [AV.plain, AV.plains, AV.plain])))) (sco (sld rfl rfl (lda (n := 1) (by kernel_rfl) (by first | assumption | (simp (disch := first | omega | (simp only [hNw, hPt]; omega)) only [gN] <;> first | rfl | assumption)) (by first | rfl | assumption)) rfl (eqr _ (by first | rfl | exact lpl (by assumption) | (simp [AV.plain, AV.plains, AV.plain])))) (sco (sld rfl rfl (ldg (n := 2) (by kernel_rfl) (by first | assumption | (simp (disch := first | omega | (simp only [hNw, hPt]; omega)) only [gN] <;> first | rfl | assumption)) (by first | rfl | assumption)) rfl (eqr _ (by first | rfl | exact lpl (by assumption) | (simp [AV.plain, AV.plains, AV.plain])))) rfl))))), ?_⟩; refine pS ?_; refine oK rfl ?_; refine oN ⟨rfl, ?_⟩; refine pS ?_; refine OkO.pick (b := true) rfl rfl (fun _ => rfl) nofun ?_; refine oN ⟨rfl, ?_⟩; refine pS ?_; refine oM rfl rfl ?_; refine oN ⟨rfl, ?_⟩; refine pS ?_; refine oK rfl ?_; refine oN ⟨rfl, ?_⟩; refine pS ?_; refine oK rfl ?_; refine oN ⟨rfl, ?_⟩; refine pS ?_; refine oK rfl ?_; refine oN ⟨rfl, ?_⟩; refine pS ?_; refine oK rfl ?_
        refine oN ⟨(sco (ssk rfl) (sco (ssk rfl) (sco (ssk rfl) (sco (sld rfl rfl (lda (n := 1) (by kernel_rfl) (by first | assumption | (simp (disch := first | omega | (simp only [hNw, hPt]; omega)) only [gN] <;> first | rfl | assumption)) (by first | rfl | assumption)) rfl (eqr _ (by first | rfl | exact lpl (by assumption) | (simp [AV.plain, AV.plains, AV.plain])))) (sco (sld rfl rfl (ldg (n := 2) (by kernel_rfl) (by first | assumption | (simp (disch := first | omega | (simp only [hNw, hPt]; omega)) only [gN] <;> first | rfl | assumption)) (by first | rfl | assumption)) rfl (eqr _ (by first | rfl | exact lpl (by assumption) | (simp [AV.plain, AV.plains, AV.plain])))) (sco (sld rfl rfl (lda (n := 1) (by kernel_rfl) (by first | assumption | (simp (disch := first | omega | (simp only [hNw, hPt]; omega)) only [gN] <;> first | rfl | assumption)) (by first | rfl | assumption)) rfl (eqr _ (by first | rfl | exact lpl (by assumption) | (simp [AV.plain, AV.plains, AV.plain])))) (sco (sld rfl rfl (ldg (n := 2) (by kernel_rfl) (by first | assumption | (simp (disch := first | omega | (simp only [hNw, hPt]; omega)) only [gN] <;> first | rfl | assumption)) (by first | rfl | assumption)) rfl (eqr _ (by first | rfl | exact lpl (by assumption) | (simp [AV.plain, AV.plains, AV.plain])))) rfl))))))), ?_⟩; refine pS ?_; refine oK rfl ?_
        refine oN ⟨(sco (ssk rfl) (sco (ssk rfl) (sco (sld rfl rfl (lda (n := 1) (by kernel_rfl) (by first | assumption | (simp (disch := first | omega | (simp only [hNw, hPt]; omega)) only [gN] <;> first | rfl | assumption)) (by first | rfl | assumption)) rfl (eqr _ (by first | rfl | exact lpl (by assumption) | (simp [AV.plain, AV.plains, AV.plain])))) (sco (sld rfl rfl (ldg (n := 2) (by kernel_rfl) (by first | assumption | (simp (disch := first | omega | (simp only [hNw, hPt]; omega)) only [gN] <;> first | rfl | assumption)) (by first | rfl | assumption)) rfl (eqr _ (by first | rfl | exact lpl (by assumption) | (simp [AV.plain, AV.plains, AV.plain])))) (sco (sld rfl rfl (lda (n := 1) (by kernel_rfl) (by first | assumption | (simp (disch := first | omega | (simp only [hNw, hPt]; omega)) only [gN] <;> first | rfl | assumption)) (by first | rfl | assumption)) rfl (eqr _ (by first | rfl | exact lpl (by assumption) | (simp [AV.plain, AV.plains, AV.plain])))) (sco (sld rfl rfl (ldg (n := 2) (by kernel_rfl) (by first | assumption | (simp (disch := first | omega | (simp only [hNw, hPt]; omega)) only [gN] <;> first | rfl | assumption)) (by first | rfl | assumption)) rfl (eqr _ (by first | rfl | exact lpl (by assumption) | (simp [AV.plain, AV.plains, AV.plain])))) rfl)))))), ?_⟩; refine pS ?_; refine oK rfl ?_; refine oN ⟨rfl, ?_⟩; refine pS ?_; refine OkO.pick (b := true) rfl rfl (fun _ => rfl) nofun ?_; refine oN ⟨rfl, ?_⟩; refine OkP.nil ?_; refine Ok.condT rfl ?_; refine kS ?_; refine kR ?_; refine oA rfl rfl ?_; refine oN ?_
        refine Ok.ret ⟨.inr rfl, ?_⟩
        have hz : (inB t.snow g.slo g.shi && inB t.soak g.klo g.khi && fitsB lvs (cs.map Cell.lv) && fitsB rain (ds.map Day.rn)) = false := by rw [k1, k2]; simp
        exact back_flat rfl (by unfold truthErr; rw [if_pos h0, hz]; rfl) rfl (by rw [← hW]; exact (by (try dsimp only); repeat (first | exact hG | apply Grow.new | (refine Grow.put ?_ _ (by first | omega | (simp only [hNw, hPt]; omega))))))
      · have k2 : inB t.soak g.klo g.khi = true := by simpa using g3
        refine pS ?_; refine oF (o := 2) rfl (by kernel_rfl) rfl ?_; refine oN ⟨rfl, ?_⟩; refine pS ?_; refine oL rfl rfl (lda (n := 1) (by kernel_rfl) (by first | assumption | (simp (disch := first | omega | (simp only [hNw, hPt]; omega)) only [gN] <;> first | rfl | assumption)) (by first | rfl | assumption)) ?_; refine oN ⟨rfl, ?_⟩; refine pS ?_; refine oF (o := 0) rfl (by kernel_rfl) rfl ?_; refine oN ⟨rfl, ?_⟩; refine pS ?_; refine oL rfl rfl (lda (n := 1) (by kernel_rfl) (by first | assumption | (simp (disch := first | omega | (simp only [hNw, hPt]; omega)) only [gN] <;> first | rfl | assumption)) (by first | rfl | assumption)) ?_; refine oN ⟨rfl, ?_⟩; refine pS ?_; refine oE rfl rfl rfl rfl rfl (c77 (m + 4) cv cs _ (hR.ext (hE _ (by (try dsimp only); repeat (first | exact hG | apply Grow.new | (refine Grow.put ?_ _ (by first | omega | (simp only [hNw, hPt]; omega))))))) hbig) ?_
        rintro v77 H77 ⟨q77, r77, s77⟩
        have g77 : Grow W H77 := Grow.ret (by (try dsimp only); repeat (first | exact hG | apply Grow.new | (refine Grow.put ?_ _ (by first | omega | (simp only [hNw, hPt]; omega))))) q77
        have n77 : W.next + 2 ≤ H77.next := by have := q77.ext.next; first | omega | (simp at this; omega)
        have a77 : (H77.get W.next).bind AObj.cs = some [cv, I g.slo, I g.shi, I g.klo, I g.khi, I g.melt] := by rw [q77.ext.get _ (by first | omega | (simp only [hNw]; omega))]; first | assumption | (simp (disch := first | omega | (simp only [hNw, hPt]; omega)) only [gN] <;> rfl)
        have b77 : (H77.get (W.next + 1)).bind AObj.cs = some [I t.snow, I t.soak, lv, rv] := by rw [q77.ext.get _ (by first | omega | (simp only [hNw]; omega))]; first | assumption | (simp (disch := first | omega | (simp only [hNw, hPt]; omega)) only [gN] <;> rfl)
        refine oN ⟨(sco (sld rfl rfl (lda (n := 1) (by kernel_rfl) (by first | assumption | (simp (disch := first | omega | (simp only [hNw, hPt]; omega)) only [gN] <;> first | rfl | assumption)) (by first | rfl | assumption)) rfl (eqr _ (by first | rfl | exact lpl (by assumption) | (simp [AV.plain, AV.plains, AV.plain])))) (sco (sld rfl rfl (lda (n := 1) (by kernel_rfl) (by first | assumption | (simp (disch := first | omega | (simp only [hNw, hPt]; omega)) only [gN] <;> first | rfl | assumption)) (by first | rfl | assumption)) rfl (eqr _ (by first | rfl | exact lpl (by assumption) | (simp [AV.plain, AV.plains, AV.plain])))) (sco (sld rfl rfl (ldg (n := 2) (by kernel_rfl) (by first | assumption | (simp (disch := first | omega | (simp only [hNw, hPt]; omega)) only [gN] <;> first | rfl | assumption)) (by first | rfl | assumption)) rfl (eqr _ (by first | rfl | exact lpl (by assumption) | (simp [AV.plain, AV.plains, AV.plain])))) (sco (sld rfl rfl (lda (n := 1) (by kernel_rfl) (by first | assumption | (simp (disch := first | omega | (simp only [hNw, hPt]; omega)) only [gN] <;> first | rfl | assumption)) (by first | rfl | assumption)) rfl (eqr _ (by first | rfl | exact lpl (by assumption) | (simp [AV.plain, AV.plains, AV.plain])))) (sco (sld rfl rfl (ldg (n := 2) (by kernel_rfl) (by first | assumption | (simp (disch := first | omega | (simp only [hNw, hPt]; omega)) only [gN] <;> first | rfl | assumption)) (by first | rfl | assumption)) rfl (eqr _ (by first | rfl | exact lpl (by assumption) | (simp [AV.plain, AV.plains, AV.plain])))) rfl))))), ?_⟩; refine pS ?_; refine oV rfl rfl rfl rfl rfl (c76 (m + 4) lv v77 lvs (cs.map Cell.lv) _ (hL.ext (hE _ g77)) (by rw [lv_map]; exact r77) (by simp; omega) (by omega)) ?_
        refine oN ⟨(sco (sld rfl rfl (lda (n := 1) (by kernel_rfl) (by first | assumption | (simp (disch := first | omega | (simp only [hNw, hPt]; omega)) only [gN] <;> first | rfl | assumption)) (by first | rfl | assumption)) rfl (eqr _ (by first | rfl | exact lpl (by assumption) | (simp [AV.plain, AV.plains, AV.plain])))) (sco (sld rfl rfl (lda (n := 1) (by kernel_rfl) (by first | assumption | (simp (disch := first | omega | (simp only [hNw, hPt]; omega)) only [gN] <;> first | rfl | assumption)) (by first | rfl | assumption)) rfl (eqr _ (by first | rfl | exact lpl (by assumption) | (simp [AV.plain, AV.plains, AV.plain])))) (sco (sld rfl rfl (ldg (n := 2) (by kernel_rfl) (by first | assumption | (simp (disch := first | omega | (simp only [hNw, hPt]; omega)) only [gN] <;> first | rfl | assumption)) (by first | rfl | assumption)) rfl (eqr _ (by first | rfl | exact lpl (by assumption) | (simp [AV.plain, AV.plains, AV.plain])))) (sco (sld rfl rfl (lda (n := 1) (by kernel_rfl) (by first | assumption | (simp (disch := first | omega | (simp only [hNw, hPt]; omega)) only [gN] <;> first | rfl | assumption)) (by first | rfl | assumption)) rfl (eqr _ (by first | rfl | exact lpl (by assumption) | (simp [AV.plain, AV.plains, AV.plain])))) (sco (sld rfl rfl (ldg (n := 2) (by kernel_rfl) (by first | assumption | (simp (disch := first | omega | (simp only [hNw, hPt]; omega)) only [gN] <;> first | rfl | assumption)) (by first | rfl | assumption)) rfl (eqr _ (by first | rfl | exact lpl (by assumption) | (simp [AV.plain, AV.plains, AV.plain])))) rfl))))), ?_⟩; refine pS ?_; refine OkO.un rfl rfl rfl ?_; refine oN ⟨rfl, ?_⟩; refine pS ?_; refine OkO.pick (b := false) rfl rfl nofun (fun _ => rfl) ?_; refine oN ⟨rfl, ?_⟩; refine pS ?_; refine oM rfl rfl ?_; refine oN ⟨rfl, ?_⟩
        refine OkP.split (d := 37) rfl (fun g4 => ?_) (fun g4 => ?_)
        · have k3 : fitsB lvs (cs.map Cell.lv) = false := by simpa using g4
          refine pS ?_; refine oK rfl ?_; refine oN ⟨rfl, ?_⟩; refine pS ?_; refine oK rfl ?_; refine oN ⟨rfl, ?_⟩; refine pS ?_; refine oK rfl ?_; refine oN ⟨rfl, ?_⟩; refine pS ?_; refine oK rfl ?_
          refine oN ⟨(sco (ssk rfl) (sco (sld rfl rfl (lda (n := 1) (by kernel_rfl) (by first | assumption | (simp (disch := first | omega | (simp only [hNw, hPt]; omega)) only [gN] <;> first | rfl | assumption)) (by first | rfl | assumption)) rfl (eqr _ (by first | rfl | exact lpl (by assumption) | (simp [AV.plain, AV.plains, AV.plain])))) (sco (sld rfl rfl (lda (n := 1) (by kernel_rfl) (by first | assumption | (simp (disch := first | omega | (simp only [hNw, hPt]; omega)) only [gN] <;> first | rfl | assumption)) (by first | rfl | assumption)) rfl (eqr _ (by first | rfl | exact lpl (by assumption) | (simp [AV.plain, AV.plains, AV.plain])))) (sco (sld rfl rfl (lda (n := 1) (by kernel_rfl) (by first | assumption | (simp (disch := first | omega | (simp only [hNw, hPt]; omega)) only [gN] <;> first | rfl | assumption)) (by first | rfl | assumption)) rfl (eqr _ (by first | rfl | exact lpl (by assumption) | (simp [AV.plain, AV.plains, AV.plain])))) (sco (sld rfl rfl (ldg (n := 2) (by kernel_rfl) (by first | assumption | (simp (disch := first | omega | (simp only [hNw, hPt]; omega)) only [gN] <;> first | rfl | assumption)) (by first | rfl | assumption)) rfl (eqr _ (by first | rfl | exact lpl (by assumption) | (simp [AV.plain, AV.plains, AV.plain])))) (sco (sld rfl rfl (lda (n := 1) (by kernel_rfl) (by first | assumption | (simp (disch := first | omega | (simp only [hNw, hPt]; omega)) only [gN] <;> first | rfl | assumption)) (by first | rfl | assumption)) rfl (eqr _ (by first | rfl | exact lpl (by assumption) | (simp [AV.plain, AV.plains, AV.plain])))) (sco (sld rfl rfl (ldg (n := 2) (by kernel_rfl) (by first | assumption | (simp (disch := first | omega | (simp only [hNw, hPt]; omega)) only [gN] <;> first | rfl | assumption)) (by first | rfl | assumption)) rfl (eqr _ (by first | rfl | exact lpl (by assumption) | (simp [AV.plain, AV.plains, AV.plain])))) rfl))))))), ?_⟩; refine pS ?_; refine oK rfl ?_
          refine oN ⟨(sco (sld rfl rfl (lda (n := 1) (by kernel_rfl) (by first | assumption | (simp (disch := first | omega | (simp only [hNw, hPt]; omega)) only [gN] <;> first | rfl | assumption)) (by first | rfl | assumption)) rfl (eqr _ (by first | rfl | exact lpl (by assumption) | (simp [AV.plain, AV.plains, AV.plain])))) (sco (sld rfl rfl (lda (n := 1) (by kernel_rfl) (by first | assumption | (simp (disch := first | omega | (simp only [hNw, hPt]; omega)) only [gN] <;> first | rfl | assumption)) (by first | rfl | assumption)) rfl (eqr _ (by first | rfl | exact lpl (by assumption) | (simp [AV.plain, AV.plains, AV.plain])))) (sco (sld rfl rfl (lda (n := 1) (by kernel_rfl) (by first | assumption | (simp (disch := first | omega | (simp only [hNw, hPt]; omega)) only [gN] <;> first | rfl | assumption)) (by first | rfl | assumption)) rfl (eqr _ (by first | rfl | exact lpl (by assumption) | (simp [AV.plain, AV.plains, AV.plain])))) (sco (sld rfl rfl (ldg (n := 2) (by kernel_rfl) (by first | assumption | (simp (disch := first | omega | (simp only [hNw, hPt]; omega)) only [gN] <;> first | rfl | assumption)) (by first | rfl | assumption)) rfl (eqr _ (by first | rfl | exact lpl (by assumption) | (simp [AV.plain, AV.plains, AV.plain])))) (sco (sld rfl rfl (lda (n := 1) (by kernel_rfl) (by first | assumption | (simp (disch := first | omega | (simp only [hNw, hPt]; omega)) only [gN] <;> first | rfl | assumption)) (by first | rfl | assumption)) rfl (eqr _ (by first | rfl | exact lpl (by assumption) | (simp [AV.plain, AV.plains, AV.plain])))) (sco (sld rfl rfl (ldg (n := 2) (by kernel_rfl) (by first | assumption | (simp (disch := first | omega | (simp only [hNw, hPt]; omega)) only [gN] <;> first | rfl | assumption)) (by first | rfl | assumption)) rfl (eqr _ (by first | rfl | exact lpl (by assumption) | (simp [AV.plain, AV.plains, AV.plain])))) rfl)))))), ?_⟩; refine pS ?_; refine oK rfl ?_; refine oN ⟨rfl, ?_⟩; refine pS ?_; refine OkO.pick (b := true) rfl rfl (fun _ => rfl) nofun ?_; refine oN ⟨rfl, ?_⟩; refine OkP.nil ?_; refine Ok.condT rfl ?_; refine kS ?_; refine kR ?_; refine oA rfl rfl ?_; refine oN ?_
          refine Ok.ret ⟨.inr rfl, ?_⟩
          have hz : (inB t.snow g.slo g.shi && inB t.soak g.klo g.khi && fitsB lvs (cs.map Cell.lv) && fitsB rain (ds.map Day.rn)) = false := by rw [k1, k2, k3]; simp
          exact back_flat rfl (by unfold truthErr; rw [if_pos h0, hz]; rfl) rfl (by rw [← hW]; exact (by (try dsimp only); repeat (first | exact g77 | exact hG | apply Grow.new | (refine Grow.put ?_ _ (by first | omega | (simp only [hNw, hPt]; omega))))))
        · have k3 : fitsB lvs (cs.map Cell.lv) = true := by simpa using g4
          refine pS ?_; refine oF (o := 3) rfl (by kernel_rfl) rfl ?_; refine oN ⟨rfl, ?_⟩; refine pS ?_; refine oL rfl rfl (lda (n := 1) (by kernel_rfl) (by first | assumption | (simp (disch := first | omega | (simp only [hNw, hPt]; omega)) only [gN] <;> first | rfl | assumption)) (by first | rfl | assumption)) ?_; refine oN ⟨rfl, ?_⟩; refine pS ?_; refine oM rfl rfl ?_; refine oN ⟨rfl, ?_⟩; refine pS ?_; refine oE rfl rfl rfl rfl rfl (c79 (m + 4) dv ds _ (hD.ext (hE _ g77)) hbd) ?_
          rintro v79 H79 ⟨q79, r79, s79⟩
          have g79 : Grow W H79 := Grow.ret g77 q79
          have n79 : W.next + 2 ≤ H79.next := by have := q79.ext.next; first | omega | (simp at this; omega)
          have a79 : (H79.get W.next).bind AObj.cs = some [cv, I g.slo, I g.shi, I g.klo, I g.khi, I g.melt] := by rw [q79.ext.get _ (by first | omega | (simp only [hNw]; omega))]; first | assumption | (simp (disch := first | omega | (simp only [hNw, hPt]; omega)) only [gN] <;> rfl)
          have b79 : (H79.get (W.next + 1)).bind AObj.cs = some [I t.snow, I t.soak, lv, rv] := by rw [q79.ext.get _ (by first | omega | (simp only [hNw]; omega))]; first | assumption | (simp (disch := first | omega | (simp only [hNw, hPt]; omega)) only [gN] <;> rfl)
          refine oN ⟨(sco (sld rfl rfl (lda (n := 1) (by kernel_rfl) (by first | assumption | (simp (disch := first | omega | (simp only [hNw, hPt]; omega)) only [gN] <;> first | rfl | assumption)) (by first | rfl | assumption)) rfl (eqr _ (by first | rfl | exact lpl (by assumption) | (simp [AV.plain, AV.plains, AV.plain])))) (sco (sld rfl rfl (lda (n := 1) (by kernel_rfl) (by first | assumption | (simp (disch := first | omega | (simp only [hNw, hPt]; omega)) only [gN] <;> first | rfl | assumption)) (by first | rfl | assumption)) rfl (eqr _ (by first | rfl | exact lpl (by assumption) | (simp [AV.plain, AV.plains, AV.plain])))) (sco (sld rfl rfl (lda (n := 1) (by kernel_rfl) (by first | assumption | (simp (disch := first | omega | (simp only [hNw, hPt]; omega)) only [gN] <;> first | rfl | assumption)) (by first | rfl | assumption)) rfl (eqr _ (by first | rfl | exact lpl (by assumption) | (simp [AV.plain, AV.plains, AV.plain])))) (sco (sld rfl rfl (lda (n := 1) (by kernel_rfl) (by first | assumption | (simp (disch := first | omega | (simp only [hNw, hPt]; omega)) only [gN] <;> first | rfl | assumption)) (by first | rfl | assumption)) rfl (eqr _ (by first | rfl | exact lpl (by assumption) | (simp [AV.plain, AV.plains, AV.plain])))) (sco (sld rfl rfl (ldg (n := 2) (by kernel_rfl) (by first | assumption | (simp (disch := first | omega | (simp only [hNw, hPt]; omega)) only [gN] <;> first | rfl | assumption)) (by first | rfl | assumption)) rfl (eqr _ (by first | rfl | exact lpl (by assumption) | (simp [AV.plain, AV.plains, AV.plain])))) (sco (sld rfl rfl (lda (n := 1) (by kernel_rfl) (by first | assumption | (simp (disch := first | omega | (simp only [hNw, hPt]; omega)) only [gN] <;> first | rfl | assumption)) (by first | rfl | assumption)) rfl (eqr _ (by first | rfl | exact lpl (by assumption) | (simp [AV.plain, AV.plains, AV.plain])))) (sco (sld rfl rfl (ldg (n := 2) (by kernel_rfl) (by first | assumption | (simp (disch := first | omega | (simp only [hNw, hPt]; omega)) only [gN] <;> first | rfl | assumption)) (by first | rfl | assumption)) rfl (eqr _ (by first | rfl | exact lpl (by assumption) | (simp [AV.plain, AV.plains, AV.plain])))) rfl))))))), ?_⟩; refine pS ?_; refine oV rfl rfl rfl rfl rfl (c76 (m + 4) rv v79 rain (ds.map Day.rn) _ (hA.ext (hE _ g79)) (by rw [rn_map]; exact r79) (by simp; omega) (by omega)) ?_
          refine oN ⟨(sco (sld rfl rfl (lda (n := 1) (by kernel_rfl) (by first | assumption | (simp (disch := first | omega | (simp only [hNw, hPt]; omega)) only [gN] <;> first | rfl | assumption)) (by first | rfl | assumption)) rfl (eqr _ (by first | rfl | exact lpl (by assumption) | (simp [AV.plain, AV.plains, AV.plain])))) (sco (sld rfl rfl (lda (n := 1) (by kernel_rfl) (by first | assumption | (simp (disch := first | omega | (simp only [hNw, hPt]; omega)) only [gN] <;> first | rfl | assumption)) (by first | rfl | assumption)) rfl (eqr _ (by first | rfl | exact lpl (by assumption) | (simp [AV.plain, AV.plains, AV.plain])))) (sco (sld rfl rfl (lda (n := 1) (by kernel_rfl) (by first | assumption | (simp (disch := first | omega | (simp only [hNw, hPt]; omega)) only [gN] <;> first | rfl | assumption)) (by first | rfl | assumption)) rfl (eqr _ (by first | rfl | exact lpl (by assumption) | (simp [AV.plain, AV.plains, AV.plain])))) (sco (sld rfl rfl (ldg (n := 2) (by kernel_rfl) (by first | assumption | (simp (disch := first | omega | (simp only [hNw, hPt]; omega)) only [gN] <;> first | rfl | assumption)) (by first | rfl | assumption)) rfl (eqr _ (by first | rfl | exact lpl (by assumption) | (simp [AV.plain, AV.plains, AV.plain])))) (sco (sld rfl rfl (lda (n := 1) (by kernel_rfl) (by first | assumption | (simp (disch := first | omega | (simp only [hNw, hPt]; omega)) only [gN] <;> first | rfl | assumption)) (by first | rfl | assumption)) rfl (eqr _ (by first | rfl | exact lpl (by assumption) | (simp [AV.plain, AV.plains, AV.plain])))) (sco (sld rfl rfl (ldg (n := 2) (by kernel_rfl) (by first | assumption | (simp (disch := first | omega | (simp only [hNw, hPt]; omega)) only [gN] <;> first | rfl | assumption)) (by first | rfl | assumption)) rfl (eqr _ (by first | rfl | exact lpl (by assumption) | (simp [AV.plain, AV.plains, AV.plain])))) rfl)))))), ?_⟩; refine pS ?_; refine OkO.un rfl rfl rfl ?_; refine oN ⟨rfl, ?_⟩; refine pS ?_; refine OkO.pick (b := false) rfl rfl nofun (fun _ => rfl) ?_; refine oN ⟨rfl, ?_⟩; refine OkP.nil ?_
          refine Ok.cond rfl (fun h5 => ?_) (fun h5 => ?_)
          · have k4 : fitsB rain (ds.map Day.rn) = false := by simpa using h5
            refine kS ?_; refine kR ?_; refine oA rfl rfl ?_; refine oN ?_
            refine Ok.ret ⟨.inr rfl, ?_⟩
            have hz : (inB t.snow g.slo g.shi && inB t.soak g.klo g.khi && fitsB lvs (cs.map Cell.lv) && fitsB rain (ds.map Day.rn)) = false := by rw [k1, k2, k3, k4]; simp
            exact back_flat rfl (by unfold truthErr; rw [if_pos h0, hz]; rfl) rfl (by rw [← hW]; exact (by (try dsimp only); repeat (first | exact g79 | exact hG | apply Grow.new | (refine Grow.put ?_ _ (by first | omega | (simp only [hNw, hPt]; omega))))))
          · have k4 : fitsB rain (ds.map Day.rn) = true := by simpa using h5
            refine Ok.skip ?_; refine kS ?_; refine kR ?_; refine oA rfl rfl ?_; refine oN ?_
            refine Ok.ret ⟨.inr rfl, ?_⟩
            exact back_flat rfl (by unfold truthErr; rw [if_pos h0, k1, k2, k3, k4]; rfl) rfl (by rw [← hW]; exact (by (try dsimp only); repeat (first | exact g79 | exact hG | apply Grow.new | (refine Grow.put ?_ _ (by first | omega | (simp only [hNw, hPt]; omega))))))
theorem ints_flat (us : List Int) : (us.map fun n => [I n]).flatten = us.map I := by induction us with | nil => rfl | cons a l ih => simp [ih]
theorem atoms_ints (us : List Int) : atoms (us.map I) = true := by induction us with | nil => rfl | cons a l ih => exact ih
theorem sum_take (l : List Int) (i : Nat) (h : i < l.length) : (l.take (i + 1)).sum = (l.take i).sum + l[i] := by
  rw [List.take_succ_eq_append_getElem h, List.sum_append]; simp
theorem sum_bd (k : Int) (hk : 0 ≤ k) (l : List Int) (h : ∀ x ∈ l, -k ≤ x ∧ x ≤ k) : -(k * l.length) ≤ l.sum ∧ l.sum ≤ k * l.length := by
  induction l with
  | nil => simp
  | cons a l ih =>
    have h1 := h a (by simp)
    have h2 := ih (fun x hx => h x (by simp [hx]))
    simp only [List.sum_cons, List.length_cons]
    push_cast
    rw [Int.mul_add, Int.mul_one]
    omega
theorem c105 (m : Nat) (uv : AV) (us : List Int) (H : Heap) (hU : Ints H uv us) (hl : us.length ≤ 1000) (hsm : ∀ x ∈ us, -10000000 ≤ x ∧ x ≤ 10000000) : RR (m + 1) (.fn 105 [uv]) H = some (I us.sum, H) := by
  refine (R_fn _ _ _ _ _).trans ?_; refine fn_ok Try.func105 rfl rfl (by kernel_rfl) (by kernel_rfl) ?_
  obtain ⟨W, hW, hg, hN, hE, hG⟩ := wOf H
  rw [← hW]
  have hlu : lenOf uv = some us.length := by simpa using hU.len
  refine kS ?_; refine kR ?_; refine oA rfl rfl ?_; refine oN ?_; refine kS ?_; refine kR ?_; refine oA rfl rfl ?_; refine oN ?_; refine kS ?_; refine kS ?_; refine kR ?_; refine oM rfl rfl ?_; refine oB rfl rfl rfl qbl ?_; refine oM rfl rfl ?_; refine oN ?_; refine Ok.block ?_
  refine Ok.loop (fun n s => ∃ i : Nat, n = us.length - i ∧ i ≤ us.length ∧ Has 5 [(3, I (us.take i).sum), (6, uv), (7, I us.length), (8, I (i : Int))] s.T ∧ s.D = [] ∧ Grow W s.H) (us.length) (by unfold loopFuel; omega)
    ⟨0, rfl, Nat.zero_le _, Has.of (by kernel_rfl), rfl, hG⟩ ?_
  rintro n ⟨T, D, G⟩ ⟨i, hn, hi, ⟨f, hT⟩, hD, hg⟩
  dsimp only at *
  subst hT hD
  have hgn := hg.next
  have hsb := sum_bd 10000000 (by omega) (us.take i) (fun x hx => hsm x (List.mem_of_mem_take hx))
  rw [List.length_take] at hsb
  refine kS ?_; refine kR ?_; refine OkO.bin rfl rfl rfl (bin_lss _ _) ?_; refine oN ?_; refine kS ?_
  refine Ok.cond rfl (fun h1 => ?_) (fun h1 => ?_)
  · have hlt : i < us.length := by simpa using h1
    obtain ⟨ub, uo, ucs, j1, j2, j3, j4⟩ := (hU.ext (hE _ hg)).at_ i [I us[i]] (by simp [hlt])
    have j5 := seg_one j3
    have hx := hsm us[i] (List.getElem_mem hlt)
    refine Ok.skip ?_; refine kS ?_; refine Ok.block ?_; refine kS ?_; refine kR ?_; refine qX (sz := 1) (n := i) rfl rfl rfl ?_; refine oL rfl rfl (lda (n := 1) (by kernel_rfl) (by first | assumption | (simp (disch := first | omega | (simp only [hNw, hPt]; omega)) only [gN] <;> first | rfl | assumption)) (by first | rfl | assumption)) ?_; refine oA rfl rfl ?_; refine oN ?_; refine kR ?_; refine oM rfl rfl ?_; refine oM rfl rfl ?_; refine OkO.bin rfl rfl rfl (bin_add (by omega) (by omega)) ?_; refine oA rfl rfl ?_; refine oN ?_; refine kR ?_; refine OkO.bin rfl rfl rfl (bin_add (by omega) (by omega)) ?_; refine oM rfl rfl ?_; refine oN ?_
    refine ⟨us.length - (i + 1), by omega, i + 1, rfl, hlt, ?_, rfl, (by (try dsimp only); repeat (first | (first | exact hg | exact hG) | apply Grow.new | (refine Grow.put ?_ _ (by first | omega | (simp only [hNw, hPt]; omega)))))⟩
    rw [sum_take us i hlt]
    exact Has.of (by kernel_rfl)
  · have hge : i = us.length := by simp at h1; omega
    refine Ok.exit ?_; refine kS ?_; refine kR ?_; refine oM rfl rfl ?_; refine oA rfl rfl ?_; refine oN ?_
    refine Ok.ret ⟨.inr rfl, ?_⟩
    subst hge
    exact back_flat rfl (by rw [List.take_length]; rfl) rfl (by rw [← hW]; exact hg)
/-- What is pumped out of a cell, and what passes. -/
def pumpd (x : Cell) (n : Int) : Int := min n x.pump
def passd (x : Cell) (n : Int) : Int := max (n - pumpd x n - x.keep) 0 * x.pass / 1000
def Cell.lim (x : Cell) : Prop := (1 ≤ x.cap ∧ x.cap ≤ 100000) ∧ (0 ≤ x.lo ∧ x.lo ≤ x.hi ∧ x.hi ≤ x.cap) ∧ (0 ≤ x.keep ∧ x.keep ≤ x.cap) ∧ (0 ≤ x.pass ∧ x.pass ≤ 1000) ∧ (0 ≤ x.pump ∧ x.pump ≤ 100000)
theorem Cell.ok_lim {x : Cell} (h : x.ok = true) : x.lim := by
  simp only [Cell.ok, inB, okR, Bool.and_eq_true, decide_eq_true_eq] at h
  unfold Cell.lim; omega
theorem mul_bd {a b p q : Int} (h : 0 ≤ a ∧ a ≤ p) (k : 0 ≤ b ∧ b ≤ q) : 0 ≤ a * b ∧ a * b ≤ p * q := by
  have h1 := Int.mul_le_mul_of_nonneg_left k.2 h.1
  have h3 := Int.mul_le_mul_of_nonneg_right h.2 (Int.le_trans k.1 k.2)
  exact ⟨Int.mul_nonneg h.1 k.1, Int.le_trans h1 h3⟩
theorem give_bd {x : Cell} (h : x.lim) {n : Int} (hn : 0 ≤ n ∧ n ≤ 100000) : (0 ≤ pumpd x n ∧ pumpd x n ≤ n) ∧ (0 ≤ max (n - pumpd x n - x.keep) 0 * x.pass ∧ max (n - pumpd x n - x.keep) 0 * x.pass ≤ 100000000) ∧ 0 ≤ passd x n ∧ passd x n ≤ n - pumpd x n := by
  unfold Cell.lim at h
  have h1 : 0 ≤ pumpd x n ∧ pumpd x n ≤ n := by unfold pumpd; omega
  have h2 : 0 ≤ max (n - pumpd x n - x.keep) 0 ∧ max (n - pumpd x n - x.keep) 0 ≤ n - pumpd x n := by omega
  have h3 := mul_bd h2 h.2.2.2.1
  refine ⟨h1, ⟨h3.1, by omega⟩, ?_, ?_⟩
  · unfold passd; omega
  · unfold passd; omega
theorem c104 (m : Nat) (x : Cell) (n : Int) (H : Heap) (hx : x.lim) (hn : 0 ≤ n ∧ n ≤ 100000) : RR (m + 1) (.fn 104 [.agg x.c, I n]) H = some (.tup [I (pumpd x n), I (passd x n)], H) := by
  refine (R_fn _ _ _ _ _).trans ?_; refine fn_ok Try.func104 rfl rfl (by kernel_rfl) (by kernel_rfl) ?_
  obtain ⟨W, hW, hg, hN, hE, hG⟩ := wOf H
  rw [← hW]
  have hgb := give_bd hx hn
  unfold passd pumpd at hgb
  unfold Cell.lim at hx
  refine kS ?_; refine kR ?_; refine OkO.box rfl rfl ?_; refine oA rfl rfl ?_; refine oA rfl rfl ?_; refine oN ?_; refine kS ?_; refine kR ?_; refine oM rfl rfl ?_; refine oF (o := 6) rfl (by kernel_rfl) rfl ?_; refine oL rfl rfl (lda (n := 1) (by kernel_rfl) (by first | assumption | (simp (disch := first | omega | (simp only [hNw, hPt]; omega)) only [gN] <;> first | rfl | assumption)) (by first | rfl | assumption)) ?_; refine oB rfl rfl rfl (builtin_min2 _ _) ?_; refine oA rfl rfl ?_; refine oN ?_; refine kS ?_; refine kR ?_; refine oM rfl rfl ?_; refine oM rfl rfl ?_; refine OkO.bin rfl rfl rfl (bin_sub (by omega) (by omega)) ?_; refine oF (o := 3) rfl (by kernel_rfl) rfl ?_; refine oL rfl rfl (lda (n := 1) (by kernel_rfl) (by first | assumption | (simp (disch := first | omega | (simp only [hNw, hPt]; omega)) only [gN] <;> first | rfl | assumption)) (by first | rfl | assumption)) ?_; refine OkO.bin rfl rfl rfl (bin_sub (by omega) (by omega)) ?_; refine oB rfl rfl rfl (builtin_max2 _ _) ?_; refine oF (o := 4) rfl (by kernel_rfl) rfl ?_; refine oL rfl rfl (lda (n := 1) (by kernel_rfl) (by first | assumption | (simp (disch := first | omega | (simp only [hNw, hPt]; omega)) only [gN] <;> first | rfl | assumption)) (by first | rfl | assumption)) ?_; refine OkO.bin rfl rfl rfl (bin_mul (by omega) (by omega)) ?_; refine OkO.bin rfl rfl rfl (bin_quo (by omega) (by omega) (by omega)) ?_; refine oA rfl rfl ?_; refine oN ?_; refine kS ?_; refine kR ?_; refine oM rfl rfl ?_; refine oM rfl rfl ?_; refine oA rfl rfl ?_; refine oA rfl rfl ?_; refine oN ?_
  refine Ok.ret ⟨.inr rfl, ?_⟩
  exact back_flat (resV_tmp rfl (resV_tmp rfl resV_nil)) rfl rfl (by rw [← hW]; exact (by (try dsimp only); repeat (first | exact hG | apply Grow.new | (refine Grow.put ?_ _ (by first | omega | (simp only [hNw, hPt]; omega))))))
end
end Go.Ev

set_option maxRecDepth 100000
set_option linter.unusedSimpArgs false
set_option linter.unusedVariables false
namespace Go.Ev
open Go Go.Proofs
noncomputable section
instance : Inhabited Cell := ⟨⟨0, 0, 0, 0, 0, 0, 0⟩⟩
instance : Inhabited Day := ⟨⟨0, 0, 0⟩⟩
/-- What one cell adds to what will be there: what passes to another one, and what stays. -/
def stepA (x : Cell) (i : Nat) (n so : Int) (a : List Int) : List Int :=
  (if x.to = -1 then a else a.set x.to.toNat (a.getD x.to.toNat 0 + passd x n)).set i ((if x.to = -1 then a else a.set x.to.toNat (a.getD x.to.toNat 0 + passd x n)).getD i 0 + (n - pumpd x n - passd x n + so))
def aftP (cs : List Cell) (bef : List Int) (so : Int) : Nat → List Int
  | 0 => [0, 0, 0, 0, 0, 0, 0, 0]
  | i + 1 => stepA (cs.getD i default) i (bef.getD i 0) so (aftP cs bef so i)
def leftP (cs : List Cell) (bef : List Int) (down so : Int) : Nat → List Int
  | 0 => []
  | i + 1 => (leftP cs bef down so i ++ [down - so, pumpd (cs.getD i default) (bef.getD i 0)]) ++ (if (cs.getD i default).to = -1 then [passd (cs.getD i default) (bef.getD i 0)] else [])
def cutP (cs : List Cell) (a : List Int) : Nat → List Int
  | 0 => a
  | i + 1 => (cutP cs a i).set i ((cutP cs a i).getD i 0 - max ((cutP cs a i).getD i 0 - (cs.getD i default).cap) 0)
def overP (cs : List Cell) (a l : List Int) : Nat → List Int
  | 0 => l
  | i + 1 => overP cs a l i ++ [max ((cutP cs a i).getD i 0 - (cs.getD i default).cap) 0]
/-- What a day leaves in the cells, and what left on it. -/
def dayL (cs : List Cell) (bef : List Int) (down soak : Int) : List Int := cutP cs (aftP cs bef (down * soak / 1000) cs.length) cs.length
def dayO (cs : List Cell) (bef : List Int) (down soak : Int) : Int := (overP cs (aftP cs bef (down * soak / 1000) cs.length) (leftP cs bef down (down * soak / 1000) cs.length) cs.length).sum
theorem stepA_len (x : Cell) (i : Nat) (n so : Int) (a : List Int) : (stepA x i n so a).length = a.length := by unfold stepA; split <;> simp
theorem aft_len (cs : List Cell) (bef : List Int) (so : Int) : ∀ i, (aftP cs bef so i).length = 8
  | 0 => rfl
  | i + 1 => by rw [aftP, stepA_len]; exact aft_len cs bef so i
theorem cut_len (cs : List Cell) (a : List Int) : ∀ i, (cutP cs a i).length = a.length
  | 0 => rfl
  | i + 1 => by rw [cutP, List.length_set]; exact cut_len cs a i
/-- All are from 0 to some number. -/
def Upto (k : Int) (a : List Int) : Prop := ∀ z ∈ a, 0 ≤ z ∧ z ≤ k
theorem Upto.getD {k : Int} {a : List Int} (h : Upto k a) (hk : 0 ≤ k) (i : Nat) : 0 ≤ a.getD i 0 ∧ a.getD i 0 ≤ k := by
  rw [List.getD_eq_getElem?_getD]
  cases hi : a[i]? with
  | none => simp; exact hk
  | some z => exact h z (List.mem_of_getElem? hi)
theorem Upto.set {k : Int} {a : List Int} (h : Upto k a) {z : Int} (hz : 0 ≤ z ∧ z ≤ k) (i : Nat) : Upto k (a.set i z) := fun y hy => by
  rcases List.mem_or_eq_of_mem_set hy with h1 | h1
  · exact h y h1
  · rw [h1]; exact hz
theorem Upto.mono {k k' : Int} {a : List Int} (h : Upto k a) (hk : k ≤ k') : Upto k' a := fun z hz => by have := h z hz; omega
theorem stepA_bd {x : Cell} (hx : x.lim) {n so k : Int} (hn : 0 ≤ n ∧ n ≤ 100000) (hs : 0 ≤ so ∧ so ≤ 4000) (hk : 0 ≤ k) {a : List Int} (h : Upto k a) (i : Nat) : Upto (k + 300000) (stepA x i n so a) := by
  have hg := give_bd hx hn
  have h1 : Upto (k + 100000) (if x.to = -1 then a else a.set x.to.toNat (a.getD x.to.toNat 0 + passd x n)) := by
    split
    · exact h.mono (by omega)
    · have := h.getD hk x.to.toNat
      exact (h.mono (by omega)).set (by omega) _
  have h2 := h1.getD (by omega) i
  exact (h1.mono (by omega)).set (by omega) _
theorem aft_bd {cs : List Cell} {bef : List Int} {so : Int} (hc : ∀ x ∈ cs, x.lim) (hb : Upto 100000 bef) (hs : 0 ≤ so ∧ so ≤ 4000) : ∀ i, i ≤ cs.length → Upto (300000 * i) (aftP cs bef so i)
  | 0, _ => fun z hz => by simp [aftP] at hz; omega
  | i + 1, hi => by
    have h := aft_bd hc hb hs i (by omega)
    have hx : cs.getD i default = cs[i]'(by omega) := by simp [show i < cs.length from by omega]
    have := stepA_bd (x := cs.getD i default) (by rw [hx]; exact hc _ (List.getElem_mem _)) (hb.getD (by omega) i) hs (by omega) h i
    rw [aftP]
    push_cast
    rw [show (300000 : Int) * (i + 1) = 300000 * i + 300000 from by omega]
    exact this
theorem cut_bd {cs : List Cell} {a : List Int} {k : Int} (hc : ∀ x ∈ cs, x.lim) (h : Upto k a) (hk : 0 ≤ k) : ∀ i, i ≤ cs.length → Upto k (cutP cs a i)
  | 0, _ => h
  | i + 1, hi => by
    have h1 := cut_bd hc h hk i (by omega)
    have h2 := h1.getD hk i
    have hx : cs.getD i default = cs[i]'(by omega) := by simp [show i < cs.length from by omega]
    have h3 := hc (cs.getD i default) (by rw [hx]; exact List.getElem_mem _)
    unfold Cell.lim at h3
    rw [cutP]
    exact h1.set (by omega) _
theorem left_bd {cs : List Cell} {bef : List Int} {down so : Int} (hc : ∀ x ∈ cs, x.lim) (hb : Upto 100000 bef) (hd : 0 ≤ down ∧ down ≤ 4000) (hs : 0 ≤ so ∧ so ≤ down) : ∀ i, i ≤ cs.length → Upto 100000 (leftP cs bef down so i) ∧ (leftP cs bef down so i).length ≤ 3 * i
  | 0, _ => ⟨nofun, by simp [leftP]⟩
  | i + 1, hi => by
    obtain ⟨h, hl⟩ := left_bd hc hb hd hs i (by omega)
    have hx : cs.getD i default = cs[i]'(by omega) := by simp [show i < cs.length from by omega]
    have hg := give_bd (x := cs.getD i default) (by rw [hx]; exact hc _ (List.getElem_mem _)) (hb.getD (by omega) i)
    have hb1 := hb.getD (by omega) i
    rw [leftP]
    constructor
    · intro z hz
      simp only [List.mem_append] at hz
      rcases hz with (hz | hz) | hz
      · exact h z hz
      · simp only [List.mem_cons, List.mem_singleton, List.not_mem_nil, or_false] at hz
        rcases hz with rfl | rfl <;> omega
      · split at hz
        · simp only [List.mem_singleton] at hz; omega
        · simp at hz
    · simp only [List.length_append, List.length_cons, List.length_nil]
      split <;> simp <;> omega
theorem over_bd {cs : List Cell} {a l : List Int} {k : Int} (hc : ∀ x ∈ cs, x.lim) (h : Upto k a) (hk : 0 ≤ k) (hl : Upto k l) : ∀ i, i ≤ cs.length → Upto k (overP cs a l i) ∧ (overP cs a l i).length = l.length + i
  | 0, _ => ⟨hl, rfl⟩
  | i + 1, hi => by
    obtain ⟨h1, h2⟩ := over_bd hc h hk hl i (by omega)
    have h3 := (cut_bd hc h hk i (by omega)).getD hk i
    have hx : cs.getD i default = cs[i]'(by omega) := by simp [show i < cs.length from by omega]
    have h4 := hc (cs.getD i default) (by rw [hx]; exact List.getElem_mem _)
    unfold Cell.lim at h4
    rw [overP]
    refine ⟨fun z hz => ?_, by simp [h2]; omega⟩
    rcases List.mem_append.1 hz with hz | hz
    · exact h1 z hz
    · simp only [List.mem_singleton] at hz; omega
theorem list8 {a : List Int} (h : a.length = 8) : ∃ a0 a1 a2 a3 a4 a5 a6 a7, a = [a0, a1, a2, a3, a4, a5, a6, a7] := by
  match a, h with
  | [a0, a1, a2, a3, a4, a5, a6, a7], _ => exact ⟨a0, a1, a2, a3, a4, a5, a6, a7, rfl⟩
theorem arr_get (a : List Int) (k : Nat) (h : k < a.length) : (a.map I)[0 + k * 1]? = some (I (a.getD k 0)) := by
  rw [Nat.zero_add, Nat.mul_one, List.getElem?_map, List.getElem?_eq_getElem h, List.getD_eq_getElem?_getD, List.getElem?_eq_getElem h]; rfl
theorem spl_set (a : List Int) (k : Nat) (z : Int) (h : k < a.length) : spl (a.map I) (0 + k * 1) (I z).cells = some ((a.set k z).map I) := by
  have e : spl (a.map I) (0 + k * 1) (I z).cells = (match Nat.ble (0 + k * 1 + 1) (a.map I).length with
    | true => some ((a.map I).take (0 + k * 1) ++ ([I z] ++ (a.map I).drop (0 + k * 1 + 1)))
    | false => none) := rfl
  rw [e, Nat.zero_add, Nat.mul_one, Nat.ble_eq_true_of_le (by simp; omega)]
  simp only
  rw [List.map_set, List.set_eq_take_append_cons_drop, if_pos (by simpa using h)]
  rfl
end
end Go.Ev

set_option maxRecDepth 100000
set_option linter.unusedSimpArgs false
set_option linter.unusedVariables false
namespace Go.Ev
open Go Go.Proofs
noncomputable section
theorem c82 (m : Nat) (cv dv lv rv : AV) (cs : List Cell) (g : Gr) (t : Tru) (bef : List Int) (down : Int) (H : Heap) (hR : Row H cv 7 (cs.map Cell.c)) (hn8 : cs.length ≤ 8) (hc : ∀ x ∈ cs, x.lim) (hto0 : toOk (cs.length : Int) 0 cs = true) (hbl : bef.length = 8) (hb : Upto 100000 bef) (hdw : 0 ≤ down ∧ down ≤ 4000) (hsk : 0 ≤ t.soak ∧ t.soak ≤ 1000) : RR (m + 2) (.fn 82 [.agg [cv, I g.slo, I g.shi, I g.klo, I g.khi, I g.melt, dv, I t.snow, I t.soak, lv, rv], .agg (bef.map I), I down]) H = some (.agg ((dayL cs bef down t.soak).map I ++ [I (dayO cs bef down t.soak), I 0]), H) := by
  refine (R_fn _ _ _ _ _).trans ?_; refine fn_ok Try.func82 rfl rfl (by kernel_rfl) (by kernel_rfl) ?_
  obtain ⟨W, hW, hg, hN, hE, hG⟩ := wOf H
  rw [← hW]
  have hlc0 : lenOf cv = some cs.length := by simpa using hR.len
  have pc : cv.plain = true := lpl hlc0
  have hb8 : bef.length = 8 := hbl
  have hmb := mul_bd (a := down) (b := t.soak) (p := 4000) (q := 1000) hdw hsk
  have hms := Int.mul_le_mul_of_nonneg_left hsk.2 hdw.1
  have hso : 0 ≤ (down * t.soak / 1000) ∧ (down * t.soak / 1000) ≤ down := by omega
  refine kS ?_; refine kR ?_; refine OkO.box rfl rfl ?_; refine OkO.box rfl rfl ?_; refine OkO.alloc (z := [.int .i64 0, .int .i64 0, .int .i64 0, .int .i64 0, .int .i64 0, .int .i64 0, .int .i64 0, .int .i64 0, .int .i64 0, .int .i64 0]) rfl (by kernel_rfl) ?_; refine oN ?_; refine kS ?_; refine kR ?_; refine oM rfl rfl ?_; refine oF (o := 7) rfl (by kernel_rfl) rfl ?_; refine oF (o := 1) rfl (by kernel_rfl) rfl ?_; refine oL rfl rfl (lda (n := 1) (by kernel_rfl) (by first | assumption | (simp (disch := first | omega | (simp only [hNw, hPt]; omega)) only [gN] <;> first | rfl | assumption)) (by first | rfl | assumption)) ?_; refine OkO.bin rfl rfl rfl (bin_mul (by omega) (by omega)) ?_; refine OkO.bin rfl rfl rfl (bin_quo (by omega) (by omega) (by omega)) ?_; refine oA rfl rfl ?_; refine oN ?_; refine kS ?_; refine kR ?_; refine OkO.alloc (z := [.int .i64 0, .int .i64 0, .int .i64 0, .int .i64 0, .int .i64 0, .int .i64 0, .int .i64 0, .int .i64 0]) rfl (by kernel_rfl) ?_; refine oN ?_; refine kS ?_; refine kR ?_; refine oA rfl rfl ?_; refine oN ?_; refine kS ?_; refine kS ?_; refine kR ?_; refine oF (o := 0) rfl (by kernel_rfl) rfl ?_; refine oF (o := 0) rfl (by kernel_rfl) rfl ?_; refine oL rfl rfl (lda (n := 1) (by kernel_rfl) (by first | assumption | (simp (disch := first | omega | (simp only [hNw, hPt]; omega)) only [gN] <;> first | rfl | assumption)) (by first | rfl | assumption)) ?_; refine oB rfl rfl rfl qbl ?_; refine oM rfl rfl ?_; refine oN ?_; refine Ok.block ?_
  refine Ok.loop (fun n s => ∃ (i : Nat) (v9 : AV), n = cs.length - i ∧ i ≤ cs.length ∧ Mine (W.next + 4) s.H v9 3 1 ((leftP cs bef down (down * t.soak / 1000) i).map I) ∧ Has 7 [(2, I down), (3, .ptr W.next 0), (4, .ptr (W.next + 1) 0), (6, .ptr (W.next + 2) 0), (7, I (down * t.soak / 1000)), (8, .ptr (W.next + 3) 0), (9, v9), (25, cv), (26, I cs.length), (27, I (i : Int))] s.T ∧ s.D = [] ∧ Grow W s.H ∧ s.H.get W.next = some (.cells [cv, I g.slo, I g.shi, I g.klo, I g.khi, I g.melt, dv, I t.snow, I t.soak, lv, rv] 110) ∧ s.H.get (W.next + 1) = some (.cells (bef.map I) 113) ∧ s.H.get (W.next + 2) = some (.cells [I 0, I 0, I 0, I 0, I 0, I 0, I 0, I 0, I 0, I 0] 115) ∧ s.H.get (W.next + 3) = some (.cells ((aftP cs bef (down * t.soak / 1000) i).map I) 113) ∧ W.next + 4 ≤ s.H.next) (cs.length) (by unfold loopFuel; omega)
    ⟨0, .nils, rfl, Nat.zero_le _, Mine.nil _ _ _ _, Has.of (by kernel_rfl), rfl, (by (try dsimp only); repeat (first | exact hG | apply Grow.new | (refine Grow.put ?_ _ (by first | omega | (simp only [hNw, hPt]; omega))))), (by simp (disch := first | omega | (simp only [hNw, hPt]; omega)) only [gN] <;> first | rfl | assumption), (by simp (disch := first | omega | (simp only [hNw, hPt]; omega)) only [gN] <;> first | rfl | assumption), (by simp (disch := first | omega | (simp only [hNw, hPt]; omega)) only [gN] <;> first | rfl | assumption), (by simp (disch := first | omega | (simp only [hNw, hPt]; omega)) only [gN] <;> first | rfl | assumption), by simp only [hNw, hPt]; omega⟩ ?_
  rintro n ⟨T, D, G⟩ ⟨i, v9, hn, hi, hm, ⟨f, hT⟩, hD, hg, f0G, f1G, f2G, f3G, hb4⟩
  dsimp only at *
  subst hT hD
  have hgn := hg.next
  have e0G : (G.get (W.next)).bind AObj.cs = some [cv, I g.slo, I g.shi, I g.klo, I g.khi, I g.melt, dv, I t.snow, I t.soak, lv, rv] := by rw [f0G]; rfl
  have e1G : (G.get (W.next + 1)).bind AObj.cs = some (bef.map I) := by rw [f1G]; rfl
  have e2G : (G.get (W.next + 2)).bind AObj.cs = some [I 0, I 0, I 0, I 0, I 0, I 0, I 0, I 0, I 0, I 0] := by rw [f2G]; rfl
  have e3G : (G.get (W.next + 3)).bind AObj.cs = some ((aftP cs bef (down * t.soak / 1000) i).map I) := by rw [f3G]; rfl
  refine kS ?_; refine kR ?_; refine OkO.bin rfl rfl rfl (bin_lss _ _) ?_; refine oN ?_; refine kS ?_
  refine Ok.cond rfl (fun h1 => ?_) (fun h1 => ?_)
  · have hlt : i < cs.length := by simpa using h1
    have hx0 : cs.getD i default = cs[i] := by simp [hlt]
    obtain ⟨bb, off, ccs, i1, i2, i3, i4⟩ := (hR.ext (hE _ hg)).at_ i cs[i].c (by simp [hlt])
    have hne : bb ≠ G.next := by omega
    have hxl : cs[i].lim := hc _ (List.getElem_mem hlt)
    have hbi := hb.getD (by omega) i
    have hgb := give_bd hxl hbi
    have hab := aft_bd (so := (down * t.soak / 1000)) hc hb (by omega) i (by omega)
    have halen := aft_len cs bef (down * t.soak / 1000) i
    have hlb := left_bd hc hb hdw hso i (by omega)
    have hai := hab.getD (by omega) i
    have hti := hab.getD (by omega) cs[i].to.toNat
    have p1 := arr_get bef i (by omega)
    have p2 := arr_get (aftP cs bef (down * t.soak / 1000) i) i (by omega)
    have i8 : i < (aftP cs bef (down * t.soak / 1000) i).length := by omega
    have hmlb := hlb.2
    refine Ok.skip ?_; refine kS ?_; refine Ok.block ?_; refine kS ?_; refine kR ?_; refine oM rfl rfl ?_; refine qX (sz := 7) (n := i) rfl rfl rfl ?_; refine oL rfl rfl (ldg (n := 7) (by kernel_rfl) (by first | assumption | (simp (disch := first | omega | (simp only [hNw, hPt]; omega)) only [gN] <;> first | rfl | assumption)) (by first | rfl | assumption)) ?_; refine OkO.alloc (z := [.int .i64 0, .int .i64 0, .int .i64 0, .int .i64 0, .int .i64 0, .int .i64 0, .int .i64 0]) rfl (by kernel_rfl) ?_; refine oA rfl rfl ?_; refine oT rfl rfl rfl (sAc (n := 7) (ag := true) (by kernel_rfl) (by first | assumption | (simp (disch := first | omega | (simp only [hNw, hPt]; omega)) only [gN] <;> first | rfl | assumption)) rfl rfl (by first | rfl | exact spl_set _ _ _ (by first | assumption | (simp; omega)))) ?_; refine oN ?_; refine kS ?_; refine Ok.drawn [(0, true, []), (1, true, []), (2, true, []), (3, true, []), (4, false, []), (5, true, []), (6, true, []), (7, true, []), (8, true, []), (9, true, [])] (by kernel_rfl) ?_; refine pS ?_; refine oL rfl rfl (ldg (n := 7) (by kernel_rfl) (by first | assumption | (simp (disch := first | omega | (simp only [hNw, hPt]; omega)) only [gN] <;> first | rfl | assumption)) (by first | rfl | assumption)) ?_; refine oN ⟨rfl, ?_⟩; refine pS ?_; refine oM rfl rfl ?_; refine oN ⟨rfl, ?_⟩; refine pS ?_; refine OkO.indexArr (len := 8) (sz := 1) (n := i) rfl rfl rfl (by kernel_rfl) (by omega) ?_; refine oN ⟨rfl, ?_⟩; refine pS ?_; refine oL rfl rfl (lda (n := 1) (by kernel_rfl) (by first | assumption | (simp (disch := first | omega | (simp only [hNw, hPt]; omega)) only [gN] <;> first | rfl | assumption)) (by first | rfl | assumption)) ?_; refine oN ⟨rfl, ?_⟩; refine pS ?_; refine oV rfl rfl rfl rfl rfl (c104 _ cs[i] (bef.getD i 0) _ hxl hbi) ?_; refine oN ⟨rfl, ?_⟩; refine pS ?_; refine oM rfl rfl ?_; refine oN ⟨rfl, ?_⟩; refine pS ?_; refine OkO.extract rfl rfl rfl ?_; refine oN ⟨rfl, ?_⟩; refine pS ?_; refine OkO.extract rfl rfl rfl ?_; refine oN ⟨rfl, ?_⟩; refine pS ?_; refine oA rfl rfl ?_; refine oN ⟨rfl, ?_⟩; refine pS ?_; refine oA rfl rfl ?_; refine oN ⟨rfl, ?_⟩; refine OkP.nil ?_; refine kS ?_; refine kR ?_; refine oM rfl rfl ?_; refine oM rfl rfl ?_; refine oM rfl rfl ?_; refine OkO.bin rfl rfl rfl (bin_sub (by omega) (by omega)) ?_; refine oM rfl rfl ?_; refine OkO.buildSlice (el := 3) (sz := 1) (z := [.int .i64 0]) rfl (by kernel_rfl) (by decide) rfl rfl ?_; refine OkO.builtinE rfl rfl rfl (Mine.app2 (k0 := W.next + 4) (sz := 1) (by_ := 8) (e := 3) (n := 2) (new := [I (down - (down * t.soak / 1000)), I (pumpd cs[i] (bef.getD i 0))]) (hm.to (by (try dsimp only); repeat (first | exact Ext.refl _ | assumption | apply Ext.new | (refine Ext.put ?_ _ (by first | omega | (simp only [hNw, hPt]; omega)))))) (by (try dsimp only); repeat (first | (first | exact hg | exact hG) | apply Grow.new | (refine Grow.put ?_ _ (by first | omega | (simp only [hNw, hPt]; omega))))) (by omega) (by first | omega | (simp only [hNw, hPt]; omega)) (by kernel_rfl) (by kernel_rfl) (elems_new (n := 2) (sz := 1) rfl) rfl rfl (by simp only [List.length_append, List.length_map, List.length_cons, List.length_nil]; omega) (by omega) (by omega) rfl) ?_
    rintro vP1 P1 ⟨q1P1, q2P1, q3P1, q4P1, q5P1, q6P1⟩
    have hnP1 : G.next + 1 ≤ P1.next := by have := q3P1.next; simp only [hNw, hPt] at this; omega
    have f0P1 : P1.get (W.next) = some (.cells [cv, I g.slo, I g.shi, I g.klo, I g.khi, I g.melt, dv, I t.snow, I t.soak, lv, rv] 110) := by rw [q3P1.get _ (by omega) (by first | omega | (simp only [hNw, hPt]; omega))]; first | exact f0G | (simp (disch := first | omega | (simp only [hNw, hPt]; omega)) only [gN] <;> first | rfl | assumption)
    have e0P1 : (P1.get (W.next)).bind AObj.cs = some [cv, I g.slo, I g.shi, I g.klo, I g.khi, I g.melt, dv, I t.snow, I t.soak, lv, rv] := by rw [f0P1]; rfl
    have f1P1 : P1.get (W.next + 1) = some (.cells (bef.map I) 113) := by rw [q3P1.get _ (by omega) (by first | omega | (simp only [hNw, hPt]; omega))]; first | exact f1G | (simp (disch := first | omega | (simp only [hNw, hPt]; omega)) only [gN] <;> first | rfl | assumption)
    have e1P1 : (P1.get (W.next + 1)).bind AObj.cs = some (bef.map I) := by rw [f1P1]; rfl
    have f2P1 : P1.get (W.next + 2) = some (.cells [I 0, I 0, I 0, I 0, I 0, I 0, I 0, I 0, I 0, I 0] 115) := by rw [q3P1.get _ (by omega) (by first | omega | (simp only [hNw, hPt]; omega))]; first | exact f2G | (simp (disch := first | omega | (simp only [hNw, hPt]; omega)) only [gN] <;> first | rfl | assumption)
    have e2P1 : (P1.get (W.next + 2)).bind AObj.cs = some [I 0, I 0, I 0, I 0, I 0, I 0, I 0, I 0, I 0, I 0] := by rw [f2P1]; rfl
    have f3P1 : P1.get (W.next + 3) = some (.cells ((aftP cs bef (down * t.soak / 1000) i).map I) 113) := by rw [q3P1.get _ (by omega) (by first | omega | (simp only [hNw, hPt]; omega))]; first | exact f3G | (simp (disch := first | omega | (simp only [hNw, hPt]; omega)) only [gN] <;> first | rfl | assumption)
    have e3P1 : (P1.get (W.next + 3)).bind AObj.cs = some ((aftP cs bef (down * t.soak / 1000) i).map I) := by rw [f3P1]; rfl
    have f4P1 : P1.get G.next = some (.cells (cs[i]).c 80) := by rw [q4P1 _ (by first | omega | (simp only [hNw, hPt]; omega)) (by rintro m rfl; rcases hm with ⟨h, _⟩ | ⟨b, k, h, _, _, _, h6⟩ <;> cases h; omega)]; first | assumption | (simp (disch := first | omega | (simp only [hNw, hPt]; omega)) only [gN] <;> first | rfl | assumption)
    have e4P1 : (P1.get G.next).bind AObj.cs = some (cs[i]).c := by rw [f4P1]; rfl
    refine oA rfl rfl ?_; refine oN ?_; refine kS ?_; refine kS ?_; refine kR ?_; refine oF (o := 5) rfl (by kernel_rfl) rfl ?_; refine oL rfl rfl (lda (n := 1) (by kernel_rfl) (by first | assumption | (simp (disch := first | omega | (simp only [hNw, hPt]; omega)) only [gN] <;> first | rfl | assumption)) (by first | rfl | assumption)) ?_; refine OkO.bin rfl rfl rfl (bin_eql _ _) ?_; refine oN ?_
    refine Ok.cond rfl (fun h2 => ?_) (fun h2 => ?_)
    · have hto : cs[i].to = -1 := by simpa using h2
      refine kR ?_; refine oM rfl rfl ?_; refine oM rfl rfl ?_; refine OkO.buildSlice (el := 3) (sz := 1) (z := [.int .i64 0]) rfl (by kernel_rfl) (by decide) rfl rfl ?_; refine OkO.builtinE rfl rfl rfl (Mine.app2 (k0 := W.next + 4) (sz := 1) (by_ := 8) (e := 3) (n := 1) (new := [I (passd cs[i] (bef.getD i 0))]) (q1P1.to (by (try dsimp only); repeat (first | exact Ext.refl _ | assumption | apply Ext.new | (refine Ext.put ?_ _ (by first | omega | (simp only [hNw, hPt]; omega)))))) (by (try dsimp only); repeat (first | exact q2P1 | exact hg | exact hG | apply Grow.new | (refine Grow.put ?_ _ (by first | omega | (simp only [hNw, hPt]; omega))))) (by omega) (by first | omega | (simp only [hNw, hPt]; omega)) (by kernel_rfl) (by kernel_rfl) (elems_new (n := 1) (sz := 1) rfl) rfl rfl (by simp only [List.length_append, List.length_map, List.length_cons, List.length_nil]; omega) (by omega) (by omega) rfl) ?_
      rintro vP2 P2 ⟨q1P2, q2P2, q3P2, q4P2, q5P2, q6P2⟩
      have hnP2 : G.next + 1 ≤ P2.next := by have := q3P2.next; simp only [hNw, hPt] at this; omega
      have f0P2 : P2.get (W.next) = some (.cells [cv, I g.slo, I g.shi, I g.klo, I g.khi, I g.melt, dv, I t.snow, I t.soak, lv, rv] 110) := by rw [q3P2.get _ (by omega) (by first | omega | (simp only [hNw, hPt]; omega))]; first | exact f0P1 | (simp (disch := first | omega | (simp only [hNw, hPt]; omega)) only [gN] <;> first | rfl | assumption)
      have e0P2 : (P2.get (W.next)).bind AObj.cs = some [cv, I g.slo, I g.shi, I g.klo, I g.khi, I g.melt, dv, I t.snow, I t.soak, lv, rv] := by rw [f0P2]; rfl
      have f1P2 : P2.get (W.next + 1) = some (.cells (bef.map I) 113) := by rw [q3P2.get _ (by omega) (by first | omega | (simp only [hNw, hPt]; omega))]; first | exact f1P1 | (simp (disch := first | omega | (simp only [hNw, hPt]; omega)) only [gN] <;> first | rfl | assumption)
      have e1P2 : (P2.get (W.next + 1)).bind AObj.cs = some (bef.map I) := by rw [f1P2]; rfl
      have f2P2 : P2.get (W.next + 2) = some (.cells [I 0, I 0, I 0, I 0, I 0, I 0, I 0, I 0, I 0, I 0] 115) := by rw [q3P2.get _ (by omega) (by first | omega | (simp only [hNw, hPt]; omega))]; first | exact f2P1 | (simp (disch := first | omega | (simp only [hNw, hPt]; omega)) only [gN] <;> first | rfl | assumption)
      have e2P2 : (P2.get (W.next + 2)).bind AObj.cs = some [I 0, I 0, I 0, I 0, I 0, I 0, I 0, I 0, I 0, I 0] := by rw [f2P2]; rfl
      have f3P2 : P2.get (W.next + 3) = some (.cells ((aftP cs bef (down * t.soak / 1000) i).map I) 113) := by rw [q3P2.get _ (by omega) (by first | omega | (simp only [hNw, hPt]; omega))]; first | exact f3P1 | (simp (disch := first | omega | (simp only [hNw, hPt]; omega)) only [gN] <;> first | rfl | assumption)
      have e3P2 : (P2.get (W.next + 3)).bind AObj.cs = some ((aftP cs bef (down * t.soak / 1000) i).map I) := by rw [f3P2]; rfl
      have f4P2 : P2.get G.next = some (.cells (cs[i]).c 80) := by rw [q4P2 _ (by first | omega | (simp only [hNw, hPt]; omega)) (by rintro m rfl; obtain ⟨w, hw⟩ := q6P1; simp only [AV.opn.injEq, hNw, hPt] at hw; omega)]; first | assumption | (simp (disch := first | omega | (simp only [hNw, hPt]; omega)) only [gN] <;> first | rfl | assumption)
      have e4P2 : (P2.get G.next).bind AObj.cs = some (cs[i]).c := by rw [f4P2]; rfl
      refine oA rfl rfl ?_; refine oN ?_; refine Ok.drawn [(0, true, []), (1, true, []), (2, true, []), (3, true, []), (4, true, []), (5, true, []), (6, true, []), (7, true, []), (8, true, []), (9, true, []), (10, true, []), (11, true, []), (12, true, []), (13, true, []), (14, false, [])] (by kernel_rfl) ?_; refine pS ?_; refine oM rfl rfl ?_; refine oN ⟨rfl, ?_⟩; refine pS ?_; refine OkO.indexArr (len := 8) (sz := 1) (n := i) rfl rfl rfl (by kernel_rfl) (by omega) ?_; refine oN ⟨rfl, ?_⟩; refine pS ?_; refine oL rfl rfl (lda (n := 1) (by kernel_rfl) (by first | assumption | (simp (disch := first | omega | (simp only [hNw, hPt]; omega)) only [gN] <;> first | rfl | assumption)) (by first | rfl | assumption)) ?_; refine oN ⟨rfl, ?_⟩; refine pS ?_; refine oM rfl rfl ?_; refine oN ⟨rfl, ?_⟩; refine pS ?_; refine OkO.indexArr (len := 8) (sz := 1) (n := i) rfl rfl rfl (by kernel_rfl) (by omega) ?_; refine oN ⟨rfl, ?_⟩; refine pS ?_; refine oL rfl rfl (lda (n := 1) (by kernel_rfl) (by first | assumption | (simp (disch := first | omega | (simp only [hNw, hPt]; omega)) only [gN] <;> first | rfl | assumption)) (by first | rfl | assumption)) ?_; refine oN ⟨rfl, ?_⟩; refine pS ?_; refine oM rfl rfl ?_; refine oN ⟨rfl, ?_⟩; refine pS ?_; refine OkO.bin rfl rfl rfl (bin_sub (by omega) (by omega)) ?_; refine oN ⟨rfl, ?_⟩; refine pS ?_; refine oM rfl rfl ?_; refine oN ⟨rfl, ?_⟩; refine pS ?_; refine OkO.bin rfl rfl rfl (bin_sub (by omega) (by omega)) ?_; refine oN ⟨rfl, ?_⟩; refine pS ?_; refine oM rfl rfl ?_; refine oN ⟨rfl, ?_⟩; refine pS ?_; refine OkO.bin rfl rfl rfl (bin_add (by omega) (by omega)) ?_; refine oN ⟨rfl, ?_⟩; refine pS ?_; refine OkO.bin rfl rfl rfl (bin_add (by omega) (by omega)) ?_; refine oN ⟨rfl, ?_⟩; refine pS ?_; refine OkO.indexArr (len := 8) (sz := 1) (n := i) rfl rfl rfl (by kernel_rfl) (by omega) ?_; refine oN ⟨rfl, ?_⟩; refine pS ?_; refine oT rfl rfl rfl (sAc (n := 1) (ag := false) (by kernel_rfl) (by first | assumption | (simp (disch := first | omega | (simp only [hNw, hPt]; omega)) only [gN] <;> first | rfl | assumption)) rfl rfl (by first | rfl | exact spl_set _ _ _ (by first | assumption | (simp; omega)))) ?_; refine oN ⟨rfl, ?_⟩; refine OkP.nil ?_; refine kR ?_; refine OkO.bin rfl rfl rfl (bin_add (by omega) (by omega)) ?_; refine oM rfl rfl ?_; refine oN ?_
      refine ⟨cs.length - (i + 1), by omega, i + 1, vP2, rfl, hlt, ?_, Has.of (by kernel_rfl), rfl, (by (try dsimp only); repeat (first | exact q2P2 | exact q2P1 | exact hg | exact hG | apply Grow.new | (refine Grow.put ?_ _ (by first | omega | (simp only [hNw, hPt]; omega))))), (by first | assumption | (simp (disch := first | omega | (simp only [hNw, hPt]; omega)) only [gN] <;> first | rfl | assumption)), (by first | assumption | (simp (disch := first | omega | (simp only [hNw, hPt]; omega)) only [gN] <;> first | rfl | assumption)), (by first | assumption | (simp (disch := first | omega | (simp only [hNw, hPt]; omega)) only [gN] <;> first | rfl | assumption)), ?_, by first | omega | (simp only [hNw, hPt]; omega)⟩
      · have hL : leftP cs bef down (down * t.soak / 1000) (i + 1) = (leftP cs bef down (down * t.soak / 1000) i ++ [down - (down * t.soak / 1000), pumpd cs[i] (bef.getD i 0)]) ++ [passd cs[i] (bef.getD i 0)] := by rw [leftP, hx0]; simp [hto]
        rw [hL]; exact (by have q := q1P2; simp only [List.map_append, List.map_cons, List.map_nil] at q ⊢; (try dsimp only); (repeat (refine Mine.put ?_ _ (by omega))); exact q)
      · have hA : aftP cs bef (down * t.soak / 1000) (i + 1) = (aftP cs bef (down * t.soak / 1000) i).set i ((aftP cs bef (down * t.soak / 1000) i).getD i 0 + (bef.getD i 0 - pumpd cs[i] (bef.getD i 0) - passd cs[i] (bef.getD i 0) + (down * t.soak / 1000))) := by rw [aftP, hx0, stepA, if_pos hto]
        rw [hA]; first | assumption | (simp (disch := first | omega | (simp only [hNw, hPt]; omega)) only [gN] <;> first | rfl | assumption)
    · have hnt : ¬cs[i].to = -1 := by simpa using h2
      have hto2 := (toOk_iff _ _ _).1 hto0 i cs[i] (List.getElem?_eq_getElem hlt)
      have hto3 : cs[i].to = ((cs[i].to.toNat : Nat) : Int) := by (have h4 := hto2.1; simp [inB] at h4; omega)
      have hto4 : cs[i].to.toNat < 8 := by (have h4 := hto2.1; simp [inB] at h4; omega)
      have t8 : cs[i].to.toNat < (aftP cs bef (down * t.soak / 1000) i).length := by omega
      have p3 := arr_get (aftP cs bef (down * t.soak / 1000) i) cs[i].to.toNat t8
      have i9 : i < (((aftP cs bef (down * t.soak / 1000) i).set cs[i].to.toNat ((aftP cs bef (down * t.soak / 1000) i).getD cs[i].to.toNat 0 + passd cs[i] (bef.getD i 0)))).length := by rw [List.length_set]; omega
      have p4 := arr_get ((aftP cs bef (down * t.soak / 1000) i).set cs[i].to.toNat ((aftP cs bef (down * t.soak / 1000) i).getD cs[i].to.toNat 0 + passd cs[i] (bef.getD i 0))) i i9
      have hb9 := ((hab.mono (show (300000 : Int) * i ≤ 300000 * i + 100000 by omega)).set (z := (aftP cs bef (down * t.soak / 1000) i).getD cs[i].to.toNat 0 + passd cs[i] (bef.getD i 0)) (by omega) cs[i].to.toNat).getD (by omega) i
      refine kR ?_; refine oF (o := 5) rfl (by kernel_rfl) rfl ?_; refine oL rfl rfl (lda (n := 1) (by kernel_rfl) (by first | assumption | (simp (disch := first | omega | (simp only [hNw, hPt]; omega)) only [gN] <;> first | rfl | assumption)) (by first | rfl | assumption)) ?_; refine OkO.indexArr (len := 8) (sz := 1) (n := cs[i].to.toNat) rfl rfl (congrArg (fun z => some (I z)) hto3) (by kernel_rfl) (by omega) ?_; refine oL rfl rfl (lda (n := 1) (by kernel_rfl) (by first | assumption | (simp (disch := first | omega | (simp only [hNw, hPt]; omega)) only [gN] <;> first | rfl | assumption)) (by first | rfl | assumption)) ?_; refine oM rfl rfl ?_; refine OkO.bin rfl rfl rfl (bin_add (by omega) (by omega)) ?_; refine OkO.indexArr (len := 8) (sz := 1) (n := cs[i].to.toNat) rfl rfl (congrArg (fun z => some (I z)) hto3) (by kernel_rfl) (by omega) ?_; refine oT rfl rfl rfl (sAc (n := 1) (ag := false) (by kernel_rfl) (by first | assumption | (simp (disch := first | omega | (simp only [hNw, hPt]; omega)) only [gN] <;> first | rfl | assumption)) rfl rfl (by first | rfl | exact spl_set _ _ _ (by first | assumption | (simp; omega)))) ?_; refine oN ?_; refine Ok.drawn [(0, true, []), (1, true, []), (2, true, []), (3, true, []), (4, true, []), (5, true, []), (6, true, []), (7, true, []), (8, true, []), (9, true, []), (10, true, []), (11, true, []), (12, true, []), (13, true, []), (14, false, [])] (by kernel_rfl) ?_; refine pS ?_; refine oM rfl rfl ?_; refine oN ⟨rfl, ?_⟩; refine pS ?_; refine OkO.indexArr (len := 8) (sz := 1) (n := i) rfl rfl rfl (by kernel_rfl) (by omega) ?_; refine oN ⟨rfl, ?_⟩; refine pS ?_; refine oL rfl rfl (lda (n := 1) (by kernel_rfl) (by first | assumption | (simp (disch := first | omega | (simp only [hNw, hPt]; omega)) only [gN] <;> first | rfl | assumption)) (by first | rfl | assumption)) ?_; refine oN ⟨rfl, ?_⟩; refine pS ?_; refine oM rfl rfl ?_; refine oN ⟨rfl, ?_⟩; refine pS ?_; refine OkO.indexArr (len := 8) (sz := 1) (n := i) rfl rfl rfl (by kernel_rfl) (by omega) ?_; refine oN ⟨rfl, ?_⟩; refine pS ?_; refine oL rfl rfl (lda (n := 1) (by kernel_rfl) (by first | assumption | (simp (disch := first | omega | (simp only [hNw, hPt]; omega)) only [gN] <;> first | rfl | assumption)) (by first | rfl | assumption)) ?_; refine oN ⟨rfl, ?_⟩; refine pS ?_; refine oM rfl rfl ?_; refine oN ⟨rfl, ?_⟩; refine pS ?_; refine OkO.bin rfl rfl rfl (bin_sub (by omega) (by omega)) ?_; refine oN ⟨rfl, ?_⟩; refine pS ?_; refine oM rfl rfl ?_; refine oN ⟨rfl, ?_⟩; refine pS ?_; refine OkO.bin rfl rfl rfl (bin_sub (by omega) (by omega)) ?_; refine oN ⟨rfl, ?_⟩; refine pS ?_; refine oM rfl rfl ?_; refine oN ⟨rfl, ?_⟩; refine pS ?_; refine OkO.bin rfl rfl rfl (bin_add (by omega) (by omega)) ?_; refine oN ⟨rfl, ?_⟩; refine pS ?_; refine OkO.bin rfl rfl rfl (bin_add (by omega) (by omega)) ?_; refine oN ⟨rfl, ?_⟩; refine pS ?_; refine OkO.indexArr (len := 8) (sz := 1) (n := i) rfl rfl rfl (by kernel_rfl) (by omega) ?_; refine oN ⟨rfl, ?_⟩; refine pS ?_; refine oT rfl rfl rfl (sAc (n := 1) (ag := false) (by kernel_rfl) (by first | assumption | (simp (disch := first | omega | (simp only [hNw, hPt]; omega)) only [gN] <;> first | rfl | assumption)) rfl rfl (by first | rfl | exact spl_set _ _ _ (by first | assumption | (simp; omega)))) ?_; refine oN ⟨rfl, ?_⟩; refine OkP.nil ?_; refine kR ?_; refine OkO.bin rfl rfl rfl (bin_add (by omega) (by omega)) ?_; refine oM rfl rfl ?_; refine oN ?_
      refine ⟨cs.length - (i + 1), by omega, i + 1, vP1, rfl, hlt, ?_, Has.of (by kernel_rfl), rfl, (by (try dsimp only); repeat (first | exact q2P1 | exact hg | exact hG | apply Grow.new | (refine Grow.put ?_ _ (by first | omega | (simp only [hNw, hPt]; omega))))), (by first | assumption | (simp (disch := first | omega | (simp only [hNw, hPt]; omega)) only [gN] <;> first | rfl | assumption)), (by first | assumption | (simp (disch := first | omega | (simp only [hNw, hPt]; omega)) only [gN] <;> first | rfl | assumption)), (by first | assumption | (simp (disch := first | omega | (simp only [hNw, hPt]; omega)) only [gN] <;> first | rfl | assumption)), ?_, by first | omega | (simp only [hNw, hPt]; omega)⟩
      · have hL : leftP cs bef down (down * t.soak / 1000) (i + 1) = leftP cs bef down (down * t.soak / 1000) i ++ [down - (down * t.soak / 1000), pumpd cs[i] (bef.getD i 0)] := by rw [leftP, hx0]; simp [hnt]
        rw [hL]; exact (by have q := q1P1; simp only [List.map_append, List.map_cons, List.map_nil] at q ⊢; (try dsimp only); (repeat (refine Mine.put ?_ _ (by omega))); exact q)
      · have hA : aftP cs bef (down * t.soak / 1000) (i + 1) = ((aftP cs bef (down * t.soak / 1000) i).set cs[i].to.toNat ((aftP cs bef (down * t.soak / 1000) i).getD cs[i].to.toNat 0 + passd cs[i] (bef.getD i 0))).set i (((aftP cs bef (down * t.soak / 1000) i).set cs[i].to.toNat ((aftP cs bef (down * t.soak / 1000) i).getD cs[i].to.toNat 0 + passd cs[i] (bef.getD i 0))).getD i 0 + (bef.getD i 0 - pumpd cs[i] (bef.getD i 0) - passd cs[i] (bef.getD i 0) + (down * t.soak / 1000))) := by rw [aftP, hx0, stepA, if_neg hnt]
        rw [hA]; first | assumption | (simp (disch := first | omega | (simp only [hNw, hPt]; omega)) only [gN] <;> first | rfl | assumption)
  · have hge : i = cs.length := by simp at h1; omega
    subst hge
    have haB := aft_bd (so := (down * t.soak / 1000)) hc hb (by omega) cs.length (Nat.le_refl _)
    have hlB := left_bd hc hb hdw hso cs.length (Nat.le_refl _)
    have halen := aft_len cs bef (down * t.soak / 1000) cs.length
    have F3 := f3G
    refine Ok.exit ?_; refine kS ?_; refine kS ?_; refine kR ?_; refine oF (o := 0) rfl (by kernel_rfl) rfl ?_; refine oF (o := 0) rfl (by kernel_rfl) rfl ?_; refine oL rfl rfl (lda (n := 1) (by kernel_rfl) (by first | assumption | (simp (disch := first | omega | (simp only [hNw, hPt]; omega)) only [gN] <;> first | rfl | assumption)) (by first | rfl | assumption)) ?_; refine oB rfl rfl rfl qbl ?_; refine oM rfl rfl ?_; refine oN ?_; refine Ok.block ?_
    refine Ok.loop (fun n s => ∃ (i : Nat) (v9 : AV), n = cs.length - i ∧ i ≤ cs.length ∧ Mine (W.next + 4) s.H v9 3 1 ((overP cs (aftP cs bef (down * t.soak / 1000) cs.length) (leftP cs bef down (down * t.soak / 1000) cs.length) i).map I) ∧ Has 7 [(3, .ptr W.next 0), (4, .ptr (W.next + 1) 0), (6, .ptr (W.next + 2) 0), (8, .ptr (W.next + 3) 0), (9, v9), (78, cv), (79, I cs.length), (80, I (i : Int))] s.T ∧ s.D = [] ∧ Grow W s.H ∧ s.H.get W.next = some (.cells [cv, I g.slo, I g.shi, I g.klo, I g.khi, I g.melt, dv, I t.snow, I t.soak, lv, rv] 110) ∧ s.H.get (W.next + 1) = some (.cells (bef.map I) 113) ∧ s.H.get (W.next + 2) = some (.cells [I 0, I 0, I 0, I 0, I 0, I 0, I 0, I 0, I 0, I 0] 115) ∧ s.H.get (W.next + 3) = some (.cells ((cutP cs (aftP cs bef (down * t.soak / 1000) cs.length) i).map I) 113) ∧ W.next + 4 ≤ s.H.next) (cs.length) (by unfold loopFuel; omega)
      ⟨0, v9, rfl, Nat.zero_le _, hm, Has.of (by kernel_rfl), rfl, hg, f0G, f1G, f2G, f3G, hb4⟩ ?_
    rintro n ⟨T, D, G⟩ ⟨i, v9, hn, hi, hm, ⟨f, hT⟩, hD, hg, f0G, f1G, f2G, f3G, hb4⟩
    dsimp only at *
    subst hT hD
    have hgn := hg.next
    have e0G : (G.get (W.next)).bind AObj.cs = some [cv, I g.slo, I g.shi, I g.klo, I g.khi, I g.melt, dv, I t.snow, I t.soak, lv, rv] := by rw [f0G]; rfl
    have e1G : (G.get (W.next + 1)).bind AObj.cs = some (bef.map I) := by rw [f1G]; rfl
    have e2G : (G.get (W.next + 2)).bind AObj.cs = some [I 0, I 0, I 0, I 0, I 0, I 0, I 0, I 0, I 0, I 0] := by rw [f2G]; rfl
    have e3G : (G.get (W.next + 3)).bind AObj.cs = some ((cutP cs (aftP cs bef (down * t.soak / 1000) cs.length) i).map I) := by rw [f3G]; rfl
    refine kS ?_; refine kR ?_; refine OkO.bin rfl rfl rfl (bin_lss _ _) ?_; refine oN ?_; refine kS ?_
    refine Ok.cond rfl (fun h3 => ?_) (fun h3 => ?_)
    · have hlt : i < cs.length := by simpa using h3
      have hx0 : cs.getD i default = cs[i] := by simp [hlt]
      obtain ⟨bb, off, ccs, i1, i2, i3, i4⟩ := (hR.ext (hE _ hg)).at_ i cs[i].c (by simp [hlt])
      have hne : bb ≠ G.next := by omega
      have hxl : cs[i].lim := hc _ (List.getElem_mem hlt)
      have hcb := (cut_bd hc haB (by omega) i (by omega)).getD (by omega) i
      have hob := over_bd (k := 3000000) hc (haB.mono (by omega)) (by omega) (hlB.1.mono (by omega)) i (by omega)
      have hclen : (cutP cs (aftP cs bef (down * t.soak / 1000) cs.length) i).length = 8 := by rw [cut_len, aft_len]
      have p1 := arr_get (cutP cs (aftP cs bef (down * t.soak / 1000) cs.length) i) i (by omega)
      have i8 : i < (cutP cs (aftP cs bef (down * t.soak / 1000) cs.length) i).length := by omega
      have hlc : cs[i].lim := hxl
      unfold Cell.lim at hlc
      refine Ok.skip ?_; refine kS ?_; refine Ok.block ?_; refine kS ?_; refine kR ?_; refine oM rfl rfl ?_; refine qX (sz := 7) (n := i) rfl rfl rfl ?_; refine oL rfl rfl (ldg (n := 7) (by kernel_rfl) (by first | assumption | (simp (disch := first | omega | (simp only [hNw, hPt]; omega)) only [gN] <;> first | rfl | assumption)) (by first | rfl | assumption)) ?_; refine OkO.alloc (z := [.int .i64 0, .int .i64 0, .int .i64 0, .int .i64 0, .int .i64 0, .int .i64 0, .int .i64 0]) rfl (by kernel_rfl) ?_; refine oA rfl rfl ?_; refine oT rfl rfl rfl (sAc (n := 7) (ag := true) (by kernel_rfl) (by first | assumption | (simp (disch := first | omega | (simp only [hNw, hPt]; omega)) only [gN] <;> first | rfl | assumption)) rfl rfl (by first | rfl | exact spl_set _ _ _ (by first | assumption | (simp; omega)))) ?_; refine oN ?_; refine kS ?_; refine Ok.drawn [(0, true, []), (1, true, []), (2, true, []), (3, true, []), (4, true, []), (5, true, []), (6, true, []), (7, true, [])] (by kernel_rfl) ?_; refine pS ?_; refine oM rfl rfl ?_; refine oN ⟨rfl, ?_⟩; refine pS ?_; refine OkO.indexArr (len := 8) (sz := 1) (n := i) rfl rfl rfl (by kernel_rfl) (by omega) ?_; refine oN ⟨rfl, ?_⟩; refine pS ?_; refine oL rfl rfl (lda (n := 1) (by kernel_rfl) (by first | assumption | (simp (disch := first | omega | (simp only [hNw, hPt]; omega)) only [gN] <;> first | rfl | assumption)) (by first | rfl | assumption)) ?_; refine oN ⟨rfl, ?_⟩; refine pS ?_; refine oF (o := 2) rfl (by kernel_rfl) rfl ?_; refine oN ⟨rfl, ?_⟩; refine pS ?_; refine oL rfl rfl (lda (n := 1) (by kernel_rfl) (by first | assumption | (simp (disch := first | omega | (simp only [hNw, hPt]; omega)) only [gN] <;> first | rfl | assumption)) (by first | rfl | assumption)) ?_; refine oN ⟨rfl, ?_⟩; refine pS ?_; refine OkO.bin rfl rfl rfl (bin_sub (by omega) (by omega)) ?_; refine oN ⟨rfl, ?_⟩; refine pS ?_; refine oB rfl rfl rfl (builtin_max2 _ _) ?_; refine oN ⟨rfl, ?_⟩; refine pS ?_; refine oA rfl rfl ?_; refine oN ⟨rfl, ?_⟩; refine OkP.nil ?_; refine kS ?_; refine kR ?_; refine oM rfl rfl ?_; refine oM rfl rfl ?_; refine OkO.buildSlice (el := 3) (sz := 1) (z := [.int .i64 0]) rfl (by kernel_rfl) (by decide) rfl rfl ?_; refine OkO.builtinE rfl rfl rfl (Mine.app2 (k0 := W.next + 4) (sz := 1) (by_ := 8) (e := 3) (n := 1) (new := [I (max ((cutP cs (aftP cs bef (down * t.soak / 1000) cs.length) i).getD i 0 - cs[i].cap) 0)]) (hm.to (by (try dsimp only); repeat (first | exact Ext.refl _ | assumption | apply Ext.new | (refine Ext.put ?_ _ (by first | omega | (simp only [hNw, hPt]; omega)))))) (by (try dsimp only); repeat (first | (first | exact hg | exact hG) | apply Grow.new | (refine Grow.put ?_ _ (by first | omega | (simp only [hNw, hPt]; omega))))) (by omega) (by first | omega | (simp only [hNw, hPt]; omega)) (by kernel_rfl) (by kernel_rfl) (elems_new (n := 1) (sz := 1) rfl) rfl rfl (by simp only [List.length_append, List.length_map, List.length_cons, List.length_nil]; omega) (by omega) (by omega) rfl) ?_
      rintro vP4 P4 ⟨q1P4, q2P4, q3P4, q4P4, q5P4, q6P4⟩
      have hnP4 : G.next + 1 ≤ P4.next := by have := q3P4.next; simp only [hNw, hPt] at this; omega
      have f0P4 : P4.get (W.next) = some (.cells [cv, I g.slo, I g.shi, I g.klo, I g.khi, I g.melt, dv, I t.snow, I t.soak, lv, rv] 110) := by rw [q3P4.get _ (by omega) (by first | omega | (simp only [hNw, hPt]; omega))]; first | exact f0G | (simp (disch := first | omega | (simp only [hNw, hPt]; omega)) only [gN] <;> first | rfl | assumption)
      have e0P4 : (P4.get (W.next)).bind AObj.cs = some [cv, I g.slo, I g.shi, I g.klo, I g.khi, I g.melt, dv, I t.snow, I t.soak, lv, rv] := by rw [f0P4]; rfl
      have f1P4 : P4.get (W.next + 1) = some (.cells (bef.map I) 113) := by rw [q3P4.get _ (by omega) (by first | omega | (simp only [hNw, hPt]; omega))]; first | exact f1G | (simp (disch := first | omega | (simp only [hNw, hPt]; omega)) only [gN] <;> first | rfl | assumption)
      have e1P4 : (P4.get (W.next + 1)).bind AObj.cs = some (bef.map I) := by rw [f1P4]; rfl
      have f2P4 : P4.get (W.next + 2) = some (.cells [I 0, I 0, I 0, I 0, I 0, I 0, I 0, I 0, I 0, I 0] 115) := by rw [q3P4.get _ (by omega) (by first | omega | (simp only [hNw, hPt]; omega))]; first | exact f2G | (simp (disch := first | omega | (simp only [hNw, hPt]; omega)) only [gN] <;> first | rfl | assumption)
      have e2P4 : (P4.get (W.next + 2)).bind AObj.cs = some [I 0, I 0, I 0, I 0, I 0, I 0, I 0, I 0, I 0, I 0] := by rw [f2P4]; rfl
      have f3P4 : P4.get (W.next + 3) = some (.cells ((cutP cs (aftP cs bef (down * t.soak / 1000) cs.length) i).map I) 113) := by rw [q3P4.get _ (by omega) (by first | omega | (simp only [hNw, hPt]; omega))]; first | exact f3G | (simp (disch := first | omega | (simp only [hNw, hPt]; omega)) only [gN] <;> first | rfl | assumption)
      have e3P4 : (P4.get (W.next + 3)).bind AObj.cs = some ((cutP cs (aftP cs bef (down * t.soak / 1000) cs.length) i).map I) := by rw [f3P4]; rfl
      have f4P4 : P4.get G.next = some (.cells (cs[i]).c 80) := by rw [q4P4 _ (by first | omega | (simp only [hNw, hPt]; omega)) (by rintro m rfl; rcases hm with ⟨h, _⟩ | ⟨b, k, h, _, _, _, h6⟩ <;> cases h; omega)]; first | assumption | (simp (disch := first | omega | (simp only [hNw, hPt]; omega)) only [gN] <;> first | rfl | assumption)
      have e4P4 : (P4.get G.next).bind AObj.cs = some (cs[i]).c := by rw [f4P4]; rfl
      refine oA rfl rfl ?_; refine oN ?_; refine kR ?_; refine oM rfl rfl ?_; refine OkO.indexArr (len := 8) (sz := 1) (n := i) rfl rfl rfl (by kernel_rfl) (by omega) ?_; refine oL rfl rfl (lda (n := 1) (by kernel_rfl) (by first | assumption | (simp (disch := first | omega | (simp only [hNw, hPt]; omega)) only [gN] <;> first | rfl | assumption)) (by first | rfl | assumption)) ?_; refine oM rfl rfl ?_; refine OkO.bin rfl rfl rfl (bin_sub (by omega) (by omega)) ?_; refine OkO.indexArr (len := 8) (sz := 1) (n := i) rfl rfl rfl (by kernel_rfl) (by omega) ?_; refine oT rfl rfl rfl (sAc (n := 1) (ag := false) (by kernel_rfl) (by first | assumption | (simp (disch := first | omega | (simp only [hNw, hPt]; omega)) only [gN] <;> first | rfl | assumption)) rfl rfl (by first | rfl | exact spl_set _ _ _ (by first | assumption | (simp; omega)))) ?_; refine oN ?_; refine kR ?_; refine OkO.bin rfl rfl rfl (bin_add (by omega) (by omega)) ?_; refine oM rfl rfl ?_; refine oN ?_
      refine ⟨cs.length - (i + 1), by omega, i + 1, vP4, rfl, hlt, ?_, Has.of (by kernel_rfl), rfl, (by (try dsimp only); repeat (first | exact q2P4 | exact hg | exact hG | apply Grow.new | (refine Grow.put ?_ _ (by first | omega | (simp only [hNw, hPt]; omega))))), (by first | assumption | (simp (disch := first | omega | (simp only [hNw, hPt]; omega)) only [gN] <;> first | rfl | assumption)), (by first | assumption | (simp (disch := first | omega | (simp only [hNw, hPt]; omega)) only [gN] <;> first | rfl | assumption)), (by first | assumption | (simp (disch := first | omega | (simp only [hNw, hPt]; omega)) only [gN] <;> first | rfl | assumption)), ?_, by first | omega | (simp only [hNw, hPt]; omega)⟩
      · have hL : overP cs (aftP cs bef (down * t.soak / 1000) cs.length) (leftP cs bef down (down * t.soak / 1000) cs.length) (i + 1) = overP cs (aftP cs bef (down * t.soak / 1000) cs.length) (leftP cs bef down (down * t.soak / 1000) cs.length) i ++ [max ((cutP cs (aftP cs bef (down * t.soak / 1000) cs.length) i).getD i 0 - cs[i].cap) 0] := by rw [overP, hx0]
        rw [hL, List.map_append]; exact (by have q := q1P4; simp only [List.map_append, List.map_cons, List.map_nil] at q ⊢; (try dsimp only); (repeat (refine Mine.put ?_ _ (by omega))); exact q)
      · have hA : cutP cs (aftP cs bef (down * t.soak / 1000) cs.length) (i + 1) = (cutP cs (aftP cs bef (down * t.soak / 1000) cs.length) i).set i ((cutP cs (aftP cs bef (down * t.soak / 1000) cs.length) i).getD i 0 - max ((cutP cs (aftP cs bef (down * t.soak / 1000) cs.length) i).getD i 0 - cs[i].cap) 0) := by rw [cutP, hx0]
        rw [hA]; first | assumption | (simp (disch := first | omega | (simp only [hNw, hPt]; omega)) only [gN] <;> first | rfl | assumption)
    · have hge : i = cs.length := by simp at h3; omega
      subst hge
      obtain ⟨a0, a1, a2, a3, a4, a5, a6, a7, hA⟩ := list8 (a := cutP cs (aftP cs bef (down * t.soak / 1000) cs.length) cs.length) (by rw [cut_len, aft_len])
      have e3 : (G.get (W.next + 3)).bind AObj.cs = some [I a0, I a1, I a2, I a3, I a4, I a5, I a6, I a7] := by rw [f3G, hA]; rfl
      have hob := over_bd (k := 3000000) hc (haB.mono (by omega)) (by omega) (hlB.1.mono (by omega)) cs.length (Nat.le_refl _)
      have hrow : Ints G v9 (overP cs (aftP cs bef (down * t.soak / 1000) cs.length) (leftP cs bef down (down * t.soak / 1000) cs.length) cs.length) := Mine.row (l := (overP cs (aftP cs bef (down * t.soak / 1000) cs.length) (leftP cs bef down (down * t.soak / 1000) cs.length) cs.length).map fun n => [I n]) (by rw [ints_flat]; exact hm) (fun x hx => by simp only [List.mem_map] at hx; obtain ⟨y, _, rfl⟩ := hx; rfl) (by omega)
      have hlo : lenOf v9 = some (overP cs (aftP cs bef (down * t.soak / 1000) cs.length) (leftP cs bef down (down * t.soak / 1000) cs.length) cs.length).length := by simpa using hrow.len
      refine Ok.exit ?_; refine kS ?_; refine Ok.drawn [(0, true, []), (1, true, []), (2, false, [0]), (3, true, []), (4, false, [])] (by kernel_rfl) ?_; refine pS ?_; refine oL rfl rfl (ldg (n := 8) (by kernel_rfl) (by first | assumption | (simp (disch := first | omega | (simp only [hNw, hPt]; omega)) only [gN] <;> first | rfl | assumption)) (by first | rfl | assumption)) ?_; refine oN ⟨rfl, ?_⟩; refine pS ?_; refine oM rfl rfl ?_; refine oN ⟨rfl, ?_⟩; refine pS ?_; refine oV rfl rfl rfl rfl rfl (c105 _ v9 (overP cs (aftP cs bef (down * t.soak / 1000) cs.length) (leftP cs bef down (down * t.soak / 1000) cs.length) cs.length) _ hrow (by omega) (fun x hx => by have := hob.1 x hx; omega)) ?_
      refine oN ⟨(sco (sld rfl rfl (ldg (n := 8) (by kernel_rfl) (by first | assumption | (simp (disch := first | omega | (simp only [hNw, hPt]; omega)) only [gN] <;> first | rfl | assumption)) (by first | rfl | assumption)) rfl (eqr _ (by first | rfl | exact lpl (by assumption) | (simp [AV.plain, AV.plains, AV.plain])))) rfl), ?_⟩; refine pS ?_; refine OkO.build (z := [.int .i64 0, .int .i64 0, .int .i64 0, .int .i64 0, .int .i64 0, .int .i64 0, .int .i64 0, .int .i64 0, .int .i64 0, .int .i64 0]) (pl := [(0, 8), (8, 1), (9, 1)]) rfl (by kernel_rfl) rfl rfl ?_; refine oN ⟨rfl, ?_⟩; refine pS ?_; refine oT rfl rfl rfl (sAc (n := 10) (ag := true) (by kernel_rfl) (by first | assumption | (simp (disch := first | omega | (simp only [hNw, hPt]; omega)) only [gN] <;> first | rfl | assumption)) rfl rfl (by first | rfl | exact spl_set _ _ _ (by first | assumption | (simp; omega)))) ?_; refine oN ⟨rfl, ?_⟩; refine OkP.nil ?_
      refine Ok.ret ⟨.inr rfl, ?_⟩
      exact back_flat (resV_cell (b := W.next + 2) (off := 0) rfl (ldg (n := 10) (by kernel_rfl) (by first | assumption | (simp (disch := first | omega | (simp only [hNw, hPt]; omega)) only [gN] <;> first | rfl | assumption)) rfl) resV_nil) (by unfold dayL dayO; rw [hA]; rfl) (by unfold dayL dayO; rw [hA]; rfl) (by rw [← hW]; exact (by (try dsimp only); repeat (first | (first | exact hg | exact hG) | apply Grow.new | (refine Grow.put ?_ _ (by first | omega | (simp only [hNw, hPt]; omega))))))
end
end Go.Ev

set_option maxRecDepth 100000
set_option linter.unusedSimpArgs false
set_option linter.unusedVariables false
namespace Go.Ev
open Go Go.Proofs
noncomputable section
/-- The snow after some days, and what comes down on one. -/
def snowP (melt : Int) (ds : List Day) (rain : List Int) (s0 : Int) : Nat → Int
  | 0 => s0
  | i + 1 => if 0 < (ds.getD i default).warm then snowP melt ds rain s0 i - min (snowP melt ds rain s0 i) (melt * (ds.getD i default).warm) else snowP melt ds rain s0 i + rain.getD i 0
def downP (melt : Int) (ds : List Day) (rain : List Int) (s0 : Int) (i : Nat) : Int :=
  if 0 < (ds.getD i default).warm then rain.getD i 0 + min (snowP melt ds rain s0 i) (melt * (ds.getD i default).warm) else 0
def Day.lim (x : Day) : Prop := (0 ≤ x.lo ∧ x.lo ≤ x.hi ∧ x.hi ≤ 1000) ∧ (-50 ≤ x.warm ∧ x.warm ≤ 50)
theorem Day.ok_lim {x : Day} (h : x.ok = true) : x.lim := by
  simp only [Day.ok, inB, okR, Bool.and_eq_true, decide_eq_true_eq] at h
  unfold Day.lim; omega
theorem melt_bd {melt : Int} (hm : 0 ≤ melt ∧ melt ≤ 50) {x : Day} (hx : x.lim) (h : 0 < x.warm) : 0 ≤ melt * x.warm ∧ melt * x.warm ≤ 2500 := by
  unfold Day.lim at hx
  exact mul_bd hm (q := 50) ⟨by omega, by omega⟩
theorem snow_bd {melt : Int} {ds : List Day} {rain : List Int} {s0 : Int} (hm : 0 ≤ melt ∧ melt ≤ 50) (hd : ∀ x ∈ ds, x.lim) (hr : Upto 1000 rain) (h0 : 0 ≤ s0 ∧ s0 ≤ 100000) : ∀ i, i ≤ ds.length → 0 ≤ snowP melt ds rain s0 i ∧ snowP melt ds rain s0 i ≤ 100000 + 1000 * i
  | 0, _ => by simp [snowP]; omega
  | i + 1, hi => by
    have h := snow_bd hm hd hr h0 i (by omega)
    have h2 := hr.getD (by omega) i
    have hx : ds.getD i default = ds[i]'(by omega) := by simp [show i < ds.length from by omega]
    rw [snowP]
    split
    · rename_i hw
      have h3 := melt_bd hm (x := ds.getD i default) (by rw [hx]; exact hd _ (List.getElem_mem _)) hw
      push_cast; omega
    · push_cast; omega
theorem down_bd {melt : Int} {ds : List Day} {rain : List Int} {s0 : Int} (hm : 0 ≤ melt ∧ melt ≤ 50) (hd : ∀ x ∈ ds, x.lim) (hr : Upto 1000 rain) (h0 : 0 ≤ s0 ∧ s0 ≤ 100000) (i : Nat) (hi : i < ds.length) : 0 ≤ downP melt ds rain s0 i ∧ downP melt ds rain s0 i ≤ 4000 := by
  have h := snow_bd hm hd hr h0 i (by omega)
  have h2 := hr.getD (by omega) i
  have hx : ds.getD i default = ds[i] := by simp [hi]
  unfold downP
  split
  · rename_i hw
    have h3 := melt_bd hm (x := ds.getD i default) (by rw [hx]; exact hd _ (List.getElem_mem _)) hw
    omega
  · omega
theorem c103 (m : Nat) (l fb K : Nat) (cv dv lv rv : AV) (g : Gr) (t : Tru) (ds : List Day) (rain : List Int) (J : Nat → Heap → Prop) (H : Heap) (hst : ∀ i G G', J i G → Ext G G' → J i G') (hJ : ∀ i G, J i G → (G.get fb).bind AObj.cs = some [cv, I g.slo, I g.shi, I g.klo, I g.khi, I g.melt, dv, I t.snow, I t.soak, lv, rv] ∧ Row G dv 3 (ds.map Day.c) ∧ Ints G rv rain ∧ fb < G.next ∧ l < G.next)
 (hrd : ∀ i G, i < ds.length → J i G → K ≤ G.lo → ∃ v H', RR m (.round l [I (downP g.melt ds rain t.snow i), I (snowP g.melt ds rain t.snow (i + 1))]) G = some (v, H') ∧ v = .bool true ∧ J (i + 1) H' ∧ K ≤ H'.lo ∧ H'.lo ≤ l ∧ G.next ≤ H'.next)
 (h0 : J 0 H) (hK : K ≤ H.lo) (hKl : K ≤ l) (hm : 0 ≤ g.melt ∧ g.melt ≤ 50) (hds : ∀ x ∈ ds, x.lim) (hra : Upto 1000 rain) (hs0 : 0 ≤ t.snow ∧ t.snow ≤ 100000) (hdl : ds.length ≤ 1000) (hrl : rain.length = ds.length) : ∃ v H', RR (m + 1) (.fn 103 [.yield l, .ptr fb 0]) H = some (v, H') ∧ J ds.length H' ∧ K ≤ H'.lo := by
  show ∃ v H', evFn Try.prog (RR (m + 0)) 103 [.yield l, .ptr fb 0] H = some (v, H') ∧ J ds.length H' ∧ K ≤ H'.lo
  refine fn_okE Try.func103 rfl rfl (by kernel_rfl) (by kernel_rfl) ?_
  obtain ⟨W, hW, hg, hN, hE, hG⟩ := wOf H
  rw [← hW]
  clear hE hG
  have hJW : J 0 W := hst 0 H W h0 ⟨by omega, fun n _ => hg n⟩
  obtain ⟨w1, w2, w3, w4, w5⟩ := hJ 0 W hJW
  have hKW : K ≤ W.lo := by rw [hW]; show K ≤ H.next; omega
  have hld : lenOf dv = some ds.length := by simpa using w2.len
  refine kS ?_; refine kR ?_; refine oF (o := 7) rfl (by kernel_rfl) rfl ?_; refine oF (o := 0) rfl (by kernel_rfl) rfl ?_; refine oL rfl rfl (lda (n := 1) (by kernel_rfl) (by first | assumption | (simp (disch := first | omega | (simp only [hNw, hPt]; omega)) only [gN] <;> first | rfl | assumption)) (by first | rfl | assumption)) ?_; refine oA rfl rfl ?_; refine oN ?_; refine kS ?_; refine kR ?_; refine oF (o := 6) rfl (by kernel_rfl) rfl ?_; refine oL rfl rfl (lda (n := 1) (by kernel_rfl) (by first | assumption | (simp (disch := first | omega | (simp only [hNw, hPt]; omega)) only [gN] <;> first | rfl | assumption)) (by first | rfl | assumption)) ?_; refine oB rfl rfl rfl qbl ?_; refine oM rfl rfl ?_; refine oN ?_; refine Ok.block ?_
  refine Ok.loop (fun n s => ∃ i : Nat, n = ds.length - i ∧ i ≤ ds.length ∧ J i s.H ∧ K ≤ s.H.lo ∧ (0 < i → s.H.lo ≤ l) ∧ W.next ≤ s.H.next ∧ Has 6 [(0, .yield l), (1, .ptr fb 0), (3, I (snowP g.melt ds rain t.snow i)), (12, dv), (13, I ds.length), (14, I (i : Int))] s.T ∧ s.D = []) (ds.length) (by unfold loopFuel; omega)
    ⟨0, rfl, Nat.zero_le _, hJW, hKW, nofun, Nat.le_refl _, Has.of (by kernel_rfl), rfl⟩ ?_
  rintro n ⟨T, D, G⟩ ⟨i, hn, hi, hji, hKG, hlo, hgn, ⟨f, hT⟩, hD⟩
  dsimp only at *
  subst hT hD
  obtain ⟨j1, j2, j3, j4, j5⟩ := hJ i G hji
  refine kS ?_; refine kR ?_; refine OkO.bin rfl rfl rfl (bin_lss _ _) ?_; refine oN ?_; refine kS ?_
  refine Ok.cond rfl (fun h1 => ?_) (fun h1 => ?_)
  · have hlt : i < ds.length := by simpa using h1
    have hx0 : ds.getD i default = ds[i] := by simp [hlt]
    obtain ⟨bb, off, ccs, i1, i2, i3, i4⟩ := j2.at_ i ds[i].c (by simp [hlt])
    have hne : bb ≠ G.next := by omega
    have hnf : fb ≠ G.next := by omega
    obtain ⟨ub, uo, ucs, u1, u2, u3, u4⟩ := j3.at_ i [I (rain.getD i 0)] (by simp [show i < rain.length from by omega])
    have hnu : ub ≠ G.next := by omega
    have u5 := seg_one u3
    have hsb := snow_bd hm hds hra hs0 i hi
    have hrb := hra.getD (by omega) i
    have hdlm := hds _ (List.getElem_mem hlt)
    refine Ok.skip ?_; refine kS ?_; refine Ok.block ?_; refine kS ?_; refine kR ?_; refine oM rfl rfl ?_; refine qX (sz := 3) (n := i) rfl rfl rfl ?_; refine oL rfl rfl (ldg (n := 3) (by kernel_rfl) (by first | assumption | (simp (disch := first | omega | (simp only [hNw, hPt]; omega)) only [gN] <;> first | rfl | assumption)) (by first | rfl | assumption)) ?_; refine OkO.alloc (z := [.int .i64 0, .int .i64 0, .int .i64 0]) rfl (by kernel_rfl) ?_; refine oA rfl rfl ?_; refine oT rfl rfl rfl (sAc (n := 3) (ag := true) (by kernel_rfl) (by first | assumption | (simp (disch := first | omega | (simp only [hNw, hPt]; omega)) only [gN] <;> first | rfl | assumption)) rfl rfl (by first | rfl | exact spl_set _ _ _ (by first | assumption | (simp; omega)))) ?_; refine oN ?_; refine kS ?_; refine kR ?_; refine oA rfl rfl ?_; refine oN ?_; refine kS ?_; refine kS ?_; refine kR ?_; refine oF (o := 2) rfl (by kernel_rfl) rfl ?_; refine oL rfl rfl (lda (n := 1) (by kernel_rfl) (by first | assumption | (simp (disch := first | omega | (simp only [hNw, hPt]; omega)) only [gN] <;> first | rfl | assumption)) (by first | rfl | assumption)) ?_; refine OkO.bin rfl rfl rfl (bin_gtr _ _) ?_; refine oN ?_
    refine Ok.cond rfl (fun h2 => ?_) (fun h2 => ?_)
    · have hwm : 0 < ds[i].warm := by simpa using h2
      have hmb := melt_bd hm hdlm hwm
      have hd : downP g.melt ds rain t.snow i = rain.getD i 0 + min (snowP g.melt ds rain t.snow i) (g.melt * ds[i].warm) := by unfold downP; rw [hx0, if_pos hwm]
      have hs : snowP g.melt ds rain t.snow (i + 1) = (snowP g.melt ds rain t.snow i) - min (snowP g.melt ds rain t.snow i) (g.melt * ds[i].warm) := by rw [snowP, hx0, if_pos hwm]
      have hrd2 : ∀ G, J i G → K ≤ G.lo → ∃ v H', RR m (.round l [I (rain.getD i 0 + min (snowP g.melt ds rain t.snow i) (g.melt * ds[i].warm)), I ((snowP g.melt ds rain t.snow i) - min (snowP g.melt ds rain t.snow i) (g.melt * ds[i].warm))]) G = some (v, H') ∧ v = .bool true ∧ J (i + 1) H' ∧ K ≤ H'.lo ∧ H'.lo ≤ l ∧ G.next ≤ H'.next := fun G h1 h2 => by have q := hrd i G hlt h1 h2; rw [hd, hs] at q; exact q
      refine kS ?_; refine kR ?_; refine oM rfl rfl ?_; refine oF (o := 0) rfl (by kernel_rfl) rfl ?_; refine oF (o := 5) rfl (by kernel_rfl) rfl ?_; refine oL rfl rfl (lda (n := 1) (by kernel_rfl) (by first | assumption | (simp (disch := first | omega | (simp only [hNw, hPt]; omega)) only [gN] <;> first | rfl | assumption)) (by first | rfl | assumption)) ?_; refine oF (o := 2) rfl (by kernel_rfl) rfl ?_; refine oL rfl rfl (lda (n := 1) (by kernel_rfl) (by first | assumption | (simp (disch := first | omega | (simp only [hNw, hPt]; omega)) only [gN] <;> first | rfl | assumption)) (by first | rfl | assumption)) ?_; refine OkO.bin rfl rfl rfl (bin_mul (by omega) (by omega)) ?_; refine oB rfl rfl rfl (builtin_min2 _ _) ?_; refine oA rfl rfl ?_; refine oN ?_; refine kS ?_; refine kR ?_; refine oM rfl rfl ?_; refine oM rfl rfl ?_; refine OkO.bin rfl rfl rfl (bin_sub (by omega) (by omega)) ?_; refine oA rfl rfl ?_; refine oN ?_; refine kR ?_; refine oF (o := 7) rfl (by kernel_rfl) rfl ?_; refine oF (o := 3) rfl (by kernel_rfl) rfl ?_; refine oL rfl rfl (lda (n := 1) (by kernel_rfl) (by first | assumption | (simp (disch := first | omega | (simp only [hNw, hPt]; omega)) only [gN] <;> first | rfl | assumption)) (by first | rfl | assumption)) ?_; refine oM rfl rfl ?_; refine qX (sz := 1) (n := i) rfl rfl rfl ?_; refine oL rfl rfl (lda (n := 1) (by kernel_rfl) (by first | assumption | (simp (disch := first | omega | (simp only [hNw, hPt]; omega)) only [gN] <;> first | rfl | assumption)) (by first | rfl | assumption)) ?_; refine oM rfl rfl ?_; refine OkO.bin rfl rfl rfl (bin_add (by omega) (by omega)) ?_; refine oA rfl rfl ?_; refine oN ?_; refine kS ?_; refine kR ?_; refine oM rfl rfl ?_; refine oM rfl rfl ?_; refine oM rfl rfl ?_; refine OkO.roundE rfl rfl rfl rfl (hrd2 _ (hst i _ _ hji (by (try dsimp only); repeat (first | exact Ext.refl _ | assumption | apply Ext.new | (refine Ext.put ?_ _ (by first | omega | (simp only [hNw, hPt]; omega)))))) (by simp only [Heap.lo_put, Heap.lo_new]; omega)) ?_
      rintro v H2 ⟨rfl, jn1, jn2, jn3, jn4⟩
      simp only [hNw, hPt] at jn4
      refine OkO.un rfl rfl rfl ?_; refine oN ?_
      refine Ok.cond rfl (fun h3 => ?_) (fun h3 => ?_)
      · simp at h3
      · refine Ok.skip ?_
        refine kR ?_; refine OkO.bin rfl rfl rfl (bin_add (by omega) (by omega)) ?_; refine oM rfl rfl ?_; refine oN ?_
        refine ⟨ds.length - (i + 1), by omega, i + 1, rfl, hlt, jn1, jn2, fun _ => jn3, ?_, ?_, rfl⟩
        · show W.next ≤ H2.next; omega
        · rw [hs]; exact Has.of (by kernel_rfl)
    · have hwm : ¬0 < ds[i].warm := by simpa using h2
      have hd : downP g.melt ds rain t.snow i = 0 := by unfold downP; rw [hx0, if_neg hwm]
      have hs : snowP g.melt ds rain t.snow (i + 1) = (snowP g.melt ds rain t.snow i) + rain.getD i 0 := by rw [snowP, hx0, if_neg hwm]
      have hrd2 : ∀ G, J i G → K ≤ G.lo → ∃ v H', RR m (.round l [I 0, I ((snowP g.melt ds rain t.snow i) + rain.getD i 0)]) G = some (v, H') ∧ v = .bool true ∧ J (i + 1) H' ∧ K ≤ H'.lo ∧ H'.lo ≤ l ∧ G.next ≤ H'.next := fun G h1 h2 => by have q := hrd i G hlt h1 h2; rw [hd, hs] at q; exact q
      refine kR ?_; refine oM rfl rfl ?_; refine oF (o := 7) rfl (by kernel_rfl) rfl ?_; refine oF (o := 3) rfl (by kernel_rfl) rfl ?_; refine oL rfl rfl (lda (n := 1) (by kernel_rfl) (by first | assumption | (simp (disch := first | omega | (simp only [hNw, hPt]; omega)) only [gN] <;> first | rfl | assumption)) (by first | rfl | assumption)) ?_; refine oM rfl rfl ?_; refine qX (sz := 1) (n := i) rfl rfl rfl ?_; refine oL rfl rfl (lda (n := 1) (by kernel_rfl) (by first | assumption | (simp (disch := first | omega | (simp only [hNw, hPt]; omega)) only [gN] <;> first | rfl | assumption)) (by first | rfl | assumption)) ?_; refine OkO.bin rfl rfl rfl (bin_add (by omega) (by omega)) ?_; refine oA rfl rfl ?_; refine oN ?_; refine kS ?_; refine kR ?_; refine oM rfl rfl ?_; refine oM rfl rfl ?_; refine oM rfl rfl ?_; refine OkO.roundE rfl rfl rfl rfl (hrd2 _ (hst i _ _ hji (by (try dsimp only); repeat (first | exact Ext.refl _ | assumption | apply Ext.new | (refine Ext.put ?_ _ (by first | omega | (simp only [hNw, hPt]; omega)))))) (by simp only [Heap.lo_put, Heap.lo_new]; omega)) ?_
      rintro v H2 ⟨rfl, jn1, jn2, jn3, jn4⟩
      simp only [hNw, hPt] at jn4
      refine OkO.un rfl rfl rfl ?_; refine oN ?_
      refine Ok.cond rfl (fun h4 => ?_) (fun h4 => ?_)
      · simp at h4
      · refine Ok.skip ?_
        refine kR ?_; refine OkO.bin rfl rfl rfl (bin_add (by omega) (by omega)) ?_; refine oM rfl rfl ?_; refine oN ?_
        refine ⟨ds.length - (i + 1), by omega, i + 1, rfl, hlt, jn1, jn2, fun _ => jn3, ?_, ?_, rfl⟩
        · show W.next ≤ H2.next; omega
        · rw [hs]; exact Has.of (by kernel_rfl)
  · have hge : i = ds.length := by simp at h1; omega
    refine Ok.exit ?_
    refine ⟨.inl rfl, ?_⟩
    subst hge
    obtain ⟨H2, q1, q2⟩ := back_any (H := H) (T := _) (G := G) (fn := Try.f103) (P := Try.prog) (vs := []) rfl rfl
    refine ⟨_, H2, q1, ?_⟩
    rcases q2 with ⟨q2, q3⟩ | ⟨q2, q3, q4⟩
    · by_cases hz : ds.length = 0
      · rw [q2, hz]; exact ⟨h0, hK⟩
      · exact absurd (hlo (by omega)) (by omega)
    · exact ⟨hst _ G H2 hji ⟨by omega, fun n _ => q2 n⟩, q4 K hK hKG⟩
end
end Go.Ev

set_option maxRecDepth 100000
set_option linter.unusedSimpArgs false
set_option linter.unusedVariables false
namespace Go.Ev
open Go Go.Proofs
noncomputable section
noncomputable def as54 : Code := match Try.f54.body.bind rangeOf with | some r => r.1 | none => .skip
noncomputable def bd54 : Code := match Try.f54.body.bind rangeOf with | some r => r.2 | none => .skip
/-- What a run has made when some days have passed. -/
structure RunJ (W : Heap) (N : Nat) (fc : List AV) (T0 : Tr AV) (lev : Nat → List Int) (ev : Nat → List AV) (i : Nat) (G : Heap) : Prop where
  ext : Ext W G
  n : N + 6 ≤ G.next
  b0 : G.get N = some (.cells fc 110)
  b1 : G.get (N + 1) = some (.cells ((lev i).map I) 113)
  b2 : ∃ v, G.get (N + 2) = some (.cells [v] 108) ∧ Mine (N + 6) G v 115 10 ((List.range i).map ev).flatten
  b3 : G.get (N + 3) = some (.cells fc 110)
  b4 : G.get (N + 4) = some .defd
  b5 : G.get (N + 5) = some (.loop .ready none T0 [15, 16] as54 bd54 (N + 4))
theorem RunJ.to {W : Heap} {N : Nat} {fc : List AV} {T0 : Tr AV} {lev : Nat → List Int} {ev : Nat → List AV} {i : Nat} {G G' : Heap} (h : RunJ W N fc T0 lev ev i G) (g : Ext G G') : RunJ W N fc T0 lev ev i G' := by
  have hn := h.n
  obtain ⟨v, h2, h3⟩ := h.b2
  exact ⟨h.ext.trans g, Nat.le_trans hn g.next, by rw [g.get _ (by omega)]; exact h.b0, by rw [g.get _ (by omega)]; exact h.b1, ⟨v, by rw [g.get _ (by omega)]; exact h2, h3.to g⟩, by rw [g.get _ (by omega)]; exact h.b3, by rw [g.get _ (by omega)]; exact h.b4, by rw [g.get _ (by omega)]; exact h.b5⟩
/-- The levels after some days, and what left on one. -/
def levP (cs : List Cell) (g : Gr) (ds : List Day) (t : Tru) (lvs rain : List Int) : Nat → List Int
  | 0 => lvs ++ List.replicate (8 - lvs.length) 0
  | i + 1 => dayL cs (levP cs g ds t lvs rain i) (downP g.melt ds rain t.snow i) t.soak
def leftD (cs : List Cell) (g : Gr) (ds : List Day) (t : Tru) (lvs rain : List Int) (i : Nat) : Int := dayO cs (levP cs g ds t lvs rain i) (downP g.melt ds rain t.snow i) t.soak
def evC (cs : List Cell) (g : Gr) (ds : List Day) (t : Tru) (lvs rain : List Int) (i : Nat) : List AV := (levP cs g ds t lvs rain (i + 1)).map I ++ [I (leftD cs g ds t lvs rain i), I (snowP g.melt ds rain t.snow (i + 1))]
/-- A truth that a run can take. -/
structure Fit (cs : List Cell) (g : Gr) (ds : List Day) (t : Tru) (lvs rain : List Int) : Prop where
  n8 : 1 ≤ cs.length ∧ cs.length ≤ 8
  lim : ∀ x ∈ cs, x.lim
  to_ : toOk (cs.length : Int) 0 cs = true
  melt : 0 ≤ g.melt ∧ g.melt ≤ 50
  d30 : ds.length ≤ 30
  dlim : ∀ x ∈ ds, x.lim
  ll : lvs.length = cs.length
  lb : ∀ (i : Nat) x n, cs[i]? = some x → lvs[i]? = some n → 0 ≤ n ∧ n ≤ x.cap
  rl : rain.length = ds.length
  rb : Upto 1000 rain
  snow : 0 ≤ t.snow ∧ t.snow ≤ 100000
  soak : 0 ≤ t.soak ∧ t.soak ≤ 1000
theorem cut_cap {cs : List Cell} {a : List Int} {k : Int} (hc : ∀ x ∈ cs, x.lim) (h : Upto k a) (hk : 0 ≤ k) (ha : a.length = 8) (hn : cs.length ≤ 8) : ∀ i, i ≤ cs.length → (∀ j, j < i → (cutP cs a i).getD j 0 ≤ (cs.getD j default).cap ∧ (cutP cs a i).getD j 0 = min (a.getD j 0) (cs.getD j default).cap) ∧ ∀ j, i ≤ j → (cutP cs a i).getD j 0 = a.getD j 0
  | 0, _ => ⟨nofun, fun _ _ => rfl⟩
  | i + 1, hi => by
    obtain ⟨h1, h2⟩ := cut_cap hc h hk ha hn i (by omega)
    have hlen := cut_len cs a i
    have e : ∀ j, (cutP cs a (i + 1)).getD j 0 = if i = j then (cutP cs a i).getD i 0 - max ((cutP cs a i).getD i 0 - (cs.getD i default).cap) 0 else (cutP cs a i).getD j 0 := by
      intro j
      rw [cutP, List.getD_eq_getElem?_getD, List.getElem?_set]
      split
      · rename_i hij
        rw [if_pos (by omega)]
        rfl
      · rw [← List.getD_eq_getElem?_getD]
    refine ⟨fun j hj => ?_, fun j hj => ?_⟩
    · rw [e j]
      split
      · rename_i hij
        subst hij
        rw [h2 i (Nat.le_refl _)]
        omega
      · exact h1 j (by omega)
    · rw [e j, if_neg (by omega)]
      exact h2 j (by omega)
theorem upto_lev {a : List Int} (h : ∀ j, 0 ≤ a.getD j 0 ∧ a.getD j 0 ≤ 100000) : Upto 100000 a := fun z hz => by
  obtain ⟨j, hj, rfl⟩ := List.mem_iff_getElem.1 hz
  have := h j
  rwa [List.getD_eq_getElem?_getD, List.getElem?_eq_getElem hj] at this
/-- What is in the places of an array that no cell has. -/
def Zed (n : Nat) (a : List Int) : Prop := ∀ j, n ≤ j → a.getD j 0 = 0
theorem aft_zed {cs : List Cell} {bef : List Int} {so : Int} (ht : toOk (cs.length : Int) 0 cs = true) : ∀ i, i ≤ cs.length → Zed cs.length (aftP cs bef so i)
  | 0, _ => fun j _ => by
    rw [aftP, List.getD_eq_getElem?_getD]
    match j with
    | 0 | 1 | 2 | 3 | 4 | 5 | 6 | 7 => rfl
    | j + 8 => rfl
  | i + 1, hi => by
    have h := aft_zed (so := so) (bef := bef) ht i (by omega)
    have hx : cs.getD i default = cs[i]'(by omega) := by simp [show i < cs.length from by omega]
    have hto := (toOk_iff _ _ _).1 ht i (cs[i]'(by omega)) (List.getElem?_eq_getElem (by omega))
    have hz : ∀ (a : List Int) (k : Nat) (z : Int), k < cs.length → Zed cs.length a → Zed cs.length (a.set k z) := by
      intro a k z hk ha j hj
      rw [List.getD_eq_getElem?_getD, List.getElem?_set, if_neg (by omega), ← List.getD_eq_getElem?_getD]
      exact ha j hj
    rw [aftP, stepA, hx]
    refine hz _ _ _ (by omega) ?_
    split
    · exact h
    · rename_i hne
      refine hz _ _ _ ?_ h
      have := hto.1
      simp [inB] at this
      omega
theorem day_facts {cs : List Cell} {bef : List Int} {down soak : Int} (hc : ∀ x ∈ cs, x.lim) (ht : toOk (cs.length : Int) 0 cs = true) (hn : cs.length ≤ 8) (hb : Upto 100000 bef) (hd : 0 ≤ down ∧ down ≤ 4000) (hs : 0 ≤ soak ∧ soak ≤ 1000) :
    (dayL cs bef down soak).length = 8 ∧ Upto 100000 (dayL cs bef down soak) ∧ (∀ j, j < cs.length → (dayL cs bef down soak).getD j 0 = min ((aftP cs bef (down * soak / 1000) cs.length).getD j 0) (cs.getD j default).cap) ∧ Zed cs.length (dayL cs bef down soak) := by
  have hmb := mul_bd (a := down) (b := soak) (p := 4000) (q := 1000) hd hs
  have hA := aft_bd (so := down * soak / 1000) hc hb (by omega) cs.length (Nat.le_refl _)
  have hl := aft_len cs bef (down * soak / 1000) cs.length
  obtain ⟨h1, h2⟩ := cut_cap hc hA (by omega) hl hn cs.length (Nat.le_refl _)
  have hz := aft_zed (so := down * soak / 1000) (bef := bef) ht cs.length (Nat.le_refl _)
  have hcut := cut_bd hc hA (by omega) cs.length (Nat.le_refl _)
  refine ⟨by unfold dayL; rw [cut_len, hl], upto_lev fun j => ?_, fun j hj => (h1 j hj).2, fun j hj => by unfold dayL; rw [h2 j hj]; exact hz j hj⟩
  unfold dayL
  have h0 := hcut.getD (by omega) j
  by_cases hj : j < cs.length
  · have h3 := (h1 j hj).1
    have hx : cs.getD j default = cs[j] := by simp [hj]
    have h4 := hc (cs.getD j default) (by rw [hx]; exact List.getElem_mem _)
    unfold Cell.lim at h4
    omega
  · rw [h2 j (by omega), hz j (by omega)]; omega
theorem lev_facts {cs : List Cell} {g : Gr} {ds : List Day} {t : Tru} {lvs rain : List Int} (h : Fit cs g ds t lvs rain) : ∀ i, i ≤ ds.length → (levP cs g ds t lvs rain i).length = 8 ∧ Upto 100000 (levP cs g ds t lvs rain i)
  | 0, _ => by
    have hn := h.n8
    have hl := h.ll
    refine ⟨by simp [levP]; omega, fun z hz => ?_⟩
    rw [levP] at hz
    rcases List.mem_append.1 hz with hz | hz
    · obtain ⟨j, hj, rfl⟩ := List.mem_iff_getElem.1 hz
      have h1 := h.lb j (cs[j]'(by omega)) lvs[j] (List.getElem?_eq_getElem (by omega)) (List.getElem?_eq_getElem hj)
      have h2 := h.lim _ (List.getElem_mem (show j < cs.length by omega))
      unfold Cell.lim at h2
      omega
    · have := (List.mem_replicate.1 hz).2; omega
  | i + 1, hi => by
    have h1 := lev_facts h i (by omega)
    have h2 := day_facts (down := downP g.melt ds rain t.snow i) (soak := t.soak) h.lim h.to_ h.n8.2 h1.2 (down_bd h.melt h.dlim h.rb h.snow i (by omega)) h.soak
    rw [levP]
    exact ⟨h2.1, h2.2.1⟩
theorem r54 (m N i : Nat) (cv dv lv rv : AV) (cs : List Cell) (g : Gr) (ds : List Day) (t : Tru) (lvs rain : List Int) (T0 : Tr AV) (W G : Heap) (hR : Row W cv 7 (cs.map Cell.c)) (hF : Fit cs g ds t lvs rain) (hN : W.next = N) (hi : i < ds.length) (hH : Has 5 [(1, .ptr N 0), (3, .ptr (N + 1) 0), (4, .ptr (N + 2) 0)] T0) (hJ : RunJ W N [cv, I g.slo, I g.shi, I g.klo, I g.khi, I g.melt, dv, I t.snow, I t.soak, lv, rv] T0 (levP cs g ds t lvs rain) (evC cs g ds t lvs rain) i G) (hlo : N ≤ G.lo) :
    ∃ v H', RR (m + 3) (.round (N + 5) [I (downP g.melt ds rain t.snow i), I (snowP g.melt ds rain t.snow (i + 1))]) G = some (v, H') ∧ v = .bool true ∧ RunJ W N [cv, I g.slo, I g.shi, I g.klo, I g.khi, I g.melt, dv, I t.snow, I t.soak, lv, rv] T0 (levP cs g ds t lvs rain) (evC cs g ds t lvs rain) (i + 1) H' ∧ N ≤ H'.lo ∧ H'.lo ≤ N + 5 ∧ G.next ≤ H'.next := by
  show ∃ v H', evRound Try.prog (RR (m + 2)) (N + 5) [I (downP g.melt ds rain t.snow i), I (snowP g.melt ds rain t.snow (i + 1))] G = some (v, H') ∧ v = .bool true ∧ RunJ W N [cv, I g.slo, I g.shi, I g.klo, I g.khi, I g.melt, dv, I t.snow, I t.soak, lv, rv] T0 (levP cs g ds t lvs rain) (evC cs g ds t lvs rain) (i + 1) H' ∧ N ≤ H'.lo ∧ H'.lo ≤ N + 5 ∧ G.next ≤ H'.next
  subst hN
  obtain ⟨f, hT⟩ := hH
  subst hT
  obtain ⟨N, hN⟩ : ∃ N, N = W.next := ⟨_, rfl⟩
  rw [← hN] at hJ hlo ⊢
  have hg : Grow W G := ⟨hJ.ext.next, hJ.ext.get, by omega⟩
  have hn6 := hJ.n
  have f0 := hJ.b0
  have f1 := hJ.b1
  obtain ⟨v0, f2, hmv⟩ := hJ.b2
  have hmv2 : ∀ o, Mine (N + 6) (G.put (N + 5) o) v0 115 10 _ := fun o => hmv.put o (by omega)
  have f3 := hJ.b3
  have f4 := hJ.b4
  have f5 := hJ.b5
  have hlf := lev_facts hF i (by omega)
  have hdb := down_bd hF.melt hF.dlim hF.rb hF.snow i hi
  have hdf := day_facts (down := (downP g.melt ds rain t.snow i)) (soak := t.soak) hF.lim hF.to_ hF.n8.2 hlf.2 hdb hF.soak
  obtain ⟨a0, a1, a2, a3, a4, a5, a6, a7, hA⟩ := list8 hdf.1
  obtain ⟨p0, p1, p2, p3, p4, p5, p6, p7, hP⟩ := list8 hlf.1
  have hL1 : levP cs g ds t lvs rain (i + 1) = [a0, a1, a2, a3, a4, a5, a6, a7] := hA
  have hE1 : (List.map (evC cs g ds t lvs rain) [i]).flatten = [I a0, I a1, I a2, I a3, I a4, I a5, I a6, I a7, I (leftD cs g ds t lvs rain i), I (snowP g.melt ds rain t.snow (i + 1))] := by simp [evC, hL1]
  have hc82 : ∀ G', Ext W G' → RR (m + 2) (.fn 82 [.agg [cv, I g.slo, I g.shi, I g.klo, I g.khi, I g.melt, dv, I t.snow, I t.soak, lv, rv], .agg ([p0, p1, p2, p3, p4, p5, p6, p7].map I), I (downP g.melt ds rain t.snow i)]) G' = some (.agg [I a0, I a1, I a2, I a3, I a4, I a5, I a6, I a7, I (leftD cs g ds t lvs rain i), I 0], G') := fun G' hx => by
    have q := c82 m cv dv lv rv cs g t (levP cs g ds t lvs rain i) (downP g.melt ds rain t.snow i) G' (hR.ext hx) hF.n8.2 hF.lim hF.to_ hlf.1 hlf.2 hdb hF.soak
    rw [hA, hP] at q
    rw [show leftD cs g ds t lvs rain i = dayO cs [p0, p1, p2, p3, p4, p5, p6, p7] (downP g.melt ds rain t.snow i) t.soak from by rw [← hP]; rfl]
    exact q
  rw [hP] at f1
  have hml : ((List.range i).map (evC cs g ds t lvs rain)).flatten.length = i * 10 := by
    rw [flat_len _ 10 (fun x hx => by simp only [List.mem_map, List.mem_range] at hx; obtain ⟨y, hy, rfl⟩ := hx; have := lev_facts hF (y + 1) (by omega); simp [evC, this.1])]; simp
  have hi30 := hF.d30
  have e0 : (G.get N).bind AObj.cs = some [cv, I g.slo, I g.shi, I g.klo, I g.khi, I g.melt, dv, I t.snow, I t.soak, lv, rv] := by rw [f0]; rfl
  have e1 : (G.get (N + 1)).bind AObj.cs = some ([p0, p1, p2, p3, p4, p5, p6, p7].map I) := by rw [f1]; rfl
  have e2 : (G.get (N + 2)).bind AObj.cs = some [v0] := by rw [f2]; rfl
  refine round_ok f5 rfl ?_; refine kS ?_; refine kR ?_; refine oA rfl rfl ?_; refine oN ?_; refine kR ?_; refine oA rfl rfl ?_; refine oN ?_
  refine ⟨rfl, _, _, _, _, _, _, hJ.b5, ?_⟩; refine Ok.block ?_; refine kS ?_; refine kR ?_; refine oL rfl rfl (ldg (n := 11) (by kernel_rfl) (by first | assumption | (simp (disch := first | omega | (simp only [hNw, hPt]; omega)) only [gN] <;> first | rfl | assumption)) (by first | rfl | assumption)) ?_; refine oL rfl rfl (ldg (n := 8) (by kernel_rfl) (by first | assumption | (simp (disch := first | omega | (simp only [hNw, hPt]; omega)) only [gN] <;> first | rfl | assumption)) (by first | rfl | assumption)) ?_; refine oM rfl rfl ?_; refine oV rfl rfl rfl rfl rfl (hc82 _ (Grow.ext (W := W) (by (try dsimp only); repeat (first | exact q2 | exact hg | apply Grow.new | (refine Grow.put ?_ _ (by first | omega | (simp only [hNw, hPt]; omega))))))) ?_; refine OkO.alloc (z := [.int .i64 0, .int .i64 0, .int .i64 0, .int .i64 0, .int .i64 0, .int .i64 0, .int .i64 0, .int .i64 0, .int .i64 0, .int .i64 0]) rfl (by kernel_rfl) ?_; refine oT rfl rfl rfl (sAc (n := 10) (ag := true) (by kernel_rfl) (by first | assumption | (simp (disch := first | omega | (simp only [hNw, hPt]; omega)) only [gN] <;> first | rfl | assumption)) rfl rfl (by first | rfl | exact spl_set _ _ _ (by first | assumption | (simp; omega)))) ?_; refine oN ?_; refine kS ?_; refine kR ?_; refine oM rfl rfl ?_; refine oF (o := 9) rfl (by kernel_rfl) rfl ?_; refine oT rfl rfl rfl (sAc (n := 1) (ag := false) (by kernel_rfl) (by first | assumption | (simp (disch := first | omega | (simp only [hNw, hPt]; omega)) only [gN] <;> first | rfl | assumption)) rfl rfl (by first | rfl | exact spl_set _ _ _ (by first | assumption | (simp; omega)))) ?_; refine oN ?_; refine kS ?_; refine kR ?_; refine oF (o := 0) rfl (by kernel_rfl) rfl ?_; refine oL rfl rfl (ldg (n := 8) (by kernel_rfl) (by first | assumption | (simp (disch := first | omega | (simp only [hNw, hPt]; omega)) only [gN] <;> first | rfl | assumption)) (by first | rfl | assumption)) ?_; refine oT rfl rfl rfl (sAc (n := 8) (ag := true) (by kernel_rfl) (by first | assumption | (simp (disch := first | omega | (simp only [hNw, hPt]; omega)) only [gN] <;> first | rfl | assumption)) rfl rfl (by first | rfl | exact spl_set _ _ _ (by first | assumption | (simp; omega)))) ?_; refine oN ?_; refine kR ?_; refine oL rfl rfl (lda (n := 1) (by kernel_rfl) (by first | assumption | (simp (disch := first | omega | (simp only [hNw, hPt]; omega)) only [gN] <;> first | rfl | assumption)) (by first | rfl | assumption)) ?_; refine oL rfl rfl (ldg (n := 10) (by kernel_rfl) (by first | assumption | (simp (disch := first | omega | (simp only [hNw, hPt]; omega)) only [gN] <;> first | rfl | assumption)) (by first | rfl | assumption)) ?_; refine OkO.buildSlice (el := 115) (sz := 10) (z := [.int .i64 0, .int .i64 0, .int .i64 0, .int .i64 0, .int .i64 0, .int .i64 0, .int .i64 0, .int .i64 0, .int .i64 0, .int .i64 0]) rfl (by kernel_rfl) (by decide) rfl rfl ?_
  -- append
  refine OkO.builtinE rfl rfl rfl (Mine.app2 (W := W) (k0 := N + 6) (sz := 10) (by_ := 80) (e := 115) (n := 1) (new := [I a0, I a1, I a2, I a3, I a4, I a5, I a6, I a7, I (leftD cs g ds t lvs rain i), I (snowP g.melt ds rain t.snow (i + 1))]) (by dsimp only; exact Mine.to (Mine.put (Mine.to (hmv2 (.loop .busy none (mkT 5 0 1 (upd f [(1, .ptr N 0), (3, .ptr (N + 1) 0), (4, .ptr (N + 2) 0)])) [15, 16] as54 bd54 (N + 4))) (by (try dsimp only); repeat (first | exact Ext.refl _ | assumption | apply Ext.new | (refine Ext.put ?_ _ (by first | omega | (simp only [hNw, hPt]; omega)))))) _ (by omega)) (Grow.toNew _ _)) (by (try dsimp only); repeat (first | exact q2 | exact hg | apply Grow.new | (refine Grow.put ?_ _ (by first | omega | (simp only [hNw, hPt]; omega))))) (by omega) (by first | omega | (simp only [hNw, hPt]; omega)) (by kernel_rfl) (by kernel_rfl) (elems_new (n := 1) (sz := 10) rfl) rfl rfl (by rw [hml]; omega) (by omega) (by omega) rfl) ?_
  rintro v2 G2 ⟨q1, q2, q3, q4, q5, q6⟩
  simp only [hNw, hPt] at q5
  have z0 : G2.get N = some (.cells [cv, I g.slo, I g.shi, I g.klo, I g.khi, I g.melt, dv, I t.snow, I t.soak, lv, rv] 110) := by rw [q3.get _ (by omega) (by first | omega | (simp only [hNw, hPt]; omega))]; simp (disch := first | omega | (simp only [hNw, hPt]; omega)) only [gN] <;> first | rfl | assumption
  have z1 : G2.get (N + 1) = some (.cells [I a0, I a1, I a2, I a3, I a4, I a5, I a6, I a7] 113) := by rw [q3.get _ (by omega) (by first | omega | (simp only [hNw, hPt]; omega))]; simp (disch := first | omega | (simp only [hNw, hPt]; omega)) only [gN] <;> first | rfl | assumption
  have z2 : G2.get (N + 2) = some (.cells [v0] 108) := by rw [q3.get _ (by omega) (by first | omega | (simp only [hNw, hPt]; omega))]; simp (disch := first | omega | (simp only [hNw, hPt]; omega)) only [gN] <;> first | rfl | assumption
  have z3 : G2.get (N + 3) = some (.cells [cv, I g.slo, I g.shi, I g.klo, I g.khi, I g.melt, dv, I t.snow, I t.soak, lv, rv] 110) := by rw [q3.get _ (by omega) (by first | omega | (simp only [hNw, hPt]; omega))]; simp (disch := first | omega | (simp only [hNw, hPt]; omega)) only [gN] <;> first | rfl | assumption
  have z4 : G2.get (N + 4) = some .defd := by rw [q3.get _ (by omega) (by first | omega | (simp only [hNw, hPt]; omega))]; simp (disch := first | omega | (simp only [hNw, hPt]; omega)) only [gN] <;> first | rfl | assumption
  have z5 : G2.get (N + 5) = some (.loop .busy none (mkT 5 0 1 (upd f [(1, .ptr N 0), (3, .ptr (N + 1) 0), (4, .ptr (N + 2) 0)])) [15, 16] as54 bd54 (N + 4)) := by rw [q3.get _ (by omega) (by first | omega | (simp only [hNw, hPt]; omega))]; simp (disch := first | omega | (simp only [hNw, hPt]; omega)) only [gN] <;> first | rfl | assumption
  obtain ⟨bb2, mm, hv2⟩ : ∃ b m, v2 = .opn b m := (let ⟨m, h⟩ := q6; ⟨_, m, h⟩)
  subst hv2
  refine oT rfl rfl rfl (sAc (n := 1) (ag := false) (by kernel_rfl) (by first | assumption | (simp (disch := first | omega | (simp only [hNw, hPt]; omega)) only [gN] <;> first | rfl | assumption)) rfl rfl (by first | rfl | exact spl_set _ _ _ (by first | assumption | (simp; omega)))) ?_; refine oN ?_
  have hgg : Grow W ((G2.put (N + 2) (.cells [.opn bb2 mm] 108)).put (N + 5) (.loop .ready none (mkT 5 0 1 (upd f [(1, .ptr N 0), (3, .ptr (N + 1) 0), (4, .ptr (N + 2) 0)])) [15, 16] as54 bd54 (N + 4))) := (q2.put _ (by omega)).put _ (by omega)
  refine ⟨rfl, _, _, _, _, _, _, _, (by rw [gpo _ _ _ _ (by omega)]; exact z5), rfl, ?_, ?_, ?_, ?_⟩
  · refine ⟨hgg.ext, by simp only [hPt]; omega, ?_, ?_, ⟨.opn bb2 mm, ?_, ?_⟩, ?_, ?_, ?_⟩
    · (simp (disch := first | omega | (simp only [hNw, hPt]; omega)) only [gN] <;> first | rfl | assumption)
    · rw [hL1]; (simp (disch := first | omega | (simp only [hNw, hPt]; omega)) only [gN] <;> first | rfl | assumption)
    · (simp (disch := first | omega | (simp only [hNw, hPt]; omega)) only [gN] <;> first | rfl | assumption)
    · rw [List.range_succ, List.map_append, List.flatten_append]; refine Mine.put (Mine.put ?_ _ (by omega)) _ (by omega); rw [hE1]; exact q1
    · (simp (disch := first | omega | (simp only [hNw, hPt]; omega)) only [gN] <;> first | rfl | assumption)
    · (simp (disch := first | omega | (simp only [hNw, hPt]; omega)) only [gN] <;> first | rfl | assumption)
    · (simp (disch := first | omega | (simp only [hNw, hPt]; omega)) only [gN] <;> first | rfl | assumption)
  · have := hgg.lo; rw [← hN] at this; exact this
  · rw [Heap.lo_put]; omega
  · simp only [hPt]; omega
end
end Go.Ev

set_option maxRecDepth 100000
set_option linter.unusedSimpArgs false
set_option linter.unusedVariables false
namespace Go.Ev
open Go Go.Proofs
noncomputable section
theorem spl_pad (l : List Int) (h : l.length ≤ 8) : spl [I 0, I 0, I 0, I 0, I 0, I 0, I 0, I 0] 0 (l.map I) = some ((l ++ List.replicate (8 - l.length) 0).map I) := by
  have e : spl [I 0, I 0, I 0, I 0, I 0, I 0, I 0, I 0] 0 (l.map I) = (match Nat.ble (0 + (l.map I).length) 8 with
    | true => some ([] ++ (l.map I ++ (List.replicate 8 (I 0)).drop (0 + (l.map I).length)))
    | false => none) := rfl
  rw [e, Nat.ble_eq_true_of_le (by simp; omega)]
  simp only [List.nil_append, List.map_append, List.map_replicate, List.length_map, Nat.zero_add, List.drop_replicate]
theorem c81 (m : Nat) (cv dv lv rv : AV) (g : Gr) (t : Tru) (H : Heap)  : ∃ v H', RR (m + 1) (.fn 81 [.agg [cv, I g.slo, I g.shi, I g.klo, I g.khi, I g.melt, dv, I t.snow, I t.soak, lv, rv]]) H = some (v, H') ∧ v = .fn 103 [] [.ptr H.next 0] ∧ Ret H H' ∧ H'.get H.next = some (.cells [cv, I g.slo, I g.shi, I g.klo, I g.khi, I g.melt, dv, I t.snow, I t.soak, lv, rv] 110) ∧ H'.next = H.next + 1 := by
  show ∃ v H', evFn Try.prog (RR (m + 0)) 81 [.agg [cv, I g.slo, I g.shi, I g.klo, I g.khi, I g.melt, dv, I t.snow, I t.soak, lv, rv]] H = some (v, H') ∧ v = .fn 103 [] [.ptr H.next 0] ∧ Ret H H' ∧ H'.get H.next = some (.cells [cv, I g.slo, I g.shi, I g.klo, I g.khi, I g.melt, dv, I t.snow, I t.soak, lv, rv] 110) ∧ H'.next = H.next + 1
  refine fn_okE Try.func81 rfl rfl (by kernel_rfl) (by kernel_rfl) ?_
  obtain ⟨W, hW, hg, hN, hE, hG⟩ := wOf H
  rw [← hW]
  refine kS ?_; refine kR ?_; refine OkO.box rfl rfl ?_; refine oA rfl rfl ?_; refine oN ?_; refine kS ?_; refine kR ?_; refine OkO.makeFunc rfl rfl rfl ?_; refine oA rfl rfl ?_; refine oN ?_
  refine Ok.ret ⟨.inr rfl, ?_⟩
  exact back_newQ (resV_tmp rfl resV_nil) (by rw [hN]; rfl) (by rw [← hW]; exact (by (try dsimp only); repeat (first | exact hG | apply Grow.new | (refine Grow.put ?_ _ (by first | omega | (simp only [hNw, hPt]; omega)))))) rfl (fun H' p1 p2 p3 => ⟨rfl, p1, by rw [p2, ← hN]; exact gn0 _ _, by rw [p3, ← hN]; rfl⟩)
theorem c54 (m : Nat) (cv dv lv rv : AV) (cs : List Cell) (g : Gr) (ds : List Day) (t : Tru) (lvs rain : List Int) (H : Heap) (hR : Row H cv 7 (cs.map Cell.c)) (hD : Row H dv 3 (ds.map Day.c)) (hL : Ints H lv lvs) (hA : Ints H rv rain) (hF : Fit cs g ds t lvs rain) : ∃ v H', RR (m + 5) (.fn 54 [.agg [cv, I g.slo, I g.shi, I g.klo, I g.khi, I g.melt, dv, I t.snow, I t.soak, lv, rv]]) H = some (v, H') ∧ Ret H H' ∧ Row H' v 10 ((List.range ds.length).map (evC cs g ds t lvs rain)) ∧ Cut H' v 10 := by
  show ∃ v H', evFn Try.prog (RR (m + 4)) 54 [.agg [cv, I g.slo, I g.shi, I g.klo, I g.khi, I g.melt, dv, I t.snow, I t.soak, lv, rv]] H = some (v, H') ∧ Ret H H' ∧ Row H' v 10 ((List.range ds.length).map (evC cs g ds t lvs rain)) ∧ Cut H' v 10
  refine fn_okE Try.func54 rfl rfl (by kernel_rfl) (by kernel_rfl) ?_
  obtain ⟨W, hW, hg, hN, hE, hG⟩ := wOf H
  rw [← hW]
  have hll : lenOf lv = some lvs.length := by simpa using hL.len
  have hlc : lenOf cv = some cs.length := by simpa using hR.len
  have hn8 := hF.n8
  have hflv := hF.ll
  refine kS ?_; refine kR ?_; refine OkO.box rfl rfl ?_; refine oA rfl rfl ?_; refine oN ?_; refine kS ?_; refine kR ?_; refine OkO.alloc (z := [.int .i64 0, .int .i64 0, .int .i64 0, .int .i64 0, .int .i64 0, .int .i64 0, .int .i64 0, .int .i64 0]) rfl (by kernel_rfl) ?_; refine oN ?_; refine kS ?_; refine Ok.drawn [(0, true, []), (1, true, []), (2, true, []), (3, true, []), (4, false, [])] (by kernel_rfl) ?_; refine pS ?_; refine OkO.sliceArr (len := 8) (sz := 1) (m := 8) rfl rfl (by kernel_rfl) rfl rfl (by omega) ?_; refine oN ⟨rfl, ?_⟩; refine pS ?_; refine oF (o := 7) rfl (by kernel_rfl) rfl ?_; refine oN ⟨rfl, ?_⟩; refine pS ?_; refine oF (o := 2) rfl (by kernel_rfl) rfl ?_; refine oN ⟨rfl, ?_⟩; refine pS ?_; refine oL rfl rfl (lda (n := 1) (by kernel_rfl) (by first | assumption | (simp (disch := first | omega | (simp only [hNw, hPt]; omega)) only [gN] <;> first | rfl | assumption)) (by first | rfl | assumption)) ?_; refine oN ⟨rfl, ?_⟩; refine pS ?_; refine oB rfl rfl rfl (builtin_copy (el := 113) (sz := 1) (n := lvs.length) (cs := [I 0, I 0, I 0, I 0, I 0, I 0, I 0, I 0]) (new := lvs.map I) (l := (levP cs g ds t lvs rain 0).map I) (by kernel_rfl) (by rw [← ints_flat]; exact (hL.ext (hE _ (by (try dsimp only); repeat (first | exact hG | apply Grow.new | (refine Grow.put ?_ _ (by first | omega | (simp only [hNw, hPt]; omega))))))).elems (fun x hx => by simp only [List.mem_map] at hx; obtain ⟨y, _, rfl⟩ := hx; rfl)) hll (by simp (disch := first | omega | (simp only [hNw, hPt]; omega)) only [gN] <;> first | rfl | assumption) (by omega) (atoms_ints _) (spl_pad lvs (by omega))) ?_; refine oN ⟨rfl, ?_⟩; refine OkP.nil ?_; refine kS ?_; refine kR ?_; refine OkO.alloc (z := [.nils]) rfl (by kernel_rfl) ?_; refine oN ?_; refine kS ?_; refine kS ?_; refine kR ?_; refine oL rfl rfl (ldg (n := 11) (by kernel_rfl) (by first | assumption | (simp (disch := first | omega | (simp only [hNw, hPt]; omega)) only [gN] <;> first | rfl | assumption)) (by first | rfl | assumption)) ?_; refine oE rfl rfl rfl rfl rfl (c81 (m + 3) cv dv lv rv g t _) ?_
  rintro v81 H81 ⟨rfl, q81, z3, n81⟩
  simp only [hNw, hPt] at z3 n81
  have z0 : H81.get (W.next) = some (.cells [cv, I g.slo, I g.shi, I g.klo, I g.khi, I g.melt, dv, I t.snow, I t.soak, lv, rv] 110) := by rw [q81.ext.get _ (by simp only [hNw, hPt]; omega)]; first | exact gn0 _ _ | (simp (disch := first | omega | (simp only [hNw, hPt]; omega)) only [gN] <;> first | rfl | assumption | exact gp0 _ _ _)
  have z1 : H81.get (W.next + 1) = some (.cells ((levP cs g ds t lvs rain 0).map I) 113) := by rw [q81.ext.get _ (by simp only [hNw, hPt]; omega)]; first | exact gn0 _ _ | (simp (disch := first | omega | (simp only [hNw, hPt]; omega)) only [gN] <;> first | rfl | assumption | exact gp0 _ _ _)
  have z2 : H81.get (W.next + 2) = some (.cells [.nils] 108) := by rw [q81.ext.get _ (by simp only [hNw, hPt]; omega)]; first | exact gn0 _ _ | (simp (disch := first | omega | (simp only [hNw, hPt]; omega)) only [gN] <;> first | rfl | assumption | exact gp0 _ _ _)
  have g81 : Grow W H81 := Grow.ret (by (try dsimp only); repeat (first | exact hG | apply Grow.new | (refine Grow.put ?_ _ (by first | omega | (simp only [hNw, hPt]; omega))))) q81
  have x81 : Ext W H81 := g81.ext
  refine oN ?_; refine Ok.block ?_
  refine Ok.rangeT rfl rfl (fun T0 hT0 => ?_)
  have hH : Has 5 [(1, .ptr W.next 0), (3, .ptr (W.next + 1) 0), (4, .ptr (W.next + 2) 0)] T0 := by rw [hT0]; exact Has.of (by kernel_rfl)
  have hJ0 : RunJ W W.next [cv, I g.slo, I g.shi, I g.klo, I g.khi, I g.melt, dv, I t.snow, I t.soak, lv, rv] T0 (levP cs g ds t lvs rain) (evC cs g ds t lvs rain) 0 ((H81.new .defd).new (.loop .ready none T0 [15, 16] as54 bd54 (W.next + 4))) := ⟨(x81.new _).new _, by simp only [hNw]; omega, by rw [gno _ _ _ (by simp only [hNw]; omega), gno _ _ _ (by omega)]; exact z0, by rw [gno _ _ _ (by simp only [hNw]; omega), gno _ _ _ (by omega)]; exact z1, ⟨.nils, by rw [gno _ _ _ (by simp only [hNw]; omega), gno _ _ _ (by omega)]; exact z2, Mine.nil _ _ _ _⟩, by rw [gno _ _ _ (by simp only [hNw]; omega), gno _ _ _ (by omega)]; exact z3, by rw [gno _ _ _ (by simp only [hNw]; omega), ← n81]; exact gn0 _ _, by rw [show W.next + 5 = H81.next + 1 from by omega]; exact gn1 _ _ _⟩
  have hRW : Row W cv 7 (cs.map Cell.c) := hR.ext ⟨by omega, fun n _ => hg n⟩
  have hDW : Row W dv 3 (ds.map Day.c) := hD.ext ⟨by omega, fun n _ => hg n⟩
  have hAW : Ints W rv rain := hA.ext ⟨by omega, fun n _ => hg n⟩
  obtain ⟨v3, H3, k1, k2, k3⟩ := c103 (m + 3) (W.next + 5) (W.next + 3) W.next cv dv lv rv g t ds rain (RunJ W W.next [cv, I g.slo, I g.shi, I g.klo, I g.khi, I g.melt, dv, I t.snow, I t.soak, lv, rv] T0 (levP cs g ds t lvs rain) (evC cs g ds t lvs rain)) ((H81.new .defd).new (.loop .ready none T0 [15, 16] as54 bd54 (W.next + 4))) (fun i G G' h x => h.to x) (fun i G h => ⟨by rw [h.b3]; rfl, hDW.ext h.ext, hAW.ext h.ext, by have := h.n; omega, by have := h.n; omega⟩) (fun i G hi hj hk => r54 m W.next i cv dv lv rv cs g ds t lvs rain T0 W G hRW hF rfl hi hH hj hk) hJ0 (by show W.next ≤ H81.lo; exact g81.lo) (by omega) hF.melt hF.dlim hF.rb hF.snow (by have := hF.d30; omega) hF.rl
  have kn := k2.n
  obtain ⟨v0, y2, ym⟩ := k2.b2
  rw [n81]
  refine ⟨v3, H3, k1, T0, [15, 16], as54, bd54, W.next + 4, k2.b5, ?_⟩
  have g3 : Grow W H3 := ⟨k2.ext.next, k2.ext.get, k3⟩
  have y2b : (H3.get (W.next + 2)).bind AObj.cs = some [v0] := by rw [y2]; rfl
  clear k1
  refine kS ?_; refine kR ?_; refine oL rfl rfl (lda (n := 1) (by kernel_rfl) (by first | assumption | (simp (disch := first | omega | (simp only [hNw, hPt]; omega)) only [gN] <;> first | rfl | assumption)) (by first | rfl | assumption)) ?_; refine oA rfl rfl ?_; refine oN ?_
  refine Ok.ret ⟨.inr rfl, ?_⟩
  rw [back_mark (d := W.next + 4) (by rw [gpo _ _ _ _ (by omega), gpo _ _ _ _ (by omega)]; exact k2.b4)]
  have ymm := ((ym.put (n := W.next + 5) (.loop .exhausted none T0 [15, 16] as54 bd54 (W.next + 4)) (by omega)).put (n := W.next + 5) .dead (by omega)).put (n := W.next + 4) .shut (by omega)
  exact back_newA (resV_tmp rfl resV_nil) rfl (by rw [← hW]; exact ((g3.put _ (by omega)).put _ (by omega)).put _ (by omega)) (fun H2 r2 r3 => ⟨r2, Mine.back ymm (fun x hx => by simp only [List.mem_map, List.mem_range] at hx; obtain ⟨y, hy, rfl⟩ := hx; have := lev_facts hF (y + 1) (by omega); simp [evC, this.1]) (by omega) r3⟩)
end
end Go.Ev

set_option maxRecDepth 100000
set_option linter.unusedSimpArgs false
set_option linter.unusedVariables false
namespace Go.Ev
open Go Go.Proofs
noncomputable section
/-- What is appended to an empty slice that was just made, if it is anything. -/
theorem app_lit2 {P : Program} {G : Heap} {t u e el : TypeId} {sz by_ : Nat} {x : AV} {rows : List (List AV)} (hu : isSlice P u = true) (ht : elemTI P t = some (e, sz, by_)) (hr : Row (G.new (.cells [] el)) x sz rows) (hs : ∀ y ∈ rows, y.length = sz)
    (hb : rows.length * (by_ + 1) ≤ 4294967296) (hz : 0 < sz) (ha : atoms rows.flatten = true) (hn : 0 < rows.length) :
    builtinF P (G.new (.cells [] el)) .append [t, u] [.slice G.next 0 0 0, x] = some (.val (.opn (G.next + 1) rows.length) ((G.new (.cells [] el)).new (.opn rows.flatten e sz))) := by
  have he := hr.elems hs
  have hl := hr.len
  have e1 : builtinF P (G.new (.cells [] el)) .append [t, u] [.slice G.next 0 0 0, x] = (append P (G.new (.cells [] el)) t (.slice G.next 0 0 0) x).map fun (v, H) => .val v H := by
    show (appendT P _ t u _ x).map _ = _
    unfold appendT
    unfold isSlice at hu
    split at hu
    · rename_i e; rw [e]
    · cases hu
  have e2 := append_go (s := .slice G.next 0 0 0) ht he hl rfl (by simpa using hb) hz ha
  rw [e1, e2]
  unfold append.appendGo
  dsimp only
  rw [show Nat.ble (0 + rows.length) 0 = false from by cases h : Nat.ble (0 + rows.length) 0 with | false => rfl | true => (have := Nat.le_of_ble_eq_true h; omega)]
  dsimp only
  rw [show elems (G.new (.cells [] el)) (.slice G.next 0 0 0) sz = some [] from rfl]
  simp
theorem ints_of_cells {G : Heap} {b n cap : Nat} {a : List Int} {rest : List AV} {o : AObj} (h : G.get b = some o) (ho : o.cs = some (a.map I ++ rest)) (hn : n ≤ a.length) (hb : b < G.next) : Ints G (.slice b 0 n cap) (a.take n) := by
  refine ⟨by simp [lenOf, hn], fun i x k => ?_⟩
  rw [List.getElem?_map, Option.map_eq_some_iff] at k
  obtain ⟨z, k1, rfl⟩ := k
  have hi := (List.getElem?_eq_some_iff.1 k1).1
  simp only [List.length_take] at hi
  have hia : i < a.length := by omega
  refine ⟨b, 0 + i * 1, a.map I ++ rest, by simp only [slAt]; rw [if_pos (by omega)], by rw [h]; exact ho, ?_, hb⟩
  rw [List.getElem?_take, if_pos (by omega), List.getElem?_eq_getElem hia] at k1
  cases k1
  unfold seg
  rw [Nat.zero_add, Nat.mul_one, List.drop_append_of_le_length (by simp; omega), List.drop_eq_getElem_cons (by simpa using hia)]
  simp
/-- Lists of numbers, each in a block of its own, none of them that of either slice. -/
def RowsAt (G : Heap) (v6 v7 : AV) (vs : List AV) (rows : List (List Int)) : Prop := vs.length = rows.length ∧ ∀ (j : Nat) x r, vs[j]? = some x → rows[j]? = some r → ∃ b, x = .opn b r.length ∧ G.get b = some (.opn (r.map I) 3 1) ∧ b < G.next ∧ (∀ m, v6 ≠ .opn b m) ∧ (∀ m, v7 ≠ .opn b m)
theorem RowsAt.keep {G G' : Heap} {v6 v7 w6 w7 : AV} {vs : List AV} {rows : List (List Int)} (h : RowsAt G v6 v7 vs rows) (hk : ∀ j, j < G.next → (∀ m, v6 ≠ .opn j m) → (∀ m, v7 ≠ .opn j m) → G'.get j = G.get j) (hn : G.next ≤ G'.next)
    (h6 : ∀ b m, w6 = .opn b m → G.next ≤ b ∨ v6 = w6) (h7 : ∀ b m, w7 = .opn b m → G.next ≤ b ∨ v7 = w7) : RowsAt G' w6 w7 vs rows := by
  refine ⟨h.1, fun j x r k1 k2 => ?_⟩
  obtain ⟨b, a1, a2, a3, a4, a5⟩ := h.2 j x r k1 k2
  refine ⟨b, a1, by rw [hk b a3 a4 a5]; exact a2, by omega, fun m hm => ?_, fun m hm => ?_⟩
  · rcases h6 b m hm with h | h
    · omega
    · exact a4 m (h.trans hm)
  · rcases h7 b m hm with h | h
    · omega
    · exact a5 m (h.trans hm)
theorem RowsAt.snoc {G : Heap} {v6 v7 : AV} {vs : List AV} {rows : List (List Int)} (h : RowsAt G v6 v7 vs rows) {b : Nat} {r : List Int} (h1 : G.get b = some (.opn (r.map I) 3 1)) (h2 : b < G.next) (h3 : ∀ m, v6 ≠ .opn b m) (h4 : ∀ m, v7 ≠ .opn b m) : RowsAt G v6 v7 (vs ++ [.opn b r.length]) (rows ++ [r]) := by
  refine ⟨by simp [h.1], fun j x q k1 k2 => ?_⟩
  have hl := h.1
  by_cases hj : j < vs.length
  · rw [List.getElem?_append_left hj] at k1
    rw [List.getElem?_append_left (by omega)] at k2
    exact h.2 j x q k1 k2
  · have hj2 : j = vs.length := by
      have := (List.getElem?_eq_some_iff.1 k1).1
      simp at this; omega
    subst hj2
    simp at k1
    rw [hl] at k2
    simp at k2
    subst k1 k2
    exact ⟨b, rfl, h1, h2, h3, h4⟩
/-- A slice of lists of numbers. -/
def Lists (G : Heap) (v : AV) (rows : List (List Int)) : Prop := ∃ vs : List AV, Row G v 1 (vs.map fun x => [x]) ∧ vs.length = rows.length ∧ ∀ (j : Nat) x r, vs[j]? = some x → rows[j]? = some r → Ints G x r
theorem Lists.ext {H G : Heap} {v : AV} {rows : List (List Int)} (h : Lists H v rows) (g : Ext H G) : Lists G v rows := let ⟨vs, h1, h2, h3⟩ := h; ⟨vs, h1.ext g, h2, fun j x r k1 k2 => (h3 j x r k1 k2).ext g⟩
theorem RowsAt.lists {G G' : Heap} {v6 v7 : AV} {vs : List AV} {rows : List (List Int)} (h : RowsAt G v6 v7 vs rows) (hr : Row G' v6 1 (vs.map fun x => [x])) (hg : vs = [] ∨ ((∀ n, G'.get n = G.get n) ∧ G'.next = G.next)) : Lists G' v6 rows := by
  refine ⟨vs, hr, h.1, fun j x r k1 k2 => ?_⟩
  rcases hg with rfl | ⟨g1, g2⟩
  · simp at k1
  · obtain ⟨b, rfl, a2, a3, _, _⟩ := h.2 j x r k1 k2
    have : Mine 0 G (.opn b r.length) 3 1 ((r.map fun n => [I n]).flatten) := .inr ⟨b, r.length, rfl, by rw [ints_flat]; exact a2, by rw [ints_flat]; simp, by omega, a3⟩
    exact (this.row (fun x hx => by simp only [List.mem_map] at hx; obtain ⟨y, _, rfl⟩ := hx; rfl) (by omega)).same g1 g2
theorem singles {vs : List AV} : (vs.map fun x => [x]).flatten = vs := by induction vs with | nil => rfl | cons a l ih => simp [ih]
theorem c55 (m : Nat) (bb n cap : Nat) (us : List Int) (H : Heap) (hU : Ints H (.slice bb 0 n cap) us) (hl : us.length ≤ 1000) (h0 : 0 < us.length) : ∃ v H', RR (m + 1) (.fn 55 [.slice bb 0 n cap]) H = some (v, H') ∧ v = .opn (H.next + 1) us.length ∧ Ret H H' ∧ H'.get (H.next + 1) = some (.opn (us.map I) 3 1) ∧ H'.next = H.next + 2 := by
  show ∃ v H', evFn Try.prog (RR (m + 0)) 55 [.slice bb 0 n cap] H = some (v, H') ∧ v = .opn (H.next + 1) us.length ∧ Ret H H' ∧ H'.get (H.next + 1) = some (.opn (us.map I) 3 1) ∧ H'.next = H.next + 2
  refine fn_okE Try.func55 rfl rfl (by kernel_rfl) (by kernel_rfl) ?_
  obtain ⟨W, hW, hg, hN, hE, hG⟩ := wOf H
  rw [← hW]
  refine kS ?_; refine kR ?_; refine oA rfl rfl ?_; refine oN ?_; refine kS ?_; refine kS ?_; refine kR ?_; refine oM rfl rfl ?_; refine OkO.binT rfl rfl rfl (by rfl) ?_; refine oN ?_
  refine Ok.cond rfl (fun h1 => ?_) (fun h1 => ?_)
  · refine kS ?_
    refine kR ?_; refine oA rfl rfl ?_; refine oN ?_
    refine Ok.ret ⟨.inr rfl, ?_⟩
    exact absurd h1 (by simp)
  · refine Ok.skip ?_
    refine kS ?_; refine kR ?_; refine OkO.buildSlice (el := 3) (sz := 1) (z := [.int .i64 0]) rfl (by kernel_rfl) (by decide) rfl rfl ?_; refine oM rfl rfl ?_
    -- append
    refine oB rfl rfl rfl (app_lit2 (el := 3) (sz := 1) (by_ := 8) (e := 3) (rows := us.map fun n => [I n]) (by kernel_rfl) (by kernel_rfl) ((hU.ext (hE _ hG)).ext (Grow.toNew _ _)) (fun x hx => by simp only [List.mem_map] at hx; obtain ⟨y, _, rfl⟩ := hx; rfl) (by simp; omega) (by omega) (by rw [ints_flat]; exact atoms_ints us) (by simpa using h0)) ?_; refine oA rfl rfl ?_; refine oN ?_
    refine Ok.ret ⟨.inr rfl, ?_⟩
    exact back_newQ (resV_tmp rfl resV_nil) (by rw [List.length_map, hN]; rfl) (by rw [← hW]; exact (by (try dsimp only); repeat (first | exact hG | apply Grow.new | (refine Grow.put ?_ _ (by first | omega | (simp only [hNw, hPt]; omega)))))) rfl (fun H' q1 q2 q3 => ⟨rfl, q1, by rw [q2, ← hN]; rw [ints_flat]; exact gn1 _ _ _, by rw [q3, ← hN]; rfl⟩)
end
end Go.Ev

