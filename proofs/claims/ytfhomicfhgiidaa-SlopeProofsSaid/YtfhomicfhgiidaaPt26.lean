/-
  Functions of the program, reckoned by the evaluator: what each answers, and that it leaves what came in as it was.
-/
import Derived.Test.YtfhomicfhgiidaaEvX2
import Derived.KernelRfl
import Derived.Test.YtfhomicfhgiidaaProg
import Derived.Test.YtfhomicfhgiidaaEvY
import Derived.WideShapes
import Derived.Test.YtfhomicfhgiidaaEvM
set_option maxRecDepth 100000
set_option linter.unusedSimpArgs false
set_option linter.unusedVariables false
namespace Go.Ev
open Go Go.Proofs
noncomputable section
abbrev I (n : Int) : AV := .int .i64 n
/-- Is a number from lo to hi? -/
def inB (a lo hi : Int) : Bool := decide (lo ≤ a) && decide (a ≤ hi)
/-- Is a range one from 0 to most? -/
def okR (lo hi most : Int) : Bool := decide (0 ≤ lo) && decide (lo ≤ hi) && decide (hi ≤ most)
def RR (m : Nat) : Rec := runO Try.prog (closedO 17 (.bool true)) m
theorem R_fn (m : Nat) (f : FuncId) (a : AV) (l : List AV) (H : Heap) : RR (m + 1) (.fn f (a :: l)) H = evFn Try.prog (RR m) f (a :: l) H := rfl
theorem c37 (m : Nat) (a lo hi : Int) (H : Heap)  : RR (m + 1) (.fn 37 [I a, I lo, I hi]) H = some (.bool (inB a lo hi), H) := by
  refine (R_fn _ _ _ _ _).trans ?_; refine fn_ok Try.func37 rfl rfl (by kernel_rfl) (by kernel_rfl) ?_
  obtain ⟨W, hW, hg, hN, hE, hG⟩ := wOf H
  rw [← hW]
  refine kS ?_; refine kR ?_; refine oA rfl rfl ?_; refine oN ?_; refine kS ?_; refine kR ?_; refine oM rfl rfl ?_; refine oM rfl rfl ?_; refine OkO.bin rfl rfl rfl (bin_geq _ _) ?_; refine oM rfl rfl ?_
  refine OkO.split (d := 10) rfl (fun g1 => ?_) (fun g1 => ?_)
  · refine oM rfl rfl ?_
    refine oM rfl rfl ?_; refine OkO.bin rfl rfl rfl (bin_leq _ _) ?_; refine OkO.pick (b := true) rfl rfl (fun _ => rfl) nofun ?_; refine oA rfl rfl ?_; refine oN ?_
    refine Ok.ret ⟨.inr rfl, ?_⟩
    exact back_flat rfl (by first | rfl | exact congrArg AV.bool (by clear hg hN hG hE; first | (simp_all [inB]; done) | (rw [Bool.eq_iff_iff]; simp [inB] at *; omega))) rfl (by rw [← hW]; exact (by (try dsimp only); repeat (first | exact hG | apply Grow.new | (refine Grow.put ?_ _ (by first | omega | (simp only [hNw, hPt]; omega))))))
  · refine oK rfl ?_
    refine oK rfl ?_; refine oK rfl ?_; refine OkO.pick (b := false) rfl rfl nofun (fun _ => rfl) ?_; refine oA rfl rfl ?_; refine oN ?_
    refine Ok.ret ⟨.inr rfl, ?_⟩
    exact back_flat rfl (by first | rfl | exact congrArg AV.bool (by clear hg hN hG hE; first | (simp_all [inB]; done) | (rw [Bool.eq_iff_iff]; simp [inB] at *; omega))) rfl (by rw [← hW]; exact (by (try dsimp only); repeat (first | exact hG | apply Grow.new | (refine Grow.put ?_ _ (by first | omega | (simp only [hNw, hPt]; omega))))))
theorem c88 (m : Nat) (a b x : Int) (H : Heap)  : RR (m + 1) (.fn 88 [.agg [I a, I b], I x]) H = some (.bool (inB x a b), H) := by
  refine (R_fn _ _ _ _ _).trans ?_; refine fn_ok Try.func88 rfl rfl (by kernel_rfl) (by kernel_rfl) ?_
  obtain ⟨W, hW, hg, hN, hE, hG⟩ := wOf H
  rw [← hW]
  refine kS ?_; refine kR ?_; refine OkO.box rfl rfl ?_; refine oA rfl rfl ?_; refine oN ?_; refine kS ?_; refine kR ?_; refine oF (o := 0) rfl (by kernel_rfl) rfl ?_; refine oL rfl rfl (qla1 1) ?_; refine oM rfl rfl ?_; refine OkO.bin rfl rfl rfl (bin_leq _ _) ?_; refine oM rfl rfl ?_
  refine OkO.split (d := 9) rfl (fun g1 => ?_) (fun g1 => ?_)
  · refine oM rfl rfl ?_
    refine oF (o := 1) rfl (by kernel_rfl) rfl ?_; refine oL rfl rfl (qla1 1) ?_; refine OkO.bin rfl rfl rfl (bin_leq _ _) ?_; refine OkO.pick (b := true) rfl rfl (fun _ => rfl) nofun ?_; refine oA rfl rfl ?_; refine oN ?_
    refine Ok.ret ⟨.inr rfl, ?_⟩
    exact back_flat rfl (by first | rfl | exact congrArg AV.bool (by clear hg hN hG hE; first | (simp_all [inB]; done) | (rw [Bool.eq_iff_iff]; simp [inB] at *; omega))) rfl (by rw [← hW]; exact (by (try dsimp only); repeat (first | exact hG | apply Grow.new | (refine Grow.put ?_ _ (by first | omega | (simp only [hNw, hPt]; omega))))))
  · refine oK rfl ?_
    refine oK rfl ?_; refine oK rfl ?_; refine oK rfl ?_; refine OkO.pick (b := false) rfl rfl nofun (fun _ => rfl) ?_; refine oA rfl rfl ?_; refine oN ?_
    refine Ok.ret ⟨.inr rfl, ?_⟩
    exact back_flat rfl (by first | rfl | exact congrArg AV.bool (by clear hg hN hG hE; first | (simp_all [inB]; done) | (rw [Bool.eq_iff_iff]; simp [inB] at *; omega))) rfl (by rw [← hW]; exact (by (try dsimp only); repeat (first | exact hG | apply Grow.new | (refine Grow.put ?_ _ (by first | omega | (simp only [hNw, hPt]; omega))))))
theorem c106 (m : Nat) (a b x : Int) (H : Heap)  : RR (m + 1) (.fn 106 [.agg [I a, I b], I x]) H = some (.bool (okR a b x), H) := by
  refine (R_fn _ _ _ _ _).trans ?_; refine fn_ok Try.func106 rfl rfl (by kernel_rfl) (by kernel_rfl) ?_
  obtain ⟨W, hW, hg, hN, hE, hG⟩ := wOf H
  rw [← hW]
  refine kS ?_; refine kR ?_; refine OkO.box rfl rfl ?_; refine oA rfl rfl ?_; refine oN ?_; refine kS ?_; refine kR ?_; refine oF (o := 0) rfl (by kernel_rfl) rfl ?_; refine oL rfl rfl (qla1 1) ?_; refine OkO.bin rfl rfl rfl (bin_leq _ _) ?_; refine oM rfl rfl ?_
  refine OkO.split (d := 8) rfl (fun g1 => ?_) (fun g1 => ?_)
  · refine oF (o := 0) rfl (by kernel_rfl) rfl ?_
    refine oL rfl rfl (qla1 1) ?_; refine oF (o := 1) rfl (by kernel_rfl) rfl ?_; refine oL rfl rfl (qla1 1) ?_; refine OkO.bin rfl rfl rfl (bin_leq _ _) ?_; refine OkO.pick (b := true) rfl rfl (fun _ => rfl) nofun ?_; refine oM rfl rfl ?_
    refine OkO.split (d := 15) rfl (fun g2 => ?_) (fun g2 => ?_)
    · refine oF (o := 1) rfl (by kernel_rfl) rfl ?_
      refine oL rfl rfl (qla1 1) ?_; refine oM rfl rfl ?_; refine OkO.bin rfl rfl rfl (bin_leq _ _) ?_; refine OkO.pick (b := true) rfl rfl (fun _ => rfl) nofun ?_; refine oA rfl rfl ?_; refine oN ?_
      refine Ok.ret ⟨.inr rfl, ?_⟩
      exact back_flat rfl (by first | rfl | exact congrArg AV.bool (by clear hg hN hG hE; first | (simp_all [okR]; done) | (rw [Bool.eq_iff_iff]; simp [okR] at *; omega))) rfl (by rw [← hW]; exact (by (try dsimp only); repeat (first | exact hG | apply Grow.new | (refine Grow.put ?_ _ (by first | omega | (simp only [hNw, hPt]; omega))))))
    · refine oK rfl ?_
      refine oK rfl ?_; refine oK rfl ?_; refine oK rfl ?_; refine OkO.pick (b := false) rfl rfl nofun (fun _ => rfl) ?_; refine oA rfl rfl ?_; refine oN ?_
      refine Ok.ret ⟨.inr rfl, ?_⟩
      exact back_flat rfl (by first | rfl | exact congrArg AV.bool (by clear hg hN hG hE; first | (simp_all [okR]; done) | (rw [Bool.eq_iff_iff]; simp [okR] at *; omega))) rfl (by rw [← hW]; exact (by (try dsimp only); repeat (first | exact hG | apply Grow.new | (refine Grow.put ?_ _ (by first | omega | (simp only [hNw, hPt]; omega))))))
  · refine oK rfl ?_
    refine oK rfl ?_; refine oK rfl ?_; refine oK rfl ?_; refine oK rfl ?_; refine OkO.pick (b := false) rfl rfl nofun (fun _ => rfl) ?_; refine oM rfl rfl ?_; refine oK rfl ?_; refine oK rfl ?_; refine oK rfl ?_; refine oK rfl ?_; refine OkO.pick (b := false) rfl rfl nofun (fun _ => rfl) ?_; refine oA rfl rfl ?_; refine oN ?_
    refine Ok.ret ⟨.inr rfl, ?_⟩
    exact back_flat rfl (by first | rfl | exact congrArg AV.bool (by clear hg hN hG hE; first | (simp_all [okR]; done) | (rw [Bool.eq_iff_iff]; simp [okR] at *; omega))) rfl (by rw [← hW]; exact (by (try dsimp only); repeat (first | exact hG | apply Grow.new | (refine Grow.put ?_ _ (by first | omega | (simp only [hNw, hPt]; omega))))))
theorem c64 (m : Nat) (a b x : Int) (H : Heap)  : RR (m + 1) (.fn 64 [.agg [I a, I b], I x]) H = some (.bool (okR a b x), H) := by
  refine (R_fn _ _ _ _ _).trans ?_; refine fn_ok Try.func64 rfl rfl (by kernel_rfl) (by kernel_rfl) ?_
  obtain ⟨W, hW, hg, hN, hE, hG⟩ := wOf H
  rw [← hW]
  refine kS ?_; refine kR ?_; refine OkO.box rfl rfl ?_; refine oA rfl rfl ?_; refine oN ?_; refine kS ?_; refine kR ?_; refine oF (o := 0) rfl (by kernel_rfl) rfl ?_; refine oL rfl rfl (qla1 1) ?_; refine OkO.bin rfl rfl rfl (bin_geq _ _) ?_; refine oM rfl rfl ?_
  refine OkO.split (d := 8) rfl (fun g1 => ?_) (fun g1 => ?_)
  · refine oF (o := 0) rfl (by kernel_rfl) rfl ?_
    refine oL rfl rfl (qla1 1) ?_; refine oF (o := 1) rfl (by kernel_rfl) rfl ?_; refine oL rfl rfl (qla1 1) ?_; refine OkO.bin rfl rfl rfl (bin_leq _ _) ?_; refine OkO.pick (b := true) rfl rfl (fun _ => rfl) nofun ?_; refine oM rfl rfl ?_
    refine OkO.split (d := 15) rfl (fun g2 => ?_) (fun g2 => ?_)
    · refine oF (o := 1) rfl (by kernel_rfl) rfl ?_
      refine oL rfl rfl (qla1 1) ?_; refine oM rfl rfl ?_; refine OkO.bin rfl rfl rfl (bin_leq _ _) ?_; refine OkO.pick (b := true) rfl rfl (fun _ => rfl) nofun ?_; refine oA rfl rfl ?_; refine oN ?_
      refine Ok.ret ⟨.inr rfl, ?_⟩
      exact back_flat rfl (by first | rfl | exact congrArg AV.bool (by clear hg hN hG hE; first | (simp_all [okR]; done) | (rw [Bool.eq_iff_iff]; simp [okR] at *; omega))) rfl (by rw [← hW]; exact (by (try dsimp only); repeat (first | exact hG | apply Grow.new | (refine Grow.put ?_ _ (by first | omega | (simp only [hNw, hPt]; omega))))))
    · refine oK rfl ?_
      refine oK rfl ?_; refine oK rfl ?_; refine oK rfl ?_; refine OkO.pick (b := false) rfl rfl nofun (fun _ => rfl) ?_; refine oA rfl rfl ?_; refine oN ?_
      refine Ok.ret ⟨.inr rfl, ?_⟩
      exact back_flat rfl (by first | rfl | exact congrArg AV.bool (by clear hg hN hG hE; first | (simp_all [okR]; done) | (rw [Bool.eq_iff_iff]; simp [okR] at *; omega))) rfl (by rw [← hW]; exact (by (try dsimp only); repeat (first | exact hG | apply Grow.new | (refine Grow.put ?_ _ (by first | omega | (simp only [hNw, hPt]; omega))))))
  · refine oK rfl ?_
    refine oK rfl ?_; refine oK rfl ?_; refine oK rfl ?_; refine oK rfl ?_; refine OkO.pick (b := false) rfl rfl nofun (fun _ => rfl) ?_; refine oM rfl rfl ?_; refine oK rfl ?_; refine oK rfl ?_; refine oK rfl ?_; refine oK rfl ?_; refine OkO.pick (b := false) rfl rfl nofun (fun _ => rfl) ?_; refine oA rfl rfl ?_; refine oN ?_
    refine Ok.ret ⟨.inr rfl, ?_⟩
    exact back_flat rfl (by first | rfl | exact congrArg AV.bool (by clear hg hN hG hE; first | (simp_all [okR]; done) | (rw [Bool.eq_iff_iff]; simp [okR] at *; omega))) rfl (by rw [← hW]; exact (by (try dsimp only); repeat (first | exact hG | apply Grow.new | (refine Grow.put ?_ _ (by first | omega | (simp only [hNw, hPt]; omega))))))
theorem c95 (m : Nat) (a b : Int) (H : Heap)  : RR (m + 1) (.fn 95 [.agg [I a, I b]]) H = some (I a, H) := by
  refine (R_fn _ _ _ _ _).trans ?_; refine fn_ok Try.func95 rfl rfl (by kernel_rfl) (by kernel_rfl) ?_
  obtain ⟨W, hW, hg, hN, hE, hG⟩ := wOf H
  rw [← hW]
  refine kS ?_; refine kR ?_; refine OkO.box rfl rfl ?_; refine oA rfl rfl ?_; refine oN ?_; refine kS ?_; refine kR ?_; refine oF (o := 0) rfl (by kernel_rfl) rfl ?_; refine oL rfl rfl (qla1 1) ?_; refine oA rfl rfl ?_; refine oN ?_
  refine Ok.ret ⟨.inr rfl, ?_⟩
  exact back_flat rfl (by first | rfl | exact congrArg AV.bool (by clear hg hN hG hE; first | (simp_all; done) | (rw [Bool.eq_iff_iff]; simp at *; omega))) rfl (by rw [← hW]; exact (by (try dsimp only); repeat (first | exact hG | apply Grow.new | (refine Grow.put ?_ _ (by first | omega | (simp only [hNw, hPt]; omega))))))
theorem c96 (m : Nat) (a b : Int) (H : Heap)  : RR (m + 1) (.fn 96 [.agg [I a, I b]]) H = some (I b, H) := by
  refine (R_fn _ _ _ _ _).trans ?_; refine fn_ok Try.func96 rfl rfl (by kernel_rfl) (by kernel_rfl) ?_
  obtain ⟨W, hW, hg, hN, hE, hG⟩ := wOf H
  rw [← hW]
  refine kS ?_; refine kR ?_; refine OkO.box rfl rfl ?_; refine oA rfl rfl ?_; refine oN ?_; refine kS ?_; refine kR ?_; refine oF (o := 1) rfl (by kernel_rfl) rfl ?_; refine oL rfl rfl (qla1 1) ?_; refine oA rfl rfl ?_; refine oN ?_
  refine Ok.ret ⟨.inr rfl, ?_⟩
  exact back_flat rfl (by first | rfl | exact congrArg AV.bool (by clear hg hN hG hE; first | (simp_all; done) | (rw [Bool.eq_iff_iff]; simp at *; omega))) rfl (by rw [← hW]; exact (by (try dsimp only); repeat (first | exact hG | apply Grow.new | (refine Grow.put ?_ _ (by first | omega | (simp only [hNw, hPt]; omega))))))

structure Bed where (dr no fl fh cl ch wl wh : Int)
def Bed.c (b : Bed) : List AV := [I b.dr, I b.no, I b.fl, I b.fh, I b.cl, I b.ch, I b.wl, I b.wh]
def Bed.ok (b : Bed) : Bool := inB b.dr (-100000) 100000 && inB b.no 0 100000 && okR b.fl b.fh 2000 && okR b.cl b.ch 100000 && okR b.wl b.wh 100000
/-- What a bed holds, by friction, cohesion and water. -/
def holds (no f c w : Int) : Int := max (no - w) 0 * f / 1000 + c
theorem c92 (m : Nat) (b : Bed) (H : Heap)  : RR (m + 2) (.fn 92 [.agg b.c]) H = some (.bool b.ok, H) := by
  refine (R_fn _ _ _ _ _).trans ?_; refine fn_ok Try.func92 rfl rfl (by kernel_rfl) (by kernel_rfl) ?_
  obtain ⟨W, hW, hg, hN, hE, hG⟩ := wOf H
  rw [← hW]
  refine kS ?_; refine kR ?_; refine OkO.box rfl rfl ?_; refine oA rfl rfl ?_; refine oN ?_; refine kS ?_; refine kR ?_; refine OkO.build (z := [.int .i64 0, .int .i64 0]) (pl := [(0, 1), (1, 1)]) rfl (by kernel_rfl) rfl rfl ?_; refine oF (o := 0) rfl (by kernel_rfl) rfl ?_; refine oL rfl rfl (qla1 1) ?_; refine oV rfl rfl rfl rfl rfl (c88 _ _ _ _ _) ?_; refine oM rfl rfl ?_
  refine OkO.split (d := 7) rfl (fun g1 => ?_) (fun g1 => ?_)
  · refine OkO.build (z := [.int .i64 0, .int .i64 0]) (pl := [(0, 1), (1, 1)]) rfl (by kernel_rfl) rfl rfl ?_
    refine oF (o := 1) rfl (by kernel_rfl) rfl ?_; refine oL rfl rfl (qla1 1) ?_; refine oV rfl rfl rfl rfl rfl (c88 _ _ _ _ _) ?_; refine OkO.pick (b := true) rfl rfl (fun _ => rfl) nofun ?_; refine oM rfl rfl ?_
    refine OkO.split (d := 13) rfl (fun g2 => ?_) (fun g2 => ?_)
    · refine oF (o := 2) rfl (by kernel_rfl) rfl ?_
      refine oL rfl rfl (qlg2 2) ?_; refine oV rfl rfl rfl rfl rfl (c106 _ _ _ _ _) ?_; refine OkO.pick (b := true) rfl rfl (fun _ => rfl) nofun ?_; refine oM rfl rfl ?_
      refine OkO.split (d := 18) rfl (fun g3 => ?_) (fun g3 => ?_)
      · refine oF (o := 4) rfl (by kernel_rfl) rfl ?_
        refine oL rfl rfl (qlg2 2) ?_; refine oV rfl rfl rfl rfl rfl (c106 _ _ _ _ _) ?_; refine OkO.pick (b := true) rfl rfl (fun _ => rfl) nofun ?_; refine oM rfl rfl ?_
        refine OkO.split (d := 23) rfl (fun g4 => ?_) (fun g4 => ?_)
        · refine oF (o := 6) rfl (by kernel_rfl) rfl ?_
          refine oL rfl rfl (qlg2 2) ?_; refine oV rfl rfl rfl rfl rfl (c106 _ _ _ _ _) ?_; refine OkO.pick (b := true) rfl rfl (fun _ => rfl) nofun ?_; refine oA rfl rfl ?_; refine oN ?_
          refine Ok.ret ⟨.inr rfl, ?_⟩
          exact back_flat rfl (by first | rfl | exact congrArg AV.bool (by clear hg hN hG hE; first | (simp_all [Bed.ok]; done) | (rw [Bool.eq_iff_iff]; simp [Bed.ok] at *; omega))) rfl (by rw [← hW]; exact (by (try dsimp only); repeat (first | exact hG | apply Grow.new | (refine Grow.put ?_ _ (by first | omega | (simp only [hNw, hPt]; omega))))))
        · refine oK rfl ?_
          refine oK rfl ?_; refine oK rfl ?_; refine OkO.pick (b := false) rfl rfl nofun (fun _ => rfl) ?_; refine oA rfl rfl ?_; refine oN ?_
          refine Ok.ret ⟨.inr rfl, ?_⟩
          exact back_flat rfl (by first | rfl | exact congrArg AV.bool (by clear hg hN hG hE; first | (simp_all [Bed.ok]; done) | (rw [Bool.eq_iff_iff]; simp [Bed.ok] at *; omega))) rfl (by rw [← hW]; exact (by (try dsimp only); repeat (first | exact hG | apply Grow.new | (refine Grow.put ?_ _ (by first | omega | (simp only [hNw, hPt]; omega))))))
      · refine oK rfl ?_
        refine oK rfl ?_; refine oK rfl ?_; refine OkO.pick (b := false) rfl rfl nofun (fun _ => rfl) ?_; refine oM rfl rfl ?_; refine oK rfl ?_; refine oK rfl ?_; refine oK rfl ?_; refine OkO.pick (b := false) rfl rfl nofun (fun _ => rfl) ?_; refine oA rfl rfl ?_; refine oN ?_
        refine Ok.ret ⟨.inr rfl, ?_⟩
        exact back_flat rfl (by first | rfl | exact congrArg AV.bool (by clear hg hN hG hE; first | (simp_all [Bed.ok]; done) | (rw [Bool.eq_iff_iff]; simp [Bed.ok] at *; omega))) rfl (by rw [← hW]; exact (by (try dsimp only); repeat (first | exact hG | apply Grow.new | (refine Grow.put ?_ _ (by first | omega | (simp only [hNw, hPt]; omega))))))
    · refine oK rfl ?_
      refine oK rfl ?_; refine oK rfl ?_; refine OkO.pick (b := false) rfl rfl nofun (fun _ => rfl) ?_; refine oM rfl rfl ?_; refine oK rfl ?_; refine oK rfl ?_; refine oK rfl ?_; refine OkO.pick (b := false) rfl rfl nofun (fun _ => rfl) ?_; refine oM rfl rfl ?_; refine oK rfl ?_; refine oK rfl ?_; refine oK rfl ?_; refine OkO.pick (b := false) rfl rfl nofun (fun _ => rfl) ?_; refine oA rfl rfl ?_; refine oN ?_
      refine Ok.ret ⟨.inr rfl, ?_⟩
      exact back_flat rfl (by first | rfl | exact congrArg AV.bool (by clear hg hN hG hE; first | (simp_all [Bed.ok]; done) | (rw [Bool.eq_iff_iff]; simp [Bed.ok] at *; omega))) rfl (by rw [← hW]; exact (by (try dsimp only); repeat (first | exact hG | apply Grow.new | (refine Grow.put ?_ _ (by first | omega | (simp only [hNw, hPt]; omega))))))
  · refine oK rfl ?_
    refine oK rfl ?_; refine oK rfl ?_; refine oK rfl ?_; refine OkO.pick (b := false) rfl rfl nofun (fun _ => rfl) ?_; refine oM rfl rfl ?_; refine oK rfl ?_; refine oK rfl ?_; refine oK rfl ?_; refine OkO.pick (b := false) rfl rfl nofun (fun _ => rfl) ?_; refine oM rfl rfl ?_; refine oK rfl ?_; refine oK rfl ?_; refine oK rfl ?_; refine OkO.pick (b := false) rfl rfl nofun (fun _ => rfl) ?_; refine oM rfl rfl ?_; refine oK rfl ?_; refine oK rfl ?_; refine oK rfl ?_; refine OkO.pick (b := false) rfl rfl nofun (fun _ => rfl) ?_; refine oA rfl rfl ?_; refine oN ?_
    refine Ok.ret ⟨.inr rfl, ?_⟩
    exact back_flat rfl (by first | rfl | exact congrArg AV.bool (by clear hg hN hG hE; first | (simp_all [Bed.ok]; done) | (rw [Bool.eq_iff_iff]; simp [Bed.ok] at *; omega))) rfl (by rw [← hW]; exact (by (try dsimp only); repeat (first | exact hG | apply Grow.new | (refine Grow.put ?_ _ (by first | omega | (simp only [hNw, hPt]; omega))))))
end
end Go.Ev

set_option maxRecDepth 100000
set_option linter.unusedSimpArgs false
set_option linter.unusedVariables false
namespace Go.Ev
open Go Go.Proofs
noncomputable section
/-- A call that answers a bool, and leaves the heap as it was. -/
def CallB (m : Nat) (fv : AV) (args : List AV) (H : Heap) (r : Bool) : Prop := ∃ f bs, Go.Ev.callV fv args = some (.fn f bs) ∧ ∀ G, Ext H G → RR m (.fn f bs) G = some (.bool r, G)
theorem c91 (m : Nat) (v good : AV) (xs : List Bed) (ps : List Bool) (H : Heap) (hR : Row H v 8 (xs.map Bed.c)) (hl : xs.length ≤ 1000000) (hp : ps.length = xs.length) (hgood : ∀ (i : Nat) x b, xs[i]? = some x → ps[i]? = some b → CallB m good [.agg x.c] H b) : RR (m + 1) (.fn 91 [v, good]) H = some (.bool (ps.all id), H) := by
  refine (R_fn _ _ _ _ _).trans ?_; refine fn_ok Try.func91 rfl rfl (by kernel_rfl) (by kernel_rfl) ?_
  obtain ⟨W, hW, hg, hN, hE, hG⟩ := wOf H
  rw [← hW]
  have hlen : lenOf v = some xs.length := by simpa using hR.len
  refine kS ?_; refine kR ?_; refine oA rfl rfl ?_; refine oN ?_; refine kS ?_; refine kS ?_; refine kR ?_; refine oM rfl rfl ?_; refine oB rfl rfl rfl qbl ?_; refine oM rfl rfl ?_; refine oN ?_; refine Ok.block ?_
  refine Ok.loop (fun n s => ∃ i : Nat, n = xs.length - i ∧ i ≤ xs.length ∧ (∀ j, j < i → ps[j]? = some true) ∧ Has 5 [(1, good), (4, .bool false), (7, v), (8, I xs.length), (9, I (i : Int))] s.T ∧ s.D = [] ∧ Grow W s.H) (xs.length) (by unfold loopFuel; omega)
    ⟨0, rfl, Nat.zero_le _, nofun, Has.of (by kernel_rfl), rfl, hG⟩ ?_
  rintro n ⟨T, D, G⟩ ⟨i, hn, hi, hall, ⟨f, hT⟩, hD, hg⟩
  dsimp only at *
  subst hT hD
  have hgn := hg.next
  refine kS ?_; refine kR ?_; refine OkO.bin rfl rfl rfl (bin_lss _ _) ?_; refine oN ?_; refine kS ?_
  refine Ok.cond rfl (fun h1 => ?_) (fun h1 => ?_)
  · have hlt : i < xs.length := by simpa using h1
    obtain ⟨b, hb⟩ : ∃ b, ps[i]? = some b := ⟨_, List.getElem?_eq_getElem (by omega)⟩
    obtain ⟨bb, off, cs, i1, i2, i3, i4⟩ := (hR.ext (hE _ hg)).at_ i xs[i].c (by simp [hlt])
    have hne : bb ≠ G.next := by omega
    refine Ok.skip ?_; refine kS ?_; refine Ok.block ?_; refine kS ?_; refine kR ?_; refine oX (sz := 8) rfl rfl rfl (by kernel_rfl) (by first | assumption | rfl) ?_; refine oL rfl rfl (qlg2 8) ?_; refine OkO.alloc (z := [.int .i64 0, .int .i64 0, .int .i64 0, .int .i64 0, .int .i64 0, .int .i64 0, .int .i64 0, .int .i64 0]) rfl (by kernel_rfl) ?_; refine oT rfl rfl rfl (sAc (n := 8) (ag := true) (by kernel_rfl) (by first | assumption | (simp (disch := first | omega | (simp only [hNw, hPt]; omega)) only [gM] <;> first | rfl | assumption)) rfl rfl rfl) ?_; refine oN ?_; refine kS ?_; refine kR ?_; refine oM rfl rfl ?_; refine oL rfl rfl (qlg2 8) ?_
    obtain ⟨gf, gas, hc1, hc2⟩ := hgood i xs[i] b (by simp [hlt]) hb
    refine oV rfl rfl rfl rfl hc1 (hc2 _ (hE _ (by (try dsimp only); repeat (first | (first | exact hg | exact hG) | apply Grow.new | (refine Grow.put ?_ _ (by first | omega | (simp only [hNw, hPt]; omega))))))) ?_; refine OkO.un rfl rfl rfl ?_; refine oN ?_
    refine Ok.cond rfl (fun h2 => ?_) (fun h2 => ?_)
    · refine kS ?_
      refine kR ?_; refine oA rfl rfl ?_; refine oN ?_
      refine Ok.ret ⟨.inr rfl, ?_⟩
      exact back_flat rfl (congrArg AV.bool (by symm; rw [List.all_eq_false]; exact ⟨false, List.mem_of_getElem? (by rw [hb]; congr 1; simpa using h2), by simp⟩)) rfl (by rw [← hW]; exact (by (try dsimp only); repeat (first | (first | exact hg | exact hG) | apply Grow.new | (refine Grow.put ?_ _ (by first | omega | (simp only [hNw, hPt]; omega))))))
    · refine Ok.skip ?_
      refine kR ?_; refine OkO.bin rfl rfl rfl (bin_add (by omega) (by omega)) ?_; refine oM rfl rfl ?_; refine oN ?_
      refine ⟨xs.length - (i + 1), by omega, i + 1, rfl, hlt, fun j hj => ?_, Has.of (by kernel_rfl), rfl, (by (try dsimp only); repeat (first | (first | exact hg | exact hG) | apply Grow.new | (refine Grow.put ?_ _ (by first | omega | (simp only [hNw, hPt]; omega)))))⟩
      by_cases e : j = i
      · subst e; rw [hb]; simpa using h2
      · exact hall j (by omega)
  · have hge : i = xs.length := by simp at h1; omega
    refine Ok.exit ?_; refine kS ?_; refine kR ?_; refine oA rfl rfl ?_; refine oN ?_
    refine Ok.ret ⟨.inr rfl, ?_⟩
    exact back_flat rfl (congrArg AV.bool (by symm; rw [List.all_eq_true]; intro x hx; obtain ⟨j, hj, rfl⟩ := List.mem_iff_getElem.1 hx; have := hall j (by omega); rw [List.getElem?_eq_getElem hj] at this; simpa using this)) rfl (by rw [← hW]; exact (by (try dsimp only); repeat (first | (first | exact hg | exact hG) | apply Grow.new | (refine Grow.put ?_ _ (by first | omega | (simp only [hNw, hPt]; omega))))))
theorem c89 (m : Nat) (v good : AV) (xs : List AV) (ps : List Bool) (H : Heap) (hR : Row H v 1 (xs.map fun x => [x])) (hl : xs.length ≤ 1000000) (hp : ps.length = xs.length) (hgood : ∀ (i : Nat) x b, xs[i]? = some x → ps[i]? = some b → CallB m good [x] H b) : RR (m + 1) (.fn 89 [v, good]) H = some (.bool (ps.all id), H) := by
  refine (R_fn _ _ _ _ _).trans ?_; refine fn_ok Try.func89 rfl rfl (by kernel_rfl) (by kernel_rfl) ?_
  obtain ⟨W, hW, hg, hN, hE, hG⟩ := wOf H
  rw [← hW]
  have hlen : lenOf v = some xs.length := by simpa using hR.len
  refine kS ?_; refine kR ?_; refine oA rfl rfl ?_; refine oN ?_; refine kS ?_; refine kS ?_; refine kR ?_; refine oM rfl rfl ?_; refine oB rfl rfl rfl qbl ?_; refine oM rfl rfl ?_; refine oN ?_; refine Ok.block ?_
  refine Ok.loop (fun n s => ∃ i : Nat, n = xs.length - i ∧ i ≤ xs.length ∧ (∀ j, j < i → ps[j]? = some true) ∧ Has 5 [(1, good), (4, .bool false), (7, v), (8, I xs.length), (9, I (i : Int))] s.T ∧ s.D = [] ∧ Grow W s.H) (xs.length) (by unfold loopFuel; omega)
    ⟨0, rfl, Nat.zero_le _, nofun, Has.of (by kernel_rfl), rfl, hG⟩ ?_
  rintro n ⟨T, D, G⟩ ⟨i, hn, hi, hall, ⟨f, hT⟩, hD, hg⟩
  dsimp only at *
  subst hT hD
  have hgn := hg.next
  refine kS ?_; refine kR ?_; refine OkO.bin rfl rfl rfl (bin_lss _ _) ?_; refine oN ?_; refine kS ?_
  refine Ok.cond rfl (fun h1 => ?_) (fun h1 => ?_)
  · have hlt : i < xs.length := by simpa using h1
    obtain ⟨b, hb⟩ : ∃ b, ps[i]? = some b := ⟨_, List.getElem?_eq_getElem (by omega)⟩
    obtain ⟨bb, off, cs, i1, i2, i3, i4⟩ := (hR.ext (hE _ hg)).at_ i [xs[i]] (by simp [hlt])
    have hne : bb ≠ G.next := by omega
    have i5 := seg_one i3
    refine Ok.skip ?_; refine kS ?_; refine Ok.block ?_; refine kS ?_; refine kR ?_; refine oX (sz := 1) rfl rfl rfl (by kernel_rfl) (by first | assumption | rfl) ?_; refine oL rfl rfl (qla1 1) ?_; refine oA rfl rfl ?_; refine oN ?_; refine kS ?_; refine kR ?_; refine oM rfl rfl ?_; refine oM rfl rfl ?_
    obtain ⟨gf, gas, hc1, hc2⟩ := hgood i xs[i] b (by simp [hlt]) hb
    refine oV rfl rfl rfl rfl hc1 (hc2 _ (hE _ (by (try dsimp only); repeat (first | (first | exact hg | exact hG) | apply Grow.new | (refine Grow.put ?_ _ (by first | omega | (simp only [hNw, hPt]; omega))))))) ?_; refine OkO.un rfl rfl rfl ?_; refine oN ?_
    refine Ok.cond rfl (fun h2 => ?_) (fun h2 => ?_)
    · refine kS ?_
      refine kR ?_; refine oA rfl rfl ?_; refine oN ?_
      refine Ok.ret ⟨.inr rfl, ?_⟩
      exact back_flat rfl (congrArg AV.bool (by symm; rw [List.all_eq_false]; exact ⟨false, List.mem_of_getElem? (by rw [hb]; congr 1; simpa using h2), by simp⟩)) rfl (by rw [← hW]; exact (by (try dsimp only); repeat (first | (first | exact hg | exact hG) | apply Grow.new | (refine Grow.put ?_ _ (by first | omega | (simp only [hNw, hPt]; omega))))))
    · refine Ok.skip ?_
      refine kR ?_; refine OkO.bin rfl rfl rfl (bin_add (by omega) (by omega)) ?_; refine oM rfl rfl ?_; refine oN ?_
      refine ⟨xs.length - (i + 1), by omega, i + 1, rfl, hlt, fun j hj => ?_, Has.of (by kernel_rfl), rfl, (by (try dsimp only); repeat (first | (first | exact hg | exact hG) | apply Grow.new | (refine Grow.put ?_ _ (by first | omega | (simp only [hNw, hPt]; omega)))))⟩
      by_cases e : j = i
      · subst e; rw [hb]; simpa using h2
      · exact hall j (by omega)
  · have hge : i = xs.length := by simp at h1; omega
    refine Ok.exit ?_; refine kS ?_; refine kR ?_; refine oA rfl rfl ?_; refine oN ?_
    refine Ok.ret ⟨.inr rfl, ?_⟩
    exact back_flat rfl (congrArg AV.bool (by symm; rw [List.all_eq_true]; intro x hx; obtain ⟨j, hj, rfl⟩ := List.mem_iff_getElem.1 hx; have := hall j (by omega); rw [List.getElem?_eq_getElem hj] at this; simpa using this)) rfl (by rw [← hW]; exact (by (try dsimp only); repeat (first | (first | exact hg | exact hG) | apply Grow.new | (refine Grow.put ?_ _ (by first | omega | (simp only [hNw, hPt]; omega))))))
theorem c105 (m : Nat) (v good : AV) (xs : List AV) (ps : List Bool) (H : Heap) (hR : Row H v 1 (xs.map fun x => [x])) (hl : xs.length ≤ 1000000) (hp : ps.length = xs.length) (hgood : ∀ (i : Nat) x b, xs[i]? = some x → ps[i]? = some b → CallB m good [x] H b) : RR (m + 1) (.fn 105 [v, good]) H = some (.bool (ps.all id), H) := by
  refine (R_fn _ _ _ _ _).trans ?_; refine fn_ok Try.func105 rfl rfl (by kernel_rfl) (by kernel_rfl) ?_
  obtain ⟨W, hW, hg, hN, hE, hG⟩ := wOf H
  rw [← hW]
  have hlen : lenOf v = some xs.length := by simpa using hR.len
  refine kS ?_; refine kR ?_; refine oA rfl rfl ?_; refine oN ?_; refine kS ?_; refine kS ?_; refine kR ?_; refine oM rfl rfl ?_; refine oB rfl rfl rfl qbl ?_; refine oM rfl rfl ?_; refine oN ?_; refine Ok.block ?_
  refine Ok.loop (fun n s => ∃ i : Nat, n = xs.length - i ∧ i ≤ xs.length ∧ (∀ j, j < i → ps[j]? = some true) ∧ Has 5 [(1, good), (4, .bool false), (7, v), (8, I xs.length), (9, I (i : Int))] s.T ∧ s.D = [] ∧ Grow W s.H) (xs.length) (by unfold loopFuel; omega)
    ⟨0, rfl, Nat.zero_le _, nofun, Has.of (by kernel_rfl), rfl, hG⟩ ?_
  rintro n ⟨T, D, G⟩ ⟨i, hn, hi, hall, ⟨f, hT⟩, hD, hg⟩
  dsimp only at *
  subst hT hD
  have hgn := hg.next
  refine kS ?_; refine kR ?_; refine OkO.bin rfl rfl rfl (bin_lss _ _) ?_; refine oN ?_; refine kS ?_
  refine Ok.cond rfl (fun h1 => ?_) (fun h1 => ?_)
  · have hlt : i < xs.length := by simpa using h1
    obtain ⟨b, hb⟩ : ∃ b, ps[i]? = some b := ⟨_, List.getElem?_eq_getElem (by omega)⟩
    obtain ⟨bb, off, cs, i1, i2, i3, i4⟩ := (hR.ext (hE _ hg)).at_ i [xs[i]] (by simp [hlt])
    have hne : bb ≠ G.next := by omega
    have i5 := seg_one i3
    refine Ok.skip ?_; refine kS ?_; refine Ok.block ?_; refine kS ?_; refine kR ?_; refine oX (sz := 1) rfl rfl rfl (by kernel_rfl) (by first | assumption | rfl) ?_; refine oL rfl rfl (qla1 1) ?_; refine oA rfl rfl ?_; refine oN ?_; refine kS ?_; refine kR ?_; refine oM rfl rfl ?_; refine oM rfl rfl ?_
    obtain ⟨gf, gas, hc1, hc2⟩ := hgood i xs[i] b (by simp [hlt]) hb
    refine oV rfl rfl rfl rfl hc1 (hc2 _ (hE _ (by (try dsimp only); repeat (first | (first | exact hg | exact hG) | apply Grow.new | (refine Grow.put ?_ _ (by first | omega | (simp only [hNw, hPt]; omega))))))) ?_; refine OkO.un rfl rfl rfl ?_; refine oN ?_
    refine Ok.cond rfl (fun h2 => ?_) (fun h2 => ?_)
    · refine kS ?_
      refine kR ?_; refine oA rfl rfl ?_; refine oN ?_
      refine Ok.ret ⟨.inr rfl, ?_⟩
      exact back_flat rfl (congrArg AV.bool (by symm; rw [List.all_eq_false]; exact ⟨false, List.mem_of_getElem? (by rw [hb]; congr 1; simpa using h2), by simp⟩)) rfl (by rw [← hW]; exact (by (try dsimp only); repeat (first | (first | exact hg | exact hG) | apply Grow.new | (refine Grow.put ?_ _ (by first | omega | (simp only [hNw, hPt]; omega))))))
    · refine Ok.skip ?_
      refine kR ?_; refine OkO.bin rfl rfl rfl (bin_add (by omega) (by omega)) ?_; refine oM rfl rfl ?_; refine oN ?_
      refine ⟨xs.length - (i + 1), by omega, i + 1, rfl, hlt, fun j hj => ?_, Has.of (by kernel_rfl), rfl, (by (try dsimp only); repeat (first | (first | exact hg | exact hG) | apply Grow.new | (refine Grow.put ?_ _ (by first | omega | (simp only [hNw, hPt]; omega)))))⟩
      by_cases e : j = i
      · subst e; rw [hb]; simpa using h2
      · exact hall j (by omega)
  · have hge : i = xs.length := by simp at h1; omega
    refine Ok.exit ?_; refine kS ?_; refine kR ?_; refine oA rfl rfl ?_; refine oN ?_
    refine Ok.ret ⟨.inr rfl, ?_⟩
    exact back_flat rfl (congrArg AV.bool (by symm; rw [List.all_eq_true]; intro x hx; obtain ⟨j, hj, rfl⟩ := List.mem_iff_getElem.1 hx; have := hall j (by omega); rw [List.getElem?_eq_getElem hj] at this; simpa using this)) rfl (by rw [← hW]; exact (by (try dsimp only); repeat (first | (first | exact hg | exact hG) | apply Grow.new | (refine Grow.put ?_ _ (by first | omega | (simp only [hNw, hPt]; omega))))))
end
end Go.Ev

set_option maxRecDepth 100000
set_option linter.unusedSimpArgs false
set_option linter.unusedVariables false
namespace Go.Ev
open Go Go.Proofs
noncomputable section
/-- A slice of columns of beds. -/
def Mat (H : Heap) (v : AV) (cols : List (List Bed)) : Prop := ∃ vs : List AV, Row H v 1 (vs.map fun x => [x]) ∧ vs.length = cols.length ∧ ∀ (i : Nat) x l, vs[i]? = some x → cols[i]? = some l → Row H x 8 (l.map Bed.c)
theorem Mat.ext {H G : Heap} {v : AV} {cols : List (List Bed)} (h : Mat H v cols) (g : Ext H G) : Mat G v cols := let ⟨vs, h1, h2, h3⟩ := h; ⟨vs, h1.ext g, h2, fun i x l k q => (h3 i x l k q).ext g⟩
def colOk (k : Nat) (l : List Bed) : Bool := decide (l.length = k) && l.all Bed.ok
/-- Is a slope valid? -/
def slOk (cols : List (List Bed)) (least : Int) : Bool := inB least 1 4 && inB cols.length 1 12 && inB (cols.headD []).length 1 5 && cols.all (colOk (cols.headD []).length)
theorem c90 (m : Nat) (v : AV) (l : List Bed) (k bx : Nat) (t : TypeId) (H : Heap) (hR : Row H v 8 (l.map Bed.c)) (hb : H.get bx = some (.cells [I (k : Int)] t)) (hk : k ≤ 1000000) : RR (m + 4) (.fn 90 [v, .ptr bx 0]) H = some (.bool (colOk k l), H) := by
  refine (R_fn _ _ _ _ _).trans ?_; refine fn_ok Try.func90 rfl rfl (by kernel_rfl) (by kernel_rfl) ?_
  obtain ⟨W, hW, hg, hN, hE, hG⟩ := wOf H
  rw [← hW]
  have hlen : lenOf v = some l.length := by simpa using hR.len
  have hbW : (W.get bx).bind AObj.cs = some [I (k : Int)] := by rw [hg, hb]; rfl
  refine kS ?_; refine kR ?_; refine oA rfl rfl ?_; refine oN ?_; refine kS ?_; refine kR ?_; refine oM rfl rfl ?_; refine oB rfl rfl rfl qbl ?_; refine oL rfl rfl (qla1 1) ?_; refine OkO.bin rfl rfl rfl (bin_eql _ _) ?_; refine oM rfl rfl ?_
  refine OkO.split (d := 8) rfl (fun g1 => ?_) (fun g1 => ?_)
  · have hk1 : (l.length : Int) = k := by simpa using g1
    have hle : l.length ≤ 1000000 := by omega
    have hfin : (l.map Bed.ok).all id = colOk k l := by unfold colOk; rw [show decide (l.length = k) = true from by simp; omega, List.all_map]; rfl
    refine oM rfl rfl ?_; refine oV rfl rfl rfl rfl rfl (c91 (m + 2) v _ l (l.map Bed.ok) _ (hR.ext (hE _ (by (try dsimp only); repeat (first | exact hG | apply Grow.new | (refine Grow.put ?_ _ (by first | omega | (simp only [hNw, hPt]; omega))))))) hle (by simp) (fun i x b h1 h2 => ⟨92, [.agg x.c], rfl, fun G _ => by rw [List.getElem?_map, h1] at h2; cases h2; exact c92 m x G⟩)) ?_; refine OkO.pick (b := true) rfl rfl (fun _ => rfl) nofun ?_; refine oA rfl rfl ?_; refine oN ?_
    refine Ok.ret ⟨.inr rfl, ?_⟩
    exact back_flat rfl (congrArg AV.bool hfin) rfl (by rw [← hW]; exact (by (try dsimp only); repeat (first | exact hG | apply Grow.new | (refine Grow.put ?_ _ (by first | omega | (simp only [hNw, hPt]; omega))))))
  · have hk1 : ¬ (l.length : Int) = k := by simpa using g1
    have hfin : false = colOk k l := by unfold colOk; rw [show decide (l.length = k) = false from by simp; omega]; rfl
    refine oK rfl ?_; refine oK rfl ?_; refine OkO.pick (b := false) rfl rfl nofun (fun _ => rfl) ?_; refine oA rfl rfl ?_; refine oN ?_
    refine Ok.ret ⟨.inr rfl, ?_⟩
    exact back_flat rfl (congrArg AV.bool hfin) rfl (by rw [← hW]; exact (by (try dsimp only); repeat (first | exact hG | apply Grow.new | (refine Grow.put ?_ _ (by first | omega | (simp only [hNw, hPt]; omega))))))
theorem c57 (m : Nat) (cv : AV) (cols : List (List Bed)) (least : Int) (H : Heap) (hM : Mat H cv cols) : RR (m + 6) (.fn 57 [.agg [cv, I least]]) H = some (.bool (slOk cols least), H) := by
  refine (R_fn _ _ _ _ _).trans ?_; refine fn_ok Try.func57 rfl rfl (by kernel_rfl) (by kernel_rfl) ?_
  obtain ⟨W, hW, hg, hN, hE, hG⟩ := wOf H
  rw [← hW]
  obtain ⟨vs, hR, hvl, hv⟩ := hM
  have hlen : lenOf cv = some vs.length := by simpa using hR.len
  refine kS ?_; refine kR ?_; refine OkO.box rfl rfl ?_; refine oA rfl rfl ?_; refine oN ?_; refine kS ?_; refine kS ?_; refine kR ?_; refine OkO.build (z := [.int .i64 0, .int .i64 0]) (pl := [(0, 1), (1, 1)]) rfl (by kernel_rfl) rfl rfl ?_; refine oF (o := 1) rfl (by kernel_rfl) rfl ?_; refine oL rfl rfl (qla1 1) ?_; refine oV rfl rfl rfl rfl rfl (c88 _ _ _ _ _) ?_; refine OkO.un rfl rfl rfl ?_; refine oM rfl rfl ?_
  refine OkO.split (d := 9) rfl (fun g1 => ?_) (fun g1 => ?_)
  · refine oK rfl ?_
    refine oK rfl ?_; refine oK rfl ?_; refine oK rfl ?_; refine oK rfl ?_; refine oK rfl ?_; refine OkO.pick (b := true) rfl rfl (fun _ => rfl) nofun ?_; refine oN ?_; refine Ok.condT rfl ?_; refine kS ?_; refine kR ?_; refine oA rfl rfl ?_; refine oN ?_
    refine Ok.ret ⟨.inr rfl, ?_⟩
    exact back_flat rfl (congrArg AV.bool (by simp at g1; simp [slOk, g1])) rfl (by rw [← hW]; exact (by (try dsimp only); repeat (first | exact hG | apply Grow.new | (refine Grow.put ?_ _ (by first | omega | (simp only [hNw, hPt]; omega))))))
  · refine OkO.build (z := [.int .i64 0, .int .i64 0]) (pl := [(0, 1), (1, 1)]) rfl (by kernel_rfl) rfl rfl ?_
    refine oF (o := 0) rfl (by kernel_rfl) rfl ?_; refine oL rfl rfl (qla1 1) ?_; refine oB rfl rfl rfl qbl ?_; refine oV rfl rfl rfl rfl rfl (c88 _ _ _ _ _) ?_; refine OkO.un rfl rfl rfl ?_; refine OkO.pick (b := false) rfl rfl nofun (fun _ => rfl) ?_; refine oN ?_
    refine Ok.cond rfl (fun h2 => ?_) (fun h2 => ?_)
    · refine kS ?_
      refine kR ?_; refine oA rfl rfl ?_; refine oN ?_
      refine Ok.ret ⟨.inr rfl, ?_⟩
      exact back_flat rfl (congrArg AV.bool (by simp at h2; rw [hvl] at h2; simp [slOk, h2])) rfl (by rw [← hW]; exact (by (try dsimp only); repeat (first | exact hG | apply Grow.new | (refine Grow.put ?_ _ (by first | omega | (simp only [hNw, hPt]; omega))))))
    · have hps : 0 < vs.length := by simp [inB] at h2; omega
      obtain ⟨c0, rest, rfl⟩ : ∃ c0 rest, cols = c0 :: rest := by cases cols with | nil => (simp at hvl; subst hvl; simp at hps) | cons a b => exact ⟨a, b, rfl⟩
      obtain ⟨bb, off, cs, i1, i2, i3, i4⟩ := (hR.ext (hE _ hG)).at_ 0 [vs[0]] (by simp [hps])
      have i5 := seg_one i3
      have hlen0 : lenOf vs[0] = some c0.length := by simpa using (hv 0 vs[0] c0 (List.getElem?_eq_getElem hps) rfl).len
      have hne : bb ≠ W.next := by omega
      refine Ok.skip ?_; refine kS ?_; refine kR ?_; refine oF (o := 0) rfl (by kernel_rfl) rfl ?_; refine oL rfl rfl (qla1 1) ?_; refine oX (sz := 1) rfl rfl rfl (by kernel_rfl) (by first | assumption | rfl) ?_; refine oL rfl rfl (qla1 1) ?_; refine oB rfl rfl rfl qbl ?_; refine OkO.alloc (z := [.int .i64 0]) rfl (by kernel_rfl) ?_; refine oT rfl rfl rfl (sAc (n := 1) (ag := false) (by kernel_rfl) (by first | assumption | (simp (disch := first | omega | (simp only [hNw, hPt]; omega)) only [gM] <;> first | rfl | assumption)) rfl rfl rfl) ?_; refine oN ?_; refine kS ?_; refine kR ?_; refine OkO.build (z := [.int .i64 0, .int .i64 0]) (pl := [(0, 1), (1, 1)]) rfl (by kernel_rfl) rfl rfl ?_; refine oL rfl rfl (qla1 1) ?_; refine oV rfl rfl rfl rfl rfl (c88 _ _ _ _ _) ?_; refine oM rfl rfl ?_
      refine OkO.split (d := 25) rfl (fun g3 => ?_) (fun g3 => ?_)
      · have hz : c0.length ≤ 1000000 := by simp [inB] at g3; omega
        refine oF (o := 0) rfl (by kernel_rfl) rfl ?_; refine oL rfl rfl (qla1 1) ?_; refine OkO.makeFunc rfl rfl rfl ?_; refine oV rfl rfl rfl rfl rfl (c89 (m + 4) cv _ vs ((c0 :: rest).map (colOk c0.length)) _ (hR.ext (hE _ (by (try dsimp only); repeat (first | exact hG | apply Grow.new | (refine Grow.put ?_ _ (by first | omega | (simp only [hNw, hPt]; omega))))))) (by simp [inB] at h2; omega) (by simp [hvl]) ?hgood) ?_
        · intro i x b q1 q2
          rw [List.getElem?_map, Option.map_eq_some_iff] at q2
          obtain ⟨l, hl, rfl⟩ := q2
          refine ⟨90, [x, .ptr _ 0], rfl, fun G hE2 => c90 m x l c0.length _ 3 G ((hv i x l q1 hl).ext (Ext.trans (hE _ (by (try dsimp only); repeat (first | exact hG | apply Grow.new | (refine Grow.put ?_ _ (by first | omega | (simp only [hNw, hPt]; omega)))))) hE2)) ?_ hz⟩
          rw [hE2.get _ (by simp only [hNw, hPt]; omega)]
          simp (disch := first | omega | (simp only [hNw, hPt]; omega)) only [gM] <;> rfl
        refine OkO.pick (b := true) rfl rfl (fun _ => rfl) nofun ?_; refine oA rfl rfl ?_; refine oN ?_
        refine Ok.ret ⟨.inr rfl, ?_⟩
        exact back_flat rfl (congrArg AV.bool (by simp at g1 h2; rw [hvl] at h2; unfold slOk; rw [g1, h2]; simp only [List.headD_cons, g3, Bool.true_and, List.all_map]; rfl)) rfl (by rw [← hW]; exact (by (try dsimp only); repeat (first | exact hG | apply Grow.new | (refine Grow.put ?_ _ (by first | omega | (simp only [hNw, hPt]; omega))))))
      · refine oK rfl ?_
        refine oK rfl ?_; refine oK rfl ?_; refine oK rfl ?_; refine OkO.pick (b := false) rfl rfl nofun (fun _ => rfl) ?_; refine oA rfl rfl ?_; refine oN ?_
        refine Ok.ret ⟨.inr rfl, ?_⟩
        exact back_flat rfl (congrArg AV.bool (by simp [slOk, g3])) rfl (by rw [← hW]; exact (by (try dsimp only); repeat (first | exact hG | apply Grow.new | (refine Grow.put ?_ _ (by first | omega | (simp only [hNw, hPt]; omega))))))
end
end Go.Ev

set_option maxRecDepth 100000
set_option linter.unusedSimpArgs false
set_option linter.unusedVariables false
namespace Go.Ev
open Go Go.Proofs
noncomputable section
def Bed.lim (b : Bed) : Prop := (-100000 ≤ b.dr ∧ b.dr ≤ 100000) ∧ (0 ≤ b.no ∧ b.no ≤ 100000) ∧ (0 ≤ b.fl ∧ b.fl ≤ b.fh ∧ b.fh ≤ 2000) ∧ (0 ≤ b.cl ∧ b.cl ≤ b.ch ∧ b.ch ≤ 100000) ∧ 0 ≤ b.wl ∧ b.wl ≤ b.wh ∧ b.wh ≤ 100000
theorem Bed.ok_lim {b : Bed} (h : b.ok = true) : b.lim := by simp [Bed.ok, inB, okR] at h; unfold Bed.lim; omega
theorem holds_bd {no f c w : Int} (h1 : 0 ≤ no ∧ no ≤ 100000) (h2 : 0 ≤ f ∧ f ≤ 2000) (h3 : 0 ≤ c ∧ c ≤ 100000) (h4 : 0 ≤ w) :
    0 ≤ max (no - w) 0 ∧ max (no - w) 0 ≤ 100000 ∧ 0 ≤ max (no - w) 0 * f ∧ max (no - w) 0 * f ≤ 200000000 ∧ 0 ≤ holds no f c w ∧ holds no f c w ≤ 300000 := by
  have a1 : 0 ≤ max (no - w) 0 ∧ max (no - w) 0 ≤ 100000 := by omega
  have a2 : 0 ≤ max (no - w) 0 * f := Int.mul_nonneg a1.1 h2.1
  have a3 : max (no - w) 0 * f ≤ 100000 * 2000 := Int.mul_le_mul a1.2 h2.2 h2.1 (by omega)
  unfold holds
  omega
theorem c62 (m : Nat) (b : Bed) (f c w : Int) (H : Heap) (h1 : 0 ≤ b.no ∧ b.no ≤ 100000) (h2 : 0 ≤ f ∧ f ≤ 2000) (h3 : 0 ≤ c ∧ c ≤ 100000) (h4 : 0 ≤ w ∧ w ≤ 100000) : RR (m + 1) (.fn 62 [.agg b.c, .agg [I f, I c, I w]]) H = some (I (holds b.no f c w), H) := by
  refine (R_fn _ _ _ _ _).trans ?_; refine fn_ok Try.func62 rfl rfl (by kernel_rfl) (by kernel_rfl) ?_
  obtain ⟨W, hW, hg, hN, hE, hG⟩ := wOf H
  rw [← hW]
  have hbd := holds_bd h1 h2 h3 h4.1
  have hd : holds b.no f c w = max (b.no - w) 0 * f / 1000 + c := rfl
  refine kS ?_; refine kR ?_; refine OkO.box rfl rfl ?_; refine OkO.box rfl rfl ?_; refine oA rfl rfl ?_; refine oN ?_; refine kS ?_; refine kR ?_; refine oF (o := 1) rfl (by kernel_rfl) rfl ?_; refine oL rfl rfl (qla1 1) ?_; refine oF (o := 2) rfl (by kernel_rfl) rfl ?_; refine oL rfl rfl (qla1 1) ?_; refine OkO.bin rfl rfl rfl (bin_sub (by omega) (by omega)) ?_; refine oB rfl rfl rfl (builtin_max2 _ _) ?_; refine oF (o := 0) rfl (by kernel_rfl) rfl ?_; refine oL rfl rfl (qla1 1) ?_; refine OkO.bin rfl rfl rfl (bin_mul (by omega) (by omega)) ?_; refine OkO.bin rfl rfl rfl (bin_quo (by omega) (by omega) (by omega)) ?_; refine oF (o := 1) rfl (by kernel_rfl) rfl ?_; refine oL rfl rfl (qla1 1) ?_; refine OkO.bin rfl rfl rfl (bin_add (by omega) (by omega)) ?_; refine oA rfl rfl ?_; refine oN ?_
  refine Ok.ret ⟨.inr rfl, ?_⟩
  exact back_flat rfl (rfl) rfl (by rw [← hW]; exact (by (try dsimp only); repeat (first | exact hG | apply Grow.new | (refine Grow.put ?_ _ (by first | omega | (simp only [hNw, hPt]; omega))))))
theorem c94w (m : Nat) (b : Bed) (H : Heap)  : RR (m + 2) (.fn 94 [.agg b.c, .fn 95 [] [], .fn 96 [] []]) H = some (.agg [I b.fl, I b.cl, I b.wh], H) := by
  refine (R_fn _ _ _ _ _).trans ?_; refine fn_ok Try.func94 rfl rfl (by kernel_rfl) (by kernel_rfl) ?_
  obtain ⟨W, hW, hg, hN, hE, hG⟩ := wOf H
  rw [← hW]
  refine kS ?_; refine kR ?_; refine OkO.box rfl rfl ?_; refine OkO.alloc (z := [.int .i64 0, .int .i64 0, .int .i64 0]) rfl (by kernel_rfl) ?_; refine oN ?_; refine kS ?_; refine Ok.drawn [(0, true, []), (1, true, []), (2, true, []), (4, true, []), (5, true, []), (6, true, []), (8, true, []), (9, true, []), (10, true, []), (3, false, [10, 6]), (7, false, [10, 2]), (11, false, [6, 2]), (12, true, []), (13, false, [])] (by kernel_rfl) ?_; refine pS ?_; refine oM rfl rfl ?_; refine oN ⟨rfl, ?_⟩; refine pS ?_; refine oF (o := 2) rfl (by kernel_rfl) rfl ?_; refine oN ⟨rfl, ?_⟩; refine pS ?_; refine oL rfl rfl (qlg2 2) ?_; refine oN ⟨rfl, ?_⟩; refine pS ?_; refine oM rfl rfl ?_; refine oN ⟨rfl, ?_⟩; refine pS ?_; refine oF (o := 4) rfl (by kernel_rfl) rfl ?_; refine oN ⟨rfl, ?_⟩; refine pS ?_; refine oL rfl rfl (qlg2 2) ?_; refine oN ⟨rfl, ?_⟩; refine pS ?_; refine oM rfl rfl ?_; refine oN ⟨rfl, ?_⟩; refine pS ?_; refine oF (o := 6) rfl (by kernel_rfl) rfl ?_; refine oN ⟨rfl, ?_⟩; refine pS ?_; refine oL rfl rfl (qlg2 2) ?_; refine oN ⟨rfl, ?_⟩; refine pS ?_; refine oV rfl rfl rfl rfl rfl (c95 _ _ _ _) ?_
  refine oN ⟨(sco (sld rfl rfl (qlg2 2) rfl (eqr _ (by first | rfl | exact lpl (by assumption)))) (sco (sld rfl rfl (qlg2 2) rfl (eqr _ (by first | rfl | exact lpl (by assumption)))) rfl)), ?_⟩; refine pS ?_; refine oV rfl rfl rfl rfl rfl (c95 _ _ _ _) ?_
  refine oN ⟨(sco (sld rfl rfl (qlg2 2) rfl (eqr _ (by first | rfl | exact lpl (by assumption)))) (sco (sld rfl rfl (qlg2 2) rfl (eqr _ (by first | rfl | exact lpl (by assumption)))) rfl)), ?_⟩; refine pS ?_; refine oV rfl rfl rfl rfl rfl (c96 _ _ _ _) ?_
  refine oN ⟨(sco (sld rfl rfl (qlg2 2) rfl (eqr _ (by first | rfl | exact lpl (by assumption)))) (sco (sld rfl rfl (qlg2 2) rfl (eqr _ (by first | rfl | exact lpl (by assumption)))) rfl)), ?_⟩; refine pS ?_; refine OkO.build (z := [.int .i64 0, .int .i64 0, .int .i64 0]) (pl := [(0, 1), (1, 1), (2, 1)]) rfl (by kernel_rfl) rfl rfl ?_; refine oN ⟨rfl, ?_⟩; refine pS ?_; refine oT rfl rfl rfl (sAc (n := 3) (ag := true) (by kernel_rfl) (by first | assumption | (simp (disch := first | omega | (simp only [hNw, hPt]; omega)) only [gM] <;> first | rfl | assumption)) rfl rfl rfl) ?_; refine oN ⟨rfl, ?_⟩; refine OkP.nil ?_
  refine Ok.ret ⟨.inr rfl, ?_⟩
  exact back_flat (resV_cell rfl (qlg2 3) resV_nil) (rfl) rfl (by rw [← hW]; exact (by (try dsimp only); repeat (first | exact hG | apply Grow.new | (refine Grow.put ?_ _ (by first | omega | (simp only [hNw, hPt]; omega))))))
theorem c66 (m : Nat) (b : Bed) (H : Heap)  : RR (m + 3) (.fn 66 [.agg b.c]) H = some (.agg [I b.fl, I b.cl, I b.wh], H) := by
  refine (R_fn _ _ _ _ _).trans ?_; refine fn_ok Try.func66 rfl rfl (by kernel_rfl) (by kernel_rfl) ?_
  obtain ⟨W, hW, hg, hN, hE, hG⟩ := wOf H
  rw [← hW]
  refine kS ?_; refine kR ?_; refine OkO.box rfl rfl ?_; refine OkO.alloc (z := [.int .i64 0, .int .i64 0, .int .i64 0]) rfl (by kernel_rfl) ?_; refine oN ?_; refine kS ?_; refine kR ?_; refine oL rfl rfl (qlg2 8) ?_; refine oV rfl rfl rfl rfl rfl (c94w _ _ _) ?_; refine oT rfl rfl rfl (sAc (n := 3) (ag := true) (by kernel_rfl) (by first | assumption | (simp (disch := first | omega | (simp only [hNw, hPt]; omega)) only [gM] <;> first | rfl | assumption)) rfl rfl rfl) ?_; refine oN ?_
  refine Ok.ret ⟨.inr rfl, ?_⟩
  exact back_flat (resV_cell rfl (qlg2 3) resV_nil) (rfl) rfl (by rw [← hW]; exact (by (try dsimp only); repeat (first | exact hG | apply Grow.new | (refine Grow.put ?_ _ (by first | omega | (simp only [hNw, hPt]; omega))))))
def factorOf (held drive : Int) : Int := min (1000 * held / drive) 10000
def drive (l : List Bed) : Int := (l.map (·.dr)).sum
theorem drive_bd (l : List Bed) (h : ∀ b ∈ l, -100000 ≤ b.dr ∧ b.dr ≤ 100000) : -100000 * (l.length : Int) ≤ drive l ∧ drive l ≤ 100000 * (l.length : Int) := by
  induction l with
  | nil => simp [drive]
  | cons b l ih =>
    have h1 := h b (by simp)
    have h2 := ih (fun x hx => h x (by simp [hx]))
    have e : drive (b :: l) = b.dr + drive l := by simp [drive]
    rw [e]; simp only [List.length_cons]; omega
theorem drive_take (l : List Bed) (i : Nat) (h : i < l.length) : drive (l.take (i + 1)) = drive (l.take i) + l[i].dr := by
  unfold drive
  rw [List.take_succ_eq_append_getElem h, List.map_append, List.sum_append]; simp
end
end Go.Ev

set_option maxRecDepth 100000
set_option linter.unusedSimpArgs false
set_option linter.unusedVariables false
namespace Go.Ev
open Go Go.Proofs
noncomputable section
/-- The beds of a surface that is within its slope. -/
def Picks (cols : List (List Bed)) (f0 : Nat) (us : List Nat) (L : List Bed) : Prop := L.length = us.length ∧ ∀ i u, us[i]? = some u → ∃ col b, cols[f0 + i]? = some col ∧ col[u]? = some b ∧ L[i]? = some b
theorem flat_len (l : List (List AV)) (k : Nat) (h : ∀ x ∈ l, x.length = k) : l.flatten.length = l.length * k := by
  induction l with
  | nil => simp
  | cons x l ih => rw [List.flatten_cons, List.length_append, ih (fun y hy => h y (by simp [hy])), h x (by simp), List.length_cons, Nat.add_mul]; omega
end
end Go.Ev

set_option maxRecDepth 100000
set_option linter.unusedSimpArgs false
set_option linter.unusedVariables false
namespace Go.Ev
open Go Go.Proofs
noncomputable section
def adjB (us : List Int) : Bool := (List.range (us.length - 1)).all fun i => inB (us.getD (i + 1) 0) (us.getD i 0 - 1) (us.getD i 0 + 1)
/-- Is a surface one of a valid slope? -/
def surfB (cols : List (List Bed)) (least fr : Int) (us : List Int) : Bool :=
  inB fr 0 (cols.length - 1) && inB us.length least (cols.length - fr) && us.all (fun u => inB u 0 ((cols.headD []).length - 1)) && adjB us
/-- A surface's numbers of beds. -/
def Ints (H : Heap) (v : AV) (us : List Int) : Prop := Row H v 1 (us.map fun n => [I n])
theorem Ints.ext {H G : Heap} {v : AV} {us : List Int} (h : Ints H v us) (g : Ext H G) : Ints G v us := Row.ext h g
theorem Ints.len {H : Heap} {v : AV} {us : List Int} (h : Ints H v us) : lenOf v = some us.length := by simpa using Row.len h
theorem Ints.at' {H : Heap} {v : AV} {us : List Int} (h : Ints H v us) (i : Nat) (hi : i < us.length) : ∃ b off cs, slAt v 1 i = some (b, off) ∧ (H.get b).bind AObj.cs = some cs ∧ cs[off]? = some (I us[i]) ∧ b < H.next := by
  obtain ⟨b, off, cs, h1, h2, h3, h4⟩ := Row.at_ h i [I us[i]] (by simp [hi])
  exact ⟨b, off, cs, h1, h2, seg_one h3, h4⟩
theorem slOk_facts {cols : List (List Bed)} {least : Int} (h : slOk cols least = true) : 1 ≤ least ∧ least ≤ 4 ∧ 1 ≤ cols.length ∧ cols.length ≤ 12 ∧ 1 ≤ (cols.headD []).length ∧ (cols.headD []).length ≤ 5 ∧ ∀ c ∈ cols, c.length = (cols.headD []).length ∧ ∀ b ∈ c, b.ok = true := by
  simp only [slOk, inB, Bool.and_eq_true, decide_eq_true_eq, List.all_eq_true] at h
  obtain ⟨⟨⟨⟨h1, h2⟩, h3, h4⟩, h5, h6⟩, h7⟩ := h
  refine ⟨h1, h2, by omega, by omega, by omega, by omega, fun c hc => ?_⟩
  have := h7 c hc
  simp only [colOk, Bool.and_eq_true, decide_eq_true_eq, List.all_eq_true] at this
  exact this
end
end Go.Ev

set_option maxRecDepth 100000
set_option linter.unusedSimpArgs false
set_option linter.unusedVariables false
namespace Go.Ev
open Go Go.Proofs
noncomputable section
def surfErr (cols : List (List Bed)) (least fr : Int) (us : List Int) : Int := if slOk cols least = true then (if surfB cols least fr us = true then 0 else 2) else 1
/-- The beds of a surface. -/
def bedsOf (cols : List (List Bed)) (fr : Int) (us : List Int) : List Bed := (List.range us.length).map fun i => ((cols.getD (fr.toNat + i) []).getD (us.getD i 0).toNat ⟨0, 0, 0, 0, 0, 0, 0, 0⟩)
def weak (b : Bed) : Int := holds b.no b.fl b.cl b.wh
def strong (b : Bed) : Int := holds b.no b.fh b.ch b.wl
def sumB (g : Bed → Int) (L : List Bed) : Int := (L.map g).sum
theorem sumB_bd (g : Bed → Int) (l : List Bed) (h : ∀ b ∈ l, 0 ≤ g b ∧ g b ≤ 300000) : 0 ≤ sumB g l ∧ sumB g l ≤ 300000 * (l.length : Int) := by
  induction l with
  | nil => simp [sumB]
  | cons b l ih =>
    have h1 := h b (by simp)
    have h2 := ih (fun x hx => h x (by simp [hx]))
    have e : sumB g (b :: l) = g b + sumB g l := by simp [sumB]
    rw [e]; simp only [List.length_cons]; omega
theorem weak_bd {b : Bed} (h : b.ok = true) : 0 ≤ weak b ∧ weak b ≤ 300000 := by
  have := Bed.ok_lim h; unfold Bed.lim at this
  exact (holds_bd (no := b.no) (f := b.fl) (c := b.cl) (w := b.wh) (by omega) (by omega) (by omega) (by omega)).2.2.2.2
/-- What Span answers. -/
def spanR (cols : List (List Bed)) (least fr : Int) (us : List Int) : Int × Int × Int :=
  if surfErr cols least fr us = 0 then (if drive (bedsOf cols fr us) < 1 then (0, 0, 7) else (factorOf (sumB weak (bedsOf cols fr us)) (drive (bedsOf cols fr us)), factorOf (sumB strong (bedsOf cols fr us)) (drive (bedsOf cols fr us)), 0)) else (0, 0, surfErr cols least fr us)
theorem c18 (m : Nat) (cv : AV) (cols : List (List Bed)) (least : Int) (H : Heap) (hM : Mat H cv cols) : RR (m + 7) (.fn 18 [.agg [cv, I least]]) H = some (I (if slOk cols least = true then 0 else 1), H) := by
  refine (R_fn _ _ _ _ _).trans ?_; refine fn_ok Try.func18 rfl rfl (by kernel_rfl) (by kernel_rfl) ?_
  obtain ⟨W, hW, hg, hN, hE, hG⟩ := wOf H
  rw [← hW]
  refine kS ?_; refine kR ?_; refine OkO.box rfl rfl ?_; refine oA rfl rfl ?_; refine oN ?_; refine kS ?_; refine kS ?_; refine kR ?_; refine oL rfl rfl (qlg2 2) ?_; refine oV rfl rfl rfl rfl rfl (c57 m cv cols least _ (hM.ext (hE _ (by (try dsimp only); repeat (first | exact hG | apply Grow.new | (refine Grow.put ?_ _ (by first | omega | (simp only [hNw, hPt]; omega)))))))) ?_; refine OkO.un rfl rfl rfl ?_; refine oN ?_
  refine Ok.cond rfl (fun h1 => ?_) (fun h1 => ?_)
  · refine kS ?_
    refine kR ?_; refine oA rfl rfl ?_; refine oN ?_
    refine Ok.ret ⟨.inr rfl, ?_⟩
    have hf : slOk cols least = false := by simpa using h1
    exact back_flat rfl (by simp [hf]; rfl) rfl (by rw [← hW]; exact (by (try dsimp only); repeat (first | exact hG | apply Grow.new | (refine Grow.put ?_ _ (by first | omega | (simp only [hNw, hPt]; omega))))))
  · refine Ok.skip ?_
    refine kS ?_; refine kR ?_; refine oA rfl rfl ?_; refine oN ?_
    refine Ok.ret ⟨.inr rfl, ?_⟩
    have hf : slOk cols least = true := by simpa using h1
    exact back_flat rfl (by simp [hf]; rfl) rfl (by rw [← hW]; exact (by (try dsimp only); repeat (first | exact hG | apply Grow.new | (refine Grow.put ?_ _ (by first | omega | (simp only [hNw, hPt]; omega))))))
end
end Go.Ev

set_option maxRecDepth 100000
set_option linter.unusedSimpArgs false
set_option linter.unusedVariables false
namespace Go.Ev
open Go Go.Proofs
noncomputable section
end
end Go.Ev

set_option maxRecDepth 100000
set_option linter.unusedSimpArgs false
set_option linter.unusedVariables false
namespace Go.Ev
open Go Go.Proofs
noncomputable section
def colR (k : Nat) (c : List Bed) : Bool := inB c.length 1 5 && (decide (c.length = k) && c.all Bed.ok)
theorem slOk_eq (cols : List (List Bed)) (least : Int) : slOk cols least = (inB least 1 4 && inB cols.length 1 12 && cols.all (colR (cols.headD []).length)) := by
  cases cols with
  | nil => simp [slOk, inB]
  | cons c0 rest =>
    simp only [slOk, List.headD_cons]
    have e : ∀ c, (inB c0.length 1 5 && colOk c0.length c) = (inB c0.length 1 5 && colR c0.length c) := by
      intro c
      unfold colR colOk
      by_cases h : c.length = c0.length
      · rw [h]; cases inB (↑c0.length) 1 5 <;> simp
      · simp [h]
    rw [Bool.eq_iff_iff]
    simp only [Bool.and_eq_true, List.all_eq_true]
    constructor
    · rintro ⟨⟨h1, h2⟩, h3⟩
      exact ⟨h1, fun c hc => by have := e c; rw [h2, h3 c hc] at this; simpa using this.symm⟩
    · rintro ⟨h1, h3⟩
      have h2 : inB c0.length 1 5 = true := by have := h3 c0 (by simp); simp only [colR, Bool.and_eq_true] at this; exact this.1
      exact ⟨⟨h1, h2⟩, fun c hc => by have := e c; rw [h2, h3 c hc] at this; simpa using this⟩
theorem bad_col {cols : List (List Bed)} {least : Int} {j : Nat} {c : List Bed} (h : cols[j]? = some c) (hb : colR (cols.headD []).length c = false) : false = slOk cols least := by
  rw [slOk_eq, show cols.all (colR (cols.headD []).length) = false from by rw [List.all_eq_false]; exact ⟨c, List.mem_of_getElem? h, by rw [hb]; simp⟩]; simp
theorem bad_bed {cols : List (List Bed)} {least : Int} {j k : Nat} {c : List Bed} {b : Bed} (h : cols[j]? = some c) (hk : c[k]? = some b) (hb : b.ok = false) : false = slOk cols least :=
  bad_col h (by unfold colR; rw [show c.all Bed.ok = false from by rw [List.all_eq_false]; exact ⟨b, List.mem_of_getElem? hk, by simp [hb]⟩]; simp)
theorem c23 (m : Nat) (cv : AV) (cols : List (List Bed)) (least : Int) (H : Heap) (hM : Mat H cv cols) : RR (m + 2) (.fn 23 [.agg [cv, I least]]) H = some (.bool (slOk cols least), H) := by
  refine (R_fn _ _ _ _ _).trans ?_; refine fn_ok Try.func23 rfl rfl (by kernel_rfl) (by kernel_rfl) ?_
  obtain ⟨W, hW, hg, hN, hE, hG⟩ := wOf H
  rw [← hW]
  obtain ⟨vs, hR, hvl, hv⟩ := hM
  have hlen : lenOf cv = some vs.length := by simpa using hR.len
  refine kS ?_; refine kR ?_; refine OkO.box rfl rfl ?_; refine oA rfl rfl ?_; refine oN ?_; refine kS ?_; refine kS ?_; refine kR ?_; refine oF (o := 0) rfl (by kernel_rfl) rfl ?_; refine oL rfl rfl (qla1 1) ?_; refine oB rfl rfl rfl qbl ?_; refine oV rfl rfl rfl rfl rfl (c37 _ _ _ _ _) ?_; refine OkO.un rfl rfl rfl ?_; refine oM rfl rfl ?_
  refine OkO.split (d := 11) rfl (fun g1 => ?_) (fun g1 => ?_)
  · refine oK rfl ?_
    refine oK rfl ?_; refine oK rfl ?_; refine oK rfl ?_; refine OkO.pick (b := true) rfl rfl (fun _ => rfl) nofun ?_; refine oN ?_; refine Ok.condT rfl ?_; refine kS ?_; refine kR ?_; refine oA rfl rfl ?_; refine oN ?_
    refine Ok.ret ⟨.inr rfl, ?_⟩
    exact back_flat rfl (congrArg AV.bool (by simp at g1; rw [hvl] at g1; simp [slOk, g1])) rfl (by rw [← hW]; exact (by (try dsimp only); repeat (first | exact hG | apply Grow.new | (refine Grow.put ?_ _ (by first | omega | (simp only [hNw, hPt]; omega))))))
  · refine oF (o := 1) rfl (by kernel_rfl) rfl ?_
    refine oL rfl rfl (qla1 1) ?_; refine oV rfl rfl rfl rfl rfl (c37 _ _ _ _ _) ?_; refine OkO.un rfl rfl rfl ?_; refine OkO.pick (b := false) rfl rfl nofun (fun _ => rfl) ?_; refine oN ?_
    refine Ok.cond rfl (fun h2 => ?_) (fun h2 => ?_)
    · refine kS ?_
      refine kR ?_; refine oA rfl rfl ?_; refine oN ?_
      refine Ok.ret ⟨.inr rfl, ?_⟩
      exact back_flat rfl (congrArg AV.bool (by simp at h2; simp [slOk, h2])) rfl (by rw [← hW]; exact (by (try dsimp only); repeat (first | exact hG | apply Grow.new | (refine Grow.put ?_ _ (by first | omega | (simp only [hNw, hPt]; omega))))))
    · have hcl12 : vs.length ≤ 12 := by simp [inB] at g1; omega
      refine Ok.skip ?_; refine kS ?_; refine kS ?_; refine kR ?_; refine oA rfl rfl ?_; refine oN ?_; refine Ok.block ?_
      refine Ok.loop (fun n s => ∃ (i : Nat), n = cols.length - i ∧ i ≤ cols.length ∧ (∀ j c, j < i → cols[j]? = some c → colR (cols.headD []).length c = true) ∧ Has 7 [(1, .ptr W.next 0), (2, .bool false), (3, I (i : Int))] s.T ∧ s.D = [] ∧ Grow W s.H ∧ s.H.get W.next = some (.cells [cv, I least] 24) ∧ W.next + 1 ≤ s.H.next) (cols.length) (by unfold loopFuel; omega)
        ⟨0, rfl, Nat.zero_le _, nofun, Has.of (by kernel_rfl), rfl, (by (try dsimp only); repeat (first | exact hG | apply Grow.new | (refine Grow.put ?_ _ (by first | omega | (simp only [hNw, hPt]; omega))))), (by simp (disch := first | omega | (simp only [hNw, hPt]; omega)) only [gM] <;> rfl), (by simp)⟩ ?_
      rintro n ⟨T, D, G⟩ ⟨i, hn, hi, hcl, ⟨f, hT⟩, hD, hg, ob, on⟩
      dsimp only at *
      subst hT hD
      have hgn := hg.next
      have hc1 : (G.get W.next).bind AObj.cs = some [cv, I least] := by rw [ob]; rfl
      have hEg := hE _ hg
      refine kS ?_; refine kS ?_; refine kR ?_; refine oM rfl rfl ?_; refine oF (o := 0) rfl (by kernel_rfl) rfl ?_; refine oL rfl rfl (qla1 1) ?_; refine oB rfl rfl rfl qbl ?_; refine OkO.bin rfl rfl rfl (bin_lss _ _) ?_; refine oN ?_
      refine Ok.cond rfl (fun h3 => ?_) (fun h3 => ?_)
      · have hlt : i < cols.length := by simp at h3; omega
        obtain ⟨c, hci⟩ : ∃ c, cols[i]? = some c := ⟨_, List.getElem?_eq_getElem hlt⟩
        have hvi : i < vs.length := by omega
        obtain ⟨cb, co, ccs, j1, j2, j3, j4⟩ := (hR.ext hEg).at_ i [vs[i]] (by simp [hvi])
        have j5 := seg_one j3
        have hv0 : 0 < vs.length := by omega
        obtain ⟨c0, hc0⟩ : ∃ c0, cols[0]? = some c0 := ⟨_, List.getElem?_eq_getElem (by omega)⟩
        have hhd : cols.head? = some c0 := by rw [← hc0]; cases cols <;> rfl
        obtain ⟨zb, zo, zcs, z1, z2, z3, z4⟩ := (hR.ext hEg).at_ 0 [vs[0]] (by simp [hv0])
        have z5 := seg_one z3
        have hlc : lenOf vs[i] = some c.length := by simpa using (hv i vs[i] c (List.getElem?_eq_getElem hvi) hci).len
        have hlz : lenOf vs[0] = some c0.length := by simpa using (hv 0 vs[0] c0 (List.getElem?_eq_getElem hv0) hc0).len
        refine Ok.skip ?_; refine kS ?_; refine Ok.block ?_; refine kS ?_; refine kS ?_; refine Ok.drawn [(0, true, []), (1, true, []), (2, true, []), (3, true, []), (4, true, []), (5, true, []), (6, false, [4, 1]), (7, true, []), (8, true, []), (9, true, []), (10, true, []), (11, true, []), (12, true, []), (13, true, []), (14, true, []), (15, true, []), (16, true, []), (17, true, []), (18, true, []), (19, true, []), (20, true, []), (21, true, [])] (by kernel_rfl) ?_; refine pS ?_; refine oF (o := 0) rfl (by kernel_rfl) rfl ?_; refine oN ⟨rfl, ?_⟩; refine pS ?_; refine oL rfl rfl (qla1 1) ?_; refine oN ⟨rfl, ?_⟩; refine pS ?_; refine oM rfl rfl ?_; refine oN ⟨rfl, ?_⟩; refine pS ?_; refine oX (sz := 1) (n := i) rfl rfl rfl (by kernel_rfl) (by first | assumption | rfl) ?_; refine oN ⟨rfl, ?_⟩; refine pS ?_; refine oL rfl rfl (qla1 1) ?_; refine oN ⟨rfl, ?_⟩; refine pS ?_; refine oB rfl rfl rfl qbl ?_; refine oN ⟨rfl, ?_⟩; refine pS ?_; refine oV rfl rfl rfl rfl rfl (c37 _ _ _ _ _) ?_
        refine oN ⟨(sco (sld rfl rfl (qla1 1) rfl (eqr _ (by first | rfl | exact lpl (by assumption)))) (sco (sld rfl rfl (qla1 1) rfl (eqr _ (by first | rfl | exact lpl (by assumption)))) rfl)), ?_⟩; refine pS ?_; refine OkO.un rfl rfl rfl ?_; refine oN ⟨rfl, ?_⟩; refine pS ?_; refine oM rfl rfl ?_; refine oN ⟨rfl, ?_⟩
        refine OkP.split (d := 32) rfl (fun g4 => ?_) (fun g4 => ?_)
        · have hz : false = slOk cols least := bad_col hci (by simp at g4; simp [colR, g4])
          refine pS ?_; refine oK rfl ?_; refine oN ⟨rfl, ?_⟩; refine pS ?_; refine oK rfl ?_; refine oN ⟨rfl, ?_⟩; refine pS ?_; refine oK rfl ?_; refine oN ⟨rfl, ?_⟩; refine pS ?_; refine oK rfl ?_; refine oN ⟨rfl, ?_⟩; refine pS ?_; refine oK rfl ?_; refine oN ⟨rfl, ?_⟩; refine pS ?_; refine oK rfl ?_; refine oN ⟨rfl, ?_⟩; refine pS ?_; refine oK rfl ?_; refine oN ⟨rfl, ?_⟩; refine pS ?_; refine oK rfl ?_; refine oN ⟨rfl, ?_⟩; refine pS ?_; refine oK rfl ?_; refine oN ⟨rfl, ?_⟩; refine pS ?_; refine oK rfl ?_; refine oN ⟨rfl, ?_⟩; refine pS ?_; refine oK rfl ?_; refine oN ⟨rfl, ?_⟩; refine pS ?_; refine oK rfl ?_; refine oN ⟨rfl, ?_⟩; refine pS ?_; refine OkO.pick (b := true) rfl rfl (fun _ => rfl) nofun ?_; refine oN ⟨rfl, ?_⟩; refine OkP.nil ?_; refine Ok.condT rfl ?_; refine kS ?_; refine kR ?_; refine oA rfl rfl ?_; refine oN ?_
          refine Ok.ret ⟨.inr rfl, ?_⟩
          exact back_flat rfl (congrArg AV.bool hz) rfl (by rw [← hW]; exact (by (try dsimp only); repeat (first | (first | exact hg | exact hG) | apply Grow.new | (refine Grow.put ?_ _ (by first | omega | (simp only [hNw, hPt]; omega))))))
        · refine pS ?_
          refine oF (o := 0) rfl (by kernel_rfl) rfl ?_; refine oN ⟨rfl, ?_⟩; refine pS ?_; refine oL rfl rfl (qla1 1) ?_; refine oN ⟨rfl, ?_⟩; refine pS ?_; refine oM rfl rfl ?_; refine oN ⟨rfl, ?_⟩; refine pS ?_; refine oX (sz := 1) (n := i) rfl rfl rfl (by kernel_rfl) (by first | assumption | rfl) ?_; refine oN ⟨rfl, ?_⟩; refine pS ?_; refine oL rfl rfl (qla1 1) ?_; refine oN ⟨rfl, ?_⟩; refine pS ?_; refine oB rfl rfl rfl qbl ?_; refine oN ⟨rfl, ?_⟩; refine pS ?_; refine oF (o := 0) rfl (by kernel_rfl) rfl ?_; refine oN ⟨rfl, ?_⟩; refine pS ?_; refine oL rfl rfl (qla1 1) ?_; refine oN ⟨rfl, ?_⟩; refine pS ?_; refine oX (sz := 1) rfl rfl rfl (by kernel_rfl) (by first | assumption | rfl) ?_; refine oN ⟨rfl, ?_⟩; refine pS ?_; refine oL rfl rfl (qla1 1) ?_; refine oN ⟨rfl, ?_⟩; refine pS ?_; refine oB rfl rfl rfl qbl ?_; refine oN ⟨rfl, ?_⟩; refine pS ?_; refine OkO.bin rfl rfl rfl (bin_neq _ _) ?_; refine oN ⟨rfl, ?_⟩; refine pS ?_; refine OkO.pick (b := false) rfl rfl nofun (fun _ => rfl) ?_; refine oN ⟨rfl, ?_⟩; refine OkP.nil ?_
          refine Ok.cond rfl (fun h5 => ?_) (fun h5 => ?_)
          · have hz : false = slOk cols least := bad_col hci (by (unfold colR; rw [List.headD_eq_head?_getD, hhd]; simp at h5 ⊢; intro _ h; omega))
            refine kS ?_; refine kR ?_; refine oA rfl rfl ?_; refine oN ?_
            refine Ok.ret ⟨.inr rfl, ?_⟩
            exact back_flat rfl (congrArg AV.bool hz) rfl (by rw [← hW]; exact (by (try dsimp only); repeat (first | (first | exact hg | exact hG) | apply Grow.new | (refine Grow.put ?_ _ (by first | omega | (simp only [hNw, hPt]; omega))))))
          · have hin : inB c.length 1 5 = true := by simpa using g4
            have hll : c.length = c0.length := by simp at h5; omega
            have hin2 : 1 ≤ c.length ∧ c.length ≤ 5 := by simp [inB] at hin; omega
            refine Ok.skip ?_; refine kS ?_; refine kR ?_; refine oA rfl rfl ?_; refine oN ?_; refine Ok.block ?_
            refine Ok.loop (fun n s => ∃ (k : Nat), n = c.length - k ∧ k ≤ c.length ∧ (∀ j b, j < k → c[j]? = some b → b.ok = true) ∧ Has 7 [(1, .ptr W.next 0), (2, .bool false), (3, I (i : Int)), (4, I (k : Int))] s.T ∧ s.D = [] ∧ Grow W s.H ∧ s.H.get W.next = some (.cells [cv, I least] 24) ∧ W.next + 1 ≤ s.H.next) (c.length) (by unfold loopFuel; omega)
              ⟨0, rfl, Nat.zero_le _, nofun, Has.of (by kernel_rfl), rfl, hg, ob, on⟩ ?_
            rintro n ⟨T, D, G⟩ ⟨k, hn2, hk, hbl, ⟨f2, hT⟩, hD, hg, ob, on⟩
            dsimp only at *
            subst hT hD
            have hgn := hg.next
            have hc1 : (G.get W.next).bind AObj.cs = some [cv, I least] := by rw [ob]; rfl
            have hEg := hE _ hg
            obtain ⟨mb, mo, mcs, m1, m2, m3, m4⟩ := (hR.ext hEg).at_ i [vs[i]] (by simp [hvi])
            have m5 := seg_one m3
            refine kS ?_; refine kS ?_; refine kR ?_; refine oM rfl rfl ?_; refine oF (o := 0) rfl (by kernel_rfl) rfl ?_; refine oL rfl rfl (qla1 1) ?_; refine oM rfl rfl ?_; refine oX (sz := 1) (n := i) rfl rfl rfl (by kernel_rfl) (by first | assumption | rfl) ?_; refine oL rfl rfl (qla1 1) ?_; refine oB rfl rfl rfl qbl ?_; refine OkO.bin rfl rfl rfl (bin_lss _ _) ?_; refine oN ?_
            refine Ok.cond rfl (fun h6 => ?_) (fun h6 => ?_)
            · have hkl : k < c.length := by simp at h6; omega
              obtain ⟨bb, bo, bcs, k1, k2, k3, k4⟩ := ((hv i vs[i] c (List.getElem?_eq_getElem hvi) hci).ext hEg).at_ k c[k].c (by simp [hkl])
              have hne : bb ≠ G.next := by omega
              have hck : c[k]? = some c[k] := List.getElem?_eq_getElem hkl
              have hgn := hg.next
              have hne2 : W.next ≠ G.next := by omega
              refine Ok.skip ?_; refine kS ?_; refine Ok.block ?_; refine kS ?_; refine kR ?_; refine oF (o := 0) rfl (by kernel_rfl) rfl ?_; refine oL rfl rfl (qla1 1) ?_; refine oM rfl rfl ?_; refine oX (sz := 1) (n := i) rfl rfl rfl (by kernel_rfl) (by first | assumption | rfl) ?_; refine oL rfl rfl (qla1 1) ?_; refine oM rfl rfl ?_; refine oX (sz := 8) (n := k) rfl rfl rfl (by kernel_rfl) (by first | assumption | rfl) ?_; refine oL rfl rfl (qlg2 8) ?_; refine OkO.alloc (z := [.int .i64 0, .int .i64 0, .int .i64 0, .int .i64 0, .int .i64 0, .int .i64 0, .int .i64 0, .int .i64 0]) rfl (by kernel_rfl) ?_; refine oT rfl rfl rfl (sAc (n := 8) (ag := true) (by kernel_rfl) (by first | assumption | (simp (disch := first | omega | (simp only [hNw, hPt]; omega)) only [gM] <;> first | rfl | assumption)) rfl rfl rfl) ?_; refine oN ?_; refine kS ?_; refine kR ?_; refine oF (o := 0) rfl (by kernel_rfl) rfl ?_; refine oL rfl rfl (qla1 1) ?_; refine oV rfl rfl rfl rfl rfl (c37 _ _ _ _ _) ?_; refine OkO.un rfl rfl rfl ?_; refine oM rfl rfl ?_
              refine OkO.split (d := 68) rfl (fun g7 => ?_) (fun g7 => ?_)
              · have hz : false = slOk cols least := bad_bed hci hck (by simp at g7; simp [Bed.ok, g7])
                refine oK rfl ?_; refine oK rfl ?_; refine oK rfl ?_; refine oK rfl ?_; refine OkO.pick (b := true) rfl rfl (fun _ => rfl) nofun ?_; refine oM rfl rfl ?_; refine oK rfl ?_; refine oK rfl ?_; refine oK rfl ?_; refine oK rfl ?_; refine OkO.pick (b := true) rfl rfl (fun _ => rfl) nofun ?_; refine oM rfl rfl ?_; refine oK rfl ?_; refine oK rfl ?_; refine oK rfl ?_; refine oK rfl ?_; refine OkO.pick (b := true) rfl rfl (fun _ => rfl) nofun ?_; refine oM rfl rfl ?_; refine oK rfl ?_; refine oK rfl ?_; refine oK rfl ?_; refine oK rfl ?_; refine OkO.pick (b := true) rfl rfl (fun _ => rfl) nofun ?_; refine oN ?_; refine Ok.condT rfl ?_; refine kS ?_; refine kR ?_; refine oA rfl rfl ?_; refine oN ?_
                refine Ok.ret ⟨.inr rfl, ?_⟩
                exact back_flat rfl (congrArg AV.bool hz) rfl (by rw [← hW]; exact (by (try dsimp only); repeat (first | (first | exact hg | exact hG) | apply Grow.new | (refine Grow.put ?_ _ (by first | omega | (simp only [hNw, hPt]; omega))))))
              · refine oF (o := 1) rfl (by kernel_rfl) rfl ?_
                refine oL rfl rfl (qla1 1) ?_; refine oV rfl rfl rfl rfl rfl (c37 _ _ _ _ _) ?_; refine OkO.un rfl rfl rfl ?_; refine OkO.pick (b := false) rfl rfl nofun (fun _ => rfl) ?_; refine oM rfl rfl ?_
                refine OkO.split (d := 74) rfl (fun g8 => ?_) (fun g8 => ?_)
                · have hz : false = slOk cols least := bad_bed hci hck (by simp at g8; simp [Bed.ok, g8])
                  refine oK rfl ?_; refine oK rfl ?_; refine oK rfl ?_; refine oK rfl ?_; refine OkO.pick (b := true) rfl rfl (fun _ => rfl) nofun ?_; refine oM rfl rfl ?_; refine oK rfl ?_; refine oK rfl ?_; refine oK rfl ?_; refine oK rfl ?_; refine OkO.pick (b := true) rfl rfl (fun _ => rfl) nofun ?_; refine oM rfl rfl ?_; refine oK rfl ?_; refine oK rfl ?_; refine oK rfl ?_; refine oK rfl ?_; refine OkO.pick (b := true) rfl rfl (fun _ => rfl) nofun ?_; refine oN ?_; refine Ok.condT rfl ?_; refine kS ?_; refine kR ?_; refine oA rfl rfl ?_; refine oN ?_
                  refine Ok.ret ⟨.inr rfl, ?_⟩
                  exact back_flat rfl (congrArg AV.bool hz) rfl (by rw [← hW]; exact (by (try dsimp only); repeat (first | (first | exact hg | exact hG) | apply Grow.new | (refine Grow.put ?_ _ (by first | omega | (simp only [hNw, hPt]; omega))))))
                · refine oF (o := 2) rfl (by kernel_rfl) rfl ?_
                  refine oL rfl rfl (qlg2 2) ?_; refine oV rfl rfl rfl rfl rfl (c64 _ _ _ _ _) ?_; refine OkO.un rfl rfl rfl ?_; refine OkO.pick (b := false) rfl rfl nofun (fun _ => rfl) ?_; refine oM rfl rfl ?_
                  refine OkO.split (d := 80) rfl (fun g9 => ?_) (fun g9 => ?_)
                  · have hz : false = slOk cols least := bad_bed hci hck (by simp at g9; simp [Bed.ok, g9])
                    refine oK rfl ?_; refine oK rfl ?_; refine oK rfl ?_; refine oK rfl ?_; refine OkO.pick (b := true) rfl rfl (fun _ => rfl) nofun ?_; refine oM rfl rfl ?_; refine oK rfl ?_; refine oK rfl ?_; refine oK rfl ?_; refine oK rfl ?_; refine OkO.pick (b := true) rfl rfl (fun _ => rfl) nofun ?_; refine oN ?_; refine Ok.condT rfl ?_; refine kS ?_; refine kR ?_; refine oA rfl rfl ?_; refine oN ?_
                    refine Ok.ret ⟨.inr rfl, ?_⟩
                    exact back_flat rfl (congrArg AV.bool hz) rfl (by rw [← hW]; exact (by (try dsimp only); repeat (first | (first | exact hg | exact hG) | apply Grow.new | (refine Grow.put ?_ _ (by first | omega | (simp only [hNw, hPt]; omega))))))
                  · refine oF (o := 4) rfl (by kernel_rfl) rfl ?_
                    refine oL rfl rfl (qlg2 2) ?_; refine oV rfl rfl rfl rfl rfl (c64 _ _ _ _ _) ?_; refine OkO.un rfl rfl rfl ?_; refine OkO.pick (b := false) rfl rfl nofun (fun _ => rfl) ?_; refine oM rfl rfl ?_
                    refine OkO.split (d := 86) rfl (fun g10 => ?_) (fun g10 => ?_)
                    · have hz : false = slOk cols least := bad_bed hci hck (by simp at g10; simp [Bed.ok, g10])
                      refine oK rfl ?_; refine oK rfl ?_; refine oK rfl ?_; refine oK rfl ?_; refine OkO.pick (b := true) rfl rfl (fun _ => rfl) nofun ?_; refine oN ?_; refine Ok.condT rfl ?_; refine kS ?_; refine kR ?_; refine oA rfl rfl ?_; refine oN ?_
                      refine Ok.ret ⟨.inr rfl, ?_⟩
                      exact back_flat rfl (congrArg AV.bool hz) rfl (by rw [← hW]; exact (by (try dsimp only); repeat (first | (first | exact hg | exact hG) | apply Grow.new | (refine Grow.put ?_ _ (by first | omega | (simp only [hNw, hPt]; omega))))))
                    · refine oF (o := 6) rfl (by kernel_rfl) rfl ?_
                      refine oL rfl rfl (qlg2 2) ?_; refine oV rfl rfl rfl rfl rfl (c64 _ _ _ _ _) ?_; refine OkO.un rfl rfl rfl ?_; refine OkO.pick (b := false) rfl rfl nofun (fun _ => rfl) ?_; refine oN ?_
                      refine Ok.cond rfl (fun h11 => ?_) (fun h11 => ?_)
                      · have hz : false = slOk cols least := bad_bed hci hck (by simp at h11; simp [Bed.ok, h11])
                        refine kS ?_; refine kR ?_; refine oA rfl rfl ?_; refine oN ?_
                        refine Ok.ret ⟨.inr rfl, ?_⟩
                        exact back_flat rfl (congrArg AV.bool hz) rfl (by rw [← hW]; exact (by (try dsimp only); repeat (first | (first | exact hg | exact hG) | apply Grow.new | (refine Grow.put ?_ _ (by first | omega | (simp only [hNw, hPt]; omega))))))
                      · refine Ok.skip ?_
                        refine kR ?_; refine oM rfl rfl ?_; refine OkO.bin rfl rfl rfl (bin_add (by omega) (by omega)) ?_; refine oA rfl rfl ?_; refine oN ?_
                        have hok : c[k].ok = true := by simp at g7 g8 g9 g10 h11; simp [Bed.ok, g7, g8, g9, g10, h11]
                        refine ⟨c.length - (k + 1), by omega, k + 1, rfl, hkl, fun j x hj hx => ?_, Has.of (by kernel_rfl), rfl, (by (try dsimp only); repeat (first | (first | exact hg | exact hG) | apply Grow.new | (refine Grow.put ?_ _ (by first | omega | (simp only [hNw, hPt]; omega))))), ?_, (by simp only [hNw, hPt]; omega)⟩
                        · by_cases e : j = k
                          · subst e; rw [List.getElem?_eq_getElem hkl] at hx; cases hx; exact hok
                          · exact hbl j x (by omega) hx
                        · show ((G.new _).put _ _).get W.next = _
                          rw [gpo _ _ _ _ (by omega), gno _ _ _ (by omega)]; exact ob
            · have hke : k = c.length := by simp at h6; omega
              subst hke
              refine Ok.exit ?_; refine kR ?_; refine oM rfl rfl ?_; refine OkO.bin rfl rfl rfl (bin_add (by omega) (by omega)) ?_; refine oA rfl rfl ?_; refine oN ?_
              have hcg : colR (cols.headD []).length c = true := by unfold colR; rw [List.headD_eq_head?_getD, hhd]; simp only [Option.getD_some]; rw [hin, show c.all Bed.ok = true from by rw [List.all_eq_true]; intro x hx; obtain ⟨q, hq, rfl⟩ := List.mem_iff_getElem.1 hx; exact hbl q _ (by omega) (List.getElem?_eq_getElem hq)]; simp [hll]
              refine ⟨cols.length - (i + 1), by omega, i + 1, rfl, hlt, fun j x hj hx => ?_, Has.of (by kernel_rfl), rfl, hg, ob, on⟩
              by_cases e : j = i
              · subst e; rw [hci] at hx; cases hx; exact hcg
              · exact hcl j x (by omega) hx
      · have hge : i = cols.length := by simp at h3; omega
        have hz : true = slOk cols least := by (rw [slOk_eq]; simp at g1 h2; rw [hvl] at g1; rw [g1, h2, show cols.all (colR (cols.headD []).length) = true from by rw [List.all_eq_true]; intro x hx; obtain ⟨q, hq, rfl⟩ := List.mem_iff_getElem.1 hx; exact hcl q _ (by omega) (List.getElem?_eq_getElem hq)]; rfl)
        refine Ok.exit ?_; refine kS ?_; refine kR ?_; refine oA rfl rfl ?_; refine oN ?_
        refine Ok.ret ⟨.inr rfl, ?_⟩
        exact back_flat rfl (congrArg AV.bool hz) rfl (by rw [← hW]; exact (by (try dsimp only); repeat (first | (first | exact hg | exact hG) | apply Grow.new | (refine Grow.put ?_ _ (by first | omega | (simp only [hNw, hPt]; omega))))))
end
end Go.Ev

set_option maxRecDepth 100000
set_option linter.unusedSimpArgs false
set_option linter.unusedVariables false
namespace Go.Ev
open Go Go.Proofs
noncomputable section
theorem surfB_eq {cols : List (List Bed)} {least fr : Int} {us : List Int} (h : slOk cols least = true) : surfB cols least fr us =
    (decide (least ≤ us.length) && decide ((us.length : Int) ≤ cols.length) && inB fr 0 (cols.length - us.length) && us.all (fun u => inB u 0 ((cols.headD []).length - 1)) && adjB us) := by
  have := slOk_facts h
  have e : (inB fr 0 (cols.length - 1) && inB us.length least (cols.length - fr)) = (decide (least ≤ us.length) && decide ((us.length : Int) ≤ cols.length) && inB fr 0 (cols.length - us.length)) := by
    rw [Bool.eq_iff_iff]; simp [inB]; omega
  unfold surfB; rw [e]
theorem bad_u {cols : List (List Bed)} {least fr : Int} {us : List Int} {j : Nat} (hj : j < us.length) (hb : inB us[j] 0 ((cols.headD []).length - 1) = false) : false = surfB cols least fr us := by
  unfold surfB; rw [show us.all (fun u => inB u 0 ((cols.headD []).length - 1)) = false from by rw [List.all_eq_false]; exact ⟨us[j], List.getElem_mem hj, by rw [hb]; simp⟩]; simp
theorem bad_a {cols : List (List Bed)} {least fr : Int} {us : List Int} {j : Nat} (hj : j + 1 < us.length) (hb : inB us[j + 1] (us[j] - 1) (us[j] + 1) = false) : false = surfB cols least fr us := by
  unfold surfB; rw [show adjB us = false from by unfold adjB; rw [List.all_eq_false]; exact ⟨j, by simp; omega, by simp [hj, show j < us.length from by omega, hb]⟩]; simp
theorem c35 (m : Nat) (cv bv : AV) (cols : List (List Bed)) (least fr : Int) (us : List Int) (H : Heap) (hM : Mat H cv cols) (hU : Ints H bv us) (hok : slOk cols least = true) (hbig : us.length ≤ 1000000) : RR (m + 2) (.fn 35 [.agg [cv, I least], .agg [I fr, bv]]) H = some (.bool (surfB cols least fr us), H) := by
  refine (R_fn _ _ _ _ _).trans ?_; refine fn_ok Try.func35 rfl rfl (by kernel_rfl) (by kernel_rfl) ?_
  obtain ⟨W, hW, hg, hN, hE, hG⟩ := wOf H
  rw [← hW]
  obtain ⟨vs, hR, hvl, hv⟩ := hM
  have hlen : lenOf cv = some vs.length := by simpa using hR.len
  have hlenb := hU.len
  have hvl2 : vs.length ≤ 12 ∧ 1 ≤ vs.length := by rw [hvl]; have := slOk_facts hok; omega
  have hleast : 1 ≤ least ∧ least ≤ 4 := by have := slOk_facts hok; omega
  refine kS ?_; refine kR ?_; refine OkO.box rfl rfl ?_; refine OkO.box rfl rfl ?_; refine oA rfl rfl ?_; refine oN ?_; refine kS ?_; refine kR ?_; refine oF (o := 1) rfl (by kernel_rfl) rfl ?_; refine oL rfl rfl (qla1 1) ?_; refine oB rfl rfl rfl qbl ?_; refine oA rfl rfl ?_; refine oN ?_; refine kS ?_; refine kS ?_; refine kR ?_; refine oM rfl rfl ?_; refine oF (o := 1) rfl (by kernel_rfl) rfl ?_; refine oL rfl rfl (qla1 1) ?_; refine OkO.bin rfl rfl rfl (bin_lss _ _) ?_; refine oM rfl rfl ?_
  refine OkO.split (d := 14) rfl (fun g1 => ?_) (fun g1 => ?_)
  · refine oK rfl ?_
    refine oK rfl ?_; refine oK rfl ?_; refine oK rfl ?_; refine oK rfl ?_; refine OkO.pick (b := true) rfl rfl (fun _ => rfl) nofun ?_; refine oM rfl rfl ?_; refine oK rfl ?_; refine oK rfl ?_; refine oK rfl ?_; refine oK rfl ?_; refine oK rfl ?_; refine oK rfl ?_; refine oK rfl ?_; refine oK rfl ?_; refine oK rfl ?_; refine OkO.pick (b := true) rfl rfl (fun _ => rfl) nofun ?_; refine oN ?_; refine Ok.condT rfl ?_; refine kS ?_; refine kR ?_; refine oA rfl rfl ?_; refine oN ?_
    refine Ok.ret ⟨.inr rfl, ?_⟩
    have hz : false = surfB cols least fr us := by rw [surfB_eq hok]; simp at g1; rw [show decide (least ≤ (us.length : Int)) = false from by simp; omega]; simp
    exact back_flat rfl (congrArg AV.bool hz) rfl (by rw [← hW]; exact (by (try dsimp only); repeat (first | exact hG | apply Grow.new | (refine Grow.put ?_ _ (by first | omega | (simp only [hNw, hPt]; omega))))))
  · have hl1 : least ≤ us.length := by simp at g1; omega
    refine oM rfl rfl ?_; refine oF (o := 0) rfl (by kernel_rfl) rfl ?_; refine oL rfl rfl (qla1 1) ?_; refine oB rfl rfl rfl qbl ?_; refine OkO.bin rfl rfl rfl (bin_gtr _ _) ?_; refine OkO.pick (b := false) rfl rfl nofun (fun _ => rfl) ?_; refine oM rfl rfl ?_
    refine OkO.split (d := 21) rfl (fun g2 => ?_) (fun g2 => ?_)
    · refine oK rfl ?_
      refine oK rfl ?_; refine oK rfl ?_; refine oK rfl ?_; refine oK rfl ?_; refine oK rfl ?_; refine oK rfl ?_; refine oK rfl ?_; refine oK rfl ?_; refine OkO.pick (b := true) rfl rfl (fun _ => rfl) nofun ?_; refine oN ?_; refine Ok.condT rfl ?_; refine kS ?_; refine kR ?_; refine oA rfl rfl ?_; refine oN ?_
      refine Ok.ret ⟨.inr rfl, ?_⟩
      have hz : false = surfB cols least fr us := by rw [surfB_eq hok]; simp at g2; rw [show decide ((us.length : Int) ≤ cols.length) = false from by simp; omega]; simp
      exact back_flat rfl (congrArg AV.bool hz) rfl (by rw [← hW]; exact (by (try dsimp only); repeat (first | exact hG | apply Grow.new | (refine Grow.put ?_ _ (by first | omega | (simp only [hNw, hPt]; omega))))))
    · refine oF (o := 0) rfl (by kernel_rfl) rfl ?_
      refine oL rfl rfl (qla1 1) ?_; refine oF (o := 0) rfl (by kernel_rfl) rfl ?_; refine oL rfl rfl (qla1 1) ?_; refine oB rfl rfl rfl qbl ?_; refine oM rfl rfl ?_; refine OkO.bin rfl rfl rfl (bin_sub (by omega) (by omega)) ?_; refine oV rfl rfl rfl rfl rfl (c37 _ _ _ _ _) ?_; refine OkO.un rfl rfl rfl ?_; refine OkO.pick (b := false) rfl rfl nofun (fun _ => rfl) ?_; refine oN ?_
      refine Ok.cond rfl (fun h3 => ?_) (fun h3 => ?_)
      · refine kS ?_
        refine kR ?_; refine oA rfl rfl ?_; refine oN ?_
        refine Ok.ret ⟨.inr rfl, ?_⟩
        have hz : false = surfB cols least fr us := by (rw [surfB_eq hok]; simp at h3; rw [hvl] at h3; rw [h3]; simp)
        exact back_flat rfl (congrArg AV.bool hz) rfl (by rw [← hW]; exact (by (try dsimp only); repeat (first | exact hG | apply Grow.new | (refine Grow.put ?_ _ (by first | omega | (simp only [hNw, hPt]; omega))))))
      · have hul : us.length ≤ 12 := by simp at g2; omega
        have hv0 : 0 < vs.length := by omega
        obtain ⟨c0, hc0⟩ : ∃ c0, cols[0]? = some c0 := ⟨_, List.getElem?_eq_getElem (by omega)⟩
        have hhd : cols.head? = some c0 := by rw [← hc0]; cases cols <;> rfl
        have hlz : lenOf vs[0] = some c0.length := by simpa using (hv 0 vs[0] c0 (List.getElem?_eq_getElem hv0) hc0).len
        have hc05 : 1 ≤ c0.length ∧ c0.length ≤ 5 := by have := slOk_facts hok; rw [List.headD_eq_head?_getD, hhd] at this; simp at this; omega
        refine Ok.skip ?_; refine kS ?_; refine kS ?_; refine kR ?_; refine oA rfl rfl ?_; refine oN ?_; refine Ok.block ?_
        refine Ok.loop (fun n s => ∃ (i : Nat), n = us.length - i ∧ i ≤ us.length ∧ (∀ (j : Nat) (hj : j < us.length), j < i → inB us[j] 0 ((cols.headD []).length - 1) = true) ∧ (∀ (j : Nat) (hj : j + 1 < us.length), j + 1 < i → inB us[j + 1] (us[j] - 1) (us[j] + 1) = true) ∧ Has 7 [(2, .ptr W.next 0), (3, .ptr (W.next + 1) 0), (4, .bool false), (5, I us.length), (6, I (i : Int))] s.T ∧ s.D = [] ∧ Grow W s.H ∧ s.H.get W.next = some (.cells [cv, I least] 24) ∧ s.H.get (W.next + 1) = some (.cells [I fr, bv] 27)) (us.length) (by unfold loopFuel; omega)
          ⟨0, rfl, Nat.zero_le _, (fun j _ h => by omega), (fun j _ h => by omega), Has.of (by kernel_rfl), rfl, (by (try dsimp only); repeat (first | exact hG | apply Grow.new | (refine Grow.put ?_ _ (by first | omega | (simp only [hNw, hPt]; omega))))), (by simp (disch := first | omega | (simp only [hNw, hPt]; omega)) only [gM] <;> rfl), (by simp (disch := first | omega | (simp only [hNw, hPt]; omega)) only [gM] <;> rfl)⟩ ?_
        rintro n ⟨T, D, G⟩ ⟨i, hn, hi, ha1, ha2, ⟨f, hT⟩, hD, hg, ob1, ob2⟩
        dsimp only at *
        subst hT hD
        have hgn := hg.next
        have hc1 : (G.get W.next).bind AObj.cs = some [cv, I least] := by rw [ob1]; rfl
        have hc2 : (G.get (W.next + 1)).bind AObj.cs = some [I fr, bv] := by rw [ob2]; rfl
        have hEg := hE _ hg
        refine kS ?_; refine kS ?_; refine kR ?_; refine oM rfl rfl ?_; refine oM rfl rfl ?_; refine OkO.bin rfl rfl rfl (bin_lss _ _) ?_; refine oN ?_
        refine Ok.cond rfl (fun h4 => ?_) (fun h4 => ?_)
        · have hlt : i < us.length := by simp at h4; omega
          obtain ⟨ub, uo, ucs, i1, i2, i5, i4⟩ := (hU.ext hEg).at' i hlt
          obtain ⟨zb, zo, zcs, z1, z2, z3, z4⟩ := (hR.ext hEg).at_ 0 [vs[0]] (by simp [hv0])
          have z5 := seg_one z3
          refine Ok.skip ?_; refine kS ?_; refine Ok.block ?_; refine kS ?_; refine Ok.drawn [(0, true, []), (1, true, []), (2, true, []), (3, true, []), (4, true, []), (5, true, []), (6, true, []), (7, true, []), (8, true, []), (9, true, []), (10, true, []), (11, false, [9, 8, 6, 1]), (12, true, []), (13, true, []), (14, true, []), (15, true, []), (16, true, []), (17, true, []), (18, true, []), (19, true, []), (20, true, []), (21, true, []), (22, true, []), (23, true, []), (24, true, []), (25, true, []), (26, true, []), (27, true, []), (28, true, []), (29, false, [27, 23, 21, 18, 9, 8, 6, 4, 1]), (30, true, []), (31, true, []), (32, true, [])] (by kernel_rfl) ?_; refine pS ?_; refine oF (o := 1) rfl (by kernel_rfl) rfl ?_; refine oN ⟨rfl, ?_⟩; refine pS ?_; refine oL rfl rfl (qla1 1) ?_; refine oN ⟨rfl, ?_⟩; refine pS ?_; refine oM rfl rfl ?_; refine oN ⟨rfl, ?_⟩; refine pS ?_; refine oX (sz := 1) (n := i) rfl rfl rfl (by kernel_rfl) (by first | assumption | rfl) ?_; refine oN ⟨rfl, ?_⟩; refine pS ?_; refine oL rfl rfl (qla1 1) ?_; refine oN ⟨rfl, ?_⟩; refine pS ?_; refine oF (o := 0) rfl (by kernel_rfl) rfl ?_; refine oN ⟨rfl, ?_⟩; refine pS ?_; refine oL rfl rfl (qla1 1) ?_; refine oN ⟨rfl, ?_⟩; refine pS ?_; refine oX (sz := 1) rfl rfl rfl (by kernel_rfl) (by first | assumption | rfl) ?_; refine oN ⟨rfl, ?_⟩; refine pS ?_; refine oL rfl rfl (qla1 1) ?_; refine oN ⟨rfl, ?_⟩; refine pS ?_; refine oB rfl rfl rfl qbl ?_; refine oN ⟨rfl, ?_⟩; refine pS ?_; refine OkO.bin rfl rfl rfl (bin_sub (by omega) (by omega)) ?_; refine oN ⟨rfl, ?_⟩; refine pS ?_; refine oV rfl rfl rfl rfl rfl (c37 _ _ _ _ _) ?_
          refine oN ⟨(sco (svl rfl (ecb rfl rfl qbl) rfl (eqr _ rfl)) (sco (sld rfl rfl (qla1 1) rfl (eqr _ (by first | rfl | exact lpl (by assumption)))) (sco (sld rfl rfl (qla1 1) rfl (eqr _ (by first | rfl | exact lpl (by assumption)))) (sco (sld rfl rfl (qla1 1) rfl (eqr _ (by first | rfl | exact lpl (by assumption)))) rfl)))), ?_⟩; refine pS ?_; refine OkO.un rfl rfl rfl ?_; refine oN ⟨rfl, ?_⟩; refine pS ?_; refine oM rfl rfl ?_; refine oN ⟨rfl, ?_⟩
          refine OkP.split (d := 50) rfl (fun g5 => ?_) (fun g5 => ?_)
          · have hz : false = surfB cols least fr us := bad_u hlt (by rw [List.headD_eq_head?_getD, hhd]; simpa using g5)
            refine pS ?_; refine oK rfl ?_; refine oN ⟨rfl, ?_⟩; refine pS ?_; refine oK rfl ?_; refine oN ⟨rfl, ?_⟩; refine pS ?_; refine oK rfl ?_; refine oN ⟨rfl, ?_⟩; refine pS ?_; refine oK rfl ?_; refine oN ⟨rfl, ?_⟩; refine pS ?_; refine oK rfl ?_; refine oN ⟨rfl, ?_⟩; refine pS ?_; refine oK rfl ?_; refine oN ⟨rfl, ?_⟩; refine pS ?_; refine oK rfl ?_; refine oN ⟨rfl, ?_⟩; refine pS ?_; refine oK rfl ?_; refine oN ⟨rfl, ?_⟩; refine pS ?_; refine oK rfl ?_; refine oN ⟨rfl, ?_⟩; refine pS ?_; refine oK rfl ?_; refine oN ⟨rfl, ?_⟩; refine pS ?_; refine oK rfl ?_; refine oN ⟨rfl, ?_⟩; refine pS ?_; refine oK rfl ?_; refine oN ⟨rfl, ?_⟩; refine pS ?_; refine oK rfl ?_; refine oN ⟨rfl, ?_⟩; refine pS ?_; refine oK rfl ?_; refine oN ⟨rfl, ?_⟩; refine pS ?_; refine oK rfl ?_; refine oN ⟨rfl, ?_⟩; refine pS ?_; refine oK rfl ?_
            refine oN ⟨(sco (ssk rfl) (sco (ssk rfl) (sco (ssk rfl) (sco (ssk rfl) (sco (svl rfl (ecb rfl rfl qbl) rfl (eqr _ rfl)) (sco (sld rfl rfl (qla1 1) rfl (eqr _ (by first | rfl | exact lpl (by assumption)))) (sco (sld rfl rfl (qla1 1) rfl (eqr _ (by first | rfl | exact lpl (by assumption)))) (sco (sld rfl rfl (qla1 1) rfl (eqr _ (by first | rfl | exact lpl (by assumption)))) (sco (sld rfl rfl (qla1 1) rfl (eqr _ (by first | rfl | exact lpl (by assumption)))) rfl))))))))), ?_⟩; refine pS ?_; refine oK rfl ?_; refine oN ⟨rfl, ?_⟩; refine pS ?_; refine oK rfl ?_; refine oN ⟨rfl, ?_⟩; refine pS ?_; refine OkO.pick (b := true) rfl rfl (fun _ => rfl) nofun ?_; refine oN ⟨rfl, ?_⟩; refine OkP.nil ?_; refine Ok.condT rfl ?_; refine kS ?_; refine kR ?_; refine oA rfl rfl ?_; refine oN ?_
            refine Ok.ret ⟨.inr rfl, ?_⟩
            exact back_flat rfl (congrArg AV.bool hz) rfl (by rw [← hW]; exact hg)
          · refine pS ?_
            refine oM rfl rfl ?_; refine oN ⟨rfl, ?_⟩; refine pS ?_; refine OkO.bin rfl rfl rfl (bin_gtr _ _) ?_; refine oN ⟨rfl, ?_⟩; refine pS ?_; refine oM rfl rfl ?_; refine oN ⟨rfl, ?_⟩
            refine OkP.split (d := 53) rfl (fun g6 => ?_) (fun g6 => ?_)
            · obtain ⟨q, hq⟩ : ∃ q, i = q + 1 := ⟨i - 1, by simp at g6; omega⟩
              have eq : ((i : Nat) : Int) - 1 = (q : Int) := by omega
              obtain ⟨yb, yo, ycs, y1, y2, y5, y4⟩ := (hU.ext hEg).at' q (by omega)
              have hb1 : 0 ≤ us[i] ∧ us[i] ≤ 4 := by simp [inB] at g5; omega
              have hb2 : 0 ≤ us[q] ∧ us[q] ≤ 4 := by have := ha1 q (by omega) (by omega); rw [List.headD_eq_head?_getD, hhd] at this; simp [inB] at this; omega
              refine pS ?_; refine oF (o := 1) rfl (by kernel_rfl) rfl ?_; refine oN ⟨rfl, ?_⟩; refine pS ?_; refine oL rfl rfl (qla1 1) ?_; refine oN ⟨rfl, ?_⟩; refine pS ?_; refine oM rfl rfl ?_; refine oN ⟨rfl, ?_⟩; refine pS ?_; refine oX (sz := 1) (n := i) rfl rfl rfl (by kernel_rfl) (by first | assumption | rfl) ?_; refine oN ⟨rfl, ?_⟩; refine pS ?_; refine oL rfl rfl (qla1 1) ?_; refine oN ⟨rfl, ?_⟩; refine pS ?_; refine oF (o := 1) rfl (by kernel_rfl) rfl ?_; refine oN ⟨rfl, ?_⟩; refine pS ?_; refine oL rfl rfl (qla1 1) ?_; refine oN ⟨rfl, ?_⟩; refine pS ?_; refine oM rfl rfl ?_; refine oN ⟨rfl, ?_⟩; refine pS ?_; refine OkO.bin rfl rfl rfl (bin_sub (by omega) (by omega)) ?_; refine oN ⟨rfl, ?_⟩; refine pS ?_; refine oX (sz := 1) (n := q) rfl rfl (congrArg (fun z => some (AV.int .i64 z)) eq) (by kernel_rfl) (by first | assumption | rfl) ?_; refine oN ⟨rfl, ?_⟩; refine pS ?_; refine oL rfl rfl (qla1 1) ?_; refine oN ⟨rfl, ?_⟩; refine pS ?_; refine OkO.bin rfl rfl rfl (bin_sub (by omega) (by omega)) ?_; refine oN ⟨rfl, ?_⟩; refine pS ?_; refine oV rfl rfl rfl rfl rfl (c37 _ _ _ _ _) ?_
              refine oN ⟨(sco (sld rfl rfl (qla1 1) rfl (eqr _ (by first | rfl | exact lpl (by assumption)))) (sco (sld rfl rfl (qla1 1) rfl (eqr _ (by first | rfl | exact lpl (by assumption)))) (sco (sld rfl rfl (qla1 1) rfl (eqr _ (by first | rfl | exact lpl (by assumption)))) (sco (sld rfl rfl (qla1 1) rfl (eqr _ (by first | rfl | exact lpl (by assumption)))) (sco (svl rfl (ecb rfl rfl qbl) rfl (eqr _ rfl)) (sco (sld rfl rfl (qla1 1) rfl (eqr _ (by first | rfl | exact lpl (by assumption)))) (sco (sld rfl rfl (qla1 1) rfl (eqr _ (by first | rfl | exact lpl (by assumption)))) (sco (sld rfl rfl (qla1 1) rfl (eqr _ (by first | rfl | exact lpl (by assumption)))) (sco (sld rfl rfl (qla1 1) rfl (eqr _ (by first | rfl | exact lpl (by assumption)))) rfl))))))))), ?_⟩; refine pS ?_; refine OkO.un rfl rfl rfl ?_; refine oN ⟨rfl, ?_⟩; refine pS ?_; refine OkO.pick (b := true) rfl rfl (fun _ => rfl) nofun ?_; refine oN ⟨rfl, ?_⟩; refine pS ?_; refine OkO.pick (b := false) rfl rfl nofun (fun _ => rfl) ?_; refine oN ⟨rfl, ?_⟩; refine OkP.nil ?_
              refine Ok.cond rfl (fun h7 => ?_) (fun h7 => ?_)
              · subst hq
                have hz : false = surfB cols least fr us := bad_a hlt (by simp [inB] at h7 ⊢; omega)
                refine kS ?_; refine kR ?_; refine oA rfl rfl ?_; refine oN ?_
                refine Ok.ret ⟨.inr rfl, ?_⟩
                exact back_flat rfl (congrArg AV.bool hz) rfl (by rw [← hW]; exact hg)
              · refine Ok.skip ?_
                refine kR ?_; refine oM rfl rfl ?_; refine OkO.bin rfl rfl rfl (bin_add (by omega) (by omega)) ?_; refine oA rfl rfl ?_; refine oN ?_
                refine ⟨us.length - (i + 1), by omega, i + 1, rfl, hlt, fun j hj hji => ?_, fun j hj hji => ?_, Has.of (by kernel_rfl), rfl, hg, ob1, ob2⟩
                · by_cases e : j = i
                  · subst e; rw [List.headD_eq_head?_getD, hhd]; simpa using g5
                  · exact ha1 j hj (by omega)
                · by_cases e : j + 1 = i
                  · (obtain rfl : j = q := by omega); subst hq; simp [inB] at h7 ⊢; omega
                  · exact ha2 j hj (by omega)
            · have hi0 : i = 0 := by simp at g6; omega
              refine pS ?_; refine oK rfl ?_; refine oN ⟨rfl, ?_⟩; refine pS ?_; refine oK rfl ?_; refine oN ⟨rfl, ?_⟩; refine pS ?_; refine oK rfl ?_; refine oN ⟨rfl, ?_⟩; refine pS ?_; refine oK rfl ?_; refine oN ⟨rfl, ?_⟩; refine pS ?_; refine oK rfl ?_; refine oN ⟨rfl, ?_⟩; refine pS ?_; refine oK rfl ?_; refine oN ⟨rfl, ?_⟩; refine pS ?_; refine oK rfl ?_; refine oN ⟨rfl, ?_⟩; refine pS ?_; refine oK rfl ?_; refine oN ⟨rfl, ?_⟩; refine pS ?_; refine oK rfl ?_; refine oN ⟨rfl, ?_⟩; refine pS ?_; refine oK rfl ?_; refine oN ⟨rfl, ?_⟩; refine pS ?_; refine oK rfl ?_; refine oN ⟨rfl, ?_⟩; refine pS ?_; refine oK rfl ?_; refine oN ⟨rfl, ?_⟩; refine pS ?_; refine oK rfl ?_
              refine oN ⟨(sco (ssk rfl) (sco (ssk rfl) (sco (ssk rfl) (sco (ssk rfl) (sco (svl rfl (ecb rfl rfl qbl) rfl (eqr _ rfl)) (sco (sld rfl rfl (qla1 1) rfl (eqr _ (by first | rfl | exact lpl (by assumption)))) (sco (sld rfl rfl (qla1 1) rfl (eqr _ (by first | rfl | exact lpl (by assumption)))) (sco (sld rfl rfl (qla1 1) rfl (eqr _ (by first | rfl | exact lpl (by assumption)))) (sco (sld rfl rfl (qla1 1) rfl (eqr _ (by first | rfl | exact lpl (by assumption)))) rfl))))))))), ?_⟩; refine pS ?_; refine oK rfl ?_; refine oN ⟨rfl, ?_⟩; refine pS ?_; refine OkO.pick (b := false) rfl rfl nofun (fun _ => rfl) ?_; refine oN ⟨rfl, ?_⟩; refine pS ?_; refine OkO.pick (b := false) rfl rfl nofun (fun _ => rfl) ?_; refine oN ⟨rfl, ?_⟩; refine OkP.nil ?_; refine Ok.condF rfl ?_; refine Ok.skip ?_; refine kR ?_; refine oM rfl rfl ?_; refine OkO.bin rfl rfl rfl (bin_add (by omega) (by omega)) ?_; refine oA rfl rfl ?_; refine oN ?_
              refine ⟨us.length - (i + 1), by omega, i + 1, rfl, hlt, fun j hj hji => ?_, fun j hj hji => ?_, Has.of (by kernel_rfl), rfl, hg, ob1, ob2⟩
              · by_cases e : j = i
                · subst e; rw [List.headD_eq_head?_getD, hhd]; simpa using g5
                · exact ha1 j hj (by omega)
              · by_cases e : j + 1 = i
                · omega
                · exact ha2 j hj (by omega)
        · have hge : i = us.length := by simp at h4; omega
          have hz : true = surfB cols least fr us := by (rw [surfB_eq hok, show us.all (fun u => inB u 0 ((cols.headD []).length - 1)) = true from by rw [List.all_eq_true]; intro x hx; obtain ⟨q, hq, rfl⟩ := List.mem_iff_getElem.1 hx; exact ha1 q hq (by omega), show adjB us = true from by unfold adjB; rw [List.all_eq_true]; intro j hj; have hj2 : j + 1 < us.length := (by have := List.mem_range.1 hj; omega); simpa [hj2, show j < us.length from by omega] using ha2 j hj2 (by omega)]; simp at g1 g2 h3; rw [hvl] at g2 h3; simp [g1, g2, h3])
          refine Ok.exit ?_; refine kS ?_; refine kR ?_; refine oA rfl rfl ?_; refine oN ?_
          refine Ok.ret ⟨.inr rfl, ?_⟩
          exact back_flat rfl (congrArg AV.bool hz) rfl (by rw [← hW]; exact hg)
end
end Go.Ev

set_option maxRecDepth 100000
set_option linter.unusedSimpArgs false
set_option linter.unusedVariables false
namespace Go.Ev
open Go Go.Proofs
noncomputable section
/-- What a bed holds in a truth. -/
abbrev Rl := Int × Int × Int
def rl (r : Rl) : List AV := [I r.1, I r.2.1, I r.2.2]
def holdsR (b : Bed) (r : Rl) : Int := holds b.no r.1 r.2.1 r.2.2
def Rl.lim (r : Rl) : Prop := (0 ≤ r.1 ∧ r.1 ≤ 2000) ∧ (0 ≤ r.2.1 ∧ r.2.1 ≤ 100000) ∧ (0 ≤ r.2.2 ∧ r.2.2 ≤ 100000)
def endT (most : Bool) (b : Bed) : Rl := if most then (b.fh, b.ch, b.wl) else (b.fl, b.cl, b.wh)
def held (L : List Bed) (R : List Rl) : Int := ((L.zip R).map fun p => holdsR p.1 p.2).sum
theorem held_take (L : List Bed) (R : List Rl) (i : Nat) (h1 : i < L.length) (h2 : i < R.length) : held (L.take (i + 1)) (R.take (i + 1)) = held (L.take i) (R.take i) + holdsR L[i] R[i] := by
  unfold held
  have e : ∀ n, (L.take n).zip (R.take n) = (L.zip R).take n := fun n => (List.take_zipWith).symm
  rw [e, e, List.take_succ_eq_append_getElem (by simp; omega), List.map_append, List.sum_append]; simp
theorem held_bd (L : List Bed) (R : List Rl) (h1 : ∀ b ∈ L, b.ok = true) (h2 : ∀ r ∈ R, r.lim) : 0 ≤ held L R ∧ held L R ≤ 300000 * (L.length : Int) := by
  induction L generalizing R with
  | nil => simp [held]
  | cons b L ih =>
    cases R with
    | nil => simp [held]; omega
    | cons r R =>
      have e : held (b :: L) (r :: R) = holdsR b r + held L R := by simp [held]
      have hb := Bed.ok_lim (h1 b (by simp)); unfold Bed.lim at hb
      have hr := h2 r (by simp); unfold Rl.lim at hr
      have h3 := ih R (fun x hx => h1 x (by simp [hx])) (fun x hx => h2 x (by simp [hx]))
      have h4 := (holds_bd (no := b.no) (f := r.1) (c := r.2.1) (w := r.2.2) (by omega) (by omega) (by omega) (by omega)).2.2.2.2
      rw [e]; simp only [List.length_cons]; unfold holdsR; omega
theorem endT_lim {b : Bed} (m : Bool) (h : b.ok = true) : (endT m b).lim := by
  have hb := Bed.ok_lim h; unfold Bed.lim at hb
  unfold endT Rl.lim; cases m <;> simp <;> omega
/-- The factor by the reference: -1 where nothing drives. -/
def refFactor (L : List Bed) (R : List Rl) : Int := if drive L < 1 then -1 else min 10000 (1000 * held L R / drive L)
theorem c65 (m : Nat) (b : Bed) (r : Rl) (H : Heap) (h0 : 0 ≤ b.no ∧ b.no ≤ 100000) (hr : r.lim) : RR (m + 1) (.fn 65 [.agg b.c, .agg (rl r)]) H = some (I (holdsR b r), H) := by
  refine (R_fn _ _ _ _ _).trans ?_; refine fn_ok Try.func65 rfl rfl (by kernel_rfl) (by kernel_rfl) ?_
  obtain ⟨W, hW, hg, hN, hE, hG⟩ := wOf H
  rw [← hW]
  unfold Rl.lim at hr
  obtain ⟨h1, h2, h3⟩ := hr
  have hbd := holds_bd (no := b.no) h0 h1 h2 h3.1
  have hd : holdsR b r = max (b.no - r.2.2) 0 * r.1 / 1000 + r.2.1 := rfl
  refine kS ?_; refine kR ?_; refine OkO.box rfl rfl ?_; refine OkO.box rfl rfl ?_; refine oA rfl rfl ?_; refine oN ?_; refine kS ?_; refine kR ?_; refine oF (o := 1) rfl (by kernel_rfl) rfl ?_; refine oL rfl rfl (qla1 1) ?_; refine oF (o := 2) rfl (by kernel_rfl) rfl ?_; refine oL rfl rfl (qla1 1) ?_; refine OkO.bin rfl rfl rfl (bin_sub (by omega) (by omega)) ?_; refine oA rfl rfl ?_; refine oN ?_; refine kS ?_; refine kS ?_; refine kR ?_; refine oM rfl rfl ?_; refine OkO.bin rfl rfl rfl (bin_lss _ _) ?_; refine oN ?_
  refine Ok.cond rfl (fun h1 => ?_) (fun h1 => ?_)
  · have hm : max (b.no - r.2.2) 0 = 0 := by simp at h1; omega
    rw [hm] at hd
    refine kR ?_; refine oA rfl rfl ?_; refine oN ?_; refine kS ?_; refine kR ?_; refine oM rfl rfl ?_; refine oF (o := 0) rfl (by kernel_rfl) rfl ?_; refine oL rfl rfl (qla1 1) ?_; refine OkO.bin rfl rfl rfl (bin_mul (by omega) (by omega)) ?_; refine OkO.bin rfl rfl rfl (bin_quo (by omega) (by omega) (by omega)) ?_; refine oF (o := 1) rfl (by kernel_rfl) rfl ?_; refine oL rfl rfl (qla1 1) ?_; refine OkO.bin rfl rfl rfl (bin_add (by omega) (by omega)) ?_; refine oA rfl rfl ?_; refine oN ?_
    refine Ok.ret ⟨.inr rfl, ?_⟩
    exact back_flat rfl (by rw [hd]; rfl) rfl (by rw [← hW]; exact (by (try dsimp only); repeat (first | exact hG | apply Grow.new | (refine Grow.put ?_ _ (by first | omega | (simp only [hNw, hPt]; omega))))))
  · have hm : max (b.no - r.2.2) 0 = b.no - r.2.2 := by simp at h1; omega
    rw [hm] at hd hbd
    refine Ok.skip ?_; refine kS ?_; refine kR ?_; refine oM rfl rfl ?_; refine oF (o := 0) rfl (by kernel_rfl) rfl ?_; refine oL rfl rfl (qla1 1) ?_; refine OkO.bin rfl rfl rfl (bin_mul (by omega) (by omega)) ?_; refine OkO.bin rfl rfl rfl (bin_quo (by omega) (by omega) (by omega)) ?_; refine oF (o := 1) rfl (by kernel_rfl) rfl ?_; refine oL rfl rfl (qla1 1) ?_; refine OkO.bin rfl rfl rfl (bin_add (by omega) (by omega)) ?_; refine oA rfl rfl ?_; refine oN ?_
    refine Ok.ret ⟨.inr rfl, ?_⟩
    exact back_flat rfl (by rw [hd]; rfl) rfl (by rw [← hW]; exact (by (try dsimp only); repeat (first | exact hG | apply Grow.new | (refine Grow.put ?_ _ (by first | omega | (simp only [hNw, hPt]; omega))))))
theorem c86 (m : Nat) (b : Bed) (H : Heap)  : RR (m + 1) (.fn 86 [.agg b.c]) H = some (.agg (rl (endT true b)), H) := by
  refine (R_fn _ _ _ _ _).trans ?_; refine fn_ok Try.func86 rfl rfl (by kernel_rfl) (by kernel_rfl) ?_
  obtain ⟨W, hW, hg, hN, hE, hG⟩ := wOf H
  rw [← hW]
  refine kS ?_; refine kR ?_; refine OkO.box rfl rfl ?_; refine OkO.alloc (z := [.int .i64 0, .int .i64 0, .int .i64 0]) rfl (by kernel_rfl) ?_; refine oN ?_; refine kS ?_; refine kR ?_; refine oF (o := 2) rfl (by kernel_rfl) rfl ?_; refine oF (o := 1) rfl (by kernel_rfl) rfl ?_; refine oL rfl rfl (qla1 1) ?_; refine oF (o := 4) rfl (by kernel_rfl) rfl ?_; refine oF (o := 1) rfl (by kernel_rfl) rfl ?_; refine oL rfl rfl (qla1 1) ?_; refine oF (o := 6) rfl (by kernel_rfl) rfl ?_; refine oF (o := 0) rfl (by kernel_rfl) rfl ?_; refine oL rfl rfl (qla1 1) ?_; refine OkO.build (z := [.int .i64 0, .int .i64 0, .int .i64 0]) (pl := [(0, 1), (1, 1), (2, 1)]) rfl (by kernel_rfl) rfl rfl ?_; refine oT rfl rfl rfl (sAc (n := 3) (ag := true) (by kernel_rfl) (by first | assumption | (simp (disch := first | omega | (simp only [hNw, hPt]; omega)) only [gM] <;> first | rfl | assumption)) rfl rfl rfl) ?_; refine oN ?_
  refine Ok.ret ⟨.inr rfl, ?_⟩
  exact back_flat (resV_cell rfl (qlg2 3) resV_nil) (rfl) rfl (by rw [← hW]; exact (by (try dsimp only); repeat (first | exact hG | apply Grow.new | (refine Grow.put ?_ _ (by first | omega | (simp only [hNw, hPt]; omega))))))
theorem c87 (m : Nat) (b : Bed) (H : Heap)  : RR (m + 1) (.fn 87 [.agg b.c]) H = some (.agg (rl (endT false b)), H) := by
  refine (R_fn _ _ _ _ _).trans ?_; refine fn_ok Try.func87 rfl rfl (by kernel_rfl) (by kernel_rfl) ?_
  obtain ⟨W, hW, hg, hN, hE, hG⟩ := wOf H
  rw [← hW]
  refine kS ?_; refine kR ?_; refine OkO.box rfl rfl ?_; refine OkO.alloc (z := [.int .i64 0, .int .i64 0, .int .i64 0]) rfl (by kernel_rfl) ?_; refine oN ?_; refine kS ?_; refine kR ?_; refine oF (o := 2) rfl (by kernel_rfl) rfl ?_; refine oF (o := 0) rfl (by kernel_rfl) rfl ?_; refine oL rfl rfl (qla1 1) ?_; refine oF (o := 4) rfl (by kernel_rfl) rfl ?_; refine oF (o := 0) rfl (by kernel_rfl) rfl ?_; refine oL rfl rfl (qla1 1) ?_; refine oF (o := 6) rfl (by kernel_rfl) rfl ?_; refine oF (o := 1) rfl (by kernel_rfl) rfl ?_; refine oL rfl rfl (qla1 1) ?_; refine OkO.build (z := [.int .i64 0, .int .i64 0, .int .i64 0]) (pl := [(0, 1), (1, 1), (2, 1)]) rfl (by kernel_rfl) rfl rfl ?_; refine oT rfl rfl rfl (sAc (n := 3) (ag := true) (by kernel_rfl) (by first | assumption | (simp (disch := first | omega | (simp only [hNw, hPt]; omega)) only [gM] <;> first | rfl | assumption)) rfl rfl rfl) ?_; refine oN ?_
  refine Ok.ret ⟨.inr rfl, ?_⟩
  exact back_flat (resV_cell rfl (qlg2 3) resV_nil) (rfl) rfl (by rw [← hW]; exact (by (try dsimp only); repeat (first | exact hG | apply Grow.new | (refine Grow.put ?_ _ (by first | omega | (simp only [hNw, hPt]; omega))))))
end
end Go.Ev

set_option maxRecDepth 100000
set_option linter.unusedSimpArgs false
set_option linter.unusedVariables false
namespace Go.Ev
open Go Go.Proofs
noncomputable section
theorem c54 (m : Nat) (cv bv : AV) (cols : List (List Bed)) (least : Int) (f0 : Nat) (us : List Nat) (L : List Bed) (most : Bool) (H : Heap) (hM : Mat H cv cols) (hU : Row H bv 1 (us.map fun (n : Nat) => [I (n : Int)])) (hp : Picks cols f0 us L) (hl : us.length ≤ 1000) (hf : f0 ≤ 1000) : ∃ v H', RR (m + 2) (.fn 54 [.agg [cv, I least], .agg [I (f0 : Int), bv], .bool most]) H = some (v, H') ∧ Ret H H' ∧ Row H' v 3 ((L.map (endT most)).map rl) := by
  show ∃ v H', evFn Try.prog (RR (m + 1)) 54 [.agg [cv, I least], .agg [I (f0 : Int), bv], .bool most] H = some (v, H') ∧ Ret H H' ∧ Row H' v 3 ((L.map (endT most)).map rl)
  refine fn_okE Try.func54 rfl rfl (by kernel_rfl) (by kernel_rfl) ?_
  obtain ⟨W, hW, hg, hN, hE, hG⟩ := wOf H
  rw [← hW]
  obtain ⟨vs, hR, hvl, hv⟩ := hM
  have hlen : lenOf bv = some us.length := by simpa using hU.len
  have hlencv : lenOf cv = some vs.length := by simpa using hR.len
  refine kS ?_; refine kR ?_; refine OkO.box rfl rfl ?_; refine OkO.box rfl rfl ?_; refine oA rfl rfl ?_; refine oN ?_; refine kS ?_; refine kR ?_; refine oA rfl rfl ?_; refine oN ?_; refine kS ?_; refine kS ?_; refine kR ?_; refine oA rfl rfl ?_; refine oN ?_; refine Ok.block ?_
  refine Ok.loop (fun n s => ∃ (i : Nat) (v7 : AV), n = us.length - i ∧ i ≤ us.length ∧ Mine (W.next + 2) s.H v7 112 3 (((L.take i).map fun b => rl (endT most b)).flatten) ∧ Has 6 [(2, .bool most), (3, .ptr W.next 0), (4, .ptr (W.next + 1) 0), (6, .nils), (7, v7), (8, I (i : Int))] s.T ∧ s.D = [] ∧ Grow W s.H ∧ s.H.get W.next = some (.cells [cv, I least] 24) ∧ s.H.get (W.next + 1) = some (.cells [I (f0 : Int), bv] 27) ∧ W.next + 2 ≤ s.H.next) (us.length) (by unfold loopFuel; omega)
    ⟨0, .nils, rfl, Nat.zero_le _, Mine.nil _ _ _ _, Has.of (by kernel_rfl), rfl, (by (try dsimp only); repeat (first | exact hG | apply Grow.new | (refine Grow.put ?_ _ (by first | omega | (simp only [hNw, hPt]; omega))))), (by simp (disch := first | omega | (simp only [hNw, hPt]; omega)) only [gM] <;> rfl), (by simp (disch := first | omega | (simp only [hNw, hPt]; omega)) only [gM] <;> rfl), (by simp)⟩ ?_
  rintro n ⟨T, D, G⟩ ⟨i, v7, hn, hi, hm, ⟨f, hT⟩, hD, hg, hb1, hb2, hb3⟩
  dsimp only at *
  subst hT hD
  have hgn := hg.next
  have hc1 : (G.get W.next).bind AObj.cs = some [cv, I least] := by rw [hb1]; rfl
  have hc2 : (G.get (W.next + 1)).bind AObj.cs = some [I (f0 : Int), bv] := by rw [hb2]; rfl
  have hEg := hE _ hg
  refine kS ?_; refine kS ?_; refine kR ?_; refine oM rfl rfl ?_; refine oF (o := 1) rfl (by kernel_rfl) rfl ?_; refine oL rfl rfl (qla1 1) ?_; refine oB rfl rfl rfl qbl ?_; refine OkO.bin rfl rfl rfl (bin_lss _ _) ?_; refine oN ?_
  refine Ok.cond rfl (fun h1 => ?_) (fun h1 => ?_)
  · have hlt : i < us.length := by simpa using h1
    obtain ⟨col, bed, hp1, hp2, hp3⟩ := hp.2 i us[i] (by simp [hlt])
    obtain ⟨ub, uo, ucs, i1, i2, i3, i4⟩ := (hU.ext hEg).at_ i [I ((us[i] : Nat) : Int)] (by simp [hlt])
    have i5 := seg_one i3
    have hcl : f0 + i < vs.length := by rw [hvl]; exact (List.getElem?_eq_some_iff.1 hp1).1
    obtain ⟨cb, co, ccs, j1, j2, j3, j4⟩ := (hR.ext hEg).at_ (f0 + i) [vs[f0 + i]] (by simp [hcl])
    have j5 := seg_one j3
    have hcol := (hv (f0 + i) vs[f0 + i] col (by simp [hcl]) hp1).ext hEg
    have hlcol : lenOf vs[f0 + i] = some col.length := by simpa using hcol.len
    obtain ⟨bb, bo, bcs, k1, k2, k3, k4⟩ := hcol.at_ us[i] bed.c (by rw [List.getElem?_map, hp2]; rfl)
    have hLi := List.getElem?_eq_some_iff.1 hp3
    have hne1 : W.next ≠ G.next := by omega
    have hne2 : W.next + 1 ≠ G.next := by omega
    have ht : ((L.take (i + 1)).map fun b => rl (endT most b)).flatten = ((L.take i).map fun b => rl (endT most b)).flatten ++ rl (endT most bed) := by (rw [List.take_succ_eq_append_getElem hLi.1, hLi.2]; simp)
    have hml : ((L.take i).map fun b => rl (endT most b)).flatten.length = i * 3 := by (rw [flat_len _ 3 (fun x hx => by simp only [List.mem_map] at hx; obtain ⟨y, _, rfl⟩ := hx; rfl)]; simp; rw [hp.1]; omega)
    refine Ok.skip ?_; refine kS ?_; refine Ok.block ?_; refine kS ?_; refine Ok.drawn [(0, true, []), (1, true, []), (2, true, []), (3, true, []), (4, true, []), (5, true, []), (6, true, []), (7, true, []), (8, true, []), (9, true, []), (10, true, []), (11, true, []), (12, true, []), (13, true, []), (14, true, []), (15, true, [14, 12, 9, 7, 3, 1]), (16, false, [])] (by kernel_rfl) ?_; refine pS ?_; refine oF (o := 0) rfl (by kernel_rfl) rfl ?_; refine oN ⟨rfl, ?_⟩; refine pS ?_; refine oL rfl rfl (qla1 1) ?_; refine oN ⟨rfl, ?_⟩; refine pS ?_; refine oF (o := 0) rfl (by kernel_rfl) rfl ?_; refine oN ⟨rfl, ?_⟩; refine pS ?_; refine oL rfl rfl (qla1 1) ?_; refine oN ⟨rfl, ?_⟩; refine pS ?_; refine oM rfl rfl ?_; refine oN ⟨rfl, ?_⟩; refine pS ?_; refine OkO.bin rfl rfl rfl (bin_add (by omega) (by omega)) ?_; refine oN ⟨rfl, ?_⟩; refine pS ?_; refine oX (sz := 1) (n := f0 + i) rfl rfl rfl (by kernel_rfl) (by first | assumption | rfl) ?_; refine oN ⟨rfl, ?_⟩; refine pS ?_; refine oL rfl rfl (qla1 1) ?_; refine oN ⟨rfl, ?_⟩; refine pS ?_; refine oF (o := 1) rfl (by kernel_rfl) rfl ?_; refine oN ⟨rfl, ?_⟩; refine pS ?_; refine oL rfl rfl (qla1 1) ?_; refine oN ⟨rfl, ?_⟩; refine pS ?_; refine oM rfl rfl ?_; refine oN ⟨rfl, ?_⟩; refine pS ?_; refine oX (sz := 1) (n := i) rfl rfl rfl (by kernel_rfl) (by first | assumption | rfl) ?_; refine oN ⟨rfl, ?_⟩; refine pS ?_; refine oL rfl rfl (qla1 1) ?_; refine oN ⟨rfl, ?_⟩; refine pS ?_; refine oX (sz := 8) (n := us[i]) rfl rfl rfl (by kernel_rfl) (by first | assumption | rfl) ?_; refine oN ⟨rfl, ?_⟩; refine pS ?_; refine oL rfl rfl (qlg2 8) ?_; refine oN ⟨rfl, ?_⟩; refine pS ?_; refine OkO.alloc (z := [.int .i64 0, .int .i64 0, .int .i64 0, .int .i64 0, .int .i64 0, .int .i64 0, .int .i64 0, .int .i64 0]) rfl (by kernel_rfl) ?_
    refine oN ⟨(sco (sld rfl rfl (qlg2 8) rfl (eqr _ (by first | rfl | exact lpl (by assumption)))) (sco (sld rfl rfl (qla1 1) rfl (eqr _ (by first | rfl | exact lpl (by assumption)))) (sco (sld rfl rfl (qla1 1) rfl (eqr _ (by first | rfl | exact lpl (by assumption)))) (sco (sld rfl rfl (qla1 1) rfl (eqr _ (by first | rfl | exact lpl (by assumption)))) (sco (sld rfl rfl (qla1 1) rfl (eqr _ (by first | rfl | exact lpl (by assumption)))) (sco (sld rfl rfl (qla1 1) rfl (eqr _ (by first | rfl | exact lpl (by assumption)))) rfl)))))), ?_⟩; refine pS ?_; refine oT rfl rfl rfl (sAc (n := 8) (ag := true) (by kernel_rfl) (by first | assumption | (simp (disch := first | omega | (simp only [hNw, hPt]; omega)) only [gM] <;> first | rfl | assumption)) rfl rfl rfl) ?_; refine oN ⟨rfl, ?_⟩; refine OkP.nil ?_; refine kS ?_; refine kR ?_; refine oM rfl rfl ?_; refine oN ?_
    refine Ok.cond rfl (fun h2 => ?_) (fun h2 => ?_)
    · have hmo : most = true := h2
      subst hmo
      refine kR ?_; refine oM rfl rfl ?_; refine oL rfl rfl (qlg2 8) ?_; refine oV rfl rfl rfl rfl rfl (c86 m bed _) ?_; refine OkO.buildSlice (el := 112) (sz := 3) (z := [.int .i64 0, .int .i64 0, .int .i64 0]) rfl (by kernel_rfl) (by decide) rfl rfl ?_; refine OkO.builtinE rfl rfl rfl (Mine.app (sz := 3) (by_ := 24) (e := 112) (n := 1) (new := rl (endT true bed)) (hm.to ⟨by simp only [hNw, hPt]; omega, fun n hn => by simp (disch := first | omega | (simp only [hNw, hPt]; omega)) only [gM]⟩) (by (try dsimp only); repeat (first | (first | exact hg | exact hG) | apply Grow.new | (refine Grow.put ?_ _ (by first | omega | (simp only [hNw, hPt]; omega))))) (by omega) (by simp only [hNw, hPt]; omega) (by kernel_rfl) (by kernel_rfl) (elems_new (n := 1) (sz := 3) rfl) rfl rfl (by rw [hml]; omega) (by omega) (by omega) rfl) ?_
      rintro v2 G2 ⟨q1, q2, q3⟩
      refine oA rfl rfl ?_; refine oN ?_; refine kR ?_; refine oM rfl rfl ?_; refine OkO.bin rfl rfl rfl (bin_add (by omega) (by omega)) ?_; refine oA rfl rfl ?_; refine oN ?_
      have q3n := q3.next
      simp only [hNw, hPt] at q3n
      refine ⟨us.length - (i + 1), by omega, i + 1, v2, rfl, hlt, ?_, Has.of (by kernel_rfl), rfl, q2, ?_, ?_, ?_⟩
      · rw [ht]; exact q1
      · rw [q3.get _ (by omega) (by simp only [hNw, hPt]; omega)]; simp (disch := first | omega | (simp only [hNw, hPt]; omega)) only [gM]; exact hb1
      · rw [q3.get _ (by omega) (by simp only [hNw, hPt]; omega)]; simp (disch := first | omega | (simp only [hNw, hPt]; omega)) only [gM]; exact hb2
      · show W.next + 2 ≤ G2.next
        omega
    · have hmo : most = false := h2
      subst hmo
      refine kR ?_; refine oM rfl rfl ?_; refine oL rfl rfl (qlg2 8) ?_; refine oV rfl rfl rfl rfl rfl (c87 m bed _) ?_; refine OkO.buildSlice (el := 112) (sz := 3) (z := [.int .i64 0, .int .i64 0, .int .i64 0]) rfl (by kernel_rfl) (by decide) rfl rfl ?_; refine OkO.builtinE rfl rfl rfl (Mine.app (sz := 3) (by_ := 24) (e := 112) (n := 1) (new := rl (endT false bed)) (hm.to ⟨by simp only [hNw, hPt]; omega, fun n hn => by simp (disch := first | omega | (simp only [hNw, hPt]; omega)) only [gM]⟩) (by (try dsimp only); repeat (first | (first | exact hg | exact hG) | apply Grow.new | (refine Grow.put ?_ _ (by first | omega | (simp only [hNw, hPt]; omega))))) (by omega) (by simp only [hNw, hPt]; omega) (by kernel_rfl) (by kernel_rfl) (elems_new (n := 1) (sz := 3) rfl) rfl rfl (by rw [hml]; omega) (by omega) (by omega) rfl) ?_
      rintro v2 G2 ⟨q1, q2, q3⟩
      refine oA rfl rfl ?_; refine oN ?_; refine kR ?_; refine oM rfl rfl ?_; refine OkO.bin rfl rfl rfl (bin_add (by omega) (by omega)) ?_; refine oA rfl rfl ?_; refine oN ?_
      have q3n := q3.next
      simp only [hNw, hPt] at q3n
      refine ⟨us.length - (i + 1), by omega, i + 1, v2, rfl, hlt, ?_, Has.of (by kernel_rfl), rfl, q2, ?_, ?_, ?_⟩
      · rw [ht]; exact q1
      · rw [q3.get _ (by omega) (by simp only [hNw, hPt]; omega)]; simp (disch := first | omega | (simp only [hNw, hPt]; omega)) only [gM]; exact hb1
      · rw [q3.get _ (by omega) (by simp only [hNw, hPt]; omega)]; simp (disch := first | omega | (simp only [hNw, hPt]; omega)) only [gM]; exact hb2
      · show W.next + 2 ≤ G2.next
        omega
  · have hge : i = us.length := by simp at h1; omega
    refine Ok.exit ?_; refine kS ?_; refine kR ?_; refine oM rfl rfl ?_; refine oA rfl rfl ?_; refine oN ?_
    refine Ok.ret ⟨.inr rfl, ?_⟩
    subst hge
    have hrow : Row G v7 3 ((L.map (endT most)).map rl) := Mine.row (by rw [List.take_of_length_le (by rw [hp.1]; omega)] at hm; rw [List.map_map]; exact hm) (fun x hx => by simp only [List.mem_map] at hx; obtain ⟨y, _, rfl⟩ := hx; rfl) (by omega)
    exact back_rowQ (resV_tmp rfl resV_nil) rfl (by rw [← hW]; exact hg) hrow (fun H' r2 r3 => ⟨r2, r3⟩)
theorem c26 (m : Nat) (cv bv tv : AV) (cols : List (List Bed)) (least : Int) (f0 : Nat) (us : List Nat) (L : List Bed) (R : List Rl) (H : Heap) (hM : Mat H cv cols) (hU : Row H bv 1 (us.map fun (n : Nat) => [I (n : Int)])) (hp : Picks cols f0 us L) (hl : us.length ≤ 1000) (hf : f0 ≤ 1000) (hT0 : Row H tv 3 (R.map rl)) (hRL : R.length = L.length) (hLok : ∀ b ∈ L, b.ok = true) (hRl : ∀ r ∈ R, r.lim) : RR (m + 2) (.fn 26 [.agg [cv, I least], .agg [I (f0 : Int), bv], tv]) H = some (I (refFactor L R), H) := by
  refine (R_fn _ _ _ _ _).trans ?_; refine fn_ok Try.func26 rfl rfl (by kernel_rfl) (by kernel_rfl) ?_
  obtain ⟨W, hW, hg, hN, hE, hG⟩ := wOf H
  rw [← hW]
  obtain ⟨vs, hR, hvl, hv⟩ := hM
  have hlen : lenOf bv = some us.length := by simpa using hU.len
  have hlencv : lenOf cv = some vs.length := by simpa using hR.len
  have hLl : L.length ≤ 1000 := by rw [hp.1]; exact hl
  have hdr : ∀ b ∈ L, -100000 ≤ b.dr ∧ b.dr ≤ 100000 := fun b hb => by have := Bed.ok_lim (hLok b hb); unfold Bed.lim at this; omega
  refine kS ?_; refine kR ?_; refine OkO.box rfl rfl ?_; refine OkO.box rfl rfl ?_; refine oA rfl rfl ?_; refine oN ?_; refine kS ?_; refine kR ?_; refine oA rfl rfl ?_; refine oA rfl rfl ?_; refine oN ?_; refine kS ?_; refine kS ?_; refine kR ?_; refine oA rfl rfl ?_; refine oN ?_; refine Ok.block ?_
  refine Ok.loop (fun n s => ∃ (i : Nat), n = us.length - i ∧ i ≤ us.length ∧ Has 6 [(2, tv), (3, .ptr W.next 0), (4, .ptr (W.next + 1) 0), (6, I 0), (7, I (held (L.take i) (R.take i))), (8, I (drive (L.take i))), (9, I (i : Int))] s.T ∧ s.D = [] ∧ Grow W s.H ∧ s.H.get W.next = some (.cells [cv, I least] 24) ∧ s.H.get (W.next + 1) = some (.cells [I (f0 : Int), bv] 27) ∧ W.next + 2 ≤ s.H.next) (us.length) (by unfold loopFuel; omega)
    ⟨0, rfl, Nat.zero_le _, Has.of (by kernel_rfl), rfl, (by (try dsimp only); repeat (first | exact hG | apply Grow.new | (refine Grow.put ?_ _ (by first | omega | (simp only [hNw, hPt]; omega))))), (by simp (disch := first | omega | (simp only [hNw, hPt]; omega)) only [gM] <;> rfl), (by simp (disch := first | omega | (simp only [hNw, hPt]; omega)) only [gM] <;> rfl), (by simp)⟩ ?_
  rintro n ⟨T, D, G⟩ ⟨i, hn, hi, ⟨f, hT⟩, hD, hg, hb1, hb2, hb3⟩
  dsimp only at *
  subst hT hD
  have hgn := hg.next
  have hc1 : (G.get W.next).bind AObj.cs = some [cv, I least] := by rw [hb1]; rfl
  have hc2 : (G.get (W.next + 1)).bind AObj.cs = some [I (f0 : Int), bv] := by rw [hb2]; rfl
  have hEg := hE _ hg
  refine kS ?_; refine kS ?_; refine kR ?_; refine oM rfl rfl ?_; refine oF (o := 1) rfl (by kernel_rfl) rfl ?_; refine oL rfl rfl (qla1 1) ?_; refine oB rfl rfl rfl qbl ?_; refine OkO.bin rfl rfl rfl (bin_lss _ _) ?_; refine oN ?_
  refine Ok.cond rfl (fun h1 => ?_) (fun h1 => ?_)
  · have hlt : i < us.length := by simpa using h1
    obtain ⟨col, bed, hp1, hp2, hp3⟩ := hp.2 i us[i] (by simp [hlt])
    obtain ⟨ub, uo, ucs, i1, i2, i3, i4⟩ := (hU.ext hEg).at_ i [I ((us[i] : Nat) : Int)] (by simp [hlt])
    have i5 := seg_one i3
    have hcl : f0 + i < vs.length := by rw [hvl]; exact (List.getElem?_eq_some_iff.1 hp1).1
    obtain ⟨cb, co, ccs, j1, j2, j3, j4⟩ := (hR.ext hEg).at_ (f0 + i) [vs[f0 + i]] (by simp [hcl])
    have j5 := seg_one j3
    have hcol := (hv (f0 + i) vs[f0 + i] col (by simp [hcl]) hp1).ext hEg
    have hlcol : lenOf vs[f0 + i] = some col.length := by simpa using hcol.len
    obtain ⟨bb, bo, bcs, k1, k2, k3, k4⟩ := hcol.at_ us[i] bed.c (by rw [List.getElem?_map, hp2]; rfl)
    have hLi := List.getElem?_eq_some_iff.1 hp3
    have hne1 : W.next ≠ G.next := by omega
    have hne2 : W.next + 1 ≠ G.next := by omega
    have hRi : i < R.length := by rw [hRL, hp.1]; exact hlt
    obtain ⟨tb, to, tcs, t1, t2, t3, t4⟩ := (hT0.ext hEg).at_ i (rl R[i]) (by simp [hRi])
    have hne3 : tb ≠ G.next := by omega
    have hbo := hLok bed (hLi.2 ▸ List.getElem_mem hLi.1)
    have hlim := Bed.ok_lim hbo
    unfold Bed.lim at hlim
    have hs := held_bd (L.take i) (R.take i) (fun b hb => hLok b (List.mem_of_mem_take hb)) (fun r hr => hRl r (List.mem_of_mem_take hr))
    have hs2 : (L.take i).length ≤ 1000 := by simp; omega
    have hd := drive_bd (L.take i) (fun b hb => hdr b (List.mem_of_mem_take hb))
    have hrl := hRl _ (List.getElem_mem hRi)
    have hh : 0 ≤ holdsR bed R[i] ∧ holdsR bed R[i] ≤ 300000 := by unfold Rl.lim at hrl; exact (holds_bd (no := bed.no) (f := R[i].1) (c := R[i].2.1) (w := R[i].2.2) (by omega) (by omega) (by omega) (by omega)).2.2.2.2
    refine Ok.skip ?_; refine kS ?_; refine Ok.block ?_; refine kS ?_; refine Ok.drawn [(0, true, []), (1, true, []), (2, true, []), (3, true, []), (4, true, []), (5, true, []), (6, true, []), (7, true, []), (8, true, []), (9, true, []), (10, true, []), (11, true, []), (12, true, []), (13, true, []), (14, true, []), (15, true, [14, 12, 9, 7, 3, 1]), (16, false, [])] (by kernel_rfl) ?_; refine pS ?_; refine oF (o := 0) rfl (by kernel_rfl) rfl ?_; refine oN ⟨rfl, ?_⟩; refine pS ?_; refine oL rfl rfl (qla1 1) ?_; refine oN ⟨rfl, ?_⟩; refine pS ?_; refine oF (o := 0) rfl (by kernel_rfl) rfl ?_; refine oN ⟨rfl, ?_⟩; refine pS ?_; refine oL rfl rfl (qla1 1) ?_; refine oN ⟨rfl, ?_⟩; refine pS ?_; refine oM rfl rfl ?_; refine oN ⟨rfl, ?_⟩; refine pS ?_; refine OkO.bin rfl rfl rfl (bin_add (by omega) (by omega)) ?_; refine oN ⟨rfl, ?_⟩; refine pS ?_; refine oX (sz := 1) (n := f0 + i) rfl rfl rfl (by kernel_rfl) (by first | assumption | rfl) ?_; refine oN ⟨rfl, ?_⟩; refine pS ?_; refine oL rfl rfl (qla1 1) ?_; refine oN ⟨rfl, ?_⟩; refine pS ?_; refine oF (o := 1) rfl (by kernel_rfl) rfl ?_; refine oN ⟨rfl, ?_⟩; refine pS ?_; refine oL rfl rfl (qla1 1) ?_; refine oN ⟨rfl, ?_⟩; refine pS ?_; refine oM rfl rfl ?_; refine oN ⟨rfl, ?_⟩; refine pS ?_; refine oX (sz := 1) (n := i) rfl rfl rfl (by kernel_rfl) (by first | assumption | rfl) ?_; refine oN ⟨rfl, ?_⟩; refine pS ?_; refine oL rfl rfl (qla1 1) ?_; refine oN ⟨rfl, ?_⟩; refine pS ?_; refine oX (sz := 8) (n := us[i]) rfl rfl rfl (by kernel_rfl) (by first | assumption | rfl) ?_; refine oN ⟨rfl, ?_⟩; refine pS ?_; refine oL rfl rfl (qlg2 8) ?_; refine oN ⟨rfl, ?_⟩; refine pS ?_; refine OkO.alloc (z := [.int .i64 0, .int .i64 0, .int .i64 0, .int .i64 0, .int .i64 0, .int .i64 0, .int .i64 0, .int .i64 0]) rfl (by kernel_rfl) ?_
    refine oN ⟨(sco (sld rfl rfl (qlg2 8) rfl (eqr _ (by first | rfl | exact lpl (by assumption)))) (sco (sld rfl rfl (qla1 1) rfl (eqr _ (by first | rfl | exact lpl (by assumption)))) (sco (sld rfl rfl (qla1 1) rfl (eqr _ (by first | rfl | exact lpl (by assumption)))) (sco (sld rfl rfl (qla1 1) rfl (eqr _ (by first | rfl | exact lpl (by assumption)))) (sco (sld rfl rfl (qla1 1) rfl (eqr _ (by first | rfl | exact lpl (by assumption)))) (sco (sld rfl rfl (qla1 1) rfl (eqr _ (by first | rfl | exact lpl (by assumption)))) rfl)))))), ?_⟩; refine pS ?_; refine oT rfl rfl rfl (sAc (n := 8) (ag := true) (by kernel_rfl) (by first | assumption | (simp (disch := first | omega | (simp only [hNw, hPt]; omega)) only [gM] <;> first | rfl | assumption)) rfl rfl rfl) ?_; refine oN ⟨rfl, ?_⟩; refine OkP.nil ?_; refine kS ?_; refine Ok.drawn [(0, true, []), (1, true, []), (2, true, []), (3, true, []), (4, true, []), (5, true, []), (6, false, []), (7, true, []), (8, false, [])] (by kernel_rfl) ?_; refine pS ?_; refine oM rfl rfl ?_; refine oN ⟨rfl, ?_⟩; refine pS ?_; refine oL rfl rfl (qlg2 8) ?_; refine oN ⟨rfl, ?_⟩; refine pS ?_; refine oM rfl rfl ?_; refine oN ⟨rfl, ?_⟩; refine pS ?_; refine oM rfl rfl ?_; refine oN ⟨rfl, ?_⟩; refine pS ?_; refine oX (sz := 3) (n := i) rfl rfl rfl (by kernel_rfl) (by first | assumption | rfl) ?_; refine oN ⟨rfl, ?_⟩; refine pS ?_; refine oL rfl rfl (qlg2 3) ?_; refine oN ⟨rfl, ?_⟩; refine pS ?_; refine oV rfl rfl rfl rfl rfl (c65 m bed R[i] _ (by omega) (hRl _ (List.getElem_mem hRi))) ?_; refine oN ⟨rfl, ?_⟩; refine pS ?_; refine OkO.bin rfl rfl rfl (bin_add (by omega) (by omega)) ?_; refine oN ⟨rfl, ?_⟩; refine pS ?_; refine oA rfl rfl ?_; refine oN ⟨rfl, ?_⟩; refine OkP.nil ?_; refine kR ?_; refine oM rfl rfl ?_; refine oF (o := 0) rfl (by kernel_rfl) rfl ?_; refine oL rfl rfl (qla1 1) ?_; refine OkO.bin rfl rfl rfl (bin_add (by omega) (by omega)) ?_; refine oA rfl rfl ?_; refine oN ?_; refine kR ?_; refine oM rfl rfl ?_; refine OkO.bin rfl rfl rfl (bin_add (by omega) (by omega)) ?_; refine oA rfl rfl ?_; refine oN ?_
    refine ⟨us.length - (i + 1), by omega, i + 1, rfl, hlt, ?_, rfl, (by (try dsimp only); repeat (first | (first | exact hg | exact hG) | apply Grow.new | (refine Grow.put ?_ _ (by first | omega | (simp only [hNw, hPt]; omega))))), ?_, ?_, (by simp only [hNw, hPt]; omega)⟩
    · rw [held_take _ _ _ hLi.1 hRi, drive_take _ _ hLi.1, hLi.2]; exact Has.of (by kernel_rfl)
    · show (((G.new _).put _ _)).get (W.next) = _
      rw [gpo _ _ _ _ (by omega), gno _ _ _ (by omega)]; exact hb1
    · show (((G.new _).put _ _)).get (W.next + 1) = _
      rw [gpo _ _ _ _ (by omega), gno _ _ _ (by omega)]; exact hb2
  · have hge : i = us.length := by simp at h1; omega
    have hs := held_bd L R hLok hRl
    have hd := drive_bd L hdr
    have e1 : L.take i = L := List.take_of_length_le (by rw [hp.1]; omega)
    have e2 : R.take i = R := List.take_of_length_le (by rw [hRL, hp.1]; omega)
    rw [e1, e2]
    refine Ok.exit ?_; refine kS ?_; refine kS ?_; refine kR ?_; refine oM rfl rfl ?_; refine OkO.bin rfl rfl rfl (bin_lss _ _) ?_; refine oN ?_
    refine Ok.cond rfl (fun h2 => ?_) (fun h2 => ?_)
    · have hr : refFactor L R = -1 := by unfold refFactor; rw [if_pos (by simpa using h2)]
      refine kS ?_; refine kR ?_; refine oA rfl rfl ?_; refine oN ?_
      refine Ok.ret ⟨.inr rfl, ?_⟩
      exact back_flat rfl (by rw [hr]; rfl) rfl (by rw [← hW]; exact (by (try dsimp only); repeat (first | (first | exact hg | exact hG) | apply Grow.new | (refine Grow.put ?_ _ (by first | omega | (simp only [hNw, hPt]; omega))))))
    · have hd1 : ¬ drive L < 1 := by simpa using h2
      have hr : refFactor L R = min 10000 (1000 * held L R / drive L) := by unfold refFactor; rw [if_neg hd1]
      refine Ok.skip ?_; refine kS ?_; refine kR ?_; refine oM rfl rfl ?_; refine OkO.bin rfl rfl rfl (bin_mul (by omega) (by omega)) ?_; refine oM rfl rfl ?_; refine OkO.bin rfl rfl rfl (bin_quo (by omega) (by omega) (by omega)) ?_; refine oB rfl rfl rfl (builtin_min2 _ _) ?_; refine oA rfl rfl ?_; refine oN ?_
      refine Ok.ret ⟨.inr rfl, ?_⟩
      exact back_flat rfl (by rw [hr]; rfl) rfl (by rw [← hW]; exact (by (try dsimp only); repeat (first | (first | exact hg | exact hG) | apply Grow.new | (refine Grow.put ?_ _ (by first | omega | (simp only [hNw, hPt]; omega))))))
end
end Go.Ev

set_option maxRecDepth 100000
set_option linter.unusedSimpArgs false
set_option linter.unusedVariables false
namespace Go.Ev
open Go Go.Proofs
noncomputable section
theorem c28 (m : Nat) (cv bv : AV) (cols : List (List Bed)) (least : Int) (f0 : Nat) (us : List Nat) (L : List Bed) (H : Heap) (hM : Mat H cv cols) (hU : Row H bv 1 (us.map fun (n : Nat) => [I (n : Int)])) (hp : Picks cols f0 us L) (hl : us.length ≤ 1000) (hf : f0 ≤ 1000) (hLok : ∀ b ∈ L, b.ok = true) : RR (m + 3) (.fn 28 [.agg [cv, I least], .agg [I (f0 : Int), bv]]) H = some (.agg [I (refFactor L (L.map (endT false))), I (refFactor L (L.map (endT true)))], H) := by
  refine (R_fn _ _ _ _ _).trans ?_; refine fn_ok Try.func28 rfl rfl (by kernel_rfl) (by kernel_rfl) ?_
  obtain ⟨W, hW, hg, hN, hE, hG⟩ := wOf H
  rw [← hW]
  have pc : cv.plain = true := by obtain ⟨vs, hR, _, _⟩ := hM; exact lpl hR.len
  have pb : bv.plain = true := lpl hU.len
  have ps : AV.plain (.agg [cv, I least]) = true := by simp [AV.plain, AV.plains, pc]
  have pu : AV.plain (.agg [I (f0 : Int), bv]) = true := by simp [AV.plain, AV.plains, pb]
  refine kS ?_; refine kR ?_; refine OkO.box rfl rfl ?_; refine OkO.box rfl rfl ?_; refine OkO.alloc (z := [.int .i64 0, .int .i64 0]) rfl (by kernel_rfl) ?_; refine oN ?_; refine kS ?_; refine Ok.drawn [(0, true, []), (1, true, []), (2, true, []), (3, true, []), (6, true, []), (7, true, []), (8, true, []), (9, true, []), (4, false, [9, 8, 7, 6, 1, 0]), (5, false, [9, 8, 7, 6, 3, 2]), (10, false, [7, 6, 3, 2, 1, 0]), (11, false, [9, 8, 3, 2, 1, 0]), (12, true, []), (13, false, [])] (by kernel_rfl) ?_; refine pS ?_; refine oL rfl rfl (qlg2 2) ?_; refine oN ⟨rfl, ?_⟩; refine pS ?_; refine oL rfl rfl (qlg2 2) ?_; refine oN ⟨rfl, ?_⟩; refine pS ?_; refine oL rfl rfl (qlg2 2) ?_; refine oN ⟨rfl, ?_⟩; refine pS ?_; refine oL rfl rfl (qlg2 2) ?_; refine oN ⟨rfl, ?_⟩; refine pS ?_; refine oL rfl rfl (qlg2 2) ?_; refine oN ⟨rfl, ?_⟩; refine pS ?_; refine oL rfl rfl (qlg2 2) ?_; refine oN ⟨rfl, ?_⟩; refine pS ?_; refine oL rfl rfl (qlg2 2) ?_; refine oN ⟨rfl, ?_⟩; refine pS ?_; refine oL rfl rfl (qlg2 2) ?_; refine oN ⟨rfl, ?_⟩; refine pS ?_; refine oE rfl rfl rfl rfl rfl (c54 m cv bv cols least f0 us L false _ (hM.ext (hE _ (by (try dsimp only); repeat (first | exact hG | apply Grow.new | (refine Grow.put ?_ _ (by first | omega | (simp only [hNw, hPt]; omega))))))) (hU.ext (hE _ (by (try dsimp only); repeat (first | exact hG | apply Grow.new | (refine Grow.put ?_ _ (by first | omega | (simp only [hNw, hPt]; omega))))))) hp hl hf) ?_
  rintro v1 H1 ⟨q1, r1⟩
  have g1 : Grow W H1 := Grow.ret (by (try dsimp only); repeat (first | exact hG | apply Grow.new | (refine Grow.put ?_ _ (by first | omega | (simp only [hNw, hPt]; omega))))) q1
  have n1 : W.next + 3 ≤ H1.next := by have := q1.ext.next; simpa using this
  have a1 : (H1.get W.next).bind AObj.cs = some [cv, I least] := by rw [q1.ext.get _ (by simp only [hNw]; omega)]; simp (disch := first | omega | (simp only [hNw, hPt]; omega)) only [gM] <;> rfl
  have b1 : (H1.get (W.next + 1)).bind AObj.cs = some [I (f0 : Int), bv] := by rw [q1.ext.get _ (by simp only [hNw]; omega)]; simp (disch := first | omega | (simp only [hNw, hPt]; omega)) only [gM] <;> rfl
  have o1 : H1.get (W.next + 2) = some (.cells [I 0, I 0] 50) := by rw [q1.ext.get _ (by simp only [hNw]; omega)]; exact gn2 _ _ _ _
  refine oN ⟨(sco (sld rfl rfl (qlg2 2) rfl (eqr _ (by first | rfl | exact ps | exact pu | exact lpl (by assumption)))) (sco (sld rfl rfl (qlg2 2) rfl (eqr _ (by first | rfl | exact ps | exact pu | exact lpl (by assumption)))) (sco (sld rfl rfl (qlg2 2) rfl (eqr _ (by first | rfl | exact ps | exact pu | exact lpl (by assumption)))) (sco (sld rfl rfl (qlg2 2) rfl (eqr _ (by first | rfl | exact ps | exact pu | exact lpl (by assumption)))) (sco (sld rfl rfl (qlg2 2) rfl (eqr _ (by first | rfl | exact ps | exact pu | exact lpl (by assumption)))) (sco (sld rfl rfl (qlg2 2) rfl (eqr _ (by first | rfl | exact ps | exact pu | exact lpl (by assumption)))) rfl)))))), ?_⟩; refine pS ?_; refine oV rfl rfl rfl rfl rfl (c26 m cv bv v1 cols least f0 us L (L.map (endT false)) _ (hM.ext (hE _ g1)) (hU.ext (hE _ g1)) hp hl hf r1 (by simp) hLok (fun r hr => by simp only [List.mem_map] at hr; obtain ⟨y, hy, rfl⟩ := hr; exact endT_lim _ (hLok y hy))) ?_
  refine oN ⟨(sco (sld rfl rfl (qlg2 2) rfl (eqr _ (by first | rfl | exact ps | exact pu | exact lpl (by assumption)))) (sco (sld rfl rfl (qlg2 2) rfl (eqr _ (by first | rfl | exact ps | exact pu | exact lpl (by assumption)))) (sco (sld rfl rfl (qlg2 2) rfl (eqr _ (by first | rfl | exact ps | exact pu | exact lpl (by assumption)))) (sco (sld rfl rfl (qlg2 2) rfl (eqr _ (by first | rfl | exact ps | exact pu | exact lpl (by assumption)))) (sco (sld rfl rfl (qlg2 2) rfl (eqr _ (by first | rfl | exact ps | exact pu | exact lpl (by assumption)))) (sco (sld rfl rfl (qlg2 2) rfl (eqr _ (by first | rfl | exact ps | exact pu | exact lpl (by assumption)))) rfl)))))), ?_⟩; refine pS ?_; refine oE rfl rfl rfl rfl rfl (c54 m cv bv cols least f0 us L true _ (hM.ext (hE _ g1)) (hU.ext (hE _ g1)) hp hl hf) ?_
  rintro v2 H2 ⟨q2, r2⟩
  have g2 : Grow W H2 := Grow.ret g1 q2
  have n2 : W.next + 3 ≤ H2.next := by have := q2.ext.next; omega
  have a2 : (H2.get W.next).bind AObj.cs = some [cv, I least] := by rw [q2.ext.get _ (by omega)]; exact a1
  have b2 : (H2.get (W.next + 1)).bind AObj.cs = some [I (f0 : Int), bv] := by rw [q2.ext.get _ (by omega)]; exact b1
  have o2 : H2.get (W.next + 2) = some (.cells [I 0, I 0] 50) := by rw [q2.ext.get _ (by omega)]; exact o1
  refine oN ⟨(sco (sld rfl rfl (qlg2 2) rfl (eqr _ (by first | rfl | exact ps | exact pu | exact lpl (by assumption)))) (sco (sld rfl rfl (qlg2 2) rfl (eqr _ (by first | rfl | exact ps | exact pu | exact lpl (by assumption)))) (sco (sld rfl rfl (qlg2 2) rfl (eqr _ (by first | rfl | exact ps | exact pu | exact lpl (by assumption)))) (sco (sld rfl rfl (qlg2 2) rfl (eqr _ (by first | rfl | exact ps | exact pu | exact lpl (by assumption)))) (sco (sld rfl rfl (qlg2 2) rfl (eqr _ (by first | rfl | exact ps | exact pu | exact lpl (by assumption)))) (sco (sld rfl rfl (qlg2 2) rfl (eqr _ (by first | rfl | exact ps | exact pu | exact lpl (by assumption)))) rfl)))))), ?_⟩; refine pS ?_; refine oV rfl rfl rfl rfl rfl (c26 m cv bv v2 cols least f0 us L (L.map (endT true)) _ (hM.ext (hE _ g2)) (hU.ext (hE _ g2)) hp hl hf r2 (by simp) hLok (fun r hr => by simp only [List.mem_map] at hr; obtain ⟨y, hy, rfl⟩ := hr; exact endT_lim _ (hLok y hy))) ?_
  refine oN ⟨(sco (sld rfl rfl (qlg2 2) rfl (eqr _ (by first | rfl | exact ps | exact pu | exact lpl (by assumption)))) (sco (sld rfl rfl (qlg2 2) rfl (eqr _ (by first | rfl | exact ps | exact pu | exact lpl (by assumption)))) (sco (sld rfl rfl (qlg2 2) rfl (eqr _ (by first | rfl | exact ps | exact pu | exact lpl (by assumption)))) (sco (sld rfl rfl (qlg2 2) rfl (eqr _ (by first | rfl | exact ps | exact pu | exact lpl (by assumption)))) (sco (sld rfl rfl (qlg2 2) rfl (eqr _ (by first | rfl | exact ps | exact pu | exact lpl (by assumption)))) (sco (sld rfl rfl (qlg2 2) rfl (eqr _ (by first | rfl | exact ps | exact pu | exact lpl (by assumption)))) rfl)))))), ?_⟩; refine pS ?_; refine OkO.build (z := [.int .i64 0, .int .i64 0]) (pl := [(0, 1), (1, 1)]) rfl (by kernel_rfl) rfl rfl ?_; refine oN ⟨rfl, ?_⟩; refine pS ?_; refine oT rfl rfl rfl (sAc (n := 2) (ag := true) (by kernel_rfl) (by first | assumption | (simp (disch := first | omega | (simp only [hNw, hPt]; omega)) only [gM] <;> first | rfl | assumption)) rfl rfl rfl) ?_; refine oN ⟨rfl, ?_⟩; refine OkP.nil ?_
  refine Ok.ret ⟨.inr rfl, ?_⟩
  exact back_flat (resV_cell rfl (qlg2 2) resV_nil) (rfl) rfl (by rw [← hW]; exact (by (try dsimp only); repeat (first | exact g2 | apply Grow.new | (refine Grow.put ?_ _ (by first | omega | (simp only [hNw, hPt]; omega))))))
end
end Go.Ev

set_option maxRecDepth 100000
set_option linter.unusedSimpArgs false
set_option linter.unusedVariables false
namespace Go.Ev
open Go Go.Proofs
noncomputable section
theorem ints_flat (us : List Int) : (us.map fun n => [I n]).flatten = us.map I := by induction us with | nil => rfl | cons a l ih => simp [ih]
theorem atoms_ints (us : List Int) : atoms (us.map I) = true := by induction us with | nil => rfl | cons a l ih => exact ih
theorem c29 (m : Nat) (a d : Int) (H : Heap)  : RR (m + 1) (.fn 29 [.agg [I a, I d]]) H = some (.agg [I a, I d], H) := by
  refine (R_fn _ _ _ _ _).trans ?_; refine fn_ok Try.func29 rfl rfl (by kernel_rfl) (by kernel_rfl) ?_
  obtain ⟨W, hW, hg, hN, hE, hG⟩ := wOf H
  rw [← hW]
  refine kS ?_; refine kR ?_; refine OkO.box rfl rfl ?_; refine OkO.alloc (z := [.int .i64 0, .int .i64 0]) rfl (by kernel_rfl) ?_; refine oN ?_; refine kS ?_; refine kR ?_; refine oF (o := 0) rfl (by kernel_rfl) rfl ?_; refine oL rfl rfl (qla1 1) ?_; refine oF (o := 1) rfl (by kernel_rfl) rfl ?_; refine oL rfl rfl (qla1 1) ?_; refine OkO.build (z := [.int .i64 0, .int .i64 0]) (pl := [(0, 1), (1, 1)]) rfl (by kernel_rfl) rfl rfl ?_; refine oT rfl rfl rfl (sAc (n := 2) (ag := true) (by kernel_rfl) (by first | assumption | (simp (disch := first | omega | (simp only [hNw, hPt]; omega)) only [gM] <;> first | rfl | assumption)) rfl rfl rfl) ?_; refine oN ?_
  refine Ok.ret ⟨.inr rfl, ?_⟩
  exact back_flat (resV_cell rfl (qlg2 2) resV_nil) (rfl) rfl (by rw [← hW]; exact (by (try dsimp only); repeat (first | exact hG | apply Grow.new | (refine Grow.put ?_ _ (by first | omega | (simp only [hNw, hPt]; omega))))))
theorem c34 (m : Nat) (bv : AV) (us : List Int) (H : Heap) (hU : Ints H bv us) (hl : us.length ≤ 1000) : ∃ v H', RR (m + 1) (.fn 34 [bv]) H = some (v, H') ∧ Ret H H' ∧ Fr H.next H'.next H' (fun X => Ints X v us ∧ Cut X v 1) ∧ One v := by
  show ∃ v H', evFn Try.prog (RR (m + 0)) 34 [bv] H = some (v, H') ∧ Ret H H' ∧ Fr H.next H'.next H' (fun X => Ints X v us ∧ Cut X v 1) ∧ One v
  refine fn_okE Try.func34 rfl rfl (by kernel_rfl) (by kernel_rfl) ?_
  obtain ⟨W, hW, hg, hN, hE, hG⟩ := wOf H
  rw [← hW]
  refine kS ?_; refine kR ?_; refine oA rfl rfl ?_; refine oN ?_; refine kS ?_; refine kR ?_; refine OkO.buildSlice (el := 3) (sz := 1) (z := [.int .i64 0]) rfl (by kernel_rfl) (by decide) rfl rfl ?_; refine oM rfl rfl ?_; refine OkO.builtinE rfl rfl rfl (app_lit (el := 3) (sz := 1) (by_ := 8) (e := 3) (rows := us.map fun n => [I n]) hG (by kernel_rfl) (by kernel_rfl) ((hU.ext (hE _ hG)).ext (Grow.toNew _ _)) (fun y hy => by simp only [List.mem_map] at hy; obtain ⟨q, _, rfl⟩ := hy; rfl) (by simp; omega) (by omega) (by rw [ints_flat]; exact atoms_ints us)) ?_
  rintro v2 G2 ⟨r1, r3, r4, r5⟩
  refine oA rfl rfl ?_; refine oN ?_
  refine Ok.ret ⟨.inr rfl, ?_⟩
  exact back_newQ (resV_tmp rfl resV_nil) rfl (by rw [← hW]; exact r3) r4.2.2 (fun H' q1 q2 q3 => ⟨q1, by rw [q3, ← hN]; exact Fr.to r1 (fun n _ _ => q2 n), r4⟩)
end
end Go.Ev

set_option maxRecDepth 100000
set_option linter.unusedSimpArgs false
set_option linter.unusedVariables false
namespace Go.Ev
open Go Go.Proofs
noncomputable section
def thinB (cols : List (List Bed)) : Bool := decide (cols.length ≤ 15) && cols.all fun c => decide (c.length ≤ 8)
theorem c16 (m : Nat) (cv : AV) (cols : List (List Bed)) (least : Int) (H : Heap) (hM : Mat H cv cols) : RR (m + 1) (.fn 16 [.agg [cv, I least]]) H = some (.bool (thinB cols), H) := by
  refine (R_fn _ _ _ _ _).trans ?_; refine fn_ok Try.func16 rfl rfl (by kernel_rfl) (by kernel_rfl) ?_
  obtain ⟨W, hW, hg, hN, hE, hG⟩ := wOf H
  rw [← hW]
  obtain ⟨vs, hR, hvl, hv⟩ := hM
  have hlen : lenOf cv = some vs.length := by simpa using hR.len
  refine kS ?_; refine kR ?_; refine OkO.box rfl rfl ?_; refine oA rfl rfl ?_; refine oN ?_; refine kS ?_; refine kS ?_; refine kR ?_; refine oA rfl rfl ?_; refine oN ?_; refine Ok.block ?_
  refine Ok.loop (fun n s => ∃ (i : Nat), n = 17 - i ∧ i ≤ 16 ∧ i ≤ cols.length ∧ (∀ j c, j < i → cols[j]? = some c → c.length ≤ 8) ∧ Has 5 [(1, .ptr W.next 0), (2, .bool false), (3, I (i : Int))] s.T ∧ s.D = [] ∧ Grow W s.H ∧ s.H.get W.next = some (.cells [cv, I least] 24)) (17) (by unfold loopFuel; omega)
    ⟨0, rfl, by omega, Nat.zero_le _, nofun, Has.of (by kernel_rfl), rfl, (by (try dsimp only); repeat (first | exact hG | apply Grow.new | (refine Grow.put ?_ _ (by first | omega | (simp only [hNw, hPt]; omega))))), (by simp (disch := first | omega | (simp only [hNw, hPt]; omega)) only [gM] <;> rfl)⟩ ?_
  rintro n ⟨T, D, G⟩ ⟨i, hn, hi16, hi, hcl, ⟨f, hT⟩, hD, hg, ob⟩
  dsimp only at *
  subst hT hD
  have hgn := hg.next
  have hc1 : (G.get W.next).bind AObj.cs = some [cv, I least] := by rw [ob]; rfl
  have hEg := hE _ hg
  refine kS ?_; refine kS ?_; refine kR ?_; refine oM rfl rfl ?_; refine oF (o := 0) rfl (by kernel_rfl) rfl ?_; refine oL rfl rfl (qla1 1) ?_; refine oB rfl rfl rfl qbl ?_; refine OkO.bin rfl rfl rfl (bin_lss _ _) ?_; refine oN ?_
  refine Ok.cond rfl (fun h1 => ?_) (fun h1 => ?_)
  · have hlt : i < cols.length := by simp at h1; omega
    obtain ⟨c, hci⟩ : ∃ c, cols[i]? = some c := ⟨_, List.getElem?_eq_getElem hlt⟩
    have hvi : i < vs.length := by omega
    obtain ⟨cb, co, ccs, j1, j2, j3, j4⟩ := (hR.ext hEg).at_ i [vs[i]] (by simp [hvi])
    have j5 := seg_one j3
    have hlc : lenOf vs[i] = some c.length := by simpa using (hv i vs[i] c (List.getElem?_eq_getElem hvi) hci).len
    refine Ok.skip ?_; refine kS ?_; refine Ok.block ?_; refine kS ?_; refine kR ?_; refine oM rfl rfl ?_; refine OkO.bin rfl rfl rfl (bin_gtr _ _) ?_; refine oM rfl rfl ?_
    refine OkO.split (d := 13) rfl (fun g2 => ?_) (fun g2 => ?_)
    · have hz : false = thinB cols := by unfold thinB; rw [show decide (cols.length ≤ 15) = false from by simp at g2 ⊢; omega]; rfl
      refine oK rfl ?_; refine oK rfl ?_; refine oK rfl ?_; refine oK rfl ?_; refine oK rfl ?_; refine oK rfl ?_; refine oK rfl ?_; refine OkO.pick (b := true) rfl rfl (fun _ => rfl) nofun ?_; refine oN ?_; refine Ok.condT rfl ?_; refine kS ?_; refine kR ?_; refine oA rfl rfl ?_; refine oN ?_
      refine Ok.ret ⟨.inr rfl, ?_⟩
      exact back_flat rfl (congrArg AV.bool hz) rfl (by rw [← hW]; exact hg)
    · refine oF (o := 0) rfl (by kernel_rfl) rfl ?_
      refine oL rfl rfl (qla1 1) ?_; refine oM rfl rfl ?_; refine oX (sz := 1) (n := i) rfl rfl rfl (by kernel_rfl) (by first | assumption | rfl) ?_; refine oL rfl rfl (qla1 1) ?_; refine oB rfl rfl rfl qbl ?_; refine OkO.bin rfl rfl rfl (bin_gtr _ _) ?_; refine OkO.pick (b := false) rfl rfl nofun (fun _ => rfl) ?_; refine oN ?_
      refine Ok.cond rfl (fun h3 => ?_) (fun h3 => ?_)
      · have hz : false = thinB cols := by unfold thinB; rw [show (cols.all fun c => decide (c.length ≤ 8)) = false from by rw [List.all_eq_false]; exact ⟨c, List.mem_of_getElem? hci, by simp at h3 ⊢; omega⟩]; simp
        refine kS ?_; refine kR ?_; refine oA rfl rfl ?_; refine oN ?_
        refine Ok.ret ⟨.inr rfl, ?_⟩
        exact back_flat rfl (congrArg AV.bool hz) rfl (by rw [← hW]; exact hg)
      · refine Ok.skip ?_
        refine kR ?_; refine oM rfl rfl ?_; refine OkO.bin rfl rfl rfl (bin_add (by omega) (by omega)) ?_; refine oA rfl rfl ?_; refine oN ?_
        refine ⟨17 - (i + 1), by omega, i + 1, rfl, by simp at g2; omega, by omega, fun j x hj hx => ?_, Has.of (by kernel_rfl), rfl, hg, ob⟩
        by_cases e : j = i
        · subst e; rw [hci] at hx; cases hx; simp at h3; omega
        · exact hcl j x (by omega) hx
  · have hge : i = cols.length := by simp at h1; omega
    have hz : decide ((vs.length : Int) ≤ 15) = thinB cols := by unfold thinB; rw [show (cols.all fun c => decide (c.length ≤ 8)) = true from by rw [List.all_eq_true]; intro x hx; obtain ⟨q, hq, rfl⟩ := List.mem_iff_getElem.1 hx; simpa using hcl q _ (by omega) (List.getElem?_eq_getElem hq)]; rw [hvl, Bool.and_true, Bool.eq_iff_iff]; simp; omega
    refine Ok.exit ?_; refine kS ?_; refine kR ?_; refine oF (o := 0) rfl (by kernel_rfl) rfl ?_; refine oL rfl rfl (qla1 1) ?_; refine oB rfl rfl rfl qbl ?_; refine OkO.bin rfl rfl rfl (bin_leq _ _) ?_; refine oA rfl rfl ?_; refine oN ?_
    refine Ok.ret ⟨.inr rfl, ?_⟩
    exact back_flat rfl (congrArg AV.bool hz) rfl (by rw [← hW]; exact hg)
end
end Go.Ev

set_option maxRecDepth 100000
set_option linter.unusedSimpArgs false
set_option linter.unusedVariables false
namespace Go.Ev
open Go Go.Proofs
noncomputable section
theorem sing_flat (vals : List AV) : (vals.map fun x => [x]).flatten = vals := by
  induction vals with
  | nil => rfl
  | cons a l ih => rw [List.map_cons, List.flatten_cons, ih]; rfl
theorem Mine.cols {k0 : Nat} {X : Heap} {ov : AV} {vals : List AV} {cols : List (List Bed)} (h : Mine k0 X ov 86 1 vals) (hl : vals.length = cols.length) (hc : ∀ (j : Nat) x c, vals[j]? = some x → cols[j]? = some c → Row X x 8 (c.map Bed.c)) : Mat X ov cols :=
  ⟨vals, Mine.row (l := vals.map fun x => [x]) (by rw [sing_flat]; exact h) (fun x hx => by simp only [List.mem_map] at hx; obtain ⟨y, _, rfl⟩ := hx; rfl) (by omega), hl, hc⟩
theorem thin_facts {cols : List (List Bed)} (h : thinB cols = true) : cols.length ≤ 15 ∧ ∀ c ∈ cols, c.length ≤ 8 := by
  simp only [thinB, Bool.and_eq_true, decide_eq_true_eq, List.all_eq_true] at h
  exact h
theorem c19 (m : Nat) (cv : AV) (cols : List (List Bed)) (least : Int) (H : Heap) (hM : Mat H cv cols) (hth : thinB cols = true) : ∃ v H', RR (m + 2) (.fn 19 [.agg [cv, I least]]) H = some (v, H') ∧ ∃ cv', v = .agg [cv', I least] ∧ Ret H H' ∧ Fr H.next H'.next H' (fun X => Mat X cv' cols) := by
  show ∃ v H', evFn Try.prog (RR (m + 1)) 19 [.agg [cv, I least]] H = some (v, H') ∧ ∃ cv', v = .agg [cv', I least] ∧ Ret H H' ∧ Fr H.next H'.next H' (fun X => Mat X cv' cols)
  refine fn_okE Try.func19 rfl rfl (by kernel_rfl) (by kernel_rfl) ?_
  obtain ⟨W, hW, hg, hN, hE, hG⟩ := wOf H
  rw [← hW]
  obtain ⟨vs, hR, hvl, hv⟩ := hM
  have hlen : lenOf cv = some vs.length := by simpa using hR.len
  have hc15 := (thin_facts hth).1
  refine kS ?_; refine kR ?_; refine OkO.box rfl rfl ?_; refine OkO.alloc (z := [.nils, .int .i64 0]) rfl (by kernel_rfl) ?_; refine oN ?_; refine kS ?_; refine kR ?_; refine oF (o := 1) rfl (by kernel_rfl) rfl ?_; refine oL rfl rfl (qla1 1) ?_; refine OkO.build (z := [.nils, .int .i64 0]) (pl := [(0, 1), (1, 1)]) rfl (by kernel_rfl) rfl rfl ?_; refine OkO.alloc (z := [.nils, .int .i64 0]) rfl (by kernel_rfl) ?_; refine oT rfl rfl rfl (sAc (n := 2) (ag := true) (by kernel_rfl) (by first | assumption | (simp (disch := first | omega | (simp only [hNw, hPt]; omega)) only [gM] <;> first | rfl | assumption)) rfl rfl rfl) ?_; refine oN ?_; refine kS ?_; refine kS ?_; refine kR ?_; refine oA rfl rfl ?_; refine oN ?_; refine Ok.block ?_
  refine Ok.loop (fun n s => ∃ (i : Nat) (ov : AV) (vals : List AV), n = cols.length - i ∧ i ≤ cols.length ∧ vals.length = i ∧ Mine (W.next + 3) s.H ov 86 1 vals ∧ (∀ (j : Nat) x c, vals[j]? = some x → cols[j]? = some c → ∃ k e, W.next + 3 ≤ k ∧ e ≤ s.H.next ∧ Fr k e s.H (fun X => Row X x 8 (c.map Bed.c)) ∧ ∀ b m, ov = .opn b m → e ≤ b) ∧ Has 6 [(1, .ptr W.next 0), (2, .ptr (W.next + 1) 0), (3, .ptr (W.next + 2) 0), (4, I (i : Int))] s.T ∧ s.D = [] ∧ Grow W s.H ∧ s.H.get W.next = some (.cells [cv, I least] 24) ∧ s.H.get (W.next + 1) = some (.cells [.nils, I 0] 35) ∧ s.H.get (W.next + 2) = some (.cells [ov, I least] 35) ∧ W.next + 3 ≤ s.H.next) (cols.length) (by unfold loopFuel; omega)
    ⟨0, .nils, [], rfl, Nat.zero_le _, rfl, Mine.nil _ _ _ _, nofun, Has.of (by kernel_rfl), rfl, (by (try dsimp only); repeat (first | exact hG | apply Grow.new | (refine Grow.put ?_ _ (by first | omega | (simp only [hNw, hPt]; omega))))), (by simp (disch := first | omega | (simp only [hNw, hPt]; omega)) only [gM] <;> rfl), (by simp (disch := first | omega | (simp only [hNw, hPt]; omega)) only [gM] <;> rfl), (by first | exact gp0 _ _ _ | (simp (disch := first | omega | (simp only [hNw, hPt]; omega)) only [gM] <;> rfl)), (by simp)⟩ ?_
  rintro n ⟨T, D, G⟩ ⟨i, ov, vals, hn, hi, hvals, hmo, hcl, ⟨f, hT⟩, hD, hg, o1, o2, o3, on⟩
  dsimp only at *
  subst hT hD
  have hgn := hg.next
  have hc1 : (G.get W.next).bind AObj.cs = some [cv, I least] := by rw [o1]; rfl
  have hEg := hE _ hg
  have hfl : ∀ l : List Bed, (l.map Bed.c).flatten.length = l.length * 8 := fun l => by (rw [flatten_len _ 8 (fun x hx => by simp only [List.mem_map] at hx; obtain ⟨y, _, rfl⟩ := hx; rfl)]; simp)
  refine kS ?_; refine kS ?_; refine kR ?_; refine oM rfl rfl ?_; refine oF (o := 0) rfl (by kernel_rfl) rfl ?_; refine oL rfl rfl (qla1 1) ?_; refine oB rfl rfl rfl qbl ?_; refine OkO.bin rfl rfl rfl (bin_lss _ _) ?_; refine oN ?_
  refine Ok.cond rfl (fun h1 => ?_) (fun h1 => ?_)
  · have hlt : i < cols.length := by simp at h1; omega
    obtain ⟨c, hci⟩ : ∃ c, cols[i]? = some c := ⟨_, List.getElem?_eq_getElem hlt⟩
    have hvi : i < vs.length := by omega
    have hc8 : c.length ≤ 8 := (thin_facts hth).2 c (List.mem_of_getElem? hci)
    have hlc : lenOf vs[i] = some c.length := by simpa using (hv i vs[i] c (List.getElem?_eq_getElem hvi) hci).len
    obtain ⟨Gi, hGi⟩ : ∃ Gi, Gi = G := ⟨_, rfl⟩
    rw [← hGi] at hmo hcl o1 o2 o3 on hgn
    have hgi := hg
    rw [← hGi] at hgi
    refine Ok.skip ?_; refine kS ?_; refine Ok.block ?_; refine kS ?_; refine kR ?_; refine oA rfl rfl ?_; refine oN ?_; refine kS ?_; refine kS ?_; refine kR ?_; refine oA rfl rfl ?_; refine oN ?_; refine Ok.block ?_
    refine Ok.loop (fun n s => ∃ (k : Nat) (v5 : AV), n = c.length - k ∧ k ≤ c.length ∧ Mine Gi.next s.H v5 85 8 ((c.take k).map Bed.c).flatten ∧ Has 6 [(1, .ptr W.next 0), (2, .ptr (W.next + 1) 0), (3, .ptr (W.next + 2) 0), (4, I (i : Int)), (5, v5), (6, I (k : Int))] s.T ∧ s.D = [] ∧ Grow W s.H ∧ Ext Gi s.H) (c.length) (by unfold loopFuel; omega)
      ⟨0, .nils, rfl, Nat.zero_le _, Mine.nil _ _ _ _, Has.of (by kernel_rfl), rfl, hg, (by show Ext Gi G; rw [hGi]; exact Ext.refl _)⟩ ?_
    rintro n ⟨T, D, G⟩ ⟨k, v5, hn2, hk, hm5, ⟨f2, hT⟩, hD, hg, hxi⟩
    dsimp only at *
    subst hT hD
    have hgn := hg.next
    have hc1 : (G.get W.next).bind AObj.cs = some [cv, I least] := by rw [hxi.get _ (by omega), o1]; rfl
    have hEg := hE _ hg
    have hgx := hxi.next
    obtain ⟨mb, mo, mcs, m1, m2, m3, m4⟩ := (hR.ext hEg).at_ i [vs[i]] (by simp [hvi])
    have m5 := seg_one m3
    refine kS ?_; refine kS ?_; refine kR ?_; refine oM rfl rfl ?_; refine oF (o := 0) rfl (by kernel_rfl) rfl ?_; refine oL rfl rfl (qla1 1) ?_; refine oM rfl rfl ?_; refine oX (sz := 1) (n := i) rfl rfl rfl (by kernel_rfl) (by first | assumption | rfl) ?_; refine oL rfl rfl (qla1 1) ?_; refine oB rfl rfl rfl qbl ?_; refine OkO.bin rfl rfl rfl (bin_lss _ _) ?_; refine oN ?_
    refine Ok.cond rfl (fun h2 => ?_) (fun h2 => ?_)
    · have hkl : k < c.length := by simp at h2; omega
      obtain ⟨bb, bo, bcs, k1, k2, k3, k4⟩ := ((hv i vs[i] c (List.getElem?_eq_getElem hvi) hci).ext hEg).at_ k c[k].c (by simp [hkl])
      have hne : bb ≠ G.next := by omega
      have hne3 : W.next ≠ G.next := by omega
      have ht : ((c.take (k + 1)).map Bed.c).flatten = ((c.take k).map Bed.c).flatten ++ c[k].c := by (rw [List.take_succ_eq_append_getElem hkl, List.map_append, List.flatten_append]; rfl)
      refine Ok.skip ?_; refine kS ?_; refine Ok.block ?_; refine kS ?_; refine kR ?_; refine oF (o := 0) rfl (by kernel_rfl) rfl ?_; refine oL rfl rfl (qla1 1) ?_; refine oM rfl rfl ?_; refine oX (sz := 1) (n := i) rfl rfl rfl (by kernel_rfl) (by first | assumption | rfl) ?_; refine oL rfl rfl (qla1 1) ?_; refine oM rfl rfl ?_; refine oX (sz := 8) (n := k) rfl rfl rfl (by kernel_rfl) (by first | assumption | rfl) ?_; refine oL rfl rfl (qlg2 8) ?_; refine OkO.alloc (z := [.int .i64 0, .int .i64 0, .int .i64 0, .int .i64 0, .int .i64 0, .int .i64 0, .int .i64 0, .int .i64 0]) rfl (by kernel_rfl) ?_; refine oT rfl rfl rfl (sAc (n := 8) (ag := true) (by kernel_rfl) (by first | assumption | (simp (disch := first | omega | (simp only [hNw, hPt]; omega)) only [gM] <;> first | rfl | assumption)) rfl rfl rfl) ?_; refine oN ?_; refine Ok.drawn [(0, true, []), (1, true, []), (2, true, []), (3, true, []), (4, true, []), (5, true, []), (6, true, []), (8, true, []), (9, true, []), (11, true, []), (12, true, []), (7, false, [12, 9, 4, 2]), (10, false, [12, 6, 4, 2]), (13, false, [9, 6, 4, 2]), (14, true, []), (15, true, [12, 9, 6, 4, 2]), (16, false, [12, 9, 6, 4, 2]), (17, false, [])] (by kernel_rfl) ?_; refine pS ?_; refine oM rfl rfl ?_; refine oN ⟨rfl, ?_⟩; refine pS ?_; refine oF (o := 0) rfl (by kernel_rfl) rfl ?_; refine oN ⟨rfl, ?_⟩; refine pS ?_; refine oL rfl rfl (qla1 1) ?_; refine oN ⟨rfl, ?_⟩; refine pS ?_; refine oF (o := 1) rfl (by kernel_rfl) rfl ?_; refine oN ⟨rfl, ?_⟩; refine pS ?_; refine oL rfl rfl (qla1 1) ?_; refine oN ⟨rfl, ?_⟩; refine pS ?_; refine oF (o := 2) rfl (by kernel_rfl) rfl ?_; refine oN ⟨rfl, ?_⟩; refine pS ?_; refine oL rfl rfl (qlg2 2) ?_; refine oN ⟨rfl, ?_⟩; refine pS ?_; refine oF (o := 4) rfl (by kernel_rfl) rfl ?_; refine oN ⟨rfl, ?_⟩; refine pS ?_; refine oL rfl rfl (qlg2 2) ?_; refine oN ⟨rfl, ?_⟩; refine pS ?_; refine oF (o := 6) rfl (by kernel_rfl) rfl ?_; refine oN ⟨rfl, ?_⟩; refine pS ?_; refine oL rfl rfl (qlg2 2) ?_; refine oN ⟨rfl, ?_⟩; refine pS ?_; refine oV rfl rfl rfl rfl rfl (c29 _ _ _ _) ?_
      refine oN ⟨(sco (sld rfl rfl (qlg2 2) rfl (eqr _ (by first | rfl | exact lpl (by assumption)))) (sco (sld rfl rfl (qlg2 2) rfl (eqr _ (by first | rfl | exact lpl (by assumption)))) (sco (sld rfl rfl (qla1 1) rfl (eqr _ (by first | rfl | exact lpl (by assumption)))) (sco (sld rfl rfl (qla1 1) rfl (eqr _ (by first | rfl | exact lpl (by assumption)))) rfl)))), ?_⟩; refine pS ?_; refine oV rfl rfl rfl rfl rfl (c29 _ _ _ _) ?_
      refine oN ⟨(sco (sld rfl rfl (qlg2 2) rfl (eqr _ (by first | rfl | exact lpl (by assumption)))) (sco (sld rfl rfl (qlg2 2) rfl (eqr _ (by first | rfl | exact lpl (by assumption)))) (sco (sld rfl rfl (qla1 1) rfl (eqr _ (by first | rfl | exact lpl (by assumption)))) (sco (sld rfl rfl (qla1 1) rfl (eqr _ (by first | rfl | exact lpl (by assumption)))) rfl)))), ?_⟩; refine pS ?_; refine oV rfl rfl rfl rfl rfl (c29 _ _ _ _) ?_
      refine oN ⟨(sco (sld rfl rfl (qlg2 2) rfl (eqr _ (by first | rfl | exact lpl (by assumption)))) (sco (sld rfl rfl (qlg2 2) rfl (eqr _ (by first | rfl | exact lpl (by assumption)))) (sco (sld rfl rfl (qla1 1) rfl (eqr _ (by first | rfl | exact lpl (by assumption)))) (sco (sld rfl rfl (qla1 1) rfl (eqr _ (by first | rfl | exact lpl (by assumption)))) rfl)))), ?_⟩; refine pS ?_; refine OkO.build (z := [.int .i64 0, .int .i64 0, .int .i64 0, .int .i64 0, .int .i64 0, .int .i64 0, .int .i64 0, .int .i64 0]) (pl := [(0, 1), (1, 1), (2, 2), (4, 2), (6, 2)]) rfl (by kernel_rfl) rfl rfl ?_; refine oN ⟨rfl, ?_⟩; refine pS ?_; refine OkO.buildSlice (el := 85) (sz := 8) (z := [.int .i64 0, .int .i64 0, .int .i64 0, .int .i64 0, .int .i64 0, .int .i64 0, .int .i64 0, .int .i64 0]) rfl (by kernel_rfl) (by decide) rfl rfl ?_
      refine oN ⟨(sco (sld rfl rfl (qlg2 2) rfl (eqr _ (by first | rfl | exact lpl (by assumption)))) (sco (sld rfl rfl (qlg2 2) rfl (eqr _ (by first | rfl | exact lpl (by assumption)))) (sco (sld rfl rfl (qlg2 2) rfl (eqr _ (by first | rfl | exact lpl (by assumption)))) (sco (sld rfl rfl (qla1 1) rfl (eqr _ (by first | rfl | exact lpl (by assumption)))) (sco (sld rfl rfl (qla1 1) rfl (eqr _ (by first | rfl | exact lpl (by assumption)))) rfl))))), ?_⟩; refine pS ?_; refine OkO.builtinE rfl rfl rfl ((hm5.to ⟨by simp only [hNw, hPt]; omega, fun n hn => by simp (disch := first | omega | (simp only [hNw, hPt]; omega)) only [gM]⟩).app2 (W := W) (sz := 8) (by_ := 64) (e := 85) (n := 1) (new := c[k].c) (by (try dsimp only); repeat (first | (first | exact hg | exact hG) | apply Grow.new | (refine Grow.put ?_ _ (by first | omega | (simp only [hNw, hPt]; omega))))) (by omega) (by simp only [hNw, hPt]; omega) (by kernel_rfl) (by kernel_rfl) (elems_new (n := 1) (sz := 8) rfl) rfl rfl (by rw [hfl]; simp; omega) (by omega) (by omega) rfl) ?_
      rintro v2 G2 ⟨q1, q2, q3, q4, q5⟩
      have hbk : (G2.get G.next).bind AObj.cs = some c[k].c := by rw [q4 _ (by simp only [hNw, hPt]; omega) (fun m e => by rcases hm5 with ⟨h, _⟩ | ⟨b2, n2, h, _, _, _, h5⟩ <;> rw [h] at e <;> cases e; omega)]; simp (disch := first | omega | (simp only [hNw, hPt]; omega)) only [gM]; rfl
      refine oN ⟨(sco (sld rfl rfl (qlg2 2) rfl (eqr _ (by first | rfl | exact lpl (by assumption)))) (sco (sld rfl rfl (qlg2 2) rfl (eqr _ (by first | rfl | exact lpl (by assumption)))) (sco (sld rfl rfl (qlg2 2) rfl (eqr _ (by first | rfl | exact lpl (by assumption)))) (sco (sld rfl rfl (qla1 1) rfl (eqr _ (by first | rfl | exact lpl (by assumption)))) (sco (sld rfl rfl (qla1 1) rfl (eqr _ (by first | rfl | exact lpl (by assumption)))) rfl))))), ?_⟩; refine pS ?_; refine oA rfl rfl ?_; refine oN ⟨rfl, ?_⟩; refine OkP.nil ?_; refine kR ?_; refine oM rfl rfl ?_; refine OkO.bin rfl rfl rfl (bin_add (by omega) (by omega)) ?_; refine oA rfl rfl ?_; refine oN ?_
      refine ⟨c.length - (k + 1), by omega, k + 1, v2, rfl, hkl, by rw [ht]; exact q1, Has.of (by kernel_rfl), rfl, q2, ⟨by show Gi.next ≤ G2.next; have := q3.next; simp only [hNw, hPt] at this; omega, fun q hq => ?_⟩⟩
      show G2.get q = _
      rw [q3.get _ hq (by simp only [hNw, hPt]; omega)]
      simp (disch := first | omega | (simp only [hNw, hPt]; omega)) only [gM]
      exact hxi.get q hq
    · have hke : k = c.length := by simp at h2; omega
      subst hke
      rw [List.take_length] at hm5
      have v51 := hm5.one
      have hc3b : (G.get (W.next + 2)).bind AObj.cs = some [ov, I least] := by rw [hxi.get _ (by omega), o3]; rfl
      refine Ok.exit ?_; refine kR ?_; refine oF (o := 0) rfl (by kernel_rfl) rfl ?_; refine oL rfl rfl (qla1 1) ?_; refine oM rfl rfl ?_; refine OkO.buildSlice (el := 86) (sz := 1) (z := [.nils]) (cs := [v5]) rfl (by kernel_rfl) (by decide) rfl (by show fillS (fun i => some (i * 1, 1)) [AV.nils] [(0, v5)] = some [v5]; simp [fillS, spl, v51.1]) ?_; refine OkO.builtinE rfl rfl rfl ((Mine.to hmo (Ext.trans hxi (Grow.toNew _ _))).app2 (W := W) (sz := 1) (by_ := 24) (e := 86) (n := 1) (new := [v5]) (hg.new _) (by omega) (by simp only [hNw]; omega) (by kernel_rfl) (by kernel_rfl) (elems_new (n := 1) (sz := 1) rfl) rfl rfl (by omega) (by omega) (by omega) (by simp [atoms, v51.2])) ?_
      rintro v2 G2 ⟨p1, p2, p3, p4, p5, p6⟩
      obtain ⟨mm, rfl⟩ := p6
      have ovb0 : ∀ m, ov ≠ .opn (W.next + 2) m := fun m e => by rcases hmo with ⟨h, _⟩ | ⟨b2, n2, h, _, _, h4, h5⟩ <;> rw [h] at e <;> cases e; omega
      have hc3 : G2.get (W.next + 2) = some (.cells [ov, I least] 35) := by rw [p4 _ (by simp only [hNw]; omega) ovb0, gno _ _ _ (by omega), hxi.get _ (by omega)]; exact o3
      refine oF (o := 0) rfl (by kernel_rfl) rfl ?_; refine oT rfl rfl rfl (sAc (n := 1) (ag := false) (by kernel_rfl) (by first | assumption | (simp (disch := first | omega | (simp only [hNw, hPt]; omega)) only [gM] <;> first | rfl | assumption)) rfl rfl rfl) ?_; refine oN ?_; refine kR ?_; refine oM rfl rfl ?_; refine OkO.bin rfl rfl rfl (bin_add (by omega) (by omega)) ?_; refine oA rfl rfl ?_; refine oN ?_
      simp only [hNw] at p5
      have fr3 : ∀ j, j < G.next → j ≠ W.next + 2 → (∀ m, ov ≠ .opn j m) → ((G2.put (W.next + 2) (.cells [.opn (G.next + 1) mm, I least] 35)).get j) = G.get j := fun j h1 h2 h3 => by rw [gpo _ _ _ _ h2, p4 j (by simp only [hNw]; omega) h3, gno _ _ _ (by omega)]
      have ovb : ∀ b m, ov = .opn b m → b < Gi.next ∧ W.next + 3 ≤ b := fun b m e => by rcases hmo with ⟨h, _⟩ | ⟨b2, n2, h, _, _, h4, h5⟩ <;> rw [h] at e <;> cases e; exact ⟨h5, h4⟩
      have gi : ∀ j, j < Gi.next → j ≠ W.next + 2 → (∀ m, ov ≠ .opn j m) → ((G2.put (W.next + 2) (.cells [.opn (G.next + 1) mm, I least] 35)).get j) = Gi.get j := fun j h1 h2 h3 => by rw [fr3 j (by have := hxi.next; omega) h2 h3, hxi.get j h1]
      refine ⟨cols.length - (i + 1), by omega, i + 1, .opn (G.next + 1) mm, vals ++ [v5], rfl, by omega, by simp [hvals], ?_, ?_, Has.of (by kernel_rfl), rfl, (by (try dsimp only); repeat (first | (first | exact hg | exact p2 | exact hG) | apply Grow.new | (refine Grow.put ?_ _ (by first | omega | (simp only [hNw, hPt]; omega))))), ?_, ?_, ?_, ?_⟩
      · rcases p1 with ⟨h, _⟩ | ⟨b2, n2, h, h2, h3, h4, h5⟩
        · cases h
        · exact .inr ⟨b2, n2, h, by show (G2.put _ _).get b2 = _; rw [gpo _ _ _ _ (by omega)]; exact h2, h3, h4, h5⟩
      · intro j x c2 hx hc2
        by_cases hj : j < vals.length
        · rw [List.getElem?_append_left hj] at hx
          obtain ⟨k9, e9, u1, u2, u3, u4⟩ := hcl j x c2 hx hc2
          refine ⟨k9, e9, u1, by show e9 ≤ G2.next; have := hxi.next; omega, Fr.to u3 (fun q a1 a2 => gi q (by omega) (by omega) (fun m e => by have := u4 _ _ e; omega)), fun b m e => by cases e; have := hxi.next; omega⟩
        · have hj2 : j = i := by have := (List.getElem?_eq_some_iff.1 hx).1; simp at this; omega
          subst hj2
          rw [hci] at hc2; cases hc2
          rw [List.getElem?_append_right (by omega), show j - vals.length = 0 from by omega] at hx
          cases hx
          refine ⟨Gi.next, G.next, by omega, by show G.next ≤ G2.next; omega, ?_, fun b m e => by cases e; omega⟩
          refine Fr.to ((Mine.fr hm5).mono fun X h => Mine.row h (fun x hx => by simp only [List.mem_map] at hx; obtain ⟨y, _, rfl⟩ := hx; rfl) (by omega)) (fun q a1 a2 => fr3 q a2 (by omega) (fun m e => by have := ovb _ _ e; omega))
      · show (G2.put _ _).get W.next = _
        exact (gi W.next (by omega) (by omega) (fun m e => by have := ovb _ _ e; omega)).trans o1
      · show (G2.put _ _).get (W.next + 1) = _
        exact (gi (W.next + 1) (by omega) (by omega) (fun m e => by have := ovb _ _ e; omega)).trans o2
      · exact gp0 _ _ _
      · show W.next + 3 ≤ G2.next
        omega
  · have hge : i = cols.length := by simp at h1; omega
    have hz3 : (G.get (W.next + 2)).bind AObj.cs = some [ov, I least] := by rw [o3]; rfl
    have ov1 := hmo.one
    refine Ok.exit ?_; refine kS ?_; refine kR ?_; refine oL rfl rfl (qlg2 2) ?_; refine oT rfl rfl rfl (sAc (n := 2) (ag := true) (by kernel_rfl) o2 rfl (by show atoms [ov, I least] = true; simp [atoms, ov1.2, show ∀ z, (I z).atom = true from fun _ => rfl]) rfl) ?_; refine oN ?_
    refine Ok.ret ⟨.inr rfl, ?_⟩
    have hgf : Grow W (G.put (W.next + 1) (.cells [ov, I least] 35)) := hg.put _ (by omega)
    refine back_newA (v := .agg [ov, I least]) (resV_cell rfl (qlg2 2) resV_nil) rfl (by rw [← hW]; exact hgf) (fun H' r1 r2 => ⟨ov, rfl, r1, ?_⟩)
    rcases r2 with ⟨_, hf⟩ | ⟨r2, r3⟩
    · intro X _ _
      have hn0 : ov = .nils := by rcases hmo with ⟨h, _⟩ | ⟨b2, n2, h, _⟩; (exact h); (rw [h] at hf; simp [AV.flat, AV.flats] at hf)
      have hv0 : vals = [] := by rcases hmo with ⟨_, h⟩ | ⟨b2, n2, h, _⟩; (exact h); (rw [h] at hn0; cases hn0)
      subst hn0 hv0
      exact Mine.cols (k0 := 0) (.inl ⟨rfl, rfl⟩) (by rw [hvals, hge]) (fun j x c hx => by simp at hx)
    · rw [r3, ← hN]
      intro X x1 x2
      have hX : ∀ n, W.next ≤ n → n < G.next → n ≠ W.next + 1 → X.get n = G.get n := fun n a1 a2 a3 => by rw [x2 n a1 a2, r2 n, gpo _ _ _ _ a3]
      refine Mine.cols (hmo.fr X x1 (fun n a1 a2 => hX n (by omega) a2 (by omega))) (by rw [hvals, hge]) (fun j x c hx hc => ?_)
      obtain ⟨k9, e9, u1, u2, u3, _⟩ := hcl j x c hx hc
      have x1' : G.next ≤ X.next := x1
      exact u3 X (by omega) (fun n a1 a2 => hX n (by omega) (by omega) (by omega))
end
end Go.Ev

set_option maxRecDepth 100000
set_option linter.unusedSimpArgs false
set_option linter.unusedVariables false
namespace Go.Ev
open Go Go.Proofs
noncomputable section
theorem eq3 (x y : Int) : eqT Try.prog 7 3 (I x) (I y) = some (decide (x = y)) := by
  unfold eqT
  rw [Try.underlying3]
  show (match sameKind .i64 .i64 with | true => some (eqI x y) | false => none) = _
  rw [eqI_eq]; rfl
theorem held_end (m : Bool) (g : Bed → Int) (hg : ∀ b, holdsR b (endT m b) = g b) (L : List Bed) : held L (L.map (endT m)) = sumB g L := by
  unfold held sumB
  induction L with
  | nil => rfl
  | cons b l ih => simp only [List.map_cons, List.zip_cons_cons, List.sum_cons, hg]; rw [ih]
theorem factorOf_nn {a d : Int} (h1 : 0 ≤ a) (h2 : ¬ d < 1) : 0 ≤ factorOf a d := by
  unfold factorOf
  have : 0 ≤ 1000 * a / d := Int.ediv_nonneg (by omega) (by omega)
  omega
end
end Go.Ev

set_option maxRecDepth 100000
set_option linter.unusedSimpArgs false
set_option linter.unusedVariables false
namespace Go.Ev
open Go Go.Proofs Go.RowKit
noncomputable section
theorem cells3 : Try.prog.cellsOf 3 = 1 := by kernel_rfl
theorem cells50 : Try.prog.cellsOf 50 = 2 := by kernel_rfl
theorem cells100 : Try.prog.cellsOf 100 = 8 := by kernel_rfl
theorem cells97 : Try.prog.cellsOf 97 = 1 := by kernel_rfl
theorem cells22 : Try.prog.cellsOf 22 = 1 := by kernel_rfl
theorem cells24 : Try.prog.cellsOf 24 = 2 := by kernel_rfl
variable {H0 : Type} {enc : TypeId × Value → H0} {w : World} {base : Nat} {sp : Nat → Bool} {hd : Bool} {n : Nat}

theorem int_open {c : List Value} {y} (h : DataW.trod enc Try.prog w base sp hd n 3 c = some y) : ∃ x : Int, c = [.int .i64 x] := by
  obtain ⟨x, h1, _, _⟩ := DataW.trod_int Try.underlying3 h
  exact ⟨x, h1⟩
theorem pair_open {c : List Value} {y} (h : DataW.trod enc Try.prog w base sp hd n 50 c = some y) : ∃ a b : Int, c = [.int .i64 a, .int .i64 b] := by
  obtain ⟨xs, k, _, _, hl, hx, hf⟩ := DataW.trod_struct Try.underlying50 h
  rw [cells50] at hl
  match c, hl with
  | [p, q], _ =>
    have h0 : DataW.trod enc Try.prog w base sp hd k 3 (([p, q].drop 0).take (Try.prog.cellsOf 3)) = xs[0]? := hf 0 _ rfl
    have h1 : DataW.trod enc Try.prog w base sp hd k 3 (([p, q].drop 1).take (Try.prog.cellsOf 3)) = xs[1]? := hf 1 _ rfl
    rw [cells3] at h0 h1
    match xs, hx with
    | [x0, x1], _ =>
      obtain ⟨a, ha⟩ := int_open h0
      obtain ⟨b, hb⟩ := int_open h1
      simp at ha hb
      exact ⟨a, b, by rw [ha, hb]⟩
theorem bed_open {c : List Value} {y} (h : DataW.trod enc Try.prog w base sp hd n 100 c = some y) : ∃ b : Bed, ∀ k, toAVs k c = b.c := by
  obtain ⟨xs, k, _, _, hl, hx, hf⟩ := DataW.trod_struct Try.underlying100 h
  rw [cells100] at hl
  match c, hl with
  | [c0, c1, c2, c3, c4, c5, c6, c7], _ =>
    have h0 : DataW.trod enc Try.prog w base sp hd k 3 (([c0, c1, c2, c3, c4, c5, c6, c7].drop 0).take (Try.prog.cellsOf 3)) = xs[0]? := hf 0 _ rfl
    have h1 : DataW.trod enc Try.prog w base sp hd k 3 (([c0, c1, c2, c3, c4, c5, c6, c7].drop 1).take (Try.prog.cellsOf 3)) = xs[1]? := hf 1 _ rfl
    have h2 : DataW.trod enc Try.prog w base sp hd k 50 (([c0, c1, c2, c3, c4, c5, c6, c7].drop 2).take (Try.prog.cellsOf 50)) = xs[2]? := hf 2 _ rfl
    have h3 : DataW.trod enc Try.prog w base sp hd k 50 (([c0, c1, c2, c3, c4, c5, c6, c7].drop 4).take (Try.prog.cellsOf 50)) = xs[3]? := hf 3 _ rfl
    have h4 : DataW.trod enc Try.prog w base sp hd k 50 (([c0, c1, c2, c3, c4, c5, c6, c7].drop 6).take (Try.prog.cellsOf 50)) = xs[4]? := hf 4 _ rfl
    rw [cells3] at h0 h1
    rw [cells50] at h2 h3 h4
    match xs, hx with
    | [x0, x1, x2, x3, x4], _ =>
      obtain ⟨a, ha⟩ := int_open h0
      obtain ⟨b, hb⟩ := int_open h1
      obtain ⟨e, f, he⟩ := pair_open h2
      obtain ⟨g, i, hg⟩ := pair_open h3
      obtain ⟨j, l, hj⟩ := pair_open h4
      simp at ha hb he hg hj
      refine ⟨⟨a, b, e, f, g, i, j, l⟩, fun k => ?_⟩
      rw [ha, hb, he.1, he.2, hg.1, hg.2, hj.1, hj.2]
      rfl

/-- One of each, chosen: a list of what each element has. -/
theorem choose_list {α β : Type} {R : α → β → Prop} : ∀ l : List α, (∀ x ∈ l, ∃ y, R x y) → ∃ m : List β, m.length = l.length ∧ ∀ (i : Nat) x y, l[i]? = some x → m[i]? = some y → R x y := by
  intro l
  induction l with
  | nil => exact fun _ => ⟨[], rfl, fun i x y h => by simp at h⟩
  | cons a t ih =>
    intro h
    obtain ⟨y, hy⟩ := h a (by simp)
    obtain ⟨m, hm, hr⟩ := ih fun x hx => h x (by simp [hx])
    refine ⟨y :: m, by simp [hm], fun i x z h1 h2 => ?_⟩
    cases i with
    | zero => simp at h1 h2; subst h1; subst h2; exact hy
    | succ i => exact hr i x z (by simpa using h1) (by simpa using h2)

theorem map_of_get {α β : Type} {f : α → β} {l : List α} {m : List β} (hl : m.length = l.length) (h : ∀ (i : Nat) x y, l[i]? = some x → m[i]? = some y → f x = y) : l.map f = m := by
  apply List.ext_getElem (by simp [hl])
  intro i h1 h2
  have hi : i < l.length := by simpa using h1
  rw [List.getElem_map]
  exact h i _ _ (List.getElem?_eq_getElem hi) (List.getElem?_eq_getElem h2)

theorem beds_open {H : Heap} (hs : Snap w H) {v : Value} {y} (h : DataW.trod enc Try.prog w base sp hd n 97 [v] = some y) : ∃ l : List Bed, Row H (toAV w.heap.size v) 8 (l.map Bed.c) := by
  obtain ⟨l, hR, _, hl⟩ := hs.slice Try.underlying97 cells100 (by decide) h
  obtain ⟨m, hm, hr⟩ := choose_list (R := fun c (b : Bed) => ∀ k, toAVs k c = b.c) l fun c hc => by
    obtain ⟨_, n', y', hy⟩ := hl c hc
    exact bed_open hy
  refine ⟨m, ?_⟩
  have : l.map (toAVs w.heap.size) = m.map Bed.c := map_of_get (by simp [hm]) fun i x z h1 h2 => by
    rw [List.getElem?_map, Option.map_eq_some_iff] at h2
    obtain ⟨b, h3, rfl⟩ := h2
    exact hr i x b h1 h3 _
  rwa [this] at hR

theorem cols_open {H : Heap} (hs : Snap w H) {v : Value} {y} (h : DataW.trod enc Try.prog w base sp hd n 22 [v] = some y) : ∃ cols : List (List Bed), Mat H (toAV w.heap.size v) cols := by
  obtain ⟨l, hR, _, hl⟩ := hs.slice Try.underlying22 cells97 (by decide) h
  obtain ⟨vs, hvs, hr⟩ := choose_list (R := fun c (x : AV) => toAVs w.heap.size c = [x] ∧ ∃ b : List Bed, Row H x 8 (b.map Bed.c)) l fun c hc => by
    obtain ⟨h1, n', y', hy⟩ := hl c hc
    match c, h1 with
    | [u], _ =>
      obtain ⟨b, hb⟩ := beds_open hs hy
      exact ⟨_, rfl, b, hb⟩
  obtain ⟨cols, hc, hcr⟩ := choose_list (R := fun x (b : List Bed) => Row H x 8 (b.map Bed.c)) vs fun x hx => by
    obtain ⟨i, hi, rfl⟩ := List.mem_iff_getElem.1 hx
    exact (hr i l[i] vs[i] (List.getElem?_eq_getElem (by omega)) (List.getElem?_eq_getElem hi)).2
  refine ⟨cols, vs, ?_, hc.symm, fun i x b h1 h2 => hcr i x b h1 h2⟩
  have : l.map (toAVs w.heap.size) = vs.map fun x => [x] := map_of_get (by simp [hvs]) fun i x z h1 h2 => by
    rw [List.getElem?_map, Option.map_eq_some_iff] at h2
    obtain ⟨b, h3, rfl⟩ := h2
    exact (hr i x b h1 h3).1
  rwa [this] at hR

theorem slope_open {H : Heap} (hs : Snap w H) {v : Value} {d : DataW H0} {p : List MemPlace} (hv : ∃ cs, v = .agg cs ∧ cs.size = Try.prog.cellsOf 24) (h : DataW.Trod enc Try.prog w base sp hd 24 v d p) :
    ∃ cv cols least, argAV w.heap.size v = .agg [cv, I least] ∧ Mat H cv cols := by
  obtain ⟨cs, rfl, hsz⟩ := hv
  obtain ⟨fuel, h⟩ := h
  obtain ⟨xs, k, _, _, hl, hx, hf⟩ := DataW.trod_struct Try.underlying24 h
  rw [cells24] at hsz
  obtain ⟨cl⟩ := cs
  match cl, hsz with
  | [a, b], _ =>
    have h0 : DataW.trod enc Try.prog w base sp hd k 22 (([a, b].drop 0).take (Try.prog.cellsOf 22)) = xs[0]? := hf 0 _ rfl
    have h1 : DataW.trod enc Try.prog w base sp hd k 3 (([a, b].drop 1).take (Try.prog.cellsOf 3)) = xs[1]? := hf 1 _ rfl
    rw [cells22] at h0
    rw [cells3] at h1
    match xs, hx with
    | [x0, x1], _ =>
      obtain ⟨cols, hc⟩ := cols_open hs (v := a) h0
      obtain ⟨z, hz⟩ := int_open h1
      have hz' : b = .int .i64 z := by simpa [Value.cells] using hz
      subst hz'
      exact ⟨_, cols, z, rfl, hc⟩

end
end Go.Ev

set_option maxRecDepth 100000
set_option linter.unusedSimpArgs false
set_option linter.unusedVariables false
namespace Go.Ev
open Go Go.Proofs
noncomputable section
/-- Is a column's bed as a truth says? -/
def fit1 (b : Bed) (r : Rl) : Bool := inB r.1 b.fl b.fh && inB r.2.1 b.cl b.ch && inB r.2.2 b.wl b.wh
def fitsB (L : List Bed) (R : List Rl) : Bool := decide (R.length = L.length) && (L.zip R).all fun p => fit1 p.1 p.2
end
end Go.Ev

set_option maxRecDepth 100000
set_option linter.unusedSimpArgs false
set_option linter.unusedVariables false
namespace Go.Ev
open Go Go.Proofs
noncomputable section
/-- What Factor answers: the factor and the error. -/
def facR (cols : List (List Bed)) (least fr : Int) (us : List Int) (R : List Rl) : Int × Int :=
  if surfErr cols least fr us = 0 then (if fitsB (bedsOf cols fr us) R = true then (if drive (bedsOf cols fr us) < 1 then (0, 7) else (factorOf (held (bedsOf cols fr us) R) (drive (bedsOf cols fr us)), 0)) else (0, 9)) else (0, surfErr cols least fr us)
end
end Go.Ev

set_option maxRecDepth 100000
set_option linter.unusedSimpArgs false
set_option linter.unusedVariables false
namespace Go.Ev
open Go Go.Proofs
noncomputable section
end
end Go.Ev

set_option maxRecDepth 100000
set_option linter.unusedSimpArgs false
set_option linter.unusedVariables false
namespace Go.Ev
open Go Go.Proofs
noncomputable section
end
end Go.Ev

set_option maxRecDepth 100000
set_option linter.unusedSimpArgs false
set_option linter.unusedVariables false
namespace Go.Ev
open Go Go.Proofs
noncomputable section
end
end Go.Ev

set_option maxRecDepth 100000
set_option linter.unusedSimpArgs false
set_option linter.unusedVariables false
namespace Go.Ev
open Go Go.Proofs Go.RowKit
noncomputable section
variable {H0 : Type} {enc : TypeId × Value → H0} {w : World} {base : Nat} {sp : Nat → Bool} {hd : Bool} {n : Nat}
end
end Go.Ev

set_option maxRecDepth 100000
set_option linter.unusedSimpArgs false
set_option linter.unusedVariables false
namespace Go.Ev
open Go Go.Proofs
noncomputable section
/-- May all surfaces of a slope be listed? -/
def fewB (cols : List (List Bed)) (least : Int) : Bool :=
  if thinB cols = true then (if slOk cols least = true then (decide ((cols.length : Int) ≤ 6) && decide (((cols.headD []).length : Int) ≤ 3)) || decide ((cols.length : Int) ≤ 4) else true) else false
theorem c30 (m : Nat) (cv : AV) (cols : List (List Bed)) (least : Int) (H : Heap) (hM : Mat H cv cols) : RR (m + 4) (.fn 30 [.agg [cv, I least]]) H = some (.bool (fewB cols least), H) := by
  refine (R_fn _ _ _ _ _).trans ?_; refine fn_ok Try.func30 rfl rfl (by kernel_rfl) (by kernel_rfl) ?_
  obtain ⟨W, hW, hg, hN, hE, hG⟩ := wOf H
  rw [← hW]
  obtain ⟨vs, hR, hvl, hv⟩ := id hM
  have hlen : lenOf cv = some vs.length := by simpa using hR.len
  have pc : cv.plain = true := lpl hR.len
  refine kS ?_; refine kR ?_; refine OkO.box rfl rfl ?_; refine oA rfl rfl ?_; refine oN ?_; refine kS ?_; refine kS ?_; refine kR ?_; refine oL rfl rfl (qlg2 2) ?_; refine oV rfl rfl rfl rfl rfl (c16 (m + 2) cv cols least _ (hM.ext (hE _ (by (try dsimp only); repeat (first | exact hG | apply Grow.new | (refine Grow.put ?_ _ (by first | omega | (simp only [hNw, hPt]; omega)))))))) ?_; refine OkO.un rfl rfl rfl ?_; refine oM rfl rfl ?_
  refine OkO.split (d := 8) rfl (fun g1 => ?_) (fun g1 => ?_)
  · have ht : thinB cols = false := by simpa using g1
    refine oK rfl ?_; refine oK rfl ?_; refine oK rfl ?_; refine OkO.pick (b := true) rfl rfl (fun _ => rfl) nofun ?_; refine oN ?_; refine Ok.condT rfl ?_; refine kS ?_; refine kR ?_; refine oL rfl rfl (qlg2 2) ?_; refine oV rfl rfl rfl rfl rfl (c16 (m + 2) cv cols least _ (hM.ext (hE _ (by (try dsimp only); repeat (first | exact hG | apply Grow.new | (refine Grow.put ?_ _ (by first | omega | (simp only [hNw, hPt]; omega)))))))) ?_; refine oA rfl rfl ?_; refine oN ?_
    refine Ok.ret ⟨.inr rfl, ?_⟩
    have hz : thinB cols = fewB cols least := by unfold fewB; simp [ht]
    exact back_flat rfl (congrArg AV.bool hz) rfl (by rw [← hW]; exact (by (try dsimp only); repeat (first | exact hG | apply Grow.new | (refine Grow.put ?_ _ (by first | omega | (simp only [hNw, hPt]; omega))))))
  · refine oL rfl rfl (qlg2 2) ?_
    refine oV rfl rfl rfl rfl rfl (c23 (m + 1) cv cols least _ (hM.ext (hE _ (by (try dsimp only); repeat (first | exact hG | apply Grow.new | (refine Grow.put ?_ _ (by first | omega | (simp only [hNw, hPt]; omega)))))))) ?_; refine OkO.un rfl rfl rfl ?_; refine OkO.pick (b := false) rfl rfl nofun (fun _ => rfl) ?_; refine oN ?_
    refine Ok.cond rfl (fun h2 => ?_) (fun h2 => ?_)
    · have ht : thinB cols = true := by simpa using g1
      have hs : slOk cols least = false := by simpa using h2
      refine kS ?_; refine kR ?_; refine oL rfl rfl (qlg2 2) ?_; refine oV rfl rfl rfl rfl rfl (c16 (m + 2) cv cols least _ (hM.ext (hE _ (by (try dsimp only); repeat (first | exact hG | apply Grow.new | (refine Grow.put ?_ _ (by first | omega | (simp only [hNw, hPt]; omega)))))))) ?_; refine oA rfl rfl ?_; refine oN ?_
      refine Ok.ret ⟨.inr rfl, ?_⟩
      have hz : thinB cols = fewB cols least := by unfold fewB; simp [ht, hs]
      exact back_flat rfl (congrArg AV.bool hz) rfl (by rw [← hW]; exact (by (try dsimp only); repeat (first | exact hG | apply Grow.new | (refine Grow.put ?_ _ (by first | omega | (simp only [hNw, hPt]; omega))))))
    · have ht : thinB cols = true := by simpa using g1
      have hs : slOk cols least = true := by simpa using h2
      have hc1 : 1 ≤ vs.length := by (rw [hvl]; have := slOk_facts hs; omega)
      obtain ⟨cb, co, ccs, j1, j2, j3, j4⟩ := hR.at_ 0 [vs[0]] (by first | (simp; done) | (simp; omega))
      have j5 := seg_one j3
      obtain ⟨c0, hc0⟩ : ∃ c0, cols[0]? = some c0 := ⟨_, List.getElem?_eq_getElem (by omega)⟩
      have hhd : (cols.headD []) = c0 := by cases cols with | nil => simp at hc0 | cons a l => simpa using hc0
      have hlz : lenOf vs[0] = some c0.length := by simpa using (hv 0 vs[0] c0 (List.getElem?_eq_getElem (by omega)) hc0).len
      have ef : fewB cols least = ((decide ((vs.length : Int) ≤ 6) && decide ((c0.length : Int) ≤ 3)) || decide ((vs.length : Int) ≤ 4)) := by unfold fewB; rw [if_pos ht, if_pos hs, hhd, hvl]
      have hj2 : ∀ G, Grow W G → (G.get cb).bind AObj.cs = some ccs := fun G g => by rw [(hE G g).get _ j4]; exact j2
      have j6 := hj2 _ (by (try dsimp only); repeat (first | exact hG | apply Grow.new | (refine Grow.put ?_ _ (by first | omega | (simp only [hNw, hPt]; omega)))))
      refine Ok.skip ?_; refine kS ?_; refine Ok.drawn [(0, true, []), (1, true, []), (2, true, []), (3, true, []), (4, true, []), (5, true, []), (6, true, []), (7, true, []), (8, true, []), (9, true, [])] (by kernel_rfl) ?_; refine pS ?_; refine oF (o := 0) rfl (by kernel_rfl) rfl ?_; refine oN ⟨rfl, ?_⟩; refine pS ?_; refine oL rfl rfl (qla1 1) ?_; refine oN ⟨rfl, ?_⟩; refine pS ?_; refine oB rfl rfl rfl qbl ?_; refine oN ⟨rfl, ?_⟩; refine pS ?_; refine oF (o := 0) rfl (by kernel_rfl) rfl ?_; refine oN ⟨rfl, ?_⟩; refine pS ?_; refine oL rfl rfl (qla1 1) ?_; refine oN ⟨rfl, ?_⟩; refine pS ?_; refine oX (sz := 1) (n := 0) rfl rfl rfl (by kernel_rfl) (by first | assumption | rfl) ?_; refine oN ⟨rfl, ?_⟩; refine pS ?_; refine oL rfl rfl (qla1 1) ?_; refine oN ⟨rfl, ?_⟩; refine pS ?_; refine oB rfl rfl rfl qbl ?_; refine oN ⟨rfl, ?_⟩; refine pS ?_; refine oA rfl rfl ?_; refine oN ⟨rfl, ?_⟩; refine pS ?_; refine oA rfl rfl ?_; refine oN ⟨rfl, ?_⟩; refine OkP.nil ?_; refine kS ?_; refine kR ?_; refine oM rfl rfl ?_; refine OkO.bin rfl rfl rfl (bin_leq _ _) ?_; refine oM rfl rfl ?_
      refine OkO.split (d := 25) rfl (fun g3 => ?_) (fun g3 => ?_)
      · refine oM rfl rfl ?_
        refine OkO.bin rfl rfl rfl (bin_leq _ _) ?_; refine OkO.pick (b := true) rfl rfl (fun _ => rfl) nofun ?_; refine oM rfl rfl ?_
        refine OkO.split (d := 29) rfl (fun g4 => ?_) (fun g4 => ?_)
        · refine oK rfl ?_
          refine oK rfl ?_; refine OkO.pick (b := true) rfl rfl (fun _ => rfl) nofun ?_; refine oA rfl rfl ?_; refine oN ?_
          refine Ok.ret ⟨.inr rfl, ?_⟩
          have hz : true = fewB cols least := by rw [ef, g3, g4]; rfl
          exact back_flat rfl (congrArg AV.bool hz) rfl (by rw [← hW]; exact (by (try dsimp only); repeat (first | exact hG | apply Grow.new | (refine Grow.put ?_ _ (by first | omega | (simp only [hNw, hPt]; omega))))))
        · refine oM rfl rfl ?_
          refine OkO.bin rfl rfl rfl (bin_leq _ _) ?_; refine OkO.pick (b := false) rfl rfl nofun (fun _ => rfl) ?_; refine oA rfl rfl ?_; refine oN ?_
          refine Ok.ret ⟨.inr rfl, ?_⟩
          have hz : decide ((vs.length : Int) ≤ 4) = fewB cols least := by rw [ef, g3, g4]; rfl
          exact back_flat rfl (congrArg AV.bool hz) rfl (by rw [← hW]; exact (by (try dsimp only); repeat (first | exact hG | apply Grow.new | (refine Grow.put ?_ _ (by first | omega | (simp only [hNw, hPt]; omega))))))
      · refine oK rfl ?_
        refine oK rfl ?_; refine OkO.pick (b := false) rfl rfl nofun (fun _ => rfl) ?_; refine oM rfl rfl ?_; refine oM rfl rfl ?_; refine OkO.bin rfl rfl rfl (bin_leq _ _) ?_; refine OkO.pick (b := false) rfl rfl nofun (fun _ => rfl) ?_; refine oA rfl rfl ?_; refine oN ?_
        refine Ok.ret ⟨.inr rfl, ?_⟩
        have hz : decide ((vs.length : Int) ≤ 4) = fewB cols least := by rw [ef, g3]; rfl
        exact back_flat rfl (congrArg AV.bool hz) rfl (by rw [← hW]; exact (by (try dsimp only); repeat (first | exact hG | apply Grow.new | (refine Grow.put ?_ _ (by first | omega | (simp only [hNw, hPt]; omega))))))
end
end Go.Ev

set_option maxRecDepth 100000
set_option linter.unusedSimpArgs false
set_option linter.unusedVariables false
namespace Go.Ev
open Go Go.Proofs
noncomputable section
theorem mul_bd {a b : Int} (h : 0 ≤ a ∧ a ≤ 10000) (k : -100000 ≤ b ∧ b ≤ 100000) : -1000000000 ≤ a * b ∧ a * b ≤ 1000000000 := by
  have h1 := Int.mul_le_mul_of_nonneg_left k.2 h.1
  have h2 := Int.mul_le_mul_of_nonneg_left k.1 h.1
  omega
def costOf (fa : Int) (b : Bed) : Int := 1000 * weak b - fa * b.dr
theorem c71 (m : Nat) (cv : AV) (cols : List (List Bed)) (least fa : Int) (c k : Nat) (col : List Bed) (bed : Bed) (H : Heap) (hM : Mat H cv cols) (hp1 : cols[c]? = some col) (hp2 : col[k]? = some bed) (hok : bed.ok = true) (hc9 : c ≤ 1000) (hk9 : k ≤ 1000) (hfa : 0 ≤ fa ∧ fa ≤ 10000) : RR (m + 4) (.fn 71 [.agg [cv, I least, I fa, .fn 66 [] []], .agg [I (c : Int), I (k : Int)]]) H = some (I (costOf fa bed), H) := by
  refine (R_fn _ _ _ _ _).trans ?_; refine fn_ok Try.func71 rfl rfl (by kernel_rfl) (by kernel_rfl) ?_
  obtain ⟨W, hW, hg, hN, hE, hG⟩ := wOf H
  rw [← hW]
  obtain ⟨vs, hR, hvl, hv⟩ := hM
  have hlen : lenOf cv = some vs.length := by simpa using hR.len
  have pc : cv.plain = true := lpl hR.len
  have hcl : c < vs.length := by rw [hvl]; exact (List.getElem?_eq_some_iff.1 hp1).1
  have hbl : k < col.length := (List.getElem?_eq_some_iff.1 hp2).1
  have hlim := Bed.ok_lim hok
  have hwb := weak_bd hok
  have hmb := mul_bd hfa ⟨hlim.1.1, hlim.1.2⟩
  have hwd : weak bed = holds bed.no bed.fl bed.cl bed.wh := rfl
  unfold Bed.lim at hlim
  obtain ⟨cb, co, ccs, j1, j20, j3, j4⟩ := hR.at_ c [vs[c]] (by simp [hcl])
  have j5 := seg_one j3
  have hcol := hv c vs[c] col (by simp [hcl]) hp1
  have hlcol : lenOf vs[c] = some col.length := by simpa using hcol.len
  obtain ⟨bb, bo, bcs, k1, k20, k3, k4⟩ := hcol.at_ k bed.c (by rw [List.getElem?_map, hp2]; rfl)
  have j2 : (W.get cb).bind AObj.cs = some ccs := by rw [hg]; exact j20
  have k2 : (W.get bb).bind AObj.cs = some bcs := by rw [hg]; exact k20
  have k5 : bcs[bo + 0]? = some (I bed.dr) := seg_get k3 0 (by omega)
  have hne : bb ≠ W.next + 2 := by omega
  refine kS ?_; refine kR ?_; refine OkO.box rfl rfl ?_; refine OkO.box rfl rfl ?_; refine oA rfl rfl ?_; refine oN ?_; refine kS ?_; refine Ok.drawn [(0, true, []), (1, true, []), (2, true, []), (3, true, []), (4, true, []), (5, true, []), (6, true, []), (7, true, []), (8, true, []), (9, true, []), (10, true, []), (11, true, [10, 8, 6, 4, 2]), (12, false, [])] (by kernel_rfl) ?_; refine pS ?_; refine oF (o := 0) rfl (by kernel_rfl) rfl ?_; refine oN ⟨rfl, ?_⟩; refine pS ?_; refine oF (o := 0) rfl (by kernel_rfl) rfl ?_; refine oN ⟨rfl, ?_⟩; refine pS ?_; refine oL rfl rfl (qla1 1) ?_; refine oN ⟨rfl, ?_⟩; refine pS ?_; refine oF (o := 0) rfl (by kernel_rfl) rfl ?_; refine oN ⟨rfl, ?_⟩; refine pS ?_; refine oL rfl rfl (qla1 1) ?_; refine oN ⟨rfl, ?_⟩; refine pS ?_; refine oX (sz := 1) (n := c) rfl rfl rfl (by kernel_rfl) (by first | assumption | rfl) ?_; refine oN ⟨rfl, ?_⟩; refine pS ?_; refine oL rfl rfl (qla1 1) ?_; refine oN ⟨rfl, ?_⟩; refine pS ?_; refine oF (o := 1) rfl (by kernel_rfl) rfl ?_; refine oN ⟨rfl, ?_⟩; refine pS ?_; refine oL rfl rfl (qla1 1) ?_; refine oN ⟨rfl, ?_⟩; refine pS ?_; refine oX (sz := 8) (n := k) rfl rfl rfl (by kernel_rfl) (by first | assumption | rfl) ?_; refine oN ⟨rfl, ?_⟩; refine pS ?_; refine oL rfl rfl (qlg2 8) ?_; refine oN ⟨rfl, ?_⟩; refine pS ?_; refine OkO.alloc (z := [.int .i64 0, .int .i64 0, .int .i64 0, .int .i64 0, .int .i64 0, .int .i64 0, .int .i64 0, .int .i64 0]) rfl (by kernel_rfl) ?_
  refine oN ⟨(sco (sld rfl rfl (qlg2 8) rfl (eqr _ (by first | rfl | exact lpl (by assumption)))) (sco (sld rfl rfl (qla1 1) rfl (eqr _ (by first | rfl | exact lpl (by assumption)))) (sco (sld rfl rfl (qla1 1) rfl (eqr _ (by first | rfl | exact lpl (by assumption)))) (sco (sld rfl rfl (qla1 1) rfl (eqr _ (by first | rfl | exact lpl (by assumption)))) (sco (sld rfl rfl (qla1 1) rfl (eqr _ (by first | rfl | exact lpl (by assumption)))) rfl))))), ?_⟩; refine pS ?_; refine oT rfl rfl rfl (sAc (n := 8) (ag := true) (by kernel_rfl) (by first | assumption | (simp (disch := first | omega | (simp only [hNw, hPt]; omega)) only [gM] <;> first | rfl | assumption)) rfl rfl rfl) ?_; refine oN ⟨rfl, ?_⟩; refine OkP.nil ?_; refine kS ?_; refine Ok.drawn [(0, true, []), (1, true, []), (2, true, []), (3, true, []), (7, true, []), (8, true, []), (9, true, []), (10, true, []), (11, true, []), (4, false, [10, 8, 0]), (5, false, [10, 8, 3, 2]), (6, true, []), (12, true, []), (13, true, [])] (by kernel_rfl) ?_; refine pS ?_; refine oL rfl rfl (qlg2 8) ?_; refine oN ⟨rfl, ?_⟩; refine pS ?_; refine oF (o := 3) rfl (by kernel_rfl) rfl ?_; refine oN ⟨rfl, ?_⟩; refine pS ?_; refine oL rfl rfl (qla1 1) ?_; refine oN ⟨rfl, ?_⟩; refine pS ?_; refine oL rfl rfl (qlg2 8) ?_; refine oN ⟨rfl, ?_⟩; refine pS ?_; refine oF (o := 2) rfl (by kernel_rfl) rfl ?_; refine oN ⟨rfl, ?_⟩; refine pS ?_; refine oL rfl rfl (qla1 1) ?_; refine oN ⟨rfl, ?_⟩; refine pS ?_; refine oF (o := 0) rfl (by kernel_rfl) rfl ?_; refine oN ⟨rfl, ?_⟩; refine pS ?_; refine oL rfl rfl (qla1 1) ?_; refine oN ⟨rfl, ?_⟩; refine pS ?_; refine OkO.bin rfl rfl rfl (bin_mul (by omega) (by omega)) ?_; refine oN ⟨rfl, ?_⟩; refine pS ?_; refine oV rfl rfl rfl rfl rfl (c66 m bed _) ?_
  refine oN ⟨(sco (sld rfl rfl (qla1 1) rfl (eqr _ (by first | rfl | exact lpl (by assumption)))) (sco (sld rfl rfl (qla1 1) rfl (eqr _ (by first | rfl | exact lpl (by assumption)))) (sco (sld rfl rfl (qlg2 8) rfl (eqr _ (by first | rfl | exact lpl (by assumption)))) rfl))), ?_⟩; refine pS ?_; refine oV rfl rfl rfl rfl rfl (c62 (m + 2) bed bed.fl bed.cl bed.wh _ (by omega) (by omega) (by omega) (by omega)) ?_
  refine oN ⟨(sco (sld rfl rfl (qla1 1) rfl (eqr _ (by first | rfl | exact lpl (by assumption)))) (sco (sld rfl rfl (qla1 1) rfl (eqr _ (by first | rfl | exact lpl (by assumption)))) (sco (sld rfl rfl (qlg2 8) rfl (eqr _ (by first | rfl | exact lpl (by assumption)))) (sco (sld rfl rfl (qla1 1) rfl (eqr _ (by first | rfl | exact lpl (by assumption)))) rfl)))), ?_⟩; refine pS ?_; refine OkO.bin rfl rfl rfl (bin_mul (by omega) (by omega)) ?_; refine oN ⟨rfl, ?_⟩; refine pS ?_; refine OkO.bin rfl rfl rfl (bin_sub (by omega) (by omega)) ?_; refine oN ⟨rfl, ?_⟩; refine pS ?_; refine oA rfl rfl ?_; refine oN ⟨rfl, ?_⟩; refine OkP.nil ?_
  refine Ok.ret ⟨.inr rfl, ?_⟩
  exact back_flat rfl (congrArg (AV.int .i64) (by unfold costOf; rw [hwd])) rfl (by rw [← hW]; exact (by (try dsimp only); repeat (first | exact hG | apply Grow.new | (refine Grow.put ?_ _ (by first | omega | (simp only [hNw, hPt]; omega))))))
end
end Go.Ev

set_option maxRecDepth 100000
set_option linter.unusedSimpArgs false
set_option linter.unusedVariables false
namespace Go.Ev
open Go Go.Proofs
noncomputable section
theorem back_any {P : Program} {fn : Func} {H : Heap} {T : Tr AV} {G : Heap} {vs : List AV} {v : AV} (hr : resV P T G fn.results.toList = some vs) (hv : resOf vs = v) :
    ∃ H', evBack P fn H ⟨T, [], G⟩ = some (v, H') ∧ ((H' = H ∧ H.next ≤ G.lo) ∨ ((∀ n, H'.get n = G.get n) ∧ H'.next = G.next ∧ ∀ k, k ≤ H.lo → k ≤ G.lo → k ≤ H'.lo)) := by
  have e : evBack P fn H ⟨T, [], G⟩ = some (leave H v G) := by
    unfold evBack
    show (match some G with | some H' => (match resV P T H' fn.results.toList with | some vs => some (leave H (resOf vs) H') | none => none) | none => none) = _
    dsimp only
    rw [hr]
    dsimp only
    rw [hv]
  have hk : ∀ k, k ≤ H.lo → k ≤ G.lo → k ≤ @Bool.rec (fun _ => Nat) G.lo H.lo (Nat.ble H.lo G.lo) := fun k h1 h2 => by
    cases Nat.ble H.lo G.lo with
    | true => exact h1
    | false => exact h2
  unfold leave at e
  cases hb : Nat.ble H.next G.lo with
  | false => rw [hb] at e; exact ⟨_, e, .inr ⟨fun _ => rfl, rfl, hk⟩⟩
  | true =>
    cases hf : v.flat with
    | true => rw [hb, hf] at e; exact ⟨_, e, .inl ⟨rfl, Nat.le_of_ble_eq_true hb⟩⟩
    | false => rw [hb, hf] at e; exact ⟨_, e, .inr ⟨fun _ => rfl, rfl, hk⟩⟩
/-- A place, as the code has it. -/
def encP (p : Nat × Nat) : AV := .agg [I (p.1 : Int), I (p.2 : Int)]
theorem eqP (a b c d : Int) : eqT Try.prog 8 145 (.agg [I a, I b]) (.agg [I c, I d]) = some (decide (a = c) && decide (b = d)) := by
  have h2 : Try.prog.stoodInHeld 145 = false := by kernel_rfl
  have h5 : ∀ x y : Int, eqT.part Try.prog 3 [I x, I y] 0 = some (I x) := fun x y => by kernel_rfl
  have h6 : ∀ x y : Int, eqT.part Try.prog 3 [I x, I y] 1 = some (I y) := fun x y => by kernel_rfl
  unfold eqT
  rw [Try.underlying145]
  dsimp only
  rw [h2]
  dsimp only [eqT.eqFs]
  rw [h5, h5, h6, h6, show ("column" == "_") = false from rfl, show ("bed" == "_") = false from rfl]
  dsimp only
  rw [eq3, eq3]
  by_cases e1 : a = c <;> by_cases e2 : b = d <;> simp [e1, e2]
theorem keysP : Keys Try.prog 145 encP where
  eq := fun a b => by
    obtain ⟨a1, a2⟩ := a
    obtain ⟨b1, b2⟩ := b
    refine (eqP _ _ _ _).trans ?_
    congr 1
    rw [Bool.eq_iff_iff]
    simp
    omega
  chk := fun a => by kernel_rfl
  same := fun a => by
    show sameAtoms [I (a.1 : Int), I (a.2 : Int)] [I (a.1 : Int), I (a.2 : Int)] = true
    simp [sameAtoms, sameAtom, sameKind, eqI_eq]
theorem mapT147 : mapTy Try.prog 147 = some (145, I 0) := by kernel_rfl
theorem c111 (m : Nat) (k n : Int) (H : Heap)  : ∃ v H', RR (m + 1) (.fn 111 [I k, I n]) H = some (v, H') ∧ v = .fn 112 [] [.ptr H.next 0, .ptr (H.next + 1) 0] ∧ Ret H H' ∧ H'.get H.next = some (.cells [I k] 3) ∧ H'.get (H.next + 1) = some (.cells [I n] 3) ∧ H'.next = H.next + 2 := by
  show ∃ v H', evFn Try.prog (RR (m + 0)) 111 [I k, I n] H = some (v, H') ∧ v = .fn 112 [] [.ptr H.next 0, .ptr (H.next + 1) 0] ∧ Ret H H' ∧ H'.get H.next = some (.cells [I k] 3) ∧ H'.get (H.next + 1) = some (.cells [I n] 3) ∧ H'.next = H.next + 2
  refine fn_okE Try.func111 rfl rfl (by kernel_rfl) (by kernel_rfl) ?_
  obtain ⟨W, hW, hg, hN, hE, hG⟩ := wOf H
  rw [← hW]
  refine kS ?_; refine kR ?_; refine OkO.box rfl rfl ?_; refine OkO.box rfl rfl ?_; refine oA rfl rfl ?_; refine oN ?_; refine kS ?_; refine kR ?_; refine OkO.makeFunc rfl rfl rfl ?_; refine oA rfl rfl ?_; refine oN ?_
  refine Ok.ret ⟨.inr rfl, ?_⟩
  exact back_newQ (resV_tmp rfl resV_nil) (by rw [← hN]; rfl) (by rw [← hW]; exact (by (try dsimp only); repeat (first | exact hG | apply Grow.new | (refine Grow.put ?_ _ (by first | omega | (simp only [hNw, hPt]; omega)))))) rfl (fun H' p1 p2 p3 => ⟨rfl, p1, by rw [p2, ← hN, gno _ _ _ (by simp only [hNw]; omega)]; exact gn0 _ _, by rw [p2, ← hN]; exact gn1 _ _ _, by rw [p3, ← hN]; rfl⟩)
theorem c112 (m : Nat) (l pa pb K k n : Nat) (J : Nat → Heap → Prop) (H : Heap) (hst : ∀ i G G', J i G → Ext G G' → J i G') (hJ : ∀ i G, J i G → (G.get pa).bind AObj.cs = some [I (k : Int)] ∧ (G.get pb).bind AObj.cs = some [I (n : Int)] ∧ l < G.next)
 (hrd : ∀ i G, i < n → i ≤ k + 1 → k ≤ i + 1 → J i G → K ≤ G.lo → ∃ v H', RR m (.round l [I (i : Int)]) G = some (v, H') ∧ v = .bool true ∧ J (i + 1) H' ∧ K ≤ H'.lo ∧ H'.lo ≤ l ∧ G.next ≤ H'.next)
 (h0 : J (k - 1) H) (hK : K ≤ H.lo) (hKl : K ≤ l) (hkn : k < n) (hn9 : n ≤ 1000) : ∃ v H', RR (m + 1) (.fn 112 [.yield l, .ptr pa 0, .ptr pb 0]) H = some (v, H') ∧ J (min (k + 2) n) H' ∧ K ≤ H'.lo := by
  show ∃ v H', evFn Try.prog (RR (m + 0)) 112 [.yield l, .ptr pa 0, .ptr pb 0] H = some (v, H') ∧ J (min (k + 2) n) H' ∧ K ≤ H'.lo
  refine fn_okE Try.func112 rfl rfl (by kernel_rfl) (by kernel_rfl) ?_
  obtain ⟨W, hW, hg, hN, hE, hG⟩ := wOf H
  rw [← hW]
  clear hE hG
  have hJW : J (k - 1) W := hst _ H W h0 ⟨by omega, fun n _ => hg n⟩
  obtain ⟨w1, w2, w3⟩ := hJ _ W hJW
  have hKW : K ≤ W.lo := by rw [hW]; show K ≤ H.next; omega
  refine kS ?_; refine kR ?_; refine oL rfl rfl (qla0 1) ?_; refine OkO.bin rfl rfl rfl (bin_sub (by omega) (by omega)) ?_; refine oB rfl rfl rfl (builtin_max2 _ _) ?_; refine oA rfl rfl ?_; refine oN ?_; refine Ok.block ?_
  rw [show max ((k : Int) - 1) 0 = ((k - 1 : Nat) : Int) from by omega]
  refine Ok.loop (fun n9 s_ => ∃ j : Nat, n9 = (min (k + 2) n) - j ∧ k - 1 ≤ j ∧ j ≤ (min (k + 2) n) ∧ J j s_.H ∧ K ≤ s_.H.lo ∧ (k - 1 < j → s_.H.lo ≤ l) ∧ W.next ≤ s_.H.next ∧ Has 5 [(0, .yield l), (1, .ptr pa 0), (2, .ptr pb 0), (4, I (j : Int))] s_.T ∧ s_.D = []) ((min (k + 2) n) - (k - 1)) (by unfold loopFuel; omega)
    ⟨k - 1, rfl, Nat.le_refl _, by omega, hJW, hKW, fun h => absurd h (by omega), Nat.le_refl _, Has.of (by kernel_rfl), rfl⟩ ?_
  rintro n9 ⟨T, D, G⟩ ⟨j, hn, hj0, hj1, hji, hKG, hlo, hgn, ⟨f, hT⟩, hD⟩
  dsimp only at *
  subst hT hD
  obtain ⟨j1, j2, j3⟩ := hJ j G hji
  refine kS ?_; refine kS ?_; refine kR ?_; refine oM rfl rfl ?_; refine oL rfl rfl (qla0 1) ?_; refine OkO.bin rfl rfl rfl (bin_add (by omega) (by omega)) ?_; refine oL rfl rfl (qla0 1) ?_; refine OkO.bin rfl rfl rfl (bin_sub (by omega) (by omega)) ?_; refine oB rfl rfl rfl (builtin_min2 _ _) ?_; refine OkO.bin rfl rfl rfl (bin_leq _ _) ?_; refine oN ?_
  refine Ok.cond rfl (fun h1 => ?_) (fun h1 => ?_)
  · have hjm : (j : Int) ≤ min ((k : Int) + 1) ((n : Int) - 1) := by simpa using h1
    refine Ok.skip ?_; refine kS ?_; refine Ok.block ?_; refine kS ?_; refine kR ?_; refine oM rfl rfl ?_; refine oM rfl rfl ?_; refine OkO.roundE rfl rfl rfl rfl (hrd j _ (by omega) (by omega) (by omega) hji hKG) ?_
    rintro v H2 ⟨rfl, jn1, jn2, jn3, jn4⟩
    refine OkO.un rfl rfl rfl ?_; refine oN ?_
    refine Ok.cond rfl (fun h2 => ?_) (fun h2 => ?_)
    · simp at h2
    · refine Ok.skip ?_
      refine kR ?_; refine oM rfl rfl ?_; refine OkO.bin rfl rfl rfl (bin_add (by omega) (by omega)) ?_; refine oA rfl rfl ?_; refine oN ?_
      refine ⟨(min (k + 2) n) - (j + 1), by omega, j + 1, rfl, by omega, by omega, jn1, jn2, fun _ => jn3, ?_, Has.of (by kernel_rfl), rfl⟩
      show W.next ≤ H2.next; omega
  · have hge : j = (min (k + 2) n) := by (have : ¬ (j : Int) ≤ min ((k : Int) + 1) ((n : Int) - 1) := by simpa using h1); omega
    have hlo2 := hlo (by omega)
    refine Ok.exit ?_
    refine ⟨.inl rfl, ?_⟩
    subst hge
    obtain ⟨H2, q1, q2⟩ := back_any (H := H) (T := _) (G := G) (fn := Try.f112) (P := Try.prog) (vs := []) rfl rfl
    refine ⟨_, H2, q1, ?_⟩
    rcases q2 with ⟨q2, q3⟩ | ⟨q2, q3, q4⟩
    · exact absurd w3 (by omega)
    · exact ⟨hst _ G H2 hji ⟨by omega, fun n _ => q2 n⟩, q4 K hK hKG⟩
end
end Go.Ev

