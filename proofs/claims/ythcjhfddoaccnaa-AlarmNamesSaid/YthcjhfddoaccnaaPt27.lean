/-
  Functions of the program, reckoned by the evaluator: what each answers, and that it leaves what came in as it was.
-/
import Derived.Test.YthcjhfddoaccnaaEvZ
import Derived.KernelRfl
import Derived.Test.YthcjhfddoaccnaaProg
import Derived.Test.YthcjhfddoaccnaaEvY
import Derived.WideShapes
import Derived.Carry
set_option maxRecDepth 100000
set_option linter.unusedSimpArgs false
set_option linter.unusedVariables false
namespace Go.Ev
open Go Go.Proofs
noncomputable section
abbrev I (n : Int) : AV := .int .i64 n
/-- Is a number from lo to hi? -/
def inB (a lo hi : Int) : Bool := decide (lo ≤ a) && decide (a ≤ hi)
def RR (m : Nat) : Rec := runO Try.prog (closedO 18 (.bool true)) m
theorem R_fn (m : Nat) (f : FuncId) (a : AV) (l : List AV) (H : Heap) : RR (m + 1) (.fn f (a :: l)) H = evFn Try.prog (RR m) f (a :: l) H := rfl
abbrev Ints (H : Heap) (v : AV) (us : List Int) : Prop := Row H v 1 (us.map fun n => [I n])
theorem flatI : ∀ (l : List Int), (l.map fun x => [I x]).flatten = l.map I
  | [] => rfl
  | a :: l => by rw [List.map_cons, List.flatten_cons, flatI l]; rfl
structure Rul where (start back hold : Int)
def Rul.c (r : Rul) : List AV := [I r.start, I r.back, I r.hold]
def Rul.ok (r : Rul) : Bool := inB r.start 0 1000 && inB r.back 0 r.start && inB r.hold 1 60
structure Trm where (out price hour less hold : Int)
def Trm.c (t : Trm) : List AV := [I t.out, I t.price, I t.hour, I t.less, I t.hold]
def Trm.ok (t : Trm) : Bool := inB t.out 0 60 && inB t.price 0 1000 && inB t.hour 0 1000 && inB t.less 0 1000 && inB t.hold 1 60
/-- A call that answers a bool, and leaves the heap as it was. -/
def CallB (m : Nat) (fv : AV) (args : List AV) (H : Heap) (r : Bool) : Prop := ∃ f bs, Go.Ev.callV fv args = some (.fn f bs) ∧ ∀ G, Ext H G → RR m (.fn f bs) G = some (.bool r, G)
theorem c68 (m : Nat) (a b x : Int) (H : Heap)  : RR (m + 1) (.fn 68 [.agg [I a, I b], I x]) H = some (.bool (inB x a b), H) := by
  refine (R_fn _ _ _ _ _).trans ?_
  refine fn_ok Try.func68 rfl rfl (by kernel_rfl) (by kernel_rfl) ?_
  obtain ⟨W, hW⟩ : ∃ W : Heap, W = ⟨H.t, H.next, H.next⟩ := ⟨_, rfl⟩
  have hg : ∀ n, W.get n = H.get n := fun n => by rw [hW]; rfl
  have hN : W.next = H.next := by rw [hW]
  have hE : ∀ G, Grow W G → Ext H G := fun G g => ⟨by rw [← hN]; exact g.next, fun n k => by rw [g.get n (by rw [hN]; exact k), hg]⟩
  have hG : Grow W W := Grow.refl (by rw [hW]; exact Nat.le_refl _)
  rw [← hW]
  refine Ok.seq ?_
  refine Ok.region ?_
  refine OkO.box rfl rfl ?_
  refine OkO.assign rfl rfl ?_
  refine OkO.nil ?_
  refine Ok.seq ?_
  refine Ok.region ?_
  refine OkO.indexArr (len := 2) (sz := 1) (n := 0) rfl rfl rfl (by kernel_rfl) (by omega) ?_
  refine OkO.load rfl rfl (lda (n := 1) (by kernel_rfl) (by first | assumption | (simp (disch := first | omega | (simp only [hNw, hPt]; omega)) only [gn0, gn1, gn2, gn3, gn4, gn5, gp0, gno, gpo] <;> first | rfl | assumption | exact gp0 _ _ _ | exact gn0 _ _)) (by first | rfl | assumption)) ?_
  refine OkO.move rfl rfl ?_
  refine OkO.bin rfl rfl rfl (bin_leq _ _) ?_
  refine OkO.move rfl rfl ?_
  refine OkO.split (d := 9) rfl (fun g1 => ?_) (fun g1 => ?_)
  · -- true g1
    refine OkO.move rfl rfl ?_
    refine OkO.indexArr (len := 2) (sz := 1) (n := 1) rfl rfl rfl (by kernel_rfl) (by omega) ?_
    refine OkO.load rfl rfl (lda (n := 1) (by kernel_rfl) (by first | assumption | (simp (disch := first | omega | (simp only [hNw, hPt]; omega)) only [gn0, gn1, gn2, gn3, gn4, gn5, gp0, gno, gpo] <;> first | rfl | assumption | exact gp0 _ _ _ | exact gn0 _ _)) (by first | rfl | assumption)) ?_
    refine OkO.bin rfl rfl rfl (bin_leq _ _) ?_
    refine OkO.pick (b := true) rfl rfl (fun _ => rfl) nofun ?_
    refine OkO.assign rfl rfl ?_
    refine OkO.nil ?_
    refine Ok.ret ⟨.inr rfl, ?_⟩
    exact back_flat rfl (by first | rfl | exact congrArg AV.bool (by clear hg hN hG hE; first | (simp_all [inB]; done) | (rw [Bool.eq_iff_iff]; simp [inB] at *; omega))) rfl (by rw [← hW]; exact (by (try dsimp only); repeat (first | exact hG | apply Grow.new | (refine Grow.put ?_ _ (by first | omega | (simp only [hNw, hPt]; omega))))))
  · -- false g1
    refine OkO.skip rfl ?_
    refine OkO.skip rfl ?_
    refine OkO.skip rfl ?_
    refine OkO.skip rfl ?_
    refine OkO.pick (b := false) rfl rfl nofun (fun _ => rfl) ?_
    refine OkO.assign rfl rfl ?_
    refine OkO.nil ?_
    refine Ok.ret ⟨.inr rfl, ?_⟩
    exact back_flat rfl (by first | rfl | exact congrArg AV.bool (by clear hg hN hG hE; first | (simp_all [inB]; done) | (rw [Bool.eq_iff_iff]; simp [inB] at *; omega))) rfl (by rw [← hW]; exact (by (try dsimp only); repeat (first | exact hG | apply Grow.new | (refine Grow.put ?_ _ (by first | omega | (simp only [hNw, hPt]; omega))))))
theorem c75 (m : Nat) (r : Rul) (H : Heap)  : RR (m + 2) (.fn 75 [.agg r.c]) H = some (.bool r.ok, H) := by
  refine (R_fn _ _ _ _ _).trans ?_
  refine fn_ok Try.func75 rfl rfl (by kernel_rfl) (by kernel_rfl) ?_
  obtain ⟨W, hW⟩ : ∃ W : Heap, W = ⟨H.t, H.next, H.next⟩ := ⟨_, rfl⟩
  have hg : ∀ n, W.get n = H.get n := fun n => by rw [hW]; rfl
  have hN : W.next = H.next := by rw [hW]
  have hE : ∀ G, Grow W G → Ext H G := fun G g => ⟨by rw [← hN]; exact g.next, fun n k => by rw [g.get n (by rw [hN]; exact k), hg]⟩
  have hG : Grow W W := Grow.refl (by rw [hW]; exact Nat.le_refl _)
  rw [← hW]
  refine Ok.seq ?_
  refine Ok.region ?_
  refine OkO.box rfl rfl ?_
  refine OkO.assign rfl rfl ?_
  refine OkO.nil ?_
  refine Ok.seq ?_
  refine Ok.region ?_
  refine OkO.buildArr (z := [.int .i64 0, .int .i64 0]) (sz := 1) rfl (by kernel_rfl) rfl rfl ?_
  refine OkO.fieldAddr (o := 0) rfl (by kernel_rfl) rfl ?_
  refine OkO.load rfl rfl (lda (n := 1) (by kernel_rfl) (by first | assumption | (simp (disch := first | omega | (simp only [hNw, hPt]; omega)) only [gn0, gn1, gn2, gn3, gn4, gn5, gp0, gno, gpo] <;> first | rfl | assumption | exact gp0 _ _ _ | exact gn0 _ _)) (by first | rfl | assumption)) ?_
  refine OkO.callV rfl rfl rfl rfl rfl (c68 _ _ _ _ _) ?_ -- "(sackung/alarm.ends).has"
  refine OkO.move rfl rfl ?_
  refine OkO.split (d := 7) rfl (fun g1 => ?_) (fun g1 => ?_)
  · -- true g1
    refine OkO.fieldAddr (o := 0) rfl (by kernel_rfl) rfl ?_
    refine OkO.load rfl rfl (lda (n := 1) (by kernel_rfl) (by first | assumption | (simp (disch := first | omega | (simp only [hNw, hPt]; omega)) only [gn0, gn1, gn2, gn3, gn4, gn5, gp0, gno, gpo] <;> first | rfl | assumption | exact gp0 _ _ _ | exact gn0 _ _)) (by first | rfl | assumption)) ?_
    refine OkO.buildArr (z := [.int .i64 0, .int .i64 0]) (sz := 1) rfl (by kernel_rfl) rfl rfl ?_
    refine OkO.fieldAddr (o := 1) rfl (by kernel_rfl) rfl ?_
    refine OkO.load rfl rfl (lda (n := 1) (by kernel_rfl) (by first | assumption | (simp (disch := first | omega | (simp only [hNw, hPt]; omega)) only [gn0, gn1, gn2, gn3, gn4, gn5, gp0, gno, gpo] <;> first | rfl | assumption | exact gp0 _ _ _ | exact gn0 _ _)) (by first | rfl | assumption)) ?_
    refine OkO.callV rfl rfl rfl rfl rfl (c68 _ _ _ _ _) ?_ -- "(sackung/alarm.ends).has"
    refine OkO.pick (b := true) rfl rfl (fun _ => rfl) nofun ?_
    refine OkO.move rfl rfl ?_
    refine OkO.split (d := 15) rfl (fun g2 => ?_) (fun g2 => ?_)
    · -- true g2
      refine OkO.buildArr (z := [.int .i64 0, .int .i64 0]) (sz := 1) rfl (by kernel_rfl) rfl rfl ?_
      refine OkO.fieldAddr (o := 2) rfl (by kernel_rfl) rfl ?_
      refine OkO.load rfl rfl (lda (n := 1) (by kernel_rfl) (by first | assumption | (simp (disch := first | omega | (simp only [hNw, hPt]; omega)) only [gn0, gn1, gn2, gn3, gn4, gn5, gp0, gno, gpo] <;> first | rfl | assumption | exact gp0 _ _ _ | exact gn0 _ _)) (by first | rfl | assumption)) ?_
      refine OkO.callV rfl rfl rfl rfl rfl (c68 _ _ _ _ _) ?_ -- "(sackung/alarm.ends).has"
      refine OkO.pick (b := true) rfl rfl (fun _ => rfl) nofun ?_
      refine OkO.assign rfl rfl ?_
      refine OkO.nil ?_
      refine Ok.ret ⟨.inr rfl, ?_⟩
      exact back_flat rfl (by first | rfl | exact congrArg AV.bool (by clear hg hN hG hE; first | (simp_all [Rul.ok]; done) | (rw [Bool.eq_iff_iff]; simp [Rul.ok] at *; omega))) rfl (by rw [← hW]; exact (by (try dsimp only); repeat (first | exact hG | apply Grow.new | (refine Grow.put ?_ _ (by first | omega | (simp only [hNw, hPt]; omega))))))
    · -- false g2
      refine OkO.skip rfl ?_
      refine OkO.skip rfl ?_
      refine OkO.skip rfl ?_
      refine OkO.skip rfl ?_
      refine OkO.pick (b := false) rfl rfl nofun (fun _ => rfl) ?_
      refine OkO.assign rfl rfl ?_
      refine OkO.nil ?_
      refine Ok.ret ⟨.inr rfl, ?_⟩
      exact back_flat rfl (by first | rfl | exact congrArg AV.bool (by clear hg hN hG hE; first | (simp_all [Rul.ok]; done) | (rw [Bool.eq_iff_iff]; simp [Rul.ok] at *; omega))) rfl (by rw [← hW]; exact (by (try dsimp only); repeat (first | exact hG | apply Grow.new | (refine Grow.put ?_ _ (by first | omega | (simp only [hNw, hPt]; omega))))))
  · -- false g1
    refine OkO.skip rfl ?_
    refine OkO.skip rfl ?_
    refine OkO.skip rfl ?_
    refine OkO.skip rfl ?_
    refine OkO.skip rfl ?_
    refine OkO.skip rfl ?_
    refine OkO.pick (b := false) rfl rfl nofun (fun _ => rfl) ?_
    refine OkO.move rfl rfl ?_
    refine OkO.skip rfl ?_
    refine OkO.skip rfl ?_
    refine OkO.skip rfl ?_
    refine OkO.skip rfl ?_
    refine OkO.pick (b := false) rfl rfl nofun (fun _ => rfl) ?_
    refine OkO.assign rfl rfl ?_
    refine OkO.nil ?_
    refine Ok.ret ⟨.inr rfl, ?_⟩
    exact back_flat rfl (by first | rfl | exact congrArg AV.bool (by clear hg hN hG hE; first | (simp_all [Rul.ok]; done) | (rw [Bool.eq_iff_iff]; simp [Rul.ok] at *; omega))) rfl (by rw [← hW]; exact (by (try dsimp only); repeat (first | exact hG | apply Grow.new | (refine Grow.put ?_ _ (by first | omega | (simp only [hNw, hPt]; omega))))))
theorem c99 (m : Nat) (t : Trm) (H : Heap)  : RR (m + 2) (.fn 99 [.agg t.c]) H = some (.bool t.ok, H) := by
  refine (R_fn _ _ _ _ _).trans ?_
  refine fn_ok Try.func99 rfl rfl (by kernel_rfl) (by kernel_rfl) ?_
  obtain ⟨W, hW⟩ : ∃ W : Heap, W = ⟨H.t, H.next, H.next⟩ := ⟨_, rfl⟩
  have hg : ∀ n, W.get n = H.get n := fun n => by rw [hW]; rfl
  have hN : W.next = H.next := by rw [hW]
  have hE : ∀ G, Grow W G → Ext H G := fun G g => ⟨by rw [← hN]; exact g.next, fun n k => by rw [g.get n (by rw [hN]; exact k), hg]⟩
  have hG : Grow W W := Grow.refl (by rw [hW]; exact Nat.le_refl _)
  rw [← hW]
  refine Ok.seq ?_
  refine Ok.region ?_
  refine OkO.box rfl rfl ?_
  refine OkO.assign rfl rfl ?_
  refine OkO.nil ?_
  refine Ok.seq ?_
  refine Ok.region ?_
  refine OkO.buildArr (z := [.int .i64 0, .int .i64 0]) (sz := 1) rfl (by kernel_rfl) rfl rfl ?_
  refine OkO.alloc (z := [.int .i64 0, .int .i64 0]) rfl (by kernel_rfl) ?_
  refine OkO.store rfl rfl rfl (sAc (n := 2) (ag := true) (by kernel_rfl) (by first | assumption | (simp (disch := first | omega | (simp only [hNw, hPt]; omega)) only [gn0, gn1, gn2, gn3, gn4, gn5, gp0, gno, gpo] <;> first | rfl | assumption | exact gp0 _ _ _ | exact gn0 _ _)) rfl (by first | rfl | assumption) (by first | rfl | exact spl_set _ _ _ (by first | assumption | omega | (simp; omega)))) ?_
  refine OkO.nil ?_
  refine Ok.seq ?_
  refine Ok.region ?_
  refine OkO.buildArr (z := [.int .i64 0, .int .i64 0]) (sz := 1) rfl (by kernel_rfl) rfl rfl ?_
  refine OkO.fieldAddr (o := 0) rfl (by kernel_rfl) rfl ?_
  refine OkO.load rfl rfl (lda (n := 1) (by kernel_rfl) (by first | assumption | (simp (disch := first | omega | (simp only [hNw, hPt]; omega)) only [gn0, gn1, gn2, gn3, gn4, gn5, gp0, gno, gpo] <;> first | rfl | assumption | exact gp0 _ _ _ | exact gn0 _ _)) (by first | rfl | assumption)) ?_
  refine OkO.callV rfl rfl rfl rfl rfl (c68 _ _ _ _ _) ?_ -- "(sackung/alarm.ends).has"
  refine OkO.move rfl rfl ?_
  refine OkO.split (d := 9) rfl (fun g1 => ?_) (fun g1 => ?_)
  · -- true g1
    refine OkO.buildArr (z := [.int .i64 0, .int .i64 0]) (sz := 1) rfl (by kernel_rfl) rfl rfl ?_
    refine OkO.fieldAddr (o := 4) rfl (by kernel_rfl) rfl ?_
    refine OkO.load rfl rfl (lda (n := 1) (by kernel_rfl) (by first | assumption | (simp (disch := first | omega | (simp only [hNw, hPt]; omega)) only [gn0, gn1, gn2, gn3, gn4, gn5, gp0, gno, gpo] <;> first | rfl | assumption | exact gp0 _ _ _ | exact gn0 _ _)) (by first | rfl | assumption)) ?_
    refine OkO.callV rfl rfl rfl rfl rfl (c68 _ _ _ _ _) ?_ -- "(sackung/alarm.ends).has"
    refine OkO.pick (b := true) rfl rfl (fun _ => rfl) nofun ?_
    refine OkO.move rfl rfl ?_
    refine OkO.split (d := 15) rfl (fun g2 => ?_) (fun g2 => ?_)
    · -- true g2
      refine OkO.buildArr (z := [.int .i64 0, .int .i64 0]) (sz := 1) rfl (by kernel_rfl) rfl rfl ?_
      refine OkO.fieldAddr (o := 3) rfl (by kernel_rfl) rfl ?_
      refine OkO.load rfl rfl (lda (n := 1) (by kernel_rfl) (by first | assumption | (simp (disch := first | omega | (simp only [hNw, hPt]; omega)) only [gn0, gn1, gn2, gn3, gn4, gn5, gp0, gno, gpo] <;> first | rfl | assumption | exact gp0 _ _ _ | exact gn0 _ _)) (by first | rfl | assumption)) ?_
      refine OkO.callV rfl rfl rfl rfl rfl (c68 _ _ _ _ _) ?_ -- "(sackung/alarm.ends).has"
      refine OkO.pick (b := true) rfl rfl (fun _ => rfl) nofun ?_
      refine OkO.move rfl rfl ?_
      refine OkO.split (d := 21) rfl (fun g3 => ?_) (fun g3 => ?_)
      · -- true g3
        refine OkO.load rfl rfl (ldg (n := 2) (by kernel_rfl) (by first | assumption | (simp (disch := first | omega | (simp only [hNw, hPt]; omega)) only [gn0, gn1, gn2, gn3, gn4, gn5, gp0, gno, gpo] <;> first | rfl | assumption | exact gp0 _ _ _ | exact gn0 _ _)) (by first | rfl | assumption)) ?_
        refine OkO.fieldAddr (o := 1) rfl (by kernel_rfl) rfl ?_
        refine OkO.load rfl rfl (lda (n := 1) (by kernel_rfl) (by first | assumption | (simp (disch := first | omega | (simp only [hNw, hPt]; omega)) only [gn0, gn1, gn2, gn3, gn4, gn5, gp0, gno, gpo] <;> first | rfl | assumption | exact gp0 _ _ _ | exact gn0 _ _)) (by first | rfl | assumption)) ?_
        refine OkO.callV rfl rfl rfl rfl rfl (c68 _ _ _ _ _) ?_ -- "(sackung/alarm.ends).has"
        refine OkO.pick (b := true) rfl rfl (fun _ => rfl) nofun ?_
        refine OkO.move rfl rfl ?_
        refine OkO.split (d := 27) rfl (fun g4 => ?_) (fun g4 => ?_)
        · -- true g4
          refine OkO.load rfl rfl (ldg (n := 2) (by kernel_rfl) (by first | assumption | (simp (disch := first | omega | (simp only [hNw, hPt]; omega)) only [gn0, gn1, gn2, gn3, gn4, gn5, gp0, gno, gpo] <;> first | rfl | assumption | exact gp0 _ _ _ | exact gn0 _ _)) (by first | rfl | assumption)) ?_
          refine OkO.fieldAddr (o := 2) rfl (by kernel_rfl) rfl ?_
          refine OkO.load rfl rfl (lda (n := 1) (by kernel_rfl) (by first | assumption | (simp (disch := first | omega | (simp only [hNw, hPt]; omega)) only [gn0, gn1, gn2, gn3, gn4, gn5, gp0, gno, gpo] <;> first | rfl | assumption | exact gp0 _ _ _ | exact gn0 _ _)) (by first | rfl | assumption)) ?_
          refine OkO.callV rfl rfl rfl rfl rfl (c68 _ _ _ _ _) ?_ -- "(sackung/alarm.ends).has"
          refine OkO.pick (b := true) rfl rfl (fun _ => rfl) nofun ?_
          refine OkO.assign rfl rfl ?_
          refine OkO.nil ?_
          refine Ok.ret ⟨.inr rfl, ?_⟩
          exact back_flat rfl (by first | rfl | exact congrArg AV.bool (by clear hg hN hG hE; first | (simp_all [Trm.ok]; done) | (rw [Bool.eq_iff_iff]; simp [Trm.ok] at *; omega))) rfl (by rw [← hW]; exact (by (try dsimp only); repeat (first | exact hG | apply Grow.new | (refine Grow.put ?_ _ (by first | omega | (simp only [hNw, hPt]; omega))))))
        · -- false g4
          refine OkO.skip rfl ?_
          refine OkO.skip rfl ?_
          refine OkO.skip rfl ?_
          refine OkO.skip rfl ?_
          refine OkO.pick (b := false) rfl rfl nofun (fun _ => rfl) ?_
          refine OkO.assign rfl rfl ?_
          refine OkO.nil ?_
          refine Ok.ret ⟨.inr rfl, ?_⟩
          exact back_flat rfl (by first | rfl | exact congrArg AV.bool (by clear hg hN hG hE; first | (simp_all [Trm.ok]; done) | (rw [Bool.eq_iff_iff]; simp [Trm.ok] at *; omega))) rfl (by rw [← hW]; exact (by (try dsimp only); repeat (first | exact hG | apply Grow.new | (refine Grow.put ?_ _ (by first | omega | (simp only [hNw, hPt]; omega))))))
      · -- false g3
        refine OkO.skip rfl ?_
        refine OkO.skip rfl ?_
        refine OkO.skip rfl ?_
        refine OkO.skip rfl ?_
        refine OkO.pick (b := false) rfl rfl nofun (fun _ => rfl) ?_
        refine OkO.move rfl rfl ?_
        refine OkO.skip rfl ?_
        refine OkO.skip rfl ?_
        refine OkO.skip rfl ?_
        refine OkO.skip rfl ?_
        refine OkO.pick (b := false) rfl rfl nofun (fun _ => rfl) ?_
        refine OkO.assign rfl rfl ?_
        refine OkO.nil ?_
        refine Ok.ret ⟨.inr rfl, ?_⟩
        exact back_flat rfl (by first | rfl | exact congrArg AV.bool (by clear hg hN hG hE; first | (simp_all [Trm.ok]; done) | (rw [Bool.eq_iff_iff]; simp [Trm.ok] at *; omega))) rfl (by rw [← hW]; exact (by (try dsimp only); repeat (first | exact hG | apply Grow.new | (refine Grow.put ?_ _ (by first | omega | (simp only [hNw, hPt]; omega))))))
    · -- false g2
      refine OkO.skip rfl ?_
      refine OkO.skip rfl ?_
      refine OkO.skip rfl ?_
      refine OkO.skip rfl ?_
      refine OkO.pick (b := false) rfl rfl nofun (fun _ => rfl) ?_
      refine OkO.move rfl rfl ?_
      refine OkO.skip rfl ?_
      refine OkO.skip rfl ?_
      refine OkO.skip rfl ?_
      refine OkO.skip rfl ?_
      refine OkO.pick (b := false) rfl rfl nofun (fun _ => rfl) ?_
      refine OkO.move rfl rfl ?_
      refine OkO.skip rfl ?_
      refine OkO.skip rfl ?_
      refine OkO.skip rfl ?_
      refine OkO.skip rfl ?_
      refine OkO.pick (b := false) rfl rfl nofun (fun _ => rfl) ?_
      refine OkO.assign rfl rfl ?_
      refine OkO.nil ?_
      refine Ok.ret ⟨.inr rfl, ?_⟩
      exact back_flat rfl (by first | rfl | exact congrArg AV.bool (by clear hg hN hG hE; first | (simp_all [Trm.ok]; done) | (rw [Bool.eq_iff_iff]; simp [Trm.ok] at *; omega))) rfl (by rw [← hW]; exact (by (try dsimp only); repeat (first | exact hG | apply Grow.new | (refine Grow.put ?_ _ (by first | omega | (simp only [hNw, hPt]; omega))))))
  · -- false g1
    refine OkO.skip rfl ?_
    refine OkO.skip rfl ?_
    refine OkO.skip rfl ?_
    refine OkO.skip rfl ?_
    refine OkO.pick (b := false) rfl rfl nofun (fun _ => rfl) ?_
    refine OkO.move rfl rfl ?_
    refine OkO.skip rfl ?_
    refine OkO.skip rfl ?_
    refine OkO.skip rfl ?_
    refine OkO.skip rfl ?_
    refine OkO.pick (b := false) rfl rfl nofun (fun _ => rfl) ?_
    refine OkO.move rfl rfl ?_
    refine OkO.skip rfl ?_
    refine OkO.skip rfl ?_
    refine OkO.skip rfl ?_
    refine OkO.skip rfl ?_
    refine OkO.pick (b := false) rfl rfl nofun (fun _ => rfl) ?_
    refine OkO.move rfl rfl ?_
    refine OkO.skip rfl ?_
    refine OkO.skip rfl ?_
    refine OkO.skip rfl ?_
    refine OkO.skip rfl ?_
    refine OkO.pick (b := false) rfl rfl nofun (fun _ => rfl) ?_
    refine OkO.assign rfl rfl ?_
    refine OkO.nil ?_
    refine Ok.ret ⟨.inr rfl, ?_⟩
    exact back_flat rfl (by first | rfl | exact congrArg AV.bool (by clear hg hN hG hE; first | (simp_all [Trm.ok]; done) | (rw [Bool.eq_iff_iff]; simp [Trm.ok] at *; omega))) rfl (by rw [← hW]; exact (by (try dsimp only); repeat (first | exact hG | apply Grow.new | (refine Grow.put ?_ _ (by first | omega | (simp only [hNw, hPt]; omega))))))
theorem c108 (m : Nat) (a b : Int) (H : Heap) (ha : 0 ≤ a ∧ a ≤ 1000) (hb : 0 ≤ b ∧ b ≤ 1000) : RR (m + 1) (.fn 108 [.agg [I a, I b]]) H = some (I (b - a), H) := by
  refine (R_fn _ _ _ _ _).trans ?_
  refine fn_ok Try.func108 rfl rfl (by kernel_rfl) (by kernel_rfl) ?_
  obtain ⟨W, hW⟩ : ∃ W : Heap, W = ⟨H.t, H.next, H.next⟩ := ⟨_, rfl⟩
  have hg : ∀ n, W.get n = H.get n := fun n => by rw [hW]; rfl
  have hN : W.next = H.next := by rw [hW]
  have hE : ∀ G, Grow W G → Ext H G := fun G g => ⟨by rw [← hN]; exact g.next, fun n k => by rw [g.get n (by rw [hN]; exact k), hg]⟩
  have hG : Grow W W := Grow.refl (by rw [hW]; exact Nat.le_refl _)
  rw [← hW]
  refine Ok.seq ?_
  refine Ok.region ?_
  refine OkO.box rfl rfl ?_
  refine OkO.assign rfl rfl ?_
  refine OkO.nil ?_
  refine Ok.seq ?_
  refine Ok.region ?_
  refine OkO.fieldAddr (o := 1) rfl (by kernel_rfl) rfl ?_
  refine OkO.load rfl rfl (lda (n := 1) (by kernel_rfl) (by first | assumption | (simp (disch := first | omega | (simp only [hNw, hPt]; omega)) only [gn0, gn1, gn2, gn3, gn4, gn5, gp0, gno, gpo] <;> first | rfl | assumption | exact gp0 _ _ _ | exact gn0 _ _)) (by first | rfl | assumption)) ?_
  refine OkO.fieldAddr (o := 0) rfl (by kernel_rfl) rfl ?_
  refine OkO.load rfl rfl (lda (n := 1) (by kernel_rfl) (by first | assumption | (simp (disch := first | omega | (simp only [hNw, hPt]; omega)) only [gn0, gn1, gn2, gn3, gn4, gn5, gp0, gno, gpo] <;> first | rfl | assumption | exact gp0 _ _ _ | exact gn0 _ _)) (by first | rfl | assumption)) ?_
  refine OkO.bin rfl rfl rfl (bin_sub (by omega) (by omega)) ?_
  refine OkO.assign rfl rfl ?_
  refine OkO.nil ?_
  refine Ok.ret ⟨.inr rfl, ?_⟩
  exact back_flat rfl (rfl) rfl (by rw [← hW]; exact (by (try dsimp only); repeat (first | exact hG | apply Grow.new | (refine Grow.put ?_ _ (by first | omega | (simp only [hNw, hPt]; omega))))))
def ruleOf (t : Trm) (start : Int) : Rul := ⟨start, max (start - t.less) 0, t.hold⟩
theorem c80 (m : Nat) (t : Trm) (s : Int) (H : Heap) (hs : 0 ≤ s ∧ s ≤ 1000) (ht : 0 ≤ t.less ∧ t.less ≤ 1000) : RR (m + 1) (.fn 80 [.agg t.c, I s]) H = some (.agg (ruleOf t s).c, H) := by
  refine (R_fn _ _ _ _ _).trans ?_
  refine fn_ok Try.func80 rfl rfl (by kernel_rfl) (by kernel_rfl) ?_
  obtain ⟨W, hW⟩ : ∃ W : Heap, W = ⟨H.t, H.next, H.next⟩ := ⟨_, rfl⟩
  have hg : ∀ n, W.get n = H.get n := fun n => by rw [hW]; rfl
  have hN : W.next = H.next := by rw [hW]
  have hE : ∀ G, Grow W G → Ext H G := fun G g => ⟨by rw [← hN]; exact g.next, fun n k => by rw [g.get n (by rw [hN]; exact k), hg]⟩
  have hG : Grow W W := Grow.refl (by rw [hW]; exact Nat.le_refl _)
  rw [← hW]
  refine Ok.seq ?_
  refine Ok.region ?_
  refine OkO.box rfl rfl ?_
  refine OkO.alloc (z := [.int .i64 0, .int .i64 0, .int .i64 0]) rfl (by kernel_rfl) ?_
  refine OkO.nil ?_
  refine Ok.seq ?_
  refine Ok.region ?_
  refine OkO.move rfl rfl ?_
  refine OkO.move rfl rfl ?_
  refine OkO.fieldAddr (o := 3) rfl (by kernel_rfl) rfl ?_
  refine OkO.load rfl rfl (lda (n := 1) (by kernel_rfl) (by first | assumption | (simp (disch := first | omega | (simp only [hNw, hPt]; omega)) only [gn0, gn1, gn2, gn3, gn4, gn5, gp0, gno, gpo] <;> first | rfl | assumption | exact gp0 _ _ _ | exact gn0 _ _)) (by first | rfl | assumption)) ?_
  refine OkO.bin rfl rfl rfl (bin_sub (by omega) (by omega)) ?_
  refine OkO.builtin rfl rfl rfl (builtin_max2 _ _) ?_
  refine OkO.fieldAddr (o := 4) rfl (by kernel_rfl) rfl ?_
  refine OkO.load rfl rfl (lda (n := 1) (by kernel_rfl) (by first | assumption | (simp (disch := first | omega | (simp only [hNw, hPt]; omega)) only [gn0, gn1, gn2, gn3, gn4, gn5, gp0, gno, gpo] <;> first | rfl | assumption | exact gp0 _ _ _ | exact gn0 _ _)) (by first | rfl | assumption)) ?_
  refine OkO.build (z := [.int .i64 0, .int .i64 0, .int .i64 0]) (pl := [(0, 1), (1, 1), (2, 1)]) rfl (by kernel_rfl) rfl rfl ?_
  refine OkO.store rfl rfl rfl (sAc (n := 3) (ag := true) (by kernel_rfl) (by first | assumption | (simp (disch := first | omega | (simp only [hNw, hPt]; omega)) only [gn0, gn1, gn2, gn3, gn4, gn5, gp0, gno, gpo] <;> first | rfl | assumption | exact gp0 _ _ _ | exact gn0 _ _)) rfl (by first | rfl | assumption) (by first | rfl | exact spl_set _ _ _ (by first | assumption | omega | (simp; omega)))) ?_
  refine OkO.nil ?_
  refine Ok.ret ⟨.inr rfl, ?_⟩
  exact back_flat (resV_cell rfl (ldg (n := 3) (by kernel_rfl) (by first | assumption | (simp (disch := first | omega | (simp only [hNw, hPt]; omega)) only [gn0, gn1, gn2, gn3, gn4, gn5, gp0, gno, gpo] <;> first | rfl | assumption)) (by first | rfl | assumption)) resV_nil) (rfl) rfl (by rw [← hW]; exact (by (try dsimp only); repeat (first | exact hG | apply Grow.new | (refine Grow.put ?_ _ (by first | omega | (simp only [hNw, hPt]; omega))))))
end
end Go.Ev

set_option maxRecDepth 100000
set_option linter.unusedSimpArgs false
set_option linter.unusedVariables false
namespace Go.Ev
open Go Go.Proofs
noncomputable section
structure Sea where (sp : List Int) (fell : Bool)
def Sea.fine (s : Sea) : Bool := s.sp.all fun x => inB x 0 1000
def Sea.short (s : Sea) : Bool := decide ((s.sp.length : Int) ≤ 60)
/-- A list of seasons, as it lies. -/
def SeasAt (H : Heap) (v : AV) (l : List Sea) : Prop := ∃ vs : List AV, vs.length = l.length ∧ Row H v 2 ((vs.zip l).map fun p => [p.1, .bool p.2.fell]) ∧ ∀ (i : Nat) (x : AV) (s : Sea), vs[i]? = some x → l[i]? = some s → Ints H x s.sp
theorem SeasAt.ext {H G : Heap} {v : AV} {l : List Sea} (h : SeasAt H v l) (g : Ext H G) : SeasAt G v l := let ⟨vs, h1, h2, h3⟩ := h; ⟨vs, h1, h2.ext g, fun i x s a b => (h3 i x s a b).ext g⟩
theorem SeasAt.len {H : Heap} {v : AV} {l : List Sea} (h : SeasAt H v l) : lenOf v = some l.length := by
  obtain ⟨vs, h1, h2, _⟩ := h
  rw [h2.len]; simp [h1]
theorem SeasAt.at_ {H : Heap} {v : AV} {l : List Sea} (h : SeasAt H v l) (i : Nat) (hi : i < l.length) : ∃ x b off cs, slAt v 2 i = some (b, off) ∧ (H.get b).bind AObj.cs = some cs ∧ seg cs off 2 = some [x, .bool l[i].fell] ∧ cs[off]? = some x ∧ cs[off + 1]? = some (.bool l[i].fell) ∧ b < H.next ∧ Ints H x l[i].sp := by
  obtain ⟨vs, h1, h2, h3⟩ := h
  have hv : i < vs.length := by omega
  obtain ⟨b, off, cs, i1, i2, i3, i4⟩ := h2.at_ i [vs[i], .bool l[i].fell] (by rw [List.getElem?_map, show (vs.zip l)[i]? = some (vs[i], l[i]) from List.getElem?_zip_eq_some.2 ⟨List.getElem?_eq_getElem hv, List.getElem?_eq_getElem hi⟩]; rfl)
  have k0 := seg_get i3 0 (by omega)
  have k1 := seg_get i3 1 (by omega)
  exact ⟨vs[i], b, off, cs, i1, i2, i3, by simpa using k0, by simpa using k1, i4, h3 i _ _ (List.getElem?_eq_getElem hv) (List.getElem?_eq_getElem hi)⟩
theorem Ints.ext {H G : Heap} {v : AV} {us : List Int} (h : Ints H v us) (g : Ext H G) : Ints G v us := Row.ext h g
theorem Ints.len {H : Heap} {v : AV} {us : List Int} (h : Ints H v us) : lenOf v = some us.length := by simpa using Row.len h
theorem Ints.at' {H : Heap} {v : AV} {us : List Int} (h : Ints H v us) (i : Nat) (hi : i < us.length) : ∃ b off cs, slAt v 1 i = some (b, off) ∧ (H.get b).bind AObj.cs = some cs ∧ cs[off]? = some (I us[i]) ∧ b < H.next := by
  obtain ⟨b, off, cs, i1, i2, i3, i4⟩ := Row.at_ h i [I us[i]] (by simp [hi])
  exact ⟨b, off, cs, i1, i2, seg_one i3, i4⟩
theorem Mine.ints {k0 : Nat} {G : Heap} {v : AV} {us : List Int} (h : Mine k0 G v 3 1 (us.map I)) : Ints G v us := Mine.row (by rw [flatI]; exact h) (fun x hx => by obtain ⟨y, _, rfl⟩ := List.mem_map.1 hx; rfl) (by omega)
/-- What a season's cells are, each speed's list in a block of its own. -/
def seaCells : List AV → List Sea → List AV
  | x :: vs, s :: l => x :: .bool s.fell :: seaCells vs l
  | _, _ => []
theorem seaCells_zip : ∀ (vs : List AV) (l : List Sea), seaCells vs l = ((vs.zip l).map fun p => [p.1, .bool p.2.fell]).flatten
  | [], _ => by simp [seaCells]
  | _ :: _, [] => by simp [seaCells]
  | x :: vs, s :: l => by simp [seaCells, seaCells_zip vs l]
theorem seaCells_snoc : ∀ (vs : List AV) (l : List Sea) (x : AV) (s : Sea), vs.length = l.length → seaCells (vs ++ [x]) (l ++ [s]) = seaCells vs l ++ [x, .bool s.fell]
  | [], [], _, _, _ => rfl
  | y :: vs, t :: l, x, s, h => by
    simp only [List.cons_append, seaCells]
    rw [seaCells_snoc vs l x s (by simpa using h)]
  | [], _ :: _, _, _, h => by simp at h
  | _ :: _, [], _, _, h => by simp at h
theorem seaCells_len : ∀ (vs : List AV) (l : List Sea), vs.length = l.length → (seaCells vs l).length = l.length * 2
  | [], [], _ => rfl
  | y :: vs, t :: l, h => by simp only [seaCells, List.length_cons]; rw [seaCells_len vs l (by simpa using h)]; omega
  | [], _ :: _, h => by simp at h
  | _ :: _, [], h => by simp at h
/-- Seasons that the call made. -/
def SeasM (k0 : Nat) (G : Heap) (v : AV) (l : List Sea) : Prop := ∃ vs : List AV, vs.length = l.length ∧ Mine k0 G v 66 2 (seaCells vs l) ∧ ∀ (i : Nat) (x : AV) (s : Sea), vs[i]? = some x → l[i]? = some s → Mine k0 G x 3 1 (s.sp.map I)
theorem SeasM.to {k0 : Nat} {G G' : Heap} {v : AV} {l : List Sea} (h : SeasM k0 G v l) (g : Ext G G') : SeasM k0 G' v l := let ⟨vs, h1, h2, h3⟩ := h; ⟨vs, h1, h2.to g, fun i x s a b => (h3 i x s a b).to g⟩
theorem SeasM.low {k0 k1 : Nat} {G : Heap} {v : AV} {l : List Sea} (h : SeasM k1 G v l) (hk : k0 ≤ k1) : SeasM k0 G v l := let ⟨vs, h1, h2, h3⟩ := h; ⟨vs, h1, h2.low hk, fun i x s a b => (h3 i x s a b).low hk⟩
theorem SeasM.put {k0 : Nat} {G : Heap} {v : AV} {l : List Sea} (h : SeasM k0 G v l) {n : Nat} (o : AObj) (hn : n < k0) : SeasM k0 (G.put n o) v l := let ⟨vs, h1, h2, h3⟩ := h; ⟨vs, h1, h2.put o hn, fun i x s a b => (h3 i x s a b).put o hn⟩
theorem SeasM.at {k0 : Nat} {G : Heap} {v : AV} {l : List Sea} (h : SeasM k0 G v l) : SeasAt G v l := by
  obtain ⟨vs, h1, h2, h3⟩ := h
  refine ⟨vs, h1, ?_, fun i x s a b => (h3 i x s a b).ints⟩
  exact Mine.row (by rw [← seaCells_zip]; exact h2) (fun x hx => by obtain ⟨y, _, rfl⟩ := List.mem_map.1 hx; rfl) (by omega)
theorem SeasM.nil (k0 : Nat) (G : Heap) : SeasM k0 G .nils [] := ⟨[], rfl, Mine.nil _ _ _ _, fun i x s h _ => by simp at h⟩
theorem c96 (m : Nat) (sv : AV) (s : Sea) (H : Heap) (hs : lenOf sv = some s.sp.length) : RR (m + 1) (.fn 96 [.agg [sv, .bool s.fell]]) H = some (.bool s.short, H) := by
  refine (R_fn _ _ _ _ _).trans ?_
  refine fn_ok Try.func96 rfl rfl (by kernel_rfl) (by kernel_rfl) ?_
  obtain ⟨W, hW⟩ : ∃ W : Heap, W = ⟨H.t, H.next, H.next⟩ := ⟨_, rfl⟩
  have hg : ∀ n, W.get n = H.get n := fun n => by rw [hW]; rfl
  have hN : W.next = H.next := by rw [hW]
  have hE : ∀ G, Grow W G → Ext H G := fun G g => ⟨by rw [← hN]; exact g.next, fun n k => by rw [g.get n (by rw [hN]; exact k), hg]⟩
  have hG : Grow W W := Grow.refl (by rw [hW]; exact Nat.le_refl _)
  rw [← hW]
  refine Ok.seq ?_
  refine Ok.region ?_
  refine OkO.box rfl rfl ?_
  refine OkO.assign rfl rfl ?_
  refine OkO.nil ?_
  refine Ok.seq ?_
  refine Ok.region ?_
  refine OkO.fieldAddr (o := 0) rfl (by kernel_rfl) rfl ?_
  refine OkO.load rfl rfl (lda (n := 1) (by kernel_rfl) (by first | assumption | (simp (disch := first | omega | (simp only [hNw, hPt]; omega)) only [gn0, gn1, gn2, gn3, gn4, gn5, gp0, gno, gpo] <;> first | rfl | assumption | exact gp0 _ _ _ | exact gn0 _ _)) (by first | rfl | assumption)) ?_
  refine OkO.builtin rfl rfl rfl (bln (by kernel_rfl) (by first | assumption | rfl)) ?_
  refine OkO.bin rfl rfl rfl (bin_leq _ _) ?_
  refine OkO.assign rfl rfl ?_
  refine OkO.nil ?_
  refine Ok.ret ⟨.inr rfl, ?_⟩
  exact back_flat rfl (by first | rfl | exact congrArg AV.bool (by clear hg hN hG hE; first | (simp_all [Sea.short]; done) | (rw [Bool.eq_iff_iff]; simp [Sea.short] at *; omega))) rfl (by rw [← hW]; exact (by (try dsimp only); repeat (first | exact hG | apply Grow.new | (refine Grow.put ?_ _ (by first | omega | (simp only [hNw, hPt]; omega))))))
theorem c82 (m : Nat) (v good : AV) (xs : List Int) (ps : List Bool) (H : Heap) (hR : Row H v 1 (xs.map fun x => [I x])) (hl : xs.length ≤ 1000000) (hp : ps.length = xs.length) (hgood : ∀ (i : Nat) x b, xs[i]? = some x → ps[i]? = some b → CallB m good [I x] H b) : RR (m + 1) (.fn 82 [v, good]) H = some (.bool (ps.all id), H) := by
  refine (R_fn _ _ _ _ _).trans ?_
  refine fn_ok Try.func82 rfl rfl (by kernel_rfl) (by kernel_rfl) ?_
  obtain ⟨W, hW⟩ : ∃ W : Heap, W = ⟨H.t, H.next, H.next⟩ := ⟨_, rfl⟩
  have hg : ∀ n, W.get n = H.get n := fun n => by rw [hW]; rfl
  have hN : W.next = H.next := by rw [hW]
  have hE : ∀ G, Grow W G → Ext H G := fun G g => ⟨by rw [← hN]; exact g.next, fun n k => by rw [g.get n (by rw [hN]; exact k), hg]⟩
  have hG : Grow W W := Grow.refl (by rw [hW]; exact Nat.le_refl _)
  rw [← hW]
  have hlen : lenOf v = some xs.length := by simpa using hR.len
  refine Ok.seq ?_
  refine Ok.region ?_
  refine OkO.assign rfl rfl ?_
  refine OkO.nil ?_
  refine Ok.seq ?_
  refine Ok.seq ?_
  refine Ok.region ?_
  refine OkO.move rfl rfl ?_
  refine OkO.builtin rfl rfl rfl (bln (by kernel_rfl) (by first | assumption | rfl)) ?_
  refine OkO.move rfl rfl ?_
  refine OkO.nil ?_
  refine Ok.block ?_
  refine Ok.loop (fun n s => ∃ i : Nat, n = xs.length - i ∧ i ≤ xs.length ∧ (∀ j, j < i → ps[j]? = some true) ∧ Has 5 [(1, good), (4, .bool false), (7, v), (8, I xs.length), (9, I (i : Int))] s.T ∧ s.D = [] ∧ Grow W s.H) (xs.length) (by unfold loopFuel; omega)
    ⟨0, rfl, Nat.zero_le _, nofun, Has.of (by kernel_rfl), rfl, hG⟩ ?_
  rintro n ⟨T, D, G⟩ ⟨i, hn, hi, hall, ⟨f, hT⟩, hD, hg⟩
  dsimp only at *
  subst hT hD
  have hgn := hg.next
  refine Ok.seq ?_
  refine Ok.region ?_
  refine OkO.bin rfl rfl rfl (bin_lss _ _) ?_
  refine OkO.nil ?_
  refine Ok.seq ?_
  refine Ok.cond rfl (fun h1 => ?_) (fun h1 => ?_)
  · -- yes h1
    have hlt : i < xs.length := by simpa using h1
    obtain ⟨b, hb⟩ : ∃ b, ps[i]? = some b := ⟨_, List.getElem?_eq_getElem (by omega)⟩
    obtain ⟨bb, off, cs, i1, i2, i3, i4⟩ := (hR.ext (hE _ hg)).at_ i [I xs[i]] (by simp [hlt])
    have hne : bb ≠ G.next := by omega
    have i5 := seg_one i3
    refine Ok.skip ?_
    refine Ok.seq ?_
    refine Ok.block ?_
    refine Ok.seq ?_
    refine Ok.region ?_
    refine OkO.index (sz := 1) rfl rfl rfl (by kernel_rfl) (by first | assumption | rfl | exact slAt_slice (by omega) | exact slAt_opn (by omega)) ?_ -- index ('Go.Operand.tmp', 7) ('Go.Operand.tmp', 9)
    refine OkO.load rfl rfl (lda (n := 1) (by kernel_rfl) (by first | assumption | (simp (disch := first | omega | (simp only [hNw, hPt]; omega)) only [gn0, gn1, gn2, gn3, gn4, gn5, gp0, gno, gpo] <;> first | rfl | assumption | exact gp0 _ _ _ | exact gn0 _ _)) (by first | rfl | assumption)) ?_
    refine OkO.assign rfl rfl ?_
    refine OkO.nil ?_
    refine Ok.seq ?_
    refine Ok.region ?_
    refine OkO.move rfl rfl ?_
    refine OkO.move rfl rfl ?_
    obtain ⟨gf, gas, hc1, hc2⟩ := hgood i xs[i] b (by simp [hlt]) hb
    refine OkO.callV rfl rfl rfl rfl hc1 (hc2 _ (hE _ (by (try dsimp only); repeat (first | (first | exact hg | exact hG) | apply Grow.new | (refine Grow.put ?_ _ (by first | omega | (simp only [hNw, hPt]; omega))))))) ?_ -- ('Go.Operand.tmp', 13)
    refine OkO.un rfl rfl rfl ?_
    refine OkO.nil ?_
    refine Ok.cond rfl (fun h2 => ?_) (fun h2 => ?_)
    · -- yes h2
      refine Ok.seq ?_
      refine Ok.region ?_
      refine OkO.assign rfl rfl ?_
      refine OkO.nil ?_
      refine Ok.ret ⟨.inr rfl, ?_⟩
      exact back_flat rfl (congrArg AV.bool (by symm; rw [List.all_eq_false]; exact ⟨false, List.mem_of_getElem? (by rw [hb]; congr 1; simpa using h2), by simp⟩)) rfl (by rw [← hW]; exact (by (try dsimp only); repeat (first | (first | exact hg | exact hG) | apply Grow.new | (refine Grow.put ?_ _ (by first | omega | (simp only [hNw, hPt]; omega))))))
    · -- no h2
      refine Ok.skip ?_
      refine Ok.region ?_
      refine OkO.bin rfl rfl rfl (bin_add (by omega) (by omega)) ?_
      refine OkO.move rfl rfl ?_
      refine OkO.nil ?_
      refine ⟨xs.length - (i + 1), by omega, i + 1, rfl, hlt, fun j hj => ?_, Has.of (by kernel_rfl), rfl, (by (try dsimp only); repeat (first | (first | exact hg | exact hG) | apply Grow.new | (refine Grow.put ?_ _ (by first | omega | (simp only [hNw, hPt]; omega)))))⟩
      by_cases e : j = i
      · subst e; rw [hb]; simpa using h2
      · exact hall j (by omega)
  · -- no h1
    have hge : i = xs.length := by simp at h1; omega
    refine Ok.exit ?_
    refine Ok.seq ?_
    refine Ok.region ?_
    refine OkO.assign rfl rfl ?_
    refine OkO.nil ?_
    refine Ok.ret ⟨.inr rfl, ?_⟩
    exact back_flat rfl (congrArg AV.bool (by symm; rw [List.all_eq_true]; intro x hx; obtain ⟨j, hj, rfl⟩ := List.mem_iff_getElem.1 hx; have := hall j (by omega); rw [List.getElem?_eq_getElem hj] at this; simpa using this)) rfl (by rw [← hW]; exact (by (try dsimp only); repeat (first | (first | exact hg | exact hG) | apply Grow.new | (refine Grow.put ?_ _ (by first | omega | (simp only [hNw, hPt]; omega))))))
theorem c95 (m : Nat) (v good : AV) (xs : List (AV × Bool)) (ps : List Bool) (H : Heap) (hR : Row H v 2 (xs.map fun x => [x.1, .bool x.2])) (hl : xs.length ≤ 1000000) (hp : ps.length = xs.length) (hat : ∀ x ∈ xs, x.1.atom = true) (hgood : ∀ (i : Nat) x b, xs[i]? = some x → ps[i]? = some b → CallB m good [.agg [x.1, .bool x.2]] H b) : RR (m + 1) (.fn 95 [v, good]) H = some (.bool (ps.all id), H) := by
  refine (R_fn _ _ _ _ _).trans ?_
  refine fn_ok Try.func95 rfl rfl (by kernel_rfl) (by kernel_rfl) ?_
  obtain ⟨W, hW⟩ : ∃ W : Heap, W = ⟨H.t, H.next, H.next⟩ := ⟨_, rfl⟩
  have hg : ∀ n, W.get n = H.get n := fun n => by rw [hW]; rfl
  have hN : W.next = H.next := by rw [hW]
  have hE : ∀ G, Grow W G → Ext H G := fun G g => ⟨by rw [← hN]; exact g.next, fun n k => by rw [g.get n (by rw [hN]; exact k), hg]⟩
  have hG : Grow W W := Grow.refl (by rw [hW]; exact Nat.le_refl _)
  rw [← hW]
  have hlen : lenOf v = some xs.length := by simpa using hR.len
  refine Ok.seq ?_
  refine Ok.region ?_
  refine OkO.assign rfl rfl ?_
  refine OkO.nil ?_
  refine Ok.seq ?_
  refine Ok.seq ?_
  refine Ok.region ?_
  refine OkO.move rfl rfl ?_
  refine OkO.builtin rfl rfl rfl (bln (by kernel_rfl) (by first | assumption | rfl)) ?_
  refine OkO.move rfl rfl ?_
  refine OkO.nil ?_
  refine Ok.block ?_
  refine Ok.loop (fun n s => ∃ i : Nat, n = xs.length - i ∧ i ≤ xs.length ∧ (∀ j, j < i → ps[j]? = some true) ∧ Has 5 [(1, good), (4, .bool false), (7, v), (8, I xs.length), (9, I (i : Int))] s.T ∧ s.D = [] ∧ Grow W s.H) (xs.length) (by unfold loopFuel; omega)
    ⟨0, rfl, Nat.zero_le _, nofun, Has.of (by kernel_rfl), rfl, hG⟩ ?_
  rintro n ⟨T, D, G⟩ ⟨i, hn, hi, hall, ⟨f, hT⟩, hD, hg⟩
  dsimp only at *
  subst hT hD
  have hgn := hg.next
  refine Ok.seq ?_
  refine Ok.region ?_
  refine OkO.bin rfl rfl rfl (bin_lss _ _) ?_
  refine OkO.nil ?_
  refine Ok.seq ?_
  refine Ok.cond rfl (fun h1 => ?_) (fun h1 => ?_)
  · -- yes h1
    have hlt : i < xs.length := by simpa using h1
    obtain ⟨b, hb⟩ : ∃ b, ps[i]? = some b := ⟨_, List.getElem?_eq_getElem (by omega)⟩
    obtain ⟨bb, off, cs, i1, i2, i3, i4⟩ := (hR.ext (hE _ hg)).at_ i [xs[i].1, .bool xs[i].2] (by simp [hlt])
    have hne : bb ≠ G.next := by omega
    have at1 : atoms (AV.agg [xs[i].1, .bool xs[i].2]).cells = true := by (show atoms [xs[i].1, .bool xs[i].2] = true; have h9 := hat xs[i] (List.getElem_mem hlt); simp [atoms, h9, show ∀ z, (AV.bool z).atom = true from fun _ => rfl])
    refine Ok.skip ?_
    refine Ok.seq ?_
    refine Ok.block ?_
    refine Ok.seq ?_
    refine Ok.region ?_
    refine OkO.index (sz := 2) rfl rfl rfl (by kernel_rfl) (by first | assumption | rfl | exact slAt_slice (by omega) | exact slAt_opn (by omega)) ?_ -- index ('Go.Operand.tmp', 7) ('Go.Operand.tmp', 9)
    refine OkO.load rfl rfl (ldg (n := 2) (by kernel_rfl) (by first | assumption | (simp (disch := first | omega | (simp only [hNw, hPt]; omega)) only [gn0, gn1, gn2, gn3, gn4, gn5, gp0, gno, gpo] <;> first | rfl | assumption | exact gp0 _ _ _ | exact gn0 _ _)) (by first | rfl | assumption)) ?_
    refine OkO.alloc (z := [.nils, .bool false]) rfl (by kernel_rfl) ?_
    refine OkO.store rfl rfl rfl (sAc (n := 2) (ag := true) (by kernel_rfl) (by first | assumption | (simp (disch := first | omega | (simp only [hNw, hPt]; omega)) only [gn0, gn1, gn2, gn3, gn4, gn5, gp0, gno, gpo] <;> first | rfl | assumption | exact gp0 _ _ _ | exact gn0 _ _)) rfl (by first | rfl | assumption) (by first | rfl | exact spl_set _ _ _ (by first | assumption | omega | (simp; omega)))) ?_
    refine OkO.nil ?_
    refine Ok.seq ?_
    refine Ok.region ?_
    refine OkO.move rfl rfl ?_
    refine OkO.load rfl rfl (ldg (n := 2) (by kernel_rfl) (by first | assumption | (simp (disch := first | omega | (simp only [hNw, hPt]; omega)) only [gn0, gn1, gn2, gn3, gn4, gn5, gp0, gno, gpo] <;> first | rfl | assumption | exact gp0 _ _ _ | exact gn0 _ _)) (by first | rfl | assumption)) ?_
    obtain ⟨gf, gas, hc1, hc2⟩ := hgood i xs[i] b (by simp [hlt]) hb
    refine OkO.callV rfl rfl rfl rfl hc1 (hc2 _ (hE _ (by (try dsimp only); repeat (first | (first | exact hg | exact hG) | apply Grow.new | (refine Grow.put ?_ _ (by first | omega | (simp only [hNw, hPt]; omega))))))) ?_ -- ('Go.Operand.tmp', 13)
    refine OkO.un rfl rfl rfl ?_
    refine OkO.nil ?_
    refine Ok.cond rfl (fun h2 => ?_) (fun h2 => ?_)
    · -- yes h2
      refine Ok.seq ?_
      refine Ok.region ?_
      refine OkO.assign rfl rfl ?_
      refine OkO.nil ?_
      refine Ok.ret ⟨.inr rfl, ?_⟩
      exact back_flat rfl (congrArg AV.bool (by symm; rw [List.all_eq_false]; exact ⟨false, List.mem_of_getElem? (by rw [hb]; congr 1; simpa using h2), by simp⟩)) rfl (by rw [← hW]; exact (by (try dsimp only); repeat (first | (first | exact hg | exact hG) | apply Grow.new | (refine Grow.put ?_ _ (by first | omega | (simp only [hNw, hPt]; omega))))))
    · -- no h2
      refine Ok.skip ?_
      refine Ok.region ?_
      refine OkO.bin rfl rfl rfl (bin_add (by omega) (by omega)) ?_
      refine OkO.move rfl rfl ?_
      refine OkO.nil ?_
      refine ⟨xs.length - (i + 1), by omega, i + 1, rfl, hlt, fun j hj => ?_, Has.of (by kernel_rfl), rfl, (by (try dsimp only); repeat (first | (first | exact hg | exact hG) | apply Grow.new | (refine Grow.put ?_ _ (by first | omega | (simp only [hNw, hPt]; omega)))))⟩
      by_cases e : j = i
      · subst e; rw [hb]; simpa using h2
      · exact hall j (by omega)
  · -- no h1
    have hge : i = xs.length := by simp at h1; omega
    refine Ok.exit ?_
    refine Ok.seq ?_
    refine Ok.region ?_
    refine OkO.assign rfl rfl ?_
    refine OkO.nil ?_
    refine Ok.ret ⟨.inr rfl, ?_⟩
    exact back_flat rfl (congrArg AV.bool (by symm; rw [List.all_eq_true]; intro x hx; obtain ⟨j, hj, rfl⟩ := List.mem_iff_getElem.1 hx; have := hall j (by omega); rw [List.getElem?_eq_getElem hj] at this; simpa using this)) rfl (by rw [← hW]; exact (by (try dsimp only); repeat (first | (first | exact hg | exact hG) | apply Grow.new | (refine Grow.put ?_ _ (by first | omega | (simp only [hNw, hPt]; omega))))))
end
end Go.Ev

set_option maxRecDepth 100000
set_option linter.unusedSimpArgs false
set_option linter.unusedVariables false
namespace Go.Ev
open Go Go.Proofs
noncomputable section
def seasErr (l : List Sea) : Int := if (decide ((l.length : Int) ≤ 10) && l.all Sea.short) = true then (if l.all Sea.fine = true then 0 else 1) else 3
theorem seasErr3 {l : List Sea} (h : (10 : Int) < l.length ∨ ∃ s ∈ l, s.short = false) : seasErr l = 3 := by
  unfold seasErr
  rw [if_neg]
  intro h1
  rw [Bool.and_eq_true, decide_eq_true_eq, List.all_eq_true] at h1
  rcases h with h | ⟨s, h2, h3⟩
  · omega
  · rw [h1.2 s h2] at h3; cases h3
theorem seasErr1 {l : List Sea} (h : (l.length : Int) ≤ 10) (h2 : ∀ s ∈ l, s.short = true) {s : Sea} (h3 : s ∈ l) (h4 : s.fine = false) : seasErr l = 1 := by
  unfold seasErr
  rw [if_pos (by rw [Bool.and_eq_true, decide_eq_true_eq, List.all_eq_true]; exact ⟨h, h2⟩), if_neg]
  intro h5
  rw [List.all_eq_true] at h5
  rw [h5 s h3] at h4; cases h4
theorem seasErr0 {l : List Sea} (h : (l.length : Int) ≤ 10) (h2 : ∀ s ∈ l, s.short = true) (h3 : ∀ s ∈ l, s.fine = true) : seasErr l = 0 := by
  unfold seasErr
  rw [if_pos (by rw [Bool.and_eq_true, decide_eq_true_eq, List.all_eq_true]; exact ⟨h, h2⟩), if_pos (by rw [List.all_eq_true]; exact h3)]
theorem seasErr_facts {l : List Sea} (h : seasErr l = 0) : l.length ≤ 10 ∧ (∀ s ∈ l, s.sp.length ≤ 60) ∧ ∀ s ∈ l, ∀ x ∈ s.sp, 0 ≤ x ∧ x ≤ 1000 := by
  unfold seasErr at h
  split at h
  · rename_i h1
    rw [Bool.and_eq_true, decide_eq_true_eq, List.all_eq_true] at h1
    split at h
    · rename_i h2
      rw [List.all_eq_true] at h2
      refine ⟨by omega, fun s hs => ?_, fun s hs x hx => ?_⟩
      · have := h1.2 s hs
        unfold Sea.short at this
        rw [decide_eq_true_eq] at this
        omega
      · have := h2 s hs
        unfold Sea.fine at this
        rw [List.all_eq_true] at this
        have := this x hx
        unfold inB at this
        simpa using this
    · cases h
  · cases h
theorem all_of_get {α : Type} {l : List α} {p : α → Prop} (h : ∀ (j : Nat) (hj : j < l.length), p l[j]) : ∀ x ∈ l, p x := fun x hx => by
  obtain ⟨j, hj, rfl⟩ := List.mem_iff_getElem.1 hx
  exact h j hj
theorem c82r (m : Nat) (v good : AV) (xs : List Int) (r : Bool) (ps : List Bool) (hr : ps.all id = r) (H : Heap) (hR : Row H v 1 (xs.map fun x => [I x])) (hl : xs.length ≤ 1000000) (hp : ps.length = xs.length) (hgood : ∀ (i : Nat) x b, xs[i]? = some x → ps[i]? = some b → CallB m good [I x] H b) :
    RR (m + 1) (.fn 82 [v, good]) H = some (.bool r, H) := by rw [← hr]; exact c82 m v good xs ps H hR hl hp hgood
theorem c95r (m : Nat) (v good : AV) (xs : List (AV × Bool)) (r : Bool) (ps : List Bool) (hr : ps.all id = r) (H : Heap) (hR : Row H v 2 (xs.map fun x => [x.1, .bool x.2])) (hl : xs.length ≤ 1000000) (hp : ps.length = xs.length) (hat : ∀ x ∈ xs, x.1.atom = true) (hgood : ∀ (i : Nat) x b, xs[i]? = some x → ps[i]? = some b → CallB m good [.agg [x.1, .bool x.2]] H b) :
    RR (m + 1) (.fn 95 [v, good]) H = some (.bool r, H) := by rw [← hr]; exact c95 m v good xs ps H hR hl hp hat hgood
theorem c97 (m : Nat) (sv : AV) (s : Sea) (H : Heap) (hU : Ints H sv s.sp) (hl : s.sp.length ≤ 1000000) : RR (m + 3) (.fn 97 [.agg [sv, .bool s.fell]]) H = some (.bool s.fine, H) := by
  refine (R_fn _ _ _ _ _).trans ?_
  refine fn_ok Try.func97 rfl rfl (by kernel_rfl) (by kernel_rfl) ?_
  obtain ⟨W, hW⟩ : ∃ W : Heap, W = ⟨H.t, H.next, H.next⟩ := ⟨_, rfl⟩
  have hg : ∀ n, W.get n = H.get n := fun n => by rw [hW]; rfl
  have hN : W.next = H.next := by rw [hW]
  have hE : ∀ G, Grow W G → Ext H G := fun G g => ⟨by rw [← hN]; exact g.next, fun n k => by rw [g.get n (by rw [hN]; exact k), hg]⟩
  have hG : Grow W W := Grow.refl (by rw [hW]; exact Nat.le_refl _)
  rw [← hW]
  have pb : sv.plain = true := lpl hU.len
  refine Ok.seq ?_
  refine Ok.region ?_
  refine OkO.box rfl rfl ?_
  refine OkO.assign rfl rfl ?_
  refine OkO.nil ?_
  refine Ok.seq ?_
  refine Ok.region ?_
  refine OkO.fieldAddr (o := 0) rfl (by kernel_rfl) rfl ?_
  refine OkO.load rfl rfl (lda (n := 1) (by kernel_rfl) (by first | assumption | (simp (disch := first | omega | (simp only [hNw, hPt]; omega)) only [gn0, gn1, gn2, gn3, gn4, gn5, gp0, gno, gpo] <;> first | rfl | assumption | exact gp0 _ _ _ | exact gn0 _ _)) (by first | rfl | assumption)) ?_
  refine OkO.buildArr (z := [.int .i64 0, .int .i64 0]) (sz := 1) rfl (by kernel_rfl) rfl rfl ?_
  refine OkO.makeFunc rfl rfl rfl ?_
  refine OkO.callV rfl rfl rfl rfl rfl (c82r (m + 1) sv (.fn 68 [.agg [I 0, I 1000]] []) s.sp s.fine (s.sp.map fun x => inB x 0 1000) (by simp [Sea.fine, List.all_map]) _ (hU.ext (hE _ (by (try dsimp only); repeat (first | exact hG | apply Grow.new | (refine Grow.put ?_ _ (by first | omega | (simp only [hNw, hPt]; omega))))))) hl (by simp) (fun i x b9 h1 h2 => ⟨68, [.agg [I 0, I 1000], I x], rfl, fun G _ => by rw [List.getElem?_map, h1] at h2; cases h2; exact c68 _ 0 1000 x G⟩)) ?_ -- "sackung/alarm.all[int]"
  refine OkO.assign rfl rfl ?_
  refine OkO.nil ?_
  refine Ok.ret ⟨.inr rfl, ?_⟩
  exact back_flat rfl rfl rfl (by rw [← hW]; exact (by (try dsimp only); repeat (first | exact hG | apply Grow.new | (refine Grow.put ?_ _ (by first | omega | (simp only [hNw, hPt]; omega))))))
/-- Seasons whose lists may stand in cells. -/
def SeasG (H : Heap) (v : AV) (l : List Sea) : Prop := ∃ vs : List AV, vs.length = l.length ∧ Row H v 2 ((vs.zip l).map fun p => [p.1, .bool p.2.fell]) ∧ (∀ x ∈ vs, x.atom = true) ∧ ∀ (i : Nat) (x : AV) (s : Sea), vs[i]? = some x → l[i]? = some s → Ints H x s.sp
theorem SeasG.at {H : Heap} {v : AV} {l : List Sea} (h : SeasG H v l) : SeasAt H v l := let ⟨vs, h1, h2, _, h3⟩ := h; ⟨vs, h1, h2, h3⟩
theorem SeasG.ext {H G : Heap} {v : AV} {l : List Sea} (h : SeasG H v l) (g : Ext H G) : SeasG G v l := let ⟨vs, h1, h2, h4, h3⟩ := h; ⟨vs, h1, h2.ext g, h4, fun i x s a b => (h3 i x s a b).ext g⟩
theorem SeasM.g {k0 : Nat} {G : Heap} {v : AV} {l : List Sea} (h : SeasM k0 G v l) : SeasG G v l := by
  obtain ⟨vs, h1, h2, h3⟩ := h
  refine ⟨vs, h1, Mine.row (by rw [← seaCells_zip]; exact h2) (fun x hx => by obtain ⟨y, _, rfl⟩ := List.mem_map.1 hx; rfl) (by omega), fun x hx => ?_, fun i x s a b => (h3 i x s a b).ints⟩
  obtain ⟨i, hi, rfl⟩ := List.mem_iff_getElem.1 hx
  exact (h3 i vs[i] (l[i]'(by omega)) (List.getElem?_eq_getElem hi) (List.getElem?_eq_getElem (by omega))).one.2
/-- A slice of one struct that was just built. -/
theorem Row.lit {G : Heap} {b sz : Nat} {cs : List AV} {ty : TypeId} (h : G.get b = some (.cells cs ty)) (hb : b < G.next) (hl : cs.length = sz) : Row G (.slice b 0 1 1) sz [cs] := by
  refine ⟨rfl, fun i x k => ?_⟩
  cases i with
  | zero =>
    cases k
    refine ⟨b, 0, cs, by simp [slAt], by rw [h]; rfl, ?_, hb⟩
    unfold seg
    simp only [List.drop_zero, ← hl, List.take_length]
    rw [show Nat.beq cs.length cs.length = true from by simp]
  | succ i => simp at k
theorem SeasAt.one {G : Heap} {b : Nat} {x : AV} {s : Sea} {ty : TypeId} (h : G.get b = some (.cells [x, .bool s.fell] ty)) (hb : b < G.next) (hU : Ints G x s.sp) : SeasAt G (.slice b 0 1 1) [s] :=
  ⟨[x], rfl, Row.lit h hb rfl, fun i y t a c => by cases i with
    | zero => cases a; cases c; exact hU
    | succ i => simp at a⟩
theorem SeasG.one {G : Heap} {b : Nat} {x : AV} {s : Sea} {ty : TypeId} (h : G.get b = some (.cells [x, .bool s.fell] ty)) (hb : b < G.next) (hx : x.atom = true) (hU : Ints G x s.sp) : SeasG G (.slice b 0 1 1) [s] :=
  ⟨[x], rfl, Row.lit h hb rfl, fun y hy => by simp at hy; rw [hy]; exact hx, fun i y t a c => by cases i with
    | zero => cases a; cases c; exact hU
    | succ i => simp at a⟩
theorem c74 (m : Nat) (v : AV) (l : List Sea) (H : Heap) (hS : SeasG H v l) (hl9 : l.length ≤ 100000) (hs9 : ∀ s ∈ l, s.sp.length ≤ 100000) : RR (m + 6) (.fn 74 [v]) H = some (I (seasErr l), H) := by
  refine (R_fn _ _ _ _ _).trans ?_
  refine fn_ok Try.func74 rfl rfl (by kernel_rfl) (by kernel_rfl) ?_
  obtain ⟨W, hW⟩ : ∃ W : Heap, W = ⟨H.t, H.next, H.next⟩ := ⟨_, rfl⟩
  have hg : ∀ n, W.get n = H.get n := fun n => by rw [hW]; rfl
  have hN : W.next = H.next := by rw [hW]
  have hE : ∀ G, Grow W G → Ext H G := fun G g => ⟨by rw [← hN]; exact g.next, fun n k => by rw [g.get n (by rw [hN]; exact k), hg]⟩
  have hG : Grow W W := Grow.refl (by rw [hW]; exact Nat.le_refl _)
  rw [← hW]
  have hlen := hS.at.len
  obtain ⟨vs, h1, h2r, hat0, h3⟩ := hS
  have hrow : Row H v 2 (((vs.zip l).map fun p => (p.1, p.2.fell)).map fun x => [x.1, .bool x.2]) := by
    rw [List.map_map]
    exact h2r
  have hat : ∀ x ∈ (vs.zip l).map (fun p => (p.1, p.2.fell)), x.1.atom = true := by
    intro x hx
    obtain ⟨p, hp, rfl⟩ := List.mem_map.1 hx
    obtain ⟨i, hi, rfl⟩ := List.mem_iff_getElem.1 hp
    have h9 : i < min vs.length l.length := by simpa using hi
    have h8 := List.getElem?_zip_eq_some.1 (List.getElem?_eq_getElem hi)
    exact hat0 _ (List.mem_of_getElem? h8.1)
  have hgd96 : ∀ (i : Nat) (x : AV × Bool) (b9 : Bool), ((vs.zip l).map fun p => (p.1, p.2.fell))[i]? = some x → (l.map Sea.short)[i]? = some b9 → ∀ G, Ext H G → CallB (m + 4) (.fn 96 [] []) [.agg [x.1, .bool x.2]] G b9 := by
    intro i x b9 q1 q2 G hGx
    rw [List.getElem?_map, Option.map_eq_some_iff] at q1 q2
    obtain ⟨p, q3, rfl⟩ := q1
    obtain ⟨s, q4, rfl⟩ := q2
    rw [List.getElem?_zip_eq_some] at q3
    rw [q3.2] at q4
    cases q4
    exact ⟨96, [.agg [p.1, .bool p.2.fell]], rfl, fun G9 hx => c96 (m + 3) p.1 p.2 G9 (h3 i _ _ q3.1 q3.2).len⟩
  have hgd97 : ∀ (i : Nat) (x : AV × Bool) (b9 : Bool), ((vs.zip l).map fun p => (p.1, p.2.fell))[i]? = some x → (l.map Sea.fine)[i]? = some b9 → ∀ G, Ext H G → CallB (m + 4) (.fn 97 [] []) [.agg [x.1, .bool x.2]] G b9 := by
    intro i x b9 q1 q2 G hGx
    rw [List.getElem?_map, Option.map_eq_some_iff] at q1 q2
    obtain ⟨p, q3, rfl⟩ := q1
    obtain ⟨s, q4, rfl⟩ := q2
    rw [List.getElem?_zip_eq_some] at q3
    rw [q3.2] at q4
    cases q4
    exact ⟨97, [.agg [p.1, .bool p.2.fell]], rfl, fun G9 hx => c97 (m + 1) p.1 p.2 G9 ((h3 i _ _ q3.1 q3.2).ext (hGx.trans hx)) (by have := hs9 p.2 (List.mem_of_getElem? q3.2); omega)⟩
  refine Ok.seq ?_
  refine Ok.region ?_
  refine OkO.assign rfl rfl ?_
  refine OkO.nil ?_
  refine Ok.seq ?_
  refine Ok.seq ?_
  refine Ok.region ?_
  refine OkO.move rfl rfl ?_
  refine OkO.builtin rfl rfl rfl (bln (by kernel_rfl) (by first | assumption | rfl)) ?_
  refine OkO.bin rfl rfl rfl (bin_gtr _ _) ?_
  refine OkO.move rfl rfl ?_
  refine OkO.split (d := 6) rfl (fun g1 => ?_) (fun g1 => ?_)
  · -- true g1
    refine OkO.skip rfl ?_
    refine OkO.skip rfl ?_
    refine OkO.skip rfl ?_
    refine OkO.pick (b := true) rfl rfl (fun _ => rfl) nofun ?_
    refine OkO.nil ?_
    refine Ok.condT rfl ?_
    refine Ok.seq ?_
    refine Ok.region ?_
    refine OkO.assign rfl rfl ?_
    refine OkO.nil ?_
    refine Ok.ret ⟨.inr rfl, ?_⟩
    exact back_flat rfl (congrArg I ((seasErr3 (.inl (by simpa using g1))).symm)) rfl (by rw [← hW]; exact (by (try dsimp only); repeat (first | exact hg | exact hG | apply Grow.new | (refine Grow.put ?_ _ (by first | omega | (simp only [hNw, hPt]; omega))))))
  · -- false g1
    refine OkO.move rfl rfl ?_
    refine OkO.callV rfl rfl rfl rfl rfl (c95r (m + 4) v (.fn 96 [] []) ((vs.zip l).map fun p => (p.1, p.2.fell)) (l.all Sea.short) (l.map Sea.short) (by rw [List.all_map]; rfl) _ (hrow.ext (hE _ (by (try dsimp only); repeat (first | exact hg | exact hG | apply Grow.new | (refine Grow.put ?_ _ (by first | omega | (simp only [hNw, hPt]; omega))))))) (by simp; omega) (by simp; omega) hat (fun i x b9 q1 q2 => hgd96 i x b9 q1 q2 _ (hE _ (by (try dsimp only); repeat (first | exact hg | exact hG | apply Grow.new | (refine Grow.put ?_ _ (by first | omega | (simp only [hNw, hPt]; omega)))))))) ?_ -- "sackung/alarm.all[sackung/alarm.Season]"
    refine OkO.un rfl rfl rfl ?_
    refine OkO.pick (b := false) rfl rfl nofun (fun _ => rfl) ?_
    refine OkO.nil ?_
    refine Ok.cond rfl (fun h2 => ?_) (fun h2 => ?_)
    · -- yes h2
      have hns : l.all Sea.short = false := by simpa using h2
      refine Ok.seq ?_
      refine Ok.region ?_
      refine OkO.assign rfl rfl ?_
      refine OkO.nil ?_
      refine Ok.ret ⟨.inr rfl, ?_⟩
      exact back_flat rfl (congrArg I ((seasErr3 (.inr (by obtain ⟨s, s1, s2⟩ := List.all_eq_false.1 hns; exact ⟨s, s1, by simpa using s2⟩))).symm)) rfl (by rw [← hW]; exact (by (try dsimp only); repeat (first | exact hg | exact hG | apply Grow.new | (refine Grow.put ?_ _ (by first | omega | (simp only [hNw, hPt]; omega))))))
    · -- no h2
      refine Ok.skip ?_
      refine Ok.seq ?_
      refine Ok.seq ?_
      refine Ok.region ?_
      refine OkO.move rfl rfl ?_
      refine OkO.callV rfl rfl rfl rfl rfl (c95r (m + 4) v (.fn 97 [] []) ((vs.zip l).map fun p => (p.1, p.2.fell)) (l.all Sea.fine) (l.map Sea.fine) (by rw [List.all_map]; rfl) _ (hrow.ext (hE _ (by (try dsimp only); repeat (first | exact hg | exact hG | apply Grow.new | (refine Grow.put ?_ _ (by first | omega | (simp only [hNw, hPt]; omega))))))) (by simp; omega) (by simp; omega) hat (fun i x b9 q1 q2 => hgd97 i x b9 q1 q2 _ (hE _ (by (try dsimp only); repeat (first | exact hg | exact hG | apply Grow.new | (refine Grow.put ?_ _ (by first | omega | (simp only [hNw, hPt]; omega)))))))) ?_ -- "sackung/alarm.all[sackung/alarm.Season]"
      refine OkO.un rfl rfl rfl ?_
      refine OkO.nil ?_
      refine Ok.cond rfl (fun h3 => ?_) (fun h3 => ?_)
      · -- yes h3
        have hns : l.all Sea.fine = false := by simpa using h3
        refine Ok.seq ?_
        refine Ok.region ?_
        refine OkO.assign rfl rfl ?_
        refine OkO.nil ?_
        refine Ok.ret ⟨.inr rfl, ?_⟩
        exact back_flat rfl (congrArg I (Eq.symm (by obtain ⟨s, s1, s2⟩ := List.all_eq_false.1 hns; exact seasErr1 (by simpa using g1) (List.all_eq_true.1 (by simpa using h2)) s1 (by simpa using s2)))) rfl (by rw [← hW]; exact (by (try dsimp only); repeat (first | exact hg | exact hG | apply Grow.new | (refine Grow.put ?_ _ (by first | omega | (simp only [hNw, hPt]; omega))))))
      · -- no h3
        refine Ok.skip ?_
        refine Ok.seq ?_
        refine Ok.region ?_
        refine OkO.assign rfl rfl ?_
        refine OkO.nil ?_
        refine Ok.ret ⟨.inr rfl, ?_⟩
        exact back_flat rfl (congrArg I ((seasErr0 (by simpa using g1) (List.all_eq_true.1 (by simpa using h2)) (List.all_eq_true.1 (by simpa using h3))).symm)) rfl (by rw [← hW]; exact (by (try dsimp only); repeat (first | exact hg | exact hG | apply Grow.new | (refine Grow.put ?_ _ (by first | omega | (simp only [hNw, hPt]; omega))))))
end
end Go.Ev

set_option maxRecDepth 100000
set_option linter.unusedSimpArgs false
set_option linter.unusedVariables false
namespace Go.Ev
open Go Go.Proofs
noncomputable section
def termErr (l : List Sea) (t : Trm) : Int := if seasErr l ≠ 0 then seasErr l else if (l.length : Int) = 0 then 1 else if t.ok = true then 0 else 2
def shortL (l : List Sea) : Bool := decide ((l.length : Int) ≤ 12) && (l.take 13).all fun s => decide ((s.sp.length : Int) ≤ 65)
theorem SeasM.snoc {k0 : Nat} {G : Heap} {ov x : AV} {l : List Sea} {s : Sea} (h : SeasM k0 G ov l) (hx : Mine k0 G x 3 1 (s.sp.map I)) : ∃ cs, Mine k0 G ov 66 2 cs ∧ cs.length = l.length * 2 ∧ ∀ v2 G2, Mine k0 G2 v2 66 2 (cs ++ [x, .bool s.fell]) → G.next ≤ G2.next → (∀ j, j < G.next → (∀ m, ov ≠ .opn j m) → G2.get j = G.get j) → SeasM k0 G2 v2 (l ++ [s]) := by
  obtain ⟨vs, h1, h2, h3⟩ := h
  refine ⟨_, h2, seaCells_len vs l h1, fun v2 G2 k1 k2 k3 => ⟨vs ++ [x], by simp [h1], by rw [seaCells_snoc _ _ _ _ h1]; exact k1, fun i y t a c => ?_⟩⟩
  by_cases hi : i < vs.length
  · rw [List.getElem?_append_left hi] at a
    rw [List.getElem?_append_left (by omega)] at c
    exact (h3 i y t a c).offE h2 (.inr (by omega)) k2 k3
  · by_cases hi2 : i = vs.length
    · subst hi2
      rw [List.getElem?_append_right (Nat.le_refl _)] at a
      rw [List.getElem?_append_right (by omega), h1] at c
      simp at a c
      subst a c
      exact hx.offE h2 (.inr (by omega)) k2 k3
    · rw [List.getElem?_eq_none (by simp; omega)] at a; cases a
theorem c77 (m : Nat) (v : AV) (l : List Sea) (t : Trm) (H : Heap) (hS : SeasG H v l) (hl9 : l.length ≤ 100000) (hs9 : ∀ s ∈ l, s.sp.length ≤ 100000) : RR (m + 7) (.fn 77 [v, .agg t.c]) H = some (I (termErr l t), H) := by
  refine (R_fn _ _ _ _ _).trans ?_
  refine fn_ok Try.func77 rfl rfl (by kernel_rfl) (by kernel_rfl) ?_
  obtain ⟨W, hW⟩ : ∃ W : Heap, W = ⟨H.t, H.next, H.next⟩ := ⟨_, rfl⟩
  have hg : ∀ n, W.get n = H.get n := fun n => by rw [hW]; rfl
  have hN : W.next = H.next := by rw [hW]
  have hE : ∀ G, Grow W G → Ext H G := fun G g => ⟨by rw [← hN]; exact g.next, fun n k => by rw [g.get n (by rw [hN]; exact k), hg]⟩
  have hG : Grow W W := Grow.refl (by rw [hW]; exact Nat.le_refl _)
  rw [← hW]
  have hlen := hS.at.len
  refine Ok.seq ?_
  refine Ok.region ?_
  refine OkO.box rfl rfl ?_
  refine OkO.assign rfl rfl ?_
  refine OkO.nil ?_
  refine Ok.seq ?_
  refine Ok.seq ?_
  refine Ok.region ?_
  refine OkO.move rfl rfl ?_
  refine OkO.callV rfl rfl rfl rfl rfl (c74 (m + 0) v l _ (hS.ext (hE _ (by (try dsimp only); repeat (first | exact hg | exact hG | apply Grow.new | (refine Grow.put ?_ _ (by first | omega | (simp only [hNw, hPt]; omega))))))) hl9 hs9) ?_ -- "sackung/alarm.checkSeasons"
  refine OkO.assign rfl rfl ?_
  refine OkO.nil ?_
  refine Ok.seq ?_
  refine Ok.region ?_
  refine OkO.move rfl rfl ?_
  refine OkO.bin rfl rfl rfl (bin_neq _ _) ?_
  refine OkO.nil ?_
  refine Ok.cond rfl (fun h1 => ?_) (fun h1 => ?_)
  · -- yes h1
    have e1 : seasErr l ≠ 0 := by simpa using h1
    refine Ok.seq ?_
    refine Ok.region ?_
    refine OkO.move rfl rfl ?_
    refine OkO.assign rfl rfl ?_
    refine OkO.nil ?_
    refine Ok.ret ⟨.inr rfl, ?_⟩
    exact back_flat rfl (congrArg I (by symm; unfold termErr; rw [if_pos e1])) rfl (by rw [← hW]; exact (by (try dsimp only); repeat (first | exact hg | exact hG | apply Grow.new | (refine Grow.put ?_ _ (by first | omega | (simp only [hNw, hPt]; omega))))))
  · -- no h1
    have e1 : ¬ seasErr l ≠ 0 := by simpa using h1
    refine Ok.skip ?_
    refine Ok.seq ?_
    refine Ok.seq ?_
    refine Ok.region ?_
    refine OkO.move rfl rfl ?_
    refine OkO.builtin rfl rfl rfl (bln (by kernel_rfl) (by first | assumption | rfl)) ?_
    refine OkO.bin rfl rfl rfl (bin_eql _ _) ?_
    refine OkO.nil ?_
    refine Ok.cond rfl (fun h2 => ?_) (fun h2 => ?_)
    · -- yes h2
      have e2 : (l.length : Int) = 0 := by simpa using h2
      refine Ok.seq ?_
      refine Ok.region ?_
      refine OkO.assign rfl rfl ?_
      refine OkO.nil ?_
      refine Ok.ret ⟨.inr rfl, ?_⟩
      exact back_flat rfl (congrArg I (by symm; unfold termErr; rw [if_neg e1, if_pos e2])) rfl (by rw [← hW]; exact (by (try dsimp only); repeat (first | exact hg | exact hG | apply Grow.new | (refine Grow.put ?_ _ (by first | omega | (simp only [hNw, hPt]; omega))))))
    · -- no h2
      have e2 : ¬ (l.length : Int) = 0 := by simpa using h2
      refine Ok.skip ?_
      refine Ok.seq ?_
      refine Ok.seq ?_
      refine Ok.region ?_
      refine OkO.load rfl rfl (ldg (n := 5) (by kernel_rfl) (by first | assumption | (simp (disch := first | omega | (simp only [hNw, hPt]; omega)) only [gn0, gn1, gn2, gn3, gn4, gn5, gp0, gno, gpo] <;> first | rfl | assumption | exact gp0 _ _ _ | exact gn0 _ _)) (by first | rfl | assumption)) ?_
      refine OkO.callV rfl rfl rfl rfl rfl (c99 (m + 4) t _) ?_ -- "(sackung/alarm.Terms).valid"
      refine OkO.un rfl rfl rfl ?_
      refine OkO.nil ?_
      refine Ok.cond rfl (fun h3 => ?_) (fun h3 => ?_)
      · -- yes h3
        have e3 : t.ok = false := by simpa using h3
        refine Ok.seq ?_
        refine Ok.region ?_
        refine OkO.assign rfl rfl ?_
        refine OkO.nil ?_
        refine Ok.ret ⟨.inr rfl, ?_⟩
        exact back_flat rfl (congrArg I (by symm; unfold termErr; rw [if_neg e1, if_neg e2, if_neg (by rw [e3]; simp)])) rfl (by rw [← hW]; exact (by (try dsimp only); repeat (first | exact hg | exact hG | apply Grow.new | (refine Grow.put ?_ _ (by first | omega | (simp only [hNw, hPt]; omega))))))
      · -- no h3
        have e3 : t.ok = true := by simpa using h3
        refine Ok.skip ?_
        refine Ok.seq ?_
        refine Ok.region ?_
        refine OkO.assign rfl rfl ?_
        refine OkO.nil ?_
        refine Ok.ret ⟨.inr rfl, ?_⟩
        exact back_flat rfl (congrArg I (by symm; unfold termErr; rw [if_neg e1, if_neg e2, if_pos e3])) rfl (by rw [← hW]; exact (by (try dsimp only); repeat (first | exact hg | exact hG | apply Grow.new | (refine Grow.put ?_ _ (by first | omega | (simp only [hNw, hPt]; omega))))))
end
end Go.Ev

set_option maxRecDepth 100000
set_option linter.unusedSimpArgs false
set_option linter.unusedVariables false
namespace Go.Ev
open Go Go.Proofs
noncomputable section
section
open Go.ChangeShapes Go.WideShapes Go.RowKit
variable {H0 : Type} {enc : TypeId × Value → H0} {w : World} {base n : Nat} {sp : Nat → Bool} {hd : Bool}
end
end
end Go.Ev

set_option maxRecDepth 100000
set_option linter.unusedSimpArgs false
set_option linter.unusedVariables false
namespace Go.Ev
open Go Go.Proofs
noncomputable section
/-- The first hour from one on whose speed is below a number. -/
def runTo (sp : List Int) (back : Int) (to : Nat) : Nat := to + ((sp.drop to).takeWhile fun x => decide (back ≤ x)).length
theorem runTo_end {sp : List Int} {back : Int} {to : Nat} (h : sp.length ≤ to) : runTo sp back to = to := by
  unfold runTo
  rw [List.drop_eq_nil_of_le h]
  rfl
theorem runTo_stop {sp : List Int} {back : Int} {to : Nat} (h : to < sp.length) (h2 : sp[to] < back) : runTo sp back to = to := by
  unfold runTo
  rw [List.drop_eq_getElem_cons h, List.takeWhile_cons, if_neg (by rw [decide_eq_true_eq]; omega)]
  rfl
theorem runTo_step {sp : List Int} {back : Int} {to : Nat} (h : to < sp.length) (h2 : back ≤ sp[to]) : runTo sp back to = runTo sp back (to + 1) := by
  unfold runTo
  rw [List.drop_eq_getElem_cons h, List.takeWhile_cons, if_pos (by rw [decide_eq_true_eq]; omega), List.length_cons]
  omega
theorem runTo_le {sp : List Int} {back : Int} {to : Nat} (h : to ≤ sp.length) : to ≤ runTo sp back to ∧ runTo sp back to ≤ sp.length := by
  unfold runTo
  have h1 : ((sp.drop to).takeWhile fun x => decide (back ≤ x)).length ≤ (sp.drop to).length := (List.takeWhile_sublist _).length_le
  rw [List.length_drop] at h1
  omega
/-- The hour behind an alarm that begins in one. -/
def endOf (sp : List Int) (r : Rul) (h : Nat) : Nat := runTo sp r.back (min (h + r.hold.toNat) sp.length)
theorem endOf_le {sp : List Int} {r : Rul} {h : Nat} (hh : h < sp.length) (hr : 1 ≤ r.hold) : h < endOf sp r h ∧ endOf sp r h ≤ sp.length := by
  have := runTo_le (sp := sp) (back := r.back) (to := min (h + r.hold.toNat) sp.length) (by omega)
  unfold endOf
  omega
def spellsW (sp : List Int) (r : Rul) : Nat → Nat → List (Nat × Nat)
  | 0, _ => []
  | n + 1, h => if hh : h < sp.length then (if sp[h] < r.start then spellsW sp r n (h + 1) else (h, endOf sp r h) :: spellsW sp r n (endOf sp r h)) else []
theorem spellsW_same {sp : List Int} {r : Rul} (hr : 1 ≤ r.hold) : ∀ (n m h : Nat), sp.length - h ≤ n → sp.length - h ≤ m → spellsW sp r n h = spellsW sp r m h := by
  intro n
  induction n with
  | zero =>
    intro m h hn hm
    cases m with
    | zero => rfl
    | succ m => rw [spellsW, spellsW, dif_neg (by omega)]
  | succ n ih =>
    intro m h hn hm
    cases m with
    | zero => rw [spellsW, spellsW, dif_neg (by omega)]
    | succ m =>
      rw [spellsW, spellsW]
      by_cases hh : h < sp.length
      · have he := endOf_le hh hr
        rw [dif_pos hh, dif_pos hh, ih m (h + 1) (by omega) (by omega), ih m (endOf sp r h) (by omega) (by omega)]
      · rw [dif_neg hh, dif_neg hh]
theorem spellsW_more {sp : List Int} {r : Rul} (hr : 1 ≤ r.hold) (n h : Nat) (hn : sp.length - h ≤ n) : spellsW sp r n h = spellsW sp r (sp.length - h) h := spellsW_same hr n _ h hn (Nat.le_refl _)
/-- The alarms from an hour on. -/
def restOf (sp : List Int) (r : Rul) (h : Nat) : List (Nat × Nat) := spellsW sp r (sp.length - h) h
theorem restOf_end {sp : List Int} {r : Rul} {h : Nat} (hh : sp.length ≤ h) : restOf sp r h = [] := by
  unfold restOf
  rw [show sp.length - h = 0 by omega]; rfl
theorem restOf_skip {sp : List Int} {r : Rul} {h : Nat} (hh : h < sp.length) (hs : sp[h] < r.start) : restOf sp r h = restOf sp r (h + 1) := by
  unfold restOf
  obtain ⟨k, hk⟩ : ∃ k, sp.length - h = k + 1 := ⟨sp.length - h - 1, by omega⟩
  rw [hk, spellsW, dif_pos hh, if_pos hs, show sp.length - (h + 1) = k by omega]
theorem restOf_take {sp : List Int} {r : Rul} {h : Nat} (hr : 1 ≤ r.hold) (hh : h < sp.length) (hs : ¬ sp[h] < r.start) : restOf sp r h = (h, endOf sp r h) :: restOf sp r (endOf sp r h) := by
  have he := endOf_le hh hr
  unfold restOf
  obtain ⟨k, hk⟩ : ∃ k, sp.length - h = k + 1 := ⟨sp.length - h - 1, by omega⟩
  rw [hk, spellsW, dif_pos hh, if_neg hs, spellsW_more hr k _ (by omega)]
def spellsOf (sp : List Int) (r : Rul) : List (Nat × Nat) := restOf sp r 0
theorem restOf_len {sp : List Int} {r : Rul} (hr : 1 ≤ r.hold) : ∀ (n h : Nat), sp.length - h ≤ n → (restOf sp r h).length ≤ sp.length - h := by
  intro n
  induction n with
  | zero => intro h hn; rw [restOf_end (by omega)]; simp
  | succ n ih =>
    intro h hn
    by_cases hh : h < sp.length
    · by_cases hs : sp[h] < r.start
      · rw [restOf_skip hh hs]; have := ih (h + 1) (by omega); omega
      · have he := endOf_le hh hr
        rw [restOf_take hr hh hs, List.length_cons]; have := ih (endOf sp r h) (by omega); omega
    · rw [restOf_end (by omega)]; simp
theorem Rul.ok_facts {r : Rul} (h : r.ok = true) : (0 ≤ r.start ∧ r.start ≤ 1000) ∧ (0 ≤ r.back ∧ r.back ≤ r.start) ∧ 1 ≤ r.hold ∧ r.hold ≤ 60 := by
  unfold Rul.ok inB at h
  simp only [Bool.and_eq_true, decide_eq_true_eq] at h
  omega
def spc (p : Nat × Nat) : List AV := [I (p.1 : Int), I (p.2 : Int)]
def spCells (l : List (Nat × Nat)) : List AV := (l.map spc).flatten
theorem spCells_len (l : List (Nat × Nat)) : (spCells l).length = l.length * 2 := by
  unfold spCells
  rw [flatten_len _ 2 (fun x hx => by obtain ⟨y, _, rfl⟩ := List.mem_map.1 hx; rfl), List.length_map]
theorem spCells_snoc (l : List (Nat × Nat)) (p : Nat × Nat) : spCells (l ++ [p]) = spCells l ++ spc p := by simp [spCells]
theorem Mine.spells {k0 : Nat} {G : Heap} {v : AV} {e : TypeId} {l : List (Nat × Nat)} (h : Mine k0 G v e 2 (spCells l)) : Row G v 2 (l.map spc) := Mine.row (e := e) h (fun x hx => by obtain ⟨y, _, rfl⟩ := List.mem_map.1 hx; rfl) (by omega)
theorem c98 (m : Nat) (sv : AV) (sp : List Int) (fell : Bool) (r : Rul) (h : Nat) (H : Heap) (hU : Ints H sv sp) (hl : sp.length ≤ 1000) (hr : r.ok = true) (hh : h ≤ sp.length) : RR (m + 1) (.fn 98 [.agg [sv, .bool fell], .agg r.c, I (h : Int)]) H = some (I (endOf sp r h : Int), H) := by
  refine (R_fn _ _ _ _ _).trans ?_
  refine fn_ok Try.func98 rfl rfl (by kernel_rfl) (by kernel_rfl) ?_
  obtain ⟨W, hW⟩ : ∃ W : Heap, W = ⟨H.t, H.next, H.next⟩ := ⟨_, rfl⟩
  have hg : ∀ n, W.get n = H.get n := fun n => by rw [hW]; rfl
  have hN : W.next = H.next := by rw [hW]
  have hE : ∀ G, Grow W G → Ext H G := fun G g => ⟨by rw [← hN]; exact g.next, fun n k => by rw [g.get n (by rw [hN]; exact k), hg]⟩
  have hG : Grow W W := Grow.refl (by rw [hW]; exact Nat.le_refl _)
  rw [← hW]
  have hlen := hU.len
  have pb : sv.plain = true := lpl hlen
  have hrf := Rul.ok_facts hr
  refine Ok.seq ?_
  refine Ok.region ?_
  refine OkO.box rfl rfl ?_
  refine OkO.box rfl rfl ?_
  refine OkO.assign rfl rfl ?_
  refine OkO.nil ?_
  refine Ok.seq ?_
  refine Ok.region ?_
  refine OkO.move rfl rfl ?_
  refine OkO.fieldAddr (o := 2) rfl (by kernel_rfl) rfl ?_
  refine OkO.load rfl rfl (lda (n := 1) (by kernel_rfl) (by first | assumption | (simp (disch := first | omega | (simp only [hNw, hPt]; omega)) only [gn0, gn1, gn2, gn3, gn4, gn5, gp0, gno, gpo] <;> first | rfl | assumption | exact gp0 _ _ _ | exact gn0 _ _)) (by first | rfl | assumption)) ?_
  refine OkO.bin rfl rfl rfl (bin_add (by omega) (by omega)) ?_
  refine OkO.fieldAddr (o := 0) rfl (by kernel_rfl) rfl ?_
  refine OkO.load rfl rfl (lda (n := 1) (by kernel_rfl) (by first | assumption | (simp (disch := first | omega | (simp only [hNw, hPt]; omega)) only [gn0, gn1, gn2, gn3, gn4, gn5, gp0, gno, gpo] <;> first | rfl | assumption | exact gp0 _ _ _ | exact gn0 _ _)) (by first | rfl | assumption)) ?_
  refine OkO.builtin rfl rfl rfl (bln (by kernel_rfl) (by first | assumption | rfl)) ?_
  refine OkO.builtin rfl rfl rfl (builtin_min2 _ _) ?_
  refine OkO.assign rfl rfl ?_
  refine OkO.nil ?_
  refine Ok.seq ?_
  refine Ok.block ?_
  have e0 : min ((h : Int) + r.hold) (sp.length : Int) = ((min (h + r.hold.toNat) sp.length : Nat) : Int) := by omega
  rw [e0]
  refine Ok.loop (fun n s => ∃ to : Nat, n = sp.length - to ∧ to ≤ sp.length ∧ runTo sp r.back to = endOf sp r h ∧ Has 6 [(3, .ptr W.next 0), (4, .ptr (W.next + 1) 0), (7, I (to : Int))] s.T ∧ s.D = [] ∧ Grow W s.H ∧ s.H = (W.new (.cells [sv, .bool fell] 66)).new (.cells r.c 68)) (sp.length - min (h + r.hold.toNat) sp.length) (by unfold loopFuel; omega)
    ⟨min (h + r.hold.toNat) sp.length, rfl, by omega, rfl, Has.of (by kernel_rfl), rfl, (by (try dsimp only); repeat (first | exact hG | apply Grow.new | (refine Grow.put ?_ _ (by first | omega | (simp only [hNw, hPt]; omega))))), rfl⟩ ?_
  rintro n ⟨T, D, G⟩ ⟨to, hn, hto, hrun, ⟨f, hT⟩, hD, hg, hGG⟩
  dsimp only at *
  subst hT hD
  have hgn := hg.next
  subst hGG
  refine Ok.seq ?_
  refine Ok.seq ?_
  refine Ok.drawn [(0, true, []), (1, true, []), (2, true, []), (3, true, []), (4, true, []), (5, true, []), (6, true, []), (7, true, []), (8, true, []), (9, true, []), (10, true, []), (11, true, []), (12, true, []), (13, true, []), (14, true, [])] (by kernel_rfl) ?_
  refine OkP.step ?_
  refine OkO.move rfl rfl ?_
  refine OkO.nil ⟨rfl, ?_⟩
  refine OkP.step ?_
  refine OkO.fieldAddr (o := 0) rfl (by kernel_rfl) rfl ?_
  refine OkO.nil ⟨rfl, ?_⟩
  refine OkP.step ?_
  refine OkO.load rfl rfl (lda (n := 1) (by kernel_rfl) (by first | assumption | (simp (disch := first | omega | (simp only [hNw, hPt]; omega)) only [gn0, gn1, gn2, gn3, gn4, gn5, gp0, gno, gpo] <;> first | rfl | assumption | exact gp0 _ _ _ | exact gn0 _ _)) (by first | rfl | assumption)) ?_
  refine OkO.nil ⟨rfl, ?_⟩
  refine OkP.step ?_
  refine OkO.builtin rfl rfl rfl (bln (by kernel_rfl) (by first | assumption | rfl)) ?_
  refine OkO.nil ⟨rfl, ?_⟩
  refine OkP.step ?_
  refine OkO.bin rfl rfl rfl (bin_lss _ _) ?_
  refine OkO.nil ⟨rfl, ?_⟩
  refine OkP.step ?_
  refine OkO.move rfl rfl ?_
  refine OkO.nil ⟨rfl, ?_⟩
  refine OkP.split (d := 21) rfl (fun g1 => ?_) (fun g1 => ?_)
  · -- true g1
    have hlt : to < sp.length := by simpa using g1
    obtain ⟨b2, off2, cs2, k1, k2, k3, k4⟩ := (hU.ext (hE _ (by (try dsimp only); repeat (first | exact hg | exact hG | apply Grow.new | (refine Grow.put ?_ _ (by first | omega | (simp only [hNw, hPt]; omega))))))).at' to hlt
    refine OkP.step ?_
    refine OkO.fieldAddr (o := 0) rfl (by kernel_rfl) rfl ?_
    refine OkO.nil ⟨rfl, ?_⟩
    refine OkP.step ?_
    refine OkO.load rfl rfl (lda (n := 1) (by kernel_rfl) (by first | assumption | (simp (disch := first | omega | (simp only [hNw, hPt]; omega)) only [gn0, gn1, gn2, gn3, gn4, gn5, gp0, gno, gpo] <;> first | rfl | assumption | exact gp0 _ _ _ | exact gn0 _ _)) (by first | rfl | assumption)) ?_
    refine OkO.nil ⟨rfl, ?_⟩
    refine OkP.step ?_
    refine OkO.move rfl rfl ?_
    refine OkO.nil ⟨rfl, ?_⟩
    refine OkP.step ?_
    refine OkO.index (sz := 1) rfl rfl rfl (by kernel_rfl) (by first | assumption | rfl | exact slAt_slice (by omega) | exact slAt_opn (by omega)) ?_ -- index ('Go.Operand.tmp', 23) ('Go.Operand.tmp', 24)
    refine OkO.nil ⟨rfl, ?_⟩
    refine OkP.step ?_
    refine OkO.load rfl rfl (lda (n := 1) (by kernel_rfl) (by first | assumption | (simp (disch := first | omega | (simp only [hNw, hPt]; omega)) only [gn0, gn1, gn2, gn3, gn4, gn5, gp0, gno, gpo] <;> first | rfl | assumption | exact gp0 _ _ _ | exact gn0 _ _)) (by first | rfl | assumption)) ?_
    refine OkO.nil ⟨rfl, ?_⟩
    refine OkP.step ?_
    refine OkO.fieldAddr (o := 1) rfl (by kernel_rfl) rfl ?_
    refine OkO.nil ⟨rfl, ?_⟩
    refine OkP.step ?_
    refine OkO.load rfl rfl (lda (n := 1) (by kernel_rfl) (by first | assumption | (simp (disch := first | omega | (simp only [hNw, hPt]; omega)) only [gn0, gn1, gn2, gn3, gn4, gn5, gp0, gno, gpo] <;> first | rfl | assumption | exact gp0 _ _ _ | exact gn0 _ _)) (by first | rfl | assumption)) ?_
    refine OkO.nil ⟨rfl, ?_⟩
    refine OkP.step ?_
    refine OkO.bin rfl rfl rfl (bin_geq _ _) ?_
    refine OkO.nil ⟨rfl, ?_⟩
    refine OkP.step ?_
    refine OkO.pick (b := true) rfl rfl (fun _ => rfl) nofun ?_
    refine OkO.nil ⟨rfl, ?_⟩
    refine OkP.nil ?_
    refine Ok.cond rfl (fun h2 => ?_) (fun h2 => ?_)
    · -- yes h2
      refine Ok.skip ?_
      refine Ok.block ?_
      refine Ok.region ?_
      refine OkO.move rfl rfl ?_
      refine OkO.bin rfl rfl rfl (bin_add (by omega) (by omega)) ?_
      refine OkO.assign rfl rfl ?_
      refine OkO.nil ?_
      refine ⟨sp.length - (to + 1), by omega, to + 1, rfl, by omega, ?_, Has.of (by kernel_rfl), rfl, hg, rfl⟩
      rw [← hrun, runTo_step hlt (by simpa using h2)]
    · -- no h2
      have hb9 : sp[to] < r.back := by simpa using h2
      refine Ok.exit ?_
      refine Ok.seq ?_
      refine Ok.region ?_
      refine OkO.move rfl rfl ?_
      refine OkO.assign rfl rfl ?_
      refine OkO.nil ?_
      refine Ok.ret ⟨.inr rfl, ?_⟩
      exact back_flat rfl (congrArg (fun z : Nat => I (z : Int)) (by rw [← hrun, runTo_stop hlt hb9])) rfl (by rw [← hW]; exact (by (try dsimp only); repeat (first | exact hg | exact hG | apply Grow.new | (refine Grow.put ?_ _ (by first | omega | (simp only [hNw, hPt]; omega))))))
  · -- false g1
    have hge : to = sp.length := by simp at g1; omega
    refine OkP.step ?_
    refine OkO.skip rfl ?_
    refine OkO.nil ⟨rfl, ?_⟩
    refine OkP.step ?_
    refine OkO.skip rfl ?_
    refine OkO.nil ⟨rfl, ?_⟩
    refine OkP.step ?_
    refine OkO.skip rfl ?_
    refine OkO.nil ⟨rfl, ?_⟩
    refine OkP.step ?_
    refine OkO.skip rfl ?_
    refine OkO.nil ⟨rfl, ?_⟩
    refine OkP.step ?_
    refine OkO.skip rfl ?_
    refine OkO.nil ⟨rfl, ?_⟩
    refine OkP.step ?_
    refine OkO.skip rfl ?_
    refine OkO.nil ⟨rfl, ?_⟩
    refine OkP.step ?_
    refine OkO.skip rfl ?_
    refine OkO.nil ⟨rfl, ?_⟩
    refine OkP.step ?_
    refine OkO.skip rfl ?_
    refine OkO.nil ⟨rfl, ?_⟩
    refine OkP.step ?_
    refine OkO.pick (b := false) rfl rfl nofun (fun _ => rfl) ?_
    refine OkO.nil ⟨rfl, ?_⟩
    refine OkP.nil ?_
    refine Ok.condF rfl ?_
    refine Ok.exit ?_
    refine Ok.seq ?_
    refine Ok.region ?_
    refine OkO.move rfl rfl ?_
    refine OkO.assign rfl rfl ?_
    refine OkO.nil ?_
    refine Ok.ret ⟨.inr rfl, ?_⟩
    exact back_flat rfl (congrArg (fun z : Nat => I (z : Int)) (by rw [← hrun, runTo_end (by omega)])) rfl (by rw [← hW]; exact (by (try dsimp only); repeat (first | exact hg | exact hG | apply Grow.new | (refine Grow.put ?_ _ (by first | omega | (simp only [hNw, hPt]; omega))))))
end
end Go.Ev

set_option maxRecDepth 100000
set_option linter.unusedSimpArgs false
set_option linter.unusedVariables false
namespace Go.Ev
open Go Go.Proofs
noncomputable section
theorem c76 (m : Nat) (sv : AV) (sp : List Int) (fell : Bool) (r : Rul) (H : Heap) (hU : Ints H sv sp) (hl : sp.length ≤ 1000) (hr : r.ok = true) : ∃ v H', RR (m + 2) (.fn 76 [.agg [sv, .bool fell], .agg r.c]) H = some (v, H') ∧ Ret H H' ∧ Mine H.next H' v 76 2 (spCells (spellsOf sp r)) := by
  show ∃ v H', evFn Try.prog (RR (m + 1)) 76 [.agg [sv, .bool fell], .agg r.c] H = some (v, H') ∧ Ret H H' ∧ Mine H.next H' v 76 2 (spCells (spellsOf sp r))
  refine fn_okE Try.func76 rfl rfl (by kernel_rfl) (by kernel_rfl) ?_
  obtain ⟨W, hW⟩ : ∃ W : Heap, W = ⟨H.t, H.next, H.next⟩ := ⟨_, rfl⟩
  have hg : ∀ n, W.get n = H.get n := fun n => by rw [hW]; rfl
  have hN : W.next = H.next := by rw [hW]
  have hE : ∀ G, Grow W G → Ext H G := fun G g => ⟨by rw [← hN]; exact g.next, fun n k => by rw [g.get n (by rw [hN]; exact k), hg]⟩
  have hG : Grow W W := Grow.refl (by rw [hW]; exact Nat.le_refl _)
  rw [← hW]
  have hlen := hU.len
  have pb : sv.plain = true := lpl hlen
  have hrf := Rul.ok_facts hr
  refine Ok.seq ?_
  refine Ok.region ?_
  refine OkO.box rfl rfl ?_
  refine OkO.box rfl rfl ?_
  refine OkO.assign rfl rfl ?_
  refine OkO.nil ?_
  refine Ok.seq ?_
  refine Ok.region ?_
  refine OkO.assign rfl rfl ?_
  refine OkO.nil ?_
  refine Ok.seq ?_
  refine Ok.seq ?_
  refine Ok.region ?_
  refine OkO.assign rfl rfl ?_
  refine OkO.nil ?_
  refine Ok.block ?_
  refine Ok.loop (fun n s => ∃ (h : Nat) (done : List (Nat × Nat)) (ov : AV), n = sp.length - h ∧ h ≤ sp.length ∧ done ++ restOf sp r h = spellsOf sp r ∧ Mine (W.next + 2) s.H ov 76 2 (spCells done) ∧ done.length ≤ h ∧ Has 6 [(2, .ptr W.next 0), (3, .ptr (W.next + 1) 0), (5, ov), (6, I (h : Int))] s.T ∧ s.D = [] ∧ Grow W s.H ∧ s.H.get W.next = some (.cells [sv, .bool fell] 66) ∧ s.H.get (W.next + 1) = some (.cells r.c 68) ∧ W.next + 2 ≤ s.H.next) (sp.length) (by unfold loopFuel; omega)
    ⟨0, [], .nils, rfl, Nat.zero_le _, rfl, Mine.nil _ _ _ _, Nat.le_refl _, Has.of (by kernel_rfl), rfl, (by (try dsimp only); repeat (first | exact hG | apply Grow.new | (refine Grow.put ?_ _ (by first | omega | (simp only [hNw, hPt]; omega))))), (by first | assumption | (simp (disch := first | omega | (simp only [hNw, hPt]; omega)) only [gn0, gn1, gn2, gn3, gn4, gn5, gp0, gno, gpo] <;> first | rfl | assumption | exact gp0 _ _ _ | exact gn0 _ _)), (by first | assumption | (simp (disch := first | omega | (simp only [hNw, hPt]; omega)) only [gn0, gn1, gn2, gn3, gn4, gn5, gp0, gno, gpo] <;> first | rfl | assumption | exact gp0 _ _ _ | exact gn0 _ _)), by simp⟩ ?_
  rintro n ⟨T, D, G⟩ ⟨h, done, ov, hn, hh, hdone, hm, hdl, ⟨f, hT⟩, hD, hg, hb0, hb1, hn2p⟩
  dsimp only at *
  subst hT hD
  have hgn := hg.next
  have eb0 : (G.get W.next).bind AObj.cs = some [sv, .bool fell] := by rw [hb0]; rfl
  have eb1 : (G.get (W.next + 1)).bind AObj.cs = some r.c := by rw [hb1]; rfl
  refine Ok.seq ?_
  refine Ok.seq ?_
  refine Ok.region ?_
  refine OkO.move rfl rfl ?_
  refine OkO.fieldAddr (o := 0) rfl (by kernel_rfl) rfl ?_
  refine OkO.load rfl rfl (lda (n := 1) (by kernel_rfl) (by first | assumption | (simp (disch := first | omega | (simp only [hNw, hPt]; omega)) only [gn0, gn1, gn2, gn3, gn4, gn5, gp0, gno, gpo] <;> first | rfl | assumption | exact gp0 _ _ _ | exact gn0 _ _)) (by first | rfl | assumption)) ?_
  refine OkO.builtin rfl rfl rfl (bln (by kernel_rfl) (by first | assumption | rfl)) ?_
  refine OkO.bin rfl rfl rfl (bin_lss _ _) ?_
  refine OkO.nil ?_
  refine Ok.cond rfl (fun h1 => ?_) (fun h1 => ?_)
  · -- yes h1
    have hlt : h < sp.length := by simpa using h1
    obtain ⟨b2, off2, cs2, k1, k2, k3, k4⟩ := (hU.ext (hE _ (by (try dsimp only); repeat (first | exact hg | exact hG | apply Grow.new | (refine Grow.put ?_ _ (by first | omega | (simp only [hNw, hPt]; omega))))))).at' h hlt
    have he := endOf_le hlt hrf.2.2.1
    refine Ok.skip ?_
    refine Ok.block ?_
    refine Ok.seq ?_
    refine Ok.seq ?_
    refine Ok.drawn [(0, true, []), (1, true, []), (2, true, []), (3, true, []), (4, true, []), (5, true, []), (6, true, []), (7, true, [])] (by kernel_rfl) ?_
    refine OkP.step ?_
    refine OkO.fieldAddr (o := 0) rfl (by kernel_rfl) rfl ?_
    refine OkO.nil ⟨rfl, ?_⟩
    refine OkP.step ?_
    refine OkO.load rfl rfl (lda (n := 1) (by kernel_rfl) (by first | assumption | (simp (disch := first | omega | (simp only [hNw, hPt]; omega)) only [gn0, gn1, gn2, gn3, gn4, gn5, gp0, gno, gpo] <;> first | rfl | assumption | exact gp0 _ _ _ | exact gn0 _ _)) (by first | rfl | assumption)) ?_
    refine OkO.nil ⟨rfl, ?_⟩
    refine OkP.step ?_
    refine OkO.move rfl rfl ?_
    refine OkO.nil ⟨rfl, ?_⟩
    refine OkP.step ?_
    refine OkO.index (sz := 1) rfl rfl rfl (by kernel_rfl) (by first | assumption | rfl | exact slAt_slice (by omega) | exact slAt_opn (by omega)) ?_ -- index ('Go.Operand.tmp', 14) ('Go.Operand.tmp', 15)
    refine OkO.nil ⟨rfl, ?_⟩
    refine OkP.step ?_
    refine OkO.load rfl rfl (lda (n := 1) (by kernel_rfl) (by first | assumption | (simp (disch := first | omega | (simp only [hNw, hPt]; omega)) only [gn0, gn1, gn2, gn3, gn4, gn5, gp0, gno, gpo] <;> first | rfl | assumption | exact gp0 _ _ _ | exact gn0 _ _)) (by first | rfl | assumption)) ?_
    refine OkO.nil ⟨rfl, ?_⟩
    refine OkP.step ?_
    refine OkO.fieldAddr (o := 0) rfl (by kernel_rfl) rfl ?_
    refine OkO.nil ⟨rfl, ?_⟩
    refine OkP.step ?_
    refine OkO.load rfl rfl (lda (n := 1) (by kernel_rfl) (by first | assumption | (simp (disch := first | omega | (simp only [hNw, hPt]; omega)) only [gn0, gn1, gn2, gn3, gn4, gn5, gp0, gno, gpo] <;> first | rfl | assumption | exact gp0 _ _ _ | exact gn0 _ _)) (by first | rfl | assumption)) ?_
    refine OkO.nil ⟨rfl, ?_⟩
    refine OkP.step ?_
    refine OkO.bin rfl rfl rfl (bin_lss _ _) ?_
    refine OkO.nil ⟨rfl, ?_⟩
    refine OkP.nil ?_
    refine Ok.cond rfl (fun h2 => ?_) (fun h2 => ?_)
    · -- yes h2
      have hs : sp[h] < r.start := by simpa using h2
      refine Ok.seq ?_
      refine Ok.region ?_
      refine OkO.move rfl rfl ?_
      refine OkO.bin rfl rfl rfl (bin_add (by omega) (by omega)) ?_
      refine OkO.assign rfl rfl ?_
      refine OkO.nil ?_
      refine Ok.exit ?_
      refine ⟨sp.length - (h + 1), by omega, h + 1, done, ov, rfl, by omega, by rw [← restOf_skip hlt hs]; exact hdone, hm, by omega, Has.of (by kernel_rfl), rfl, hg, hb0, hb1, hn2p⟩
    · -- no h2
      have hs : ¬ sp[h] < r.start := by simpa using h2
      refine Ok.skip ?_
      refine Ok.seq ?_
      refine Ok.region ?_
      refine OkO.move rfl rfl ?_
      refine OkO.load rfl rfl (ldg (n := 2) (by kernel_rfl) (by first | assumption | (simp (disch := first | omega | (simp only [hNw, hPt]; omega)) only [gn0, gn1, gn2, gn3, gn4, gn5, gp0, gno, gpo] <;> first | rfl | assumption | exact gp0 _ _ _ | exact gn0 _ _)) (by first | rfl | assumption)) ?_
      refine OkO.load rfl rfl (ldg (n := 3) (by kernel_rfl) (by first | assumption | (simp (disch := first | omega | (simp only [hNw, hPt]; omega)) only [gn0, gn1, gn2, gn3, gn4, gn5, gp0, gno, gpo] <;> first | rfl | assumption | exact gp0 _ _ _ | exact gn0 _ _)) (by first | rfl | assumption)) ?_
      refine OkO.move rfl rfl ?_
      refine OkO.callV rfl rfl rfl rfl rfl (c98 m sv sp fell r h _ (hU.ext (hE _ (by (try dsimp only); repeat (first | exact hg | exact hG | apply Grow.new | (refine Grow.put ?_ _ (by first | omega | (simp only [hNw, hPt]; omega))))))) hl hr hh) ?_ -- "(sackung/alarm.Season).end"
      refine OkO.build (z := [.int .i64 0, .int .i64 0]) (pl := [(0, 1), (1, 1)]) rfl (by kernel_rfl) rfl rfl ?_
      refine OkO.alloc (z := [.int .i64 0, .int .i64 0]) rfl (by kernel_rfl) ?_
      refine OkO.store rfl rfl rfl (sAc (n := 2) (ag := true) (by kernel_rfl) (by first | assumption | (simp (disch := first | omega | (simp only [hNw, hPt]; omega)) only [gn0, gn1, gn2, gn3, gn4, gn5, gp0, gno, gpo] <;> first | rfl | assumption | exact gp0 _ _ _ | exact gn0 _ _)) rfl (by first | rfl | assumption) (by first | rfl | exact spl_set _ _ _ (by first | assumption | omega | (simp; omega)))) ?_
      refine OkO.nil ?_
      refine Ok.seq ?_
      refine Ok.region ?_
      refine OkO.move rfl rfl ?_
      refine OkO.load rfl rfl (ldg (n := 2) (by kernel_rfl) (by first | assumption | (simp (disch := first | omega | (simp only [hNw, hPt]; omega)) only [gn0, gn1, gn2, gn3, gn4, gn5, gp0, gno, gpo] <;> first | rfl | assumption | exact gp0 _ _ _ | exact gn0 _ _)) (by first | rfl | assumption)) ?_
      refine OkO.buildSlice (el := 76) (sz := 2) (z := [.int .i64 0, .int .i64 0]) rfl (by kernel_rfl) (by decide) rfl rfl ?_
      refine OkO.builtinE rfl rfl rfl (Mine.app2 (W := W) (k0 := W.next + 2) (t := 63) (u := 63) (sz := 2) (by_ := 16) (e := 76) (n := 1) (new := spc (h, endOf sp r h)) (hm.to (by (try dsimp only); repeat (first | exact Ext.refl _ | assumption | apply Ext.new | (refine Ext.put ?_ _ (by first | omega | (simp only [hNw, hPt]; omega)))))) (by (try dsimp only); repeat (first | exact hg | exact hG | apply Grow.new | (refine Grow.put ?_ _ (by first | omega | (simp only [hNw, hPt]; omega))))) (by omega) (by simp only [hNw, hPt]; omega) (by kernel_rfl) (by kernel_rfl) (elems_new (n := 1) (sz := 2) rfl) rfl rfl (by rw [spCells_len]; omega) (by omega) (by omega) rfl) ?_
      rintro v2 G2 ⟨r1, r2, r3, r4, r5, _⟩
      have gx : (G2.get G.next).bind AObj.cs = some (spc (h, endOf sp r h)) := by rw [r4 G.next (by simp only [hNw, hPt]; omega) (fun m9 e9 => by have := hm.lt e9; omega)]; first | assumption | (simp (disch := first | omega | (simp only [hNw, hPt]; omega)) only [gn0, gn1, gn2, gn3, gn4, gn5, gp0, gno, gpo] <;> first | rfl | assumption | exact gp0 _ _ _ | exact gn0 _ _)
      refine OkO.assign rfl rfl ?_
      refine OkO.nil ?_
      refine Ok.region ?_
      refine OkO.fieldAddr (o := 1) rfl (by kernel_rfl) rfl ?_
      refine OkO.load rfl rfl (lda (n := 1) (by kernel_rfl) (by first | assumption | (simp (disch := first | omega | (simp only [hNw, hPt]; omega)) only [gn0, gn1, gn2, gn3, gn4, gn5, gp0, gno, gpo] <;> first | rfl | assumption | exact gp0 _ _ _ | exact gn0 _ _)) (by first | rfl | assumption)) ?_
      refine OkO.assign rfl rfl ?_
      refine OkO.nil ?_
      refine ⟨sp.length - endOf sp r h, by omega, endOf sp r h, done ++ [(h, endOf sp r h)], _, rfl, he.2, by rw [List.append_assoc, List.singleton_append, ← restOf_take hrf.2.2.1 hlt hs]; exact hdone, by rw [spCells_snoc]; exact r1, by simp; omega, Has.of (by kernel_rfl), rfl, r2, ?_, ?_, by (show W.next + 2 ≤ G2.next; simp only [hNw, hPt] at r5; omega)⟩
      · rw [r4 _ (by simp only [hNw, hPt]; omega) (hm.far (by omega))]; first | assumption | (simp (disch := first | omega | (simp only [hNw, hPt]; omega)) only [gn0, gn1, gn2, gn3, gn4, gn5, gp0, gno, gpo] <;> first | rfl | assumption | exact gp0 _ _ _ | exact gn0 _ _)
      · rw [r4 _ (by simp only [hNw, hPt]; omega) (hm.far (by omega))]; first | assumption | (simp (disch := first | omega | (simp only [hNw, hPt]; omega)) only [gn0, gn1, gn2, gn3, gn4, gn5, gp0, gno, gpo] <;> first | rfl | assumption | exact gp0 _ _ _ | exact gn0 _ _)
  · -- no h1
    have hge : h = sp.length := by simp at h1; omega
    rw [restOf_end (by omega), List.append_nil] at hdone
    refine Ok.exit ?_
    refine Ok.seq ?_
    refine Ok.region ?_
    refine OkO.move rfl rfl ?_
    refine OkO.assign rfl rfl ?_
    refine OkO.nil ?_
    refine Ok.ret ⟨.inr rfl, ?_⟩
    refine back_newA (resV_tmp rfl resV_nil) rfl (by rw [← hW]; exact hg) (fun H9 p1 p2 => ⟨p1, by rw [← hdone]; exact (hm.low (by omega)).backT p2 id⟩)
end
end Go.Ev

set_option maxRecDepth 100000
set_option linter.unusedSimpArgs false
set_option linter.unusedVariables false
namespace Go.Ev
open Go Go.Proofs
noncomputable section
theorem flat_tup2 {a c : AV} (h : (AV.tup [a, c]).flat = true) : a.flat = true := by
  have h1 : AV.flats [a, c] = true := h
  unfold AV.flats at h1
  cases ha : a.flat with
  | false => rw [ha] at h1; cases h1
  | true => rfl
theorem c37R (m : Nat) (x : AV) (s : Sea) (r : Rul) (H : Heap) (hU : Ints H x s.sp) (hat : x.atom = true) (hl : s.sp.length ≤ 100000) (he : seasErr [s] = 0) (hr : r.ok = false) : RR (m + 7) (.fn 37 [.agg [x, .bool s.fell], .agg r.c]) H = some (.tup [.nils, I 2], H) := by
  refine (R_fn _ _ _ _ _).trans ?_
  refine fn_ok Try.func37 rfl rfl (by kernel_rfl) (by kernel_rfl) ?_
  obtain ⟨W, hW⟩ : ∃ W : Heap, W = ⟨H.t, H.next, H.next⟩ := ⟨_, rfl⟩
  have hg : ∀ n, W.get n = H.get n := fun n => by rw [hW]; rfl
  have hN : W.next = H.next := by rw [hW]
  have hE : ∀ G, Grow W G → Ext H G := fun G g => ⟨by rw [← hN]; exact g.next, fun n k => by rw [g.get n (by rw [hN]; exact k), hg]⟩
  have hG : Grow W W := Grow.refl (by rw [hW]; exact Nat.le_refl _)
  rw [← hW]
  have hlen := hU.len
  have pb : x.plain = true := lpl hlen
  have ps : AV.plain (.agg [x, .bool s.fell]) = true := by simp [AV.plain, AV.plains, pb]
  refine Ok.seq ?_
  refine Ok.region ?_
  refine OkO.box rfl rfl ?_
  refine OkO.box rfl rfl ?_
  refine OkO.assign rfl rfl ?_
  refine OkO.assign rfl rfl ?_
  refine OkO.nil ?_
  refine Ok.seq ?_
  refine Ok.seq ?_
  refine Ok.region ?_
  refine OkO.load rfl rfl (ldg (n := 2) (by kernel_rfl) (by first | assumption | (simp (disch := first | omega | (simp only [hNw, hPt]; omega)) only [gn0, gn1, gn2, gn3, gn4, gn5, gp0, gno, gpo] <;> first | rfl | assumption | exact gp0 _ _ _ | exact gn0 _ _)) (by first | rfl | assumption)) ?_
  refine OkO.buildSlice (el := 66) (sz := 2) (z := [.nils, .bool false]) rfl (by kernel_rfl) (by decide) rfl rfl ?_
  refine OkO.callV rfl rfl rfl rfl rfl ((c74 (m + 0) _ [s] _ (SeasG.one (ty := 66) (by first | assumption | (simp (disch := first | omega | (simp only [hNw, hPt]; omega)) only [gn0, gn1, gn2, gn3, gn4, gn5, gp0, gno, gpo] <;> first | rfl | assumption | exact gp0 _ _ _ | exact gn0 _ _)) (by simp only [hNw]; omega) hat (hU.ext (hE _ (by (try dsimp only); repeat (first | exact hG | apply Grow.new | (refine Grow.put ?_ _ (by first | omega | (simp only [hNw, hPt]; omega)))))))) (by simp) (by simp; exact hl)).trans (by rw [he])) ?_ -- "sackung/alarm.checkSeasons"
  refine OkO.assign rfl rfl ?_
  refine OkO.nil ?_
  refine Ok.seq ?_
  refine Ok.region ?_
  refine OkO.move rfl rfl ?_
  refine OkO.bin rfl rfl rfl (bin_neq _ _) ?_
  refine OkO.nil ?_
  refine Ok.condF rfl ?_
  refine Ok.skip ?_
  refine Ok.seq ?_
  refine Ok.seq ?_
  refine Ok.region ?_
  refine OkO.load rfl rfl (ldg (n := 3) (by kernel_rfl) (by first | assumption | (simp (disch := first | omega | (simp only [hNw, hPt]; omega)) only [gn0, gn1, gn2, gn3, gn4, gn5, gp0, gno, gpo] <;> first | rfl | assumption | exact gp0 _ _ _ | exact gn0 _ _)) (by first | rfl | assumption)) ?_
  refine OkO.callV rfl rfl rfl rfl rfl ((c75 _ r _).trans (by rw [hr])) ?_ -- "(sackung/alarm.Rule).valid"
  refine OkO.un rfl rfl rfl ?_
  refine OkO.nil ?_
  refine Ok.cond rfl (fun h1 => ?_) (fun h1 => ?_)
  · -- yes h1
    refine Ok.seq ?_
    refine Ok.region ?_
    refine OkO.assign rfl rfl ?_
    refine OkO.assign rfl rfl ?_
    refine OkO.nil ?_
    refine Ok.ret ⟨.inr rfl, ?_⟩
    exact back_flat rfl rfl rfl (by rw [← hW]; exact (by (try dsimp only); repeat (first | exact hG | apply Grow.new | (refine Grow.put ?_ _ (by first | omega | (simp only [hNw, hPt]; omega))))))
  · -- no h1
    exact absurd h1 (by simp)
end
end Go.Ev

set_option maxRecDepth 100000
set_option linter.unusedSimpArgs false
set_option linter.unusedVariables false
namespace Go.Ev
open Go Go.Proofs
noncomputable section
theorem Row.spell {G : Heap} {v : AV} {L : List (Nat × Nat)} (h : Row G v 2 (L.map spc)) {i : Nat} (hi : i < L.length) : ∃ b off cs, slAt v 2 i = some (b, off) ∧ (G.get b).bind AObj.cs = some cs ∧ cs[off]? = some (I (L[i].1 : Int)) ∧ cs[off + 1]? = some (I (L[i].2 : Int)) ∧ seg cs off 2 = some (spc L[i]) ∧ b < G.next := by
  obtain ⟨b, off, cs, i1, i2, i3, i4⟩ := h.at_ i (spc L[i]) (by rw [List.getElem?_map, List.getElem?_eq_getElem hi]; rfl)
  have k0 := seg_get i3 0 (by omega)
  have k1 := seg_get i3 1 (by omega)
  exact ⟨b, off, cs, i1, i2, by simpa [spc] using k0, by simpa [spc] using k1, i3, i4⟩
end
end Go.Ev

set_option maxRecDepth 100000
set_option linter.unusedSimpArgs false
set_option linter.unusedVariables false
namespace Go.Ev
open Go Go.Proofs
noncomputable section
theorem runTo_spec {sp : List Int} {back : Int} : ∀ {to : Nat}, to ≤ sp.length → to ≤ runTo sp back to ∧ (∀ x, sp[runTo sp back to]? = some x → x < back) ∧ ∀ (k : Nat) x, to ≤ k → k < runTo sp back to → sp[k]? = some x → back ≤ x := by
  have main : ∀ (n to : Nat), sp.length - to ≤ n → to ≤ sp.length → to ≤ runTo sp back to ∧ (∀ x, sp[runTo sp back to]? = some x → x < back) ∧ ∀ (k : Nat) x, to ≤ k → k < runTo sp back to → sp[k]? = some x → back ≤ x := by
    intro n
    induction n with
    | zero =>
      intro to hn ht
      rw [runTo_end (by omega)]
      exact ⟨Nat.le_refl _, fun x hx => (by rw [List.getElem?_eq_none (by omega)] at hx; cases hx), fun k x h1 h2 => by omega⟩
    | succ n ih =>
      intro to hn ht
      by_cases hl : to < sp.length
      · by_cases hb : back ≤ sp[to]
        · rw [runTo_step hl hb]
          obtain ⟨h1, h2, h3⟩ := ih (to + 1) (by omega) (by omega)
          refine ⟨by omega, h2, fun k x k1 k2 k3 => ?_⟩
          by_cases e : k = to
          · subst e; rw [List.getElem?_eq_getElem hl] at k3; cases k3; exact hb
          · exact h3 k x (by omega) k2 k3
        · rw [runTo_stop hl (by omega)]
          exact ⟨Nat.le_refl _, fun x hx => (by rw [List.getElem?_eq_getElem hl] at hx; cases hx; omega), fun k x h1 h2 => by omega⟩
      · rw [runTo_end (by omega)]
        exact ⟨Nat.le_refl _, fun x hx => (by rw [List.getElem?_eq_none (by omega)] at hx; cases hx), fun k x h1 h2 => by omega⟩
  exact fun {to} h => main (sp.length - to) to (Nat.le_refl _) h
theorem spells_facts {sp : List Int} {r : Rul} (hr : 1 ≤ r.hold) : ∀ (n h : Nat), sp.length - h ≤ n → ∀ p ∈ restOf sp r h, h ≤ p.1 ∧ p.1 < p.2 ∧ p.2 ≤ sp.length ∧ (∀ x, sp[p.1]? = some x → r.start ≤ x) ∧ (p.2 < sp.length → r.hold ≤ (p.2 : Int) - (p.1 : Int) ∧ ∀ x, sp[p.2]? = some x → x < r.back) ∧ ∀ (k : Nat) x, (p.1 : Int) + r.hold ≤ (k : Int) → k < p.2 → sp[k]? = some x → r.back ≤ x := by
  intro n
  induction n with
  | zero => intro h hn p hp; rw [restOf_end (by omega)] at hp; cases hp
  | succ n ih =>
    intro h hn p hp
    by_cases hh : h < sp.length
    · by_cases hs : sp[h] < r.start
      · rw [restOf_skip hh hs] at hp
        obtain ⟨h1, h2⟩ := ih (h + 1) (by omega) p hp
        exact ⟨by omega, h2⟩
      · have he := endOf_le hh hr
        rw [restOf_take hr hh hs] at hp
        rcases List.mem_cons.1 hp with rfl | hp
        · refine ⟨Nat.le_refl _, he.1, he.2, fun x hx => ?_, fun hb => ?_, fun k x hk1 hk2 hx => ?_⟩
          · rw [List.getElem?_eq_getElem hh] at hx; cases hx; omega
          · have := runTo_spec (sp := sp) (back := r.back) (to := min (h + r.hold.toNat) sp.length) (by omega)
            have hq : runTo sp r.back (min (h + r.hold.toNat) sp.length) = endOf sp r h := rfl
            rw [hq] at this
            exact ⟨by have := this.1; dsimp only at hb ⊢; omega, this.2.1⟩
          · have := runTo_spec (sp := sp) (back := r.back) (to := min (h + r.hold.toNat) sp.length) (by omega)
            have hq : runTo sp r.back (min (h + r.hold.toNat) sp.length) = endOf sp r h := rfl
            rw [hq] at this
            exact this.2.2 k x (by dsimp only at hk1; omega) hk2 hx
        · obtain ⟨h1, h2⟩ := ih (endOf sp r h) (by omega) p hp
          exact ⟨by omega, h2⟩
    · rw [restOf_end (by omega)] at hp; cases hp
theorem spells_sorted {sp : List Int} {r : Rul} (hr : 1 ≤ r.hold) : ∀ (n h : Nat), sp.length - h ≤ n → (restOf sp r h).Pairwise fun p q => p.2 ≤ q.1 := by
  intro n
  induction n with
  | zero => intro h hn; rw [restOf_end (by omega)]; exact .nil
  | succ n ih =>
    intro h hn
    by_cases hh : h < sp.length
    · by_cases hs : sp[h] < r.start
      · rw [restOf_skip hh hs]; exact ih (h + 1) (by omega)
      · have he := endOf_le hh hr
        rw [restOf_take hr hh hs]
        exact .cons (fun q hq => (spells_facts hr (n + 1) _ (by omega) q hq).1) (ih _ (by omega))
    · rw [restOf_end (by omega)]; exact .nil
/-- How many of some alarms an hour is in. -/
def cnt (L : List (Nat × Nat)) (k : Nat) : Nat := (L.filter fun p => decide (p.1 ≤ k) && decide (k < p.2)).length
/-- What the hours have been counted, the one that is at hand up to an hour. -/
def onL (N : Nat) (L : List (Nat × Nat)) (a h : Nat) : List Int := (List.range N).map fun k => ((cnt L k + (if a ≤ k ∧ k < h then 1 else 0) : Nat) : Int)
theorem spl_set (a : List Int) (k : Nat) (z : Int) (h : k < a.length) : spl (a.map I) (0 + k * 1) (I z).cells = some ((a.set k z).map I) := by
  have e : (I z).cells = [I z] := rfl
  rw [e, spl_one (by simp; omega), List.map_set]
  simp
end
end Go.Ev

set_option maxRecDepth 100000
set_option linter.unusedSimpArgs false
set_option linter.unusedVariables false
namespace Go.Ev
open Go Go.Proofs
noncomputable section
end
end Go.Ev

set_option maxRecDepth 100000
set_option linter.unusedSimpArgs false
set_option linter.unusedVariables false
namespace Go.Ev
open Go Go.Proofs
noncomputable section
/-- What alarms cost, in a season of N hours. -/
def prc1 (t : Trm) (fell : Bool) (N : Nat) (p : Nat × Nat) : Int := t.hour * ((p.2 : Int) - (p.1 : Int)) + (if fell = false ∨ p.2 < N then t.price else 0)
def prcL (t : Trm) (fell : Bool) (N : Nat) : List (Nat × Nat) → Int
  | [] => 0
  | p :: l => prc1 t fell N p + prcL t fell N l
theorem prcL_app (t : Trm) (fell : Bool) (N : Nat) : ∀ (l k : List (Nat × Nat)), prcL t fell N (l ++ k) = prcL t fell N l + prcL t fell N k
  | [], k => by simp [prcL]
  | p :: l, k => by rw [List.cons_append, prcL, prcL, prcL_app t fell N l k]; omega
theorem prcL_take {t : Trm} {fell : Bool} {N : Nat} {L : List (Nat × Nat)} {i : Nat} (h : i < L.length) : prcL t fell N (L.take (i + 1)) = prcL t fell N (L.take i) + prc1 t fell N L[i] := by
  rw [List.take_succ_eq_append_getElem h, prcL_app, prcL, prcL]; omega
theorem prc1_bd {t : Trm} {fell : Bool} {N : Nat} {p : Nat × Nat} (ht : t.ok = true) (h1 : p.1 < p.2) (h2 : p.2 ≤ 60) : 0 ≤ t.hour * ((p.2 : Int) - (p.1 : Int)) ∧ t.hour * ((p.2 : Int) - (p.1 : Int)) ≤ 60000 ∧ 0 ≤ prc1 t fell N p ∧ prc1 t fell N p ≤ 61000 := by
  have hb : (0 ≤ t.hour ∧ t.hour ≤ 1000) ∧ 0 ≤ t.price ∧ t.price ≤ 1000 := by
    unfold Trm.ok inB at ht
    simp only [Bool.and_eq_true, decide_eq_true_eq] at ht
    omega
  have k1 : 0 ≤ t.hour * ((p.2 : Int) - (p.1 : Int)) := Int.mul_nonneg hb.1.1 (by omega)
  have k2 : t.hour * ((p.2 : Int) - (p.1 : Int)) ≤ 1000 * 60 := Int.mul_le_mul hb.1.2 (by omega) (by omega) (by omega)
  unfold prc1
  split <;> omega
theorem prcL_bd {t : Trm} {fell : Bool} {N : Nat} (ht : t.ok = true) : ∀ {L : List (Nat × Nat)}, (∀ p ∈ L, p.1 < p.2 ∧ p.2 ≤ 60) → 0 ≤ prcL t fell N L ∧ prcL t fell N L ≤ 61000 * L.length
  | [], _ => by simp [prcL]
  | p :: L, h => by
    have h1 := prc1_bd (fell := fell) (N := N) ht (h p (by simp)).1 (h p (by simp)).2
    have h2 := prcL_bd (fell := fell) (N := N) ht (L := L) fun q hq => h q (by simp [hq])
    rw [prcL, List.length_cons]
    omega
/-- The alarm that is on at the end, or none. -/
def lastOf (L : List (Nat × Nat)) (N : Nat) : Nat × Nat := (L.find? fun p => decide (p.2 = N)).getD (0, 0)
theorem lastOf_none {L : List (Nat × Nat)} {N : Nat} (h : ∀ p ∈ L, p.2 ≠ N) : lastOf L N = (0, 0) := by
  unfold lastOf
  rw [List.find?_eq_none.2 fun p hp => by rw [decide_eq_true_eq]; exact h p hp]
  rfl
theorem lastOf_at {L : List (Nat × Nat)} {N i : Nat} (hi : i < L.length) (h : ∀ (j : Nat) (hj : j < L.length), j < i → L[j].2 ≠ N) (h2 : L[i].2 = N) : lastOf L N = L[i] := by
  unfold lastOf
  rw [show L.find? (fun p => decide (p.2 = N)) = some L[i] from List.find?_eq_some_iff_getElem.2 ⟨by simp [h2], i, hi, rfl, fun j hj => by simp [h j (by omega) hj]⟩]
  rfl
/-- In a list of alarms, one is the last one just if it is on at the end. -/
theorem last_iff {L : List (Nat × Nat)} {N : Nat} (hs : L.Pairwise fun p q => p.2 ≤ q.1) (hp : ∀ p ∈ L, p.1 < p.2 ∧ p.2 ≤ N) {p : Nat × Nat} (h : p ∈ L) : p = lastOf L N ↔ p.2 = N := by
  by_cases hn : ∀ q ∈ L, q.2 ≠ N
  · rw [lastOf_none hn]
    have h1 := hp p h
    constructor
    · intro e; rw [e] at h1; simp at h1
    · intro e; exact absurd e (hn p h)
  · obtain ⟨q, hq, hqN⟩ : ∃ q ∈ L, q.2 = N := by
      apply Classical.byContradiction
      intro hc
      exact hn fun q hq e => hc ⟨q, hq, e⟩
    have key : ∀ x ∈ L, ∀ y ∈ L, x.2 = N → y.2 = N → x = y := by
      intro x hx y hy e1 e2
      obtain ⟨i, hi, rfl⟩ := List.mem_iff_getElem.1 hx
      obtain ⟨j, hj, rfl⟩ := List.mem_iff_getElem.1 hy
      have hpw := List.pairwise_iff_getElem.1 hs
      have hxx := hp _ hx
      have hyy := hp _ hy
      rcases Nat.lt_trichotomy i j with k | k | k
      · have := hpw i j hi hj k; omega
      · subst k; rfl
      · have := hpw j i hj hi k; omega
    have hl : lastOf L N ∈ L ∧ (lastOf L N).2 = N := by
      unfold lastOf
      cases hf : L.find? (fun p => decide (p.2 = N)) with
      | none => exact absurd (List.find?_eq_none.1 hf q hq) (by simp [hqN])
      | some z => exact ⟨List.mem_of_find?_eq_some hf, by have := List.find?_some hf; simpa using this⟩
    constructor
    · intro e; rw [e]; exact hl.2
    · intro e; exact key p h _ hl.1 e hl.2
def prcS (t : Trm) (r : Rul) (s : Sea) : Int := prcL t s.fell s.sp.length (spellsOf s.sp r)
def lngL (s : Sea) (r : Rul) : Int := ((lastOf (spellsOf s.sp r) s.sp.length).2 : Int) - ((lastOf (spellsOf s.sp r) s.sp.length).1 : Int)
def fineS (t : Trm) (r : Rul) (s : Sea) : Bool := !s.fell || decide (max t.out 1 ≤ lngL s r)
def sumP (t : Trm) (r : Rul) (l : List Sea) : Int := (l.map (prcS t r)).sum
def allT (t : Trm) (r : Rul) (l : List Sea) : Bool := l.all (fineS t r)
theorem sumP_take {t : Trm} {r : Rul} {l : List Sea} {i : Nat} (h : i < l.length) : sumP t r (l.take (i + 1)) = sumP t r (l.take i) + prcS t r l[i] := by
  unfold sumP
  rw [List.take_succ_eq_append_getElem h, List.map_append, List.sum_append]; simp
theorem allT_take {t : Trm} {r : Rul} {l : List Sea} {i : Nat} (h : i < l.length) : allT t r (l.take (i + 1)) = (allT t r (l.take i) && fineS t r l[i]) := by
  unfold allT
  rw [List.take_succ_eq_append_getElem h, List.all_append]; simp
theorem spells_ok {s : Sea} {r : Rul} (hr : r.ok = true) (hl : s.sp.length ≤ 60) : (∀ p ∈ spellsOf s.sp r, p.1 < p.2 ∧ p.2 ≤ s.sp.length) ∧ (spellsOf s.sp r).length ≤ 60 ∧ (spellsOf s.sp r).Pairwise fun p q => p.2 ≤ q.1 := by
  have hrf := Rul.ok_facts hr
  refine ⟨fun p hp => ?_, ?_, spells_sorted hrf.2.2.1 s.sp.length 0 (by omega)⟩
  · have := spells_facts hrf.2.2.1 s.sp.length 0 (by omega) p hp
    exact ⟨this.2.1, this.2.2.1⟩
  · have := restOf_len (sp := s.sp) (r := r) hrf.2.2.1 s.sp.length 0 (by omega)
    unfold spellsOf; omega
theorem prcS_bd {t : Trm} {r : Rul} {s : Sea} (ht : t.ok = true) (hr : r.ok = true) (hl : s.sp.length ≤ 60) : 0 ≤ prcS t r s ∧ prcS t r s ≤ 3660000 := by
  obtain ⟨h1, h2, _⟩ := spells_ok (s := s) hr hl
  have := prcL_bd (fell := s.fell) (N := s.sp.length) ht (L := spellsOf s.sp r) fun p hp => ⟨(h1 p hp).1, by have := (h1 p hp).2; omega⟩
  unfold prcS
  omega
theorem sumP_bd {t : Trm} {r : Rul} (ht : t.ok = true) (hr : r.ok = true) : ∀ {l : List Sea}, (∀ s ∈ l, s.sp.length ≤ 60) → 0 ≤ sumP t r l ∧ sumP t r l ≤ 3660000 * l.length
  | [], _ => by simp [sumP]
  | s :: l, h => by
    have h1 := prcS_bd ht hr (h s (by simp))
    have h2 := sumP_bd ht hr (l := l) fun q hq => h q (by simp [hq])
    have e : sumP t r (s :: l) = prcS t r s + sumP t r l := by simp [sumP]
    rw [e, List.length_cons]
    omega
theorem bin76n (a b c d : Int) : binT Try.prog .neq 76 (.agg [I a, I b]) (.agg [I c, I d]) = some (.bool (!(decide (a = c) && decide (b = d)))) := by
  have e : binT Try.prog .neq 76 (.agg [I a, I b]) (.agg [I c, I d]) = ((match eqI a c with | true => (match eqI b d with | true => some true | false => some false) | false => some false).map fun z => .bool (!z)) := by kernel_rfl
  rw [e, eqI_eq, eqI_eq]
  have h1 : (a == c) = decide (a = c) := rfl
  have h2 : (b == d) = decide (b = d) := rfl
  rw [h1, h2]
  cases decide (a = c) <;> cases decide (b = d) <;> rfl
theorem c107 (m : Nat) (sv v : AV) (sp : List Int) (fell : Bool) (L : List (Nat × Nat)) (N : Nat) (H : Heap) (hs : lenOf sv = some N) (hR : Row H v 2 (L.map spc)) (hl : L.length ≤ 1000) : RR (m + 1) (.fn 107 [.agg [sv, .bool fell], v]) H = some (.agg (spc (lastOf L N)), H) := by
  refine (R_fn _ _ _ _ _).trans ?_
  refine fn_ok Try.func107 rfl rfl (by kernel_rfl) (by kernel_rfl) ?_
  obtain ⟨W, hW⟩ : ∃ W : Heap, W = ⟨H.t, H.next, H.next⟩ := ⟨_, rfl⟩
  have hg : ∀ n, W.get n = H.get n := fun n => by rw [hW]; rfl
  have hN : W.next = H.next := by rw [hW]
  have hE : ∀ G, Grow W G → Ext H G := fun G g => ⟨by rw [← hN]; exact g.next, fun n k => by rw [g.get n (by rw [hN]; exact k), hg]⟩
  have hG : Grow W W := Grow.refl (by rw [hW]; exact Nat.le_refl _)
  rw [← hW]
  have hlen : lenOf v = some L.length := by simpa using hR.len
  have pb := lpl hs
  refine Ok.seq ?_
  refine Ok.region ?_
  refine OkO.box rfl rfl ?_
  refine OkO.alloc (z := [.int .i64 0, .int .i64 0]) rfl (by kernel_rfl) ?_
  refine OkO.nil ?_
  refine Ok.seq ?_
  refine Ok.seq ?_
  refine Ok.region ?_
  refine OkO.move rfl rfl ?_
  refine OkO.builtin rfl rfl rfl (bln (by kernel_rfl) (by first | assumption | rfl)) ?_
  refine OkO.move rfl rfl ?_
  refine OkO.nil ?_
  refine Ok.block ?_
  refine Ok.loop (fun n s => ∃ i : Nat, n = L.length - i ∧ i ≤ L.length ∧ (∀ (j : Nat) (hj : j < L.length), j < i → L[j].2 ≠ N) ∧ Has 5 [(2, .ptr W.next 0), (4, .ptr (W.next + 1) 0), (7, v), (8, I (L.length : Int)), (9, I (i : Int))] s.T ∧ s.D = [] ∧ Grow W s.H ∧ s.H.get W.next = some (.cells [sv, .bool fell] 66) ∧ s.H.get (W.next + 1) = some (.cells [I 0, I 0] 76) ∧ W.next + 2 ≤ s.H.next) (L.length) (by unfold loopFuel; omega)
    ⟨0, rfl, Nat.zero_le _, nofun, Has.of (by kernel_rfl), rfl, (by (try dsimp only); repeat (first | exact hG | apply Grow.new | (refine Grow.put ?_ _ (by first | omega | (simp only [hNw, hPt]; omega))))), (by first | assumption | (simp (disch := first | omega | (simp only [hNw, hPt]; omega)) only [gn0, gn1, gn2, gn3, gn4, gn5, gp0, gno, gpo] <;> first | rfl | assumption | exact gp0 _ _ _ | exact gn0 _ _)), (by first | assumption | (simp (disch := first | omega | (simp only [hNw, hPt]; omega)) only [gn0, gn1, gn2, gn3, gn4, gn5, gp0, gno, gpo] <;> first | rfl | assumption | exact gp0 _ _ _ | exact gn0 _ _)), by simp⟩ ?_
  rintro n ⟨T, D, G⟩ ⟨i, hn, hi, hall, ⟨f, hT⟩, hD, hg, hb0, hb1, hn2p⟩
  dsimp only at *
  subst hT hD
  have hgn := hg.next
  have eb0 : (G.get W.next).bind AObj.cs = some [sv, .bool fell] := by rw [hb0]; rfl
  refine Ok.seq ?_
  refine Ok.region ?_
  refine OkO.bin rfl rfl rfl (bin_lss _ _) ?_
  refine OkO.nil ?_
  refine Ok.seq ?_
  refine Ok.cond rfl (fun h1 => ?_) (fun h1 => ?_)
  · -- yes h1
    have hlt : i < L.length := by simpa using h1
    obtain ⟨ab, ao, acs, a1, a2q, a3, a4, a5, a6⟩ := Row.spell hR hlt
    have a2 : (G.get ab).bind AObj.cs = some acs := by rw [(hE _ hg).get _ a6]; exact a2q
    refine Ok.skip ?_
    refine Ok.seq ?_
    refine Ok.block ?_
    refine Ok.seq ?_
    refine Ok.region ?_
    refine OkO.index (sz := 2) rfl rfl rfl (by kernel_rfl) (by first | assumption | rfl | exact slAt_slice (by omega) | exact slAt_opn (by omega)) ?_ -- index ('Go.Operand.tmp', 7) ('Go.Operand.tmp', 9)
    refine OkO.load rfl rfl (ldg (n := 2) (by kernel_rfl) (by first | assumption | (simp (disch := first | omega | (simp only [hNw, hPt]; omega)) only [gn0, gn1, gn2, gn3, gn4, gn5, gp0, gno, gpo] <;> first | rfl | assumption | exact gp0 _ _ _ | exact gn0 _ _)) (by first | rfl | assumption)) ?_
    refine OkO.alloc (z := [.int .i64 0, .int .i64 0]) rfl (by kernel_rfl) ?_
    refine OkO.store rfl rfl rfl (sAc (n := 2) (ag := true) (by kernel_rfl) (by first | assumption | (simp (disch := first | omega | (simp only [hNw, hPt]; omega)) only [gn0, gn1, gn2, gn3, gn4, gn5, gp0, gno, gpo] <;> first | rfl | assumption | exact gp0 _ _ _ | exact gn0 _ _)) rfl (by first | rfl | assumption) (by first | rfl | exact spl_set _ _ _ (by first | assumption | omega | (simp; omega)))) ?_
    refine OkO.nil ?_
    refine Ok.seq ?_
    refine Ok.region ?_
    refine OkO.fieldAddr (o := 1) rfl (by kernel_rfl) rfl ?_
    refine OkO.load rfl rfl (lda (n := 1) (by kernel_rfl) (by first | assumption | (simp (disch := first | omega | (simp only [hNw, hPt]; omega)) only [gn0, gn1, gn2, gn3, gn4, gn5, gp0, gno, gpo] <;> first | rfl | assumption | exact gp0 _ _ _ | exact gn0 _ _)) (by first | rfl | assumption)) ?_
    refine OkO.fieldAddr (o := 0) rfl (by kernel_rfl) rfl ?_
    refine OkO.load rfl rfl (lda (n := 1) (by kernel_rfl) (by first | assumption | (simp (disch := first | omega | (simp only [hNw, hPt]; omega)) only [gn0, gn1, gn2, gn3, gn4, gn5, gp0, gno, gpo] <;> first | rfl | assumption | exact gp0 _ _ _ | exact gn0 _ _)) (by first | rfl | assumption)) ?_
    refine OkO.builtin rfl rfl rfl (bln (by kernel_rfl) (by first | assumption | rfl)) ?_
    refine OkO.bin rfl rfl rfl (bin_eql _ _) ?_
    refine OkO.nil ?_
    refine Ok.cond rfl (fun h2 => ?_) (fun h2 => ?_)
    · -- yes h2
      have h29 : L[i].2 = N := by (have h9 : (L[i].2 : Int) = (N : Int) := by simpa using h2); omega
      refine Ok.seq ?_
      refine Ok.region ?_
      refine OkO.load rfl rfl (ldg (n := 2) (by kernel_rfl) (by first | assumption | (simp (disch := first | omega | (simp only [hNw, hPt]; omega)) only [gn0, gn1, gn2, gn3, gn4, gn5, gp0, gno, gpo] <;> first | rfl | assumption | exact gp0 _ _ _ | exact gn0 _ _)) (by first | rfl | assumption)) ?_
      refine OkO.store rfl rfl rfl (sAc (n := 2) (ag := true) (by kernel_rfl) (by first | assumption | (simp (disch := first | omega | (simp only [hNw, hPt]; omega)) only [gn0, gn1, gn2, gn3, gn4, gn5, gp0, gno, gpo] <;> first | rfl | assumption | exact gp0 _ _ _ | exact gn0 _ _)) rfl (by first | rfl | assumption) (by first | rfl | exact spl_set _ _ _ (by first | assumption | omega | (simp; omega)))) ?_
      refine OkO.nil ?_
      refine Ok.ret ⟨.inr rfl, ?_⟩
      exact back_flat (resV_cell rfl (ldg (n := 2) (by kernel_rfl) (by first | assumption | (simp (disch := first | omega | (simp only [hNw, hPt]; omega)) only [gn0, gn1, gn2, gn3, gn4, gn5, gp0, gno, gpo] <;> first | rfl | assumption)) (by first | rfl | assumption)) resV_nil) (by rw [lastOf_at hlt hall h29]; rfl) rfl (by rw [← hW]; exact (by (try dsimp only); repeat (first | exact hg | exact hG | apply Grow.new | (refine Grow.put ?_ _ (by first | omega | (simp only [hNw, hPt]; omega))))))
    · -- no h2
      refine Ok.skip ?_
      refine Ok.region ?_
      refine OkO.bin rfl rfl rfl (bin_add (by omega) (by omega)) ?_
      refine OkO.move rfl rfl ?_
      refine OkO.nil ?_
      refine ⟨L.length - (i + 1), by omega, i + 1, rfl, by omega, fun j hj hji => ?_, Has.of (by kernel_rfl), rfl, (by (try dsimp only); repeat (first | exact hg | exact hG | apply Grow.new | (refine Grow.put ?_ _ (by first | omega | (simp only [hNw, hPt]; omega))))), (by first | assumption | (simp (disch := first | omega | (simp only [hNw, hPt]; omega)) only [gn0, gn1, gn2, gn3, gn4, gn5, gp0, gno, gpo] <;> first | rfl | assumption | exact gp0 _ _ _ | exact gn0 _ _)), (by first | assumption | (simp (disch := first | omega | (simp only [hNw, hPt]; omega)) only [gn0, gn1, gn2, gn3, gn4, gn5, gp0, gno, gpo] <;> first | rfl | assumption | exact gp0 _ _ _ | exact gn0 _ _)), by simp; omega⟩
      by_cases e : j = i
      · subst e; intro h9; rw [h9] at h2; simp at h2
      · exact hall j hj (by omega)
  · -- no h1
    have hge : i = L.length := by simp at h1; omega
    refine Ok.exit ?_
    refine Ok.seq ?_
    refine Ok.region ?_
    refine OkO.build (z := [.int .i64 0, .int .i64 0]) (pl := [(0, 1), (1, 1)]) rfl (by kernel_rfl) rfl rfl ?_
    refine OkO.store rfl rfl rfl (sAc (n := 2) (ag := true) (by kernel_rfl) (by first | assumption | (simp (disch := first | omega | (simp only [hNw, hPt]; omega)) only [gn0, gn1, gn2, gn3, gn4, gn5, gp0, gno, gpo] <;> first | rfl | assumption | exact gp0 _ _ _ | exact gn0 _ _)) rfl (by first | rfl | assumption) (by first | rfl | exact spl_set _ _ _ (by first | assumption | omega | (simp; omega)))) ?_
    refine OkO.nil ?_
    refine Ok.ret ⟨.inr rfl, ?_⟩
    exact back_flat (resV_cell rfl (ldg (n := 2) (by kernel_rfl) (by first | assumption | (simp (disch := first | omega | (simp only [hNw, hPt]; omega)) only [gn0, gn1, gn2, gn3, gn4, gn5, gp0, gno, gpo] <;> first | rfl | assumption)) (by first | rfl | assumption)) resV_nil) (by rw [lastOf_none (all_of_get fun j hj => hall j hj (by omega))]; rfl) rfl (by rw [← hW]; exact (by (try dsimp only); repeat (first | exact hg | exact hG | apply Grow.new | (refine Grow.put ?_ _ (by first | omega | (simp only [hNw, hPt]; omega))))))
end
end Go.Ev

set_option maxRecDepth 100000
set_option linter.unusedSimpArgs false
set_option linter.unusedVariables false
namespace Go.Ev
open Go Go.Proofs
noncomputable section
theorem Trm.ok_facts {t : Trm} (h : t.ok = true) : (0 ≤ t.out ∧ t.out ≤ 60) ∧ (0 ≤ t.price ∧ t.price ≤ 1000) ∧ (0 ≤ t.hour ∧ t.hour ≤ 1000) ∧ (0 ≤ t.less ∧ t.less ≤ 1000) ∧ 1 ≤ t.hold ∧ t.hold ≤ 60 := by
  unfold Trm.ok inB at h
  simp only [Bool.and_eq_true, decide_eq_true_eq] at h
  omega
theorem pair_ne {p q : Nat × Nat} (h : (!(decide ((p.1 : Int) = (q.1 : Int)) && decide ((p.2 : Int) = (q.2 : Int)))) = true) : ¬ p = q := by
  intro e
  subst e
  simp at h
theorem pair_eq {p q : Nat × Nat} (h : (!(decide ((p.1 : Int) = (q.1 : Int)) && decide ((p.2 : Int) = (q.2 : Int)))) = false) : p = q := by
  simp at h
  exact Prod.ext (by omega) (by omega)
theorem lastOf_bd {L : List (Nat × Nat)} {N : Nat} (hp : ∀ p ∈ L, p.1 < p.2 ∧ p.2 ≤ N) (hN : N ≤ 1000) : (lastOf L N).1 ≤ 1000 ∧ (lastOf L N).2 ≤ 1000 := by
  unfold lastOf
  cases hf : L.find? (fun p => decide (p.2 = N)) with
  | none => simp
  | some z => have := hp z (List.mem_of_find?_eq_some hf); simp; omega
theorem c100 (m : Nat) (x : AV) (q : Sea) (t : Trm) (r : Rul) (H : Heap) (hU : Ints H x q.sp) (hl : q.sp.length ≤ 60) (ht : t.ok = true) (hr : r.ok = true) : RR (m + 3) (.fn 100 [.agg t.c, .agg [x, .bool q.fell], .agg r.c]) H = some (.tup [I (prcS t r q), .bool (fineS t r q)], H) := by
  refine (R_fn _ _ _ _ _).trans ?_
  refine fn_ok Try.func100 rfl rfl (by kernel_rfl) (by kernel_rfl) ?_
  obtain ⟨W, hW⟩ : ∃ W : Heap, W = ⟨H.t, H.next, H.next⟩ := ⟨_, rfl⟩
  have hg : ∀ n, W.get n = H.get n := fun n => by rw [hW]; rfl
  have hN : W.next = H.next := by rw [hW]
  have hE : ∀ G, Grow W G → Ext H G := fun G g => ⟨by rw [← hN]; exact g.next, fun n k => by rw [g.get n (by rw [hN]; exact k), hg]⟩
  have hG : Grow W W := Grow.refl (by rw [hW]; exact Nat.le_refl _)
  rw [← hW]
  have hlen := hU.len
  have pb : x.plain = true := lpl hlen
  have ps : AV.plain (.agg [x, .bool q.fell]) = true := by simp [AV.plain, AV.plains, pb]
  have hok := spells_ok (s := q) hr hl
  have hlb := lastOf_bd hok.1 (by omega)
  have htf := Trm.ok_facts ht
  refine Ok.seq ?_
  refine Ok.region ?_
  refine OkO.box rfl rfl ?_
  refine OkO.box rfl rfl ?_
  refine OkO.box rfl rfl ?_
  refine OkO.assign rfl rfl ?_
  refine OkO.assign rfl rfl ?_
  refine OkO.nil ?_
  refine Ok.seq ?_
  refine Ok.region ?_
  refine OkO.load rfl rfl (ldg (n := 2) (by kernel_rfl) (by first | assumption | (simp (disch := first | omega | (simp only [hNw, hPt]; omega)) only [gn0, gn1, gn2, gn3, gn4, gn5, gp0, gno, gpo] <;> first | rfl | assumption | exact gp0 _ _ _ | exact gn0 _ _)) (by first | rfl | assumption)) ?_
  refine OkO.load rfl rfl (ldg (n := 3) (by kernel_rfl) (by first | assumption | (simp (disch := first | omega | (simp only [hNw, hPt]; omega)) only [gn0, gn1, gn2, gn3, gn4, gn5, gp0, gno, gpo] <;> first | rfl | assumption | exact gp0 _ _ _ | exact gn0 _ _)) (by first | rfl | assumption)) ?_
  refine OkO.callE rfl rfl rfl rfl rfl (c76 (m + 0) x q.sp q.fell r _ (hU.ext (hE _ (by (try dsimp only); repeat (first | exact hG | apply Grow.new | (refine Grow.put ?_ _ (by first | omega | (simp only [hNw, hPt]; omega))))))) (by omega) hr) ?_ -- "(sackung/alarm.Season).spells"
  rintro y Ha ⟨qa, ma⟩
  have n1 := qa.ext.next
  try simp only [hNw, hPt] at n1
  have gg1 : Grow W Ha := Grow.ret (by (try dsimp only); repeat (first | exact hG | apply Grow.new | (refine Grow.put ?_ _ (by first | omega | (simp only [hNw, hPt]; omega))))) qa
  have a1 : (Ha.get (W.next)).bind AObj.cs = some t.c := by rw [qa.ext.get _ (by first | omega | (simp only [hNw, hPt]; omega))]; first | assumption | (rw [gn0]; rfl) | (rw [get_put_eq] <;> rfl) | (simp (disch := first | omega | (simp only [hNw, hPt]; omega)) only [gn0, gn1, gn2, gn3, gn4, gn5, gp0, gno, gpo] <;> first | rfl | assumption | (rw [get_put_eq] <;> rfl))
  have x1 : (Ha.get (W.next + 1)).bind AObj.cs = some [x, .bool q.fell] := by rw [qa.ext.get _ (by first | omega | (simp only [hNw, hPt]; omega))]; first | assumption | (rw [gn0]; rfl) | (rw [get_put_eq] <;> rfl) | (simp (disch := first | omega | (simp only [hNw, hPt]; omega)) only [gn0, gn1, gn2, gn3, gn4, gn5, gp0, gno, gpo] <;> first | rfl | assumption | (rw [get_put_eq] <;> rfl))
  have r1 : (Ha.get (W.next + 2)).bind AObj.cs = some r.c := by rw [qa.ext.get _ (by first | omega | (simp only [hNw, hPt]; omega))]; first | assumption | (rw [gn0]; rfl) | (rw [get_put_eq] <;> rfl) | (simp (disch := first | omega | (simp only [hNw, hPt]; omega)) only [gn0, gn1, gn2, gn3, gn4, gn5, gp0, gno, gpo] <;> first | rfl | assumption | (rw [get_put_eq] <;> rfl))
  have hyr := ma.spells
  have hyl : lenOf y = some (spellsOf q.sp r).length := by simpa using hyr.len
  refine OkO.assign rfl rfl ?_
  refine OkO.nil ?_
  refine Ok.seq ?_
  refine Ok.region ?_
  refine OkO.load rfl rfl (ldg (n := 2) (by kernel_rfl) (by first | assumption | (simp (disch := first | omega | (simp only [hNw, hPt]; omega)) only [gn0, gn1, gn2, gn3, gn4, gn5, gp0, gno, gpo] <;> first | rfl | assumption | exact gp0 _ _ _ | exact gn0 _ _)) (by first | rfl | assumption)) ?_
  refine OkO.move rfl rfl ?_
  refine OkO.callV rfl rfl rfl rfl rfl (c107 (m + 1) x y q.sp q.fell (spellsOf q.sp r) q.sp.length _ (by simpa using hU.len) hyr (by omega)) ?_ -- "(sackung/alarm.Season).last"
  refine OkO.alloc (z := [.int .i64 0, .int .i64 0]) rfl (by kernel_rfl) ?_
  refine OkO.store rfl rfl rfl (sAc (n := 2) (ag := true) (by kernel_rfl) (by first | assumption | (simp (disch := first | omega | (simp only [hNw, hPt]; omega)) only [gn0, gn1, gn2, gn3, gn4, gn5, gp0, gno, gpo] <;> first | rfl | assumption | exact gp0 _ _ _ | exact gn0 _ _)) rfl (by first | rfl | assumption) (by first | rfl | exact spl_set _ _ _ (by first | assumption | omega | (simp; omega)))) ?_
  refine OkO.nil ?_
  refine Ok.seq ?_
  refine Ok.seq ?_
  refine Ok.region ?_
  refine OkO.move rfl rfl ?_
  refine OkO.builtin rfl rfl rfl (bln (by kernel_rfl) (by first | assumption | rfl)) ?_
  refine OkO.move rfl rfl ?_
  refine OkO.nil ?_
  refine Ok.block ?_
  have hNH : H.next ≤ W.next := by omega
  refine Ok.loop (fun n s => ∃ i : Nat, n = (spellsOf q.sp r).length - i ∧ i ≤ (spellsOf q.sp r).length ∧ Has 6 [(3, .ptr W.next 0), (4, .ptr (W.next + 1) 0), (5, .ptr (W.next + 2) 0), (6, I (prcL t q.fell q.sp.length ((spellsOf q.sp r).take i))), (9, .ptr Ha.next 0), (18, y), (19, I ((spellsOf q.sp r).length : Int)), (20, I (i : Int))] s.T ∧ s.D = [] ∧ Grow W s.H ∧ Ext Ha s.H ∧ s.H.get Ha.next = some (.cells (spc (lastOf (spellsOf q.sp r) q.sp.length)) 76) ∧ Ha.next < s.H.next) ((spellsOf q.sp r).length) (by unfold loopFuel; omega)
    ⟨0, rfl, Nat.zero_le _, Has.of (by kernel_rfl), rfl, (by (try dsimp only); repeat (first | exact gg1 | apply Grow.new | (refine Grow.put ?_ _ (by first | omega | (simp only [hNw, hPt]; omega))))), (by (try dsimp only); repeat (first | exact Ext.refl _ | assumption | apply Ext.new | (refine Ext.put ?_ _ (by first | omega | (simp only [hNw, hPt]; omega))))), (by first | assumption | (simp (disch := first | omega | (simp only [hNw, hPt]; omega)) only [gn0, gn1, gn2, gn3, gn4, gn5, gp0, gno, gpo] <;> first | rfl | assumption | exact gp0 _ _ _ | exact gn0 _ _)), by simp⟩ ?_
  rintro n ⟨T, D, G⟩ ⟨i, hn, hi, ⟨f, hT⟩, hD, hg, hx9, hbl, hbn⟩
  dsimp only at *
  subst hT hD
  have hgn := hg.next
  have eb0 : (G.get W.next).bind AObj.cs = some t.c := by rw [hx9.get _ (by omega)]; exact a1
  have eb1 : (G.get (W.next + 1)).bind AObj.cs = some [x, .bool q.fell] := by rw [hx9.get _ (by omega)]; exact x1
  have ebl : (G.get Ha.next).bind AObj.cs = some (spc (lastOf (spellsOf q.sp r) q.sp.length)) := by rw [hbl]; rfl
  refine Ok.seq ?_
  refine Ok.region ?_
  refine OkO.bin rfl rfl rfl (bin_lss _ _) ?_
  refine OkO.nil ?_
  refine Ok.seq ?_
  refine Ok.cond rfl (fun h1 => ?_) (fun h1 => ?_)
  · -- yes h1
    have hlt : i < (spellsOf q.sp r).length := by simpa using h1
    have hpi := hok.1 (spellsOf q.sp r)[i] (List.getElem_mem hlt)
    have hpb := prc1_bd (fell := q.fell) (N := q.sp.length) ht hpi.1 (by omega)
    have hqb := prcL_bd (fell := q.fell) (N := q.sp.length) ht (L := (spellsOf q.sp r).take i) (fun p hp => by have h9 := hok.1 p (List.mem_of_mem_take hp); omega)
    rw [List.length_take] at hqb
    obtain ⟨ab, ao, acs, k1, k2q, k3, k4, k5, k6⟩ := Row.spell hyr hlt
    have k2 : (G.get ab).bind AObj.cs = some acs := by rw [hx9.get _ k6]; exact k2q
    refine Ok.skip ?_
    refine Ok.seq ?_
    refine Ok.block ?_
    refine Ok.seq ?_
    refine Ok.region ?_
    refine OkO.index (sz := 2) rfl rfl rfl (by kernel_rfl) (by first | assumption | rfl | exact slAt_slice (by omega) | exact slAt_opn (by omega)) ?_ -- index ('Go.Operand.tmp', 18) ('Go.Operand.tmp', 20)
    refine OkO.load rfl rfl (ldg (n := 2) (by kernel_rfl) (by first | assumption | (simp (disch := first | omega | (simp only [hNw, hPt]; omega)) only [gn0, gn1, gn2, gn3, gn4, gn5, gp0, gno, gpo] <;> first | rfl | assumption | exact gp0 _ _ _ | exact gn0 _ _)) (by first | rfl | assumption)) ?_
    refine OkO.alloc (z := [.int .i64 0, .int .i64 0]) rfl (by kernel_rfl) ?_
    refine OkO.store rfl rfl rfl (sAc (n := 2) (ag := true) (by kernel_rfl) (by first | assumption | (simp (disch := first | omega | (simp only [hNw, hPt]; omega)) only [gn0, gn1, gn2, gn3, gn4, gn5, gp0, gno, gpo] <;> first | rfl | assumption | exact gp0 _ _ _ | exact gn0 _ _)) rfl (by first | rfl | assumption) (by first | rfl | exact spl_set _ _ _ (by first | assumption | omega | (simp; omega)))) ?_
    refine OkO.nil ?_
    refine Ok.seq ?_
    refine Ok.drawn [(0, true, []), (1, true, []), (2, true, []), (3, true, []), (4, false, [2]), (5, true, []), (6, true, []), (7, false, [])] (by kernel_rfl) ?_
    refine OkP.step ?_
    refine OkO.move rfl rfl ?_
    refine OkO.nil ⟨rfl, ?_⟩
    refine OkP.step ?_
    refine OkO.fieldAddr (o := 2) rfl (by kernel_rfl) rfl ?_
    refine OkO.nil ⟨rfl, ?_⟩
    refine OkP.step ?_
    refine OkO.load rfl rfl (lda (n := 1) (by kernel_rfl) (by first | assumption | (simp (disch := first | omega | (simp only [hNw, hPt]; omega)) only [gn0, gn1, gn2, gn3, gn4, gn5, gp0, gno, gpo] <;> first | rfl | assumption | exact gp0 _ _ _ | exact gn0 _ _)) (by first | rfl | assumption)) ?_
    refine OkO.nil ⟨rfl, ?_⟩
    refine OkP.step ?_
    refine OkO.load rfl rfl (ldg (n := 2) (by kernel_rfl) (by first | assumption | (simp (disch := first | omega | (simp only [hNw, hPt]; omega)) only [gn0, gn1, gn2, gn3, gn4, gn5, gp0, gno, gpo] <;> first | rfl | assumption | exact gp0 _ _ _ | exact gn0 _ _)) (by first | rfl | assumption)) ?_
    refine OkO.nil ⟨rfl, ?_⟩
    refine OkP.step ?_
    refine OkO.callV rfl rfl rfl rfl rfl (c108 (m + 1) _ _ _ (by omega) (by omega)) ?_ -- "(sackung/alarm.Spell).hours"
    refine OkO.nil ⟨(sco (sld rfl rfl (lda (n := 1) (by kernel_rfl) (by first | assumption | (simp (disch := first | omega | (simp only [hNw, hPt]; omega)) only [gn0, gn1, gn2, gn3, gn4, gn5, gp0, gno, gpo] <;> first | rfl | assumption | exact gp0 _ _ _ | exact gn0 _ _)) (by first | rfl | assumption)) rfl (eqr _ (by first | rfl | exact ps | exact lpl (by assumption) | (simp [AV.plain, AV.plains, AV.cells, pb])))) rfl), ?_⟩
    refine OkP.step ?_
    refine OkO.bin rfl rfl rfl (bin_mul (by omega) (by omega)) ?_
    refine OkO.nil ⟨rfl, ?_⟩
    refine OkP.step ?_
    refine OkO.bin rfl rfl rfl (bin_add (by omega) (by omega)) ?_
    refine OkO.nil ⟨rfl, ?_⟩
    refine OkP.step ?_
    refine OkO.assign rfl rfl ?_
    refine OkO.nil ⟨rfl, ?_⟩
    refine OkP.nil ?_
    refine Ok.seq ?_
    refine Ok.region ?_
    refine OkO.fieldAddr (o := 1) rfl (by kernel_rfl) rfl ?_
    refine OkO.load rfl rfl (lda (n := 1) (by kernel_rfl) (by first | assumption | (simp (disch := first | omega | (simp only [hNw, hPt]; omega)) only [gn0, gn1, gn2, gn3, gn4, gn5, gp0, gno, gpo] <;> first | rfl | assumption | exact gp0 _ _ _ | exact gn0 _ _)) (by first | rfl | assumption)) ?_
    refine OkO.un rfl rfl rfl ?_
    refine OkO.move rfl rfl ?_
    refine OkO.split (d := 34) rfl (fun g2 => ?_) (fun g2 => ?_)
    · -- true g2
      have hf : q.fell = false := by simpa using g2
      refine OkO.skip rfl ?_
      refine OkO.skip rfl ?_
      refine OkO.skip rfl ?_
      refine OkO.pick (b := true) rfl rfl (fun _ => rfl) nofun ?_
      refine OkO.nil ?_
      refine Ok.condT rfl ?_
      refine Ok.region ?_
      refine OkO.move rfl rfl ?_
      refine OkO.fieldAddr (o := 1) rfl (by kernel_rfl) rfl ?_
      refine OkO.load rfl rfl (lda (n := 1) (by kernel_rfl) (by first | assumption | (simp (disch := first | omega | (simp only [hNw, hPt]; omega)) only [gn0, gn1, gn2, gn3, gn4, gn5, gp0, gno, gpo] <;> first | rfl | assumption | exact gp0 _ _ _ | exact gn0 _ _)) (by first | rfl | assumption)) ?_
      refine OkO.bin rfl rfl rfl (bin_add (by omega) (by omega)) ?_
      refine OkO.assign rfl rfl ?_
      refine OkO.nil ?_
      refine Ok.region ?_
      refine OkO.bin rfl rfl rfl (bin_add (by omega) (by omega)) ?_
      refine OkO.move rfl rfl ?_
      refine OkO.nil ?_
      have e6 : prcL t q.fell q.sp.length ((spellsOf q.sp r).take (i + 1)) = prcL t q.fell q.sp.length ((spellsOf q.sp r).take i) + t.hour * (((spellsOf q.sp r)[i].2 : Int) - ((spellsOf q.sp r)[i].1 : Int)) + t.price := by rw [prcL_take hlt, prc1, if_pos (.inl hf)]; omega
      refine ⟨(spellsOf q.sp r).length - (i + 1), by omega, i + 1, rfl, by omega, ?_, rfl, (by (try dsimp only); repeat (first | exact hg | exact hG | apply Grow.new | (refine Grow.put ?_ _ (by first | omega | (simp only [hNw, hPt]; omega))))), (by (try dsimp only); repeat (first | exact Ext.refl _ | assumption | apply Ext.new | (refine Ext.put ?_ _ (by first | omega | (simp only [hNw, hPt]; omega))))), (by first | assumption | (simp (disch := first | omega | (simp only [hNw, hPt]; omega)) only [gn0, gn1, gn2, gn3, gn4, gn5, gp0, gno, gpo] <;> first | rfl | assumption | exact gp0 _ _ _ | exact gn0 _ _)), by simp; omega⟩
      rw [e6]
      exact Has.of (by kernel_rfl)
    · -- false g2
      have hf : q.fell = true := by simpa using g2
      refine OkO.load rfl rfl (ldg (n := 2) (by kernel_rfl) (by first | assumption | (simp (disch := first | omega | (simp only [hNw, hPt]; omega)) only [gn0, gn1, gn2, gn3, gn4, gn5, gp0, gno, gpo] <;> first | rfl | assumption | exact gp0 _ _ _ | exact gn0 _ _)) (by first | rfl | assumption)) ?_
      refine OkO.load rfl rfl (ldg (n := 2) (by kernel_rfl) (by first | assumption | (simp (disch := first | omega | (simp only [hNw, hPt]; omega)) only [gn0, gn1, gn2, gn3, gn4, gn5, gp0, gno, gpo] <;> first | rfl | assumption | exact gp0 _ _ _ | exact gn0 _ _)) (by first | rfl | assumption)) ?_
      refine OkO.binT rfl rfl rfl (bin76n _ _ _ _) ?_
      refine OkO.pick (b := false) rfl rfl nofun (fun _ => rfl) ?_
      refine OkO.nil ?_
      refine Ok.cond rfl (fun h3 => ?_) (fun h3 => ?_)
      · -- yes h3
        have h8 := mt (last_iff (N := q.sp.length) hok.2.2 hok.1 (p := (spellsOf q.sp r)[i]) (List.getElem_mem hlt)).2 (pair_ne h3)
        have hpn : (spellsOf q.sp r)[i].2 < q.sp.length := by omega
        refine Ok.region ?_
        refine OkO.move rfl rfl ?_
        refine OkO.fieldAddr (o := 1) rfl (by kernel_rfl) rfl ?_
        refine OkO.load rfl rfl (lda (n := 1) (by kernel_rfl) (by first | assumption | (simp (disch := first | omega | (simp only [hNw, hPt]; omega)) only [gn0, gn1, gn2, gn3, gn4, gn5, gp0, gno, gpo] <;> first | rfl | assumption | exact gp0 _ _ _ | exact gn0 _ _)) (by first | rfl | assumption)) ?_
        refine OkO.bin rfl rfl rfl (bin_add (by omega) (by omega)) ?_
        refine OkO.assign rfl rfl ?_
        refine OkO.nil ?_
        refine Ok.region ?_
        refine OkO.bin rfl rfl rfl (bin_add (by omega) (by omega)) ?_
        refine OkO.move rfl rfl ?_
        refine OkO.nil ?_
        have e6 : prcL t q.fell q.sp.length ((spellsOf q.sp r).take (i + 1)) = prcL t q.fell q.sp.length ((spellsOf q.sp r).take i) + t.hour * (((spellsOf q.sp r)[i].2 : Int) - ((spellsOf q.sp r)[i].1 : Int)) + t.price := by rw [prcL_take hlt, prc1, if_pos (.inr hpn)]; omega
        refine ⟨(spellsOf q.sp r).length - (i + 1), by omega, i + 1, rfl, by omega, ?_, rfl, (by (try dsimp only); repeat (first | exact hg | exact hG | apply Grow.new | (refine Grow.put ?_ _ (by first | omega | (simp only [hNw, hPt]; omega))))), (by (try dsimp only); repeat (first | exact Ext.refl _ | assumption | apply Ext.new | (refine Ext.put ?_ _ (by first | omega | (simp only [hNw, hPt]; omega))))), (by first | assumption | (simp (disch := first | omega | (simp only [hNw, hPt]; omega)) only [gn0, gn1, gn2, gn3, gn4, gn5, gp0, gno, gpo] <;> first | rfl | assumption | exact gp0 _ _ _ | exact gn0 _ _)), by simp; omega⟩
        rw [e6]
        exact Has.of (by kernel_rfl)
      · -- no h3
        have hpn := (last_iff (N := q.sp.length) hok.2.2 hok.1 (p := (spellsOf q.sp r)[i]) (List.getElem_mem hlt)).1 (pair_eq h3)
        refine Ok.skip ?_
        refine Ok.region ?_
        refine OkO.bin rfl rfl rfl (bin_add (by omega) (by omega)) ?_
        refine OkO.move rfl rfl ?_
        refine OkO.nil ?_
        have e6 : prcL t q.fell q.sp.length ((spellsOf q.sp r).take (i + 1)) = prcL t q.fell q.sp.length ((spellsOf q.sp r).take i) + t.hour * (((spellsOf q.sp r)[i].2 : Int) - ((spellsOf q.sp r)[i].1 : Int)) := by rw [prcL_take hlt, prc1, if_neg (by intro h9; rcases h9 with h9 | h9; (· rw [hf] at h9; cases h9); (· omega))]; omega
        refine ⟨(spellsOf q.sp r).length - (i + 1), by omega, i + 1, rfl, by omega, ?_, rfl, (by (try dsimp only); repeat (first | exact hg | exact hG | apply Grow.new | (refine Grow.put ?_ _ (by first | omega | (simp only [hNw, hPt]; omega))))), (by (try dsimp only); repeat (first | exact Ext.refl _ | assumption | apply Ext.new | (refine Ext.put ?_ _ (by first | omega | (simp only [hNw, hPt]; omega))))), (by first | assumption | (simp (disch := first | omega | (simp only [hNw, hPt]; omega)) only [gn0, gn1, gn2, gn3, gn4, gn5, gp0, gno, gpo] <;> first | rfl | assumption | exact gp0 _ _ _ | exact gn0 _ _)), by simp; omega⟩
        rw [e6]
        exact Has.of (by kernel_rfl)
  · -- no h1
    have hge : (spellsOf q.sp r).length ≤ i := by simp at h1; omega
    rw [List.take_of_length_le hge]
    refine Ok.exit ?_
    refine Ok.seq ?_
    refine Ok.drawn [(0, true, []), (1, true, []), (2, true, []), (3, true, []), (4, true, []), (5, true, []), (7, true, []), (8, true, []), (9, true, []), (6, false, [8, 2]), (10, true, []), (11, true, []), (12, false, [8, 5, 2]), (13, true, [])] (by kernel_rfl) ?_
    refine OkP.step ?_
    refine OkO.move rfl rfl ?_
    refine OkO.nil ⟨rfl, ?_⟩
    refine OkP.step ?_
    refine OkO.fieldAddr (o := 1) rfl (by kernel_rfl) rfl ?_
    refine OkO.nil ⟨rfl, ?_⟩
    refine OkP.step ?_
    refine OkO.load rfl rfl (lda (n := 1) (by kernel_rfl) (by first | assumption | (simp (disch := first | omega | (simp only [hNw, hPt]; omega)) only [gn0, gn1, gn2, gn3, gn4, gn5, gp0, gno, gpo] <;> first | rfl | assumption | exact gp0 _ _ _ | exact gn0 _ _)) (by first | rfl | assumption)) ?_
    refine OkO.nil ⟨rfl, ?_⟩
    refine OkP.step ?_
    refine OkO.un rfl rfl rfl ?_
    refine OkO.nil ⟨rfl, ?_⟩
    refine OkP.step ?_
    refine OkO.move rfl rfl ?_
    refine OkO.nil ⟨rfl, ?_⟩
    refine OkP.split (d := 48) rfl (fun g4 => ?_) (fun g4 => ?_)
    · -- true g4
      have hf : q.fell = false := by simpa using g4
      refine OkP.step ?_
      refine OkO.skip rfl ?_
      refine OkO.nil ⟨rfl, ?_⟩
      refine OkP.step ?_
      refine OkO.skip rfl ?_
      refine OkO.nil ⟨rfl, ?_⟩
      refine OkP.step ?_
      refine OkO.skip rfl ?_
      refine OkO.nil ⟨rfl, ?_⟩
      refine OkP.step ?_
      refine OkO.skip rfl ?_
      refine OkO.nil ⟨rfl, ?_⟩
      refine OkP.step ?_
      refine OkO.skip rfl ?_
      refine OkO.nil ⟨(sco (still_skip rfl) (sco (sld rfl rfl (lda (n := 1) (by kernel_rfl) (by first | assumption | (simp (disch := first | omega | (simp only [hNw, hPt]; omega)) only [gn0, gn1, gn2, gn3, gn4, gn5, gp0, gno, gpo] <;> first | rfl | assumption | exact gp0 _ _ _ | exact gn0 _ _)) (by first | rfl | assumption)) rfl (eqr _ (by first | rfl | exact ps | exact lpl (by assumption) | (simp [AV.plain, AV.plains, AV.cells, pb])))) rfl)), ?_⟩
      refine OkP.step ?_
      refine OkO.skip rfl ?_
      refine OkO.nil ⟨rfl, ?_⟩
      refine OkP.step ?_
      refine OkO.pick (b := true) rfl rfl (fun _ => rfl) nofun ?_
      refine OkO.nil ⟨rfl, ?_⟩
      refine OkP.step ?_
      refine OkO.assign rfl rfl ?_
      refine OkO.nil ⟨(sco (still_skip rfl) (sco (still_skip rfl) (sco (sld rfl rfl (lda (n := 1) (by kernel_rfl) (by first | assumption | (simp (disch := first | omega | (simp only [hNw, hPt]; omega)) only [gn0, gn1, gn2, gn3, gn4, gn5, gp0, gno, gpo] <;> first | rfl | assumption | exact gp0 _ _ _ | exact gn0 _ _)) (by first | rfl | assumption)) rfl (eqr _ (by first | rfl | exact ps | exact lpl (by assumption) | (simp [AV.plain, AV.plains, AV.cells, pb])))) rfl))), ?_⟩
      refine OkP.step ?_
      refine OkO.assign rfl rfl ?_
      refine OkO.nil ⟨rfl, ?_⟩
      refine OkP.nil ?_
      refine Ok.ret ⟨.inr rfl, ?_⟩
      exact back_flat rfl (by unfold fineS prcS; rw [hf]; rfl) rfl (by rw [← hW]; exact (by (try dsimp only); repeat (first | exact hg | exact hG | apply Grow.new | (refine Grow.put ?_ _ (by first | omega | (simp only [hNw, hPt]; omega))))))
    · -- false g4
      have hf : q.fell = true := by simpa using g4
      refine OkP.step ?_
      refine OkO.load rfl rfl (ldg (n := 2) (by kernel_rfl) (by first | assumption | (simp (disch := first | omega | (simp only [hNw, hPt]; omega)) only [gn0, gn1, gn2, gn3, gn4, gn5, gp0, gno, gpo] <;> first | rfl | assumption | exact gp0 _ _ _ | exact gn0 _ _)) (by first | rfl | assumption)) ?_
      refine OkO.nil ⟨rfl, ?_⟩
      refine OkP.step ?_
      refine OkO.fieldAddr (o := 0) rfl (by kernel_rfl) rfl ?_
      refine OkO.nil ⟨rfl, ?_⟩
      refine OkP.step ?_
      refine OkO.load rfl rfl (lda (n := 1) (by kernel_rfl) (by first | assumption | (simp (disch := first | omega | (simp only [hNw, hPt]; omega)) only [gn0, gn1, gn2, gn3, gn4, gn5, gp0, gno, gpo] <;> first | rfl | assumption | exact gp0 _ _ _ | exact gn0 _ _)) (by first | rfl | assumption)) ?_
      refine OkO.nil ⟨rfl, ?_⟩
      refine OkP.step ?_
      refine OkO.builtin rfl rfl rfl (builtin_max2 _ _) ?_
      refine OkO.nil ⟨rfl, ?_⟩
      refine OkP.step ?_
      refine OkO.callV rfl rfl rfl rfl rfl (c108 (m + 1) _ _ _ (by omega) (by omega)) ?_ -- "(sackung/alarm.Spell).hours"
      refine OkO.nil ⟨(sco (sld rfl rfl (lda (n := 1) (by kernel_rfl) (by first | assumption | (simp (disch := first | omega | (simp only [hNw, hPt]; omega)) only [gn0, gn1, gn2, gn3, gn4, gn5, gp0, gno, gpo] <;> first | rfl | assumption | exact gp0 _ _ _ | exact gn0 _ _)) (by first | rfl | assumption)) rfl (eqr _ (by first | rfl | exact ps | exact lpl (by assumption) | (simp [AV.plain, AV.plains, AV.cells, pb])))) (sco (sld rfl rfl (lda (n := 1) (by kernel_rfl) (by first | assumption | (simp (disch := first | omega | (simp only [hNw, hPt]; omega)) only [gn0, gn1, gn2, gn3, gn4, gn5, gp0, gno, gpo] <;> first | rfl | assumption | exact gp0 _ _ _ | exact gn0 _ _)) (by first | rfl | assumption)) rfl (eqr _ (by first | rfl | exact ps | exact lpl (by assumption) | (simp [AV.plain, AV.plains, AV.cells, pb])))) rfl)), ?_⟩
      refine OkP.step ?_
      refine OkO.bin rfl rfl rfl (bin_geq _ _) ?_
      refine OkO.nil ⟨rfl, ?_⟩
      refine OkP.step ?_
      refine OkO.pick (b := false) rfl rfl nofun (fun _ => rfl) ?_
      refine OkO.nil ⟨rfl, ?_⟩
      refine OkP.step ?_
      refine OkO.assign rfl rfl ?_
      refine OkO.nil ⟨(sco (sld rfl rfl (lda (n := 1) (by kernel_rfl) (by first | assumption | (simp (disch := first | omega | (simp only [hNw, hPt]; omega)) only [gn0, gn1, gn2, gn3, gn4, gn5, gp0, gno, gpo] <;> first | rfl | assumption | exact gp0 _ _ _ | exact gn0 _ _)) (by first | rfl | assumption)) rfl (eqr _ (by first | rfl | exact ps | exact lpl (by assumption) | (simp [AV.plain, AV.plains, AV.cells, pb])))) (sco (sld rfl rfl (ldg (n := 2) (by kernel_rfl) (by first | assumption | (simp (disch := first | omega | (simp only [hNw, hPt]; omega)) only [gn0, gn1, gn2, gn3, gn4, gn5, gp0, gno, gpo] <;> first | rfl | assumption | exact gp0 _ _ _ | exact gn0 _ _)) (by first | rfl | assumption)) rfl (eqr _ (by first | rfl | exact ps | exact lpl (by assumption) | (simp [AV.plain, AV.plains, AV.cells, pb])))) (sco (sld rfl rfl (lda (n := 1) (by kernel_rfl) (by first | assumption | (simp (disch := first | omega | (simp only [hNw, hPt]; omega)) only [gn0, gn1, gn2, gn3, gn4, gn5, gp0, gno, gpo] <;> first | rfl | assumption | exact gp0 _ _ _ | exact gn0 _ _)) (by first | rfl | assumption)) rfl (eqr _ (by first | rfl | exact ps | exact lpl (by assumption) | (simp [AV.plain, AV.plains, AV.cells, pb])))) rfl))), ?_⟩
      refine OkP.step ?_
      refine OkO.assign rfl rfl ?_
      refine OkO.nil ⟨rfl, ?_⟩
      refine OkP.nil ?_
      refine Ok.ret ⟨.inr rfl, ?_⟩
      exact back_flat rfl (by unfold fineS lngL prcS; rw [hf]; rfl) rfl (by rw [← hW]; exact (by (try dsimp only); repeat (first | exact hg | exact hG | apply Grow.new | (refine Grow.put ?_ _ (by first | omega | (simp only [hNw, hPt]; omega))))))
end
end Go.Ev

set_option maxRecDepth 100000
set_option linter.unusedSimpArgs false
set_option linter.unusedVariables false
namespace Go.Ev
open Go Go.Proofs
noncomputable section
theorem c78 (m : Nat) (v : AV) (l : List Sea) (t : Trm) (r : Rul) (H : Heap) (hS : SeasAt H v l) (hl9 : l.length ≤ 10) (hs9 : ∀ s ∈ l, s.sp.length ≤ 60) (ht : t.ok = true) (hr : r.ok = true) : RR (m + 4) (.fn 78 [.agg t.c, v, .agg r.c]) H = some (.tup [I (sumP t r l), .bool (allT t r l)], H) := by
  refine (R_fn _ _ _ _ _).trans ?_
  refine fn_ok Try.func78 rfl rfl (by kernel_rfl) (by kernel_rfl) ?_
  obtain ⟨W, hW⟩ : ∃ W : Heap, W = ⟨H.t, H.next, H.next⟩ := ⟨_, rfl⟩
  have hg : ∀ n, W.get n = H.get n := fun n => by rw [hW]; rfl
  have hN : W.next = H.next := by rw [hW]
  have hE : ∀ G, Grow W G → Ext H G := fun G g => ⟨by rw [← hN]; exact g.next, fun n k => by rw [g.get n (by rw [hN]; exact k), hg]⟩
  have hG : Grow W W := Grow.refl (by rw [hW]; exact Nat.le_refl _)
  rw [← hW]
  have hlen := hS.len
  refine Ok.seq ?_
  refine Ok.region ?_
  refine OkO.box rfl rfl ?_
  refine OkO.box rfl rfl ?_
  refine OkO.assign rfl rfl ?_
  refine OkO.assign rfl rfl ?_
  refine OkO.nil ?_
  refine Ok.seq ?_
  refine Ok.region ?_
  refine OkO.assign rfl rfl ?_
  refine OkO.nil ?_
  refine Ok.seq ?_
  refine Ok.seq ?_
  refine Ok.region ?_
  refine OkO.move rfl rfl ?_
  refine OkO.builtin rfl rfl rfl (bln (by kernel_rfl) (by first | assumption | rfl)) ?_
  refine OkO.move rfl rfl ?_
  refine OkO.nil ?_
  refine Ok.block ?_
  refine Ok.loop (fun n s => ∃ i : Nat, n = l.length - i ∧ i ≤ l.length ∧ Has 6 [(3, .ptr W.next 0), (5, .ptr (W.next + 1) 0), (6, I (sumP t r (l.take i))), (7, .bool (allT t r (l.take i))), (12, v), (13, I (l.length : Int)), (14, I (i : Int))] s.T ∧ s.D = [] ∧ Grow W s.H ∧ s.H.get W.next = some (.cells t.c 86) ∧ s.H.get (W.next + 1) = some (.cells r.c 68) ∧ W.next + 2 ≤ s.H.next) (l.length) (by unfold loopFuel; omega)
    ⟨0, rfl, Nat.zero_le _, Has.of (by kernel_rfl), rfl, (by (try dsimp only); repeat (first | exact hG | apply Grow.new | (refine Grow.put ?_ _ (by first | omega | (simp only [hNw, hPt]; omega))))), (by first | assumption | (simp (disch := first | omega | (simp only [hNw, hPt]; omega)) only [gn0, gn1, gn2, gn3, gn4, gn5, gp0, gno, gpo] <;> first | rfl | assumption | exact gp0 _ _ _ | exact gn0 _ _)), (by first | assumption | (simp (disch := first | omega | (simp only [hNw, hPt]; omega)) only [gn0, gn1, gn2, gn3, gn4, gn5, gp0, gno, gpo] <;> first | rfl | assumption | exact gp0 _ _ _ | exact gn0 _ _)), by simp⟩ ?_
  rintro n ⟨T, D, G⟩ ⟨i, hn, hi, ⟨f, hT⟩, hD, hg, hb0, hb1, hn2p⟩
  dsimp only at *
  subst hT hD
  have hgn := hg.next
  have eb0 : (G.get W.next).bind AObj.cs = some t.c := by rw [hb0]; rfl
  have eb1 : (G.get (W.next + 1)).bind AObj.cs = some r.c := by rw [hb1]; rfl
  refine Ok.seq ?_
  refine Ok.region ?_
  refine OkO.bin rfl rfl rfl (bin_lss _ _) ?_
  refine OkO.nil ?_
  refine Ok.seq ?_
  refine Ok.cond rfl (fun h1 => ?_) (fun h1 => ?_)
  · -- yes h1
    have hlt : i < l.length := by simpa using h1
    obtain ⟨x, bb, off, cs, i1, i2q, i3, i4, i5, i6, i7⟩ := hS.at_ i hlt
    have i2 : (G.get bb).bind AObj.cs = some cs := by rw [(hE _ hg).get _ i6]; exact i2q
    obtain ⟨x1, x2⟩ := len_one i7.len
    have px : x.plain = true := lpl i7.len
    have psx : AV.plain (.agg [x, .bool l[i].fell]) = true := by simp [AV.plain, AV.plains, px]
    have at1 : atoms (AV.agg [x, .bool l[i].fell]).cells = true := by (show atoms [x, .bool l[i].fell] = true; simp [atoms, x2, show ∀ z, (AV.bool z).atom = true from fun _ => rfl])
    have hne : bb ≠ G.next := by omega
    have hl60 : l[i].sp.length ≤ 60 := hs9 l[i] (List.getElem_mem hlt)
    have hpb := prcS_bd (s := l[i]) ht hr hl60
    have hqb := sumP_bd ht hr (l := l.take i) (fun q hq => hs9 q (List.mem_of_mem_take hq))
    rw [List.length_take] at hqb
    refine Ok.skip ?_
    refine Ok.seq ?_
    refine Ok.block ?_
    refine Ok.seq ?_
    refine Ok.region ?_
    refine OkO.index (sz := 2) rfl rfl rfl (by kernel_rfl) (by first | assumption | rfl | exact slAt_slice (by omega) | exact slAt_opn (by omega)) ?_ -- index ('Go.Operand.tmp', 12) ('Go.Operand.tmp', 14)
    refine OkO.load rfl rfl (ldg (n := 2) (by kernel_rfl) (by first | assumption | (simp (disch := first | omega | (simp only [hNw, hPt]; omega)) only [gn0, gn1, gn2, gn3, gn4, gn5, gp0, gno, gpo] <;> first | rfl | assumption | exact gp0 _ _ _ | exact gn0 _ _)) (by first | rfl | assumption)) ?_
    refine OkO.alloc (z := [.nils, .bool false]) rfl (by kernel_rfl) ?_
    refine OkO.store rfl rfl rfl (sAc (n := 2) (ag := true) (by kernel_rfl) (by first | assumption | (simp (disch := first | omega | (simp only [hNw, hPt]; omega)) only [gn0, gn1, gn2, gn3, gn4, gn5, gp0, gno, gpo] <;> first | rfl | assumption | exact gp0 _ _ _ | exact gn0 _ _)) rfl (by first | rfl | assumption) (by first | rfl | exact spl_set _ _ _ (by first | assumption | omega | (simp; omega)))) ?_
    refine OkO.nil ?_
    refine Ok.seq ?_
    refine Ok.region ?_
    refine OkO.load rfl rfl (ldg (n := 5) (by kernel_rfl) (by first | assumption | (simp (disch := first | omega | (simp only [hNw, hPt]; omega)) only [gn0, gn1, gn2, gn3, gn4, gn5, gp0, gno, gpo] <;> first | rfl | assumption | exact gp0 _ _ _ | exact gn0 _ _)) (by first | rfl | assumption)) ?_
    refine OkO.load rfl rfl (ldg (n := 2) (by kernel_rfl) (by first | assumption | (simp (disch := first | omega | (simp only [hNw, hPt]; omega)) only [gn0, gn1, gn2, gn3, gn4, gn5, gp0, gno, gpo] <;> first | rfl | assumption | exact gp0 _ _ _ | exact gn0 _ _)) (by first | rfl | assumption)) ?_
    refine OkO.load rfl rfl (ldg (n := 3) (by kernel_rfl) (by first | assumption | (simp (disch := first | omega | (simp only [hNw, hPt]; omega)) only [gn0, gn1, gn2, gn3, gn4, gn5, gp0, gno, gpo] <;> first | rfl | assumption | exact gp0 _ _ _ | exact gn0 _ _)) (by first | rfl | assumption)) ?_
    refine OkO.callV rfl rfl rfl rfl rfl (c100 m x l[i] t r _ ((i7.ext (hE _ hg)).ext (by (try dsimp only); repeat (first | exact Ext.refl _ | assumption | apply Ext.new | (refine Ext.put ?_ _ (by first | omega | (simp only [hNw, hPt]; omega)))))) (by omega) ht hr) ?_ -- "(sackung/alarm.Terms).season"
    refine OkO.move rfl rfl ?_
    refine OkO.extract rfl rfl rfl ?_
    refine OkO.extract rfl rfl rfl ?_
    refine OkO.assign rfl rfl ?_
    refine OkO.assign rfl rfl ?_
    refine OkO.nil ?_
    refine Ok.seq ?_
    refine Ok.region ?_
    refine OkO.move rfl rfl ?_
    refine OkO.move rfl rfl ?_
    refine OkO.bin rfl rfl rfl (bin_add (by omega) (by omega)) ?_
    refine OkO.assign rfl rfl ?_
    refine OkO.nil ?_
    refine Ok.region ?_
    refine OkO.move rfl rfl ?_
    refine OkO.move rfl rfl ?_
    refine OkO.split (d := 29) rfl (fun g2 => ?_) (fun g2 => ?_)
    · -- true g2
      have hf : allT t r (l.take i) = true := g2
      refine OkO.move rfl rfl ?_
      refine OkO.pick (b := true) rfl rfl (fun _ => rfl) nofun ?_
      refine OkO.assign rfl rfl ?_
      refine OkO.nil ?_
      refine Ok.region ?_
      refine OkO.bin rfl rfl rfl (bin_add (by omega) (by omega)) ?_
      refine OkO.move rfl rfl ?_
      refine OkO.nil ?_
      have e6 : sumP t r (l.take (i + 1)) = sumP t r (l.take i) + prcS t r l[i] := sumP_take hlt
      have e7 : allT t r (l.take (i + 1)) = fineS t r l[i] := by rw [allT_take hlt, hf]; rfl
      refine ⟨l.length - (i + 1), by omega, i + 1, rfl, by omega, ?_, rfl, (by (try dsimp only); repeat (first | exact hg | exact hG | apply Grow.new | (refine Grow.put ?_ _ (by first | omega | (simp only [hNw, hPt]; omega))))), (by first | assumption | (simp (disch := first | omega | (simp only [hNw, hPt]; omega)) only [gn0, gn1, gn2, gn3, gn4, gn5, gp0, gno, gpo] <;> first | rfl | assumption | exact gp0 _ _ _ | exact gn0 _ _)), (by first | assumption | (simp (disch := first | omega | (simp only [hNw, hPt]; omega)) only [gn0, gn1, gn2, gn3, gn4, gn5, gp0, gno, gpo] <;> first | rfl | assumption | exact gp0 _ _ _ | exact gn0 _ _)), by simp; omega⟩
      rw [e6, e7]
      exact Has.of (by kernel_rfl)
    · -- false g2
      have hf : allT t r (l.take i) = false := g2
      refine OkO.skip rfl ?_
      refine OkO.pick (b := false) rfl rfl nofun (fun _ => rfl) ?_
      refine OkO.assign rfl rfl ?_
      refine OkO.nil ?_
      refine Ok.region ?_
      refine OkO.bin rfl rfl rfl (bin_add (by omega) (by omega)) ?_
      refine OkO.move rfl rfl ?_
      refine OkO.nil ?_
      have e6 : sumP t r (l.take (i + 1)) = sumP t r (l.take i) + prcS t r l[i] := sumP_take hlt
      have e7 : allT t r (l.take (i + 1)) = false := by rw [allT_take hlt, hf]; rfl
      refine ⟨l.length - (i + 1), by omega, i + 1, rfl, by omega, ?_, rfl, (by (try dsimp only); repeat (first | exact hg | exact hG | apply Grow.new | (refine Grow.put ?_ _ (by first | omega | (simp only [hNw, hPt]; omega))))), (by first | assumption | (simp (disch := first | omega | (simp only [hNw, hPt]; omega)) only [gn0, gn1, gn2, gn3, gn4, gn5, gp0, gno, gpo] <;> first | rfl | assumption | exact gp0 _ _ _ | exact gn0 _ _)), (by first | assumption | (simp (disch := first | omega | (simp only [hNw, hPt]; omega)) only [gn0, gn1, gn2, gn3, gn4, gn5, gp0, gno, gpo] <;> first | rfl | assumption | exact gp0 _ _ _ | exact gn0 _ _)), by simp; omega⟩
      rw [e6, e7]
      exact Has.of (by kernel_rfl)
  · -- no h1
    have hge : l.length ≤ i := by simp at h1; omega
    rw [List.take_of_length_le hge]
    refine Ok.exit ?_
    refine Ok.seq ?_
    refine Ok.region ?_
    refine OkO.move rfl rfl ?_
    refine OkO.move rfl rfl ?_
    refine OkO.assign rfl rfl ?_
    refine OkO.assign rfl rfl ?_
    refine OkO.nil ?_
    refine Ok.ret ⟨.inr rfl, ?_⟩
    exact back_flat rfl rfl rfl (by rw [← hW]; exact hg)
theorem termErr_facts {l : List Sea} {t : Trm} (h : termErr l t = 0) : t.ok = true ∧ l.length ≤ 10 ∧ (∀ s ∈ l, s.sp.length ≤ 60) ∧ 0 < l.length ∧ seasErr l = 0 ∧ ∀ s ∈ l, ∀ x ∈ s.sp, 0 ≤ x ∧ x ≤ 1000 := by
  unfold termErr at h
  split at h
  · rename_i h1; exact absurd h h1
  · rename_i h1
    have h1' : seasErr l = 0 := Classical.byContradiction h1
    obtain ⟨k1, k2, k3⟩ := seasErr_facts h1'
    split at h
    · cases h
    · rename_i h2
      split at h
      · rename_i h3; exact ⟨h3, k1, k2, by omega, h1', k3⟩
      · cases h
theorem c44K (m : Nat) (v : AV) (l : List Sea) (t : Trm) (r : Rul) (H : Heap) (hS : SeasG H v l) (hl9 : l.length ≤ 100000) (hs9 : ∀ s ∈ l, s.sp.length ≤ 100000) (he : termErr l t = 0) (hr : r.ok = true) : RR (m + 8) (.fn 44 [v, .agg t.c, .agg r.c]) H = some (.tup [I (sumP t r l), .bool (allT t r l), I 0], H) := by
  refine (R_fn _ _ _ _ _).trans ?_
  refine fn_ok Try.func44 rfl rfl (by kernel_rfl) (by kernel_rfl) ?_
  obtain ⟨W, hW⟩ : ∃ W : Heap, W = ⟨H.t, H.next, H.next⟩ := ⟨_, rfl⟩
  have hg : ∀ n, W.get n = H.get n := fun n => by rw [hW]; rfl
  have hN : W.next = H.next := by rw [hW]
  have hE : ∀ G, Grow W G → Ext H G := fun G g => ⟨by rw [← hN]; exact g.next, fun n k => by rw [g.get n (by rw [hN]; exact k), hg]⟩
  have hG : Grow W W := Grow.refl (by rw [hW]; exact Nat.le_refl _)
  rw [← hW]
  have hlen := hS.at.len
  have hf := termErr_facts he
  refine Ok.seq ?_
  refine Ok.region ?_
  refine OkO.box rfl rfl ?_
  refine OkO.box rfl rfl ?_
  refine OkO.assign rfl rfl ?_
  refine OkO.assign rfl rfl ?_
  refine OkO.assign rfl rfl ?_
  refine OkO.nil ?_
  refine Ok.seq ?_
  refine Ok.seq ?_
  refine Ok.region ?_
  refine OkO.move rfl rfl ?_
  refine OkO.load rfl rfl (ldg (n := 5) (by kernel_rfl) (by first | assumption | (simp (disch := first | omega | (simp only [hNw, hPt]; omega)) only [gn0, gn1, gn2, gn3, gn4, gn5, gp0, gno, gpo] <;> first | rfl | assumption | exact gp0 _ _ _ | exact gn0 _ _)) (by first | rfl | assumption)) ?_
  refine OkO.callV rfl rfl rfl rfl rfl ((c77 (m + 0) v l t _ (hS.ext (hE _ (by (try dsimp only); repeat (first | exact hG | apply Grow.new | (refine Grow.put ?_ _ (by first | omega | (simp only [hNw, hPt]; omega))))))) hl9 hs9).trans (by rw [he])) ?_ -- "sackung/alarm.checkTerms"
  refine OkO.assign rfl rfl ?_
  refine OkO.nil ?_
  refine Ok.seq ?_
  refine Ok.region ?_
  refine OkO.move rfl rfl ?_
  refine OkO.bin rfl rfl rfl (bin_neq _ _) ?_
  refine OkO.nil ?_
  refine Ok.condF rfl ?_
  refine Ok.skip ?_
  refine Ok.seq ?_
  refine Ok.seq ?_
  refine Ok.region ?_
  refine OkO.load rfl rfl (ldg (n := 3) (by kernel_rfl) (by first | assumption | (simp (disch := first | omega | (simp only [hNw, hPt]; omega)) only [gn0, gn1, gn2, gn3, gn4, gn5, gp0, gno, gpo] <;> first | rfl | assumption | exact gp0 _ _ _ | exact gn0 _ _)) (by first | rfl | assumption)) ?_
  refine OkO.callV rfl rfl rfl rfl rfl ((c75 (m + 5) r _).trans (by rw [hr])) ?_ -- "(sackung/alarm.Rule).valid"
  refine OkO.un rfl rfl rfl ?_
  refine OkO.nil ?_
  refine Ok.cond rfl (fun h1 => ?_) (fun h1 => ?_)
  · -- yes h1
    exact absurd h1 (by simp)
  · -- no h1
    refine Ok.skip ?_
    refine Ok.seq ?_
    refine Ok.region ?_
    refine OkO.load rfl rfl (ldg (n := 5) (by kernel_rfl) (by first | assumption | (simp (disch := first | omega | (simp only [hNw, hPt]; omega)) only [gn0, gn1, gn2, gn3, gn4, gn5, gp0, gno, gpo] <;> first | rfl | assumption | exact gp0 _ _ _ | exact gn0 _ _)) (by first | rfl | assumption)) ?_
    refine OkO.move rfl rfl ?_
    refine OkO.load rfl rfl (ldg (n := 3) (by kernel_rfl) (by first | assumption | (simp (disch := first | omega | (simp only [hNw, hPt]; omega)) only [gn0, gn1, gn2, gn3, gn4, gn5, gp0, gno, gpo] <;> first | rfl | assumption | exact gp0 _ _ _ | exact gn0 _ _)) (by first | rfl | assumption)) ?_
    refine OkO.callV rfl rfl rfl rfl rfl (c78 (m + 3) v l t r _ (hS.at.ext (hE _ (by (try dsimp only); repeat (first | exact hG | apply Grow.new | (refine Grow.put ?_ _ (by first | omega | (simp only [hNw, hPt]; omega))))))) hf.2.1 hf.2.2.1 hf.1 hr) ?_ -- "(sackung/alarm.Terms).together"
    refine OkO.move rfl rfl ?_
    refine OkO.extract rfl rfl rfl ?_
    refine OkO.extract rfl rfl rfl ?_
    refine OkO.assign rfl rfl ?_
    refine OkO.assign rfl rfl ?_
    refine OkO.nil ?_
    refine Ok.seq ?_
    refine Ok.region ?_
    refine OkO.move rfl rfl ?_
    refine OkO.move rfl rfl ?_
    refine OkO.assign rfl rfl ?_
    refine OkO.assign rfl rfl ?_
    refine OkO.assign rfl rfl ?_
    refine OkO.nil ?_
    refine Ok.ret ⟨.inr rfl, ?_⟩
    exact back_flat rfl rfl rfl (by rw [← hW]; exact (by (try dsimp only); repeat (first | exact hG | apply Grow.new | (refine Grow.put ?_ _ (by first | omega | (simp only [hNw, hPt]; omega))))))
end
end Go.Ev

set_option maxRecDepth 100000
set_option linter.unusedSimpArgs false
set_option linter.unusedVariables false
namespace Go.Ev
open Go Go.Proofs
noncomputable section
def sv1 (t : Trm) (fell : Bool) (N : Nat) (p : Nat × Nat) : Bool := fell && !(decide (p.2 < N)) && decide (max 1 t.out ≤ (p.2 : Int) - (p.1 : Int))
end
end Go.Ev

set_option maxRecDepth 100000
set_option linter.unusedSimpArgs false
set_option linter.unusedVariables false
namespace Go.Ev
open Go Go.Proofs
noncomputable section
end
end Go.Ev

set_option maxRecDepth 100000
set_option linter.unusedSimpArgs false
set_option linter.unusedVariables false
namespace Go.Ev
open Go Go.Proofs
noncomputable section
theorem ruleOf_ok {t : Trm} {k : Nat} (ht : t.ok = true) (hk : k ≤ 1000) : (ruleOf t (k : Int)).ok = true := by
  have hf := Trm.ok_facts ht
  unfold Rul.ok ruleOf inB
  simp only [Bool.and_eq_true, decide_eq_true_eq]
  omega
def priceK (t : Trm) (l : List Sea) (k : Nat) : Int := sumP t (ruleOf t (k : Int)) l
def fineK (t : Trm) (l : List Sea) (k : Nat) : Bool := allT t (ruleOf t (k : Int)) l
/-- The best rule of those that have been tried. -/
def BS (t : Trm) (l : List Sea) (S : Nat → Prop) (q : Rul) (p : Int) (fd : Bool) : Prop :=
  (fd = false ∧ q = ⟨0, 0, 0⟩ ∧ p = 0 ∧ ∀ k, S k → fineK t l k = false) ∨
    (fd = true ∧ ∃ st : Nat, S st ∧ q = ruleOf t (st : Int) ∧ p = priceK t l st ∧ fineK t l st = true ∧ ∀ k, S k → fineK t l k = true → p < priceK t l k ∨ (p = priceK t l k ∧ k ≤ st))
theorem BS.new {t : Trm} {l : List Sea} {S S' : Nat → Prop} {q : Rul} {p : Int} {fd : Bool} {k : Nat} (h : BS t l S q p fd) (hS : ∀ j, S' j ↔ S j ∨ j = k) (hf : fineK t l k = true) (hc : fd = true → priceK t l k < p ∨ (priceK t l k = p ∧ ∀ j, S j → j ≤ k)) :
    BS t l S' (ruleOf t (k : Int)) (priceK t l k) true := by
  refine .inr ⟨rfl, k, (hS k).2 (.inr rfl), rfl, rfl, hf, fun j hj hfj => ?_⟩
  rcases (hS j).1 hj with hj | rfl
  · rcases h with ⟨h1, _, _, h4⟩ | ⟨h1, st, h2, h3, h4, h5, h6⟩
    · rw [h4 j hj] at hfj; cases hfj
    · rcases hc h1 with hc | ⟨hc, hk⟩
      · rcases h6 j hj hfj with h | ⟨h, _⟩ <;> exact .inl (by omega)
      · have := hk j hj
        rcases h6 j hj hfj with h | ⟨h, _⟩
        · exact .inl (by omega)
        · exact .inr ⟨by omega, this⟩
  · exact .inr ⟨rfl, Nat.le_refl _⟩
theorem BS.same {t : Trm} {l : List Sea} {S S' : Nat → Prop} {q : Rul} {p : Int} {fd : Bool} {k : Nat} (h : BS t l S q p fd) (hS : ∀ j, S' j ↔ S j ∨ j = k) (hc : fineK t l k = true → fd = true ∧ (p < priceK t l k ∨ (p = priceK t l k ∧ ∀ j, S j → k ≤ j))) : BS t l S' q p fd := by
  rcases h with ⟨h1, h2, h3, h4⟩ | ⟨h1, st, h2, h3, h4, h5, h6⟩
  · refine .inl ⟨h1, h2, h3, fun j hj => ?_⟩
    rcases (hS j).1 hj with hj | rfl
    · exact h4 j hj
    · cases hf : fineK t l j with
      | false => rfl
      | true => have := (hc hf).1; rw [h1] at this; cases this
  · refine .inr ⟨h1, st, (hS st).2 (.inl h2), h3, h4, h5, fun j hj hfj => ?_⟩
    rcases (hS j).1 hj with hj | rfl
    · exact h6 j hj hfj
    · rcases (hc hfj).2 with h | ⟨h, h'⟩
      · exact .inl h
      · exact .inr ⟨h, h' st h2⟩
theorem BS.uniq {t : Trm} {l : List Sea} {S S' : Nat → Prop} {q q' : Rul} {p p' : Int} {fd fd' : Bool} (h : BS t l S q p fd) (h' : BS t l S' q' p' fd') (hS : ∀ j, S' j ↔ S j) : q = q' ∧ p = p' ∧ fd = fd' := by
  rcases h with ⟨h1, h2, h3, h4⟩ | ⟨h1, st, h2, h3, h4, h5, h6⟩
  · rcases h' with ⟨k1, k2, k3, k4⟩ | ⟨k1, st', k2, k3, k4, k5, k6⟩
    · exact ⟨by rw [h2, k2], by rw [h3, k3], by rw [h1, k1]⟩
    · rw [h4 st' ((hS _).1 k2)] at k5; cases k5
  · rcases h' with ⟨k1, k2, k3, k4⟩ | ⟨k1, st', k2, k3, k4, k5, k6⟩
    · rw [k4 st ((hS _).2 h2)] at h5; cases h5
    · have a := h6 st' ((hS _).1 k2) k5
      have b := k6 st ((hS _).2 h2) h5
      have e : st = st' := by omega
      subst e
      exact ⟨by rw [h3, k3], by rw [h4, k4], by rw [h1, k1]⟩
theorem c49E (m : Nat) (v : AV) (l : List Sea) (t : Trm) (H : Heap) (hS : SeasG H v l) (hl9 : l.length ≤ 100000) (hs9 : ∀ s ∈ l, s.sp.length ≤ 100000) (he : termErr l t ≠ 0) : RR (m + 10) (.fn 49 [v, .agg t.c]) H = some (.tup [.agg [I 0, I 0, I 0], I 0, I (termErr l t)], H) := by
  refine (R_fn _ _ _ _ _).trans ?_
  refine fn_ok Try.func49 rfl rfl (by kernel_rfl) (by kernel_rfl) ?_
  obtain ⟨W, hW⟩ : ∃ W : Heap, W = ⟨H.t, H.next, H.next⟩ := ⟨_, rfl⟩
  have hg : ∀ n, W.get n = H.get n := fun n => by rw [hW]; rfl
  have hN : W.next = H.next := by rw [hW]
  have hE : ∀ G, Grow W G → Ext H G := fun G g => ⟨by rw [← hN]; exact g.next, fun n k => by rw [g.get n (by rw [hN]; exact k), hg]⟩
  have hG : Grow W W := Grow.refl (by rw [hW]; exact Nat.le_refl _)
  rw [← hW]
  have hlen := hS.at.len
  refine Ok.seq ?_
  refine Ok.region ?_
  refine OkO.box rfl rfl ?_
  refine OkO.alloc (z := [.int .i64 0, .int .i64 0, .int .i64 0]) rfl (by kernel_rfl) ?_
  refine OkO.assign rfl rfl ?_
  refine OkO.assign rfl rfl ?_
  refine OkO.nil ?_
  refine Ok.seq ?_
  refine Ok.seq ?_
  refine Ok.region ?_
  refine OkO.move rfl rfl ?_
  refine OkO.load rfl rfl (ldg (n := 5) (by kernel_rfl) (by first | assumption | (simp (disch := first | omega | (simp only [hNw, hPt]; omega)) only [gn0, gn1, gn2, gn3, gn4, gn5, gp0, gno, gpo] <;> first | rfl | assumption | exact gp0 _ _ _ | exact gn0 _ _)) (by first | rfl | assumption)) ?_
  refine OkO.callV rfl rfl rfl rfl rfl (c77 (m + 2) v l t _ (hS.ext (hE _ (by (try dsimp only); repeat (first | exact hG | apply Grow.new | (refine Grow.put ?_ _ (by first | omega | (simp only [hNw, hPt]; omega))))))) (by omega) (fun s hs => by have := hs9 s hs; omega)) ?_ -- "sackung/alarm.checkTerms"
  refine OkO.assign rfl rfl ?_
  refine OkO.nil ?_
  refine Ok.seq ?_
  refine Ok.region ?_
  refine OkO.move rfl rfl ?_
  refine OkO.bin rfl rfl rfl (bin_neq _ _) ?_
  refine OkO.nil ?_
  refine Ok.cond rfl (fun h1 => ?_) (fun h1 => ?_)
  · -- yes h1
    refine Ok.seq ?_
    refine Ok.region ?_
    refine OkO.build (z := [.int .i64 0, .int .i64 0, .int .i64 0]) (pl := [(0, 1), (1, 1), (2, 1)]) rfl (by kernel_rfl) rfl rfl ?_
    refine OkO.move rfl rfl ?_
    refine OkO.store rfl rfl rfl (sAc (n := 3) (ag := true) (by kernel_rfl) (by first | assumption | (simp (disch := first | omega | (simp only [hNw, hPt]; omega)) only [gn0, gn1, gn2, gn3, gn4, gn5, gp0, gno, gpo] <;> first | rfl | assumption | exact gp0 _ _ _ | exact gn0 _ _)) rfl (by first | rfl | assumption) (by first | rfl | exact spl_set _ _ _ (by first | assumption | omega | (simp; omega)))) ?_
    refine OkO.assign rfl rfl ?_
    refine OkO.assign rfl rfl ?_
    refine OkO.nil ?_
    refine Ok.ret ⟨.inr rfl, ?_⟩
    exact back_flat (resV_cell rfl (ldg (n := 3) (by kernel_rfl) (by first | assumption | (simp (disch := first | omega | (simp only [hNw, hPt]; omega)) only [gn0, gn1, gn2, gn3, gn4, gn5, gp0, gno, gpo] <;> first | rfl | assumption)) (by first | rfl | assumption)) (resV_tmp rfl (resV_tmp rfl resV_nil))) (rfl) rfl (by rw [← hW]; exact (by (try dsimp only); repeat (first | exact hG | apply Grow.new | (refine Grow.put ?_ _ (by first | omega | (simp only [hNw, hPt]; omega))))))
  · -- no h1
    exact absurd h1 (by simp; exact he)
theorem c49K (m : Nat) (v : AV) (l : List Sea) (t : Trm) (H : Heap) (hS : SeasG H v l) (he : termErr l t = 0) (hl9 : l.length ≤ 10) (hs9 : ∀ s ∈ l, s.sp.length ≤ 60) (ht : t.ok = true) : ∃ v' H', RR (m + 10) (.fn 49 [v, .agg t.c]) H = some (v', H') ∧ ∃ (q : Rul) (p : Int) (fd : Bool), v' = .tup [.agg q.c, I p, I (if fd = true then 0 else 11)] ∧ H' = H ∧ BS t l (fun j => j < 1001) q p fd := by
  show ∃ v' H', evFn Try.prog (RR (m + 9)) 49 [v, .agg t.c] H = some (v', H') ∧ ∃ (q : Rul) (p : Int) (fd : Bool), v' = .tup [.agg q.c, I p, I (if fd = true then 0 else 11)] ∧ H' = H ∧ BS t l (fun j => j < 1001) q p fd
  refine fn_okE Try.func49 rfl rfl (by kernel_rfl) (by kernel_rfl) ?_
  obtain ⟨W, hW⟩ : ∃ W : Heap, W = ⟨H.t, H.next, H.next⟩ := ⟨_, rfl⟩
  have hg : ∀ n, W.get n = H.get n := fun n => by rw [hW]; rfl
  have hN : W.next = H.next := by rw [hW]
  have hE : ∀ G, Grow W G → Ext H G := fun G g => ⟨by rw [← hN]; exact g.next, fun n k => by rw [g.get n (by rw [hN]; exact k), hg]⟩
  have hG : Grow W W := Grow.refl (by rw [hW]; exact Nat.le_refl _)
  rw [← hW]
  have hlen := hS.at.len
  have htf := Trm.ok_facts ht
  refine Ok.seq ?_
  refine Ok.region ?_
  refine OkO.box rfl rfl ?_
  refine OkO.alloc (z := [.int .i64 0, .int .i64 0, .int .i64 0]) rfl (by kernel_rfl) ?_
  refine OkO.assign rfl rfl ?_
  refine OkO.assign rfl rfl ?_
  refine OkO.nil ?_
  refine Ok.seq ?_
  refine Ok.seq ?_
  refine Ok.region ?_
  refine OkO.move rfl rfl ?_
  refine OkO.load rfl rfl (ldg (n := 5) (by kernel_rfl) (by first | assumption | (simp (disch := first | omega | (simp only [hNw, hPt]; omega)) only [gn0, gn1, gn2, gn3, gn4, gn5, gp0, gno, gpo] <;> first | rfl | assumption | exact gp0 _ _ _ | exact gn0 _ _)) (by first | rfl | assumption)) ?_
  refine OkO.callV rfl rfl rfl rfl rfl ((c77 (m + 2) v l t _ (hS.ext (hE _ (by (try dsimp only); repeat (first | exact hG | apply Grow.new | (refine Grow.put ?_ _ (by first | omega | (simp only [hNw, hPt]; omega))))))) (by omega) (fun s hs => by have := hs9 s hs; omega)).trans (by rw [he])) ?_ -- "sackung/alarm.checkTerms"
  refine OkO.assign rfl rfl ?_
  refine OkO.nil ?_
  refine Ok.seq ?_
  refine Ok.region ?_
  refine OkO.move rfl rfl ?_
  refine OkO.bin rfl rfl rfl (bin_neq _ _) ?_
  refine OkO.nil ?_
  refine Ok.condF rfl ?_
  refine Ok.skip ?_
  refine Ok.seq ?_
  refine Ok.region ?_
  refine OkO.assign rfl rfl ?_
  refine OkO.nil ?_
  refine Ok.seq ?_
  refine Ok.seq ?_
  refine Ok.region ?_
  refine OkO.assign rfl rfl ?_
  refine OkO.nil ?_
  refine Ok.block ?_
  refine Ok.loop (fun n s => ∃ (k : Nat) (q : Rul) (p : Int) (fd : Bool), n = 1001 - k ∧ k ≤ 1001 ∧ BS t l (fun j => j < k) q p fd ∧ Has 6 [(0, v), (3, .ptr W.next 0), (4, .ptr (W.next + 1) 0), (5, I p), (6, I (if fd = true then 0 else 11)), (8, I (k : Int))] s.T ∧ s.D = [] ∧ Grow W s.H ∧ s.H.get W.next = some (.cells t.c 86) ∧ s.H.get (W.next + 1) = some (.cells q.c 68) ∧ W.next + 2 ≤ s.H.next) (1001) (by unfold loopFuel; omega)
    ⟨0, ⟨0, 0, 0⟩, 0, false, rfl, Nat.zero_le _, .inl ⟨rfl, rfl, rfl, fun j hj => absurd hj (Nat.not_lt_zero j)⟩, Has.of (by kernel_rfl), rfl, (by (try dsimp only); repeat (first | exact hG | apply Grow.new | (refine Grow.put ?_ _ (by first | omega | (simp only [hNw, hPt]; omega))))), (by first | assumption | (simp (disch := first | omega | (simp only [hNw, hPt]; omega)) only [gn0, gn1, gn2, gn3, gn4, gn5, gp0, gno, gpo] <;> first | rfl | assumption | exact gp0 _ _ _ | exact gn0 _ _)), (by first | assumption | (simp (disch := first | omega | (simp only [hNw, hPt]; omega)) only [gn0, gn1, gn2, gn3, gn4, gn5, gp0, gno, gpo] <;> first | rfl | assumption | exact gp0 _ _ _ | exact gn0 _ _)), by simp⟩ ?_
  rintro n ⟨T, D, G⟩ ⟨k, q, p, fd, hn, hk, hbs, ⟨f, hT⟩, hD, hg, hb0, hb1, hn2p⟩
  dsimp only at *
  subst hT hD
  have hgn := hg.next
  have eb0 : (G.get W.next).bind AObj.cs = some t.c := by rw [hb0]; rfl
  have eb1 : (G.get (W.next + 1)).bind AObj.cs = some q.c := by rw [hb1]; rfl
  refine Ok.seq ?_
  refine Ok.seq ?_
  refine Ok.region ?_
  refine OkO.move rfl rfl ?_
  refine OkO.bin rfl rfl rfl (bin_leq _ _) ?_
  refine OkO.nil ?_
  refine Ok.cond rfl (fun h1 => ?_) (fun h1 => ?_)
  · -- yes h1
    have hk9 : k ≤ 1000 := by (have h9 : (k : Int) ≤ 1000 := by simpa using h1); omega
    refine Ok.skip ?_
    refine Ok.seq ?_
    refine Ok.block ?_
    refine Ok.seq ?_
    refine Ok.region ?_
    refine OkO.load rfl rfl (ldg (n := 5) (by kernel_rfl) (by first | assumption | (simp (disch := first | omega | (simp only [hNw, hPt]; omega)) only [gn0, gn1, gn2, gn3, gn4, gn5, gp0, gno, gpo] <;> first | rfl | assumption | exact gp0 _ _ _ | exact gn0 _ _)) (by first | rfl | assumption)) ?_
    refine OkO.move rfl rfl ?_
    refine OkO.callV rfl rfl rfl rfl rfl (c80 (m + 8) t (k : Int) _ (by omega) (by omega)) ?_ -- "(sackung/alarm.Terms).rule"
    refine OkO.alloc (z := [.int .i64 0, .int .i64 0, .int .i64 0]) rfl (by kernel_rfl) ?_
    refine OkO.store rfl rfl rfl (sAc (n := 3) (ag := true) (by kernel_rfl) (by first | assumption | (simp (disch := first | omega | (simp only [hNw, hPt]; omega)) only [gn0, gn1, gn2, gn3, gn4, gn5, gp0, gno, gpo] <;> first | rfl | assumption | exact gp0 _ _ _ | exact gn0 _ _)) rfl (by first | rfl | assumption) (by first | rfl | exact spl_set _ _ _ (by first | assumption | omega | (simp; omega)))) ?_
    refine OkO.nil ?_
    refine Ok.seq ?_
    refine Ok.region ?_
    refine OkO.load rfl rfl (ldg (n := 5) (by kernel_rfl) (by first | assumption | (simp (disch := first | omega | (simp only [hNw, hPt]; omega)) only [gn0, gn1, gn2, gn3, gn4, gn5, gp0, gno, gpo] <;> first | rfl | assumption | exact gp0 _ _ _ | exact gn0 _ _)) (by first | rfl | assumption)) ?_
    refine OkO.move rfl rfl ?_
    refine OkO.load rfl rfl (ldg (n := 3) (by kernel_rfl) (by first | assumption | (simp (disch := first | omega | (simp only [hNw, hPt]; omega)) only [gn0, gn1, gn2, gn3, gn4, gn5, gp0, gno, gpo] <;> first | rfl | assumption | exact gp0 _ _ _ | exact gn0 _ _)) (by first | rfl | assumption)) ?_
    refine OkO.callV rfl rfl rfl rfl rfl ((c78 (m + 5) v l t (ruleOf t (k : Int)) _ (((hS.at.ext (hE _ hg))).ext (by (try dsimp only); repeat (first | exact Ext.refl _ | assumption | apply Ext.new | (refine Ext.put ?_ _ (by first | omega | (simp only [hNw, hPt]; omega)))))) hl9 hs9 ht (ruleOf_ok ht (by omega))).trans (show _ = some (AV.tup [I (priceK t l k), .bool (fineK t l k)], _) from rfl)) ?_ -- "(sackung/alarm.Terms).together"
    refine OkO.move rfl rfl ?_
    refine OkO.extract rfl rfl rfl ?_
    refine OkO.extract rfl rfl rfl ?_
    refine OkO.assign rfl rfl ?_
    refine OkO.assign rfl rfl ?_
    refine OkO.nil ?_
    refine Ok.seq ?_
    refine Ok.region ?_
    refine OkO.move rfl rfl ?_
    refine OkO.move rfl rfl ?_
    refine OkO.split (d := 34) rfl (fun g2 => ?_) (fun g2 => ?_)
    · -- true g2
      have hfk : fineK t l k = true := g2
      refine OkO.move rfl rfl ?_
      refine OkO.bin rfl rfl rfl (bin_neq _ _) ?_
      refine OkO.move rfl rfl ?_
      refine OkO.split (d := 37) rfl (fun g3 => ?_) (fun g3 => ?_)
      · -- true g3
        have hfd : fd = false := by (cases fd; (· rfl); (· simp at g3))
        refine OkO.skip rfl ?_
        refine OkO.skip rfl ?_
        refine OkO.skip rfl ?_
        refine OkO.pick (b := true) rfl rfl (fun _ => rfl) nofun ?_
        refine OkO.pick (b := true) rfl rfl (fun _ => rfl) nofun ?_
        refine OkO.nil ?_
        refine Ok.condT rfl ?_
        refine Ok.region ?_
        refine OkO.load rfl rfl (ldg (n := 3) (by kernel_rfl) (by first | assumption | (simp (disch := first | omega | (simp only [hNw, hPt]; omega)) only [gn0, gn1, gn2, gn3, gn4, gn5, gp0, gno, gpo] <;> first | rfl | assumption | exact gp0 _ _ _ | exact gn0 _ _)) (by first | rfl | assumption)) ?_
        refine OkO.move rfl rfl ?_
        refine OkO.store rfl rfl rfl (sAc (n := 3) (ag := true) (by kernel_rfl) (by first | assumption | (simp (disch := first | omega | (simp only [hNw, hPt]; omega)) only [gn0, gn1, gn2, gn3, gn4, gn5, gp0, gno, gpo] <;> first | rfl | assumption | exact gp0 _ _ _ | exact gn0 _ _)) rfl (by first | rfl | assumption) (by first | rfl | exact spl_set _ _ _ (by first | assumption | omega | (simp; omega)))) ?_
        refine OkO.assign rfl rfl ?_
        refine OkO.assign rfl rfl ?_
        refine OkO.nil ?_
        refine Ok.region ?_
        refine OkO.move rfl rfl ?_
        refine OkO.bin rfl rfl rfl (bin_add (by omega) (by omega)) ?_
        refine OkO.assign rfl rfl ?_
        refine OkO.nil ?_
        refine ⟨1001 - (k + 1), by omega, k + 1, ruleOf t (k : Int), priceK t l k, true, rfl, by omega, hbs.new (k := k) (fun j => by omega) hfk (fun h9 => by rw [hfd] at h9; cases h9), Has.of (by kernel_rfl), rfl, (by (try dsimp only); repeat (first | exact hg | exact hG | apply Grow.new | (refine Grow.put ?_ _ (by first | omega | (simp only [hNw, hPt]; omega))))), (by first | assumption | (simp (disch := first | omega | (simp only [hNw, hPt]; omega)) only [gn0, gn1, gn2, gn3, gn4, gn5, gp0, gno, gpo] <;> first | rfl | assumption | exact gp0 _ _ _ | exact gn0 _ _)), (by first | assumption | (simp (disch := first | omega | (simp only [hNw, hPt]; omega)) only [gn0, gn1, gn2, gn3, gn4, gn5, gp0, gno, gpo] <;> first | rfl | assumption | exact gp0 _ _ _ | exact gn0 _ _)), by simp; omega⟩
      · -- false g3
        have hfd : fd = true := by (cases fd; (· simp at g3); (· rfl))
        refine OkO.move rfl rfl ?_
        refine OkO.move rfl rfl ?_
        refine OkO.bin rfl rfl rfl (bin_leq _ _) ?_
        refine OkO.pick (b := false) rfl rfl nofun (fun _ => rfl) ?_
        refine OkO.pick (b := true) rfl rfl (fun _ => rfl) nofun ?_
        refine OkO.nil ?_
        refine Ok.cond rfl (fun h4 => ?_) (fun h4 => ?_)
        · -- yes h4
          have hle : priceK t l k ≤ p := by simpa using h4
          refine Ok.region ?_
          refine OkO.load rfl rfl (ldg (n := 3) (by kernel_rfl) (by first | assumption | (simp (disch := first | omega | (simp only [hNw, hPt]; omega)) only [gn0, gn1, gn2, gn3, gn4, gn5, gp0, gno, gpo] <;> first | rfl | assumption | exact gp0 _ _ _ | exact gn0 _ _)) (by first | rfl | assumption)) ?_
          refine OkO.move rfl rfl ?_
          refine OkO.store rfl rfl rfl (sAc (n := 3) (ag := true) (by kernel_rfl) (by first | assumption | (simp (disch := first | omega | (simp only [hNw, hPt]; omega)) only [gn0, gn1, gn2, gn3, gn4, gn5, gp0, gno, gpo] <;> first | rfl | assumption | exact gp0 _ _ _ | exact gn0 _ _)) rfl (by first | rfl | assumption) (by first | rfl | exact spl_set _ _ _ (by first | assumption | omega | (simp; omega)))) ?_
          refine OkO.assign rfl rfl ?_
          refine OkO.assign rfl rfl ?_
          refine OkO.nil ?_
          refine Ok.region ?_
          refine OkO.move rfl rfl ?_
          refine OkO.bin rfl rfl rfl (bin_add (by omega) (by omega)) ?_
          refine OkO.assign rfl rfl ?_
          refine OkO.nil ?_
          refine ⟨1001 - (k + 1), by omega, k + 1, ruleOf t (k : Int), priceK t l k, true, rfl, by omega, hbs.new (k := k) (fun j => by omega) hfk (fun _ => by rcases Int.lt_or_eq_of_le hle with h9 | h9; (· exact .inl h9); (· exact .inr ⟨h9, fun j hj => by omega⟩)), Has.of (by kernel_rfl), rfl, (by (try dsimp only); repeat (first | exact hg | exact hG | apply Grow.new | (refine Grow.put ?_ _ (by first | omega | (simp only [hNw, hPt]; omega))))), (by first | assumption | (simp (disch := first | omega | (simp only [hNw, hPt]; omega)) only [gn0, gn1, gn2, gn3, gn4, gn5, gp0, gno, gpo] <;> first | rfl | assumption | exact gp0 _ _ _ | exact gn0 _ _)), (by first | assumption | (simp (disch := first | omega | (simp only [hNw, hPt]; omega)) only [gn0, gn1, gn2, gn3, gn4, gn5, gp0, gno, gpo] <;> first | rfl | assumption | exact gp0 _ _ _ | exact gn0 _ _)), by simp; omega⟩
        · -- no h4
          have hle : ¬ priceK t l k ≤ p := by simpa using h4
          refine Ok.skip ?_
          refine Ok.region ?_
          refine OkO.move rfl rfl ?_
          refine OkO.bin rfl rfl rfl (bin_add (by omega) (by omega)) ?_
          refine OkO.assign rfl rfl ?_
          refine OkO.nil ?_
          refine ⟨1001 - (k + 1), by omega, k + 1, q, p, fd, rfl, by omega, hbs.same (k := k) (fun j => by omega) (fun _ => ⟨hfd, .inl (by omega)⟩), Has.of (by kernel_rfl), rfl, (by (try dsimp only); repeat (first | exact hg | exact hG | apply Grow.new | (refine Grow.put ?_ _ (by first | omega | (simp only [hNw, hPt]; omega))))), (by first | assumption | (simp (disch := first | omega | (simp only [hNw, hPt]; omega)) only [gn0, gn1, gn2, gn3, gn4, gn5, gp0, gno, gpo] <;> first | rfl | assumption | exact gp0 _ _ _ | exact gn0 _ _)), (by first | assumption | (simp (disch := first | omega | (simp only [hNw, hPt]; omega)) only [gn0, gn1, gn2, gn3, gn4, gn5, gp0, gno, gpo] <;> first | rfl | assumption | exact gp0 _ _ _ | exact gn0 _ _)), by simp; omega⟩
    · -- false g2
      have hfk : fineK t l k = false := g2
      refine OkO.skip rfl ?_
      refine OkO.skip rfl ?_
      refine OkO.skip rfl ?_
      refine OkO.skip rfl ?_
      refine OkO.skip rfl ?_
      refine OkO.skip rfl ?_
      refine OkO.skip rfl ?_
      refine OkO.pick (b := false) rfl rfl nofun (fun _ => rfl) ?_
      refine OkO.nil ?_
      refine Ok.condF rfl ?_
      refine Ok.skip ?_
      refine Ok.region ?_
      refine OkO.move rfl rfl ?_
      refine OkO.bin rfl rfl rfl (bin_add (by omega) (by omega)) ?_
      refine OkO.assign rfl rfl ?_
      refine OkO.nil ?_
      refine ⟨1001 - (k + 1), by omega, k + 1, q, p, fd, rfl, by omega, hbs.same (k := k) (fun j => by omega) (fun h9 => by rw [hfk] at h9; cases h9), Has.of (by kernel_rfl), rfl, (by (try dsimp only); repeat (first | exact hg | exact hG | apply Grow.new | (refine Grow.put ?_ _ (by first | omega | (simp only [hNw, hPt]; omega))))), (by first | assumption | (simp (disch := first | omega | (simp only [hNw, hPt]; omega)) only [gn0, gn1, gn2, gn3, gn4, gn5, gp0, gno, gpo] <;> first | rfl | assumption | exact gp0 _ _ _ | exact gn0 _ _)), (by first | assumption | (simp (disch := first | omega | (simp only [hNw, hPt]; omega)) only [gn0, gn1, gn2, gn3, gn4, gn5, gp0, gno, gpo] <;> first | rfl | assumption | exact gp0 _ _ _ | exact gn0 _ _)), by simp; omega⟩
  · -- no h1
    have hk9 : k = 1001 := by (have h9 : ¬ (k : Int) ≤ 1000 := by simpa using h1); omega
    subst hk9
    refine Ok.exit ?_
    refine Ok.seq ?_
    refine Ok.region ?_
    refine OkO.load rfl rfl (ldg (n := 3) (by kernel_rfl) (by first | assumption | (simp (disch := first | omega | (simp only [hNw, hPt]; omega)) only [gn0, gn1, gn2, gn3, gn4, gn5, gp0, gno, gpo] <;> first | rfl | assumption | exact gp0 _ _ _ | exact gn0 _ _)) (by first | rfl | assumption)) ?_
    refine OkO.move rfl rfl ?_
    refine OkO.move rfl rfl ?_
    refine OkO.store rfl rfl rfl (sAc (n := 3) (ag := true) (by kernel_rfl) (by first | assumption | (simp (disch := first | omega | (simp only [hNw, hPt]; omega)) only [gn0, gn1, gn2, gn3, gn4, gn5, gp0, gno, gpo] <;> first | rfl | assumption | exact gp0 _ _ _ | exact gn0 _ _)) rfl (by first | rfl | assumption) (by first | rfl | exact spl_set _ _ _ (by first | assumption | omega | (simp; omega)))) ?_
    refine OkO.assign rfl rfl ?_
    refine OkO.assign rfl rfl ?_
    refine OkO.nil ?_
    refine Ok.ret ⟨.inr rfl, ?_⟩
    exact ⟨_, _, back_flat (resV_cell rfl (ldg (n := 3) (by kernel_rfl) (by first | assumption | (simp (disch := first | omega | (simp only [hNw, hPt]; omega)) only [gn0, gn1, gn2, gn3, gn4, gn5, gp0, gno, gpo] <;> first | rfl | assumption)) (by first | rfl | assumption)) (resV_tmp rfl (resV_tmp rfl resV_nil))) (rfl) rfl (by rw [← hW]; exact (by (try dsimp only); repeat (first | exact hg | exact hG | apply Grow.new | (refine Grow.put ?_ _ (by first | omega | (simp only [hNw, hPt]; omega)))))), q, p, fd, rfl, rfl, hbs⟩
end
end Go.Ev

set_option maxRecDepth 100000
set_option linter.unusedSimpArgs false
set_option linter.unusedVariables false
namespace Go.Ev
open Go Go.Proofs
noncomputable section
theorem BS_exists (t : Trm) (l : List Sea) : ∀ n : Nat, ∃ q p fd, BS t l (fun j => j < n) q p fd
  | 0 => ⟨_, _, _, .inl ⟨rfl, rfl, rfl, fun j hj => absurd hj (Nat.not_lt_zero j)⟩⟩
  | n + 1 => by
    obtain ⟨q, p, fd, h⟩ := BS_exists t l n
    have hS : ∀ j, j < n + 1 ↔ j < n ∨ j = n := fun j => by omega
    cases hf : fineK t l n with
    | false => exact ⟨_, _, _, h.same (k := n) hS fun h9 => by rw [hf] at h9; cases h9⟩
    | true =>
      cases hfd : fd with
      | false => exact ⟨_, _, _, h.new (k := n) hS hf fun h9 => by rw [hfd] at h9; cases h9⟩
      | true =>
        by_cases hle : priceK t l n ≤ p
        · refine ⟨_, _, _, h.new (k := n) hS hf fun _ => ?_⟩
          rcases Int.lt_or_eq_of_le hle with h9 | h9
          · exact .inl h9
          · exact .inr ⟨h9, fun j hj => by omega⟩
        · exact ⟨_, _, _, h.same (k := n) hS fun _ => ⟨hfd, .inl (by omega)⟩⟩
/-- The Start of the best rule. -/
def BestAt (t : Trm) (l : List Sea) (st : Nat) : Prop := st ≤ 1000 ∧ fineK t l st = true ∧ ∀ k, k ≤ 1000 → fineK t l k = true → priceK t l st < priceK t l k ∨ (priceK t l st = priceK t l k ∧ k ≤ st)
theorem best_or (t : Trm) (l : List Sea) : (∀ k, k ≤ 1000 → fineK t l k = false) ∨ ∃ st, BestAt t l st := by
  obtain ⟨q, p, fd, h⟩ := BS_exists t l 1001
  rcases h with ⟨_, _, _, h4⟩ | ⟨_, st, h2, _, h4, h5, h6⟩
  · exact .inl fun k hk => h4 k (by omega)
  · exact .inr ⟨st, by omega, h5, fun k hk hf => by rw [← h4]; exact h6 k (by omega) hf⟩
theorem BS.noneF {t : Trm} {l : List Sea} {S : Nat → Prop} {q : Rul} {p : Int} {fd : Bool} (h : BS t l S q p fd) (hn : ∀ k, k ≤ 1000 → fineK t l k = false) (hS : ∀ j, S j → j ≤ 1000) : q = ⟨0, 0, 0⟩ ∧ p = 0 ∧ fd = false := by
  rcases h with ⟨h1, h2, h3, _⟩ | ⟨_, st, h2, _, _, h5, _⟩
  · exact ⟨h2, h3, h1⟩
  · rw [hn st (hS st h2)] at h5; cases h5
theorem BS.bestT {t : Trm} {l : List Sea} {S : Nat → Prop} {q : Rul} {p : Int} {fd : Bool} {st : Nat} (h : BS t l S q p fd) (hb : BestAt t l st) (hS : ∀ j, S j ↔ j ≤ 1000) : q = ruleOf t (st : Int) ∧ p = priceK t l st ∧ fd = true :=
  BS.uniq h (.inr ⟨rfl, st, hb.1, rfl, rfl, hb.2.1, hb.2.2⟩ : BS t l (fun j => j ≤ 1000) (ruleOf t (st : Int)) (priceK t l st) true) (fun j => (hS j).symm)
theorem c49F (m : Nat) (v : AV) (l : List Sea) (t : Trm) (H : Heap) (hS : SeasG H v l) (he : termErr l t = 0) (hl9 : l.length ≤ 10) (hs9 : ∀ s ∈ l, s.sp.length ≤ 60) (ht : t.ok = true) (hn : ∀ k, k ≤ 1000 → fineK t l k = false) : RR (m + 10) (.fn 49 [v, .agg t.c]) H = some (.tup [.agg [I 0, I 0, I 0], I 0, I 11], H) := by
  obtain ⟨v', H', h1, q, p, fd, rfl, rfl, hbs⟩ := c49K m v l t H hS he hl9 hs9 ht
  obtain ⟨rfl, rfl, rfl⟩ := hbs.noneF hn (fun j hj => by omega)
  exact h1
theorem c49T (m : Nat) (v : AV) (l : List Sea) (t : Trm) (st : Nat) (H : Heap) (hS : SeasG H v l) (he : termErr l t = 0) (hl9 : l.length ≤ 10) (hs9 : ∀ s ∈ l, s.sp.length ≤ 60) (ht : t.ok = true) (hb : BestAt t l st) : RR (m + 10) (.fn 49 [v, .agg t.c]) H = some (.tup [.agg (ruleOf t (st : Int)).c, I (priceK t l st), I 0], H) := by
  obtain ⟨v', H', h1, q, p, fd, rfl, rfl, hbs⟩ := c49K m v l t H hS he hl9 hs9 ht
  obtain ⟨rfl, rfl, rfl⟩ := hbs.bestT hb (fun j => by omega)
  exact h1
end
end Go.Ev

set_option maxRecDepth 100000
set_option linter.unusedSimpArgs false
set_option linter.unusedVariables false
namespace Go.Ev
open Go Go.Proofs
noncomputable section
end
end Go.Ev

set_option maxRecDepth 100000
set_option linter.unusedSimpArgs false
set_option linter.unusedVariables false
namespace Go.Ev
open Go Go.Proofs
noncomputable section
/-! ### Speeds that may be, by intervals -/
structure Pst where (errs : List Int) (gain drop fall out ahead : Int)
def Pst.c (p : Pst) (ev : AV) : List AV := [ev, I p.gain, I p.drop, I p.fall, I p.out, I p.ahead]
def Pst.ok (p : Pst) : Bool := inB (p.errs.length : Int) 1 10 && (p.errs.all fun x => inB x 0 1000) && inB p.gain 0 200 && inB p.drop 0 200 && inB p.fall 1 1000 && inB p.out 0 60 && inB p.ahead 0 60
theorem Pst.ok_facts {p : Pst} (h : p.ok = true) : (1 ≤ p.errs.length ∧ p.errs.length ≤ 10) ∧ (∀ x ∈ p.errs, 0 ≤ x ∧ x ≤ 1000) ∧ (0 ≤ p.gain ∧ p.gain ≤ 200) ∧ (0 ≤ p.drop ∧ p.drop ≤ 200) ∧ (1 ≤ p.fall ∧ p.fall ≤ 1000) ∧ (0 ≤ p.out ∧ p.out ≤ 60) ∧ 0 ≤ p.ahead ∧ p.ahead ≤ 60 := by
  unfold Pst.ok inB at h
  simp only [Bool.and_eq_true, decide_eq_true_eq, List.all_eq_true] at h
  obtain ⟨⟨⟨⟨⟨⟨h1, h2⟩, h3⟩, h4⟩, h5⟩, h6⟩, h7⟩ := h
  exact ⟨by omega, h2, h3, h4, h5, h6, h7⟩
abbrev Iv := Int × Int
def ivc (x : Iv) : List AV := [I x.1, I x.2]
def nul : Iv := (1, 0)
def inI (v : Int) (x : Iv) : Prop := x.1 ≤ v ∧ v ≤ x.2
def meetI (x y : Iv) : Iv := if min x.2 y.2 < max x.1 y.1 then nul else (max x.1 y.1, min x.2 y.2)
/-- A range with numbers in it, or the one that stands for none. -/
def Prp (x : Iv) : Prop := x = nul ∨ x.1 ≤ x.2
theorem not_nul (v : Int) : ¬ inI v nul := by unfold inI nul; simp; omega
theorem mem_meet {v : Int} {x y : Iv} : inI v (meetI x y) ↔ inI v x ∧ inI v y := by
  unfold meetI
  split
  · rename_i h
    constructor
    · intro h9; exact absurd h9 (not_nul v)
    · intro h9; unfold inI at h9; omega
  · unfold inI; simp; omega
theorem meet_prp (x y : Iv) : Prp (meetI x y) := by
  unfold meetI
  split
  · exact .inl rfl
  · exact .inr (by simp; omega)
def agI (err read : Int) : Iv := (read - err, read + err)
/-- The gauges that work, with one failed. -/
def workL (n : Nat) (f : Int) : List Nat := (List.range n).filter fun g => decide ((g : Int) ≠ f)
def gI (p : Pst) (row : List Int) (g : Nat) : Iv := agI (p.errs.getD g 0) (row.getD g 0)
def gaugesI (p : Pst) (row : List Int) (l : List Nat) (x : Iv) : Iv := l.foldl (fun x g => meetI x (gI p row g)) x
def afterI (p : Pst) (x : Iv) : Iv := (x.1 - p.drop, x.2 + p.gain)
def beforeI (p : Pst) (x : Iv) : Iv := (x.1 - p.gain, x.2 + p.drop)
def stepI (p : Pst) (f : Int) (x : Iv) (row : List Int) : Iv := gaugesI p row (workL p.errs.length f) (meetI (0, 1000) (afterI p x))
theorem mem_gauges {p : Pst} {row : List Int} {v : Int} : ∀ {l : List Nat} {x : Iv}, inI v (gaugesI p row l x) ↔ inI v x ∧ ∀ g ∈ l, inI v (gI p row g)
  | [], x => by simp [gaugesI]
  | a :: l, x => by
    show inI v (gaugesI p row l (meetI x (gI p row a))) ↔ _
    rw [mem_gauges (l := l), mem_meet]
    simp [and_assoc]
theorem gauges_prp {p : Pst} {row : List Int} : ∀ {l : List Nat} {x : Iv}, Prp x → Prp (gaugesI p row l x)
  | [], x, h => h
  | a :: l, x, _ => gauges_prp (l := l) (meet_prp x (gI p row a))
theorem step_prp (p : Pst) (f : Int) (x : Iv) (row : List Int) : Prp (stepI p f x row) := gauges_prp (meet_prp _ _)
def AgreeR (p : Pst) (f : Int) (row : List Int) (v : Int) : Prop := ∀ g, g < p.errs.length → (g : Int) ≠ f → inI v (gI p row g)
theorem mem_step {p : Pst} {f : Int} {x : Iv} {row : List Int} {v : Int} : inI v (stepI p f x row) ↔ (0 ≤ v ∧ v ≤ 1000) ∧ (x.1 - p.drop ≤ v ∧ v ≤ x.2 + p.gain) ∧ AgreeR p f row v := by
  unfold stepI
  rw [mem_gauges, mem_meet]
  have e1 : inI v (0, 1000) ↔ (0 ≤ v ∧ v ≤ 1000) := Iff.rfl
  have e2 : inI v (afterI p x) ↔ (x.1 - p.drop ≤ v ∧ v ≤ x.2 + p.gain) := Iff.rfl
  have e3 : (∀ g ∈ workL p.errs.length f, inI v (gI p row g)) ↔ AgreeR p f row v := by
    unfold AgreeR workL
    constructor
    · intro h g h1 h2
      exact h g (List.mem_filter.2 ⟨List.mem_range.2 h1, by rw [decide_eq_true_eq]; exact h2⟩)
    · intro h g hg
      obtain ⟨h1, h2⟩ := List.mem_filter.1 hg
      exact h g (List.mem_range.1 h1) (by rw [decide_eq_true_eq] at h2; exact h2)
  rw [e1, e2, e3, and_assoc]
/-- What may be in each hour, as long as something may be. -/
def folW (p : Pst) (f : Int) : List (List Int) → Iv → List Iv
  | [], _ => []
  | row :: rows, x => if stepI p f x row = nul then [] else stepI p f x row :: folW p f rows (stepI p f x row)
/-- What may be behind some hours. -/
def lastI (p : Pst) (f : Int) (rows : List (List Int)) : Iv := rows.foldl (fun x row => if x = nul then nul else stepI p f x row) (0, 1000)
theorem lastI_snoc (p : Pst) (f : Int) (rows : List (List Int)) (row : List Int) : lastI p f (rows ++ [row]) = if lastI p f rows = nul then nul else stepI p f (lastI p f rows) row := by
  unfold lastI
  rw [List.foldl_append]
  rfl
theorem last_prp (p : Pst) (f : Int) (rows : List (List Int)) : Prp (lastI p f rows) := by
  rcases List.eq_nil_or_concat rows with rfl | ⟨l, a, rfl⟩
  · exact .inr (by simp [lastI])
  · rw [List.concat_eq_append, lastI_snoc]
    split
    · exact .inl rfl
    · exact step_prp _ _ _ _
theorem last_bd {p : Pst} {f : Int} {rows : List (List Int)} {v : Int} (h : inI v (lastI p f rows)) : 0 ≤ v ∧ v ≤ 1000 := by
  rcases List.eq_nil_or_concat rows with rfl | ⟨l, a, rfl⟩
  · exact h
  · rw [List.concat_eq_append, lastI_snoc] at h
    split at h
    · exact absurd h (not_nul v)
    · exact (mem_step.1 h).1
theorem nul_from (p : Pst) (f : Int) : ∀ (rows : List (List Int)), rows.foldl (fun x row => if x = nul then nul else stepI p f x row) nul = nul
  | [] => rfl
  | _ :: rows => by rw [List.foldl_cons, if_pos rfl]; exact nul_from p f rows
theorem folW_get {p : Pst} {f : Int} : ∀ {rows : List (List Int)} {x : Iv}, x ≠ nul → ∀ (h : Nat), h < rows.length → (folW p f rows x)[h]? = (let y := (rows.take (h + 1)).foldl (fun x row => if x = nul then nul else stepI p f x row) x
      if y = nul then none else some y)
  | [], x, _, h, hh => by simp at hh
  | row :: rows, x, hx, h, hh => by
    rw [folW, List.take_succ_cons, List.foldl_cons, if_neg hx]
    by_cases hs : stepI p f x row = nul
    · rw [if_pos hs, hs, nul_from]
      simp
    · rw [if_neg hs]
      cases h with
      | zero => simp [hs]
      | succ h => rw [List.getElem?_cons_succ]; exact folW_get hs h (by simpa using hh)
/-- The hours of one who has failed. -/
def mayL (p : Pst) (f : Int) (rows : List (List Int)) : List Iv := folW p f rows (0, 1000)
theorem may_get {p : Pst} {f : Int} {rows : List (List Int)} {h : Nat} (hh : h < rows.length) : (mayL p f rows)[h]? = if lastI p f (rows.take (h + 1)) = nul then none else some (lastI p f (rows.take (h + 1))) := by
  unfold mayL
  rw [folW_get (by simp [nul]) h hh]
  rfl
theorem may_len_le (p : Pst) (f : Int) : ∀ (rows : List (List Int)) (x : Iv), (folW p f rows x).length ≤ rows.length
  | [], _ => Nat.le_refl _
  | row :: rows, x => by
    rw [folW]
    split
    · simp
    · have := may_len_le p f rows (stepI p f x row); simp; omega
theorem may_len {p : Pst} {f : Int} {rows : List (List Int)} {h : Nat} (hh : h ≤ rows.length) : h ≤ (mayL p f rows).length ↔ lastI p f (rows.take h) ≠ nul := by
  cases h with
  | zero => simp [lastI, nul]
  | succ h =>
    have hg := may_get (p := p) (f := f) (rows := rows) (h := h) (by omega)
    constructor
    · intro h1 h2
      rw [if_pos h2, List.getElem?_eq_none_iff] at hg
      omega
    · intro h1
      rw [if_neg h1] at hg
      have := (List.getElem?_eq_some_iff.1 hg).1
      omega
theorem c89 (m : Nat) (ev : AV) (p : Pst) (x : Iv) (H : Heap) (hx : -100000 ≤ x.1 ∧ x.1 ≤ 100000 ∧ -100000 ≤ x.2 ∧ x.2 ≤ 100000) (hp : (0 ≤ p.gain ∧ p.gain ≤ 200) ∧ 0 ≤ p.drop ∧ p.drop ≤ 200) : RR (m + 1) (.fn 89 [.agg (p.c ev), .agg (ivc x)]) H = some (.agg (ivc (afterI p x)), H) := by
  refine (R_fn _ _ _ _ _).trans ?_
  refine fn_ok Try.func89 rfl rfl (by kernel_rfl) (by kernel_rfl) ?_
  obtain ⟨W, hW⟩ : ∃ W : Heap, W = ⟨H.t, H.next, H.next⟩ := ⟨_, rfl⟩
  have hg : ∀ n, W.get n = H.get n := fun n => by rw [hW]; rfl
  have hN : W.next = H.next := by rw [hW]
  have hE : ∀ G, Grow W G → Ext H G := fun G g => ⟨by rw [← hN]; exact g.next, fun n k => by rw [g.get n (by rw [hN]; exact k), hg]⟩
  have hG : Grow W W := Grow.refl (by rw [hW]; exact Nat.le_refl _)
  rw [← hW]
  refine Ok.seq ?_
  refine Ok.region ?_
  refine OkO.box rfl rfl ?_
  refine OkO.box rfl rfl ?_
  refine OkO.alloc (z := [.int .i64 0, .int .i64 0]) rfl (by kernel_rfl) ?_
  refine OkO.nil ?_
  refine Ok.seq ?_
  refine Ok.region ?_
  refine OkO.indexArr (len := 2) (sz := 1) (n := 0) rfl rfl rfl (by kernel_rfl) (by omega) ?_
  refine OkO.load rfl rfl (lda (n := 1) (by kernel_rfl) (by first | assumption | (simp (disch := first | omega | (simp only [hNw, hPt]; omega)) only [gn0, gn1, gn2, gn3, gn4, gn5, gp0, gno, gpo] <;> first | rfl | assumption | exact gp0 _ _ _ | exact gn0 _ _)) (by first | rfl | assumption)) ?_
  refine OkO.fieldAddr (o := 2) rfl (by kernel_rfl) rfl ?_
  refine OkO.load rfl rfl (lda (n := 1) (by kernel_rfl) (by first | assumption | (simp (disch := first | omega | (simp only [hNw, hPt]; omega)) only [gn0, gn1, gn2, gn3, gn4, gn5, gp0, gno, gpo] <;> first | rfl | assumption | exact gp0 _ _ _ | exact gn0 _ _)) (by first | rfl | assumption)) ?_
  refine OkO.bin rfl rfl rfl (bin_sub (by omega) (by omega)) ?_
  refine OkO.indexArr (len := 2) (sz := 1) (n := 1) rfl rfl rfl (by kernel_rfl) (by omega) ?_
  refine OkO.load rfl rfl (lda (n := 1) (by kernel_rfl) (by first | assumption | (simp (disch := first | omega | (simp only [hNw, hPt]; omega)) only [gn0, gn1, gn2, gn3, gn4, gn5, gp0, gno, gpo] <;> first | rfl | assumption | exact gp0 _ _ _ | exact gn0 _ _)) (by first | rfl | assumption)) ?_
  refine OkO.fieldAddr (o := 1) rfl (by kernel_rfl) rfl ?_
  refine OkO.load rfl rfl (lda (n := 1) (by kernel_rfl) (by first | assumption | (simp (disch := first | omega | (simp only [hNw, hPt]; omega)) only [gn0, gn1, gn2, gn3, gn4, gn5, gp0, gno, gpo] <;> first | rfl | assumption | exact gp0 _ _ _ | exact gn0 _ _)) (by first | rfl | assumption)) ?_
  refine OkO.bin rfl rfl rfl (bin_add (by omega) (by omega)) ?_
  refine OkO.buildArr (z := [.int .i64 0, .int .i64 0]) (sz := 1) rfl (by kernel_rfl) rfl rfl ?_
  refine OkO.store rfl rfl rfl (sAc (n := 2) (ag := true) (by kernel_rfl) (by first | assumption | (simp (disch := first | omega | (simp only [hNw, hPt]; omega)) only [gn0, gn1, gn2, gn3, gn4, gn5, gp0, gno, gpo] <;> first | rfl | assumption | exact gp0 _ _ _ | exact gn0 _ _)) rfl (by first | rfl | assumption) (by first | rfl | exact spl_set _ _ _ (by first | assumption | omega | (simp; omega)))) ?_
  refine OkO.nil ?_
  refine Ok.ret ⟨.inr rfl, ?_⟩
  exact back_flat (resV_cell rfl (ldg (n := 2) (by kernel_rfl) (by first | assumption | (simp (disch := first | omega | (simp only [hNw, hPt]; omega)) only [gn0, gn1, gn2, gn3, gn4, gn5, gp0, gno, gpo] <;> first | rfl | assumption)) (by first | rfl | assumption)) resV_nil) (rfl) rfl (by rw [← hW]; exact (by (try dsimp only); repeat (first | exact hG | apply Grow.new | (refine Grow.put ?_ _ (by first | omega | (simp only [hNw, hPt]; omega))))))
theorem c94 (m : Nat) (ev : AV) (p : Pst) (x : Iv) (H : Heap) (hx : -100000 ≤ x.1 ∧ x.1 ≤ 100000 ∧ -100000 ≤ x.2 ∧ x.2 ≤ 100000) (hp : (0 ≤ p.gain ∧ p.gain ≤ 200) ∧ 0 ≤ p.drop ∧ p.drop ≤ 200) : RR (m + 1) (.fn 94 [.agg (p.c ev), .agg (ivc x)]) H = some (.agg (ivc (beforeI p x)), H) := by
  refine (R_fn _ _ _ _ _).trans ?_
  refine fn_ok Try.func94 rfl rfl (by kernel_rfl) (by kernel_rfl) ?_
  obtain ⟨W, hW⟩ : ∃ W : Heap, W = ⟨H.t, H.next, H.next⟩ := ⟨_, rfl⟩
  have hg : ∀ n, W.get n = H.get n := fun n => by rw [hW]; rfl
  have hN : W.next = H.next := by rw [hW]
  have hE : ∀ G, Grow W G → Ext H G := fun G g => ⟨by rw [← hN]; exact g.next, fun n k => by rw [g.get n (by rw [hN]; exact k), hg]⟩
  have hG : Grow W W := Grow.refl (by rw [hW]; exact Nat.le_refl _)
  rw [← hW]
  refine Ok.seq ?_
  refine Ok.region ?_
  refine OkO.box rfl rfl ?_
  refine OkO.box rfl rfl ?_
  refine OkO.alloc (z := [.int .i64 0, .int .i64 0]) rfl (by kernel_rfl) ?_
  refine OkO.nil ?_
  refine Ok.seq ?_
  refine Ok.region ?_
  refine OkO.indexArr (len := 2) (sz := 1) (n := 0) rfl rfl rfl (by kernel_rfl) (by omega) ?_
  refine OkO.load rfl rfl (lda (n := 1) (by kernel_rfl) (by first | assumption | (simp (disch := first | omega | (simp only [hNw, hPt]; omega)) only [gn0, gn1, gn2, gn3, gn4, gn5, gp0, gno, gpo] <;> first | rfl | assumption | exact gp0 _ _ _ | exact gn0 _ _)) (by first | rfl | assumption)) ?_
  refine OkO.fieldAddr (o := 1) rfl (by kernel_rfl) rfl ?_
  refine OkO.load rfl rfl (lda (n := 1) (by kernel_rfl) (by first | assumption | (simp (disch := first | omega | (simp only [hNw, hPt]; omega)) only [gn0, gn1, gn2, gn3, gn4, gn5, gp0, gno, gpo] <;> first | rfl | assumption | exact gp0 _ _ _ | exact gn0 _ _)) (by first | rfl | assumption)) ?_
  refine OkO.bin rfl rfl rfl (bin_sub (by omega) (by omega)) ?_
  refine OkO.indexArr (len := 2) (sz := 1) (n := 1) rfl rfl rfl (by kernel_rfl) (by omega) ?_
  refine OkO.load rfl rfl (lda (n := 1) (by kernel_rfl) (by first | assumption | (simp (disch := first | omega | (simp only [hNw, hPt]; omega)) only [gn0, gn1, gn2, gn3, gn4, gn5, gp0, gno, gpo] <;> first | rfl | assumption | exact gp0 _ _ _ | exact gn0 _ _)) (by first | rfl | assumption)) ?_
  refine OkO.fieldAddr (o := 2) rfl (by kernel_rfl) rfl ?_
  refine OkO.load rfl rfl (lda (n := 1) (by kernel_rfl) (by first | assumption | (simp (disch := first | omega | (simp only [hNw, hPt]; omega)) only [gn0, gn1, gn2, gn3, gn4, gn5, gp0, gno, gpo] <;> first | rfl | assumption | exact gp0 _ _ _ | exact gn0 _ _)) (by first | rfl | assumption)) ?_
  refine OkO.bin rfl rfl rfl (bin_add (by omega) (by omega)) ?_
  refine OkO.buildArr (z := [.int .i64 0, .int .i64 0]) (sz := 1) rfl (by kernel_rfl) rfl rfl ?_
  refine OkO.store rfl rfl rfl (sAc (n := 2) (ag := true) (by kernel_rfl) (by first | assumption | (simp (disch := first | omega | (simp only [hNw, hPt]; omega)) only [gn0, gn1, gn2, gn3, gn4, gn5, gp0, gno, gpo] <;> first | rfl | assumption | exact gp0 _ _ _ | exact gn0 _ _)) rfl (by first | rfl | assumption) (by first | rfl | exact spl_set _ _ _ (by first | assumption | omega | (simp; omega)))) ?_
  refine OkO.nil ?_
  refine Ok.ret ⟨.inr rfl, ?_⟩
  exact back_flat (resV_cell rfl (ldg (n := 2) (by kernel_rfl) (by first | assumption | (simp (disch := first | omega | (simp only [hNw, hPt]; omega)) only [gn0, gn1, gn2, gn3, gn4, gn5, gp0, gno, gpo] <;> first | rfl | assumption)) (by first | rfl | assumption)) resV_nil) (rfl) rfl (by rw [← hW]; exact (by (try dsimp only); repeat (first | exact hG | apply Grow.new | (refine Grow.put ?_ _ (by first | omega | (simp only [hNw, hPt]; omega))))))
theorem c106 (m : Nat)  (H : Heap)  : RR (m + 1) (.fn 106 []) H = some (.agg (ivc nul), H) := by
  show evFn Try.prog (RR m) 106 [] H = _
  refine fn_ok Try.func106 rfl rfl (by kernel_rfl) (by kernel_rfl) ?_
  obtain ⟨W, hW⟩ : ∃ W : Heap, W = ⟨H.t, H.next, H.next⟩ := ⟨_, rfl⟩
  have hg : ∀ n, W.get n = H.get n := fun n => by rw [hW]; rfl
  have hN : W.next = H.next := by rw [hW]
  have hE : ∀ G, Grow W G → Ext H G := fun G g => ⟨by rw [← hN]; exact g.next, fun n k => by rw [g.get n (by rw [hN]; exact k), hg]⟩
  have hG : Grow W W := Grow.refl (by rw [hW]; exact Nat.le_refl _)
  rw [← hW]
  refine Ok.seq ?_
  refine Ok.region ?_
  refine OkO.alloc (z := [.int .i64 0, .int .i64 0]) rfl (by kernel_rfl) ?_
  refine OkO.nil ?_
  refine Ok.seq ?_
  refine Ok.region ?_
  refine OkO.buildArr (z := [.int .i64 0, .int .i64 0]) (sz := 1) rfl (by kernel_rfl) rfl rfl ?_
  refine OkO.store rfl rfl rfl (sAc (n := 2) (ag := true) (by kernel_rfl) (by first | assumption | (simp (disch := first | omega | (simp only [hNw, hPt]; omega)) only [gn0, gn1, gn2, gn3, gn4, gn5, gp0, gno, gpo] <;> first | rfl | assumption | exact gp0 _ _ _ | exact gn0 _ _)) rfl (by first | rfl | assumption) (by first | rfl | exact spl_set _ _ _ (by first | assumption | omega | (simp; omega)))) ?_
  refine OkO.nil ?_
  refine Ok.ret ⟨.inr rfl, ?_⟩
  exact back_flat (resV_cell rfl (ldg (n := 2) (by kernel_rfl) (by first | assumption | (simp (disch := first | omega | (simp only [hNw, hPt]; omega)) only [gn0, gn1, gn2, gn3, gn4, gn5, gp0, gno, gpo] <;> first | rfl | assumption)) (by first | rfl | assumption)) resV_nil) (rfl) rfl (by rw [← hW]; exact (by (try dsimp only); repeat (first | exact hG | apply Grow.new | (refine Grow.put ?_ _ (by first | omega | (simp only [hNw, hPt]; omega))))))
theorem c93 (m : Nat) (x y : Iv) (H : Heap)  : RR (m + 2) (.fn 93 [.agg (ivc x), .agg (ivc y)]) H = some (.agg (ivc (meetI x y)), H) := by
  refine (R_fn _ _ _ _ _).trans ?_
  refine fn_ok Try.func93 rfl rfl (by kernel_rfl) (by kernel_rfl) ?_
  obtain ⟨W, hW⟩ : ∃ W : Heap, W = ⟨H.t, H.next, H.next⟩ := ⟨_, rfl⟩
  have hg : ∀ n, W.get n = H.get n := fun n => by rw [hW]; rfl
  have hN : W.next = H.next := by rw [hW]
  have hE : ∀ G, Grow W G → Ext H G := fun G g => ⟨by rw [← hN]; exact g.next, fun n k => by rw [g.get n (by rw [hN]; exact k), hg]⟩
  have hG : Grow W W := Grow.refl (by rw [hW]; exact Nat.le_refl _)
  rw [← hW]
  refine Ok.seq ?_
  refine Ok.region ?_
  refine OkO.box rfl rfl ?_
  refine OkO.box rfl rfl ?_
  refine OkO.alloc (z := [.int .i64 0, .int .i64 0]) rfl (by kernel_rfl) ?_
  refine OkO.nil ?_
  refine Ok.seq ?_
  refine Ok.region ?_
  refine OkO.indexArr (len := 2) (sz := 1) (n := 0) rfl rfl rfl (by kernel_rfl) (by omega) ?_
  refine OkO.load rfl rfl (lda (n := 1) (by kernel_rfl) (by first | assumption | (simp (disch := first | omega | (simp only [hNw, hPt]; omega)) only [gn0, gn1, gn2, gn3, gn4, gn5, gp0, gno, gpo] <;> first | rfl | assumption | exact gp0 _ _ _ | exact gn0 _ _)) (by first | rfl | assumption)) ?_
  refine OkO.indexArr (len := 2) (sz := 1) (n := 0) rfl rfl rfl (by kernel_rfl) (by omega) ?_
  refine OkO.load rfl rfl (lda (n := 1) (by kernel_rfl) (by first | assumption | (simp (disch := first | omega | (simp only [hNw, hPt]; omega)) only [gn0, gn1, gn2, gn3, gn4, gn5, gp0, gno, gpo] <;> first | rfl | assumption | exact gp0 _ _ _ | exact gn0 _ _)) (by first | rfl | assumption)) ?_
  refine OkO.builtin rfl rfl rfl (builtin_max2 _ _) ?_
  refine OkO.indexArr (len := 2) (sz := 1) (n := 1) rfl rfl rfl (by kernel_rfl) (by omega) ?_
  refine OkO.load rfl rfl (lda (n := 1) (by kernel_rfl) (by first | assumption | (simp (disch := first | omega | (simp only [hNw, hPt]; omega)) only [gn0, gn1, gn2, gn3, gn4, gn5, gp0, gno, gpo] <;> first | rfl | assumption | exact gp0 _ _ _ | exact gn0 _ _)) (by first | rfl | assumption)) ?_
  refine OkO.indexArr (len := 2) (sz := 1) (n := 1) rfl rfl rfl (by kernel_rfl) (by omega) ?_
  refine OkO.load rfl rfl (lda (n := 1) (by kernel_rfl) (by first | assumption | (simp (disch := first | omega | (simp only [hNw, hPt]; omega)) only [gn0, gn1, gn2, gn3, gn4, gn5, gp0, gno, gpo] <;> first | rfl | assumption | exact gp0 _ _ _ | exact gn0 _ _)) (by first | rfl | assumption)) ?_
  refine OkO.builtin rfl rfl rfl (builtin_min2 _ _) ?_
  refine OkO.buildArr (z := [.int .i64 0, .int .i64 0]) (sz := 1) rfl (by kernel_rfl) rfl rfl ?_
  refine OkO.alloc (z := [.int .i64 0, .int .i64 0]) rfl (by kernel_rfl) ?_
  refine OkO.store rfl rfl rfl (sAc (n := 2) (ag := true) (by kernel_rfl) (by first | assumption | (simp (disch := first | omega | (simp only [hNw, hPt]; omega)) only [gn0, gn1, gn2, gn3, gn4, gn5, gp0, gno, gpo] <;> first | rfl | assumption | exact gp0 _ _ _ | exact gn0 _ _)) rfl (by first | rfl | assumption) (by first | rfl | exact spl_set _ _ _ (by first | assumption | omega | (simp; omega)))) ?_
  refine OkO.nil ?_
  refine Ok.seq ?_
  refine Ok.seq ?_
  refine Ok.region ?_
  refine OkO.indexArr (len := 2) (sz := 1) (n := 0) rfl rfl rfl (by kernel_rfl) (by omega) ?_
  refine OkO.load rfl rfl (lda (n := 1) (by kernel_rfl) (by first | assumption | (simp (disch := first | omega | (simp only [hNw, hPt]; omega)) only [gn0, gn1, gn2, gn3, gn4, gn5, gp0, gno, gpo] <;> first | rfl | assumption | exact gp0 _ _ _ | exact gn0 _ _)) (by first | rfl | assumption)) ?_
  refine OkO.indexArr (len := 2) (sz := 1) (n := 1) rfl rfl rfl (by kernel_rfl) (by omega) ?_
  refine OkO.load rfl rfl (lda (n := 1) (by kernel_rfl) (by first | assumption | (simp (disch := first | omega | (simp only [hNw, hPt]; omega)) only [gn0, gn1, gn2, gn3, gn4, gn5, gp0, gno, gpo] <;> first | rfl | assumption | exact gp0 _ _ _ | exact gn0 _ _)) (by first | rfl | assumption)) ?_
  refine OkO.bin rfl rfl rfl (bin_gtr _ _) ?_
  refine OkO.nil ?_
  refine Ok.cond rfl (fun h1 => ?_) (fun h1 => ?_)
  · -- yes h1
    have hm : min x.2 y.2 < max x.1 y.1 := by simpa using h1
    refine Ok.seq ?_
    refine Ok.region ?_
    refine OkO.callV rfl rfl rfl rfl rfl (c106 m _) ?_ -- "sackung/alarm.nothing"
    refine OkO.store rfl rfl rfl (sAc (n := 2) (ag := true) (by kernel_rfl) (by first | assumption | (simp (disch := first | omega | (simp only [hNw, hPt]; omega)) only [gn0, gn1, gn2, gn3, gn4, gn5, gp0, gno, gpo] <;> first | rfl | assumption | exact gp0 _ _ _ | exact gn0 _ _)) rfl (by first | rfl | assumption) (by first | rfl | exact spl_set _ _ _ (by first | assumption | omega | (simp; omega)))) ?_
    refine OkO.nil ?_
    refine Ok.ret ⟨.inr rfl, ?_⟩
    exact back_flat (resV_cell rfl (ldg (n := 2) (by kernel_rfl) (by first | assumption | (simp (disch := first | omega | (simp only [hNw, hPt]; omega)) only [gn0, gn1, gn2, gn3, gn4, gn5, gp0, gno, gpo] <;> first | rfl | assumption)) (by first | rfl | assumption)) resV_nil) (by rw [meetI, if_pos hm]; rfl) rfl (by rw [← hW]; exact (by (try dsimp only); repeat (first | exact hG | apply Grow.new | (refine Grow.put ?_ _ (by first | omega | (simp only [hNw, hPt]; omega))))))
  · -- no h1
    have hm : ¬ min x.2 y.2 < max x.1 y.1 := by simpa using h1
    refine Ok.skip ?_
    refine Ok.seq ?_
    refine Ok.region ?_
    refine OkO.load rfl rfl (ldg (n := 2) (by kernel_rfl) (by first | assumption | (simp (disch := first | omega | (simp only [hNw, hPt]; omega)) only [gn0, gn1, gn2, gn3, gn4, gn5, gp0, gno, gpo] <;> first | rfl | assumption | exact gp0 _ _ _ | exact gn0 _ _)) (by first | rfl | assumption)) ?_
    refine OkO.store rfl rfl rfl (sAc (n := 2) (ag := true) (by kernel_rfl) (by first | assumption | (simp (disch := first | omega | (simp only [hNw, hPt]; omega)) only [gn0, gn1, gn2, gn3, gn4, gn5, gp0, gno, gpo] <;> first | rfl | assumption | exact gp0 _ _ _ | exact gn0 _ _)) rfl (by first | rfl | assumption) (by first | rfl | exact spl_set _ _ _ (by first | assumption | omega | (simp; omega)))) ?_
    refine OkO.nil ?_
    refine Ok.ret ⟨.inr rfl, ?_⟩
    exact back_flat (resV_cell rfl (ldg (n := 2) (by kernel_rfl) (by first | assumption | (simp (disch := first | omega | (simp only [hNw, hPt]; omega)) only [gn0, gn1, gn2, gn3, gn4, gn5, gp0, gno, gpo] <;> first | rfl | assumption)) (by first | rfl | assumption)) resV_nil) (by rw [meetI, if_neg hm]; rfl) rfl (by rw [← hW]; exact (by (try dsimp only); repeat (first | exact hG | apply Grow.new | (refine Grow.put ?_ _ (by first | omega | (simp only [hNw, hPt]; omega))))))
theorem c105 (m : Nat) (ev : AV) (p : Pst) (rv : AV) (row : List Int) (g : Nat) (H : Heap) (hV : Ints H ev p.errs) (hR : Ints H rv row) (hg1 : g < p.errs.length) (hg2 : g < row.length) (hb1 : ∀ x ∈ p.errs, 0 ≤ x ∧ x ≤ 1000) (hb2 : ∀ x ∈ row, -1000 ≤ x ∧ x ≤ 2000) : RR (m + 1) (.fn 105 [.agg (p.c ev), I (g : Int), rv]) H = some (.agg (ivc (gI p row g)), H) := by
  refine (R_fn _ _ _ _ _).trans ?_
  refine fn_ok Try.func105 rfl rfl (by kernel_rfl) (by kernel_rfl) ?_
  obtain ⟨W, hW⟩ : ∃ W : Heap, W = ⟨H.t, H.next, H.next⟩ := ⟨_, rfl⟩
  have hg : ∀ n, W.get n = H.get n := fun n => by rw [hW]; rfl
  have hN : W.next = H.next := by rw [hW]
  have hE : ∀ G, Grow W G → Ext H G := fun G g => ⟨by rw [← hN]; exact g.next, fun n k => by rw [g.get n (by rw [hN]; exact k), hg]⟩
  have hG : Grow W W := Grow.refl (by rw [hW]; exact Nat.le_refl _)
  rw [← hW]
  have pev : ev.plain = true := lpl hV.len
  obtain ⟨eb, eo, ecs, e1, e2, e3, e4⟩ := (hV.ext (hE _ hG)).at' g hg1
  obtain ⟨rb, ro, rcs, r1, r2, r3, r4⟩ := (hR.ext (hE _ hG)).at' g hg2
  have b1 := hb1 _ (List.getElem_mem hg1)
  have b2 := hb2 _ (List.getElem_mem hg2)
  refine Ok.seq ?_
  refine Ok.region ?_
  refine OkO.box rfl rfl ?_
  refine OkO.alloc (z := [.int .i64 0, .int .i64 0]) rfl (by kernel_rfl) ?_
  refine OkO.nil ?_
  refine Ok.seq ?_
  refine Ok.drawn [(0, true, []), (1, true, []), (2, true, []), (3, true, []), (4, true, []), (5, true, []), (6, true, []), (7, true, []), (8, true, []), (9, true, []), (10, true, []), (11, true, []), (12, true, []), (13, true, []), (14, true, []), (15, true, []), (16, true, []), (17, true, []), (18, true, []), (19, true, []), (20, true, []), (21, false, [])] (by kernel_rfl) ?_
  refine OkP.step ?_
  refine OkO.move rfl rfl ?_
  refine OkO.nil ⟨rfl, ?_⟩
  refine OkP.step ?_
  refine OkO.move rfl rfl ?_
  refine OkO.nil ⟨rfl, ?_⟩
  refine OkP.step ?_
  refine OkO.index (sz := 1) (n := g) rfl rfl rfl (by kernel_rfl) (by first | assumption | rfl | exact slAt_slice (by omega) | exact slAt_opn (by omega)) ?_ -- index ('Go.Operand.tmp', 7) ('Go.Operand.tmp', 8)
  refine OkO.nil ⟨rfl, ?_⟩
  refine OkP.step ?_
  refine OkO.load rfl rfl (lda (n := 1) (by kernel_rfl) (by first | assumption | (simp (disch := first | omega | (simp only [hNw, hPt]; omega)) only [gn0, gn1, gn2, gn3, gn4, gn5, gp0, gno, gpo] <;> first | rfl | assumption | exact gp0 _ _ _ | exact gn0 _ _)) (by first | rfl | assumption)) ?_
  refine OkO.nil ⟨rfl, ?_⟩
  refine OkP.step ?_
  refine OkO.fieldAddr (o := 0) rfl (by kernel_rfl) rfl ?_
  refine OkO.nil ⟨rfl, ?_⟩
  refine OkP.step ?_
  refine OkO.load rfl rfl (lda (n := 1) (by kernel_rfl) (by first | assumption | (simp (disch := first | omega | (simp only [hNw, hPt]; omega)) only [gn0, gn1, gn2, gn3, gn4, gn5, gp0, gno, gpo] <;> first | rfl | assumption | exact gp0 _ _ _ | exact gn0 _ _)) (by first | rfl | assumption)) ?_
  refine OkO.nil ⟨rfl, ?_⟩
  refine OkP.step ?_
  refine OkO.move rfl rfl ?_
  refine OkO.nil ⟨rfl, ?_⟩
  refine OkP.step ?_
  refine OkO.index (sz := 1) (n := g) rfl rfl rfl (by kernel_rfl) (by first | assumption | rfl | exact slAt_slice (by omega) | exact slAt_opn (by omega)) ?_ -- index ('Go.Operand.tmp', 12) ('Go.Operand.tmp', 13)
  refine OkO.nil ⟨rfl, ?_⟩
  refine OkP.step ?_
  refine OkO.load rfl rfl (lda (n := 1) (by kernel_rfl) (by first | assumption | (simp (disch := first | omega | (simp only [hNw, hPt]; omega)) only [gn0, gn1, gn2, gn3, gn4, gn5, gp0, gno, gpo] <;> first | rfl | assumption | exact gp0 _ _ _ | exact gn0 _ _)) (by first | rfl | assumption)) ?_
  refine OkO.nil ⟨rfl, ?_⟩
  refine OkP.step ?_
  refine OkO.bin rfl rfl rfl (bin_sub (by omega) (by omega)) ?_
  refine OkO.nil ⟨rfl, ?_⟩
  refine OkP.step ?_
  refine OkO.move rfl rfl ?_
  refine OkO.nil ⟨rfl, ?_⟩
  refine OkP.step ?_
  refine OkO.move rfl rfl ?_
  refine OkO.nil ⟨rfl, ?_⟩
  refine OkP.step ?_
  refine OkO.index (sz := 1) (n := g) rfl rfl rfl (by kernel_rfl) (by first | assumption | rfl | exact slAt_slice (by omega) | exact slAt_opn (by omega)) ?_ -- index ('Go.Operand.tmp', 17) ('Go.Operand.tmp', 18)
  refine OkO.nil ⟨rfl, ?_⟩
  refine OkP.step ?_
  refine OkO.load rfl rfl (lda (n := 1) (by kernel_rfl) (by first | assumption | (simp (disch := first | omega | (simp only [hNw, hPt]; omega)) only [gn0, gn1, gn2, gn3, gn4, gn5, gp0, gno, gpo] <;> first | rfl | assumption | exact gp0 _ _ _ | exact gn0 _ _)) (by first | rfl | assumption)) ?_
  refine OkO.nil ⟨rfl, ?_⟩
  refine OkP.step ?_
  refine OkO.fieldAddr (o := 0) rfl (by kernel_rfl) rfl ?_
  refine OkO.nil ⟨rfl, ?_⟩
  refine OkP.step ?_
  refine OkO.load rfl rfl (lda (n := 1) (by kernel_rfl) (by first | assumption | (simp (disch := first | omega | (simp only [hNw, hPt]; omega)) only [gn0, gn1, gn2, gn3, gn4, gn5, gp0, gno, gpo] <;> first | rfl | assumption | exact gp0 _ _ _ | exact gn0 _ _)) (by first | rfl | assumption)) ?_
  refine OkO.nil ⟨rfl, ?_⟩
  refine OkP.step ?_
  refine OkO.move rfl rfl ?_
  refine OkO.nil ⟨rfl, ?_⟩
  refine OkP.step ?_
  refine OkO.index (sz := 1) (n := g) rfl rfl rfl (by kernel_rfl) (by first | assumption | rfl | exact slAt_slice (by omega) | exact slAt_opn (by omega)) ?_ -- index ('Go.Operand.tmp', 22) ('Go.Operand.tmp', 23)
  refine OkO.nil ⟨rfl, ?_⟩
  refine OkP.step ?_
  refine OkO.load rfl rfl (lda (n := 1) (by kernel_rfl) (by first | assumption | (simp (disch := first | omega | (simp only [hNw, hPt]; omega)) only [gn0, gn1, gn2, gn3, gn4, gn5, gp0, gno, gpo] <;> first | rfl | assumption | exact gp0 _ _ _ | exact gn0 _ _)) (by first | rfl | assumption)) ?_
  refine OkO.nil ⟨rfl, ?_⟩
  refine OkP.step ?_
  refine OkO.bin rfl rfl rfl (bin_add (by omega) (by omega)) ?_
  refine OkO.nil ⟨rfl, ?_⟩
  refine OkP.step ?_
  refine OkO.buildArr (z := [.int .i64 0, .int .i64 0]) (sz := 1) rfl (by kernel_rfl) rfl rfl ?_
  refine OkO.nil ⟨rfl, ?_⟩
  refine OkP.step ?_
  refine OkO.store rfl rfl rfl (sAc (n := 2) (ag := true) (by kernel_rfl) (by first | assumption | (simp (disch := first | omega | (simp only [hNw, hPt]; omega)) only [gn0, gn1, gn2, gn3, gn4, gn5, gp0, gno, gpo] <;> first | rfl | assumption | exact gp0 _ _ _ | exact gn0 _ _)) rfl (by first | rfl | assumption) (by first | rfl | exact spl_set _ _ _ (by first | assumption | omega | (simp; omega)))) ?_
  refine OkO.nil ⟨rfl, ?_⟩
  refine OkP.nil ?_
  refine Ok.ret ⟨.inr rfl, ?_⟩
  exact back_flat (resV_cell rfl (ldg (n := 2) (by kernel_rfl) (by first | assumption | (simp (disch := first | omega | (simp only [hNw, hPt]; omega)) only [gn0, gn1, gn2, gn3, gn4, gn5, gp0, gno, gpo] <;> first | rfl | assumption)) (by first | rfl | assumption)) resV_nil) (by unfold gI; rw [show p.errs.getD g 0 = p.errs[g] from (by simp [List.getD_eq_getElem?_getD, hg1]), show row.getD g 0 = row[g] from (by simp [List.getD_eq_getElem?_getD, hg2])]; rfl) rfl (by rw [← hW]; exact (by (try dsimp only); repeat (first | exact hG | apply Grow.new | (refine Grow.put ?_ _ (by first | omega | (simp only [hNw, hPt]; omega))))))
end
end Go.Ev

set_option maxRecDepth 100000
set_option linter.unusedSimpArgs false
set_option linter.unusedVariables false
namespace Go.Ev
open Go Go.Proofs
noncomputable section
/-- A list of lists of numbers, as it lies. -/
def LstAt (H : Heap) (v : AV) (rows : List (List Int)) : Prop := ∃ vs : List AV, vs.length = rows.length ∧ Row H v 1 (vs.map fun x => [x]) ∧ ∀ (i : Nat) (x : AV) (r : List Int), vs[i]? = some x → rows[i]? = some r → Ints H x r
theorem LstAt.ext {H G : Heap} {v : AV} {rows : List (List Int)} (h : LstAt H v rows) (g : Ext H G) : LstAt G v rows := let ⟨vs, h1, h2, h3⟩ := h; ⟨vs, h1, h2.ext g, fun i x r a c => (h3 i x r a c).ext g⟩
theorem LstAt.len {H : Heap} {v : AV} {rows : List (List Int)} (h : LstAt H v rows) : lenOf v = some rows.length := by
  obtain ⟨vs, h1, h2, _⟩ := h
  rw [h2.len]; simp [h1]
theorem LstAt.at_ {H : Heap} {v : AV} {rows : List (List Int)} (h : LstAt H v rows) (i : Nat) (hi : i < rows.length) : ∃ x b off cs, slAt v 1 i = some (b, off) ∧ (H.get b).bind AObj.cs = some cs ∧ cs[off]? = some x ∧ b < H.next ∧ Ints H x rows[i] := by
  obtain ⟨vs, h1, h2, h3⟩ := h
  have hv : i < vs.length := by omega
  obtain ⟨b, off, cs, i1, i2, i3, i4⟩ := h2.at_ i [vs[i]] (by simp [hv])
  exact ⟨vs[i], b, off, cs, i1, i2, seg_one i3, i4, h3 i _ _ (List.getElem?_eq_getElem hv) (List.getElem?_eq_getElem hi)⟩
def natL (l : List Nat) : List AV := l.map fun (g : Nat) => I (g : Int)
theorem natL_flat : ∀ l : List Nat, (l.map fun g => [I ((g : Nat) : Int)]).flatten = natL l
  | [] => rfl
  | a :: l => by rw [List.map_cons, List.flatten_cons, natL_flat l]; rfl
theorem Mine.nats {k0 : Nat} {G : Heap} {v : AV} {l : List Nat} (h : Mine k0 G v 3 1 (natL l)) : Row G v 1 (l.map fun g => [I ((g : Nat) : Int)]) := Mine.row (by rw [natL_flat]; exact h) (fun x hx => by obtain ⟨y, _, rfl⟩ := List.mem_map.1 hx; rfl) (by omega)
theorem workL_len (n : Nat) (f : Int) : (workL n f).length ≤ n := by
  unfold workL
  have := List.length_filter_le (fun g => decide (((g : Nat) : Int) ≠ f)) (List.range n)
  rw [List.length_range] at this
  exact this
theorem workL_yes {n : Nat} {f : Int} (h : (n : Int) ≠ f) : workL (n + 1) f = workL n f ++ [n] := by
  unfold workL
  rw [List.range_succ, List.filter_append]
  simp [h]
theorem workL_no {n : Nat} {f : Int} (h : (n : Int) = f) : workL (n + 1) f = workL n f := by
  unfold workL
  rw [List.range_succ, List.filter_append]
  simp [h]
theorem workL_lt {n : Nat} {f : Int} {g : Nat} (h : g ∈ workL n f) : g < n := List.mem_range.1 (List.mem_filter.1 h).1
theorem c90 (m : Nat) (ev : AV) (p : Pst) (f : Int) (H : Heap) (hV : lenOf ev = some p.errs.length) (hl : p.errs.length ≤ 1000) : ∃ v H', RR (m + 1) (.fn 90 [.agg (p.c ev), I f]) H = some (v, H') ∧ Ret H H' ∧ Mine H.next H' v 3 1 (natL (workL p.errs.length f)) := by
  show ∃ v H', evFn Try.prog (RR (m + 0)) 90 [.agg (p.c ev), I f] H = some (v, H') ∧ Ret H H' ∧ Mine H.next H' v 3 1 (natL (workL p.errs.length f))
  refine fn_okE Try.func90 rfl rfl (by kernel_rfl) (by kernel_rfl) ?_
  obtain ⟨W, hW⟩ : ∃ W : Heap, W = ⟨H.t, H.next, H.next⟩ := ⟨_, rfl⟩
  have hg : ∀ n, W.get n = H.get n := fun n => by rw [hW]; rfl
  have hN : W.next = H.next := by rw [hW]
  have hE : ∀ G, Grow W G → Ext H G := fun G g => ⟨by rw [← hN]; exact g.next, fun n k => by rw [g.get n (by rw [hN]; exact k), hg]⟩
  have hG : Grow W W := Grow.refl (by rw [hW]; exact Nat.le_refl _)
  rw [← hW]
  have pev : ev.plain = true := lpl hV
  refine Ok.seq ?_
  refine Ok.region ?_
  refine OkO.box rfl rfl ?_
  refine OkO.assign rfl rfl ?_
  refine OkO.nil ?_
  refine Ok.seq ?_
  refine Ok.region ?_
  refine OkO.assign rfl rfl ?_
  refine OkO.nil ?_
  refine Ok.seq ?_
  refine Ok.seq ?_
  refine Ok.region ?_
  refine OkO.fieldAddr (o := 0) rfl (by kernel_rfl) rfl ?_
  refine OkO.load rfl rfl (lda (n := 1) (by kernel_rfl) (by first | assumption | (simp (disch := first | omega | (simp only [hNw, hPt]; omega)) only [gn0, gn1, gn2, gn3, gn4, gn5, gp0, gno, gpo] <;> first | rfl | assumption | exact gp0 _ _ _ | exact gn0 _ _)) (by first | rfl | assumption)) ?_
  refine OkO.builtin rfl rfl rfl (bln (by kernel_rfl) (by first | assumption | rfl)) ?_
  refine OkO.move rfl rfl ?_
  refine OkO.nil ?_
  refine Ok.block ?_
  refine Ok.loop (fun n s => ∃ (i : Nat) (ov : AV), n = p.errs.length - i ∧ i ≤ p.errs.length ∧ Mine (W.next + 1) s.H ov 3 1 (natL (workL i f)) ∧ Has 5 [(1, I f), (2, .ptr W.next 0), (5, ov), (9, I (p.errs.length : Int)), (10, I (i : Int))] s.T ∧ s.D = [] ∧ Grow W s.H ∧ W.next + 1 ≤ s.H.next) (p.errs.length) (by unfold loopFuel; omega)
    ⟨0, .nils, rfl, Nat.zero_le _, Mine.nil _ _ _ _, Has.of (by kernel_rfl), rfl, (by (try dsimp only); repeat (first | exact hG | apply Grow.new | (refine Grow.put ?_ _ (by first | omega | (simp only [hNw, hPt]; omega))))), by simp⟩ ?_
  rintro n ⟨T, D, G⟩ ⟨i, ov, hn, hi, hm, ⟨f_, hT⟩, hD, hg, hn1⟩
  dsimp only at *
  subst hT hD
  have hgn := hg.next
  refine Ok.seq ?_
  refine Ok.region ?_
  refine OkO.bin rfl rfl rfl (bin_lss _ _) ?_
  refine OkO.nil ?_
  refine Ok.seq ?_
  refine Ok.cond rfl (fun h1 => ?_) (fun h1 => ?_)
  · -- yes h1
    have hlt : i < p.errs.length := by simpa using h1
    refine Ok.skip ?_
    refine Ok.seq ?_
    refine Ok.block ?_
    refine Ok.seq ?_
    refine Ok.region ?_
    refine OkO.move rfl rfl ?_
    refine OkO.assign rfl rfl ?_
    refine OkO.nil ?_
    refine Ok.seq ?_
    refine Ok.region ?_
    refine OkO.move rfl rfl ?_
    refine OkO.move rfl rfl ?_
    refine OkO.bin rfl rfl rfl (bin_neq _ _) ?_
    refine OkO.nil ?_
    refine Ok.cond rfl (fun h2 => ?_) (fun h2 => ?_)
    · -- yes h2
      have hne : (i : Int) ≠ f := by simpa using h2
      refine Ok.region ?_
      refine OkO.move rfl rfl ?_
      refine OkO.move rfl rfl ?_
      refine OkO.buildSlice (el := 3) (sz := 1) (z := [.int .i64 0]) rfl (by kernel_rfl) (by decide) rfl rfl ?_
      refine OkO.builtinE rfl rfl rfl (Mine.app2 (W := W) (k0 := W.next + 1) (t := 22) (u := 22) (sz := 1) (by_ := 8) (e := 3) (n := 1) (new := [I (i : Int)]) (hm.to (by (try dsimp only); repeat (first | exact Ext.refl _ | assumption | apply Ext.new | (refine Ext.put ?_ _ (by first | omega | (simp only [hNw, hPt]; omega)))))) (by (try dsimp only); repeat (first | exact hg | exact hG | apply Grow.new | (refine Grow.put ?_ _ (by first | omega | (simp only [hNw, hPt]; omega))))) (by omega) (by simp; omega) (by kernel_rfl) (by kernel_rfl) (elems_new (n := 1) (sz := 1) rfl) rfl rfl (by have h9 := workL_len i f; simp [natL]; omega) (by omega) (by omega) rfl) ?_
      rintro v2 G2 ⟨r1, r2, r3, r4, r5, _⟩
      refine OkO.assign rfl rfl ?_
      refine OkO.nil ?_
      refine Ok.region ?_
      refine OkO.bin rfl rfl rfl (bin_add (by omega) (by omega)) ?_
      refine OkO.move rfl rfl ?_
      refine OkO.nil ?_
      refine ⟨p.errs.length - (i + 1), by omega, i + 1, _, rfl, by omega, by rw [workL_yes hne]; simpa [natL] using r1, Has.of (by kernel_rfl), rfl, r2, by (show W.next + 1 ≤ G2.next; simp only [hNw] at r5; omega)⟩
    · -- no h2
      have heq : (i : Int) = f := by simpa using h2
      refine Ok.skip ?_
      refine Ok.region ?_
      refine OkO.bin rfl rfl rfl (bin_add (by omega) (by omega)) ?_
      refine OkO.move rfl rfl ?_
      refine OkO.nil ?_
      refine ⟨p.errs.length - (i + 1), by omega, i + 1, ov, rfl, by omega, by rw [workL_no heq]; exact hm, Has.of (by kernel_rfl), rfl, hg, hn1⟩
  · -- no h1
    have hge : i = p.errs.length := by simp at h1; omega
    subst hge
    refine Ok.exit ?_
    refine Ok.seq ?_
    refine Ok.region ?_
    refine OkO.move rfl rfl ?_
    refine OkO.assign rfl rfl ?_
    refine OkO.nil ?_
    refine Ok.ret ⟨.inr rfl, ?_⟩
    refine back_newA (resV_tmp rfl resV_nil) rfl (by rw [← hW]; exact hg) (fun H9 p1 p2 => ⟨p1, (hm.low (by omega)).backT p2 id⟩)
end
end Go.Ev

set_option maxRecDepth 100000
set_option linter.unusedSimpArgs false
set_option linter.unusedVariables false
namespace Go.Ev
open Go Go.Proofs
noncomputable section
section
open Go.ChangeShapes Go.WideShapes Go.RowKit
variable {H0 : Type} {enc : TypeId × Value → H0} {w : World} {base n : Nat} {sp : Nat → Bool} {hd : Bool}
end
end
end Go.Ev

set_option linter.unusedVariables false
namespace Go.Ev
open Go Go.Proofs Go.ChangeShapes Go.WideShapes Go.RowKit
variable {H : Type} {enc : TypeId × Value → H} {P : Program} {w : World} {base : Nat} {spare : Nat → Bool} {held : Bool}
end Go.Ev

set_option maxRecDepth 100000
set_option linter.unusedSimpArgs false
set_option linter.unusedVariables false
namespace Go.Ev
open Go Go.Proofs
noncomputable section
def Bd (x : Iv) : Prop := (0 ≤ x.1 ∧ x.1 ≤ 1000) ∧ 0 ≤ x.2 ∧ x.2 ≤ 1000
theorem nul_bd : Bd nul := by unfold Bd nul; simp
theorem meet_bd {x : Iv} (h : Bd x) (y : Iv) : Bd (meetI x y) := by
  unfold meetI
  split
  · exact nul_bd
  · unfold Bd at h ⊢; simp; omega
theorem gauges_bd {p : Pst} {row : List Int} : ∀ {l : List Nat} {x : Iv}, Bd x → Bd (gaugesI p row l x)
  | [], _, h => h
  | a :: l, _, h => gauges_bd (l := l) (meet_bd h (gI p row a))
theorem step_bd (p : Pst) (f : Int) (x : Iv) (row : List Int) : Bd (stepI p f x row) := gauges_bd (meet_bd (by unfold Bd; simp) _)
theorem gauges_take {p : Pst} {row : List Int} {l : List Nat} {x : Iv} {j : Nat} (h : j < l.length) : gaugesI p row (l.take (j + 1)) x = meetI (gaugesI p row (l.take j) x) (gI p row l[j]) := by
  unfold gaugesI
  rw [List.take_succ_eq_append_getElem h, List.foldl_append]; rfl
def ivCells (l : List Iv) : List AV := (l.map ivc).flatten
theorem ivCells_len (l : List Iv) : (ivCells l).length = l.length * 2 := by
  unfold ivCells
  rw [flatten_len _ 2 (fun x hx => by obtain ⟨y, _, rfl⟩ := List.mem_map.1 hx; rfl), List.length_map]
theorem ivCells_snoc (l : List Iv) (x : Iv) : ivCells (l ++ [x]) = ivCells l ++ ivc x := by simp [ivCells]
theorem Mine.ivs {k0 : Nat} {G : Heap} {v : AV} {l : List Iv} (h : Mine k0 G v 125 2 (ivCells l)) : Row G v 2 (l.map ivc) := Mine.row (e := 125) h (fun x hx => by obtain ⟨y, _, rfl⟩ := List.mem_map.1 hx; rfl) (by omega)
theorem bin125 (a c a' c' : Int) : binT Try.prog .eql 125 (.agg [I a, I c]) (.agg [I a', I c']) = some (.bool (decide (a = a') && decide (c = c'))) := by
  have e : binT Try.prog .eql 125 (.agg [I a, I c]) (.agg [I a', I c']) = ((match eqI a a' with | true => (match eqI c c' with | true => some true | false => some false) | false => some false).map .bool) := by kernel_rfl
  rw [e, eqI_eq, eqI_eq]
  have h1 : (a == a') = decide (a = a') := rfl
  have h2 : (c == c') = decide (c = c') := rfl
  rw [h1, h2]
  cases decide (a = a') <;> cases decide (c = c') <;> rfl
theorem nul_iff (x : Iv) : (decide (x.1 = nul.1) && decide (x.2 = nul.2)) = true ↔ x = nul := by
  rw [Bool.and_eq_true, decide_eq_true_eq, decide_eq_true_eq]
  constructor
  · intro h; exact Prod.ext h.1 h.2
  · intro h; rw [h]; exact ⟨rfl, rfl⟩
theorem c86 (m : Nat) (ev rv : AV) (p : Pst) (rows : List (List Int)) (f : Int) (H : Heap) (hV : Ints H ev p.errs) (hRs : LstAt H rv rows) (hp : (0 ≤ p.gain ∧ p.gain ≤ 200) ∧ 0 ≤ p.drop ∧ p.drop ≤ 200) (hpe : ∀ x ∈ p.errs, 0 ≤ x ∧ x ≤ 1000) (hpl : p.errs.length ≤ 1000) (hlens : ∀ r ∈ rows, r.length = p.errs.length) (hrbd : ∀ r ∈ rows, ∀ x ∈ r, -1000 ≤ x ∧ x ≤ 2000) (hrl9 : rows.length ≤ 1000) : ∃ v H', RR (m + 4) (.fn 86 [.agg (p.c ev), rv, I f]) H = some (v, H') ∧ Ret H H' ∧ Mine H.next H' v 125 2 (ivCells (mayL p f rows)) := by
  show ∃ v H', evFn Try.prog (RR (m + 3)) 86 [.agg (p.c ev), rv, I f] H = some (v, H') ∧ Ret H H' ∧ Mine H.next H' v 125 2 (ivCells (mayL p f rows))
  refine fn_okE Try.func86 rfl rfl (by kernel_rfl) (by kernel_rfl) ?_
  obtain ⟨W, hW⟩ : ∃ W : Heap, W = ⟨H.t, H.next, H.next⟩ := ⟨_, rfl⟩
  have hg : ∀ n, W.get n = H.get n := fun n => by rw [hW]; rfl
  have hN : W.next = H.next := by rw [hW]
  have hE : ∀ G, Grow W G → Ext H G := fun G g => ⟨by rw [← hN]; exact g.next, fun n k => by rw [g.get n (by rw [hN]; exact k), hg]⟩
  have hG : Grow W W := Grow.refl (by rw [hW]; exact Nat.le_refl _)
  rw [← hW]
  have pev : ev.plain = true := lpl hV.len
  have hrlen := hRs.len
  have hwll := workL_len p.errs.length f
  refine Ok.seq ?_
  refine Ok.region ?_
  refine OkO.box rfl rfl ?_
  refine OkO.assign rfl rfl ?_
  refine OkO.nil ?_
  refine Ok.seq ?_
  refine Ok.region ?_
  refine OkO.assign rfl rfl ?_
  refine OkO.nil ?_
  refine Ok.seq ?_
  refine Ok.region ?_
  refine OkO.buildArr (z := [.int .i64 0, .int .i64 0]) (sz := 1) rfl (by kernel_rfl) rfl rfl ?_
  refine OkO.alloc (z := [.int .i64 0, .int .i64 0]) rfl (by kernel_rfl) ?_
  refine OkO.store rfl rfl rfl (sAc (n := 2) (ag := true) (by kernel_rfl) (by first | assumption | (simp (disch := first | omega | (simp only [hNw, hPt]; omega)) only [gn0, gn1, gn2, gn3, gn4, gn5, gp0, gno, gpo] <;> first | rfl | assumption | exact gp0 _ _ _ | exact gn0 _ _)) rfl (by first | rfl | assumption) (by first | rfl | exact spl_set _ _ _ (by first | assumption | omega | (simp; omega)))) ?_
  refine OkO.nil ?_
  refine Ok.seq ?_
  refine Ok.seq ?_
  refine Ok.region ?_
  refine OkO.move rfl rfl ?_
  refine OkO.builtin rfl rfl rfl (bln (by kernel_rfl) (by first | assumption | rfl)) ?_
  refine OkO.move rfl rfl ?_
  refine OkO.nil ?_
  refine Ok.block ?_
  refine Ok.loop (fun n s => ∃ (i : Nat) (done : List Iv) (x : Iv) (ov : AV), n = rows.length - i ∧ i ≤ rows.length ∧ done ++ folW p f (rows.drop i) x = mayL p f rows ∧ x ≠ nul ∧ Bd x ∧ done.length ≤ i ∧ Mine (W.next + 2) s.H ov 125 2 (ivCells done) ∧ Has 6 [(2, I f), (3, .ptr W.next 0), (7, ov), (8, .ptr (W.next + 1) 0), (14, rv), (15, I (rows.length : Int)), (16, I (i : Int))] s.T ∧ s.D = [] ∧ Grow W s.H ∧ s.H.get (W.next + 1) = some (.cells (ivc x) 125) ∧ s.H.get W.next = some (.cells (p.c ev) 30) ∧ W.next + 2 ≤ s.H.next) (rows.length) (by unfold loopFuel; omega)
    ⟨0, [], (0, 1000), .nils, rfl, Nat.zero_le _, rfl, by simp [nul], by unfold Bd; simp, Nat.le_refl _, Mine.nil _ _ _ _, Has.of (by kernel_rfl), rfl, (by (try dsimp only); repeat (first | exact hG | apply Grow.new | (refine Grow.put ?_ _ (by first | omega | (simp only [hNw, hPt]; omega))))), (by first | assumption | (simp (disch := first | omega | (simp only [hNw, hPt]; omega)) only [gn0, gn1, gn2, gn3, gn4, gn5, gp0, gno, gpo] <;> first | rfl | assumption | exact gp0 _ _ _ | exact gn0 _ _)), (by first | assumption | (simp (disch := first | omega | (simp only [hNw, hPt]; omega)) only [gn0, gn1, gn2, gn3, gn4, gn5, gp0, gno, gpo] <;> first | rfl | assumption | exact gp0 _ _ _ | exact gn0 _ _)), by simp⟩ ?_
  rintro n ⟨T, D, G⟩ ⟨i, done, x, ov, hn, hi, hdone, hxn, hxb, hdl, hm, ⟨f_, hT⟩, hD, hg, hb1, hb0, hn2⟩
  dsimp only at *
  subst hT hD
  have hgn := hg.next
  have eb0 : (G.get W.next).bind AObj.cs = some (p.c ev) := by rw [hb0]; rfl
  have eb1 : (G.get (W.next + 1)).bind AObj.cs = some (ivc x) := by rw [hb1]; rfl
  refine Ok.seq ?_
  refine Ok.region ?_
  refine OkO.bin rfl rfl rfl (bin_lss _ _) ?_
  refine OkO.nil ?_
  refine Ok.seq ?_
  refine Ok.cond rfl (fun h1 => ?_) (fun h1 => ?_)
  · -- yes h1
    have hlt : i < rows.length := by simpa using h1
    obtain ⟨xr, rb, ro, rcs, r1_, r2_, r3_, r4_, r5_⟩ := (hRs.ext (hE _ hg)).at_ i hlt
    have hrl := hlens rows[i] (List.getElem_mem hlt)
    have hrb := hrbd rows[i] (List.getElem_mem hlt)
    have r6_ : Ints H xr rows[i] := by (obtain ⟨xr2, b2, o2, c2, s1, s2, s3, s4, s5⟩ := hRs.at_ i hlt; rw [r1_] at s1; cases s1; rw [(hE _ hg).get _ s4, s2] at r2_; cases r2_; rw [s3] at r3_; cases r3_; exact s5)
    have hxb2 := hxb
    unfold Bd at hxb2
    refine Ok.skip ?_
    refine Ok.seq ?_
    refine Ok.block ?_
    refine Ok.seq ?_
    refine Ok.region ?_
    refine OkO.index (sz := 1) (n := i) rfl rfl rfl (by kernel_rfl) (by first | assumption | rfl | exact slAt_slice (by omega) | exact slAt_opn (by omega)) ?_ -- index ('Go.Operand.tmp', 14) ('Go.Operand.tmp', 16)
    refine OkO.load rfl rfl (lda (n := 1) (by kernel_rfl) (by first | assumption | (simp (disch := first | omega | (simp only [hNw, hPt]; omega)) only [gn0, gn1, gn2, gn3, gn4, gn5, gp0, gno, gpo] <;> first | rfl | assumption | exact gp0 _ _ _ | exact gn0 _ _)) (by first | rfl | assumption)) ?_
    refine OkO.assign rfl rfl ?_
    refine OkO.nil ?_
    refine Ok.seq ?_
    refine Ok.region ?_
    refine OkO.buildArr (z := [.int .i64 0, .int .i64 0]) (sz := 1) rfl (by kernel_rfl) rfl rfl ?_
    refine OkO.load rfl rfl (ldg (n := 6) (by kernel_rfl) (by first | assumption | (simp (disch := first | omega | (simp only [hNw, hPt]; omega)) only [gn0, gn1, gn2, gn3, gn4, gn5, gp0, gno, gpo] <;> first | rfl | assumption | exact gp0 _ _ _ | exact gn0 _ _)) (by first | rfl | assumption)) ?_
    refine OkO.load rfl rfl (ldg (n := 2) (by kernel_rfl) (by first | assumption | (simp (disch := first | omega | (simp only [hNw, hPt]; omega)) only [gn0, gn1, gn2, gn3, gn4, gn5, gp0, gno, gpo] <;> first | rfl | assumption | exact gp0 _ _ _ | exact gn0 _ _)) (by first | rfl | assumption)) ?_
    refine OkO.callV rfl rfl rfl rfl rfl (c89 (m + 2) ev p x _ (by omega) (by omega)) ?_ -- "(sackung/alarm.Post).after"
    refine OkO.callV rfl rfl rfl rfl rfl (c93 (m + 1) (0, 1000) (afterI p x) _) ?_ -- "(sackung/alarm.ends).meet"
    refine OkO.store rfl rfl rfl (sAc (n := 2) (ag := true) (by kernel_rfl) (by first | assumption | (simp (disch := first | omega | (simp only [hNw, hPt]; omega)) only [gn0, gn1, gn2, gn3, gn4, gn5, gp0, gno, gpo] <;> first | rfl | assumption | exact gp0 _ _ _ | exact gn0 _ _)) rfl (by first | rfl | assumption) (by first | rfl | exact spl_set _ _ _ (by first | assumption | omega | (simp; omega)))) ?_
    refine OkO.nil ?_
    refine Ok.seq ?_
    refine Ok.seq ?_
    refine Ok.region ?_
    refine OkO.load rfl rfl (ldg (n := 6) (by kernel_rfl) (by first | assumption | (simp (disch := first | omega | (simp only [hNw, hPt]; omega)) only [gn0, gn1, gn2, gn3, gn4, gn5, gp0, gno, gpo] <;> first | rfl | assumption | exact gp0 _ _ _ | exact gn0 _ _)) (by first | rfl | assumption)) ?_
    refine OkO.move rfl rfl ?_
    refine OkO.callE rfl rfl rfl rfl rfl (c90 (m + 2) ev p f _ (hV.len) (by omega)) ?_ -- "(sackung/alarm.Post).working"
    rintro wv H90 ⟨q90, m90⟩
    have n90 := q90.ext.next
    simp only [hNw, hPt] at n90 m90
    have g90 : Grow W H90 := Grow.ret (by (try dsimp only); repeat (first | exact hg | exact hG | apply Grow.new | (refine Grow.put ?_ _ (by first | omega | (simp only [hNw, hPt]; omega))))) q90
    have hwl : lenOf wv = some (workL p.errs.length f).length := by simpa using m90.nats.len
    obtain ⟨x0, hx0⟩ : ∃ x0, x0 = meetI (0, 1000) (afterI p x) := ⟨_, rfl⟩
    have z1 : H90.get (W.next + 1) = some (.cells (ivc (meetI (0, 1000) (afterI p x))) 125) := by rw [q90.ext.get _ (by first | omega | (simp only [hNw, hPt]; omega))]; first | assumption | (simp (disch := first | omega | (simp only [hNw, hPt]; omega)) only [gn0, gn1, gn2, gn3, gn4, gn5, gp0, gno, gpo] <;> first | rfl | assumption | exact gp0 _ _ _ | exact gn0 _ _)
    have z0 : H90.get W.next = some (.cells (p.c ev) 30) := by rw [q90.ext.get _ (by first | omega | (simp only [hNw, hPt]; omega))]; first | assumption | (simp (disch := first | omega | (simp only [hNw, hPt]; omega)) only [gn0, gn1, gn2, gn3, gn4, gn5, gp0, gno, gpo] <;> first | rfl | assumption | exact gp0 _ _ _ | exact gn0 _ _)
    have zm : Mine (W.next + 2) H90 ov 125 2 (ivCells done) := (hm.put _ (by omega)).to q90.ext
    have zw : Mine (W.next + 2) H90 wv 3 1 (natL (workL p.errs.length f)) := m90.low (by omega)
    refine OkO.builtin rfl rfl rfl (bln (by kernel_rfl) (by first | assumption | rfl)) ?_
    refine OkO.move rfl rfl ?_
    refine OkO.nil ?_
    refine Ok.block ?_
    refine Ok.loop (fun n s => ∃ j : Nat, n = (workL p.errs.length f).length - j ∧ j ≤ (workL p.errs.length f).length ∧ Has 6 [(2, I f), (3, .ptr W.next 0), (7, ov), (8, .ptr (W.next + 1) 0), (14, rv), (15, I (rows.length : Int)), (16, I (i : Int)), (10, xr), (27, wv), (28, I ((workL p.errs.length f).length : Int)), (29, I (j : Int))] s.T ∧ s.D = [] ∧ Grow W s.H ∧ s.H.get (W.next + 1) = some (.cells (ivc (gaugesI p rows[i] ((workL p.errs.length f).take j) x0)) 125) ∧ Mine (W.next + 2) s.H ov 125 2 (ivCells done) ∧ Mine (W.next + 2) s.H wv 3 1 (natL (workL p.errs.length f)) ∧ s.H.get W.next = some (.cells (p.c ev) 30) ∧ W.next + 2 ≤ s.H.next) ((workL p.errs.length f).length) (by unfold loopFuel; omega)
      ⟨0, rfl, Nat.zero_le _, Has.of (by kernel_rfl), rfl, g90, by (rw [hx0]; exact z1), zm, zw, z0, by (show W.next + 2 ≤ H90.next; omega)⟩ ?_
    rintro n ⟨T, D, G⟩ ⟨j, hn2j, hj, ⟨f_, hT⟩, hD, hg, hb1, hm, hw, hb0, hn2⟩
    dsimp only at *
    subst hT hD
    have hgn := hg.next
    have eb0 : (G.get W.next).bind AObj.cs = some (p.c ev) := by rw [hb0]; rfl
    have eb1 : (G.get (W.next + 1)).bind AObj.cs = some (ivc (gaugesI p rows[i] ((workL p.errs.length f).take j) x0)) := by rw [hb1]; rfl
    refine Ok.seq ?_
    refine Ok.region ?_
    refine OkO.bin rfl rfl rfl (bin_lss _ _) ?_
    refine OkO.nil ?_
    refine Ok.seq ?_
    refine Ok.cond rfl (fun h2 => ?_) (fun h2 => ?_)
    · -- yes h2
      have hjt : j < (workL p.errs.length f).length := by simpa using h2
      have hgl := workL_lt (List.getElem_mem hjt)
      obtain ⟨wb, wo, wcs, w1, w2, w3, w4⟩ := hw.nats.at_ j [I ((workL p.errs.length f)[j] : Int)] (by simp [hjt])
      have w5 := seg_one w3
      refine Ok.skip ?_
      refine Ok.seq ?_
      refine Ok.block ?_
      refine Ok.seq ?_
      refine Ok.region ?_
      refine OkO.index (sz := 1) (n := j) rfl rfl rfl (by kernel_rfl) (by first | assumption | rfl | exact slAt_slice (by omega) | exact slAt_opn (by omega)) ?_ -- index ('Go.Operand.tmp', 27) ('Go.Operand.tmp', 29)
      refine OkO.load rfl rfl (lda (n := 1) (by kernel_rfl) (by first | assumption | (simp (disch := first | omega | (simp only [hNw, hPt]; omega)) only [gn0, gn1, gn2, gn3, gn4, gn5, gp0, gno, gpo] <;> first | rfl | assumption | exact gp0 _ _ _ | exact gn0 _ _)) (by first | rfl | assumption)) ?_
      refine OkO.assign rfl rfl ?_
      refine OkO.nil ?_
      refine Ok.drawn [(0, true, []), (1, true, []), (2, true, []), (3, true, []), (4, false, [0]), (5, false, [1]), (6, false, [])] (by kernel_rfl) ?_
      refine OkP.step ?_
      refine OkO.load rfl rfl (ldg (n := 2) (by kernel_rfl) (by first | assumption | (simp (disch := first | omega | (simp only [hNw, hPt]; omega)) only [gn0, gn1, gn2, gn3, gn4, gn5, gp0, gno, gpo] <;> first | rfl | assumption | exact gp0 _ _ _ | exact gn0 _ _)) (by first | rfl | assumption)) ?_
      refine OkO.nil ⟨rfl, ?_⟩
      refine OkP.step ?_
      refine OkO.load rfl rfl (ldg (n := 6) (by kernel_rfl) (by first | assumption | (simp (disch := first | omega | (simp only [hNw, hPt]; omega)) only [gn0, gn1, gn2, gn3, gn4, gn5, gp0, gno, gpo] <;> first | rfl | assumption | exact gp0 _ _ _ | exact gn0 _ _)) (by first | rfl | assumption)) ?_
      refine OkO.nil ⟨rfl, ?_⟩
      refine OkP.step ?_
      refine OkO.move rfl rfl ?_
      refine OkO.nil ⟨rfl, ?_⟩
      refine OkP.step ?_
      refine OkO.move rfl rfl ?_
      refine OkO.nil ⟨rfl, ?_⟩
      refine OkP.step ?_
      refine OkO.callV rfl rfl rfl rfl rfl (c105 (m + 2) ev p xr rows[i] (workL p.errs.length f)[j] _ (hV.ext (hE _ hg)) (r6_.ext (hE _ hg)) hgl (by omega) hpe hrb) ?_ -- "(sackung/alarm.Post).agreeing"
      refine OkO.nil ⟨(sco (sld rfl rfl (ldg (n := 2) (by kernel_rfl) (by first | assumption | (simp (disch := first | omega | (simp only [hNw, hPt]; omega)) only [gn0, gn1, gn2, gn3, gn4, gn5, gp0, gno, gpo] <;> first | rfl | assumption | exact gp0 _ _ _ | exact gn0 _ _)) (by first | rfl | assumption)) rfl (eqr _ (by first | rfl | exact lpl (by assumption) | (simp [AV.plain, AV.plains, AV.cells, pev, Pst.c])))) rfl), ?_⟩
      refine OkP.step ?_
      refine OkO.callV rfl rfl rfl rfl rfl (c93 (m + 1) (gaugesI p rows[i] ((workL p.errs.length f).take j) x0) (gI p rows[i] (workL p.errs.length f)[j]) _) ?_ -- "(sackung/alarm.ends).meet"
      refine OkO.nil ⟨(sco (sld rfl rfl (ldg (n := 6) (by kernel_rfl) (by first | assumption | (simp (disch := first | omega | (simp only [hNw, hPt]; omega)) only [gn0, gn1, gn2, gn3, gn4, gn5, gp0, gno, gpo] <;> first | rfl | assumption | exact gp0 _ _ _ | exact gn0 _ _)) (by first | rfl | assumption)) rfl (eqr _ (by first | rfl | exact lpl (by assumption) | (simp [AV.plain, AV.plains, AV.cells, pev, Pst.c])))) rfl), ?_⟩
      refine OkP.step ?_
      refine OkO.store rfl rfl rfl (sAc (n := 2) (ag := true) (by kernel_rfl) (by first | assumption | (simp (disch := first | omega | (simp only [hNw, hPt]; omega)) only [gn0, gn1, gn2, gn3, gn4, gn5, gp0, gno, gpo] <;> first | rfl | assumption | exact gp0 _ _ _ | exact gn0 _ _)) rfl (by first | rfl | assumption) (by first | rfl | exact spl_set _ _ _ (by first | assumption | omega | (simp; omega)))) ?_
      refine OkO.nil ⟨rfl, ?_⟩
      refine OkP.nil ?_
      refine Ok.region ?_
      refine OkO.bin rfl rfl rfl (bin_add (by omega) (by omega)) ?_
      refine OkO.move rfl rfl ?_
      refine OkO.nil ?_
      refine ⟨(workL p.errs.length f).length - (j + 1), by omega, j + 1, rfl, by omega, Has.of (by kernel_rfl), rfl, (by (try dsimp only); repeat (first | exact hg | exact hG | apply Grow.new | (refine Grow.put ?_ _ (by first | omega | (simp only [hNw, hPt]; omega))))), ?_, hm.put _ (by omega), hw.put _ (by omega), (by first | assumption | (simp (disch := first | omega | (simp only [hNw, hPt]; omega)) only [gn0, gn1, gn2, gn3, gn4, gn5, gp0, gno, gpo] <;> first | rfl | assumption | exact gp0 _ _ _ | exact gn0 _ _)), by simp; omega⟩
      rw [gauges_take hjt]
      exact gp0 _ _ _
    · -- no h2
      have hge2 : (workL p.errs.length f).length ≤ j := by simp at h2; omega
      rw [List.take_of_length_le hge2] at hb1 eb1
      refine Ok.exit ?_
      refine Ok.seq ?_
      refine Ok.seq ?_
      refine Ok.drawn [(0, true, []), (1, false, [0]), (2, true, [])] (by kernel_rfl) ?_
      refine OkP.step ?_
      refine OkO.load rfl rfl (ldg (n := 2) (by kernel_rfl) (by first | assumption | (simp (disch := first | omega | (simp only [hNw, hPt]; omega)) only [gn0, gn1, gn2, gn3, gn4, gn5, gp0, gno, gpo] <;> first | rfl | assumption | exact gp0 _ _ _ | exact gn0 _ _)) (by first | rfl | assumption)) ?_
      refine OkO.nil ⟨rfl, ?_⟩
      refine OkP.step ?_
      refine OkO.callV rfl rfl rfl rfl rfl (c106 (m + 2) _) ?_ -- "sackung/alarm.nothing"
      refine OkO.nil ⟨(sco (sld rfl rfl (ldg (n := 2) (by kernel_rfl) (by first | assumption | (simp (disch := first | omega | (simp only [hNw, hPt]; omega)) only [gn0, gn1, gn2, gn3, gn4, gn5, gp0, gno, gpo] <;> first | rfl | assumption | exact gp0 _ _ _ | exact gn0 _ _)) (by first | rfl | assumption)) rfl (eqr _ (by first | rfl | exact lpl (by assumption) | (simp [AV.plain, AV.plains, AV.cells, pev, Pst.c])))) rfl), ?_⟩
      refine OkP.step ?_
      refine OkO.binT rfl rfl rfl (bin125 _ _ _ _) ?_
      refine OkO.nil ⟨rfl, ?_⟩
      refine OkP.nil ?_
      refine Ok.cond rfl (fun h3 => ?_) (fun h3 => ?_)
      · -- yes h3
        have hnu : (gaugesI p rows[i] (workL p.errs.length f) x0) = nul := (nul_iff _).1 (by simpa using h3)
        refine Ok.exit ?_
        refine Ok.seq ?_
        refine Ok.region ?_
        refine OkO.move rfl rfl ?_
        refine OkO.assign rfl rfl ?_
        refine OkO.nil ?_
        refine Ok.ret ⟨.inr rfl, ?_⟩
        have hdf : mayL p f rows = done := by (rw [← hdone, List.drop_eq_getElem_cons hlt, folW, if_pos (show stepI p f x rows[i] = nul from by rw [hx0] at hnu; exact hnu)]; simp)
        refine back_newA (resV_tmp rfl resV_nil) rfl (by rw [← hW]; exact (by (try dsimp only); repeat (first | exact hg | exact hG | apply Grow.new | (refine Grow.put ?_ _ (by first | omega | (simp only [hNw, hPt]; omega)))))) (fun H9 p1 p2 => ⟨p1, by rw [hdf]; exact (hm.low (by omega)).backT p2 id⟩)
      · -- no h3
        have hnn : (gaugesI p rows[i] (workL p.errs.length f) x0) ≠ nul := fun e9 => by (rw [(nul_iff _).2 e9] at h3; cases h3)
        have hst : (gaugesI p rows[i] (workL p.errs.length f) x0) = stepI p f x rows[i] := by rw [hx0]; rfl
        have hns : stepI p f x rows[i] ≠ nul := by rw [← hst]; exact hnn
        refine Ok.skip ?_
        refine Ok.region ?_
        refine OkO.move rfl rfl ?_
        refine OkO.load rfl rfl (ldg (n := 2) (by kernel_rfl) (by first | assumption | (simp (disch := first | omega | (simp only [hNw, hPt]; omega)) only [gn0, gn1, gn2, gn3, gn4, gn5, gp0, gno, gpo] <;> first | rfl | assumption | exact gp0 _ _ _ | exact gn0 _ _)) (by first | rfl | assumption)) ?_
        refine OkO.buildSlice (el := 125) (sz := 2) (z := [.int .i64 0, .int .i64 0]) rfl (by kernel_rfl) (by decide) rfl rfl ?_
        refine OkO.builtinE rfl rfl rfl (Mine.app2 (W := W) (k0 := W.next + 2) (t := 130) (u := 130) (sz := 2) (by_ := 16) (e := 125) (n := 1) (new := ivc (gaugesI p rows[i] (workL p.errs.length f) x0)) (hm.to (by (try dsimp only); repeat (first | exact Ext.refl _ | assumption | apply Ext.new | (refine Ext.put ?_ _ (by first | omega | (simp only [hNw, hPt]; omega)))))) (by (try dsimp only); repeat (first | exact hg | exact hG | apply Grow.new | (refine Grow.put ?_ _ (by first | omega | (simp only [hNw, hPt]; omega))))) (by omega) (by simp; omega) (by kernel_rfl) (by kernel_rfl) (elems_new (n := 1) (sz := 2) rfl) rfl rfl (by rw [ivCells_len]; omega) (by omega) (by omega) rfl) ?_
        rintro v2 G2 ⟨r1, r2, r3, r4, r5, _⟩
        refine OkO.assign rfl rfl ?_
        refine OkO.nil ?_
        refine Ok.region ?_
        refine OkO.bin rfl rfl rfl (bin_add (by omega) (by omega)) ?_
        refine OkO.move rfl rfl ?_
        refine OkO.nil ?_
        have hfo : folW p f (rows.drop i) x = stepI p f x rows[i] :: folW p f (rows.drop (i + 1)) (stepI p f x rows[i]) := by rw [List.drop_eq_getElem_cons hlt, folW, if_neg hns]
        refine ⟨rows.length - (i + 1), by omega, i + 1, done ++ [stepI p f x rows[i]], stepI p f x rows[i], v2, rfl, by omega, ?_, hns, step_bd _ _ _ _, (by simp; omega), ?_, Has.of (by kernel_rfl), rfl, r2, ?_, ?_, by (show W.next + 2 ≤ G2.next; simp only [hNw] at r5; omega)⟩
        · rw [List.append_assoc, List.singleton_append, ← hfo]; exact hdone
        · rw [ivCells_snoc, ← hst]; exact r1
        · rw [r4 _ (by simp only [hNw]; omega) (hm.far (by omega)), ← hst]; first | assumption | (simp (disch := first | omega | (simp only [hNw, hPt]; omega)) only [gn0, gn1, gn2, gn3, gn4, gn5, gp0, gno, gpo] <;> first | rfl | assumption | exact gp0 _ _ _ | exact gn0 _ _)
        · rw [r4 _ (by simp only [hNw]; omega) (hm.far (by omega))]; first | assumption | (simp (disch := first | omega | (simp only [hNw, hPt]; omega)) only [gn0, gn1, gn2, gn3, gn4, gn5, gp0, gno, gpo] <;> first | rfl | assumption | exact gp0 _ _ _ | exact gn0 _ _)
  · -- no h1
    have hge : i = rows.length := by simp at h1; omega
    refine Ok.exit ?_
    refine Ok.seq ?_
    refine Ok.region ?_
    refine OkO.move rfl rfl ?_
    refine OkO.assign rfl rfl ?_
    refine OkO.nil ?_
    refine Ok.ret ⟨.inr rfl, ?_⟩
    have hdf : mayL p f rows = done := by (rw [← hdone, List.drop_eq_nil_of_le (by omega)]; simp [folW])
    refine back_newA (resV_tmp rfl resV_nil) rfl (by rw [← hW]; exact (by (try dsimp only); repeat (first | exact hg | exact hG | apply Grow.new | (refine Grow.put ?_ _ (by first | omega | (simp only [hNw, hPt]; omega)))))) (fun H9 p1 p2 => ⟨p1, by rw [hdf]; exact (hm.low (by omega)).backT p2 id⟩)
end
end Go.Ev

set_option maxRecDepth 100000
set_option linter.unusedSimpArgs false
set_option linter.unusedVariables false
namespace Go.Ev
open Go Go.Proofs
noncomputable section
theorem keysI : Keys Try.prog 3 I where
  eq := fun a c => by
    have e : eqT Try.prog 8 3 (I a) (I c) = some (eqI a c) := by kernel_rfl
    rw [e, eqI_eq]; rfl
  chk := fun a => by kernel_rfl
  same := fun a => by
    show sameAtom (I a) (I a) = true
    simp [sameAtom, sameKind, eqI_eq]
theorem mapT112 : mapTy Try.prog 112 = some (3, .nils) := by kernel_rfl
/-- What is kept by the gauge that has failed, from none on. -/
def mapF (vs : List AV) : Int → Option AV := fun k => if 0 ≤ k + 1 then vs[(k + 1).toNat]? else none
theorem mapF_nil : mapF [] = fun _ => none := by funext k; unfold mapF; split <;> simp
theorem mapF_upd (vs : List AV) (x : AV) : updK (mapF vs) ((vs.length : Int) - 1) x = mapF (vs ++ [x]) := by
  funext k
  unfold updK mapF
  by_cases h : k = (vs.length : Int) - 1
  · rw [if_pos h, if_pos (by omega), h, show ((vs.length : Int) - 1 + 1).toNat = vs.length by omega]; simp
  · rw [if_neg h]
    split
    · rename_i h2
      by_cases h3 : (k + 1).toNat < vs.length
      · rw [List.getElem?_append_left h3]
      · rw [List.getElem?_eq_none (by omega), List.getElem?_eq_none (by simp; omega)]
    · rfl
theorem mapF_at {vs : List AV} {i : Nat} : mapF vs ((i : Int) - 1) = vs[i]? := by
  unfold mapF
  rw [if_pos (by omega), show ((i : Int) - 1 + 1).toNat = i by omega]
/-- A post on duty: the map, and what is kept in it. -/
def DutyM (k0 : Nat) (G : Heap) (mb : Nat) (p : Pst) (rows : List (List Int)) : Prop := k0 ≤ mb ∧ mb < G.next ∧ ∃ o vs, G.get mb = some o ∧ MapO o I (mapF vs) ∧ vs.length = p.errs.length + 1 ∧ ∀ (j : Nat) (x : AV), vs[j]? = some x → Mine k0 G x 125 2 (ivCells (mayL p ((j : Int) - 1) rows))
theorem DutyM.to {k0 : Nat} {G G' : Heap} {mb : Nat} {p : Pst} {rows : List (List Int)} (h : DutyM k0 G mb p rows) (e : Ext G G') : DutyM k0 G' mb p rows := by
  obtain ⟨h1, h2, o, vs, h3, h4, h5, h6⟩ := h
  exact ⟨h1, Nat.lt_of_lt_of_le h2 e.next, o, vs, by rw [e.get _ h2]; exact h3, h4, h5, fun j x hj => (h6 j x hj).to e⟩
theorem DutyM.low {k0 k1 : Nat} {G : Heap} {mb : Nat} {p : Pst} {rows : List (List Int)} (h : DutyM k1 G mb p rows) (hk : k0 ≤ k1) : DutyM k0 G mb p rows := by
  obtain ⟨h1, h2, o, vs, h3, h4, h5, h6⟩ := h
  exact ⟨by omega, h2, o, vs, h3, h4, h5, fun j x hj => (h6 j x hj).low hk⟩
def Pst.d (p : Pst) (ev : AV) (mb : Nat) : List AV := [ev, I p.gain, I p.drop, I p.fall, I p.out, I p.ahead, .map mb]
theorem duty_flat (p : Pst) (ev : AV) (mb : Nat) : (AV.agg (p.d ev mb)).flat = false := by
  show AV.flats [ev, I p.gain, I p.drop, I p.fall, I p.out, I p.ahead, .map mb] = false
  unfold AV.flats
  cases ev.flat <;> rfl
theorem c63 (m : Nat) (ev rv : AV) (p : Pst) (rows : List (List Int)) (H : Heap) (hV : Ints H ev p.errs) (hRs : LstAt H rv rows) (hp : (0 ≤ p.gain ∧ p.gain ≤ 200) ∧ 0 ≤ p.drop ∧ p.drop ≤ 200) (hpe : ∀ x ∈ p.errs, 0 ≤ x ∧ x ≤ 1000) (hpl : p.errs.length ≤ 1000) (hlens : ∀ r ∈ rows, r.length = p.errs.length) (hrbd : ∀ r ∈ rows, ∀ x ∈ r, -1000 ≤ x ∧ x ≤ 2000) (hrl9 : rows.length ≤ 1000) : ∃ v H', RR (m + 5) (.fn 63 [.agg (p.c ev), rv]) H = some (v, H') ∧ ∃ mb, v = .agg (p.d ev mb) ∧ Ret H H' ∧ DutyM H.next H' mb p rows := by
  show ∃ v H', evFn Try.prog (RR (m + 4)) 63 [.agg (p.c ev), rv] H = some (v, H') ∧ ∃ mb, v = .agg (p.d ev mb) ∧ Ret H H' ∧ DutyM H.next H' mb p rows
  refine fn_okE Try.func63 rfl rfl (by kernel_rfl) (by kernel_rfl) ?_
  obtain ⟨W, hW⟩ : ∃ W : Heap, W = ⟨H.t, H.next, H.next⟩ := ⟨_, rfl⟩
  have hg : ∀ n, W.get n = H.get n := fun n => by rw [hW]; rfl
  have hN : W.next = H.next := by rw [hW]
  have hE : ∀ G, Grow W G → Ext H G := fun G g => ⟨by rw [← hN]; exact g.next, fun n k => by rw [g.get n (by rw [hN]; exact k), hg]⟩
  have hG : Grow W W := Grow.refl (by rw [hW]; exact Nat.le_refl _)
  rw [← hW]
  have pev : ev.plain = true := lpl hV.len
  have hel := hV.len
  have ats : ∀ mb, atoms [ev, I p.gain, I p.drop, I p.fall, I p.out, I p.ahead, .map mb] = true := fun mb => by rw [atoms, (len_one hel).2]; rfl
  refine Ok.seq ?_
  refine Ok.region ?_
  refine OkO.box rfl rfl ?_
  refine OkO.alloc (z := [.nils, .int .i64 0, .int .i64 0, .int .i64 0, .int .i64 0, .int .i64 0, .nilm]) rfl (by kernel_rfl) ?_
  refine OkO.nil ?_
  refine Ok.seq ?_
  refine Ok.region ?_
  refine OkO.load rfl rfl (ldg (n := 6) (by kernel_rfl) (by first | assumption | (simp (disch := first | omega | (simp only [hNw, hPt]; omega)) only [gn0, gn1, gn2, gn3, gn4, gn5, gp0, gno, gpo] <;> first | rfl | assumption | exact gp0 _ _ _ | exact gn0 _ _)) (by first | rfl | assumption)) ?_
  refine OkO.makeMap rfl ?_
  refine OkO.build (z := [.nils, .int .i64 0, .int .i64 0, .int .i64 0, .int .i64 0, .int .i64 0, .nilm]) (pl := [(0, 6), (6, 1)]) rfl (by kernel_rfl) rfl rfl ?_
  refine OkO.alloc (z := [.nils, .int .i64 0, .int .i64 0, .int .i64 0, .int .i64 0, .int .i64 0, .nilm]) rfl (by kernel_rfl) ?_
  refine OkO.store rfl rfl rfl (sAc (n := 7) (ag := true) (by kernel_rfl) (by first | assumption | (simp (disch := first | omega | (simp only [hNw, hPt]; omega)) only [gn0, gn1, gn2, gn3, gn4, gn5, gp0, gno, gpo] <;> first | rfl | assumption | exact gp0 _ _ _ | exact gn0 _ _)) rfl (by first | rfl | assumption | exact ats _) (by first | rfl | exact spl_set _ _ _ (by first | assumption | omega | (simp; omega)))) ?_
  refine OkO.nil ?_
  refine Ok.seq ?_
  refine Ok.seq ?_
  refine Ok.region ?_
  refine OkO.assign rfl rfl ?_
  refine OkO.nil ?_
  refine Ok.block ?_
  refine Ok.loop (fun n s => ∃ (i : Nat) (vs : List AV) (o : AObj), n = (p.errs.length + 1) - i ∧ i ≤ (p.errs.length + 1) ∧ vs.length = i ∧ s.H.get (W.next + 2) = some o ∧ MapO o I (mapF vs) ∧ (∀ (j : Nat) (x : AV), vs[j]? = some x → Mine (W.next + 4) s.H x 125 2 (ivCells (mayL p ((j : Int) - 1) rows))) ∧ Has 5 [(1, rv), (2, .ptr W.next 0), (4, .ptr (W.next + 1) 0), (5, .ptr (W.next + 3) 0), (6, I ((i : Int) - 1))] s.T ∧ s.D = [] ∧ Grow W s.H ∧ s.H.get W.next = some (.cells (p.c ev) 30) ∧ s.H.get (W.next + 1) = some (.cells [.nils, I 0, I 0, I 0, I 0, I 0, .nilm] 114) ∧ s.H.get (W.next + 3) = some (.cells (p.d ev (W.next + 2)) 114) ∧ W.next + 4 ≤ s.H.next) ((p.errs.length + 1)) (by unfold loopFuel; omega)
    ⟨0, [], .map [] 0, rfl, Nat.zero_le _, rfl, (by first | assumption | (simp (disch := first | omega | (simp only [hNw, hPt]; omega)) only [gn0, gn1, gn2, gn3, gn4, gn5, gp0, gno, gpo] <;> first | rfl | assumption | exact gp0 _ _ _ | exact gn0 _ _)), by rw [mapF_nil]; exact MapO.nil, fun j x h => by simp at h, Has.of (by kernel_rfl), rfl, (by (try dsimp only); repeat (first | exact hG | apply Grow.new | (refine Grow.put ?_ _ (by first | omega | (simp only [hNw, hPt]; omega))))), (by first | assumption | (simp (disch := first | omega | (simp only [hNw, hPt]; omega)) only [gn0, gn1, gn2, gn3, gn4, gn5, gp0, gno, gpo] <;> first | rfl | assumption | exact gp0 _ _ _ | exact gn0 _ _)), (by first | assumption | (simp (disch := first | omega | (simp only [hNw, hPt]; omega)) only [gn0, gn1, gn2, gn3, gn4, gn5, gp0, gno, gpo] <;> first | rfl | assumption | exact gp0 _ _ _ | exact gn0 _ _)), (by first | assumption | (simp (disch := first | omega | (simp only [hNw, hPt]; omega)) only [gn0, gn1, gn2, gn3, gn4, gn5, gp0, gno, gpo] <;> first | rfl | assumption | exact gp0 _ _ _ | exact gn0 _ _)), by simp⟩ ?_
  rintro n ⟨T, D, G⟩ ⟨i, vs, o, hn, hi, hvl, hmo, ho, hms, ⟨f_, hT⟩, hD, hg, hb0, hb1, hb3, hn4⟩
  dsimp only at *
  subst hT hD
  have hgn := hg.next
  have eb0 : (G.get W.next).bind AObj.cs = some (p.c ev) := by rw [hb0]; rfl
  have eb3 : (G.get (W.next + 3)).bind AObj.cs = some (p.d ev (W.next + 2)) := by rw [hb3]; rfl
  refine Ok.seq ?_
  refine Ok.seq ?_
  refine Ok.region ?_
  refine OkO.move rfl rfl ?_
  refine OkO.fieldAddr (o := 0) rfl (by kernel_rfl) rfl ?_
  refine OkO.load rfl rfl (lda (n := 1) (by kernel_rfl) (by first | assumption | (simp (disch := first | omega | (simp only [hNw, hPt]; omega)) only [gn0, gn1, gn2, gn3, gn4, gn5, gp0, gno, gpo] <;> first | rfl | assumption | exact gp0 _ _ _ | exact gn0 _ _)) (by first | rfl | assumption)) ?_
  refine OkO.builtin rfl rfl rfl (bln (by kernel_rfl) (by first | assumption | rfl)) ?_
  refine OkO.bin rfl rfl rfl (bin_lss _ _) ?_
  refine OkO.nil ?_
  refine Ok.cond rfl (fun h1 => ?_) (fun h1 => ?_)
  · -- yes h1
    have hlt : i ≤ p.errs.length := by (have h9 : (i : Int) - 1 < (p.errs.length : Int) := by simpa using h1); omega
    refine Ok.skip ?_
    refine Ok.seq ?_
    refine Ok.block ?_
    refine Ok.drawn [(0, true, []), (1, true, []), (2, true, []), (3, true, []), (4, true, []), (5, true, []), (6, false, [1]), (7, false, [])] (by kernel_rfl) ?_
    refine OkP.step ?_
    refine OkO.fieldAddr (o := 6) rfl (by kernel_rfl) rfl ?_
    refine OkO.nil ⟨rfl, ?_⟩
    refine OkP.step ?_
    refine OkO.load rfl rfl (lda (n := 1) (by kernel_rfl) (by first | assumption | (simp (disch := first | omega | (simp only [hNw, hPt]; omega)) only [gn0, gn1, gn2, gn3, gn4, gn5, gp0, gno, gpo] <;> first | rfl | assumption | exact gp0 _ _ _ | exact gn0 _ _)) (by first | rfl | assumption)) ?_
    refine OkO.nil ⟨rfl, ?_⟩
    refine OkP.step ?_
    refine OkO.move rfl rfl ?_
    refine OkO.nil ⟨rfl, ?_⟩
    refine OkP.step ?_
    refine OkO.load rfl rfl (ldg (n := 6) (by kernel_rfl) (by first | assumption | (simp (disch := first | omega | (simp only [hNw, hPt]; omega)) only [gn0, gn1, gn2, gn3, gn4, gn5, gp0, gno, gpo] <;> first | rfl | assumption | exact gp0 _ _ _ | exact gn0 _ _)) (by first | rfl | assumption)) ?_
    refine OkO.nil ⟨rfl, ?_⟩
    refine OkP.step ?_
    refine OkO.move rfl rfl ?_
    refine OkO.nil ⟨rfl, ?_⟩
    refine OkP.step ?_
    refine OkO.move rfl rfl ?_
    refine OkO.nil ⟨rfl, ?_⟩
    refine OkP.step ?_
    refine OkO.callE rfl rfl rfl rfl rfl (c86 (m + 0) ev rv p rows ((i : Int) - 1) _ (hV.ext (hE _ hg)) (hRs.ext (hE _ hg)) hp hpe hpl hlens hrbd hrl9) ?_ -- "(sackung/alarm.Post).follow"
    rintro x H86 ⟨q86, m86⟩
    have n86 := q86.ext.next
    have g86 : Grow W H86 := Grow.ret (by (try dsimp only); repeat (first | exact hg | exact hG | apply Grow.new | (refine Grow.put ?_ _ (by first | omega | (simp only [hNw, hPt]; omega))))) q86
    have z0 : H86.get W.next = some (.cells (p.c ev) 30) := by rw [q86.ext.get _ (by first | omega | (simp only [hNw, hPt]; omega))]; exact hb0
    have z1 : H86.get (W.next + 1) = some (.cells [.nils, I 0, I 0, I 0, I 0, I 0, .nilm] 114) := by rw [q86.ext.get _ (by first | omega | (simp only [hNw, hPt]; omega))]; exact hb1
    have z3 : H86.get (W.next + 3) = some (.cells (p.d ev (W.next + 2)) 114) := by rw [q86.ext.get _ (by first | omega | (simp only [hNw, hPt]; omega))]; exact hb3
    have zo : H86.get (W.next + 2) = some o := by rw [q86.ext.get _ (by first | omega | (simp only [hNw, hPt]; omega))]; exact hmo
    have ez3 : (H86.get (W.next + 3)).bind AObj.cs = some (p.d ev (W.next + 2)) := by rw [z3]; rfl
    refine OkO.nil ⟨(sco (sld rfl rfl (lda (n := 1) (by kernel_rfl) (by first | assumption | (simp (disch := first | omega | (simp only [hNw, hPt]; omega)) only [gn0, gn1, gn2, gn3, gn4, gn5, gp0, gno, gpo] <;> first | rfl | assumption | exact gp0 _ _ _ | exact gn0 _ _)) (by first | rfl | assumption)) rfl (eqr _ (by first | rfl | exact lpl (by assumption) | (simp [AV.plain, AV.plains, AV.cells, pev, Pst.c])))) rfl), ?_⟩
    refine OkP.step ?_
    refine OkO.mapUpdate (f := mapF vs) (o := o) ((i : Int) - 1) rfl mapT112 keysI rfl rfl rfl zo ho (fun o1 ho1 => ?_)
    refine OkO.nil ⟨rfl, ?_⟩
    refine OkP.nil ?_
    refine Ok.region ?_
    refine OkO.move rfl rfl ?_
    refine OkO.bin rfl rfl rfl (bin_add (by omega) (by omega)) ?_
    refine OkO.assign rfl rfl ?_
    refine OkO.nil ?_
    refine ⟨(p.errs.length + 1) - (i + 1), by omega, i + 1, vs ++ [x], o1, rfl, by omega, by simp [hvl], gp0 _ _ _, by rw [← mapF_upd, hvl]; exact ho1, fun j y hj => ?_, ?_, rfl, g86.put _ (by omega), by rw [gpo _ _ _ _ (by omega)]; exact z0, by rw [gpo _ _ _ _ (by omega)]; exact z1, by rw [gpo _ _ _ _ (by omega)]; exact z3, by simp; omega⟩
    · by_cases hj1 : j < vs.length
      · rw [List.getElem?_append_left hj1] at hj
        exact ((hms j y hj).to q86.ext).put _ (by omega)
      · by_cases hj2 : j = vs.length
        · subst hj2
          simp at hj
          subst hj
          rw [hvl]
          exact (m86.low (by omega)).put _ (by omega)
        · rw [List.getElem?_eq_none (by simp; omega)] at hj; cases hj
    · rw [show ((i + 1 : Nat) : Int) - 1 = (i : Int) - 1 + 1 from by omega]
      exact Has.of (by kernel_rfl)
  · -- no h1
    have hge : i = p.errs.length + 1 := by (have h9 : ¬ (i : Int) - 1 < (p.errs.length : Int) := by simpa using h1); omega
    refine Ok.exit ?_
    refine Ok.seq ?_
    refine Ok.region ?_
    refine OkO.load rfl rfl (ldg (n := 7) (by kernel_rfl) (by first | assumption | (simp (disch := first | omega | (simp only [hNw, hPt]; omega)) only [gn0, gn1, gn2, gn3, gn4, gn5, gp0, gno, gpo] <;> first | rfl | assumption | exact gp0 _ _ _ | exact gn0 _ _)) (by first | rfl | assumption)) ?_
    refine OkO.store rfl rfl rfl (sAc (n := 7) (ag := true) (by kernel_rfl) (by first | assumption | (simp (disch := first | omega | (simp only [hNw, hPt]; omega)) only [gn0, gn1, gn2, gn3, gn4, gn5, gp0, gno, gpo] <;> first | rfl | assumption | exact gp0 _ _ _ | exact gn0 _ _)) rfl (by first | rfl | assumption | exact ats _) (by first | rfl | exact spl_set _ _ _ (by first | assumption | omega | (simp; omega)))) ?_
    refine OkO.nil ?_
    refine Ok.ret ⟨.inr rfl, ?_⟩
    refine back_newQ (v := .agg (p.d ev (W.next + 2))) (resV_cell rfl (ldg (n := 7) (by kernel_rfl) (by first | assumption | (simp (disch := first | omega | (simp only [hNw, hPt]; omega)) only [gn0, gn1, gn2, gn3, gn4, gn5, gp0, gno, gpo] <;> first | rfl | assumption)) (by first | rfl | assumption)) resV_nil) rfl (by rw [← hW]; exact (by (try dsimp only); repeat (first | exact hg | apply Grow.new | (refine Grow.put ?_ _ (by first | omega | (simp only [hNw, hPt]; omega)))))) (duty_flat _ _ _) (fun H9 p1 p2 p3 => ⟨W.next + 2, rfl, p1, by omega, by simp only [hPt] at p3; omega, o, vs, by rw [p2, gpo _ _ _ _ (by omega)]; exact hmo, ho, by omega, fun j x hj => ?_⟩)
    have h9 := (hms j x hj).put (n := W.next + 1) (.cells (p.d ev (W.next + 2)) 114) (by omega)
    exact (h9.to ⟨Nat.le_of_eq p3.symm, fun n _ => p2 n⟩).low (by omega)
theorem c66 (m : Nat) (ev : AV) (p : Pst) (mb : Nat) (r : Int) (H : Heap)  : ∃ v H', RR (m + 1) (.fn 66 [.agg (p.d ev mb), I r]) H = some (v, H') ∧ v = .fn 88 [] [.ptr H.next 0, .ptr (H.next + 1) 0] ∧ Ret H H' ∧ H'.get H.next = some (.cells (p.d ev mb) 114) ∧ H'.get (H.next + 1) = some (.cells [I r] 3) ∧ H'.next = H.next + 2 := by
  show ∃ v H', evFn Try.prog (RR (m + 0)) 66 [.agg (p.d ev mb), I r] H = some (v, H') ∧ v = .fn 88 [] [.ptr H.next 0, .ptr (H.next + 1) 0] ∧ Ret H H' ∧ H'.get H.next = some (.cells (p.d ev mb) 114) ∧ H'.get (H.next + 1) = some (.cells [I r] 3) ∧ H'.next = H.next + 2
  refine fn_okE Try.func66 rfl rfl (by kernel_rfl) (by kernel_rfl) ?_
  obtain ⟨W, hW⟩ : ∃ W : Heap, W = ⟨H.t, H.next, H.next⟩ := ⟨_, rfl⟩
  have hg : ∀ n, W.get n = H.get n := fun n => by rw [hW]; rfl
  have hN : W.next = H.next := by rw [hW]
  have hE : ∀ G, Grow W G → Ext H G := fun G g => ⟨by rw [← hN]; exact g.next, fun n k => by rw [g.get n (by rw [hN]; exact k), hg]⟩
  have hG : Grow W W := Grow.refl (by rw [hW]; exact Nat.le_refl _)
  rw [← hW]
  refine Ok.seq ?_
  refine Ok.region ?_
  refine OkO.box rfl rfl ?_
  refine OkO.box rfl rfl ?_
  refine OkO.assign rfl rfl ?_
  refine OkO.nil ?_
  refine Ok.seq ?_
  refine Ok.region ?_
  refine OkO.makeFunc rfl rfl rfl ?_
  refine OkO.assign rfl rfl ?_
  refine OkO.nil ?_
  refine Ok.ret ⟨.inr rfl, ?_⟩
  exact back_newQ (resV_tmp rfl resV_nil) (by rw [← hN]; rfl) (by rw [← hW]; exact (by (try dsimp only); repeat (first | exact hG | apply Grow.new | (refine Grow.put ?_ _ (by first | omega | (simp only [hNw, hPt]; omega)))))) rfl (fun H' p1 p2 p3 => ⟨rfl, p1, by rw [p2, ← hN, gno _ _ _ (by simp only [hNw]; omega)]; exact gn0 _ _, by rw [p2, ← hN]; exact gn1 _ _ _, by rw [p3, ← hN]; rfl⟩)
end
end Go.Ev

set_option maxRecDepth 100000
set_option linter.unusedSimpArgs false
set_option linter.unusedVariables false
namespace Go.Ev
open Go Go.Proofs
noncomputable section
def lenM (p : Pst) (rows : List (List Int)) (i : Nat) : Nat := (mayL p ((i : Int) - 1) rows).length
theorem c88 (m : Nat) (l bd br K mb r : Nat) (ev : AV) (p : Pst) (rows : List (List Int)) (vs : List AV) (J : Nat → Heap → Prop) (S : Heap → Prop) (H : Heap) (hst : ∀ i G G', J i G → Ext G G' → J i G') (hss : ∀ G G', S G → Ext G G' → S G') (hJ : ∀ i G, J i G → (G.get bd).bind AObj.cs = some (p.d ev mb) ∧ (G.get br).bind AObj.cs = some [I (r : Int)] ∧ l < G.next ∧ ∃ o, G.get mb = some o ∧ MapO o I (mapF vs))
 (hvl : vs.length = p.errs.length + 1) (hvs : ∀ (i : Nat) (x : AV), vs[i]? = some x → lenOf x = some (lenM p rows i)) (hel : lenOf ev = some p.errs.length) (hpl : p.errs.length ≤ 1000)
 (hskip : ∀ i G, i ≤ p.errs.length → ¬ r ≤ lenM p rows i → J i G → J (i + 1) G)
 (hrd : ∀ i x G, i ≤ p.errs.length → vs[i]? = some x → r ≤ lenM p rows i → J i G → K ≤ G.lo → ∃ v H', RR m (.round l [I ((i : Int) - 1), x]) G = some (v, H') ∧ (∃ b, v = .bool b ∧ ((b = true ∧ J (i + 1) H') ∨ (b = false ∧ S H'))) ∧ K ≤ H'.lo ∧ H'.lo ≤ l ∧ G.next ≤ H'.next)
 (h0 : J 0 H) (hK : K ≤ H.lo) (hKl : K ≤ l) : ∃ v H', RR (m + 1) (.fn 88 [.yield l, .ptr bd 0, .ptr br 0]) H = some (v, H') ∧ (J (p.errs.length + 1) H' ∨ S H') ∧ K ≤ H'.lo := by
  show ∃ v H', evFn Try.prog (RR (m + 0)) 88 [.yield l, .ptr bd 0, .ptr br 0] H = some (v, H') ∧ (J (p.errs.length + 1) H' ∨ S H') ∧ K ≤ H'.lo
  refine fn_okE Try.func88 rfl rfl (by kernel_rfl) (by kernel_rfl) ?_
  obtain ⟨W, hW⟩ : ∃ W : Heap, W = ⟨H.t, H.next, H.next⟩ := ⟨_, rfl⟩
  have hg : ∀ n, W.get n = H.get n := fun n => by rw [hW]; rfl
  have hN : W.next = H.next := by rw [hW]
  have hE : ∀ G, Grow W G → Ext H G := fun G g => ⟨by rw [← hN]; exact g.next, fun n k => by rw [g.get n (by rw [hN]; exact k), hg]⟩
  have hG : Grow W W := Grow.refl (by rw [hW]; exact Nat.le_refl _)
  rw [← hW]
  clear hE hG
  have pev : ev.plain = true := lpl hel
  have hJW : J 0 W := hst _ H W h0 ⟨by omega, fun n _ => hg n⟩
  obtain ⟨w1, w2, w3, _⟩ := hJ _ W hJW
  have hKW : K ≤ W.lo := by rw [hW]; show K ≤ H.next; omega
  refine Ok.seq ?_
  refine Ok.region ?_
  refine OkO.assign rfl rfl ?_
  refine OkO.nil ?_
  refine Ok.block ?_
  refine Ok.loop (fun n9 s_ => ∃ i : Nat, n9 = (p.errs.length + 1) - i ∧ i ≤ (p.errs.length + 1) ∧ J i s_.H ∧ K ≤ s_.H.lo ∧ (s_.H = W ∨ s_.H.lo ≤ l) ∧ W.next ≤ s_.H.next ∧ Has 5 [(0, .yield l), (1, .ptr bd 0), (2, .ptr br 0), (4, I ((i : Int) - 1))] s_.T ∧ s_.D = []) ((p.errs.length + 1)) (by unfold loopFuel; omega)
    ⟨0, rfl, Nat.zero_le _, hJW, hKW, .inl rfl, Nat.le_refl _, Has.of (by kernel_rfl), rfl⟩ ?_
  rintro n9 ⟨T, D, G⟩ ⟨i, hn, hi, hji, hKG, hlo, hgn, ⟨f, hT⟩, hD⟩
  dsimp only at *
  subst hT hD
  obtain ⟨j1, j2, j3, o, jo, jm⟩ := hJ i G hji
  refine Ok.seq ?_
  refine Ok.seq ?_
  refine Ok.region ?_
  refine OkO.move rfl rfl ?_
  refine OkO.fieldAddr (o := 0) rfl (by kernel_rfl) rfl ?_
  refine OkO.fieldAddr (o := 0) rfl (by kernel_rfl) rfl ?_
  refine OkO.load rfl rfl (lda (n := 1) (by kernel_rfl) (by first | assumption | (simp (disch := first | omega | (simp only [hNw, hPt]; omega)) only [gn0, gn1, gn2, gn3, gn4, gn5, gp0, gno, gpo] <;> first | rfl | assumption | exact gp0 _ _ _ | exact gn0 _ _)) (by first | rfl | assumption)) ?_
  refine OkO.builtin rfl rfl rfl (bln (by kernel_rfl) (by first | assumption | rfl)) ?_
  refine OkO.bin rfl rfl rfl (bin_lss _ _) ?_
  refine OkO.nil ?_
  refine Ok.cond rfl (fun h1 => ?_) (fun h1 => ?_)
  · -- yes h1
    have hlt : i ≤ p.errs.length := by (have h9 : (i : Int) - 1 < (p.errs.length : Int) := by simpa using h1); omega
    obtain ⟨x, hx⟩ : ∃ x, vs[i]? = some x := ⟨_, List.getElem?_eq_getElem (by omega)⟩
    have hxl := hvs i x hx
    refine Ok.skip ?_
    refine Ok.seq ?_
    refine Ok.block ?_
    refine Ok.seq ?_
    refine Ok.region ?_
    refine OkO.fieldAddr (o := 6) rfl (by kernel_rfl) rfl ?_
    refine OkO.load rfl rfl (lda (n := 1) (by kernel_rfl) (by first | assumption | (simp (disch := first | omega | (simp only [hNw, hPt]; omega)) only [gn0, gn1, gn2, gn3, gn4, gn5, gp0, gno, gpo] <;> first | rfl | assumption | exact gp0 _ _ _ | exact gn0 _ _)) (by first | rfl | assumption)) ?_
    refine OkO.move rfl rfl ?_
    refine OkO.lookup (o := o) (f := mapF vs) ((i : Int) - 1) x rfl mapT112 keysI rfl rfl jo jm (by rw [mapF_at, hx]) ?_
    refine OkO.assign rfl rfl ?_
    refine OkO.nil ?_
    refine Ok.seq ?_
    refine Ok.region ?_
    refine OkO.move rfl rfl ?_
    refine OkO.builtin rfl rfl rfl (bln (by kernel_rfl) (by first | assumption | rfl)) ?_
    refine OkO.load rfl rfl (lda (n := 1) (by kernel_rfl) (by first | assumption | (simp (disch := first | omega | (simp only [hNw, hPt]; omega)) only [gn0, gn1, gn2, gn3, gn4, gn5, gp0, gno, gpo] <;> first | rfl | assumption | exact gp0 _ _ _ | exact gn0 _ _)) (by first | rfl | assumption)) ?_
    refine OkO.bin rfl rfl rfl (bin_geq _ _) ?_
    refine OkO.move rfl rfl ?_
    refine OkO.split (d := 22) rfl (fun g2 => ?_) (fun g2 => ?_)
    · -- true g2
      have hrl : r ≤ lenM p rows i := by simpa using g2
      refine OkO.move rfl rfl ?_
      refine OkO.move rfl rfl ?_
      refine OkO.move rfl rfl ?_
      refine OkO.roundE rfl rfl rfl rfl (hrd i x _ hlt hx hrl hji hKG) ?_
      rintro v H2 ⟨⟨b9, rfl, hbb⟩, jn2, jn3, jn4⟩
      refine OkO.un rfl rfl rfl ?_
      refine OkO.pick (b := true) rfl rfl (fun _ => rfl) nofun ?_
      refine OkO.nil ?_
      refine Ok.cond rfl (fun h3 => ?_) (fun h3 => ?_)
      · -- yes h3
        refine Ok.ret ⟨.inr rfl, ?_⟩
        have hb : b9 = false := by simpa using h3
        have hs2 : S H2 := by (rcases hbb with ⟨h, _⟩ | ⟨_, h⟩); (· rw [hb] at h; cases h); (· exact h)
        obtain ⟨H3, q1, q2, q3, q4, q5⟩ := back_any2 (H := H) (T := _) (G := H2) (fn := Try.f88) (P := Try.prog) (vs := []) rfl rfl (by omega)
        exact ⟨_, H3, q1, .inr (hss _ _ hs2 ⟨by omega, fun n _ => q2 n⟩), q4 K hK jn2⟩
      · -- no h3
        refine Ok.skip ?_
        refine Ok.region ?_
        refine OkO.move rfl rfl ?_
        refine OkO.bin rfl rfl rfl (bin_add (by omega) (by omega)) ?_
        refine OkO.assign rfl rfl ?_
        refine OkO.nil ?_
        have jn1 : J (i + 1) H2 := by (rcases hbb with ⟨_, h⟩ | ⟨h, _⟩); (· exact h); (· rw [h] at h3; simp at h3)
        refine ⟨(p.errs.length + 1) - (i + 1), by omega, i + 1, rfl, by omega, jn1, jn2, .inr jn3, ?_, ?_, rfl⟩
        · show W.next ≤ H2.next; omega
        · rw [show ((i + 1 : Nat) : Int) - 1 = (i : Int) - 1 + 1 from by omega]
          exact Has.of (by kernel_rfl)
    · -- false g2
      have hrl : ¬ r ≤ lenM p rows i := by simpa using g2
      refine OkO.skip rfl ?_
      refine OkO.skip rfl ?_
      refine OkO.skip rfl ?_
      refine OkO.skip rfl ?_
      refine OkO.skip rfl ?_
      refine OkO.pick (b := false) rfl rfl nofun (fun _ => rfl) ?_
      refine OkO.nil ?_
      refine Ok.condF rfl ?_
      refine Ok.skip ?_
      refine Ok.region ?_
      refine OkO.move rfl rfl ?_
      refine OkO.bin rfl rfl rfl (bin_add (by omega) (by omega)) ?_
      refine OkO.assign rfl rfl ?_
      refine OkO.nil ?_
      refine ⟨(p.errs.length + 1) - (i + 1), by omega, i + 1, rfl, by omega, hskip i _ hlt hrl hji, hKG, hlo, hgn, ?_, rfl⟩
      rw [show ((i + 1 : Nat) : Int) - 1 = (i : Int) - 1 + 1 from by omega]
      exact Has.of (by kernel_rfl)
  · -- no h1
    have hge : i = p.errs.length + 1 := by (have h9 : ¬ (i : Int) - 1 < (p.errs.length : Int) := by simpa using h1); omega
    refine Ok.exit ?_
    refine ⟨.inl rfl, ?_⟩
    subst hge
    obtain ⟨H2, q1, q2⟩ := back_any (H := H) (T := _) (G := G) (fn := Try.f88) (P := Try.prog) (vs := []) rfl rfl
    refine ⟨_, H2, q1, ?_⟩
    rcases q2 with ⟨q2, q3⟩ | ⟨q2, q3, q4⟩
    · rcases hlo with hz | hz
      · rw [hz] at hji
        rw [q2]; exact ⟨.inl (hst _ W H hji ⟨by omega, fun n _ => (hg n).symm⟩), hK⟩
      · exact absurd hz (by omega)
    · exact ⟨.inl (hst _ G H2 hji ⟨by omega, fun n _ => q2 n⟩), q4 K hK hKG⟩
end
end Go.Ev

set_option maxRecDepth 100000
set_option linter.unusedSimpArgs false
set_option linter.unusedVariables false
namespace Go.Ev
open Go Go.Proofs
noncomputable section
/-- Of a range that is at work: what was there, but for some blocks, and its own two. -/
structure RngJ (X : Heap) (bl : List Nat) (st : LoopState) (pd : Option Code) (ps : List Tmp) (sa bd : Code) (T0 : Tr AV) (G : Heap) : Prop where
  nx : X.next + 2 ≤ G.next
  get : ∀ j, j < X.next → j ∉ bl → G.get j = X.get j
  b0 : G.get X.next = some .defd
  b1 : G.get (X.next + 1) = some (.loop st pd T0 ps sa bd X.next)
theorem RngJ.to {X : Heap} {bl : List Nat} {st : LoopState} {pd : Option Code} {ps : List Tmp} {sa bd : Code} {T0 : Tr AV} {G G' : Heap} (h : RngJ X bl st pd ps sa bd T0 G) (e : Ext G G') : RngJ X bl st pd ps sa bd T0 G' :=
  ⟨Nat.le_trans h.nx e.next, fun j a c => by rw [e.get j (by have := h.nx; omega)]; exact h.get j a c, by rw [e.get _ (by have := h.nx; omega)]; exact h.b0, by rw [e.get _ (by have := h.nx; omega)]; exact h.b1⟩
theorem RngJ.start (X : Heap) (bl : List Nat) (ps : List Tmp) (sa bd : Code) (T0 : Tr AV) : RngJ X bl .ready none ps sa bd T0 ((X.new .defd).new (.loop .ready none T0 ps sa bd X.next)) :=
  ⟨by simp, fun j a _ => by rw [gno _ _ _ (by simp; omega), gno _ _ _ (by omega)], by rw [gno _ _ _ (by simp)]; exact gn0 _ _, by have := gn0 (X.new .defd) (.loop .ready none T0 ps sa bd X.next); simpa using this⟩
/-- Behind a range: what was there, but for some blocks. -/
theorem RngJ.behind {X : Heap} {bl : List Nat} {st : LoopState} {pd : Option Code} {ps : List Tmp} {sa bd : Code} {T0 : Tr AV} {G : Heap} (h : RngJ X bl st pd ps sa bd T0 G) {j : Nat} (a : j < X.next) (c : j ∉ bl) (o1 o2 : AObj) : ((G.put (X.next + 1) o1).put (X.next + 1) o2).get j = X.get j := by
  rw [gpo _ _ _ _ (by omega), gpo _ _ _ _ (by omega)]; exact h.get j a c
def possB (p : Pst) (rows : List (List Int)) (r : Nat) : Bool := (List.range (p.errs.length + 1)).any fun i => decide (r ≤ lenM p rows i)
theorem possB_no {p : Pst} {rows : List (List Int)} {r : Nat} (h : ∀ j, j < p.errs.length + 1 → ¬ r ≤ lenM p rows j) : possB p rows r = false := by
  unfold possB
  rw [List.any_eq_false]
  intro x hx
  rw [decide_eq_true_eq]
  exact h x (List.mem_range.1 hx)
theorem possB_yes {p : Pst} {rows : List (List Int)} {r i : Nat} (hi : i ≤ p.errs.length) (h : r ≤ lenM p rows i) : possB p rows r = true := by
  unfold possB
  rw [List.any_eq_true]
  exact ⟨i, List.mem_range.2 (by omega), by rw [decide_eq_true_eq]; exact h⟩
noncomputable def as64 : Code := match Try.f64.body.bind rangeOf with | some r => r.1 | none => .skip
noncomputable def bd64 : Code := match Try.f64.body.bind rangeOf with | some r => r.2 | none => .skip
theorem r64 (m N r i : Nat) (p : Pst) (rows : List (List Int)) (x : AV) (fl : Int) (T0 : Tr AV) (X G : Heap) (hH : Has 4 [(4, .ptr (N + 1) 0)] T0) (h : RngJ X [N + 1] .ready none [8, 9] as64 bd64 T0 G) (hN : N + 2 ≤ X.next) (hf : G.get (N + 1) = some (.cells [.bool false] 4)) (hi : i ≤ p.errs.length) (hr : r ≤ lenM p rows i) (hlo : N ≤ G.lo) :
    ∃ v H', RR (m + 1) (.round (X.next + 1) [I fl, x]) G = some (v, H') ∧ v = .bool false ∧ (RngJ X [N + 1] .done (some .ret) [8, 9] as64 bd64 T0 H' ∧ H'.get (N + 1) = some (.cells [.bool true] 4) ∧ ∃ i, i ≤ p.errs.length ∧ r ≤ lenM p rows i) ∧ N ≤ H'.lo ∧ H'.lo ≤ X.next + 1 ∧ G.next ≤ H'.next := by
  show ∃ v H', evRound Try.prog (RR m) (X.next + 1) [I fl, x] G = some (v, H') ∧ v = .bool false ∧ (RngJ X [N + 1] .done (some .ret) [8, 9] as64 bd64 T0 H' ∧ H'.get (N + 1) = some (.cells [.bool true] 4) ∧ ∃ i, i ≤ p.errs.length ∧ r ≤ lenM p rows i) ∧ N ≤ H'.lo ∧ H'.lo ≤ X.next + 1 ∧ G.next ≤ H'.next
  obtain ⟨fr, hT⟩ := hH
  subst hT
  have hnx := h.nx
  have hb0 := h.b0
  have hb1 := h.b1
  refine round_okR h.b1 rfl ?_
  refine Ok.skip ?_
  refine ⟨rfl, _, _, _, _, _, _, h.b1, ?_⟩
  refine Ok.block ?_
  refine Ok.seq ?_
  refine Ok.region ?_
  refine OkO.store rfl rfl rfl (sAc (n := 1) (ag := false) (by kernel_rfl) (by first | assumption | (simp (disch := first | omega | (simp only [hNw, hPt]; omega)) only [gn0, gn1, gn2, gn3, gn4, gn5, gp0, gno, gpo] <;> first | rfl | assumption | exact gp0 _ _ _ | exact gn0 _ _)) rfl (by first | rfl | assumption) (by first | rfl | exact spl_set _ _ _ (by first | assumption | omega | (simp; omega)))) ?_
  refine OkO.nil ?_
  refine Ok.ret ?_
  refine ⟨_, _, _, _, _, _, _, (by first | assumption | (simp (disch := first | omega | (simp only [hNw, hPt]; omega)) only [gn0, gn1, gn2, gn3, gn4, gn5, gp0, gno, gpo] <;> first | rfl | assumption | exact gp0 _ _ _ | exact gn0 _ _)), .inr (.inr ⟨rfl, rfl, ⟨⟨by simp; exact h.nx, fun j a c => ?_, (by first | assumption | (simp (disch := first | omega | (simp only [hNw, hPt]; omega)) only [gn0, gn1, gn2, gn3, gn4, gn5, gp0, gno, gpo] <;> first | rfl | assumption | exact gp0 _ _ _ | exact gn0 _ _)), (by first | assumption | (simp (disch := first | omega | (simp only [hNw, hPt]; omega)) only [gn0, gn1, gn2, gn3, gn4, gn5, gp0, gno, gpo] <;> first | rfl | assumption | exact gp0 _ _ _ | exact gn0 _ _))⟩, (by first | assumption | (simp (disch := first | omega | (simp only [hNw, hPt]; omega)) only [gn0, gn1, gn2, gn3, gn4, gn5, gp0, gno, gpo] <;> first | rfl | assumption | exact gp0 _ _ _ | exact gn0 _ _)), i, hi, hr⟩, ?_, ?_, ?_⟩)⟩
  · have c1 : j ≠ N + 1 := fun e => c (by simp [e])
    simp (disch := first | omega) only [gpo]; exact h.get j a c
  · simp only [Heap.lo_put]; omega
  · simp only [Heap.lo_put]; omega
  · simp
end
end Go.Ev

set_option maxRecDepth 100000
set_option linter.unusedSimpArgs false
set_option linter.unusedVariables false
namespace Go.Ev
open Go Go.Proofs
noncomputable section
theorem c64 (m : Nat) (ev : AV) (p : Pst) (mb r : Nat) (rows : List (List Int)) (H : Heap) (hM : ∃ o vs, H.get mb = some o ∧ MapO o I (mapF vs) ∧ vs.length = p.errs.length + 1 ∧ ∀ (j : Nat) (x : AV), vs[j]? = some x → Mine 0 H x 125 2 (ivCells (mayL p ((j : Int) - 1) rows))) (hmb : mb < H.next) (hel : lenOf ev = some p.errs.length) (hpl : p.errs.length ≤ 1000) : RR (m + 3) (.fn 64 [.agg (p.d ev mb), I (r : Int)]) H = some (.bool (possB p rows r), H) := by
  refine (R_fn _ _ _ _ _).trans ?_
  refine fn_ok Try.func64 rfl rfl (by kernel_rfl) (by kernel_rfl) ?_
  obtain ⟨W, hW⟩ : ∃ W : Heap, W = ⟨H.t, H.next, H.next⟩ := ⟨_, rfl⟩
  have hg : ∀ n, W.get n = H.get n := fun n => by rw [hW]; rfl
  have hN : W.next = H.next := by rw [hW]
  have hE : ∀ G, Grow W G → Ext H G := fun G g => ⟨by rw [← hN]; exact g.next, fun n k => by rw [g.get n (by rw [hN]; exact k), hg]⟩
  have hG : Grow W W := Grow.refl (by rw [hW]; exact Nat.le_refl _)
  rw [← hW]
  have pev : ev.plain = true := lpl hel
  refine Ok.seq ?_
  refine Ok.region ?_
  refine OkO.box rfl rfl ?_
  refine OkO.alloc (z := [.bool false]) rfl (by kernel_rfl) ?_
  refine OkO.nil ?_
  refine Ok.seq ?_
  refine Ok.seq ?_
  refine Ok.region ?_
  refine OkO.load rfl rfl (ldg (n := 7) (by kernel_rfl) (by first | assumption | (simp (disch := first | omega | (simp only [hNw, hPt]; omega)) only [gn0, gn1, gn2, gn3, gn4, gn5, gp0, gno, gpo] <;> first | rfl | assumption | exact gp0 _ _ _ | exact gn0 _ _)) (by first | rfl | assumption)) ?_
  refine OkO.move rfl rfl ?_
  refine OkO.callE rfl rfl rfl rfl rfl (c66 (m + 1) ev p mb (r : Int) _) ?_ -- "(sackung/alarm.duty).failures"
  rintro _ X ⟨rfl, q66, x1, x2, x3⟩
  simp only [hNw] at x1 x2 x3
  have n66 := q66.ext.next
  simp only [hNw] at n66
  have g66 : Grow W X := Grow.ret (by (try dsimp only); repeat (first | exact hG | apply Grow.new | (refine Grow.put ?_ _ (by first | omega | (simp only [hNw, hPt]; omega))))) q66
  have x0 : X.get (W.next + 1) = some (.cells [.bool false] 4) := by rw [q66.ext.get _ (by first | omega | (simp only [hNw, hPt]; omega))]; first | assumption | (simp (disch := first | omega | (simp only [hNw, hPt]; omega)) only [gn0, gn1, gn2, gn3, gn4, gn5, gp0, gno, gpo] <;> first | rfl | assumption | exact gp0 _ _ _ | exact gn0 _ _)
  refine OkO.nil ?_
  refine Ok.block ?_
  obtain ⟨o, vs, hmo, ho, hvl, hvm⟩ := hM
  refine Ok.rangeR rfl rfl (fun T0 hT0 => ?_)
  have hH : Has 4 [(4, .ptr (W.next + 1) 0)] T0 := by rw [hT0]; exact Has.of (by kernel_rfl)
  have hvs : ∀ (i : Nat) (x : AV), vs[i]? = some x → lenOf x = some (lenM p rows i) := fun i x hx => by (have h9 := (hvm i x hx).ivs.len; rw [List.length_map] at h9; exact h9)
  have xmo : X.get mb = some o := by rw [g66.get _ (by omega), hg]; exact hmo
  obtain ⟨v3, H3, k1, k2, k3⟩ := c88 (m + 1) (X.next + 1) (W.next + 2) (W.next + 3) W.next mb r ev p rows vs (fun i G => RngJ X [W.next + 1] .ready none [8, 9] as64 bd64 T0 G ∧ G.get (W.next + 1) = some (.cells [.bool false] 4) ∧ ∀ j, j < i → ¬ r ≤ lenM p rows j) (fun G => RngJ X [W.next + 1] .done (some .ret) [8, 9] as64 bd64 T0 G ∧ G.get (W.next + 1) = some (.cells [.bool true] 4) ∧ ∃ i, i ≤ p.errs.length ∧ r ≤ lenM p rows i) ((X.new .defd).new (.loop .ready none T0 [8, 9] as64 bd64 X.next)) (fun i G G1 h e => ⟨h.1.to e, by rw [e.get _ (by have h9 := h.1.nx; omega)]; exact h.2.1, h.2.2⟩) (fun G G1 h e => ⟨h.1.to e, by rw [e.get _ (by have h9 := h.1.nx; omega)]; exact h.2.1, h.2.2⟩) (fun i G h => ⟨by rw [h.1.get _ (by omega) (by simp <;> omega), x1] <;> rfl, by rw [h.1.get _ (by omega) (by simp <;> omega), x2] <;> rfl, by have h9 := h.1.nx; omega, o, by rw [h.1.get _ (by omega) (by simp <;> omega)]; exact xmo, ho⟩) hvl hvs hel hpl (fun i G hi hr h => ⟨h.1, h.2.1, fun j hj => by (by_cases e : j = i); (· subst e; exact hr); (· exact h.2.2 j (by omega))⟩) (fun i x G hi hx hr h hlo => by obtain ⟨v, H9, a1, a2, a3, a4, a5, a6⟩ := r64 m W.next r i p rows x ((i : Int) - 1) T0 X G hH h.1 (by omega) h.2.1 hi hr hlo; exact ⟨v, H9, a1, ⟨false, a2, .inr ⟨rfl, a3⟩⟩, a4, a5, a6⟩) ⟨RngJ.start _ _ _ _ _ _, by rw [gno _ _ _ (by simp; omega), gno _ _ _ (by omega)]; exact x0, fun j hj => absurd hj (Nat.not_lt_zero j)⟩ (by show W.next ≤ X.lo; exact g66.lo) (by omega)
  rcases k2 with k2 | k2
  · -- to its end
    refine ⟨v3, H3, k1, _, _, T0, [8, 9], as64, bd64, X.next, k2.1.b1, .inl ⟨rfl, rfl, ?_⟩⟩
    have g3 : Grow W H3 := ⟨by (have h9 := k2.1.nx; have h8 := g66.next; omega), fun j hj => (k2.1.get _ (by have h8 := g66.next; omega) (by simp; omega)).trans (g66.get j hj), k3⟩
    have y1 := k2.2.1
    have yd := k2.1.b0
    have hpb := possB_no k2.2.2
    have kn := k2.1.nx
    clear k1
    refine Ok.seq ?_
    refine Ok.region ?_
    refine OkO.store rfl rfl rfl (sAc (n := 1) (ag := false) (by kernel_rfl) (by first | assumption | (simp (disch := first | omega | (simp only [hNw, hPt]; omega)) only [gn0, gn1, gn2, gn3, gn4, gn5, gp0, gno, gpo] <;> first | rfl | assumption | exact gp0 _ _ _ | exact gn0 _ _)) rfl (by first | rfl | assumption) (by first | rfl | exact spl_set _ _ _ (by first | assumption | omega | (simp; omega)))) ?_
    refine OkO.nil ?_
    refine Ok.ret ⟨.inr rfl, ?_⟩
    rw [back_mark (d := X.next) (by first | assumption | (simp (disch := first | omega | (simp only [hNw, hPt]; omega)) only [gn0, gn1, gn2, gn3, gn4, gn5, gp0, gno, gpo] <;> first | rfl | assumption | exact gp0 _ _ _ | exact gn0 _ _))]
    exact back_flat (resV_cell rfl (lda (n := 1) (by kernel_rfl) (by first | assumption | (simp (disch := first | omega | (simp only [hNw, hPt]; omega)) only [gn0, gn1, gn2, gn3, gn4, gn5, gp0, gno, gpo] <;> first | rfl | assumption)) (by first | rfl | assumption)) resV_nil) (by rw [hpb]; rfl) rfl (by rw [← hW]; exact (by (try dsimp only); repeat (first | exact g3 | apply Grow.new | (refine Grow.put ?_ _ (by first | omega | (simp only [hNw, hPt]; omega))))))
  · -- returned
    refine ⟨v3, H3, k1, _, _, T0, [8, 9], as64, bd64, X.next, k2.1.b1, .inr (.inr ⟨rfl, rfl, ?_⟩)⟩
    have g3 : Grow W H3 := ⟨by (have h9 := k2.1.nx; have h8 := g66.next; omega), fun j hj => (k2.1.get _ (by have h8 := g66.next; omega) (by simp; omega)).trans (g66.get j hj), k3⟩
    have y1 := k2.2.1
    have yd := k2.1.b0
    have y1q : (H3.get (W.new (.cells (AV.agg (p.d ev mb)).cells 114)).next).bind AObj.cs = some [.bool true] := by rw [show H3.get (W.new (.cells (AV.agg (p.d ev mb)).cells 114)).next = _ from y1]; rfl
    obtain ⟨i, hi, hr⟩ := k2.2.2
    have hpb := possB_yes hi hr
    have kn := k2.1.nx
    refine ⟨.inr rfl, ?_⟩
    rw [back_mark (d := X.next) (by first | assumption | (simp (disch := first | omega | (simp only [hNw, hPt]; omega)) only [gn0, gn1, gn2, gn3, gn4, gn5, gp0, gno, gpo] <;> first | rfl | assumption | exact gp0 _ _ _ | exact gn0 _ _))]
    exact back_flat (resV_cell rfl (lda (n := 1) (by kernel_rfl) (by first | assumption | (simp (disch := first | omega | (simp only [hNw, hPt]; omega)) only [gn0, gn1, gn2, gn3, gn4, gn5, gp0, gno, gpo] <;> first | rfl | assumption)) (by first | rfl | assumption)) resV_nil) (by rw [hpb]; rfl) rfl (by rw [← hW]; exact (by (try dsimp only); repeat (first | exact g3 | apply Grow.new | (refine Grow.put ?_ _ (by first | omega | (simp only [hNw, hPt]; omega))))))
end
end Go.Ev

