/-
  Functions of the program, reckoned by the evaluator: what each answers, and that it leaves what came in as it was.
-/
import Derived.Test.YthcjhfddoaccnaaEvZ
import Derived.KernelRfl
import Derived.Test.YthcjhfddoaccnaaProg
import Derived.Test.YthcjhfddoaccnaaEvY
import Derived.WideShapes
set_option maxRecDepth 100000
set_option linter.unusedSimpArgs false
set_option linter.unusedVariables false
namespace Go.Ev
open Go Go.Proofs
noncomputable section
abbrev I (n : Int) : AV := .int .i64 n
/-- Is a number from lo to hi? -/
def inB (a lo hi : Int) : Bool := decide (lo ≤ a) && decide (a ≤ hi)
def RR (m : Nat) : Rec := runO Try.prog (closedO 18 (.bool true)) m
theorem R_fn (m : Nat) (f : FuncId) (a : AV) (l : List AV) (H : Heap) : RR (m + 1) (.fn f (a :: l)) H = evFn Try.prog (RR m) f (a :: l) H := rfl
abbrev Ints (H : Heap) (v : AV) (us : List Int) : Prop := Row H v 1 (us.map fun n => [I n])
theorem flatI : ∀ (l : List Int), (l.map fun x => [I x]).flatten = l.map I
  | [] => rfl
  | a :: l => by rw [List.map_cons, List.flatten_cons, flatI l]; rfl
theorem atoms_ints (us : List Int) : atoms (us.map I) = true := by induction us with | nil => rfl | cons a l ih => exact ih
structure Rul where (start back hold : Int)
def Rul.c (r : Rul) : List AV := [I r.start, I r.back, I r.hold]
def Rul.ok (r : Rul) : Bool := inB r.start 0 1000 && inB r.back 0 r.start && inB r.hold 1 60
structure Trm where (out price hour less hold : Int)
def Trm.c (t : Trm) : List AV := [I t.out, I t.price, I t.hour, I t.less, I t.hold]
def Trm.ok (t : Trm) : Bool := inB t.out 0 60 && inB t.price 0 1000 && inB t.hour 0 1000 && inB t.less 0 1000 && inB t.hold 1 60
/-- A call that answers a bool, and leaves the heap as it was. -/
def CallB (m : Nat) (fv : AV) (args : List AV) (H : Heap) (r : Bool) : Prop := ∃ f bs, Go.Ev.callV fv args = some (.fn f bs) ∧ ∀ G, Ext H G → RR m (.fn f bs) G = some (.bool r, G)
theorem c36 (m : Nat) (a lo hi : Int) (H : Heap)  : RR (m + 1) (.fn 36 [I a, I lo, I hi]) H = some (.bool (inB a lo hi), H) := by
  refine (R_fn _ _ _ _ _).trans ?_
  refine fn_ok Try.func36 rfl rfl (by kernel_rfl) (by kernel_rfl) ?_
  obtain ⟨W, hW⟩ : ∃ W : Heap, W = ⟨H.t, H.next, H.next⟩ := ⟨_, rfl⟩
  have hg : ∀ n, W.get n = H.get n := fun n => by rw [hW]; rfl
  have hN : W.next = H.next := by rw [hW]
  have hE : ∀ G, Grow W G → Ext H G := fun G g => ⟨by rw [← hN]; exact g.next, fun n k => by rw [g.get n (by rw [hN]; exact k), hg]⟩
  have hG : Grow W W := Grow.refl (by rw [hW]; exact Nat.le_refl _)
  rw [← hW]
  refine Ok.seq ?_
  refine Ok.region ?_
  refine OkO.assign rfl rfl ?_
  refine OkO.nil ?_
  refine Ok.seq ?_
  refine Ok.region ?_
  refine OkO.move rfl rfl ?_
  refine OkO.move rfl rfl ?_
  refine OkO.bin rfl rfl rfl (bin_geq _ _) ?_
  refine OkO.move rfl rfl ?_
  refine OkO.split (d := 10) rfl (fun g1 => ?_) (fun g1 => ?_)
  · -- true g1
    refine OkO.move rfl rfl ?_
    refine OkO.move rfl rfl ?_
    refine OkO.bin rfl rfl rfl (bin_leq _ _) ?_
    refine OkO.pick (b := true) rfl rfl (fun _ => rfl) nofun ?_
    refine OkO.assign rfl rfl ?_
    refine OkO.nil ?_
    refine Ok.ret ⟨.inr rfl, ?_⟩
    exact back_flat rfl (by first | rfl | exact congrArg AV.bool (by clear hg hN hG hE; first | (simp_all [inB]; done) | (rw [Bool.eq_iff_iff]; simp [inB] at *; omega))) rfl (by rw [← hW]; exact (by (try dsimp only); repeat (first | exact hG | apply Grow.new | (refine Grow.put ?_ _ (by first | omega | (simp only [hNw, hPt]; omega))))))
  · -- false g1
    refine OkO.skip rfl ?_
    refine OkO.skip rfl ?_
    refine OkO.skip rfl ?_
    refine OkO.pick (b := false) rfl rfl nofun (fun _ => rfl) ?_
    refine OkO.assign rfl rfl ?_
    refine OkO.nil ?_
    refine Ok.ret ⟨.inr rfl, ?_⟩
    exact back_flat rfl (by first | rfl | exact congrArg AV.bool (by clear hg hN hG hE; first | (simp_all [inB]; done) | (rw [Bool.eq_iff_iff]; simp [inB] at *; omega))) rfl (by rw [← hW]; exact (by (try dsimp only); repeat (first | exact hG | apply Grow.new | (refine Grow.put ?_ _ (by first | omega | (simp only [hNw, hPt]; omega))))))
theorem c68 (m : Nat) (a b x : Int) (H : Heap)  : RR (m + 1) (.fn 68 [.agg [I a, I b], I x]) H = some (.bool (inB x a b), H) := by
  refine (R_fn _ _ _ _ _).trans ?_
  refine fn_ok Try.func68 rfl rfl (by kernel_rfl) (by kernel_rfl) ?_
  obtain ⟨W, hW⟩ : ∃ W : Heap, W = ⟨H.t, H.next, H.next⟩ := ⟨_, rfl⟩
  have hg : ∀ n, W.get n = H.get n := fun n => by rw [hW]; rfl
  have hN : W.next = H.next := by rw [hW]
  have hE : ∀ G, Grow W G → Ext H G := fun G g => ⟨by rw [← hN]; exact g.next, fun n k => by rw [g.get n (by rw [hN]; exact k), hg]⟩
  have hG : Grow W W := Grow.refl (by rw [hW]; exact Nat.le_refl _)
  rw [← hW]
  refine Ok.seq ?_
  refine Ok.region ?_
  refine OkO.box rfl rfl ?_
  refine OkO.assign rfl rfl ?_
  refine OkO.nil ?_
  refine Ok.seq ?_
  refine Ok.region ?_
  refine OkO.indexArr (len := 2) (sz := 1) (n := 0) rfl rfl rfl (by kernel_rfl) (by omega) ?_
  refine OkO.load rfl rfl (lda (n := 1) (by kernel_rfl) (by first | assumption | (simp (disch := first | omega | (simp only [hNw, hPt]; omega)) only [gn0, gn1, gn2, gn3, gn4, gn5, gp0, gno, gpo] <;> first | rfl | assumption | exact gp0 _ _ _ | exact gn0 _ _)) (by first | rfl | assumption)) ?_
  refine OkO.move rfl rfl ?_
  refine OkO.bin rfl rfl rfl (bin_leq _ _) ?_
  refine OkO.move rfl rfl ?_
  refine OkO.split (d := 9) rfl (fun g1 => ?_) (fun g1 => ?_)
  · -- true g1
    refine OkO.move rfl rfl ?_
    refine OkO.indexArr (len := 2) (sz := 1) (n := 1) rfl rfl rfl (by kernel_rfl) (by omega) ?_
    refine OkO.load rfl rfl (lda (n := 1) (by kernel_rfl) (by first | assumption | (simp (disch := first | omega | (simp only [hNw, hPt]; omega)) only [gn0, gn1, gn2, gn3, gn4, gn5, gp0, gno, gpo] <;> first | rfl | assumption | exact gp0 _ _ _ | exact gn0 _ _)) (by first | rfl | assumption)) ?_
    refine OkO.bin rfl rfl rfl (bin_leq _ _) ?_
    refine OkO.pick (b := true) rfl rfl (fun _ => rfl) nofun ?_
    refine OkO.assign rfl rfl ?_
    refine OkO.nil ?_
    refine Ok.ret ⟨.inr rfl, ?_⟩
    exact back_flat rfl (by first | rfl | exact congrArg AV.bool (by clear hg hN hG hE; first | (simp_all [inB]; done) | (rw [Bool.eq_iff_iff]; simp [inB] at *; omega))) rfl (by rw [← hW]; exact (by (try dsimp only); repeat (first | exact hG | apply Grow.new | (refine Grow.put ?_ _ (by first | omega | (simp only [hNw, hPt]; omega))))))
  · -- false g1
    refine OkO.skip rfl ?_
    refine OkO.skip rfl ?_
    refine OkO.skip rfl ?_
    refine OkO.skip rfl ?_
    refine OkO.pick (b := false) rfl rfl nofun (fun _ => rfl) ?_
    refine OkO.assign rfl rfl ?_
    refine OkO.nil ?_
    refine Ok.ret ⟨.inr rfl, ?_⟩
    exact back_flat rfl (by first | rfl | exact congrArg AV.bool (by clear hg hN hG hE; first | (simp_all [inB]; done) | (rw [Bool.eq_iff_iff]; simp [inB] at *; omega))) rfl (by rw [← hW]; exact (by (try dsimp only); repeat (first | exact hG | apply Grow.new | (refine Grow.put ?_ _ (by first | omega | (simp only [hNw, hPt]; omega))))))
theorem c75 (m : Nat) (r : Rul) (H : Heap)  : RR (m + 2) (.fn 75 [.agg r.c]) H = some (.bool r.ok, H) := by
  refine (R_fn _ _ _ _ _).trans ?_
  refine fn_ok Try.func75 rfl rfl (by kernel_rfl) (by kernel_rfl) ?_
  obtain ⟨W, hW⟩ : ∃ W : Heap, W = ⟨H.t, H.next, H.next⟩ := ⟨_, rfl⟩
  have hg : ∀ n, W.get n = H.get n := fun n => by rw [hW]; rfl
  have hN : W.next = H.next := by rw [hW]
  have hE : ∀ G, Grow W G → Ext H G := fun G g => ⟨by rw [← hN]; exact g.next, fun n k => by rw [g.get n (by rw [hN]; exact k), hg]⟩
  have hG : Grow W W := Grow.refl (by rw [hW]; exact Nat.le_refl _)
  rw [← hW]
  refine Ok.seq ?_
  refine Ok.region ?_
  refine OkO.box rfl rfl ?_
  refine OkO.assign rfl rfl ?_
  refine OkO.nil ?_
  refine Ok.seq ?_
  refine Ok.region ?_
  refine OkO.buildArr (z := [.int .i64 0, .int .i64 0]) (sz := 1) rfl (by kernel_rfl) rfl rfl ?_
  refine OkO.fieldAddr (o := 0) rfl (by kernel_rfl) rfl ?_
  refine OkO.load rfl rfl (lda (n := 1) (by kernel_rfl) (by first | assumption | (simp (disch := first | omega | (simp only [hNw, hPt]; omega)) only [gn0, gn1, gn2, gn3, gn4, gn5, gp0, gno, gpo] <;> first | rfl | assumption | exact gp0 _ _ _ | exact gn0 _ _)) (by first | rfl | assumption)) ?_
  refine OkO.callV rfl rfl rfl rfl rfl (c68 _ _ _ _ _) ?_ -- "(sackung/alarm.ends).has"
  refine OkO.move rfl rfl ?_
  refine OkO.split (d := 7) rfl (fun g1 => ?_) (fun g1 => ?_)
  · -- true g1
    refine OkO.fieldAddr (o := 0) rfl (by kernel_rfl) rfl ?_
    refine OkO.load rfl rfl (lda (n := 1) (by kernel_rfl) (by first | assumption | (simp (disch := first | omega | (simp only [hNw, hPt]; omega)) only [gn0, gn1, gn2, gn3, gn4, gn5, gp0, gno, gpo] <;> first | rfl | assumption | exact gp0 _ _ _ | exact gn0 _ _)) (by first | rfl | assumption)) ?_
    refine OkO.buildArr (z := [.int .i64 0, .int .i64 0]) (sz := 1) rfl (by kernel_rfl) rfl rfl ?_
    refine OkO.fieldAddr (o := 1) rfl (by kernel_rfl) rfl ?_
    refine OkO.load rfl rfl (lda (n := 1) (by kernel_rfl) (by first | assumption | (simp (disch := first | omega | (simp only [hNw, hPt]; omega)) only [gn0, gn1, gn2, gn3, gn4, gn5, gp0, gno, gpo] <;> first | rfl | assumption | exact gp0 _ _ _ | exact gn0 _ _)) (by first | rfl | assumption)) ?_
    refine OkO.callV rfl rfl rfl rfl rfl (c68 _ _ _ _ _) ?_ -- "(sackung/alarm.ends).has"
    refine OkO.pick (b := true) rfl rfl (fun _ => rfl) nofun ?_
    refine OkO.move rfl rfl ?_
    refine OkO.split (d := 15) rfl (fun g2 => ?_) (fun g2 => ?_)
    · -- true g2
      refine OkO.buildArr (z := [.int .i64 0, .int .i64 0]) (sz := 1) rfl (by kernel_rfl) rfl rfl ?_
      refine OkO.fieldAddr (o := 2) rfl (by kernel_rfl) rfl ?_
      refine OkO.load rfl rfl (lda (n := 1) (by kernel_rfl) (by first | assumption | (simp (disch := first | omega | (simp only [hNw, hPt]; omega)) only [gn0, gn1, gn2, gn3, gn4, gn5, gp0, gno, gpo] <;> first | rfl | assumption | exact gp0 _ _ _ | exact gn0 _ _)) (by first | rfl | assumption)) ?_
      refine OkO.callV rfl rfl rfl rfl rfl (c68 _ _ _ _ _) ?_ -- "(sackung/alarm.ends).has"
      refine OkO.pick (b := true) rfl rfl (fun _ => rfl) nofun ?_
      refine OkO.assign rfl rfl ?_
      refine OkO.nil ?_
      refine Ok.ret ⟨.inr rfl, ?_⟩
      exact back_flat rfl (by first | rfl | exact congrArg AV.bool (by clear hg hN hG hE; first | (simp_all [Rul.ok]; done) | (rw [Bool.eq_iff_iff]; simp [Rul.ok] at *; omega))) rfl (by rw [← hW]; exact (by (try dsimp only); repeat (first | exact hG | apply Grow.new | (refine Grow.put ?_ _ (by first | omega | (simp only [hNw, hPt]; omega))))))
    · -- false g2
      refine OkO.skip rfl ?_
      refine OkO.skip rfl ?_
      refine OkO.skip rfl ?_
      refine OkO.skip rfl ?_
      refine OkO.pick (b := false) rfl rfl nofun (fun _ => rfl) ?_
      refine OkO.assign rfl rfl ?_
      refine OkO.nil ?_
      refine Ok.ret ⟨.inr rfl, ?_⟩
      exact back_flat rfl (by first | rfl | exact congrArg AV.bool (by clear hg hN hG hE; first | (simp_all [Rul.ok]; done) | (rw [Bool.eq_iff_iff]; simp [Rul.ok] at *; omega))) rfl (by rw [← hW]; exact (by (try dsimp only); repeat (first | exact hG | apply Grow.new | (refine Grow.put ?_ _ (by first | omega | (simp only [hNw, hPt]; omega))))))
  · -- false g1
    refine OkO.skip rfl ?_
    refine OkO.skip rfl ?_
    refine OkO.skip rfl ?_
    refine OkO.skip rfl ?_
    refine OkO.skip rfl ?_
    refine OkO.skip rfl ?_
    refine OkO.pick (b := false) rfl rfl nofun (fun _ => rfl) ?_
    refine OkO.move rfl rfl ?_
    refine OkO.skip rfl ?_
    refine OkO.skip rfl ?_
    refine OkO.skip rfl ?_
    refine OkO.skip rfl ?_
    refine OkO.pick (b := false) rfl rfl nofun (fun _ => rfl) ?_
    refine OkO.assign rfl rfl ?_
    refine OkO.nil ?_
    refine Ok.ret ⟨.inr rfl, ?_⟩
    exact back_flat rfl (by first | rfl | exact congrArg AV.bool (by clear hg hN hG hE; first | (simp_all [Rul.ok]; done) | (rw [Bool.eq_iff_iff]; simp [Rul.ok] at *; omega))) rfl (by rw [← hW]; exact (by (try dsimp only); repeat (first | exact hG | apply Grow.new | (refine Grow.put ?_ _ (by first | omega | (simp only [hNw, hPt]; omega))))))
theorem c41 (m : Nat) (r : Rul) (H : Heap)  : RR (m + 2) (.fn 41 [.agg r.c]) H = some (.bool r.ok, H) := by
  refine (R_fn _ _ _ _ _).trans ?_
  refine fn_ok Try.func41 rfl rfl (by kernel_rfl) (by kernel_rfl) ?_
  obtain ⟨W, hW⟩ : ∃ W : Heap, W = ⟨H.t, H.next, H.next⟩ := ⟨_, rfl⟩
  have hg : ∀ n, W.get n = H.get n := fun n => by rw [hW]; rfl
  have hN : W.next = H.next := by rw [hW]
  have hE : ∀ G, Grow W G → Ext H G := fun G g => ⟨by rw [← hN]; exact g.next, fun n k => by rw [g.get n (by rw [hN]; exact k), hg]⟩
  have hG : Grow W W := Grow.refl (by rw [hW]; exact Nat.le_refl _)
  rw [← hW]
  refine Ok.seq ?_
  refine Ok.region ?_
  refine OkO.box rfl rfl ?_
  refine OkO.assign rfl rfl ?_
  refine OkO.nil ?_
  refine Ok.seq ?_
  refine Ok.region ?_
  refine OkO.fieldAddr (o := 0) rfl (by kernel_rfl) rfl ?_
  refine OkO.load rfl rfl (lda (n := 1) (by kernel_rfl) (by first | assumption | (simp (disch := first | omega | (simp only [hNw, hPt]; omega)) only [gn0, gn1, gn2, gn3, gn4, gn5, gp0, gno, gpo] <;> first | rfl | assumption | exact gp0 _ _ _ | exact gn0 _ _)) (by first | rfl | assumption)) ?_
  refine OkO.callV rfl rfl rfl rfl rfl (c36 _ _ _ _ _) ?_ -- "sackung/sackungref04.In"
  refine OkO.move rfl rfl ?_
  refine OkO.split (d := 6) rfl (fun g1 => ?_) (fun g1 => ?_)
  · -- true g1
    refine OkO.fieldAddr (o := 1) rfl (by kernel_rfl) rfl ?_
    refine OkO.load rfl rfl (lda (n := 1) (by kernel_rfl) (by first | assumption | (simp (disch := first | omega | (simp only [hNw, hPt]; omega)) only [gn0, gn1, gn2, gn3, gn4, gn5, gp0, gno, gpo] <;> first | rfl | assumption | exact gp0 _ _ _ | exact gn0 _ _)) (by first | rfl | assumption)) ?_
    refine OkO.fieldAddr (o := 0) rfl (by kernel_rfl) rfl ?_
    refine OkO.load rfl rfl (lda (n := 1) (by kernel_rfl) (by first | assumption | (simp (disch := first | omega | (simp only [hNw, hPt]; omega)) only [gn0, gn1, gn2, gn3, gn4, gn5, gp0, gno, gpo] <;> first | rfl | assumption | exact gp0 _ _ _ | exact gn0 _ _)) (by first | rfl | assumption)) ?_
    refine OkO.callV rfl rfl rfl rfl rfl (c36 _ _ _ _ _) ?_ -- "sackung/sackungref04.In"
    refine OkO.pick (b := true) rfl rfl (fun _ => rfl) nofun ?_
    refine OkO.move rfl rfl ?_
    refine OkO.split (d := 13) rfl (fun g2 => ?_) (fun g2 => ?_)
    · -- true g2
      refine OkO.fieldAddr (o := 2) rfl (by kernel_rfl) rfl ?_
      refine OkO.load rfl rfl (lda (n := 1) (by kernel_rfl) (by first | assumption | (simp (disch := first | omega | (simp only [hNw, hPt]; omega)) only [gn0, gn1, gn2, gn3, gn4, gn5, gp0, gno, gpo] <;> first | rfl | assumption | exact gp0 _ _ _ | exact gn0 _ _)) (by first | rfl | assumption)) ?_
      refine OkO.callV rfl rfl rfl rfl rfl (c36 _ _ _ _ _) ?_ -- "sackung/sackungref04.In"
      refine OkO.pick (b := true) rfl rfl (fun _ => rfl) nofun ?_
      refine OkO.assign rfl rfl ?_
      refine OkO.nil ?_
      refine Ok.ret ⟨.inr rfl, ?_⟩
      exact back_flat rfl (by first | rfl | exact congrArg AV.bool (by clear hg hN hG hE; first | (simp_all [Rul.ok]; done) | (rw [Bool.eq_iff_iff]; simp [Rul.ok] at *; omega))) rfl (by rw [← hW]; exact (by (try dsimp only); repeat (first | exact hG | apply Grow.new | (refine Grow.put ?_ _ (by first | omega | (simp only [hNw, hPt]; omega))))))
    · -- false g2
      refine OkO.skip rfl ?_
      refine OkO.skip rfl ?_
      refine OkO.skip rfl ?_
      refine OkO.pick (b := false) rfl rfl nofun (fun _ => rfl) ?_
      refine OkO.assign rfl rfl ?_
      refine OkO.nil ?_
      refine Ok.ret ⟨.inr rfl, ?_⟩
      exact back_flat rfl (by first | rfl | exact congrArg AV.bool (by clear hg hN hG hE; first | (simp_all [Rul.ok]; done) | (rw [Bool.eq_iff_iff]; simp [Rul.ok] at *; omega))) rfl (by rw [← hW]; exact (by (try dsimp only); repeat (first | exact hG | apply Grow.new | (refine Grow.put ?_ _ (by first | omega | (simp only [hNw, hPt]; omega))))))
  · -- false g1
    refine OkO.skip rfl ?_
    refine OkO.skip rfl ?_
    refine OkO.skip rfl ?_
    refine OkO.skip rfl ?_
    refine OkO.skip rfl ?_
    refine OkO.pick (b := false) rfl rfl nofun (fun _ => rfl) ?_
    refine OkO.move rfl rfl ?_
    refine OkO.skip rfl ?_
    refine OkO.skip rfl ?_
    refine OkO.skip rfl ?_
    refine OkO.pick (b := false) rfl rfl nofun (fun _ => rfl) ?_
    refine OkO.assign rfl rfl ?_
    refine OkO.nil ?_
    refine Ok.ret ⟨.inr rfl, ?_⟩
    exact back_flat rfl (by first | rfl | exact congrArg AV.bool (by clear hg hN hG hE; first | (simp_all [Rul.ok]; done) | (rw [Bool.eq_iff_iff]; simp [Rul.ok] at *; omega))) rfl (by rw [← hW]; exact (by (try dsimp only); repeat (first | exact hG | apply Grow.new | (refine Grow.put ?_ _ (by first | omega | (simp only [hNw, hPt]; omega))))))
theorem c79 (m : Nat) (t : Trm) (H : Heap)  : RR (m + 2) (.fn 79 [.agg t.c]) H = some (.bool t.ok, H) := by
  refine (R_fn _ _ _ _ _).trans ?_
  refine fn_ok Try.func79 rfl rfl (by kernel_rfl) (by kernel_rfl) ?_
  obtain ⟨W, hW⟩ : ∃ W : Heap, W = ⟨H.t, H.next, H.next⟩ := ⟨_, rfl⟩
  have hg : ∀ n, W.get n = H.get n := fun n => by rw [hW]; rfl
  have hN : W.next = H.next := by rw [hW]
  have hE : ∀ G, Grow W G → Ext H G := fun G g => ⟨by rw [← hN]; exact g.next, fun n k => by rw [g.get n (by rw [hN]; exact k), hg]⟩
  have hG : Grow W W := Grow.refl (by rw [hW]; exact Nat.le_refl _)
  rw [← hW]
  refine Ok.seq ?_
  refine Ok.region ?_
  refine OkO.box rfl rfl ?_
  refine OkO.assign rfl rfl ?_
  refine OkO.nil ?_
  refine Ok.seq ?_
  refine Ok.region ?_
  refine OkO.fieldAddr (o := 0) rfl (by kernel_rfl) rfl ?_
  refine OkO.load rfl rfl (lda (n := 1) (by kernel_rfl) (by first | assumption | (simp (disch := first | omega | (simp only [hNw, hPt]; omega)) only [gn0, gn1, gn2, gn3, gn4, gn5, gp0, gno, gpo] <;> first | rfl | assumption | exact gp0 _ _ _ | exact gn0 _ _)) (by first | rfl | assumption)) ?_
  refine OkO.callV rfl rfl rfl rfl rfl (c36 _ _ _ _ _) ?_ -- "sackung/sackungref04.In"
  refine OkO.move rfl rfl ?_
  refine OkO.split (d := 6) rfl (fun g1 => ?_) (fun g1 => ?_)
  · -- true g1
    refine OkO.fieldAddr (o := 1) rfl (by kernel_rfl) rfl ?_
    refine OkO.load rfl rfl (lda (n := 1) (by kernel_rfl) (by first | assumption | (simp (disch := first | omega | (simp only [hNw, hPt]; omega)) only [gn0, gn1, gn2, gn3, gn4, gn5, gp0, gno, gpo] <;> first | rfl | assumption | exact gp0 _ _ _ | exact gn0 _ _)) (by first | rfl | assumption)) ?_
    refine OkO.callV rfl rfl rfl rfl rfl (c36 _ _ _ _ _) ?_ -- "sackung/sackungref04.In"
    refine OkO.pick (b := true) rfl rfl (fun _ => rfl) nofun ?_
    refine OkO.move rfl rfl ?_
    refine OkO.split (d := 11) rfl (fun g2 => ?_) (fun g2 => ?_)
    · -- true g2
      refine OkO.fieldAddr (o := 2) rfl (by kernel_rfl) rfl ?_
      refine OkO.load rfl rfl (lda (n := 1) (by kernel_rfl) (by first | assumption | (simp (disch := first | omega | (simp only [hNw, hPt]; omega)) only [gn0, gn1, gn2, gn3, gn4, gn5, gp0, gno, gpo] <;> first | rfl | assumption | exact gp0 _ _ _ | exact gn0 _ _)) (by first | rfl | assumption)) ?_
      refine OkO.callV rfl rfl rfl rfl rfl (c36 _ _ _ _ _) ?_ -- "sackung/sackungref04.In"
      refine OkO.pick (b := true) rfl rfl (fun _ => rfl) nofun ?_
      refine OkO.move rfl rfl ?_
      refine OkO.split (d := 16) rfl (fun g3 => ?_) (fun g3 => ?_)
      · -- true g3
        refine OkO.fieldAddr (o := 3) rfl (by kernel_rfl) rfl ?_
        refine OkO.load rfl rfl (lda (n := 1) (by kernel_rfl) (by first | assumption | (simp (disch := first | omega | (simp only [hNw, hPt]; omega)) only [gn0, gn1, gn2, gn3, gn4, gn5, gp0, gno, gpo] <;> first | rfl | assumption | exact gp0 _ _ _ | exact gn0 _ _)) (by first | rfl | assumption)) ?_
        refine OkO.callV rfl rfl rfl rfl rfl (c36 _ _ _ _ _) ?_ -- "sackung/sackungref04.In"
        refine OkO.pick (b := true) rfl rfl (fun _ => rfl) nofun ?_
        refine OkO.move rfl rfl ?_
        refine OkO.split (d := 21) rfl (fun g4 => ?_) (fun g4 => ?_)
        · -- true g4
          refine OkO.fieldAddr (o := 4) rfl (by kernel_rfl) rfl ?_
          refine OkO.load rfl rfl (lda (n := 1) (by kernel_rfl) (by first | assumption | (simp (disch := first | omega | (simp only [hNw, hPt]; omega)) only [gn0, gn1, gn2, gn3, gn4, gn5, gp0, gno, gpo] <;> first | rfl | assumption | exact gp0 _ _ _ | exact gn0 _ _)) (by first | rfl | assumption)) ?_
          refine OkO.callV rfl rfl rfl rfl rfl (c36 _ _ _ _ _) ?_ -- "sackung/sackungref04.In"
          refine OkO.pick (b := true) rfl rfl (fun _ => rfl) nofun ?_
          refine OkO.assign rfl rfl ?_
          refine OkO.nil ?_
          refine Ok.ret ⟨.inr rfl, ?_⟩
          exact back_flat rfl (by first | rfl | exact congrArg AV.bool (by clear hg hN hG hE; first | (simp_all [Trm.ok]; done) | (rw [Bool.eq_iff_iff]; simp [Trm.ok] at *; omega))) rfl (by rw [← hW]; exact (by (try dsimp only); repeat (first | exact hG | apply Grow.new | (refine Grow.put ?_ _ (by first | omega | (simp only [hNw, hPt]; omega))))))
        · -- false g4
          refine OkO.skip rfl ?_
          refine OkO.skip rfl ?_
          refine OkO.skip rfl ?_
          refine OkO.pick (b := false) rfl rfl nofun (fun _ => rfl) ?_
          refine OkO.assign rfl rfl ?_
          refine OkO.nil ?_
          refine Ok.ret ⟨.inr rfl, ?_⟩
          exact back_flat rfl (by first | rfl | exact congrArg AV.bool (by clear hg hN hG hE; first | (simp_all [Trm.ok]; done) | (rw [Bool.eq_iff_iff]; simp [Trm.ok] at *; omega))) rfl (by rw [← hW]; exact (by (try dsimp only); repeat (first | exact hG | apply Grow.new | (refine Grow.put ?_ _ (by first | omega | (simp only [hNw, hPt]; omega))))))
      · -- false g3
        refine OkO.skip rfl ?_
        refine OkO.skip rfl ?_
        refine OkO.skip rfl ?_
        refine OkO.pick (b := false) rfl rfl nofun (fun _ => rfl) ?_
        refine OkO.move rfl rfl ?_
        refine OkO.skip rfl ?_
        refine OkO.skip rfl ?_
        refine OkO.skip rfl ?_
        refine OkO.pick (b := false) rfl rfl nofun (fun _ => rfl) ?_
        refine OkO.assign rfl rfl ?_
        refine OkO.nil ?_
        refine Ok.ret ⟨.inr rfl, ?_⟩
        exact back_flat rfl (by first | rfl | exact congrArg AV.bool (by clear hg hN hG hE; first | (simp_all [Trm.ok]; done) | (rw [Bool.eq_iff_iff]; simp [Trm.ok] at *; omega))) rfl (by rw [← hW]; exact (by (try dsimp only); repeat (first | exact hG | apply Grow.new | (refine Grow.put ?_ _ (by first | omega | (simp only [hNw, hPt]; omega))))))
    · -- false g2
      refine OkO.skip rfl ?_
      refine OkO.skip rfl ?_
      refine OkO.skip rfl ?_
      refine OkO.pick (b := false) rfl rfl nofun (fun _ => rfl) ?_
      refine OkO.move rfl rfl ?_
      refine OkO.skip rfl ?_
      refine OkO.skip rfl ?_
      refine OkO.skip rfl ?_
      refine OkO.pick (b := false) rfl rfl nofun (fun _ => rfl) ?_
      refine OkO.move rfl rfl ?_
      refine OkO.skip rfl ?_
      refine OkO.skip rfl ?_
      refine OkO.skip rfl ?_
      refine OkO.pick (b := false) rfl rfl nofun (fun _ => rfl) ?_
      refine OkO.assign rfl rfl ?_
      refine OkO.nil ?_
      refine Ok.ret ⟨.inr rfl, ?_⟩
      exact back_flat rfl (by first | rfl | exact congrArg AV.bool (by clear hg hN hG hE; first | (simp_all [Trm.ok]; done) | (rw [Bool.eq_iff_iff]; simp [Trm.ok] at *; omega))) rfl (by rw [← hW]; exact (by (try dsimp only); repeat (first | exact hG | apply Grow.new | (refine Grow.put ?_ _ (by first | omega | (simp only [hNw, hPt]; omega))))))
  · -- false g1
    refine OkO.skip rfl ?_
    refine OkO.skip rfl ?_
    refine OkO.skip rfl ?_
    refine OkO.pick (b := false) rfl rfl nofun (fun _ => rfl) ?_
    refine OkO.move rfl rfl ?_
    refine OkO.skip rfl ?_
    refine OkO.skip rfl ?_
    refine OkO.skip rfl ?_
    refine OkO.pick (b := false) rfl rfl nofun (fun _ => rfl) ?_
    refine OkO.move rfl rfl ?_
    refine OkO.skip rfl ?_
    refine OkO.skip rfl ?_
    refine OkO.skip rfl ?_
    refine OkO.pick (b := false) rfl rfl nofun (fun _ => rfl) ?_
    refine OkO.move rfl rfl ?_
    refine OkO.skip rfl ?_
    refine OkO.skip rfl ?_
    refine OkO.skip rfl ?_
    refine OkO.pick (b := false) rfl rfl nofun (fun _ => rfl) ?_
    refine OkO.assign rfl rfl ?_
    refine OkO.nil ?_
    refine Ok.ret ⟨.inr rfl, ?_⟩
    exact back_flat rfl (by first | rfl | exact congrArg AV.bool (by clear hg hN hG hE; first | (simp_all [Trm.ok]; done) | (rw [Bool.eq_iff_iff]; simp [Trm.ok] at *; omega))) rfl (by rw [← hW]; exact (by (try dsimp only); repeat (first | exact hG | apply Grow.new | (refine Grow.put ?_ _ (by first | omega | (simp only [hNw, hPt]; omega))))))
theorem c99 (m : Nat) (t : Trm) (H : Heap)  : RR (m + 2) (.fn 99 [.agg t.c]) H = some (.bool t.ok, H) := by
  refine (R_fn _ _ _ _ _).trans ?_
  refine fn_ok Try.func99 rfl rfl (by kernel_rfl) (by kernel_rfl) ?_
  obtain ⟨W, hW⟩ : ∃ W : Heap, W = ⟨H.t, H.next, H.next⟩ := ⟨_, rfl⟩
  have hg : ∀ n, W.get n = H.get n := fun n => by rw [hW]; rfl
  have hN : W.next = H.next := by rw [hW]
  have hE : ∀ G, Grow W G → Ext H G := fun G g => ⟨by rw [← hN]; exact g.next, fun n k => by rw [g.get n (by rw [hN]; exact k), hg]⟩
  have hG : Grow W W := Grow.refl (by rw [hW]; exact Nat.le_refl _)
  rw [← hW]
  refine Ok.seq ?_
  refine Ok.region ?_
  refine OkO.box rfl rfl ?_
  refine OkO.assign rfl rfl ?_
  refine OkO.nil ?_
  refine Ok.seq ?_
  refine Ok.region ?_
  refine OkO.buildArr (z := [.int .i64 0, .int .i64 0]) (sz := 1) rfl (by kernel_rfl) rfl rfl ?_
  refine OkO.alloc (z := [.int .i64 0, .int .i64 0]) rfl (by kernel_rfl) ?_
  refine OkO.store rfl rfl rfl (sAc (n := 2) (ag := true) (by kernel_rfl) (by first | assumption | (simp (disch := first | omega | (simp only [hNw, hPt]; omega)) only [gn0, gn1, gn2, gn3, gn4, gn5, gp0, gno, gpo] <;> first | rfl | assumption | exact gp0 _ _ _ | exact gn0 _ _)) rfl (by first | rfl | assumption) (by first | rfl | exact spl_set _ _ _ (by first | assumption | omega | (simp; omega)))) ?_
  refine OkO.nil ?_
  refine Ok.seq ?_
  refine Ok.region ?_
  refine OkO.buildArr (z := [.int .i64 0, .int .i64 0]) (sz := 1) rfl (by kernel_rfl) rfl rfl ?_
  refine OkO.fieldAddr (o := 0) rfl (by kernel_rfl) rfl ?_
  refine OkO.load rfl rfl (lda (n := 1) (by kernel_rfl) (by first | assumption | (simp (disch := first | omega | (simp only [hNw, hPt]; omega)) only [gn0, gn1, gn2, gn3, gn4, gn5, gp0, gno, gpo] <;> first | rfl | assumption | exact gp0 _ _ _ | exact gn0 _ _)) (by first | rfl | assumption)) ?_
  refine OkO.callV rfl rfl rfl rfl rfl (c68 _ _ _ _ _) ?_ -- "(sackung/alarm.ends).has"
  refine OkO.move rfl rfl ?_
  refine OkO.split (d := 9) rfl (fun g1 => ?_) (fun g1 => ?_)
  · -- true g1
    refine OkO.buildArr (z := [.int .i64 0, .int .i64 0]) (sz := 1) rfl (by kernel_rfl) rfl rfl ?_
    refine OkO.fieldAddr (o := 4) rfl (by kernel_rfl) rfl ?_
    refine OkO.load rfl rfl (lda (n := 1) (by kernel_rfl) (by first | assumption | (simp (disch := first | omega | (simp only [hNw, hPt]; omega)) only [gn0, gn1, gn2, gn3, gn4, gn5, gp0, gno, gpo] <;> first | rfl | assumption | exact gp0 _ _ _ | exact gn0 _ _)) (by first | rfl | assumption)) ?_
    refine OkO.callV rfl rfl rfl rfl rfl (c68 _ _ _ _ _) ?_ -- "(sackung/alarm.ends).has"
    refine OkO.pick (b := true) rfl rfl (fun _ => rfl) nofun ?_
    refine OkO.move rfl rfl ?_
    refine OkO.split (d := 15) rfl (fun g2 => ?_) (fun g2 => ?_)
    · -- true g2
      refine OkO.buildArr (z := [.int .i64 0, .int .i64 0]) (sz := 1) rfl (by kernel_rfl) rfl rfl ?_
      refine OkO.fieldAddr (o := 3) rfl (by kernel_rfl) rfl ?_
      refine OkO.load rfl rfl (lda (n := 1) (by kernel_rfl) (by first | assumption | (simp (disch := first | omega | (simp only [hNw, hPt]; omega)) only [gn0, gn1, gn2, gn3, gn4, gn5, gp0, gno, gpo] <;> first | rfl | assumption | exact gp0 _ _ _ | exact gn0 _ _)) (by first | rfl | assumption)) ?_
      refine OkO.callV rfl rfl rfl rfl rfl (c68 _ _ _ _ _) ?_ -- "(sackung/alarm.ends).has"
      refine OkO.pick (b := true) rfl rfl (fun _ => rfl) nofun ?_
      refine OkO.move rfl rfl ?_
      refine OkO.split (d := 21) rfl (fun g3 => ?_) (fun g3 => ?_)
      · -- true g3
        refine OkO.load rfl rfl (ldg (n := 2) (by kernel_rfl) (by first | assumption | (simp (disch := first | omega | (simp only [hNw, hPt]; omega)) only [gn0, gn1, gn2, gn3, gn4, gn5, gp0, gno, gpo] <;> first | rfl | assumption | exact gp0 _ _ _ | exact gn0 _ _)) (by first | rfl | assumption)) ?_
        refine OkO.fieldAddr (o := 1) rfl (by kernel_rfl) rfl ?_
        refine OkO.load rfl rfl (lda (n := 1) (by kernel_rfl) (by first | assumption | (simp (disch := first | omega | (simp only [hNw, hPt]; omega)) only [gn0, gn1, gn2, gn3, gn4, gn5, gp0, gno, gpo] <;> first | rfl | assumption | exact gp0 _ _ _ | exact gn0 _ _)) (by first | rfl | assumption)) ?_
        refine OkO.callV rfl rfl rfl rfl rfl (c68 _ _ _ _ _) ?_ -- "(sackung/alarm.ends).has"
        refine OkO.pick (b := true) rfl rfl (fun _ => rfl) nofun ?_
        refine OkO.move rfl rfl ?_
        refine OkO.split (d := 27) rfl (fun g4 => ?_) (fun g4 => ?_)
        · -- true g4
          refine OkO.load rfl rfl (ldg (n := 2) (by kernel_rfl) (by first | assumption | (simp (disch := first | omega | (simp only [hNw, hPt]; omega)) only [gn0, gn1, gn2, gn3, gn4, gn5, gp0, gno, gpo] <;> first | rfl | assumption | exact gp0 _ _ _ | exact gn0 _ _)) (by first | rfl | assumption)) ?_
          refine OkO.fieldAddr (o := 2) rfl (by kernel_rfl) rfl ?_
          refine OkO.load rfl rfl (lda (n := 1) (by kernel_rfl) (by first | assumption | (simp (disch := first | omega | (simp only [hNw, hPt]; omega)) only [gn0, gn1, gn2, gn3, gn4, gn5, gp0, gno, gpo] <;> first | rfl | assumption | exact gp0 _ _ _ | exact gn0 _ _)) (by first | rfl | assumption)) ?_
          refine OkO.callV rfl rfl rfl rfl rfl (c68 _ _ _ _ _) ?_ -- "(sackung/alarm.ends).has"
          refine OkO.pick (b := true) rfl rfl (fun _ => rfl) nofun ?_
          refine OkO.assign rfl rfl ?_
          refine OkO.nil ?_
          refine Ok.ret ⟨.inr rfl, ?_⟩
          exact back_flat rfl (by first | rfl | exact congrArg AV.bool (by clear hg hN hG hE; first | (simp_all [Trm.ok]; done) | (rw [Bool.eq_iff_iff]; simp [Trm.ok] at *; omega))) rfl (by rw [← hW]; exact (by (try dsimp only); repeat (first | exact hG | apply Grow.new | (refine Grow.put ?_ _ (by first | omega | (simp only [hNw, hPt]; omega))))))
        · -- false g4
          refine OkO.skip rfl ?_
          refine OkO.skip rfl ?_
          refine OkO.skip rfl ?_
          refine OkO.skip rfl ?_
          refine OkO.pick (b := false) rfl rfl nofun (fun _ => rfl) ?_
          refine OkO.assign rfl rfl ?_
          refine OkO.nil ?_
          refine Ok.ret ⟨.inr rfl, ?_⟩
          exact back_flat rfl (by first | rfl | exact congrArg AV.bool (by clear hg hN hG hE; first | (simp_all [Trm.ok]; done) | (rw [Bool.eq_iff_iff]; simp [Trm.ok] at *; omega))) rfl (by rw [← hW]; exact (by (try dsimp only); repeat (first | exact hG | apply Grow.new | (refine Grow.put ?_ _ (by first | omega | (simp only [hNw, hPt]; omega))))))
      · -- false g3
        refine OkO.skip rfl ?_
        refine OkO.skip rfl ?_
        refine OkO.skip rfl ?_
        refine OkO.skip rfl ?_
        refine OkO.pick (b := false) rfl rfl nofun (fun _ => rfl) ?_
        refine OkO.move rfl rfl ?_
        refine OkO.skip rfl ?_
        refine OkO.skip rfl ?_
        refine OkO.skip rfl ?_
        refine OkO.skip rfl ?_
        refine OkO.pick (b := false) rfl rfl nofun (fun _ => rfl) ?_
        refine OkO.assign rfl rfl ?_
        refine OkO.nil ?_
        refine Ok.ret ⟨.inr rfl, ?_⟩
        exact back_flat rfl (by first | rfl | exact congrArg AV.bool (by clear hg hN hG hE; first | (simp_all [Trm.ok]; done) | (rw [Bool.eq_iff_iff]; simp [Trm.ok] at *; omega))) rfl (by rw [← hW]; exact (by (try dsimp only); repeat (first | exact hG | apply Grow.new | (refine Grow.put ?_ _ (by first | omega | (simp only [hNw, hPt]; omega))))))
    · -- false g2
      refine OkO.skip rfl ?_
      refine OkO.skip rfl ?_
      refine OkO.skip rfl ?_
      refine OkO.skip rfl ?_
      refine OkO.pick (b := false) rfl rfl nofun (fun _ => rfl) ?_
      refine OkO.move rfl rfl ?_
      refine OkO.skip rfl ?_
      refine OkO.skip rfl ?_
      refine OkO.skip rfl ?_
      refine OkO.skip rfl ?_
      refine OkO.pick (b := false) rfl rfl nofun (fun _ => rfl) ?_
      refine OkO.move rfl rfl ?_
      refine OkO.skip rfl ?_
      refine OkO.skip rfl ?_
      refine OkO.skip rfl ?_
      refine OkO.skip rfl ?_
      refine OkO.pick (b := false) rfl rfl nofun (fun _ => rfl) ?_
      refine OkO.assign rfl rfl ?_
      refine OkO.nil ?_
      refine Ok.ret ⟨.inr rfl, ?_⟩
      exact back_flat rfl (by first | rfl | exact congrArg AV.bool (by clear hg hN hG hE; first | (simp_all [Trm.ok]; done) | (rw [Bool.eq_iff_iff]; simp [Trm.ok] at *; omega))) rfl (by rw [← hW]; exact (by (try dsimp only); repeat (first | exact hG | apply Grow.new | (refine Grow.put ?_ _ (by first | omega | (simp only [hNw, hPt]; omega))))))
  · -- false g1
    refine OkO.skip rfl ?_
    refine OkO.skip rfl ?_
    refine OkO.skip rfl ?_
    refine OkO.skip rfl ?_
    refine OkO.pick (b := false) rfl rfl nofun (fun _ => rfl) ?_
    refine OkO.move rfl rfl ?_
    refine OkO.skip rfl ?_
    refine OkO.skip rfl ?_
    refine OkO.skip rfl ?_
    refine OkO.skip rfl ?_
    refine OkO.pick (b := false) rfl rfl nofun (fun _ => rfl) ?_
    refine OkO.move rfl rfl ?_
    refine OkO.skip rfl ?_
    refine OkO.skip rfl ?_
    refine OkO.skip rfl ?_
    refine OkO.skip rfl ?_
    refine OkO.pick (b := false) rfl rfl nofun (fun _ => rfl) ?_
    refine OkO.move rfl rfl ?_
    refine OkO.skip rfl ?_
    refine OkO.skip rfl ?_
    refine OkO.skip rfl ?_
    refine OkO.skip rfl ?_
    refine OkO.pick (b := false) rfl rfl nofun (fun _ => rfl) ?_
    refine OkO.assign rfl rfl ?_
    refine OkO.nil ?_
    refine Ok.ret ⟨.inr rfl, ?_⟩
    exact back_flat rfl (by first | rfl | exact congrArg AV.bool (by clear hg hN hG hE; first | (simp_all [Trm.ok]; done) | (rw [Bool.eq_iff_iff]; simp [Trm.ok] at *; omega))) rfl (by rw [← hW]; exact (by (try dsimp only); repeat (first | exact hG | apply Grow.new | (refine Grow.put ?_ _ (by first | omega | (simp only [hNw, hPt]; omega))))))
theorem c39 (m : Nat) (r : Rul) (H : Heap)  : RR (m + 1) (.fn 39 [.agg r.c]) H = some (.agg r.c, H) := by
  refine (R_fn _ _ _ _ _).trans ?_
  refine fn_ok Try.func39 rfl rfl (by kernel_rfl) (by kernel_rfl) ?_
  obtain ⟨W, hW⟩ : ∃ W : Heap, W = ⟨H.t, H.next, H.next⟩ := ⟨_, rfl⟩
  have hg : ∀ n, W.get n = H.get n := fun n => by rw [hW]; rfl
  have hN : W.next = H.next := by rw [hW]
  have hE : ∀ G, Grow W G → Ext H G := fun G g => ⟨by rw [← hN]; exact g.next, fun n k => by rw [g.get n (by rw [hN]; exact k), hg]⟩
  have hG : Grow W W := Grow.refl (by rw [hW]; exact Nat.le_refl _)
  rw [← hW]
  refine Ok.seq ?_
  refine Ok.region ?_
  refine OkO.box rfl rfl ?_
  refine OkO.alloc (z := [.int .i64 0, .int .i64 0, .int .i64 0]) rfl (by kernel_rfl) ?_
  refine OkO.nil ?_
  refine Ok.seq ?_
  refine Ok.region ?_
  refine OkO.fieldAddr (o := 0) rfl (by kernel_rfl) rfl ?_
  refine OkO.load rfl rfl (lda (n := 1) (by kernel_rfl) (by first | assumption | (simp (disch := first | omega | (simp only [hNw, hPt]; omega)) only [gn0, gn1, gn2, gn3, gn4, gn5, gp0, gno, gpo] <;> first | rfl | assumption | exact gp0 _ _ _ | exact gn0 _ _)) (by first | rfl | assumption)) ?_
  refine OkO.fieldAddr (o := 1) rfl (by kernel_rfl) rfl ?_
  refine OkO.load rfl rfl (lda (n := 1) (by kernel_rfl) (by first | assumption | (simp (disch := first | omega | (simp only [hNw, hPt]; omega)) only [gn0, gn1, gn2, gn3, gn4, gn5, gp0, gno, gpo] <;> first | rfl | assumption | exact gp0 _ _ _ | exact gn0 _ _)) (by first | rfl | assumption)) ?_
  refine OkO.fieldAddr (o := 2) rfl (by kernel_rfl) rfl ?_
  refine OkO.load rfl rfl (lda (n := 1) (by kernel_rfl) (by first | assumption | (simp (disch := first | omega | (simp only [hNw, hPt]; omega)) only [gn0, gn1, gn2, gn3, gn4, gn5, gp0, gno, gpo] <;> first | rfl | assumption | exact gp0 _ _ _ | exact gn0 _ _)) (by first | rfl | assumption)) ?_
  refine OkO.build (z := [.int .i64 0, .int .i64 0, .int .i64 0]) (pl := [(0, 1), (1, 1), (2, 1)]) rfl (by kernel_rfl) rfl rfl ?_
  refine OkO.store rfl rfl rfl (sAc (n := 3) (ag := true) (by kernel_rfl) (by first | assumption | (simp (disch := first | omega | (simp only [hNw, hPt]; omega)) only [gn0, gn1, gn2, gn3, gn4, gn5, gp0, gno, gpo] <;> first | rfl | assumption | exact gp0 _ _ _ | exact gn0 _ _)) rfl (by first | rfl | assumption) (by first | rfl | exact spl_set _ _ _ (by first | assumption | omega | (simp; omega)))) ?_
  refine OkO.nil ?_
  refine Ok.ret ⟨.inr rfl, ?_⟩
  exact back_flat (resV_cell rfl (ldg (n := 3) (by kernel_rfl) (by first | assumption | (simp (disch := first | omega | (simp only [hNw, hPt]; omega)) only [gn0, gn1, gn2, gn3, gn4, gn5, gp0, gno, gpo] <;> first | rfl | assumption)) (by first | rfl | assumption)) resV_nil) (rfl) rfl (by rw [← hW]; exact (by (try dsimp only); repeat (first | exact hG | apply Grow.new | (refine Grow.put ?_ _ (by first | omega | (simp only [hNw, hPt]; omega))))))
theorem c46 (m : Nat) (t : Trm) (H : Heap)  : RR (m + 1) (.fn 46 [.agg t.c]) H = some (.agg t.c, H) := by
  refine (R_fn _ _ _ _ _).trans ?_
  refine fn_ok Try.func46 rfl rfl (by kernel_rfl) (by kernel_rfl) ?_
  obtain ⟨W, hW⟩ : ∃ W : Heap, W = ⟨H.t, H.next, H.next⟩ := ⟨_, rfl⟩
  have hg : ∀ n, W.get n = H.get n := fun n => by rw [hW]; rfl
  have hN : W.next = H.next := by rw [hW]
  have hE : ∀ G, Grow W G → Ext H G := fun G g => ⟨by rw [← hN]; exact g.next, fun n k => by rw [g.get n (by rw [hN]; exact k), hg]⟩
  have hG : Grow W W := Grow.refl (by rw [hW]; exact Nat.le_refl _)
  rw [← hW]
  refine Ok.seq ?_
  refine Ok.region ?_
  refine OkO.box rfl rfl ?_
  refine OkO.alloc (z := [.int .i64 0, .int .i64 0, .int .i64 0, .int .i64 0, .int .i64 0]) rfl (by kernel_rfl) ?_
  refine OkO.nil ?_
  refine Ok.seq ?_
  refine Ok.region ?_
  refine OkO.fieldAddr (o := 0) rfl (by kernel_rfl) rfl ?_
  refine OkO.load rfl rfl (lda (n := 1) (by kernel_rfl) (by first | assumption | (simp (disch := first | omega | (simp only [hNw, hPt]; omega)) only [gn0, gn1, gn2, gn3, gn4, gn5, gp0, gno, gpo] <;> first | rfl | assumption | exact gp0 _ _ _ | exact gn0 _ _)) (by first | rfl | assumption)) ?_
  refine OkO.fieldAddr (o := 1) rfl (by kernel_rfl) rfl ?_
  refine OkO.load rfl rfl (lda (n := 1) (by kernel_rfl) (by first | assumption | (simp (disch := first | omega | (simp only [hNw, hPt]; omega)) only [gn0, gn1, gn2, gn3, gn4, gn5, gp0, gno, gpo] <;> first | rfl | assumption | exact gp0 _ _ _ | exact gn0 _ _)) (by first | rfl | assumption)) ?_
  refine OkO.fieldAddr (o := 2) rfl (by kernel_rfl) rfl ?_
  refine OkO.load rfl rfl (lda (n := 1) (by kernel_rfl) (by first | assumption | (simp (disch := first | omega | (simp only [hNw, hPt]; omega)) only [gn0, gn1, gn2, gn3, gn4, gn5, gp0, gno, gpo] <;> first | rfl | assumption | exact gp0 _ _ _ | exact gn0 _ _)) (by first | rfl | assumption)) ?_
  refine OkO.fieldAddr (o := 3) rfl (by kernel_rfl) rfl ?_
  refine OkO.load rfl rfl (lda (n := 1) (by kernel_rfl) (by first | assumption | (simp (disch := first | omega | (simp only [hNw, hPt]; omega)) only [gn0, gn1, gn2, gn3, gn4, gn5, gp0, gno, gpo] <;> first | rfl | assumption | exact gp0 _ _ _ | exact gn0 _ _)) (by first | rfl | assumption)) ?_
  refine OkO.fieldAddr (o := 4) rfl (by kernel_rfl) rfl ?_
  refine OkO.load rfl rfl (lda (n := 1) (by kernel_rfl) (by first | assumption | (simp (disch := first | omega | (simp only [hNw, hPt]; omega)) only [gn0, gn1, gn2, gn3, gn4, gn5, gp0, gno, gpo] <;> first | rfl | assumption | exact gp0 _ _ _ | exact gn0 _ _)) (by first | rfl | assumption)) ?_
  refine OkO.build (z := [.int .i64 0, .int .i64 0, .int .i64 0, .int .i64 0, .int .i64 0]) (pl := [(0, 1), (1, 1), (2, 1), (3, 1), (4, 1)]) rfl (by kernel_rfl) rfl rfl ?_
  refine OkO.store rfl rfl rfl (sAc (n := 5) (ag := true) (by kernel_rfl) (by first | assumption | (simp (disch := first | omega | (simp only [hNw, hPt]; omega)) only [gn0, gn1, gn2, gn3, gn4, gn5, gp0, gno, gpo] <;> first | rfl | assumption | exact gp0 _ _ _ | exact gn0 _ _)) rfl (by first | rfl | assumption) (by first | rfl | exact spl_set _ _ _ (by first | assumption | omega | (simp; omega)))) ?_
  refine OkO.nil ?_
  refine Ok.ret ⟨.inr rfl, ?_⟩
  exact back_flat (resV_cell rfl (ldg (n := 5) (by kernel_rfl) (by first | assumption | (simp (disch := first | omega | (simp only [hNw, hPt]; omega)) only [gn0, gn1, gn2, gn3, gn4, gn5, gp0, gno, gpo] <;> first | rfl | assumption)) (by first | rfl | assumption)) resV_nil) (rfl) rfl (by rw [← hW]; exact (by (try dsimp only); repeat (first | exact hG | apply Grow.new | (refine Grow.put ?_ _ (by first | omega | (simp only [hNw, hPt]; omega))))))
theorem c108 (m : Nat) (a b : Int) (H : Heap) (ha : 0 ≤ a ∧ a ≤ 1000) (hb : 0 ≤ b ∧ b ≤ 1000) : RR (m + 1) (.fn 108 [.agg [I a, I b]]) H = some (I (b - a), H) := by
  refine (R_fn _ _ _ _ _).trans ?_
  refine fn_ok Try.func108 rfl rfl (by kernel_rfl) (by kernel_rfl) ?_
  obtain ⟨W, hW⟩ : ∃ W : Heap, W = ⟨H.t, H.next, H.next⟩ := ⟨_, rfl⟩
  have hg : ∀ n, W.get n = H.get n := fun n => by rw [hW]; rfl
  have hN : W.next = H.next := by rw [hW]
  have hE : ∀ G, Grow W G → Ext H G := fun G g => ⟨by rw [← hN]; exact g.next, fun n k => by rw [g.get n (by rw [hN]; exact k), hg]⟩
  have hG : Grow W W := Grow.refl (by rw [hW]; exact Nat.le_refl _)
  rw [← hW]
  refine Ok.seq ?_
  refine Ok.region ?_
  refine OkO.box rfl rfl ?_
  refine OkO.assign rfl rfl ?_
  refine OkO.nil ?_
  refine Ok.seq ?_
  refine Ok.region ?_
  refine OkO.fieldAddr (o := 1) rfl (by kernel_rfl) rfl ?_
  refine OkO.load rfl rfl (lda (n := 1) (by kernel_rfl) (by first | assumption | (simp (disch := first | omega | (simp only [hNw, hPt]; omega)) only [gn0, gn1, gn2, gn3, gn4, gn5, gp0, gno, gpo] <;> first | rfl | assumption | exact gp0 _ _ _ | exact gn0 _ _)) (by first | rfl | assumption)) ?_
  refine OkO.fieldAddr (o := 0) rfl (by kernel_rfl) rfl ?_
  refine OkO.load rfl rfl (lda (n := 1) (by kernel_rfl) (by first | assumption | (simp (disch := first | omega | (simp only [hNw, hPt]; omega)) only [gn0, gn1, gn2, gn3, gn4, gn5, gp0, gno, gpo] <;> first | rfl | assumption | exact gp0 _ _ _ | exact gn0 _ _)) (by first | rfl | assumption)) ?_
  refine OkO.bin rfl rfl rfl (bin_sub (by omega) (by omega)) ?_
  refine OkO.assign rfl rfl ?_
  refine OkO.nil ?_
  refine Ok.ret ⟨.inr rfl, ?_⟩
  exact back_flat rfl (rfl) rfl (by rw [← hW]; exact (by (try dsimp only); repeat (first | exact hG | apply Grow.new | (refine Grow.put ?_ _ (by first | omega | (simp only [hNw, hPt]; omega))))))
def ruleOf (t : Trm) (start : Int) : Rul := ⟨start, max (start - t.less) 0, t.hold⟩
theorem c80 (m : Nat) (t : Trm) (s : Int) (H : Heap) (hs : 0 ≤ s ∧ s ≤ 1000) (ht : 0 ≤ t.less ∧ t.less ≤ 1000) : RR (m + 1) (.fn 80 [.agg t.c, I s]) H = some (.agg (ruleOf t s).c, H) := by
  refine (R_fn _ _ _ _ _).trans ?_
  refine fn_ok Try.func80 rfl rfl (by kernel_rfl) (by kernel_rfl) ?_
  obtain ⟨W, hW⟩ : ∃ W : Heap, W = ⟨H.t, H.next, H.next⟩ := ⟨_, rfl⟩
  have hg : ∀ n, W.get n = H.get n := fun n => by rw [hW]; rfl
  have hN : W.next = H.next := by rw [hW]
  have hE : ∀ G, Grow W G → Ext H G := fun G g => ⟨by rw [← hN]; exact g.next, fun n k => by rw [g.get n (by rw [hN]; exact k), hg]⟩
  have hG : Grow W W := Grow.refl (by rw [hW]; exact Nat.le_refl _)
  rw [← hW]
  refine Ok.seq ?_
  refine Ok.region ?_
  refine OkO.box rfl rfl ?_
  refine OkO.alloc (z := [.int .i64 0, .int .i64 0, .int .i64 0]) rfl (by kernel_rfl) ?_
  refine OkO.nil ?_
  refine Ok.seq ?_
  refine Ok.region ?_
  refine OkO.move rfl rfl ?_
  refine OkO.move rfl rfl ?_
  refine OkO.fieldAddr (o := 3) rfl (by kernel_rfl) rfl ?_
  refine OkO.load rfl rfl (lda (n := 1) (by kernel_rfl) (by first | assumption | (simp (disch := first | omega | (simp only [hNw, hPt]; omega)) only [gn0, gn1, gn2, gn3, gn4, gn5, gp0, gno, gpo] <;> first | rfl | assumption | exact gp0 _ _ _ | exact gn0 _ _)) (by first | rfl | assumption)) ?_
  refine OkO.bin rfl rfl rfl (bin_sub (by omega) (by omega)) ?_
  refine OkO.builtin rfl rfl rfl (builtin_max2 _ _) ?_
  refine OkO.fieldAddr (o := 4) rfl (by kernel_rfl) rfl ?_
  refine OkO.load rfl rfl (lda (n := 1) (by kernel_rfl) (by first | assumption | (simp (disch := first | omega | (simp only [hNw, hPt]; omega)) only [gn0, gn1, gn2, gn3, gn4, gn5, gp0, gno, gpo] <;> first | rfl | assumption | exact gp0 _ _ _ | exact gn0 _ _)) (by first | rfl | assumption)) ?_
  refine OkO.build (z := [.int .i64 0, .int .i64 0, .int .i64 0]) (pl := [(0, 1), (1, 1), (2, 1)]) rfl (by kernel_rfl) rfl rfl ?_
  refine OkO.store rfl rfl rfl (sAc (n := 3) (ag := true) (by kernel_rfl) (by first | assumption | (simp (disch := first | omega | (simp only [hNw, hPt]; omega)) only [gn0, gn1, gn2, gn3, gn4, gn5, gp0, gno, gpo] <;> first | rfl | assumption | exact gp0 _ _ _ | exact gn0 _ _)) rfl (by first | rfl | assumption) (by first | rfl | exact spl_set _ _ _ (by first | assumption | omega | (simp; omega)))) ?_
  refine OkO.nil ?_
  refine Ok.ret ⟨.inr rfl, ?_⟩
  exact back_flat (resV_cell rfl (ldg (n := 3) (by kernel_rfl) (by first | assumption | (simp (disch := first | omega | (simp only [hNw, hPt]; omega)) only [gn0, gn1, gn2, gn3, gn4, gn5, gp0, gno, gpo] <;> first | rfl | assumption)) (by first | rfl | assumption)) resV_nil) (rfl) rfl (by rw [← hW]; exact (by (try dsimp only); repeat (first | exact hG | apply Grow.new | (refine Grow.put ?_ _ (by first | omega | (simp only [hNw, hPt]; omega))))))
end
end Go.Ev

set_option maxRecDepth 100000
set_option linter.unusedSimpArgs false
set_option linter.unusedVariables false
namespace Go.Ev
open Go Go.Proofs
noncomputable section
structure Sea where (sp : List Int) (fell : Bool)
def Sea.fine (s : Sea) : Bool := s.sp.all fun x => inB x 0 1000
def Sea.short (s : Sea) : Bool := decide ((s.sp.length : Int) ≤ 60)
/-- A list of seasons, as it lies. -/
def SeasAt (H : Heap) (v : AV) (l : List Sea) : Prop := ∃ vs : List AV, vs.length = l.length ∧ Row H v 2 ((vs.zip l).map fun p => [p.1, .bool p.2.fell]) ∧ ∀ (i : Nat) (x : AV) (s : Sea), vs[i]? = some x → l[i]? = some s → Ints H x s.sp
theorem SeasAt.ext {H G : Heap} {v : AV} {l : List Sea} (h : SeasAt H v l) (g : Ext H G) : SeasAt G v l := let ⟨vs, h1, h2, h3⟩ := h; ⟨vs, h1, h2.ext g, fun i x s a b => (h3 i x s a b).ext g⟩
theorem SeasAt.len {H : Heap} {v : AV} {l : List Sea} (h : SeasAt H v l) : lenOf v = some l.length := by
  obtain ⟨vs, h1, h2, _⟩ := h
  rw [h2.len]; simp [h1]
theorem SeasAt.at_ {H : Heap} {v : AV} {l : List Sea} (h : SeasAt H v l) (i : Nat) (hi : i < l.length) : ∃ x b off cs, slAt v 2 i = some (b, off) ∧ (H.get b).bind AObj.cs = some cs ∧ seg cs off 2 = some [x, .bool l[i].fell] ∧ cs[off]? = some x ∧ cs[off + 1]? = some (.bool l[i].fell) ∧ b < H.next ∧ Ints H x l[i].sp := by
  obtain ⟨vs, h1, h2, h3⟩ := h
  have hv : i < vs.length := by omega
  obtain ⟨b, off, cs, i1, i2, i3, i4⟩ := h2.at_ i [vs[i], .bool l[i].fell] (by rw [List.getElem?_map, show (vs.zip l)[i]? = some (vs[i], l[i]) from List.getElem?_zip_eq_some.2 ⟨List.getElem?_eq_getElem hv, List.getElem?_eq_getElem hi⟩]; rfl)
  have k0 := seg_get i3 0 (by omega)
  have k1 := seg_get i3 1 (by omega)
  exact ⟨vs[i], b, off, cs, i1, i2, i3, by simpa using k0, by simpa using k1, i4, h3 i _ _ (List.getElem?_eq_getElem hv) (List.getElem?_eq_getElem hi)⟩
theorem Ints.ext {H G : Heap} {v : AV} {us : List Int} (h : Ints H v us) (g : Ext H G) : Ints G v us := Row.ext h g
theorem Ints.len {H : Heap} {v : AV} {us : List Int} (h : Ints H v us) : lenOf v = some us.length := by simpa using Row.len h
theorem Ints.at' {H : Heap} {v : AV} {us : List Int} (h : Ints H v us) (i : Nat) (hi : i < us.length) : ∃ b off cs, slAt v 1 i = some (b, off) ∧ (H.get b).bind AObj.cs = some cs ∧ cs[off]? = some (I us[i]) ∧ b < H.next := by
  obtain ⟨b, off, cs, i1, i2, i3, i4⟩ := Row.at_ h i [I us[i]] (by simp [hi])
  exact ⟨b, off, cs, i1, i2, seg_one i3, i4⟩
theorem Mine.ints {k0 : Nat} {G : Heap} {v : AV} {us : List Int} (h : Mine k0 G v 3 1 (us.map I)) : Ints G v us := Mine.row (by rw [flatI]; exact h) (fun x hx => by obtain ⟨y, _, rfl⟩ := List.mem_map.1 hx; rfl) (by omega)
/-- What a season's cells are, each speed's list in a block of its own. -/
def seaCells : List AV → List Sea → List AV
  | x :: vs, s :: l => x :: .bool s.fell :: seaCells vs l
  | _, _ => []
theorem seaCells_zip : ∀ (vs : List AV) (l : List Sea), seaCells vs l = ((vs.zip l).map fun p => [p.1, .bool p.2.fell]).flatten
  | [], _ => by simp [seaCells]
  | _ :: _, [] => by simp [seaCells]
  | x :: vs, s :: l => by simp [seaCells, seaCells_zip vs l]
theorem seaCells_snoc : ∀ (vs : List AV) (l : List Sea) (x : AV) (s : Sea), vs.length = l.length → seaCells (vs ++ [x]) (l ++ [s]) = seaCells vs l ++ [x, .bool s.fell]
  | [], [], _, _, _ => rfl
  | y :: vs, t :: l, x, s, h => by
    simp only [List.cons_append, seaCells]
    rw [seaCells_snoc vs l x s (by simpa using h)]
  | [], _ :: _, _, _, h => by simp at h
  | _ :: _, [], _, _, h => by simp at h
theorem seaCells_len : ∀ (vs : List AV) (l : List Sea), vs.length = l.length → (seaCells vs l).length = l.length * 2
  | [], [], _ => rfl
  | y :: vs, t :: l, h => by simp only [seaCells, List.length_cons]; rw [seaCells_len vs l (by simpa using h)]; omega
  | [], _ :: _, h => by simp at h
  | _ :: _, [], h => by simp at h
/-- Seasons that the call made. -/
def SeasM (k0 : Nat) (G : Heap) (v : AV) (l : List Sea) : Prop := ∃ vs : List AV, vs.length = l.length ∧ Mine k0 G v 66 2 (seaCells vs l) ∧ ∀ (i : Nat) (x : AV) (s : Sea), vs[i]? = some x → l[i]? = some s → Mine k0 G x 3 1 (s.sp.map I)
theorem SeasM.to {k0 : Nat} {G G' : Heap} {v : AV} {l : List Sea} (h : SeasM k0 G v l) (g : Ext G G') : SeasM k0 G' v l := let ⟨vs, h1, h2, h3⟩ := h; ⟨vs, h1, h2.to g, fun i x s a b => (h3 i x s a b).to g⟩
theorem SeasM.low {k0 k1 : Nat} {G : Heap} {v : AV} {l : List Sea} (h : SeasM k1 G v l) (hk : k0 ≤ k1) : SeasM k0 G v l := let ⟨vs, h1, h2, h3⟩ := h; ⟨vs, h1, h2.low hk, fun i x s a b => (h3 i x s a b).low hk⟩
theorem SeasM.put {k0 : Nat} {G : Heap} {v : AV} {l : List Sea} (h : SeasM k0 G v l) {n : Nat} (o : AObj) (hn : n < k0) : SeasM k0 (G.put n o) v l := let ⟨vs, h1, h2, h3⟩ := h; ⟨vs, h1, h2.put o hn, fun i x s a b => (h3 i x s a b).put o hn⟩
theorem SeasM.at {k0 : Nat} {G : Heap} {v : AV} {l : List Sea} (h : SeasM k0 G v l) : SeasAt G v l := by
  obtain ⟨vs, h1, h2, h3⟩ := h
  refine ⟨vs, h1, ?_, fun i x s a b => (h3 i x s a b).ints⟩
  exact Mine.row (by rw [← seaCells_zip]; exact h2) (fun x hx => by obtain ⟨y, _, rfl⟩ := List.mem_map.1 hx; rfl) (by omega)
theorem SeasM.nil (k0 : Nat) (G : Heap) : SeasM k0 G .nils [] := ⟨[], rfl, Mine.nil _ _ _ _, fun i x s h _ => by simp at h⟩
theorem flat_agg2 {a b : AV} (h : (AV.agg [a, b]).flat = true) : a.flat = true := by
  have h1 : AV.flats [a, b] = true := h
  unfold AV.flats at h1
  cases ha : a.flat with
  | false => rw [ha] at h1; cases h1
  | true => rfl
theorem c30 (m : Nat) (bv : AV) (us : List Int) (H : Heap) (hU : Ints H bv us) (hl : us.length ≤ 1000000) : ∃ v H', RR (m + 1) (.fn 30 [bv]) H = some (v, H') ∧ Ret H H' ∧ Mine H.next H' v 3 1 (us.map I) := by
  show ∃ v H', evFn Try.prog (RR (m + 0)) 30 [bv] H = some (v, H') ∧ Ret H H' ∧ Mine H.next H' v 3 1 (us.map I)
  refine fn_okE Try.func30 rfl rfl (by kernel_rfl) (by kernel_rfl) ?_
  obtain ⟨W, hW⟩ : ∃ W : Heap, W = ⟨H.t, H.next, H.next⟩ := ⟨_, rfl⟩
  have hg : ∀ n, W.get n = H.get n := fun n => by rw [hW]; rfl
  have hN : W.next = H.next := by rw [hW]
  have hE : ∀ G, Grow W G → Ext H G := fun G g => ⟨by rw [← hN]; exact g.next, fun n k => by rw [g.get n (by rw [hN]; exact k), hg]⟩
  have hG : Grow W W := Grow.refl (by rw [hW]; exact Nat.le_refl _)
  rw [← hW]
  refine Ok.seq ?_
  refine Ok.region ?_
  refine OkO.assign rfl rfl ?_
  refine OkO.nil ?_
  refine Ok.seq ?_
  refine Ok.region ?_
  refine OkO.move rfl rfl ?_
  refine OkO.builtinE rfl rfl rfl (Mine.app3 (W := W) (k0 := W.next) (t := 22) (u := 22) (sz := 1) (by_ := 8) (e := 3) (n := us.length) (new := us.map I) (Mine.nil _ _ _ _) hG (Nat.le_refl _) (Nat.le_refl _) (by kernel_rfl) (by kernel_rfl) (by rw [← flatI]; exact (hU.ext (hE _ hG)).elems (fun x hx => by obtain ⟨y, _, rfl⟩ := List.mem_map.1 hx; rfl)) (hU.len) (by simp) (by simp; omega) (by omega) (atoms_ints us)) ?_
  rintro v2 G2 ⟨r1, r2, r3, r4⟩
  refine OkO.assign rfl rfl ?_
  refine OkO.nil ?_
  refine Ok.ret ⟨.inr rfl, ?_⟩
  refine back_newA (resV_tmp rfl resV_nil) rfl (by rw [← hW]; exact r2) (fun H9 p1 p2 => ⟨p1, (r1.low (by omega)).backT p2 id⟩)
theorem c38 (m : Nat) (sv : AV) (s : Sea) (H : Heap) (hU : Ints H sv s.sp) (hl : s.sp.length ≤ 1000000) : ∃ v H', RR (m + 2) (.fn 38 [.agg [sv, .bool s.fell]]) H = some (v, H') ∧ ∃ x, v = .agg [x, .bool s.fell] ∧ Ret H H' ∧ Mine H.next H' x 3 1 (s.sp.map I) := by
  show ∃ v H', evFn Try.prog (RR (m + 1)) 38 [.agg [sv, .bool s.fell]] H = some (v, H') ∧ ∃ x, v = .agg [x, .bool s.fell] ∧ Ret H H' ∧ Mine H.next H' x 3 1 (s.sp.map I)
  refine fn_okE Try.func38 rfl rfl (by kernel_rfl) (by kernel_rfl) ?_
  obtain ⟨W, hW⟩ : ∃ W : Heap, W = ⟨H.t, H.next, H.next⟩ := ⟨_, rfl⟩
  have hg : ∀ n, W.get n = H.get n := fun n => by rw [hW]; rfl
  have hN : W.next = H.next := by rw [hW]
  have hE : ∀ G, Grow W G → Ext H G := fun G g => ⟨by rw [← hN]; exact g.next, fun n k => by rw [g.get n (by rw [hN]; exact k), hg]⟩
  have hG : Grow W W := Grow.refl (by rw [hW]; exact Nat.le_refl _)
  rw [← hW]
  have pb : sv.plain = true := lpl hU.len
  refine Ok.seq ?_
  refine Ok.region ?_
  refine OkO.box rfl rfl ?_
  refine OkO.alloc (z := [.nils, .bool false]) rfl (by kernel_rfl) ?_
  refine OkO.nil ?_
  refine Ok.seq ?_
  refine Ok.drawn [(0, true, []), (1, true, []), (3, true, []), (4, true, []), (2, false, [4]), (5, true, []), (6, false, [])] (by kernel_rfl) ?_
  refine OkP.step ?_
  refine OkO.fieldAddr (o := 0) rfl (by kernel_rfl) rfl ?_
  refine OkO.nil ⟨rfl, ?_⟩
  refine OkP.step ?_
  refine OkO.load rfl rfl (lda (n := 1) (by kernel_rfl) (by first | assumption | (simp (disch := first | omega | (simp only [hNw, hPt]; omega)) only [gn0, gn1, gn2, gn3, gn4, gn5, gp0, gno, gpo] <;> first | rfl | assumption | exact gp0 _ _ _ | exact gn0 _ _)) (by first | rfl | assumption)) ?_
  refine OkO.nil ⟨rfl, ?_⟩
  refine OkP.step ?_
  refine OkO.fieldAddr (o := 1) rfl (by kernel_rfl) rfl ?_
  refine OkO.nil ⟨rfl, ?_⟩
  refine OkP.step ?_
  refine OkO.load rfl rfl (lda (n := 1) (by kernel_rfl) (by first | assumption | (simp (disch := first | omega | (simp only [hNw, hPt]; omega)) only [gn0, gn1, gn2, gn3, gn4, gn5, gp0, gno, gpo] <;> first | rfl | assumption | exact gp0 _ _ _ | exact gn0 _ _)) (by first | rfl | assumption)) ?_
  refine OkO.nil ⟨rfl, ?_⟩
  refine OkP.step ?_
  refine OkO.callE rfl rfl rfl rfl rfl (c30 m sv s.sp _ (hU.ext (hE _ (by (try dsimp only); repeat (first | exact hG | apply Grow.new | (refine Grow.put ?_ _ (by first | omega | (simp only [hNw, hPt]; omega))))))) hl) ?_ -- "sackung/sackunglaw04.list"
  rintro v30 H30 ⟨q1, r1⟩
  have g30 : Grow W H30 := Grow.ret (by (try dsimp only); repeat (first | exact hG | apply Grow.new | (refine Grow.put ?_ _ (by first | omega | (simp only [hNw, hPt]; omega))))) q1
  have n30 := q1.ext.next
  simp only [hNw] at n30
  have a30 : (H30.get W.next).bind AObj.cs = some [sv, .bool s.fell] := by rw [q1.ext.get _ (by simp only [hNw]; omega)]; simp (disch := first | omega | (simp only [hNw, hPt]; omega)) only [gn0, gn1, gn2, gn3, gn4, gn5, gp0, gno, gpo] <;> rfl
  have o30 : H30.get (W.next + 1) = some (.cells [.nils, .bool false] 66) := by rw [q1.ext.get _ (by simp only [hNw]; omega)]; exact gn1 _ _ _
  obtain ⟨hv1, hv2⟩ := r1.one
  refine OkO.nil ⟨(sco (sld rfl rfl (lda (n := 1) (by kernel_rfl) (by first | assumption | (simp (disch := first | omega | (simp only [hNw, hPt]; omega)) only [gn0, gn1, gn2, gn3, gn4, gn5, gp0, gno, gpo] <;> first | rfl | assumption | exact gp0 _ _ _ | exact gn0 _ _)) (by first | rfl | assumption)) rfl (eqr _ (by first | rfl | exact lpl (by assumption) | (simp [AV.plain, AV.plains, AV.cells, AV.plain])))) rfl), ?_⟩
  refine OkP.step ?_
  refine OkO.build (cs := [v30, .bool s.fell]) (z := [.nils, .bool false]) (pl := [(0, 1), (1, 1)]) rfl (by kernel_rfl) rfl (by simp [fillS, spl, hv1, show ∀ z, (AV.bool z).cells = [AV.bool z] from fun _ => rfl]) ?_
  refine OkO.nil ⟨rfl, ?_⟩
  refine OkP.step ?_
  refine OkO.store rfl rfl rfl (sAc (n := 2) (ag := true) (by kernel_rfl) (by first | assumption | (simp (disch := first | omega | (simp only [hNw, hPt]; omega)) only [gn0, gn1, gn2, gn3, gn4, gn5, gp0, gno, gpo] <;> first | rfl | assumption | exact gp0 _ _ _ | exact gn0 _ _)) rfl (by show atoms [v30, .bool s.fell] = true; simp [atoms, hv2, show ∀ z, (AV.bool z).atom = true from fun _ => rfl]) (by first | rfl | exact spl_set _ _ _ (by first | assumption | omega | (simp; omega)))) ?_
  refine OkO.nil ⟨rfl, ?_⟩
  refine OkP.nil ?_
  refine Ok.ret ⟨.inr rfl, ?_⟩
  refine back_newA (resV_cell rfl (ldg (n := 2) (by kernel_rfl) (by first | assumption | (simp (disch := first | omega | (simp only [hNw, hPt]; omega)) only [gn0, gn1, gn2, gn3, gn4, gn5, gp0, gno, gpo] <;> first | rfl | assumption)) (by first | rfl | assumption)) resV_nil) rfl (by rw [← hW]; exact (by (try dsimp only); repeat (first | exact g30 | apply Grow.new | (refine Grow.put ?_ _ (by first | omega | (simp only [hNw, hPt]; omega)))))) (fun H9 p1 p2 => ⟨v30, rfl, p1, ?_⟩)
  exact Mine.backT (((r1.put _ (by first | omega | (simp only [hNw]; omega)))).low (by simp only [hNw]; omega)) p2 flat_agg2
theorem c96 (m : Nat) (sv : AV) (s : Sea) (H : Heap) (hs : lenOf sv = some s.sp.length) : RR (m + 1) (.fn 96 [.agg [sv, .bool s.fell]]) H = some (.bool s.short, H) := by
  refine (R_fn _ _ _ _ _).trans ?_
  refine fn_ok Try.func96 rfl rfl (by kernel_rfl) (by kernel_rfl) ?_
  obtain ⟨W, hW⟩ : ∃ W : Heap, W = ⟨H.t, H.next, H.next⟩ := ⟨_, rfl⟩
  have hg : ∀ n, W.get n = H.get n := fun n => by rw [hW]; rfl
  have hN : W.next = H.next := by rw [hW]
  have hE : ∀ G, Grow W G → Ext H G := fun G g => ⟨by rw [← hN]; exact g.next, fun n k => by rw [g.get n (by rw [hN]; exact k), hg]⟩
  have hG : Grow W W := Grow.refl (by rw [hW]; exact Nat.le_refl _)
  rw [← hW]
  refine Ok.seq ?_
  refine Ok.region ?_
  refine OkO.box rfl rfl ?_
  refine OkO.assign rfl rfl ?_
  refine OkO.nil ?_
  refine Ok.seq ?_
  refine Ok.region ?_
  refine OkO.fieldAddr (o := 0) rfl (by kernel_rfl) rfl ?_
  refine OkO.load rfl rfl (lda (n := 1) (by kernel_rfl) (by first | assumption | (simp (disch := first | omega | (simp only [hNw, hPt]; omega)) only [gn0, gn1, gn2, gn3, gn4, gn5, gp0, gno, gpo] <;> first | rfl | assumption | exact gp0 _ _ _ | exact gn0 _ _)) (by first | rfl | assumption)) ?_
  refine OkO.builtin rfl rfl rfl (bln (by kernel_rfl) (by first | assumption | rfl)) ?_
  refine OkO.bin rfl rfl rfl (bin_leq _ _) ?_
  refine OkO.assign rfl rfl ?_
  refine OkO.nil ?_
  refine Ok.ret ⟨.inr rfl, ?_⟩
  exact back_flat rfl (by first | rfl | exact congrArg AV.bool (by clear hg hN hG hE; first | (simp_all [Sea.short]; done) | (rw [Bool.eq_iff_iff]; simp [Sea.short] at *; omega))) rfl (by rw [← hW]; exact (by (try dsimp only); repeat (first | exact hG | apply Grow.new | (refine Grow.put ?_ _ (by first | omega | (simp only [hNw, hPt]; omega))))))
theorem c82 (m : Nat) (v good : AV) (xs : List Int) (ps : List Bool) (H : Heap) (hR : Row H v 1 (xs.map fun x => [I x])) (hl : xs.length ≤ 1000000) (hp : ps.length = xs.length) (hgood : ∀ (i : Nat) x b, xs[i]? = some x → ps[i]? = some b → CallB m good [I x] H b) : RR (m + 1) (.fn 82 [v, good]) H = some (.bool (ps.all id), H) := by
  refine (R_fn _ _ _ _ _).trans ?_
  refine fn_ok Try.func82 rfl rfl (by kernel_rfl) (by kernel_rfl) ?_
  obtain ⟨W, hW⟩ : ∃ W : Heap, W = ⟨H.t, H.next, H.next⟩ := ⟨_, rfl⟩
  have hg : ∀ n, W.get n = H.get n := fun n => by rw [hW]; rfl
  have hN : W.next = H.next := by rw [hW]
  have hE : ∀ G, Grow W G → Ext H G := fun G g => ⟨by rw [← hN]; exact g.next, fun n k => by rw [g.get n (by rw [hN]; exact k), hg]⟩
  have hG : Grow W W := Grow.refl (by rw [hW]; exact Nat.le_refl _)
  rw [← hW]
  have hlen : lenOf v = some xs.length := by simpa using hR.len
  refine Ok.seq ?_
  refine Ok.region ?_
  refine OkO.assign rfl rfl ?_
  refine OkO.nil ?_
  refine Ok.seq ?_
  refine Ok.seq ?_
  refine Ok.region ?_
  refine OkO.move rfl rfl ?_
  refine OkO.builtin rfl rfl rfl (bln (by kernel_rfl) (by first | assumption | rfl)) ?_
  refine OkO.move rfl rfl ?_
  refine OkO.nil ?_
  refine Ok.block ?_
  refine Ok.loop (fun n s => ∃ i : Nat, n = xs.length - i ∧ i ≤ xs.length ∧ (∀ j, j < i → ps[j]? = some true) ∧ Has 5 [(1, good), (4, .bool false), (7, v), (8, I xs.length), (9, I (i : Int))] s.T ∧ s.D = [] ∧ Grow W s.H) (xs.length) (by unfold loopFuel; omega)
    ⟨0, rfl, Nat.zero_le _, nofun, Has.of (by kernel_rfl), rfl, hG⟩ ?_
  rintro n ⟨T, D, G⟩ ⟨i, hn, hi, hall, ⟨f, hT⟩, hD, hg⟩
  dsimp only at *
  subst hT hD
  have hgn := hg.next
  refine Ok.seq ?_
  refine Ok.region ?_
  refine OkO.bin rfl rfl rfl (bin_lss _ _) ?_
  refine OkO.nil ?_
  refine Ok.seq ?_
  refine Ok.cond rfl (fun h1 => ?_) (fun h1 => ?_)
  · -- yes h1
    have hlt : i < xs.length := by simpa using h1
    obtain ⟨b, hb⟩ : ∃ b, ps[i]? = some b := ⟨_, List.getElem?_eq_getElem (by omega)⟩
    obtain ⟨bb, off, cs, i1, i2, i3, i4⟩ := (hR.ext (hE _ hg)).at_ i [I xs[i]] (by simp [hlt])
    have hne : bb ≠ G.next := by omega
    have i5 := seg_one i3
    refine Ok.skip ?_
    refine Ok.seq ?_
    refine Ok.block ?_
    refine Ok.seq ?_
    refine Ok.region ?_
    refine OkO.index (sz := 1) rfl rfl rfl (by kernel_rfl) (by first | assumption | rfl | exact slAt_slice (by omega) | exact slAt_opn (by omega)) ?_ -- index ('Go.Operand.tmp', 7) ('Go.Operand.tmp', 9)
    refine OkO.load rfl rfl (lda (n := 1) (by kernel_rfl) (by first | assumption | (simp (disch := first | omega | (simp only [hNw, hPt]; omega)) only [gn0, gn1, gn2, gn3, gn4, gn5, gp0, gno, gpo] <;> first | rfl | assumption | exact gp0 _ _ _ | exact gn0 _ _)) (by first | rfl | assumption)) ?_
    refine OkO.assign rfl rfl ?_
    refine OkO.nil ?_
    refine Ok.seq ?_
    refine Ok.region ?_
    refine OkO.move rfl rfl ?_
    refine OkO.move rfl rfl ?_
    obtain ⟨gf, gas, hc1, hc2⟩ := hgood i xs[i] b (by simp [hlt]) hb
    refine OkO.callV rfl rfl rfl rfl hc1 (hc2 _ (hE _ (by (try dsimp only); repeat (first | (first | exact hg | exact hG) | apply Grow.new | (refine Grow.put ?_ _ (by first | omega | (simp only [hNw, hPt]; omega))))))) ?_ -- ('Go.Operand.tmp', 13)
    refine OkO.un rfl rfl rfl ?_
    refine OkO.nil ?_
    refine Ok.cond rfl (fun h2 => ?_) (fun h2 => ?_)
    · -- yes h2
      refine Ok.seq ?_
      refine Ok.region ?_
      refine OkO.assign rfl rfl ?_
      refine OkO.nil ?_
      refine Ok.ret ⟨.inr rfl, ?_⟩
      exact back_flat rfl (congrArg AV.bool (by symm; rw [List.all_eq_false]; exact ⟨false, List.mem_of_getElem? (by rw [hb]; congr 1; simpa using h2), by simp⟩)) rfl (by rw [← hW]; exact (by (try dsimp only); repeat (first | (first | exact hg | exact hG) | apply Grow.new | (refine Grow.put ?_ _ (by first | omega | (simp only [hNw, hPt]; omega))))))
    · -- no h2
      refine Ok.skip ?_
      refine Ok.region ?_
      refine OkO.bin rfl rfl rfl (bin_add (by omega) (by omega)) ?_
      refine OkO.move rfl rfl ?_
      refine OkO.nil ?_
      refine ⟨xs.length - (i + 1), by omega, i + 1, rfl, hlt, fun j hj => ?_, Has.of (by kernel_rfl), rfl, (by (try dsimp only); repeat (first | (first | exact hg | exact hG) | apply Grow.new | (refine Grow.put ?_ _ (by first | omega | (simp only [hNw, hPt]; omega)))))⟩
      by_cases e : j = i
      · subst e; rw [hb]; simpa using h2
      · exact hall j (by omega)
  · -- no h1
    have hge : i = xs.length := by simp at h1; omega
    refine Ok.exit ?_
    refine Ok.seq ?_
    refine Ok.region ?_
    refine OkO.assign rfl rfl ?_
    refine OkO.nil ?_
    refine Ok.ret ⟨.inr rfl, ?_⟩
    exact back_flat rfl (congrArg AV.bool (by symm; rw [List.all_eq_true]; intro x hx; obtain ⟨j, hj, rfl⟩ := List.mem_iff_getElem.1 hx; have := hall j (by omega); rw [List.getElem?_eq_getElem hj] at this; simpa using this)) rfl (by rw [← hW]; exact (by (try dsimp only); repeat (first | (first | exact hg | exact hG) | apply Grow.new | (refine Grow.put ?_ _ (by first | omega | (simp only [hNw, hPt]; omega))))))
theorem c95 (m : Nat) (v good : AV) (xs : List (AV × Bool)) (ps : List Bool) (H : Heap) (hR : Row H v 2 (xs.map fun x => [x.1, .bool x.2])) (hl : xs.length ≤ 1000000) (hp : ps.length = xs.length) (hat : ∀ x ∈ xs, x.1.atom = true) (hgood : ∀ (i : Nat) x b, xs[i]? = some x → ps[i]? = some b → CallB m good [.agg [x.1, .bool x.2]] H b) : RR (m + 1) (.fn 95 [v, good]) H = some (.bool (ps.all id), H) := by
  refine (R_fn _ _ _ _ _).trans ?_
  refine fn_ok Try.func95 rfl rfl (by kernel_rfl) (by kernel_rfl) ?_
  obtain ⟨W, hW⟩ : ∃ W : Heap, W = ⟨H.t, H.next, H.next⟩ := ⟨_, rfl⟩
  have hg : ∀ n, W.get n = H.get n := fun n => by rw [hW]; rfl
  have hN : W.next = H.next := by rw [hW]
  have hE : ∀ G, Grow W G → Ext H G := fun G g => ⟨by rw [← hN]; exact g.next, fun n k => by rw [g.get n (by rw [hN]; exact k), hg]⟩
  have hG : Grow W W := Grow.refl (by rw [hW]; exact Nat.le_refl _)
  rw [← hW]
  have hlen : lenOf v = some xs.length := by simpa using hR.len
  refine Ok.seq ?_
  refine Ok.region ?_
  refine OkO.assign rfl rfl ?_
  refine OkO.nil ?_
  refine Ok.seq ?_
  refine Ok.seq ?_
  refine Ok.region ?_
  refine OkO.move rfl rfl ?_
  refine OkO.builtin rfl rfl rfl (bln (by kernel_rfl) (by first | assumption | rfl)) ?_
  refine OkO.move rfl rfl ?_
  refine OkO.nil ?_
  refine Ok.block ?_
  refine Ok.loop (fun n s => ∃ i : Nat, n = xs.length - i ∧ i ≤ xs.length ∧ (∀ j, j < i → ps[j]? = some true) ∧ Has 5 [(1, good), (4, .bool false), (7, v), (8, I xs.length), (9, I (i : Int))] s.T ∧ s.D = [] ∧ Grow W s.H) (xs.length) (by unfold loopFuel; omega)
    ⟨0, rfl, Nat.zero_le _, nofun, Has.of (by kernel_rfl), rfl, hG⟩ ?_
  rintro n ⟨T, D, G⟩ ⟨i, hn, hi, hall, ⟨f, hT⟩, hD, hg⟩
  dsimp only at *
  subst hT hD
  have hgn := hg.next
  refine Ok.seq ?_
  refine Ok.region ?_
  refine OkO.bin rfl rfl rfl (bin_lss _ _) ?_
  refine OkO.nil ?_
  refine Ok.seq ?_
  refine Ok.cond rfl (fun h1 => ?_) (fun h1 => ?_)
  · -- yes h1
    have hlt : i < xs.length := by simpa using h1
    obtain ⟨b, hb⟩ : ∃ b, ps[i]? = some b := ⟨_, List.getElem?_eq_getElem (by omega)⟩
    obtain ⟨bb, off, cs, i1, i2, i3, i4⟩ := (hR.ext (hE _ hg)).at_ i [xs[i].1, .bool xs[i].2] (by simp [hlt])
    have hne : bb ≠ G.next := by omega
    have at1 : atoms (AV.agg [xs[i].1, .bool xs[i].2]).cells = true := by (show atoms [xs[i].1, .bool xs[i].2] = true; have h9 := hat xs[i] (List.getElem_mem hlt); simp [atoms, h9, show ∀ z, (AV.bool z).atom = true from fun _ => rfl])
    refine Ok.skip ?_
    refine Ok.seq ?_
    refine Ok.block ?_
    refine Ok.seq ?_
    refine Ok.region ?_
    refine OkO.index (sz := 2) rfl rfl rfl (by kernel_rfl) (by first | assumption | rfl | exact slAt_slice (by omega) | exact slAt_opn (by omega)) ?_ -- index ('Go.Operand.tmp', 7) ('Go.Operand.tmp', 9)
    refine OkO.load rfl rfl (ldg (n := 2) (by kernel_rfl) (by first | assumption | (simp (disch := first | omega | (simp only [hNw, hPt]; omega)) only [gn0, gn1, gn2, gn3, gn4, gn5, gp0, gno, gpo] <;> first | rfl | assumption | exact gp0 _ _ _ | exact gn0 _ _)) (by first | rfl | assumption)) ?_
    refine OkO.alloc (z := [.nils, .bool false]) rfl (by kernel_rfl) ?_
    refine OkO.store rfl rfl rfl (sAc (n := 2) (ag := true) (by kernel_rfl) (by first | assumption | (simp (disch := first | omega | (simp only [hNw, hPt]; omega)) only [gn0, gn1, gn2, gn3, gn4, gn5, gp0, gno, gpo] <;> first | rfl | assumption | exact gp0 _ _ _ | exact gn0 _ _)) rfl (by first | rfl | assumption) (by first | rfl | exact spl_set _ _ _ (by first | assumption | omega | (simp; omega)))) ?_
    refine OkO.nil ?_
    refine Ok.seq ?_
    refine Ok.region ?_
    refine OkO.move rfl rfl ?_
    refine OkO.load rfl rfl (ldg (n := 2) (by kernel_rfl) (by first | assumption | (simp (disch := first | omega | (simp only [hNw, hPt]; omega)) only [gn0, gn1, gn2, gn3, gn4, gn5, gp0, gno, gpo] <;> first | rfl | assumption | exact gp0 _ _ _ | exact gn0 _ _)) (by first | rfl | assumption)) ?_
    obtain ⟨gf, gas, hc1, hc2⟩ := hgood i xs[i] b (by simp [hlt]) hb
    refine OkO.callV rfl rfl rfl rfl hc1 (hc2 _ (hE _ (by (try dsimp only); repeat (first | (first | exact hg | exact hG) | apply Grow.new | (refine Grow.put ?_ _ (by first | omega | (simp only [hNw, hPt]; omega))))))) ?_ -- ('Go.Operand.tmp', 13)
    refine OkO.un rfl rfl rfl ?_
    refine OkO.nil ?_
    refine Ok.cond rfl (fun h2 => ?_) (fun h2 => ?_)
    · -- yes h2
      refine Ok.seq ?_
      refine Ok.region ?_
      refine OkO.assign rfl rfl ?_
      refine OkO.nil ?_
      refine Ok.ret ⟨.inr rfl, ?_⟩
      exact back_flat rfl (congrArg AV.bool (by symm; rw [List.all_eq_false]; exact ⟨false, List.mem_of_getElem? (by rw [hb]; congr 1; simpa using h2), by simp⟩)) rfl (by rw [← hW]; exact (by (try dsimp only); repeat (first | (first | exact hg | exact hG) | apply Grow.new | (refine Grow.put ?_ _ (by first | omega | (simp only [hNw, hPt]; omega))))))
    · -- no h2
      refine Ok.skip ?_
      refine Ok.region ?_
      refine OkO.bin rfl rfl rfl (bin_add (by omega) (by omega)) ?_
      refine OkO.move rfl rfl ?_
      refine OkO.nil ?_
      refine ⟨xs.length - (i + 1), by omega, i + 1, rfl, hlt, fun j hj => ?_, Has.of (by kernel_rfl), rfl, (by (try dsimp only); repeat (first | (first | exact hg | exact hG) | apply Grow.new | (refine Grow.put ?_ _ (by first | omega | (simp only [hNw, hPt]; omega)))))⟩
      by_cases e : j = i
      · subst e; rw [hb]; simpa using h2
      · exact hall j (by omega)
  · -- no h1
    have hge : i = xs.length := by simp at h1; omega
    refine Ok.exit ?_
    refine Ok.seq ?_
    refine Ok.region ?_
    refine OkO.assign rfl rfl ?_
    refine OkO.nil ?_
    refine Ok.ret ⟨.inr rfl, ?_⟩
    exact back_flat rfl (congrArg AV.bool (by symm; rw [List.all_eq_true]; intro x hx; obtain ⟨j, hj, rfl⟩ := List.mem_iff_getElem.1 hx; have := hall j (by omega); rw [List.getElem?_eq_getElem hj] at this; simpa using this)) rfl (by rw [← hW]; exact (by (try dsimp only); repeat (first | (first | exact hg | exact hG) | apply Grow.new | (refine Grow.put ?_ _ (by first | omega | (simp only [hNw, hPt]; omega))))))
end
end Go.Ev

set_option maxRecDepth 100000
set_option linter.unusedSimpArgs false
set_option linter.unusedVariables false
namespace Go.Ev
open Go Go.Proofs
noncomputable section
def seasErr (l : List Sea) : Int := if (decide ((l.length : Int) ≤ 10) && l.all Sea.short) = true then (if l.all Sea.fine = true then 0 else 1) else 3
theorem seasErr3 {l : List Sea} (h : (10 : Int) < l.length ∨ ∃ s ∈ l, s.short = false) : seasErr l = 3 := by
  unfold seasErr
  rw [if_neg]
  intro h1
  rw [Bool.and_eq_true, decide_eq_true_eq, List.all_eq_true] at h1
  rcases h with h | ⟨s, h2, h3⟩
  · omega
  · rw [h1.2 s h2] at h3; cases h3
theorem seasErr1 {l : List Sea} (h : (l.length : Int) ≤ 10) (h2 : ∀ s ∈ l, s.short = true) {s : Sea} (h3 : s ∈ l) (h4 : s.fine = false) : seasErr l = 1 := by
  unfold seasErr
  rw [if_pos (by rw [Bool.and_eq_true, decide_eq_true_eq, List.all_eq_true]; exact ⟨h, h2⟩), if_neg]
  intro h5
  rw [List.all_eq_true] at h5
  rw [h5 s h3] at h4; cases h4
theorem seasErr0 {l : List Sea} (h : (l.length : Int) ≤ 10) (h2 : ∀ s ∈ l, s.short = true) (h3 : ∀ s ∈ l, s.fine = true) : seasErr l = 0 := by
  unfold seasErr
  rw [if_pos (by rw [Bool.and_eq_true, decide_eq_true_eq, List.all_eq_true]; exact ⟨h, h2⟩), if_pos (by rw [List.all_eq_true]; exact h3)]
theorem seasErr_facts {l : List Sea} (h : seasErr l = 0) : l.length ≤ 10 ∧ (∀ s ∈ l, s.sp.length ≤ 60) ∧ ∀ s ∈ l, ∀ x ∈ s.sp, 0 ≤ x ∧ x ≤ 1000 := by
  unfold seasErr at h
  split at h
  · rename_i h1
    rw [Bool.and_eq_true, decide_eq_true_eq, List.all_eq_true] at h1
    split at h
    · rename_i h2
      rw [List.all_eq_true] at h2
      refine ⟨by omega, fun s hs => ?_, fun s hs x hx => ?_⟩
      · have := h1.2 s hs
        unfold Sea.short at this
        rw [decide_eq_true_eq] at this
        omega
      · have := h2 s hs
        unfold Sea.fine at this
        rw [List.all_eq_true] at this
        have := this x hx
        unfold inB at this
        simpa using this
    · cases h
  · cases h
theorem all_of_get {α : Type} {l : List α} {p : α → Prop} (h : ∀ (j : Nat) (hj : j < l.length), p l[j]) : ∀ x ∈ l, p x := fun x hx => by
  obtain ⟨j, hj, rfl⟩ := List.mem_iff_getElem.1 hx
  exact h j hj
theorem fine_no {s : Sea} {k : Nat} (hk : k < s.sp.length) (h : inB s.sp[k] 0 1000 = false) : s.fine = false := by
  unfold Sea.fine
  rw [List.all_eq_false]
  exact ⟨s.sp[k], List.getElem_mem hk, by simp [h]⟩
theorem fine_yes {s : Sea} (h : ∀ (k : Nat) (hk : k < s.sp.length), inB s.sp[k] 0 1000 = true) : s.fine = true := by
  unfold Sea.fine
  rw [List.all_eq_true]
  exact all_of_get (p := fun x => inB x 0 1000 = true) h
theorem c40 (m : Nat) (v : AV) (l : List Sea) (H : Heap) (hS : SeasAt H v l) (hl9 : l.length ≤ 100000) (hs9 : ∀ s ∈ l, s.sp.length ≤ 100000) : RR (m + 2) (.fn 40 [v]) H = some (I (seasErr l), H) := by
  refine (R_fn _ _ _ _ _).trans ?_
  refine fn_ok Try.func40 rfl rfl (by kernel_rfl) (by kernel_rfl) ?_
  obtain ⟨W, hW⟩ : ∃ W : Heap, W = ⟨H.t, H.next, H.next⟩ := ⟨_, rfl⟩
  have hg : ∀ n, W.get n = H.get n := fun n => by rw [hW]; rfl
  have hN : W.next = H.next := by rw [hW]
  have hE : ∀ G, Grow W G → Ext H G := fun G g => ⟨by rw [← hN]; exact g.next, fun n k => by rw [g.get n (by rw [hN]; exact k), hg]⟩
  have hG : Grow W W := Grow.refl (by rw [hW]; exact Nat.le_refl _)
  rw [← hW]
  have hlen := hS.len
  refine Ok.seq ?_
  refine Ok.region ?_
  refine OkO.assign rfl rfl ?_
  refine OkO.nil ?_
  refine Ok.seq ?_
  refine Ok.seq ?_
  refine Ok.region ?_
  refine OkO.move rfl rfl ?_
  refine OkO.builtin rfl rfl rfl (bln (by kernel_rfl) (by first | assumption | rfl)) ?_
  refine OkO.bin rfl rfl rfl (bin_gtr _ _) ?_
  refine OkO.nil ?_
  refine Ok.cond rfl (fun h1 => ?_) (fun h1 => ?_)
  · -- yes h1
    have h10 : (10 : Int) < (l.length : Int) := by simpa using h1
    refine Ok.seq ?_
    refine Ok.region ?_
    refine OkO.assign rfl rfl ?_
    refine OkO.nil ?_
    refine Ok.ret ⟨.inr rfl, ?_⟩
    exact back_flat rfl (congrArg I ((seasErr3 (.inl h10)).symm)) rfl (by rw [← hW]; exact (by (try dsimp only); repeat (first | exact hg | exact hG | apply Grow.new | (refine Grow.put ?_ _ (by first | omega | (simp only [hNw, hPt]; omega))))))
  · -- no h1
    have h10 : (l.length : Int) ≤ 10 := by (have h9 : ¬ (10 : Int) < (l.length : Int) := by simpa using h1); omega
    refine Ok.skip ?_
    refine Ok.seq ?_
    refine Ok.seq ?_
    refine Ok.region ?_
    refine OkO.assign rfl rfl ?_
    refine OkO.nil ?_
    refine Ok.block ?_
    refine Ok.loop (fun n s => ∃ i : Nat, n = l.length - i ∧ i ≤ l.length ∧ (∀ (j : Nat) (hj : j < l.length), j < i → l[j].short = true) ∧ Has 6 [(0, v), (3, I (i : Int))] s.T ∧ s.D = [] ∧ Grow W s.H) (l.length) (by unfold loopFuel; omega)
      ⟨0, rfl, Nat.zero_le _, nofun, Has.of (by kernel_rfl), rfl, hG⟩ ?_
    rintro n ⟨T, D, G⟩ ⟨i, hn, hi, hall, ⟨f, hT⟩, hD, hg⟩
    dsimp only at *
    subst hT hD
    have hgn := hg.next
    refine Ok.seq ?_
    refine Ok.seq ?_
    refine Ok.region ?_
    refine OkO.move rfl rfl ?_
    refine OkO.move rfl rfl ?_
    refine OkO.builtin rfl rfl rfl (bln (by kernel_rfl) (by first | assumption | rfl)) ?_
    refine OkO.bin rfl rfl rfl (bin_lss _ _) ?_
    refine OkO.nil ?_
    refine Ok.cond rfl (fun h2 => ?_) (fun h2 => ?_)
    · -- yes h2
      have hlt : i < l.length := by simpa using h2
      obtain ⟨x, bb, off, cs, i1, i2, i3, i4, i5, i6, i7⟩ := (hS.ext (hE _ (by (try dsimp only); repeat (first | exact hg | exact hG | apply Grow.new | (refine Grow.put ?_ _ (by first | omega | (simp only [hNw, hPt]; omega))))))).at_ i hlt
      have hxl := i7.len
      refine Ok.skip ?_
      refine Ok.seq ?_
      refine Ok.block ?_
      refine Ok.seq ?_
      refine Ok.region ?_
      refine OkO.move rfl rfl ?_
      refine OkO.move rfl rfl ?_
      refine OkO.index (sz := 2) rfl rfl rfl (by kernel_rfl) (by first | assumption | rfl | exact slAt_slice (by omega) | exact slAt_opn (by omega)) ?_ -- index ('Go.Operand.tmp', 15) ('Go.Operand.tmp', 16)
      refine OkO.fieldAddr (o := 0) rfl (by kernel_rfl) rfl ?_
      refine OkO.load rfl rfl (lda (n := 1) (by kernel_rfl) (by first | assumption | (simp (disch := first | omega | (simp only [hNw, hPt]; omega)) only [gn0, gn1, gn2, gn3, gn4, gn5, gp0, gno, gpo] <;> first | rfl | assumption | exact gp0 _ _ _ | exact gn0 _ _)) (by first | rfl | assumption)) ?_
      refine OkO.builtin rfl rfl rfl (bln (by kernel_rfl) (by first | assumption | rfl)) ?_
      refine OkO.bin rfl rfl rfl (bin_gtr _ _) ?_
      refine OkO.nil ?_
      refine Ok.cond rfl (fun h3 => ?_) (fun h3 => ?_)
      · -- yes h3
        have h9 : (60 : Int) < (l[i].sp.length : Int) := by simpa using h3
        refine Ok.seq ?_
        refine Ok.region ?_
        refine OkO.assign rfl rfl ?_
        refine OkO.nil ?_
        refine Ok.ret ⟨.inr rfl, ?_⟩
        exact back_flat rfl (congrArg I ((seasErr3 (.inr ⟨l[i], List.getElem_mem hlt, by unfold Sea.short; rw [decide_eq_false_iff_not]; omega⟩)).symm)) rfl (by rw [← hW]; exact (by (try dsimp only); repeat (first | exact hg | exact hG | apply Grow.new | (refine Grow.put ?_ _ (by first | omega | (simp only [hNw, hPt]; omega))))))
      · -- no h3
        refine Ok.skip ?_
        refine Ok.region ?_
        refine OkO.move rfl rfl ?_
        refine OkO.bin rfl rfl rfl (bin_add (by omega) (by omega)) ?_
        refine OkO.assign rfl rfl ?_
        refine OkO.nil ?_
        refine ⟨l.length - (i + 1), by omega, i + 1, rfl, hlt, fun j hj hji => ?_, Has.of (by kernel_rfl), rfl, hg⟩
        by_cases e : j = i
        · subst e; unfold Sea.short; rw [decide_eq_true_eq]; have h9 : ¬ (60 : Int) < (l[j].sp.length : Int) := by simpa using h3
          omega
        · exact hall j hj (by omega)
    · -- no h2
      have hge : i = l.length := by simp at h2; omega
      refine Ok.exit ?_
      refine Ok.seq ?_
      refine Ok.seq ?_
      refine Ok.region ?_
      refine OkO.assign rfl rfl ?_
      refine OkO.nil ?_
      refine Ok.block ?_
      have hsh : ∀ s ∈ l, s.short = true := all_of_get fun j hj => hall j hj (by omega)
      clear hall hn hi hgn
      refine Ok.loop (fun n s => ∃ i : Nat, n = l.length - i ∧ i ≤ l.length ∧ (∀ (j : Nat) (hj : j < l.length), j < i → l[j].fine = true) ∧ Has 6 [(0, v), (4, I (i : Int))] s.T ∧ s.D = [] ∧ Grow W s.H) (l.length) (by unfold loopFuel; omega)
        ⟨0, rfl, Nat.zero_le _, nofun, Has.of (by kernel_rfl), rfl, hg⟩ ?_
      rintro n ⟨T, D, G⟩ ⟨i, hn, hi, hall, ⟨f, hT⟩, hD, hg⟩
      dsimp only at *
      subst hT hD
      have hgn := hg.next
      refine Ok.seq ?_
      refine Ok.seq ?_
      refine Ok.region ?_
      refine OkO.move rfl rfl ?_
      refine OkO.move rfl rfl ?_
      refine OkO.builtin rfl rfl rfl (bln (by kernel_rfl) (by first | assumption | rfl)) ?_
      refine OkO.bin rfl rfl rfl (bin_lss _ _) ?_
      refine OkO.nil ?_
      refine Ok.cond rfl (fun h4 => ?_) (fun h4 => ?_)
      · -- yes h4
        have hlt : i < l.length := by simpa using h4
        have hll9 := hs9 l[i] (List.getElem_mem hlt)
        refine Ok.skip ?_
        refine Ok.seq ?_
        refine Ok.block ?_
        refine Ok.seq ?_
        refine Ok.region ?_
        refine OkO.assign rfl rfl ?_
        refine OkO.nil ?_
        refine Ok.block ?_
        clear hgn
        refine Ok.loop (fun n s => ∃ k : Nat, n = l[i].sp.length - k ∧ k ≤ l[i].sp.length ∧ (∀ (j : Nat) (hj : j < l[i].sp.length), j < k → inB l[i].sp[j] 0 1000 = true) ∧ Has 6 [(0, v), (4, I (i : Int)), (5, I (k : Int))] s.T ∧ s.D = [] ∧ Grow W s.H) (l[i].sp.length) (by unfold loopFuel; omega)
          ⟨0, rfl, Nat.zero_le _, nofun, Has.of (by kernel_rfl), rfl, hg⟩ ?_
        rintro n ⟨T, D, G⟩ ⟨k, hn2, hk, hall2, ⟨f, hT⟩, hD, hg⟩
        dsimp only at *
        subst hT hD
        have hgn := hg.next
        obtain ⟨x, bb, off, cs, i1, i2, i3, i4, i5, i6, i7⟩ := (hS.ext (hE _ (by (try dsimp only); repeat (first | exact hg | exact hG | apply Grow.new | (refine Grow.put ?_ _ (by first | omega | (simp only [hNw, hPt]; omega))))))).at_ i hlt
        have hxl := i7.len
        refine Ok.seq ?_
        refine Ok.seq ?_
        refine Ok.region ?_
        refine OkO.move rfl rfl ?_
        refine OkO.move rfl rfl ?_
        refine OkO.move rfl rfl ?_
        refine OkO.index (sz := 2) rfl rfl rfl (by kernel_rfl) (by first | assumption | rfl | exact slAt_slice (by omega) | exact slAt_opn (by omega)) ?_ -- index ('Go.Operand.tmp', 29) ('Go.Operand.tmp', 30)
        refine OkO.fieldAddr (o := 0) rfl (by kernel_rfl) rfl ?_
        refine OkO.load rfl rfl (lda (n := 1) (by kernel_rfl) (by first | assumption | (simp (disch := first | omega | (simp only [hNw, hPt]; omega)) only [gn0, gn1, gn2, gn3, gn4, gn5, gp0, gno, gpo] <;> first | rfl | assumption | exact gp0 _ _ _ | exact gn0 _ _)) (by first | rfl | assumption)) ?_
        refine OkO.builtin rfl rfl rfl (bln (by kernel_rfl) (by first | assumption | rfl)) ?_
        refine OkO.bin rfl rfl rfl (bin_lss _ _) ?_
        refine OkO.nil ?_
        refine Ok.cond rfl (fun h5 => ?_) (fun h5 => ?_)
        · -- yes h5
          have hkl : k < l[i].sp.length := by simpa using h5
          obtain ⟨b2, off2, cs2, k1, k2, k3, k4⟩ := i7.at' k hkl
          refine Ok.skip ?_
          refine Ok.seq ?_
          refine Ok.block ?_
          refine Ok.seq ?_
          refine Ok.region ?_
          refine OkO.move rfl rfl ?_
          refine OkO.move rfl rfl ?_
          refine OkO.index (sz := 2) rfl rfl rfl (by kernel_rfl) (by first | assumption | rfl | exact slAt_slice (by omega) | exact slAt_opn (by omega)) ?_ -- index ('Go.Operand.tmp', 38) ('Go.Operand.tmp', 39)
          refine OkO.fieldAddr (o := 0) rfl (by kernel_rfl) rfl ?_
          refine OkO.load rfl rfl (lda (n := 1) (by kernel_rfl) (by first | assumption | (simp (disch := first | omega | (simp only [hNw, hPt]; omega)) only [gn0, gn1, gn2, gn3, gn4, gn5, gp0, gno, gpo] <;> first | rfl | assumption | exact gp0 _ _ _ | exact gn0 _ _)) (by first | rfl | assumption)) ?_
          refine OkO.move rfl rfl ?_
          refine OkO.index (sz := 1) rfl rfl rfl (by kernel_rfl) (by first | assumption | rfl | exact slAt_slice (by omega) | exact slAt_opn (by omega)) ?_ -- index ('Go.Operand.tmp', 42) ('Go.Operand.tmp', 43)
          refine OkO.load rfl rfl (lda (n := 1) (by kernel_rfl) (by first | assumption | (simp (disch := first | omega | (simp only [hNw, hPt]; omega)) only [gn0, gn1, gn2, gn3, gn4, gn5, gp0, gno, gpo] <;> first | rfl | assumption | exact gp0 _ _ _ | exact gn0 _ _)) (by first | rfl | assumption)) ?_
          refine OkO.callV rfl rfl rfl rfl rfl (c36 _ _ _ _ _) ?_ -- "sackung/sackungref04.In"
          refine OkO.un rfl rfl rfl ?_
          refine OkO.nil ?_
          refine Ok.cond rfl (fun h6 => ?_) (fun h6 => ?_)
          · -- yes h6
            refine Ok.seq ?_
            refine Ok.region ?_
            refine OkO.assign rfl rfl ?_
            refine OkO.nil ?_
            refine Ok.ret ⟨.inr rfl, ?_⟩
            exact back_flat rfl (congrArg I ((seasErr1 h10 hsh (List.getElem_mem hlt) (fine_no hkl (by simpa using h6))).symm)) rfl (by rw [← hW]; exact (by (try dsimp only); repeat (first | exact hg | exact hG | apply Grow.new | (refine Grow.put ?_ _ (by first | omega | (simp only [hNw, hPt]; omega))))))
          · -- no h6
            refine Ok.skip ?_
            refine Ok.region ?_
            refine OkO.move rfl rfl ?_
            refine OkO.bin rfl rfl rfl (bin_add (by omega) (by omega)) ?_
            refine OkO.assign rfl rfl ?_
            refine OkO.nil ?_
            refine ⟨l[i].sp.length - (k + 1), by omega, k + 1, rfl, hkl, fun j hj hji => ?_, Has.of (by kernel_rfl), rfl, hg⟩
            by_cases e : j = k
            · subst e; simpa using h6
            · exact hall2 j hj (by omega)
        · -- no h5
          have hge2 : k = l[i].sp.length := by simp at h5; omega
          refine Ok.exit ?_
          refine Ok.region ?_
          refine OkO.move rfl rfl ?_
          refine OkO.bin rfl rfl rfl (bin_add (by omega) (by omega)) ?_
          refine OkO.assign rfl rfl ?_
          refine OkO.nil ?_
          refine ⟨l.length - (i + 1), by omega, i + 1, rfl, hlt, fun j hj hji => ?_, Has.of (by kernel_rfl), rfl, hg⟩
          by_cases e : j = i
          · subst e; exact fine_yes fun q hq => hall2 q hq (by omega)
          · exact hall j hj (by omega)
      · -- no h4
        have hge : i = l.length := by simp at h4; omega
        refine Ok.exit ?_
        refine Ok.seq ?_
        refine Ok.region ?_
        refine OkO.assign rfl rfl ?_
        refine OkO.nil ?_
        refine Ok.ret ⟨.inr rfl, ?_⟩
        exact back_flat rfl (congrArg I ((seasErr0 h10 hsh (all_of_get fun j hj => hall j hj (by omega))).symm)) rfl (by rw [← hW]; exact (by (try dsimp only); repeat (first | exact hg | exact hG | apply Grow.new | (refine Grow.put ?_ _ (by first | omega | (simp only [hNw, hPt]; omega))))))
theorem c82r (m : Nat) (v good : AV) (xs : List Int) (r : Bool) (ps : List Bool) (hr : ps.all id = r) (H : Heap) (hR : Row H v 1 (xs.map fun x => [I x])) (hl : xs.length ≤ 1000000) (hp : ps.length = xs.length) (hgood : ∀ (i : Nat) x b, xs[i]? = some x → ps[i]? = some b → CallB m good [I x] H b) :
    RR (m + 1) (.fn 82 [v, good]) H = some (.bool r, H) := by rw [← hr]; exact c82 m v good xs ps H hR hl hp hgood
theorem c95r (m : Nat) (v good : AV) (xs : List (AV × Bool)) (r : Bool) (ps : List Bool) (hr : ps.all id = r) (H : Heap) (hR : Row H v 2 (xs.map fun x => [x.1, .bool x.2])) (hl : xs.length ≤ 1000000) (hp : ps.length = xs.length) (hat : ∀ x ∈ xs, x.1.atom = true) (hgood : ∀ (i : Nat) x b, xs[i]? = some x → ps[i]? = some b → CallB m good [.agg [x.1, .bool x.2]] H b) :
    RR (m + 1) (.fn 95 [v, good]) H = some (.bool r, H) := by rw [← hr]; exact c95 m v good xs ps H hR hl hp hat hgood
theorem c97 (m : Nat) (sv : AV) (s : Sea) (H : Heap) (hU : Ints H sv s.sp) (hl : s.sp.length ≤ 1000000) : RR (m + 3) (.fn 97 [.agg [sv, .bool s.fell]]) H = some (.bool s.fine, H) := by
  refine (R_fn _ _ _ _ _).trans ?_
  refine fn_ok Try.func97 rfl rfl (by kernel_rfl) (by kernel_rfl) ?_
  obtain ⟨W, hW⟩ : ∃ W : Heap, W = ⟨H.t, H.next, H.next⟩ := ⟨_, rfl⟩
  have hg : ∀ n, W.get n = H.get n := fun n => by rw [hW]; rfl
  have hN : W.next = H.next := by rw [hW]
  have hE : ∀ G, Grow W G → Ext H G := fun G g => ⟨by rw [← hN]; exact g.next, fun n k => by rw [g.get n (by rw [hN]; exact k), hg]⟩
  have hG : Grow W W := Grow.refl (by rw [hW]; exact Nat.le_refl _)
  rw [← hW]
  have pb : sv.plain = true := lpl hU.len
  refine Ok.seq ?_
  refine Ok.region ?_
  refine OkO.box rfl rfl ?_
  refine OkO.assign rfl rfl ?_
  refine OkO.nil ?_
  refine Ok.seq ?_
  refine Ok.region ?_
  refine OkO.fieldAddr (o := 0) rfl (by kernel_rfl) rfl ?_
  refine OkO.load rfl rfl (lda (n := 1) (by kernel_rfl) (by first | assumption | (simp (disch := first | omega | (simp only [hNw, hPt]; omega)) only [gn0, gn1, gn2, gn3, gn4, gn5, gp0, gno, gpo] <;> first | rfl | assumption | exact gp0 _ _ _ | exact gn0 _ _)) (by first | rfl | assumption)) ?_
  refine OkO.buildArr (z := [.int .i64 0, .int .i64 0]) (sz := 1) rfl (by kernel_rfl) rfl rfl ?_
  refine OkO.makeFunc rfl rfl rfl ?_
  refine OkO.callV rfl rfl rfl rfl rfl (c82r (m + 1) sv (.fn 68 [.agg [I 0, I 1000]] []) s.sp s.fine (s.sp.map fun x => inB x 0 1000) (by simp [Sea.fine, List.all_map]) _ (hU.ext (hE _ (by (try dsimp only); repeat (first | exact hG | apply Grow.new | (refine Grow.put ?_ _ (by first | omega | (simp only [hNw, hPt]; omega))))))) hl (by simp) (fun i x b9 h1 h2 => ⟨68, [.agg [I 0, I 1000], I x], rfl, fun G _ => by rw [List.getElem?_map, h1] at h2; cases h2; exact c68 _ 0 1000 x G⟩)) ?_ -- "sackung/alarm.all[int]"
  refine OkO.assign rfl rfl ?_
  refine OkO.nil ?_
  refine Ok.ret ⟨.inr rfl, ?_⟩
  exact back_flat rfl rfl rfl (by rw [← hW]; exact (by (try dsimp only); repeat (first | exact hG | apply Grow.new | (refine Grow.put ?_ _ (by first | omega | (simp only [hNw, hPt]; omega))))))
/-- Seasons whose lists may stand in cells. -/
def SeasG (H : Heap) (v : AV) (l : List Sea) : Prop := ∃ vs : List AV, vs.length = l.length ∧ Row H v 2 ((vs.zip l).map fun p => [p.1, .bool p.2.fell]) ∧ (∀ x ∈ vs, x.atom = true) ∧ ∀ (i : Nat) (x : AV) (s : Sea), vs[i]? = some x → l[i]? = some s → Ints H x s.sp
theorem SeasG.at {H : Heap} {v : AV} {l : List Sea} (h : SeasG H v l) : SeasAt H v l := let ⟨vs, h1, h2, _, h3⟩ := h; ⟨vs, h1, h2, h3⟩
theorem SeasG.ext {H G : Heap} {v : AV} {l : List Sea} (h : SeasG H v l) (g : Ext H G) : SeasG G v l := let ⟨vs, h1, h2, h4, h3⟩ := h; ⟨vs, h1, h2.ext g, h4, fun i x s a b => (h3 i x s a b).ext g⟩
theorem SeasM.g {k0 : Nat} {G : Heap} {v : AV} {l : List Sea} (h : SeasM k0 G v l) : SeasG G v l := by
  obtain ⟨vs, h1, h2, h3⟩ := h
  refine ⟨vs, h1, Mine.row (by rw [← seaCells_zip]; exact h2) (fun x hx => by obtain ⟨y, _, rfl⟩ := List.mem_map.1 hx; rfl) (by omega), fun x hx => ?_, fun i x s a b => (h3 i x s a b).ints⟩
  obtain ⟨i, hi, rfl⟩ := List.mem_iff_getElem.1 hx
  exact (h3 i vs[i] (l[i]'(by omega)) (List.getElem?_eq_getElem hi) (List.getElem?_eq_getElem (by omega))).one.2
/-- A slice of one struct that was just built. -/
theorem Row.lit {G : Heap} {b sz : Nat} {cs : List AV} {ty : TypeId} (h : G.get b = some (.cells cs ty)) (hb : b < G.next) (hl : cs.length = sz) : Row G (.slice b 0 1 1) sz [cs] := by
  refine ⟨rfl, fun i x k => ?_⟩
  cases i with
  | zero =>
    cases k
    refine ⟨b, 0, cs, by simp [slAt], by rw [h]; rfl, ?_, hb⟩
    unfold seg
    simp only [List.drop_zero, ← hl, List.take_length]
    rw [show Nat.beq cs.length cs.length = true from by simp]
  | succ i => simp at k
theorem SeasAt.one {G : Heap} {b : Nat} {x : AV} {s : Sea} {ty : TypeId} (h : G.get b = some (.cells [x, .bool s.fell] ty)) (hb : b < G.next) (hU : Ints G x s.sp) : SeasAt G (.slice b 0 1 1) [s] :=
  ⟨[x], rfl, Row.lit h hb rfl, fun i y t a c => by cases i with
    | zero => cases a; cases c; exact hU
    | succ i => simp at a⟩
theorem SeasG.one {G : Heap} {b : Nat} {x : AV} {s : Sea} {ty : TypeId} (h : G.get b = some (.cells [x, .bool s.fell] ty)) (hb : b < G.next) (hx : x.atom = true) (hU : Ints G x s.sp) : SeasG G (.slice b 0 1 1) [s] :=
  ⟨[x], rfl, Row.lit h hb rfl, fun y hy => by simp at hy; rw [hy]; exact hx, fun i y t a c => by cases i with
    | zero => cases a; cases c; exact hU
    | succ i => simp at a⟩
theorem c74 (m : Nat) (v : AV) (l : List Sea) (H : Heap) (hS : SeasG H v l) (hl9 : l.length ≤ 100000) (hs9 : ∀ s ∈ l, s.sp.length ≤ 100000) : RR (m + 6) (.fn 74 [v]) H = some (I (seasErr l), H) := by
  refine (R_fn _ _ _ _ _).trans ?_
  refine fn_ok Try.func74 rfl rfl (by kernel_rfl) (by kernel_rfl) ?_
  obtain ⟨W, hW⟩ : ∃ W : Heap, W = ⟨H.t, H.next, H.next⟩ := ⟨_, rfl⟩
  have hg : ∀ n, W.get n = H.get n := fun n => by rw [hW]; rfl
  have hN : W.next = H.next := by rw [hW]
  have hE : ∀ G, Grow W G → Ext H G := fun G g => ⟨by rw [← hN]; exact g.next, fun n k => by rw [g.get n (by rw [hN]; exact k), hg]⟩
  have hG : Grow W W := Grow.refl (by rw [hW]; exact Nat.le_refl _)
  rw [← hW]
  have hlen := hS.at.len
  obtain ⟨vs, h1, h2r, hat0, h3⟩ := hS
  have hrow : Row H v 2 (((vs.zip l).map fun p => (p.1, p.2.fell)).map fun x => [x.1, .bool x.2]) := by
    rw [List.map_map]
    exact h2r
  have hat : ∀ x ∈ (vs.zip l).map (fun p => (p.1, p.2.fell)), x.1.atom = true := by
    intro x hx
    obtain ⟨p, hp, rfl⟩ := List.mem_map.1 hx
    obtain ⟨i, hi, rfl⟩ := List.mem_iff_getElem.1 hp
    have h9 : i < min vs.length l.length := by simpa using hi
    have h8 := List.getElem?_zip_eq_some.1 (List.getElem?_eq_getElem hi)
    exact hat0 _ (List.mem_of_getElem? h8.1)
  have hgd96 : ∀ (i : Nat) (x : AV × Bool) (b9 : Bool), ((vs.zip l).map fun p => (p.1, p.2.fell))[i]? = some x → (l.map Sea.short)[i]? = some b9 → ∀ G, Ext H G → CallB (m + 4) (.fn 96 [] []) [.agg [x.1, .bool x.2]] G b9 := by
    intro i x b9 q1 q2 G hGx
    rw [List.getElem?_map, Option.map_eq_some_iff] at q1 q2
    obtain ⟨p, q3, rfl⟩ := q1
    obtain ⟨s, q4, rfl⟩ := q2
    rw [List.getElem?_zip_eq_some] at q3
    rw [q3.2] at q4
    cases q4
    exact ⟨96, [.agg [p.1, .bool p.2.fell]], rfl, fun G9 hx => c96 (m + 3) p.1 p.2 G9 (h3 i _ _ q3.1 q3.2).len⟩
  have hgd97 : ∀ (i : Nat) (x : AV × Bool) (b9 : Bool), ((vs.zip l).map fun p => (p.1, p.2.fell))[i]? = some x → (l.map Sea.fine)[i]? = some b9 → ∀ G, Ext H G → CallB (m + 4) (.fn 97 [] []) [.agg [x.1, .bool x.2]] G b9 := by
    intro i x b9 q1 q2 G hGx
    rw [List.getElem?_map, Option.map_eq_some_iff] at q1 q2
    obtain ⟨p, q3, rfl⟩ := q1
    obtain ⟨s, q4, rfl⟩ := q2
    rw [List.getElem?_zip_eq_some] at q3
    rw [q3.2] at q4
    cases q4
    exact ⟨97, [.agg [p.1, .bool p.2.fell]], rfl, fun G9 hx => c97 (m + 1) p.1 p.2 G9 ((h3 i _ _ q3.1 q3.2).ext (hGx.trans hx)) (by have := hs9 p.2 (List.mem_of_getElem? q3.2); omega)⟩
  refine Ok.seq ?_
  refine Ok.region ?_
  refine OkO.assign rfl rfl ?_
  refine OkO.nil ?_
  refine Ok.seq ?_
  refine Ok.seq ?_
  refine Ok.region ?_
  refine OkO.move rfl rfl ?_
  refine OkO.builtin rfl rfl rfl (bln (by kernel_rfl) (by first | assumption | rfl)) ?_
  refine OkO.bin rfl rfl rfl (bin_gtr _ _) ?_
  refine OkO.move rfl rfl ?_
  refine OkO.split (d := 6) rfl (fun g1 => ?_) (fun g1 => ?_)
  · -- true g1
    refine OkO.skip rfl ?_
    refine OkO.skip rfl ?_
    refine OkO.skip rfl ?_
    refine OkO.pick (b := true) rfl rfl (fun _ => rfl) nofun ?_
    refine OkO.nil ?_
    refine Ok.condT rfl ?_
    refine Ok.seq ?_
    refine Ok.region ?_
    refine OkO.assign rfl rfl ?_
    refine OkO.nil ?_
    refine Ok.ret ⟨.inr rfl, ?_⟩
    exact back_flat rfl (congrArg I ((seasErr3 (.inl (by simpa using g1))).symm)) rfl (by rw [← hW]; exact (by (try dsimp only); repeat (first | exact hg | exact hG | apply Grow.new | (refine Grow.put ?_ _ (by first | omega | (simp only [hNw, hPt]; omega))))))
  · -- false g1
    refine OkO.move rfl rfl ?_
    refine OkO.callV rfl rfl rfl rfl rfl (c95r (m + 4) v (.fn 96 [] []) ((vs.zip l).map fun p => (p.1, p.2.fell)) (l.all Sea.short) (l.map Sea.short) (by rw [List.all_map]; rfl) _ (hrow.ext (hE _ (by (try dsimp only); repeat (first | exact hg | exact hG | apply Grow.new | (refine Grow.put ?_ _ (by first | omega | (simp only [hNw, hPt]; omega))))))) (by simp; omega) (by simp; omega) hat (fun i x b9 q1 q2 => hgd96 i x b9 q1 q2 _ (hE _ (by (try dsimp only); repeat (first | exact hg | exact hG | apply Grow.new | (refine Grow.put ?_ _ (by first | omega | (simp only [hNw, hPt]; omega)))))))) ?_ -- "sackung/alarm.all[sackung/alarm.Season]"
    refine OkO.un rfl rfl rfl ?_
    refine OkO.pick (b := false) rfl rfl nofun (fun _ => rfl) ?_
    refine OkO.nil ?_
    refine Ok.cond rfl (fun h2 => ?_) (fun h2 => ?_)
    · -- yes h2
      have hns : l.all Sea.short = false := by simpa using h2
      refine Ok.seq ?_
      refine Ok.region ?_
      refine OkO.assign rfl rfl ?_
      refine OkO.nil ?_
      refine Ok.ret ⟨.inr rfl, ?_⟩
      exact back_flat rfl (congrArg I ((seasErr3 (.inr (by obtain ⟨s, s1, s2⟩ := List.all_eq_false.1 hns; exact ⟨s, s1, by simpa using s2⟩))).symm)) rfl (by rw [← hW]; exact (by (try dsimp only); repeat (first | exact hg | exact hG | apply Grow.new | (refine Grow.put ?_ _ (by first | omega | (simp only [hNw, hPt]; omega))))))
    · -- no h2
      refine Ok.skip ?_
      refine Ok.seq ?_
      refine Ok.seq ?_
      refine Ok.region ?_
      refine OkO.move rfl rfl ?_
      refine OkO.callV rfl rfl rfl rfl rfl (c95r (m + 4) v (.fn 97 [] []) ((vs.zip l).map fun p => (p.1, p.2.fell)) (l.all Sea.fine) (l.map Sea.fine) (by rw [List.all_map]; rfl) _ (hrow.ext (hE _ (by (try dsimp only); repeat (first | exact hg | exact hG | apply Grow.new | (refine Grow.put ?_ _ (by first | omega | (simp only [hNw, hPt]; omega))))))) (by simp; omega) (by simp; omega) hat (fun i x b9 q1 q2 => hgd97 i x b9 q1 q2 _ (hE _ (by (try dsimp only); repeat (first | exact hg | exact hG | apply Grow.new | (refine Grow.put ?_ _ (by first | omega | (simp only [hNw, hPt]; omega)))))))) ?_ -- "sackung/alarm.all[sackung/alarm.Season]"
      refine OkO.un rfl rfl rfl ?_
      refine OkO.nil ?_
      refine Ok.cond rfl (fun h3 => ?_) (fun h3 => ?_)
      · -- yes h3
        have hns : l.all Sea.fine = false := by simpa using h3
        refine Ok.seq ?_
        refine Ok.region ?_
        refine OkO.assign rfl rfl ?_
        refine OkO.nil ?_
        refine Ok.ret ⟨.inr rfl, ?_⟩
        exact back_flat rfl (congrArg I (Eq.symm (by obtain ⟨s, s1, s2⟩ := List.all_eq_false.1 hns; exact seasErr1 (by simpa using g1) (List.all_eq_true.1 (by simpa using h2)) s1 (by simpa using s2)))) rfl (by rw [← hW]; exact (by (try dsimp only); repeat (first | exact hg | exact hG | apply Grow.new | (refine Grow.put ?_ _ (by first | omega | (simp only [hNw, hPt]; omega))))))
      · -- no h3
        refine Ok.skip ?_
        refine Ok.seq ?_
        refine Ok.region ?_
        refine OkO.assign rfl rfl ?_
        refine OkO.nil ?_
        refine Ok.ret ⟨.inr rfl, ?_⟩
        exact back_flat rfl (congrArg I ((seasErr0 (by simpa using g1) (List.all_eq_true.1 (by simpa using h2)) (List.all_eq_true.1 (by simpa using h3))).symm)) rfl (by rw [← hW]; exact (by (try dsimp only); repeat (first | exact hg | exact hG | apply Grow.new | (refine Grow.put ?_ _ (by first | omega | (simp only [hNw, hPt]; omega))))))
end
end Go.Ev

set_option maxRecDepth 100000
set_option linter.unusedSimpArgs false
set_option linter.unusedVariables false
namespace Go.Ev
open Go Go.Proofs
noncomputable section
def termErr (l : List Sea) (t : Trm) : Int := if seasErr l ≠ 0 then seasErr l else if (l.length : Int) = 0 then 1 else if t.ok = true then 0 else 2
def shortL (l : List Sea) : Bool := decide ((l.length : Int) ≤ 12) && (l.take 13).all fun s => decide ((s.sp.length : Int) ≤ 65)
theorem shortL_facts {l : List Sea} (h : shortL l = true) : l.length ≤ 12 ∧ ∀ s ∈ l, s.sp.length ≤ 65 := by
  unfold shortL at h
  rw [Bool.and_eq_true, decide_eq_true_eq, List.all_eq_true] at h
  refine ⟨by omega, fun s hs => ?_⟩
  have := h.2 s (by rw [List.take_of_length_le (by omega)]; exact hs)
  rw [decide_eq_true_eq] at this
  omega
theorem SeasM.snoc {k0 : Nat} {G : Heap} {ov x : AV} {l : List Sea} {s : Sea} (h : SeasM k0 G ov l) (hx : Mine k0 G x 3 1 (s.sp.map I)) : ∃ cs, Mine k0 G ov 66 2 cs ∧ cs.length = l.length * 2 ∧ ∀ v2 G2, Mine k0 G2 v2 66 2 (cs ++ [x, .bool s.fell]) → G.next ≤ G2.next → (∀ j, j < G.next → (∀ m, ov ≠ .opn j m) → G2.get j = G.get j) → SeasM k0 G2 v2 (l ++ [s]) := by
  obtain ⟨vs, h1, h2, h3⟩ := h
  refine ⟨_, h2, seaCells_len vs l h1, fun v2 G2 k1 k2 k3 => ⟨vs ++ [x], by simp [h1], by rw [seaCells_snoc _ _ _ _ h1]; exact k1, fun i y t a c => ?_⟩⟩
  by_cases hi : i < vs.length
  · rw [List.getElem?_append_left hi] at a
    rw [List.getElem?_append_left (by omega)] at c
    exact (h3 i y t a c).offE h2 (.inr (by omega)) k2 k3
  · by_cases hi2 : i = vs.length
    · subst hi2
      rw [List.getElem?_append_right (Nat.le_refl _)] at a
      rw [List.getElem?_append_right (by omega), h1] at c
      simp at a c
      subst a c
      exact hx.offE h2 (.inr (by omega)) k2 k3
    · rw [List.getElem?_eq_none (by simp; omega)] at a; cases a
theorem c43 (m : Nat) (v : AV) (l : List Sea) (H : Heap) (hS : SeasAt H v l) : RR (m + 1) (.fn 43 [v]) H = some (.bool (shortL l), H) := by
  refine (R_fn _ _ _ _ _).trans ?_
  refine fn_ok Try.func43 rfl rfl (by kernel_rfl) (by kernel_rfl) ?_
  obtain ⟨W, hW⟩ : ∃ W : Heap, W = ⟨H.t, H.next, H.next⟩ := ⟨_, rfl⟩
  have hg : ∀ n, W.get n = H.get n := fun n => by rw [hW]; rfl
  have hN : W.next = H.next := by rw [hW]
  have hE : ∀ G, Grow W G → Ext H G := fun G g => ⟨by rw [← hN]; exact g.next, fun n k => by rw [g.get n (by rw [hN]; exact k), hg]⟩
  have hG : Grow W W := Grow.refl (by rw [hW]; exact Nat.le_refl _)
  rw [← hW]
  have hlen := hS.len
  refine Ok.seq ?_
  refine Ok.region ?_
  refine OkO.assign rfl rfl ?_
  refine OkO.nil ?_
  refine Ok.seq ?_
  refine Ok.seq ?_
  refine Ok.region ?_
  refine OkO.assign rfl rfl ?_
  refine OkO.nil ?_
  refine Ok.block ?_
  refine Ok.loop (fun n s => ∃ i : Nat, n = 14 - i ∧ i ≤ l.length ∧ (∀ (j : Nat) (hj : j < l.length), j < i → decide ((l[j].sp.length : Int) ≤ 65) = true) ∧ i ≤ 13 ∧ Has 5 [(0, v), (3, I (i : Int))] s.T ∧ s.D = [] ∧ Grow W s.H) (14) (by unfold loopFuel; omega)
    ⟨0, rfl, Nat.zero_le _, nofun, by omega, Has.of (by kernel_rfl), rfl, hG⟩ ?_
  rintro n ⟨T, D, G⟩ ⟨i, hn, hi, hall, hi13, ⟨f, hT⟩, hD, hg⟩
  dsimp only at *
  subst hT hD
  have hgn := hg.next
  refine Ok.seq ?_
  refine Ok.seq ?_
  refine Ok.region ?_
  refine OkO.move rfl rfl ?_
  refine OkO.move rfl rfl ?_
  refine OkO.builtin rfl rfl rfl (bln (by kernel_rfl) (by first | assumption | rfl)) ?_
  refine OkO.bin rfl rfl rfl (bin_lss _ _) ?_
  refine OkO.move rfl rfl ?_
  refine OkO.split (d := 8) rfl (fun g1 => ?_) (fun g1 => ?_)
  · -- true g1
    have hlt : i < l.length := by simpa using g1
    refine OkO.move rfl rfl ?_
    refine OkO.bin rfl rfl rfl (bin_lss _ _) ?_
    refine OkO.pick (b := true) rfl rfl (fun _ => rfl) nofun ?_
    refine OkO.nil ?_
    refine Ok.cond rfl (fun h2 => ?_) (fun h2 => ?_)
    · -- yes h2
      have hi2 : (i : Int) < 13 := by simpa using h2
      obtain ⟨x, bb, off, cs, i1, i2, i3, i4, i5, i6, i7⟩ := (hS.ext (hE _ (by (try dsimp only); repeat (first | exact hg | exact hG | apply Grow.new | (refine Grow.put ?_ _ (by first | omega | (simp only [hNw, hPt]; omega))))))).at_ i hlt
      have hxl := i7.len
      refine Ok.skip ?_
      refine Ok.seq ?_
      refine Ok.block ?_
      refine Ok.seq ?_
      refine Ok.region ?_
      refine OkO.move rfl rfl ?_
      refine OkO.move rfl rfl ?_
      refine OkO.index (sz := 2) rfl rfl rfl (by kernel_rfl) (by first | assumption | rfl | exact slAt_slice (by omega) | exact slAt_opn (by omega)) ?_ -- index ('Go.Operand.tmp', 14) ('Go.Operand.tmp', 15)
      refine OkO.fieldAddr (o := 0) rfl (by kernel_rfl) rfl ?_
      refine OkO.load rfl rfl (lda (n := 1) (by kernel_rfl) (by first | assumption | (simp (disch := first | omega | (simp only [hNw, hPt]; omega)) only [gn0, gn1, gn2, gn3, gn4, gn5, gp0, gno, gpo] <;> first | rfl | assumption | exact gp0 _ _ _ | exact gn0 _ _)) (by first | rfl | assumption)) ?_
      refine OkO.builtin rfl rfl rfl (bln (by kernel_rfl) (by first | assumption | rfl)) ?_
      refine OkO.bin rfl rfl rfl (bin_gtr _ _) ?_
      refine OkO.nil ?_
      refine Ok.cond rfl (fun h3 => ?_) (fun h3 => ?_)
      · -- yes h3
        have h9 : (65 : Int) < (l[i].sp.length : Int) := by simpa using h3
        refine Ok.seq ?_
        refine Ok.region ?_
        refine OkO.assign rfl rfl ?_
        refine OkO.nil ?_
        refine Ok.ret ⟨.inr rfl, ?_⟩
        exact back_flat rfl (congrArg AV.bool (by symm; unfold shortL; rw [Bool.and_eq_false_iff]; exact .inr (List.all_eq_false.2 ⟨l[i], List.mem_of_getElem? (i := i) (by rw [List.getElem?_take, if_pos (by omega)]; exact List.getElem?_eq_getElem hlt), by rw [decide_eq_true_eq]; omega⟩))) rfl (by rw [← hW]; exact (by (try dsimp only); repeat (first | exact hg | exact hG | apply Grow.new | (refine Grow.put ?_ _ (by first | omega | (simp only [hNw, hPt]; omega))))))
      · -- no h3
        refine Ok.skip ?_
        refine Ok.region ?_
        refine OkO.move rfl rfl ?_
        refine OkO.bin rfl rfl rfl (bin_add (by omega) (by omega)) ?_
        refine OkO.assign rfl rfl ?_
        refine OkO.nil ?_
        refine ⟨14 - (i + 1), by omega, i + 1, rfl, hlt, fun j hj hji => ?_, by omega, Has.of (by kernel_rfl), rfl, hg⟩
        by_cases e : j = i
        · subst e; have h9 : ¬ (65 : Int) < (l[j].sp.length : Int) := by simpa using h3
          rw [decide_eq_true_eq]; omega
        · exact hall j hj (by omega)
    · -- no h2
      have hi2 : ¬ (i : Int) < 13 := by simpa using h2
      refine Ok.exit ?_
      refine Ok.seq ?_
      refine Ok.region ?_
      refine OkO.move rfl rfl ?_
      refine OkO.builtin rfl rfl rfl (bln (by kernel_rfl) (by first | assumption | rfl)) ?_
      refine OkO.bin rfl rfl rfl (bin_leq _ _) ?_
      refine OkO.assign rfl rfl ?_
      refine OkO.nil ?_
      refine Ok.ret ⟨.inr rfl, ?_⟩
      exact back_flat rfl (congrArg AV.bool (by symm; unfold shortL; rw [show decide ((l.length : Int) ≤ 12) = false from (by rw [decide_eq_false_iff_not]; omega), Bool.false_and])) rfl (by rw [← hW]; exact (by (try dsimp only); repeat (first | exact hg | exact hG | apply Grow.new | (refine Grow.put ?_ _ (by first | omega | (simp only [hNw, hPt]; omega))))))
  · -- false g1
    have hge : i = l.length := by simp at g1; omega
    refine OkO.skip rfl ?_
    refine OkO.skip rfl ?_
    refine OkO.pick (b := false) rfl rfl nofun (fun _ => rfl) ?_
    refine OkO.nil ?_
    refine Ok.condF rfl ?_
    refine Ok.exit ?_
    refine Ok.seq ?_
    refine Ok.region ?_
    refine OkO.move rfl rfl ?_
    refine OkO.builtin rfl rfl rfl (bln (by kernel_rfl) (by first | assumption | rfl)) ?_
    refine OkO.bin rfl rfl rfl (bin_leq _ _) ?_
    refine OkO.assign rfl rfl ?_
    refine OkO.nil ?_
    refine Ok.ret ⟨.inr rfl, ?_⟩
    exact back_flat rfl (congrArg AV.bool (by symm; unfold shortL; rw [show ((l.take 13).all fun s => decide ((s.sp.length : Int) ≤ 65)) = true from (by rw [List.all_eq_true]; intro s hs; obtain ⟨j, hj, rfl⟩ := List.mem_iff_getElem.1 hs; rw [List.getElem_take]; exact hall j (by simp at hj; omega) (by simp at hj; omega)), Bool.and_true])) rfl (by rw [← hW]; exact (by (try dsimp only); repeat (first | exact hg | exact hG | apply Grow.new | (refine Grow.put ?_ _ (by first | omega | (simp only [hNw, hPt]; omega))))))
theorem c77 (m : Nat) (v : AV) (l : List Sea) (t : Trm) (H : Heap) (hS : SeasG H v l) (hl9 : l.length ≤ 100000) (hs9 : ∀ s ∈ l, s.sp.length ≤ 100000) : RR (m + 7) (.fn 77 [v, .agg t.c]) H = some (I (termErr l t), H) := by
  refine (R_fn _ _ _ _ _).trans ?_
  refine fn_ok Try.func77 rfl rfl (by kernel_rfl) (by kernel_rfl) ?_
  obtain ⟨W, hW⟩ : ∃ W : Heap, W = ⟨H.t, H.next, H.next⟩ := ⟨_, rfl⟩
  have hg : ∀ n, W.get n = H.get n := fun n => by rw [hW]; rfl
  have hN : W.next = H.next := by rw [hW]
  have hE : ∀ G, Grow W G → Ext H G := fun G g => ⟨by rw [← hN]; exact g.next, fun n k => by rw [g.get n (by rw [hN]; exact k), hg]⟩
  have hG : Grow W W := Grow.refl (by rw [hW]; exact Nat.le_refl _)
  rw [← hW]
  have hlen := hS.at.len
  refine Ok.seq ?_
  refine Ok.region ?_
  refine OkO.box rfl rfl ?_
  refine OkO.assign rfl rfl ?_
  refine OkO.nil ?_
  refine Ok.seq ?_
  refine Ok.seq ?_
  refine Ok.region ?_
  refine OkO.move rfl rfl ?_
  refine OkO.callV rfl rfl rfl rfl rfl (c74 (m + 0) v l _ (hS.ext (hE _ (by (try dsimp only); repeat (first | exact hg | exact hG | apply Grow.new | (refine Grow.put ?_ _ (by first | omega | (simp only [hNw, hPt]; omega))))))) hl9 hs9) ?_ -- "sackung/alarm.checkSeasons"
  refine OkO.assign rfl rfl ?_
  refine OkO.nil ?_
  refine Ok.seq ?_
  refine Ok.region ?_
  refine OkO.move rfl rfl ?_
  refine OkO.bin rfl rfl rfl (bin_neq _ _) ?_
  refine OkO.nil ?_
  refine Ok.cond rfl (fun h1 => ?_) (fun h1 => ?_)
  · -- yes h1
    have e1 : seasErr l ≠ 0 := by simpa using h1
    refine Ok.seq ?_
    refine Ok.region ?_
    refine OkO.move rfl rfl ?_
    refine OkO.assign rfl rfl ?_
    refine OkO.nil ?_
    refine Ok.ret ⟨.inr rfl, ?_⟩
    exact back_flat rfl (congrArg I (by symm; unfold termErr; rw [if_pos e1])) rfl (by rw [← hW]; exact (by (try dsimp only); repeat (first | exact hg | exact hG | apply Grow.new | (refine Grow.put ?_ _ (by first | omega | (simp only [hNw, hPt]; omega))))))
  · -- no h1
    have e1 : ¬ seasErr l ≠ 0 := by simpa using h1
    refine Ok.skip ?_
    refine Ok.seq ?_
    refine Ok.seq ?_
    refine Ok.region ?_
    refine OkO.move rfl rfl ?_
    refine OkO.builtin rfl rfl rfl (bln (by kernel_rfl) (by first | assumption | rfl)) ?_
    refine OkO.bin rfl rfl rfl (bin_eql _ _) ?_
    refine OkO.nil ?_
    refine Ok.cond rfl (fun h2 => ?_) (fun h2 => ?_)
    · -- yes h2
      have e2 : (l.length : Int) = 0 := by simpa using h2
      refine Ok.seq ?_
      refine Ok.region ?_
      refine OkO.assign rfl rfl ?_
      refine OkO.nil ?_
      refine Ok.ret ⟨.inr rfl, ?_⟩
      exact back_flat rfl (congrArg I (by symm; unfold termErr; rw [if_neg e1, if_pos e2])) rfl (by rw [← hW]; exact (by (try dsimp only); repeat (first | exact hg | exact hG | apply Grow.new | (refine Grow.put ?_ _ (by first | omega | (simp only [hNw, hPt]; omega))))))
    · -- no h2
      have e2 : ¬ (l.length : Int) = 0 := by simpa using h2
      refine Ok.skip ?_
      refine Ok.seq ?_
      refine Ok.seq ?_
      refine Ok.region ?_
      refine OkO.load rfl rfl (ldg (n := 5) (by kernel_rfl) (by first | assumption | (simp (disch := first | omega | (simp only [hNw, hPt]; omega)) only [gn0, gn1, gn2, gn3, gn4, gn5, gp0, gno, gpo] <;> first | rfl | assumption | exact gp0 _ _ _ | exact gn0 _ _)) (by first | rfl | assumption)) ?_
      refine OkO.callV rfl rfl rfl rfl rfl (c99 (m + 4) t _) ?_ -- "(sackung/alarm.Terms).valid"
      refine OkO.un rfl rfl rfl ?_
      refine OkO.nil ?_
      refine Ok.cond rfl (fun h3 => ?_) (fun h3 => ?_)
      · -- yes h3
        have e3 : t.ok = false := by simpa using h3
        refine Ok.seq ?_
        refine Ok.region ?_
        refine OkO.assign rfl rfl ?_
        refine OkO.nil ?_
        refine Ok.ret ⟨.inr rfl, ?_⟩
        exact back_flat rfl (congrArg I (by symm; unfold termErr; rw [if_neg e1, if_neg e2, if_neg (by rw [e3]; simp)])) rfl (by rw [← hW]; exact (by (try dsimp only); repeat (first | exact hg | exact hG | apply Grow.new | (refine Grow.put ?_ _ (by first | omega | (simp only [hNw, hPt]; omega))))))
      · -- no h3
        have e3 : t.ok = true := by simpa using h3
        refine Ok.skip ?_
        refine Ok.seq ?_
        refine Ok.region ?_
        refine OkO.assign rfl rfl ?_
        refine OkO.nil ?_
        refine Ok.ret ⟨.inr rfl, ?_⟩
        exact back_flat rfl (congrArg I (by symm; unfold termErr; rw [if_neg e1, if_neg e2, if_pos e3])) rfl (by rw [← hW]; exact (by (try dsimp only); repeat (first | exact hg | exact hG | apply Grow.new | (refine Grow.put ?_ _ (by first | omega | (simp only [hNw, hPt]; omega))))))
theorem c47 (m : Nat) (v : AV) (l : List Sea) (t : Trm) (H : Heap) (hS : SeasAt H v l) (hl9 : l.length ≤ 100000) (hs9 : ∀ s ∈ l, s.sp.length ≤ 100000) : RR (m + 7) (.fn 47 [v, .agg t.c]) H = some (I (termErr l t), H) := by
  refine (R_fn _ _ _ _ _).trans ?_
  refine fn_ok Try.func47 rfl rfl (by kernel_rfl) (by kernel_rfl) ?_
  obtain ⟨W, hW⟩ : ∃ W : Heap, W = ⟨H.t, H.next, H.next⟩ := ⟨_, rfl⟩
  have hg : ∀ n, W.get n = H.get n := fun n => by rw [hW]; rfl
  have hN : W.next = H.next := by rw [hW]
  have hE : ∀ G, Grow W G → Ext H G := fun G g => ⟨by rw [← hN]; exact g.next, fun n k => by rw [g.get n (by rw [hN]; exact k), hg]⟩
  have hG : Grow W W := Grow.refl (by rw [hW]; exact Nat.le_refl _)
  rw [← hW]
  have hlen := hS.len
  refine Ok.seq ?_
  refine Ok.region ?_
  refine OkO.box rfl rfl ?_
  refine OkO.assign rfl rfl ?_
  refine OkO.nil ?_
  refine Ok.seq ?_
  refine Ok.seq ?_
  refine Ok.region ?_
  refine OkO.move rfl rfl ?_
  refine OkO.callV rfl rfl rfl rfl rfl (c40 (m + 4) v l _ (hS.ext (hE _ (by (try dsimp only); repeat (first | exact hg | exact hG | apply Grow.new | (refine Grow.put ?_ _ (by first | omega | (simp only [hNw, hPt]; omega))))))) hl9 hs9) ?_ -- "sackung/sackungref04.SeasonsFault"
  refine OkO.assign rfl rfl ?_
  refine OkO.nil ?_
  refine Ok.seq ?_
  refine Ok.region ?_
  refine OkO.move rfl rfl ?_
  refine OkO.bin rfl rfl rfl (bin_neq _ _) ?_
  refine OkO.nil ?_
  refine Ok.cond rfl (fun h1 => ?_) (fun h1 => ?_)
  · -- yes h1
    have e1 : seasErr l ≠ 0 := by simpa using h1
    refine Ok.seq ?_
    refine Ok.region ?_
    refine OkO.move rfl rfl ?_
    refine OkO.assign rfl rfl ?_
    refine OkO.nil ?_
    refine Ok.ret ⟨.inr rfl, ?_⟩
    exact back_flat rfl (congrArg I (by symm; unfold termErr; rw [if_pos e1])) rfl (by rw [← hW]; exact (by (try dsimp only); repeat (first | exact hg | exact hG | apply Grow.new | (refine Grow.put ?_ _ (by first | omega | (simp only [hNw, hPt]; omega))))))
  · -- no h1
    have e1 : ¬ seasErr l ≠ 0 := by simpa using h1
    refine Ok.skip ?_
    refine Ok.seq ?_
    refine Ok.seq ?_
    refine Ok.region ?_
    refine OkO.move rfl rfl ?_
    refine OkO.builtin rfl rfl rfl (bln (by kernel_rfl) (by first | assumption | rfl)) ?_
    refine OkO.bin rfl rfl rfl (bin_eql _ _) ?_
    refine OkO.nil ?_
    refine Ok.cond rfl (fun h2 => ?_) (fun h2 => ?_)
    · -- yes h2
      have e2 : (l.length : Int) = 0 := by simpa using h2
      refine Ok.seq ?_
      refine Ok.region ?_
      refine OkO.assign rfl rfl ?_
      refine OkO.nil ?_
      refine Ok.ret ⟨.inr rfl, ?_⟩
      exact back_flat rfl (congrArg I (by symm; unfold termErr; rw [if_neg e1, if_pos e2])) rfl (by rw [← hW]; exact (by (try dsimp only); repeat (first | exact hg | exact hG | apply Grow.new | (refine Grow.put ?_ _ (by first | omega | (simp only [hNw, hPt]; omega))))))
    · -- no h2
      have e2 : ¬ (l.length : Int) = 0 := by simpa using h2
      refine Ok.skip ?_
      refine Ok.seq ?_
      refine Ok.seq ?_
      refine Ok.region ?_
      refine OkO.load rfl rfl (ldg (n := 5) (by kernel_rfl) (by first | assumption | (simp (disch := first | omega | (simp only [hNw, hPt]; omega)) only [gn0, gn1, gn2, gn3, gn4, gn5, gp0, gno, gpo] <;> first | rfl | assumption | exact gp0 _ _ _ | exact gn0 _ _)) (by first | rfl | assumption)) ?_
      refine OkO.callV rfl rfl rfl rfl rfl (c79 (m + 4) t _) ?_ -- "sackung/sackungref04.RightTerms"
      refine OkO.un rfl rfl rfl ?_
      refine OkO.nil ?_
      refine Ok.cond rfl (fun h3 => ?_) (fun h3 => ?_)
      · -- yes h3
        have e3 : t.ok = false := by simpa using h3
        refine Ok.seq ?_
        refine Ok.region ?_
        refine OkO.assign rfl rfl ?_
        refine OkO.nil ?_
        refine Ok.ret ⟨.inr rfl, ?_⟩
        exact back_flat rfl (congrArg I (by symm; unfold termErr; rw [if_neg e1, if_neg e2, if_neg (by rw [e3]; simp)])) rfl (by rw [← hW]; exact (by (try dsimp only); repeat (first | exact hg | exact hG | apply Grow.new | (refine Grow.put ?_ _ (by first | omega | (simp only [hNw, hPt]; omega))))))
      · -- no h3
        have e3 : t.ok = true := by simpa using h3
        refine Ok.skip ?_
        refine Ok.seq ?_
        refine Ok.region ?_
        refine OkO.assign rfl rfl ?_
        refine OkO.nil ?_
        refine Ok.ret ⟨.inr rfl, ?_⟩
        exact back_flat rfl (congrArg I (by symm; unfold termErr; rw [if_neg e1, if_neg e2, if_pos e3])) rfl (by rw [← hW]; exact (by (try dsimp only); repeat (first | exact hg | exact hG | apply Grow.new | (refine Grow.put ?_ _ (by first | omega | (simp only [hNw, hPt]; omega))))))
theorem SeasM.backS {H G H' : Heap} {v : AV} {l : List Sea} (h : SeasM H.next G v l) (r : (H' = H ∧ v.flat = true) ∨ ((∀ n, H'.get n = G.get n) ∧ H'.next = G.next)) : SeasM H.next H' v l := by
  rcases r with ⟨rfl, hf⟩ | ⟨h1, h2⟩
  · obtain ⟨vs, a1, a2, a3⟩ := h
    rcases a2 with ⟨rfl, a2⟩ | ⟨b, n, rfl, _⟩
    · cases vs with
      | nil => exact ⟨[], a1, .inl ⟨rfl, by simp [seaCells]⟩, fun i x s h _ => by simp at h⟩
      | cons x vs => cases l with
        | nil => simp at a1
        | cons s l => simp [seaCells] at a2
    · cases hf
  · obtain ⟨vs, a1, a2, a3⟩ := h
    exact ⟨vs, a1, a2.to ⟨by omega, fun n _ => h1 n⟩, fun i x s k1 k2 => (a3 i x s k1 k2).to ⟨by omega, fun n _ => h1 n⟩⟩
theorem c45 (m : Nat) (sv : AV) (l : List Sea) (H : Heap) (hS : SeasAt H sv l) (hl9 : l.length ≤ 100000) (hs9 : ∀ s ∈ l, s.sp.length ≤ 100000) : ∃ v H', RR (m + 3) (.fn 45 [sv]) H = some (v, H') ∧ Ret H H' ∧ SeasM H.next H' v l := by
  show ∃ v H', evFn Try.prog (RR (m + 2)) 45 [sv] H = some (v, H') ∧ Ret H H' ∧ SeasM H.next H' v l
  refine fn_okE Try.func45 rfl rfl (by kernel_rfl) (by kernel_rfl) ?_
  obtain ⟨W, hW⟩ : ∃ W : Heap, W = ⟨H.t, H.next, H.next⟩ := ⟨_, rfl⟩
  have hg : ∀ n, W.get n = H.get n := fun n => by rw [hW]; rfl
  have hN : W.next = H.next := by rw [hW]
  have hE : ∀ G, Grow W G → Ext H G := fun G g => ⟨by rw [← hN]; exact g.next, fun n k => by rw [g.get n (by rw [hN]; exact k), hg]⟩
  have hG : Grow W W := Grow.refl (by rw [hW]; exact Nat.le_refl _)
  rw [← hW]
  have hlen := hS.len
  refine Ok.seq ?_
  refine Ok.region ?_
  refine OkO.assign rfl rfl ?_
  refine OkO.nil ?_
  refine Ok.seq ?_
  refine Ok.region ?_
  refine OkO.assign rfl rfl ?_
  refine OkO.nil ?_
  refine Ok.seq ?_
  refine Ok.seq ?_
  refine Ok.region ?_
  refine OkO.assign rfl rfl ?_
  refine OkO.nil ?_
  refine Ok.block ?_
  refine Ok.loop (fun n s => ∃ i : Nat, n = l.length - i ∧ i ≤ l.length ∧ (∃ ov, SeasM W.next s.H ov (l.take i) ∧ Has 5 [(0, sv), (3, ov), (4, I (i : Int))] s.T) ∧ s.D = [] ∧ Grow W s.H) (l.length) (by unfold loopFuel; omega)
    ⟨0, rfl, Nat.zero_le _, ⟨.nils, SeasM.nil _ _, Has.of (by kernel_rfl)⟩, rfl, hG⟩ ?_
  rintro n ⟨T, D, G⟩ ⟨i, hn, hi, ⟨ov, hm, ⟨f, hT⟩⟩, hD, hg⟩
  dsimp only at *
  subst hT hD
  have hgn := hg.next
  refine Ok.seq ?_
  refine Ok.seq ?_
  refine Ok.region ?_
  refine OkO.move rfl rfl ?_
  refine OkO.move rfl rfl ?_
  refine OkO.builtin rfl rfl rfl (bln (by kernel_rfl) (by first | assumption | rfl)) ?_
  refine OkO.bin rfl rfl rfl (bin_lss _ _) ?_
  refine OkO.nil ?_
  refine Ok.cond rfl (fun h1 => ?_) (fun h1 => ?_)
  · -- yes h1
    have hlt : i < l.length := by simpa using h1
    obtain ⟨x, bb, off, cs, i1, i2, i3, i4, i5, i6, i7⟩ := (hS.ext (hE _ (by (try dsimp only); repeat (first | exact hg | exact hG | apply Grow.new | (refine Grow.put ?_ _ (by first | omega | (simp only [hNw, hPt]; omega))))))).at_ i hlt
    have pb : x.plain = true := lpl i7.len
    refine Ok.skip ?_
    refine Ok.seq ?_
    refine Ok.block ?_
    refine Ok.region ?_
    refine OkO.move rfl rfl ?_
    refine OkO.move rfl rfl ?_
    refine OkO.move rfl rfl ?_
    refine OkO.index (sz := 2) rfl rfl rfl (by kernel_rfl) (by first | assumption | rfl | exact slAt_slice (by omega) | exact slAt_opn (by omega)) ?_ -- index ('Go.Operand.tmp', 12) ('Go.Operand.tmp', 13)
    refine OkO.load rfl rfl (ldg (n := 2) (by kernel_rfl) (by first | assumption | (simp (disch := first | omega | (simp only [hNw, hPt]; omega)) only [gn0, gn1, gn2, gn3, gn4, gn5, gp0, gno, gpo] <;> first | rfl | assumption | exact gp0 _ _ _ | exact gn0 _ _)) (by first | rfl | assumption)) ?_
    refine OkO.callE rfl rfl rfl rfl rfl (c38 m x l[i] _ i7 (by have := hs9 l[i] (List.getElem_mem hlt); omega)) ?_ -- "sackung/sackunglaw04.Season"
    rintro _ H38 ⟨x', rfl, q38, r38⟩
    have g38 : Grow W H38 := Grow.ret (by (try dsimp only); repeat (first | exact hg | exact hG | apply Grow.new | (refine Grow.put ?_ _ (by first | omega | (simp only [hNw, hPt]; omega))))) q38
    have n38 := q38.ext.next
    obtain ⟨cs9, hm9, hcl9, hsn⟩ := SeasM.snoc (s := l[i]) (hm.to q38.ext) (r38.low (by omega))
    obtain ⟨u1, u2⟩ := r38.one
    refine OkO.buildSlice (el := 66) (sz := 2) (z := [.nils, .bool false]) rfl (by kernel_rfl) (by decide) rfl rfl ?_
    refine OkO.builtinE rfl rfl rfl (Mine.app2 (W := W) (k0 := W.next) (t := 84) (u := 84) (sz := 2) (by_ := 32) (e := 66) (n := 1) (new := [x', .bool l[i].fell]) (hm9.to (Grow.toNew _ _)) (g38.new _) (Nat.le_refl _) (by simp; omega) (by kernel_rfl) (by kernel_rfl) (elems_new (n := 1) (sz := 2) rfl) rfl rfl (by rw [hcl9, List.length_take]; omega) (by omega) (by omega) (by simp [atoms, u2, show ∀ z, (AV.bool z).atom = true from fun _ => rfl])) ?_
    rintro v2 G2 ⟨r1, r2, r3, r4, r5, _⟩
    simp only [hNw] at r4 r5
    have hnew : SeasM W.next G2 v2 (l.take (i + 1)) := by
            rw [List.take_succ_eq_append_getElem hlt]
            exact hsn v2 G2 r1 (by omega) (fun j hj hne => by rw [r4 j (by omega) hne]; exact gno _ _ _ (by omega))
    refine OkO.assign rfl rfl ?_
    refine OkO.nil ?_
    refine Ok.region ?_
    refine OkO.move rfl rfl ?_
    refine OkO.bin rfl rfl rfl (bin_add (by omega) (by omega)) ?_
    refine OkO.assign rfl rfl ?_
    refine OkO.nil ?_
    refine ⟨l.length - (i + 1), by omega, i + 1, rfl, hlt, ⟨_, hnew, Has.of (by kernel_rfl)⟩, rfl, r2⟩
  · -- no h1
    have hge : i = l.length := by simp at h1; omega
    subst hge
    rw [List.take_length] at hm
    refine Ok.exit ?_
    refine Ok.seq ?_
    refine Ok.region ?_
    refine OkO.move rfl rfl ?_
    refine OkO.assign rfl rfl ?_
    refine OkO.nil ?_
    refine Ok.ret ⟨.inr rfl, ?_⟩
    refine back_newA (resV_tmp rfl resV_nil) rfl (by rw [← hW]; exact hg) (fun H9 p1 p2 => ⟨p1, (hm.low (by omega)).backS p2⟩)
end
end Go.Ev

set_option maxRecDepth 100000
set_option linter.unusedSimpArgs false
set_option linter.unusedVariables false
namespace Go.Ev
open Go Go.Proofs
noncomputable section
section
open Go.ChangeShapes Go.WideShapes Go.RowKit
variable {H0 : Type} {enc : TypeId × Value → H0} {w : World} {base n : Nat} {sp : Nat → Bool} {hd : Bool}
theorem choose_list {α β : Type} {R : α → β → Prop} : ∀ l : List α, (∀ x ∈ l, ∃ y, R x y) → ∃ m : List β, m.length = l.length ∧ ∀ (i : Nat) x y, l[i]? = some x → m[i]? = some y → R x y := by
  intro l
  induction l with
  | nil => exact fun _ => ⟨[], rfl, fun i x y h => by simp at h⟩
  | cons a t ih =>
    intro h
    obtain ⟨y, hy⟩ := h a (by simp)
    obtain ⟨m, hm, hr⟩ := ih fun x hx => h x (by simp [hx])
    refine ⟨y :: m, by simp [hm], fun i x z h1 h2 => ?_⟩
    cases i with
    | zero => simp at h1 h2; subst h1; subst h2; exact hy
    | succ i => exact hr i x z (by simpa using h1) (by simpa using h2)
theorem map_of_get {α β : Type} {f : α → β} {l : List α} {m : List β} (hl : m.length = l.length) (h : ∀ (i : Nat) x y, l[i]? = some x → m[i]? = some y → f x = y) : l.map f = m := by
  apply List.ext_getElem (by simp [hl])
  intro i h1 h2
  have hi : i < l.length := by simpa using h1
  rw [List.getElem_map]
  exact h i _ _ (List.getElem?_eq_getElem hi) (List.getElem?_eq_getElem h2)
theorem slice_open {β : Type} {H : Heap} (hs : Snap w H) {t e sz : Nat} (ht : Try.prog.underlying t = some (.slice e)) (hc : Try.prog.cellsOf e = sz) (hz : 0 < sz) {R : List Value → β → Prop} (he : ∀ (c : List Value) (m : Nat) y, c.length = sz → DataW.trod enc Try.prog w base sp hd m e c = some y → ∃ b, R c b)
    {v : Value} {y} (h : DataW.trod enc Try.prog w base sp hd n t [v] = some y) : ∃ (cs : List (List Value)) (l : List β), l.length = cs.length ∧ l.length ≤ maxLen ∧ Row H (toAV w.heap.size v) sz (cs.map (toAVs w.heap.size)) ∧ ∀ (i : Nat) c b, cs[i]? = some c → l[i]? = some b → R c b := by
  obtain ⟨cs, hR, hm, hl⟩ := hs.slice ht hc hz h
  obtain ⟨l, hl2, hr⟩ := choose_list (R := R) cs fun c hc => by
    obtain ⟨h1, n', y', hy⟩ := hl c hc
    exact he c n' y' h1 hy
  exact ⟨cs, l, hl2, by omega, hR, hr⟩
theorem cells3 : Try.prog.cellsOf 3 = 1 := by kernel_rfl
theorem cells4 : Try.prog.cellsOf 4 = 1 := by kernel_rfl
theorem cells22 : Try.prog.cellsOf 22 = 1 := by kernel_rfl
theorem cells60 : Try.prog.cellsOf 60 = 2 := by kernel_rfl
theorem cells62 : Try.prog.cellsOf 62 = 3 := by kernel_rfl
theorem cells80 : Try.prog.cellsOf 80 = 5 := by kernel_rfl
theorem cells24 : Try.prog.cellsOf 24 = 6 := by kernel_rfl
theorem open3 {c : List Value} {y} (h : DataW.trod enc Try.prog w base sp hd n 3 c = some y) : ∃ x : Int, c = [.int .i64 x] := by
  obtain ⟨x, h1, _, _⟩ := DataW.trod_int Try.underlying3 h
  exact ⟨x, h1⟩
theorem open4 {c : List Value} {y} (h : DataW.trod enc Try.prog w base sp hd n 4 c = some y) : ∃ x : Bool, c = [.bool x] := by
  obtain ⟨x, h1, _⟩ := DataW.trod_bool Try.underlying4 h
  exact ⟨x, h1⟩
theorem open5 {c : List Value} {y} (h : DataW.trod enc Try.prog w base sp hd n 5 c = some y) : ∃ x : Int, c = [.int .u8 x] ∧ 0 ≤ x ∧ x ≤ 255 := by
  obtain ⟨x, h1, _, hw⟩ := DataW.trod_int Try.underlying5 h
  refine ⟨x, h1, ?_⟩
  have h2 : (decide (IntKind.min .u8 ≤ x) && decide (x ≤ IntKind.max .u8)) = true := hw
  rw [Bool.and_eq_true] at h2
  have h3 := of_decide_eq_true h2.1
  have h4 := of_decide_eq_true h2.2
  have e1 : IntKind.min .u8 = 0 := by decide
  have e2 : IntKind.max .u8 = 255 := by decide
  omega
theorem arg5 {H : Heap} (hs : Snap w H) {v : Value} {d : DataW H0} {p : List MemPlace} (hv : ∃ n, v = .int .u8 n) (h : DataW.Trod enc Try.prog w base sp hd 5 v d p) : ∃ x : Int, argAV w.heap.size v = .int .u8 x ∧ 0 ≤ x ∧ x ≤ 255 := by
  obtain ⟨n, rfl⟩ := hv
  obtain ⟨fuel, h⟩ := h
  obtain ⟨x, h1, h2⟩ := open5 h
  have h1' : ([Value.int .u8 n] : List Value) = [.int .u8 x] := h1
  have e0 : n = x := by simpa using h1'
  subst e0
  exact ⟨n, rfl, h2⟩
theorem open22 {H : Heap} (hs : Snap w H) {v : Value} {y} (h : DataW.trod enc Try.prog w base sp hd n 22 [v] = some y) : ∃ us : List Int, Ints H (toAV w.heap.size v) us ∧ us.length ≤ maxLen := by
  obtain ⟨cs, us, hl, hm, hR, hr⟩ := slice_open hs Try.underlying22 cells3 (by decide) (R := fun c (x : Int) => c = [.int .i64 x]) (fun c m y _ hc => open3 hc) h
  refine ⟨us, ?_, hm⟩
  have : cs.map (toAVs w.heap.size) = us.map fun n => [I n] := map_of_get (by simp [hl]) fun i x z h1 h2 => by
    rw [List.getElem?_map, Option.map_eq_some_iff] at h2
    obtain ⟨b, h3, rfl⟩ := h2
    rw [hr i x b h1 h3]
    rfl
  unfold Ints
  rwa [this] at hR
theorem arg62 {H : Heap} (hs : Snap w H) {v : Value} {d : DataW H0} {p : List MemPlace} (hv : ∃ cs, v = .agg cs ∧ cs.size = Try.prog.cellsOf 62) (h : DataW.Trod enc Try.prog w base sp hd 62 v d p) :
    ∃ r : Rul, argAV w.heap.size v = .agg r.c := by
  obtain ⟨cs, rfl, hsz⟩ := hv
  obtain ⟨fuel, h⟩ := h
  obtain ⟨xs, k, _, _, hl, hx, hf⟩ := DataW.trod_struct Try.underlying62 h
  rw [cells62] at hsz
  obtain ⟨cl⟩ := cs
  match cl, hsz with
  | [c0, c1, c2], _ =>
    have h0 : DataW.trod enc Try.prog w base sp hd k 3 (([c0, c1, c2].drop 0).take (Try.prog.cellsOf 3)) = xs[0]? := hf 0 _ rfl
    rw [cells3] at h0
    have h1 : DataW.trod enc Try.prog w base sp hd k 3 (([c0, c1, c2].drop 1).take (Try.prog.cellsOf 3)) = xs[1]? := hf 1 _ rfl
    rw [cells3] at h1
    have h2 : DataW.trod enc Try.prog w base sp hd k 3 (([c0, c1, c2].drop 2).take (Try.prog.cellsOf 3)) = xs[2]? := hf 2 _ rfl
    rw [cells3] at h2
    match xs, hx with
    | [x0, x1, x2], _ =>
      obtain ⟨a0, e0⟩ := open3 h0
      obtain ⟨a1, e1⟩ := open3 h1
      obtain ⟨a2, e2⟩ := open3 h2
      simp at e0 e1 e2
      refine ⟨⟨a0, a1, a2⟩, ?_⟩
      rw [e0, e1, e2]
      rfl
theorem arg80 {H : Heap} (hs : Snap w H) {v : Value} {d : DataW H0} {p : List MemPlace} (hv : ∃ cs, v = .agg cs ∧ cs.size = Try.prog.cellsOf 80) (h : DataW.Trod enc Try.prog w base sp hd 80 v d p) :
    ∃ r : Trm, argAV w.heap.size v = .agg r.c := by
  obtain ⟨cs, rfl, hsz⟩ := hv
  obtain ⟨fuel, h⟩ := h
  obtain ⟨xs, k, _, _, hl, hx, hf⟩ := DataW.trod_struct Try.underlying80 h
  rw [cells80] at hsz
  obtain ⟨cl⟩ := cs
  match cl, hsz with
  | [c0, c1, c2, c3, c4], _ =>
    have h0 : DataW.trod enc Try.prog w base sp hd k 3 (([c0, c1, c2, c3, c4].drop 0).take (Try.prog.cellsOf 3)) = xs[0]? := hf 0 _ rfl
    rw [cells3] at h0
    have h1 : DataW.trod enc Try.prog w base sp hd k 3 (([c0, c1, c2, c3, c4].drop 1).take (Try.prog.cellsOf 3)) = xs[1]? := hf 1 _ rfl
    rw [cells3] at h1
    have h2 : DataW.trod enc Try.prog w base sp hd k 3 (([c0, c1, c2, c3, c4].drop 2).take (Try.prog.cellsOf 3)) = xs[2]? := hf 2 _ rfl
    rw [cells3] at h2
    have h3 : DataW.trod enc Try.prog w base sp hd k 3 (([c0, c1, c2, c3, c4].drop 3).take (Try.prog.cellsOf 3)) = xs[3]? := hf 3 _ rfl
    rw [cells3] at h3
    have h4 : DataW.trod enc Try.prog w base sp hd k 3 (([c0, c1, c2, c3, c4].drop 4).take (Try.prog.cellsOf 3)) = xs[4]? := hf 4 _ rfl
    rw [cells3] at h4
    match xs, hx with
    | [x0, x1, x2, x3, x4], _ =>
      obtain ⟨a0, e0⟩ := open3 h0
      obtain ⟨a1, e1⟩ := open3 h1
      obtain ⟨a2, e2⟩ := open3 h2
      obtain ⟨a3, e3⟩ := open3 h3
      obtain ⟨a4, e4⟩ := open3 h4
      simp at e0 e1 e2 e3 e4
      refine ⟨⟨a0, a1, a2, a3, a4⟩, ?_⟩
      rw [e0, e1, e2, e3, e4]
      rfl
theorem open60 {H : Heap} (hs : Snap w H) {c : List Value} {y} (h : DataW.trod enc Try.prog w base sp hd n 60 c = some y) : ∃ s : AV × Sea, toAVs w.heap.size c = [s.1, .bool s.2.fell] ∧ Ints H s.1 s.2.sp ∧ s.2.sp.length ≤ maxLen := by
  obtain ⟨xs, k, _, _, hl, hx, hf⟩ := DataW.trod_struct Try.underlying60 h
  rw [cells60] at hl
  match c, hl with
  | [c0, c1], _ =>
    have h0 : DataW.trod enc Try.prog w base sp hd k 22 (([c0, c1].drop 0).take (Try.prog.cellsOf 22)) = xs[0]? := hf 0 _ rfl
    rw [cells22] at h0
    have h1 : DataW.trod enc Try.prog w base sp hd k 4 (([c0, c1].drop 1).take (Try.prog.cellsOf 4)) = xs[1]? := hf 1 _ rfl
    rw [cells4] at h1
    match xs, hx with
    | [x0, x1], _ =>
      obtain ⟨us, hU, hm⟩ := open22 hs (v := c0) h0
      obtain ⟨a1, e1⟩ := open4 h1
      simp at e1
      refine ⟨(_, ⟨us, a1⟩), ?_, hU, hm⟩
      rw [e1]
      rfl
theorem arg71 {H : Heap} (hs : Snap w H) {v : Value} {d : DataW H0} {p : List MemPlace} (hv : ∃ a len cap, v = .slice a len cap) (h : DataW.Trod enc Try.prog w base sp hd 71 v d p) :
    ∃ (wv : AV) (l : List Sea), argAV w.heap.size v = wv ∧ SeasAt H wv l ∧ l.length ≤ maxLen ∧ ∀ s ∈ l, s.sp.length ≤ maxLen := by
  obtain ⟨a, len, cap, rfl⟩ := hv
  obtain ⟨fuel, h⟩ := h
  obtain ⟨cs, l, hl, hm, hR, hr⟩ := slice_open hs Try.underlying71 cells60 (by decide) (R := fun c (s : AV × Sea) => toAVs w.heap.size c = [s.1, .bool s.2.fell] ∧ Ints H s.1 s.2.sp ∧ s.2.sp.length ≤ maxLen) (fun c m y _ hc => open60 hs hc) (v := .slice a len cap) h
  refine ⟨_, l.map (·.2), rfl, ⟨l.map (·.1), by simp, ?_, fun i x s h1 h2 => ?_⟩, by simpa using hm, fun s hs => ?_⟩
  · have e1 : cs.map (toAVs w.heap.size) = ((l.map (·.1)).zip (l.map (·.2))).map fun p => [p.1, .bool p.2.fell] := map_of_get (by simp [hl]) fun i x z h1 h2 => by
      rw [List.zip_map', List.map_map, List.getElem?_map, Option.map_eq_some_iff] at h2
      obtain ⟨b, h3, rfl⟩ := h2
      exact (hr i x b h1 h3).1
    rw [← e1]
    exact hR
  · rw [List.getElem?_map, Option.map_eq_some_iff] at h1 h2
    obtain ⟨p, h3, rfl⟩ := h1
    obtain ⟨q, h4, rfl⟩ := h2
    rw [h3] at h4
    cases h4
    have hi : i < l.length := (List.getElem?_eq_some_iff.1 h3).1
    exact (hr i (cs[i]'(by omega)) p (List.getElem?_eq_getElem (by omega)) h3).2.1
  · obtain ⟨p, hp, rfl⟩ := List.mem_map.1 hs
    obtain ⟨i, hi, rfl⟩ := List.mem_iff_getElem.1 hp
    exact (hr i (cs[i]'(by omega)) l[i] (List.getElem?_eq_getElem (by omega)) (List.getElem?_eq_getElem hi)).2.2
end
end
end Go.Ev

set_option maxRecDepth 100000
set_option linter.unusedSimpArgs false
set_option linter.unusedVariables false
namespace Go.Ev
open Go Go.Proofs
noncomputable section
/-- The first hour from one on whose speed is below a number. -/
def runTo (sp : List Int) (back : Int) (to : Nat) : Nat := to + ((sp.drop to).takeWhile fun x => decide (back ≤ x)).length
theorem runTo_end {sp : List Int} {back : Int} {to : Nat} (h : sp.length ≤ to) : runTo sp back to = to := by
  unfold runTo
  rw [List.drop_eq_nil_of_le h]
  rfl
theorem runTo_stop {sp : List Int} {back : Int} {to : Nat} (h : to < sp.length) (h2 : sp[to] < back) : runTo sp back to = to := by
  unfold runTo
  rw [List.drop_eq_getElem_cons h, List.takeWhile_cons, if_neg (by rw [decide_eq_true_eq]; omega)]
  rfl
theorem runTo_step {sp : List Int} {back : Int} {to : Nat} (h : to < sp.length) (h2 : back ≤ sp[to]) : runTo sp back to = runTo sp back (to + 1) := by
  unfold runTo
  rw [List.drop_eq_getElem_cons h, List.takeWhile_cons, if_pos (by rw [decide_eq_true_eq]; omega), List.length_cons]
  omega
theorem runTo_le {sp : List Int} {back : Int} {to : Nat} (h : to ≤ sp.length) : to ≤ runTo sp back to ∧ runTo sp back to ≤ sp.length := by
  unfold runTo
  have h1 : ((sp.drop to).takeWhile fun x => decide (back ≤ x)).length ≤ (sp.drop to).length := (List.takeWhile_sublist _).length_le
  rw [List.length_drop] at h1
  omega
/-- The hour behind an alarm that begins in one. -/
def endOf (sp : List Int) (r : Rul) (h : Nat) : Nat := runTo sp r.back (min (h + r.hold.toNat) sp.length)
theorem endOf_le {sp : List Int} {r : Rul} {h : Nat} (hh : h < sp.length) (hr : 1 ≤ r.hold) : h < endOf sp r h ∧ endOf sp r h ≤ sp.length := by
  have := runTo_le (sp := sp) (back := r.back) (to := min (h + r.hold.toNat) sp.length) (by omega)
  unfold endOf
  omega
def spellsW (sp : List Int) (r : Rul) : Nat → Nat → List (Nat × Nat)
  | 0, _ => []
  | n + 1, h => if hh : h < sp.length then (if sp[h] < r.start then spellsW sp r n (h + 1) else (h, endOf sp r h) :: spellsW sp r n (endOf sp r h)) else []
theorem spellsW_same {sp : List Int} {r : Rul} (hr : 1 ≤ r.hold) : ∀ (n m h : Nat), sp.length - h ≤ n → sp.length - h ≤ m → spellsW sp r n h = spellsW sp r m h := by
  intro n
  induction n with
  | zero =>
    intro m h hn hm
    cases m with
    | zero => rfl
    | succ m => rw [spellsW, spellsW, dif_neg (by omega)]
  | succ n ih =>
    intro m h hn hm
    cases m with
    | zero => rw [spellsW, spellsW, dif_neg (by omega)]
    | succ m =>
      rw [spellsW, spellsW]
      by_cases hh : h < sp.length
      · have he := endOf_le hh hr
        rw [dif_pos hh, dif_pos hh, ih m (h + 1) (by omega) (by omega), ih m (endOf sp r h) (by omega) (by omega)]
      · rw [dif_neg hh, dif_neg hh]
theorem spellsW_more {sp : List Int} {r : Rul} (hr : 1 ≤ r.hold) (n h : Nat) (hn : sp.length - h ≤ n) : spellsW sp r n h = spellsW sp r (sp.length - h) h := spellsW_same hr n _ h hn (Nat.le_refl _)
/-- The alarms from an hour on. -/
def restOf (sp : List Int) (r : Rul) (h : Nat) : List (Nat × Nat) := spellsW sp r (sp.length - h) h
theorem restOf_end {sp : List Int} {r : Rul} {h : Nat} (hh : sp.length ≤ h) : restOf sp r h = [] := by
  unfold restOf
  rw [show sp.length - h = 0 by omega]; rfl
theorem restOf_skip {sp : List Int} {r : Rul} {h : Nat} (hh : h < sp.length) (hs : sp[h] < r.start) : restOf sp r h = restOf sp r (h + 1) := by
  unfold restOf
  obtain ⟨k, hk⟩ : ∃ k, sp.length - h = k + 1 := ⟨sp.length - h - 1, by omega⟩
  rw [hk, spellsW, dif_pos hh, if_pos hs, show sp.length - (h + 1) = k by omega]
theorem restOf_take {sp : List Int} {r : Rul} {h : Nat} (hr : 1 ≤ r.hold) (hh : h < sp.length) (hs : ¬ sp[h] < r.start) : restOf sp r h = (h, endOf sp r h) :: restOf sp r (endOf sp r h) := by
  have he := endOf_le hh hr
  unfold restOf
  obtain ⟨k, hk⟩ : ∃ k, sp.length - h = k + 1 := ⟨sp.length - h - 1, by omega⟩
  rw [hk, spellsW, dif_pos hh, if_neg hs, spellsW_more hr k _ (by omega)]
def spellsOf (sp : List Int) (r : Rul) : List (Nat × Nat) := restOf sp r 0
theorem restOf_len {sp : List Int} {r : Rul} (hr : 1 ≤ r.hold) : ∀ (n h : Nat), sp.length - h ≤ n → (restOf sp r h).length ≤ sp.length - h := by
  intro n
  induction n with
  | zero => intro h hn; rw [restOf_end (by omega)]; simp
  | succ n ih =>
    intro h hn
    by_cases hh : h < sp.length
    · by_cases hs : sp[h] < r.start
      · rw [restOf_skip hh hs]; have := ih (h + 1) (by omega); omega
      · have he := endOf_le hh hr
        rw [restOf_take hr hh hs, List.length_cons]; have := ih (endOf sp r h) (by omega); omega
    · rw [restOf_end (by omega)]; simp
theorem Rul.ok_facts {r : Rul} (h : r.ok = true) : (0 ≤ r.start ∧ r.start ≤ 1000) ∧ (0 ≤ r.back ∧ r.back ≤ r.start) ∧ 1 ≤ r.hold ∧ r.hold ≤ 60 := by
  unfold Rul.ok inB at h
  simp only [Bool.and_eq_true, decide_eq_true_eq] at h
  omega
def spc (p : Nat × Nat) : List AV := [I (p.1 : Int), I (p.2 : Int)]
def spCells (l : List (Nat × Nat)) : List AV := (l.map spc).flatten
theorem spCells_len (l : List (Nat × Nat)) : (spCells l).length = l.length * 2 := by
  unfold spCells
  rw [flatten_len _ 2 (fun x hx => by obtain ⟨y, _, rfl⟩ := List.mem_map.1 hx; rfl), List.length_map]
theorem spCells_snoc (l : List (Nat × Nat)) (p : Nat × Nat) : spCells (l ++ [p]) = spCells l ++ spc p := by simp [spCells]
theorem Mine.spells {k0 : Nat} {G : Heap} {v : AV} {e : TypeId} {l : List (Nat × Nat)} (h : Mine k0 G v e 2 (spCells l)) : Row G v 2 (l.map spc) := Mine.row (e := e) h (fun x hx => by obtain ⟨y, _, rfl⟩ := List.mem_map.1 hx; rfl) (by omega)
theorem c98 (m : Nat) (sv : AV) (sp : List Int) (fell : Bool) (r : Rul) (h : Nat) (H : Heap) (hU : Ints H sv sp) (hl : sp.length ≤ 1000) (hr : r.ok = true) (hh : h ≤ sp.length) : RR (m + 1) (.fn 98 [.agg [sv, .bool fell], .agg r.c, I (h : Int)]) H = some (I (endOf sp r h : Int), H) := by
  refine (R_fn _ _ _ _ _).trans ?_
  refine fn_ok Try.func98 rfl rfl (by kernel_rfl) (by kernel_rfl) ?_
  obtain ⟨W, hW⟩ : ∃ W : Heap, W = ⟨H.t, H.next, H.next⟩ := ⟨_, rfl⟩
  have hg : ∀ n, W.get n = H.get n := fun n => by rw [hW]; rfl
  have hN : W.next = H.next := by rw [hW]
  have hE : ∀ G, Grow W G → Ext H G := fun G g => ⟨by rw [← hN]; exact g.next, fun n k => by rw [g.get n (by rw [hN]; exact k), hg]⟩
  have hG : Grow W W := Grow.refl (by rw [hW]; exact Nat.le_refl _)
  rw [← hW]
  have hlen := hU.len
  have pb : sv.plain = true := lpl hlen
  have hrf := Rul.ok_facts hr
  refine Ok.seq ?_
  refine Ok.region ?_
  refine OkO.box rfl rfl ?_
  refine OkO.box rfl rfl ?_
  refine OkO.assign rfl rfl ?_
  refine OkO.nil ?_
  refine Ok.seq ?_
  refine Ok.region ?_
  refine OkO.move rfl rfl ?_
  refine OkO.fieldAddr (o := 2) rfl (by kernel_rfl) rfl ?_
  refine OkO.load rfl rfl (lda (n := 1) (by kernel_rfl) (by first | assumption | (simp (disch := first | omega | (simp only [hNw, hPt]; omega)) only [gn0, gn1, gn2, gn3, gn4, gn5, gp0, gno, gpo] <;> first | rfl | assumption | exact gp0 _ _ _ | exact gn0 _ _)) (by first | rfl | assumption)) ?_
  refine OkO.bin rfl rfl rfl (bin_add (by omega) (by omega)) ?_
  refine OkO.fieldAddr (o := 0) rfl (by kernel_rfl) rfl ?_
  refine OkO.load rfl rfl (lda (n := 1) (by kernel_rfl) (by first | assumption | (simp (disch := first | omega | (simp only [hNw, hPt]; omega)) only [gn0, gn1, gn2, gn3, gn4, gn5, gp0, gno, gpo] <;> first | rfl | assumption | exact gp0 _ _ _ | exact gn0 _ _)) (by first | rfl | assumption)) ?_
  refine OkO.builtin rfl rfl rfl (bln (by kernel_rfl) (by first | assumption | rfl)) ?_
  refine OkO.builtin rfl rfl rfl (builtin_min2 _ _) ?_
  refine OkO.assign rfl rfl ?_
  refine OkO.nil ?_
  refine Ok.seq ?_
  refine Ok.block ?_
  have e0 : min ((h : Int) + r.hold) (sp.length : Int) = ((min (h + r.hold.toNat) sp.length : Nat) : Int) := by omega
  rw [e0]
  refine Ok.loop (fun n s => ∃ to : Nat, n = sp.length - to ∧ to ≤ sp.length ∧ runTo sp r.back to = endOf sp r h ∧ Has 6 [(3, .ptr W.next 0), (4, .ptr (W.next + 1) 0), (7, I (to : Int))] s.T ∧ s.D = [] ∧ Grow W s.H ∧ s.H = (W.new (.cells [sv, .bool fell] 66)).new (.cells r.c 68)) (sp.length - min (h + r.hold.toNat) sp.length) (by unfold loopFuel; omega)
    ⟨min (h + r.hold.toNat) sp.length, rfl, by omega, rfl, Has.of (by kernel_rfl), rfl, (by (try dsimp only); repeat (first | exact hG | apply Grow.new | (refine Grow.put ?_ _ (by first | omega | (simp only [hNw, hPt]; omega))))), rfl⟩ ?_
  rintro n ⟨T, D, G⟩ ⟨to, hn, hto, hrun, ⟨f, hT⟩, hD, hg, hGG⟩
  dsimp only at *
  subst hT hD
  have hgn := hg.next
  subst hGG
  refine Ok.seq ?_
  refine Ok.seq ?_
  refine Ok.drawn [(0, true, []), (1, true, []), (2, true, []), (3, true, []), (4, true, []), (5, true, []), (6, true, []), (7, true, []), (8, true, []), (9, true, []), (10, true, []), (11, true, []), (12, true, []), (13, true, []), (14, true, [])] (by kernel_rfl) ?_
  refine OkP.step ?_
  refine OkO.move rfl rfl ?_
  refine OkO.nil ⟨rfl, ?_⟩
  refine OkP.step ?_
  refine OkO.fieldAddr (o := 0) rfl (by kernel_rfl) rfl ?_
  refine OkO.nil ⟨rfl, ?_⟩
  refine OkP.step ?_
  refine OkO.load rfl rfl (lda (n := 1) (by kernel_rfl) (by first | assumption | (simp (disch := first | omega | (simp only [hNw, hPt]; omega)) only [gn0, gn1, gn2, gn3, gn4, gn5, gp0, gno, gpo] <;> first | rfl | assumption | exact gp0 _ _ _ | exact gn0 _ _)) (by first | rfl | assumption)) ?_
  refine OkO.nil ⟨rfl, ?_⟩
  refine OkP.step ?_
  refine OkO.builtin rfl rfl rfl (bln (by kernel_rfl) (by first | assumption | rfl)) ?_
  refine OkO.nil ⟨rfl, ?_⟩
  refine OkP.step ?_
  refine OkO.bin rfl rfl rfl (bin_lss _ _) ?_
  refine OkO.nil ⟨rfl, ?_⟩
  refine OkP.step ?_
  refine OkO.move rfl rfl ?_
  refine OkO.nil ⟨rfl, ?_⟩
  refine OkP.split (d := 21) rfl (fun g1 => ?_) (fun g1 => ?_)
  · -- true g1
    have hlt : to < sp.length := by simpa using g1
    obtain ⟨b2, off2, cs2, k1, k2, k3, k4⟩ := (hU.ext (hE _ (by (try dsimp only); repeat (first | exact hg | exact hG | apply Grow.new | (refine Grow.put ?_ _ (by first | omega | (simp only [hNw, hPt]; omega))))))).at' to hlt
    refine OkP.step ?_
    refine OkO.fieldAddr (o := 0) rfl (by kernel_rfl) rfl ?_
    refine OkO.nil ⟨rfl, ?_⟩
    refine OkP.step ?_
    refine OkO.load rfl rfl (lda (n := 1) (by kernel_rfl) (by first | assumption | (simp (disch := first | omega | (simp only [hNw, hPt]; omega)) only [gn0, gn1, gn2, gn3, gn4, gn5, gp0, gno, gpo] <;> first | rfl | assumption | exact gp0 _ _ _ | exact gn0 _ _)) (by first | rfl | assumption)) ?_
    refine OkO.nil ⟨rfl, ?_⟩
    refine OkP.step ?_
    refine OkO.move rfl rfl ?_
    refine OkO.nil ⟨rfl, ?_⟩
    refine OkP.step ?_
    refine OkO.index (sz := 1) rfl rfl rfl (by kernel_rfl) (by first | assumption | rfl | exact slAt_slice (by omega) | exact slAt_opn (by omega)) ?_ -- index ('Go.Operand.tmp', 23) ('Go.Operand.tmp', 24)
    refine OkO.nil ⟨rfl, ?_⟩
    refine OkP.step ?_
    refine OkO.load rfl rfl (lda (n := 1) (by kernel_rfl) (by first | assumption | (simp (disch := first | omega | (simp only [hNw, hPt]; omega)) only [gn0, gn1, gn2, gn3, gn4, gn5, gp0, gno, gpo] <;> first | rfl | assumption | exact gp0 _ _ _ | exact gn0 _ _)) (by first | rfl | assumption)) ?_
    refine OkO.nil ⟨rfl, ?_⟩
    refine OkP.step ?_
    refine OkO.fieldAddr (o := 1) rfl (by kernel_rfl) rfl ?_
    refine OkO.nil ⟨rfl, ?_⟩
    refine OkP.step ?_
    refine OkO.load rfl rfl (lda (n := 1) (by kernel_rfl) (by first | assumption | (simp (disch := first | omega | (simp only [hNw, hPt]; omega)) only [gn0, gn1, gn2, gn3, gn4, gn5, gp0, gno, gpo] <;> first | rfl | assumption | exact gp0 _ _ _ | exact gn0 _ _)) (by first | rfl | assumption)) ?_
    refine OkO.nil ⟨rfl, ?_⟩
    refine OkP.step ?_
    refine OkO.bin rfl rfl rfl (bin_geq _ _) ?_
    refine OkO.nil ⟨rfl, ?_⟩
    refine OkP.step ?_
    refine OkO.pick (b := true) rfl rfl (fun _ => rfl) nofun ?_
    refine OkO.nil ⟨rfl, ?_⟩
    refine OkP.nil ?_
    refine Ok.cond rfl (fun h2 => ?_) (fun h2 => ?_)
    · -- yes h2
      refine Ok.skip ?_
      refine Ok.block ?_
      refine Ok.region ?_
      refine OkO.move rfl rfl ?_
      refine OkO.bin rfl rfl rfl (bin_add (by omega) (by omega)) ?_
      refine OkO.assign rfl rfl ?_
      refine OkO.nil ?_
      refine ⟨sp.length - (to + 1), by omega, to + 1, rfl, by omega, ?_, Has.of (by kernel_rfl), rfl, hg, rfl⟩
      rw [← hrun, runTo_step hlt (by simpa using h2)]
    · -- no h2
      have hb9 : sp[to] < r.back := by simpa using h2
      refine Ok.exit ?_
      refine Ok.seq ?_
      refine Ok.region ?_
      refine OkO.move rfl rfl ?_
      refine OkO.assign rfl rfl ?_
      refine OkO.nil ?_
      refine Ok.ret ⟨.inr rfl, ?_⟩
      exact back_flat rfl (congrArg (fun z : Nat => I (z : Int)) (by rw [← hrun, runTo_stop hlt hb9])) rfl (by rw [← hW]; exact (by (try dsimp only); repeat (first | exact hg | exact hG | apply Grow.new | (refine Grow.put ?_ _ (by first | omega | (simp only [hNw, hPt]; omega))))))
  · -- false g1
    have hge : to = sp.length := by simp at g1; omega
    refine OkP.step ?_
    refine OkO.skip rfl ?_
    refine OkO.nil ⟨rfl, ?_⟩
    refine OkP.step ?_
    refine OkO.skip rfl ?_
    refine OkO.nil ⟨rfl, ?_⟩
    refine OkP.step ?_
    refine OkO.skip rfl ?_
    refine OkO.nil ⟨rfl, ?_⟩
    refine OkP.step ?_
    refine OkO.skip rfl ?_
    refine OkO.nil ⟨rfl, ?_⟩
    refine OkP.step ?_
    refine OkO.skip rfl ?_
    refine OkO.nil ⟨rfl, ?_⟩
    refine OkP.step ?_
    refine OkO.skip rfl ?_
    refine OkO.nil ⟨rfl, ?_⟩
    refine OkP.step ?_
    refine OkO.skip rfl ?_
    refine OkO.nil ⟨rfl, ?_⟩
    refine OkP.step ?_
    refine OkO.skip rfl ?_
    refine OkO.nil ⟨rfl, ?_⟩
    refine OkP.step ?_
    refine OkO.pick (b := false) rfl rfl nofun (fun _ => rfl) ?_
    refine OkO.nil ⟨rfl, ?_⟩
    refine OkP.nil ?_
    refine Ok.condF rfl ?_
    refine Ok.exit ?_
    refine Ok.seq ?_
    refine Ok.region ?_
    refine OkO.move rfl rfl ?_
    refine OkO.assign rfl rfl ?_
    refine OkO.nil ?_
    refine Ok.ret ⟨.inr rfl, ?_⟩
    exact back_flat rfl (congrArg (fun z : Nat => I (z : Int)) (by rw [← hrun, runTo_end (by omega)])) rfl (by rw [← hW]; exact (by (try dsimp only); repeat (first | exact hg | exact hG | apply Grow.new | (refine Grow.put ?_ _ (by first | omega | (simp only [hNw, hPt]; omega))))))
end
end Go.Ev

set_option maxRecDepth 100000
set_option linter.unusedSimpArgs false
set_option linter.unusedVariables false
namespace Go.Ev
open Go Go.Proofs
noncomputable section
theorem c76 (m : Nat) (sv : AV) (sp : List Int) (fell : Bool) (r : Rul) (H : Heap) (hU : Ints H sv sp) (hl : sp.length ≤ 1000) (hr : r.ok = true) : ∃ v H', RR (m + 2) (.fn 76 [.agg [sv, .bool fell], .agg r.c]) H = some (v, H') ∧ Ret H H' ∧ Mine H.next H' v 76 2 (spCells (spellsOf sp r)) := by
  show ∃ v H', evFn Try.prog (RR (m + 1)) 76 [.agg [sv, .bool fell], .agg r.c] H = some (v, H') ∧ Ret H H' ∧ Mine H.next H' v 76 2 (spCells (spellsOf sp r))
  refine fn_okE Try.func76 rfl rfl (by kernel_rfl) (by kernel_rfl) ?_
  obtain ⟨W, hW⟩ : ∃ W : Heap, W = ⟨H.t, H.next, H.next⟩ := ⟨_, rfl⟩
  have hg : ∀ n, W.get n = H.get n := fun n => by rw [hW]; rfl
  have hN : W.next = H.next := by rw [hW]
  have hE : ∀ G, Grow W G → Ext H G := fun G g => ⟨by rw [← hN]; exact g.next, fun n k => by rw [g.get n (by rw [hN]; exact k), hg]⟩
  have hG : Grow W W := Grow.refl (by rw [hW]; exact Nat.le_refl _)
  rw [← hW]
  have hlen := hU.len
  have pb : sv.plain = true := lpl hlen
  have hrf := Rul.ok_facts hr
  refine Ok.seq ?_
  refine Ok.region ?_
  refine OkO.box rfl rfl ?_
  refine OkO.box rfl rfl ?_
  refine OkO.assign rfl rfl ?_
  refine OkO.nil ?_
  refine Ok.seq ?_
  refine Ok.region ?_
  refine OkO.assign rfl rfl ?_
  refine OkO.nil ?_
  refine Ok.seq ?_
  refine Ok.seq ?_
  refine Ok.region ?_
  refine OkO.assign rfl rfl ?_
  refine OkO.nil ?_
  refine Ok.block ?_
  refine Ok.loop (fun n s => ∃ (h : Nat) (done : List (Nat × Nat)) (ov : AV), n = sp.length - h ∧ h ≤ sp.length ∧ done ++ restOf sp r h = spellsOf sp r ∧ Mine (W.next + 2) s.H ov 76 2 (spCells done) ∧ done.length ≤ h ∧ Has 6 [(2, .ptr W.next 0), (3, .ptr (W.next + 1) 0), (5, ov), (6, I (h : Int))] s.T ∧ s.D = [] ∧ Grow W s.H ∧ s.H.get W.next = some (.cells [sv, .bool fell] 66) ∧ s.H.get (W.next + 1) = some (.cells r.c 68) ∧ W.next + 2 ≤ s.H.next) (sp.length) (by unfold loopFuel; omega)
    ⟨0, [], .nils, rfl, Nat.zero_le _, rfl, Mine.nil _ _ _ _, Nat.le_refl _, Has.of (by kernel_rfl), rfl, (by (try dsimp only); repeat (first | exact hG | apply Grow.new | (refine Grow.put ?_ _ (by first | omega | (simp only [hNw, hPt]; omega))))), (by first | assumption | (simp (disch := first | omega | (simp only [hNw, hPt]; omega)) only [gn0, gn1, gn2, gn3, gn4, gn5, gp0, gno, gpo] <;> first | rfl | assumption | exact gp0 _ _ _ | exact gn0 _ _)), (by first | assumption | (simp (disch := first | omega | (simp only [hNw, hPt]; omega)) only [gn0, gn1, gn2, gn3, gn4, gn5, gp0, gno, gpo] <;> first | rfl | assumption | exact gp0 _ _ _ | exact gn0 _ _)), by simp⟩ ?_
  rintro n ⟨T, D, G⟩ ⟨h, done, ov, hn, hh, hdone, hm, hdl, ⟨f, hT⟩, hD, hg, hb0, hb1, hn2p⟩
  dsimp only at *
  subst hT hD
  have hgn := hg.next
  have eb0 : (G.get W.next).bind AObj.cs = some [sv, .bool fell] := by rw [hb0]; rfl
  have eb1 : (G.get (W.next + 1)).bind AObj.cs = some r.c := by rw [hb1]; rfl
  refine Ok.seq ?_
  refine Ok.seq ?_
  refine Ok.region ?_
  refine OkO.move rfl rfl ?_
  refine OkO.fieldAddr (o := 0) rfl (by kernel_rfl) rfl ?_
  refine OkO.load rfl rfl (lda (n := 1) (by kernel_rfl) (by first | assumption | (simp (disch := first | omega | (simp only [hNw, hPt]; omega)) only [gn0, gn1, gn2, gn3, gn4, gn5, gp0, gno, gpo] <;> first | rfl | assumption | exact gp0 _ _ _ | exact gn0 _ _)) (by first | rfl | assumption)) ?_
  refine OkO.builtin rfl rfl rfl (bln (by kernel_rfl) (by first | assumption | rfl)) ?_
  refine OkO.bin rfl rfl rfl (bin_lss _ _) ?_
  refine OkO.nil ?_
  refine Ok.cond rfl (fun h1 => ?_) (fun h1 => ?_)
  · -- yes h1
    have hlt : h < sp.length := by simpa using h1
    obtain ⟨b2, off2, cs2, k1, k2, k3, k4⟩ := (hU.ext (hE _ (by (try dsimp only); repeat (first | exact hg | exact hG | apply Grow.new | (refine Grow.put ?_ _ (by first | omega | (simp only [hNw, hPt]; omega))))))).at' h hlt
    have he := endOf_le hlt hrf.2.2.1
    refine Ok.skip ?_
    refine Ok.block ?_
    refine Ok.seq ?_
    refine Ok.seq ?_
    refine Ok.drawn [(0, true, []), (1, true, []), (2, true, []), (3, true, []), (4, true, []), (5, true, []), (6, true, []), (7, true, [])] (by kernel_rfl) ?_
    refine OkP.step ?_
    refine OkO.fieldAddr (o := 0) rfl (by kernel_rfl) rfl ?_
    refine OkO.nil ⟨rfl, ?_⟩
    refine OkP.step ?_
    refine OkO.load rfl rfl (lda (n := 1) (by kernel_rfl) (by first | assumption | (simp (disch := first | omega | (simp only [hNw, hPt]; omega)) only [gn0, gn1, gn2, gn3, gn4, gn5, gp0, gno, gpo] <;> first | rfl | assumption | exact gp0 _ _ _ | exact gn0 _ _)) (by first | rfl | assumption)) ?_
    refine OkO.nil ⟨rfl, ?_⟩
    refine OkP.step ?_
    refine OkO.move rfl rfl ?_
    refine OkO.nil ⟨rfl, ?_⟩
    refine OkP.step ?_
    refine OkO.index (sz := 1) rfl rfl rfl (by kernel_rfl) (by first | assumption | rfl | exact slAt_slice (by omega) | exact slAt_opn (by omega)) ?_ -- index ('Go.Operand.tmp', 14) ('Go.Operand.tmp', 15)
    refine OkO.nil ⟨rfl, ?_⟩
    refine OkP.step ?_
    refine OkO.load rfl rfl (lda (n := 1) (by kernel_rfl) (by first | assumption | (simp (disch := first | omega | (simp only [hNw, hPt]; omega)) only [gn0, gn1, gn2, gn3, gn4, gn5, gp0, gno, gpo] <;> first | rfl | assumption | exact gp0 _ _ _ | exact gn0 _ _)) (by first | rfl | assumption)) ?_
    refine OkO.nil ⟨rfl, ?_⟩
    refine OkP.step ?_
    refine OkO.fieldAddr (o := 0) rfl (by kernel_rfl) rfl ?_
    refine OkO.nil ⟨rfl, ?_⟩
    refine OkP.step ?_
    refine OkO.load rfl rfl (lda (n := 1) (by kernel_rfl) (by first | assumption | (simp (disch := first | omega | (simp only [hNw, hPt]; omega)) only [gn0, gn1, gn2, gn3, gn4, gn5, gp0, gno, gpo] <;> first | rfl | assumption | exact gp0 _ _ _ | exact gn0 _ _)) (by first | rfl | assumption)) ?_
    refine OkO.nil ⟨rfl, ?_⟩
    refine OkP.step ?_
    refine OkO.bin rfl rfl rfl (bin_lss _ _) ?_
    refine OkO.nil ⟨rfl, ?_⟩
    refine OkP.nil ?_
    refine Ok.cond rfl (fun h2 => ?_) (fun h2 => ?_)
    · -- yes h2
      have hs : sp[h] < r.start := by simpa using h2
      refine Ok.seq ?_
      refine Ok.region ?_
      refine OkO.move rfl rfl ?_
      refine OkO.bin rfl rfl rfl (bin_add (by omega) (by omega)) ?_
      refine OkO.assign rfl rfl ?_
      refine OkO.nil ?_
      refine Ok.exit ?_
      refine ⟨sp.length - (h + 1), by omega, h + 1, done, ov, rfl, by omega, by rw [← restOf_skip hlt hs]; exact hdone, hm, by omega, Has.of (by kernel_rfl), rfl, hg, hb0, hb1, hn2p⟩
    · -- no h2
      have hs : ¬ sp[h] < r.start := by simpa using h2
      refine Ok.skip ?_
      refine Ok.seq ?_
      refine Ok.region ?_
      refine OkO.move rfl rfl ?_
      refine OkO.load rfl rfl (ldg (n := 2) (by kernel_rfl) (by first | assumption | (simp (disch := first | omega | (simp only [hNw, hPt]; omega)) only [gn0, gn1, gn2, gn3, gn4, gn5, gp0, gno, gpo] <;> first | rfl | assumption | exact gp0 _ _ _ | exact gn0 _ _)) (by first | rfl | assumption)) ?_
      refine OkO.load rfl rfl (ldg (n := 3) (by kernel_rfl) (by first | assumption | (simp (disch := first | omega | (simp only [hNw, hPt]; omega)) only [gn0, gn1, gn2, gn3, gn4, gn5, gp0, gno, gpo] <;> first | rfl | assumption | exact gp0 _ _ _ | exact gn0 _ _)) (by first | rfl | assumption)) ?_
      refine OkO.move rfl rfl ?_
      refine OkO.callV rfl rfl rfl rfl rfl (c98 m sv sp fell r h _ (hU.ext (hE _ (by (try dsimp only); repeat (first | exact hg | exact hG | apply Grow.new | (refine Grow.put ?_ _ (by first | omega | (simp only [hNw, hPt]; omega))))))) hl hr hh) ?_ -- "(sackung/alarm.Season).end"
      refine OkO.build (z := [.int .i64 0, .int .i64 0]) (pl := [(0, 1), (1, 1)]) rfl (by kernel_rfl) rfl rfl ?_
      refine OkO.alloc (z := [.int .i64 0, .int .i64 0]) rfl (by kernel_rfl) ?_
      refine OkO.store rfl rfl rfl (sAc (n := 2) (ag := true) (by kernel_rfl) (by first | assumption | (simp (disch := first | omega | (simp only [hNw, hPt]; omega)) only [gn0, gn1, gn2, gn3, gn4, gn5, gp0, gno, gpo] <;> first | rfl | assumption | exact gp0 _ _ _ | exact gn0 _ _)) rfl (by first | rfl | assumption) (by first | rfl | exact spl_set _ _ _ (by first | assumption | omega | (simp; omega)))) ?_
      refine OkO.nil ?_
      refine Ok.seq ?_
      refine Ok.region ?_
      refine OkO.move rfl rfl ?_
      refine OkO.load rfl rfl (ldg (n := 2) (by kernel_rfl) (by first | assumption | (simp (disch := first | omega | (simp only [hNw, hPt]; omega)) only [gn0, gn1, gn2, gn3, gn4, gn5, gp0, gno, gpo] <;> first | rfl | assumption | exact gp0 _ _ _ | exact gn0 _ _)) (by first | rfl | assumption)) ?_
      refine OkO.buildSlice (el := 76) (sz := 2) (z := [.int .i64 0, .int .i64 0]) rfl (by kernel_rfl) (by decide) rfl rfl ?_
      refine OkO.builtinE rfl rfl rfl (Mine.app2 (W := W) (k0 := W.next + 2) (t := 63) (u := 63) (sz := 2) (by_ := 16) (e := 76) (n := 1) (new := spc (h, endOf sp r h)) (hm.to (by (try dsimp only); repeat (first | exact Ext.refl _ | assumption | apply Ext.new | (refine Ext.put ?_ _ (by first | omega | (simp only [hNw, hPt]; omega)))))) (by (try dsimp only); repeat (first | exact hg | exact hG | apply Grow.new | (refine Grow.put ?_ _ (by first | omega | (simp only [hNw, hPt]; omega))))) (by omega) (by simp only [hNw, hPt]; omega) (by kernel_rfl) (by kernel_rfl) (elems_new (n := 1) (sz := 2) rfl) rfl rfl (by rw [spCells_len]; omega) (by omega) (by omega) rfl) ?_
      rintro v2 G2 ⟨r1, r2, r3, r4, r5, _⟩
      have gx : (G2.get G.next).bind AObj.cs = some (spc (h, endOf sp r h)) := by rw [r4 G.next (by simp only [hNw, hPt]; omega) (fun m9 e9 => by have := hm.lt e9; omega)]; first | assumption | (simp (disch := first | omega | (simp only [hNw, hPt]; omega)) only [gn0, gn1, gn2, gn3, gn4, gn5, gp0, gno, gpo] <;> first | rfl | assumption | exact gp0 _ _ _ | exact gn0 _ _)
      refine OkO.assign rfl rfl ?_
      refine OkO.nil ?_
      refine Ok.region ?_
      refine OkO.fieldAddr (o := 1) rfl (by kernel_rfl) rfl ?_
      refine OkO.load rfl rfl (lda (n := 1) (by kernel_rfl) (by first | assumption | (simp (disch := first | omega | (simp only [hNw, hPt]; omega)) only [gn0, gn1, gn2, gn3, gn4, gn5, gp0, gno, gpo] <;> first | rfl | assumption | exact gp0 _ _ _ | exact gn0 _ _)) (by first | rfl | assumption)) ?_
      refine OkO.assign rfl rfl ?_
      refine OkO.nil ?_
      refine ⟨sp.length - endOf sp r h, by omega, endOf sp r h, done ++ [(h, endOf sp r h)], _, rfl, he.2, by rw [List.append_assoc, List.singleton_append, ← restOf_take hrf.2.2.1 hlt hs]; exact hdone, by rw [spCells_snoc]; exact r1, by simp; omega, Has.of (by kernel_rfl), rfl, r2, ?_, ?_, by (show W.next + 2 ≤ G2.next; simp only [hNw, hPt] at r5; omega)⟩
      · rw [r4 _ (by simp only [hNw, hPt]; omega) (hm.far (by omega))]; first | assumption | (simp (disch := first | omega | (simp only [hNw, hPt]; omega)) only [gn0, gn1, gn2, gn3, gn4, gn5, gp0, gno, gpo] <;> first | rfl | assumption | exact gp0 _ _ _ | exact gn0 _ _)
      · rw [r4 _ (by simp only [hNw, hPt]; omega) (hm.far (by omega))]; first | assumption | (simp (disch := first | omega | (simp only [hNw, hPt]; omega)) only [gn0, gn1, gn2, gn3, gn4, gn5, gp0, gno, gpo] <;> first | rfl | assumption | exact gp0 _ _ _ | exact gn0 _ _)
  · -- no h1
    have hge : h = sp.length := by simp at h1; omega
    rw [restOf_end (by omega), List.append_nil] at hdone
    refine Ok.exit ?_
    refine Ok.seq ?_
    refine Ok.region ?_
    refine OkO.move rfl rfl ?_
    refine OkO.assign rfl rfl ?_
    refine OkO.nil ?_
    refine Ok.ret ⟨.inr rfl, ?_⟩
    refine back_newA (resV_tmp rfl resV_nil) rfl (by rw [← hW]; exact hg) (fun H9 p1 p2 => ⟨p1, by rw [← hdone]; exact (hm.low (by omega)).backT p2 id⟩)
end
end Go.Ev

set_option maxRecDepth 100000
set_option linter.unusedSimpArgs false
set_option linter.unusedVariables false
namespace Go.Ev
open Go Go.Proofs
noncomputable section
theorem flat_tup2 {a c : AV} (h : (AV.tup [a, c]).flat = true) : a.flat = true := by
  have h1 : AV.flats [a, c] = true := h
  unfold AV.flats at h1
  cases ha : a.flat with
  | false => rw [ha] at h1; cases h1
  | true => rfl
end
end Go.Ev

set_option maxRecDepth 100000
set_option linter.unusedSimpArgs false
set_option linter.unusedVariables false
namespace Go.Ev
open Go Go.Proofs
noncomputable section
theorem Row.spell {G : Heap} {v : AV} {L : List (Nat × Nat)} (h : Row G v 2 (L.map spc)) {i : Nat} (hi : i < L.length) : ∃ b off cs, slAt v 2 i = some (b, off) ∧ (G.get b).bind AObj.cs = some cs ∧ cs[off]? = some (I (L[i].1 : Int)) ∧ cs[off + 1]? = some (I (L[i].2 : Int)) ∧ seg cs off 2 = some (spc L[i]) ∧ b < G.next := by
  obtain ⟨b, off, cs, i1, i2, i3, i4⟩ := h.at_ i (spc L[i]) (by rw [List.getElem?_map, List.getElem?_eq_getElem hi]; rfl)
  have k0 := seg_get i3 0 (by omega)
  have k1 := seg_get i3 1 (by omega)
  exact ⟨b, off, cs, i1, i2, by simpa [spc] using k0, by simpa [spc] using k1, i3, i4⟩
end
end Go.Ev

set_option maxRecDepth 100000
set_option linter.unusedSimpArgs false
set_option linter.unusedVariables false
namespace Go.Ev
open Go Go.Proofs
noncomputable section
theorem runTo_spec {sp : List Int} {back : Int} : ∀ {to : Nat}, to ≤ sp.length → to ≤ runTo sp back to ∧ (∀ x, sp[runTo sp back to]? = some x → x < back) ∧ ∀ (k : Nat) x, to ≤ k → k < runTo sp back to → sp[k]? = some x → back ≤ x := by
  have main : ∀ (n to : Nat), sp.length - to ≤ n → to ≤ sp.length → to ≤ runTo sp back to ∧ (∀ x, sp[runTo sp back to]? = some x → x < back) ∧ ∀ (k : Nat) x, to ≤ k → k < runTo sp back to → sp[k]? = some x → back ≤ x := by
    intro n
    induction n with
    | zero =>
      intro to hn ht
      rw [runTo_end (by omega)]
      exact ⟨Nat.le_refl _, fun x hx => (by rw [List.getElem?_eq_none (by omega)] at hx; cases hx), fun k x h1 h2 => by omega⟩
    | succ n ih =>
      intro to hn ht
      by_cases hl : to < sp.length
      · by_cases hb : back ≤ sp[to]
        · rw [runTo_step hl hb]
          obtain ⟨h1, h2, h3⟩ := ih (to + 1) (by omega) (by omega)
          refine ⟨by omega, h2, fun k x k1 k2 k3 => ?_⟩
          by_cases e : k = to
          · subst e; rw [List.getElem?_eq_getElem hl] at k3; cases k3; exact hb
          · exact h3 k x (by omega) k2 k3
        · rw [runTo_stop hl (by omega)]
          exact ⟨Nat.le_refl _, fun x hx => (by rw [List.getElem?_eq_getElem hl] at hx; cases hx; omega), fun k x h1 h2 => by omega⟩
      · rw [runTo_end (by omega)]
        exact ⟨Nat.le_refl _, fun x hx => (by rw [List.getElem?_eq_none (by omega)] at hx; cases hx), fun k x h1 h2 => by omega⟩
  exact fun {to} h => main (sp.length - to) to (Nat.le_refl _) h
theorem spells_facts {sp : List Int} {r : Rul} (hr : 1 ≤ r.hold) : ∀ (n h : Nat), sp.length - h ≤ n → ∀ p ∈ restOf sp r h, h ≤ p.1 ∧ p.1 < p.2 ∧ p.2 ≤ sp.length ∧ (∀ x, sp[p.1]? = some x → r.start ≤ x) ∧ (p.2 < sp.length → r.hold ≤ (p.2 : Int) - (p.1 : Int) ∧ ∀ x, sp[p.2]? = some x → x < r.back) ∧ ∀ (k : Nat) x, (p.1 : Int) + r.hold ≤ (k : Int) → k < p.2 → sp[k]? = some x → r.back ≤ x := by
  intro n
  induction n with
  | zero => intro h hn p hp; rw [restOf_end (by omega)] at hp; cases hp
  | succ n ih =>
    intro h hn p hp
    by_cases hh : h < sp.length
    · by_cases hs : sp[h] < r.start
      · rw [restOf_skip hh hs] at hp
        obtain ⟨h1, h2⟩ := ih (h + 1) (by omega) p hp
        exact ⟨by omega, h2⟩
      · have he := endOf_le hh hr
        rw [restOf_take hr hh hs] at hp
        rcases List.mem_cons.1 hp with rfl | hp
        · refine ⟨Nat.le_refl _, he.1, he.2, fun x hx => ?_, fun hb => ?_, fun k x hk1 hk2 hx => ?_⟩
          · rw [List.getElem?_eq_getElem hh] at hx; cases hx; omega
          · have := runTo_spec (sp := sp) (back := r.back) (to := min (h + r.hold.toNat) sp.length) (by omega)
            have hq : runTo sp r.back (min (h + r.hold.toNat) sp.length) = endOf sp r h := rfl
            rw [hq] at this
            exact ⟨by have := this.1; dsimp only at hb ⊢; omega, this.2.1⟩
          · have := runTo_spec (sp := sp) (back := r.back) (to := min (h + r.hold.toNat) sp.length) (by omega)
            have hq : runTo sp r.back (min (h + r.hold.toNat) sp.length) = endOf sp r h := rfl
            rw [hq] at this
            exact this.2.2 k x (by dsimp only at hk1; omega) hk2 hx
        · obtain ⟨h1, h2⟩ := ih (endOf sp r h) (by omega) p hp
          exact ⟨by omega, h2⟩
    · rw [restOf_end (by omega)] at hp; cases hp
theorem spells_sorted {sp : List Int} {r : Rul} (hr : 1 ≤ r.hold) : ∀ (n h : Nat), sp.length - h ≤ n → (restOf sp r h).Pairwise fun p q => p.2 ≤ q.1 := by
  intro n
  induction n with
  | zero => intro h hn; rw [restOf_end (by omega)]; exact .nil
  | succ n ih =>
    intro h hn
    by_cases hh : h < sp.length
    · by_cases hs : sp[h] < r.start
      · rw [restOf_skip hh hs]; exact ih (h + 1) (by omega)
      · have he := endOf_le hh hr
        rw [restOf_take hr hh hs]
        exact .cons (fun q hq => (spells_facts hr (n + 1) _ (by omega) q hq).1) (ih _ (by omega))
    · rw [restOf_end (by omega)]; exact .nil
/-- How many of some alarms an hour is in. -/
def cnt (L : List (Nat × Nat)) (k : Nat) : Nat := (L.filter fun p => decide (p.1 ≤ k) && decide (k < p.2)).length
/-- What the hours have been counted, the one that is at hand up to an hour. -/
def onL (N : Nat) (L : List (Nat × Nat)) (a h : Nat) : List Int := (List.range N).map fun k => ((cnt L k + (if a ≤ k ∧ k < h then 1 else 0) : Nat) : Int)
theorem spl_set (a : List Int) (k : Nat) (z : Int) (h : k < a.length) : spl (a.map I) (0 + k * 1) (I z).cells = some ((a.set k z).map I) := by
  have e : (I z).cells = [I z] := rfl
  rw [e, spl_one (by simp; omega), List.map_set]
  simp
end
end Go.Ev

set_option maxRecDepth 100000
set_option linter.unusedSimpArgs false
set_option linter.unusedVariables false
namespace Go.Ev
open Go Go.Proofs
noncomputable section
end
end Go.Ev

set_option maxRecDepth 100000
set_option linter.unusedSimpArgs false
set_option linter.unusedVariables false
namespace Go.Ev
open Go Go.Proofs
noncomputable section
/-- What alarms cost, in a season of N hours. -/
def prc1 (t : Trm) (fell : Bool) (N : Nat) (p : Nat × Nat) : Int := t.hour * ((p.2 : Int) - (p.1 : Int)) + (if fell = false ∨ p.2 < N then t.price else 0)
def prcL (t : Trm) (fell : Bool) (N : Nat) : List (Nat × Nat) → Int
  | [] => 0
  | p :: l => prc1 t fell N p + prcL t fell N l
theorem prcL_app (t : Trm) (fell : Bool) (N : Nat) : ∀ (l k : List (Nat × Nat)), prcL t fell N (l ++ k) = prcL t fell N l + prcL t fell N k
  | [], k => by simp [prcL]
  | p :: l, k => by rw [List.cons_append, prcL, prcL, prcL_app t fell N l k]; omega
theorem prcL_take {t : Trm} {fell : Bool} {N : Nat} {L : List (Nat × Nat)} {i : Nat} (h : i < L.length) : prcL t fell N (L.take (i + 1)) = prcL t fell N (L.take i) + prc1 t fell N L[i] := by
  rw [List.take_succ_eq_append_getElem h, prcL_app, prcL, prcL]; omega
theorem prc1_bd {t : Trm} {fell : Bool} {N : Nat} {p : Nat × Nat} (ht : t.ok = true) (h1 : p.1 < p.2) (h2 : p.2 ≤ 60) : 0 ≤ t.hour * ((p.2 : Int) - (p.1 : Int)) ∧ t.hour * ((p.2 : Int) - (p.1 : Int)) ≤ 60000 ∧ 0 ≤ prc1 t fell N p ∧ prc1 t fell N p ≤ 61000 := by
  have hb : (0 ≤ t.hour ∧ t.hour ≤ 1000) ∧ 0 ≤ t.price ∧ t.price ≤ 1000 := by
    unfold Trm.ok inB at ht
    simp only [Bool.and_eq_true, decide_eq_true_eq] at ht
    omega
  have k1 : 0 ≤ t.hour * ((p.2 : Int) - (p.1 : Int)) := Int.mul_nonneg hb.1.1 (by omega)
  have k2 : t.hour * ((p.2 : Int) - (p.1 : Int)) ≤ 1000 * 60 := Int.mul_le_mul hb.1.2 (by omega) (by omega) (by omega)
  unfold prc1
  split <;> omega
theorem prcL_bd {t : Trm} {fell : Bool} {N : Nat} (ht : t.ok = true) : ∀ {L : List (Nat × Nat)}, (∀ p ∈ L, p.1 < p.2 ∧ p.2 ≤ 60) → 0 ≤ prcL t fell N L ∧ prcL t fell N L ≤ 61000 * L.length
  | [], _ => by simp [prcL]
  | p :: L, h => by
    have h1 := prc1_bd (fell := fell) (N := N) ht (h p (by simp)).1 (h p (by simp)).2
    have h2 := prcL_bd (fell := fell) (N := N) ht (L := L) fun q hq => h q (by simp [hq])
    rw [prcL, List.length_cons]
    omega
/-- The alarm that is on at the end, or none. -/
def lastOf (L : List (Nat × Nat)) (N : Nat) : Nat × Nat := (L.find? fun p => decide (p.2 = N)).getD (0, 0)
theorem lastOf_none {L : List (Nat × Nat)} {N : Nat} (h : ∀ p ∈ L, p.2 ≠ N) : lastOf L N = (0, 0) := by
  unfold lastOf
  rw [List.find?_eq_none.2 fun p hp => by rw [decide_eq_true_eq]; exact h p hp]
  rfl
theorem lastOf_at {L : List (Nat × Nat)} {N i : Nat} (hi : i < L.length) (h : ∀ (j : Nat) (hj : j < L.length), j < i → L[j].2 ≠ N) (h2 : L[i].2 = N) : lastOf L N = L[i] := by
  unfold lastOf
  rw [show L.find? (fun p => decide (p.2 = N)) = some L[i] from List.find?_eq_some_iff_getElem.2 ⟨by simp [h2], i, hi, rfl, fun j hj => by simp [h j (by omega) hj]⟩]
  rfl
/-- In a list of alarms, one is the last one just if it is on at the end. -/
theorem last_iff {L : List (Nat × Nat)} {N : Nat} (hs : L.Pairwise fun p q => p.2 ≤ q.1) (hp : ∀ p ∈ L, p.1 < p.2 ∧ p.2 ≤ N) {p : Nat × Nat} (h : p ∈ L) : p = lastOf L N ↔ p.2 = N := by
  by_cases hn : ∀ q ∈ L, q.2 ≠ N
  · rw [lastOf_none hn]
    have h1 := hp p h
    constructor
    · intro e; rw [e] at h1; simp at h1
    · intro e; exact absurd e (hn p h)
  · obtain ⟨q, hq, hqN⟩ : ∃ q ∈ L, q.2 = N := by
      apply Classical.byContradiction
      intro hc
      exact hn fun q hq e => hc ⟨q, hq, e⟩
    have key : ∀ x ∈ L, ∀ y ∈ L, x.2 = N → y.2 = N → x = y := by
      intro x hx y hy e1 e2
      obtain ⟨i, hi, rfl⟩ := List.mem_iff_getElem.1 hx
      obtain ⟨j, hj, rfl⟩ := List.mem_iff_getElem.1 hy
      have hpw := List.pairwise_iff_getElem.1 hs
      have hxx := hp _ hx
      have hyy := hp _ hy
      rcases Nat.lt_trichotomy i j with k | k | k
      · have := hpw i j hi hj k; omega
      · subst k; rfl
      · have := hpw j i hj hi k; omega
    have hl : lastOf L N ∈ L ∧ (lastOf L N).2 = N := by
      unfold lastOf
      cases hf : L.find? (fun p => decide (p.2 = N)) with
      | none => exact absurd (List.find?_eq_none.1 hf q hq) (by simp [hqN])
      | some z => exact ⟨List.mem_of_find?_eq_some hf, by have := List.find?_some hf; simpa using this⟩
    constructor
    · intro e; rw [e]; exact hl.2
    · intro e; exact key p h _ hl.1 e hl.2
def prcS (t : Trm) (r : Rul) (s : Sea) : Int := prcL t s.fell s.sp.length (spellsOf s.sp r)
def lngL (s : Sea) (r : Rul) : Int := ((lastOf (spellsOf s.sp r) s.sp.length).2 : Int) - ((lastOf (spellsOf s.sp r) s.sp.length).1 : Int)
def fineS (t : Trm) (r : Rul) (s : Sea) : Bool := !s.fell || decide (max t.out 1 ≤ lngL s r)
def sumP (t : Trm) (r : Rul) (l : List Sea) : Int := (l.map (prcS t r)).sum
def allT (t : Trm) (r : Rul) (l : List Sea) : Bool := l.all (fineS t r)
theorem sumP_take {t : Trm} {r : Rul} {l : List Sea} {i : Nat} (h : i < l.length) : sumP t r (l.take (i + 1)) = sumP t r (l.take i) + prcS t r l[i] := by
  unfold sumP
  rw [List.take_succ_eq_append_getElem h, List.map_append, List.sum_append]; simp
theorem allT_take {t : Trm} {r : Rul} {l : List Sea} {i : Nat} (h : i < l.length) : allT t r (l.take (i + 1)) = (allT t r (l.take i) && fineS t r l[i]) := by
  unfold allT
  rw [List.take_succ_eq_append_getElem h, List.all_append]; simp
theorem spells_ok {s : Sea} {r : Rul} (hr : r.ok = true) (hl : s.sp.length ≤ 60) : (∀ p ∈ spellsOf s.sp r, p.1 < p.2 ∧ p.2 ≤ s.sp.length) ∧ (spellsOf s.sp r).length ≤ 60 ∧ (spellsOf s.sp r).Pairwise fun p q => p.2 ≤ q.1 := by
  have hrf := Rul.ok_facts hr
  refine ⟨fun p hp => ?_, ?_, spells_sorted hrf.2.2.1 s.sp.length 0 (by omega)⟩
  · have := spells_facts hrf.2.2.1 s.sp.length 0 (by omega) p hp
    exact ⟨this.2.1, this.2.2.1⟩
  · have := restOf_len (sp := s.sp) (r := r) hrf.2.2.1 s.sp.length 0 (by omega)
    unfold spellsOf; omega
theorem prcS_bd {t : Trm} {r : Rul} {s : Sea} (ht : t.ok = true) (hr : r.ok = true) (hl : s.sp.length ≤ 60) : 0 ≤ prcS t r s ∧ prcS t r s ≤ 3660000 := by
  obtain ⟨h1, h2, _⟩ := spells_ok (s := s) hr hl
  have := prcL_bd (fell := s.fell) (N := s.sp.length) ht (L := spellsOf s.sp r) fun p hp => ⟨(h1 p hp).1, by have := (h1 p hp).2; omega⟩
  unfold prcS
  omega
theorem sumP_bd {t : Trm} {r : Rul} (ht : t.ok = true) (hr : r.ok = true) : ∀ {l : List Sea}, (∀ s ∈ l, s.sp.length ≤ 60) → 0 ≤ sumP t r l ∧ sumP t r l ≤ 3660000 * l.length
  | [], _ => by simp [sumP]
  | s :: l, h => by
    have h1 := prcS_bd ht hr (h s (by simp))
    have h2 := sumP_bd ht hr (l := l) fun q hq => h q (by simp [hq])
    have e : sumP t r (s :: l) = prcS t r s + sumP t r l := by simp [sumP]
    rw [e, List.length_cons]
    omega
theorem bin76n (a b c d : Int) : binT Try.prog .neq 76 (.agg [I a, I b]) (.agg [I c, I d]) = some (.bool (!(decide (a = c) && decide (b = d)))) := by
  have e : binT Try.prog .neq 76 (.agg [I a, I b]) (.agg [I c, I d]) = ((match eqI a c with | true => (match eqI b d with | true => some true | false => some false) | false => some false).map fun z => .bool (!z)) := by kernel_rfl
  rw [e, eqI_eq, eqI_eq]
  have h1 : (a == c) = decide (a = c) := rfl
  have h2 : (b == d) = decide (b = d) := rfl
  rw [h1, h2]
  cases decide (a = c) <;> cases decide (b = d) <;> rfl
theorem c107 (m : Nat) (sv v : AV) (sp : List Int) (fell : Bool) (L : List (Nat × Nat)) (N : Nat) (H : Heap) (hs : lenOf sv = some N) (hR : Row H v 2 (L.map spc)) (hl : L.length ≤ 1000) : RR (m + 1) (.fn 107 [.agg [sv, .bool fell], v]) H = some (.agg (spc (lastOf L N)), H) := by
  refine (R_fn _ _ _ _ _).trans ?_
  refine fn_ok Try.func107 rfl rfl (by kernel_rfl) (by kernel_rfl) ?_
  obtain ⟨W, hW⟩ : ∃ W : Heap, W = ⟨H.t, H.next, H.next⟩ := ⟨_, rfl⟩
  have hg : ∀ n, W.get n = H.get n := fun n => by rw [hW]; rfl
  have hN : W.next = H.next := by rw [hW]
  have hE : ∀ G, Grow W G → Ext H G := fun G g => ⟨by rw [← hN]; exact g.next, fun n k => by rw [g.get n (by rw [hN]; exact k), hg]⟩
  have hG : Grow W W := Grow.refl (by rw [hW]; exact Nat.le_refl _)
  rw [← hW]
  have hlen : lenOf v = some L.length := by simpa using hR.len
  have pb := lpl hs
  refine Ok.seq ?_
  refine Ok.region ?_
  refine OkO.box rfl rfl ?_
  refine OkO.alloc (z := [.int .i64 0, .int .i64 0]) rfl (by kernel_rfl) ?_
  refine OkO.nil ?_
  refine Ok.seq ?_
  refine Ok.seq ?_
  refine Ok.region ?_
  refine OkO.move rfl rfl ?_
  refine OkO.builtin rfl rfl rfl (bln (by kernel_rfl) (by first | assumption | rfl)) ?_
  refine OkO.move rfl rfl ?_
  refine OkO.nil ?_
  refine Ok.block ?_
  refine Ok.loop (fun n s => ∃ i : Nat, n = L.length - i ∧ i ≤ L.length ∧ (∀ (j : Nat) (hj : j < L.length), j < i → L[j].2 ≠ N) ∧ Has 5 [(2, .ptr W.next 0), (4, .ptr (W.next + 1) 0), (7, v), (8, I (L.length : Int)), (9, I (i : Int))] s.T ∧ s.D = [] ∧ Grow W s.H ∧ s.H.get W.next = some (.cells [sv, .bool fell] 66) ∧ s.H.get (W.next + 1) = some (.cells [I 0, I 0] 76) ∧ W.next + 2 ≤ s.H.next) (L.length) (by unfold loopFuel; omega)
    ⟨0, rfl, Nat.zero_le _, nofun, Has.of (by kernel_rfl), rfl, (by (try dsimp only); repeat (first | exact hG | apply Grow.new | (refine Grow.put ?_ _ (by first | omega | (simp only [hNw, hPt]; omega))))), (by first | assumption | (simp (disch := first | omega | (simp only [hNw, hPt]; omega)) only [gn0, gn1, gn2, gn3, gn4, gn5, gp0, gno, gpo] <;> first | rfl | assumption | exact gp0 _ _ _ | exact gn0 _ _)), (by first | assumption | (simp (disch := first | omega | (simp only [hNw, hPt]; omega)) only [gn0, gn1, gn2, gn3, gn4, gn5, gp0, gno, gpo] <;> first | rfl | assumption | exact gp0 _ _ _ | exact gn0 _ _)), by simp⟩ ?_
  rintro n ⟨T, D, G⟩ ⟨i, hn, hi, hall, ⟨f, hT⟩, hD, hg, hb0, hb1, hn2p⟩
  dsimp only at *
  subst hT hD
  have hgn := hg.next
  have eb0 : (G.get W.next).bind AObj.cs = some [sv, .bool fell] := by rw [hb0]; rfl
  refine Ok.seq ?_
  refine Ok.region ?_
  refine OkO.bin rfl rfl rfl (bin_lss _ _) ?_
  refine OkO.nil ?_
  refine Ok.seq ?_
  refine Ok.cond rfl (fun h1 => ?_) (fun h1 => ?_)
  · -- yes h1
    have hlt : i < L.length := by simpa using h1
    obtain ⟨ab, ao, acs, a1, a2q, a3, a4, a5, a6⟩ := Row.spell hR hlt
    have a2 : (G.get ab).bind AObj.cs = some acs := by rw [(hE _ hg).get _ a6]; exact a2q
    refine Ok.skip ?_
    refine Ok.seq ?_
    refine Ok.block ?_
    refine Ok.seq ?_
    refine Ok.region ?_
    refine OkO.index (sz := 2) rfl rfl rfl (by kernel_rfl) (by first | assumption | rfl | exact slAt_slice (by omega) | exact slAt_opn (by omega)) ?_ -- index ('Go.Operand.tmp', 7) ('Go.Operand.tmp', 9)
    refine OkO.load rfl rfl (ldg (n := 2) (by kernel_rfl) (by first | assumption | (simp (disch := first | omega | (simp only [hNw, hPt]; omega)) only [gn0, gn1, gn2, gn3, gn4, gn5, gp0, gno, gpo] <;> first | rfl | assumption | exact gp0 _ _ _ | exact gn0 _ _)) (by first | rfl | assumption)) ?_
    refine OkO.alloc (z := [.int .i64 0, .int .i64 0]) rfl (by kernel_rfl) ?_
    refine OkO.store rfl rfl rfl (sAc (n := 2) (ag := true) (by kernel_rfl) (by first | assumption | (simp (disch := first | omega | (simp only [hNw, hPt]; omega)) only [gn0, gn1, gn2, gn3, gn4, gn5, gp0, gno, gpo] <;> first | rfl | assumption | exact gp0 _ _ _ | exact gn0 _ _)) rfl (by first | rfl | assumption) (by first | rfl | exact spl_set _ _ _ (by first | assumption | omega | (simp; omega)))) ?_
    refine OkO.nil ?_
    refine Ok.seq ?_
    refine Ok.region ?_
    refine OkO.fieldAddr (o := 1) rfl (by kernel_rfl) rfl ?_
    refine OkO.load rfl rfl (lda (n := 1) (by kernel_rfl) (by first | assumption | (simp (disch := first | omega | (simp only [hNw, hPt]; omega)) only [gn0, gn1, gn2, gn3, gn4, gn5, gp0, gno, gpo] <;> first | rfl | assumption | exact gp0 _ _ _ | exact gn0 _ _)) (by first | rfl | assumption)) ?_
    refine OkO.fieldAddr (o := 0) rfl (by kernel_rfl) rfl ?_
    refine OkO.load rfl rfl (lda (n := 1) (by kernel_rfl) (by first | assumption | (simp (disch := first | omega | (simp only [hNw, hPt]; omega)) only [gn0, gn1, gn2, gn3, gn4, gn5, gp0, gno, gpo] <;> first | rfl | assumption | exact gp0 _ _ _ | exact gn0 _ _)) (by first | rfl | assumption)) ?_
    refine OkO.builtin rfl rfl rfl (bln (by kernel_rfl) (by first | assumption | rfl)) ?_
    refine OkO.bin rfl rfl rfl (bin_eql _ _) ?_
    refine OkO.nil ?_
    refine Ok.cond rfl (fun h2 => ?_) (fun h2 => ?_)
    · -- yes h2
      have h29 : L[i].2 = N := by (have h9 : (L[i].2 : Int) = (N : Int) := by simpa using h2); omega
      refine Ok.seq ?_
      refine Ok.region ?_
      refine OkO.load rfl rfl (ldg (n := 2) (by kernel_rfl) (by first | assumption | (simp (disch := first | omega | (simp only [hNw, hPt]; omega)) only [gn0, gn1, gn2, gn3, gn4, gn5, gp0, gno, gpo] <;> first | rfl | assumption | exact gp0 _ _ _ | exact gn0 _ _)) (by first | rfl | assumption)) ?_
      refine OkO.store rfl rfl rfl (sAc (n := 2) (ag := true) (by kernel_rfl) (by first | assumption | (simp (disch := first | omega | (simp only [hNw, hPt]; omega)) only [gn0, gn1, gn2, gn3, gn4, gn5, gp0, gno, gpo] <;> first | rfl | assumption | exact gp0 _ _ _ | exact gn0 _ _)) rfl (by first | rfl | assumption) (by first | rfl | exact spl_set _ _ _ (by first | assumption | omega | (simp; omega)))) ?_
      refine OkO.nil ?_
      refine Ok.ret ⟨.inr rfl, ?_⟩
      exact back_flat (resV_cell rfl (ldg (n := 2) (by kernel_rfl) (by first | assumption | (simp (disch := first | omega | (simp only [hNw, hPt]; omega)) only [gn0, gn1, gn2, gn3, gn4, gn5, gp0, gno, gpo] <;> first | rfl | assumption)) (by first | rfl | assumption)) resV_nil) (by rw [lastOf_at hlt hall h29]; rfl) rfl (by rw [← hW]; exact (by (try dsimp only); repeat (first | exact hg | exact hG | apply Grow.new | (refine Grow.put ?_ _ (by first | omega | (simp only [hNw, hPt]; omega))))))
    · -- no h2
      refine Ok.skip ?_
      refine Ok.region ?_
      refine OkO.bin rfl rfl rfl (bin_add (by omega) (by omega)) ?_
      refine OkO.move rfl rfl ?_
      refine OkO.nil ?_
      refine ⟨L.length - (i + 1), by omega, i + 1, rfl, by omega, fun j hj hji => ?_, Has.of (by kernel_rfl), rfl, (by (try dsimp only); repeat (first | exact hg | exact hG | apply Grow.new | (refine Grow.put ?_ _ (by first | omega | (simp only [hNw, hPt]; omega))))), (by first | assumption | (simp (disch := first | omega | (simp only [hNw, hPt]; omega)) only [gn0, gn1, gn2, gn3, gn4, gn5, gp0, gno, gpo] <;> first | rfl | assumption | exact gp0 _ _ _ | exact gn0 _ _)), (by first | assumption | (simp (disch := first | omega | (simp only [hNw, hPt]; omega)) only [gn0, gn1, gn2, gn3, gn4, gn5, gp0, gno, gpo] <;> first | rfl | assumption | exact gp0 _ _ _ | exact gn0 _ _)), by simp; omega⟩
      by_cases e : j = i
      · subst e; intro h9; rw [h9] at h2; simp at h2
      · exact hall j hj (by omega)
  · -- no h1
    have hge : i = L.length := by simp at h1; omega
    refine Ok.exit ?_
    refine Ok.seq ?_
    refine Ok.region ?_
    refine OkO.build (z := [.int .i64 0, .int .i64 0]) (pl := [(0, 1), (1, 1)]) rfl (by kernel_rfl) rfl rfl ?_
    refine OkO.store rfl rfl rfl (sAc (n := 2) (ag := true) (by kernel_rfl) (by first | assumption | (simp (disch := first | omega | (simp only [hNw, hPt]; omega)) only [gn0, gn1, gn2, gn3, gn4, gn5, gp0, gno, gpo] <;> first | rfl | assumption | exact gp0 _ _ _ | exact gn0 _ _)) rfl (by first | rfl | assumption) (by first | rfl | exact spl_set _ _ _ (by first | assumption | omega | (simp; omega)))) ?_
    refine OkO.nil ?_
    refine Ok.ret ⟨.inr rfl, ?_⟩
    exact back_flat (resV_cell rfl (ldg (n := 2) (by kernel_rfl) (by first | assumption | (simp (disch := first | omega | (simp only [hNw, hPt]; omega)) only [gn0, gn1, gn2, gn3, gn4, gn5, gp0, gno, gpo] <;> first | rfl | assumption)) (by first | rfl | assumption)) resV_nil) (by rw [lastOf_none (all_of_get fun j hj => hall j hj (by omega))]; rfl) rfl (by rw [← hW]; exact (by (try dsimp only); repeat (first | exact hg | exact hG | apply Grow.new | (refine Grow.put ?_ _ (by first | omega | (simp only [hNw, hPt]; omega))))))
end
end Go.Ev

set_option maxRecDepth 100000
set_option linter.unusedSimpArgs false
set_option linter.unusedVariables false
namespace Go.Ev
open Go Go.Proofs
noncomputable section
theorem Trm.ok_facts {t : Trm} (h : t.ok = true) : (0 ≤ t.out ∧ t.out ≤ 60) ∧ (0 ≤ t.price ∧ t.price ≤ 1000) ∧ (0 ≤ t.hour ∧ t.hour ≤ 1000) ∧ (0 ≤ t.less ∧ t.less ≤ 1000) ∧ 1 ≤ t.hold ∧ t.hold ≤ 60 := by
  unfold Trm.ok inB at h
  simp only [Bool.and_eq_true, decide_eq_true_eq] at h
  omega
theorem pair_ne {p q : Nat × Nat} (h : (!(decide ((p.1 : Int) = (q.1 : Int)) && decide ((p.2 : Int) = (q.2 : Int)))) = true) : ¬ p = q := by
  intro e
  subst e
  simp at h
theorem pair_eq {p q : Nat × Nat} (h : (!(decide ((p.1 : Int) = (q.1 : Int)) && decide ((p.2 : Int) = (q.2 : Int)))) = false) : p = q := by
  simp at h
  exact Prod.ext (by omega) (by omega)
theorem lastOf_bd {L : List (Nat × Nat)} {N : Nat} (hp : ∀ p ∈ L, p.1 < p.2 ∧ p.2 ≤ N) (hN : N ≤ 1000) : (lastOf L N).1 ≤ 1000 ∧ (lastOf L N).2 ≤ 1000 := by
  unfold lastOf
  cases hf : L.find? (fun p => decide (p.2 = N)) with
  | none => simp
  | some z => have := hp z (List.mem_of_find?_eq_some hf); simp; omega
theorem c100 (m : Nat) (x : AV) (q : Sea) (t : Trm) (r : Rul) (H : Heap) (hU : Ints H x q.sp) (hl : q.sp.length ≤ 60) (ht : t.ok = true) (hr : r.ok = true) : RR (m + 3) (.fn 100 [.agg t.c, .agg [x, .bool q.fell], .agg r.c]) H = some (.tup [I (prcS t r q), .bool (fineS t r q)], H) := by
  refine (R_fn _ _ _ _ _).trans ?_
  refine fn_ok Try.func100 rfl rfl (by kernel_rfl) (by kernel_rfl) ?_
  obtain ⟨W, hW⟩ : ∃ W : Heap, W = ⟨H.t, H.next, H.next⟩ := ⟨_, rfl⟩
  have hg : ∀ n, W.get n = H.get n := fun n => by rw [hW]; rfl
  have hN : W.next = H.next := by rw [hW]
  have hE : ∀ G, Grow W G → Ext H G := fun G g => ⟨by rw [← hN]; exact g.next, fun n k => by rw [g.get n (by rw [hN]; exact k), hg]⟩
  have hG : Grow W W := Grow.refl (by rw [hW]; exact Nat.le_refl _)
  rw [← hW]
  have hlen := hU.len
  have pb : x.plain = true := lpl hlen
  have ps : AV.plain (.agg [x, .bool q.fell]) = true := by simp [AV.plain, AV.plains, pb]
  have hok := spells_ok (s := q) hr hl
  have hlb := lastOf_bd hok.1 (by omega)
  have htf := Trm.ok_facts ht
  refine Ok.seq ?_
  refine Ok.region ?_
  refine OkO.box rfl rfl ?_
  refine OkO.box rfl rfl ?_
  refine OkO.box rfl rfl ?_
  refine OkO.assign rfl rfl ?_
  refine OkO.assign rfl rfl ?_
  refine OkO.nil ?_
  refine Ok.seq ?_
  refine Ok.region ?_
  refine OkO.load rfl rfl (ldg (n := 2) (by kernel_rfl) (by first | assumption | (simp (disch := first | omega | (simp only [hNw, hPt]; omega)) only [gn0, gn1, gn2, gn3, gn4, gn5, gp0, gno, gpo] <;> first | rfl | assumption | exact gp0 _ _ _ | exact gn0 _ _)) (by first | rfl | assumption)) ?_
  refine OkO.load rfl rfl (ldg (n := 3) (by kernel_rfl) (by first | assumption | (simp (disch := first | omega | (simp only [hNw, hPt]; omega)) only [gn0, gn1, gn2, gn3, gn4, gn5, gp0, gno, gpo] <;> first | rfl | assumption | exact gp0 _ _ _ | exact gn0 _ _)) (by first | rfl | assumption)) ?_
  refine OkO.callE rfl rfl rfl rfl rfl (c76 (m + 0) x q.sp q.fell r _ (hU.ext (hE _ (by (try dsimp only); repeat (first | exact hG | apply Grow.new | (refine Grow.put ?_ _ (by first | omega | (simp only [hNw, hPt]; omega))))))) (by omega) hr) ?_ -- "(sackung/alarm.Season).spells"
  rintro y Ha ⟨qa, ma⟩
  have n1 := qa.ext.next
  try simp only [hNw, hPt] at n1
  have gg1 : Grow W Ha := Grow.ret (by (try dsimp only); repeat (first | exact hG | apply Grow.new | (refine Grow.put ?_ _ (by first | omega | (simp only [hNw, hPt]; omega))))) qa
  have a1 : (Ha.get (W.next)).bind AObj.cs = some t.c := by rw [qa.ext.get _ (by first | omega | (simp only [hNw, hPt]; omega))]; first | assumption | (rw [gn0]; rfl) | (rw [get_put_eq] <;> rfl) | (simp (disch := first | omega | (simp only [hNw, hPt]; omega)) only [gn0, gn1, gn2, gn3, gn4, gn5, gp0, gno, gpo] <;> first | rfl | assumption | (rw [get_put_eq] <;> rfl))
  have x1 : (Ha.get (W.next + 1)).bind AObj.cs = some [x, .bool q.fell] := by rw [qa.ext.get _ (by first | omega | (simp only [hNw, hPt]; omega))]; first | assumption | (rw [gn0]; rfl) | (rw [get_put_eq] <;> rfl) | (simp (disch := first | omega | (simp only [hNw, hPt]; omega)) only [gn0, gn1, gn2, gn3, gn4, gn5, gp0, gno, gpo] <;> first | rfl | assumption | (rw [get_put_eq] <;> rfl))
  have r1 : (Ha.get (W.next + 2)).bind AObj.cs = some r.c := by rw [qa.ext.get _ (by first | omega | (simp only [hNw, hPt]; omega))]; first | assumption | (rw [gn0]; rfl) | (rw [get_put_eq] <;> rfl) | (simp (disch := first | omega | (simp only [hNw, hPt]; omega)) only [gn0, gn1, gn2, gn3, gn4, gn5, gp0, gno, gpo] <;> first | rfl | assumption | (rw [get_put_eq] <;> rfl))
  have hyr := ma.spells
  have hyl : lenOf y = some (spellsOf q.sp r).length := by simpa using hyr.len
  refine OkO.assign rfl rfl ?_
  refine OkO.nil ?_
  refine Ok.seq ?_
  refine Ok.region ?_
  refine OkO.load rfl rfl (ldg (n := 2) (by kernel_rfl) (by first | assumption | (simp (disch := first | omega | (simp only [hNw, hPt]; omega)) only [gn0, gn1, gn2, gn3, gn4, gn5, gp0, gno, gpo] <;> first | rfl | assumption | exact gp0 _ _ _ | exact gn0 _ _)) (by first | rfl | assumption)) ?_
  refine OkO.move rfl rfl ?_
  refine OkO.callV rfl rfl rfl rfl rfl (c107 (m + 1) x y q.sp q.fell (spellsOf q.sp r) q.sp.length _ (by simpa using hU.len) hyr (by omega)) ?_ -- "(sackung/alarm.Season).last"
  refine OkO.alloc (z := [.int .i64 0, .int .i64 0]) rfl (by kernel_rfl) ?_
  refine OkO.store rfl rfl rfl (sAc (n := 2) (ag := true) (by kernel_rfl) (by first | assumption | (simp (disch := first | omega | (simp only [hNw, hPt]; omega)) only [gn0, gn1, gn2, gn3, gn4, gn5, gp0, gno, gpo] <;> first | rfl | assumption | exact gp0 _ _ _ | exact gn0 _ _)) rfl (by first | rfl | assumption) (by first | rfl | exact spl_set _ _ _ (by first | assumption | omega | (simp; omega)))) ?_
  refine OkO.nil ?_
  refine Ok.seq ?_
  refine Ok.seq ?_
  refine Ok.region ?_
  refine OkO.move rfl rfl ?_
  refine OkO.builtin rfl rfl rfl (bln (by kernel_rfl) (by first | assumption | rfl)) ?_
  refine OkO.move rfl rfl ?_
  refine OkO.nil ?_
  refine Ok.block ?_
  have hNH : H.next ≤ W.next := by omega
  refine Ok.loop (fun n s => ∃ i : Nat, n = (spellsOf q.sp r).length - i ∧ i ≤ (spellsOf q.sp r).length ∧ Has 6 [(3, .ptr W.next 0), (4, .ptr (W.next + 1) 0), (5, .ptr (W.next + 2) 0), (6, I (prcL t q.fell q.sp.length ((spellsOf q.sp r).take i))), (9, .ptr Ha.next 0), (18, y), (19, I ((spellsOf q.sp r).length : Int)), (20, I (i : Int))] s.T ∧ s.D = [] ∧ Grow W s.H ∧ Ext Ha s.H ∧ s.H.get Ha.next = some (.cells (spc (lastOf (spellsOf q.sp r) q.sp.length)) 76) ∧ Ha.next < s.H.next) ((spellsOf q.sp r).length) (by unfold loopFuel; omega)
    ⟨0, rfl, Nat.zero_le _, Has.of (by kernel_rfl), rfl, (by (try dsimp only); repeat (first | exact gg1 | apply Grow.new | (refine Grow.put ?_ _ (by first | omega | (simp only [hNw, hPt]; omega))))), (by (try dsimp only); repeat (first | exact Ext.refl _ | assumption | apply Ext.new | (refine Ext.put ?_ _ (by first | omega | (simp only [hNw, hPt]; omega))))), (by first | assumption | (simp (disch := first | omega | (simp only [hNw, hPt]; omega)) only [gn0, gn1, gn2, gn3, gn4, gn5, gp0, gno, gpo] <;> first | rfl | assumption | exact gp0 _ _ _ | exact gn0 _ _)), by simp⟩ ?_
  rintro n ⟨T, D, G⟩ ⟨i, hn, hi, ⟨f, hT⟩, hD, hg, hx9, hbl, hbn⟩
  dsimp only at *
  subst hT hD
  have hgn := hg.next
  have eb0 : (G.get W.next).bind AObj.cs = some t.c := by rw [hx9.get _ (by omega)]; exact a1
  have eb1 : (G.get (W.next + 1)).bind AObj.cs = some [x, .bool q.fell] := by rw [hx9.get _ (by omega)]; exact x1
  have ebl : (G.get Ha.next).bind AObj.cs = some (spc (lastOf (spellsOf q.sp r) q.sp.length)) := by rw [hbl]; rfl
  refine Ok.seq ?_
  refine Ok.region ?_
  refine OkO.bin rfl rfl rfl (bin_lss _ _) ?_
  refine OkO.nil ?_
  refine Ok.seq ?_
  refine Ok.cond rfl (fun h1 => ?_) (fun h1 => ?_)
  · -- yes h1
    have hlt : i < (spellsOf q.sp r).length := by simpa using h1
    have hpi := hok.1 (spellsOf q.sp r)[i] (List.getElem_mem hlt)
    have hpb := prc1_bd (fell := q.fell) (N := q.sp.length) ht hpi.1 (by omega)
    have hqb := prcL_bd (fell := q.fell) (N := q.sp.length) ht (L := (spellsOf q.sp r).take i) (fun p hp => by have h9 := hok.1 p (List.mem_of_mem_take hp); omega)
    rw [List.length_take] at hqb
    obtain ⟨ab, ao, acs, k1, k2q, k3, k4, k5, k6⟩ := Row.spell hyr hlt
    have k2 : (G.get ab).bind AObj.cs = some acs := by rw [hx9.get _ k6]; exact k2q
    refine Ok.skip ?_
    refine Ok.seq ?_
    refine Ok.block ?_
    refine Ok.seq ?_
    refine Ok.region ?_
    refine OkO.index (sz := 2) rfl rfl rfl (by kernel_rfl) (by first | assumption | rfl | exact slAt_slice (by omega) | exact slAt_opn (by omega)) ?_ -- index ('Go.Operand.tmp', 18) ('Go.Operand.tmp', 20)
    refine OkO.load rfl rfl (ldg (n := 2) (by kernel_rfl) (by first | assumption | (simp (disch := first | omega | (simp only [hNw, hPt]; omega)) only [gn0, gn1, gn2, gn3, gn4, gn5, gp0, gno, gpo] <;> first | rfl | assumption | exact gp0 _ _ _ | exact gn0 _ _)) (by first | rfl | assumption)) ?_
    refine OkO.alloc (z := [.int .i64 0, .int .i64 0]) rfl (by kernel_rfl) ?_
    refine OkO.store rfl rfl rfl (sAc (n := 2) (ag := true) (by kernel_rfl) (by first | assumption | (simp (disch := first | omega | (simp only [hNw, hPt]; omega)) only [gn0, gn1, gn2, gn3, gn4, gn5, gp0, gno, gpo] <;> first | rfl | assumption | exact gp0 _ _ _ | exact gn0 _ _)) rfl (by first | rfl | assumption) (by first | rfl | exact spl_set _ _ _ (by first | assumption | omega | (simp; omega)))) ?_
    refine OkO.nil ?_
    refine Ok.seq ?_
    refine Ok.drawn [(0, true, []), (1, true, []), (2, true, []), (3, true, []), (4, false, [2]), (5, true, []), (6, true, []), (7, false, [])] (by kernel_rfl) ?_
    refine OkP.step ?_
    refine OkO.move rfl rfl ?_
    refine OkO.nil ⟨rfl, ?_⟩
    refine OkP.step ?_
    refine OkO.fieldAddr (o := 2) rfl (by kernel_rfl) rfl ?_
    refine OkO.nil ⟨rfl, ?_⟩
    refine OkP.step ?_
    refine OkO.load rfl rfl (lda (n := 1) (by kernel_rfl) (by first | assumption | (simp (disch := first | omega | (simp only [hNw, hPt]; omega)) only [gn0, gn1, gn2, gn3, gn4, gn5, gp0, gno, gpo] <;> first | rfl | assumption | exact gp0 _ _ _ | exact gn0 _ _)) (by first | rfl | assumption)) ?_
    refine OkO.nil ⟨rfl, ?_⟩
    refine OkP.step ?_
    refine OkO.load rfl rfl (ldg (n := 2) (by kernel_rfl) (by first | assumption | (simp (disch := first | omega | (simp only [hNw, hPt]; omega)) only [gn0, gn1, gn2, gn3, gn4, gn5, gp0, gno, gpo] <;> first | rfl | assumption | exact gp0 _ _ _ | exact gn0 _ _)) (by first | rfl | assumption)) ?_
    refine OkO.nil ⟨rfl, ?_⟩
    refine OkP.step ?_
    refine OkO.callV rfl rfl rfl rfl rfl (c108 (m + 1) _ _ _ (by omega) (by omega)) ?_ -- "(sackung/alarm.Spell).hours"
    refine OkO.nil ⟨(sco (sld rfl rfl (lda (n := 1) (by kernel_rfl) (by first | assumption | (simp (disch := first | omega | (simp only [hNw, hPt]; omega)) only [gn0, gn1, gn2, gn3, gn4, gn5, gp0, gno, gpo] <;> first | rfl | assumption | exact gp0 _ _ _ | exact gn0 _ _)) (by first | rfl | assumption)) rfl (eqr _ (by first | rfl | exact ps | exact lpl (by assumption) | (simp [AV.plain, AV.plains, AV.cells, pb])))) rfl), ?_⟩
    refine OkP.step ?_
    refine OkO.bin rfl rfl rfl (bin_mul (by omega) (by omega)) ?_
    refine OkO.nil ⟨rfl, ?_⟩
    refine OkP.step ?_
    refine OkO.bin rfl rfl rfl (bin_add (by omega) (by omega)) ?_
    refine OkO.nil ⟨rfl, ?_⟩
    refine OkP.step ?_
    refine OkO.assign rfl rfl ?_
    refine OkO.nil ⟨rfl, ?_⟩
    refine OkP.nil ?_
    refine Ok.seq ?_
    refine Ok.region ?_
    refine OkO.fieldAddr (o := 1) rfl (by kernel_rfl) rfl ?_
    refine OkO.load rfl rfl (lda (n := 1) (by kernel_rfl) (by first | assumption | (simp (disch := first | omega | (simp only [hNw, hPt]; omega)) only [gn0, gn1, gn2, gn3, gn4, gn5, gp0, gno, gpo] <;> first | rfl | assumption | exact gp0 _ _ _ | exact gn0 _ _)) (by first | rfl | assumption)) ?_
    refine OkO.un rfl rfl rfl ?_
    refine OkO.move rfl rfl ?_
    refine OkO.split (d := 34) rfl (fun g2 => ?_) (fun g2 => ?_)
    · -- true g2
      have hf : q.fell = false := by simpa using g2
      refine OkO.skip rfl ?_
      refine OkO.skip rfl ?_
      refine OkO.skip rfl ?_
      refine OkO.pick (b := true) rfl rfl (fun _ => rfl) nofun ?_
      refine OkO.nil ?_
      refine Ok.condT rfl ?_
      refine Ok.region ?_
      refine OkO.move rfl rfl ?_
      refine OkO.fieldAddr (o := 1) rfl (by kernel_rfl) rfl ?_
      refine OkO.load rfl rfl (lda (n := 1) (by kernel_rfl) (by first | assumption | (simp (disch := first | omega | (simp only [hNw, hPt]; omega)) only [gn0, gn1, gn2, gn3, gn4, gn5, gp0, gno, gpo] <;> first | rfl | assumption | exact gp0 _ _ _ | exact gn0 _ _)) (by first | rfl | assumption)) ?_
      refine OkO.bin rfl rfl rfl (bin_add (by omega) (by omega)) ?_
      refine OkO.assign rfl rfl ?_
      refine OkO.nil ?_
      refine Ok.region ?_
      refine OkO.bin rfl rfl rfl (bin_add (by omega) (by omega)) ?_
      refine OkO.move rfl rfl ?_
      refine OkO.nil ?_
      have e6 : prcL t q.fell q.sp.length ((spellsOf q.sp r).take (i + 1)) = prcL t q.fell q.sp.length ((spellsOf q.sp r).take i) + t.hour * (((spellsOf q.sp r)[i].2 : Int) - ((spellsOf q.sp r)[i].1 : Int)) + t.price := by rw [prcL_take hlt, prc1, if_pos (.inl hf)]; omega
      refine ⟨(spellsOf q.sp r).length - (i + 1), by omega, i + 1, rfl, by omega, ?_, rfl, (by (try dsimp only); repeat (first | exact hg | exact hG | apply Grow.new | (refine Grow.put ?_ _ (by first | omega | (simp only [hNw, hPt]; omega))))), (by (try dsimp only); repeat (first | exact Ext.refl _ | assumption | apply Ext.new | (refine Ext.put ?_ _ (by first | omega | (simp only [hNw, hPt]; omega))))), (by first | assumption | (simp (disch := first | omega | (simp only [hNw, hPt]; omega)) only [gn0, gn1, gn2, gn3, gn4, gn5, gp0, gno, gpo] <;> first | rfl | assumption | exact gp0 _ _ _ | exact gn0 _ _)), by simp; omega⟩
      rw [e6]
      exact Has.of (by kernel_rfl)
    · -- false g2
      have hf : q.fell = true := by simpa using g2
      refine OkO.load rfl rfl (ldg (n := 2) (by kernel_rfl) (by first | assumption | (simp (disch := first | omega | (simp only [hNw, hPt]; omega)) only [gn0, gn1, gn2, gn3, gn4, gn5, gp0, gno, gpo] <;> first | rfl | assumption | exact gp0 _ _ _ | exact gn0 _ _)) (by first | rfl | assumption)) ?_
      refine OkO.load rfl rfl (ldg (n := 2) (by kernel_rfl) (by first | assumption | (simp (disch := first | omega | (simp only [hNw, hPt]; omega)) only [gn0, gn1, gn2, gn3, gn4, gn5, gp0, gno, gpo] <;> first | rfl | assumption | exact gp0 _ _ _ | exact gn0 _ _)) (by first | rfl | assumption)) ?_
      refine OkO.binT rfl rfl rfl (bin76n _ _ _ _) ?_
      refine OkO.pick (b := false) rfl rfl nofun (fun _ => rfl) ?_
      refine OkO.nil ?_
      refine Ok.cond rfl (fun h3 => ?_) (fun h3 => ?_)
      · -- yes h3
        have h8 := mt (last_iff (N := q.sp.length) hok.2.2 hok.1 (p := (spellsOf q.sp r)[i]) (List.getElem_mem hlt)).2 (pair_ne h3)
        have hpn : (spellsOf q.sp r)[i].2 < q.sp.length := by omega
        refine Ok.region ?_
        refine OkO.move rfl rfl ?_
        refine OkO.fieldAddr (o := 1) rfl (by kernel_rfl) rfl ?_
        refine OkO.load rfl rfl (lda (n := 1) (by kernel_rfl) (by first | assumption | (simp (disch := first | omega | (simp only [hNw, hPt]; omega)) only [gn0, gn1, gn2, gn3, gn4, gn5, gp0, gno, gpo] <;> first | rfl | assumption | exact gp0 _ _ _ | exact gn0 _ _)) (by first | rfl | assumption)) ?_
        refine OkO.bin rfl rfl rfl (bin_add (by omega) (by omega)) ?_
        refine OkO.assign rfl rfl ?_
        refine OkO.nil ?_
        refine Ok.region ?_
        refine OkO.bin rfl rfl rfl (bin_add (by omega) (by omega)) ?_
        refine OkO.move rfl rfl ?_
        refine OkO.nil ?_
        have e6 : prcL t q.fell q.sp.length ((spellsOf q.sp r).take (i + 1)) = prcL t q.fell q.sp.length ((spellsOf q.sp r).take i) + t.hour * (((spellsOf q.sp r)[i].2 : Int) - ((spellsOf q.sp r)[i].1 : Int)) + t.price := by rw [prcL_take hlt, prc1, if_pos (.inr hpn)]; omega
        refine ⟨(spellsOf q.sp r).length - (i + 1), by omega, i + 1, rfl, by omega, ?_, rfl, (by (try dsimp only); repeat (first | exact hg | exact hG | apply Grow.new | (refine Grow.put ?_ _ (by first | omega | (simp only [hNw, hPt]; omega))))), (by (try dsimp only); repeat (first | exact Ext.refl _ | assumption | apply Ext.new | (refine Ext.put ?_ _ (by first | omega | (simp only [hNw, hPt]; omega))))), (by first | assumption | (simp (disch := first | omega | (simp only [hNw, hPt]; omega)) only [gn0, gn1, gn2, gn3, gn4, gn5, gp0, gno, gpo] <;> first | rfl | assumption | exact gp0 _ _ _ | exact gn0 _ _)), by simp; omega⟩
        rw [e6]
        exact Has.of (by kernel_rfl)
      · -- no h3
        have hpn := (last_iff (N := q.sp.length) hok.2.2 hok.1 (p := (spellsOf q.sp r)[i]) (List.getElem_mem hlt)).1 (pair_eq h3)
        refine Ok.skip ?_
        refine Ok.region ?_
        refine OkO.bin rfl rfl rfl (bin_add (by omega) (by omega)) ?_
        refine OkO.move rfl rfl ?_
        refine OkO.nil ?_
        have e6 : prcL t q.fell q.sp.length ((spellsOf q.sp r).take (i + 1)) = prcL t q.fell q.sp.length ((spellsOf q.sp r).take i) + t.hour * (((spellsOf q.sp r)[i].2 : Int) - ((spellsOf q.sp r)[i].1 : Int)) := by rw [prcL_take hlt, prc1, if_neg (by intro h9; rcases h9 with h9 | h9; (· rw [hf] at h9; cases h9); (· omega))]; omega
        refine ⟨(spellsOf q.sp r).length - (i + 1), by omega, i + 1, rfl, by omega, ?_, rfl, (by (try dsimp only); repeat (first | exact hg | exact hG | apply Grow.new | (refine Grow.put ?_ _ (by first | omega | (simp only [hNw, hPt]; omega))))), (by (try dsimp only); repeat (first | exact Ext.refl _ | assumption | apply Ext.new | (refine Ext.put ?_ _ (by first | omega | (simp only [hNw, hPt]; omega))))), (by first | assumption | (simp (disch := first | omega | (simp only [hNw, hPt]; omega)) only [gn0, gn1, gn2, gn3, gn4, gn5, gp0, gno, gpo] <;> first | rfl | assumption | exact gp0 _ _ _ | exact gn0 _ _)), by simp; omega⟩
        rw [e6]
        exact Has.of (by kernel_rfl)
  · -- no h1
    have hge : (spellsOf q.sp r).length ≤ i := by simp at h1; omega
    rw [List.take_of_length_le hge]
    refine Ok.exit ?_
    refine Ok.seq ?_
    refine Ok.drawn [(0, true, []), (1, true, []), (2, true, []), (3, true, []), (4, true, []), (5, true, []), (7, true, []), (8, true, []), (9, true, []), (6, false, [8, 2]), (10, true, []), (11, true, []), (12, false, [8, 5, 2]), (13, true, [])] (by kernel_rfl) ?_
    refine OkP.step ?_
    refine OkO.move rfl rfl ?_
    refine OkO.nil ⟨rfl, ?_⟩
    refine OkP.step ?_
    refine OkO.fieldAddr (o := 1) rfl (by kernel_rfl) rfl ?_
    refine OkO.nil ⟨rfl, ?_⟩
    refine OkP.step ?_
    refine OkO.load rfl rfl (lda (n := 1) (by kernel_rfl) (by first | assumption | (simp (disch := first | omega | (simp only [hNw, hPt]; omega)) only [gn0, gn1, gn2, gn3, gn4, gn5, gp0, gno, gpo] <;> first | rfl | assumption | exact gp0 _ _ _ | exact gn0 _ _)) (by first | rfl | assumption)) ?_
    refine OkO.nil ⟨rfl, ?_⟩
    refine OkP.step ?_
    refine OkO.un rfl rfl rfl ?_
    refine OkO.nil ⟨rfl, ?_⟩
    refine OkP.step ?_
    refine OkO.move rfl rfl ?_
    refine OkO.nil ⟨rfl, ?_⟩
    refine OkP.split (d := 48) rfl (fun g4 => ?_) (fun g4 => ?_)
    · -- true g4
      have hf : q.fell = false := by simpa using g4
      refine OkP.step ?_
      refine OkO.skip rfl ?_
      refine OkO.nil ⟨rfl, ?_⟩
      refine OkP.step ?_
      refine OkO.skip rfl ?_
      refine OkO.nil ⟨rfl, ?_⟩
      refine OkP.step ?_
      refine OkO.skip rfl ?_
      refine OkO.nil ⟨rfl, ?_⟩
      refine OkP.step ?_
      refine OkO.skip rfl ?_
      refine OkO.nil ⟨rfl, ?_⟩
      refine OkP.step ?_
      refine OkO.skip rfl ?_
      refine OkO.nil ⟨(sco (still_skip rfl) (sco (sld rfl rfl (lda (n := 1) (by kernel_rfl) (by first | assumption | (simp (disch := first | omega | (simp only [hNw, hPt]; omega)) only [gn0, gn1, gn2, gn3, gn4, gn5, gp0, gno, gpo] <;> first | rfl | assumption | exact gp0 _ _ _ | exact gn0 _ _)) (by first | rfl | assumption)) rfl (eqr _ (by first | rfl | exact ps | exact lpl (by assumption) | (simp [AV.plain, AV.plains, AV.cells, pb])))) rfl)), ?_⟩
      refine OkP.step ?_
      refine OkO.skip rfl ?_
      refine OkO.nil ⟨rfl, ?_⟩
      refine OkP.step ?_
      refine OkO.pick (b := true) rfl rfl (fun _ => rfl) nofun ?_
      refine OkO.nil ⟨rfl, ?_⟩
      refine OkP.step ?_
      refine OkO.assign rfl rfl ?_
      refine OkO.nil ⟨(sco (still_skip rfl) (sco (still_skip rfl) (sco (sld rfl rfl (lda (n := 1) (by kernel_rfl) (by first | assumption | (simp (disch := first | omega | (simp only [hNw, hPt]; omega)) only [gn0, gn1, gn2, gn3, gn4, gn5, gp0, gno, gpo] <;> first | rfl | assumption | exact gp0 _ _ _ | exact gn0 _ _)) (by first | rfl | assumption)) rfl (eqr _ (by first | rfl | exact ps | exact lpl (by assumption) | (simp [AV.plain, AV.plains, AV.cells, pb])))) rfl))), ?_⟩
      refine OkP.step ?_
      refine OkO.assign rfl rfl ?_
      refine OkO.nil ⟨rfl, ?_⟩
      refine OkP.nil ?_
      refine Ok.ret ⟨.inr rfl, ?_⟩
      exact back_flat rfl (by unfold fineS prcS; rw [hf]; rfl) rfl (by rw [← hW]; exact (by (try dsimp only); repeat (first | exact hg | exact hG | apply Grow.new | (refine Grow.put ?_ _ (by first | omega | (simp only [hNw, hPt]; omega))))))
    · -- false g4
      have hf : q.fell = true := by simpa using g4
      refine OkP.step ?_
      refine OkO.load rfl rfl (ldg (n := 2) (by kernel_rfl) (by first | assumption | (simp (disch := first | omega | (simp only [hNw, hPt]; omega)) only [gn0, gn1, gn2, gn3, gn4, gn5, gp0, gno, gpo] <;> first | rfl | assumption | exact gp0 _ _ _ | exact gn0 _ _)) (by first | rfl | assumption)) ?_
      refine OkO.nil ⟨rfl, ?_⟩
      refine OkP.step ?_
      refine OkO.fieldAddr (o := 0) rfl (by kernel_rfl) rfl ?_
      refine OkO.nil ⟨rfl, ?_⟩
      refine OkP.step ?_
      refine OkO.load rfl rfl (lda (n := 1) (by kernel_rfl) (by first | assumption | (simp (disch := first | omega | (simp only [hNw, hPt]; omega)) only [gn0, gn1, gn2, gn3, gn4, gn5, gp0, gno, gpo] <;> first | rfl | assumption | exact gp0 _ _ _ | exact gn0 _ _)) (by first | rfl | assumption)) ?_
      refine OkO.nil ⟨rfl, ?_⟩
      refine OkP.step ?_
      refine OkO.builtin rfl rfl rfl (builtin_max2 _ _) ?_
      refine OkO.nil ⟨rfl, ?_⟩
      refine OkP.step ?_
      refine OkO.callV rfl rfl rfl rfl rfl (c108 (m + 1) _ _ _ (by omega) (by omega)) ?_ -- "(sackung/alarm.Spell).hours"
      refine OkO.nil ⟨(sco (sld rfl rfl (lda (n := 1) (by kernel_rfl) (by first | assumption | (simp (disch := first | omega | (simp only [hNw, hPt]; omega)) only [gn0, gn1, gn2, gn3, gn4, gn5, gp0, gno, gpo] <;> first | rfl | assumption | exact gp0 _ _ _ | exact gn0 _ _)) (by first | rfl | assumption)) rfl (eqr _ (by first | rfl | exact ps | exact lpl (by assumption) | (simp [AV.plain, AV.plains, AV.cells, pb])))) (sco (sld rfl rfl (lda (n := 1) (by kernel_rfl) (by first | assumption | (simp (disch := first | omega | (simp only [hNw, hPt]; omega)) only [gn0, gn1, gn2, gn3, gn4, gn5, gp0, gno, gpo] <;> first | rfl | assumption | exact gp0 _ _ _ | exact gn0 _ _)) (by first | rfl | assumption)) rfl (eqr _ (by first | rfl | exact ps | exact lpl (by assumption) | (simp [AV.plain, AV.plains, AV.cells, pb])))) rfl)), ?_⟩
      refine OkP.step ?_
      refine OkO.bin rfl rfl rfl (bin_geq _ _) ?_
      refine OkO.nil ⟨rfl, ?_⟩
      refine OkP.step ?_
      refine OkO.pick (b := false) rfl rfl nofun (fun _ => rfl) ?_
      refine OkO.nil ⟨rfl, ?_⟩
      refine OkP.step ?_
      refine OkO.assign rfl rfl ?_
      refine OkO.nil ⟨(sco (sld rfl rfl (lda (n := 1) (by kernel_rfl) (by first | assumption | (simp (disch := first | omega | (simp only [hNw, hPt]; omega)) only [gn0, gn1, gn2, gn3, gn4, gn5, gp0, gno, gpo] <;> first | rfl | assumption | exact gp0 _ _ _ | exact gn0 _ _)) (by first | rfl | assumption)) rfl (eqr _ (by first | rfl | exact ps | exact lpl (by assumption) | (simp [AV.plain, AV.plains, AV.cells, pb])))) (sco (sld rfl rfl (ldg (n := 2) (by kernel_rfl) (by first | assumption | (simp (disch := first | omega | (simp only [hNw, hPt]; omega)) only [gn0, gn1, gn2, gn3, gn4, gn5, gp0, gno, gpo] <;> first | rfl | assumption | exact gp0 _ _ _ | exact gn0 _ _)) (by first | rfl | assumption)) rfl (eqr _ (by first | rfl | exact ps | exact lpl (by assumption) | (simp [AV.plain, AV.plains, AV.cells, pb])))) (sco (sld rfl rfl (lda (n := 1) (by kernel_rfl) (by first | assumption | (simp (disch := first | omega | (simp only [hNw, hPt]; omega)) only [gn0, gn1, gn2, gn3, gn4, gn5, gp0, gno, gpo] <;> first | rfl | assumption | exact gp0 _ _ _ | exact gn0 _ _)) (by first | rfl | assumption)) rfl (eqr _ (by first | rfl | exact ps | exact lpl (by assumption) | (simp [AV.plain, AV.plains, AV.cells, pb])))) rfl))), ?_⟩
      refine OkP.step ?_
      refine OkO.assign rfl rfl ?_
      refine OkO.nil ⟨rfl, ?_⟩
      refine OkP.nil ?_
      refine Ok.ret ⟨.inr rfl, ?_⟩
      exact back_flat rfl (by unfold fineS lngL prcS; rw [hf]; rfl) rfl (by rw [← hW]; exact (by (try dsimp only); repeat (first | exact hg | exact hG | apply Grow.new | (refine Grow.put ?_ _ (by first | omega | (simp only [hNw, hPt]; omega))))))
end
end Go.Ev

set_option maxRecDepth 100000
set_option linter.unusedSimpArgs false
set_option linter.unusedVariables false
namespace Go.Ev
open Go Go.Proofs
noncomputable section
theorem c78 (m : Nat) (v : AV) (l : List Sea) (t : Trm) (r : Rul) (H : Heap) (hS : SeasAt H v l) (hl9 : l.length ≤ 10) (hs9 : ∀ s ∈ l, s.sp.length ≤ 60) (ht : t.ok = true) (hr : r.ok = true) : RR (m + 4) (.fn 78 [.agg t.c, v, .agg r.c]) H = some (.tup [I (sumP t r l), .bool (allT t r l)], H) := by
  refine (R_fn _ _ _ _ _).trans ?_
  refine fn_ok Try.func78 rfl rfl (by kernel_rfl) (by kernel_rfl) ?_
  obtain ⟨W, hW⟩ : ∃ W : Heap, W = ⟨H.t, H.next, H.next⟩ := ⟨_, rfl⟩
  have hg : ∀ n, W.get n = H.get n := fun n => by rw [hW]; rfl
  have hN : W.next = H.next := by rw [hW]
  have hE : ∀ G, Grow W G → Ext H G := fun G g => ⟨by rw [← hN]; exact g.next, fun n k => by rw [g.get n (by rw [hN]; exact k), hg]⟩
  have hG : Grow W W := Grow.refl (by rw [hW]; exact Nat.le_refl _)
  rw [← hW]
  have hlen := hS.len
  refine Ok.seq ?_
  refine Ok.region ?_
  refine OkO.box rfl rfl ?_
  refine OkO.box rfl rfl ?_
  refine OkO.assign rfl rfl ?_
  refine OkO.assign rfl rfl ?_
  refine OkO.nil ?_
  refine Ok.seq ?_
  refine Ok.region ?_
  refine OkO.assign rfl rfl ?_
  refine OkO.nil ?_
  refine Ok.seq ?_
  refine Ok.seq ?_
  refine Ok.region ?_
  refine OkO.move rfl rfl ?_
  refine OkO.builtin rfl rfl rfl (bln (by kernel_rfl) (by first | assumption | rfl)) ?_
  refine OkO.move rfl rfl ?_
  refine OkO.nil ?_
  refine Ok.block ?_
  refine Ok.loop (fun n s => ∃ i : Nat, n = l.length - i ∧ i ≤ l.length ∧ Has 6 [(3, .ptr W.next 0), (5, .ptr (W.next + 1) 0), (6, I (sumP t r (l.take i))), (7, .bool (allT t r (l.take i))), (12, v), (13, I (l.length : Int)), (14, I (i : Int))] s.T ∧ s.D = [] ∧ Grow W s.H ∧ s.H.get W.next = some (.cells t.c 86) ∧ s.H.get (W.next + 1) = some (.cells r.c 68) ∧ W.next + 2 ≤ s.H.next) (l.length) (by unfold loopFuel; omega)
    ⟨0, rfl, Nat.zero_le _, Has.of (by kernel_rfl), rfl, (by (try dsimp only); repeat (first | exact hG | apply Grow.new | (refine Grow.put ?_ _ (by first | omega | (simp only [hNw, hPt]; omega))))), (by first | assumption | (simp (disch := first | omega | (simp only [hNw, hPt]; omega)) only [gn0, gn1, gn2, gn3, gn4, gn5, gp0, gno, gpo] <;> first | rfl | assumption | exact gp0 _ _ _ | exact gn0 _ _)), (by first | assumption | (simp (disch := first | omega | (simp only [hNw, hPt]; omega)) only [gn0, gn1, gn2, gn3, gn4, gn5, gp0, gno, gpo] <;> first | rfl | assumption | exact gp0 _ _ _ | exact gn0 _ _)), by simp⟩ ?_
  rintro n ⟨T, D, G⟩ ⟨i, hn, hi, ⟨f, hT⟩, hD, hg, hb0, hb1, hn2p⟩
  dsimp only at *
  subst hT hD
  have hgn := hg.next
  have eb0 : (G.get W.next).bind AObj.cs = some t.c := by rw [hb0]; rfl
  have eb1 : (G.get (W.next + 1)).bind AObj.cs = some r.c := by rw [hb1]; rfl
  refine Ok.seq ?_
  refine Ok.region ?_
  refine OkO.bin rfl rfl rfl (bin_lss _ _) ?_
  refine OkO.nil ?_
  refine Ok.seq ?_
  refine Ok.cond rfl (fun h1 => ?_) (fun h1 => ?_)
  · -- yes h1
    have hlt : i < l.length := by simpa using h1
    obtain ⟨x, bb, off, cs, i1, i2q, i3, i4, i5, i6, i7⟩ := hS.at_ i hlt
    have i2 : (G.get bb).bind AObj.cs = some cs := by rw [(hE _ hg).get _ i6]; exact i2q
    obtain ⟨x1, x2⟩ := len_one i7.len
    have px : x.plain = true := lpl i7.len
    have psx : AV.plain (.agg [x, .bool l[i].fell]) = true := by simp [AV.plain, AV.plains, px]
    have at1 : atoms (AV.agg [x, .bool l[i].fell]).cells = true := by (show atoms [x, .bool l[i].fell] = true; simp [atoms, x2, show ∀ z, (AV.bool z).atom = true from fun _ => rfl])
    have hne : bb ≠ G.next := by omega
    have hl60 : l[i].sp.length ≤ 60 := hs9 l[i] (List.getElem_mem hlt)
    have hpb := prcS_bd (s := l[i]) ht hr hl60
    have hqb := sumP_bd ht hr (l := l.take i) (fun q hq => hs9 q (List.mem_of_mem_take hq))
    rw [List.length_take] at hqb
    refine Ok.skip ?_
    refine Ok.seq ?_
    refine Ok.block ?_
    refine Ok.seq ?_
    refine Ok.region ?_
    refine OkO.index (sz := 2) rfl rfl rfl (by kernel_rfl) (by first | assumption | rfl | exact slAt_slice (by omega) | exact slAt_opn (by omega)) ?_ -- index ('Go.Operand.tmp', 12) ('Go.Operand.tmp', 14)
    refine OkO.load rfl rfl (ldg (n := 2) (by kernel_rfl) (by first | assumption | (simp (disch := first | omega | (simp only [hNw, hPt]; omega)) only [gn0, gn1, gn2, gn3, gn4, gn5, gp0, gno, gpo] <;> first | rfl | assumption | exact gp0 _ _ _ | exact gn0 _ _)) (by first | rfl | assumption)) ?_
    refine OkO.alloc (z := [.nils, .bool false]) rfl (by kernel_rfl) ?_
    refine OkO.store rfl rfl rfl (sAc (n := 2) (ag := true) (by kernel_rfl) (by first | assumption | (simp (disch := first | omega | (simp only [hNw, hPt]; omega)) only [gn0, gn1, gn2, gn3, gn4, gn5, gp0, gno, gpo] <;> first | rfl | assumption | exact gp0 _ _ _ | exact gn0 _ _)) rfl (by first | rfl | assumption) (by first | rfl | exact spl_set _ _ _ (by first | assumption | omega | (simp; omega)))) ?_
    refine OkO.nil ?_
    refine Ok.seq ?_
    refine Ok.region ?_
    refine OkO.load rfl rfl (ldg (n := 5) (by kernel_rfl) (by first | assumption | (simp (disch := first | omega | (simp only [hNw, hPt]; omega)) only [gn0, gn1, gn2, gn3, gn4, gn5, gp0, gno, gpo] <;> first | rfl | assumption | exact gp0 _ _ _ | exact gn0 _ _)) (by first | rfl | assumption)) ?_
    refine OkO.load rfl rfl (ldg (n := 2) (by kernel_rfl) (by first | assumption | (simp (disch := first | omega | (simp only [hNw, hPt]; omega)) only [gn0, gn1, gn2, gn3, gn4, gn5, gp0, gno, gpo] <;> first | rfl | assumption | exact gp0 _ _ _ | exact gn0 _ _)) (by first | rfl | assumption)) ?_
    refine OkO.load rfl rfl (ldg (n := 3) (by kernel_rfl) (by first | assumption | (simp (disch := first | omega | (simp only [hNw, hPt]; omega)) only [gn0, gn1, gn2, gn3, gn4, gn5, gp0, gno, gpo] <;> first | rfl | assumption | exact gp0 _ _ _ | exact gn0 _ _)) (by first | rfl | assumption)) ?_
    refine OkO.callV rfl rfl rfl rfl rfl (c100 m x l[i] t r _ ((i7.ext (hE _ hg)).ext (by (try dsimp only); repeat (first | exact Ext.refl _ | assumption | apply Ext.new | (refine Ext.put ?_ _ (by first | omega | (simp only [hNw, hPt]; omega)))))) (by omega) ht hr) ?_ -- "(sackung/alarm.Terms).season"
    refine OkO.move rfl rfl ?_
    refine OkO.extract rfl rfl rfl ?_
    refine OkO.extract rfl rfl rfl ?_
    refine OkO.assign rfl rfl ?_
    refine OkO.assign rfl rfl ?_
    refine OkO.nil ?_
    refine Ok.seq ?_
    refine Ok.region ?_
    refine OkO.move rfl rfl ?_
    refine OkO.move rfl rfl ?_
    refine OkO.bin rfl rfl rfl (bin_add (by omega) (by omega)) ?_
    refine OkO.assign rfl rfl ?_
    refine OkO.nil ?_
    refine Ok.region ?_
    refine OkO.move rfl rfl ?_
    refine OkO.move rfl rfl ?_
    refine OkO.split (d := 29) rfl (fun g2 => ?_) (fun g2 => ?_)
    · -- true g2
      have hf : allT t r (l.take i) = true := g2
      refine OkO.move rfl rfl ?_
      refine OkO.pick (b := true) rfl rfl (fun _ => rfl) nofun ?_
      refine OkO.assign rfl rfl ?_
      refine OkO.nil ?_
      refine Ok.region ?_
      refine OkO.bin rfl rfl rfl (bin_add (by omega) (by omega)) ?_
      refine OkO.move rfl rfl ?_
      refine OkO.nil ?_
      have e6 : sumP t r (l.take (i + 1)) = sumP t r (l.take i) + prcS t r l[i] := sumP_take hlt
      have e7 : allT t r (l.take (i + 1)) = fineS t r l[i] := by rw [allT_take hlt, hf]; rfl
      refine ⟨l.length - (i + 1), by omega, i + 1, rfl, by omega, ?_, rfl, (by (try dsimp only); repeat (first | exact hg | exact hG | apply Grow.new | (refine Grow.put ?_ _ (by first | omega | (simp only [hNw, hPt]; omega))))), (by first | assumption | (simp (disch := first | omega | (simp only [hNw, hPt]; omega)) only [gn0, gn1, gn2, gn3, gn4, gn5, gp0, gno, gpo] <;> first | rfl | assumption | exact gp0 _ _ _ | exact gn0 _ _)), (by first | assumption | (simp (disch := first | omega | (simp only [hNw, hPt]; omega)) only [gn0, gn1, gn2, gn3, gn4, gn5, gp0, gno, gpo] <;> first | rfl | assumption | exact gp0 _ _ _ | exact gn0 _ _)), by simp; omega⟩
      rw [e6, e7]
      exact Has.of (by kernel_rfl)
    · -- false g2
      have hf : allT t r (l.take i) = false := g2
      refine OkO.skip rfl ?_
      refine OkO.pick (b := false) rfl rfl nofun (fun _ => rfl) ?_
      refine OkO.assign rfl rfl ?_
      refine OkO.nil ?_
      refine Ok.region ?_
      refine OkO.bin rfl rfl rfl (bin_add (by omega) (by omega)) ?_
      refine OkO.move rfl rfl ?_
      refine OkO.nil ?_
      have e6 : sumP t r (l.take (i + 1)) = sumP t r (l.take i) + prcS t r l[i] := sumP_take hlt
      have e7 : allT t r (l.take (i + 1)) = false := by rw [allT_take hlt, hf]; rfl
      refine ⟨l.length - (i + 1), by omega, i + 1, rfl, by omega, ?_, rfl, (by (try dsimp only); repeat (first | exact hg | exact hG | apply Grow.new | (refine Grow.put ?_ _ (by first | omega | (simp only [hNw, hPt]; omega))))), (by first | assumption | (simp (disch := first | omega | (simp only [hNw, hPt]; omega)) only [gn0, gn1, gn2, gn3, gn4, gn5, gp0, gno, gpo] <;> first | rfl | assumption | exact gp0 _ _ _ | exact gn0 _ _)), (by first | assumption | (simp (disch := first | omega | (simp only [hNw, hPt]; omega)) only [gn0, gn1, gn2, gn3, gn4, gn5, gp0, gno, gpo] <;> first | rfl | assumption | exact gp0 _ _ _ | exact gn0 _ _)), by simp; omega⟩
      rw [e6, e7]
      exact Has.of (by kernel_rfl)
  · -- no h1
    have hge : l.length ≤ i := by simp at h1; omega
    rw [List.take_of_length_le hge]
    refine Ok.exit ?_
    refine Ok.seq ?_
    refine Ok.region ?_
    refine OkO.move rfl rfl ?_
    refine OkO.move rfl rfl ?_
    refine OkO.assign rfl rfl ?_
    refine OkO.assign rfl rfl ?_
    refine OkO.nil ?_
    refine Ok.ret ⟨.inr rfl, ?_⟩
    exact back_flat rfl rfl rfl (by rw [← hW]; exact hg)
theorem termErr_facts {l : List Sea} {t : Trm} (h : termErr l t = 0) : t.ok = true ∧ l.length ≤ 10 ∧ (∀ s ∈ l, s.sp.length ≤ 60) ∧ 0 < l.length ∧ seasErr l = 0 ∧ ∀ s ∈ l, ∀ x ∈ s.sp, 0 ≤ x ∧ x ≤ 1000 := by
  unfold termErr at h
  split at h
  · rename_i h1; exact absurd h h1
  · rename_i h1
    have h1' : seasErr l = 0 := Classical.byContradiction h1
    obtain ⟨k1, k2, k3⟩ := seasErr_facts h1'
    split at h
    · cases h
    · rename_i h2
      split at h
      · rename_i h3; exact ⟨h3, k1, k2, by omega, h1', k3⟩
      · cases h
theorem c44K (m : Nat) (v : AV) (l : List Sea) (t : Trm) (r : Rul) (H : Heap) (hS : SeasG H v l) (hl9 : l.length ≤ 100000) (hs9 : ∀ s ∈ l, s.sp.length ≤ 100000) (he : termErr l t = 0) (hr : r.ok = true) : RR (m + 8) (.fn 44 [v, .agg t.c, .agg r.c]) H = some (.tup [I (sumP t r l), .bool (allT t r l), I 0], H) := by
  refine (R_fn _ _ _ _ _).trans ?_
  refine fn_ok Try.func44 rfl rfl (by kernel_rfl) (by kernel_rfl) ?_
  obtain ⟨W, hW⟩ : ∃ W : Heap, W = ⟨H.t, H.next, H.next⟩ := ⟨_, rfl⟩
  have hg : ∀ n, W.get n = H.get n := fun n => by rw [hW]; rfl
  have hN : W.next = H.next := by rw [hW]
  have hE : ∀ G, Grow W G → Ext H G := fun G g => ⟨by rw [← hN]; exact g.next, fun n k => by rw [g.get n (by rw [hN]; exact k), hg]⟩
  have hG : Grow W W := Grow.refl (by rw [hW]; exact Nat.le_refl _)
  rw [← hW]
  have hlen := hS.at.len
  have hf := termErr_facts he
  refine Ok.seq ?_
  refine Ok.region ?_
  refine OkO.box rfl rfl ?_
  refine OkO.box rfl rfl ?_
  refine OkO.assign rfl rfl ?_
  refine OkO.assign rfl rfl ?_
  refine OkO.assign rfl rfl ?_
  refine OkO.nil ?_
  refine Ok.seq ?_
  refine Ok.seq ?_
  refine Ok.region ?_
  refine OkO.move rfl rfl ?_
  refine OkO.load rfl rfl (ldg (n := 5) (by kernel_rfl) (by first | assumption | (simp (disch := first | omega | (simp only [hNw, hPt]; omega)) only [gn0, gn1, gn2, gn3, gn4, gn5, gp0, gno, gpo] <;> first | rfl | assumption | exact gp0 _ _ _ | exact gn0 _ _)) (by first | rfl | assumption)) ?_
  refine OkO.callV rfl rfl rfl rfl rfl ((c77 (m + 0) v l t _ (hS.ext (hE _ (by (try dsimp only); repeat (first | exact hG | apply Grow.new | (refine Grow.put ?_ _ (by first | omega | (simp only [hNw, hPt]; omega))))))) hl9 hs9).trans (by rw [he])) ?_ -- "sackung/alarm.checkTerms"
  refine OkO.assign rfl rfl ?_
  refine OkO.nil ?_
  refine Ok.seq ?_
  refine Ok.region ?_
  refine OkO.move rfl rfl ?_
  refine OkO.bin rfl rfl rfl (bin_neq _ _) ?_
  refine OkO.nil ?_
  refine Ok.condF rfl ?_
  refine Ok.skip ?_
  refine Ok.seq ?_
  refine Ok.seq ?_
  refine Ok.region ?_
  refine OkO.load rfl rfl (ldg (n := 3) (by kernel_rfl) (by first | assumption | (simp (disch := first | omega | (simp only [hNw, hPt]; omega)) only [gn0, gn1, gn2, gn3, gn4, gn5, gp0, gno, gpo] <;> first | rfl | assumption | exact gp0 _ _ _ | exact gn0 _ _)) (by first | rfl | assumption)) ?_
  refine OkO.callV rfl rfl rfl rfl rfl ((c75 (m + 5) r _).trans (by rw [hr])) ?_ -- "(sackung/alarm.Rule).valid"
  refine OkO.un rfl rfl rfl ?_
  refine OkO.nil ?_
  refine Ok.cond rfl (fun h1 => ?_) (fun h1 => ?_)
  · -- yes h1
    exact absurd h1 (by simp)
  · -- no h1
    refine Ok.skip ?_
    refine Ok.seq ?_
    refine Ok.region ?_
    refine OkO.load rfl rfl (ldg (n := 5) (by kernel_rfl) (by first | assumption | (simp (disch := first | omega | (simp only [hNw, hPt]; omega)) only [gn0, gn1, gn2, gn3, gn4, gn5, gp0, gno, gpo] <;> first | rfl | assumption | exact gp0 _ _ _ | exact gn0 _ _)) (by first | rfl | assumption)) ?_
    refine OkO.move rfl rfl ?_
    refine OkO.load rfl rfl (ldg (n := 3) (by kernel_rfl) (by first | assumption | (simp (disch := first | omega | (simp only [hNw, hPt]; omega)) only [gn0, gn1, gn2, gn3, gn4, gn5, gp0, gno, gpo] <;> first | rfl | assumption | exact gp0 _ _ _ | exact gn0 _ _)) (by first | rfl | assumption)) ?_
    refine OkO.callV rfl rfl rfl rfl rfl (c78 (m + 3) v l t r _ (hS.at.ext (hE _ (by (try dsimp only); repeat (first | exact hG | apply Grow.new | (refine Grow.put ?_ _ (by first | omega | (simp only [hNw, hPt]; omega))))))) hf.2.1 hf.2.2.1 hf.1 hr) ?_ -- "(sackung/alarm.Terms).together"
    refine OkO.move rfl rfl ?_
    refine OkO.extract rfl rfl rfl ?_
    refine OkO.extract rfl rfl rfl ?_
    refine OkO.assign rfl rfl ?_
    refine OkO.assign rfl rfl ?_
    refine OkO.nil ?_
    refine Ok.seq ?_
    refine Ok.region ?_
    refine OkO.move rfl rfl ?_
    refine OkO.move rfl rfl ?_
    refine OkO.assign rfl rfl ?_
    refine OkO.assign rfl rfl ?_
    refine OkO.assign rfl rfl ?_
    refine OkO.nil ?_
    refine Ok.ret ⟨.inr rfl, ?_⟩
    exact back_flat rfl rfl rfl (by rw [← hW]; exact (by (try dsimp only); repeat (first | exact hG | apply Grow.new | (refine Grow.put ?_ _ (by first | omega | (simp only [hNw, hPt]; omega))))))
end
end Go.Ev

set_option maxRecDepth 100000
set_option linter.unusedSimpArgs false
set_option linter.unusedVariables false
namespace Go.Ev
open Go Go.Proofs
noncomputable section
def sv1 (t : Trm) (fell : Bool) (N : Nat) (p : Nat × Nat) : Bool := fell && !(decide (p.2 < N)) && decide (max 1 t.out ≤ (p.2 : Int) - (p.1 : Int))
end
end Go.Ev

set_option maxRecDepth 100000
set_option linter.unusedSimpArgs false
set_option linter.unusedVariables false
namespace Go.Ev
open Go Go.Proofs
noncomputable section
end
end Go.Ev

set_option maxRecDepth 100000
set_option linter.unusedSimpArgs false
set_option linter.unusedVariables false
namespace Go.Ev
open Go Go.Proofs
noncomputable section
theorem ruleOf_ok {t : Trm} {k : Nat} (ht : t.ok = true) (hk : k ≤ 1000) : (ruleOf t (k : Int)).ok = true := by
  have hf := Trm.ok_facts ht
  unfold Rul.ok ruleOf inB
  simp only [Bool.and_eq_true, decide_eq_true_eq]
  omega
def priceK (t : Trm) (l : List Sea) (k : Nat) : Int := sumP t (ruleOf t (k : Int)) l
def fineK (t : Trm) (l : List Sea) (k : Nat) : Bool := allT t (ruleOf t (k : Int)) l
/-- The best rule of those that have been tried. -/
def BS (t : Trm) (l : List Sea) (S : Nat → Prop) (q : Rul) (p : Int) (fd : Bool) : Prop :=
  (fd = false ∧ q = ⟨0, 0, 0⟩ ∧ p = 0 ∧ ∀ k, S k → fineK t l k = false) ∨
    (fd = true ∧ ∃ st : Nat, S st ∧ q = ruleOf t (st : Int) ∧ p = priceK t l st ∧ fineK t l st = true ∧ ∀ k, S k → fineK t l k = true → p < priceK t l k ∨ (p = priceK t l k ∧ k ≤ st))
theorem BS.new {t : Trm} {l : List Sea} {S S' : Nat → Prop} {q : Rul} {p : Int} {fd : Bool} {k : Nat} (h : BS t l S q p fd) (hS : ∀ j, S' j ↔ S j ∨ j = k) (hf : fineK t l k = true) (hc : fd = true → priceK t l k < p ∨ (priceK t l k = p ∧ ∀ j, S j → j ≤ k)) :
    BS t l S' (ruleOf t (k : Int)) (priceK t l k) true := by
  refine .inr ⟨rfl, k, (hS k).2 (.inr rfl), rfl, rfl, hf, fun j hj hfj => ?_⟩
  rcases (hS j).1 hj with hj | rfl
  · rcases h with ⟨h1, _, _, h4⟩ | ⟨h1, st, h2, h3, h4, h5, h6⟩
    · rw [h4 j hj] at hfj; cases hfj
    · rcases hc h1 with hc | ⟨hc, hk⟩
      · rcases h6 j hj hfj with h | ⟨h, _⟩ <;> exact .inl (by omega)
      · have := hk j hj
        rcases h6 j hj hfj with h | ⟨h, _⟩
        · exact .inl (by omega)
        · exact .inr ⟨by omega, this⟩
  · exact .inr ⟨rfl, Nat.le_refl _⟩
theorem BS.same {t : Trm} {l : List Sea} {S S' : Nat → Prop} {q : Rul} {p : Int} {fd : Bool} {k : Nat} (h : BS t l S q p fd) (hS : ∀ j, S' j ↔ S j ∨ j = k) (hc : fineK t l k = true → fd = true ∧ (p < priceK t l k ∨ (p = priceK t l k ∧ ∀ j, S j → k ≤ j))) : BS t l S' q p fd := by
  rcases h with ⟨h1, h2, h3, h4⟩ | ⟨h1, st, h2, h3, h4, h5, h6⟩
  · refine .inl ⟨h1, h2, h3, fun j hj => ?_⟩
    rcases (hS j).1 hj with hj | rfl
    · exact h4 j hj
    · cases hf : fineK t l j with
      | false => rfl
      | true => have := (hc hf).1; rw [h1] at this; cases this
  · refine .inr ⟨h1, st, (hS st).2 (.inl h2), h3, h4, h5, fun j hj hfj => ?_⟩
    rcases (hS j).1 hj with hj | rfl
    · exact h6 j hj hfj
    · rcases (hc hfj).2 with h | ⟨h, h'⟩
      · exact .inl h
      · exact .inr ⟨h, h' st h2⟩
theorem BS.uniq {t : Trm} {l : List Sea} {S S' : Nat → Prop} {q q' : Rul} {p p' : Int} {fd fd' : Bool} (h : BS t l S q p fd) (h' : BS t l S' q' p' fd') (hS : ∀ j, S' j ↔ S j) : q = q' ∧ p = p' ∧ fd = fd' := by
  rcases h with ⟨h1, h2, h3, h4⟩ | ⟨h1, st, h2, h3, h4, h5, h6⟩
  · rcases h' with ⟨k1, k2, k3, k4⟩ | ⟨k1, st', k2, k3, k4, k5, k6⟩
    · exact ⟨by rw [h2, k2], by rw [h3, k3], by rw [h1, k1]⟩
    · rw [h4 st' ((hS _).1 k2)] at k5; cases k5
  · rcases h' with ⟨k1, k2, k3, k4⟩ | ⟨k1, st', k2, k3, k4, k5, k6⟩
    · rw [k4 st ((hS _).2 h2)] at h5; cases h5
    · have a := h6 st' ((hS _).1 k2) k5
      have b := k6 st ((hS _).2 h2) h5
      have e : st = st' := by omega
      subst e
      exact ⟨by rw [h3, k3], by rw [h4, k4], by rw [h1, k1]⟩
theorem c49K (m : Nat) (v : AV) (l : List Sea) (t : Trm) (H : Heap) (hS : SeasG H v l) (he : termErr l t = 0) (hl9 : l.length ≤ 10) (hs9 : ∀ s ∈ l, s.sp.length ≤ 60) (ht : t.ok = true) : ∃ v' H', RR (m + 10) (.fn 49 [v, .agg t.c]) H = some (v', H') ∧ ∃ (q : Rul) (p : Int) (fd : Bool), v' = .tup [.agg q.c, I p, I (if fd = true then 0 else 11)] ∧ H' = H ∧ BS t l (fun j => j < 1001) q p fd := by
  show ∃ v' H', evFn Try.prog (RR (m + 9)) 49 [v, .agg t.c] H = some (v', H') ∧ ∃ (q : Rul) (p : Int) (fd : Bool), v' = .tup [.agg q.c, I p, I (if fd = true then 0 else 11)] ∧ H' = H ∧ BS t l (fun j => j < 1001) q p fd
  refine fn_okE Try.func49 rfl rfl (by kernel_rfl) (by kernel_rfl) ?_
  obtain ⟨W, hW⟩ : ∃ W : Heap, W = ⟨H.t, H.next, H.next⟩ := ⟨_, rfl⟩
  have hg : ∀ n, W.get n = H.get n := fun n => by rw [hW]; rfl
  have hN : W.next = H.next := by rw [hW]
  have hE : ∀ G, Grow W G → Ext H G := fun G g => ⟨by rw [← hN]; exact g.next, fun n k => by rw [g.get n (by rw [hN]; exact k), hg]⟩
  have hG : Grow W W := Grow.refl (by rw [hW]; exact Nat.le_refl _)
  rw [← hW]
  have hlen := hS.at.len
  have htf := Trm.ok_facts ht
  refine Ok.seq ?_
  refine Ok.region ?_
  refine OkO.box rfl rfl ?_
  refine OkO.alloc (z := [.int .i64 0, .int .i64 0, .int .i64 0]) rfl (by kernel_rfl) ?_
  refine OkO.assign rfl rfl ?_
  refine OkO.assign rfl rfl ?_
  refine OkO.nil ?_
  refine Ok.seq ?_
  refine Ok.seq ?_
  refine Ok.region ?_
  refine OkO.move rfl rfl ?_
  refine OkO.load rfl rfl (ldg (n := 5) (by kernel_rfl) (by first | assumption | (simp (disch := first | omega | (simp only [hNw, hPt]; omega)) only [gn0, gn1, gn2, gn3, gn4, gn5, gp0, gno, gpo] <;> first | rfl | assumption | exact gp0 _ _ _ | exact gn0 _ _)) (by first | rfl | assumption)) ?_
  refine OkO.callV rfl rfl rfl rfl rfl ((c77 (m + 2) v l t _ (hS.ext (hE _ (by (try dsimp only); repeat (first | exact hG | apply Grow.new | (refine Grow.put ?_ _ (by first | omega | (simp only [hNw, hPt]; omega))))))) (by omega) (fun s hs => by have := hs9 s hs; omega)).trans (by rw [he])) ?_ -- "sackung/alarm.checkTerms"
  refine OkO.assign rfl rfl ?_
  refine OkO.nil ?_
  refine Ok.seq ?_
  refine Ok.region ?_
  refine OkO.move rfl rfl ?_
  refine OkO.bin rfl rfl rfl (bin_neq _ _) ?_
  refine OkO.nil ?_
  refine Ok.condF rfl ?_
  refine Ok.skip ?_
  refine Ok.seq ?_
  refine Ok.region ?_
  refine OkO.assign rfl rfl ?_
  refine OkO.nil ?_
  refine Ok.seq ?_
  refine Ok.seq ?_
  refine Ok.region ?_
  refine OkO.assign rfl rfl ?_
  refine OkO.nil ?_
  refine Ok.block ?_
  refine Ok.loop (fun n s => ∃ (k : Nat) (q : Rul) (p : Int) (fd : Bool), n = 1001 - k ∧ k ≤ 1001 ∧ BS t l (fun j => j < k) q p fd ∧ Has 6 [(0, v), (3, .ptr W.next 0), (4, .ptr (W.next + 1) 0), (5, I p), (6, I (if fd = true then 0 else 11)), (8, I (k : Int))] s.T ∧ s.D = [] ∧ Grow W s.H ∧ s.H.get W.next = some (.cells t.c 86) ∧ s.H.get (W.next + 1) = some (.cells q.c 68) ∧ W.next + 2 ≤ s.H.next) (1001) (by unfold loopFuel; omega)
    ⟨0, ⟨0, 0, 0⟩, 0, false, rfl, Nat.zero_le _, .inl ⟨rfl, rfl, rfl, fun j hj => absurd hj (Nat.not_lt_zero j)⟩, Has.of (by kernel_rfl), rfl, (by (try dsimp only); repeat (first | exact hG | apply Grow.new | (refine Grow.put ?_ _ (by first | omega | (simp only [hNw, hPt]; omega))))), (by first | assumption | (simp (disch := first | omega | (simp only [hNw, hPt]; omega)) only [gn0, gn1, gn2, gn3, gn4, gn5, gp0, gno, gpo] <;> first | rfl | assumption | exact gp0 _ _ _ | exact gn0 _ _)), (by first | assumption | (simp (disch := first | omega | (simp only [hNw, hPt]; omega)) only [gn0, gn1, gn2, gn3, gn4, gn5, gp0, gno, gpo] <;> first | rfl | assumption | exact gp0 _ _ _ | exact gn0 _ _)), by simp⟩ ?_
  rintro n ⟨T, D, G⟩ ⟨k, q, p, fd, hn, hk, hbs, ⟨f, hT⟩, hD, hg, hb0, hb1, hn2p⟩
  dsimp only at *
  subst hT hD
  have hgn := hg.next
  have eb0 : (G.get W.next).bind AObj.cs = some t.c := by rw [hb0]; rfl
  have eb1 : (G.get (W.next + 1)).bind AObj.cs = some q.c := by rw [hb1]; rfl
  refine Ok.seq ?_
  refine Ok.seq ?_
  refine Ok.region ?_
  refine OkO.move rfl rfl ?_
  refine OkO.bin rfl rfl rfl (bin_leq _ _) ?_
  refine OkO.nil ?_
  refine Ok.cond rfl (fun h1 => ?_) (fun h1 => ?_)
  · -- yes h1
    have hk9 : k ≤ 1000 := by (have h9 : (k : Int) ≤ 1000 := by simpa using h1); omega
    refine Ok.skip ?_
    refine Ok.seq ?_
    refine Ok.block ?_
    refine Ok.seq ?_
    refine Ok.region ?_
    refine OkO.load rfl rfl (ldg (n := 5) (by kernel_rfl) (by first | assumption | (simp (disch := first | omega | (simp only [hNw, hPt]; omega)) only [gn0, gn1, gn2, gn3, gn4, gn5, gp0, gno, gpo] <;> first | rfl | assumption | exact gp0 _ _ _ | exact gn0 _ _)) (by first | rfl | assumption)) ?_
    refine OkO.move rfl rfl ?_
    refine OkO.callV rfl rfl rfl rfl rfl (c80 (m + 8) t (k : Int) _ (by omega) (by omega)) ?_ -- "(sackung/alarm.Terms).rule"
    refine OkO.alloc (z := [.int .i64 0, .int .i64 0, .int .i64 0]) rfl (by kernel_rfl) ?_
    refine OkO.store rfl rfl rfl (sAc (n := 3) (ag := true) (by kernel_rfl) (by first | assumption | (simp (disch := first | omega | (simp only [hNw, hPt]; omega)) only [gn0, gn1, gn2, gn3, gn4, gn5, gp0, gno, gpo] <;> first | rfl | assumption | exact gp0 _ _ _ | exact gn0 _ _)) rfl (by first | rfl | assumption) (by first | rfl | exact spl_set _ _ _ (by first | assumption | omega | (simp; omega)))) ?_
    refine OkO.nil ?_
    refine Ok.seq ?_
    refine Ok.region ?_
    refine OkO.load rfl rfl (ldg (n := 5) (by kernel_rfl) (by first | assumption | (simp (disch := first | omega | (simp only [hNw, hPt]; omega)) only [gn0, gn1, gn2, gn3, gn4, gn5, gp0, gno, gpo] <;> first | rfl | assumption | exact gp0 _ _ _ | exact gn0 _ _)) (by first | rfl | assumption)) ?_
    refine OkO.move rfl rfl ?_
    refine OkO.load rfl rfl (ldg (n := 3) (by kernel_rfl) (by first | assumption | (simp (disch := first | omega | (simp only [hNw, hPt]; omega)) only [gn0, gn1, gn2, gn3, gn4, gn5, gp0, gno, gpo] <;> first | rfl | assumption | exact gp0 _ _ _ | exact gn0 _ _)) (by first | rfl | assumption)) ?_
    refine OkO.callV rfl rfl rfl rfl rfl ((c78 (m + 5) v l t (ruleOf t (k : Int)) _ (((hS.at.ext (hE _ hg))).ext (by (try dsimp only); repeat (first | exact Ext.refl _ | assumption | apply Ext.new | (refine Ext.put ?_ _ (by first | omega | (simp only [hNw, hPt]; omega)))))) hl9 hs9 ht (ruleOf_ok ht (by omega))).trans (show _ = some (AV.tup [I (priceK t l k), .bool (fineK t l k)], _) from rfl)) ?_ -- "(sackung/alarm.Terms).together"
    refine OkO.move rfl rfl ?_
    refine OkO.extract rfl rfl rfl ?_
    refine OkO.extract rfl rfl rfl ?_
    refine OkO.assign rfl rfl ?_
    refine OkO.assign rfl rfl ?_
    refine OkO.nil ?_
    refine Ok.seq ?_
    refine Ok.region ?_
    refine OkO.move rfl rfl ?_
    refine OkO.move rfl rfl ?_
    refine OkO.split (d := 34) rfl (fun g2 => ?_) (fun g2 => ?_)
    · -- true g2
      have hfk : fineK t l k = true := g2
      refine OkO.move rfl rfl ?_
      refine OkO.bin rfl rfl rfl (bin_neq _ _) ?_
      refine OkO.move rfl rfl ?_
      refine OkO.split (d := 37) rfl (fun g3 => ?_) (fun g3 => ?_)
      · -- true g3
        have hfd : fd = false := by (cases fd; (· rfl); (· simp at g3))
        refine OkO.skip rfl ?_
        refine OkO.skip rfl ?_
        refine OkO.skip rfl ?_
        refine OkO.pick (b := true) rfl rfl (fun _ => rfl) nofun ?_
        refine OkO.pick (b := true) rfl rfl (fun _ => rfl) nofun ?_
        refine OkO.nil ?_
        refine Ok.condT rfl ?_
        refine Ok.region ?_
        refine OkO.load rfl rfl (ldg (n := 3) (by kernel_rfl) (by first | assumption | (simp (disch := first | omega | (simp only [hNw, hPt]; omega)) only [gn0, gn1, gn2, gn3, gn4, gn5, gp0, gno, gpo] <;> first | rfl | assumption | exact gp0 _ _ _ | exact gn0 _ _)) (by first | rfl | assumption)) ?_
        refine OkO.move rfl rfl ?_
        refine OkO.store rfl rfl rfl (sAc (n := 3) (ag := true) (by kernel_rfl) (by first | assumption | (simp (disch := first | omega | (simp only [hNw, hPt]; omega)) only [gn0, gn1, gn2, gn3, gn4, gn5, gp0, gno, gpo] <;> first | rfl | assumption | exact gp0 _ _ _ | exact gn0 _ _)) rfl (by first | rfl | assumption) (by first | rfl | exact spl_set _ _ _ (by first | assumption | omega | (simp; omega)))) ?_
        refine OkO.assign rfl rfl ?_
        refine OkO.assign rfl rfl ?_
        refine OkO.nil ?_
        refine Ok.region ?_
        refine OkO.move rfl rfl ?_
        refine OkO.bin rfl rfl rfl (bin_add (by omega) (by omega)) ?_
        refine OkO.assign rfl rfl ?_
        refine OkO.nil ?_
        refine ⟨1001 - (k + 1), by omega, k + 1, ruleOf t (k : Int), priceK t l k, true, rfl, by omega, hbs.new (k := k) (fun j => by omega) hfk (fun h9 => by rw [hfd] at h9; cases h9), Has.of (by kernel_rfl), rfl, (by (try dsimp only); repeat (first | exact hg | exact hG | apply Grow.new | (refine Grow.put ?_ _ (by first | omega | (simp only [hNw, hPt]; omega))))), (by first | assumption | (simp (disch := first | omega | (simp only [hNw, hPt]; omega)) only [gn0, gn1, gn2, gn3, gn4, gn5, gp0, gno, gpo] <;> first | rfl | assumption | exact gp0 _ _ _ | exact gn0 _ _)), (by first | assumption | (simp (disch := first | omega | (simp only [hNw, hPt]; omega)) only [gn0, gn1, gn2, gn3, gn4, gn5, gp0, gno, gpo] <;> first | rfl | assumption | exact gp0 _ _ _ | exact gn0 _ _)), by simp; omega⟩
      · -- false g3
        have hfd : fd = true := by (cases fd; (· simp at g3); (· rfl))
        refine OkO.move rfl rfl ?_
        refine OkO.move rfl rfl ?_
        refine OkO.bin rfl rfl rfl (bin_leq _ _) ?_
        refine OkO.pick (b := false) rfl rfl nofun (fun _ => rfl) ?_
        refine OkO.pick (b := true) rfl rfl (fun _ => rfl) nofun ?_
        refine OkO.nil ?_
        refine Ok.cond rfl (fun h4 => ?_) (fun h4 => ?_)
        · -- yes h4
          have hle : priceK t l k ≤ p := by simpa using h4
          refine Ok.region ?_
          refine OkO.load rfl rfl (ldg (n := 3) (by kernel_rfl) (by first | assumption | (simp (disch := first | omega | (simp only [hNw, hPt]; omega)) only [gn0, gn1, gn2, gn3, gn4, gn5, gp0, gno, gpo] <;> first | rfl | assumption | exact gp0 _ _ _ | exact gn0 _ _)) (by first | rfl | assumption)) ?_
          refine OkO.move rfl rfl ?_
          refine OkO.store rfl rfl rfl (sAc (n := 3) (ag := true) (by kernel_rfl) (by first | assumption | (simp (disch := first | omega | (simp only [hNw, hPt]; omega)) only [gn0, gn1, gn2, gn3, gn4, gn5, gp0, gno, gpo] <;> first | rfl | assumption | exact gp0 _ _ _ | exact gn0 _ _)) rfl (by first | rfl | assumption) (by first | rfl | exact spl_set _ _ _ (by first | assumption | omega | (simp; omega)))) ?_
          refine OkO.assign rfl rfl ?_
          refine OkO.assign rfl rfl ?_
          refine OkO.nil ?_
          refine Ok.region ?_
          refine OkO.move rfl rfl ?_
          refine OkO.bin rfl rfl rfl (bin_add (by omega) (by omega)) ?_
          refine OkO.assign rfl rfl ?_
          refine OkO.nil ?_
          refine ⟨1001 - (k + 1), by omega, k + 1, ruleOf t (k : Int), priceK t l k, true, rfl, by omega, hbs.new (k := k) (fun j => by omega) hfk (fun _ => by rcases Int.lt_or_eq_of_le hle with h9 | h9; (· exact .inl h9); (· exact .inr ⟨h9, fun j hj => by omega⟩)), Has.of (by kernel_rfl), rfl, (by (try dsimp only); repeat (first | exact hg | exact hG | apply Grow.new | (refine Grow.put ?_ _ (by first | omega | (simp only [hNw, hPt]; omega))))), (by first | assumption | (simp (disch := first | omega | (simp only [hNw, hPt]; omega)) only [gn0, gn1, gn2, gn3, gn4, gn5, gp0, gno, gpo] <;> first | rfl | assumption | exact gp0 _ _ _ | exact gn0 _ _)), (by first | assumption | (simp (disch := first | omega | (simp only [hNw, hPt]; omega)) only [gn0, gn1, gn2, gn3, gn4, gn5, gp0, gno, gpo] <;> first | rfl | assumption | exact gp0 _ _ _ | exact gn0 _ _)), by simp; omega⟩
        · -- no h4
          have hle : ¬ priceK t l k ≤ p := by simpa using h4
          refine Ok.skip ?_
          refine Ok.region ?_
          refine OkO.move rfl rfl ?_
          refine OkO.bin rfl rfl rfl (bin_add (by omega) (by omega)) ?_
          refine OkO.assign rfl rfl ?_
          refine OkO.nil ?_
          refine ⟨1001 - (k + 1), by omega, k + 1, q, p, fd, rfl, by omega, hbs.same (k := k) (fun j => by omega) (fun _ => ⟨hfd, .inl (by omega)⟩), Has.of (by kernel_rfl), rfl, (by (try dsimp only); repeat (first | exact hg | exact hG | apply Grow.new | (refine Grow.put ?_ _ (by first | omega | (simp only [hNw, hPt]; omega))))), (by first | assumption | (simp (disch := first | omega | (simp only [hNw, hPt]; omega)) only [gn0, gn1, gn2, gn3, gn4, gn5, gp0, gno, gpo] <;> first | rfl | assumption | exact gp0 _ _ _ | exact gn0 _ _)), (by first | assumption | (simp (disch := first | omega | (simp only [hNw, hPt]; omega)) only [gn0, gn1, gn2, gn3, gn4, gn5, gp0, gno, gpo] <;> first | rfl | assumption | exact gp0 _ _ _ | exact gn0 _ _)), by simp; omega⟩
    · -- false g2
      have hfk : fineK t l k = false := g2
      refine OkO.skip rfl ?_
      refine OkO.skip rfl ?_
      refine OkO.skip rfl ?_
      refine OkO.skip rfl ?_
      refine OkO.skip rfl ?_
      refine OkO.skip rfl ?_
      refine OkO.skip rfl ?_
      refine OkO.pick (b := false) rfl rfl nofun (fun _ => rfl) ?_
      refine OkO.nil ?_
      refine Ok.condF rfl ?_
      refine Ok.skip ?_
      refine Ok.region ?_
      refine OkO.move rfl rfl ?_
      refine OkO.bin rfl rfl rfl (bin_add (by omega) (by omega)) ?_
      refine OkO.assign rfl rfl ?_
      refine OkO.nil ?_
      refine ⟨1001 - (k + 1), by omega, k + 1, q, p, fd, rfl, by omega, hbs.same (k := k) (fun j => by omega) (fun h9 => by rw [hfk] at h9; cases h9), Has.of (by kernel_rfl), rfl, (by (try dsimp only); repeat (first | exact hg | exact hG | apply Grow.new | (refine Grow.put ?_ _ (by first | omega | (simp only [hNw, hPt]; omega))))), (by first | assumption | (simp (disch := first | omega | (simp only [hNw, hPt]; omega)) only [gn0, gn1, gn2, gn3, gn4, gn5, gp0, gno, gpo] <;> first | rfl | assumption | exact gp0 _ _ _ | exact gn0 _ _)), (by first | assumption | (simp (disch := first | omega | (simp only [hNw, hPt]; omega)) only [gn0, gn1, gn2, gn3, gn4, gn5, gp0, gno, gpo] <;> first | rfl | assumption | exact gp0 _ _ _ | exact gn0 _ _)), by simp; omega⟩
  · -- no h1
    have hk9 : k = 1001 := by (have h9 : ¬ (k : Int) ≤ 1000 := by simpa using h1); omega
    subst hk9
    refine Ok.exit ?_
    refine Ok.seq ?_
    refine Ok.region ?_
    refine OkO.load rfl rfl (ldg (n := 3) (by kernel_rfl) (by first | assumption | (simp (disch := first | omega | (simp only [hNw, hPt]; omega)) only [gn0, gn1, gn2, gn3, gn4, gn5, gp0, gno, gpo] <;> first | rfl | assumption | exact gp0 _ _ _ | exact gn0 _ _)) (by first | rfl | assumption)) ?_
    refine OkO.move rfl rfl ?_
    refine OkO.move rfl rfl ?_
    refine OkO.store rfl rfl rfl (sAc (n := 3) (ag := true) (by kernel_rfl) (by first | assumption | (simp (disch := first | omega | (simp only [hNw, hPt]; omega)) only [gn0, gn1, gn2, gn3, gn4, gn5, gp0, gno, gpo] <;> first | rfl | assumption | exact gp0 _ _ _ | exact gn0 _ _)) rfl (by first | rfl | assumption) (by first | rfl | exact spl_set _ _ _ (by first | assumption | omega | (simp; omega)))) ?_
    refine OkO.assign rfl rfl ?_
    refine OkO.assign rfl rfl ?_
    refine OkO.nil ?_
    refine Ok.ret ⟨.inr rfl, ?_⟩
    exact ⟨_, _, back_flat (resV_cell rfl (ldg (n := 3) (by kernel_rfl) (by first | assumption | (simp (disch := first | omega | (simp only [hNw, hPt]; omega)) only [gn0, gn1, gn2, gn3, gn4, gn5, gp0, gno, gpo] <;> first | rfl | assumption)) (by first | rfl | assumption)) (resV_tmp rfl (resV_tmp rfl resV_nil))) (rfl) rfl (by rw [← hW]; exact (by (try dsimp only); repeat (first | exact hg | exact hG | apply Grow.new | (refine Grow.put ?_ _ (by first | omega | (simp only [hNw, hPt]; omega)))))), q, p, fd, rfl, rfl, hbs⟩
end
end Go.Ev

set_option maxRecDepth 100000
set_option linter.unusedSimpArgs false
set_option linter.unusedVariables false
namespace Go.Ev
open Go Go.Proofs
noncomputable section
theorem BS_exists (t : Trm) (l : List Sea) : ∀ n : Nat, ∃ q p fd, BS t l (fun j => j < n) q p fd
  | 0 => ⟨_, _, _, .inl ⟨rfl, rfl, rfl, fun j hj => absurd hj (Nat.not_lt_zero j)⟩⟩
  | n + 1 => by
    obtain ⟨q, p, fd, h⟩ := BS_exists t l n
    have hS : ∀ j, j < n + 1 ↔ j < n ∨ j = n := fun j => by omega
    cases hf : fineK t l n with
    | false => exact ⟨_, _, _, h.same (k := n) hS fun h9 => by rw [hf] at h9; cases h9⟩
    | true =>
      cases hfd : fd with
      | false => exact ⟨_, _, _, h.new (k := n) hS hf fun h9 => by rw [hfd] at h9; cases h9⟩
      | true =>
        by_cases hle : priceK t l n ≤ p
        · refine ⟨_, _, _, h.new (k := n) hS hf fun _ => ?_⟩
          rcases Int.lt_or_eq_of_le hle with h9 | h9
          · exact .inl h9
          · exact .inr ⟨h9, fun j hj => by omega⟩
        · exact ⟨_, _, _, h.same (k := n) hS fun _ => ⟨hfd, .inl (by omega)⟩⟩
/-- The Start of the best rule. -/
def BestAt (t : Trm) (l : List Sea) (st : Nat) : Prop := st ≤ 1000 ∧ fineK t l st = true ∧ ∀ k, k ≤ 1000 → fineK t l k = true → priceK t l st < priceK t l k ∨ (priceK t l st = priceK t l k ∧ k ≤ st)
theorem best_or (t : Trm) (l : List Sea) : (∀ k, k ≤ 1000 → fineK t l k = false) ∨ ∃ st, BestAt t l st := by
  obtain ⟨q, p, fd, h⟩ := BS_exists t l 1001
  rcases h with ⟨_, _, _, h4⟩ | ⟨_, st, h2, _, h4, h5, h6⟩
  · exact .inl fun k hk => h4 k (by omega)
  · exact .inr ⟨st, by omega, h5, fun k hk hf => by rw [← h4]; exact h6 k (by omega) hf⟩
theorem BS.noneF {t : Trm} {l : List Sea} {S : Nat → Prop} {q : Rul} {p : Int} {fd : Bool} (h : BS t l S q p fd) (hn : ∀ k, k ≤ 1000 → fineK t l k = false) (hS : ∀ j, S j → j ≤ 1000) : q = ⟨0, 0, 0⟩ ∧ p = 0 ∧ fd = false := by
  rcases h with ⟨h1, h2, h3, _⟩ | ⟨_, st, h2, _, _, h5, _⟩
  · exact ⟨h2, h3, h1⟩
  · rw [hn st (hS st h2)] at h5; cases h5
theorem BS.bestT {t : Trm} {l : List Sea} {S : Nat → Prop} {q : Rul} {p : Int} {fd : Bool} {st : Nat} (h : BS t l S q p fd) (hb : BestAt t l st) (hS : ∀ j, S j ↔ j ≤ 1000) : q = ruleOf t (st : Int) ∧ p = priceK t l st ∧ fd = true :=
  BS.uniq h (.inr ⟨rfl, st, hb.1, rfl, rfl, hb.2.1, hb.2.2⟩ : BS t l (fun j => j ≤ 1000) (ruleOf t (st : Int)) (priceK t l st) true) (fun j => (hS j).symm)
theorem c49F (m : Nat) (v : AV) (l : List Sea) (t : Trm) (H : Heap) (hS : SeasG H v l) (he : termErr l t = 0) (hl9 : l.length ≤ 10) (hs9 : ∀ s ∈ l, s.sp.length ≤ 60) (ht : t.ok = true) (hn : ∀ k, k ≤ 1000 → fineK t l k = false) : RR (m + 10) (.fn 49 [v, .agg t.c]) H = some (.tup [.agg [I 0, I 0, I 0], I 0, I 11], H) := by
  obtain ⟨v', H', h1, q, p, fd, rfl, rfl, hbs⟩ := c49K m v l t H hS he hl9 hs9 ht
  obtain ⟨rfl, rfl, rfl⟩ := hbs.noneF hn (fun j hj => by omega)
  exact h1
theorem c49T (m : Nat) (v : AV) (l : List Sea) (t : Trm) (st : Nat) (H : Heap) (hS : SeasG H v l) (he : termErr l t = 0) (hl9 : l.length ≤ 10) (hs9 : ∀ s ∈ l, s.sp.length ≤ 60) (ht : t.ok = true) (hb : BestAt t l st) : RR (m + 10) (.fn 49 [v, .agg t.c]) H = some (.tup [.agg (ruleOf t (st : Int)).c, I (priceK t l st), I 0], H) := by
  obtain ⟨v', H', h1, q, p, fd, rfl, rfl, hbs⟩ := c49K m v l t H hS he hl9 hs9 ht
  obtain ⟨rfl, rfl, rfl⟩ := hbs.bestT hb (fun j => by omega)
  exact h1
end
end Go.Ev

set_option maxRecDepth 100000
set_option linter.unusedSimpArgs false
set_option linter.unusedVariables false
namespace Go.Ev
open Go Go.Proofs
noncomputable section
end
end Go.Ev

set_option maxRecDepth 100000
set_option linter.unusedSimpArgs false
set_option linter.unusedVariables false
namespace Go.Ev
open Go Go.Proofs
noncomputable section
/-! ### Speeds that may be, by intervals -/
structure Pst where (errs : List Int) (gain drop fall out ahead : Int)
def Pst.c (p : Pst) (ev : AV) : List AV := [ev, I p.gain, I p.drop, I p.fall, I p.out, I p.ahead]
def Pst.ok (p : Pst) : Bool := inB (p.errs.length : Int) 1 10 && (p.errs.all fun x => inB x 0 1000) && inB p.gain 0 200 && inB p.drop 0 200 && inB p.fall 1 1000 && inB p.out 0 60 && inB p.ahead 0 60
theorem Pst.ok_facts {p : Pst} (h : p.ok = true) : (1 ≤ p.errs.length ∧ p.errs.length ≤ 10) ∧ (∀ x ∈ p.errs, 0 ≤ x ∧ x ≤ 1000) ∧ (0 ≤ p.gain ∧ p.gain ≤ 200) ∧ (0 ≤ p.drop ∧ p.drop ≤ 200) ∧ (1 ≤ p.fall ∧ p.fall ≤ 1000) ∧ (0 ≤ p.out ∧ p.out ≤ 60) ∧ 0 ≤ p.ahead ∧ p.ahead ≤ 60 := by
  unfold Pst.ok inB at h
  simp only [Bool.and_eq_true, decide_eq_true_eq, List.all_eq_true] at h
  obtain ⟨⟨⟨⟨⟨⟨h1, h2⟩, h3⟩, h4⟩, h5⟩, h6⟩, h7⟩ := h
  exact ⟨by omega, h2, h3, h4, h5, h6, h7⟩
abbrev Iv := Int × Int
def ivc (x : Iv) : List AV := [I x.1, I x.2]
def nul : Iv := (1, 0)
def inI (v : Int) (x : Iv) : Prop := x.1 ≤ v ∧ v ≤ x.2
def meetI (x y : Iv) : Iv := if min x.2 y.2 < max x.1 y.1 then nul else (max x.1 y.1, min x.2 y.2)
/-- A range with numbers in it, or the one that stands for none. -/
def Prp (x : Iv) : Prop := x = nul ∨ x.1 ≤ x.2
theorem not_nul (v : Int) : ¬ inI v nul := by unfold inI nul; simp; omega
theorem mem_meet {v : Int} {x y : Iv} : inI v (meetI x y) ↔ inI v x ∧ inI v y := by
  unfold meetI
  split
  · rename_i h
    constructor
    · intro h9; exact absurd h9 (not_nul v)
    · intro h9; unfold inI at h9; omega
  · unfold inI; simp; omega
theorem meet_prp (x y : Iv) : Prp (meetI x y) := by
  unfold meetI
  split
  · exact .inl rfl
  · exact .inr (by simp; omega)
def agI (err read : Int) : Iv := (read - err, read + err)
/-- The gauges that work, with one failed. -/
def workL (n : Nat) (f : Int) : List Nat := (List.range n).filter fun g => decide ((g : Int) ≠ f)
def gI (p : Pst) (row : List Int) (g : Nat) : Iv := agI (p.errs.getD g 0) (row.getD g 0)
def gaugesI (p : Pst) (row : List Int) (l : List Nat) (x : Iv) : Iv := l.foldl (fun x g => meetI x (gI p row g)) x
def afterI (p : Pst) (x : Iv) : Iv := (x.1 - p.drop, x.2 + p.gain)
def beforeI (p : Pst) (x : Iv) : Iv := (x.1 - p.gain, x.2 + p.drop)
def stepI (p : Pst) (f : Int) (x : Iv) (row : List Int) : Iv := gaugesI p row (workL p.errs.length f) (meetI (0, 1000) (afterI p x))
theorem mem_gauges {p : Pst} {row : List Int} {v : Int} : ∀ {l : List Nat} {x : Iv}, inI v (gaugesI p row l x) ↔ inI v x ∧ ∀ g ∈ l, inI v (gI p row g)
  | [], x => by simp [gaugesI]
  | a :: l, x => by
    show inI v (gaugesI p row l (meetI x (gI p row a))) ↔ _
    rw [mem_gauges (l := l), mem_meet]
    simp [and_assoc]
theorem gauges_prp {p : Pst} {row : List Int} : ∀ {l : List Nat} {x : Iv}, Prp x → Prp (gaugesI p row l x)
  | [], x, h => h
  | a :: l, x, _ => gauges_prp (l := l) (meet_prp x (gI p row a))
theorem step_prp (p : Pst) (f : Int) (x : Iv) (row : List Int) : Prp (stepI p f x row) := gauges_prp (meet_prp _ _)
def AgreeR (p : Pst) (f : Int) (row : List Int) (v : Int) : Prop := ∀ g, g < p.errs.length → (g : Int) ≠ f → inI v (gI p row g)
theorem mem_step {p : Pst} {f : Int} {x : Iv} {row : List Int} {v : Int} : inI v (stepI p f x row) ↔ (0 ≤ v ∧ v ≤ 1000) ∧ (x.1 - p.drop ≤ v ∧ v ≤ x.2 + p.gain) ∧ AgreeR p f row v := by
  unfold stepI
  rw [mem_gauges, mem_meet]
  have e1 : inI v (0, 1000) ↔ (0 ≤ v ∧ v ≤ 1000) := Iff.rfl
  have e2 : inI v (afterI p x) ↔ (x.1 - p.drop ≤ v ∧ v ≤ x.2 + p.gain) := Iff.rfl
  have e3 : (∀ g ∈ workL p.errs.length f, inI v (gI p row g)) ↔ AgreeR p f row v := by
    unfold AgreeR workL
    constructor
    · intro h g h1 h2
      exact h g (List.mem_filter.2 ⟨List.mem_range.2 h1, by rw [decide_eq_true_eq]; exact h2⟩)
    · intro h g hg
      obtain ⟨h1, h2⟩ := List.mem_filter.1 hg
      exact h g (List.mem_range.1 h1) (by rw [decide_eq_true_eq] at h2; exact h2)
  rw [e1, e2, e3, and_assoc]
/-- What may be in each hour, as long as something may be. -/
def folW (p : Pst) (f : Int) : List (List Int) → Iv → List Iv
  | [], _ => []
  | row :: rows, x => if stepI p f x row = nul then [] else stepI p f x row :: folW p f rows (stepI p f x row)
/-- What may be behind some hours. -/
def lastI (p : Pst) (f : Int) (rows : List (List Int)) : Iv := rows.foldl (fun x row => if x = nul then nul else stepI p f x row) (0, 1000)
theorem lastI_snoc (p : Pst) (f : Int) (rows : List (List Int)) (row : List Int) : lastI p f (rows ++ [row]) = if lastI p f rows = nul then nul else stepI p f (lastI p f rows) row := by
  unfold lastI
  rw [List.foldl_append]
  rfl
theorem last_prp (p : Pst) (f : Int) (rows : List (List Int)) : Prp (lastI p f rows) := by
  rcases List.eq_nil_or_concat rows with rfl | ⟨l, a, rfl⟩
  · exact .inr (by simp [lastI])
  · rw [List.concat_eq_append, lastI_snoc]
    split
    · exact .inl rfl
    · exact step_prp _ _ _ _
theorem last_bd {p : Pst} {f : Int} {rows : List (List Int)} {v : Int} (h : inI v (lastI p f rows)) : 0 ≤ v ∧ v ≤ 1000 := by
  rcases List.eq_nil_or_concat rows with rfl | ⟨l, a, rfl⟩
  · exact h
  · rw [List.concat_eq_append, lastI_snoc] at h
    split at h
    · exact absurd h (not_nul v)
    · exact (mem_step.1 h).1
theorem nul_from (p : Pst) (f : Int) : ∀ (rows : List (List Int)), rows.foldl (fun x row => if x = nul then nul else stepI p f x row) nul = nul
  | [] => rfl
  | _ :: rows => by rw [List.foldl_cons, if_pos rfl]; exact nul_from p f rows
theorem folW_get {p : Pst} {f : Int} : ∀ {rows : List (List Int)} {x : Iv}, x ≠ nul → ∀ (h : Nat), h < rows.length → (folW p f rows x)[h]? = (let y := (rows.take (h + 1)).foldl (fun x row => if x = nul then nul else stepI p f x row) x
      if y = nul then none else some y)
  | [], x, _, h, hh => by simp at hh
  | row :: rows, x, hx, h, hh => by
    rw [folW, List.take_succ_cons, List.foldl_cons, if_neg hx]
    by_cases hs : stepI p f x row = nul
    · rw [if_pos hs, hs, nul_from]
      simp
    · rw [if_neg hs]
      cases h with
      | zero => simp [hs]
      | succ h => rw [List.getElem?_cons_succ]; exact folW_get hs h (by simpa using hh)
/-- The hours of one who has failed. -/
def mayL (p : Pst) (f : Int) (rows : List (List Int)) : List Iv := folW p f rows (0, 1000)
theorem may_get {p : Pst} {f : Int} {rows : List (List Int)} {h : Nat} (hh : h < rows.length) : (mayL p f rows)[h]? = if lastI p f (rows.take (h + 1)) = nul then none else some (lastI p f (rows.take (h + 1))) := by
  unfold mayL
  rw [folW_get (by simp [nul]) h hh]
  rfl
theorem may_len_le (p : Pst) (f : Int) : ∀ (rows : List (List Int)) (x : Iv), (folW p f rows x).length ≤ rows.length
  | [], _ => Nat.le_refl _
  | row :: rows, x => by
    rw [folW]
    split
    · simp
    · have := may_len_le p f rows (stepI p f x row); simp; omega
theorem may_len {p : Pst} {f : Int} {rows : List (List Int)} {h : Nat} (hh : h ≤ rows.length) : h ≤ (mayL p f rows).length ↔ lastI p f (rows.take h) ≠ nul := by
  cases h with
  | zero => simp [lastI, nul]
  | succ h =>
    have hg := may_get (p := p) (f := f) (rows := rows) (h := h) (by omega)
    constructor
    · intro h1 h2
      rw [if_pos h2, List.getElem?_eq_none_iff] at hg
      omega
    · intro h1
      rw [if_neg h1] at hg
      have := (List.getElem?_eq_some_iff.1 hg).1
      omega
theorem c89 (m : Nat) (ev : AV) (p : Pst) (x : Iv) (H : Heap) (hx : -100000 ≤ x.1 ∧ x.1 ≤ 100000 ∧ -100000 ≤ x.2 ∧ x.2 ≤ 100000) (hp : (0 ≤ p.gain ∧ p.gain ≤ 200) ∧ 0 ≤ p.drop ∧ p.drop ≤ 200) : RR (m + 1) (.fn 89 [.agg (p.c ev), .agg (ivc x)]) H = some (.agg (ivc (afterI p x)), H) := by
  refine (R_fn _ _ _ _ _).trans ?_
  refine fn_ok Try.func89 rfl rfl (by kernel_rfl) (by kernel_rfl) ?_
  obtain ⟨W, hW⟩ : ∃ W : Heap, W = ⟨H.t, H.next, H.next⟩ := ⟨_, rfl⟩
  have hg : ∀ n, W.get n = H.get n := fun n => by rw [hW]; rfl
  have hN : W.next = H.next := by rw [hW]
  have hE : ∀ G, Grow W G → Ext H G := fun G g => ⟨by rw [← hN]; exact g.next, fun n k => by rw [g.get n (by rw [hN]; exact k), hg]⟩
  have hG : Grow W W := Grow.refl (by rw [hW]; exact Nat.le_refl _)
  rw [← hW]
  refine Ok.seq ?_
  refine Ok.region ?_
  refine OkO.box rfl rfl ?_
  refine OkO.box rfl rfl ?_
  refine OkO.alloc (z := [.int .i64 0, .int .i64 0]) rfl (by kernel_rfl) ?_
  refine OkO.nil ?_
  refine Ok.seq ?_
  refine Ok.region ?_
  refine OkO.indexArr (len := 2) (sz := 1) (n := 0) rfl rfl rfl (by kernel_rfl) (by omega) ?_
  refine OkO.load rfl rfl (lda (n := 1) (by kernel_rfl) (by first | assumption | (simp (disch := first | omega | (simp only [hNw, hPt]; omega)) only [gn0, gn1, gn2, gn3, gn4, gn5, gp0, gno, gpo] <;> first | rfl | assumption | exact gp0 _ _ _ | exact gn0 _ _)) (by first | rfl | assumption)) ?_
  refine OkO.fieldAddr (o := 2) rfl (by kernel_rfl) rfl ?_
  refine OkO.load rfl rfl (lda (n := 1) (by kernel_rfl) (by first | assumption | (simp (disch := first | omega | (simp only [hNw, hPt]; omega)) only [gn0, gn1, gn2, gn3, gn4, gn5, gp0, gno, gpo] <;> first | rfl | assumption | exact gp0 _ _ _ | exact gn0 _ _)) (by first | rfl | assumption)) ?_
  refine OkO.bin rfl rfl rfl (bin_sub (by omega) (by omega)) ?_
  refine OkO.indexArr (len := 2) (sz := 1) (n := 1) rfl rfl rfl (by kernel_rfl) (by omega) ?_
  refine OkO.load rfl rfl (lda (n := 1) (by kernel_rfl) (by first | assumption | (simp (disch := first | omega | (simp only [hNw, hPt]; omega)) only [gn0, gn1, gn2, gn3, gn4, gn5, gp0, gno, gpo] <;> first | rfl | assumption | exact gp0 _ _ _ | exact gn0 _ _)) (by first | rfl | assumption)) ?_
  refine OkO.fieldAddr (o := 1) rfl (by kernel_rfl) rfl ?_
  refine OkO.load rfl rfl (lda (n := 1) (by kernel_rfl) (by first | assumption | (simp (disch := first | omega | (simp only [hNw, hPt]; omega)) only [gn0, gn1, gn2, gn3, gn4, gn5, gp0, gno, gpo] <;> first | rfl | assumption | exact gp0 _ _ _ | exact gn0 _ _)) (by first | rfl | assumption)) ?_
  refine OkO.bin rfl rfl rfl (bin_add (by omega) (by omega)) ?_
  refine OkO.buildArr (z := [.int .i64 0, .int .i64 0]) (sz := 1) rfl (by kernel_rfl) rfl rfl ?_
  refine OkO.store rfl rfl rfl (sAc (n := 2) (ag := true) (by kernel_rfl) (by first | assumption | (simp (disch := first | omega | (simp only [hNw, hPt]; omega)) only [gn0, gn1, gn2, gn3, gn4, gn5, gp0, gno, gpo] <;> first | rfl | assumption | exact gp0 _ _ _ | exact gn0 _ _)) rfl (by first | rfl | assumption) (by first | rfl | exact spl_set _ _ _ (by first | assumption | omega | (simp; omega)))) ?_
  refine OkO.nil ?_
  refine Ok.ret ⟨.inr rfl, ?_⟩
  exact back_flat (resV_cell rfl (ldg (n := 2) (by kernel_rfl) (by first | assumption | (simp (disch := first | omega | (simp only [hNw, hPt]; omega)) only [gn0, gn1, gn2, gn3, gn4, gn5, gp0, gno, gpo] <;> first | rfl | assumption)) (by first | rfl | assumption)) resV_nil) (rfl) rfl (by rw [← hW]; exact (by (try dsimp only); repeat (first | exact hG | apply Grow.new | (refine Grow.put ?_ _ (by first | omega | (simp only [hNw, hPt]; omega))))))
theorem c106 (m : Nat)  (H : Heap)  : RR (m + 1) (.fn 106 []) H = some (.agg (ivc nul), H) := by
  show evFn Try.prog (RR m) 106 [] H = _
  refine fn_ok Try.func106 rfl rfl (by kernel_rfl) (by kernel_rfl) ?_
  obtain ⟨W, hW⟩ : ∃ W : Heap, W = ⟨H.t, H.next, H.next⟩ := ⟨_, rfl⟩
  have hg : ∀ n, W.get n = H.get n := fun n => by rw [hW]; rfl
  have hN : W.next = H.next := by rw [hW]
  have hE : ∀ G, Grow W G → Ext H G := fun G g => ⟨by rw [← hN]; exact g.next, fun n k => by rw [g.get n (by rw [hN]; exact k), hg]⟩
  have hG : Grow W W := Grow.refl (by rw [hW]; exact Nat.le_refl _)
  rw [← hW]
  refine Ok.seq ?_
  refine Ok.region ?_
  refine OkO.alloc (z := [.int .i64 0, .int .i64 0]) rfl (by kernel_rfl) ?_
  refine OkO.nil ?_
  refine Ok.seq ?_
  refine Ok.region ?_
  refine OkO.buildArr (z := [.int .i64 0, .int .i64 0]) (sz := 1) rfl (by kernel_rfl) rfl rfl ?_
  refine OkO.store rfl rfl rfl (sAc (n := 2) (ag := true) (by kernel_rfl) (by first | assumption | (simp (disch := first | omega | (simp only [hNw, hPt]; omega)) only [gn0, gn1, gn2, gn3, gn4, gn5, gp0, gno, gpo] <;> first | rfl | assumption | exact gp0 _ _ _ | exact gn0 _ _)) rfl (by first | rfl | assumption) (by first | rfl | exact spl_set _ _ _ (by first | assumption | omega | (simp; omega)))) ?_
  refine OkO.nil ?_
  refine Ok.ret ⟨.inr rfl, ?_⟩
  exact back_flat (resV_cell rfl (ldg (n := 2) (by kernel_rfl) (by first | assumption | (simp (disch := first | omega | (simp only [hNw, hPt]; omega)) only [gn0, gn1, gn2, gn3, gn4, gn5, gp0, gno, gpo] <;> first | rfl | assumption)) (by first | rfl | assumption)) resV_nil) (rfl) rfl (by rw [← hW]; exact (by (try dsimp only); repeat (first | exact hG | apply Grow.new | (refine Grow.put ?_ _ (by first | omega | (simp only [hNw, hPt]; omega))))))
theorem c93 (m : Nat) (x y : Iv) (H : Heap)  : RR (m + 2) (.fn 93 [.agg (ivc x), .agg (ivc y)]) H = some (.agg (ivc (meetI x y)), H) := by
  refine (R_fn _ _ _ _ _).trans ?_
  refine fn_ok Try.func93 rfl rfl (by kernel_rfl) (by kernel_rfl) ?_
  obtain ⟨W, hW⟩ : ∃ W : Heap, W = ⟨H.t, H.next, H.next⟩ := ⟨_, rfl⟩
  have hg : ∀ n, W.get n = H.get n := fun n => by rw [hW]; rfl
  have hN : W.next = H.next := by rw [hW]
  have hE : ∀ G, Grow W G → Ext H G := fun G g => ⟨by rw [← hN]; exact g.next, fun n k => by rw [g.get n (by rw [hN]; exact k), hg]⟩
  have hG : Grow W W := Grow.refl (by rw [hW]; exact Nat.le_refl _)
  rw [← hW]
  refine Ok.seq ?_
  refine Ok.region ?_
  refine OkO.box rfl rfl ?_
  refine OkO.box rfl rfl ?_
  refine OkO.alloc (z := [.int .i64 0, .int .i64 0]) rfl (by kernel_rfl) ?_
  refine OkO.nil ?_
  refine Ok.seq ?_
  refine Ok.region ?_
  refine OkO.indexArr (len := 2) (sz := 1) (n := 0) rfl rfl rfl (by kernel_rfl) (by omega) ?_
  refine OkO.load rfl rfl (lda (n := 1) (by kernel_rfl) (by first | assumption | (simp (disch := first | omega | (simp only [hNw, hPt]; omega)) only [gn0, gn1, gn2, gn3, gn4, gn5, gp0, gno, gpo] <;> first | rfl | assumption | exact gp0 _ _ _ | exact gn0 _ _)) (by first | rfl | assumption)) ?_
  refine OkO.indexArr (len := 2) (sz := 1) (n := 0) rfl rfl rfl (by kernel_rfl) (by omega) ?_
  refine OkO.load rfl rfl (lda (n := 1) (by kernel_rfl) (by first | assumption | (simp (disch := first | omega | (simp only [hNw, hPt]; omega)) only [gn0, gn1, gn2, gn3, gn4, gn5, gp0, gno, gpo] <;> first | rfl | assumption | exact gp0 _ _ _ | exact gn0 _ _)) (by first | rfl | assumption)) ?_
  refine OkO.builtin rfl rfl rfl (builtin_max2 _ _) ?_
  refine OkO.indexArr (len := 2) (sz := 1) (n := 1) rfl rfl rfl (by kernel_rfl) (by omega) ?_
  refine OkO.load rfl rfl (lda (n := 1) (by kernel_rfl) (by first | assumption | (simp (disch := first | omega | (simp only [hNw, hPt]; omega)) only [gn0, gn1, gn2, gn3, gn4, gn5, gp0, gno, gpo] <;> first | rfl | assumption | exact gp0 _ _ _ | exact gn0 _ _)) (by first | rfl | assumption)) ?_
  refine OkO.indexArr (len := 2) (sz := 1) (n := 1) rfl rfl rfl (by kernel_rfl) (by omega) ?_
  refine OkO.load rfl rfl (lda (n := 1) (by kernel_rfl) (by first | assumption | (simp (disch := first | omega | (simp only [hNw, hPt]; omega)) only [gn0, gn1, gn2, gn3, gn4, gn5, gp0, gno, gpo] <;> first | rfl | assumption | exact gp0 _ _ _ | exact gn0 _ _)) (by first | rfl | assumption)) ?_
  refine OkO.builtin rfl rfl rfl (builtin_min2 _ _) ?_
  refine OkO.buildArr (z := [.int .i64 0, .int .i64 0]) (sz := 1) rfl (by kernel_rfl) rfl rfl ?_
  refine OkO.alloc (z := [.int .i64 0, .int .i64 0]) rfl (by kernel_rfl) ?_
  refine OkO.store rfl rfl rfl (sAc (n := 2) (ag := true) (by kernel_rfl) (by first | assumption | (simp (disch := first | omega | (simp only [hNw, hPt]; omega)) only [gn0, gn1, gn2, gn3, gn4, gn5, gp0, gno, gpo] <;> first | rfl | assumption | exact gp0 _ _ _ | exact gn0 _ _)) rfl (by first | rfl | assumption) (by first | rfl | exact spl_set _ _ _ (by first | assumption | omega | (simp; omega)))) ?_
  refine OkO.nil ?_
  refine Ok.seq ?_
  refine Ok.seq ?_
  refine Ok.region ?_
  refine OkO.indexArr (len := 2) (sz := 1) (n := 0) rfl rfl rfl (by kernel_rfl) (by omega) ?_
  refine OkO.load rfl rfl (lda (n := 1) (by kernel_rfl) (by first | assumption | (simp (disch := first | omega | (simp only [hNw, hPt]; omega)) only [gn0, gn1, gn2, gn3, gn4, gn5, gp0, gno, gpo] <;> first | rfl | assumption | exact gp0 _ _ _ | exact gn0 _ _)) (by first | rfl | assumption)) ?_
  refine OkO.indexArr (len := 2) (sz := 1) (n := 1) rfl rfl rfl (by kernel_rfl) (by omega) ?_
  refine OkO.load rfl rfl (lda (n := 1) (by kernel_rfl) (by first | assumption | (simp (disch := first | omega | (simp only [hNw, hPt]; omega)) only [gn0, gn1, gn2, gn3, gn4, gn5, gp0, gno, gpo] <;> first | rfl | assumption | exact gp0 _ _ _ | exact gn0 _ _)) (by first | rfl | assumption)) ?_
  refine OkO.bin rfl rfl rfl (bin_gtr _ _) ?_
  refine OkO.nil ?_
  refine Ok.cond rfl (fun h1 => ?_) (fun h1 => ?_)
  · -- yes h1
    have hm : min x.2 y.2 < max x.1 y.1 := by simpa using h1
    refine Ok.seq ?_
    refine Ok.region ?_
    refine OkO.callV rfl rfl rfl rfl rfl (c106 m _) ?_ -- "sackung/alarm.nothing"
    refine OkO.store rfl rfl rfl (sAc (n := 2) (ag := true) (by kernel_rfl) (by first | assumption | (simp (disch := first | omega | (simp only [hNw, hPt]; omega)) only [gn0, gn1, gn2, gn3, gn4, gn5, gp0, gno, gpo] <;> first | rfl | assumption | exact gp0 _ _ _ | exact gn0 _ _)) rfl (by first | rfl | assumption) (by first | rfl | exact spl_set _ _ _ (by first | assumption | omega | (simp; omega)))) ?_
    refine OkO.nil ?_
    refine Ok.ret ⟨.inr rfl, ?_⟩
    exact back_flat (resV_cell rfl (ldg (n := 2) (by kernel_rfl) (by first | assumption | (simp (disch := first | omega | (simp only [hNw, hPt]; omega)) only [gn0, gn1, gn2, gn3, gn4, gn5, gp0, gno, gpo] <;> first | rfl | assumption)) (by first | rfl | assumption)) resV_nil) (by rw [meetI, if_pos hm]; rfl) rfl (by rw [← hW]; exact (by (try dsimp only); repeat (first | exact hG | apply Grow.new | (refine Grow.put ?_ _ (by first | omega | (simp only [hNw, hPt]; omega))))))
  · -- no h1
    have hm : ¬ min x.2 y.2 < max x.1 y.1 := by simpa using h1
    refine Ok.skip ?_
    refine Ok.seq ?_
    refine Ok.region ?_
    refine OkO.load rfl rfl (ldg (n := 2) (by kernel_rfl) (by first | assumption | (simp (disch := first | omega | (simp only [hNw, hPt]; omega)) only [gn0, gn1, gn2, gn3, gn4, gn5, gp0, gno, gpo] <;> first | rfl | assumption | exact gp0 _ _ _ | exact gn0 _ _)) (by first | rfl | assumption)) ?_
    refine OkO.store rfl rfl rfl (sAc (n := 2) (ag := true) (by kernel_rfl) (by first | assumption | (simp (disch := first | omega | (simp only [hNw, hPt]; omega)) only [gn0, gn1, gn2, gn3, gn4, gn5, gp0, gno, gpo] <;> first | rfl | assumption | exact gp0 _ _ _ | exact gn0 _ _)) rfl (by first | rfl | assumption) (by first | rfl | exact spl_set _ _ _ (by first | assumption | omega | (simp; omega)))) ?_
    refine OkO.nil ?_
    refine Ok.ret ⟨.inr rfl, ?_⟩
    exact back_flat (resV_cell rfl (ldg (n := 2) (by kernel_rfl) (by first | assumption | (simp (disch := first | omega | (simp only [hNw, hPt]; omega)) only [gn0, gn1, gn2, gn3, gn4, gn5, gp0, gno, gpo] <;> first | rfl | assumption)) (by first | rfl | assumption)) resV_nil) (by rw [meetI, if_neg hm]; rfl) rfl (by rw [← hW]; exact (by (try dsimp only); repeat (first | exact hG | apply Grow.new | (refine Grow.put ?_ _ (by first | omega | (simp only [hNw, hPt]; omega))))))
theorem c105 (m : Nat) (ev : AV) (p : Pst) (rv : AV) (row : List Int) (g : Nat) (H : Heap) (hV : Ints H ev p.errs) (hR : Ints H rv row) (hg1 : g < p.errs.length) (hg2 : g < row.length) (hb1 : ∀ x ∈ p.errs, 0 ≤ x ∧ x ≤ 1000) (hb2 : ∀ x ∈ row, -1000 ≤ x ∧ x ≤ 2000) : RR (m + 1) (.fn 105 [.agg (p.c ev), I (g : Int), rv]) H = some (.agg (ivc (gI p row g)), H) := by
  refine (R_fn _ _ _ _ _).trans ?_
  refine fn_ok Try.func105 rfl rfl (by kernel_rfl) (by kernel_rfl) ?_
  obtain ⟨W, hW⟩ : ∃ W : Heap, W = ⟨H.t, H.next, H.next⟩ := ⟨_, rfl⟩
  have hg : ∀ n, W.get n = H.get n := fun n => by rw [hW]; rfl
  have hN : W.next = H.next := by rw [hW]
  have hE : ∀ G, Grow W G → Ext H G := fun G g => ⟨by rw [← hN]; exact g.next, fun n k => by rw [g.get n (by rw [hN]; exact k), hg]⟩
  have hG : Grow W W := Grow.refl (by rw [hW]; exact Nat.le_refl _)
  rw [← hW]
  have pev : ev.plain = true := lpl hV.len
  obtain ⟨eb, eo, ecs, e1, e2, e3, e4⟩ := (hV.ext (hE _ hG)).at' g hg1
  obtain ⟨rb, ro, rcs, r1, r2, r3, r4⟩ := (hR.ext (hE _ hG)).at' g hg2
  have b1 := hb1 _ (List.getElem_mem hg1)
  have b2 := hb2 _ (List.getElem_mem hg2)
  refine Ok.seq ?_
  refine Ok.region ?_
  refine OkO.box rfl rfl ?_
  refine OkO.alloc (z := [.int .i64 0, .int .i64 0]) rfl (by kernel_rfl) ?_
  refine OkO.nil ?_
  refine Ok.seq ?_
  refine Ok.drawn [(0, true, []), (1, true, []), (2, true, []), (3, true, []), (4, true, []), (5, true, []), (6, true, []), (7, true, []), (8, true, []), (9, true, []), (10, true, []), (11, true, []), (12, true, []), (13, true, []), (14, true, []), (15, true, []), (16, true, []), (17, true, []), (18, true, []), (19, true, []), (20, true, []), (21, false, [])] (by kernel_rfl) ?_
  refine OkP.step ?_
  refine OkO.move rfl rfl ?_
  refine OkO.nil ⟨rfl, ?_⟩
  refine OkP.step ?_
  refine OkO.move rfl rfl ?_
  refine OkO.nil ⟨rfl, ?_⟩
  refine OkP.step ?_
  refine OkO.index (sz := 1) (n := g) rfl rfl rfl (by kernel_rfl) (by first | assumption | rfl | exact slAt_slice (by omega) | exact slAt_opn (by omega)) ?_ -- index ('Go.Operand.tmp', 7) ('Go.Operand.tmp', 8)
  refine OkO.nil ⟨rfl, ?_⟩
  refine OkP.step ?_
  refine OkO.load rfl rfl (lda (n := 1) (by kernel_rfl) (by first | assumption | (simp (disch := first | omega | (simp only [hNw, hPt]; omega)) only [gn0, gn1, gn2, gn3, gn4, gn5, gp0, gno, gpo] <;> first | rfl | assumption | exact gp0 _ _ _ | exact gn0 _ _)) (by first | rfl | assumption)) ?_
  refine OkO.nil ⟨rfl, ?_⟩
  refine OkP.step ?_
  refine OkO.fieldAddr (o := 0) rfl (by kernel_rfl) rfl ?_
  refine OkO.nil ⟨rfl, ?_⟩
  refine OkP.step ?_
  refine OkO.load rfl rfl (lda (n := 1) (by kernel_rfl) (by first | assumption | (simp (disch := first | omega | (simp only [hNw, hPt]; omega)) only [gn0, gn1, gn2, gn3, gn4, gn5, gp0, gno, gpo] <;> first | rfl | assumption | exact gp0 _ _ _ | exact gn0 _ _)) (by first | rfl | assumption)) ?_
  refine OkO.nil ⟨rfl, ?_⟩
  refine OkP.step ?_
  refine OkO.move rfl rfl ?_
  refine OkO.nil ⟨rfl, ?_⟩
  refine OkP.step ?_
  refine OkO.index (sz := 1) (n := g) rfl rfl rfl (by kernel_rfl) (by first | assumption | rfl | exact slAt_slice (by omega) | exact slAt_opn (by omega)) ?_ -- index ('Go.Operand.tmp', 12) ('Go.Operand.tmp', 13)
  refine OkO.nil ⟨rfl, ?_⟩
  refine OkP.step ?_
  refine OkO.load rfl rfl (lda (n := 1) (by kernel_rfl) (by first | assumption | (simp (disch := first | omega | (simp only [hNw, hPt]; omega)) only [gn0, gn1, gn2, gn3, gn4, gn5, gp0, gno, gpo] <;> first | rfl | assumption | exact gp0 _ _ _ | exact gn0 _ _)) (by first | rfl | assumption)) ?_
  refine OkO.nil ⟨rfl, ?_⟩
  refine OkP.step ?_
  refine OkO.bin rfl rfl rfl (bin_sub (by omega) (by omega)) ?_
  refine OkO.nil ⟨rfl, ?_⟩
  refine OkP.step ?_
  refine OkO.move rfl rfl ?_
  refine OkO.nil ⟨rfl, ?_⟩
  refine OkP.step ?_
  refine OkO.move rfl rfl ?_
  refine OkO.nil ⟨rfl, ?_⟩
  refine OkP.step ?_
  refine OkO.index (sz := 1) (n := g) rfl rfl rfl (by kernel_rfl) (by first | assumption | rfl | exact slAt_slice (by omega) | exact slAt_opn (by omega)) ?_ -- index ('Go.Operand.tmp', 17) ('Go.Operand.tmp', 18)
  refine OkO.nil ⟨rfl, ?_⟩
  refine OkP.step ?_
  refine OkO.load rfl rfl (lda (n := 1) (by kernel_rfl) (by first | assumption | (simp (disch := first | omega | (simp only [hNw, hPt]; omega)) only [gn0, gn1, gn2, gn3, gn4, gn5, gp0, gno, gpo] <;> first | rfl | assumption | exact gp0 _ _ _ | exact gn0 _ _)) (by first | rfl | assumption)) ?_
  refine OkO.nil ⟨rfl, ?_⟩
  refine OkP.step ?_
  refine OkO.fieldAddr (o := 0) rfl (by kernel_rfl) rfl ?_
  refine OkO.nil ⟨rfl, ?_⟩
  refine OkP.step ?_
  refine OkO.load rfl rfl (lda (n := 1) (by kernel_rfl) (by first | assumption | (simp (disch := first | omega | (simp only [hNw, hPt]; omega)) only [gn0, gn1, gn2, gn3, gn4, gn5, gp0, gno, gpo] <;> first | rfl | assumption | exact gp0 _ _ _ | exact gn0 _ _)) (by first | rfl | assumption)) ?_
  refine OkO.nil ⟨rfl, ?_⟩
  refine OkP.step ?_
  refine OkO.move rfl rfl ?_
  refine OkO.nil ⟨rfl, ?_⟩
  refine OkP.step ?_
  refine OkO.index (sz := 1) (n := g) rfl rfl rfl (by kernel_rfl) (by first | assumption | rfl | exact slAt_slice (by omega) | exact slAt_opn (by omega)) ?_ -- index ('Go.Operand.tmp', 22) ('Go.Operand.tmp', 23)
  refine OkO.nil ⟨rfl, ?_⟩
  refine OkP.step ?_
  refine OkO.load rfl rfl (lda (n := 1) (by kernel_rfl) (by first | assumption | (simp (disch := first | omega | (simp only [hNw, hPt]; omega)) only [gn0, gn1, gn2, gn3, gn4, gn5, gp0, gno, gpo] <;> first | rfl | assumption | exact gp0 _ _ _ | exact gn0 _ _)) (by first | rfl | assumption)) ?_
  refine OkO.nil ⟨rfl, ?_⟩
  refine OkP.step ?_
  refine OkO.bin rfl rfl rfl (bin_add (by omega) (by omega)) ?_
  refine OkO.nil ⟨rfl, ?_⟩
  refine OkP.step ?_
  refine OkO.buildArr (z := [.int .i64 0, .int .i64 0]) (sz := 1) rfl (by kernel_rfl) rfl rfl ?_
  refine OkO.nil ⟨rfl, ?_⟩
  refine OkP.step ?_
  refine OkO.store rfl rfl rfl (sAc (n := 2) (ag := true) (by kernel_rfl) (by first | assumption | (simp (disch := first | omega | (simp only [hNw, hPt]; omega)) only [gn0, gn1, gn2, gn3, gn4, gn5, gp0, gno, gpo] <;> first | rfl | assumption | exact gp0 _ _ _ | exact gn0 _ _)) rfl (by first | rfl | assumption) (by first | rfl | exact spl_set _ _ _ (by first | assumption | omega | (simp; omega)))) ?_
  refine OkO.nil ⟨rfl, ?_⟩
  refine OkP.nil ?_
  refine Ok.ret ⟨.inr rfl, ?_⟩
  exact back_flat (resV_cell rfl (ldg (n := 2) (by kernel_rfl) (by first | assumption | (simp (disch := first | omega | (simp only [hNw, hPt]; omega)) only [gn0, gn1, gn2, gn3, gn4, gn5, gp0, gno, gpo] <;> first | rfl | assumption)) (by first | rfl | assumption)) resV_nil) (by unfold gI; rw [show p.errs.getD g 0 = p.errs[g] from (by simp [List.getD_eq_getElem?_getD, hg1]), show row.getD g 0 = row[g] from (by simp [List.getD_eq_getElem?_getD, hg2])]; rfl) rfl (by rw [← hW]; exact (by (try dsimp only); repeat (first | exact hG | apply Grow.new | (refine Grow.put ?_ _ (by first | omega | (simp only [hNw, hPt]; omega))))))
end
end Go.Ev

set_option maxRecDepth 100000
set_option linter.unusedSimpArgs false
set_option linter.unusedVariables false
namespace Go.Ev
open Go Go.Proofs
noncomputable section
/-- A list of lists of numbers, as it lies. -/
def LstAt (H : Heap) (v : AV) (rows : List (List Int)) : Prop := ∃ vs : List AV, vs.length = rows.length ∧ Row H v 1 (vs.map fun x => [x]) ∧ ∀ (i : Nat) (x : AV) (r : List Int), vs[i]? = some x → rows[i]? = some r → Ints H x r
theorem LstAt.ext {H G : Heap} {v : AV} {rows : List (List Int)} (h : LstAt H v rows) (g : Ext H G) : LstAt G v rows := let ⟨vs, h1, h2, h3⟩ := h; ⟨vs, h1, h2.ext g, fun i x r a c => (h3 i x r a c).ext g⟩
theorem LstAt.len {H : Heap} {v : AV} {rows : List (List Int)} (h : LstAt H v rows) : lenOf v = some rows.length := by
  obtain ⟨vs, h1, h2, _⟩ := h
  rw [h2.len]; simp [h1]
theorem LstAt.at_ {H : Heap} {v : AV} {rows : List (List Int)} (h : LstAt H v rows) (i : Nat) (hi : i < rows.length) : ∃ x b off cs, slAt v 1 i = some (b, off) ∧ (H.get b).bind AObj.cs = some cs ∧ cs[off]? = some x ∧ b < H.next ∧ Ints H x rows[i] := by
  obtain ⟨vs, h1, h2, h3⟩ := h
  have hv : i < vs.length := by omega
  obtain ⟨b, off, cs, i1, i2, i3, i4⟩ := h2.at_ i [vs[i]] (by simp [hv])
  exact ⟨vs[i], b, off, cs, i1, i2, seg_one i3, i4, h3 i _ _ (List.getElem?_eq_getElem hv) (List.getElem?_eq_getElem hi)⟩
def natL (l : List Nat) : List AV := l.map fun (g : Nat) => I (g : Int)
theorem natL_flat : ∀ l : List Nat, (l.map fun g => [I ((g : Nat) : Int)]).flatten = natL l
  | [] => rfl
  | a :: l => by rw [List.map_cons, List.flatten_cons, natL_flat l]; rfl
theorem Mine.nats {k0 : Nat} {G : Heap} {v : AV} {l : List Nat} (h : Mine k0 G v 3 1 (natL l)) : Row G v 1 (l.map fun g => [I ((g : Nat) : Int)]) := Mine.row (by rw [natL_flat]; exact h) (fun x hx => by obtain ⟨y, _, rfl⟩ := List.mem_map.1 hx; rfl) (by omega)
theorem workL_len (n : Nat) (f : Int) : (workL n f).length ≤ n := by
  unfold workL
  have := List.length_filter_le (fun g => decide (((g : Nat) : Int) ≠ f)) (List.range n)
  rw [List.length_range] at this
  exact this
theorem workL_yes {n : Nat} {f : Int} (h : (n : Int) ≠ f) : workL (n + 1) f = workL n f ++ [n] := by
  unfold workL
  rw [List.range_succ, List.filter_append]
  simp [h]
theorem workL_no {n : Nat} {f : Int} (h : (n : Int) = f) : workL (n + 1) f = workL n f := by
  unfold workL
  rw [List.range_succ, List.filter_append]
  simp [h]
theorem workL_lt {n : Nat} {f : Int} {g : Nat} (h : g ∈ workL n f) : g < n := List.mem_range.1 (List.mem_filter.1 h).1
theorem c90 (m : Nat) (ev : AV) (p : Pst) (f : Int) (H : Heap) (hV : lenOf ev = some p.errs.length) (hl : p.errs.length ≤ 1000) : ∃ v H', RR (m + 1) (.fn 90 [.agg (p.c ev), I f]) H = some (v, H') ∧ Ret H H' ∧ Mine H.next H' v 3 1 (natL (workL p.errs.length f)) := by
  show ∃ v H', evFn Try.prog (RR (m + 0)) 90 [.agg (p.c ev), I f] H = some (v, H') ∧ Ret H H' ∧ Mine H.next H' v 3 1 (natL (workL p.errs.length f))
  refine fn_okE Try.func90 rfl rfl (by kernel_rfl) (by kernel_rfl) ?_
  obtain ⟨W, hW⟩ : ∃ W : Heap, W = ⟨H.t, H.next, H.next⟩ := ⟨_, rfl⟩
  have hg : ∀ n, W.get n = H.get n := fun n => by rw [hW]; rfl
  have hN : W.next = H.next := by rw [hW]
  have hE : ∀ G, Grow W G → Ext H G := fun G g => ⟨by rw [← hN]; exact g.next, fun n k => by rw [g.get n (by rw [hN]; exact k), hg]⟩
  have hG : Grow W W := Grow.refl (by rw [hW]; exact Nat.le_refl _)
  rw [← hW]
  have pev : ev.plain = true := lpl hV
  refine Ok.seq ?_
  refine Ok.region ?_
  refine OkO.box rfl rfl ?_
  refine OkO.assign rfl rfl ?_
  refine OkO.nil ?_
  refine Ok.seq ?_
  refine Ok.region ?_
  refine OkO.assign rfl rfl ?_
  refine OkO.nil ?_
  refine Ok.seq ?_
  refine Ok.seq ?_
  refine Ok.region ?_
  refine OkO.fieldAddr (o := 0) rfl (by kernel_rfl) rfl ?_
  refine OkO.load rfl rfl (lda (n := 1) (by kernel_rfl) (by first | assumption | (simp (disch := first | omega | (simp only [hNw, hPt]; omega)) only [gn0, gn1, gn2, gn3, gn4, gn5, gp0, gno, gpo] <;> first | rfl | assumption | exact gp0 _ _ _ | exact gn0 _ _)) (by first | rfl | assumption)) ?_
  refine OkO.builtin rfl rfl rfl (bln (by kernel_rfl) (by first | assumption | rfl)) ?_
  refine OkO.move rfl rfl ?_
  refine OkO.nil ?_
  refine Ok.block ?_
  refine Ok.loop (fun n s => ∃ (i : Nat) (ov : AV), n = p.errs.length - i ∧ i ≤ p.errs.length ∧ Mine (W.next + 1) s.H ov 3 1 (natL (workL i f)) ∧ Has 5 [(1, I f), (2, .ptr W.next 0), (5, ov), (9, I (p.errs.length : Int)), (10, I (i : Int))] s.T ∧ s.D = [] ∧ Grow W s.H ∧ W.next + 1 ≤ s.H.next) (p.errs.length) (by unfold loopFuel; omega)
    ⟨0, .nils, rfl, Nat.zero_le _, Mine.nil _ _ _ _, Has.of (by kernel_rfl), rfl, (by (try dsimp only); repeat (first | exact hG | apply Grow.new | (refine Grow.put ?_ _ (by first | omega | (simp only [hNw, hPt]; omega))))), by simp⟩ ?_
  rintro n ⟨T, D, G⟩ ⟨i, ov, hn, hi, hm, ⟨f_, hT⟩, hD, hg, hn1⟩
  dsimp only at *
  subst hT hD
  have hgn := hg.next
  refine Ok.seq ?_
  refine Ok.region ?_
  refine OkO.bin rfl rfl rfl (bin_lss _ _) ?_
  refine OkO.nil ?_
  refine Ok.seq ?_
  refine Ok.cond rfl (fun h1 => ?_) (fun h1 => ?_)
  · -- yes h1
    have hlt : i < p.errs.length := by simpa using h1
    refine Ok.skip ?_
    refine Ok.seq ?_
    refine Ok.block ?_
    refine Ok.seq ?_
    refine Ok.region ?_
    refine OkO.move rfl rfl ?_
    refine OkO.assign rfl rfl ?_
    refine OkO.nil ?_
    refine Ok.seq ?_
    refine Ok.region ?_
    refine OkO.move rfl rfl ?_
    refine OkO.move rfl rfl ?_
    refine OkO.bin rfl rfl rfl (bin_neq _ _) ?_
    refine OkO.nil ?_
    refine Ok.cond rfl (fun h2 => ?_) (fun h2 => ?_)
    · -- yes h2
      have hne : (i : Int) ≠ f := by simpa using h2
      refine Ok.region ?_
      refine OkO.move rfl rfl ?_
      refine OkO.move rfl rfl ?_
      refine OkO.buildSlice (el := 3) (sz := 1) (z := [.int .i64 0]) rfl (by kernel_rfl) (by decide) rfl rfl ?_
      refine OkO.builtinE rfl rfl rfl (Mine.app2 (W := W) (k0 := W.next + 1) (t := 22) (u := 22) (sz := 1) (by_ := 8) (e := 3) (n := 1) (new := [I (i : Int)]) (hm.to (by (try dsimp only); repeat (first | exact Ext.refl _ | assumption | apply Ext.new | (refine Ext.put ?_ _ (by first | omega | (simp only [hNw, hPt]; omega)))))) (by (try dsimp only); repeat (first | exact hg | exact hG | apply Grow.new | (refine Grow.put ?_ _ (by first | omega | (simp only [hNw, hPt]; omega))))) (by omega) (by simp; omega) (by kernel_rfl) (by kernel_rfl) (elems_new (n := 1) (sz := 1) rfl) rfl rfl (by have h9 := workL_len i f; simp [natL]; omega) (by omega) (by omega) rfl) ?_
      rintro v2 G2 ⟨r1, r2, r3, r4, r5, _⟩
      refine OkO.assign rfl rfl ?_
      refine OkO.nil ?_
      refine Ok.region ?_
      refine OkO.bin rfl rfl rfl (bin_add (by omega) (by omega)) ?_
      refine OkO.move rfl rfl ?_
      refine OkO.nil ?_
      refine ⟨p.errs.length - (i + 1), by omega, i + 1, _, rfl, by omega, by rw [workL_yes hne]; simpa [natL] using r1, Has.of (by kernel_rfl), rfl, r2, by (show W.next + 1 ≤ G2.next; simp only [hNw] at r5; omega)⟩
    · -- no h2
      have heq : (i : Int) = f := by simpa using h2
      refine Ok.skip ?_
      refine Ok.region ?_
      refine OkO.bin rfl rfl rfl (bin_add (by omega) (by omega)) ?_
      refine OkO.move rfl rfl ?_
      refine OkO.nil ?_
      refine ⟨p.errs.length - (i + 1), by omega, i + 1, ov, rfl, by omega, by rw [workL_no heq]; exact hm, Has.of (by kernel_rfl), rfl, hg, hn1⟩
  · -- no h1
    have hge : i = p.errs.length := by simp at h1; omega
    subst hge
    refine Ok.exit ?_
    refine Ok.seq ?_
    refine Ok.region ?_
    refine OkO.move rfl rfl ?_
    refine OkO.assign rfl rfl ?_
    refine OkO.nil ?_
    refine Ok.ret ⟨.inr rfl, ?_⟩
    refine back_newA (resV_tmp rfl resV_nil) rfl (by rw [← hW]; exact hg) (fun H9 p1 p2 => ⟨p1, (hm.low (by omega)).backT p2 id⟩)
end
end Go.Ev

