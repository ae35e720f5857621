/-
  Functions of the program, reckoned by the evaluator: what each answers, and that it leaves what came in as it was.
-/
import Derived.Test.YthcjhfddoaccnaaEvZ
import Derived.KernelRfl
import Derived.Test.YthcjhfddoaccnaaProg
import Derived.Test.YthcjhfddoaccnaaEvY
import Derived.WideShapes
set_option maxRecDepth 100000
set_option linter.unusedSimpArgs false
set_option linter.unusedVariables false
namespace Go.Ev
open Go Go.Proofs
noncomputable section
abbrev I (n : Int) : AV := .int .i64 n
/-- Is a number from lo to hi? -/
def inB (a lo hi : Int) : Bool := decide (lo ≤ a) && decide (a ≤ hi)
def RR (m : Nat) : Rec := runO Try.prog (closedO 18 (.bool true)) m
theorem R_fn (m : Nat) (f : FuncId) (a : AV) (l : List AV) (H : Heap) : RR (m + 1) (.fn f (a :: l)) H = evFn Try.prog (RR m) f (a :: l) H := rfl
abbrev Ints (H : Heap) (v : AV) (us : List Int) : Prop := Row H v 1 (us.map fun n => [I n])
theorem flatI : ∀ (l : List Int), (l.map fun x => [I x]).flatten = l.map I
  | [] => rfl
  | a :: l => by rw [List.map_cons, List.flatten_cons, flatI l]; rfl
theorem atoms_ints (us : List Int) : atoms (us.map I) = true := by induction us with | nil => rfl | cons a l ih => exact ih
structure Rul where (start back hold : Int)
def Rul.c (r : Rul) : List AV := [I r.start, I r.back, I r.hold]
def Rul.ok (r : Rul) : Bool := inB r.start 0 1000 && inB r.back 0 r.start && inB r.hold 1 60
structure Trm where (out price hour less hold : Int)
def Trm.c (t : Trm) : List AV := [I t.out, I t.price, I t.hour, I t.less, I t.hold]
def Trm.ok (t : Trm) : Bool := inB t.out 0 60 && inB t.price 0 1000 && inB t.hour 0 1000 && inB t.less 0 1000 && inB t.hold 1 60
/-- A call that answers a bool, and leaves the heap as it was. -/
def CallB (m : Nat) (fv : AV) (args : List AV) (H : Heap) (r : Bool) : Prop := ∃ f bs, Go.Ev.callV fv args = some (.fn f bs) ∧ ∀ G, Ext H G → RR m (.fn f bs) G = some (.bool r, G)
theorem c36 (m : Nat) (a lo hi : Int) (H : Heap)  : RR (m + 1) (.fn 36 [I a, I lo, I hi]) H = some (.bool (inB a lo hi), H) := by
  refine (R_fn _ _ _ _ _).trans ?_
  refine fn_ok Try.func36 rfl rfl (by kernel_rfl) (by kernel_rfl) ?_
  obtain ⟨W, hW⟩ : ∃ W : Heap, W = ⟨H.t, H.next, H.next⟩ := ⟨_, rfl⟩
  have hg : ∀ n, W.get n = H.get n := fun n => by rw [hW]; rfl
  have hN : W.next = H.next := by rw [hW]
  have hE : ∀ G, Grow W G → Ext H G := fun G g => ⟨by rw [← hN]; exact g.next, fun n k => by rw [g.get n (by rw [hN]; exact k), hg]⟩
  have hG : Grow W W := Grow.refl (by rw [hW]; exact Nat.le_refl _)
  rw [← hW]
  refine Ok.seq ?_
  refine Ok.region ?_
  refine OkO.assign rfl rfl ?_
  refine OkO.nil ?_
  refine Ok.seq ?_
  refine Ok.region ?_
  refine OkO.move rfl rfl ?_
  refine OkO.move rfl rfl ?_
  refine OkO.bin rfl rfl rfl (bin_geq _ _) ?_
  refine OkO.move rfl rfl ?_
  refine OkO.split (d := 10) rfl (fun g1 => ?_) (fun g1 => ?_)
  · -- true g1
    refine OkO.move rfl rfl ?_
    refine OkO.move rfl rfl ?_
    refine OkO.bin rfl rfl rfl (bin_leq _ _) ?_
    refine OkO.pick (b := true) rfl rfl (fun _ => rfl) nofun ?_
    refine OkO.assign rfl rfl ?_
    refine OkO.nil ?_
    refine Ok.ret ⟨.inr rfl, ?_⟩
    exact back_flat rfl (by first | rfl | exact congrArg AV.bool (by clear hg hN hG hE; first | (simp_all [inB]; done) | (rw [Bool.eq_iff_iff]; simp [inB] at *; omega))) rfl (by rw [← hW]; exact (by (try dsimp only); repeat (first | exact hG | apply Grow.new | (refine Grow.put ?_ _ (by first | omega | (simp only [hNw, hPt]; omega))))))
  · -- false g1
    refine OkO.skip rfl ?_
    refine OkO.skip rfl ?_
    refine OkO.skip rfl ?_
    refine OkO.pick (b := false) rfl rfl nofun (fun _ => rfl) ?_
    refine OkO.assign rfl rfl ?_
    refine OkO.nil ?_
    refine Ok.ret ⟨.inr rfl, ?_⟩
    exact back_flat rfl (by first | rfl | exact congrArg AV.bool (by clear hg hN hG hE; first | (simp_all [inB]; done) | (rw [Bool.eq_iff_iff]; simp [inB] at *; omega))) rfl (by rw [← hW]; exact (by (try dsimp only); repeat (first | exact hG | apply Grow.new | (refine Grow.put ?_ _ (by first | omega | (simp only [hNw, hPt]; omega))))))
theorem c68 (m : Nat) (a b x : Int) (H : Heap)  : RR (m + 1) (.fn 68 [.agg [I a, I b], I x]) H = some (.bool (inB x a b), H) := by
  refine (R_fn _ _ _ _ _).trans ?_
  refine fn_ok Try.func68 rfl rfl (by kernel_rfl) (by kernel_rfl) ?_
  obtain ⟨W, hW⟩ : ∃ W : Heap, W = ⟨H.t, H.next, H.next⟩ := ⟨_, rfl⟩
  have hg : ∀ n, W.get n = H.get n := fun n => by rw [hW]; rfl
  have hN : W.next = H.next := by rw [hW]
  have hE : ∀ G, Grow W G → Ext H G := fun G g => ⟨by rw [← hN]; exact g.next, fun n k => by rw [g.get n (by rw [hN]; exact k), hg]⟩
  have hG : Grow W W := Grow.refl (by rw [hW]; exact Nat.le_refl _)
  rw [← hW]
  refine Ok.seq ?_
  refine Ok.region ?_
  refine OkO.box rfl rfl ?_
  refine OkO.assign rfl rfl ?_
  refine OkO.nil ?_
  refine Ok.seq ?_
  refine Ok.region ?_
  refine OkO.indexArr (len := 2) (sz := 1) (n := 0) rfl rfl rfl (by kernel_rfl) (by omega) ?_
  refine OkO.load rfl rfl (lda (n := 1) (by kernel_rfl) (by first | assumption | (simp (disch := first | omega | (simp only [hNw, hPt]; omega)) only [gn0, gn1, gn2, gn3, gn4, gn5, gp0, gno, gpo] <;> first | rfl | assumption | exact gp0 _ _ _ | exact gn0 _ _)) (by first | rfl | assumption)) ?_
  refine OkO.move rfl rfl ?_
  refine OkO.bin rfl rfl rfl (bin_leq _ _) ?_
  refine OkO.move rfl rfl ?_
  refine OkO.split (d := 9) rfl (fun g1 => ?_) (fun g1 => ?_)
  · -- true g1
    refine OkO.move rfl rfl ?_
    refine OkO.indexArr (len := 2) (sz := 1) (n := 1) rfl rfl rfl (by kernel_rfl) (by omega) ?_
    refine OkO.load rfl rfl (lda (n := 1) (by kernel_rfl) (by first | assumption | (simp (disch := first | omega | (simp only [hNw, hPt]; omega)) only [gn0, gn1, gn2, gn3, gn4, gn5, gp0, gno, gpo] <;> first | rfl | assumption | exact gp0 _ _ _ | exact gn0 _ _)) (by first | rfl | assumption)) ?_
    refine OkO.bin rfl rfl rfl (bin_leq _ _) ?_
    refine OkO.pick (b := true) rfl rfl (fun _ => rfl) nofun ?_
    refine OkO.assign rfl rfl ?_
    refine OkO.nil ?_
    refine Ok.ret ⟨.inr rfl, ?_⟩
    exact back_flat rfl (by first | rfl | exact congrArg AV.bool (by clear hg hN hG hE; first | (simp_all [inB]; done) | (rw [Bool.eq_iff_iff]; simp [inB] at *; omega))) rfl (by rw [← hW]; exact (by (try dsimp only); repeat (first | exact hG | apply Grow.new | (refine Grow.put ?_ _ (by first | omega | (simp only [hNw, hPt]; omega))))))
  · -- false g1
    refine OkO.skip rfl ?_
    refine OkO.skip rfl ?_
    refine OkO.skip rfl ?_
    refine OkO.skip rfl ?_
    refine OkO.pick (b := false) rfl rfl nofun (fun _ => rfl) ?_
    refine OkO.assign rfl rfl ?_
    refine OkO.nil ?_
    refine Ok.ret ⟨.inr rfl, ?_⟩
    exact back_flat rfl (by first | rfl | exact congrArg AV.bool (by clear hg hN hG hE; first | (simp_all [inB]; done) | (rw [Bool.eq_iff_iff]; simp [inB] at *; omega))) rfl (by rw [← hW]; exact (by (try dsimp only); repeat (first | exact hG | apply Grow.new | (refine Grow.put ?_ _ (by first | omega | (simp only [hNw, hPt]; omega))))))
theorem c75 (m : Nat) (r : Rul) (H : Heap)  : RR (m + 2) (.fn 75 [.agg r.c]) H = some (.bool r.ok, H) := by
  refine (R_fn _ _ _ _ _).trans ?_
  refine fn_ok Try.func75 rfl rfl (by kernel_rfl) (by kernel_rfl) ?_
  obtain ⟨W, hW⟩ : ∃ W : Heap, W = ⟨H.t, H.next, H.next⟩ := ⟨_, rfl⟩
  have hg : ∀ n, W.get n = H.get n := fun n => by rw [hW]; rfl
  have hN : W.next = H.next := by rw [hW]
  have hE : ∀ G, Grow W G → Ext H G := fun G g => ⟨by rw [← hN]; exact g.next, fun n k => by rw [g.get n (by rw [hN]; exact k), hg]⟩
  have hG : Grow W W := Grow.refl (by rw [hW]; exact Nat.le_refl _)
  rw [← hW]
  refine Ok.seq ?_
  refine Ok.region ?_
  refine OkO.box rfl rfl ?_
  refine OkO.assign rfl rfl ?_
  refine OkO.nil ?_
  refine Ok.seq ?_
  refine Ok.region ?_
  refine OkO.buildArr (z := [.int .i64 0, .int .i64 0]) (sz := 1) rfl (by kernel_rfl) rfl rfl ?_
  refine OkO.fieldAddr (o := 0) rfl (by kernel_rfl) rfl ?_
  refine OkO.load rfl rfl (lda (n := 1) (by kernel_rfl) (by first | assumption | (simp (disch := first | omega | (simp only [hNw, hPt]; omega)) only [gn0, gn1, gn2, gn3, gn4, gn5, gp0, gno, gpo] <;> first | rfl | assumption | exact gp0 _ _ _ | exact gn0 _ _)) (by first | rfl | assumption)) ?_
  refine OkO.callV rfl rfl rfl rfl rfl (c68 _ _ _ _ _) ?_ -- "(sackung/alarm.ends).has"
  refine OkO.move rfl rfl ?_
  refine OkO.split (d := 7) rfl (fun g1 => ?_) (fun g1 => ?_)
  · -- true g1
    refine OkO.fieldAddr (o := 0) rfl (by kernel_rfl) rfl ?_
    refine OkO.load rfl rfl (lda (n := 1) (by kernel_rfl) (by first | assumption | (simp (disch := first | omega | (simp only [hNw, hPt]; omega)) only [gn0, gn1, gn2, gn3, gn4, gn5, gp0, gno, gpo] <;> first | rfl | assumption | exact gp0 _ _ _ | exact gn0 _ _)) (by first | rfl | assumption)) ?_
    refine OkO.buildArr (z := [.int .i64 0, .int .i64 0]) (sz := 1) rfl (by kernel_rfl) rfl rfl ?_
    refine OkO.fieldAddr (o := 1) rfl (by kernel_rfl) rfl ?_
    refine OkO.load rfl rfl (lda (n := 1) (by kernel_rfl) (by first | assumption | (simp (disch := first | omega | (simp only [hNw, hPt]; omega)) only [gn0, gn1, gn2, gn3, gn4, gn5, gp0, gno, gpo] <;> first | rfl | assumption | exact gp0 _ _ _ | exact gn0 _ _)) (by first | rfl | assumption)) ?_
    refine OkO.callV rfl rfl rfl rfl rfl (c68 _ _ _ _ _) ?_ -- "(sackung/alarm.ends).has"
    refine OkO.pick (b := true) rfl rfl (fun _ => rfl) nofun ?_
    refine OkO.move rfl rfl ?_
    refine OkO.split (d := 15) rfl (fun g2 => ?_) (fun g2 => ?_)
    · -- true g2
      refine OkO.buildArr (z := [.int .i64 0, .int .i64 0]) (sz := 1) rfl (by kernel_rfl) rfl rfl ?_
      refine OkO.fieldAddr (o := 2) rfl (by kernel_rfl) rfl ?_
      refine OkO.load rfl rfl (lda (n := 1) (by kernel_rfl) (by first | assumption | (simp (disch := first | omega | (simp only [hNw, hPt]; omega)) only [gn0, gn1, gn2, gn3, gn4, gn5, gp0, gno, gpo] <;> first | rfl | assumption | exact gp0 _ _ _ | exact gn0 _ _)) (by first | rfl | assumption)) ?_
      refine OkO.callV rfl rfl rfl rfl rfl (c68 _ _ _ _ _) ?_ -- "(sackung/alarm.ends).has"
      refine OkO.pick (b := true) rfl rfl (fun _ => rfl) nofun ?_
      refine OkO.assign rfl rfl ?_
      refine OkO.nil ?_
      refine Ok.ret ⟨.inr rfl, ?_⟩
      exact back_flat rfl (by first | rfl | exact congrArg AV.bool (by clear hg hN hG hE; first | (simp_all [Rul.ok]; done) | (rw [Bool.eq_iff_iff]; simp [Rul.ok] at *; omega))) rfl (by rw [← hW]; exact (by (try dsimp only); repeat (first | exact hG | apply Grow.new | (refine Grow.put ?_ _ (by first | omega | (simp only [hNw, hPt]; omega))))))
    · -- false g2
      refine OkO.skip rfl ?_
      refine OkO.skip rfl ?_
      refine OkO.skip rfl ?_
      refine OkO.skip rfl ?_
      refine OkO.pick (b := false) rfl rfl nofun (fun _ => rfl) ?_
      refine OkO.assign rfl rfl ?_
      refine OkO.nil ?_
      refine Ok.ret ⟨.inr rfl, ?_⟩
      exact back_flat rfl (by first | rfl | exact congrArg AV.bool (by clear hg hN hG hE; first | (simp_all [Rul.ok]; done) | (rw [Bool.eq_iff_iff]; simp [Rul.ok] at *; omega))) rfl (by rw [← hW]; exact (by (try dsimp only); repeat (first | exact hG | apply Grow.new | (refine Grow.put ?_ _ (by first | omega | (simp only [hNw, hPt]; omega))))))
  · -- false g1
    refine OkO.skip rfl ?_
    refine OkO.skip rfl ?_
    refine OkO.skip rfl ?_
    refine OkO.skip rfl ?_
    refine OkO.skip rfl ?_
    refine OkO.skip rfl ?_
    refine OkO.pick (b := false) rfl rfl nofun (fun _ => rfl) ?_
    refine OkO.move rfl rfl ?_
    refine OkO.skip rfl ?_
    refine OkO.skip rfl ?_
    refine OkO.skip rfl ?_
    refine OkO.skip rfl ?_
    refine OkO.pick (b := false) rfl rfl nofun (fun _ => rfl) ?_
    refine OkO.assign rfl rfl ?_
    refine OkO.nil ?_
    refine Ok.ret ⟨.inr rfl, ?_⟩
    exact back_flat rfl (by first | rfl | exact congrArg AV.bool (by clear hg hN hG hE; first | (simp_all [Rul.ok]; done) | (rw [Bool.eq_iff_iff]; simp [Rul.ok] at *; omega))) rfl (by rw [← hW]; exact (by (try dsimp only); repeat (first | exact hG | apply Grow.new | (refine Grow.put ?_ _ (by first | omega | (simp only [hNw, hPt]; omega))))))
theorem c41 (m : Nat) (r : Rul) (H : Heap)  : RR (m + 2) (.fn 41 [.agg r.c]) H = some (.bool r.ok, H) := by
  refine (R_fn _ _ _ _ _).trans ?_
  refine fn_ok Try.func41 rfl rfl (by kernel_rfl) (by kernel_rfl) ?_
  obtain ⟨W, hW⟩ : ∃ W : Heap, W = ⟨H.t, H.next, H.next⟩ := ⟨_, rfl⟩
  have hg : ∀ n, W.get n = H.get n := fun n => by rw [hW]; rfl
  have hN : W.next = H.next := by rw [hW]
  have hE : ∀ G, Grow W G → Ext H G := fun G g => ⟨by rw [← hN]; exact g.next, fun n k => by rw [g.get n (by rw [hN]; exact k), hg]⟩
  have hG : Grow W W := Grow.refl (by rw [hW]; exact Nat.le_refl _)
  rw [← hW]
  refine Ok.seq ?_
  refine Ok.region ?_
  refine OkO.box rfl rfl ?_
  refine OkO.assign rfl rfl ?_
  refine OkO.nil ?_
  refine Ok.seq ?_
  refine Ok.region ?_
  refine OkO.fieldAddr (o := 0) rfl (by kernel_rfl) rfl ?_
  refine OkO.load rfl rfl (lda (n := 1) (by kernel_rfl) (by first | assumption | (simp (disch := first | omega | (simp only [hNw, hPt]; omega)) only [gn0, gn1, gn2, gn3, gn4, gn5, gp0, gno, gpo] <;> first | rfl | assumption | exact gp0 _ _ _ | exact gn0 _ _)) (by first | rfl | assumption)) ?_
  refine OkO.callV rfl rfl rfl rfl rfl (c36 _ _ _ _ _) ?_ -- "sackung/sackungref04.In"
  refine OkO.move rfl rfl ?_
  refine OkO.split (d := 6) rfl (fun g1 => ?_) (fun g1 => ?_)
  · -- true g1
    refine OkO.fieldAddr (o := 1) rfl (by kernel_rfl) rfl ?_
    refine OkO.load rfl rfl (lda (n := 1) (by kernel_rfl) (by first | assumption | (simp (disch := first | omega | (simp only [hNw, hPt]; omega)) only [gn0, gn1, gn2, gn3, gn4, gn5, gp0, gno, gpo] <;> first | rfl | assumption | exact gp0 _ _ _ | exact gn0 _ _)) (by first | rfl | assumption)) ?_
    refine OkO.fieldAddr (o := 0) rfl (by kernel_rfl) rfl ?_
    refine OkO.load rfl rfl (lda (n := 1) (by kernel_rfl) (by first | assumption | (simp (disch := first | omega | (simp only [hNw, hPt]; omega)) only [gn0, gn1, gn2, gn3, gn4, gn5, gp0, gno, gpo] <;> first | rfl | assumption | exact gp0 _ _ _ | exact gn0 _ _)) (by first | rfl | assumption)) ?_
    refine OkO.callV rfl rfl rfl rfl rfl (c36 _ _ _ _ _) ?_ -- "sackung/sackungref04.In"
    refine OkO.pick (b := true) rfl rfl (fun _ => rfl) nofun ?_
    refine OkO.move rfl rfl ?_
    refine OkO.split (d := 13) rfl (fun g2 => ?_) (fun g2 => ?_)
    · -- true g2
      refine OkO.fieldAddr (o := 2) rfl (by kernel_rfl) rfl ?_
      refine OkO.load rfl rfl (lda (n := 1) (by kernel_rfl) (by first | assumption | (simp (disch := first | omega | (simp only [hNw, hPt]; omega)) only [gn0, gn1, gn2, gn3, gn4, gn5, gp0, gno, gpo] <;> first | rfl | assumption | exact gp0 _ _ _ | exact gn0 _ _)) (by first | rfl | assumption)) ?_
      refine OkO.callV rfl rfl rfl rfl rfl (c36 _ _ _ _ _) ?_ -- "sackung/sackungref04.In"
      refine OkO.pick (b := true) rfl rfl (fun _ => rfl) nofun ?_
      refine OkO.assign rfl rfl ?_
      refine OkO.nil ?_
      refine Ok.ret ⟨.inr rfl, ?_⟩
      exact back_flat rfl (by first | rfl | exact congrArg AV.bool (by clear hg hN hG hE; first | (simp_all [Rul.ok]; done) | (rw [Bool.eq_iff_iff]; simp [Rul.ok] at *; omega))) rfl (by rw [← hW]; exact (by (try dsimp only); repeat (first | exact hG | apply Grow.new | (refine Grow.put ?_ _ (by first | omega | (simp only [hNw, hPt]; omega))))))
    · -- false g2
      refine OkO.skip rfl ?_
      refine OkO.skip rfl ?_
      refine OkO.skip rfl ?_
      refine OkO.pick (b := false) rfl rfl nofun (fun _ => rfl) ?_
      refine OkO.assign rfl rfl ?_
      refine OkO.nil ?_
      refine Ok.ret ⟨.inr rfl, ?_⟩
      exact back_flat rfl (by first | rfl | exact congrArg AV.bool (by clear hg hN hG hE; first | (simp_all [Rul.ok]; done) | (rw [Bool.eq_iff_iff]; simp [Rul.ok] at *; omega))) rfl (by rw [← hW]; exact (by (try dsimp only); repeat (first | exact hG | apply Grow.new | (refine Grow.put ?_ _ (by first | omega | (simp only [hNw, hPt]; omega))))))
  · -- false g1
    refine OkO.skip rfl ?_
    refine OkO.skip rfl ?_
    refine OkO.skip rfl ?_
    refine OkO.skip rfl ?_
    refine OkO.skip rfl ?_
    refine OkO.pick (b := false) rfl rfl nofun (fun _ => rfl) ?_
    refine OkO.move rfl rfl ?_
    refine OkO.skip rfl ?_
    refine OkO.skip rfl ?_
    refine OkO.skip rfl ?_
    refine OkO.pick (b := false) rfl rfl nofun (fun _ => rfl) ?_
    refine OkO.assign rfl rfl ?_
    refine OkO.nil ?_
    refine Ok.ret ⟨.inr rfl, ?_⟩
    exact back_flat rfl (by first | rfl | exact congrArg AV.bool (by clear hg hN hG hE; first | (simp_all [Rul.ok]; done) | (rw [Bool.eq_iff_iff]; simp [Rul.ok] at *; omega))) rfl (by rw [← hW]; exact (by (try dsimp only); repeat (first | exact hG | apply Grow.new | (refine Grow.put ?_ _ (by first | omega | (simp only [hNw, hPt]; omega))))))
theorem c39 (m : Nat) (r : Rul) (H : Heap)  : RR (m + 1) (.fn 39 [.agg r.c]) H = some (.agg r.c, H) := by
  refine (R_fn _ _ _ _ _).trans ?_
  refine fn_ok Try.func39 rfl rfl (by kernel_rfl) (by kernel_rfl) ?_
  obtain ⟨W, hW⟩ : ∃ W : Heap, W = ⟨H.t, H.next, H.next⟩ := ⟨_, rfl⟩
  have hg : ∀ n, W.get n = H.get n := fun n => by rw [hW]; rfl
  have hN : W.next = H.next := by rw [hW]
  have hE : ∀ G, Grow W G → Ext H G := fun G g => ⟨by rw [← hN]; exact g.next, fun n k => by rw [g.get n (by rw [hN]; exact k), hg]⟩
  have hG : Grow W W := Grow.refl (by rw [hW]; exact Nat.le_refl _)
  rw [← hW]
  refine Ok.seq ?_
  refine Ok.region ?_
  refine OkO.box rfl rfl ?_
  refine OkO.alloc (z := [.int .i64 0, .int .i64 0, .int .i64 0]) rfl (by kernel_rfl) ?_
  refine OkO.nil ?_
  refine Ok.seq ?_
  refine Ok.region ?_
  refine OkO.fieldAddr (o := 0) rfl (by kernel_rfl) rfl ?_
  refine OkO.load rfl rfl (lda (n := 1) (by kernel_rfl) (by first | assumption | (simp (disch := first | omega | (simp only [hNw, hPt]; omega)) only [gn0, gn1, gn2, gn3, gn4, gn5, gp0, gno, gpo] <;> first | rfl | assumption | exact gp0 _ _ _ | exact gn0 _ _)) (by first | rfl | assumption)) ?_
  refine OkO.fieldAddr (o := 1) rfl (by kernel_rfl) rfl ?_
  refine OkO.load rfl rfl (lda (n := 1) (by kernel_rfl) (by first | assumption | (simp (disch := first | omega | (simp only [hNw, hPt]; omega)) only [gn0, gn1, gn2, gn3, gn4, gn5, gp0, gno, gpo] <;> first | rfl | assumption | exact gp0 _ _ _ | exact gn0 _ _)) (by first | rfl | assumption)) ?_
  refine OkO.fieldAddr (o := 2) rfl (by kernel_rfl) rfl ?_
  refine OkO.load rfl rfl (lda (n := 1) (by kernel_rfl) (by first | assumption | (simp (disch := first | omega | (simp only [hNw, hPt]; omega)) only [gn0, gn1, gn2, gn3, gn4, gn5, gp0, gno, gpo] <;> first | rfl | assumption | exact gp0 _ _ _ | exact gn0 _ _)) (by first | rfl | assumption)) ?_
  refine OkO.build (z := [.int .i64 0, .int .i64 0, .int .i64 0]) (pl := [(0, 1), (1, 1), (2, 1)]) rfl (by kernel_rfl) rfl rfl ?_
  refine OkO.store rfl rfl rfl (stc (n := 3) (ag := true) (by kernel_rfl) (by first | assumption | (simp (disch := first | omega | (simp only [hNw, hPt]; omega)) only [gn0, gn1, gn2, gn3, gn4, gn5, gp0, gno, gpo] <;> first | rfl | assumption | exact gp0 _ _ _ | exact gn0 _ _)) rfl (by first | rfl | assumption) (by first | rfl | exact spl_set _ _ _ (by first | assumption | omega | (simp; omega)))) ?_
  refine OkO.nil ?_
  refine Ok.ret ⟨.inr rfl, ?_⟩
  exact back_flat (resV_cell rfl (ldg (n := 3) (by kernel_rfl) (by first | assumption | (simp (disch := first | omega | (simp only [hNw, hPt]; omega)) only [gn0, gn1, gn2, gn3, gn4, gn5, gp0, gno, gpo] <;> first | rfl | assumption)) (by first | rfl | assumption)) resV_nil) (rfl) rfl (by rw [← hW]; exact (by (try dsimp only); repeat (first | exact hG | apply Grow.new | (refine Grow.put ?_ _ (by first | omega | (simp only [hNw, hPt]; omega))))))
def ruleOf (t : Trm) (start : Int) : Rul := ⟨start, max (start - t.less) 0, t.hold⟩
end
end Go.Ev

set_option maxRecDepth 100000
set_option linter.unusedSimpArgs false
set_option linter.unusedVariables false
namespace Go.Ev
open Go Go.Proofs
noncomputable section
structure Sea where (sp : List Int) (fell : Bool)
def Sea.fine (s : Sea) : Bool := s.sp.all fun x => inB x 0 1000
def Sea.short (s : Sea) : Bool := decide ((s.sp.length : Int) ≤ 60)
/-- A list of seasons, as it lies. -/
def SeasAt (H : Heap) (v : AV) (l : List Sea) : Prop := ∃ vs : List AV, vs.length = l.length ∧ Row H v 2 ((vs.zip l).map fun p => [p.1, .bool p.2.fell]) ∧ ∀ (i : Nat) (x : AV) (s : Sea), vs[i]? = some x → l[i]? = some s → Ints H x s.sp
theorem SeasAt.ext {H G : Heap} {v : AV} {l : List Sea} (h : SeasAt H v l) (g : Ext H G) : SeasAt G v l := let ⟨vs, h1, h2, h3⟩ := h; ⟨vs, h1, h2.ext g, fun i x s a b => (h3 i x s a b).ext g⟩
theorem SeasAt.len {H : Heap} {v : AV} {l : List Sea} (h : SeasAt H v l) : lenOf v = some l.length := by
  obtain ⟨vs, h1, h2, _⟩ := h
  rw [h2.len]; simp [h1]
theorem SeasAt.at_ {H : Heap} {v : AV} {l : List Sea} (h : SeasAt H v l) (i : Nat) (hi : i < l.length) : ∃ x b off cs, slAt v 2 i = some (b, off) ∧ (H.get b).bind AObj.cs = some cs ∧ seg cs off 2 = some [x, .bool l[i].fell] ∧ cs[off]? = some x ∧ cs[off + 1]? = some (.bool l[i].fell) ∧ b < H.next ∧ Ints H x l[i].sp := by
  obtain ⟨vs, h1, h2, h3⟩ := h
  have hv : i < vs.length := by omega
  obtain ⟨b, off, cs, i1, i2, i3, i4⟩ := h2.at_ i [vs[i], .bool l[i].fell] (by rw [List.getElem?_map, show (vs.zip l)[i]? = some (vs[i], l[i]) from List.getElem?_zip_eq_some.2 ⟨List.getElem?_eq_getElem hv, List.getElem?_eq_getElem hi⟩]; rfl)
  have k0 := seg_get i3 0 (by omega)
  have k1 := seg_get i3 1 (by omega)
  exact ⟨vs[i], b, off, cs, i1, i2, i3, by simpa using k0, by simpa using k1, i4, h3 i _ _ (List.getElem?_eq_getElem hv) (List.getElem?_eq_getElem hi)⟩
theorem Ints.ext {H G : Heap} {v : AV} {us : List Int} (h : Ints H v us) (g : Ext H G) : Ints G v us := Row.ext h g
theorem Ints.len {H : Heap} {v : AV} {us : List Int} (h : Ints H v us) : lenOf v = some us.length := by simpa using Row.len h
theorem Ints.at' {H : Heap} {v : AV} {us : List Int} (h : Ints H v us) (i : Nat) (hi : i < us.length) : ∃ b off cs, slAt v 1 i = some (b, off) ∧ (H.get b).bind AObj.cs = some cs ∧ cs[off]? = some (I us[i]) ∧ b < H.next := by
  obtain ⟨b, off, cs, i1, i2, i3, i4⟩ := Row.at_ h i [I us[i]] (by simp [hi])
  exact ⟨b, off, cs, i1, i2, seg_one i3, i4⟩
theorem Mine.ints {k0 : Nat} {G : Heap} {v : AV} {us : List Int} (h : Mine k0 G v 3 1 (us.map I)) : Ints G v us := Mine.row (by rw [flatI]; exact h) (fun x hx => by obtain ⟨y, _, rfl⟩ := List.mem_map.1 hx; rfl) (by omega)
/-- What a season's cells are, each speed's list in a block of its own. -/
def seaCells : List AV → List Sea → List AV
  | x :: vs, s :: l => x :: .bool s.fell :: seaCells vs l
  | _, _ => []
theorem seaCells_zip : ∀ (vs : List AV) (l : List Sea), seaCells vs l = ((vs.zip l).map fun p => [p.1, .bool p.2.fell]).flatten
  | [], _ => by simp [seaCells]
  | _ :: _, [] => by simp [seaCells]
  | x :: vs, s :: l => by simp [seaCells, seaCells_zip vs l]
theorem seaCells_snoc : ∀ (vs : List AV) (l : List Sea) (x : AV) (s : Sea), vs.length = l.length → seaCells (vs ++ [x]) (l ++ [s]) = seaCells vs l ++ [x, .bool s.fell]
  | [], [], _, _, _ => rfl
  | y :: vs, t :: l, x, s, h => by
    simp only [List.cons_append, seaCells]
    rw [seaCells_snoc vs l x s (by simpa using h)]
  | [], _ :: _, _, _, h => by simp at h
  | _ :: _, [], _, _, h => by simp at h
theorem seaCells_len : ∀ (vs : List AV) (l : List Sea), vs.length = l.length → (seaCells vs l).length = l.length * 2
  | [], [], _ => rfl
  | y :: vs, t :: l, h => by simp only [seaCells, List.length_cons]; rw [seaCells_len vs l (by simpa using h)]; omega
  | [], _ :: _, h => by simp at h
  | _ :: _, [], h => by simp at h
/-- Seasons that the call made. -/
def SeasM (k0 : Nat) (G : Heap) (v : AV) (l : List Sea) : Prop := ∃ vs : List AV, vs.length = l.length ∧ Mine k0 G v 66 2 (seaCells vs l) ∧ ∀ (i : Nat) (x : AV) (s : Sea), vs[i]? = some x → l[i]? = some s → Mine k0 G x 3 1 (s.sp.map I)
theorem SeasM.to {k0 : Nat} {G G' : Heap} {v : AV} {l : List Sea} (h : SeasM k0 G v l) (g : Ext G G') : SeasM k0 G' v l := let ⟨vs, h1, h2, h3⟩ := h; ⟨vs, h1, h2.to g, fun i x s a b => (h3 i x s a b).to g⟩
theorem SeasM.low {k0 k1 : Nat} {G : Heap} {v : AV} {l : List Sea} (h : SeasM k1 G v l) (hk : k0 ≤ k1) : SeasM k0 G v l := let ⟨vs, h1, h2, h3⟩ := h; ⟨vs, h1, h2.low hk, fun i x s a b => (h3 i x s a b).low hk⟩
theorem SeasM.put {k0 : Nat} {G : Heap} {v : AV} {l : List Sea} (h : SeasM k0 G v l) {n : Nat} (o : AObj) (hn : n < k0) : SeasM k0 (G.put n o) v l := let ⟨vs, h1, h2, h3⟩ := h; ⟨vs, h1, h2.put o hn, fun i x s a b => (h3 i x s a b).put o hn⟩
theorem SeasM.at {k0 : Nat} {G : Heap} {v : AV} {l : List Sea} (h : SeasM k0 G v l) : SeasAt G v l := by
  obtain ⟨vs, h1, h2, h3⟩ := h
  refine ⟨vs, h1, ?_, fun i x s a b => (h3 i x s a b).ints⟩
  exact Mine.row (by rw [← seaCells_zip]; exact h2) (fun x hx => by obtain ⟨y, _, rfl⟩ := List.mem_map.1 hx; rfl) (by omega)
theorem SeasM.nil (k0 : Nat) (G : Heap) : SeasM k0 G .nils [] := ⟨[], rfl, Mine.nil _ _ _ _, fun i x s h _ => by simp at h⟩
theorem flat_agg2 {a b : AV} (h : (AV.agg [a, b]).flat = true) : a.flat = true := by
  have h1 : AV.flats [a, b] = true := h
  unfold AV.flats at h1
  cases ha : a.flat with
  | false => rw [ha] at h1; cases h1
  | true => rfl
theorem c30 (m : Nat) (bv : AV) (us : List Int) (H : Heap) (hU : Ints H bv us) (hl : us.length ≤ 1000000) : ∃ v H', RR (m + 1) (.fn 30 [bv]) H = some (v, H') ∧ Ret H H' ∧ Mine H.next H' v 3 1 (us.map I) := by
  show ∃ v H', evFn Try.prog (RR (m + 0)) 30 [bv] H = some (v, H') ∧ Ret H H' ∧ Mine H.next H' v 3 1 (us.map I)
  refine fn_okE Try.func30 rfl rfl (by kernel_rfl) (by kernel_rfl) ?_
  obtain ⟨W, hW⟩ : ∃ W : Heap, W = ⟨H.t, H.next, H.next⟩ := ⟨_, rfl⟩
  have hg : ∀ n, W.get n = H.get n := fun n => by rw [hW]; rfl
  have hN : W.next = H.next := by rw [hW]
  have hE : ∀ G, Grow W G → Ext H G := fun G g => ⟨by rw [← hN]; exact g.next, fun n k => by rw [g.get n (by rw [hN]; exact k), hg]⟩
  have hG : Grow W W := Grow.refl (by rw [hW]; exact Nat.le_refl _)
  rw [← hW]
  refine Ok.seq ?_
  refine Ok.region ?_
  refine OkO.assign rfl rfl ?_
  refine OkO.nil ?_
  refine Ok.seq ?_
  refine Ok.region ?_
  refine OkO.move rfl rfl ?_
  refine OkO.builtinE rfl rfl rfl (Mine.app3 (W := W) (k0 := W.next) (t := 22) (u := 22) (sz := 1) (by_ := 8) (e := 3) (n := us.length) (new := us.map I) (Mine.nil _ _ _ _) hG (Nat.le_refl _) (Nat.le_refl _) (by kernel_rfl) (by kernel_rfl) (by rw [← flatI]; exact (hU.ext (hE _ hG)).elems (fun x hx => by obtain ⟨y, _, rfl⟩ := List.mem_map.1 hx; rfl)) (hU.len) (by simp) (by simp; omega) (by omega) (atoms_ints us)) ?_
  rintro v2 G2 ⟨r1, r2, r3, r4⟩
  refine OkO.assign rfl rfl ?_
  refine OkO.nil ?_
  refine Ok.ret ⟨.inr rfl, ?_⟩
  refine back_newA (resV_tmp rfl resV_nil) rfl (by rw [← hW]; exact r2) (fun H9 p1 p2 => ⟨p1, (r1.low (by omega)).backT p2 id⟩)
theorem c38 (m : Nat) (sv : AV) (s : Sea) (H : Heap) (hU : Ints H sv s.sp) (hl : s.sp.length ≤ 1000000) : ∃ v H', RR (m + 2) (.fn 38 [.agg [sv, .bool s.fell]]) H = some (v, H') ∧ ∃ x, v = .agg [x, .bool s.fell] ∧ Ret H H' ∧ Mine H.next H' x 3 1 (s.sp.map I) := by
  show ∃ v H', evFn Try.prog (RR (m + 1)) 38 [.agg [sv, .bool s.fell]] H = some (v, H') ∧ ∃ x, v = .agg [x, .bool s.fell] ∧ Ret H H' ∧ Mine H.next H' x 3 1 (s.sp.map I)
  refine fn_okE Try.func38 rfl rfl (by kernel_rfl) (by kernel_rfl) ?_
  obtain ⟨W, hW⟩ : ∃ W : Heap, W = ⟨H.t, H.next, H.next⟩ := ⟨_, rfl⟩
  have hg : ∀ n, W.get n = H.get n := fun n => by rw [hW]; rfl
  have hN : W.next = H.next := by rw [hW]
  have hE : ∀ G, Grow W G → Ext H G := fun G g => ⟨by rw [← hN]; exact g.next, fun n k => by rw [g.get n (by rw [hN]; exact k), hg]⟩
  have hG : Grow W W := Grow.refl (by rw [hW]; exact Nat.le_refl _)
  rw [← hW]
  have pb : sv.plain = true := lpl hU.len
  refine Ok.seq ?_
  refine Ok.region ?_
  refine OkO.box rfl rfl ?_
  refine OkO.alloc (z := [.nils, .bool false]) rfl (by kernel_rfl) ?_
  refine OkO.nil ?_
  refine Ok.seq ?_
  refine Ok.drawn [(0, true, []), (1, true, []), (3, true, []), (4, true, []), (2, false, [4]), (5, true, []), (6, false, [])] (by kernel_rfl) ?_
  refine OkP.step ?_
  refine OkO.fieldAddr (o := 0) rfl (by kernel_rfl) rfl ?_
  refine OkO.nil ⟨rfl, ?_⟩
  refine OkP.step ?_
  refine OkO.load rfl rfl (lda (n := 1) (by kernel_rfl) (by first | assumption | (simp (disch := first | omega | (simp only [hNw, hPt]; omega)) only [gn0, gn1, gn2, gn3, gn4, gn5, gp0, gno, gpo] <;> first | rfl | assumption | exact gp0 _ _ _ | exact gn0 _ _)) (by first | rfl | assumption)) ?_
  refine OkO.nil ⟨rfl, ?_⟩
  refine OkP.step ?_
  refine OkO.fieldAddr (o := 1) rfl (by kernel_rfl) rfl ?_
  refine OkO.nil ⟨rfl, ?_⟩
  refine OkP.step ?_
  refine OkO.load rfl rfl (lda (n := 1) (by kernel_rfl) (by first | assumption | (simp (disch := first | omega | (simp only [hNw, hPt]; omega)) only [gn0, gn1, gn2, gn3, gn4, gn5, gp0, gno, gpo] <;> first | rfl | assumption | exact gp0 _ _ _ | exact gn0 _ _)) (by first | rfl | assumption)) ?_
  refine OkO.nil ⟨rfl, ?_⟩
  refine OkP.step ?_
  refine OkO.callE rfl rfl rfl rfl rfl (c30 m sv s.sp _ (hU.ext (hE _ (by (try dsimp only); repeat (first | exact hG | apply Grow.new | (refine Grow.put ?_ _ (by first | omega | (simp only [hNw, hPt]; omega))))))) hl) ?_ -- "sackung/sackunglaw04.list"
  rintro v30 H30 ⟨q1, r1⟩
  have g30 : Grow W H30 := Grow.ret (by (try dsimp only); repeat (first | exact hG | apply Grow.new | (refine Grow.put ?_ _ (by first | omega | (simp only [hNw, hPt]; omega))))) q1
  have n30 := q1.ext.next
  simp only [hNw] at n30
  have a30 : (H30.get W.next).bind AObj.cs = some [sv, .bool s.fell] := by rw [q1.ext.get _ (by simp only [hNw]; omega)]; simp (disch := first | omega | (simp only [hNw, hPt]; omega)) only [gn0, gn1, gn2, gn3, gn4, gn5, gp0, gno, gpo] <;> rfl
  have o30 : H30.get (W.next + 1) = some (.cells [.nils, .bool false] 66) := by rw [q1.ext.get _ (by simp only [hNw]; omega)]; exact gn1 _ _ _
  obtain ⟨hv1, hv2⟩ := r1.one
  refine OkO.nil ⟨(sco (sld rfl rfl (lda (n := 1) (by kernel_rfl) (by first | assumption | (simp (disch := first | omega | (simp only [hNw, hPt]; omega)) only [gn0, gn1, gn2, gn3, gn4, gn5, gp0, gno, gpo] <;> first | rfl | assumption | exact gp0 _ _ _ | exact gn0 _ _)) (by first | rfl | assumption)) rfl (eqr _ (by first | rfl | exact lpl (by assumption) | (simp [AV.plain, AV.plains, AV.cells, AV.plain])))) rfl), ?_⟩
  refine OkP.step ?_
  refine OkO.build (cs := [v30, .bool s.fell]) (z := [.nils, .bool false]) (pl := [(0, 1), (1, 1)]) rfl (by kernel_rfl) rfl (by simp [fillS, spl, hv1, show ∀ z, (AV.bool z).cells = [AV.bool z] from fun _ => rfl]) ?_
  refine OkO.nil ⟨rfl, ?_⟩
  refine OkP.step ?_
  refine OkO.store rfl rfl rfl (stc (n := 2) (ag := true) (by kernel_rfl) (by first | assumption | (simp (disch := first | omega | (simp only [hNw, hPt]; omega)) only [gn0, gn1, gn2, gn3, gn4, gn5, gp0, gno, gpo] <;> first | rfl | assumption | exact gp0 _ _ _ | exact gn0 _ _)) rfl (by show atoms [v30, .bool s.fell] = true; simp [atoms, hv2, show ∀ z, (AV.bool z).atom = true from fun _ => rfl]) (by first | rfl | exact spl_set _ _ _ (by first | assumption | omega | (simp; omega)))) ?_
  refine OkO.nil ⟨rfl, ?_⟩
  refine OkP.nil ?_
  refine Ok.ret ⟨.inr rfl, ?_⟩
  refine back_newA (resV_cell rfl (ldg (n := 2) (by kernel_rfl) (by first | assumption | (simp (disch := first | omega | (simp only [hNw, hPt]; omega)) only [gn0, gn1, gn2, gn3, gn4, gn5, gp0, gno, gpo] <;> first | rfl | assumption)) (by first | rfl | assumption)) resV_nil) rfl (by rw [← hW]; exact (by (try dsimp only); repeat (first | exact g30 | apply Grow.new | (refine Grow.put ?_ _ (by first | omega | (simp only [hNw, hPt]; omega)))))) (fun H9 p1 p2 => ⟨v30, rfl, p1, ?_⟩)
  exact Mine.backT (((r1.put _ (by first | omega | (simp only [hNw]; omega)))).low (by simp only [hNw]; omega)) p2 flat_agg2
theorem c96 (m : Nat) (sv : AV) (s : Sea) (H : Heap) (hs : lenOf sv = some s.sp.length) : RR (m + 1) (.fn 96 [.agg [sv, .bool s.fell]]) H = some (.bool s.short, H) := by
  refine (R_fn _ _ _ _ _).trans ?_
  refine fn_ok Try.func96 rfl rfl (by kernel_rfl) (by kernel_rfl) ?_
  obtain ⟨W, hW⟩ : ∃ W : Heap, W = ⟨H.t, H.next, H.next⟩ := ⟨_, rfl⟩
  have hg : ∀ n, W.get n = H.get n := fun n => by rw [hW]; rfl
  have hN : W.next = H.next := by rw [hW]
  have hE : ∀ G, Grow W G → Ext H G := fun G g => ⟨by rw [← hN]; exact g.next, fun n k => by rw [g.get n (by rw [hN]; exact k), hg]⟩
  have hG : Grow W W := Grow.refl (by rw [hW]; exact Nat.le_refl _)
  rw [← hW]
  refine Ok.seq ?_
  refine Ok.region ?_
  refine OkO.box rfl rfl ?_
  refine OkO.assign rfl rfl ?_
  refine OkO.nil ?_
  refine Ok.seq ?_
  refine Ok.region ?_
  refine OkO.fieldAddr (o := 0) rfl (by kernel_rfl) rfl ?_
  refine OkO.load rfl rfl (lda (n := 1) (by kernel_rfl) (by first | assumption | (simp (disch := first | omega | (simp only [hNw, hPt]; omega)) only [gn0, gn1, gn2, gn3, gn4, gn5, gp0, gno, gpo] <;> first | rfl | assumption | exact gp0 _ _ _ | exact gn0 _ _)) (by first | rfl | assumption)) ?_
  refine OkO.builtin rfl rfl rfl (bln (by kernel_rfl) (by first | assumption | rfl)) ?_
  refine OkO.bin rfl rfl rfl (bin_leq _ _) ?_
  refine OkO.assign rfl rfl ?_
  refine OkO.nil ?_
  refine Ok.ret ⟨.inr rfl, ?_⟩
  exact back_flat rfl (by first | rfl | exact congrArg AV.bool (by clear hg hN hG hE; first | (simp_all [Sea.short]; done) | (rw [Bool.eq_iff_iff]; simp [Sea.short] at *; omega))) rfl (by rw [← hW]; exact (by (try dsimp only); repeat (first | exact hG | apply Grow.new | (refine Grow.put ?_ _ (by first | omega | (simp only [hNw, hPt]; omega))))))
theorem c82 (m : Nat) (v good : AV) (xs : List Int) (ps : List Bool) (H : Heap) (hR : Row H v 1 (xs.map fun x => [I x])) (hl : xs.length ≤ 1000000) (hp : ps.length = xs.length) (hgood : ∀ (i : Nat) x b, xs[i]? = some x → ps[i]? = some b → CallB m good [I x] H b) : RR (m + 1) (.fn 82 [v, good]) H = some (.bool (ps.all id), H) := by
  refine (R_fn _ _ _ _ _).trans ?_
  refine fn_ok Try.func82 rfl rfl (by kernel_rfl) (by kernel_rfl) ?_
  obtain ⟨W, hW⟩ : ∃ W : Heap, W = ⟨H.t, H.next, H.next⟩ := ⟨_, rfl⟩
  have hg : ∀ n, W.get n = H.get n := fun n => by rw [hW]; rfl
  have hN : W.next = H.next := by rw [hW]
  have hE : ∀ G, Grow W G → Ext H G := fun G g => ⟨by rw [← hN]; exact g.next, fun n k => by rw [g.get n (by rw [hN]; exact k), hg]⟩
  have hG : Grow W W := Grow.refl (by rw [hW]; exact Nat.le_refl _)
  rw [← hW]
  have hlen : lenOf v = some xs.length := by simpa using hR.len
  refine Ok.seq ?_
  refine Ok.region ?_
  refine OkO.assign rfl rfl ?_
  refine OkO.nil ?_
  refine Ok.seq ?_
  refine Ok.seq ?_
  refine Ok.region ?_
  refine OkO.move rfl rfl ?_
  refine OkO.builtin rfl rfl rfl (bln (by kernel_rfl) (by first | assumption | rfl)) ?_
  refine OkO.move rfl rfl ?_
  refine OkO.nil ?_
  refine Ok.block ?_
  refine Ok.loop (fun n s => ∃ i : Nat, n = xs.length - i ∧ i ≤ xs.length ∧ (∀ j, j < i → ps[j]? = some true) ∧ Has 5 [(1, good), (4, .bool false), (7, v), (8, I xs.length), (9, I (i : Int))] s.T ∧ s.D = [] ∧ Grow W s.H) (xs.length) (by unfold loopFuel; omega)
    ⟨0, rfl, Nat.zero_le _, nofun, Has.of (by kernel_rfl), rfl, hG⟩ ?_
  rintro n ⟨T, D, G⟩ ⟨i, hn, hi, hall, ⟨f, hT⟩, hD, hg⟩
  dsimp only at *
  subst hT hD
  have hgn := hg.next
  refine Ok.seq ?_
  refine Ok.region ?_
  refine OkO.bin rfl rfl rfl (bin_lss _ _) ?_
  refine OkO.nil ?_
  refine Ok.seq ?_
  refine Ok.cond rfl (fun h1 => ?_) (fun h1 => ?_)
  · -- yes h1
    have hlt : i < xs.length := by simpa using h1
    obtain ⟨b, hb⟩ : ∃ b, ps[i]? = some b := ⟨_, List.getElem?_eq_getElem (by omega)⟩
    obtain ⟨bb, off, cs, i1, i2, i3, i4⟩ := (hR.ext (hE _ hg)).at_ i [I xs[i]] (by simp [hlt])
    have hne : bb ≠ G.next := by omega
    have i5 := seg_one i3
    refine Ok.skip ?_
    refine Ok.seq ?_
    refine Ok.block ?_
    refine Ok.seq ?_
    refine Ok.region ?_
    refine OkO.index (sz := 1) rfl rfl rfl (by kernel_rfl) (by first | assumption | rfl | exact slAt_slice (by omega) | exact slAt_opn (by omega)) ?_ -- index ('Go.Operand.tmp', 7) ('Go.Operand.tmp', 9)
    refine OkO.load rfl rfl (lda (n := 1) (by kernel_rfl) (by first | assumption | (simp (disch := first | omega | (simp only [hNw, hPt]; omega)) only [gn0, gn1, gn2, gn3, gn4, gn5, gp0, gno, gpo] <;> first | rfl | assumption | exact gp0 _ _ _ | exact gn0 _ _)) (by first | rfl | assumption)) ?_
    refine OkO.assign rfl rfl ?_
    refine OkO.nil ?_
    refine Ok.seq ?_
    refine Ok.region ?_
    refine OkO.move rfl rfl ?_
    refine OkO.move rfl rfl ?_
    obtain ⟨gf, gas, hc1, hc2⟩ := hgood i xs[i] b (by simp [hlt]) hb
    refine OkO.callV rfl rfl rfl rfl hc1 (hc2 _ (hE _ (by (try dsimp only); repeat (first | (first | exact hg | exact hG) | apply Grow.new | (refine Grow.put ?_ _ (by first | omega | (simp only [hNw, hPt]; omega))))))) ?_ -- ('Go.Operand.tmp', 13)
    refine OkO.un rfl rfl rfl ?_
    refine OkO.nil ?_
    refine Ok.cond rfl (fun h2 => ?_) (fun h2 => ?_)
    · -- yes h2
      refine Ok.seq ?_
      refine Ok.region ?_
      refine OkO.assign rfl rfl ?_
      refine OkO.nil ?_
      refine Ok.ret ⟨.inr rfl, ?_⟩
      exact back_flat rfl (congrArg AV.bool (by symm; rw [List.all_eq_false]; exact ⟨false, List.mem_of_getElem? (by rw [hb]; congr 1; simpa using h2), by simp⟩)) rfl (by rw [← hW]; exact (by (try dsimp only); repeat (first | (first | exact hg | exact hG) | apply Grow.new | (refine Grow.put ?_ _ (by first | omega | (simp only [hNw, hPt]; omega))))))
    · -- no h2
      refine Ok.skip ?_
      refine Ok.region ?_
      refine OkO.bin rfl rfl rfl (bin_add (by omega) (by omega)) ?_
      refine OkO.move rfl rfl ?_
      refine OkO.nil ?_
      refine ⟨xs.length - (i + 1), by omega, i + 1, rfl, hlt, fun j hj => ?_, Has.of (by kernel_rfl), rfl, (by (try dsimp only); repeat (first | (first | exact hg | exact hG) | apply Grow.new | (refine Grow.put ?_ _ (by first | omega | (simp only [hNw, hPt]; omega)))))⟩
      by_cases e : j = i
      · subst e; rw [hb]; simpa using h2
      · exact hall j (by omega)
  · -- no h1
    have hge : i = xs.length := by simp at h1; omega
    refine Ok.exit ?_
    refine Ok.seq ?_
    refine Ok.region ?_
    refine OkO.assign rfl rfl ?_
    refine OkO.nil ?_
    refine Ok.ret ⟨.inr rfl, ?_⟩
    exact back_flat rfl (congrArg AV.bool (by symm; rw [List.all_eq_true]; intro x hx; obtain ⟨j, hj, rfl⟩ := List.mem_iff_getElem.1 hx; have := hall j (by omega); rw [List.getElem?_eq_getElem hj] at this; simpa using this)) rfl (by rw [← hW]; exact (by (try dsimp only); repeat (first | (first | exact hg | exact hG) | apply Grow.new | (refine Grow.put ?_ _ (by first | omega | (simp only [hNw, hPt]; omega))))))
theorem c95 (m : Nat) (v good : AV) (xs : List (AV × Bool)) (ps : List Bool) (H : Heap) (hR : Row H v 2 (xs.map fun x => [x.1, .bool x.2])) (hl : xs.length ≤ 1000000) (hp : ps.length = xs.length) (hat : ∀ x ∈ xs, x.1.atom = true) (hgood : ∀ (i : Nat) x b, xs[i]? = some x → ps[i]? = some b → CallB m good [.agg [x.1, .bool x.2]] H b) : RR (m + 1) (.fn 95 [v, good]) H = some (.bool (ps.all id), H) := by
  refine (R_fn _ _ _ _ _).trans ?_
  refine fn_ok Try.func95 rfl rfl (by kernel_rfl) (by kernel_rfl) ?_
  obtain ⟨W, hW⟩ : ∃ W : Heap, W = ⟨H.t, H.next, H.next⟩ := ⟨_, rfl⟩
  have hg : ∀ n, W.get n = H.get n := fun n => by rw [hW]; rfl
  have hN : W.next = H.next := by rw [hW]
  have hE : ∀ G, Grow W G → Ext H G := fun G g => ⟨by rw [← hN]; exact g.next, fun n k => by rw [g.get n (by rw [hN]; exact k), hg]⟩
  have hG : Grow W W := Grow.refl (by rw [hW]; exact Nat.le_refl _)
  rw [← hW]
  have hlen : lenOf v = some xs.length := by simpa using hR.len
  refine Ok.seq ?_
  refine Ok.region ?_
  refine OkO.assign rfl rfl ?_
  refine OkO.nil ?_
  refine Ok.seq ?_
  refine Ok.seq ?_
  refine Ok.region ?_
  refine OkO.move rfl rfl ?_
  refine OkO.builtin rfl rfl rfl (bln (by kernel_rfl) (by first | assumption | rfl)) ?_
  refine OkO.move rfl rfl ?_
  refine OkO.nil ?_
  refine Ok.block ?_
  refine Ok.loop (fun n s => ∃ i : Nat, n = xs.length - i ∧ i ≤ xs.length ∧ (∀ j, j < i → ps[j]? = some true) ∧ Has 5 [(1, good), (4, .bool false), (7, v), (8, I xs.length), (9, I (i : Int))] s.T ∧ s.D = [] ∧ Grow W s.H) (xs.length) (by unfold loopFuel; omega)
    ⟨0, rfl, Nat.zero_le _, nofun, Has.of (by kernel_rfl), rfl, hG⟩ ?_
  rintro n ⟨T, D, G⟩ ⟨i, hn, hi, hall, ⟨f, hT⟩, hD, hg⟩
  dsimp only at *
  subst hT hD
  have hgn := hg.next
  refine Ok.seq ?_
  refine Ok.region ?_
  refine OkO.bin rfl rfl rfl (bin_lss _ _) ?_
  refine OkO.nil ?_
  refine Ok.seq ?_
  refine Ok.cond rfl (fun h1 => ?_) (fun h1 => ?_)
  · -- yes h1
    have hlt : i < xs.length := by simpa using h1
    obtain ⟨b, hb⟩ : ∃ b, ps[i]? = some b := ⟨_, List.getElem?_eq_getElem (by omega)⟩
    obtain ⟨bb, off, cs, i1, i2, i3, i4⟩ := (hR.ext (hE _ hg)).at_ i [xs[i].1, .bool xs[i].2] (by simp [hlt])
    have hne : bb ≠ G.next := by omega
    have at1 : atoms (AV.agg [xs[i].1, .bool xs[i].2]).cells = true := by (show atoms [xs[i].1, .bool xs[i].2] = true; have h9 := hat xs[i] (List.getElem_mem hlt); simp [atoms, h9, show ∀ z, (AV.bool z).atom = true from fun _ => rfl])
    refine Ok.skip ?_
    refine Ok.seq ?_
    refine Ok.block ?_
    refine Ok.seq ?_
    refine Ok.region ?_
    refine OkO.index (sz := 2) rfl rfl rfl (by kernel_rfl) (by first | assumption | rfl | exact slAt_slice (by omega) | exact slAt_opn (by omega)) ?_ -- index ('Go.Operand.tmp', 7) ('Go.Operand.tmp', 9)
    refine OkO.load rfl rfl (ldg (n := 2) (by kernel_rfl) (by first | assumption | (simp (disch := first | omega | (simp only [hNw, hPt]; omega)) only [gn0, gn1, gn2, gn3, gn4, gn5, gp0, gno, gpo] <;> first | rfl | assumption | exact gp0 _ _ _ | exact gn0 _ _)) (by first | rfl | assumption)) ?_
    refine OkO.alloc (z := [.nils, .bool false]) rfl (by kernel_rfl) ?_
    refine OkO.store rfl rfl rfl (stc (n := 2) (ag := true) (by kernel_rfl) (by first | assumption | (simp (disch := first | omega | (simp only [hNw, hPt]; omega)) only [gn0, gn1, gn2, gn3, gn4, gn5, gp0, gno, gpo] <;> first | rfl | assumption | exact gp0 _ _ _ | exact gn0 _ _)) rfl (by first | rfl | assumption) (by first | rfl | exact spl_set _ _ _ (by first | assumption | omega | (simp; omega)))) ?_
    refine OkO.nil ?_
    refine Ok.seq ?_
    refine Ok.region ?_
    refine OkO.move rfl rfl ?_
    refine OkO.load rfl rfl (ldg (n := 2) (by kernel_rfl) (by first | assumption | (simp (disch := first | omega | (simp only [hNw, hPt]; omega)) only [gn0, gn1, gn2, gn3, gn4, gn5, gp0, gno, gpo] <;> first | rfl | assumption | exact gp0 _ _ _ | exact gn0 _ _)) (by first | rfl | assumption)) ?_
    obtain ⟨gf, gas, hc1, hc2⟩ := hgood i xs[i] b (by simp [hlt]) hb
    refine OkO.callV rfl rfl rfl rfl hc1 (hc2 _ (hE _ (by (try dsimp only); repeat (first | (first | exact hg | exact hG) | apply Grow.new | (refine Grow.put ?_ _ (by first | omega | (simp only [hNw, hPt]; omega))))))) ?_ -- ('Go.Operand.tmp', 13)
    refine OkO.un rfl rfl rfl ?_
    refine OkO.nil ?_
    refine Ok.cond rfl (fun h2 => ?_) (fun h2 => ?_)
    · -- yes h2
      refine Ok.seq ?_
      refine Ok.region ?_
      refine OkO.assign rfl rfl ?_
      refine OkO.nil ?_
      refine Ok.ret ⟨.inr rfl, ?_⟩
      exact back_flat rfl (congrArg AV.bool (by symm; rw [List.all_eq_false]; exact ⟨false, List.mem_of_getElem? (by rw [hb]; congr 1; simpa using h2), by simp⟩)) rfl (by rw [← hW]; exact (by (try dsimp only); repeat (first | (first | exact hg | exact hG) | apply Grow.new | (refine Grow.put ?_ _ (by first | omega | (simp only [hNw, hPt]; omega))))))
    · -- no h2
      refine Ok.skip ?_
      refine Ok.region ?_
      refine OkO.bin rfl rfl rfl (bin_add (by omega) (by omega)) ?_
      refine OkO.move rfl rfl ?_
      refine OkO.nil ?_
      refine ⟨xs.length - (i + 1), by omega, i + 1, rfl, hlt, fun j hj => ?_, Has.of (by kernel_rfl), rfl, (by (try dsimp only); repeat (first | (first | exact hg | exact hG) | apply Grow.new | (refine Grow.put ?_ _ (by first | omega | (simp only [hNw, hPt]; omega)))))⟩
      by_cases e : j = i
      · subst e; rw [hb]; simpa using h2
      · exact hall j (by omega)
  · -- no h1
    have hge : i = xs.length := by simp at h1; omega
    refine Ok.exit ?_
    refine Ok.seq ?_
    refine Ok.region ?_
    refine OkO.assign rfl rfl ?_
    refine OkO.nil ?_
    refine Ok.ret ⟨.inr rfl, ?_⟩
    exact back_flat rfl (congrArg AV.bool (by symm; rw [List.all_eq_true]; intro x hx; obtain ⟨j, hj, rfl⟩ := List.mem_iff_getElem.1 hx; have := hall j (by omega); rw [List.getElem?_eq_getElem hj] at this; simpa using this)) rfl (by rw [← hW]; exact (by (try dsimp only); repeat (first | (first | exact hg | exact hG) | apply Grow.new | (refine Grow.put ?_ _ (by first | omega | (simp only [hNw, hPt]; omega))))))
end
end Go.Ev

set_option maxRecDepth 100000
set_option linter.unusedSimpArgs false
set_option linter.unusedVariables false
namespace Go.Ev
open Go Go.Proofs
noncomputable section
def seasErr (l : List Sea) : Int := if (decide ((l.length : Int) ≤ 10) && l.all Sea.short) = true then (if l.all Sea.fine = true then 0 else 1) else 3
theorem seasErr3 {l : List Sea} (h : (10 : Int) < l.length ∨ ∃ s ∈ l, s.short = false) : seasErr l = 3 := by
  unfold seasErr
  rw [if_neg]
  intro h1
  rw [Bool.and_eq_true, decide_eq_true_eq, List.all_eq_true] at h1
  rcases h with h | ⟨s, h2, h3⟩
  · omega
  · rw [h1.2 s h2] at h3; cases h3
theorem seasErr1 {l : List Sea} (h : (l.length : Int) ≤ 10) (h2 : ∀ s ∈ l, s.short = true) {s : Sea} (h3 : s ∈ l) (h4 : s.fine = false) : seasErr l = 1 := by
  unfold seasErr
  rw [if_pos (by rw [Bool.and_eq_true, decide_eq_true_eq, List.all_eq_true]; exact ⟨h, h2⟩), if_neg]
  intro h5
  rw [List.all_eq_true] at h5
  rw [h5 s h3] at h4; cases h4
theorem seasErr0 {l : List Sea} (h : (l.length : Int) ≤ 10) (h2 : ∀ s ∈ l, s.short = true) (h3 : ∀ s ∈ l, s.fine = true) : seasErr l = 0 := by
  unfold seasErr
  rw [if_pos (by rw [Bool.and_eq_true, decide_eq_true_eq, List.all_eq_true]; exact ⟨h, h2⟩), if_pos (by rw [List.all_eq_true]; exact h3)]
theorem seasErr_facts {l : List Sea} (h : seasErr l = 0) : l.length ≤ 10 ∧ (∀ s ∈ l, s.sp.length ≤ 60) ∧ ∀ s ∈ l, ∀ x ∈ s.sp, 0 ≤ x ∧ x ≤ 1000 := by
  unfold seasErr at h
  split at h
  · rename_i h1
    rw [Bool.and_eq_true, decide_eq_true_eq, List.all_eq_true] at h1
    split at h
    · rename_i h2
      rw [List.all_eq_true] at h2
      refine ⟨by omega, fun s hs => ?_, fun s hs x hx => ?_⟩
      · have := h1.2 s hs
        unfold Sea.short at this
        rw [decide_eq_true_eq] at this
        omega
      · have := h2 s hs
        unfold Sea.fine at this
        rw [List.all_eq_true] at this
        have := this x hx
        unfold inB at this
        simpa using this
    · cases h
  · cases h
theorem all_of_get {α : Type} {l : List α} {p : α → Prop} (h : ∀ (j : Nat) (hj : j < l.length), p l[j]) : ∀ x ∈ l, p x := fun x hx => by
  obtain ⟨j, hj, rfl⟩ := List.mem_iff_getElem.1 hx
  exact h j hj
theorem fine_no {s : Sea} {k : Nat} (hk : k < s.sp.length) (h : inB s.sp[k] 0 1000 = false) : s.fine = false := by
  unfold Sea.fine
  rw [List.all_eq_false]
  exact ⟨s.sp[k], List.getElem_mem hk, by simp [h]⟩
theorem fine_yes {s : Sea} (h : ∀ (k : Nat) (hk : k < s.sp.length), inB s.sp[k] 0 1000 = true) : s.fine = true := by
  unfold Sea.fine
  rw [List.all_eq_true]
  exact all_of_get (p := fun x => inB x 0 1000 = true) h
theorem c40 (m : Nat) (v : AV) (l : List Sea) (H : Heap) (hS : SeasAt H v l) (hl9 : l.length ≤ 100000) (hs9 : ∀ s ∈ l, s.sp.length ≤ 100000) : RR (m + 2) (.fn 40 [v]) H = some (I (seasErr l), H) := by
  refine (R_fn _ _ _ _ _).trans ?_
  refine fn_ok Try.func40 rfl rfl (by kernel_rfl) (by kernel_rfl) ?_
  obtain ⟨W, hW⟩ : ∃ W : Heap, W = ⟨H.t, H.next, H.next⟩ := ⟨_, rfl⟩
  have hg : ∀ n, W.get n = H.get n := fun n => by rw [hW]; rfl
  have hN : W.next = H.next := by rw [hW]
  have hE : ∀ G, Grow W G → Ext H G := fun G g => ⟨by rw [← hN]; exact g.next, fun n k => by rw [g.get n (by rw [hN]; exact k), hg]⟩
  have hG : Grow W W := Grow.refl (by rw [hW]; exact Nat.le_refl _)
  rw [← hW]
  have hlen := hS.len
  refine Ok.seq ?_
  refine Ok.region ?_
  refine OkO.assign rfl rfl ?_
  refine OkO.nil ?_
  refine Ok.seq ?_
  refine Ok.seq ?_
  refine Ok.region ?_
  refine OkO.move rfl rfl ?_
  refine OkO.builtin rfl rfl rfl (bln (by kernel_rfl) (by first | assumption | rfl)) ?_
  refine OkO.bin rfl rfl rfl (bin_gtr _ _) ?_
  refine OkO.nil ?_
  refine Ok.cond rfl (fun h1 => ?_) (fun h1 => ?_)
  · -- yes h1
    have h10 : (10 : Int) < (l.length : Int) := by simpa using h1
    refine Ok.seq ?_
    refine Ok.region ?_
    refine OkO.assign rfl rfl ?_
    refine OkO.nil ?_
    refine Ok.ret ⟨.inr rfl, ?_⟩
    exact back_flat rfl (congrArg I ((seasErr3 (.inl h10)).symm)) rfl (by rw [← hW]; exact (by (try dsimp only); repeat (first | exact hg | exact hG | apply Grow.new | (refine Grow.put ?_ _ (by first | omega | (simp only [hNw, hPt]; omega))))))
  · -- no h1
    have h10 : (l.length : Int) ≤ 10 := by (have h9 : ¬ (10 : Int) < (l.length : Int) := by simpa using h1); omega
    refine Ok.skip ?_
    refine Ok.seq ?_
    refine Ok.seq ?_
    refine Ok.region ?_
    refine OkO.assign rfl rfl ?_
    refine OkO.nil ?_
    refine Ok.block ?_
    refine Ok.loop (fun n s => ∃ i : Nat, n = l.length - i ∧ i ≤ l.length ∧ (∀ (j : Nat) (hj : j < l.length), j < i → l[j].short = true) ∧ Has 6 [(0, v), (3, I (i : Int))] s.T ∧ s.D = [] ∧ Grow W s.H) (l.length) (by unfold loopFuel; omega)
      ⟨0, rfl, Nat.zero_le _, nofun, Has.of (by kernel_rfl), rfl, hG⟩ ?_
    rintro n ⟨T, D, G⟩ ⟨i, hn, hi, hall, ⟨f, hT⟩, hD, hg⟩
    dsimp only at *
    subst hT hD
    have hgn := hg.next
    refine Ok.seq ?_
    refine Ok.seq ?_
    refine Ok.region ?_
    refine OkO.move rfl rfl ?_
    refine OkO.move rfl rfl ?_
    refine OkO.builtin rfl rfl rfl (bln (by kernel_rfl) (by first | assumption | rfl)) ?_
    refine OkO.bin rfl rfl rfl (bin_lss _ _) ?_
    refine OkO.nil ?_
    refine Ok.cond rfl (fun h2 => ?_) (fun h2 => ?_)
    · -- yes h2
      have hlt : i < l.length := by simpa using h2
      obtain ⟨x, bb, off, cs, i1, i2, i3, i4, i5, i6, i7⟩ := (hS.ext (hE _ (by (try dsimp only); repeat (first | exact hg | exact hG | apply Grow.new | (refine Grow.put ?_ _ (by first | omega | (simp only [hNw, hPt]; omega))))))).at_ i hlt
      have hxl := i7.len
      refine Ok.skip ?_
      refine Ok.seq ?_
      refine Ok.block ?_
      refine Ok.seq ?_
      refine Ok.region ?_
      refine OkO.move rfl rfl ?_
      refine OkO.move rfl rfl ?_
      refine OkO.index (sz := 2) rfl rfl rfl (by kernel_rfl) (by first | assumption | rfl | exact slAt_slice (by omega) | exact slAt_opn (by omega)) ?_ -- index ('Go.Operand.tmp', 15) ('Go.Operand.tmp', 16)
      refine OkO.fieldAddr (o := 0) rfl (by kernel_rfl) rfl ?_
      refine OkO.load rfl rfl (lda (n := 1) (by kernel_rfl) (by first | assumption | (simp (disch := first | omega | (simp only [hNw, hPt]; omega)) only [gn0, gn1, gn2, gn3, gn4, gn5, gp0, gno, gpo] <;> first | rfl | assumption | exact gp0 _ _ _ | exact gn0 _ _)) (by first | rfl | assumption)) ?_
      refine OkO.builtin rfl rfl rfl (bln (by kernel_rfl) (by first | assumption | rfl)) ?_
      refine OkO.bin rfl rfl rfl (bin_gtr _ _) ?_
      refine OkO.nil ?_
      refine Ok.cond rfl (fun h3 => ?_) (fun h3 => ?_)
      · -- yes h3
        have h9 : (60 : Int) < (l[i].sp.length : Int) := by simpa using h3
        refine Ok.seq ?_
        refine Ok.region ?_
        refine OkO.assign rfl rfl ?_
        refine OkO.nil ?_
        refine Ok.ret ⟨.inr rfl, ?_⟩
        exact back_flat rfl (congrArg I ((seasErr3 (.inr ⟨l[i], List.getElem_mem hlt, by unfold Sea.short; rw [decide_eq_false_iff_not]; omega⟩)).symm)) rfl (by rw [← hW]; exact (by (try dsimp only); repeat (first | exact hg | exact hG | apply Grow.new | (refine Grow.put ?_ _ (by first | omega | (simp only [hNw, hPt]; omega))))))
      · -- no h3
        refine Ok.skip ?_
        refine Ok.region ?_
        refine OkO.move rfl rfl ?_
        refine OkO.bin rfl rfl rfl (bin_add (by omega) (by omega)) ?_
        refine OkO.assign rfl rfl ?_
        refine OkO.nil ?_
        refine ⟨l.length - (i + 1), by omega, i + 1, rfl, hlt, fun j hj hji => ?_, Has.of (by kernel_rfl), rfl, hg⟩
        by_cases e : j = i
        · subst e; unfold Sea.short; rw [decide_eq_true_eq]; have h9 : ¬ (60 : Int) < (l[j].sp.length : Int) := by simpa using h3
          omega
        · exact hall j hj (by omega)
    · -- no h2
      have hge : i = l.length := by simp at h2; omega
      refine Ok.exit ?_
      refine Ok.seq ?_
      refine Ok.seq ?_
      refine Ok.region ?_
      refine OkO.assign rfl rfl ?_
      refine OkO.nil ?_
      refine Ok.block ?_
      have hsh : ∀ s ∈ l, s.short = true := all_of_get fun j hj => hall j hj (by omega)
      clear hall hn hi hgn
      refine Ok.loop (fun n s => ∃ i : Nat, n = l.length - i ∧ i ≤ l.length ∧ (∀ (j : Nat) (hj : j < l.length), j < i → l[j].fine = true) ∧ Has 6 [(0, v), (4, I (i : Int))] s.T ∧ s.D = [] ∧ Grow W s.H) (l.length) (by unfold loopFuel; omega)
        ⟨0, rfl, Nat.zero_le _, nofun, Has.of (by kernel_rfl), rfl, hg⟩ ?_
      rintro n ⟨T, D, G⟩ ⟨i, hn, hi, hall, ⟨f, hT⟩, hD, hg⟩
      dsimp only at *
      subst hT hD
      have hgn := hg.next
      refine Ok.seq ?_
      refine Ok.seq ?_
      refine Ok.region ?_
      refine OkO.move rfl rfl ?_
      refine OkO.move rfl rfl ?_
      refine OkO.builtin rfl rfl rfl (bln (by kernel_rfl) (by first | assumption | rfl)) ?_
      refine OkO.bin rfl rfl rfl (bin_lss _ _) ?_
      refine OkO.nil ?_
      refine Ok.cond rfl (fun h4 => ?_) (fun h4 => ?_)
      · -- yes h4
        have hlt : i < l.length := by simpa using h4
        have hll9 := hs9 l[i] (List.getElem_mem hlt)
        refine Ok.skip ?_
        refine Ok.seq ?_
        refine Ok.block ?_
        refine Ok.seq ?_
        refine Ok.region ?_
        refine OkO.assign rfl rfl ?_
        refine OkO.nil ?_
        refine Ok.block ?_
        clear hgn
        refine Ok.loop (fun n s => ∃ k : Nat, n = l[i].sp.length - k ∧ k ≤ l[i].sp.length ∧ (∀ (j : Nat) (hj : j < l[i].sp.length), j < k → inB l[i].sp[j] 0 1000 = true) ∧ Has 6 [(0, v), (4, I (i : Int)), (5, I (k : Int))] s.T ∧ s.D = [] ∧ Grow W s.H) (l[i].sp.length) (by unfold loopFuel; omega)
          ⟨0, rfl, Nat.zero_le _, nofun, Has.of (by kernel_rfl), rfl, hg⟩ ?_
        rintro n ⟨T, D, G⟩ ⟨k, hn2, hk, hall2, ⟨f, hT⟩, hD, hg⟩
        dsimp only at *
        subst hT hD
        have hgn := hg.next
        obtain ⟨x, bb, off, cs, i1, i2, i3, i4, i5, i6, i7⟩ := (hS.ext (hE _ (by (try dsimp only); repeat (first | exact hg | exact hG | apply Grow.new | (refine Grow.put ?_ _ (by first | omega | (simp only [hNw, hPt]; omega))))))).at_ i hlt
        have hxl := i7.len
        refine Ok.seq ?_
        refine Ok.seq ?_
        refine Ok.region ?_
        refine OkO.move rfl rfl ?_
        refine OkO.move rfl rfl ?_
        refine OkO.move rfl rfl ?_
        refine OkO.index (sz := 2) rfl rfl rfl (by kernel_rfl) (by first | assumption | rfl | exact slAt_slice (by omega) | exact slAt_opn (by omega)) ?_ -- index ('Go.Operand.tmp', 29) ('Go.Operand.tmp', 30)
        refine OkO.fieldAddr (o := 0) rfl (by kernel_rfl) rfl ?_
        refine OkO.load rfl rfl (lda (n := 1) (by kernel_rfl) (by first | assumption | (simp (disch := first | omega | (simp only [hNw, hPt]; omega)) only [gn0, gn1, gn2, gn3, gn4, gn5, gp0, gno, gpo] <;> first | rfl | assumption | exact gp0 _ _ _ | exact gn0 _ _)) (by first | rfl | assumption)) ?_
        refine OkO.builtin rfl rfl rfl (bln (by kernel_rfl) (by first | assumption | rfl)) ?_
        refine OkO.bin rfl rfl rfl (bin_lss _ _) ?_
        refine OkO.nil ?_
        refine Ok.cond rfl (fun h5 => ?_) (fun h5 => ?_)
        · -- yes h5
          have hkl : k < l[i].sp.length := by simpa using h5
          obtain ⟨b2, off2, cs2, k1, k2, k3, k4⟩ := i7.at' k hkl
          refine Ok.skip ?_
          refine Ok.seq ?_
          refine Ok.block ?_
          refine Ok.seq ?_
          refine Ok.region ?_
          refine OkO.move rfl rfl ?_
          refine OkO.move rfl rfl ?_
          refine OkO.index (sz := 2) rfl rfl rfl (by kernel_rfl) (by first | assumption | rfl | exact slAt_slice (by omega) | exact slAt_opn (by omega)) ?_ -- index ('Go.Operand.tmp', 38) ('Go.Operand.tmp', 39)
          refine OkO.fieldAddr (o := 0) rfl (by kernel_rfl) rfl ?_
          refine OkO.load rfl rfl (lda (n := 1) (by kernel_rfl) (by first | assumption | (simp (disch := first | omega | (simp only [hNw, hPt]; omega)) only [gn0, gn1, gn2, gn3, gn4, gn5, gp0, gno, gpo] <;> first | rfl | assumption | exact gp0 _ _ _ | exact gn0 _ _)) (by first | rfl | assumption)) ?_
          refine OkO.move rfl rfl ?_
          refine OkO.index (sz := 1) rfl rfl rfl (by kernel_rfl) (by first | assumption | rfl | exact slAt_slice (by omega) | exact slAt_opn (by omega)) ?_ -- index ('Go.Operand.tmp', 42) ('Go.Operand.tmp', 43)
          refine OkO.load rfl rfl (lda (n := 1) (by kernel_rfl) (by first | assumption | (simp (disch := first | omega | (simp only [hNw, hPt]; omega)) only [gn0, gn1, gn2, gn3, gn4, gn5, gp0, gno, gpo] <;> first | rfl | assumption | exact gp0 _ _ _ | exact gn0 _ _)) (by first | rfl | assumption)) ?_
          refine OkO.callV rfl rfl rfl rfl rfl (c36 _ _ _ _ _) ?_ -- "sackung/sackungref04.In"
          refine OkO.un rfl rfl rfl ?_
          refine OkO.nil ?_
          refine Ok.cond rfl (fun h6 => ?_) (fun h6 => ?_)
          · -- yes h6
            refine Ok.seq ?_
            refine Ok.region ?_
            refine OkO.assign rfl rfl ?_
            refine OkO.nil ?_
            refine Ok.ret ⟨.inr rfl, ?_⟩
            exact back_flat rfl (congrArg I ((seasErr1 h10 hsh (List.getElem_mem hlt) (fine_no hkl (by simpa using h6))).symm)) rfl (by rw [← hW]; exact (by (try dsimp only); repeat (first | exact hg | exact hG | apply Grow.new | (refine Grow.put ?_ _ (by first | omega | (simp only [hNw, hPt]; omega))))))
          · -- no h6
            refine Ok.skip ?_
            refine Ok.region ?_
            refine OkO.move rfl rfl ?_
            refine OkO.bin rfl rfl rfl (bin_add (by omega) (by omega)) ?_
            refine OkO.assign rfl rfl ?_
            refine OkO.nil ?_
            refine ⟨l[i].sp.length - (k + 1), by omega, k + 1, rfl, hkl, fun j hj hji => ?_, Has.of (by kernel_rfl), rfl, hg⟩
            by_cases e : j = k
            · subst e; simpa using h6
            · exact hall2 j hj (by omega)
        · -- no h5
          have hge2 : k = l[i].sp.length := by simp at h5; omega
          refine Ok.exit ?_
          refine Ok.region ?_
          refine OkO.move rfl rfl ?_
          refine OkO.bin rfl rfl rfl (bin_add (by omega) (by omega)) ?_
          refine OkO.assign rfl rfl ?_
          refine OkO.nil ?_
          refine ⟨l.length - (i + 1), by omega, i + 1, rfl, hlt, fun j hj hji => ?_, Has.of (by kernel_rfl), rfl, hg⟩
          by_cases e : j = i
          · subst e; exact fine_yes fun q hq => hall2 q hq (by omega)
          · exact hall j hj (by omega)
      · -- no h4
        have hge : i = l.length := by simp at h4; omega
        refine Ok.exit ?_
        refine Ok.seq ?_
        refine Ok.region ?_
        refine OkO.assign rfl rfl ?_
        refine OkO.nil ?_
        refine Ok.ret ⟨.inr rfl, ?_⟩
        exact back_flat rfl (congrArg I ((seasErr0 h10 hsh (all_of_get fun j hj => hall j hj (by omega))).symm)) rfl (by rw [← hW]; exact (by (try dsimp only); repeat (first | exact hg | exact hG | apply Grow.new | (refine Grow.put ?_ _ (by first | omega | (simp only [hNw, hPt]; omega))))))
theorem c82r (m : Nat) (v good : AV) (xs : List Int) (r : Bool) (ps : List Bool) (hr : ps.all id = r) (H : Heap) (hR : Row H v 1 (xs.map fun x => [I x])) (hl : xs.length ≤ 1000000) (hp : ps.length = xs.length) (hgood : ∀ (i : Nat) x b, xs[i]? = some x → ps[i]? = some b → CallB m good [I x] H b) :
    RR (m + 1) (.fn 82 [v, good]) H = some (.bool r, H) := by rw [← hr]; exact c82 m v good xs ps H hR hl hp hgood
theorem c95r (m : Nat) (v good : AV) (xs : List (AV × Bool)) (r : Bool) (ps : List Bool) (hr : ps.all id = r) (H : Heap) (hR : Row H v 2 (xs.map fun x => [x.1, .bool x.2])) (hl : xs.length ≤ 1000000) (hp : ps.length = xs.length) (hat : ∀ x ∈ xs, x.1.atom = true) (hgood : ∀ (i : Nat) x b, xs[i]? = some x → ps[i]? = some b → CallB m good [.agg [x.1, .bool x.2]] H b) :
    RR (m + 1) (.fn 95 [v, good]) H = some (.bool r, H) := by rw [← hr]; exact c95 m v good xs ps H hR hl hp hat hgood
theorem c97 (m : Nat) (sv : AV) (s : Sea) (H : Heap) (hU : Ints H sv s.sp) (hl : s.sp.length ≤ 1000000) : RR (m + 3) (.fn 97 [.agg [sv, .bool s.fell]]) H = some (.bool s.fine, H) := by
  refine (R_fn _ _ _ _ _).trans ?_
  refine fn_ok Try.func97 rfl rfl (by kernel_rfl) (by kernel_rfl) ?_
  obtain ⟨W, hW⟩ : ∃ W : Heap, W = ⟨H.t, H.next, H.next⟩ := ⟨_, rfl⟩
  have hg : ∀ n, W.get n = H.get n := fun n => by rw [hW]; rfl
  have hN : W.next = H.next := by rw [hW]
  have hE : ∀ G, Grow W G → Ext H G := fun G g => ⟨by rw [← hN]; exact g.next, fun n k => by rw [g.get n (by rw [hN]; exact k), hg]⟩
  have hG : Grow W W := Grow.refl (by rw [hW]; exact Nat.le_refl _)
  rw [← hW]
  have pb : sv.plain = true := lpl hU.len
  refine Ok.seq ?_
  refine Ok.region ?_
  refine OkO.box rfl rfl ?_
  refine OkO.assign rfl rfl ?_
  refine OkO.nil ?_
  refine Ok.seq ?_
  refine Ok.region ?_
  refine OkO.fieldAddr (o := 0) rfl (by kernel_rfl) rfl ?_
  refine OkO.load rfl rfl (lda (n := 1) (by kernel_rfl) (by first | assumption | (simp (disch := first | omega | (simp only [hNw, hPt]; omega)) only [gn0, gn1, gn2, gn3, gn4, gn5, gp0, gno, gpo] <;> first | rfl | assumption | exact gp0 _ _ _ | exact gn0 _ _)) (by first | rfl | assumption)) ?_
  refine OkO.buildArr (z := [.int .i64 0, .int .i64 0]) (sz := 1) rfl (by kernel_rfl) rfl rfl ?_
  refine OkO.makeFunc rfl rfl rfl ?_
  refine OkO.callV rfl rfl rfl rfl rfl (c82r (m + 1) sv (.fn 68 [.agg [I 0, I 1000]] []) s.sp s.fine (s.sp.map fun x => inB x 0 1000) (by simp [Sea.fine, List.all_map]) _ (hU.ext (hE _ (by (try dsimp only); repeat (first | exact hG | apply Grow.new | (refine Grow.put ?_ _ (by first | omega | (simp only [hNw, hPt]; omega))))))) hl (by simp) (fun i x b9 h1 h2 => ⟨68, [.agg [I 0, I 1000], I x], rfl, fun G _ => by rw [List.getElem?_map, h1] at h2; cases h2; exact c68 _ 0 1000 x G⟩)) ?_ -- "sackung/alarm.all[int]"
  refine OkO.assign rfl rfl ?_
  refine OkO.nil ?_
  refine Ok.ret ⟨.inr rfl, ?_⟩
  exact back_flat rfl rfl rfl (by rw [← hW]; exact (by (try dsimp only); repeat (first | exact hG | apply Grow.new | (refine Grow.put ?_ _ (by first | omega | (simp only [hNw, hPt]; omega))))))
/-- Seasons whose lists may stand in cells. -/
def SeasG (H : Heap) (v : AV) (l : List Sea) : Prop := ∃ vs : List AV, vs.length = l.length ∧ Row H v 2 ((vs.zip l).map fun p => [p.1, .bool p.2.fell]) ∧ (∀ x ∈ vs, x.atom = true) ∧ ∀ (i : Nat) (x : AV) (s : Sea), vs[i]? = some x → l[i]? = some s → Ints H x s.sp
theorem SeasG.at {H : Heap} {v : AV} {l : List Sea} (h : SeasG H v l) : SeasAt H v l := let ⟨vs, h1, h2, _, h3⟩ := h; ⟨vs, h1, h2, h3⟩
theorem SeasG.ext {H G : Heap} {v : AV} {l : List Sea} (h : SeasG H v l) (g : Ext H G) : SeasG G v l := let ⟨vs, h1, h2, h4, h3⟩ := h; ⟨vs, h1, h2.ext g, h4, fun i x s a b => (h3 i x s a b).ext g⟩
theorem SeasM.g {k0 : Nat} {G : Heap} {v : AV} {l : List Sea} (h : SeasM k0 G v l) : SeasG G v l := by
  obtain ⟨vs, h1, h2, h3⟩ := h
  refine ⟨vs, h1, Mine.row (by rw [← seaCells_zip]; exact h2) (fun x hx => by obtain ⟨y, _, rfl⟩ := List.mem_map.1 hx; rfl) (by omega), fun x hx => ?_, fun i x s a b => (h3 i x s a b).ints⟩
  obtain ⟨i, hi, rfl⟩ := List.mem_iff_getElem.1 hx
  exact (h3 i vs[i] (l[i]'(by omega)) (List.getElem?_eq_getElem hi) (List.getElem?_eq_getElem (by omega))).one.2
/-- A slice of one struct that was just built. -/
theorem Row.lit {G : Heap} {b sz : Nat} {cs : List AV} {ty : TypeId} (h : G.get b = some (.cells cs ty)) (hb : b < G.next) (hl : cs.length = sz) : Row G (.slice b 0 1 1) sz [cs] := by
  refine ⟨rfl, fun i x k => ?_⟩
  cases i with
  | zero =>
    cases k
    refine ⟨b, 0, cs, by simp [slAt], by rw [h]; rfl, ?_, hb⟩
    unfold seg
    simp only [List.drop_zero, ← hl, List.take_length]
    rw [show Nat.beq cs.length cs.length = true from by simp]
  | succ i => simp at k
theorem SeasAt.one {G : Heap} {b : Nat} {x : AV} {s : Sea} {ty : TypeId} (h : G.get b = some (.cells [x, .bool s.fell] ty)) (hb : b < G.next) (hU : Ints G x s.sp) : SeasAt G (.slice b 0 1 1) [s] :=
  ⟨[x], rfl, Row.lit h hb rfl, fun i y t a c => by cases i with
    | zero => cases a; cases c; exact hU
    | succ i => simp at a⟩
theorem SeasG.one {G : Heap} {b : Nat} {x : AV} {s : Sea} {ty : TypeId} (h : G.get b = some (.cells [x, .bool s.fell] ty)) (hb : b < G.next) (hx : x.atom = true) (hU : Ints G x s.sp) : SeasG G (.slice b 0 1 1) [s] :=
  ⟨[x], rfl, Row.lit h hb rfl, fun y hy => by simp at hy; rw [hy]; exact hx, fun i y t a c => by cases i with
    | zero => cases a; cases c; exact hU
    | succ i => simp at a⟩
theorem c74 (m : Nat) (v : AV) (l : List Sea) (H : Heap) (hS : SeasG H v l) (hl9 : l.length ≤ 100000) (hs9 : ∀ s ∈ l, s.sp.length ≤ 100000) : RR (m + 6) (.fn 74 [v]) H = some (I (seasErr l), H) := by
  refine (R_fn _ _ _ _ _).trans ?_
  refine fn_ok Try.func74 rfl rfl (by kernel_rfl) (by kernel_rfl) ?_
  obtain ⟨W, hW⟩ : ∃ W : Heap, W = ⟨H.t, H.next, H.next⟩ := ⟨_, rfl⟩
  have hg : ∀ n, W.get n = H.get n := fun n => by rw [hW]; rfl
  have hN : W.next = H.next := by rw [hW]
  have hE : ∀ G, Grow W G → Ext H G := fun G g => ⟨by rw [← hN]; exact g.next, fun n k => by rw [g.get n (by rw [hN]; exact k), hg]⟩
  have hG : Grow W W := Grow.refl (by rw [hW]; exact Nat.le_refl _)
  rw [← hW]
  have hlen := hS.at.len
  obtain ⟨vs, h1, h2r, hat0, h3⟩ := hS
  have hrow : Row H v 2 (((vs.zip l).map fun p => (p.1, p.2.fell)).map fun x => [x.1, .bool x.2]) := by
    rw [List.map_map]
    exact h2r
  have hat : ∀ x ∈ (vs.zip l).map (fun p => (p.1, p.2.fell)), x.1.atom = true := by
    intro x hx
    obtain ⟨p, hp, rfl⟩ := List.mem_map.1 hx
    obtain ⟨i, hi, rfl⟩ := List.mem_iff_getElem.1 hp
    have h9 : i < min vs.length l.length := by simpa using hi
    have h8 := List.getElem?_zip_eq_some.1 (List.getElem?_eq_getElem hi)
    exact hat0 _ (List.mem_of_getElem? h8.1)
  have hgd96 : ∀ (i : Nat) (x : AV × Bool) (b9 : Bool), ((vs.zip l).map fun p => (p.1, p.2.fell))[i]? = some x → (l.map Sea.short)[i]? = some b9 → ∀ G, Ext H G → CallB (m + 4) (.fn 96 [] []) [.agg [x.1, .bool x.2]] G b9 := by
    intro i x b9 q1 q2 G hGx
    rw [List.getElem?_map, Option.map_eq_some_iff] at q1 q2
    obtain ⟨p, q3, rfl⟩ := q1
    obtain ⟨s, q4, rfl⟩ := q2
    rw [List.getElem?_zip_eq_some] at q3
    rw [q3.2] at q4
    cases q4
    exact ⟨96, [.agg [p.1, .bool p.2.fell]], rfl, fun G9 hx => c96 (m + 3) p.1 p.2 G9 (h3 i _ _ q3.1 q3.2).len⟩
  have hgd97 : ∀ (i : Nat) (x : AV × Bool) (b9 : Bool), ((vs.zip l).map fun p => (p.1, p.2.fell))[i]? = some x → (l.map Sea.fine)[i]? = some b9 → ∀ G, Ext H G → CallB (m + 4) (.fn 97 [] []) [.agg [x.1, .bool x.2]] G b9 := by
    intro i x b9 q1 q2 G hGx
    rw [List.getElem?_map, Option.map_eq_some_iff] at q1 q2
    obtain ⟨p, q3, rfl⟩ := q1
    obtain ⟨s, q4, rfl⟩ := q2
    rw [List.getElem?_zip_eq_some] at q3
    rw [q3.2] at q4
    cases q4
    exact ⟨97, [.agg [p.1, .bool p.2.fell]], rfl, fun G9 hx => c97 (m + 1) p.1 p.2 G9 ((h3 i _ _ q3.1 q3.2).ext (hGx.trans hx)) (by have := hs9 p.2 (List.mem_of_getElem? q3.2); omega)⟩
  refine Ok.seq ?_
  refine Ok.region ?_
  refine OkO.assign rfl rfl ?_
  refine OkO.nil ?_
  refine Ok.seq ?_
  refine Ok.seq ?_
  refine Ok.region ?_
  refine OkO.move rfl rfl ?_
  refine OkO.builtin rfl rfl rfl (bln (by kernel_rfl) (by first | assumption | rfl)) ?_
  refine OkO.bin rfl rfl rfl (bin_gtr _ _) ?_
  refine OkO.move rfl rfl ?_
  refine OkO.split (d := 6) rfl (fun g1 => ?_) (fun g1 => ?_)
  · -- true g1
    refine OkO.skip rfl ?_
    refine OkO.skip rfl ?_
    refine OkO.skip rfl ?_
    refine OkO.pick (b := true) rfl rfl (fun _ => rfl) nofun ?_
    refine OkO.nil ?_
    refine Ok.condT rfl ?_
    refine Ok.seq ?_
    refine Ok.region ?_
    refine OkO.assign rfl rfl ?_
    refine OkO.nil ?_
    refine Ok.ret ⟨.inr rfl, ?_⟩
    exact back_flat rfl (congrArg I ((seasErr3 (.inl (by simpa using g1))).symm)) rfl (by rw [← hW]; exact (by (try dsimp only); repeat (first | exact hg | exact hG | apply Grow.new | (refine Grow.put ?_ _ (by first | omega | (simp only [hNw, hPt]; omega))))))
  · -- false g1
    refine OkO.move rfl rfl ?_
    refine OkO.callV rfl rfl rfl rfl rfl (c95r (m + 4) v (.fn 96 [] []) ((vs.zip l).map fun p => (p.1, p.2.fell)) (l.all Sea.short) (l.map Sea.short) (by rw [List.all_map]; rfl) _ (hrow.ext (hE _ (by (try dsimp only); repeat (first | exact hg | exact hG | apply Grow.new | (refine Grow.put ?_ _ (by first | omega | (simp only [hNw, hPt]; omega))))))) (by simp; omega) (by simp; omega) hat (fun i x b9 q1 q2 => hgd96 i x b9 q1 q2 _ (hE _ (by (try dsimp only); repeat (first | exact hg | exact hG | apply Grow.new | (refine Grow.put ?_ _ (by first | omega | (simp only [hNw, hPt]; omega)))))))) ?_ -- "sackung/alarm.all[sackung/alarm.Season]"
    refine OkO.un rfl rfl rfl ?_
    refine OkO.pick (b := false) rfl rfl nofun (fun _ => rfl) ?_
    refine OkO.nil ?_
    refine Ok.cond rfl (fun h2 => ?_) (fun h2 => ?_)
    · -- yes h2
      have hns : l.all Sea.short = false := by simpa using h2
      refine Ok.seq ?_
      refine Ok.region ?_
      refine OkO.assign rfl rfl ?_
      refine OkO.nil ?_
      refine Ok.ret ⟨.inr rfl, ?_⟩
      exact back_flat rfl (congrArg I ((seasErr3 (.inr (by obtain ⟨s, s1, s2⟩ := List.all_eq_false.1 hns; exact ⟨s, s1, by simpa using s2⟩))).symm)) rfl (by rw [← hW]; exact (by (try dsimp only); repeat (first | exact hg | exact hG | apply Grow.new | (refine Grow.put ?_ _ (by first | omega | (simp only [hNw, hPt]; omega))))))
    · -- no h2
      refine Ok.skip ?_
      refine Ok.seq ?_
      refine Ok.seq ?_
      refine Ok.region ?_
      refine OkO.move rfl rfl ?_
      refine OkO.callV rfl rfl rfl rfl rfl (c95r (m + 4) v (.fn 97 [] []) ((vs.zip l).map fun p => (p.1, p.2.fell)) (l.all Sea.fine) (l.map Sea.fine) (by rw [List.all_map]; rfl) _ (hrow.ext (hE _ (by (try dsimp only); repeat (first | exact hg | exact hG | apply Grow.new | (refine Grow.put ?_ _ (by first | omega | (simp only [hNw, hPt]; omega))))))) (by simp; omega) (by simp; omega) hat (fun i x b9 q1 q2 => hgd97 i x b9 q1 q2 _ (hE _ (by (try dsimp only); repeat (first | exact hg | exact hG | apply Grow.new | (refine Grow.put ?_ _ (by first | omega | (simp only [hNw, hPt]; omega)))))))) ?_ -- "sackung/alarm.all[sackung/alarm.Season]"
      refine OkO.un rfl rfl rfl ?_
      refine OkO.nil ?_
      refine Ok.cond rfl (fun h3 => ?_) (fun h3 => ?_)
      · -- yes h3
        have hns : l.all Sea.fine = false := by simpa using h3
        refine Ok.seq ?_
        refine Ok.region ?_
        refine OkO.assign rfl rfl ?_
        refine OkO.nil ?_
        refine Ok.ret ⟨.inr rfl, ?_⟩
        exact back_flat rfl (congrArg I (Eq.symm (by obtain ⟨s, s1, s2⟩ := List.all_eq_false.1 hns; exact seasErr1 (by simpa using g1) (List.all_eq_true.1 (by simpa using h2)) s1 (by simpa using s2)))) rfl (by rw [← hW]; exact (by (try dsimp only); repeat (first | exact hg | exact hG | apply Grow.new | (refine Grow.put ?_ _ (by first | omega | (simp only [hNw, hPt]; omega))))))
      · -- no h3
        refine Ok.skip ?_
        refine Ok.seq ?_
        refine Ok.region ?_
        refine OkO.assign rfl rfl ?_
        refine OkO.nil ?_
        refine Ok.ret ⟨.inr rfl, ?_⟩
        exact back_flat rfl (congrArg I ((seasErr0 (by simpa using g1) (List.all_eq_true.1 (by simpa using h2)) (List.all_eq_true.1 (by simpa using h3))).symm)) rfl (by rw [← hW]; exact (by (try dsimp only); repeat (first | exact hg | exact hG | apply Grow.new | (refine Grow.put ?_ _ (by first | omega | (simp only [hNw, hPt]; omega))))))
end
end Go.Ev

set_option maxRecDepth 100000
set_option linter.unusedSimpArgs false
set_option linter.unusedVariables false
namespace Go.Ev
open Go Go.Proofs
noncomputable section
def termErr (l : List Sea) (t : Trm) : Int := if seasErr l ≠ 0 then seasErr l else if (l.length : Int) = 0 then 1 else if t.ok = true then 0 else 2
def shortL (l : List Sea) : Bool := decide ((l.length : Int) ≤ 12) && (l.take 13).all fun s => decide ((s.sp.length : Int) ≤ 65)
theorem SeasM.snoc {k0 : Nat} {G : Heap} {ov x : AV} {l : List Sea} {s : Sea} (h : SeasM k0 G ov l) (hx : Mine k0 G x 3 1 (s.sp.map I)) : ∃ cs, Mine k0 G ov 66 2 cs ∧ cs.length = l.length * 2 ∧ ∀ v2 G2, Mine k0 G2 v2 66 2 (cs ++ [x, .bool s.fell]) → G.next ≤ G2.next → (∀ j, j < G.next → (∀ m, ov ≠ .opn j m) → G2.get j = G.get j) → SeasM k0 G2 v2 (l ++ [s]) := by
  obtain ⟨vs, h1, h2, h3⟩ := h
  refine ⟨_, h2, seaCells_len vs l h1, fun v2 G2 k1 k2 k3 => ⟨vs ++ [x], by simp [h1], by rw [seaCells_snoc _ _ _ _ h1]; exact k1, fun i y t a c => ?_⟩⟩
  by_cases hi : i < vs.length
  · rw [List.getElem?_append_left hi] at a
    rw [List.getElem?_append_left (by omega)] at c
    exact (h3 i y t a c).offE h2 (.inr (by omega)) k2 k3
  · by_cases hi2 : i = vs.length
    · subst hi2
      rw [List.getElem?_append_right (Nat.le_refl _)] at a
      rw [List.getElem?_append_right (by omega), h1] at c
      simp at a c
      subst a c
      exact hx.offE h2 (.inr (by omega)) k2 k3
    · rw [List.getElem?_eq_none (by simp; omega)] at a; cases a
end
end Go.Ev

set_option maxRecDepth 100000
set_option linter.unusedSimpArgs false
set_option linter.unusedVariables false
namespace Go.Ev
open Go Go.Proofs
noncomputable section
section
open Go.ChangeShapes Go.WideShapes Go.RowKit
variable {H0 : Type} {enc : TypeId × Value → H0} {w : World} {base n : Nat} {sp : Nat → Bool} {hd : Bool}
theorem choose_list {α β : Type} {R : α → β → Prop} : ∀ l : List α, (∀ x ∈ l, ∃ y, R x y) → ∃ m : List β, m.length = l.length ∧ ∀ (i : Nat) x y, l[i]? = some x → m[i]? = some y → R x y := by
  intro l
  induction l with
  | nil => exact fun _ => ⟨[], rfl, fun i x y h => by simp at h⟩
  | cons a t ih =>
    intro h
    obtain ⟨y, hy⟩ := h a (by simp)
    obtain ⟨m, hm, hr⟩ := ih fun x hx => h x (by simp [hx])
    refine ⟨y :: m, by simp [hm], fun i x z h1 h2 => ?_⟩
    cases i with
    | zero => simp at h1 h2; subst h1; subst h2; exact hy
    | succ i => exact hr i x z (by simpa using h1) (by simpa using h2)
theorem map_of_get {α β : Type} {f : α → β} {l : List α} {m : List β} (hl : m.length = l.length) (h : ∀ (i : Nat) x y, l[i]? = some x → m[i]? = some y → f x = y) : l.map f = m := by
  apply List.ext_getElem (by simp [hl])
  intro i h1 h2
  have hi : i < l.length := by simpa using h1
  rw [List.getElem_map]
  exact h i _ _ (List.getElem?_eq_getElem hi) (List.getElem?_eq_getElem h2)
theorem slice_open {β : Type} {H : Heap} (hs : Snap w H) {t e sz : Nat} (ht : Try.prog.underlying t = some (.slice e)) (hc : Try.prog.cellsOf e = sz) (hz : 0 < sz) {R : List Value → β → Prop} (he : ∀ (c : List Value) (m : Nat) y, c.length = sz → DataW.trod enc Try.prog w base sp hd m e c = some y → ∃ b, R c b)
    {v : Value} {y} (h : DataW.trod enc Try.prog w base sp hd n t [v] = some y) : ∃ (cs : List (List Value)) (l : List β), l.length = cs.length ∧ l.length ≤ maxLen ∧ Row H (toAV w.heap.size v) sz (cs.map (toAVs w.heap.size)) ∧ ∀ (i : Nat) c b, cs[i]? = some c → l[i]? = some b → R c b := by
  obtain ⟨cs, hR, hm, hl⟩ := hs.slice ht hc hz h
  obtain ⟨l, hl2, hr⟩ := choose_list (R := R) cs fun c hc => by
    obtain ⟨h1, n', y', hy⟩ := hl c hc
    exact he c n' y' h1 hy
  exact ⟨cs, l, hl2, by omega, hR, hr⟩
theorem cells3 : Try.prog.cellsOf 3 = 1 := by kernel_rfl
theorem cells4 : Try.prog.cellsOf 4 = 1 := by kernel_rfl
theorem cells22 : Try.prog.cellsOf 22 = 1 := by kernel_rfl
theorem cells60 : Try.prog.cellsOf 60 = 2 := by kernel_rfl
theorem cells62 : Try.prog.cellsOf 62 = 3 := by kernel_rfl
theorem open3 {c : List Value} {y} (h : DataW.trod enc Try.prog w base sp hd n 3 c = some y) : ∃ x : Int, c = [.int .i64 x] := by
  obtain ⟨x, h1, _, _⟩ := DataW.trod_int Try.underlying3 h
  exact ⟨x, h1⟩
theorem open4 {c : List Value} {y} (h : DataW.trod enc Try.prog w base sp hd n 4 c = some y) : ∃ x : Bool, c = [.bool x] := by
  obtain ⟨x, h1, _⟩ := DataW.trod_bool Try.underlying4 h
  exact ⟨x, h1⟩
theorem open22 {H : Heap} (hs : Snap w H) {v : Value} {y} (h : DataW.trod enc Try.prog w base sp hd n 22 [v] = some y) : ∃ us : List Int, Ints H (toAV w.heap.size v) us ∧ us.length ≤ maxLen := by
  obtain ⟨cs, us, hl, hm, hR, hr⟩ := slice_open hs Try.underlying22 cells3 (by decide) (R := fun c (x : Int) => c = [.int .i64 x]) (fun c m y _ hc => open3 hc) h
  refine ⟨us, ?_, hm⟩
  have : cs.map (toAVs w.heap.size) = us.map fun n => [I n] := map_of_get (by simp [hl]) fun i x z h1 h2 => by
    rw [List.getElem?_map, Option.map_eq_some_iff] at h2
    obtain ⟨b, h3, rfl⟩ := h2
    rw [hr i x b h1 h3]
    rfl
  unfold Ints
  rwa [this] at hR
theorem arg62 {H : Heap} (hs : Snap w H) {v : Value} {d : DataW H0} {p : List MemPlace} (hv : ∃ cs, v = .agg cs ∧ cs.size = Try.prog.cellsOf 62) (h : DataW.Trod enc Try.prog w base sp hd 62 v d p) :
    ∃ r : Rul, argAV w.heap.size v = .agg r.c := by
  obtain ⟨cs, rfl, hsz⟩ := hv
  obtain ⟨fuel, h⟩ := h
  obtain ⟨xs, k, _, _, hl, hx, hf⟩ := DataW.trod_struct Try.underlying62 h
  rw [cells62] at hsz
  obtain ⟨cl⟩ := cs
  match cl, hsz with
  | [c0, c1, c2], _ =>
    have h0 : DataW.trod enc Try.prog w base sp hd k 3 (([c0, c1, c2].drop 0).take (Try.prog.cellsOf 3)) = xs[0]? := hf 0 _ rfl
    rw [cells3] at h0
    have h1 : DataW.trod enc Try.prog w base sp hd k 3 (([c0, c1, c2].drop 1).take (Try.prog.cellsOf 3)) = xs[1]? := hf 1 _ rfl
    rw [cells3] at h1
    have h2 : DataW.trod enc Try.prog w base sp hd k 3 (([c0, c1, c2].drop 2).take (Try.prog.cellsOf 3)) = xs[2]? := hf 2 _ rfl
    rw [cells3] at h2
    match xs, hx with
    | [x0, x1, x2], _ =>
      obtain ⟨a0, e0⟩ := open3 h0
      obtain ⟨a1, e1⟩ := open3 h1
      obtain ⟨a2, e2⟩ := open3 h2
      simp at e0 e1 e2
      refine ⟨⟨a0, a1, a2⟩, ?_⟩
      rw [e0, e1, e2]
      rfl
theorem arg60 {H : Heap} (hs : Snap w H) {v : Value} {d : DataW H0} {p : List MemPlace} (hv : ∃ cs, v = .agg cs ∧ cs.size = Try.prog.cellsOf 60) (h : DataW.Trod enc Try.prog w base sp hd 60 v d p) :
    ∃ (sv : AV) (s : Sea), argAV w.heap.size v = .agg [sv, .bool s.fell] ∧ Ints H sv s.sp := by
  obtain ⟨cs, rfl, hsz⟩ := hv
  obtain ⟨fuel, h⟩ := h
  obtain ⟨xs, k, _, _, hl, hx, hf⟩ := DataW.trod_struct Try.underlying60 h
  rw [cells60] at hsz
  obtain ⟨cl⟩ := cs
  match cl, hsz with
  | [c0, c1], _ =>
    have h0 : DataW.trod enc Try.prog w base sp hd k 22 (([c0, c1].drop 0).take (Try.prog.cellsOf 22)) = xs[0]? := hf 0 _ rfl
    rw [cells22] at h0
    have h1 : DataW.trod enc Try.prog w base sp hd k 4 (([c0, c1].drop 1).take (Try.prog.cellsOf 4)) = xs[1]? := hf 1 _ rfl
    rw [cells4] at h1
    match xs, hx with
    | [x0, x1], _ =>
      obtain ⟨us, hU, _⟩ := open22 hs (v := c0) h0
      obtain ⟨a1, e1⟩ := open4 h1
      simp at e1
      refine ⟨_, ⟨us, a1⟩, ?_, hU⟩
      rw [e1]
      rfl
end
end
end Go.Ev

set_option maxRecDepth 100000
set_option linter.unusedSimpArgs false
set_option linter.unusedVariables false
namespace Go.Ev
open Go Go.Proofs
noncomputable section
/-- The first hour from one on whose speed is below a number. -/
def runTo (sp : List Int) (back : Int) (to : Nat) : Nat := to + ((sp.drop to).takeWhile fun x => decide (back ≤ x)).length
theorem runTo_end {sp : List Int} {back : Int} {to : Nat} (h : sp.length ≤ to) : runTo sp back to = to := by
  unfold runTo
  rw [List.drop_eq_nil_of_le h]
  rfl
theorem runTo_stop {sp : List Int} {back : Int} {to : Nat} (h : to < sp.length) (h2 : sp[to] < back) : runTo sp back to = to := by
  unfold runTo
  rw [List.drop_eq_getElem_cons h, List.takeWhile_cons, if_neg (by rw [decide_eq_true_eq]; omega)]
  rfl
theorem runTo_step {sp : List Int} {back : Int} {to : Nat} (h : to < sp.length) (h2 : back ≤ sp[to]) : runTo sp back to = runTo sp back (to + 1) := by
  unfold runTo
  rw [List.drop_eq_getElem_cons h, List.takeWhile_cons, if_pos (by rw [decide_eq_true_eq]; omega), List.length_cons]
  omega
theorem runTo_le {sp : List Int} {back : Int} {to : Nat} (h : to ≤ sp.length) : to ≤ runTo sp back to ∧ runTo sp back to ≤ sp.length := by
  unfold runTo
  have h1 : ((sp.drop to).takeWhile fun x => decide (back ≤ x)).length ≤ (sp.drop to).length := (List.takeWhile_sublist _).length_le
  rw [List.length_drop] at h1
  omega
/-- The hour behind an alarm that begins in one. -/
def endOf (sp : List Int) (r : Rul) (h : Nat) : Nat := runTo sp r.back (min (h + r.hold.toNat) sp.length)
theorem endOf_le {sp : List Int} {r : Rul} {h : Nat} (hh : h < sp.length) (hr : 1 ≤ r.hold) : h < endOf sp r h ∧ endOf sp r h ≤ sp.length := by
  have := runTo_le (sp := sp) (back := r.back) (to := min (h + r.hold.toNat) sp.length) (by omega)
  unfold endOf
  omega
def spellsW (sp : List Int) (r : Rul) : Nat → Nat → List (Nat × Nat)
  | 0, _ => []
  | n + 1, h => if hh : h < sp.length then (if sp[h] < r.start then spellsW sp r n (h + 1) else (h, endOf sp r h) :: spellsW sp r n (endOf sp r h)) else []
theorem spellsW_same {sp : List Int} {r : Rul} (hr : 1 ≤ r.hold) : ∀ (n m h : Nat), sp.length - h ≤ n → sp.length - h ≤ m → spellsW sp r n h = spellsW sp r m h := by
  intro n
  induction n with
  | zero =>
    intro m h hn hm
    cases m with
    | zero => rfl
    | succ m => rw [spellsW, spellsW, dif_neg (by omega)]
  | succ n ih =>
    intro m h hn hm
    cases m with
    | zero => rw [spellsW, spellsW, dif_neg (by omega)]
    | succ m =>
      rw [spellsW, spellsW]
      by_cases hh : h < sp.length
      · have he := endOf_le hh hr
        rw [dif_pos hh, dif_pos hh, ih m (h + 1) (by omega) (by omega), ih m (endOf sp r h) (by omega) (by omega)]
      · rw [dif_neg hh, dif_neg hh]
theorem spellsW_more {sp : List Int} {r : Rul} (hr : 1 ≤ r.hold) (n h : Nat) (hn : sp.length - h ≤ n) : spellsW sp r n h = spellsW sp r (sp.length - h) h := spellsW_same hr n _ h hn (Nat.le_refl _)
/-- The alarms from an hour on. -/
def restOf (sp : List Int) (r : Rul) (h : Nat) : List (Nat × Nat) := spellsW sp r (sp.length - h) h
theorem restOf_end {sp : List Int} {r : Rul} {h : Nat} (hh : sp.length ≤ h) : restOf sp r h = [] := by
  unfold restOf
  rw [show sp.length - h = 0 by omega]; rfl
theorem restOf_skip {sp : List Int} {r : Rul} {h : Nat} (hh : h < sp.length) (hs : sp[h] < r.start) : restOf sp r h = restOf sp r (h + 1) := by
  unfold restOf
  obtain ⟨k, hk⟩ : ∃ k, sp.length - h = k + 1 := ⟨sp.length - h - 1, by omega⟩
  rw [hk, spellsW, dif_pos hh, if_pos hs, show sp.length - (h + 1) = k by omega]
theorem restOf_take {sp : List Int} {r : Rul} {h : Nat} (hr : 1 ≤ r.hold) (hh : h < sp.length) (hs : ¬ sp[h] < r.start) : restOf sp r h = (h, endOf sp r h) :: restOf sp r (endOf sp r h) := by
  have he := endOf_le hh hr
  unfold restOf
  obtain ⟨k, hk⟩ : ∃ k, sp.length - h = k + 1 := ⟨sp.length - h - 1, by omega⟩
  rw [hk, spellsW, dif_pos hh, if_neg hs, spellsW_more hr k _ (by omega)]
def spellsOf (sp : List Int) (r : Rul) : List (Nat × Nat) := restOf sp r 0
theorem restOf_len {sp : List Int} {r : Rul} (hr : 1 ≤ r.hold) : ∀ (n h : Nat), sp.length - h ≤ n → (restOf sp r h).length ≤ sp.length - h := by
  intro n
  induction n with
  | zero => intro h hn; rw [restOf_end (by omega)]; simp
  | succ n ih =>
    intro h hn
    by_cases hh : h < sp.length
    · by_cases hs : sp[h] < r.start
      · rw [restOf_skip hh hs]; have := ih (h + 1) (by omega); omega
      · have he := endOf_le hh hr
        rw [restOf_take hr hh hs, List.length_cons]; have := ih (endOf sp r h) (by omega); omega
    · rw [restOf_end (by omega)]; simp
theorem Rul.ok_facts {r : Rul} (h : r.ok = true) : (0 ≤ r.start ∧ r.start ≤ 1000) ∧ (0 ≤ r.back ∧ r.back ≤ r.start) ∧ 1 ≤ r.hold ∧ r.hold ≤ 60 := by
  unfold Rul.ok inB at h
  simp only [Bool.and_eq_true, decide_eq_true_eq] at h
  omega
def spc (p : Nat × Nat) : List AV := [I (p.1 : Int), I (p.2 : Int)]
def spCells (l : List (Nat × Nat)) : List AV := (l.map spc).flatten
theorem spCells_len (l : List (Nat × Nat)) : (spCells l).length = l.length * 2 := by
  unfold spCells
  rw [flatten_len _ 2 (fun x hx => by obtain ⟨y, _, rfl⟩ := List.mem_map.1 hx; rfl), List.length_map]
theorem spCells_snoc (l : List (Nat × Nat)) (p : Nat × Nat) : spCells (l ++ [p]) = spCells l ++ spc p := by simp [spCells]
theorem Mine.spells {k0 : Nat} {G : Heap} {v : AV} {e : TypeId} {l : List (Nat × Nat)} (h : Mine k0 G v e 2 (spCells l)) : Row G v 2 (l.map spc) := Mine.row (e := e) h (fun x hx => by obtain ⟨y, _, rfl⟩ := List.mem_map.1 hx; rfl) (by omega)
theorem c98 (m : Nat) (sv : AV) (sp : List Int) (fell : Bool) (r : Rul) (h : Nat) (H : Heap) (hU : Ints H sv sp) (hl : sp.length ≤ 1000) (hr : r.ok = true) (hh : h ≤ sp.length) : RR (m + 1) (.fn 98 [.agg [sv, .bool fell], .agg r.c, I (h : Int)]) H = some (I (endOf sp r h : Int), H) := by
  refine (R_fn _ _ _ _ _).trans ?_
  refine fn_ok Try.func98 rfl rfl (by kernel_rfl) (by kernel_rfl) ?_
  obtain ⟨W, hW⟩ : ∃ W : Heap, W = ⟨H.t, H.next, H.next⟩ := ⟨_, rfl⟩
  have hg : ∀ n, W.get n = H.get n := fun n => by rw [hW]; rfl
  have hN : W.next = H.next := by rw [hW]
  have hE : ∀ G, Grow W G → Ext H G := fun G g => ⟨by rw [← hN]; exact g.next, fun n k => by rw [g.get n (by rw [hN]; exact k), hg]⟩
  have hG : Grow W W := Grow.refl (by rw [hW]; exact Nat.le_refl _)
  rw [← hW]
  have hlen := hU.len
  have pb : sv.plain = true := lpl hlen
  have hrf := Rul.ok_facts hr
  refine Ok.seq ?_
  refine Ok.region ?_
  refine OkO.box rfl rfl ?_
  refine OkO.box rfl rfl ?_
  refine OkO.assign rfl rfl ?_
  refine OkO.nil ?_
  refine Ok.seq ?_
  refine Ok.region ?_
  refine OkO.move rfl rfl ?_
  refine OkO.fieldAddr (o := 2) rfl (by kernel_rfl) rfl ?_
  refine OkO.load rfl rfl (lda (n := 1) (by kernel_rfl) (by first | assumption | (simp (disch := first | omega | (simp only [hNw, hPt]; omega)) only [gn0, gn1, gn2, gn3, gn4, gn5, gp0, gno, gpo] <;> first | rfl | assumption | exact gp0 _ _ _ | exact gn0 _ _)) (by first | rfl | assumption)) ?_
  refine OkO.bin rfl rfl rfl (bin_add (by omega) (by omega)) ?_
  refine OkO.fieldAddr (o := 0) rfl (by kernel_rfl) rfl ?_
  refine OkO.load rfl rfl (lda (n := 1) (by kernel_rfl) (by first | assumption | (simp (disch := first | omega | (simp only [hNw, hPt]; omega)) only [gn0, gn1, gn2, gn3, gn4, gn5, gp0, gno, gpo] <;> first | rfl | assumption | exact gp0 _ _ _ | exact gn0 _ _)) (by first | rfl | assumption)) ?_
  refine OkO.builtin rfl rfl rfl (bln (by kernel_rfl) (by first | assumption | rfl)) ?_
  refine OkO.builtin rfl rfl rfl (builtin_min2 _ _) ?_
  refine OkO.assign rfl rfl ?_
  refine OkO.nil ?_
  refine Ok.seq ?_
  refine Ok.block ?_
  have e0 : min ((h : Int) + r.hold) (sp.length : Int) = ((min (h + r.hold.toNat) sp.length : Nat) : Int) := by omega
  rw [e0]
  refine Ok.loop (fun n s => ∃ to : Nat, n = sp.length - to ∧ to ≤ sp.length ∧ runTo sp r.back to = endOf sp r h ∧ Has 6 [(3, .ptr W.next 0), (4, .ptr (W.next + 1) 0), (7, I (to : Int))] s.T ∧ s.D = [] ∧ Grow W s.H ∧ s.H = (W.new (.cells [sv, .bool fell] 66)).new (.cells r.c 68)) (sp.length - min (h + r.hold.toNat) sp.length) (by unfold loopFuel; omega)
    ⟨min (h + r.hold.toNat) sp.length, rfl, by omega, rfl, Has.of (by kernel_rfl), rfl, (by (try dsimp only); repeat (first | exact hG | apply Grow.new | (refine Grow.put ?_ _ (by first | omega | (simp only [hNw, hPt]; omega))))), rfl⟩ ?_
  rintro n ⟨T, D, G⟩ ⟨to, hn, hto, hrun, ⟨f, hT⟩, hD, hg, hGG⟩
  dsimp only at *
  subst hT hD
  have hgn := hg.next
  subst hGG
  refine Ok.seq ?_
  refine Ok.seq ?_
  refine Ok.drawn [(0, true, []), (1, true, []), (2, true, []), (3, true, []), (4, true, []), (5, true, []), (6, true, []), (7, true, []), (8, true, []), (9, true, []), (10, true, []), (11, true, []), (12, true, []), (13, true, []), (14, true, [])] (by kernel_rfl) ?_
  refine OkP.step ?_
  refine OkO.move rfl rfl ?_
  refine OkO.nil ⟨rfl, ?_⟩
  refine OkP.step ?_
  refine OkO.fieldAddr (o := 0) rfl (by kernel_rfl) rfl ?_
  refine OkO.nil ⟨rfl, ?_⟩
  refine OkP.step ?_
  refine OkO.load rfl rfl (lda (n := 1) (by kernel_rfl) (by first | assumption | (simp (disch := first | omega | (simp only [hNw, hPt]; omega)) only [gn0, gn1, gn2, gn3, gn4, gn5, gp0, gno, gpo] <;> first | rfl | assumption | exact gp0 _ _ _ | exact gn0 _ _)) (by first | rfl | assumption)) ?_
  refine OkO.nil ⟨rfl, ?_⟩
  refine OkP.step ?_
  refine OkO.builtin rfl rfl rfl (bln (by kernel_rfl) (by first | assumption | rfl)) ?_
  refine OkO.nil ⟨rfl, ?_⟩
  refine OkP.step ?_
  refine OkO.bin rfl rfl rfl (bin_lss _ _) ?_
  refine OkO.nil ⟨rfl, ?_⟩
  refine OkP.step ?_
  refine OkO.move rfl rfl ?_
  refine OkO.nil ⟨rfl, ?_⟩
  refine OkP.split (d := 21) rfl (fun g1 => ?_) (fun g1 => ?_)
  · -- true g1
    have hlt : to < sp.length := by simpa using g1
    obtain ⟨b2, off2, cs2, k1, k2, k3, k4⟩ := (hU.ext (hE _ (by (try dsimp only); repeat (first | exact hg | exact hG | apply Grow.new | (refine Grow.put ?_ _ (by first | omega | (simp only [hNw, hPt]; omega))))))).at' to hlt
    refine OkP.step ?_
    refine OkO.fieldAddr (o := 0) rfl (by kernel_rfl) rfl ?_
    refine OkO.nil ⟨rfl, ?_⟩
    refine OkP.step ?_
    refine OkO.load rfl rfl (lda (n := 1) (by kernel_rfl) (by first | assumption | (simp (disch := first | omega | (simp only [hNw, hPt]; omega)) only [gn0, gn1, gn2, gn3, gn4, gn5, gp0, gno, gpo] <;> first | rfl | assumption | exact gp0 _ _ _ | exact gn0 _ _)) (by first | rfl | assumption)) ?_
    refine OkO.nil ⟨rfl, ?_⟩
    refine OkP.step ?_
    refine OkO.move rfl rfl ?_
    refine OkO.nil ⟨rfl, ?_⟩
    refine OkP.step ?_
    refine OkO.index (sz := 1) rfl rfl rfl (by kernel_rfl) (by first | assumption | rfl | exact slAt_slice (by omega) | exact slAt_opn (by omega)) ?_ -- index ('Go.Operand.tmp', 23) ('Go.Operand.tmp', 24)
    refine OkO.nil ⟨rfl, ?_⟩
    refine OkP.step ?_
    refine OkO.load rfl rfl (lda (n := 1) (by kernel_rfl) (by first | assumption | (simp (disch := first | omega | (simp only [hNw, hPt]; omega)) only [gn0, gn1, gn2, gn3, gn4, gn5, gp0, gno, gpo] <;> first | rfl | assumption | exact gp0 _ _ _ | exact gn0 _ _)) (by first | rfl | assumption)) ?_
    refine OkO.nil ⟨rfl, ?_⟩
    refine OkP.step ?_
    refine OkO.fieldAddr (o := 1) rfl (by kernel_rfl) rfl ?_
    refine OkO.nil ⟨rfl, ?_⟩
    refine OkP.step ?_
    refine OkO.load rfl rfl (lda (n := 1) (by kernel_rfl) (by first | assumption | (simp (disch := first | omega | (simp only [hNw, hPt]; omega)) only [gn0, gn1, gn2, gn3, gn4, gn5, gp0, gno, gpo] <;> first | rfl | assumption | exact gp0 _ _ _ | exact gn0 _ _)) (by first | rfl | assumption)) ?_
    refine OkO.nil ⟨rfl, ?_⟩
    refine OkP.step ?_
    refine OkO.bin rfl rfl rfl (bin_geq _ _) ?_
    refine OkO.nil ⟨rfl, ?_⟩
    refine OkP.step ?_
    refine OkO.pick (b := true) rfl rfl (fun _ => rfl) nofun ?_
    refine OkO.nil ⟨rfl, ?_⟩
    refine OkP.nil ?_
    refine Ok.cond rfl (fun h2 => ?_) (fun h2 => ?_)
    · -- yes h2
      refine Ok.skip ?_
      refine Ok.block ?_
      refine Ok.region ?_
      refine OkO.move rfl rfl ?_
      refine OkO.bin rfl rfl rfl (bin_add (by omega) (by omega)) ?_
      refine OkO.assign rfl rfl ?_
      refine OkO.nil ?_
      refine ⟨sp.length - (to + 1), by omega, to + 1, rfl, by omega, ?_, Has.of (by kernel_rfl), rfl, hg, rfl⟩
      rw [← hrun, runTo_step hlt (by simpa using h2)]
    · -- no h2
      have hb9 : sp[to] < r.back := by simpa using h2
      refine Ok.exit ?_
      refine Ok.seq ?_
      refine Ok.region ?_
      refine OkO.move rfl rfl ?_
      refine OkO.assign rfl rfl ?_
      refine OkO.nil ?_
      refine Ok.ret ⟨.inr rfl, ?_⟩
      exact back_flat rfl (congrArg (fun z : Nat => I (z : Int)) (by rw [← hrun, runTo_stop hlt hb9])) rfl (by rw [← hW]; exact (by (try dsimp only); repeat (first | exact hg | exact hG | apply Grow.new | (refine Grow.put ?_ _ (by first | omega | (simp only [hNw, hPt]; omega))))))
  · -- false g1
    have hge : to = sp.length := by simp at g1; omega
    refine OkP.step ?_
    refine OkO.skip rfl ?_
    refine OkO.nil ⟨rfl, ?_⟩
    refine OkP.step ?_
    refine OkO.skip rfl ?_
    refine OkO.nil ⟨rfl, ?_⟩
    refine OkP.step ?_
    refine OkO.skip rfl ?_
    refine OkO.nil ⟨rfl, ?_⟩
    refine OkP.step ?_
    refine OkO.skip rfl ?_
    refine OkO.nil ⟨rfl, ?_⟩
    refine OkP.step ?_
    refine OkO.skip rfl ?_
    refine OkO.nil ⟨rfl, ?_⟩
    refine OkP.step ?_
    refine OkO.skip rfl ?_
    refine OkO.nil ⟨rfl, ?_⟩
    refine OkP.step ?_
    refine OkO.skip rfl ?_
    refine OkO.nil ⟨rfl, ?_⟩
    refine OkP.step ?_
    refine OkO.skip rfl ?_
    refine OkO.nil ⟨rfl, ?_⟩
    refine OkP.step ?_
    refine OkO.pick (b := false) rfl rfl nofun (fun _ => rfl) ?_
    refine OkO.nil ⟨rfl, ?_⟩
    refine OkP.nil ?_
    refine Ok.condF rfl ?_
    refine Ok.exit ?_
    refine Ok.seq ?_
    refine Ok.region ?_
    refine OkO.move rfl rfl ?_
    refine OkO.assign rfl rfl ?_
    refine OkO.nil ?_
    refine Ok.ret ⟨.inr rfl, ?_⟩
    exact back_flat rfl (congrArg (fun z : Nat => I (z : Int)) (by rw [← hrun, runTo_end (by omega)])) rfl (by rw [← hW]; exact (by (try dsimp only); repeat (first | exact hg | exact hG | apply Grow.new | (refine Grow.put ?_ _ (by first | omega | (simp only [hNw, hPt]; omega))))))
end
end Go.Ev

set_option maxRecDepth 100000
set_option linter.unusedSimpArgs false
set_option linter.unusedVariables false
namespace Go.Ev
open Go Go.Proofs
noncomputable section
theorem c76 (m : Nat) (sv : AV) (sp : List Int) (fell : Bool) (r : Rul) (H : Heap) (hU : Ints H sv sp) (hl : sp.length ≤ 1000) (hr : r.ok = true) : ∃ v H', RR (m + 2) (.fn 76 [.agg [sv, .bool fell], .agg r.c]) H = some (v, H') ∧ Ret H H' ∧ Mine H.next H' v 76 2 (spCells (spellsOf sp r)) := by
  show ∃ v H', evFn Try.prog (RR (m + 1)) 76 [.agg [sv, .bool fell], .agg r.c] H = some (v, H') ∧ Ret H H' ∧ Mine H.next H' v 76 2 (spCells (spellsOf sp r))
  refine fn_okE Try.func76 rfl rfl (by kernel_rfl) (by kernel_rfl) ?_
  obtain ⟨W, hW⟩ : ∃ W : Heap, W = ⟨H.t, H.next, H.next⟩ := ⟨_, rfl⟩
  have hg : ∀ n, W.get n = H.get n := fun n => by rw [hW]; rfl
  have hN : W.next = H.next := by rw [hW]
  have hE : ∀ G, Grow W G → Ext H G := fun G g => ⟨by rw [← hN]; exact g.next, fun n k => by rw [g.get n (by rw [hN]; exact k), hg]⟩
  have hG : Grow W W := Grow.refl (by rw [hW]; exact Nat.le_refl _)
  rw [← hW]
  have hlen := hU.len
  have pb : sv.plain = true := lpl hlen
  have hrf := Rul.ok_facts hr
  refine Ok.seq ?_
  refine Ok.region ?_
  refine OkO.box rfl rfl ?_
  refine OkO.box rfl rfl ?_
  refine OkO.assign rfl rfl ?_
  refine OkO.nil ?_
  refine Ok.seq ?_
  refine Ok.region ?_
  refine OkO.assign rfl rfl ?_
  refine OkO.nil ?_
  refine Ok.seq ?_
  refine Ok.seq ?_
  refine Ok.region ?_
  refine OkO.assign rfl rfl ?_
  refine OkO.nil ?_
  refine Ok.block ?_
  refine Ok.loop (fun n s => ∃ (h : Nat) (done : List (Nat × Nat)) (ov : AV), n = sp.length - h ∧ h ≤ sp.length ∧ done ++ restOf sp r h = spellsOf sp r ∧ Mine (W.next + 2) s.H ov 76 2 (spCells done) ∧ done.length ≤ h ∧ Has 6 [(2, .ptr W.next 0), (3, .ptr (W.next + 1) 0), (5, ov), (6, I (h : Int))] s.T ∧ s.D = [] ∧ Grow W s.H ∧ s.H.get W.next = some (.cells [sv, .bool fell] 66) ∧ s.H.get (W.next + 1) = some (.cells r.c 68) ∧ W.next + 2 ≤ s.H.next) (sp.length) (by unfold loopFuel; omega)
    ⟨0, [], .nils, rfl, Nat.zero_le _, rfl, Mine.nil _ _ _ _, Nat.le_refl _, Has.of (by kernel_rfl), rfl, (by (try dsimp only); repeat (first | exact hG | apply Grow.new | (refine Grow.put ?_ _ (by first | omega | (simp only [hNw, hPt]; omega))))), (by first | assumption | (simp (disch := first | omega | (simp only [hNw, hPt]; omega)) only [gn0, gn1, gn2, gn3, gn4, gn5, gp0, gno, gpo] <;> first | rfl | assumption | exact gp0 _ _ _ | exact gn0 _ _)), (by first | assumption | (simp (disch := first | omega | (simp only [hNw, hPt]; omega)) only [gn0, gn1, gn2, gn3, gn4, gn5, gp0, gno, gpo] <;> first | rfl | assumption | exact gp0 _ _ _ | exact gn0 _ _)), by simp⟩ ?_
  rintro n ⟨T, D, G⟩ ⟨h, done, ov, hn, hh, hdone, hm, hdl, ⟨f, hT⟩, hD, hg, hb0, hb1, hn2p⟩
  dsimp only at *
  subst hT hD
  have hgn := hg.next
  have eb0 : (G.get W.next).bind AObj.cs = some [sv, .bool fell] := by rw [hb0]; rfl
  have eb1 : (G.get (W.next + 1)).bind AObj.cs = some r.c := by rw [hb1]; rfl
  refine Ok.seq ?_
  refine Ok.seq ?_
  refine Ok.region ?_
  refine OkO.move rfl rfl ?_
  refine OkO.fieldAddr (o := 0) rfl (by kernel_rfl) rfl ?_
  refine OkO.load rfl rfl (lda (n := 1) (by kernel_rfl) (by first | assumption | (simp (disch := first | omega | (simp only [hNw, hPt]; omega)) only [gn0, gn1, gn2, gn3, gn4, gn5, gp0, gno, gpo] <;> first | rfl | assumption | exact gp0 _ _ _ | exact gn0 _ _)) (by first | rfl | assumption)) ?_
  refine OkO.builtin rfl rfl rfl (bln (by kernel_rfl) (by first | assumption | rfl)) ?_
  refine OkO.bin rfl rfl rfl (bin_lss _ _) ?_
  refine OkO.nil ?_
  refine Ok.cond rfl (fun h1 => ?_) (fun h1 => ?_)
  · -- yes h1
    have hlt : h < sp.length := by simpa using h1
    obtain ⟨b2, off2, cs2, k1, k2, k3, k4⟩ := (hU.ext (hE _ (by (try dsimp only); repeat (first | exact hg | exact hG | apply Grow.new | (refine Grow.put ?_ _ (by first | omega | (simp only [hNw, hPt]; omega))))))).at' h hlt
    have he := endOf_le hlt hrf.2.2.1
    refine Ok.skip ?_
    refine Ok.block ?_
    refine Ok.seq ?_
    refine Ok.seq ?_
    refine Ok.drawn [(0, true, []), (1, true, []), (2, true, []), (3, true, []), (4, true, []), (5, true, []), (6, true, []), (7, true, [])] (by kernel_rfl) ?_
    refine OkP.step ?_
    refine OkO.fieldAddr (o := 0) rfl (by kernel_rfl) rfl ?_
    refine OkO.nil ⟨rfl, ?_⟩
    refine OkP.step ?_
    refine OkO.load rfl rfl (lda (n := 1) (by kernel_rfl) (by first | assumption | (simp (disch := first | omega | (simp only [hNw, hPt]; omega)) only [gn0, gn1, gn2, gn3, gn4, gn5, gp0, gno, gpo] <;> first | rfl | assumption | exact gp0 _ _ _ | exact gn0 _ _)) (by first | rfl | assumption)) ?_
    refine OkO.nil ⟨rfl, ?_⟩
    refine OkP.step ?_
    refine OkO.move rfl rfl ?_
    refine OkO.nil ⟨rfl, ?_⟩
    refine OkP.step ?_
    refine OkO.index (sz := 1) rfl rfl rfl (by kernel_rfl) (by first | assumption | rfl | exact slAt_slice (by omega) | exact slAt_opn (by omega)) ?_ -- index ('Go.Operand.tmp', 14) ('Go.Operand.tmp', 15)
    refine OkO.nil ⟨rfl, ?_⟩
    refine OkP.step ?_
    refine OkO.load rfl rfl (lda (n := 1) (by kernel_rfl) (by first | assumption | (simp (disch := first | omega | (simp only [hNw, hPt]; omega)) only [gn0, gn1, gn2, gn3, gn4, gn5, gp0, gno, gpo] <;> first | rfl | assumption | exact gp0 _ _ _ | exact gn0 _ _)) (by first | rfl | assumption)) ?_
    refine OkO.nil ⟨rfl, ?_⟩
    refine OkP.step ?_
    refine OkO.fieldAddr (o := 0) rfl (by kernel_rfl) rfl ?_
    refine OkO.nil ⟨rfl, ?_⟩
    refine OkP.step ?_
    refine OkO.load rfl rfl (lda (n := 1) (by kernel_rfl) (by first | assumption | (simp (disch := first | omega | (simp only [hNw, hPt]; omega)) only [gn0, gn1, gn2, gn3, gn4, gn5, gp0, gno, gpo] <;> first | rfl | assumption | exact gp0 _ _ _ | exact gn0 _ _)) (by first | rfl | assumption)) ?_
    refine OkO.nil ⟨rfl, ?_⟩
    refine OkP.step ?_
    refine OkO.bin rfl rfl rfl (bin_lss _ _) ?_
    refine OkO.nil ⟨rfl, ?_⟩
    refine OkP.nil ?_
    refine Ok.cond rfl (fun h2 => ?_) (fun h2 => ?_)
    · -- yes h2
      have hs : sp[h] < r.start := by simpa using h2
      refine Ok.seq ?_
      refine Ok.region ?_
      refine OkO.move rfl rfl ?_
      refine OkO.bin rfl rfl rfl (bin_add (by omega) (by omega)) ?_
      refine OkO.assign rfl rfl ?_
      refine OkO.nil ?_
      refine Ok.exit ?_
      refine ⟨sp.length - (h + 1), by omega, h + 1, done, ov, rfl, by omega, by rw [← restOf_skip hlt hs]; exact hdone, hm, by omega, Has.of (by kernel_rfl), rfl, hg, hb0, hb1, hn2p⟩
    · -- no h2
      have hs : ¬ sp[h] < r.start := by simpa using h2
      refine Ok.skip ?_
      refine Ok.seq ?_
      refine Ok.region ?_
      refine OkO.move rfl rfl ?_
      refine OkO.load rfl rfl (ldg (n := 2) (by kernel_rfl) (by first | assumption | (simp (disch := first | omega | (simp only [hNw, hPt]; omega)) only [gn0, gn1, gn2, gn3, gn4, gn5, gp0, gno, gpo] <;> first | rfl | assumption | exact gp0 _ _ _ | exact gn0 _ _)) (by first | rfl | assumption)) ?_
      refine OkO.load rfl rfl (ldg (n := 3) (by kernel_rfl) (by first | assumption | (simp (disch := first | omega | (simp only [hNw, hPt]; omega)) only [gn0, gn1, gn2, gn3, gn4, gn5, gp0, gno, gpo] <;> first | rfl | assumption | exact gp0 _ _ _ | exact gn0 _ _)) (by first | rfl | assumption)) ?_
      refine OkO.move rfl rfl ?_
      refine OkO.callV rfl rfl rfl rfl rfl (c98 m sv sp fell r h _ (hU.ext (hE _ (by (try dsimp only); repeat (first | exact hg | exact hG | apply Grow.new | (refine Grow.put ?_ _ (by first | omega | (simp only [hNw, hPt]; omega))))))) hl hr hh) ?_ -- "(sackung/alarm.Season).end"
      refine OkO.build (z := [.int .i64 0, .int .i64 0]) (pl := [(0, 1), (1, 1)]) rfl (by kernel_rfl) rfl rfl ?_
      refine OkO.alloc (z := [.int .i64 0, .int .i64 0]) rfl (by kernel_rfl) ?_
      refine OkO.store rfl rfl rfl (stc (n := 2) (ag := true) (by kernel_rfl) (by first | assumption | (simp (disch := first | omega | (simp only [hNw, hPt]; omega)) only [gn0, gn1, gn2, gn3, gn4, gn5, gp0, gno, gpo] <;> first | rfl | assumption | exact gp0 _ _ _ | exact gn0 _ _)) rfl (by first | rfl | assumption) (by first | rfl | exact spl_set _ _ _ (by first | assumption | omega | (simp; omega)))) ?_
      refine OkO.nil ?_
      refine Ok.seq ?_
      refine Ok.region ?_
      refine OkO.move rfl rfl ?_
      refine OkO.load rfl rfl (ldg (n := 2) (by kernel_rfl) (by first | assumption | (simp (disch := first | omega | (simp only [hNw, hPt]; omega)) only [gn0, gn1, gn2, gn3, gn4, gn5, gp0, gno, gpo] <;> first | rfl | assumption | exact gp0 _ _ _ | exact gn0 _ _)) (by first | rfl | assumption)) ?_
      refine OkO.buildSlice (el := 76) (sz := 2) (z := [.int .i64 0, .int .i64 0]) rfl (by kernel_rfl) (by decide) rfl rfl ?_
      refine OkO.builtinE rfl rfl rfl (Mine.app2 (W := W) (k0 := W.next + 2) (t := 63) (u := 63) (sz := 2) (by_ := 16) (e := 76) (n := 1) (new := spc (h, endOf sp r h)) (hm.to (by (try dsimp only); repeat (first | exact Ext.refl _ | assumption | apply Ext.new | (refine Ext.put ?_ _ (by first | omega | (simp only [hNw, hPt]; omega)))))) (by (try dsimp only); repeat (first | exact hg | exact hG | apply Grow.new | (refine Grow.put ?_ _ (by first | omega | (simp only [hNw, hPt]; omega))))) (by omega) (by simp only [hNw, hPt]; omega) (by kernel_rfl) (by kernel_rfl) (elems_new (n := 1) (sz := 2) rfl) rfl rfl (by rw [spCells_len]; omega) (by omega) (by omega) rfl) ?_
      rintro v2 G2 ⟨r1, r2, r3, r4, r5, _⟩
      have gx : (G2.get G.next).bind AObj.cs = some (spc (h, endOf sp r h)) := by rw [r4 G.next (by simp only [hNw, hPt]; omega) (fun m9 e9 => by have := hm.lt e9; omega)]; first | assumption | (simp (disch := first | omega | (simp only [hNw, hPt]; omega)) only [gn0, gn1, gn2, gn3, gn4, gn5, gp0, gno, gpo] <;> first | rfl | assumption | exact gp0 _ _ _ | exact gn0 _ _)
      refine OkO.assign rfl rfl ?_
      refine OkO.nil ?_
      refine Ok.region ?_
      refine OkO.fieldAddr (o := 1) rfl (by kernel_rfl) rfl ?_
      refine OkO.load rfl rfl (lda (n := 1) (by kernel_rfl) (by first | assumption | (simp (disch := first | omega | (simp only [hNw, hPt]; omega)) only [gn0, gn1, gn2, gn3, gn4, gn5, gp0, gno, gpo] <;> first | rfl | assumption | exact gp0 _ _ _ | exact gn0 _ _)) (by first | rfl | assumption)) ?_
      refine OkO.assign rfl rfl ?_
      refine OkO.nil ?_
      refine ⟨sp.length - endOf sp r h, by omega, endOf sp r h, done ++ [(h, endOf sp r h)], _, rfl, he.2, by rw [List.append_assoc, List.singleton_append, ← restOf_take hrf.2.2.1 hlt hs]; exact hdone, by rw [spCells_snoc]; exact r1, by simp; omega, Has.of (by kernel_rfl), rfl, r2, ?_, ?_, by (show W.next + 2 ≤ G2.next; simp only [hNw, hPt] at r5; omega)⟩
      · rw [r4 _ (by simp only [hNw, hPt]; omega) (hm.far (by omega))]; first | assumption | (simp (disch := first | omega | (simp only [hNw, hPt]; omega)) only [gn0, gn1, gn2, gn3, gn4, gn5, gp0, gno, gpo] <;> first | rfl | assumption | exact gp0 _ _ _ | exact gn0 _ _)
      · rw [r4 _ (by simp only [hNw, hPt]; omega) (hm.far (by omega))]; first | assumption | (simp (disch := first | omega | (simp only [hNw, hPt]; omega)) only [gn0, gn1, gn2, gn3, gn4, gn5, gp0, gno, gpo] <;> first | rfl | assumption | exact gp0 _ _ _ | exact gn0 _ _)
  · -- no h1
    have hge : h = sp.length := by simp at h1; omega
    rw [restOf_end (by omega), List.append_nil] at hdone
    refine Ok.exit ?_
    refine Ok.seq ?_
    refine Ok.region ?_
    refine OkO.move rfl rfl ?_
    refine OkO.assign rfl rfl ?_
    refine OkO.nil ?_
    refine Ok.ret ⟨.inr rfl, ?_⟩
    refine back_newA (resV_tmp rfl resV_nil) rfl (by rw [← hW]; exact hg) (fun H9 p1 p2 => ⟨p1, by rw [← hdone]; exact (hm.low (by omega)).backT p2 id⟩)
end
end Go.Ev

set_option maxRecDepth 100000
set_option linter.unusedSimpArgs false
set_option linter.unusedVariables false
namespace Go.Ev
open Go Go.Proofs
noncomputable section
theorem flat_tup2 {a c : AV} (h : (AV.tup [a, c]).flat = true) : a.flat = true := by
  have h1 : AV.flats [a, c] = true := h
  unfold AV.flats at h1
  cases ha : a.flat with
  | false => rw [ha] at h1; cases h1
  | true => rfl
theorem c37K (m : Nat) (x : AV) (s : Sea) (r : Rul) (H : Heap) (hU : Ints H x s.sp) (hat : x.atom = true) (hl : s.sp.length ≤ 100000) (he : seasErr [s] = 0) (hr : r.ok = true) : ∃ v H', RR (m + 7) (.fn 37 [.agg [x, .bool s.fell], .agg r.c]) H = some (v, H') ∧ ∃ y, v = .tup [y, I 0] ∧ Ret H H' ∧ Mine H.next H' y 76 2 (spCells (spellsOf s.sp r)) := by
  show ∃ v H', evFn Try.prog (RR (m + 6)) 37 [.agg [x, .bool s.fell], .agg r.c] H = some (v, H') ∧ ∃ y, v = .tup [y, I 0] ∧ Ret H H' ∧ Mine H.next H' y 76 2 (spCells (spellsOf s.sp r))
  refine fn_okE Try.func37 rfl rfl (by kernel_rfl) (by kernel_rfl) ?_
  obtain ⟨W, hW⟩ : ∃ W : Heap, W = ⟨H.t, H.next, H.next⟩ := ⟨_, rfl⟩
  have hg : ∀ n, W.get n = H.get n := fun n => by rw [hW]; rfl
  have hN : W.next = H.next := by rw [hW]
  have hE : ∀ G, Grow W G → Ext H G := fun G g => ⟨by rw [← hN]; exact g.next, fun n k => by rw [g.get n (by rw [hN]; exact k), hg]⟩
  have hG : Grow W W := Grow.refl (by rw [hW]; exact Nat.le_refl _)
  rw [← hW]
  have hlen := hU.len
  have pb : x.plain = true := lpl hlen
  have ps : AV.plain (.agg [x, .bool s.fell]) = true := by simp [AV.plain, AV.plains, pb]
  refine Ok.seq ?_
  refine Ok.region ?_
  refine OkO.box rfl rfl ?_
  refine OkO.box rfl rfl ?_
  refine OkO.assign rfl rfl ?_
  refine OkO.assign rfl rfl ?_
  refine OkO.nil ?_
  refine Ok.seq ?_
  refine Ok.seq ?_
  refine Ok.region ?_
  refine OkO.load rfl rfl (ldg (n := 2) (by kernel_rfl) (by first | assumption | (simp (disch := first | omega | (simp only [hNw, hPt]; omega)) only [gn0, gn1, gn2, gn3, gn4, gn5, gp0, gno, gpo] <;> first | rfl | assumption | exact gp0 _ _ _ | exact gn0 _ _)) (by first | rfl | assumption)) ?_
  refine OkO.buildSlice (el := 66) (sz := 2) (z := [.nils, .bool false]) rfl (by kernel_rfl) (by decide) rfl rfl ?_
  refine OkO.callV rfl rfl rfl rfl rfl ((c74 (m + 0) _ [s] _ (SeasG.one (ty := 66) (by first | assumption | (simp (disch := first | omega | (simp only [hNw, hPt]; omega)) only [gn0, gn1, gn2, gn3, gn4, gn5, gp0, gno, gpo] <;> first | rfl | assumption | exact gp0 _ _ _ | exact gn0 _ _)) (by simp only [hNw]; omega) hat (hU.ext (hE _ (by (try dsimp only); repeat (first | exact hG | apply Grow.new | (refine Grow.put ?_ _ (by first | omega | (simp only [hNw, hPt]; omega)))))))) (by simp) (by simp; exact hl)).trans (by rw [he])) ?_ -- "sackung/alarm.checkSeasons"
  refine OkO.assign rfl rfl ?_
  refine OkO.nil ?_
  refine Ok.seq ?_
  refine Ok.region ?_
  refine OkO.move rfl rfl ?_
  refine OkO.bin rfl rfl rfl (bin_neq _ _) ?_
  refine OkO.nil ?_
  refine Ok.condF rfl ?_
  refine Ok.skip ?_
  refine Ok.seq ?_
  refine Ok.seq ?_
  refine Ok.region ?_
  refine OkO.load rfl rfl (ldg (n := 3) (by kernel_rfl) (by first | assumption | (simp (disch := first | omega | (simp only [hNw, hPt]; omega)) only [gn0, gn1, gn2, gn3, gn4, gn5, gp0, gno, gpo] <;> first | rfl | assumption | exact gp0 _ _ _ | exact gn0 _ _)) (by first | rfl | assumption)) ?_
  refine OkO.callV rfl rfl rfl rfl rfl ((c75 _ r _).trans (by rw [hr])) ?_ -- "(sackung/alarm.Rule).valid"
  refine OkO.un rfl rfl rfl ?_
  refine OkO.nil ?_
  refine Ok.cond rfl (fun h1 => ?_) (fun h1 => ?_)
  · -- yes h1
    exact absurd h1 (by simp)
  · -- no h1
    refine Ok.skip ?_
    refine Ok.seq ?_
    refine Ok.region ?_
    refine OkO.load rfl rfl (ldg (n := 2) (by kernel_rfl) (by first | assumption | (simp (disch := first | omega | (simp only [hNw, hPt]; omega)) only [gn0, gn1, gn2, gn3, gn4, gn5, gp0, gno, gpo] <;> first | rfl | assumption | exact gp0 _ _ _ | exact gn0 _ _)) (by first | rfl | assumption)) ?_
    refine OkO.load rfl rfl (ldg (n := 3) (by kernel_rfl) (by first | assumption | (simp (disch := first | omega | (simp only [hNw, hPt]; omega)) only [gn0, gn1, gn2, gn3, gn4, gn5, gp0, gno, gpo] <;> first | rfl | assumption | exact gp0 _ _ _ | exact gn0 _ _)) (by first | rfl | assumption)) ?_
    refine OkO.callE rfl rfl rfl rfl rfl (c76 (m + 4) x s.sp s.fell r _ (hU.ext (hE _ (by (try dsimp only); repeat (first | exact hG | apply Grow.new | (refine Grow.put ?_ _ (by first | omega | (simp only [hNw, hPt]; omega))))))) (by have := seasErr_facts he; have := this.2.1 s (by simp); omega) hr) ?_ -- "(sackung/alarm.Season).spells"
    rintro y G76 ⟨q76, m76⟩
    have g76 : Grow W G76 := Grow.ret (by (try dsimp only); repeat (first | exact hG | apply Grow.new | (refine Grow.put ?_ _ (by first | omega | (simp only [hNw, hPt]; omega))))) q76
    have n76 := q76.ext.next
    simp only [hNw] at n76 m76
    refine OkO.assign rfl rfl ?_
    refine OkO.assign rfl rfl ?_
    refine OkO.nil ?_
    refine Ok.ret ⟨.inr rfl, ?_⟩
    refine back_newA rfl rfl (by rw [← hW]; exact g76) (fun H9 p1 p2 => ⟨y, rfl, p1, ?_⟩)
    exact (m76.low (by omega)).backT p2 flat_tup2
end
end Go.Ev

set_option maxRecDepth 100000
set_option linter.unusedSimpArgs false
set_option linter.unusedVariables false
namespace Go.Ev
open Go Go.Proofs
noncomputable section
theorem Row.spell {G : Heap} {v : AV} {L : List (Nat × Nat)} (h : Row G v 2 (L.map spc)) {i : Nat} (hi : i < L.length) : ∃ b off cs, slAt v 2 i = some (b, off) ∧ (G.get b).bind AObj.cs = some cs ∧ cs[off]? = some (I (L[i].1 : Int)) ∧ cs[off + 1]? = some (I (L[i].2 : Int)) ∧ seg cs off 2 = some (spc L[i]) ∧ b < G.next := by
  obtain ⟨b, off, cs, i1, i2, i3, i4⟩ := h.at_ i (spc L[i]) (by rw [List.getElem?_map, List.getElem?_eq_getElem hi]; rfl)
  have k0 := seg_get i3 0 (by omega)
  have k1 := seg_get i3 1 (by omega)
  exact ⟨b, off, cs, i1, i2, by simpa [spc] using k0, by simpa [spc] using k1, i3, i4⟩
end
end Go.Ev

set_option maxRecDepth 100000
set_option linter.unusedSimpArgs false
set_option linter.unusedVariables false
namespace Go.Ev
open Go Go.Proofs
noncomputable section
theorem runTo_spec {sp : List Int} {back : Int} : ∀ {to : Nat}, to ≤ sp.length → to ≤ runTo sp back to ∧ (∀ x, sp[runTo sp back to]? = some x → x < back) ∧ ∀ (k : Nat) x, to ≤ k → k < runTo sp back to → sp[k]? = some x → back ≤ x := by
  have main : ∀ (n to : Nat), sp.length - to ≤ n → to ≤ sp.length → to ≤ runTo sp back to ∧ (∀ x, sp[runTo sp back to]? = some x → x < back) ∧ ∀ (k : Nat) x, to ≤ k → k < runTo sp back to → sp[k]? = some x → back ≤ x := by
    intro n
    induction n with
    | zero =>
      intro to hn ht
      rw [runTo_end (by omega)]
      exact ⟨Nat.le_refl _, fun x hx => (by rw [List.getElem?_eq_none (by omega)] at hx; cases hx), fun k x h1 h2 => by omega⟩
    | succ n ih =>
      intro to hn ht
      by_cases hl : to < sp.length
      · by_cases hb : back ≤ sp[to]
        · rw [runTo_step hl hb]
          obtain ⟨h1, h2, h3⟩ := ih (to + 1) (by omega) (by omega)
          refine ⟨by omega, h2, fun k x k1 k2 k3 => ?_⟩
          by_cases e : k = to
          · subst e; rw [List.getElem?_eq_getElem hl] at k3; cases k3; exact hb
          · exact h3 k x (by omega) k2 k3
        · rw [runTo_stop hl (by omega)]
          exact ⟨Nat.le_refl _, fun x hx => (by rw [List.getElem?_eq_getElem hl] at hx; cases hx; omega), fun k x h1 h2 => by omega⟩
      · rw [runTo_end (by omega)]
        exact ⟨Nat.le_refl _, fun x hx => (by rw [List.getElem?_eq_none (by omega)] at hx; cases hx), fun k x h1 h2 => by omega⟩
  exact fun {to} h => main (sp.length - to) to (Nat.le_refl _) h
theorem spells_facts {sp : List Int} {r : Rul} (hr : 1 ≤ r.hold) : ∀ (n h : Nat), sp.length - h ≤ n → ∀ p ∈ restOf sp r h, h ≤ p.1 ∧ p.1 < p.2 ∧ p.2 ≤ sp.length ∧ (∀ x, sp[p.1]? = some x → r.start ≤ x) ∧ (p.2 < sp.length → r.hold ≤ (p.2 : Int) - (p.1 : Int) ∧ ∀ x, sp[p.2]? = some x → x < r.back) ∧ ∀ (k : Nat) x, (p.1 : Int) + r.hold ≤ (k : Int) → k < p.2 → sp[k]? = some x → r.back ≤ x := by
  intro n
  induction n with
  | zero => intro h hn p hp; rw [restOf_end (by omega)] at hp; cases hp
  | succ n ih =>
    intro h hn p hp
    by_cases hh : h < sp.length
    · by_cases hs : sp[h] < r.start
      · rw [restOf_skip hh hs] at hp
        obtain ⟨h1, h2⟩ := ih (h + 1) (by omega) p hp
        exact ⟨by omega, h2⟩
      · have he := endOf_le hh hr
        rw [restOf_take hr hh hs] at hp
        rcases List.mem_cons.1 hp with rfl | hp
        · refine ⟨Nat.le_refl _, he.1, he.2, fun x hx => ?_, fun hb => ?_, fun k x hk1 hk2 hx => ?_⟩
          · rw [List.getElem?_eq_getElem hh] at hx; cases hx; omega
          · have := runTo_spec (sp := sp) (back := r.back) (to := min (h + r.hold.toNat) sp.length) (by omega)
            have hq : runTo sp r.back (min (h + r.hold.toNat) sp.length) = endOf sp r h := rfl
            rw [hq] at this
            exact ⟨by have := this.1; dsimp only at hb ⊢; omega, this.2.1⟩
          · have := runTo_spec (sp := sp) (back := r.back) (to := min (h + r.hold.toNat) sp.length) (by omega)
            have hq : runTo sp r.back (min (h + r.hold.toNat) sp.length) = endOf sp r h := rfl
            rw [hq] at this
            exact this.2.2 k x (by dsimp only at hk1; omega) hk2 hx
        · obtain ⟨h1, h2⟩ := ih (endOf sp r h) (by omega) p hp
          exact ⟨by omega, h2⟩
    · rw [restOf_end (by omega)] at hp; cases hp
theorem spells_sorted {sp : List Int} {r : Rul} (hr : 1 ≤ r.hold) : ∀ (n h : Nat), sp.length - h ≤ n → (restOf sp r h).Pairwise fun p q => p.2 ≤ q.1 := by
  intro n
  induction n with
  | zero => intro h hn; rw [restOf_end (by omega)]; exact .nil
  | succ n ih =>
    intro h hn
    by_cases hh : h < sp.length
    · by_cases hs : sp[h] < r.start
      · rw [restOf_skip hh hs]; exact ih (h + 1) (by omega)
      · have he := endOf_le hh hr
        rw [restOf_take hr hh hs]
        exact .cons (fun q hq => (spells_facts hr (n + 1) _ (by omega) q hq).1) (ih _ (by omega))
    · rw [restOf_end (by omega)]; exact .nil
theorem spells_cover {sp : List Int} {r : Rul} (hr : 1 ≤ r.hold) : ∀ (n h : Nat), sp.length - h ≤ n → ∀ (k : Nat) x, h ≤ k → sp[k]? = some x → r.start ≤ x → ∃ p ∈ restOf sp r h, p.1 ≤ k ∧ k < p.2 := by
  intro n
  induction n with
  | zero => intro h hn k x hk hx; have := (List.getElem?_eq_some_iff.1 hx).1; omega
  | succ n ih =>
    intro h hn k x hk hx hs0
    have hkl := (List.getElem?_eq_some_iff.1 hx).1
    have hh : h < sp.length := by omega
    by_cases hs : sp[h] < r.start
    · rw [restOf_skip hh hs]
      have : h ≠ k := fun e => by subst e; rw [List.getElem?_eq_getElem hh] at hx; cases hx; omega
      exact ih (h + 1) (by omega) k x (by omega) hx hs0
    · have he := endOf_le hh hr
      rw [restOf_take hr hh hs]
      by_cases hke : k < endOf sp r h
      · exact ⟨(h, endOf sp r h), by simp, hk, hke⟩
      · obtain ⟨p, h1, h2⟩ := ih (endOf sp r h) (by omega) k x (by omega) hx hs0
        exact ⟨p, by simp [h1], h2⟩
/-- How many of some alarms an hour is in. -/
def cnt (L : List (Nat × Nat)) (k : Nat) : Nat := (L.filter fun p => decide (p.1 ≤ k) && decide (k < p.2)).length
theorem cnt_le : ∀ (L : List (Nat × Nat)) (k : Nat), cnt L k ≤ L.length := fun L k => List.length_filter_le _ _
theorem cnt_one : ∀ {L : List (Nat × Nat)} {k : Nat}, (L.Pairwise fun p q => p.2 ≤ q.1) → cnt L k ≤ 1
  | [], _, _ => by simp [cnt]
  | p :: L, k, h => by
    cases h with
    | cons h1 h2 =>
      unfold cnt
      rw [List.filter_cons]
      split
      · rename_i hp
        rw [Bool.and_eq_true, decide_eq_true_eq, decide_eq_true_eq] at hp
        rw [List.length_cons, List.filter_eq_nil_iff.2 fun q hq => by
          have := h1 q hq
          rw [Bool.and_eq_true, decide_eq_true_eq, decide_eq_true_eq]
          omega]
        simp
      · exact cnt_one h2
theorem cnt_pos {L : List (Nat × Nat)} {k : Nat} {p : Nat × Nat} (h : p ∈ L) (h1 : p.1 ≤ k) (h2 : k < p.2) : 1 ≤ cnt L k := by
  unfold cnt
  exact List.length_pos_of_mem (List.mem_filter.2 ⟨h, by simp [h1, h2]⟩)
theorem cnt_snoc (L : List (Nat × Nat)) (p : Nat × Nat) (k : Nat) : cnt (L ++ [p]) k = cnt L k + (if p.1 ≤ k ∧ k < p.2 then 1 else 0) := by
  unfold cnt
  rw [List.filter_append, List.length_append]
  congr 1
  by_cases h : p.1 ≤ k ∧ k < p.2
  · rw [if_pos h, List.filter_cons, if_pos (by simp [h.1, h.2])]; rfl
  · rw [if_neg h, List.filter_cons, if_neg (by rw [Bool.and_eq_true, decide_eq_true_eq, decide_eq_true_eq]; exact h)]; rfl
/-- What the hours have been counted, the one that is at hand up to an hour. -/
def onL (N : Nat) (L : List (Nat × Nat)) (a h : Nat) : List Int := (List.range N).map fun k => ((cnt L k + (if a ≤ k ∧ k < h then 1 else 0) : Nat) : Int)
theorem onL_len (N : Nat) (L : List (Nat × Nat)) (a h : Nat) : (onL N L a h).length = N := by simp [onL]
theorem onL_get {N : Nat} {L : List (Nat × Nat)} {a h k : Nat} (hk : k < N) : (onL N L a h)[k]? = some ((cnt L k + (if a ≤ k ∧ k < h then 1 else 0) : Nat) : Int) := by simp [onL, hk]
theorem onL_set {N : Nat} {L : List (Nat × Nat)} {a h : Nat} (hh : h < N) (ha : a ≤ h) : (onL N L a h).set h ((cnt L h : Nat) + 1 : Int) = onL N L a (h + 1) := by
  apply List.ext_getElem?
  intro k
  by_cases hk : k < N
  · rw [onL_get hk, List.getElem?_set, onL_len]
    split
    · rename_i e
      subst e
      rw [if_pos (show a ≤ h ∧ h < h + 1 from ⟨ha, by omega⟩)]
      simp [hh]
    · rw [onL_get hk]
      congr 2
      by_cases h1 : a ≤ k ∧ k < h
      · rw [if_pos h1, if_pos ⟨h1.1, by omega⟩]
      · rw [if_neg h1, if_neg (by omega)]
  · rw [List.getElem?_eq_none (by rw [List.length_set, onL_len]; omega), List.getElem?_eq_none (by rw [onL_len]; omega)]
theorem onL_next {N : Nat} {L : List (Nat × Nat)} {p : Nat × Nat} (q : Nat) : onL N L p.1 p.2 = onL N (L ++ [p]) q q := by
  unfold onL
  apply List.map_congr_left
  intro k _
  rw [cnt_snoc, if_neg (show ¬ (q ≤ k ∧ k < q) by omega)]
  rfl
theorem onL_any {N : Nat} {L : List (Nat × Nat)} (p q : Nat) : onL N L p p = onL N L q q := by
  unfold onL
  apply List.map_congr_left
  intro k _
  rw [if_neg (show ¬ (q ≤ k ∧ k < q) by omega), if_neg (show ¬ (p ≤ k ∧ k < p) by omega)]
theorem rep_nul (n : Nat) : rep [I 0] n = (onL n [] 0 0).map I := by
  have h : ∀ n, rep [I 0] n = (List.replicate n (0 : Int)).map I := by
    intro n
    induction n with
    | zero => rfl
    | succ n ih => rw [rep, ih]; rfl
  rw [h]
  congr 1
  apply List.ext_getElem?
  intro k
  by_cases hk : k < n
  · rw [onL_get hk]; simp [hk, cnt]
  · rw [List.getElem?_eq_none (by simp; omega), List.getElem?_eq_none (by rw [onL_len]; omega)]
theorem spl_set (a : List Int) (k : Nat) (z : Int) (h : k < a.length) : spl (a.map I) (0 + k * 1) (I z).cells = some ((a.set k z).map I) := by
  have e : (I z).cells = [I z] := rfl
  rw [e, spl_one (by simp; omega), List.map_set]
  simp
end
end Go.Ev

set_option maxRecDepth 100000
set_option linter.unusedSimpArgs false
set_option linter.unusedVariables false
namespace Go.Ev
open Go Go.Proofs
noncomputable section
theorem c14K (m : Nat) (sv : AV) (s0 : Sea) (r : Rul) (H : Heap) (hU : Ints H sv s0.sp) (hw : (s0.sp.length : Int) ≤ 65) (he : seasErr [s0] = 0) (hr : r.ok = true) : RR (m + 9) (.fn 14 [.agg [sv, .bool s0.fell], .agg r.c]) H = some (.bool true, H) := by
  refine (R_fn _ _ _ _ _).trans ?_
  refine fn_ok Try.func14 rfl rfl (by kernel_rfl) (by kernel_rfl) ?_
  obtain ⟨W, hW⟩ : ∃ W : Heap, W = ⟨H.t, H.next, H.next⟩ := ⟨_, rfl⟩
  have hg : ∀ n, W.get n = H.get n := fun n => by rw [hW]; rfl
  have hN : W.next = H.next := by rw [hW]
  have hE : ∀ G, Grow W G → Ext H G := fun G g => ⟨by rw [← hN]; exact g.next, fun n k => by rw [g.get n (by rw [hN]; exact k), hg]⟩
  have hG : Grow W W := Grow.refl (by rw [hW]; exact Nat.le_refl _)
  rw [← hW]
  have hlen := hU.len
  have pb : sv.plain = true := lpl hlen
  have ps : AV.plain (.agg [sv, .bool s0.fell]) = true := by simp [AV.plain, AV.plains, pb]
  have hrf := Rul.ok_facts hr
  refine Ok.seq ?_
  refine Ok.region ?_
  refine OkO.box rfl rfl ?_
  refine OkO.box rfl rfl ?_
  refine OkO.assign rfl rfl ?_
  refine OkO.nil ?_
  refine Ok.seq ?_
  refine Ok.seq ?_
  refine Ok.region ?_
  refine OkO.fieldAddr (o := 0) rfl (by kernel_rfl) rfl ?_
  refine OkO.load rfl rfl (lda (n := 1) (by kernel_rfl) (by first | assumption | (simp (disch := first | omega | (simp only [hNw, hPt]; omega)) only [gn0, gn1, gn2, gn3, gn4, gn5, gp0, gno, gpo] <;> first | rfl | assumption | exact gp0 _ _ _ | exact gn0 _ _)) (by first | rfl | assumption)) ?_
  refine OkO.builtin rfl rfl rfl (bln (by kernel_rfl) (by first | assumption | rfl)) ?_
  refine OkO.bin rfl rfl rfl (bin_gtr _ _) ?_
  refine OkO.move rfl rfl ?_
  refine OkO.split (d := 16) rfl (fun g1 => ?_) (fun g1 => ?_)
  · -- true g1
    exact absurd g1 (by simp; omega)
  · -- false g1
    refine OkO.load rfl rfl (ldg (n := 2) (by kernel_rfl) (by first | assumption | (simp (disch := first | omega | (simp only [hNw, hPt]; omega)) only [gn0, gn1, gn2, gn3, gn4, gn5, gp0, gno, gpo] <;> first | rfl | assumption | exact gp0 _ _ _ | exact gn0 _ _)) (by first | rfl | assumption)) ?_
    refine OkO.buildSlice (el := 60) (sz := 2) (z := [.nils, .bool false]) rfl (by kernel_rfl) (by decide) rfl rfl ?_
    refine OkO.callV rfl rfl rfl rfl rfl ((c40 (m + 6) _ [s0] _ (SeasAt.one (ty := 60) (by first | assumption | (simp (disch := first | omega | (simp only [hNw, hPt]; omega)) only [gn0, gn1, gn2, gn3, gn4, gn5, gp0, gno, gpo] <;> first | rfl | assumption | exact gp0 _ _ _ | exact gn0 _ _)) (by simp only [hNw]; omega) (hU.ext (hE _ (by (try dsimp only); repeat (first | exact hG | apply Grow.new | (refine Grow.put ?_ _ (by first | omega | (simp only [hNw, hPt]; omega)))))))) (by simp) (by simp; omega)).trans (by rw [he])) ?_ -- "sackung/sackungref04.SeasonsFault"
    refine OkO.bin rfl rfl rfl (bin_neq _ _) ?_
    refine OkO.pick (b := false) rfl rfl nofun (fun _ => rfl) ?_
    refine OkO.move rfl rfl ?_
    refine OkO.load rfl rfl (ldg (n := 3) (by kernel_rfl) (by first | assumption | (simp (disch := first | omega | (simp only [hNw, hPt]; omega)) only [gn0, gn1, gn2, gn3, gn4, gn5, gp0, gno, gpo] <;> first | rfl | assumption | exact gp0 _ _ _ | exact gn0 _ _)) (by first | rfl | assumption)) ?_
    refine OkO.callV rfl rfl rfl rfl rfl ((c41 (m + 6) r _).trans (by rw [hr])) ?_ -- "sackung/sackungref04.RightRule"
    refine OkO.un rfl rfl rfl ?_
    refine OkO.pick (b := false) rfl rfl nofun (fun _ => rfl) ?_
    refine OkO.nil ?_
    refine Ok.cond rfl (fun h2 => ?_) (fun h2 => ?_)
    · -- yes h2
      exact absurd h2 (by simp)
    · -- no h2
      refine Ok.skip ?_
      refine Ok.seq ?_
      refine Ok.drawn [(0, true, []), (2, true, []), (1, false, [2]), (3, false, [0]), (4, false, [2, 0]), (5, true, []), (6, true, []), (7, true, []), (8, true, []), (9, true, [])] (by kernel_rfl) ?_
      refine OkP.step ?_
      refine OkO.load rfl rfl (ldg (n := 2) (by kernel_rfl) (by first | assumption | (simp (disch := first | omega | (simp only [hNw, hPt]; omega)) only [gn0, gn1, gn2, gn3, gn4, gn5, gp0, gno, gpo] <;> first | rfl | assumption | exact gp0 _ _ _ | exact gn0 _ _)) (by first | rfl | assumption)) ?_
      refine OkO.nil ⟨rfl, ?_⟩
      refine OkP.step ?_
      refine OkO.load rfl rfl (ldg (n := 3) (by kernel_rfl) (by first | assumption | (simp (disch := first | omega | (simp only [hNw, hPt]; omega)) only [gn0, gn1, gn2, gn3, gn4, gn5, gp0, gno, gpo] <;> first | rfl | assumption | exact gp0 _ _ _ | exact gn0 _ _)) (by first | rfl | assumption)) ?_
      refine OkO.nil ⟨rfl, ?_⟩
      refine OkP.step ?_
      refine OkO.callE rfl rfl rfl rfl rfl (c38 (m + 6) sv s0 _ (hU.ext (hE _ (by (try dsimp only); repeat (first | exact hG | apply Grow.new | (refine Grow.put ?_ _ (by first | omega | (simp only [hNw, hPt]; omega))))))) (by omega)) ?_ -- "sackung/sackunglaw04.Season"
      rintro _ Ha ⟨x', rfl, qa, ma⟩
      have n1 := qa.ext.next
      try simp only [hNw, hPt] at n1
      have gg1 : Grow W Ha := Grow.ret (by (try dsimp only); repeat (first | exact hG | apply Grow.new | (refine Grow.put ?_ _ (by first | omega | (simp only [hNw, hPt]; omega))))) qa
      have a1 : (Ha.get (W.next)).bind AObj.cs = some [sv, .bool s0.fell] := by rw [qa.ext.get _ (by first | omega | (simp only [hNw, hPt]; omega))]; first | assumption | (rw [gn0]; rfl) | (rw [get_put_eq] <;> rfl) | (simp (disch := first | omega | (simp only [hNw, hPt]; omega)) only [gn0, gn1, gn2, gn3, gn4, gn5, gp0, gno, gpo] <;> first | rfl | assumption | (rw [get_put_eq] <;> rfl))
      have bb1 : (Ha.get (W.next + 1)).bind AObj.cs = some r.c := by rw [qa.ext.get _ (by first | omega | (simp only [hNw, hPt]; omega))]; first | assumption | (rw [gn0]; rfl) | (rw [get_put_eq] <;> rfl) | (simp (disch := first | omega | (simp only [hNw, hPt]; omega)) only [gn0, gn1, gn2, gn3, gn4, gn5, gp0, gno, gpo] <;> first | rfl | assumption | (rw [get_put_eq] <;> rfl))
      obtain ⟨u1, u2⟩ := ma.one
      have hx := ma.ints
      refine OkO.nil ⟨(sco (sld rfl rfl (ldg (n := 3) (by kernel_rfl) (by first | assumption | (simp (disch := first | omega | (simp only [hNw, hPt]; omega)) only [gn0, gn1, gn2, gn3, gn4, gn5, gp0, gno, gpo] <;> first | rfl | assumption | exact gp0 _ _ _ | exact gn0 _ _)) (by first | rfl | assumption)) rfl (eqr _ (by first | rfl | exact ps | exact lpl (by assumption) | (simp [AV.plain, AV.plains, AV.cells, AV.plain])))) rfl), ?_⟩
      refine OkP.step ?_
      refine OkO.callV rfl rfl rfl rfl rfl (c39 (m + 7) r _) ?_ -- "sackung/sackunglaw04.Rule"
      refine OkO.nil ⟨(sco (sld rfl rfl (ldg (n := 2) (by kernel_rfl) (by first | assumption | (simp (disch := first | omega | (simp only [hNw, hPt]; omega)) only [gn0, gn1, gn2, gn3, gn4, gn5, gp0, gno, gpo] <;> first | rfl | assumption | exact gp0 _ _ _ | exact gn0 _ _)) (by first | rfl | assumption)) rfl (eqr _ (by first | rfl | exact ps | exact lpl (by assumption) | (simp [AV.plain, AV.plains, AV.cells, AV.plain])))) rfl), ?_⟩
      refine OkP.step ?_
      refine OkO.callE rfl rfl rfl rfl rfl (c37K (m + 1) x' s0 r _ (hx.ext (by (try dsimp only); repeat (first | exact Ext.refl _ | exact Ext.refl _ | apply Ext.new | (refine Ext.put ?_ _ (by first | omega | (simp only [hNw, hPt]; omega)))))) u2 (by omega) he hr) ?_ -- "sackung/alarm.Spells"
      rintro _ Hb ⟨y, rfl, qb, mb⟩
      have n2 := qb.ext.next
      try simp only [hNw, hPt] at n2
      have gg2 : Grow W Hb := Grow.ret (by (try dsimp only); repeat (first | exact gg1 | apply Grow.new | (refine Grow.put ?_ _ (by first | omega | (simp only [hNw, hPt]; omega))))) qb
      have a2 : (Hb.get (W.next)).bind AObj.cs = some [sv, .bool s0.fell] := by rw [qb.ext.get _ (by first | omega | (simp only [hNw, hPt]; omega))]; first | assumption | (rw [gn0]; rfl) | (rw [get_put_eq] <;> rfl) | (simp (disch := first | omega | (simp only [hNw, hPt]; omega)) only [gn0, gn1, gn2, gn3, gn4, gn5, gp0, gno, gpo] <;> first | rfl | assumption | (rw [get_put_eq] <;> rfl))
      have bb2 : (Hb.get (W.next + 1)).bind AObj.cs = some r.c := by rw [qb.ext.get _ (by first | omega | (simp only [hNw, hPt]; omega))]; first | assumption | (rw [gn0]; rfl) | (rw [get_put_eq] <;> rfl) | (simp (disch := first | omega | (simp only [hNw, hPt]; omega)) only [gn0, gn1, gn2, gn3, gn4, gn5, gp0, gno, gpo] <;> first | rfl | assumption | (rw [get_put_eq] <;> rfl))
      have exHa2 : Ext Ha Hb := Ext.trans (by (try dsimp only); repeat (first | exact Ext.refl _ | exact Ext.refl _ | apply Ext.new | (refine Ext.put ?_ _ (by first | omega | (simp only [hNw, hPt]; omega))))) qb.ext
      have hyr := mb.spells
      have hyl : lenOf y = some (spellsOf s0.sp r).length := by simpa using hyr.len
      obtain ⟨y1, y2⟩ := mb.one
      refine OkO.nil ⟨(sco (sld rfl rfl (ldg (n := 3) (by kernel_rfl) (by first | assumption | (simp (disch := first | omega | (simp only [hNw, hPt]; omega)) only [gn0, gn1, gn2, gn3, gn4, gn5, gp0, gno, gpo] <;> first | rfl | assumption | exact gp0 _ _ _ | exact gn0 _ _)) (by first | rfl | assumption)) rfl (eqr _ (by first | rfl | exact ps | exact lpl (by assumption) | (simp [AV.plain, AV.plains, AV.cells, AV.plain])))) (sco (sld rfl rfl (ldg (n := 2) (by kernel_rfl) (by first | assumption | (simp (disch := first | omega | (simp only [hNw, hPt]; omega)) only [gn0, gn1, gn2, gn3, gn4, gn5, gp0, gno, gpo] <;> first | rfl | assumption | exact gp0 _ _ _ | exact gn0 _ _)) (by first | rfl | assumption)) rfl (eqr _ (by first | rfl | exact ps | exact lpl (by assumption) | (simp [AV.plain, AV.plains, AV.cells, AV.plain])))) rfl)), ?_⟩
      refine OkP.step ?_
      refine OkO.move rfl rfl ?_
      refine OkO.nil ⟨rfl, ?_⟩
      refine OkP.step ?_
      refine OkO.extract rfl rfl rfl ?_
      refine OkO.nil ⟨rfl, ?_⟩
      refine OkP.step ?_
      refine OkO.extract rfl rfl rfl ?_
      refine OkO.nil ⟨rfl, ?_⟩
      refine OkP.step ?_
      refine OkO.assign rfl rfl ?_
      refine OkO.nil ⟨rfl, ?_⟩
      refine OkP.step ?_
      refine OkO.assign rfl rfl ?_
      refine OkO.nil ⟨rfl, ?_⟩
      refine OkP.nil ?_
      refine Ok.seq ?_
      refine Ok.seq ?_
      refine Ok.region ?_
      refine OkO.move rfl rfl ?_
      refine OkO.bin rfl rfl rfl (bin_neq _ _) ?_
      refine OkO.nil ?_
      refine Ok.condF rfl ?_
      refine Ok.skip ?_
      refine Ok.seq ?_
      refine Ok.region ?_
      refine OkO.fieldAddr (o := 0) rfl (by kernel_rfl) rfl ?_
      refine OkO.load rfl rfl (lda (n := 1) (by kernel_rfl) (by first | assumption | (simp (disch := first | omega | (simp only [hNw, hPt]; omega)) only [gn0, gn1, gn2, gn3, gn4, gn5, gp0, gno, gpo] <;> first | rfl | assumption | exact gp0 _ _ _ | exact gn0 _ _)) (by first | rfl | assumption)) ?_
      refine OkO.builtin rfl rfl rfl (bln (by kernel_rfl) (by first | assumption | rfl)) ?_
      refine OkO.assign rfl rfl ?_
      refine OkO.nil ?_
      refine Ok.seq ?_
      refine Ok.region ?_
      refine OkO.move rfl rfl ?_
      refine OkO.makeSlice (el := 3) (sz := 1) (z := [.int .i64 0]) (n := s0.sp.length) (by_ := 8) rfl (by kernel_rfl) (by kernel_rfl) (by omega) rfl rfl (by omega) ?_
      refine OkO.assign rfl rfl ?_
      refine OkO.nil ?_
      refine Ok.seq ?_
      refine Ok.seq ?_
      refine Ok.region ?_
      refine OkO.assign rfl rfl ?_
      refine OkO.nil ?_
      refine Ok.block ?_
      have hspl : (spellsOf s0.sp r).length ≤ s0.sp.length := by (have h9 := restOf_len (sp := s0.sp) (r := r) hrf.2.2.1 s0.sp.length 0 (by omega); simpa [spellsOf] using h9)
      rw [rep_nul]
      have hNH : H.next ≤ W.next := by omega
      refine Ok.loop (fun n s => ∃ i : Nat, n = (spellsOf s0.sp r).length - i ∧ i ≤ (spellsOf s0.sp r).length ∧ s.H.get Hb.next = some (.cells ((onL s0.sp.length ((spellsOf s0.sp r).take i) 0 0).map I) 3) ∧ Has 8 [(2, .ptr W.next 0), (3, .ptr (W.next + 1) 0), (5, y), (7, I (s0.sp.length : Int)), (8, .slice Hb.next 0 s0.sp.length s0.sp.length), (9, I (i : Int))] s.T ∧ s.D = [] ∧ Ext Hb s.H ∧ Hb.next < s.H.next ∧ Grow W s.H) ((spellsOf s0.sp r).length) (by unfold loopFuel; omega)
        ⟨0, rfl, Nat.zero_le _, gn0 _ _, Has.of (by kernel_rfl), rfl, Grow.toNew _ _, by simp, gg2.new _⟩ ?_
      rintro n ⟨T, D, G⟩ ⟨i, hn, hi, hon, ⟨f, hT⟩, hD, hx9, hbn, hg⟩
      dsimp only at *
      subst hT hD
      have hgn := hg.next
      have eb0 : (G.get W.next).bind AObj.cs = some [sv, .bool s0.fell] := by rw [hx9.get _ (by omega)]; exact a2
      have eb1 : (G.get (W.next + 1)).bind AObj.cs = some r.c := by rw [hx9.get _ (by omega)]; exact bb2
      have ebo : (G.get Hb.next).bind AObj.cs = some ((onL s0.sp.length ((spellsOf s0.sp r).take i) 0 0).map I) := by rw [hon]; rfl
      refine Ok.seq ?_
      refine Ok.seq ?_
      refine Ok.region ?_
      refine OkO.move rfl rfl ?_
      refine OkO.move rfl rfl ?_
      refine OkO.builtin rfl rfl rfl (bln (by kernel_rfl) (by first | assumption | rfl)) ?_
      refine OkO.bin rfl rfl rfl (bin_lss _ _) ?_
      refine OkO.nil ?_
      refine Ok.cond rfl (fun h3 => ?_) (fun h3 => ?_)
      · -- yes h3
        have hlt : i < (spellsOf s0.sp r).length := by simpa using h3
        have hp := spells_facts hrf.2.2.1 s0.sp.length 0 (by omega) (spellsOf s0.sp r)[i] (List.getElem_mem hlt)
        obtain ⟨_, p1, p2, p3, p4, p5⟩ := hp
        obtain ⟨ab, ao, acs, a1, a2q, a3, a4, a5, a6⟩ := Row.spell hyr (i := i) hlt
        have a2 : (G.get ab).bind AObj.cs = some acs := by rw [hx9.get _ a6]; exact a2q
        have a2r := a2q
        obtain ⟨fb, fo, fcs, f1, f2q, f3, f6⟩ := hU.at' ((spellsOf s0.sp r)[i].1) (by omega)
        have f2 : (G.get fb).bind AObj.cs = some fcs := by rw [(hE _ hg).get _ f6]; exact f2q
        refine Ok.skip ?_
        refine Ok.seq ?_
        refine Ok.block ?_
        refine Ok.join (fun s => Has 8 [(2, .ptr W.next 0), (3, .ptr (W.next + 1) 0), (5, y), (7, I (s0.sp.length : Int)), (8, .slice Hb.next 0 s0.sp.length s0.sp.length), (9, I (i : Int))] s.T ∧ s.D = [] ∧ s.H = G) ?_ ?_
        · -- to the meeting
          refine Ok.seq ?_
          refine Ok.drawn [(0, true, []), (1, true, []), (2, true, []), (3, true, []), (4, true, []), (5, true, []), (6, true, []), (7, true, []), (8, true, []), (9, true, []), (10, true, []), (11, true, []), (12, true, []), (13, true, []), (14, true, []), (15, true, []), (16, true, []), (17, true, []), (18, true, []), (19, true, []), (20, true, []), (21, true, []), (22, true, []), (23, true, []), (24, true, []), (25, true, []), (26, true, []), (27, true, []), (28, true, []), (29, true, []), (30, true, []), (31, true, []), (32, true, []), (33, true, []), (34, true, []), (35, true, []), (36, true, []), (37, true, []), (38, true, []), (39, true, []), (40, true, []), (41, true, []), (42, true, []), (43, true, []), (44, true, []), (45, true, []), (46, true, []), (47, true, []), (48, true, []), (49, true, []), (50, true, []), (51, true, []), (52, true, []), (53, true, []), (54, true, []), (55, true, []), (56, true, []), (57, true, []), (58, true, []), (59, true, []), (60, true, []), (61, true, []), (62, true, []), (63, true, []), (64, true, []), (65, true, []), (66, true, []), (67, true, []), (68, true, []), (69, true, []), (70, true, []), (71, true, []), (72, true, []), (73, true, []), (74, true, []), (75, true, []), (76, true, []), (77, true, []), (78, true, []), (79, true, []), (80, true, []), (81, true, []), (82, true, []), (83, true, []), (84, true, []), (85, true, []), (86, true, []), (87, true, []), (88, true, []), (89, true, []), (90, true, []), (91, true, []), (92, true, []), (93, true, []), (94, true, []), (95, true, []), (96, true, []), (97, true, []), (98, true, [])] (by kernel_rfl) ?_
          refine OkP.step ?_
          refine OkO.move rfl rfl ?_
          refine OkO.nil ⟨rfl, ?_⟩
          refine OkP.step ?_
          refine OkO.move rfl rfl ?_
          refine OkO.nil ⟨rfl, ?_⟩
          refine OkP.step ?_
          refine OkO.index (sz := 2) (n := i) rfl rfl rfl (by kernel_rfl) (by first | assumption | rfl | exact slAt_slice (by omega) | exact slAt_opn (by omega)) ?_ -- index ('Go.Operand.tmp', 49) ('Go.Operand.tmp', 50)
          refine OkO.nil ⟨rfl, ?_⟩
          refine OkP.step ?_
          refine OkO.fieldAddr (o := 0) rfl (by kernel_rfl) rfl ?_
          refine OkO.nil ⟨rfl, ?_⟩
          refine OkP.step ?_
          refine OkO.load rfl rfl (lda (n := 1) (by kernel_rfl) (by first | assumption | (simp (disch := first | omega | (simp only [hNw, hPt]; omega)) only [gn0, gn1, gn2, gn3, gn4, gn5, gp0, gno, gpo] <;> first | rfl | assumption | exact gp0 _ _ _ | exact gn0 _ _)) (by first | rfl | assumption)) ?_
          refine OkO.nil ⟨rfl, ?_⟩
          refine OkP.step ?_
          refine OkO.bin rfl rfl rfl (bin_lss _ _) ?_
          refine OkO.nil ⟨rfl, ?_⟩
          refine OkP.step ?_
          refine OkO.move rfl rfl ?_
          refine OkO.nil ⟨rfl, ?_⟩
          refine OkP.split (d := 55) rfl (fun g4 => ?_) (fun g4 => ?_)
          · -- true g4
            exact absurd g4 (by simp)
          · -- false g4
            refine OkP.step ?_
            refine OkO.move rfl rfl ?_
            refine OkO.nil ⟨rfl, ?_⟩
            refine OkP.step ?_
            refine OkO.move rfl rfl ?_
            refine OkO.nil ⟨rfl, ?_⟩
            refine OkP.step ?_
            refine OkO.index (sz := 2) (n := i) rfl rfl rfl (by kernel_rfl) (by first | assumption | rfl | exact slAt_slice (by omega) | exact slAt_opn (by omega)) ?_ -- index ('Go.Operand.tmp', 56) ('Go.Operand.tmp', 57)
            refine OkO.nil ⟨rfl, ?_⟩
            refine OkP.step ?_
            refine OkO.fieldAddr (o := 1) rfl (by kernel_rfl) rfl ?_
            refine OkO.nil ⟨rfl, ?_⟩
            refine OkP.step ?_
            refine OkO.load rfl rfl (lda (n := 1) (by kernel_rfl) (by first | assumption | (simp (disch := first | omega | (simp only [hNw, hPt]; omega)) only [gn0, gn1, gn2, gn3, gn4, gn5, gp0, gno, gpo] <;> first | rfl | assumption | exact gp0 _ _ _ | exact gn0 _ _)) (by first | rfl | assumption)) ?_
            refine OkO.nil ⟨rfl, ?_⟩
            refine OkP.step ?_
            refine OkO.move rfl rfl ?_
            refine OkO.nil ⟨rfl, ?_⟩
            refine OkP.step ?_
            refine OkO.bin rfl rfl rfl (bin_gtr _ _) ?_
            refine OkO.nil ⟨rfl, ?_⟩
            refine OkP.step ?_
            refine OkO.pick (b := false) rfl rfl nofun (fun _ => rfl) ?_
            refine OkO.nil ⟨rfl, ?_⟩
            refine OkP.step ?_
            refine OkO.move rfl rfl ?_
            refine OkO.nil ⟨rfl, ?_⟩
            refine OkP.split (d := 64) rfl (fun g5 => ?_) (fun g5 => ?_)
            · -- true g5
              exact absurd g5 (by simp; omega)
            · -- false g5
              refine OkP.step ?_
              refine OkO.move rfl rfl ?_
              refine OkO.nil ⟨rfl, ?_⟩
              refine OkP.step ?_
              refine OkO.move rfl rfl ?_
              refine OkO.nil ⟨rfl, ?_⟩
              refine OkP.step ?_
              refine OkO.index (sz := 2) (n := i) rfl rfl rfl (by kernel_rfl) (by first | assumption | rfl | exact slAt_slice (by omega) | exact slAt_opn (by omega)) ?_ -- index ('Go.Operand.tmp', 65) ('Go.Operand.tmp', 66)
              refine OkO.nil ⟨rfl, ?_⟩
              refine OkP.step ?_
              refine OkO.fieldAddr (o := 0) rfl (by kernel_rfl) rfl ?_
              refine OkO.nil ⟨rfl, ?_⟩
              refine OkP.step ?_
              refine OkO.load rfl rfl (lda (n := 1) (by kernel_rfl) (by first | assumption | (simp (disch := first | omega | (simp only [hNw, hPt]; omega)) only [gn0, gn1, gn2, gn3, gn4, gn5, gp0, gno, gpo] <;> first | rfl | assumption | exact gp0 _ _ _ | exact gn0 _ _)) (by first | rfl | assumption)) ?_
              refine OkO.nil ⟨rfl, ?_⟩
              refine OkP.step ?_
              refine OkO.move rfl rfl ?_
              refine OkO.nil ⟨rfl, ?_⟩
              refine OkP.step ?_
              refine OkO.move rfl rfl ?_
              refine OkO.nil ⟨rfl, ?_⟩
              refine OkP.step ?_
              refine OkO.index (sz := 2) (n := i) rfl rfl rfl (by kernel_rfl) (by first | assumption | rfl | exact slAt_slice (by omega) | exact slAt_opn (by omega)) ?_ -- index ('Go.Operand.tmp', 70) ('Go.Operand.tmp', 71)
              refine OkO.nil ⟨rfl, ?_⟩
              refine OkP.step ?_
              refine OkO.fieldAddr (o := 1) rfl (by kernel_rfl) rfl ?_
              refine OkO.nil ⟨rfl, ?_⟩
              refine OkP.step ?_
              refine OkO.load rfl rfl (lda (n := 1) (by kernel_rfl) (by first | assumption | (simp (disch := first | omega | (simp only [hNw, hPt]; omega)) only [gn0, gn1, gn2, gn3, gn4, gn5, gp0, gno, gpo] <;> first | rfl | assumption | exact gp0 _ _ _ | exact gn0 _ _)) (by first | rfl | assumption)) ?_
              refine OkO.nil ⟨rfl, ?_⟩
              refine OkP.step ?_
              refine OkO.bin rfl rfl rfl (bin_geq _ _) ?_
              refine OkO.nil ⟨rfl, ?_⟩
              refine OkP.step ?_
              refine OkO.pick (b := false) rfl rfl nofun (fun _ => rfl) ?_
              refine OkO.nil ⟨rfl, ?_⟩
              refine OkP.step ?_
              refine OkO.move rfl rfl ?_
              refine OkO.nil ⟨rfl, ?_⟩
              refine OkP.split (d := 77) rfl (fun g6 => ?_) (fun g6 => ?_)
              · -- true g6
                exact absurd g6 (by simp; omega)
              · -- false g6
                refine OkP.step ?_
                refine OkO.move rfl rfl ?_
                refine OkO.nil ⟨rfl, ?_⟩
                refine OkP.step ?_
                refine OkO.bin rfl rfl rfl (bin_gtr _ _) ?_
                refine OkO.nil ⟨rfl, ?_⟩
                refine OkP.step ?_
                refine OkO.move rfl rfl ?_
                refine OkO.nil ⟨rfl, ?_⟩
                refine OkP.split (d := 80) rfl (fun g7 => ?_) (fun g7 => ?_)
                · -- true g7
                  have hi0 : 0 < i := by (have h9 : (0 : Int) < (i : Int) := by simpa using g7); omega
                  have hs9 : (spellsOf s0.sp r)[i - 1].2 ≤ (spellsOf s0.sp r)[i].1 := List.pairwise_iff_getElem.1 (spells_sorted hrf.2.2.1 s0.sp.length 0 (by omega)) (i - 1) i (by show i - 1 < (spellsOf s0.sp r).length; omega) hlt (by omega)
                  obtain ⟨eb, eo, ecs, e1, e2q, e3, e4, e5, e6⟩ := Row.spell hyr (i := i - 1) (by omega)
                  have e2 : (G.get eb).bind AObj.cs = some ecs := by rw [hx9.get _ e6]; exact e2q
                  refine OkP.step ?_
                  refine OkO.move rfl rfl ?_
                  refine OkO.nil ⟨rfl, ?_⟩
                  refine OkP.step ?_
                  refine OkO.move rfl rfl ?_
                  refine OkO.nil ⟨rfl, ?_⟩
                  refine OkP.step ?_
                  refine OkO.index (sz := 2) (n := i) rfl rfl rfl (by kernel_rfl) (by first | assumption | rfl | exact slAt_slice (by omega) | exact slAt_opn (by omega)) ?_ -- index ('Go.Operand.tmp', 81) ('Go.Operand.tmp', 82)
                  refine OkO.nil ⟨rfl, ?_⟩
                  refine OkP.step ?_
                  refine OkO.fieldAddr (o := 0) rfl (by kernel_rfl) rfl ?_
                  refine OkO.nil ⟨rfl, ?_⟩
                  refine OkP.step ?_
                  refine OkO.load rfl rfl (lda (n := 1) (by kernel_rfl) (by first | assumption | (simp (disch := first | omega | (simp only [hNw, hPt]; omega)) only [gn0, gn1, gn2, gn3, gn4, gn5, gp0, gno, gpo] <;> first | rfl | assumption | exact gp0 _ _ _ | exact gn0 _ _)) (by first | rfl | assumption)) ?_
                  refine OkO.nil ⟨rfl, ?_⟩
                  refine OkP.step ?_
                  refine OkO.move rfl rfl ?_
                  refine OkO.nil ⟨rfl, ?_⟩
                  refine OkP.step ?_
                  refine OkO.move rfl rfl ?_
                  refine OkO.nil ⟨rfl, ?_⟩
                  refine OkP.step ?_
                  refine OkO.bin rfl rfl rfl (bin_sub (by omega) (by omega)) ?_
                  refine OkO.nil ⟨rfl, ?_⟩
                  refine OkP.step ?_
                  refine OkO.index (sz := 2) (n := i - 1) rfl rfl (congrArg (fun z => some (I z)) (by omega)) (by kernel_rfl) (by first | assumption | rfl | exact slAt_slice (by omega) | exact slAt_opn (by omega)) ?_ -- index ('Go.Operand.tmp', 86) ('Go.Operand.tmp', 88)
                  refine OkO.nil ⟨rfl, ?_⟩
                  refine OkP.step ?_
                  refine OkO.fieldAddr (o := 1) rfl (by kernel_rfl) rfl ?_
                  refine OkO.nil ⟨rfl, ?_⟩
                  refine OkP.step ?_
                  refine OkO.load rfl rfl (lda (n := 1) (by kernel_rfl) (by first | assumption | (simp (disch := first | omega | (simp only [hNw, hPt]; omega)) only [gn0, gn1, gn2, gn3, gn4, gn5, gp0, gno, gpo] <;> first | rfl | assumption | exact gp0 _ _ _ | exact gn0 _ _)) (by first | rfl | assumption)) ?_
                  refine OkO.nil ⟨rfl, ?_⟩
                  refine OkP.step ?_
                  refine OkO.bin rfl rfl rfl (bin_lss _ _) ?_
                  refine OkO.nil ⟨rfl, ?_⟩
                  refine OkP.step ?_
                  refine OkO.pick (b := true) rfl rfl (fun _ => rfl) nofun ?_
                  refine OkO.nil ⟨rfl, ?_⟩
                  refine OkP.step ?_
                  refine OkO.pick (b := false) rfl rfl nofun (fun _ => rfl) ?_
                  refine OkO.nil ⟨rfl, ?_⟩
                  refine OkP.step ?_
                  refine OkO.move rfl rfl ?_
                  refine OkO.nil ⟨rfl, ?_⟩
                  refine OkP.split (d := 95) rfl (fun g8 => ?_) (fun g8 => ?_)
                  · -- true g8
                    exact absurd g8 (by simp; omega)
                  · -- false g8
                    refine OkP.step ?_
                    refine OkO.fieldAddr (o := 0) rfl (by kernel_rfl) rfl ?_
                    refine OkO.nil ⟨rfl, ?_⟩
                    refine OkP.step ?_
                    refine OkO.load rfl rfl (lda (n := 1) (by kernel_rfl) (by first | assumption | (simp (disch := first | omega | (simp only [hNw, hPt]; omega)) only [gn0, gn1, gn2, gn3, gn4, gn5, gp0, gno, gpo] <;> first | rfl | assumption | exact gp0 _ _ _ | exact gn0 _ _)) (by first | rfl | assumption)) ?_
                    refine OkO.nil ⟨rfl, ?_⟩
                    refine OkP.step ?_
                    refine OkO.move rfl rfl ?_
                    refine OkO.nil ⟨rfl, ?_⟩
                    refine OkP.step ?_
                    refine OkO.move rfl rfl ?_
                    refine OkO.nil ⟨rfl, ?_⟩
                    refine OkP.step ?_
                    refine OkO.index (sz := 2) (n := i) rfl rfl rfl (by kernel_rfl) (by first | assumption | rfl | exact slAt_slice (by omega) | exact slAt_opn (by omega)) ?_ -- index ('Go.Operand.tmp', 98) ('Go.Operand.tmp', 99)
                    refine OkO.nil ⟨rfl, ?_⟩
                    refine OkP.step ?_
                    refine OkO.fieldAddr (o := 0) rfl (by kernel_rfl) rfl ?_
                    refine OkO.nil ⟨rfl, ?_⟩
                    refine OkP.step ?_
                    refine OkO.load rfl rfl (lda (n := 1) (by kernel_rfl) (by first | assumption | (simp (disch := first | omega | (simp only [hNw, hPt]; omega)) only [gn0, gn1, gn2, gn3, gn4, gn5, gp0, gno, gpo] <;> first | rfl | assumption | exact gp0 _ _ _ | exact gn0 _ _)) (by first | rfl | assumption)) ?_
                    refine OkO.nil ⟨rfl, ?_⟩
                    refine OkP.step ?_
                    refine OkO.index (sz := 1) (n := (spellsOf s0.sp r)[i].1) rfl rfl rfl (by kernel_rfl) (by first | assumption | rfl | exact slAt_slice (by omega) | exact slAt_opn (by omega)) ?_ -- index ('Go.Operand.tmp', 97) ('Go.Operand.tmp', 102)
                    refine OkO.nil ⟨rfl, ?_⟩
                    refine OkP.step ?_
                    refine OkO.load rfl rfl (lda (n := 1) (by kernel_rfl) (by first | assumption | (simp (disch := first | omega | (simp only [hNw, hPt]; omega)) only [gn0, gn1, gn2, gn3, gn4, gn5, gp0, gno, gpo] <;> first | rfl | assumption | exact gp0 _ _ _ | exact gn0 _ _)) (by first | rfl | assumption)) ?_
                    refine OkO.nil ⟨rfl, ?_⟩
                    refine OkP.step ?_
                    refine OkO.fieldAddr (o := 0) rfl (by kernel_rfl) rfl ?_
                    refine OkO.nil ⟨rfl, ?_⟩
                    refine OkP.step ?_
                    refine OkO.load rfl rfl (lda (n := 1) (by kernel_rfl) (by first | assumption | (simp (disch := first | omega | (simp only [hNw, hPt]; omega)) only [gn0, gn1, gn2, gn3, gn4, gn5, gp0, gno, gpo] <;> first | rfl | assumption | exact gp0 _ _ _ | exact gn0 _ _)) (by first | rfl | assumption)) ?_
                    refine OkO.nil ⟨rfl, ?_⟩
                    refine OkP.step ?_
                    refine OkO.bin rfl rfl rfl (bin_lss _ _) ?_
                    refine OkO.nil ⟨rfl, ?_⟩
                    refine OkP.step ?_
                    refine OkO.pick (b := false) rfl rfl nofun (fun _ => rfl) ?_
                    refine OkO.nil ⟨rfl, ?_⟩
                    refine OkP.step ?_
                    refine OkO.move rfl rfl ?_
                    refine OkO.nil ⟨rfl, ?_⟩
                    refine OkP.split (d := 109) rfl (fun g9 => ?_) (fun g9 => ?_)
                    · -- true g9
                      have h9 := p3 _ (List.getElem?_eq_getElem (by omega))
                      exact absurd g9 (by simp; omega)
                    · -- false g9
                      refine OkP.step ?_
                      refine OkO.move rfl rfl ?_
                      refine OkO.nil ⟨rfl, ?_⟩
                      refine OkP.step ?_
                      refine OkO.move rfl rfl ?_
                      refine OkO.nil ⟨rfl, ?_⟩
                      refine OkP.step ?_
                      refine OkO.index (sz := 2) (n := i) rfl rfl rfl (by kernel_rfl) (by first | assumption | rfl | exact slAt_slice (by omega) | exact slAt_opn (by omega)) ?_ -- index ('Go.Operand.tmp', 110) ('Go.Operand.tmp', 111)
                      refine OkO.nil ⟨rfl, ?_⟩
                      refine OkP.step ?_
                      refine OkO.fieldAddr (o := 1) rfl (by kernel_rfl) rfl ?_
                      refine OkO.nil ⟨rfl, ?_⟩
                      refine OkP.step ?_
                      refine OkO.load rfl rfl (lda (n := 1) (by kernel_rfl) (by first | assumption | (simp (disch := first | omega | (simp only [hNw, hPt]; omega)) only [gn0, gn1, gn2, gn3, gn4, gn5, gp0, gno, gpo] <;> first | rfl | assumption | exact gp0 _ _ _ | exact gn0 _ _)) (by first | rfl | assumption)) ?_
                      refine OkO.nil ⟨rfl, ?_⟩
                      refine OkP.step ?_
                      refine OkO.move rfl rfl ?_
                      refine OkO.nil ⟨rfl, ?_⟩
                      refine OkP.step ?_
                      refine OkO.bin rfl rfl rfl (bin_lss _ _) ?_
                      refine OkO.nil ⟨rfl, ?_⟩
                      refine OkP.step ?_
                      refine OkO.move rfl rfl ?_
                      refine OkO.nil ⟨rfl, ?_⟩
                      refine OkP.split (d := 117) rfl (fun g10 => ?_) (fun g10 => ?_)
                      · -- true g10
                        have ht9 : (spellsOf s0.sp r)[i].2 < s0.sp.length := by (have h9 : ((spellsOf s0.sp r)[i].2 : Int) < (s0.sp.length : Int) := by simpa using g10); omega
                        obtain ⟨q1, q2⟩ := p4 ht9
                        have q3 := q2 _ (List.getElem?_eq_getElem ht9)
                        obtain ⟨tb, to, tcs, t1, t2q, t3, t6⟩ := hU.at' ((spellsOf s0.sp r)[i].2) ht9
                        have t2 : (G.get tb).bind AObj.cs = some tcs := by rw [(hE _ hg).get _ t6]; exact t2q
                        refine OkP.step ?_
                        refine OkO.move rfl rfl ?_
                        refine OkO.nil ⟨rfl, ?_⟩
                        refine OkP.step ?_
                        refine OkO.move rfl rfl ?_
                        refine OkO.nil ⟨rfl, ?_⟩
                        refine OkP.step ?_
                        refine OkO.index (sz := 2) (n := i) rfl rfl rfl (by kernel_rfl) (by first | assumption | rfl | exact slAt_slice (by omega) | exact slAt_opn (by omega)) ?_ -- index ('Go.Operand.tmp', 118) ('Go.Operand.tmp', 119)
                        refine OkO.nil ⟨rfl, ?_⟩
                        refine OkP.step ?_
                        refine OkO.fieldAddr (o := 1) rfl (by kernel_rfl) rfl ?_
                        refine OkO.nil ⟨rfl, ?_⟩
                        refine OkP.step ?_
                        refine OkO.load rfl rfl (lda (n := 1) (by kernel_rfl) (by first | assumption | (simp (disch := first | omega | (simp only [hNw, hPt]; omega)) only [gn0, gn1, gn2, gn3, gn4, gn5, gp0, gno, gpo] <;> first | rfl | assumption | exact gp0 _ _ _ | exact gn0 _ _)) (by first | rfl | assumption)) ?_
                        refine OkO.nil ⟨rfl, ?_⟩
                        refine OkP.step ?_
                        refine OkO.move rfl rfl ?_
                        refine OkO.nil ⟨rfl, ?_⟩
                        refine OkP.step ?_
                        refine OkO.move rfl rfl ?_
                        refine OkO.nil ⟨rfl, ?_⟩
                        refine OkP.step ?_
                        refine OkO.index (sz := 2) (n := i) rfl rfl rfl (by kernel_rfl) (by first | assumption | rfl | exact slAt_slice (by omega) | exact slAt_opn (by omega)) ?_ -- index ('Go.Operand.tmp', 123) ('Go.Operand.tmp', 124)
                        refine OkO.nil ⟨rfl, ?_⟩
                        refine OkP.step ?_
                        refine OkO.fieldAddr (o := 0) rfl (by kernel_rfl) rfl ?_
                        refine OkO.nil ⟨rfl, ?_⟩
                        refine OkP.step ?_
                        refine OkO.load rfl rfl (lda (n := 1) (by kernel_rfl) (by first | assumption | (simp (disch := first | omega | (simp only [hNw, hPt]; omega)) only [gn0, gn1, gn2, gn3, gn4, gn5, gp0, gno, gpo] <;> first | rfl | assumption | exact gp0 _ _ _ | exact gn0 _ _)) (by first | rfl | assumption)) ?_
                        refine OkO.nil ⟨rfl, ?_⟩
                        refine OkP.step ?_
                        refine OkO.bin rfl rfl rfl (bin_sub (by omega) (by omega)) ?_
                        refine OkO.nil ⟨rfl, ?_⟩
                        refine OkP.step ?_
                        refine OkO.fieldAddr (o := 2) rfl (by kernel_rfl) rfl ?_
                        refine OkO.nil ⟨rfl, ?_⟩
                        refine OkP.step ?_
                        refine OkO.load rfl rfl (lda (n := 1) (by kernel_rfl) (by first | assumption | (simp (disch := first | omega | (simp only [hNw, hPt]; omega)) only [gn0, gn1, gn2, gn3, gn4, gn5, gp0, gno, gpo] <;> first | rfl | assumption | exact gp0 _ _ _ | exact gn0 _ _)) (by first | rfl | assumption)) ?_
                        refine OkO.nil ⟨rfl, ?_⟩
                        refine OkP.step ?_
                        refine OkO.bin rfl rfl rfl (bin_lss _ _) ?_
                        refine OkO.nil ⟨rfl, ?_⟩
                        refine OkP.step ?_
                        refine OkO.move rfl rfl ?_
                        refine OkO.nil ⟨rfl, ?_⟩
                        refine OkP.split (d := 132) rfl (fun g11 => ?_) (fun g11 => ?_)
                        · -- true g11
                          exact absurd g11 (by simp; omega)
                        · -- false g11
                          refine OkP.step ?_
                          refine OkO.fieldAddr (o := 0) rfl (by kernel_rfl) rfl ?_
                          refine OkO.nil ⟨rfl, ?_⟩
                          refine OkP.step ?_
                          refine OkO.load rfl rfl (lda (n := 1) (by kernel_rfl) (by first | assumption | (simp (disch := first | omega | (simp only [hNw, hPt]; omega)) only [gn0, gn1, gn2, gn3, gn4, gn5, gp0, gno, gpo] <;> first | rfl | assumption | exact gp0 _ _ _ | exact gn0 _ _)) (by first | rfl | assumption)) ?_
                          refine OkO.nil ⟨rfl, ?_⟩
                          refine OkP.step ?_
                          refine OkO.move rfl rfl ?_
                          refine OkO.nil ⟨rfl, ?_⟩
                          refine OkP.step ?_
                          refine OkO.move rfl rfl ?_
                          refine OkO.nil ⟨rfl, ?_⟩
                          refine OkP.step ?_
                          refine OkO.index (sz := 2) (n := i) rfl rfl rfl (by kernel_rfl) (by first | assumption | rfl | exact slAt_slice (by omega) | exact slAt_opn (by omega)) ?_ -- index ('Go.Operand.tmp', 135) ('Go.Operand.tmp', 136)
                          refine OkO.nil ⟨rfl, ?_⟩
                          refine OkP.step ?_
                          refine OkO.fieldAddr (o := 1) rfl (by kernel_rfl) rfl ?_
                          refine OkO.nil ⟨rfl, ?_⟩
                          refine OkP.step ?_
                          refine OkO.load rfl rfl (lda (n := 1) (by kernel_rfl) (by first | assumption | (simp (disch := first | omega | (simp only [hNw, hPt]; omega)) only [gn0, gn1, gn2, gn3, gn4, gn5, gp0, gno, gpo] <;> first | rfl | assumption | exact gp0 _ _ _ | exact gn0 _ _)) (by first | rfl | assumption)) ?_
                          refine OkO.nil ⟨rfl, ?_⟩
                          refine OkP.step ?_
                          refine OkO.index (sz := 1) (n := (spellsOf s0.sp r)[i].2) rfl rfl rfl (by kernel_rfl) (by first | assumption | rfl | exact slAt_slice (by omega) | exact slAt_opn (by omega)) ?_ -- index ('Go.Operand.tmp', 134) ('Go.Operand.tmp', 139)
                          refine OkO.nil ⟨rfl, ?_⟩
                          refine OkP.step ?_
                          refine OkO.load rfl rfl (lda (n := 1) (by kernel_rfl) (by first | assumption | (simp (disch := first | omega | (simp only [hNw, hPt]; omega)) only [gn0, gn1, gn2, gn3, gn4, gn5, gp0, gno, gpo] <;> first | rfl | assumption | exact gp0 _ _ _ | exact gn0 _ _)) (by first | rfl | assumption)) ?_
                          refine OkO.nil ⟨rfl, ?_⟩
                          refine OkP.step ?_
                          refine OkO.fieldAddr (o := 1) rfl (by kernel_rfl) rfl ?_
                          refine OkO.nil ⟨rfl, ?_⟩
                          refine OkP.step ?_
                          refine OkO.load rfl rfl (lda (n := 1) (by kernel_rfl) (by first | assumption | (simp (disch := first | omega | (simp only [hNw, hPt]; omega)) only [gn0, gn1, gn2, gn3, gn4, gn5, gp0, gno, gpo] <;> first | rfl | assumption | exact gp0 _ _ _ | exact gn0 _ _)) (by first | rfl | assumption)) ?_
                          refine OkO.nil ⟨rfl, ?_⟩
                          refine OkP.step ?_
                          refine OkO.bin rfl rfl rfl (bin_geq _ _) ?_
                          refine OkO.nil ⟨rfl, ?_⟩
                          refine OkP.step ?_
                          refine OkO.pick (b := false) rfl rfl nofun (fun _ => rfl) ?_
                          refine OkO.nil ⟨rfl, ?_⟩
                          refine OkP.step ?_
                          refine OkO.pick (b := true) rfl rfl (fun _ => rfl) nofun ?_
                          refine OkO.nil ⟨rfl, ?_⟩
                          refine OkP.step ?_
                          refine OkO.pick (b := false) rfl rfl nofun (fun _ => rfl) ?_
                          refine OkO.nil ⟨rfl, ?_⟩
                          refine OkP.nil ?_
                          refine Ok.cond rfl (fun h12 => ?_) (fun h12 => ?_)
                          · -- yes h12
                            exact absurd h12 (by simp; omega)
                          · -- no h12
                            refine Ok.skip ?_
                            exact ⟨rfl, Has.of (by kernel_rfl), rfl, rfl⟩
                      · -- false g10
                        refine OkP.step ?_
                        refine OkO.skip rfl ?_
                        refine OkO.nil ⟨rfl, ?_⟩
                        refine OkP.step ?_
                        refine OkO.skip rfl ?_
                        refine OkO.nil ⟨rfl, ?_⟩
                        refine OkP.step ?_
                        refine OkO.skip rfl ?_
                        refine OkO.nil ⟨rfl, ?_⟩
                        refine OkP.step ?_
                        refine OkO.skip rfl ?_
                        refine OkO.nil ⟨rfl, ?_⟩
                        refine OkP.step ?_
                        refine OkO.skip rfl ?_
                        refine OkO.nil ⟨rfl, ?_⟩
                        refine OkP.step ?_
                        refine OkO.skip rfl ?_
                        refine OkO.nil ⟨rfl, ?_⟩
                        refine OkP.step ?_
                        refine OkO.skip rfl ?_
                        refine OkO.nil ⟨rfl, ?_⟩
                        refine OkP.step ?_
                        refine OkO.skip rfl ?_
                        refine OkO.nil ⟨rfl, ?_⟩
                        refine OkP.step ?_
                        refine OkO.skip rfl ?_
                        refine OkO.nil ⟨rfl, ?_⟩
                        refine OkP.step ?_
                        refine OkO.skip rfl ?_
                        refine OkO.nil ⟨rfl, ?_⟩
                        refine OkP.step ?_
                        refine OkO.skip rfl ?_
                        refine OkO.nil ⟨rfl, ?_⟩
                        refine OkP.step ?_
                        refine OkO.skip rfl ?_
                        refine OkO.nil ⟨rfl, ?_⟩
                        refine OkP.step ?_
                        refine OkO.skip rfl ?_
                        refine OkO.nil ⟨rfl, ?_⟩
                        refine OkP.step ?_
                        refine OkO.skip rfl ?_
                        refine OkO.nil ⟨rfl, ?_⟩
                        refine OkP.step ?_
                        refine OkO.skip rfl ?_
                        refine OkO.nil ⟨rfl, ?_⟩
                        refine OkP.step ?_
                        refine OkO.skip rfl ?_
                        refine OkO.nil ⟨rfl, ?_⟩
                        refine OkP.step ?_
                        refine OkO.skip rfl ?_
                        refine OkO.nil ⟨rfl, ?_⟩
                        refine OkP.step ?_
                        refine OkO.skip rfl ?_
                        refine OkO.nil ⟨rfl, ?_⟩
                        refine OkP.step ?_
                        refine OkO.skip rfl ?_
                        refine OkO.nil ⟨rfl, ?_⟩
                        refine OkP.step ?_
                        refine OkO.skip rfl ?_
                        refine OkO.nil ⟨rfl, ?_⟩
                        refine OkP.step ?_
                        refine OkO.skip rfl ?_
                        refine OkO.nil ⟨rfl, ?_⟩
                        refine OkP.step ?_
                        refine OkO.skip rfl ?_
                        refine OkO.nil ⟨rfl, ?_⟩
                        refine OkP.step ?_
                        refine OkO.skip rfl ?_
                        refine OkO.nil ⟨rfl, ?_⟩
                        refine OkP.step ?_
                        refine OkO.skip rfl ?_
                        refine OkO.nil ⟨rfl, ?_⟩
                        refine OkP.step ?_
                        refine OkO.skip rfl ?_
                        refine OkO.nil ⟨rfl, ?_⟩
                        refine OkP.step ?_
                        refine OkO.skip rfl ?_
                        refine OkO.nil ⟨rfl, ?_⟩
                        refine OkP.step ?_
                        refine OkO.skip rfl ?_
                        refine OkO.nil ⟨rfl, ?_⟩
                        refine OkP.step ?_
                        refine OkO.skip rfl ?_
                        refine OkO.nil ⟨rfl, ?_⟩
                        refine OkP.step ?_
                        refine OkO.pick (b := false) rfl rfl nofun (fun _ => rfl) ?_
                        refine OkO.nil ⟨rfl, ?_⟩
                        refine OkP.step ?_
                        refine OkO.pick (b := false) rfl rfl nofun (fun _ => rfl) ?_
                        refine OkO.nil ⟨rfl, ?_⟩
                        refine OkP.nil ?_
                        refine Ok.condF rfl ?_
                        refine Ok.skip ?_
                        exact ⟨rfl, Has.of (by kernel_rfl), rfl, rfl⟩
                · -- false g7
                  refine OkP.step ?_
                  refine OkO.skip rfl ?_
                  refine OkO.nil ⟨rfl, ?_⟩
                  refine OkP.step ?_
                  refine OkO.skip rfl ?_
                  refine OkO.nil ⟨rfl, ?_⟩
                  refine OkP.step ?_
                  refine OkO.skip rfl ?_
                  refine OkO.nil ⟨rfl, ?_⟩
                  refine OkP.step ?_
                  refine OkO.skip rfl ?_
                  refine OkO.nil ⟨rfl, ?_⟩
                  refine OkP.step ?_
                  refine OkO.skip rfl ?_
                  refine OkO.nil ⟨rfl, ?_⟩
                  refine OkP.step ?_
                  refine OkO.skip rfl ?_
                  refine OkO.nil ⟨rfl, ?_⟩
                  refine OkP.step ?_
                  refine OkO.skip rfl ?_
                  refine OkO.nil ⟨rfl, ?_⟩
                  refine OkP.step ?_
                  refine OkO.skip rfl ?_
                  refine OkO.nil ⟨rfl, ?_⟩
                  refine OkP.step ?_
                  refine OkO.skip rfl ?_
                  refine OkO.nil ⟨rfl, ?_⟩
                  refine OkP.step ?_
                  refine OkO.skip rfl ?_
                  refine OkO.nil ⟨rfl, ?_⟩
                  refine OkP.step ?_
                  refine OkO.skip rfl ?_
                  refine OkO.nil ⟨rfl, ?_⟩
                  refine OkP.step ?_
                  refine OkO.skip rfl ?_
                  refine OkO.nil ⟨rfl, ?_⟩
                  refine OkP.step ?_
                  refine OkO.pick (b := false) rfl rfl nofun (fun _ => rfl) ?_
                  refine OkO.nil ⟨rfl, ?_⟩
                  refine OkP.step ?_
                  refine OkO.pick (b := false) rfl rfl nofun (fun _ => rfl) ?_
                  refine OkO.nil ⟨rfl, ?_⟩
                  refine OkP.step ?_
                  refine OkO.move rfl rfl ?_
                  refine OkO.nil ⟨rfl, ?_⟩
                  refine OkP.step ?_
                  refine OkO.fieldAddr (o := 0) rfl (by kernel_rfl) rfl ?_
                  refine OkO.nil ⟨rfl, ?_⟩
                  refine OkP.step ?_
                  refine OkO.load rfl rfl (lda (n := 1) (by kernel_rfl) (by first | assumption | (simp (disch := first | omega | (simp only [hNw, hPt]; omega)) only [gn0, gn1, gn2, gn3, gn4, gn5, gp0, gno, gpo] <;> first | rfl | assumption | exact gp0 _ _ _ | exact gn0 _ _)) (by first | rfl | assumption)) ?_
                  refine OkO.nil ⟨rfl, ?_⟩
                  refine OkP.step ?_
                  refine OkO.move rfl rfl ?_
                  refine OkO.nil ⟨rfl, ?_⟩
                  refine OkP.step ?_
                  refine OkO.move rfl rfl ?_
                  refine OkO.nil ⟨rfl, ?_⟩
                  refine OkP.step ?_
                  refine OkO.index (sz := 2) (n := i) rfl rfl rfl (by kernel_rfl) (by first | assumption | rfl | exact slAt_slice (by omega) | exact slAt_opn (by omega)) ?_ -- index ('Go.Operand.tmp', 98) ('Go.Operand.tmp', 99)
                  refine OkO.nil ⟨rfl, ?_⟩
                  refine OkP.step ?_
                  refine OkO.fieldAddr (o := 0) rfl (by kernel_rfl) rfl ?_
                  refine OkO.nil ⟨rfl, ?_⟩
                  refine OkP.step ?_
                  refine OkO.load rfl rfl (lda (n := 1) (by kernel_rfl) (by first | assumption | (simp (disch := first | omega | (simp only [hNw, hPt]; omega)) only [gn0, gn1, gn2, gn3, gn4, gn5, gp0, gno, gpo] <;> first | rfl | assumption | exact gp0 _ _ _ | exact gn0 _ _)) (by first | rfl | assumption)) ?_
                  refine OkO.nil ⟨rfl, ?_⟩
                  refine OkP.step ?_
                  refine OkO.index (sz := 1) (n := (spellsOf s0.sp r)[i].1) rfl rfl rfl (by kernel_rfl) (by first | assumption | rfl | exact slAt_slice (by omega) | exact slAt_opn (by omega)) ?_ -- index ('Go.Operand.tmp', 97) ('Go.Operand.tmp', 102)
                  refine OkO.nil ⟨rfl, ?_⟩
                  refine OkP.step ?_
                  refine OkO.load rfl rfl (lda (n := 1) (by kernel_rfl) (by first | assumption | (simp (disch := first | omega | (simp only [hNw, hPt]; omega)) only [gn0, gn1, gn2, gn3, gn4, gn5, gp0, gno, gpo] <;> first | rfl | assumption | exact gp0 _ _ _ | exact gn0 _ _)) (by first | rfl | assumption)) ?_
                  refine OkO.nil ⟨rfl, ?_⟩
                  refine OkP.step ?_
                  refine OkO.fieldAddr (o := 0) rfl (by kernel_rfl) rfl ?_
                  refine OkO.nil ⟨rfl, ?_⟩
                  refine OkP.step ?_
                  refine OkO.load rfl rfl (lda (n := 1) (by kernel_rfl) (by first | assumption | (simp (disch := first | omega | (simp only [hNw, hPt]; omega)) only [gn0, gn1, gn2, gn3, gn4, gn5, gp0, gno, gpo] <;> first | rfl | assumption | exact gp0 _ _ _ | exact gn0 _ _)) (by first | rfl | assumption)) ?_
                  refine OkO.nil ⟨rfl, ?_⟩
                  refine OkP.step ?_
                  refine OkO.bin rfl rfl rfl (bin_lss _ _) ?_
                  refine OkO.nil ⟨rfl, ?_⟩
                  refine OkP.step ?_
                  refine OkO.pick (b := false) rfl rfl nofun (fun _ => rfl) ?_
                  refine OkO.nil ⟨rfl, ?_⟩
                  refine OkP.step ?_
                  refine OkO.move rfl rfl ?_
                  refine OkO.nil ⟨rfl, ?_⟩
                  refine OkP.split (d := 109) rfl (fun g13 => ?_) (fun g13 => ?_)
                  · -- true g13
                    have h9 := p3 _ (List.getElem?_eq_getElem (by omega))
                    exact absurd g13 (by simp; omega)
                  · -- false g13
                    refine OkP.step ?_
                    refine OkO.move rfl rfl ?_
                    refine OkO.nil ⟨rfl, ?_⟩
                    refine OkP.step ?_
                    refine OkO.move rfl rfl ?_
                    refine OkO.nil ⟨rfl, ?_⟩
                    refine OkP.step ?_
                    refine OkO.index (sz := 2) (n := i) rfl rfl rfl (by kernel_rfl) (by first | assumption | rfl | exact slAt_slice (by omega) | exact slAt_opn (by omega)) ?_ -- index ('Go.Operand.tmp', 110) ('Go.Operand.tmp', 111)
                    refine OkO.nil ⟨rfl, ?_⟩
                    refine OkP.step ?_
                    refine OkO.fieldAddr (o := 1) rfl (by kernel_rfl) rfl ?_
                    refine OkO.nil ⟨rfl, ?_⟩
                    refine OkP.step ?_
                    refine OkO.load rfl rfl (lda (n := 1) (by kernel_rfl) (by first | assumption | (simp (disch := first | omega | (simp only [hNw, hPt]; omega)) only [gn0, gn1, gn2, gn3, gn4, gn5, gp0, gno, gpo] <;> first | rfl | assumption | exact gp0 _ _ _ | exact gn0 _ _)) (by first | rfl | assumption)) ?_
                    refine OkO.nil ⟨rfl, ?_⟩
                    refine OkP.step ?_
                    refine OkO.move rfl rfl ?_
                    refine OkO.nil ⟨rfl, ?_⟩
                    refine OkP.step ?_
                    refine OkO.bin rfl rfl rfl (bin_lss _ _) ?_
                    refine OkO.nil ⟨rfl, ?_⟩
                    refine OkP.step ?_
                    refine OkO.move rfl rfl ?_
                    refine OkO.nil ⟨rfl, ?_⟩
                    refine OkP.split (d := 117) rfl (fun g14 => ?_) (fun g14 => ?_)
                    · -- true g14
                      have ht9 : (spellsOf s0.sp r)[i].2 < s0.sp.length := by (have h9 : ((spellsOf s0.sp r)[i].2 : Int) < (s0.sp.length : Int) := by simpa using g14); omega
                      obtain ⟨q1, q2⟩ := p4 ht9
                      have q3 := q2 _ (List.getElem?_eq_getElem ht9)
                      obtain ⟨tb, to, tcs, t1, t2q, t3, t6⟩ := hU.at' ((spellsOf s0.sp r)[i].2) ht9
                      have t2 : (G.get tb).bind AObj.cs = some tcs := by rw [(hE _ hg).get _ t6]; exact t2q
                      refine OkP.step ?_
                      refine OkO.move rfl rfl ?_
                      refine OkO.nil ⟨rfl, ?_⟩
                      refine OkP.step ?_
                      refine OkO.move rfl rfl ?_
                      refine OkO.nil ⟨rfl, ?_⟩
                      refine OkP.step ?_
                      refine OkO.index (sz := 2) (n := i) rfl rfl rfl (by kernel_rfl) (by first | assumption | rfl | exact slAt_slice (by omega) | exact slAt_opn (by omega)) ?_ -- index ('Go.Operand.tmp', 118) ('Go.Operand.tmp', 119)
                      refine OkO.nil ⟨rfl, ?_⟩
                      refine OkP.step ?_
                      refine OkO.fieldAddr (o := 1) rfl (by kernel_rfl) rfl ?_
                      refine OkO.nil ⟨rfl, ?_⟩
                      refine OkP.step ?_
                      refine OkO.load rfl rfl (lda (n := 1) (by kernel_rfl) (by first | assumption | (simp (disch := first | omega | (simp only [hNw, hPt]; omega)) only [gn0, gn1, gn2, gn3, gn4, gn5, gp0, gno, gpo] <;> first | rfl | assumption | exact gp0 _ _ _ | exact gn0 _ _)) (by first | rfl | assumption)) ?_
                      refine OkO.nil ⟨rfl, ?_⟩
                      refine OkP.step ?_
                      refine OkO.move rfl rfl ?_
                      refine OkO.nil ⟨rfl, ?_⟩
                      refine OkP.step ?_
                      refine OkO.move rfl rfl ?_
                      refine OkO.nil ⟨rfl, ?_⟩
                      refine OkP.step ?_
                      refine OkO.index (sz := 2) (n := i) rfl rfl rfl (by kernel_rfl) (by first | assumption | rfl | exact slAt_slice (by omega) | exact slAt_opn (by omega)) ?_ -- index ('Go.Operand.tmp', 123) ('Go.Operand.tmp', 124)
                      refine OkO.nil ⟨rfl, ?_⟩
                      refine OkP.step ?_
                      refine OkO.fieldAddr (o := 0) rfl (by kernel_rfl) rfl ?_
                      refine OkO.nil ⟨rfl, ?_⟩
                      refine OkP.step ?_
                      refine OkO.load rfl rfl (lda (n := 1) (by kernel_rfl) (by first | assumption | (simp (disch := first | omega | (simp only [hNw, hPt]; omega)) only [gn0, gn1, gn2, gn3, gn4, gn5, gp0, gno, gpo] <;> first | rfl | assumption | exact gp0 _ _ _ | exact gn0 _ _)) (by first | rfl | assumption)) ?_
                      refine OkO.nil ⟨rfl, ?_⟩
                      refine OkP.step ?_
                      refine OkO.bin rfl rfl rfl (bin_sub (by omega) (by omega)) ?_
                      refine OkO.nil ⟨rfl, ?_⟩
                      refine OkP.step ?_
                      refine OkO.fieldAddr (o := 2) rfl (by kernel_rfl) rfl ?_
                      refine OkO.nil ⟨rfl, ?_⟩
                      refine OkP.step ?_
                      refine OkO.load rfl rfl (lda (n := 1) (by kernel_rfl) (by first | assumption | (simp (disch := first | omega | (simp only [hNw, hPt]; omega)) only [gn0, gn1, gn2, gn3, gn4, gn5, gp0, gno, gpo] <;> first | rfl | assumption | exact gp0 _ _ _ | exact gn0 _ _)) (by first | rfl | assumption)) ?_
                      refine OkO.nil ⟨rfl, ?_⟩
                      refine OkP.step ?_
                      refine OkO.bin rfl rfl rfl (bin_lss _ _) ?_
                      refine OkO.nil ⟨rfl, ?_⟩
                      refine OkP.step ?_
                      refine OkO.move rfl rfl ?_
                      refine OkO.nil ⟨rfl, ?_⟩
                      refine OkP.split (d := 132) rfl (fun g15 => ?_) (fun g15 => ?_)
                      · -- true g15
                        exact absurd g15 (by simp; omega)
                      · -- false g15
                        refine OkP.step ?_
                        refine OkO.fieldAddr (o := 0) rfl (by kernel_rfl) rfl ?_
                        refine OkO.nil ⟨rfl, ?_⟩
                        refine OkP.step ?_
                        refine OkO.load rfl rfl (lda (n := 1) (by kernel_rfl) (by first | assumption | (simp (disch := first | omega | (simp only [hNw, hPt]; omega)) only [gn0, gn1, gn2, gn3, gn4, gn5, gp0, gno, gpo] <;> first | rfl | assumption | exact gp0 _ _ _ | exact gn0 _ _)) (by first | rfl | assumption)) ?_
                        refine OkO.nil ⟨rfl, ?_⟩
                        refine OkP.step ?_
                        refine OkO.move rfl rfl ?_
                        refine OkO.nil ⟨rfl, ?_⟩
                        refine OkP.step ?_
                        refine OkO.move rfl rfl ?_
                        refine OkO.nil ⟨rfl, ?_⟩
                        refine OkP.step ?_
                        refine OkO.index (sz := 2) (n := i) rfl rfl rfl (by kernel_rfl) (by first | assumption | rfl | exact slAt_slice (by omega) | exact slAt_opn (by omega)) ?_ -- index ('Go.Operand.tmp', 135) ('Go.Operand.tmp', 136)
                        refine OkO.nil ⟨rfl, ?_⟩
                        refine OkP.step ?_
                        refine OkO.fieldAddr (o := 1) rfl (by kernel_rfl) rfl ?_
                        refine OkO.nil ⟨rfl, ?_⟩
                        refine OkP.step ?_
                        refine OkO.load rfl rfl (lda (n := 1) (by kernel_rfl) (by first | assumption | (simp (disch := first | omega | (simp only [hNw, hPt]; omega)) only [gn0, gn1, gn2, gn3, gn4, gn5, gp0, gno, gpo] <;> first | rfl | assumption | exact gp0 _ _ _ | exact gn0 _ _)) (by first | rfl | assumption)) ?_
                        refine OkO.nil ⟨rfl, ?_⟩
                        refine OkP.step ?_
                        refine OkO.index (sz := 1) (n := (spellsOf s0.sp r)[i].2) rfl rfl rfl (by kernel_rfl) (by first | assumption | rfl | exact slAt_slice (by omega) | exact slAt_opn (by omega)) ?_ -- index ('Go.Operand.tmp', 134) ('Go.Operand.tmp', 139)
                        refine OkO.nil ⟨rfl, ?_⟩
                        refine OkP.step ?_
                        refine OkO.load rfl rfl (lda (n := 1) (by kernel_rfl) (by first | assumption | (simp (disch := first | omega | (simp only [hNw, hPt]; omega)) only [gn0, gn1, gn2, gn3, gn4, gn5, gp0, gno, gpo] <;> first | rfl | assumption | exact gp0 _ _ _ | exact gn0 _ _)) (by first | rfl | assumption)) ?_
                        refine OkO.nil ⟨rfl, ?_⟩
                        refine OkP.step ?_
                        refine OkO.fieldAddr (o := 1) rfl (by kernel_rfl) rfl ?_
                        refine OkO.nil ⟨rfl, ?_⟩
                        refine OkP.step ?_
                        refine OkO.load rfl rfl (lda (n := 1) (by kernel_rfl) (by first | assumption | (simp (disch := first | omega | (simp only [hNw, hPt]; omega)) only [gn0, gn1, gn2, gn3, gn4, gn5, gp0, gno, gpo] <;> first | rfl | assumption | exact gp0 _ _ _ | exact gn0 _ _)) (by first | rfl | assumption)) ?_
                        refine OkO.nil ⟨rfl, ?_⟩
                        refine OkP.step ?_
                        refine OkO.bin rfl rfl rfl (bin_geq _ _) ?_
                        refine OkO.nil ⟨rfl, ?_⟩
                        refine OkP.step ?_
                        refine OkO.pick (b := false) rfl rfl nofun (fun _ => rfl) ?_
                        refine OkO.nil ⟨rfl, ?_⟩
                        refine OkP.step ?_
                        refine OkO.pick (b := true) rfl rfl (fun _ => rfl) nofun ?_
                        refine OkO.nil ⟨rfl, ?_⟩
                        refine OkP.step ?_
                        refine OkO.pick (b := false) rfl rfl nofun (fun _ => rfl) ?_
                        refine OkO.nil ⟨rfl, ?_⟩
                        refine OkP.nil ?_
                        refine Ok.cond rfl (fun h16 => ?_) (fun h16 => ?_)
                        · -- yes h16
                          exact absurd h16 (by simp; omega)
                        · -- no h16
                          refine Ok.skip ?_
                          exact ⟨rfl, Has.of (by kernel_rfl), rfl, rfl⟩
                    · -- false g14
                      refine OkP.step ?_
                      refine OkO.skip rfl ?_
                      refine OkO.nil ⟨rfl, ?_⟩
                      refine OkP.step ?_
                      refine OkO.skip rfl ?_
                      refine OkO.nil ⟨rfl, ?_⟩
                      refine OkP.step ?_
                      refine OkO.skip rfl ?_
                      refine OkO.nil ⟨rfl, ?_⟩
                      refine OkP.step ?_
                      refine OkO.skip rfl ?_
                      refine OkO.nil ⟨rfl, ?_⟩
                      refine OkP.step ?_
                      refine OkO.skip rfl ?_
                      refine OkO.nil ⟨rfl, ?_⟩
                      refine OkP.step ?_
                      refine OkO.skip rfl ?_
                      refine OkO.nil ⟨rfl, ?_⟩
                      refine OkP.step ?_
                      refine OkO.skip rfl ?_
                      refine OkO.nil ⟨rfl, ?_⟩
                      refine OkP.step ?_
                      refine OkO.skip rfl ?_
                      refine OkO.nil ⟨rfl, ?_⟩
                      refine OkP.step ?_
                      refine OkO.skip rfl ?_
                      refine OkO.nil ⟨rfl, ?_⟩
                      refine OkP.step ?_
                      refine OkO.skip rfl ?_
                      refine OkO.nil ⟨rfl, ?_⟩
                      refine OkP.step ?_
                      refine OkO.skip rfl ?_
                      refine OkO.nil ⟨rfl, ?_⟩
                      refine OkP.step ?_
                      refine OkO.skip rfl ?_
                      refine OkO.nil ⟨rfl, ?_⟩
                      refine OkP.step ?_
                      refine OkO.skip rfl ?_
                      refine OkO.nil ⟨rfl, ?_⟩
                      refine OkP.step ?_
                      refine OkO.skip rfl ?_
                      refine OkO.nil ⟨rfl, ?_⟩
                      refine OkP.step ?_
                      refine OkO.skip rfl ?_
                      refine OkO.nil ⟨rfl, ?_⟩
                      refine OkP.step ?_
                      refine OkO.skip rfl ?_
                      refine OkO.nil ⟨rfl, ?_⟩
                      refine OkP.step ?_
                      refine OkO.skip rfl ?_
                      refine OkO.nil ⟨rfl, ?_⟩
                      refine OkP.step ?_
                      refine OkO.skip rfl ?_
                      refine OkO.nil ⟨rfl, ?_⟩
                      refine OkP.step ?_
                      refine OkO.skip rfl ?_
                      refine OkO.nil ⟨rfl, ?_⟩
                      refine OkP.step ?_
                      refine OkO.skip rfl ?_
                      refine OkO.nil ⟨rfl, ?_⟩
                      refine OkP.step ?_
                      refine OkO.skip rfl ?_
                      refine OkO.nil ⟨rfl, ?_⟩
                      refine OkP.step ?_
                      refine OkO.skip rfl ?_
                      refine OkO.nil ⟨rfl, ?_⟩
                      refine OkP.step ?_
                      refine OkO.skip rfl ?_
                      refine OkO.nil ⟨rfl, ?_⟩
                      refine OkP.step ?_
                      refine OkO.skip rfl ?_
                      refine OkO.nil ⟨rfl, ?_⟩
                      refine OkP.step ?_
                      refine OkO.skip rfl ?_
                      refine OkO.nil ⟨rfl, ?_⟩
                      refine OkP.step ?_
                      refine OkO.skip rfl ?_
                      refine OkO.nil ⟨rfl, ?_⟩
                      refine OkP.step ?_
                      refine OkO.skip rfl ?_
                      refine OkO.nil ⟨rfl, ?_⟩
                      refine OkP.step ?_
                      refine OkO.skip rfl ?_
                      refine OkO.nil ⟨rfl, ?_⟩
                      refine OkP.step ?_
                      refine OkO.pick (b := false) rfl rfl nofun (fun _ => rfl) ?_
                      refine OkO.nil ⟨rfl, ?_⟩
                      refine OkP.step ?_
                      refine OkO.pick (b := false) rfl rfl nofun (fun _ => rfl) ?_
                      refine OkO.nil ⟨rfl, ?_⟩
                      refine OkP.nil ?_
                      refine Ok.condF rfl ?_
                      refine Ok.skip ?_
                      exact ⟨rfl, Has.of (by kernel_rfl), rfl, rfl⟩
        · -- behind it
          rintro ⟨T, D, G⟩ ⟨⟨f, hT⟩, hD, hGG⟩
          dsimp only at *
          subst hT hD
          subst hGG
          refine Ok.seq ?_
          refine Ok.region ?_
          refine OkO.move rfl rfl ?_
          refine OkO.move rfl rfl ?_
          refine OkO.index (sz := 2) (n := i) rfl rfl rfl (by kernel_rfl) (by first | assumption | rfl | exact slAt_slice (by omega) | exact slAt_opn (by omega)) ?_ -- index ('Go.Operand.tmp', 148) ('Go.Operand.tmp', 149)
          refine OkO.fieldAddr (o := 0) rfl (by kernel_rfl) rfl ?_
          refine OkO.load rfl rfl (lda (n := 1) (by kernel_rfl) (by first | assumption | (simp (disch := first | omega | (simp only [hNw, hPt]; omega)) only [gn0, gn1, gn2, gn3, gn4, gn5, gp0, gno, gpo] <;> first | rfl | assumption | exact gp0 _ _ _ | exact gn0 _ _)) (by first | rfl | assumption)) ?_
          refine OkO.assign rfl rfl ?_
          refine OkO.nil ?_
          refine Ok.block ?_
          clear a2 a2q eb0 eb1 ebo hgn
          refine Ok.loop (fun n s => ∃ h : Nat, n = (spellsOf s0.sp r)[i].2 - h ∧ (spellsOf s0.sp r)[i].1 ≤ h ∧ h ≤ (spellsOf s0.sp r)[i].2 ∧ s.H.get Hb.next = some (.cells ((onL s0.sp.length ((spellsOf s0.sp r).take i) (spellsOf s0.sp r)[i].1 h).map I) 3) ∧ Has 8 [(2, .ptr W.next 0), (3, .ptr (W.next + 1) 0), (5, y), (7, I (s0.sp.length : Int)), (8, .slice Hb.next 0 s0.sp.length s0.sp.length), (9, I (i : Int)), (10, I (h : Int))] s.T ∧ s.D = [] ∧ Ext Hb s.H ∧ Hb.next < s.H.next ∧ Grow W s.H) ((spellsOf s0.sp r)[i].2 - (spellsOf s0.sp r)[i].1) (by unfold loopFuel; omega)
            ⟨(spellsOf s0.sp r)[i].1, rfl, Nat.le_refl _, by omega, by rw [onL_any _ 0]; exact hon, Has.of (by kernel_rfl), rfl, hx9, hbn, hg⟩ ?_
          rintro n ⟨T, D, G⟩ ⟨h, hn2, hh1, hh2, hon, ⟨f, hT⟩, hD, hx9, hbn, hg⟩
          dsimp only at *
          subst hT hD
          have hgn := hg.next
          have eb0 : (G.get W.next).bind AObj.cs = some [sv, .bool s0.fell] := by rw [hx9.get _ (by omega)]; exact a2
          have eb1 : (G.get (W.next + 1)).bind AObj.cs = some r.c := by rw [hx9.get _ (by omega)]; exact bb2
          have ebo : (G.get Hb.next).bind AObj.cs = some ((onL s0.sp.length ((spellsOf s0.sp r).take i) (spellsOf s0.sp r)[i].1 h).map I) := by rw [hon]; rfl
          have a2 : (G.get ab).bind AObj.cs = some acs := by rw [hx9.get _ a6]; exact a2r
          refine Ok.seq ?_
          refine Ok.seq ?_
          refine Ok.region ?_
          refine OkO.move rfl rfl ?_
          refine OkO.move rfl rfl ?_
          refine OkO.move rfl rfl ?_
          refine OkO.index (sz := 2) (n := i) rfl rfl rfl (by kernel_rfl) (by first | assumption | rfl | exact slAt_slice (by omega) | exact slAt_opn (by omega)) ?_ -- index ('Go.Operand.tmp', 154) ('Go.Operand.tmp', 155)
          refine OkO.fieldAddr (o := 1) rfl (by kernel_rfl) rfl ?_
          refine OkO.load rfl rfl (lda (n := 1) (by kernel_rfl) (by first | assumption | (simp (disch := first | omega | (simp only [hNw, hPt]; omega)) only [gn0, gn1, gn2, gn3, gn4, gn5, gp0, gno, gpo] <;> first | rfl | assumption | exact gp0 _ _ _ | exact gn0 _ _)) (by first | rfl | assumption)) ?_
          refine OkO.bin rfl rfl rfl (bin_lss _ _) ?_
          refine OkO.nil ?_
          refine Ok.cond rfl (fun h17 => ?_) (fun h17 => ?_)
          · -- yes h17
            have hhl : h < (spellsOf s0.sp r)[i].2 := by (have h9 : (h : Int) < ((spellsOf s0.sp r)[i].2 : Int) := by simpa using h17); omega
            have hhn : h < s0.sp.length := by omega
            have hol : h < (onL s0.sp.length ((spellsOf s0.sp r).take i) (spellsOf s0.sp r)[i].1 h).length := by rw [onL_len]; exact hhn
            have on1 : ((onL s0.sp.length ((spellsOf s0.sp r).take i) (spellsOf s0.sp r)[i].1 h).map I)[0 + h * 1]? = some (I ((cnt ((spellsOf s0.sp r).take i) h : Nat) : Int)) := by rw [Nat.zero_add, Nat.mul_one, List.getElem?_map, onL_get hhn, if_neg (by omega)]; rfl
            have hc9 := cnt_le ((spellsOf s0.sp r).take i) h
            rw [List.length_take] at hc9
            obtain ⟨gb, go, gcs, g1, g2q, g3, g6⟩ := hU.at' (h) hhn
            have g2 : (G.get gb).bind AObj.cs = some gcs := by rw [(hE _ hg).get _ g6]; exact g2q
            refine Ok.skip ?_
            refine Ok.join (fun s => Has 8 [(2, .ptr W.next 0), (3, .ptr (W.next + 1) 0), (5, y), (7, I (s0.sp.length : Int)), (8, .slice Hb.next 0 s0.sp.length s0.sp.length), (9, I (i : Int)), (10, I (h : Int))] s.T ∧ s.D = [] ∧ s.H = G.put Hb.next (.cells (((onL s0.sp.length ((spellsOf s0.sp r).take i) (spellsOf s0.sp r)[i].1 h).set h ((cnt ((spellsOf s0.sp r).take i) h : Nat) + 1 : Int)).map I) 3)) ?_ ?_
            · -- to the meeting
              refine Ok.block ?_
              refine Ok.seq ?_
              refine Ok.region ?_
              refine OkO.move rfl rfl ?_
              refine OkO.move rfl rfl ?_
              refine OkO.index (sz := 1) (n := h) rfl rfl rfl (by kernel_rfl) (by first | assumption | rfl | exact slAt_slice (by omega) | exact slAt_opn (by omega)) ?_ -- index ('Go.Operand.tmp', 162) ('Go.Operand.tmp', 163)
              refine OkO.load rfl rfl (lda (n := 1) (by kernel_rfl) (by first | assumption | (simp (disch := first | omega | (simp only [hNw, hPt]; omega)) only [gn0, gn1, gn2, gn3, gn4, gn5, gp0, gno, gpo] <;> first | rfl | assumption | exact gp0 _ _ _ | exact gn0 _ _)) (by first | rfl | assumption)) ?_
              refine OkO.bin rfl rfl rfl (bin_add (by omega) (by omega)) ?_
              refine OkO.index (sz := 1) (n := h) rfl rfl rfl (by kernel_rfl) (by first | assumption | rfl | exact slAt_slice (by omega) | exact slAt_opn (by omega)) ?_ -- index ('Go.Operand.tmp', 162) ('Go.Operand.tmp', 163)
              refine OkO.store rfl rfl rfl (stc (n := 1) (ag := false) (by kernel_rfl) (by first | assumption | (simp (disch := first | omega | (simp only [hNw, hPt]; omega)) only [gn0, gn1, gn2, gn3, gn4, gn5, gp0, gno, gpo] <;> first | rfl | assumption | exact gp0 _ _ _ | exact gn0 _ _)) rfl (by first | rfl | assumption) (by first | rfl | exact spl_set _ _ _ (by first | assumption | omega | (simp; omega)))) ?_
              refine OkO.nil ?_
              refine Ok.seq ?_
              refine Ok.drawn [(0, true, []), (1, true, []), (2, true, []), (3, true, []), (4, true, []), (5, true, []), (6, true, []), (7, true, []), (8, true, []), (9, true, []), (10, true, []), (11, true, []), (12, true, []), (13, true, []), (14, true, []), (15, true, []), (16, true, []), (17, true, []), (18, true, []), (19, true, [])] (by kernel_rfl) ?_
              refine OkP.step ?_
              refine OkO.move rfl rfl ?_
              refine OkO.nil ⟨rfl, ?_⟩
              refine OkP.step ?_
              refine OkO.move rfl rfl ?_
              refine OkO.nil ⟨rfl, ?_⟩
              refine OkP.step ?_
              refine OkO.move rfl rfl ?_
              refine OkO.nil ⟨rfl, ?_⟩
              refine OkP.step ?_
              refine OkO.index (sz := 2) (n := i) rfl rfl rfl (by kernel_rfl) (by first | assumption | rfl | exact slAt_slice (by omega) | exact slAt_opn (by omega)) ?_ -- index ('Go.Operand.tmp', 169) ('Go.Operand.tmp', 170)
              refine OkO.nil ⟨rfl, ?_⟩
              refine OkP.step ?_
              refine OkO.fieldAddr (o := 0) rfl (by kernel_rfl) rfl ?_
              refine OkO.nil ⟨rfl, ?_⟩
              refine OkP.step ?_
              refine OkO.load rfl rfl (lda (n := 1) (by kernel_rfl) (by first | assumption | (simp (disch := first | omega | (simp only [hNw, hPt]; omega)) only [gn0, gn1, gn2, gn3, gn4, gn5, gp0, gno, gpo] <;> first | rfl | assumption | exact gp0 _ _ _ | exact gn0 _ _)) (by first | rfl | assumption)) ?_
              refine OkO.nil ⟨rfl, ?_⟩
              refine OkP.step ?_
              refine OkO.fieldAddr (o := 2) rfl (by kernel_rfl) rfl ?_
              refine OkO.nil ⟨rfl, ?_⟩
              refine OkP.step ?_
              refine OkO.load rfl rfl (lda (n := 1) (by kernel_rfl) (by first | assumption | (simp (disch := first | omega | (simp only [hNw, hPt]; omega)) only [gn0, gn1, gn2, gn3, gn4, gn5, gp0, gno, gpo] <;> first | rfl | assumption | exact gp0 _ _ _ | exact gn0 _ _)) (by first | rfl | assumption)) ?_
              refine OkO.nil ⟨rfl, ?_⟩
              refine OkP.step ?_
              refine OkO.bin rfl rfl rfl (bin_add (by omega) (by omega)) ?_
              refine OkO.nil ⟨rfl, ?_⟩
              refine OkP.step ?_
              refine OkO.bin rfl rfl rfl (bin_geq _ _) ?_
              refine OkO.nil ⟨rfl, ?_⟩
              refine OkP.step ?_
              refine OkO.move rfl rfl ?_
              refine OkO.nil ⟨rfl, ?_⟩
              refine OkP.split (d := 178) rfl (fun g18 => ?_) (fun g18 => ?_)
              · -- true g18
                have hho : ((spellsOf s0.sp r)[i].1 : Int) + r.hold ≤ (h : Int) := by simpa using g18
                have h9 := p5 h _ hho hhl (List.getElem?_eq_getElem hhn)
                refine OkP.step ?_
                refine OkO.fieldAddr (o := 0) rfl (by kernel_rfl) rfl ?_
                refine OkO.nil ⟨rfl, ?_⟩
                refine OkP.step ?_
                refine OkO.load rfl rfl (lda (n := 1) (by kernel_rfl) (by first | assumption | (simp (disch := first | omega | (simp only [hNw, hPt]; omega)) only [gn0, gn1, gn2, gn3, gn4, gn5, gp0, gno, gpo] <;> first | rfl | assumption | exact gp0 _ _ _ | exact gn0 _ _)) (by first | rfl | assumption)) ?_
                refine OkO.nil ⟨rfl, ?_⟩
                refine OkP.step ?_
                refine OkO.move rfl rfl ?_
                refine OkO.nil ⟨rfl, ?_⟩
                refine OkP.step ?_
                refine OkO.index (sz := 1) (n := h) rfl rfl rfl (by kernel_rfl) (by first | assumption | rfl | exact slAt_slice (by omega) | exact slAt_opn (by omega)) ?_ -- index ('Go.Operand.tmp', 180) ('Go.Operand.tmp', 181)
                refine OkO.nil ⟨rfl, ?_⟩
                refine OkP.step ?_
                refine OkO.load rfl rfl (lda (n := 1) (by kernel_rfl) (by first | assumption | (simp (disch := first | omega | (simp only [hNw, hPt]; omega)) only [gn0, gn1, gn2, gn3, gn4, gn5, gp0, gno, gpo] <;> first | rfl | assumption | exact gp0 _ _ _ | exact gn0 _ _)) (by first | rfl | assumption)) ?_
                refine OkO.nil ⟨rfl, ?_⟩
                refine OkP.step ?_
                refine OkO.fieldAddr (o := 1) rfl (by kernel_rfl) rfl ?_
                refine OkO.nil ⟨rfl, ?_⟩
                refine OkP.step ?_
                refine OkO.load rfl rfl (lda (n := 1) (by kernel_rfl) (by first | assumption | (simp (disch := first | omega | (simp only [hNw, hPt]; omega)) only [gn0, gn1, gn2, gn3, gn4, gn5, gp0, gno, gpo] <;> first | rfl | assumption | exact gp0 _ _ _ | exact gn0 _ _)) (by first | rfl | assumption)) ?_
                refine OkO.nil ⟨rfl, ?_⟩
                refine OkP.step ?_
                refine OkO.bin rfl rfl rfl (bin_lss _ _) ?_
                refine OkO.nil ⟨rfl, ?_⟩
                refine OkP.step ?_
                refine OkO.pick (b := true) rfl rfl (fun _ => rfl) nofun ?_
                refine OkO.nil ⟨rfl, ?_⟩
                refine OkP.nil ?_
                refine Ok.cond rfl (fun h19 => ?_) (fun h19 => ?_)
                · -- yes h19
                  exact absurd h19 (by simp; omega)
                · -- no h19
                  refine Ok.skip ?_
                  exact ⟨rfl, Has.of (by kernel_rfl), rfl, rfl⟩
              · -- false g18
                refine OkP.step ?_
                refine OkO.skip rfl ?_
                refine OkO.nil ⟨rfl, ?_⟩
                refine OkP.step ?_
                refine OkO.skip rfl ?_
                refine OkO.nil ⟨rfl, ?_⟩
                refine OkP.step ?_
                refine OkO.skip rfl ?_
                refine OkO.nil ⟨rfl, ?_⟩
                refine OkP.step ?_
                refine OkO.skip rfl ?_
                refine OkO.nil ⟨rfl, ?_⟩
                refine OkP.step ?_
                refine OkO.skip rfl ?_
                refine OkO.nil ⟨rfl, ?_⟩
                refine OkP.step ?_
                refine OkO.skip rfl ?_
                refine OkO.nil ⟨rfl, ?_⟩
                refine OkP.step ?_
                refine OkO.skip rfl ?_
                refine OkO.nil ⟨rfl, ?_⟩
                refine OkP.step ?_
                refine OkO.skip rfl ?_
                refine OkO.nil ⟨rfl, ?_⟩
                refine OkP.step ?_
                refine OkO.pick (b := false) rfl rfl nofun (fun _ => rfl) ?_
                refine OkO.nil ⟨rfl, ?_⟩
                refine OkP.nil ?_
                refine Ok.condF rfl ?_
                refine Ok.skip ?_
                exact ⟨rfl, Has.of (by kernel_rfl), rfl, rfl⟩
            · -- behind it
              rintro ⟨T, D, G⟩ ⟨⟨f, hT⟩, hD, hGG⟩
              dsimp only at *
              subst hT hD
              subst hGG
              refine Ok.region ?_
              refine OkO.move rfl rfl ?_
              refine OkO.bin rfl rfl rfl (bin_add (by omega) (by omega)) ?_
              refine OkO.assign rfl rfl ?_
              refine OkO.nil ?_
              refine ⟨(spellsOf s0.sp r)[i].2 - (h + 1), by omega, h + 1, rfl, by omega, by omega, by rw [← onL_set hhn hh1]; exact gp0 _ _ _, Has.of (by kernel_rfl), rfl, hx9.put _ (Nat.le_refl _), by simp; exact hbn, hg.put _ (by omega)⟩
          · -- no h17
            have hb9 : h = (spellsOf s0.sp r)[i].2 := by (have h9 : ¬ (h : Int) < ((spellsOf s0.sp r)[i].2 : Int) := by simpa using h17); omega
            refine Ok.exit ?_
            refine Ok.region ?_
            refine OkO.move rfl rfl ?_
            refine OkO.bin rfl rfl rfl (bin_add (by omega) (by omega)) ?_
            refine OkO.assign rfl rfl ?_
            refine OkO.nil ?_
            refine ⟨(spellsOf s0.sp r).length - (i + 1), by omega, i + 1, rfl, by omega, ?_, Has.of (by kernel_rfl), rfl, hx9, hbn, hg⟩
            have e9 : (spellsOf s0.sp r).take (i + 1) = (spellsOf s0.sp r).take i ++ [(spellsOf s0.sp r)[i]] := List.take_succ_eq_append_getElem hlt
            rw [e9, ← onL_next, ← hb9]
            exact hon
      · -- no h3
        have hge : (spellsOf s0.sp r).length ≤ i := by simp at h3; omega
        rw [List.take_of_length_le hge] at hon ebo
        refine Ok.exit ?_
        refine Ok.seq ?_
        refine Ok.seq ?_
        refine Ok.region ?_
        refine OkO.assign rfl rfl ?_
        refine OkO.nil ?_
        refine Ok.block ?_
        clear hgn eb0 eb1 ebo
        refine Ok.loop (fun n s => ∃ k : Nat, n = s0.sp.length - k ∧ k ≤ s0.sp.length ∧ s.H.get Hb.next = some (.cells ((onL s0.sp.length (spellsOf s0.sp r) 0 0).map I) 3) ∧ Has 8 [(2, .ptr W.next 0), (3, .ptr (W.next + 1) 0), (7, I (s0.sp.length : Int)), (8, .slice Hb.next 0 s0.sp.length s0.sp.length), (11, I (k : Int))] s.T ∧ s.D = [] ∧ Ext Hb s.H ∧ Hb.next < s.H.next ∧ Grow W s.H) (s0.sp.length) (by unfold loopFuel; omega)
          ⟨0, rfl, Nat.zero_le _, hon, Has.of (by kernel_rfl), rfl, hx9, hbn, hg⟩ ?_
        rintro n ⟨T, D, G⟩ ⟨k, hn3, hk, hon, ⟨f, hT⟩, hD, hx9, hbn, hg⟩
        dsimp only at *
        subst hT hD
        have hgn := hg.next
        have eb0 : (G.get W.next).bind AObj.cs = some [sv, .bool s0.fell] := by rw [hx9.get _ (by omega)]; exact a2
        have eb1 : (G.get (W.next + 1)).bind AObj.cs = some r.c := by rw [hx9.get _ (by omega)]; exact bb2
        have ebo : (G.get Hb.next).bind AObj.cs = some ((onL s0.sp.length (spellsOf s0.sp r) 0 0).map I) := by rw [hon]; rfl
        refine Ok.seq ?_
        refine Ok.seq ?_
        refine Ok.region ?_
        refine OkO.move rfl rfl ?_
        refine OkO.move rfl rfl ?_
        refine OkO.bin rfl rfl rfl (bin_lss _ _) ?_
        refine OkO.nil ?_
        refine Ok.cond rfl (fun h20 => ?_) (fun h20 => ?_)
        · -- yes h20
          have hkn : k < s0.sp.length := by simpa using h20
          have on1 : ((onL s0.sp.length (spellsOf s0.sp r) 0 0).map I)[0 + k * 1]? = some (I ((cnt (spellsOf s0.sp r) k : Nat) : Int)) := by rw [Nat.zero_add, Nat.mul_one, List.getElem?_map, onL_get hkn, if_neg (by omega)]; rfl
          have hc9 : cnt (spellsOf s0.sp r) k ≤ 1 := cnt_one (spells_sorted hrf.2.2.1 s0.sp.length 0 (by omega))
          obtain ⟨gb, go, gcs, g1, g2q, g3, g6⟩ := hU.at' (k) hkn
          have g2 : (G.get gb).bind AObj.cs = some gcs := by rw [(hE _ hg).get _ g6]; exact g2q
          refine Ok.skip ?_
          refine Ok.seq ?_
          refine Ok.block ?_
          refine Ok.seq ?_
          refine Ok.drawn [(0, true, []), (1, true, []), (2, true, []), (3, true, []), (4, true, []), (5, true, []), (6, true, []), (7, true, []), (8, true, []), (9, true, []), (10, true, []), (11, true, []), (12, true, []), (13, true, []), (14, true, []), (15, true, []), (16, true, []), (17, true, []), (18, true, []), (19, true, []), (20, true, []), (21, true, [])] (by kernel_rfl) ?_
          refine OkP.step ?_
          refine OkO.move rfl rfl ?_
          refine OkO.nil ⟨rfl, ?_⟩
          refine OkP.step ?_
          refine OkO.move rfl rfl ?_
          refine OkO.nil ⟨rfl, ?_⟩
          refine OkP.step ?_
          refine OkO.index (sz := 1) (n := k) rfl rfl rfl (by kernel_rfl) (by first | assumption | rfl | exact slAt_slice (by omega) | exact slAt_opn (by omega)) ?_ -- index ('Go.Operand.tmp', 193) ('Go.Operand.tmp', 194)
          refine OkO.nil ⟨rfl, ?_⟩
          refine OkP.step ?_
          refine OkO.load rfl rfl (lda (n := 1) (by kernel_rfl) (by first | assumption | (simp (disch := first | omega | (simp only [hNw, hPt]; omega)) only [gn0, gn1, gn2, gn3, gn4, gn5, gp0, gno, gpo] <;> first | rfl | assumption | exact gp0 _ _ _ | exact gn0 _ _)) (by first | rfl | assumption)) ?_
          refine OkO.nil ⟨rfl, ?_⟩
          refine OkP.step ?_
          refine OkO.bin rfl rfl rfl (bin_gtr _ _) ?_
          refine OkO.nil ⟨rfl, ?_⟩
          refine OkP.step ?_
          refine OkO.move rfl rfl ?_
          refine OkO.nil ⟨rfl, ?_⟩
          refine OkP.split (d := 198) rfl (fun g21 => ?_) (fun g21 => ?_)
          · -- true g21
            exact absurd g21 (by simp; omega)
          · -- false g21
            refine OkP.step ?_
            refine OkO.fieldAddr (o := 0) rfl (by kernel_rfl) rfl ?_
            refine OkO.nil ⟨rfl, ?_⟩
            refine OkP.step ?_
            refine OkO.load rfl rfl (lda (n := 1) (by kernel_rfl) (by first | assumption | (simp (disch := first | omega | (simp only [hNw, hPt]; omega)) only [gn0, gn1, gn2, gn3, gn4, gn5, gp0, gno, gpo] <;> first | rfl | assumption | exact gp0 _ _ _ | exact gn0 _ _)) (by first | rfl | assumption)) ?_
            refine OkO.nil ⟨rfl, ?_⟩
            refine OkP.step ?_
            refine OkO.move rfl rfl ?_
            refine OkO.nil ⟨rfl, ?_⟩
            refine OkP.step ?_
            refine OkO.index (sz := 1) (n := k) rfl rfl rfl (by kernel_rfl) (by first | assumption | rfl | exact slAt_slice (by omega) | exact slAt_opn (by omega)) ?_ -- index ('Go.Operand.tmp', 200) ('Go.Operand.tmp', 201)
            refine OkO.nil ⟨rfl, ?_⟩
            refine OkP.step ?_
            refine OkO.load rfl rfl (lda (n := 1) (by kernel_rfl) (by first | assumption | (simp (disch := first | omega | (simp only [hNw, hPt]; omega)) only [gn0, gn1, gn2, gn3, gn4, gn5, gp0, gno, gpo] <;> first | rfl | assumption | exact gp0 _ _ _ | exact gn0 _ _)) (by first | rfl | assumption)) ?_
            refine OkO.nil ⟨rfl, ?_⟩
            refine OkP.step ?_
            refine OkO.fieldAddr (o := 0) rfl (by kernel_rfl) rfl ?_
            refine OkO.nil ⟨rfl, ?_⟩
            refine OkP.step ?_
            refine OkO.load rfl rfl (lda (n := 1) (by kernel_rfl) (by first | assumption | (simp (disch := first | omega | (simp only [hNw, hPt]; omega)) only [gn0, gn1, gn2, gn3, gn4, gn5, gp0, gno, gpo] <;> first | rfl | assumption | exact gp0 _ _ _ | exact gn0 _ _)) (by first | rfl | assumption)) ?_
            refine OkO.nil ⟨rfl, ?_⟩
            refine OkP.step ?_
            refine OkO.bin rfl rfl rfl (bin_geq _ _) ?_
            refine OkO.nil ⟨rfl, ?_⟩
            refine OkP.step ?_
            refine OkO.move rfl rfl ?_
            refine OkO.nil ⟨rfl, ?_⟩
            refine OkP.split (d := 207) rfl (fun g22 => ?_) (fun g22 => ?_)
            · -- true g22
              obtain ⟨pp, pm, pq1, pq2⟩ := spells_cover hrf.2.2.1 s0.sp.length 0 (by omega) k _ (Nat.zero_le _) (List.getElem?_eq_getElem hkn) (by simpa using g22)
              have hc8 := cnt_pos (L := spellsOf s0.sp r) pm pq1 pq2
              refine OkP.step ?_
              refine OkO.move rfl rfl ?_
              refine OkO.nil ⟨rfl, ?_⟩
              refine OkP.step ?_
              refine OkO.move rfl rfl ?_
              refine OkO.nil ⟨rfl, ?_⟩
              refine OkP.step ?_
              refine OkO.index (sz := 1) (n := k) rfl rfl rfl (by kernel_rfl) (by first | assumption | rfl | exact slAt_slice (by omega) | exact slAt_opn (by omega)) ?_ -- index ('Go.Operand.tmp', 208) ('Go.Operand.tmp', 209)
              refine OkO.nil ⟨rfl, ?_⟩
              refine OkP.step ?_
              refine OkO.load rfl rfl (lda (n := 1) (by kernel_rfl) (by first | assumption | (simp (disch := first | omega | (simp only [hNw, hPt]; omega)) only [gn0, gn1, gn2, gn3, gn4, gn5, gp0, gno, gpo] <;> first | rfl | assumption | exact gp0 _ _ _ | exact gn0 _ _)) (by first | rfl | assumption)) ?_
              refine OkO.nil ⟨rfl, ?_⟩
              refine OkP.step ?_
              refine OkO.bin rfl rfl rfl (bin_eql _ _) ?_
              refine OkO.nil ⟨rfl, ?_⟩
              refine OkP.step ?_
              refine OkO.pick (b := true) rfl rfl (fun _ => rfl) nofun ?_
              refine OkO.nil ⟨rfl, ?_⟩
              refine OkP.step ?_
              refine OkO.pick (b := false) rfl rfl nofun (fun _ => rfl) ?_
              refine OkO.nil ⟨rfl, ?_⟩
              refine OkP.nil ?_
              refine Ok.cond rfl (fun h23 => ?_) (fun h23 => ?_)
              · -- yes h23
                exact absurd h23 (by simp; omega)
              · -- no h23
                refine Ok.skip ?_
                refine Ok.region ?_
                refine OkO.move rfl rfl ?_
                refine OkO.bin rfl rfl rfl (bin_add (by omega) (by omega)) ?_
                refine OkO.assign rfl rfl ?_
                refine OkO.nil ?_
                refine ⟨s0.sp.length - (k + 1), by omega, k + 1, rfl, by omega, hon, Has.of (by kernel_rfl), rfl, hx9, hbn, hg⟩
            · -- false g22
              refine OkP.step ?_
              refine OkO.skip rfl ?_
              refine OkO.nil ⟨rfl, ?_⟩
              refine OkP.step ?_
              refine OkO.skip rfl ?_
              refine OkO.nil ⟨rfl, ?_⟩
              refine OkP.step ?_
              refine OkO.skip rfl ?_
              refine OkO.nil ⟨rfl, ?_⟩
              refine OkP.step ?_
              refine OkO.skip rfl ?_
              refine OkO.nil ⟨rfl, ?_⟩
              refine OkP.step ?_
              refine OkO.skip rfl ?_
              refine OkO.nil ⟨rfl, ?_⟩
              refine OkP.step ?_
              refine OkO.pick (b := false) rfl rfl nofun (fun _ => rfl) ?_
              refine OkO.nil ⟨rfl, ?_⟩
              refine OkP.step ?_
              refine OkO.pick (b := false) rfl rfl nofun (fun _ => rfl) ?_
              refine OkO.nil ⟨rfl, ?_⟩
              refine OkP.nil ?_
              refine Ok.condF rfl ?_
              refine Ok.skip ?_
              refine Ok.region ?_
              refine OkO.move rfl rfl ?_
              refine OkO.bin rfl rfl rfl (bin_add (by omega) (by omega)) ?_
              refine OkO.assign rfl rfl ?_
              refine OkO.nil ?_
              refine ⟨s0.sp.length - (k + 1), by omega, k + 1, rfl, by omega, hon, Has.of (by kernel_rfl), rfl, hx9, hbn, hg⟩
        · -- no h20
          refine Ok.exit ?_
          refine Ok.seq ?_
          refine Ok.region ?_
          refine OkO.callV rfl rfl rfl rfl rfl (rfl) ?_ -- "sackung/sackunglaw04.awake"
          refine OkO.assign rfl rfl ?_
          refine OkO.nil ?_
          refine Ok.ret ⟨.inr rfl, ?_⟩
          exact back_flat rfl rfl rfl (by rw [← hW]; exact hg)
theorem c14W (m : Nat) (sv : AV) (s0 : Sea) (r : Rul) (H : Heap) (hU : Ints H sv s0.sp) (hl9 : s0.sp.length ≤ 65 ∨ True) (hbad : ¬ ((s0.sp.length : Int) ≤ 65 ∧ seasErr [s0] = 0 ∧ r.ok = true)) : RR (m + 9) (.fn 14 [.agg [sv, .bool s0.fell], .agg r.c]) H = some (.bool true, H) := by
  refine (R_fn _ _ _ _ _).trans ?_
  refine fn_ok Try.func14 rfl rfl (by kernel_rfl) (by kernel_rfl) ?_
  obtain ⟨W, hW⟩ : ∃ W : Heap, W = ⟨H.t, H.next, H.next⟩ := ⟨_, rfl⟩
  have hg : ∀ n, W.get n = H.get n := fun n => by rw [hW]; rfl
  have hN : W.next = H.next := by rw [hW]
  have hE : ∀ G, Grow W G → Ext H G := fun G g => ⟨by rw [← hN]; exact g.next, fun n k => by rw [g.get n (by rw [hN]; exact k), hg]⟩
  have hG : Grow W W := Grow.refl (by rw [hW]; exact Nat.le_refl _)
  rw [← hW]
  have hlen := hU.len
  have pb : sv.plain = true := lpl hlen
  have ps : AV.plain (.agg [sv, .bool s0.fell]) = true := by simp [AV.plain, AV.plains, pb]
  refine Ok.seq ?_
  refine Ok.region ?_
  refine OkO.box rfl rfl ?_
  refine OkO.box rfl rfl ?_
  refine OkO.assign rfl rfl ?_
  refine OkO.nil ?_
  refine Ok.seq ?_
  refine Ok.seq ?_
  refine Ok.region ?_
  refine OkO.fieldAddr (o := 0) rfl (by kernel_rfl) rfl ?_
  refine OkO.load rfl rfl (lda (n := 1) (by kernel_rfl) (by first | assumption | (simp (disch := first | omega | (simp only [hNw, hPt]; omega)) only [gn0, gn1, gn2, gn3, gn4, gn5, gp0, gno, gpo] <;> first | rfl | assumption | exact gp0 _ _ _ | exact gn0 _ _)) (by first | rfl | assumption)) ?_
  refine OkO.builtin rfl rfl rfl (bln (by kernel_rfl) (by first | assumption | rfl)) ?_
  refine OkO.bin rfl rfl rfl (bin_gtr _ _) ?_
  refine OkO.move rfl rfl ?_
  refine OkO.split (d := 16) rfl (fun g1 => ?_) (fun g1 => ?_)
  · -- true g1
    refine OkO.skip rfl ?_
    refine OkO.skip rfl ?_
    refine OkO.skip rfl ?_
    refine OkO.skip rfl ?_
    refine OkO.pick (b := true) rfl rfl (fun _ => rfl) nofun ?_
    refine OkO.move rfl rfl ?_
    refine OkO.skip rfl ?_
    refine OkO.skip rfl ?_
    refine OkO.skip rfl ?_
    refine OkO.pick (b := true) rfl rfl (fun _ => rfl) nofun ?_
    refine OkO.nil ?_
    refine Ok.condT rfl ?_
    refine Ok.seq ?_
    refine Ok.region ?_
    refine OkO.callV rfl rfl rfl rfl rfl (rfl) ?_ -- "sackung/sackunglaw04.awake"
    refine OkO.assign rfl rfl ?_
    refine OkO.nil ?_
    refine Ok.ret ⟨.inr rfl, ?_⟩
    exact back_flat rfl rfl rfl (by rw [← hW]; exact (by (try dsimp only); repeat (first | exact hG | apply Grow.new | (refine Grow.put ?_ _ (by first | omega | (simp only [hNw, hPt]; omega))))))
  · -- false g1
    have q1 : (s0.sp.length : Int) ≤ 65 := by simpa using g1
    refine OkO.load rfl rfl (ldg (n := 2) (by kernel_rfl) (by first | assumption | (simp (disch := first | omega | (simp only [hNw, hPt]; omega)) only [gn0, gn1, gn2, gn3, gn4, gn5, gp0, gno, gpo] <;> first | rfl | assumption | exact gp0 _ _ _ | exact gn0 _ _)) (by first | rfl | assumption)) ?_
    refine OkO.buildSlice (el := 60) (sz := 2) (z := [.nils, .bool false]) rfl (by kernel_rfl) (by decide) rfl rfl ?_
    refine OkO.callV rfl rfl rfl rfl rfl ((c40 (m + 6) _ [s0] _ (SeasAt.one (ty := 60) (by first | assumption | (simp (disch := first | omega | (simp only [hNw, hPt]; omega)) only [gn0, gn1, gn2, gn3, gn4, gn5, gp0, gno, gpo] <;> first | rfl | assumption | exact gp0 _ _ _ | exact gn0 _ _)) (by simp only [hNw]; omega) (hU.ext (hE _ (by (try dsimp only); repeat (first | exact hG | apply Grow.new | (refine Grow.put ?_ _ (by first | omega | (simp only [hNw, hPt]; omega)))))))) (by simp) (by simp; omega))) ?_ -- "sackung/sackungref04.SeasonsFault"
    refine OkO.bin rfl rfl rfl (bin_neq _ _) ?_
    refine OkO.pick (b := false) rfl rfl nofun (fun _ => rfl) ?_
    refine OkO.move rfl rfl ?_
    refine OkO.split (d := 22) rfl (fun g2 => ?_) (fun g2 => ?_)
    · -- true g2
      refine OkO.skip rfl ?_
      refine OkO.skip rfl ?_
      refine OkO.skip rfl ?_
      refine OkO.pick (b := true) rfl rfl (fun _ => rfl) nofun ?_
      refine OkO.nil ?_
      refine Ok.condT rfl ?_
      refine Ok.seq ?_
      refine Ok.region ?_
      refine OkO.callV rfl rfl rfl rfl rfl (rfl) ?_ -- "sackung/sackunglaw04.awake"
      refine OkO.assign rfl rfl ?_
      refine OkO.nil ?_
      refine Ok.ret ⟨.inr rfl, ?_⟩
      exact back_flat rfl rfl rfl (by rw [← hW]; exact (by (try dsimp only); repeat (first | exact hG | apply Grow.new | (refine Grow.put ?_ _ (by first | omega | (simp only [hNw, hPt]; omega))))))
    · -- false g2
      have q2 : seasErr [s0] = 0 := by simpa using g2
      refine OkO.load rfl rfl (ldg (n := 3) (by kernel_rfl) (by first | assumption | (simp (disch := first | omega | (simp only [hNw, hPt]; omega)) only [gn0, gn1, gn2, gn3, gn4, gn5, gp0, gno, gpo] <;> first | rfl | assumption | exact gp0 _ _ _ | exact gn0 _ _)) (by first | rfl | assumption)) ?_
      refine OkO.callV rfl rfl rfl rfl rfl (c41 (m + 6) r _) ?_ -- "sackung/sackungref04.RightRule"
      refine OkO.un rfl rfl rfl ?_
      refine OkO.pick (b := false) rfl rfl nofun (fun _ => rfl) ?_
      refine OkO.nil ?_
      refine Ok.cond rfl (fun h3 => ?_) (fun h3 => ?_)
      · -- yes h3
        refine Ok.seq ?_
        refine Ok.region ?_
        refine OkO.callV rfl rfl rfl rfl rfl (rfl) ?_ -- "sackung/sackunglaw04.awake"
        refine OkO.assign rfl rfl ?_
        refine OkO.nil ?_
        refine Ok.ret ⟨.inr rfl, ?_⟩
        exact back_flat rfl rfl rfl (by rw [← hW]; exact (by (try dsimp only); repeat (first | exact hG | apply Grow.new | (refine Grow.put ?_ _ (by first | omega | (simp only [hNw, hPt]; omega))))))
      · -- no h3
        have q3 : r.ok = true := by simpa using h3
        exact absurd ⟨q1, q2, q3⟩ hbad
theorem c14 (m : Nat) (sv : AV) (s : Sea) (r : Rul) (H : Heap) (hU : Ints H sv s.sp) : RR (m + 9) (.fn 14 [.agg [sv, .bool s.fell], .agg r.c]) H = some (.bool true, H) := by
  by_cases h : (s.sp.length : Int) ≤ 65 ∧ seasErr [s] = 0 ∧ r.ok = true
  · exact c14K m sv s r H hU h.1 h.2.1 h.2.2
  · exact c14W m sv s r H hU (.inr trivial) h
end
end Go.Ev

