/-
  Functions of the program, reckoned by the evaluator: what each answers, and that it leaves what came in as it was (part 27).
-/
import Derived.Test.YtibplmibcbillaaV20
import Derived.Test.YtibplmibcbillaaV25
set_option maxRecDepth 100000
set_option linter.unusedSimpArgs false
set_option linter.unusedVariables false
namespace Go.Ev
open Go Go.Proofs
noncomputable section
theorem c24w (m : Nat) (cv dv : AV) (cs : List Cell) (g : Gr) (ds : List Day) (H : Heap) (hR : Row H cv 7 (cs.map Cell.c)) (hbig : cs.length ≤ 1000000) (hY : Row H dv 3 (ds.map Day.c)) (hbd : ds.length ≤ 1000000) {e : Int} (hk : daysErr cs g ds = e) : RR (m + 4) (.fn 24 [.agg [cv, I g.slo, I g.shi, I g.klo, I g.khi, I g.melt], dv]) H = some (I e, H) := by
  have e1 := c24 m cv dv cs g ds H hR hbig hY hbd
  rw [hk] at e1
  exact e1
theorem c28w (m : Nat) (cv dv : AV) (cs : List Cell) (g : Gr) (ds : List Day) (H : Heap) (hR : Row H cv 7 (cs.map Cell.c)) (hbig : cs.length ≤ 1000000) (hY : Row H dv 3 (ds.map Day.c)) (hbd : ds.length ≤ 1000000) {e : Int} (hk : daysErr cs g ds = e) (he : ¬e = 0) : RR (m + 7) (.fn 28 [.agg [cv, I g.slo, I g.shi, I g.klo, I g.khi, I g.melt], dv]) H = some (.tup [.nils, .nils, I e], H) := by
  have e1 := c28E m cv dv cs g ds H hR hbig hY hbd (by rw [hk]; exact he)
  rw [hk] at e1
  exact e1
theorem c4E (m : Nat) (cv dv : AV) (cs : List Cell) (g : Gr) (ds : List Day) (H : Heap) (hR : Row H cv 7 (cs.map Cell.c)) (hY : Row H dv 3 (ds.map Day.c)) {e : Int} (hde : daysErr cs g ds = e) (he : ¬e = 0) : RR (m + 40) (.fn 4 [.agg [cv, I g.slo, I g.shi, I g.klo, I g.khi, I g.melt], dv]) H = some (.bool true, H) := by
  refine (R_fn _ _ _ _ _).trans ?_
  refine fn_ok Try.func4 rfl rfl (by kernel_rfl) (by kernel_rfl) ?_
  obtain ⟨W, hW⟩ : ∃ W : Heap, W = ⟨H.t, H.next, H.next⟩ := ⟨_, rfl⟩
  have hg : ∀ n, W.get n = H.get n := fun n => by rw [hW]; rfl
  have hN : W.next = H.next := by rw [hW]
  have hE : ∀ G, Grow W G → Ext H G := fun G g => ⟨by rw [← hN]; exact g.next, fun n k => by rw [g.get n (by rw [hN]; exact k), hg]⟩
  have hG : Grow W W := Grow.refl (by rw [hW]; exact Nat.le_refl _)
  rw [← hW]
  have hlc : lenOf cv = some cs.length := by simpa using hR.len
  have hld : lenOf dv = some ds.length := by simpa using hY.len
  have pc := lpl hlc
  refine Ok.seq ?_
  refine Ok.region ?_
  refine OkO.box rfl rfl ?_
  refine OkO.assign rfl rfl ?_
  refine OkO.nil ?_
  refine Ok.seq ?_
  refine Ok.seq ?_
  refine Ok.region ?_
  refine OkO.load rfl rfl (ldg (n := 6) (by kernel_rfl) (by first | assumption | (simp (disch := first | omega | (simp only [hNw, hPt]; omega)) only [gn0, gn1, gn2, gn3, gn4, gn5, gp0, gno, gpo] <;> first | rfl | assumption)) (by first | rfl | assumption)) ?_
  refine OkO.move rfl rfl ?_
  refine OkO.callV rfl rfl rfl rfl rfl (c16 (m + 38) cv dv cs g ds _ (hR.ext (hE _ (by (try dsimp only); repeat (first | exact hG | apply Grow.new | (refine Grow.put ?_ _ (by first | omega | (simp only [hNw, hPt]; omega))))))) (hY.ext (hE _ (by (try dsimp only); repeat (first | exact hG | apply Grow.new | (refine Grow.put ?_ _ (by first | omega | (simp only [hNw, hPt]; omega)))))))) ?_ -- "sackung/sackunglaw02.Thin"
  refine OkO.un rfl rfl rfl ?_
  refine OkO.nil ?_
  refine Ok.cond rfl (fun h1 => ?_) (fun h1 => ?_)
  · -- yes h1
    refine Ok.seq ?_
    refine Ok.region ?_
    refine OkO.callV rfl rfl rfl rfl rfl (rfl) ?_ -- "sackung/sackunglaw02.wakes"
    refine OkO.assign rfl rfl ?_
    refine OkO.nil ?_
    refine Ok.ret ⟨.inr rfl, ?_⟩
    exact back_flat rfl (congrArg AV.bool rfl) rfl (by rw [← hW]; exact (by (try dsimp only); repeat (first | exact hG | apply Grow.new | (refine Grow.put ?_ _ (by first | omega | (simp only [hNw, hPt]; omega))))))
  · -- no h1
    have hth : thinB cs ds = true := by simpa using h1
    unfold thinB at hth
    rw [Bool.and_eq_true] at hth
    have th1 := of_decide_eq_true hth.1
    have th2 := of_decide_eq_true hth.2
    refine Ok.skip ?_
    refine Ok.seq ?_
    refine Ok.region ?_
    refine OkO.load rfl rfl (ldg (n := 6) (by kernel_rfl) (by first | assumption | (simp (disch := first | omega | (simp only [hNw, hPt]; omega)) only [gn0, gn1, gn2, gn3, gn4, gn5, gp0, gno, gpo] <;> first | rfl | assumption)) (by first | rfl | assumption)) ?_
    refine OkO.callE rfl rfl rfl rfl rfl (c19 (m + 37) cv cs g _ (hR.ext (hE _ (by (try dsimp only); repeat (first | exact hG | apply Grow.new | (refine Grow.put ?_ _ (by first | omega | (simp only [hNw, hPt]; omega))))))) (by omega)) ?_ -- "sackung/sackunglaw02.Ground"
    rintro vA HA ⟨cvA, rfl, qA, rA, atA⟩
    have gA : Grow W HA := Grow.ret (by (try dsimp only); repeat (first | exact hG | apply Grow.new | (refine Grow.put ?_ _ (by first | omega | (simp only [hNw, hPt]; omega))))) qA
    have nA : W.next + 1 ≤ HA.next := by have := qA.ext.next; first | omega | (simp only [hNw] at this; omega)
    have aA : (HA.get W.next).bind AObj.cs = some [cv, I g.slo, I g.shi, I g.klo, I g.khi, I g.melt] := by rw [qA.ext.get _ (by first | omega | (simp only [hNw]; omega))]; first | assumption | (simp (disch := first | omega | (simp only [hNw, hPt]; omega)) only [gn0, gn1, gn2, gn3, gn4, gn5, gp0, gno, gpo] <;> first | rfl | assumption)
    refine OkO.move rfl rfl ?_
    refine OkO.callE rfl rfl rfl rfl rfl (c21 (m + 37) dv ds _ (hY.ext (hE _ gA)) (by omega)) ?_ -- "sackung/sackunglaw02.Days"
    rintro dvB HB ⟨qB, rB, atB⟩
    have gB : Grow W HB := Grow.ret gA qB
    have nB : W.next + 1 ≤ HB.next := by have := qB.ext.next; first | omega | (simp only [hNw] at this; omega)
    have aB : (HB.get W.next).bind AObj.cs = some [cv, I g.slo, I g.shi, I g.klo, I g.khi, I g.melt] := by rw [qB.ext.get _ (by first | omega | (simp only [hNw]; omega))]; first | assumption | (simp (disch := first | omega | (simp only [hNw, hPt]; omega)) only [gn0, gn1, gn2, gn3, gn4, gn5, gp0, gno, gpo] <;> first | rfl | assumption)
    refine OkO.callV rfl rfl rfl rfl rfl (c28w (m + 32) cvA dvB cs g ds _ (rA.ext qB.ext) (by omega) rB (by omega) hde he) ?_ -- "sackung/water.Levels"
    refine OkO.move rfl rfl ?_
    refine OkO.extract rfl rfl rfl ?_
    refine OkO.extract rfl rfl rfl ?_
    refine OkO.extract rfl rfl rfl ?_
    refine OkO.assign rfl rfl ?_
    refine OkO.assign rfl rfl ?_
    refine OkO.assign rfl rfl ?_
    refine OkO.nil ?_
    refine Ok.seq ?_
    refine Ok.seq ?_
    refine Ok.region ?_
    refine OkO.load rfl rfl (ldg (n := 6) (by kernel_rfl) (by first | assumption | (simp (disch := first | omega | (simp only [hNw, hPt]; omega)) only [gn0, gn1, gn2, gn3, gn4, gn5, gp0, gno, gpo] <;> first | rfl | assumption)) (by first | rfl | assumption)) ?_
    refine OkO.move rfl rfl ?_
    refine OkO.callV rfl rfl rfl rfl rfl (c24w (m + 35) cv dv cs g ds _ (hR.ext (hE _ gB)) (by omega) (hY.ext (hE _ gB)) (by omega) hde) ?_ -- "sackung/sackunglaw02.fault"
    refine OkO.assign rfl rfl ?_
    refine OkO.nil ?_
    refine Ok.seq ?_
    refine Ok.region ?_
    refine OkO.move rfl rfl ?_
    refine OkO.bin rfl rfl rfl (bin_neq _ _) ?_
    refine OkO.nil ?_
    refine Ok.cond rfl (fun h2 => ?_) (fun h2 => ?_)
    · -- yes h2
      refine Ok.seq ?_
      refine Ok.region ?_
      refine OkO.move rfl rfl ?_
      refine OkO.move rfl rfl ?_
      refine OkO.bin rfl rfl rfl (bin_eql _ _) ?_
      refine OkO.move rfl rfl ?_
      refine OkO.split (d := 39) rfl (fun g3 => ?_) (fun g3 => ?_)
      · -- true g3
        refine OkO.move rfl rfl ?_
        refine OkO.builtin rfl rfl rfl (bln (by kernel_rfl) (by first | assumption | rfl)) ?_
        refine OkO.move rfl rfl ?_
        refine OkO.builtin rfl rfl rfl (bln (by kernel_rfl) (by first | assumption | rfl)) ?_
        refine OkO.bin rfl rfl rfl (bin_add (by omega) (by omega)) ?_
        refine OkO.bin rfl rfl rfl (bin_eql _ _) ?_
        refine OkO.pick (b := true) rfl rfl (fun _ => rfl) nofun ?_
        refine OkO.move rfl rfl ?_
        refine OkO.split (d := 47) rfl (fun g4 => ?_) (fun g4 => ?_)
        · -- true g4
          refine OkO.callV rfl rfl rfl rfl rfl (rfl) ?_ -- "sackung/sackunglaw02.wakes"
          refine OkO.pick (b := true) rfl rfl (fun _ => rfl) nofun ?_
          refine OkO.assign rfl rfl ?_
          refine OkO.nil ?_
          refine Ok.ret ⟨.inr rfl, ?_⟩
          exact back_flat rfl (congrArg AV.bool rfl) rfl (by rw [← hW]; exact gB)
        · -- false g4
          exact absurd g4 (by simp)
      · -- false g3
        exact absurd g3 (by simp)
    · -- no h2
      exact absurd h2 (by simp [he])
theorem c4K (m : Nat) (cv dv : AV) (cs : List Cell) (g : Gr) (ds : List Day) (H : Heap) (hR : Row H cv 7 (cs.map Cell.c)) (hY : Row H dv 3 (ds.map Day.c)) (hde : daysErr cs g ds = 0) : RR (m + 40) (.fn 4 [.agg [cv, I g.slo, I g.shi, I g.klo, I g.khi, I g.melt], dv]) H = some (.bool true, H) := by
  refine (R_fn _ _ _ _ _).trans ?_
  refine fn_ok Try.func4 rfl rfl (by kernel_rfl) (by kernel_rfl) ?_
  obtain ⟨W, hW⟩ : ∃ W : Heap, W = ⟨H.t, H.next, H.next⟩ := ⟨_, rfl⟩
  have hg : ∀ n, W.get n = H.get n := fun n => by rw [hW]; rfl
  have hN : W.next = H.next := by rw [hW]
  have hE : ∀ G, Grow W G → Ext H G := fun G g => ⟨by rw [← hN]; exact g.next, fun n k => by rw [g.get n (by rw [hN]; exact k), hg]⟩
  have hG : Grow W W := Grow.refl (by rw [hW]; exact Nat.le_refl _)
  rw [← hW]
  have hlc : lenOf cv = some cs.length := by simpa using hR.len
  have hld : lenOf dv = some ds.length := by simpa using hY.len
  have pc := lpl hlc
  have hFl := fit_of (low_ok hde)
  have hFh := fit_of (high_ok hde)
  have hn8 := hFl.n8
  have hd30 := hFl.d30
  refine Ok.seq ?_
  refine Ok.region ?_
  refine OkO.box rfl rfl ?_
  refine OkO.assign rfl rfl ?_
  refine OkO.nil ?_
  refine Ok.seq ?_
  refine Ok.seq ?_
  refine Ok.region ?_
  refine OkO.load rfl rfl (ldg (n := 6) (by kernel_rfl) (by first | assumption | (simp (disch := first | omega | (simp only [hNw, hPt]; omega)) only [gn0, gn1, gn2, gn3, gn4, gn5, gp0, gno, gpo] <;> first | rfl | assumption)) (by first | rfl | assumption)) ?_
  refine OkO.move rfl rfl ?_
  refine OkO.callV rfl rfl rfl rfl rfl (c16 (m + 38) cv dv cs g ds _ (hR.ext (hE _ (by (try dsimp only); repeat (first | exact hG | apply Grow.new | (refine Grow.put ?_ _ (by first | omega | (simp only [hNw, hPt]; omega))))))) (hY.ext (hE _ (by (try dsimp only); repeat (first | exact hG | apply Grow.new | (refine Grow.put ?_ _ (by first | omega | (simp only [hNw, hPt]; omega)))))))) ?_ -- "sackung/sackunglaw02.Thin"
  refine OkO.un rfl rfl rfl ?_
  refine OkO.nil ?_
  refine Ok.cond rfl (fun h1 => ?_) (fun h1 => ?_)
  · -- yes h1
    refine Ok.seq ?_
    refine Ok.region ?_
    refine OkO.callV rfl rfl rfl rfl rfl (rfl) ?_ -- "sackung/sackunglaw02.wakes"
    refine OkO.assign rfl rfl ?_
    refine OkO.nil ?_
    refine Ok.ret ⟨.inr rfl, ?_⟩
    exact back_flat rfl (congrArg AV.bool rfl) rfl (by rw [← hW]; exact (by (try dsimp only); repeat (first | exact hG | apply Grow.new | (refine Grow.put ?_ _ (by first | omega | (simp only [hNw, hPt]; omega))))))
  · -- no h1
    have hth : thinB cs ds = true := by simpa using h1
    unfold thinB at hth
    rw [Bool.and_eq_true] at hth
    have th1 := of_decide_eq_true hth.1
    have th2 := of_decide_eq_true hth.2
    refine Ok.skip ?_
    refine Ok.seq ?_
    refine Ok.region ?_
    refine OkO.load rfl rfl (ldg (n := 6) (by kernel_rfl) (by first | assumption | (simp (disch := first | omega | (simp only [hNw, hPt]; omega)) only [gn0, gn1, gn2, gn3, gn4, gn5, gp0, gno, gpo] <;> first | rfl | assumption)) (by first | rfl | assumption)) ?_
    refine OkO.callE rfl rfl rfl rfl rfl (c19 (m + 37) cv cs g _ (hR.ext (hE _ (by (try dsimp only); repeat (first | exact hG | apply Grow.new | (refine Grow.put ?_ _ (by first | omega | (simp only [hNw, hPt]; omega))))))) (by omega)) ?_ -- "sackung/sackunglaw02.Ground"
    rintro vA HA ⟨cvA, rfl, qA, rA, atA⟩
    have gA : Grow W HA := Grow.ret (by (try dsimp only); repeat (first | exact hG | apply Grow.new | (refine Grow.put ?_ _ (by first | omega | (simp only [hNw, hPt]; omega))))) qA
    have nA : W.next + 1 ≤ HA.next := by have := qA.ext.next; first | omega | (simp only [hNw] at this; omega)
    have aA : (HA.get W.next).bind AObj.cs = some [cv, I g.slo, I g.shi, I g.klo, I g.khi, I g.melt] := by rw [qA.ext.get _ (by first | omega | (simp only [hNw]; omega))]; first | assumption | (simp (disch := first | omega | (simp only [hNw, hPt]; omega)) only [gn0, gn1, gn2, gn3, gn4, gn5, gp0, gno, gpo] <;> first | rfl | assumption)
    refine OkO.move rfl rfl ?_
    refine OkO.callE rfl rfl rfl rfl rfl (c21 (m + 37) dv ds _ (hY.ext (hE _ gA)) (by omega)) ?_ -- "sackung/sackunglaw02.Days"
    rintro dvB HB ⟨qB, rB, atB⟩
    have gB : Grow W HB := Grow.ret gA qB
    have nB : W.next + 1 ≤ HB.next := by have := qB.ext.next; first | omega | (simp only [hNw] at this; omega)
    have aB : (HB.get W.next).bind AObj.cs = some [cv, I g.slo, I g.shi, I g.klo, I g.khi, I g.melt] := by rw [qB.ext.get _ (by first | omega | (simp only [hNw]; omega))]; first | assumption | (simp (disch := first | omega | (simp only [hNw, hPt]; omega)) only [gn0, gn1, gn2, gn3, gn4, gn5, gp0, gno, gpo] <;> first | rfl | assumption)
    refine OkO.callE rfl rfl rfl rfl rfl (c28 (m + 31) cvA dvB cs g ds _ (rA.ext qB.ext) rB atA atB hde) ?_ -- "sackung/water.Levels"
    rintro vL HL ⟨v4, v5, rfl, qL, lsL, inL⟩
    have gL : Grow W HL := Grow.ret gB qL
    have nL : W.next + 1 ≤ HL.next := by have := qL.ext.next; first | omega | (simp only [hNw] at this; omega)
    have aL : (HL.get W.next).bind AObj.cs = some [cv, I g.slo, I g.shi, I g.klo, I g.khi, I g.melt] := by rw [qL.ext.get _ (by first | omega | (simp only [hNw]; omega))]; first | assumption | (simp (disch := first | omega | (simp only [hNw, hPt]; omega)) only [gn0, gn1, gn2, gn3, gn4, gn5, gp0, gno, gpo] <;> first | rfl | assumption)
    obtain ⟨vs, s1, s2, s3⟩ := id lsL
    have k6 : vs.length = ds.length := by rw [s2]; simp [rowsG]
    have l4 : lenOf v4 = some ds.length := by rw [s1.len]; simp [k6]
    have l5 : lenOf v5 = some ds.length := by rw [inL.len]; simp [snG]
    refine OkO.move rfl rfl ?_
    refine OkO.extract rfl rfl rfl ?_
    refine OkO.extract rfl rfl rfl ?_
    refine OkO.extract rfl rfl rfl ?_
    refine OkO.assign rfl rfl ?_
    refine OkO.assign rfl rfl ?_
    refine OkO.assign rfl rfl ?_
    refine OkO.nil ?_
    refine Ok.seq ?_
    refine Ok.seq ?_
    refine Ok.region ?_
    refine OkO.load rfl rfl (ldg (n := 6) (by kernel_rfl) (by first | assumption | (simp (disch := first | omega | (simp only [hNw, hPt]; omega)) only [gn0, gn1, gn2, gn3, gn4, gn5, gp0, gno, gpo] <;> first | rfl | assumption)) (by first | rfl | assumption)) ?_
    refine OkO.move rfl rfl ?_
    refine OkO.callV rfl rfl rfl rfl rfl (c24w (m + 35) cv dv cs g ds _ (hR.ext (hE _ gL)) (by omega) (hY.ext (hE _ gL)) (by omega) hde) ?_ -- "sackung/sackunglaw02.fault"
    refine OkO.assign rfl rfl ?_
    refine OkO.nil ?_
    refine Ok.seq ?_
    refine Ok.region ?_
    refine OkO.move rfl rfl ?_
    refine OkO.bin rfl rfl rfl (bin_neq _ _) ?_
    refine OkO.nil ?_
    refine Ok.cond rfl (fun h2 => ?_) (fun h2 => ?_)
    · -- yes h2
      exact absurd h2 (by simp)
    · -- no h2
      refine Ok.skip ?_
      refine Ok.seq ?_
      refine Ok.seq ?_
      refine Ok.region ?_
      refine OkO.move rfl rfl ?_
      refine OkO.bin rfl rfl rfl (bin_neq _ _) ?_
      refine OkO.move rfl rfl ?_
      refine OkO.split (d := 52) rfl (fun g3 => ?_) (fun g3 => ?_)
      · -- true g3
        exact absurd g3 (by simp)
      · -- false g3
        refine OkO.move rfl rfl ?_
        refine OkO.builtin rfl rfl rfl (bln (by kernel_rfl) (by first | assumption | rfl)) ?_
        refine OkO.move rfl rfl ?_
        refine OkO.builtin rfl rfl rfl (bln (by kernel_rfl) (by first | assumption | rfl)) ?_
        refine OkO.bin rfl rfl rfl (bin_neq _ _) ?_
        refine OkO.pick (b := false) rfl rfl nofun (fun _ => rfl) ?_
        refine OkO.move rfl rfl ?_
        refine OkO.split (d := 59) rfl (fun g4 => ?_) (fun g4 => ?_)
        · -- true g4
          exact absurd g4 (by simp)
        · -- false g4
          refine OkO.move rfl rfl ?_
          refine OkO.builtin rfl rfl rfl (bln (by kernel_rfl) (by first | assumption | rfl)) ?_
          refine OkO.move rfl rfl ?_
          refine OkO.builtin rfl rfl rfl (bln (by kernel_rfl) (by first | assumption | rfl)) ?_
          refine OkO.bin rfl rfl rfl (bin_neq _ _) ?_
          refine OkO.pick (b := false) rfl rfl nofun (fun _ => rfl) ?_
          refine OkO.nil ?_
          refine Ok.cond rfl (fun h5 => ?_) (fun h5 => ?_)
          · -- yes h5
            exact absurd h5 (by simp)
          · -- no h5
            refine Ok.skip ?_
            refine Ok.seq ?_
            refine Ok.seq ?_
            refine Ok.region ?_
            refine OkO.assign rfl rfl ?_
            refine OkO.nil ?_
            refine Ok.block ?_
            refine Ok.loop (fun n s => ∃ i : Nat, n = ds.length - i ∧ i ≤ ds.length ∧ Has 8 [(1, dv), (2, .ptr W.next 0), (5, v4), (6, v5), (9, I (i : Int))] s.T ∧ s.D = [] ∧ Grow W s.H ∧ Ext HL s.H) (ds.length) (by unfold loopFuel; omega)
              ⟨0, rfl, Nat.zero_le _, Has.of (by kernel_rfl), rfl, gL, Ext.refl _⟩ ?_
            rintro n ⟨T, D, G⟩ ⟨i, hn, hi, ⟨f, hT⟩, hD, hg, hx⟩
            dsimp only at *
            subst hT hD
            have hgn := hg.next
            have ea : (G.get W.next).bind AObj.cs = some [cv, I g.slo, I g.shi, I g.klo, I g.khi, I g.melt] := by rw [hx.get _ (by omega)]; exact aL
            refine Ok.seq ?_
            refine Ok.seq ?_
            refine Ok.region ?_
            refine OkO.move rfl rfl ?_
            refine OkO.move rfl rfl ?_
            refine OkO.builtin rfl rfl rfl (bln (by kernel_rfl) (by first | assumption | rfl)) ?_
            refine OkO.bin rfl rfl rfl (bin_lss _ _) ?_
            refine OkO.nil ?_
            refine Ok.cond rfl (fun h6 => ?_) (fun h6 => ?_)
            · -- yes h6
              have hlt : i < ds.length := by simpa using h6
              refine Ok.skip ?_
              refine Ok.seq ?_
              refine Ok.block ?_
              refine Ok.seq ?_
              refine Ok.drawn [(0, true, []), (1, true, []), (2, true, []), (3, true, []), (5, true, []), (6, true, []), (4, false, [0]), (7, false, [2]), (8, true, []), (9, true, []), (10, true, []), (11, true, []), (12, true, []), (13, true, []), (14, true, [])] (by kernel_rfl) ?_
              refine OkP.step ?_
              refine OkO.load rfl rfl (ldg (n := 6) (by kernel_rfl) (by first | assumption | (simp (disch := first | omega | (simp only [hNw, hPt]; omega)) only [gn0, gn1, gn2, gn3, gn4, gn5, gp0, gno, gpo] <;> first | rfl | assumption)) (by first | rfl | assumption)) ?_
              refine OkO.nil ⟨rfl, ?_⟩
              refine OkP.step ?_
              refine OkO.move rfl rfl ?_
              refine OkO.nil ⟨rfl, ?_⟩
              refine OkP.step ?_
              refine OkO.load rfl rfl (ldg (n := 6) (by kernel_rfl) (by first | assumption | (simp (disch := first | omega | (simp only [hNw, hPt]; omega)) only [gn0, gn1, gn2, gn3, gn4, gn5, gp0, gno, gpo] <;> first | rfl | assumption)) (by first | rfl | assumption)) ?_
              refine OkO.nil ⟨rfl, ?_⟩
              refine OkP.step ?_
              refine OkO.move rfl rfl ?_
              refine OkO.nil ⟨rfl, ?_⟩
              refine OkP.step ?_
              refine OkO.move rfl rfl ?_
              refine OkO.nil ⟨rfl, ?_⟩
              refine OkP.step ?_
              refine OkO.bin rfl rfl rfl (bin_add (by omega) (by omega)) ?_
              refine OkO.nil ⟨rfl, ?_⟩
              refine OkP.step ?_
              refine OkO.callE rfl rfl rfl rfl rfl (c29l (m + 38) cv dv cs g ds _ (hR.ext (hE _ hg)) (hY.ext (hE _ hg)) (by omega) (by omega)) ?_ -- "sackung/sackungref02.Ends"
              rintro vU HU ⟨lvU, rvU, rfl, qU, lU, rU⟩
              have gU : Grow W HU := Grow.ret hg qU
              have xU : Ext HL HU := hx.trans qU.ext
              have aU : (HU.get W.next).bind AObj.cs = some [cv, I g.slo, I g.shi, I g.klo, I g.khi, I g.melt] := by rw [xU.get _ (by omega)]; exact aL
              refine OkO.nil ⟨(sco (sld rfl rfl (ldg (n := 6) (by kernel_rfl) (by first | assumption | (simp (disch := first | omega | (simp only [hNw, hPt]; omega)) only [gn0, gn1, gn2, gn3, gn4, gn5, gp0, gno, gpo] <;> first | rfl | assumption)) (by first | rfl | assumption)) rfl (eqr _ (by first | rfl | exact lpl (by assumption) | (simp [AV.plain, AV.plains, AV.cells, pc])))) rfl), ?_⟩
              refine OkP.step ?_
              refine OkO.callE rfl rfl rfl rfl rfl (c26 cv dv lvU rvU cs g ds (lowT g) (lowL cs) (lowR ds) hFl (i + 1) _ _ _ (by omega) (by omega) (by omega) (hR.ext (hE _ gU)) (hY.ext (hE _ gU)) lU rU) ?_ -- "sackung/sackungref02.After"
              rintro vS HS ⟨vp, rfl, qS, inS⟩
              have gS : Grow W HS := Grow.ret gU qS
              have xS : Ext HL HS := xU.trans qS.ext
              have aS : (HS.get W.next).bind AObj.cs = some [cv, I g.slo, I g.shi, I g.klo, I g.khi, I g.melt] := by rw [xS.get _ (by omega)]; exact aL
              refine OkO.nil ⟨(sco (sld rfl rfl (ldg (n := 6) (by kernel_rfl) (by first | assumption | (simp (disch := first | omega | (simp only [hNw, hPt]; omega)) only [gn0, gn1, gn2, gn3, gn4, gn5, gp0, gno, gpo] <;> first | rfl | assumption)) (by first | rfl | assumption)) rfl (eqr _ (by first | rfl | exact lpl (by assumption) | (simp [AV.plain, AV.plains, AV.cells, pc])))) rfl), ?_⟩
              refine OkP.step ?_
              refine OkO.move rfl rfl ?_
              refine OkO.nil ⟨rfl, ?_⟩
              refine OkP.step ?_
              refine OkO.extract rfl rfl rfl ?_
              refine OkO.nil ⟨rfl, ?_⟩
              refine OkP.step ?_
              refine OkO.extract rfl rfl rfl ?_
              refine OkO.nil ⟨rfl, ?_⟩
              refine OkP.step ?_
              refine OkO.extract rfl rfl rfl ?_
              refine OkO.nil ⟨rfl, ?_⟩
              refine OkP.step ?_
              refine OkO.assign rfl rfl ?_
              refine OkO.nil ⟨rfl, ?_⟩
              refine OkP.step ?_
              refine OkO.assign rfl rfl ?_
              refine OkO.nil ⟨rfl, ?_⟩
              refine OkP.step ?_
              refine OkO.assign rfl rfl ?_
              refine OkO.nil ⟨rfl, ?_⟩
              refine OkP.nil ?_
              refine Ok.seq ?_
              refine Ok.drawn [(0, true, []), (1, true, []), (2, true, []), (3, true, []), (5, true, []), (6, true, []), (4, false, [0]), (7, false, [2]), (8, true, []), (9, true, []), (10, true, []), (11, true, []), (12, true, []), (13, true, []), (14, true, [])] (by kernel_rfl) ?_
              refine OkP.step ?_
              refine OkO.load rfl rfl (ldg (n := 6) (by kernel_rfl) (by first | assumption | (simp (disch := first | omega | (simp only [hNw, hPt]; omega)) only [gn0, gn1, gn2, gn3, gn4, gn5, gp0, gno, gpo] <;> first | rfl | assumption)) (by first | rfl | assumption)) ?_
              refine OkO.nil ⟨rfl, ?_⟩
              refine OkP.step ?_
              refine OkO.move rfl rfl ?_
              refine OkO.nil ⟨rfl, ?_⟩
              refine OkP.step ?_
              refine OkO.load rfl rfl (ldg (n := 6) (by kernel_rfl) (by first | assumption | (simp (disch := first | omega | (simp only [hNw, hPt]; omega)) only [gn0, gn1, gn2, gn3, gn4, gn5, gp0, gno, gpo] <;> first | rfl | assumption)) (by first | rfl | assumption)) ?_
              refine OkO.nil ⟨rfl, ?_⟩
              refine OkP.step ?_
              refine OkO.move rfl rfl ?_
              refine OkO.nil ⟨rfl, ?_⟩
              refine OkP.step ?_
              refine OkO.move rfl rfl ?_
              refine OkO.nil ⟨rfl, ?_⟩
              refine OkP.step ?_
              refine OkO.bin rfl rfl rfl (bin_add (by omega) (by omega)) ?_
              refine OkO.nil ⟨rfl, ?_⟩
              refine OkP.step ?_
              refine OkO.callE rfl rfl rfl rfl rfl (c29h (m + 38) cv dv cs g ds _ (hR.ext (hE _ gS)) (hY.ext (hE _ gS)) (by omega) (by omega)) ?_ -- "sackung/sackungref02.Ends"
              rintro vM HM ⟨lvM, rvM, rfl, qM, lM, rM⟩
              have gM : Grow W HM := Grow.ret gS qM
              have xM : Ext HL HM := xS.trans qM.ext
              have aM : (HM.get W.next).bind AObj.cs = some [cv, I g.slo, I g.shi, I g.klo, I g.khi, I g.melt] := by rw [xM.get _ (by omega)]; exact aL
              refine OkO.nil ⟨(sco (sld rfl rfl (ldg (n := 6) (by kernel_rfl) (by first | assumption | (simp (disch := first | omega | (simp only [hNw, hPt]; omega)) only [gn0, gn1, gn2, gn3, gn4, gn5, gp0, gno, gpo] <;> first | rfl | assumption)) (by first | rfl | assumption)) rfl (eqr _ (by first | rfl | exact lpl (by assumption) | (simp [AV.plain, AV.plains, AV.cells, pc])))) rfl), ?_⟩
              refine OkP.step ?_
              refine OkO.callE rfl rfl rfl rfl rfl (c26 cv dv lvM rvM cs g ds (highT g) (highL cs) (highR ds) hFh (i + 1) _ _ _ (by omega) (by omega) (by omega) (hR.ext (hE _ gM)) (hY.ext (hE _ gM)) lM rM) ?_ -- "sackung/sackungref02.After"
              rintro vT HT ⟨vq, rfl, qT, inT⟩
              have gT : Grow W HT := Grow.ret gM qT
              have xT : Ext HL HT := xM.trans qT.ext
              have aT : (HT.get W.next).bind AObj.cs = some [cv, I g.slo, I g.shi, I g.klo, I g.khi, I g.melt] := by rw [xT.get _ (by omega)]; exact aL
              have i1 : i < vs.length := by omega
              obtain ⟨xb, xo, xcs, x1, x2, x3, x4⟩ := (s1.ext xT).at_ i [vs[i]] (by simp [i1])
              have x5 := seg_one x3
              have xr : Row HT vs[i] 2 ((rowG cs g ds i cs.length).map Rg.c) := (s3 i vs[i] _ (List.getElem?_eq_getElem i1) (by rw [rowsG, List.getElem?_map, List.getElem?_range hlt]; rfl)).ext xT
              obtain ⟨yb, yo, ycs, y1, y2, y3, y4⟩ := (inL.ext xT).at_ i [I (snowP g.melt ds (lowR ds) (lowT g).snow (i + 1)), I (snowP g.melt ds (highR ds) (highT g).snow (i + 1))] (by rw [List.getElem?_map, snG, List.getElem?_map, List.getElem?_range hlt]; rfl)
              have y5 : ycs[yo + 0]? = some (I (snowP g.melt ds (lowR ds) (lowT g).snow (i + 1))) := seg_get y3 0 (by omega)
              have y6 : ycs[yo + 1]? = some (I (snowP g.melt ds (highR ds) (highT g).snow (i + 1))) := seg_get y3 1 (by omega)
              have inS2 := inS.ext (qM.ext.trans qT.ext)
              have fz := lev_facts hFl (i + 1) (by omega)
              have fw := lev_facts hFh (i + 1) (by omega)
              have lx : lenOf vs[i] = some cs.length := by rw [xr.len]; simp [rowG]
              have ly : lenOf vp = some cs.length := by rw [inS2.len]; simp; omega
              have lz : lenOf vq = some cs.length := by rw [inT.len]; simp; omega
              refine OkO.nil ⟨(sco (sld rfl rfl (ldg (n := 6) (by kernel_rfl) (by first | assumption | (simp (disch := first | omega | (simp only [hNw, hPt]; omega)) only [gn0, gn1, gn2, gn3, gn4, gn5, gp0, gno, gpo] <;> first | rfl | assumption)) (by first | rfl | assumption)) rfl (eqr _ (by first | rfl | exact lpl (by assumption) | (simp [AV.plain, AV.plains, AV.cells, pc])))) rfl), ?_⟩
              refine OkP.step ?_
              refine OkO.move rfl rfl ?_
              refine OkO.nil ⟨rfl, ?_⟩
              refine OkP.step ?_
              refine OkO.extract rfl rfl rfl ?_
              refine OkO.nil ⟨rfl, ?_⟩
              refine OkP.step ?_
              refine OkO.extract rfl rfl rfl ?_
              refine OkO.nil ⟨rfl, ?_⟩
              refine OkP.step ?_
              refine OkO.extract rfl rfl rfl ?_
              refine OkO.nil ⟨rfl, ?_⟩
              refine OkP.step ?_
              refine OkO.assign rfl rfl ?_
              refine OkO.nil ⟨rfl, ?_⟩
              refine OkP.step ?_
              refine OkO.assign rfl rfl ?_
              refine OkO.nil ⟨rfl, ?_⟩
              refine OkP.step ?_
              refine OkO.assign rfl rfl ?_
              refine OkO.nil ⟨rfl, ?_⟩
              refine OkP.nil ?_
              refine Ok.seq ?_
              refine Ok.seq ?_
              refine Ok.region ?_
              refine OkO.move rfl rfl ?_
              refine OkO.move rfl rfl ?_
              refine OkO.index (sz := 2) (n := i) rfl rfl rfl (by kernel_rfl) (by first | assumption | rfl | exact slAt_slice (by omega)) ?_ -- index ('Go.Operand.tmp', 96) ('Go.Operand.tmp', 97)
              refine OkO.fieldAddr (o := 0) rfl (by kernel_rfl) rfl ?_
              refine OkO.load rfl rfl (lda (n := 1) (by kernel_rfl) (by first | assumption | (simp (disch := first | omega | (simp only [hNw, hPt]; omega)) only [gn0, gn1, gn2, gn3, gn4, gn5, gp0, gno, gpo] <;> first | rfl | assumption)) (by first | rfl | assumption)) ?_
              refine OkO.move rfl rfl ?_
              refine OkO.bin rfl rfl rfl (bin_neq _ _) ?_
              refine OkO.move rfl rfl ?_
              refine OkO.split (d := 103) rfl (fun g7 => ?_) (fun g7 => ?_)
              · -- true g7
                exact absurd g7 (by simp)
              · -- false g7
                refine OkO.move rfl rfl ?_
                refine OkO.move rfl rfl ?_
                refine OkO.index (sz := 2) (n := i) rfl rfl rfl (by kernel_rfl) (by first | assumption | rfl | exact slAt_slice (by omega)) ?_ -- index ('Go.Operand.tmp', 104) ('Go.Operand.tmp', 105)
                refine OkO.fieldAddr (o := 1) rfl (by kernel_rfl) rfl ?_
                refine OkO.load rfl rfl (lda (n := 1) (by kernel_rfl) (by first | assumption | (simp (disch := first | omega | (simp only [hNw, hPt]; omega)) only [gn0, gn1, gn2, gn3, gn4, gn5, gp0, gno, gpo] <;> first | rfl | assumption)) (by first | rfl | assumption)) ?_
                refine OkO.move rfl rfl ?_
                refine OkO.bin rfl rfl rfl (bin_neq _ _) ?_
                refine OkO.pick (b := false) rfl rfl nofun (fun _ => rfl) ?_
                refine OkO.move rfl rfl ?_
                refine OkO.split (d := 112) rfl (fun g8 => ?_) (fun g8 => ?_)
                · -- true g8
                  exact absurd g8 (by simp)
                · -- false g8
                  refine OkO.move rfl rfl ?_
                  refine OkO.move rfl rfl ?_
                  refine OkO.index (sz := 1) (n := i) rfl rfl rfl (by kernel_rfl) (by first | assumption | rfl | exact slAt_slice (by omega)) ?_ -- index ('Go.Operand.tmp', 113) ('Go.Operand.tmp', 114)
                  refine OkO.load rfl rfl (lda (n := 1) (by kernel_rfl) (by first | assumption | (simp (disch := first | omega | (simp only [hNw, hPt]; omega)) only [gn0, gn1, gn2, gn3, gn4, gn5, gp0, gno, gpo] <;> first | rfl | assumption)) (by first | rfl | assumption)) ?_
                  refine OkO.builtin rfl rfl rfl (bln (by kernel_rfl) (by first | assumption | rfl)) ?_
                  refine OkO.move rfl rfl ?_
                  refine OkO.builtin rfl rfl rfl (bln (by kernel_rfl) (by first | assumption | rfl)) ?_
                  refine OkO.bin rfl rfl rfl (bin_neq _ _) ?_
                  refine OkO.pick (b := false) rfl rfl nofun (fun _ => rfl) ?_
                  refine OkO.nil ?_
                  refine Ok.cond rfl (fun h9 => ?_) (fun h9 => ?_)
                  · -- yes h9
                    exact absurd h9 (by simp)
                  · -- no h9
                    refine Ok.skip ?_
                    refine Ok.seq ?_
                    refine Ok.region ?_
                    refine OkO.assign rfl rfl ?_
                    refine OkO.nil ?_
                    refine Ok.block ?_
                    refine Ok.loop (fun n s => ∃ k : Nat, n = cs.length - k ∧ k ≤ cs.length ∧ HT = s.H ∧ Has 8 [(1, dv), (2, .ptr W.next 0), (5, v4), (6, v5), (9, I (i : Int)), (10, vp), (13, vq), (16, I (k : Int))] s.T ∧ s.D = [] ∧ Grow W s.H) (cs.length) (by unfold loopFuel; omega)
                      ⟨0, rfl, Nat.zero_le _, rfl, Has.of (by kernel_rfl), rfl, gT⟩ ?_
                    rintro n ⟨T, D, G⟩ ⟨k, hn2, hk, hH, ⟨f2, hT⟩, hD, hg2⟩
                    dsimp only at *
                    subst hT hD
                    have hgn := hg.next
                    subst hH
                    refine Ok.seq ?_
                    refine Ok.seq ?_
                    refine Ok.region ?_
                    refine OkO.move rfl rfl ?_
                    refine OkO.move rfl rfl ?_
                    refine OkO.builtin rfl rfl rfl (bln (by kernel_rfl) (by first | assumption | rfl)) ?_
                    refine OkO.bin rfl rfl rfl (bin_lss _ _) ?_
                    refine OkO.nil ?_
                    refine Ok.cond rfl (fun h10 => ?_) (fun h10 => ?_)
                    · -- yes h10
                      have hltk : k < cs.length := by simpa using h10
                      obtain ⟨blb, blo, blcs, bl1, bl2, bl3, bl4⟩ := inS2.at_ k [I ((levP cs g ds (lowT g) (lowL cs) (lowR ds) (i + 1)).getD k 0)] (by rw [List.getElem?_map, List.getElem?_take, if_pos hltk, List.getElem?_eq_getElem (by omega), getD_lt (by omega)]; rfl)
                      have bl5 := seg_one bl3
                      obtain ⟨bhb, bho, bhcs, bh1, bh2, bh3, bh4⟩ := inT.at_ k [I ((levP cs g ds (highT g) (highL cs) (highR ds) (i + 1)).getD k 0)] (by rw [List.getElem?_map, List.getElem?_take, if_pos hltk, List.getElem?_eq_getElem (by omega), getD_lt (by omega)]; rfl)
                      have bh5 := seg_one bh3
                      obtain ⟨jb, jo, jcs, j1, j2, j3, j4⟩ := xr.at_ k (lvR cs g ds i k).c (by rw [List.getElem?_map, rowG, List.getElem?_map, List.getElem?_range hltk]; rfl)
                      have j5 : jcs[jo + 0]? = some (I ((levP cs g ds (lowT g) (lowL cs) (lowR ds) (i + 1)).getD k 0)) := seg_get j3 0 (by omega)
                      have j6 : jcs[jo + 1]? = some (I ((levP cs g ds (highT g) (highL cs) (highR ds) (i + 1)).getD k 0)) := seg_get j3 1 (by omega)
                      refine Ok.skip ?_
                      refine Ok.seq ?_
                      refine Ok.block ?_
                      refine Ok.seq ?_
                      refine Ok.drawn [(0, true, []), (1, true, []), (2, true, []), (3, true, []), (4, true, []), (5, true, []), (6, true, []), (7, true, []), (8, true, []), (9, true, []), (10, true, []), (11, true, []), (12, true, []), (13, true, []), (14, true, []), (15, true, []), (16, true, []), (17, true, []), (18, true, []), (19, true, []), (20, true, []), (21, true, []), (22, true, []), (23, true, []), (24, true, []), (25, true, []), (26, true, []), (27, true, [])] (by kernel_rfl) ?_
                      refine OkP.step ?_
                      refine OkO.move rfl rfl ?_
                      refine OkO.nil ⟨rfl, ?_⟩
                      refine OkP.step ?_
                      refine OkO.move rfl rfl ?_
                      refine OkO.nil ⟨rfl, ?_⟩
                      refine OkP.step ?_
                      refine OkO.index (sz := 1) (n := i) rfl rfl rfl (by kernel_rfl) (by first | assumption | rfl | exact slAt_slice (by omega)) ?_ -- index ('Go.Operand.tmp', 128) ('Go.Operand.tmp', 129)
                      refine OkO.nil ⟨rfl, ?_⟩
                      refine OkP.step ?_
                      refine OkO.load rfl rfl (lda (n := 1) (by kernel_rfl) (by first | assumption | (simp (disch := first | omega | (simp only [hNw, hPt]; omega)) only [gn0, gn1, gn2, gn3, gn4, gn5, gp0, gno, gpo] <;> first | rfl | assumption)) (by first | rfl | assumption)) ?_
                      refine OkO.nil ⟨rfl, ?_⟩
                      refine OkP.step ?_
                      refine OkO.move rfl rfl ?_
                      refine OkO.nil ⟨rfl, ?_⟩
                      refine OkP.step ?_
                      refine OkO.index (sz := 2) (n := k) rfl rfl rfl (by kernel_rfl) (by first | assumption | rfl | exact slAt_slice (by omega)) ?_ -- index ('Go.Operand.tmp', 131) ('Go.Operand.tmp', 132)
                      refine OkO.nil ⟨rfl, ?_⟩
                      refine OkP.step ?_
                      refine OkO.fieldAddr (o := 0) rfl (by kernel_rfl) rfl ?_
                      refine OkO.nil ⟨rfl, ?_⟩
                      refine OkP.step ?_
                      refine OkO.load rfl rfl (lda (n := 1) (by kernel_rfl) (by first | assumption | (simp (disch := first | omega | (simp only [hNw, hPt]; omega)) only [gn0, gn1, gn2, gn3, gn4, gn5, gp0, gno, gpo] <;> first | rfl | assumption)) (by first | rfl | assumption)) ?_
                      refine OkO.nil ⟨rfl, ?_⟩
                      refine OkP.step ?_
                      refine OkO.move rfl rfl ?_
                      refine OkO.nil ⟨rfl, ?_⟩
                      refine OkP.step ?_
                      refine OkO.move rfl rfl ?_
                      refine OkO.nil ⟨rfl, ?_⟩
                      refine OkP.step ?_
                      refine OkO.index (sz := 1) (n := k) rfl rfl rfl (by kernel_rfl) (by first | assumption | rfl | exact slAt_slice (by omega)) ?_ -- index ('Go.Operand.tmp', 136) ('Go.Operand.tmp', 137)
                      refine OkO.nil ⟨rfl, ?_⟩
                      refine OkP.step ?_
                      refine OkO.load rfl rfl (lda (n := 1) (by kernel_rfl) (by first | assumption | (simp (disch := first | omega | (simp only [hNw, hPt]; omega)) only [gn0, gn1, gn2, gn3, gn4, gn5, gp0, gno, gpo] <;> first | rfl | assumption)) (by first | rfl | assumption)) ?_
                      refine OkO.nil ⟨rfl, ?_⟩
                      refine OkP.step ?_
                      refine OkO.bin rfl rfl rfl (bin_neq _ _) ?_
                      refine OkO.nil ⟨rfl, ?_⟩
                      refine OkP.step ?_
                      refine OkO.move rfl rfl ?_
                      refine OkO.nil ⟨rfl, ?_⟩
                      refine OkP.split (d := 141) rfl (fun g11 => ?_) (fun g11 => ?_)
                      · -- true g11
                        exact absurd g11 (by simp)
                      · -- false g11
                        refine OkP.step ?_
                        refine OkO.move rfl rfl ?_
                        refine OkO.nil ⟨rfl, ?_⟩
                        refine OkP.step ?_
                        refine OkO.move rfl rfl ?_
                        refine OkO.nil ⟨rfl, ?_⟩
                        refine OkP.step ?_
                        refine OkO.index (sz := 1) (n := i) rfl rfl rfl (by kernel_rfl) (by first | assumption | rfl | exact slAt_slice (by omega)) ?_ -- index ('Go.Operand.tmp', 142) ('Go.Operand.tmp', 143)
                        refine OkO.nil ⟨rfl, ?_⟩
                        refine OkP.step ?_
                        refine OkO.load rfl rfl (lda (n := 1) (by kernel_rfl) (by first | assumption | (simp (disch := first | omega | (simp only [hNw, hPt]; omega)) only [gn0, gn1, gn2, gn3, gn4, gn5, gp0, gno, gpo] <;> first | rfl | assumption)) (by first | rfl | assumption)) ?_
                        refine OkO.nil ⟨rfl, ?_⟩
                        refine OkP.step ?_
                        refine OkO.move rfl rfl ?_
                        refine OkO.nil ⟨rfl, ?_⟩
                        refine OkP.step ?_
                        refine OkO.index (sz := 2) (n := k) rfl rfl rfl (by kernel_rfl) (by first | assumption | rfl | exact slAt_slice (by omega)) ?_ -- index ('Go.Operand.tmp', 145) ('Go.Operand.tmp', 146)
                        refine OkO.nil ⟨rfl, ?_⟩
                        refine OkP.step ?_
                        refine OkO.fieldAddr (o := 1) rfl (by kernel_rfl) rfl ?_
                        refine OkO.nil ⟨rfl, ?_⟩
                        refine OkP.step ?_
                        refine OkO.load rfl rfl (lda (n := 1) (by kernel_rfl) (by first | assumption | (simp (disch := first | omega | (simp only [hNw, hPt]; omega)) only [gn0, gn1, gn2, gn3, gn4, gn5, gp0, gno, gpo] <;> first | rfl | assumption)) (by first | rfl | assumption)) ?_
                        refine OkO.nil ⟨rfl, ?_⟩
                        refine OkP.step ?_
                        refine OkO.move rfl rfl ?_
                        refine OkO.nil ⟨rfl, ?_⟩
                        refine OkP.step ?_
                        refine OkO.move rfl rfl ?_
                        refine OkO.nil ⟨rfl, ?_⟩
                        refine OkP.step ?_
                        refine OkO.index (sz := 1) (n := k) rfl rfl rfl (by kernel_rfl) (by first | assumption | rfl | exact slAt_slice (by omega)) ?_ -- index ('Go.Operand.tmp', 150) ('Go.Operand.tmp', 151)
                        refine OkO.nil ⟨rfl, ?_⟩
                        refine OkP.step ?_
                        refine OkO.load rfl rfl (lda (n := 1) (by kernel_rfl) (by first | assumption | (simp (disch := first | omega | (simp only [hNw, hPt]; omega)) only [gn0, gn1, gn2, gn3, gn4, gn5, gp0, gno, gpo] <;> first | rfl | assumption)) (by first | rfl | assumption)) ?_
                        refine OkO.nil ⟨rfl, ?_⟩
                        refine OkP.step ?_
                        refine OkO.bin rfl rfl rfl (bin_neq _ _) ?_
                        refine OkO.nil ⟨rfl, ?_⟩
                        refine OkP.step ?_
                        refine OkO.pick (b := false) rfl rfl nofun (fun _ => rfl) ?_
                        refine OkO.nil ⟨rfl, ?_⟩
                        refine OkP.nil ?_
                        refine Ok.cond rfl (fun h12 => ?_) (fun h12 => ?_)
                        · -- yes h12
                          exact absurd h12 (by simp)
                        · -- no h12
                          refine Ok.skip ?_
                          refine Ok.region ?_
                          refine OkO.move rfl rfl ?_
                          refine OkO.bin rfl rfl rfl (bin_add (by omega) (by omega)) ?_
                          refine OkO.assign rfl rfl ?_
                          refine OkO.nil ?_
                          refine ⟨cs.length - (k + 1), by omega, k + 1, rfl, hltk, rfl, Has.of (by kernel_rfl), rfl, gT⟩
                    · -- no h10
                      have hgek : k = cs.length := by simp at h10; omega
                      refine Ok.exit ?_
                      refine Ok.region ?_
                      refine OkO.move rfl rfl ?_
                      refine OkO.bin rfl rfl rfl (bin_add (by omega) (by omega)) ?_
                      refine OkO.assign rfl rfl ?_
                      refine OkO.nil ?_
                      refine ⟨ds.length - (i + 1), by omega, i + 1, rfl, hlt, Has.of (by kernel_rfl), rfl, gT, xT⟩
            · -- no h6
              refine Ok.exit ?_
              refine Ok.seq ?_
              refine Ok.region ?_
              refine OkO.callV rfl rfl rfl rfl rfl (rfl) ?_ -- "sackung/sackunglaw02.wakes"
              refine OkO.assign rfl rfl ?_
              refine OkO.nil ?_
              refine Ok.ret ⟨.inr rfl, ?_⟩
              exact back_flat rfl (congrArg AV.bool rfl) rfl (by rw [← hW]; exact hg)
theorem c4 (m : Nat) (cv dv : AV) (cs : List Cell) (g : Gr) (ds : List Day) (H : Heap) (hR : Row H cv 7 (cs.map Cell.c)) (hY : Row H dv 3 (ds.map Day.c)) : RR (m + 40) (.fn 4 [.agg [cv, I g.slo, I g.shi, I g.klo, I g.khi, I g.melt], dv]) H = some (.bool true, H) := by
  by_cases h1 : daysErr cs g ds = 0
  · exact c4K m cv dv cs g ds H hR hY h1
  · exact c4E m cv dv cs g ds H hR hY rfl h1
end
end Go.Ev
