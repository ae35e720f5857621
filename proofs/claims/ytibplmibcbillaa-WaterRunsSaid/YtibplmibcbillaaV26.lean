/-
  Functions of the program, reckoned by the evaluator: what each answers, and that it leaves what came in as it was (part 26).
-/
import Derived.Test.YtibplmibcbillaaV25

set_option maxRecDepth 100000
set_option linter.unusedSimpArgs false
set_option linter.unusedVariables false
namespace Go.Ev
open Go Go.Proofs
noncomputable section
theorem c18y (m : Nat) (cv : AV) (cs : List Cell) (g : Gr) (H : Heap) (hR : Row H cv 7 (cs.map Cell.c)) (hbig : cs.length ≤ 1000000) (hk : gOk cs g = true) : RR (m + 5) (.fn 18 [.agg [cv, I g.slo, I g.shi, I g.klo, I g.khi, I g.melt]]) H = some (I 0, H) := by
  have e := c18 m cv cs g H hR hbig
  rw [if_pos hk] at e
  exact e
theorem c18n (m : Nat) (cv : AV) (cs : List Cell) (g : Gr) (H : Heap) (hR : Row H cv 7 (cs.map Cell.c)) (hbig : cs.length ≤ 1000000) (hk : gOk cs g = false) : RR (m + 5) (.fn 18 [.agg [cv, I g.slo, I g.shi, I g.klo, I g.khi, I g.melt]]) H = some (I 1, H) := by
  have e := c18 m cv cs g H hR hbig
  rw [if_neg (by rw [hk]; simp)] at e
  exact e
theorem c23v (m : Nat) (cv : AV) (cs : List Cell) (g : Gr) (H : Heap) (hR : Row H cv 7 (cs.map Cell.c)) (hbig : cs.length ≤ 1000000) {b : Bool} (hk : gOk cs g = b) : RR (m + 2) (.fn 23 [.agg [cv, I g.slo, I g.shi, I g.klo, I g.khi, I g.melt]]) H = some (.bool b, H) := by
  have e := c23 m cv cs g H hR hbig
  rw [hk] at e
  exact e
theorem c24v (m : Nat) (cv dv : AV) (cs : List Cell) (g : Gr) (ds : List Day) (H : Heap) (hR : Row H cv 7 (cs.map Cell.c)) (hbig : cs.length ≤ 1000000) (hY : Row H dv 3 (ds.map Day.c)) (hbd : ds.length ≤ 1000000) {e : Int} (hk : daysErr cs g ds = e) : RR (m + 4) (.fn 24 [.agg [cv, I g.slo, I g.shi, I g.klo, I g.khi, I g.melt], dv]) H = some (I e, H) := by
  have e1 := c24 m cv dv cs g ds H hR hbig hY hbd
  rw [hk] at e1
  exact e1
theorem c25v (m : Nat) (cv dv lv rv : AV) (cs : List Cell) (g : Gr) (ds : List Day) (t : Tru) (lvs rain : List Int) (H : Heap) (hR : Row H cv 7 (cs.map Cell.c)) (hY : Row H dv 3 (ds.map Day.c)) (hL : Ints H lv lvs) (hbl : lvs.length ≤ 1000) (hA : Ints H rv rain) (hba : rain.length ≤ 1000) {b : Bool} (hk : fitB cs g ds t lvs rain = b) : RR (m + 3) (.fn 25 [.agg [cv, I g.slo, I g.shi, I g.klo, I g.khi, I g.melt], dv, .agg [I t.snow, I t.soak, lv, rv]]) H = some (.bool b, H) := by
  have e := c25 m cv dv lv rv cs g ds t lvs rain H hR hY hL hbl hA hba
  rw [hk] at e
  exact e
theorem c20v (m : Nat) (cv dv lv rv : AV) (cs : List Cell) (g : Gr) (ds : List Day) (t : Tru) (lvs rain : List Int) (H : Heap) (hR : Row H cv 7 (cs.map Cell.c)) (hbig : cs.length ≤ 1000) (hY : Row H dv 3 (ds.map Day.c)) (hbd : ds.length ≤ 1000) (hL : Ints H lv lvs) (hbl : lvs.length ≤ 1000) (hA : Ints H rv rain) (hba : rain.length ≤ 1000) {e : Int} (hk : truthErr cs g ds t lvs rain = e) (h0 : ¬e = 0) : RR (m + 8) (.fn 20 [.agg [cv, I g.slo, I g.shi, I g.klo, I g.khi, I g.melt], dv, .agg [I t.snow, I t.soak, lv, rv]]) H = some (.tup [.nils, .nils, I 0, I e], H) := by
  have e1 := c20E m cv dv lv rv cs g ds t lvs rain H hR hbig hY hbd hL hbl hA hba (by rw [hk]; exact h0)
  rw [hk] at e1
  exact e1
theorem c3E1 (m : Nat) (cv dv lv rv : AV) (cs : List Cell) (g : Gr) (ds : List Day) (t : Tru) (lvs rain : List Int) (H : Heap) (hR : Row H cv 7 (cs.map Cell.c)) (hY : Row H dv 3 (ds.map Day.c)) (hL : Ints H lv lvs) (hA : Ints H rv rain) (hgk : gOk cs g = false) {e : Int} (hde : daysErr cs g ds = e) (he : ¬e = 0) (hte : truthErr cs g ds t lvs rain = e) : RR (m + 40) (.fn 3 [.agg [cv, I g.slo, I g.shi, I g.klo, I g.khi, I g.melt], dv, .agg [I t.snow, I t.soak, lv, rv]]) H = some (.bool true, H) := by
  refine (R_fn _ _ _ _ _).trans ?_
  refine fn_ok Try.func3 rfl rfl (by kernel_rfl) (by kernel_rfl) ?_
  obtain ⟨W, hW⟩ : ∃ W : Heap, W = ⟨H.t, H.next, H.next⟩ := ⟨_, rfl⟩
  have hg : ∀ n, W.get n = H.get n := fun n => by rw [hW]; rfl
  have hN : W.next = H.next := by rw [hW]
  have hE : ∀ G, Grow W G → Ext H G := fun G g => ⟨by rw [← hN]; exact g.next, fun n k => by rw [g.get n (by rw [hN]; exact k), hg]⟩
  have hG : Grow W W := Grow.refl (by rw [hW]; exact Nat.le_refl _)
  rw [← hW]
  have hlc : lenOf cv = some cs.length := by simpa using hR.len
  have hld : lenOf dv = some ds.length := by simpa using hY.len
  have hll : lenOf lv = some lvs.length := by simpa using hL.len
  have hlr : lenOf rv = some rain.length := by simpa using hA.len
  have pc := lpl hlc
  have pl := lpl hll
  have pr := lpl hlr
  refine Ok.seq ?_
  refine Ok.region ?_
  refine OkO.box rfl rfl ?_
  refine OkO.box rfl rfl ?_
  refine OkO.assign rfl rfl ?_
  refine OkO.nil ?_
  refine Ok.seq ?_
  refine Ok.seq ?_
  refine Ok.region ?_
  refine OkO.load rfl rfl (ldg (n := 6) (by kernel_rfl) (by first | assumption | (simp (disch := first | omega | (simp only [hNw, hPt]; omega)) only [gn0, gn1, gn2, gn3, gn4, gn5, gp0, gno, gpo] <;> first | rfl | assumption)) (by first | rfl | assumption)) ?_
  refine OkO.move rfl rfl ?_
  refine OkO.callV rfl rfl rfl rfl rfl (c16 (m + 38) cv dv cs g ds _ (hR.ext (hE _ (by (try dsimp only); repeat (first | exact hG | apply Grow.new | (refine Grow.put ?_ _ (by first | omega | (simp only [hNw, hPt]; omega))))))) (hY.ext (hE _ (by (try dsimp only); repeat (first | exact hG | apply Grow.new | (refine Grow.put ?_ _ (by first | omega | (simp only [hNw, hPt]; omega)))))))) ?_ -- "sackung/sackunglaw02.Thin"
  refine OkO.un rfl rfl rfl ?_
  refine OkO.move rfl rfl ?_
  refine OkO.split (d := 22) rfl (fun g1 => ?_) (fun g1 => ?_)
  · -- true g1
    refine OkO.skip rfl ?_
    refine OkO.skip rfl ?_
    refine OkO.skip rfl ?_
    refine OkO.skip rfl ?_
    refine OkO.pick (b := true) rfl rfl (fun _ => rfl) nofun ?_
    refine OkO.move rfl rfl ?_
    refine OkO.skip rfl ?_
    refine OkO.skip rfl ?_
    refine OkO.skip rfl ?_
    refine OkO.skip rfl ?_
    refine OkO.pick (b := true) rfl rfl (fun _ => rfl) nofun ?_
    refine OkO.nil ?_
    refine Ok.condT rfl ?_
    refine Ok.seq ?_
    refine Ok.region ?_
    refine OkO.callV rfl rfl rfl rfl rfl (rfl) ?_ -- "sackung/sackunglaw02.wakes"
    refine OkO.assign rfl rfl ?_
    refine OkO.nil ?_
    refine Ok.ret ⟨.inr rfl, ?_⟩
    exact back_flat rfl (congrArg AV.bool rfl) rfl (by rw [← hW]; exact (by (try dsimp only); repeat (first | exact hG | apply Grow.new | (refine Grow.put ?_ _ (by first | omega | (simp only [hNw, hPt]; omega))))))
  · -- false g1
    have hth : thinB cs ds = true := by simpa using g1
    unfold thinB at hth
    rw [Bool.and_eq_true] at hth
    have th1 := of_decide_eq_true hth.1
    have th2 := of_decide_eq_true hth.2
    refine OkO.fieldAddr (o := 2) rfl (by kernel_rfl) rfl ?_
    refine OkO.load rfl rfl (lda (n := 1) (by kernel_rfl) (by first | assumption | (simp (disch := first | omega | (simp only [hNw, hPt]; omega)) only [gn0, gn1, gn2, gn3, gn4, gn5, gp0, gno, gpo] <;> first | rfl | assumption)) (by first | rfl | assumption)) ?_
    refine OkO.builtin rfl rfl rfl (bln (by kernel_rfl) (by first | assumption | rfl)) ?_
    refine OkO.bin rfl rfl rfl (bin_gtr _ _) ?_
    refine OkO.pick (b := false) rfl rfl nofun (fun _ => rfl) ?_
    refine OkO.move rfl rfl ?_
    refine OkO.split (d := 28) rfl (fun g2 => ?_) (fun g2 => ?_)
    · -- true g2
      refine OkO.skip rfl ?_
      refine OkO.skip rfl ?_
      refine OkO.skip rfl ?_
      refine OkO.skip rfl ?_
      refine OkO.pick (b := true) rfl rfl (fun _ => rfl) nofun ?_
      refine OkO.nil ?_
      refine Ok.condT rfl ?_
      refine Ok.seq ?_
      refine Ok.region ?_
      refine OkO.callV rfl rfl rfl rfl rfl (rfl) ?_ -- "sackung/sackunglaw02.wakes"
      refine OkO.assign rfl rfl ?_
      refine OkO.nil ?_
      refine Ok.ret ⟨.inr rfl, ?_⟩
      exact back_flat rfl (congrArg AV.bool rfl) rfl (by rw [← hW]; exact (by (try dsimp only); repeat (first | exact hG | apply Grow.new | (refine Grow.put ?_ _ (by first | omega | (simp only [hNw, hPt]; omega))))))
    · -- false g2
      have l40 : ¬(40 : Int) < (lvs.length : Int) := by simpa using g2
      refine OkO.fieldAddr (o := 3) rfl (by kernel_rfl) rfl ?_
      refine OkO.load rfl rfl (lda (n := 1) (by kernel_rfl) (by first | assumption | (simp (disch := first | omega | (simp only [hNw, hPt]; omega)) only [gn0, gn1, gn2, gn3, gn4, gn5, gp0, gno, gpo] <;> first | rfl | assumption)) (by first | rfl | assumption)) ?_
      refine OkO.builtin rfl rfl rfl (bln (by kernel_rfl) (by first | assumption | rfl)) ?_
      refine OkO.bin rfl rfl rfl (bin_gtr _ _) ?_
      refine OkO.pick (b := false) rfl rfl nofun (fun _ => rfl) ?_
      refine OkO.nil ?_
      refine Ok.cond rfl (fun h3 => ?_) (fun h3 => ?_)
      · -- yes h3
        refine Ok.seq ?_
        refine Ok.region ?_
        refine OkO.callV rfl rfl rfl rfl rfl (rfl) ?_ -- "sackung/sackunglaw02.wakes"
        refine OkO.assign rfl rfl ?_
        refine OkO.nil ?_
        refine Ok.ret ⟨.inr rfl, ?_⟩
        exact back_flat rfl (congrArg AV.bool rfl) rfl (by rw [← hW]; exact (by (try dsimp only); repeat (first | exact hG | apply Grow.new | (refine Grow.put ?_ _ (by first | omega | (simp only [hNw, hPt]; omega))))))
      · -- no h3
        have r40 : ¬(40 : Int) < (rain.length : Int) := by simpa using h3
        refine Ok.skip ?_
        refine Ok.seq ?_
        refine Ok.region ?_
        refine OkO.load rfl rfl (ldg (n := 6) (by kernel_rfl) (by first | assumption | (simp (disch := first | omega | (simp only [hNw, hPt]; omega)) only [gn0, gn1, gn2, gn3, gn4, gn5, gp0, gno, gpo] <;> first | rfl | assumption)) (by first | rfl | assumption)) ?_
        refine OkO.callE rfl rfl rfl rfl rfl (c19 (m + 37) cv cs g _ (hR.ext (hE _ (by (try dsimp only); repeat (first | exact hG | apply Grow.new | (refine Grow.put ?_ _ (by first | omega | (simp only [hNw, hPt]; omega))))))) (by omega)) ?_ -- "sackung/sackunglaw02.Ground"
        rintro vA HA ⟨cvA, rfl, qA, rA, atA⟩
        have gA : Grow W HA := Grow.ret (by (try dsimp only); repeat (first | exact hG | apply Grow.new | (refine Grow.put ?_ _ (by first | omega | (simp only [hNw, hPt]; omega))))) qA
        have nA : W.next + 2 ≤ HA.next := by have := qA.ext.next; first | omega | (simp only [hNw] at this; omega)
        have aA : (HA.get W.next).bind AObj.cs = some [cv, I g.slo, I g.shi, I g.klo, I g.khi, I g.melt] := by rw [qA.ext.get _ (by first | omega | (simp only [hNw]; omega))]; first | assumption | (simp (disch := first | omega | (simp only [hNw, hPt]; omega)) only [gn0, gn1, gn2, gn3, gn4, gn5, gp0, gno, gpo] <;> first | rfl | assumption)
        have bA : (HA.get (W.next + 1)).bind AObj.cs = some [I t.snow, I t.soak, lv, rv] := by rw [qA.ext.get _ (by first | omega | (simp only [hNw]; omega))]; first | assumption | (simp (disch := first | omega | (simp only [hNw, hPt]; omega)) only [gn0, gn1, gn2, gn3, gn4, gn5, gp0, gno, gpo] <;> first | rfl | assumption)
        refine OkO.callV rfl rfl rfl rfl rfl (c18n (m + 34) cvA cs g _ rA (by omega) hgk) ?_ -- "sackung/water.CheckGround"
        refine OkO.assign rfl rfl ?_
        refine OkO.nil ?_
        refine Ok.seq ?_
        refine Ok.drawn [(0, true, []), (2, true, []), (4, true, []), (1, false, [4]), (3, false, [4, 0]), (5, false, [0]), (6, false, [4, 0]), (7, true, []), (8, true, []), (9, true, []), (10, true, []), (11, true, []), (12, true, []), (13, true, []), (14, true, []), (15, true, [])] (by kernel_rfl) ?_
        refine OkP.step ?_
        refine OkO.load rfl rfl (ldg (n := 6) (by kernel_rfl) (by first | assumption | (simp (disch := first | omega | (simp only [hNw, hPt]; omega)) only [gn0, gn1, gn2, gn3, gn4, gn5, gp0, gno, gpo] <;> first | rfl | assumption)) (by first | rfl | assumption)) ?_
        refine OkO.nil ⟨rfl, ?_⟩
        refine OkP.step ?_
        refine OkO.move rfl rfl ?_
        refine OkO.nil ⟨rfl, ?_⟩
        refine OkP.step ?_
        refine OkO.load rfl rfl (ldg (n := 4) (by kernel_rfl) (by first | assumption | (simp (disch := first | omega | (simp only [hNw, hPt]; omega)) only [gn0, gn1, gn2, gn3, gn4, gn5, gp0, gno, gpo] <;> first | rfl | assumption)) (by first | rfl | assumption)) ?_
        refine OkO.nil ⟨rfl, ?_⟩
        refine OkP.step ?_
        refine OkO.callE rfl rfl rfl rfl rfl (c19 (m + 37) cv cs g _ (hR.ext (hE _ gA)) (by omega)) ?_ -- "sackung/sackunglaw02.Ground"
        rintro vB HB ⟨cvB, rfl, qB, rB, atB⟩
        have gB : Grow W HB := Grow.ret gA qB
        have nB : W.next + 2 ≤ HB.next := by have := qB.ext.next; first | omega | (simp only [hNw] at this; omega)
        have aB : (HB.get W.next).bind AObj.cs = some [cv, I g.slo, I g.shi, I g.klo, I g.khi, I g.melt] := by rw [qB.ext.get _ (by first | omega | (simp only [hNw]; omega))]; first | assumption | (simp (disch := first | omega | (simp only [hNw, hPt]; omega)) only [gn0, gn1, gn2, gn3, gn4, gn5, gp0, gno, gpo] <;> first | rfl | assumption)
        have bB : (HB.get (W.next + 1)).bind AObj.cs = some [I t.snow, I t.soak, lv, rv] := by rw [qB.ext.get _ (by first | omega | (simp only [hNw]; omega))]; first | assumption | (simp (disch := first | omega | (simp only [hNw, hPt]; omega)) only [gn0, gn1, gn2, gn3, gn4, gn5, gp0, gno, gpo] <;> first | rfl | assumption)
        refine OkO.nil ⟨(sco (sld rfl rfl (ldg (n := 4) (by kernel_rfl) (by first | assumption | (simp (disch := first | omega | (simp only [hNw, hPt]; omega)) only [gn0, gn1, gn2, gn3, gn4, gn5, gp0, gno, gpo] <;> first | rfl | assumption)) (by first | rfl | assumption)) rfl (eqr _ (by first | rfl | exact lpl (by assumption) | (simp [AV.plain, AV.plains, AV.cells, pc, pl, pr])))) rfl), ?_⟩
        refine OkP.step ?_
        refine OkO.callE rfl rfl rfl rfl rfl (c21 (m + 37) dv ds _ (hY.ext (hE _ gB)) (by omega)) ?_ -- "sackung/sackunglaw02.Days"
        rintro dvC HC ⟨qC, rC, atC⟩
        have gC : Grow W HC := Grow.ret gB qC
        have nC : W.next + 2 ≤ HC.next := by have := qC.ext.next; first | omega | (simp only [hNw] at this; omega)
        have aC : (HC.get W.next).bind AObj.cs = some [cv, I g.slo, I g.shi, I g.klo, I g.khi, I g.melt] := by rw [qC.ext.get _ (by first | omega | (simp only [hNw]; omega))]; first | assumption | (simp (disch := first | omega | (simp only [hNw, hPt]; omega)) only [gn0, gn1, gn2, gn3, gn4, gn5, gp0, gno, gpo] <;> first | rfl | assumption)
        have bC : (HC.get (W.next + 1)).bind AObj.cs = some [I t.snow, I t.soak, lv, rv] := by rw [qC.ext.get _ (by first | omega | (simp only [hNw]; omega))]; first | assumption | (simp (disch := first | omega | (simp only [hNw, hPt]; omega)) only [gn0, gn1, gn2, gn3, gn4, gn5, gp0, gno, gpo] <;> first | rfl | assumption)
        refine OkO.nil ⟨(sco (sld rfl rfl (ldg (n := 4) (by kernel_rfl) (by first | assumption | (simp (disch := first | omega | (simp only [hNw, hPt]; omega)) only [gn0, gn1, gn2, gn3, gn4, gn5, gp0, gno, gpo] <;> first | rfl | assumption)) (by first | rfl | assumption)) rfl (eqr _ (by first | rfl | exact lpl (by assumption) | (simp [AV.plain, AV.plains, AV.cells, pc, pl, pr])))) (sco (sld rfl rfl (ldg (n := 6) (by kernel_rfl) (by first | assumption | (simp (disch := first | omega | (simp only [hNw, hPt]; omega)) only [gn0, gn1, gn2, gn3, gn4, gn5, gp0, gno, gpo] <;> first | rfl | assumption)) (by first | rfl | assumption)) rfl (eqr _ (by first | rfl | exact lpl (by assumption) | (simp [AV.plain, AV.plains, AV.cells, pc, pl, pr])))) rfl)), ?_⟩
        refine OkP.step ?_
        refine OkO.callE rfl rfl rfl rfl rfl (c22 (m + 37) lv rv t lvs rain _ (hL.ext (hE _ gC)) (by omega) (hA.ext (hE _ gC)) (by omega)) ?_ -- "sackung/sackunglaw02.Truth"
        rintro vD HD ⟨lvD, rvD, rfl, qD, lD, rD⟩
        have gD : Grow W HD := Grow.ret gC qD
        have nD : W.next + 2 ≤ HD.next := by have := qD.ext.next; first | omega | (simp only [hNw] at this; omega)
        have aD : (HD.get W.next).bind AObj.cs = some [cv, I g.slo, I g.shi, I g.klo, I g.khi, I g.melt] := by rw [qD.ext.get _ (by first | omega | (simp only [hNw]; omega))]; first | assumption | (simp (disch := first | omega | (simp only [hNw, hPt]; omega)) only [gn0, gn1, gn2, gn3, gn4, gn5, gp0, gno, gpo] <;> first | rfl | assumption)
        have bD : (HD.get (W.next + 1)).bind AObj.cs = some [I t.snow, I t.soak, lv, rv] := by rw [qD.ext.get _ (by first | omega | (simp only [hNw]; omega))]; first | assumption | (simp (disch := first | omega | (simp only [hNw, hPt]; omega)) only [gn0, gn1, gn2, gn3, gn4, gn5, gp0, gno, gpo] <;> first | rfl | assumption)
        refine OkO.nil ⟨(sco (sld rfl rfl (ldg (n := 6) (by kernel_rfl) (by first | assumption | (simp (disch := first | omega | (simp only [hNw, hPt]; omega)) only [gn0, gn1, gn2, gn3, gn4, gn5, gp0, gno, gpo] <;> first | rfl | assumption)) (by first | rfl | assumption)) rfl (eqr _ (by first | rfl | exact lpl (by assumption) | (simp [AV.plain, AV.plains, AV.cells, pc, pl, pr])))) rfl), ?_⟩
        refine OkP.step ?_
        refine OkO.callV rfl rfl rfl rfl rfl (c20v (m + 31) cvB dvC lvD rvD cs g ds t lvs rain _ (rB.ext (qC.ext.trans qD.ext)) (by omega) (rC.ext qD.ext) (by omega) lD (by omega) rD (by omega) hte he) ?_ -- "sackung/water.Run"
        refine OkO.nil ⟨(sco (sld rfl rfl (ldg (n := 4) (by kernel_rfl) (by first | assumption | (simp (disch := first | omega | (simp only [hNw, hPt]; omega)) only [gn0, gn1, gn2, gn3, gn4, gn5, gp0, gno, gpo] <;> first | rfl | assumption)) (by first | rfl | assumption)) rfl (eqr _ (by first | rfl | exact lpl (by assumption) | (simp [AV.plain, AV.plains, AV.cells, pc, pl, pr])))) (sco (sld rfl rfl (ldg (n := 6) (by kernel_rfl) (by first | assumption | (simp (disch := first | omega | (simp only [hNw, hPt]; omega)) only [gn0, gn1, gn2, gn3, gn4, gn5, gp0, gno, gpo] <;> first | rfl | assumption)) (by first | rfl | assumption)) rfl (eqr _ (by first | rfl | exact lpl (by assumption) | (simp [AV.plain, AV.plains, AV.cells, pc, pl, pr])))) rfl)), ?_⟩
        refine OkP.step ?_
        refine OkO.move rfl rfl ?_
        refine OkO.nil ⟨rfl, ?_⟩
        refine OkP.step ?_
        refine OkO.extract rfl rfl rfl ?_
        refine OkO.nil ⟨rfl, ?_⟩
        refine OkP.step ?_
        refine OkO.extract rfl rfl rfl ?_
        refine OkO.nil ⟨rfl, ?_⟩
        refine OkP.step ?_
        refine OkO.extract rfl rfl rfl ?_
        refine OkO.nil ⟨rfl, ?_⟩
        refine OkP.step ?_
        refine OkO.extract rfl rfl rfl ?_
        refine OkO.nil ⟨rfl, ?_⟩
        refine OkP.step ?_
        refine OkO.assign rfl rfl ?_
        refine OkO.nil ⟨rfl, ?_⟩
        refine OkP.step ?_
        refine OkO.assign rfl rfl ?_
        refine OkO.nil ⟨rfl, ?_⟩
        refine OkP.step ?_
        refine OkO.assign rfl rfl ?_
        refine OkO.nil ⟨rfl, ?_⟩
        refine OkP.step ?_
        refine OkO.assign rfl rfl ?_
        refine OkO.nil ⟨rfl, ?_⟩
        refine OkP.nil ?_
        refine Ok.seq ?_
        refine Ok.seq ?_
        refine Ok.region ?_
        refine OkO.move rfl rfl ?_
        refine OkO.bin rfl rfl rfl (bin_eql _ _) ?_
        refine OkO.load rfl rfl (ldg (n := 6) (by kernel_rfl) (by first | assumption | (simp (disch := first | omega | (simp only [hNw, hPt]; omega)) only [gn0, gn1, gn2, gn3, gn4, gn5, gp0, gno, gpo] <;> first | rfl | assumption)) (by first | rfl | assumption)) ?_
        refine OkO.callV rfl rfl rfl rfl rfl (c23v (m + 37) cv cs g _ (hR.ext (hE _ gD)) (by omega) hgk) ?_ -- "sackung/sackungref02.RightGround"
        refine OkO.binT rfl rfl rfl (by rfl) ?_
        refine OkO.move rfl rfl ?_
        refine OkO.split (d := 55) rfl (fun g4 => ?_) (fun g4 => ?_)
        · -- true g4
          exact absurd g4 (by simp)
        · -- false g4
          refine OkO.move rfl rfl ?_
          refine OkO.bin rfl rfl rfl (bin_neq _ _) ?_
          refine OkO.move rfl rfl ?_
          refine OkO.split (d := 58) rfl (fun g5 => ?_) (fun g5 => ?_)
          · -- true g5
            refine OkO.move rfl rfl ?_
            refine OkO.bin rfl rfl rfl (bin_neq _ _) ?_
            refine OkO.pick (b := true) rfl rfl (fun _ => rfl) nofun ?_
            refine OkO.pick (b := false) rfl rfl nofun (fun _ => rfl) ?_
            refine OkO.nil ?_
            refine Ok.cond rfl (fun h6 => ?_) (fun h6 => ?_)
            · -- yes h6
              exact absurd h6 (by simp)
            · -- no h6
              refine Ok.skip ?_
              refine Ok.seq ?_
              refine Ok.region ?_
              refine OkO.load rfl rfl (ldg (n := 6) (by kernel_rfl) (by first | assumption | (simp (disch := first | omega | (simp only [hNw, hPt]; omega)) only [gn0, gn1, gn2, gn3, gn4, gn5, gp0, gno, gpo] <;> first | rfl | assumption)) (by first | rfl | assumption)) ?_
              refine OkO.move rfl rfl ?_
              refine OkO.callV rfl rfl rfl rfl rfl (c24v (m + 35) cv dv cs g ds _ (hR.ext (hE _ gD)) (by omega) (hY.ext (hE _ gD)) (by omega) hde) ?_ -- "sackung/sackunglaw02.fault"
              refine OkO.assign rfl rfl ?_
              refine OkO.nil ?_
              refine Ok.seq ?_
              refine Ok.seq ?_
              refine Ok.region ?_
              refine OkO.move rfl rfl ?_
              refine OkO.bin rfl rfl rfl (bin_eql _ _) ?_
              refine OkO.move rfl rfl ?_
              refine OkO.split (d := 68) rfl (fun g7 => ?_) (fun g7 => ?_)
              · -- true g7
                exact absurd g7 (by simp [he])
              · -- false g7
                refine OkO.skip rfl ?_
                refine OkO.skip rfl ?_
                refine OkO.skip rfl ?_
                refine OkO.skip rfl ?_
                refine OkO.skip rfl ?_
                refine OkO.pick (b := false) rfl rfl nofun (fun _ => rfl) ?_
                refine OkO.nil ?_
                refine Ok.condF rfl ?_
                refine Ok.skip ?_
                refine Ok.seq ?_
                refine Ok.seq ?_
                refine Ok.region ?_
                refine OkO.move rfl rfl ?_
                refine OkO.bin rfl rfl rfl (bin_neq _ _) ?_
                refine OkO.nil ?_
                refine Ok.cond rfl (fun h8 => ?_) (fun h8 => ?_)
                · -- yes h8
                  refine Ok.seq ?_
                  refine Ok.region ?_
                  refine OkO.move rfl rfl ?_
                  refine OkO.move rfl rfl ?_
                  refine OkO.bin rfl rfl rfl (bin_eql _ _) ?_
                  refine OkO.move rfl rfl ?_
                  refine OkO.split (d := 80) rfl (fun g9 => ?_) (fun g9 => ?_)
                  · -- true g9
                    refine OkO.move rfl rfl ?_
                    refine OkO.builtin rfl rfl rfl (bln (by kernel_rfl) (by first | assumption | rfl)) ?_
                    refine OkO.move rfl rfl ?_
                    refine OkO.builtin rfl rfl rfl (bln (by kernel_rfl) (by first | assumption | rfl)) ?_
                    refine OkO.bin rfl rfl rfl (bin_add (by omega) (by omega)) ?_
                    refine OkO.bin rfl rfl rfl (bin_eql _ _) ?_
                    refine OkO.pick (b := true) rfl rfl (fun _ => rfl) nofun ?_
                    refine OkO.move rfl rfl ?_
                    refine OkO.split (d := 88) rfl (fun g10 => ?_) (fun g10 => ?_)
                    · -- true g10
                      refine OkO.move rfl rfl ?_
                      refine OkO.bin rfl rfl rfl (bin_eql _ _) ?_
                      refine OkO.pick (b := true) rfl rfl (fun _ => rfl) nofun ?_
                      refine OkO.move rfl rfl ?_
                      refine OkO.split (d := 92) rfl (fun g11 => ?_) (fun g11 => ?_)
                      · -- true g11
                        refine OkO.callV rfl rfl rfl rfl rfl (rfl) ?_ -- "sackung/sackunglaw02.wakes"
                        refine OkO.pick (b := true) rfl rfl (fun _ => rfl) nofun ?_
                        refine OkO.assign rfl rfl ?_
                        refine OkO.nil ?_
                        refine Ok.ret ⟨.inr rfl, ?_⟩
                        exact back_flat rfl (congrArg AV.bool rfl) rfl (by rw [← hW]; exact gD)
                      · -- false g11
                        exact absurd g11 (by simp)
                    · -- false g10
                      exact absurd g10 (by simp)
                  · -- false g9
                    exact absurd g9 (by simp)
                · -- no h8
                  exact absurd h8 (by simp [he])
          · -- false g5
            exact absurd g5 (by simp)
theorem c3E2 (m : Nat) (cv dv lv rv : AV) (cs : List Cell) (g : Gr) (ds : List Day) (t : Tru) (lvs rain : List Int) (H : Heap) (hR : Row H cv 7 (cs.map Cell.c)) (hY : Row H dv 3 (ds.map Day.c)) (hL : Ints H lv lvs) (hA : Ints H rv rain) (hgk : gOk cs g = true) {e : Int} (hde : daysErr cs g ds = e) (he : ¬e = 0) (hte : truthErr cs g ds t lvs rain = e) : RR (m + 40) (.fn 3 [.agg [cv, I g.slo, I g.shi, I g.klo, I g.khi, I g.melt], dv, .agg [I t.snow, I t.soak, lv, rv]]) H = some (.bool true, H) := by
  refine (R_fn _ _ _ _ _).trans ?_
  refine fn_ok Try.func3 rfl rfl (by kernel_rfl) (by kernel_rfl) ?_
  obtain ⟨W, hW⟩ : ∃ W : Heap, W = ⟨H.t, H.next, H.next⟩ := ⟨_, rfl⟩
  have hg : ∀ n, W.get n = H.get n := fun n => by rw [hW]; rfl
  have hN : W.next = H.next := by rw [hW]
  have hE : ∀ G, Grow W G → Ext H G := fun G g => ⟨by rw [← hN]; exact g.next, fun n k => by rw [g.get n (by rw [hN]; exact k), hg]⟩
  have hG : Grow W W := Grow.refl (by rw [hW]; exact Nat.le_refl _)
  rw [← hW]
  have hlc : lenOf cv = some cs.length := by simpa using hR.len
  have hld : lenOf dv = some ds.length := by simpa using hY.len
  have hll : lenOf lv = some lvs.length := by simpa using hL.len
  have hlr : lenOf rv = some rain.length := by simpa using hA.len
  have pc := lpl hlc
  have pl := lpl hll
  have pr := lpl hlr
  refine Ok.seq ?_
  refine Ok.region ?_
  refine OkO.box rfl rfl ?_
  refine OkO.box rfl rfl ?_
  refine OkO.assign rfl rfl ?_
  refine OkO.nil ?_
  refine Ok.seq ?_
  refine Ok.seq ?_
  refine Ok.region ?_
  refine OkO.load rfl rfl (ldg (n := 6) (by kernel_rfl) (by first | assumption | (simp (disch := first | omega | (simp only [hNw, hPt]; omega)) only [gn0, gn1, gn2, gn3, gn4, gn5, gp0, gno, gpo] <;> first | rfl | assumption)) (by first | rfl | assumption)) ?_
  refine OkO.move rfl rfl ?_
  refine OkO.callV rfl rfl rfl rfl rfl (c16 (m + 38) cv dv cs g ds _ (hR.ext (hE _ (by (try dsimp only); repeat (first | exact hG | apply Grow.new | (refine Grow.put ?_ _ (by first | omega | (simp only [hNw, hPt]; omega))))))) (hY.ext (hE _ (by (try dsimp only); repeat (first | exact hG | apply Grow.new | (refine Grow.put ?_ _ (by first | omega | (simp only [hNw, hPt]; omega)))))))) ?_ -- "sackung/sackunglaw02.Thin"
  refine OkO.un rfl rfl rfl ?_
  refine OkO.move rfl rfl ?_
  refine OkO.split (d := 22) rfl (fun g1 => ?_) (fun g1 => ?_)
  · -- true g1
    refine OkO.skip rfl ?_
    refine OkO.skip rfl ?_
    refine OkO.skip rfl ?_
    refine OkO.skip rfl ?_
    refine OkO.pick (b := true) rfl rfl (fun _ => rfl) nofun ?_
    refine OkO.move rfl rfl ?_
    refine OkO.skip rfl ?_
    refine OkO.skip rfl ?_
    refine OkO.skip rfl ?_
    refine OkO.skip rfl ?_
    refine OkO.pick (b := true) rfl rfl (fun _ => rfl) nofun ?_
    refine OkO.nil ?_
    refine Ok.condT rfl ?_
    refine Ok.seq ?_
    refine Ok.region ?_
    refine OkO.callV rfl rfl rfl rfl rfl (rfl) ?_ -- "sackung/sackunglaw02.wakes"
    refine OkO.assign rfl rfl ?_
    refine OkO.nil ?_
    refine Ok.ret ⟨.inr rfl, ?_⟩
    exact back_flat rfl (congrArg AV.bool rfl) rfl (by rw [← hW]; exact (by (try dsimp only); repeat (first | exact hG | apply Grow.new | (refine Grow.put ?_ _ (by first | omega | (simp only [hNw, hPt]; omega))))))
  · -- false g1
    have hth : thinB cs ds = true := by simpa using g1
    unfold thinB at hth
    rw [Bool.and_eq_true] at hth
    have th1 := of_decide_eq_true hth.1
    have th2 := of_decide_eq_true hth.2
    refine OkO.fieldAddr (o := 2) rfl (by kernel_rfl) rfl ?_
    refine OkO.load rfl rfl (lda (n := 1) (by kernel_rfl) (by first | assumption | (simp (disch := first | omega | (simp only [hNw, hPt]; omega)) only [gn0, gn1, gn2, gn3, gn4, gn5, gp0, gno, gpo] <;> first | rfl | assumption)) (by first | rfl | assumption)) ?_
    refine OkO.builtin rfl rfl rfl (bln (by kernel_rfl) (by first | assumption | rfl)) ?_
    refine OkO.bin rfl rfl rfl (bin_gtr _ _) ?_
    refine OkO.pick (b := false) rfl rfl nofun (fun _ => rfl) ?_
    refine OkO.move rfl rfl ?_
    refine OkO.split (d := 28) rfl (fun g2 => ?_) (fun g2 => ?_)
    · -- true g2
      refine OkO.skip rfl ?_
      refine OkO.skip rfl ?_
      refine OkO.skip rfl ?_
      refine OkO.skip rfl ?_
      refine OkO.pick (b := true) rfl rfl (fun _ => rfl) nofun ?_
      refine OkO.nil ?_
      refine Ok.condT rfl ?_
      refine Ok.seq ?_
      refine Ok.region ?_
      refine OkO.callV rfl rfl rfl rfl rfl (rfl) ?_ -- "sackung/sackunglaw02.wakes"
      refine OkO.assign rfl rfl ?_
      refine OkO.nil ?_
      refine Ok.ret ⟨.inr rfl, ?_⟩
      exact back_flat rfl (congrArg AV.bool rfl) rfl (by rw [← hW]; exact (by (try dsimp only); repeat (first | exact hG | apply Grow.new | (refine Grow.put ?_ _ (by first | omega | (simp only [hNw, hPt]; omega))))))
    · -- false g2
      have l40 : ¬(40 : Int) < (lvs.length : Int) := by simpa using g2
      refine OkO.fieldAddr (o := 3) rfl (by kernel_rfl) rfl ?_
      refine OkO.load rfl rfl (lda (n := 1) (by kernel_rfl) (by first | assumption | (simp (disch := first | omega | (simp only [hNw, hPt]; omega)) only [gn0, gn1, gn2, gn3, gn4, gn5, gp0, gno, gpo] <;> first | rfl | assumption)) (by first | rfl | assumption)) ?_
      refine OkO.builtin rfl rfl rfl (bln (by kernel_rfl) (by first | assumption | rfl)) ?_
      refine OkO.bin rfl rfl rfl (bin_gtr _ _) ?_
      refine OkO.pick (b := false) rfl rfl nofun (fun _ => rfl) ?_
      refine OkO.nil ?_
      refine Ok.cond rfl (fun h3 => ?_) (fun h3 => ?_)
      · -- yes h3
        refine Ok.seq ?_
        refine Ok.region ?_
        refine OkO.callV rfl rfl rfl rfl rfl (rfl) ?_ -- "sackung/sackunglaw02.wakes"
        refine OkO.assign rfl rfl ?_
        refine OkO.nil ?_
        refine Ok.ret ⟨.inr rfl, ?_⟩
        exact back_flat rfl (congrArg AV.bool rfl) rfl (by rw [← hW]; exact (by (try dsimp only); repeat (first | exact hG | apply Grow.new | (refine Grow.put ?_ _ (by first | omega | (simp only [hNw, hPt]; omega))))))
      · -- no h3
        have r40 : ¬(40 : Int) < (rain.length : Int) := by simpa using h3
        refine Ok.skip ?_
        refine Ok.seq ?_
        refine Ok.region ?_
        refine OkO.load rfl rfl (ldg (n := 6) (by kernel_rfl) (by first | assumption | (simp (disch := first | omega | (simp only [hNw, hPt]; omega)) only [gn0, gn1, gn2, gn3, gn4, gn5, gp0, gno, gpo] <;> first | rfl | assumption)) (by first | rfl | assumption)) ?_
        refine OkO.callE rfl rfl rfl rfl rfl (c19 (m + 37) cv cs g _ (hR.ext (hE _ (by (try dsimp only); repeat (first | exact hG | apply Grow.new | (refine Grow.put ?_ _ (by first | omega | (simp only [hNw, hPt]; omega))))))) (by omega)) ?_ -- "sackung/sackunglaw02.Ground"
        rintro vA HA ⟨cvA, rfl, qA, rA, atA⟩
        have gA : Grow W HA := Grow.ret (by (try dsimp only); repeat (first | exact hG | apply Grow.new | (refine Grow.put ?_ _ (by first | omega | (simp only [hNw, hPt]; omega))))) qA
        have nA : W.next + 2 ≤ HA.next := by have := qA.ext.next; first | omega | (simp only [hNw] at this; omega)
        have aA : (HA.get W.next).bind AObj.cs = some [cv, I g.slo, I g.shi, I g.klo, I g.khi, I g.melt] := by rw [qA.ext.get _ (by first | omega | (simp only [hNw]; omega))]; first | assumption | (simp (disch := first | omega | (simp only [hNw, hPt]; omega)) only [gn0, gn1, gn2, gn3, gn4, gn5, gp0, gno, gpo] <;> first | rfl | assumption)
        have bA : (HA.get (W.next + 1)).bind AObj.cs = some [I t.snow, I t.soak, lv, rv] := by rw [qA.ext.get _ (by first | omega | (simp only [hNw]; omega))]; first | assumption | (simp (disch := first | omega | (simp only [hNw, hPt]; omega)) only [gn0, gn1, gn2, gn3, gn4, gn5, gp0, gno, gpo] <;> first | rfl | assumption)
        refine OkO.callV rfl rfl rfl rfl rfl (c18y (m + 34) cvA cs g _ rA (by omega) hgk) ?_ -- "sackung/water.CheckGround"
        refine OkO.assign rfl rfl ?_
        refine OkO.nil ?_
        refine Ok.seq ?_
        refine Ok.drawn [(0, true, []), (2, true, []), (4, true, []), (1, false, [4]), (3, false, [4, 0]), (5, false, [0]), (6, false, [4, 0]), (7, true, []), (8, true, []), (9, true, []), (10, true, []), (11, true, []), (12, true, []), (13, true, []), (14, true, []), (15, true, [])] (by kernel_rfl) ?_
        refine OkP.step ?_
        refine OkO.load rfl rfl (ldg (n := 6) (by kernel_rfl) (by first | assumption | (simp (disch := first | omega | (simp only [hNw, hPt]; omega)) only [gn0, gn1, gn2, gn3, gn4, gn5, gp0, gno, gpo] <;> first | rfl | assumption)) (by first | rfl | assumption)) ?_
        refine OkO.nil ⟨rfl, ?_⟩
        refine OkP.step ?_
        refine OkO.move rfl rfl ?_
        refine OkO.nil ⟨rfl, ?_⟩
        refine OkP.step ?_
        refine OkO.load rfl rfl (ldg (n := 4) (by kernel_rfl) (by first | assumption | (simp (disch := first | omega | (simp only [hNw, hPt]; omega)) only [gn0, gn1, gn2, gn3, gn4, gn5, gp0, gno, gpo] <;> first | rfl | assumption)) (by first | rfl | assumption)) ?_
        refine OkO.nil ⟨rfl, ?_⟩
        refine OkP.step ?_
        refine OkO.callE rfl rfl rfl rfl rfl (c19 (m + 37) cv cs g _ (hR.ext (hE _ gA)) (by omega)) ?_ -- "sackung/sackunglaw02.Ground"
        rintro vB HB ⟨cvB, rfl, qB, rB, atB⟩
        have gB : Grow W HB := Grow.ret gA qB
        have nB : W.next + 2 ≤ HB.next := by have := qB.ext.next; first | omega | (simp only [hNw] at this; omega)
        have aB : (HB.get W.next).bind AObj.cs = some [cv, I g.slo, I g.shi, I g.klo, I g.khi, I g.melt] := by rw [qB.ext.get _ (by first | omega | (simp only [hNw]; omega))]; first | assumption | (simp (disch := first | omega | (simp only [hNw, hPt]; omega)) only [gn0, gn1, gn2, gn3, gn4, gn5, gp0, gno, gpo] <;> first | rfl | assumption)
        have bB : (HB.get (W.next + 1)).bind AObj.cs = some [I t.snow, I t.soak, lv, rv] := by rw [qB.ext.get _ (by first | omega | (simp only [hNw]; omega))]; first | assumption | (simp (disch := first | omega | (simp only [hNw, hPt]; omega)) only [gn0, gn1, gn2, gn3, gn4, gn5, gp0, gno, gpo] <;> first | rfl | assumption)
        refine OkO.nil ⟨(sco (sld rfl rfl (ldg (n := 4) (by kernel_rfl) (by first | assumption | (simp (disch := first | omega | (simp only [hNw, hPt]; omega)) only [gn0, gn1, gn2, gn3, gn4, gn5, gp0, gno, gpo] <;> first | rfl | assumption)) (by first | rfl | assumption)) rfl (eqr _ (by first | rfl | exact lpl (by assumption) | (simp [AV.plain, AV.plains, AV.cells, pc, pl, pr])))) rfl), ?_⟩
        refine OkP.step ?_
        refine OkO.callE rfl rfl rfl rfl rfl (c21 (m + 37) dv ds _ (hY.ext (hE _ gB)) (by omega)) ?_ -- "sackung/sackunglaw02.Days"
        rintro dvC HC ⟨qC, rC, atC⟩
        have gC : Grow W HC := Grow.ret gB qC
        have nC : W.next + 2 ≤ HC.next := by have := qC.ext.next; first | omega | (simp only [hNw] at this; omega)
        have aC : (HC.get W.next).bind AObj.cs = some [cv, I g.slo, I g.shi, I g.klo, I g.khi, I g.melt] := by rw [qC.ext.get _ (by first | omega | (simp only [hNw]; omega))]; first | assumption | (simp (disch := first | omega | (simp only [hNw, hPt]; omega)) only [gn0, gn1, gn2, gn3, gn4, gn5, gp0, gno, gpo] <;> first | rfl | assumption)
        have bC : (HC.get (W.next + 1)).bind AObj.cs = some [I t.snow, I t.soak, lv, rv] := by rw [qC.ext.get _ (by first | omega | (simp only [hNw]; omega))]; first | assumption | (simp (disch := first | omega | (simp only [hNw, hPt]; omega)) only [gn0, gn1, gn2, gn3, gn4, gn5, gp0, gno, gpo] <;> first | rfl | assumption)
        refine OkO.nil ⟨(sco (sld rfl rfl (ldg (n := 4) (by kernel_rfl) (by first | assumption | (simp (disch := first | omega | (simp only [hNw, hPt]; omega)) only [gn0, gn1, gn2, gn3, gn4, gn5, gp0, gno, gpo] <;> first | rfl | assumption)) (by first | rfl | assumption)) rfl (eqr _ (by first | rfl | exact lpl (by assumption) | (simp [AV.plain, AV.plains, AV.cells, pc, pl, pr])))) (sco (sld rfl rfl (ldg (n := 6) (by kernel_rfl) (by first | assumption | (simp (disch := first | omega | (simp only [hNw, hPt]; omega)) only [gn0, gn1, gn2, gn3, gn4, gn5, gp0, gno, gpo] <;> first | rfl | assumption)) (by first | rfl | assumption)) rfl (eqr _ (by first | rfl | exact lpl (by assumption) | (simp [AV.plain, AV.plains, AV.cells, pc, pl, pr])))) rfl)), ?_⟩
        refine OkP.step ?_
        refine OkO.callE rfl rfl rfl rfl rfl (c22 (m + 37) lv rv t lvs rain _ (hL.ext (hE _ gC)) (by omega) (hA.ext (hE _ gC)) (by omega)) ?_ -- "sackung/sackunglaw02.Truth"
        rintro vD HD ⟨lvD, rvD, rfl, qD, lD, rD⟩
        have gD : Grow W HD := Grow.ret gC qD
        have nD : W.next + 2 ≤ HD.next := by have := qD.ext.next; first | omega | (simp only [hNw] at this; omega)
        have aD : (HD.get W.next).bind AObj.cs = some [cv, I g.slo, I g.shi, I g.klo, I g.khi, I g.melt] := by rw [qD.ext.get _ (by first | omega | (simp only [hNw]; omega))]; first | assumption | (simp (disch := first | omega | (simp only [hNw, hPt]; omega)) only [gn0, gn1, gn2, gn3, gn4, gn5, gp0, gno, gpo] <;> first | rfl | assumption)
        have bD : (HD.get (W.next + 1)).bind AObj.cs = some [I t.snow, I t.soak, lv, rv] := by rw [qD.ext.get _ (by first | omega | (simp only [hNw]; omega))]; first | assumption | (simp (disch := first | omega | (simp only [hNw, hPt]; omega)) only [gn0, gn1, gn2, gn3, gn4, gn5, gp0, gno, gpo] <;> first | rfl | assumption)
        refine OkO.nil ⟨(sco (sld rfl rfl (ldg (n := 6) (by kernel_rfl) (by first | assumption | (simp (disch := first | omega | (simp only [hNw, hPt]; omega)) only [gn0, gn1, gn2, gn3, gn4, gn5, gp0, gno, gpo] <;> first | rfl | assumption)) (by first | rfl | assumption)) rfl (eqr _ (by first | rfl | exact lpl (by assumption) | (simp [AV.plain, AV.plains, AV.cells, pc, pl, pr])))) rfl), ?_⟩
        refine OkP.step ?_
        refine OkO.callV rfl rfl rfl rfl rfl (c20v (m + 31) cvB dvC lvD rvD cs g ds t lvs rain _ (rB.ext (qC.ext.trans qD.ext)) (by omega) (rC.ext qD.ext) (by omega) lD (by omega) rD (by omega) hte he) ?_ -- "sackung/water.Run"
        refine OkO.nil ⟨(sco (sld rfl rfl (ldg (n := 4) (by kernel_rfl) (by first | assumption | (simp (disch := first | omega | (simp only [hNw, hPt]; omega)) only [gn0, gn1, gn2, gn3, gn4, gn5, gp0, gno, gpo] <;> first | rfl | assumption)) (by first | rfl | assumption)) rfl (eqr _ (by first | rfl | exact lpl (by assumption) | (simp [AV.plain, AV.plains, AV.cells, pc, pl, pr])))) (sco (sld rfl rfl (ldg (n := 6) (by kernel_rfl) (by first | assumption | (simp (disch := first | omega | (simp only [hNw, hPt]; omega)) only [gn0, gn1, gn2, gn3, gn4, gn5, gp0, gno, gpo] <;> first | rfl | assumption)) (by first | rfl | assumption)) rfl (eqr _ (by first | rfl | exact lpl (by assumption) | (simp [AV.plain, AV.plains, AV.cells, pc, pl, pr])))) rfl)), ?_⟩
        refine OkP.step ?_
        refine OkO.move rfl rfl ?_
        refine OkO.nil ⟨rfl, ?_⟩
        refine OkP.step ?_
        refine OkO.extract rfl rfl rfl ?_
        refine OkO.nil ⟨rfl, ?_⟩
        refine OkP.step ?_
        refine OkO.extract rfl rfl rfl ?_
        refine OkO.nil ⟨rfl, ?_⟩
        refine OkP.step ?_
        refine OkO.extract rfl rfl rfl ?_
        refine OkO.nil ⟨rfl, ?_⟩
        refine OkP.step ?_
        refine OkO.extract rfl rfl rfl ?_
        refine OkO.nil ⟨rfl, ?_⟩
        refine OkP.step ?_
        refine OkO.assign rfl rfl ?_
        refine OkO.nil ⟨rfl, ?_⟩
        refine OkP.step ?_
        refine OkO.assign rfl rfl ?_
        refine OkO.nil ⟨rfl, ?_⟩
        refine OkP.step ?_
        refine OkO.assign rfl rfl ?_
        refine OkO.nil ⟨rfl, ?_⟩
        refine OkP.step ?_
        refine OkO.assign rfl rfl ?_
        refine OkO.nil ⟨rfl, ?_⟩
        refine OkP.nil ?_
        refine Ok.seq ?_
        refine Ok.seq ?_
        refine Ok.region ?_
        refine OkO.move rfl rfl ?_
        refine OkO.bin rfl rfl rfl (bin_eql _ _) ?_
        refine OkO.load rfl rfl (ldg (n := 6) (by kernel_rfl) (by first | assumption | (simp (disch := first | omega | (simp only [hNw, hPt]; omega)) only [gn0, gn1, gn2, gn3, gn4, gn5, gp0, gno, gpo] <;> first | rfl | assumption)) (by first | rfl | assumption)) ?_
        refine OkO.callV rfl rfl rfl rfl rfl (c23v (m + 37) cv cs g _ (hR.ext (hE _ gD)) (by omega) hgk) ?_ -- "sackung/sackungref02.RightGround"
        refine OkO.binT rfl rfl rfl (by rfl) ?_
        refine OkO.move rfl rfl ?_
        refine OkO.split (d := 55) rfl (fun g4 => ?_) (fun g4 => ?_)
        · -- true g4
          exact absurd g4 (by simp)
        · -- false g4
          refine OkO.move rfl rfl ?_
          refine OkO.bin rfl rfl rfl (bin_neq _ _) ?_
          refine OkO.move rfl rfl ?_
          refine OkO.split (d := 58) rfl (fun g5 => ?_) (fun g5 => ?_)
          · -- true g5
            exact absurd g5 (by simp)
          · -- false g5
            refine OkO.skip rfl ?_
            refine OkO.skip rfl ?_
            refine OkO.pick (b := false) rfl rfl nofun (fun _ => rfl) ?_
            refine OkO.pick (b := false) rfl rfl nofun (fun _ => rfl) ?_
            refine OkO.nil ?_
            refine Ok.condF rfl ?_
            refine Ok.skip ?_
            refine Ok.seq ?_
            refine Ok.region ?_
            refine OkO.load rfl rfl (ldg (n := 6) (by kernel_rfl) (by first | assumption | (simp (disch := first | omega | (simp only [hNw, hPt]; omega)) only [gn0, gn1, gn2, gn3, gn4, gn5, gp0, gno, gpo] <;> first | rfl | assumption)) (by first | rfl | assumption)) ?_
            refine OkO.move rfl rfl ?_
            refine OkO.callV rfl rfl rfl rfl rfl (c24v (m + 35) cv dv cs g ds _ (hR.ext (hE _ gD)) (by omega) (hY.ext (hE _ gD)) (by omega) hde) ?_ -- "sackung/sackunglaw02.fault"
            refine OkO.assign rfl rfl ?_
            refine OkO.nil ?_
            refine Ok.seq ?_
            refine Ok.seq ?_
            refine Ok.region ?_
            refine OkO.move rfl rfl ?_
            refine OkO.bin rfl rfl rfl (bin_eql _ _) ?_
            refine OkO.move rfl rfl ?_
            refine OkO.split (d := 68) rfl (fun g6 => ?_) (fun g6 => ?_)
            · -- true g6
              exact absurd g6 (by simp [he])
            · -- false g6
              refine OkO.skip rfl ?_
              refine OkO.skip rfl ?_
              refine OkO.skip rfl ?_
              refine OkO.skip rfl ?_
              refine OkO.skip rfl ?_
              refine OkO.pick (b := false) rfl rfl nofun (fun _ => rfl) ?_
              refine OkO.nil ?_
              refine Ok.condF rfl ?_
              refine Ok.skip ?_
              refine Ok.seq ?_
              refine Ok.seq ?_
              refine Ok.region ?_
              refine OkO.move rfl rfl ?_
              refine OkO.bin rfl rfl rfl (bin_neq _ _) ?_
              refine OkO.nil ?_
              refine Ok.cond rfl (fun h7 => ?_) (fun h7 => ?_)
              · -- yes h7
                refine Ok.seq ?_
                refine Ok.region ?_
                refine OkO.move rfl rfl ?_
                refine OkO.move rfl rfl ?_
                refine OkO.bin rfl rfl rfl (bin_eql _ _) ?_
                refine OkO.move rfl rfl ?_
                refine OkO.split (d := 80) rfl (fun g8 => ?_) (fun g8 => ?_)
                · -- true g8
                  refine OkO.move rfl rfl ?_
                  refine OkO.builtin rfl rfl rfl (bln (by kernel_rfl) (by first | assumption | rfl)) ?_
                  refine OkO.move rfl rfl ?_
                  refine OkO.builtin rfl rfl rfl (bln (by kernel_rfl) (by first | assumption | rfl)) ?_
                  refine OkO.bin rfl rfl rfl (bin_add (by omega) (by omega)) ?_
                  refine OkO.bin rfl rfl rfl (bin_eql _ _) ?_
                  refine OkO.pick (b := true) rfl rfl (fun _ => rfl) nofun ?_
                  refine OkO.move rfl rfl ?_
                  refine OkO.split (d := 88) rfl (fun g9 => ?_) (fun g9 => ?_)
                  · -- true g9
                    refine OkO.move rfl rfl ?_
                    refine OkO.bin rfl rfl rfl (bin_eql _ _) ?_
                    refine OkO.pick (b := true) rfl rfl (fun _ => rfl) nofun ?_
                    refine OkO.move rfl rfl ?_
                    refine OkO.split (d := 92) rfl (fun g10 => ?_) (fun g10 => ?_)
                    · -- true g10
                      refine OkO.callV rfl rfl rfl rfl rfl (rfl) ?_ -- "sackung/sackunglaw02.wakes"
                      refine OkO.pick (b := true) rfl rfl (fun _ => rfl) nofun ?_
                      refine OkO.assign rfl rfl ?_
                      refine OkO.nil ?_
                      refine Ok.ret ⟨.inr rfl, ?_⟩
                      exact back_flat rfl (congrArg AV.bool rfl) rfl (by rw [← hW]; exact gD)
                    · -- false g10
                      exact absurd g10 (by simp)
                  · -- false g9
                    exact absurd g9 (by simp)
                · -- false g8
                  exact absurd g8 (by simp)
              · -- no h7
                exact absurd h7 (by simp [he])
theorem c3E3 (m : Nat) (cv dv lv rv : AV) (cs : List Cell) (g : Gr) (ds : List Day) (t : Tru) (lvs rain : List Int) (H : Heap) (hR : Row H cv 7 (cs.map Cell.c)) (hY : Row H dv 3 (ds.map Day.c)) (hL : Ints H lv lvs) (hA : Ints H rv rain) (hgk : gOk cs g = true) (hde : daysErr cs g ds = 0) (hfb : fitB cs g ds t lvs rain = false) {e : Int} (he9 : e = 9) (he : ¬e = 0) (hte : truthErr cs g ds t lvs rain = e) : RR (m + 40) (.fn 3 [.agg [cv, I g.slo, I g.shi, I g.klo, I g.khi, I g.melt], dv, .agg [I t.snow, I t.soak, lv, rv]]) H = some (.bool true, H) := by
  refine (R_fn _ _ _ _ _).trans ?_
  refine fn_ok Try.func3 rfl rfl (by kernel_rfl) (by kernel_rfl) ?_
  obtain ⟨W, hW⟩ : ∃ W : Heap, W = ⟨H.t, H.next, H.next⟩ := ⟨_, rfl⟩
  have hg : ∀ n, W.get n = H.get n := fun n => by rw [hW]; rfl
  have hN : W.next = H.next := by rw [hW]
  have hE : ∀ G, Grow W G → Ext H G := fun G g => ⟨by rw [← hN]; exact g.next, fun n k => by rw [g.get n (by rw [hN]; exact k), hg]⟩
  have hG : Grow W W := Grow.refl (by rw [hW]; exact Nat.le_refl _)
  rw [← hW]
  have hlc : lenOf cv = some cs.length := by simpa using hR.len
  have hld : lenOf dv = some ds.length := by simpa using hY.len
  have hll : lenOf lv = some lvs.length := by simpa using hL.len
  have hlr : lenOf rv = some rain.length := by simpa using hA.len
  have pc := lpl hlc
  have pl := lpl hll
  have pr := lpl hlr
  refine Ok.seq ?_
  refine Ok.region ?_
  refine OkO.box rfl rfl ?_
  refine OkO.box rfl rfl ?_
  refine OkO.assign rfl rfl ?_
  refine OkO.nil ?_
  refine Ok.seq ?_
  refine Ok.seq ?_
  refine Ok.region ?_
  refine OkO.load rfl rfl (ldg (n := 6) (by kernel_rfl) (by first | assumption | (simp (disch := first | omega | (simp only [hNw, hPt]; omega)) only [gn0, gn1, gn2, gn3, gn4, gn5, gp0, gno, gpo] <;> first | rfl | assumption)) (by first | rfl | assumption)) ?_
  refine OkO.move rfl rfl ?_
  refine OkO.callV rfl rfl rfl rfl rfl (c16 (m + 38) cv dv cs g ds _ (hR.ext (hE _ (by (try dsimp only); repeat (first | exact hG | apply Grow.new | (refine Grow.put ?_ _ (by first | omega | (simp only [hNw, hPt]; omega))))))) (hY.ext (hE _ (by (try dsimp only); repeat (first | exact hG | apply Grow.new | (refine Grow.put ?_ _ (by first | omega | (simp only [hNw, hPt]; omega)))))))) ?_ -- "sackung/sackunglaw02.Thin"
  refine OkO.un rfl rfl rfl ?_
  refine OkO.move rfl rfl ?_
  refine OkO.split (d := 22) rfl (fun g1 => ?_) (fun g1 => ?_)
  · -- true g1
    refine OkO.skip rfl ?_
    refine OkO.skip rfl ?_
    refine OkO.skip rfl ?_
    refine OkO.skip rfl ?_
    refine OkO.pick (b := true) rfl rfl (fun _ => rfl) nofun ?_
    refine OkO.move rfl rfl ?_
    refine OkO.skip rfl ?_
    refine OkO.skip rfl ?_
    refine OkO.skip rfl ?_
    refine OkO.skip rfl ?_
    refine OkO.pick (b := true) rfl rfl (fun _ => rfl) nofun ?_
    refine OkO.nil ?_
    refine Ok.condT rfl ?_
    refine Ok.seq ?_
    refine Ok.region ?_
    refine OkO.callV rfl rfl rfl rfl rfl (rfl) ?_ -- "sackung/sackunglaw02.wakes"
    refine OkO.assign rfl rfl ?_
    refine OkO.nil ?_
    refine Ok.ret ⟨.inr rfl, ?_⟩
    exact back_flat rfl (congrArg AV.bool rfl) rfl (by rw [← hW]; exact (by (try dsimp only); repeat (first | exact hG | apply Grow.new | (refine Grow.put ?_ _ (by first | omega | (simp only [hNw, hPt]; omega))))))
  · -- false g1
    have hth : thinB cs ds = true := by simpa using g1
    unfold thinB at hth
    rw [Bool.and_eq_true] at hth
    have th1 := of_decide_eq_true hth.1
    have th2 := of_decide_eq_true hth.2
    refine OkO.fieldAddr (o := 2) rfl (by kernel_rfl) rfl ?_
    refine OkO.load rfl rfl (lda (n := 1) (by kernel_rfl) (by first | assumption | (simp (disch := first | omega | (simp only [hNw, hPt]; omega)) only [gn0, gn1, gn2, gn3, gn4, gn5, gp0, gno, gpo] <;> first | rfl | assumption)) (by first | rfl | assumption)) ?_
    refine OkO.builtin rfl rfl rfl (bln (by kernel_rfl) (by first | assumption | rfl)) ?_
    refine OkO.bin rfl rfl rfl (bin_gtr _ _) ?_
    refine OkO.pick (b := false) rfl rfl nofun (fun _ => rfl) ?_
    refine OkO.move rfl rfl ?_
    refine OkO.split (d := 28) rfl (fun g2 => ?_) (fun g2 => ?_)
    · -- true g2
      refine OkO.skip rfl ?_
      refine OkO.skip rfl ?_
      refine OkO.skip rfl ?_
      refine OkO.skip rfl ?_
      refine OkO.pick (b := true) rfl rfl (fun _ => rfl) nofun ?_
      refine OkO.nil ?_
      refine Ok.condT rfl ?_
      refine Ok.seq ?_
      refine Ok.region ?_
      refine OkO.callV rfl rfl rfl rfl rfl (rfl) ?_ -- "sackung/sackunglaw02.wakes"
      refine OkO.assign rfl rfl ?_
      refine OkO.nil ?_
      refine Ok.ret ⟨.inr rfl, ?_⟩
      exact back_flat rfl (congrArg AV.bool rfl) rfl (by rw [← hW]; exact (by (try dsimp only); repeat (first | exact hG | apply Grow.new | (refine Grow.put ?_ _ (by first | omega | (simp only [hNw, hPt]; omega))))))
    · -- false g2
      have l40 : ¬(40 : Int) < (lvs.length : Int) := by simpa using g2
      refine OkO.fieldAddr (o := 3) rfl (by kernel_rfl) rfl ?_
      refine OkO.load rfl rfl (lda (n := 1) (by kernel_rfl) (by first | assumption | (simp (disch := first | omega | (simp only [hNw, hPt]; omega)) only [gn0, gn1, gn2, gn3, gn4, gn5, gp0, gno, gpo] <;> first | rfl | assumption)) (by first | rfl | assumption)) ?_
      refine OkO.builtin rfl rfl rfl (bln (by kernel_rfl) (by first | assumption | rfl)) ?_
      refine OkO.bin rfl rfl rfl (bin_gtr _ _) ?_
      refine OkO.pick (b := false) rfl rfl nofun (fun _ => rfl) ?_
      refine OkO.nil ?_
      refine Ok.cond rfl (fun h3 => ?_) (fun h3 => ?_)
      · -- yes h3
        refine Ok.seq ?_
        refine Ok.region ?_
        refine OkO.callV rfl rfl rfl rfl rfl (rfl) ?_ -- "sackung/sackunglaw02.wakes"
        refine OkO.assign rfl rfl ?_
        refine OkO.nil ?_
        refine Ok.ret ⟨.inr rfl, ?_⟩
        exact back_flat rfl (congrArg AV.bool rfl) rfl (by rw [← hW]; exact (by (try dsimp only); repeat (first | exact hG | apply Grow.new | (refine Grow.put ?_ _ (by first | omega | (simp only [hNw, hPt]; omega))))))
      · -- no h3
        have r40 : ¬(40 : Int) < (rain.length : Int) := by simpa using h3
        refine Ok.skip ?_
        refine Ok.seq ?_
        refine Ok.region ?_
        refine OkO.load rfl rfl (ldg (n := 6) (by kernel_rfl) (by first | assumption | (simp (disch := first | omega | (simp only [hNw, hPt]; omega)) only [gn0, gn1, gn2, gn3, gn4, gn5, gp0, gno, gpo] <;> first | rfl | assumption)) (by first | rfl | assumption)) ?_
        refine OkO.callE rfl rfl rfl rfl rfl (c19 (m + 37) cv cs g _ (hR.ext (hE _ (by (try dsimp only); repeat (first | exact hG | apply Grow.new | (refine Grow.put ?_ _ (by first | omega | (simp only [hNw, hPt]; omega))))))) (by omega)) ?_ -- "sackung/sackunglaw02.Ground"
        rintro vA HA ⟨cvA, rfl, qA, rA, atA⟩
        have gA : Grow W HA := Grow.ret (by (try dsimp only); repeat (first | exact hG | apply Grow.new | (refine Grow.put ?_ _ (by first | omega | (simp only [hNw, hPt]; omega))))) qA
        have nA : W.next + 2 ≤ HA.next := by have := qA.ext.next; first | omega | (simp only [hNw] at this; omega)
        have aA : (HA.get W.next).bind AObj.cs = some [cv, I g.slo, I g.shi, I g.klo, I g.khi, I g.melt] := by rw [qA.ext.get _ (by first | omega | (simp only [hNw]; omega))]; first | assumption | (simp (disch := first | omega | (simp only [hNw, hPt]; omega)) only [gn0, gn1, gn2, gn3, gn4, gn5, gp0, gno, gpo] <;> first | rfl | assumption)
        have bA : (HA.get (W.next + 1)).bind AObj.cs = some [I t.snow, I t.soak, lv, rv] := by rw [qA.ext.get _ (by first | omega | (simp only [hNw]; omega))]; first | assumption | (simp (disch := first | omega | (simp only [hNw, hPt]; omega)) only [gn0, gn1, gn2, gn3, gn4, gn5, gp0, gno, gpo] <;> first | rfl | assumption)
        refine OkO.callV rfl rfl rfl rfl rfl (c18y (m + 34) cvA cs g _ rA (by omega) hgk) ?_ -- "sackung/water.CheckGround"
        refine OkO.assign rfl rfl ?_
        refine OkO.nil ?_
        refine Ok.seq ?_
        refine Ok.drawn [(0, true, []), (2, true, []), (4, true, []), (1, false, [4]), (3, false, [4, 0]), (5, false, [0]), (6, false, [4, 0]), (7, true, []), (8, true, []), (9, true, []), (10, true, []), (11, true, []), (12, true, []), (13, true, []), (14, true, []), (15, true, [])] (by kernel_rfl) ?_
        refine OkP.step ?_
        refine OkO.load rfl rfl (ldg (n := 6) (by kernel_rfl) (by first | assumption | (simp (disch := first | omega | (simp only [hNw, hPt]; omega)) only [gn0, gn1, gn2, gn3, gn4, gn5, gp0, gno, gpo] <;> first | rfl | assumption)) (by first | rfl | assumption)) ?_
        refine OkO.nil ⟨rfl, ?_⟩
        refine OkP.step ?_
        refine OkO.move rfl rfl ?_
        refine OkO.nil ⟨rfl, ?_⟩
        refine OkP.step ?_
        refine OkO.load rfl rfl (ldg (n := 4) (by kernel_rfl) (by first | assumption | (simp (disch := first | omega | (simp only [hNw, hPt]; omega)) only [gn0, gn1, gn2, gn3, gn4, gn5, gp0, gno, gpo] <;> first | rfl | assumption)) (by first | rfl | assumption)) ?_
        refine OkO.nil ⟨rfl, ?_⟩
        refine OkP.step ?_
        refine OkO.callE rfl rfl rfl rfl rfl (c19 (m + 37) cv cs g _ (hR.ext (hE _ gA)) (by omega)) ?_ -- "sackung/sackunglaw02.Ground"
        rintro vB HB ⟨cvB, rfl, qB, rB, atB⟩
        have gB : Grow W HB := Grow.ret gA qB
        have nB : W.next + 2 ≤ HB.next := by have := qB.ext.next; first | omega | (simp only [hNw] at this; omega)
        have aB : (HB.get W.next).bind AObj.cs = some [cv, I g.slo, I g.shi, I g.klo, I g.khi, I g.melt] := by rw [qB.ext.get _ (by first | omega | (simp only [hNw]; omega))]; first | assumption | (simp (disch := first | omega | (simp only [hNw, hPt]; omega)) only [gn0, gn1, gn2, gn3, gn4, gn5, gp0, gno, gpo] <;> first | rfl | assumption)
        have bB : (HB.get (W.next + 1)).bind AObj.cs = some [I t.snow, I t.soak, lv, rv] := by rw [qB.ext.get _ (by first | omega | (simp only [hNw]; omega))]; first | assumption | (simp (disch := first | omega | (simp only [hNw, hPt]; omega)) only [gn0, gn1, gn2, gn3, gn4, gn5, gp0, gno, gpo] <;> first | rfl | assumption)
        refine OkO.nil ⟨(sco (sld rfl rfl (ldg (n := 4) (by kernel_rfl) (by first | assumption | (simp (disch := first | omega | (simp only [hNw, hPt]; omega)) only [gn0, gn1, gn2, gn3, gn4, gn5, gp0, gno, gpo] <;> first | rfl | assumption)) (by first | rfl | assumption)) rfl (eqr _ (by first | rfl | exact lpl (by assumption) | (simp [AV.plain, AV.plains, AV.cells, pc, pl, pr])))) rfl), ?_⟩
        refine OkP.step ?_
        refine OkO.callE rfl rfl rfl rfl rfl (c21 (m + 37) dv ds _ (hY.ext (hE _ gB)) (by omega)) ?_ -- "sackung/sackunglaw02.Days"
        rintro dvC HC ⟨qC, rC, atC⟩
        have gC : Grow W HC := Grow.ret gB qC
        have nC : W.next + 2 ≤ HC.next := by have := qC.ext.next; first | omega | (simp only [hNw] at this; omega)
        have aC : (HC.get W.next).bind AObj.cs = some [cv, I g.slo, I g.shi, I g.klo, I g.khi, I g.melt] := by rw [qC.ext.get _ (by first | omega | (simp only [hNw]; omega))]; first | assumption | (simp (disch := first | omega | (simp only [hNw, hPt]; omega)) only [gn0, gn1, gn2, gn3, gn4, gn5, gp0, gno, gpo] <;> first | rfl | assumption)
        have bC : (HC.get (W.next + 1)).bind AObj.cs = some [I t.snow, I t.soak, lv, rv] := by rw [qC.ext.get _ (by first | omega | (simp only [hNw]; omega))]; first | assumption | (simp (disch := first | omega | (simp only [hNw, hPt]; omega)) only [gn0, gn1, gn2, gn3, gn4, gn5, gp0, gno, gpo] <;> first | rfl | assumption)
        refine OkO.nil ⟨(sco (sld rfl rfl (ldg (n := 4) (by kernel_rfl) (by first | assumption | (simp (disch := first | omega | (simp only [hNw, hPt]; omega)) only [gn0, gn1, gn2, gn3, gn4, gn5, gp0, gno, gpo] <;> first | rfl | assumption)) (by first | rfl | assumption)) rfl (eqr _ (by first | rfl | exact lpl (by assumption) | (simp [AV.plain, AV.plains, AV.cells, pc, pl, pr])))) (sco (sld rfl rfl (ldg (n := 6) (by kernel_rfl) (by first | assumption | (simp (disch := first | omega | (simp only [hNw, hPt]; omega)) only [gn0, gn1, gn2, gn3, gn4, gn5, gp0, gno, gpo] <;> first | rfl | assumption)) (by first | rfl | assumption)) rfl (eqr _ (by first | rfl | exact lpl (by assumption) | (simp [AV.plain, AV.plains, AV.cells, pc, pl, pr])))) rfl)), ?_⟩
        refine OkP.step ?_
        refine OkO.callE rfl rfl rfl rfl rfl (c22 (m + 37) lv rv t lvs rain _ (hL.ext (hE _ gC)) (by omega) (hA.ext (hE _ gC)) (by omega)) ?_ -- "sackung/sackunglaw02.Truth"
        rintro vD HD ⟨lvD, rvD, rfl, qD, lD, rD⟩
        have gD : Grow W HD := Grow.ret gC qD
        have nD : W.next + 2 ≤ HD.next := by have := qD.ext.next; first | omega | (simp only [hNw] at this; omega)
        have aD : (HD.get W.next).bind AObj.cs = some [cv, I g.slo, I g.shi, I g.klo, I g.khi, I g.melt] := by rw [qD.ext.get _ (by first | omega | (simp only [hNw]; omega))]; first | assumption | (simp (disch := first | omega | (simp only [hNw, hPt]; omega)) only [gn0, gn1, gn2, gn3, gn4, gn5, gp0, gno, gpo] <;> first | rfl | assumption)
        have bD : (HD.get (W.next + 1)).bind AObj.cs = some [I t.snow, I t.soak, lv, rv] := by rw [qD.ext.get _ (by first | omega | (simp only [hNw]; omega))]; first | assumption | (simp (disch := first | omega | (simp only [hNw, hPt]; omega)) only [gn0, gn1, gn2, gn3, gn4, gn5, gp0, gno, gpo] <;> first | rfl | assumption)
        refine OkO.nil ⟨(sco (sld rfl rfl (ldg (n := 6) (by kernel_rfl) (by first | assumption | (simp (disch := first | omega | (simp only [hNw, hPt]; omega)) only [gn0, gn1, gn2, gn3, gn4, gn5, gp0, gno, gpo] <;> first | rfl | assumption)) (by first | rfl | assumption)) rfl (eqr _ (by first | rfl | exact lpl (by assumption) | (simp [AV.plain, AV.plains, AV.cells, pc, pl, pr])))) rfl), ?_⟩
        refine OkP.step ?_
        refine OkO.callV rfl rfl rfl rfl rfl (c20v (m + 31) cvB dvC lvD rvD cs g ds t lvs rain _ (rB.ext (qC.ext.trans qD.ext)) (by omega) (rC.ext qD.ext) (by omega) lD (by omega) rD (by omega) hte he) ?_ -- "sackung/water.Run"
        refine OkO.nil ⟨(sco (sld rfl rfl (ldg (n := 4) (by kernel_rfl) (by first | assumption | (simp (disch := first | omega | (simp only [hNw, hPt]; omega)) only [gn0, gn1, gn2, gn3, gn4, gn5, gp0, gno, gpo] <;> first | rfl | assumption)) (by first | rfl | assumption)) rfl (eqr _ (by first | rfl | exact lpl (by assumption) | (simp [AV.plain, AV.plains, AV.cells, pc, pl, pr])))) (sco (sld rfl rfl (ldg (n := 6) (by kernel_rfl) (by first | assumption | (simp (disch := first | omega | (simp only [hNw, hPt]; omega)) only [gn0, gn1, gn2, gn3, gn4, gn5, gp0, gno, gpo] <;> first | rfl | assumption)) (by first | rfl | assumption)) rfl (eqr _ (by first | rfl | exact lpl (by assumption) | (simp [AV.plain, AV.plains, AV.cells, pc, pl, pr])))) rfl)), ?_⟩
        refine OkP.step ?_
        refine OkO.move rfl rfl ?_
        refine OkO.nil ⟨rfl, ?_⟩
        refine OkP.step ?_
        refine OkO.extract rfl rfl rfl ?_
        refine OkO.nil ⟨rfl, ?_⟩
        refine OkP.step ?_
        refine OkO.extract rfl rfl rfl ?_
        refine OkO.nil ⟨rfl, ?_⟩
        refine OkP.step ?_
        refine OkO.extract rfl rfl rfl ?_
        refine OkO.nil ⟨rfl, ?_⟩
        refine OkP.step ?_
        refine OkO.extract rfl rfl rfl ?_
        refine OkO.nil ⟨rfl, ?_⟩
        refine OkP.step ?_
        refine OkO.assign rfl rfl ?_
        refine OkO.nil ⟨rfl, ?_⟩
        refine OkP.step ?_
        refine OkO.assign rfl rfl ?_
        refine OkO.nil ⟨rfl, ?_⟩
        refine OkP.step ?_
        refine OkO.assign rfl rfl ?_
        refine OkO.nil ⟨rfl, ?_⟩
        refine OkP.step ?_
        refine OkO.assign rfl rfl ?_
        refine OkO.nil ⟨rfl, ?_⟩
        refine OkP.nil ?_
        refine Ok.seq ?_
        refine Ok.seq ?_
        refine Ok.region ?_
        refine OkO.move rfl rfl ?_
        refine OkO.bin rfl rfl rfl (bin_eql _ _) ?_
        refine OkO.load rfl rfl (ldg (n := 6) (by kernel_rfl) (by first | assumption | (simp (disch := first | omega | (simp only [hNw, hPt]; omega)) only [gn0, gn1, gn2, gn3, gn4, gn5, gp0, gno, gpo] <;> first | rfl | assumption)) (by first | rfl | assumption)) ?_
        refine OkO.callV rfl rfl rfl rfl rfl (c23v (m + 37) cv cs g _ (hR.ext (hE _ gD)) (by omega) hgk) ?_ -- "sackung/sackungref02.RightGround"
        refine OkO.binT rfl rfl rfl (by rfl) ?_
        refine OkO.move rfl rfl ?_
        refine OkO.split (d := 55) rfl (fun g4 => ?_) (fun g4 => ?_)
        · -- true g4
          exact absurd g4 (by simp)
        · -- false g4
          refine OkO.move rfl rfl ?_
          refine OkO.bin rfl rfl rfl (bin_neq _ _) ?_
          refine OkO.move rfl rfl ?_
          refine OkO.split (d := 58) rfl (fun g5 => ?_) (fun g5 => ?_)
          · -- true g5
            exact absurd g5 (by simp)
          · -- false g5
            refine OkO.skip rfl ?_
            refine OkO.skip rfl ?_
            refine OkO.pick (b := false) rfl rfl nofun (fun _ => rfl) ?_
            refine OkO.pick (b := false) rfl rfl nofun (fun _ => rfl) ?_
            refine OkO.nil ?_
            refine Ok.condF rfl ?_
            refine Ok.skip ?_
            refine Ok.seq ?_
            refine Ok.region ?_
            refine OkO.load rfl rfl (ldg (n := 6) (by kernel_rfl) (by first | assumption | (simp (disch := first | omega | (simp only [hNw, hPt]; omega)) only [gn0, gn1, gn2, gn3, gn4, gn5, gp0, gno, gpo] <;> first | rfl | assumption)) (by first | rfl | assumption)) ?_
            refine OkO.move rfl rfl ?_
            refine OkO.callV rfl rfl rfl rfl rfl (c24v (m + 35) cv dv cs g ds _ (hR.ext (hE _ gD)) (by omega) (hY.ext (hE _ gD)) (by omega) hde) ?_ -- "sackung/sackunglaw02.fault"
            refine OkO.assign rfl rfl ?_
            refine OkO.nil ?_
            refine Ok.seq ?_
            refine Ok.seq ?_
            refine Ok.region ?_
            refine OkO.move rfl rfl ?_
            refine OkO.bin rfl rfl rfl (bin_eql _ _) ?_
            refine OkO.move rfl rfl ?_
            refine OkO.split (d := 68) rfl (fun g6 => ?_) (fun g6 => ?_)
            · -- true g6
              refine OkO.load rfl rfl (ldg (n := 6) (by kernel_rfl) (by first | assumption | (simp (disch := first | omega | (simp only [hNw, hPt]; omega)) only [gn0, gn1, gn2, gn3, gn4, gn5, gp0, gno, gpo] <;> first | rfl | assumption)) (by first | rfl | assumption)) ?_
              refine OkO.move rfl rfl ?_
              refine OkO.load rfl rfl (ldg (n := 4) (by kernel_rfl) (by first | assumption | (simp (disch := first | omega | (simp only [hNw, hPt]; omega)) only [gn0, gn1, gn2, gn3, gn4, gn5, gp0, gno, gpo] <;> first | rfl | assumption)) (by first | rfl | assumption)) ?_
              refine OkO.callV rfl rfl rfl rfl rfl (c25v (m + 36) cv dv lv rv cs g ds t lvs rain _ (hR.ext (hE _ gD)) (hY.ext (hE _ gD)) (hL.ext (hE _ gD)) (by omega) (hA.ext (hE _ gD)) (by omega) hfb) ?_ -- "sackung/sackungref02.Fits"
              refine OkO.un rfl rfl rfl ?_
              refine OkO.pick (b := true) rfl rfl (fun _ => rfl) nofun ?_
              refine OkO.nil ?_
              refine Ok.cond rfl (fun h7 => ?_) (fun h7 => ?_)
              · -- yes h7
                refine Ok.region ?_
                refine OkO.assign rfl rfl ?_
                refine OkO.nil ?_
                refine Ok.seq ?_
                refine Ok.seq ?_
                refine Ok.region ?_
                refine OkO.move rfl rfl ?_
                refine OkO.bin rfl rfl rfl (bin_neq _ _) ?_
                refine OkO.nil ?_
                refine Ok.cond rfl (fun h8 => ?_) (fun h8 => ?_)
                · -- yes h8
                  refine Ok.seq ?_
                  refine Ok.region ?_
                  refine OkO.move rfl rfl ?_
                  refine OkO.move rfl rfl ?_
                  refine OkO.bin rfl rfl rfl (bin_eql _ _) ?_
                  refine OkO.move rfl rfl ?_
                  refine OkO.split (d := 80) rfl (fun g9 => ?_) (fun g9 => ?_)
                  · -- true g9
                    refine OkO.move rfl rfl ?_
                    refine OkO.builtin rfl rfl rfl (bln (by kernel_rfl) (by first | assumption | rfl)) ?_
                    refine OkO.move rfl rfl ?_
                    refine OkO.builtin rfl rfl rfl (bln (by kernel_rfl) (by first | assumption | rfl)) ?_
                    refine OkO.bin rfl rfl rfl (bin_add (by omega) (by omega)) ?_
                    refine OkO.bin rfl rfl rfl (bin_eql _ _) ?_
                    refine OkO.pick (b := true) rfl rfl (fun _ => rfl) nofun ?_
                    refine OkO.move rfl rfl ?_
                    refine OkO.split (d := 88) rfl (fun g10 => ?_) (fun g10 => ?_)
                    · -- true g10
                      refine OkO.move rfl rfl ?_
                      refine OkO.bin rfl rfl rfl (bin_eql _ _) ?_
                      refine OkO.pick (b := true) rfl rfl (fun _ => rfl) nofun ?_
                      refine OkO.move rfl rfl ?_
                      refine OkO.split (d := 92) rfl (fun g11 => ?_) (fun g11 => ?_)
                      · -- true g11
                        refine OkO.callV rfl rfl rfl rfl rfl (rfl) ?_ -- "sackung/sackunglaw02.wakes"
                        refine OkO.pick (b := true) rfl rfl (fun _ => rfl) nofun ?_
                        refine OkO.assign rfl rfl ?_
                        refine OkO.nil ?_
                        refine Ok.ret ⟨.inr rfl, ?_⟩
                        exact back_flat rfl (congrArg AV.bool rfl) rfl (by rw [← hW]; exact gD)
                      · -- false g11
                        exact absurd g11 (by simp)
                    · -- false g10
                      exact absurd g10 (by simp)
                  · -- false g9
                    exact absurd g9 (by simp [he9])
                · -- no h8
                  exact absurd h8 (by simp)
              · -- no h7
                exact absurd h7 (by simp)
            · -- false g6
              exact absurd g6 (by simp)
theorem c3K (m : Nat) (cv dv lv rv : AV) (cs : List Cell) (g : Gr) (ds : List Day) (t : Tru) (lvs rain : List Int) (H : Heap) (hR : Row H cv 7 (cs.map Cell.c)) (hY : Row H dv 3 (ds.map Day.c)) (hL : Ints H lv lvs) (hA : Ints H rv rain) (hgk : gOk cs g = true) (hde : daysErr cs g ds = 0) (hfb : fitB cs g ds t lvs rain = true) (hte : truthErr cs g ds t lvs rain = 0) : RR (m + 40) (.fn 3 [.agg [cv, I g.slo, I g.shi, I g.klo, I g.khi, I g.melt], dv, .agg [I t.snow, I t.soak, lv, rv]]) H = some (.bool true, H) := by
  refine (R_fn _ _ _ _ _).trans ?_
  refine fn_ok Try.func3 rfl rfl (by kernel_rfl) (by kernel_rfl) ?_
  obtain ⟨W, hW⟩ : ∃ W : Heap, W = ⟨H.t, H.next, H.next⟩ := ⟨_, rfl⟩
  have hg : ∀ n, W.get n = H.get n := fun n => by rw [hW]; rfl
  have hN : W.next = H.next := by rw [hW]
  have hE : ∀ G, Grow W G → Ext H G := fun G g => ⟨by rw [← hN]; exact g.next, fun n k => by rw [g.get n (by rw [hN]; exact k), hg]⟩
  have hG : Grow W W := Grow.refl (by rw [hW]; exact Nat.le_refl _)
  rw [← hW]
  have hlc : lenOf cv = some cs.length := by simpa using hR.len
  have hld : lenOf dv = some ds.length := by simpa using hY.len
  have hll : lenOf lv = some lvs.length := by simpa using hL.len
  have hlr : lenOf rv = some rain.length := by simpa using hA.len
  have pc := lpl hlc
  have pl := lpl hll
  have pr := lpl hlr
  have hF := fit_of hte
  refine Ok.seq ?_
  refine Ok.region ?_
  refine OkO.box rfl rfl ?_
  refine OkO.box rfl rfl ?_
  refine OkO.assign rfl rfl ?_
  refine OkO.nil ?_
  refine Ok.seq ?_
  refine Ok.seq ?_
  refine Ok.region ?_
  refine OkO.load rfl rfl (ldg (n := 6) (by kernel_rfl) (by first | assumption | (simp (disch := first | omega | (simp only [hNw, hPt]; omega)) only [gn0, gn1, gn2, gn3, gn4, gn5, gp0, gno, gpo] <;> first | rfl | assumption)) (by first | rfl | assumption)) ?_
  refine OkO.move rfl rfl ?_
  refine OkO.callV rfl rfl rfl rfl rfl (c16 (m + 38) cv dv cs g ds _ (hR.ext (hE _ (by (try dsimp only); repeat (first | exact hG | apply Grow.new | (refine Grow.put ?_ _ (by first | omega | (simp only [hNw, hPt]; omega))))))) (hY.ext (hE _ (by (try dsimp only); repeat (first | exact hG | apply Grow.new | (refine Grow.put ?_ _ (by first | omega | (simp only [hNw, hPt]; omega)))))))) ?_ -- "sackung/sackunglaw02.Thin"
  refine OkO.un rfl rfl rfl ?_
  refine OkO.move rfl rfl ?_
  refine OkO.split (d := 22) rfl (fun g1 => ?_) (fun g1 => ?_)
  · -- true g1
    refine OkO.skip rfl ?_
    refine OkO.skip rfl ?_
    refine OkO.skip rfl ?_
    refine OkO.skip rfl ?_
    refine OkO.pick (b := true) rfl rfl (fun _ => rfl) nofun ?_
    refine OkO.move rfl rfl ?_
    refine OkO.skip rfl ?_
    refine OkO.skip rfl ?_
    refine OkO.skip rfl ?_
    refine OkO.skip rfl ?_
    refine OkO.pick (b := true) rfl rfl (fun _ => rfl) nofun ?_
    refine OkO.nil ?_
    refine Ok.condT rfl ?_
    refine Ok.seq ?_
    refine Ok.region ?_
    refine OkO.callV rfl rfl rfl rfl rfl (rfl) ?_ -- "sackung/sackunglaw02.wakes"
    refine OkO.assign rfl rfl ?_
    refine OkO.nil ?_
    refine Ok.ret ⟨.inr rfl, ?_⟩
    exact back_flat rfl (congrArg AV.bool rfl) rfl (by rw [← hW]; exact (by (try dsimp only); repeat (first | exact hG | apply Grow.new | (refine Grow.put ?_ _ (by first | omega | (simp only [hNw, hPt]; omega))))))
  · -- false g1
    have hth : thinB cs ds = true := by simpa using g1
    unfold thinB at hth
    rw [Bool.and_eq_true] at hth
    have th1 := of_decide_eq_true hth.1
    have th2 := of_decide_eq_true hth.2
    refine OkO.fieldAddr (o := 2) rfl (by kernel_rfl) rfl ?_
    refine OkO.load rfl rfl (lda (n := 1) (by kernel_rfl) (by first | assumption | (simp (disch := first | omega | (simp only [hNw, hPt]; omega)) only [gn0, gn1, gn2, gn3, gn4, gn5, gp0, gno, gpo] <;> first | rfl | assumption)) (by first | rfl | assumption)) ?_
    refine OkO.builtin rfl rfl rfl (bln (by kernel_rfl) (by first | assumption | rfl)) ?_
    refine OkO.bin rfl rfl rfl (bin_gtr _ _) ?_
    refine OkO.pick (b := false) rfl rfl nofun (fun _ => rfl) ?_
    refine OkO.move rfl rfl ?_
    refine OkO.split (d := 28) rfl (fun g2 => ?_) (fun g2 => ?_)
    · -- true g2
      refine OkO.skip rfl ?_
      refine OkO.skip rfl ?_
      refine OkO.skip rfl ?_
      refine OkO.skip rfl ?_
      refine OkO.pick (b := true) rfl rfl (fun _ => rfl) nofun ?_
      refine OkO.nil ?_
      refine Ok.condT rfl ?_
      refine Ok.seq ?_
      refine Ok.region ?_
      refine OkO.callV rfl rfl rfl rfl rfl (rfl) ?_ -- "sackung/sackunglaw02.wakes"
      refine OkO.assign rfl rfl ?_
      refine OkO.nil ?_
      refine Ok.ret ⟨.inr rfl, ?_⟩
      exact back_flat rfl (congrArg AV.bool rfl) rfl (by rw [← hW]; exact (by (try dsimp only); repeat (first | exact hG | apply Grow.new | (refine Grow.put ?_ _ (by first | omega | (simp only [hNw, hPt]; omega))))))
    · -- false g2
      have l40 : ¬(40 : Int) < (lvs.length : Int) := by simpa using g2
      refine OkO.fieldAddr (o := 3) rfl (by kernel_rfl) rfl ?_
      refine OkO.load rfl rfl (lda (n := 1) (by kernel_rfl) (by first | assumption | (simp (disch := first | omega | (simp only [hNw, hPt]; omega)) only [gn0, gn1, gn2, gn3, gn4, gn5, gp0, gno, gpo] <;> first | rfl | assumption)) (by first | rfl | assumption)) ?_
      refine OkO.builtin rfl rfl rfl (bln (by kernel_rfl) (by first | assumption | rfl)) ?_
      refine OkO.bin rfl rfl rfl (bin_gtr _ _) ?_
      refine OkO.pick (b := false) rfl rfl nofun (fun _ => rfl) ?_
      refine OkO.nil ?_
      refine Ok.cond rfl (fun h3 => ?_) (fun h3 => ?_)
      · -- yes h3
        refine Ok.seq ?_
        refine Ok.region ?_
        refine OkO.callV rfl rfl rfl rfl rfl (rfl) ?_ -- "sackung/sackunglaw02.wakes"
        refine OkO.assign rfl rfl ?_
        refine OkO.nil ?_
        refine Ok.ret ⟨.inr rfl, ?_⟩
        exact back_flat rfl (congrArg AV.bool rfl) rfl (by rw [← hW]; exact (by (try dsimp only); repeat (first | exact hG | apply Grow.new | (refine Grow.put ?_ _ (by first | omega | (simp only [hNw, hPt]; omega))))))
      · -- no h3
        have r40 : ¬(40 : Int) < (rain.length : Int) := by simpa using h3
        refine Ok.skip ?_
        refine Ok.seq ?_
        refine Ok.region ?_
        refine OkO.load rfl rfl (ldg (n := 6) (by kernel_rfl) (by first | assumption | (simp (disch := first | omega | (simp only [hNw, hPt]; omega)) only [gn0, gn1, gn2, gn3, gn4, gn5, gp0, gno, gpo] <;> first | rfl | assumption)) (by first | rfl | assumption)) ?_
        refine OkO.callE rfl rfl rfl rfl rfl (c19 (m + 37) cv cs g _ (hR.ext (hE _ (by (try dsimp only); repeat (first | exact hG | apply Grow.new | (refine Grow.put ?_ _ (by first | omega | (simp only [hNw, hPt]; omega))))))) (by omega)) ?_ -- "sackung/sackunglaw02.Ground"
        rintro vA HA ⟨cvA, rfl, qA, rA, atA⟩
        have gA : Grow W HA := Grow.ret (by (try dsimp only); repeat (first | exact hG | apply Grow.new | (refine Grow.put ?_ _ (by first | omega | (simp only [hNw, hPt]; omega))))) qA
        have nA : W.next + 2 ≤ HA.next := by have := qA.ext.next; first | omega | (simp only [hNw] at this; omega)
        have aA : (HA.get W.next).bind AObj.cs = some [cv, I g.slo, I g.shi, I g.klo, I g.khi, I g.melt] := by rw [qA.ext.get _ (by first | omega | (simp only [hNw]; omega))]; first | assumption | (simp (disch := first | omega | (simp only [hNw, hPt]; omega)) only [gn0, gn1, gn2, gn3, gn4, gn5, gp0, gno, gpo] <;> first | rfl | assumption)
        have bA : (HA.get (W.next + 1)).bind AObj.cs = some [I t.snow, I t.soak, lv, rv] := by rw [qA.ext.get _ (by first | omega | (simp only [hNw]; omega))]; first | assumption | (simp (disch := first | omega | (simp only [hNw, hPt]; omega)) only [gn0, gn1, gn2, gn3, gn4, gn5, gp0, gno, gpo] <;> first | rfl | assumption)
        refine OkO.callV rfl rfl rfl rfl rfl (c18y (m + 34) cvA cs g _ rA (by omega) hgk) ?_ -- "sackung/water.CheckGround"
        refine OkO.assign rfl rfl ?_
        refine OkO.nil ?_
        refine Ok.seq ?_
        refine Ok.drawn [(0, true, []), (2, true, []), (4, true, []), (1, false, [4]), (3, false, [4, 0]), (5, false, [0]), (6, false, [4, 0]), (7, true, []), (8, true, []), (9, true, []), (10, true, []), (11, true, []), (12, true, []), (13, true, []), (14, true, []), (15, true, [])] (by kernel_rfl) ?_
        refine OkP.step ?_
        refine OkO.load rfl rfl (ldg (n := 6) (by kernel_rfl) (by first | assumption | (simp (disch := first | omega | (simp only [hNw, hPt]; omega)) only [gn0, gn1, gn2, gn3, gn4, gn5, gp0, gno, gpo] <;> first | rfl | assumption)) (by first | rfl | assumption)) ?_
        refine OkO.nil ⟨rfl, ?_⟩
        refine OkP.step ?_
        refine OkO.move rfl rfl ?_
        refine OkO.nil ⟨rfl, ?_⟩
        refine OkP.step ?_
        refine OkO.load rfl rfl (ldg (n := 4) (by kernel_rfl) (by first | assumption | (simp (disch := first | omega | (simp only [hNw, hPt]; omega)) only [gn0, gn1, gn2, gn3, gn4, gn5, gp0, gno, gpo] <;> first | rfl | assumption)) (by first | rfl | assumption)) ?_
        refine OkO.nil ⟨rfl, ?_⟩
        refine OkP.step ?_
        refine OkO.callE rfl rfl rfl rfl rfl (c19 (m + 37) cv cs g _ (hR.ext (hE _ gA)) (by omega)) ?_ -- "sackung/sackunglaw02.Ground"
        rintro vB HB ⟨cvB, rfl, qB, rB, atB⟩
        have gB : Grow W HB := Grow.ret gA qB
        have nB : W.next + 2 ≤ HB.next := by have := qB.ext.next; first | omega | (simp only [hNw] at this; omega)
        have aB : (HB.get W.next).bind AObj.cs = some [cv, I g.slo, I g.shi, I g.klo, I g.khi, I g.melt] := by rw [qB.ext.get _ (by first | omega | (simp only [hNw]; omega))]; first | assumption | (simp (disch := first | omega | (simp only [hNw, hPt]; omega)) only [gn0, gn1, gn2, gn3, gn4, gn5, gp0, gno, gpo] <;> first | rfl | assumption)
        have bB : (HB.get (W.next + 1)).bind AObj.cs = some [I t.snow, I t.soak, lv, rv] := by rw [qB.ext.get _ (by first | omega | (simp only [hNw]; omega))]; first | assumption | (simp (disch := first | omega | (simp only [hNw, hPt]; omega)) only [gn0, gn1, gn2, gn3, gn4, gn5, gp0, gno, gpo] <;> first | rfl | assumption)
        refine OkO.nil ⟨(sco (sld rfl rfl (ldg (n := 4) (by kernel_rfl) (by first | assumption | (simp (disch := first | omega | (simp only [hNw, hPt]; omega)) only [gn0, gn1, gn2, gn3, gn4, gn5, gp0, gno, gpo] <;> first | rfl | assumption)) (by first | rfl | assumption)) rfl (eqr _ (by first | rfl | exact lpl (by assumption) | (simp [AV.plain, AV.plains, AV.cells, pc, pl, pr])))) rfl), ?_⟩
        refine OkP.step ?_
        refine OkO.callE rfl rfl rfl rfl rfl (c21 (m + 37) dv ds _ (hY.ext (hE _ gB)) (by omega)) ?_ -- "sackung/sackunglaw02.Days"
        rintro dvC HC ⟨qC, rC, atC⟩
        have gC : Grow W HC := Grow.ret gB qC
        have nC : W.next + 2 ≤ HC.next := by have := qC.ext.next; first | omega | (simp only [hNw] at this; omega)
        have aC : (HC.get W.next).bind AObj.cs = some [cv, I g.slo, I g.shi, I g.klo, I g.khi, I g.melt] := by rw [qC.ext.get _ (by first | omega | (simp only [hNw]; omega))]; first | assumption | (simp (disch := first | omega | (simp only [hNw, hPt]; omega)) only [gn0, gn1, gn2, gn3, gn4, gn5, gp0, gno, gpo] <;> first | rfl | assumption)
        have bC : (HC.get (W.next + 1)).bind AObj.cs = some [I t.snow, I t.soak, lv, rv] := by rw [qC.ext.get _ (by first | omega | (simp only [hNw]; omega))]; first | assumption | (simp (disch := first | omega | (simp only [hNw, hPt]; omega)) only [gn0, gn1, gn2, gn3, gn4, gn5, gp0, gno, gpo] <;> first | rfl | assumption)
        refine OkO.nil ⟨(sco (sld rfl rfl (ldg (n := 4) (by kernel_rfl) (by first | assumption | (simp (disch := first | omega | (simp only [hNw, hPt]; omega)) only [gn0, gn1, gn2, gn3, gn4, gn5, gp0, gno, gpo] <;> first | rfl | assumption)) (by first | rfl | assumption)) rfl (eqr _ (by first | rfl | exact lpl (by assumption) | (simp [AV.plain, AV.plains, AV.cells, pc, pl, pr])))) (sco (sld rfl rfl (ldg (n := 6) (by kernel_rfl) (by first | assumption | (simp (disch := first | omega | (simp only [hNw, hPt]; omega)) only [gn0, gn1, gn2, gn3, gn4, gn5, gp0, gno, gpo] <;> first | rfl | assumption)) (by first | rfl | assumption)) rfl (eqr _ (by first | rfl | exact lpl (by assumption) | (simp [AV.plain, AV.plains, AV.cells, pc, pl, pr])))) rfl)), ?_⟩
        refine OkP.step ?_
        refine OkO.callE rfl rfl rfl rfl rfl (c22 (m + 37) lv rv t lvs rain _ (hL.ext (hE _ gC)) (by omega) (hA.ext (hE _ gC)) (by omega)) ?_ -- "sackung/sackunglaw02.Truth"
        rintro vD HD ⟨lvD, rvD, rfl, qD, lD, rD⟩
        have gD : Grow W HD := Grow.ret gC qD
        have nD : W.next + 2 ≤ HD.next := by have := qD.ext.next; first | omega | (simp only [hNw] at this; omega)
        have aD : (HD.get W.next).bind AObj.cs = some [cv, I g.slo, I g.shi, I g.klo, I g.khi, I g.melt] := by rw [qD.ext.get _ (by first | omega | (simp only [hNw]; omega))]; first | assumption | (simp (disch := first | omega | (simp only [hNw, hPt]; omega)) only [gn0, gn1, gn2, gn3, gn4, gn5, gp0, gno, gpo] <;> first | rfl | assumption)
        have bD : (HD.get (W.next + 1)).bind AObj.cs = some [I t.snow, I t.soak, lv, rv] := by rw [qD.ext.get _ (by first | omega | (simp only [hNw]; omega))]; first | assumption | (simp (disch := first | omega | (simp only [hNw, hPt]; omega)) only [gn0, gn1, gn2, gn3, gn4, gn5, gp0, gno, gpo] <;> first | rfl | assumption)
        refine OkO.nil ⟨(sco (sld rfl rfl (ldg (n := 6) (by kernel_rfl) (by first | assumption | (simp (disch := first | omega | (simp only [hNw, hPt]; omega)) only [gn0, gn1, gn2, gn3, gn4, gn5, gp0, gno, gpo] <;> first | rfl | assumption)) (by first | rfl | assumption)) rfl (eqr _ (by first | rfl | exact lpl (by assumption) | (simp [AV.plain, AV.plains, AV.cells, pc, pl, pr])))) rfl), ?_⟩
        refine OkP.step ?_
        refine OkO.callE rfl rfl rfl rfl rfl (c20 (m + 31) cvB dvC lvD rvD cs g ds t lvs rain _ (rB.ext (qC.ext.trans qD.ext)) (by omega) (rC.ext qD.ext) (by omega) lD (by omega) rD (by omega) hte) ?_ -- "sackung/water.Run"
        rintro vR HR ⟨v6, v7, rfl, qR, lsR, inR⟩
        have gR : Grow W HR := Grow.ret gD qR
        have nR : W.next + 2 ≤ HR.next := by have := qR.ext.next; first | omega | (simp only [hNw] at this; omega)
        have aR : (HR.get W.next).bind AObj.cs = some [cv, I g.slo, I g.shi, I g.klo, I g.khi, I g.melt] := by rw [qR.ext.get _ (by first | omega | (simp only [hNw]; omega))]; first | assumption | (simp (disch := first | omega | (simp only [hNw, hPt]; omega)) only [gn0, gn1, gn2, gn3, gn4, gn5, gp0, gno, gpo] <;> first | rfl | assumption)
        have bR : (HR.get (W.next + 1)).bind AObj.cs = some [I t.snow, I t.soak, lv, rv] := by rw [qR.ext.get _ (by first | omega | (simp only [hNw]; omega))]; first | assumption | (simp (disch := first | omega | (simp only [hNw, hPt]; omega)) only [gn0, gn1, gn2, gn3, gn4, gn5, gp0, gno, gpo] <;> first | rfl | assumption)
        obtain ⟨vs, s1, s2, s3⟩ := id lsR
        have k6 : vs.length = ds.length := by rw [s2]; simp [rowsR]
        have l6 : lenOf v6 = some ds.length := by rw [s1.len]; simp [k6]
        have l7 : lenOf v7 = some ds.length := by rw [inR.len]; simp [leftsR]
        have hR9 : ds.length ≤ 30 := hF.d30
        refine OkO.nil ⟨(sco (sld rfl rfl (ldg (n := 4) (by kernel_rfl) (by first | assumption | (simp (disch := first | omega | (simp only [hNw, hPt]; omega)) only [gn0, gn1, gn2, gn3, gn4, gn5, gp0, gno, gpo] <;> first | rfl | assumption)) (by first | rfl | assumption)) rfl (eqr _ (by first | rfl | exact lpl (by assumption) | (simp [AV.plain, AV.plains, AV.cells, pc, pl, pr])))) (sco (sld rfl rfl (ldg (n := 6) (by kernel_rfl) (by first | assumption | (simp (disch := first | omega | (simp only [hNw, hPt]; omega)) only [gn0, gn1, gn2, gn3, gn4, gn5, gp0, gno, gpo] <;> first | rfl | assumption)) (by first | rfl | assumption)) rfl (eqr _ (by first | rfl | exact lpl (by assumption) | (simp [AV.plain, AV.plains, AV.cells, pc, pl, pr])))) rfl)), ?_⟩
        refine OkP.step ?_
        refine OkO.move rfl rfl ?_
        refine OkO.nil ⟨rfl, ?_⟩
        refine OkP.step ?_
        refine OkO.extract rfl rfl rfl ?_
        refine OkO.nil ⟨rfl, ?_⟩
        refine OkP.step ?_
        refine OkO.extract rfl rfl rfl ?_
        refine OkO.nil ⟨rfl, ?_⟩
        refine OkP.step ?_
        refine OkO.extract rfl rfl rfl ?_
        refine OkO.nil ⟨rfl, ?_⟩
        refine OkP.step ?_
        refine OkO.extract rfl rfl rfl ?_
        refine OkO.nil ⟨rfl, ?_⟩
        refine OkP.step ?_
        refine OkO.assign rfl rfl ?_
        refine OkO.nil ⟨rfl, ?_⟩
        refine OkP.step ?_
        refine OkO.assign rfl rfl ?_
        refine OkO.nil ⟨rfl, ?_⟩
        refine OkP.step ?_
        refine OkO.assign rfl rfl ?_
        refine OkO.nil ⟨rfl, ?_⟩
        refine OkP.step ?_
        refine OkO.assign rfl rfl ?_
        refine OkO.nil ⟨rfl, ?_⟩
        refine OkP.nil ?_
        refine Ok.seq ?_
        refine Ok.seq ?_
        refine Ok.region ?_
        refine OkO.move rfl rfl ?_
        refine OkO.bin rfl rfl rfl (bin_eql _ _) ?_
        refine OkO.load rfl rfl (ldg (n := 6) (by kernel_rfl) (by first | assumption | (simp (disch := first | omega | (simp only [hNw, hPt]; omega)) only [gn0, gn1, gn2, gn3, gn4, gn5, gp0, gno, gpo] <;> first | rfl | assumption)) (by first | rfl | assumption)) ?_
        refine OkO.callV rfl rfl rfl rfl rfl (c23v (m + 37) cv cs g _ (hR.ext (hE _ gR)) (by omega) hgk) ?_ -- "sackung/sackungref02.RightGround"
        refine OkO.binT rfl rfl rfl (by rfl) ?_
        refine OkO.move rfl rfl ?_
        refine OkO.split (d := 55) rfl (fun g4 => ?_) (fun g4 => ?_)
        · -- true g4
          exact absurd g4 (by simp)
        · -- false g4
          refine OkO.move rfl rfl ?_
          refine OkO.bin rfl rfl rfl (bin_neq _ _) ?_
          refine OkO.move rfl rfl ?_
          refine OkO.split (d := 58) rfl (fun g5 => ?_) (fun g5 => ?_)
          · -- true g5
            exact absurd g5 (by simp)
          · -- false g5
            refine OkO.skip rfl ?_
            refine OkO.skip rfl ?_
            refine OkO.pick (b := false) rfl rfl nofun (fun _ => rfl) ?_
            refine OkO.pick (b := false) rfl rfl nofun (fun _ => rfl) ?_
            refine OkO.nil ?_
            refine Ok.condF rfl ?_
            refine Ok.skip ?_
            refine Ok.seq ?_
            refine Ok.region ?_
            refine OkO.load rfl rfl (ldg (n := 6) (by kernel_rfl) (by first | assumption | (simp (disch := first | omega | (simp only [hNw, hPt]; omega)) only [gn0, gn1, gn2, gn3, gn4, gn5, gp0, gno, gpo] <;> first | rfl | assumption)) (by first | rfl | assumption)) ?_
            refine OkO.move rfl rfl ?_
            refine OkO.callV rfl rfl rfl rfl rfl (c24v (m + 35) cv dv cs g ds _ (hR.ext (hE _ gR)) (by omega) (hY.ext (hE _ gR)) (by omega) hde) ?_ -- "sackung/sackunglaw02.fault"
            refine OkO.assign rfl rfl ?_
            refine OkO.nil ?_
            refine Ok.seq ?_
            refine Ok.seq ?_
            refine Ok.region ?_
            refine OkO.move rfl rfl ?_
            refine OkO.bin rfl rfl rfl (bin_eql _ _) ?_
            refine OkO.move rfl rfl ?_
            refine OkO.split (d := 68) rfl (fun g6 => ?_) (fun g6 => ?_)
            · -- true g6
              refine OkO.load rfl rfl (ldg (n := 6) (by kernel_rfl) (by first | assumption | (simp (disch := first | omega | (simp only [hNw, hPt]; omega)) only [gn0, gn1, gn2, gn3, gn4, gn5, gp0, gno, gpo] <;> first | rfl | assumption)) (by first | rfl | assumption)) ?_
              refine OkO.move rfl rfl ?_
              refine OkO.load rfl rfl (ldg (n := 4) (by kernel_rfl) (by first | assumption | (simp (disch := first | omega | (simp only [hNw, hPt]; omega)) only [gn0, gn1, gn2, gn3, gn4, gn5, gp0, gno, gpo] <;> first | rfl | assumption)) (by first | rfl | assumption)) ?_
              refine OkO.callV rfl rfl rfl rfl rfl (c25v (m + 36) cv dv lv rv cs g ds t lvs rain _ (hR.ext (hE _ gR)) (hY.ext (hE _ gR)) (hL.ext (hE _ gR)) (by omega) (hA.ext (hE _ gR)) (by omega) hfb) ?_ -- "sackung/sackungref02.Fits"
              refine OkO.un rfl rfl rfl ?_
              refine OkO.pick (b := true) rfl rfl (fun _ => rfl) nofun ?_
              refine OkO.nil ?_
              refine Ok.cond rfl (fun h7 => ?_) (fun h7 => ?_)
              · -- yes h7
                exact absurd h7 (by simp)
              · -- no h7
                refine Ok.skip ?_
                refine Ok.seq ?_
                refine Ok.seq ?_
                refine Ok.region ?_
                refine OkO.move rfl rfl ?_
                refine OkO.bin rfl rfl rfl (bin_neq _ _) ?_
                refine OkO.nil ?_
                refine Ok.cond rfl (fun h8 => ?_) (fun h8 => ?_)
                · -- yes h8
                  exact absurd h8 (by simp)
                · -- no h8
                  refine Ok.skip ?_
                  refine Ok.seq ?_
                  refine Ok.seq ?_
                  refine Ok.region ?_
                  refine OkO.move rfl rfl ?_
                  refine OkO.bin rfl rfl rfl (bin_neq _ _) ?_
                  refine OkO.move rfl rfl ?_
                  refine OkO.split (d := 97) rfl (fun g9 => ?_) (fun g9 => ?_)
                  · -- true g9
                    exact absurd g9 (by simp)
                  · -- false g9
                    refine OkO.move rfl rfl ?_
                    refine OkO.builtin rfl rfl rfl (bln (by kernel_rfl) (by first | assumption | rfl)) ?_
                    refine OkO.move rfl rfl ?_
                    refine OkO.builtin rfl rfl rfl (bln (by kernel_rfl) (by first | assumption | rfl)) ?_
                    refine OkO.bin rfl rfl rfl (bin_neq _ _) ?_
                    refine OkO.pick (b := false) rfl rfl nofun (fun _ => rfl) ?_
                    refine OkO.move rfl rfl ?_
                    refine OkO.split (d := 104) rfl (fun g10 => ?_) (fun g10 => ?_)
                    · -- true g10
                      exact absurd g10 (by simp)
                    · -- false g10
                      refine OkO.move rfl rfl ?_
                      refine OkO.builtin rfl rfl rfl (bln (by kernel_rfl) (by first | assumption | rfl)) ?_
                      refine OkO.move rfl rfl ?_
                      refine OkO.builtin rfl rfl rfl (bln (by kernel_rfl) (by first | assumption | rfl)) ?_
                      refine OkO.bin rfl rfl rfl (bin_neq _ _) ?_
                      refine OkO.pick (b := false) rfl rfl nofun (fun _ => rfl) ?_
                      refine OkO.nil ?_
                      refine Ok.cond rfl (fun h11 => ?_) (fun h11 => ?_)
                      · -- yes h11
                        exact absurd h11 (by simp)
                      · -- no h11
                        refine Ok.skip ?_
                        refine Ok.seq ?_
                        refine Ok.region ?_
                        refine OkO.fieldAddr (o := 0) rfl (by kernel_rfl) rfl ?_
                        refine OkO.load rfl rfl (lda (n := 1) (by kernel_rfl) (by first | assumption | (simp (disch := first | omega | (simp only [hNw, hPt]; omega)) only [gn0, gn1, gn2, gn3, gn4, gn5, gp0, gno, gpo] <;> first | rfl | assumption)) (by first | rfl | assumption)) ?_
                        refine OkO.assign rfl rfl ?_
                        refine OkO.nil ?_
                        refine Ok.seq ?_
                        refine Ok.seq ?_
                        refine Ok.region ?_
                        refine OkO.assign rfl rfl ?_
                        refine OkO.nil ?_
                        refine Ok.block ?_
                        refine Ok.loop (fun n s => ∃ i : Nat, n = ds.length - i ∧ i ≤ ds.length ∧ Has 8 [(1, dv), (3, .ptr W.next 0), (5, .ptr (W.next + 1) 0), (6, .bool false), (8, v6), (9, v7), (10, I (snowP g.melt ds rain t.snow ds.length)), (13, I (snowP g.melt ds rain t.snow i)), (14, I (i : Int))] s.T ∧ s.D = [] ∧ Grow W s.H ∧ Ext HR s.H) (ds.length) (by unfold loopFuel; omega)
                          ⟨0, rfl, Nat.zero_le _, Has.of (by kernel_rfl), rfl, gR, Ext.refl _⟩ ?_
                        rintro n ⟨T, D, G⟩ ⟨i, hn, hi, ⟨f, hT⟩, hD, hg, hx⟩
                        dsimp only at *
                        subst hT hD
                        have hgn := hg.next
                        have ea : (G.get W.next).bind AObj.cs = some [cv, I g.slo, I g.shi, I g.klo, I g.khi, I g.melt] := by rw [hx.get _ (by omega)]; exact aR
                        have eb : (G.get (W.next + 1)).bind AObj.cs = some [I t.snow, I t.soak, lv, rv] := by rw [hx.get _ (by omega)]; exact bR
                        refine Ok.seq ?_
                        refine Ok.seq ?_
                        refine Ok.region ?_
                        refine OkO.move rfl rfl ?_
                        refine OkO.move rfl rfl ?_
                        refine OkO.builtin rfl rfl rfl (bln (by kernel_rfl) (by first | assumption | rfl)) ?_
                        refine OkO.bin rfl rfl rfl (bin_lss _ _) ?_
                        refine OkO.nil ?_
                        refine Ok.cond rfl (fun h12 => ?_) (fun h12 => ?_)
                        · -- yes h12
                          have hlt : i < ds.length := by simpa using h12
                          refine Ok.skip ?_
                          refine Ok.seq ?_
                          refine Ok.block ?_
                          refine Ok.seq ?_
                          refine Ok.region ?_
                          refine OkO.load rfl rfl (ldg (n := 6) (by kernel_rfl) (by first | assumption | (simp (disch := first | omega | (simp only [hNw, hPt]; omega)) only [gn0, gn1, gn2, gn3, gn4, gn5, gp0, gno, gpo] <;> first | rfl | assumption)) (by first | rfl | assumption)) ?_
                          refine OkO.move rfl rfl ?_
                          refine OkO.load rfl rfl (ldg (n := 4) (by kernel_rfl) (by first | assumption | (simp (disch := first | omega | (simp only [hNw, hPt]; omega)) only [gn0, gn1, gn2, gn3, gn4, gn5, gp0, gno, gpo] <;> first | rfl | assumption)) (by first | rfl | assumption)) ?_
                          refine OkO.move rfl rfl ?_
                          refine OkO.bin rfl rfl rfl (bin_add (by omega) (by omega)) ?_
                          refine OkO.callE rfl rfl rfl rfl rfl (c26 cv dv lv rv cs g ds t lvs rain hF (i + 1) _ _ _ (by omega) (by omega) (by omega) (hR.ext (hE _ hg)) (hY.ext (hE _ hg)) (hL.ext (hE _ hg)) (hA.ext (hE _ hg))) ?_ -- "sackung/sackungref02.After"
                          rintro vS HS ⟨vp, rfl, qS, inS⟩
                          have gS : Grow W HS := Grow.ret hg qS
                          have aS : (HS.get W.next).bind AObj.cs = some [cv, I g.slo, I g.shi, I g.klo, I g.khi, I g.melt] := by rw [qS.ext.get _ (by have := hx.next; omega)]; exact ea
                          have bS : (HS.get (W.next + 1)).bind AObj.cs = some [I t.snow, I t.soak, lv, rv] := by rw [qS.ext.get _ (by have := hx.next; omega)]; exact eb
                          have i1 : i < vs.length := by omega
                          obtain ⟨xb, xo, xcs, x1, x2, x3, x4⟩ := (s1.ext (hx.trans qS.ext)).at_ i [vs[i]] (by simp [i1])
                          have x5 := seg_one x3
                          have xr : Ints HR vs[i] ((levP cs g ds t lvs rain (i + 1)).take cs.length) := s3 i vs[i] _ (List.getElem?_eq_getElem i1) (by rw [rowsR, List.getElem?_map, List.getElem?_range hlt]; rfl)
                          obtain ⟨yb, yo, ycs, y1, y2, y3, y4⟩ := (inR.ext (hx.trans qS.ext)).at_ i [I (leftK cs g ds t lvs rain (i + 1))] (by rw [List.getElem?_map, leftsR, List.getElem?_map, List.getElem?_range hlt]; rfl)
                          have y5 := seg_one y3
                          have lt9 : ((levP cs g ds t lvs rain (i + 1)).take cs.length).length ≤ 1000 := by have := hF.n8; simp; omega
                          refine OkO.move rfl rfl ?_
                          refine OkO.extract rfl rfl rfl ?_
                          refine OkO.extract rfl rfl rfl ?_
                          refine OkO.extract rfl rfl rfl ?_
                          refine OkO.assign rfl rfl ?_
                          refine OkO.assign rfl rfl ?_
                          refine OkO.assign rfl rfl ?_
                          refine OkO.nil ?_
                          refine Ok.seq ?_
                          refine Ok.seq ?_
                          refine Ok.region ?_
                          refine OkO.move rfl rfl ?_
                          refine OkO.move rfl rfl ?_
                          refine OkO.index (sz := 1) (n := i) rfl rfl rfl (by kernel_rfl) (by first | assumption | rfl | exact slAt_slice (by omega)) ?_ -- index ('Go.Operand.tmp', 129) ('Go.Operand.tmp', 130)
                          refine OkO.load rfl rfl (lda (n := 1) (by kernel_rfl) (by first | assumption | (simp (disch := first | omega | (simp only [hNw, hPt]; omega)) only [gn0, gn1, gn2, gn3, gn4, gn5, gp0, gno, gpo] <;> first | rfl | assumption)) (by first | rfl | assumption)) ?_
                          refine OkO.move rfl rfl ?_
                          refine OkO.callV rfl rfl rfl rfl rfl (c27 (m + 38) vs[i] vp _ _ (xr.ext (hx.trans qS.ext)) inS lt9) ?_ -- "sackung/sackunglaw02.ints"
                          refine OkO.un rfl rfl rfl ?_
                          refine OkO.move rfl rfl ?_
                          refine OkO.split (d := 136) rfl (fun g13 => ?_) (fun g13 => ?_)
                          · -- true g13
                            exact absurd g13 (by simp)
                          · -- false g13
                            refine OkO.move rfl rfl ?_
                            refine OkO.move rfl rfl ?_
                            refine OkO.index (sz := 1) (n := i) rfl rfl rfl (by kernel_rfl) (by first | assumption | rfl | exact slAt_slice (by omega)) ?_ -- index ('Go.Operand.tmp', 137) ('Go.Operand.tmp', 138)
                            refine OkO.load rfl rfl (lda (n := 1) (by kernel_rfl) (by first | assumption | (simp (disch := first | omega | (simp only [hNw, hPt]; omega)) only [gn0, gn1, gn2, gn3, gn4, gn5, gp0, gno, gpo] <;> first | rfl | assumption)) (by first | rfl | assumption)) ?_
                            refine OkO.move rfl rfl ?_
                            refine OkO.bin rfl rfl rfl (bin_neq _ _) ?_
                            refine OkO.pick (b := false) rfl rfl nofun (fun _ => rfl) ?_
                            refine OkO.nil ?_
                            refine Ok.cond rfl (fun h14 => ?_) (fun h14 => ?_)
                            · -- yes h14
                              exact absurd h14 (by simp)
                            · -- no h14
                              refine Ok.skip ?_
                              refine Ok.region ?_
                              refine OkO.move rfl rfl ?_
                              refine OkO.assign rfl rfl ?_
                              refine OkO.nil ?_
                              refine Ok.region ?_
                              refine OkO.move rfl rfl ?_
                              refine OkO.bin rfl rfl rfl (bin_add (by omega) (by omega)) ?_
                              refine OkO.assign rfl rfl ?_
                              refine OkO.nil ?_
                              refine ⟨ds.length - (i + 1), by omega, i + 1, rfl, hlt, Has.of (by kernel_rfl), rfl, gS, hx.trans qS.ext⟩
                        · -- no h12
                          have hge : i = ds.length := by simp at h12; omega
                          subst hge
                          refine Ok.exit ?_
                          refine Ok.seq ?_
                          refine Ok.region ?_
                          refine OkO.move rfl rfl ?_
                          refine OkO.move rfl rfl ?_
                          refine OkO.bin rfl rfl rfl (bin_eql _ _) ?_
                          refine OkO.move rfl rfl ?_
                          refine OkO.split (d := 148) rfl (fun g15 => ?_) (fun g15 => ?_)
                          · -- true g15
                            refine OkO.callV rfl rfl rfl rfl rfl (rfl) ?_ -- "sackung/sackunglaw02.wakes"
                            refine OkO.pick (b := true) rfl rfl (fun _ => rfl) nofun ?_
                            refine OkO.assign rfl rfl ?_
                            refine OkO.nil ?_
                            refine Ok.ret ⟨.inr rfl, ?_⟩
                            exact back_flat rfl (congrArg AV.bool rfl) rfl (by rw [← hW]; exact hg)
                          · -- false g15
                            exact absurd g15 (by simp)
            · -- false g6
              exact absurd g6 (by simp)
theorem c3 (m : Nat) (cv dv lv rv : AV) (cs : List Cell) (g : Gr) (ds : List Day) (t : Tru) (lvs rain : List Int) (H : Heap) (hR : Row H cv 7 (cs.map Cell.c)) (hY : Row H dv 3 (ds.map Day.c)) (hL : Ints H lv lvs) (hA : Ints H rv rain) : RR (m + 40) (.fn 3 [.agg [cv, I g.slo, I g.shi, I g.klo, I g.khi, I g.melt], dv, .agg [I t.snow, I t.soak, lv, rv]]) H = some (.bool true, H) := by
  cases hk : gOk cs g with
  | false =>
    have h1 : daysErr cs g ds = 1 := by unfold daysErr; rw [hk]; rfl
    exact c3E1 m cv dv lv rv cs g ds t lvs rain H hR hY hL hA hk h1 (by decide) (by unfold truthErr; rw [h1]; rfl)
  | true =>
    by_cases h1 : daysErr cs g ds = 0
    · cases hf : fitB cs g ds t lvs rain with
      | false => exact c3E3 m cv dv lv rv cs g ds t lvs rain H hR hY hL hA hk h1 hf rfl (by decide) (by unfold truthErr; unfold fitB at hf; rw [if_pos h1, hf]; rfl)
      | true => exact c3K m cv dv lv rv cs g ds t lvs rain H hR hY hL hA hk h1 hf (by unfold truthErr; unfold fitB at hf; rw [if_pos h1, hf]; rfl)
    · exact c3E2 m cv dv lv rv cs g ds t lvs rain H hR hY hL hA hk rfl h1 (by unfold truthErr; rw [if_neg h1])
end
end Go.Ev
