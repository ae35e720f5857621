/-
  Functions of the program, reckoned by the evaluator: what each answers, and that it leaves what came in as it was (part 22).
-/
import Derived.Test.YtibplmibcbillaaV21
set_option maxRecDepth 100000
set_option linter.unusedSimpArgs false
set_option linter.unusedVariables false
namespace Go.Ev
open Go Go.Proofs
noncomputable section
theorem c9W (m : Nat) (cv dv wv : AV) (cs : List Cell) (g : Gr) (ds : List Day) (ws : List Int) (H : Heap) (hR : Row H cv 7 (cs.map Cell.c)) (hY : Row H dv 3 (ds.map Day.c)) (hWs : Row H wv 1 (ws.map fun w => [U w])) (hws : Upto 65535 ws) (hrd : readyB cs g ds = false) : RR (m + 10) (.fn 9 [.agg [cv, I g.slo, I g.shi, I g.klo, I g.khi, I g.melt], dv, wv]) H = some (.bool true, H) := by
  refine (R_fn _ _ _ _ _).trans ?_
  refine fn_ok Try.func9 rfl rfl (by kernel_rfl) (by kernel_rfl) ?_
  obtain ⟨W, hW⟩ : ∃ W : Heap, W = ⟨H.t, H.next, H.next⟩ := ⟨_, rfl⟩
  have hg : ∀ n, W.get n = H.get n := fun n => by rw [hW]; rfl
  have hN : W.next = H.next := by rw [hW]
  have hE : ∀ G, Grow W G → Ext H G := fun G g => ⟨by rw [← hN]; exact g.next, fun n k => by rw [g.get n (by rw [hN]; exact k), hg]⟩
  have hG : Grow W W := Grow.refl (by rw [hW]; exact Nat.le_refl _)
  rw [← hW]
  have hlc : lenOf cv = some cs.length := by simpa using hR.len
  have pc := lpl hlc
  have hld : lenOf dv = some ds.length := by simpa using hY.len
  have hlw : lenOf wv = some ws.length := by simpa using hWs.len
  refine Ok.seq ?_
  refine Ok.region ?_
  refine OkO.box rfl rfl ?_
  refine OkO.assign rfl rfl ?_
  refine OkO.nil ?_
  refine Ok.seq ?_
  refine Ok.seq ?_
  refine Ok.region ?_
  refine OkO.load rfl rfl (ldg (n := 6) (by kernel_rfl) (by first | assumption | (simp (disch := first | omega | (simp only [hNw, hPt]; omega)) only [gn0, gn1, gn2, gn3, gn4, gn5, gp0, gno, gpo] <;> first | rfl | assumption)) (by first | rfl | assumption)) ?_
  refine OkO.move rfl rfl ?_
  refine OkO.callV rfl rfl rfl rfl rfl (c43 (m + 4) cv dv cs g ds _ (hR.ext (hE _ (by (try dsimp only); repeat (first | exact hG | apply Grow.new | (refine Grow.put ?_ _ (by first | omega | (simp only [hNw, hPt]; omega))))))) (hY.ext (hE _ (by (try dsimp only); repeat (first | exact hG | apply Grow.new | (refine Grow.put ?_ _ (by first | omega | (simp only [hNw, hPt]; omega)))))))) ?_ -- "sackung/sackunglaw02.ready"
  refine OkO.un rfl rfl rfl ?_
  refine OkO.nil ?_
  refine Ok.cond rfl (fun h1 => ?_) (fun h1 => ?_)
  · -- yes h1
    refine Ok.seq ?_
    refine Ok.region ?_
    refine OkO.callV rfl rfl rfl rfl rfl (rfl) ?_ -- "sackung/sackunglaw02.wakes"
    refine OkO.assign rfl rfl ?_
    refine OkO.nil ?_
    refine Ok.ret ⟨.inr rfl, ?_⟩
    exact back_flat rfl rfl rfl (by rw [← hW]; exact (by (try dsimp only); repeat (first | exact hG | apply Grow.new | (refine Grow.put ?_ _ (by first | omega | (simp only [hNw, hPt]; omega))))))
  · -- no h1
    exact absurd h1 (by simp [hrd])
theorem c9K (m : Nat) (cv dv wv : AV) (cs : List Cell) (g : Gr) (ds : List Day) (ws : List Int) (H : Heap) (hR : Row H cv 7 (cs.map Cell.c)) (hY : Row H dv 3 (ds.map Day.c)) (hWs : Row H wv 1 (ws.map fun w => [U w])) (hws : Upto 65535 ws) (hrd : readyB cs g ds = true) : RR (m + 10) (.fn 9 [.agg [cv, I g.slo, I g.shi, I g.klo, I g.khi, I g.melt], dv, wv]) H = some (.bool true, H) := by
  refine (R_fn _ _ _ _ _).trans ?_
  refine fn_ok Try.func9 rfl rfl (by kernel_rfl) (by kernel_rfl) ?_
  obtain ⟨W, hW⟩ : ∃ W : Heap, W = ⟨H.t, H.next, H.next⟩ := ⟨_, rfl⟩
  have hg : ∀ n, W.get n = H.get n := fun n => by rw [hW]; rfl
  have hN : W.next = H.next := by rw [hW]
  have hE : ∀ G, Grow W G → Ext H G := fun G g => ⟨by rw [← hN]; exact g.next, fun n k => by rw [g.get n (by rw [hN]; exact k), hg]⟩
  have hG : Grow W W := Grow.refl (by rw [hW]; exact Nat.le_refl _)
  rw [← hW]
  have hlc : lenOf cv = some cs.length := by simpa using hR.len
  have pc := lpl hlc
  have hld : lenOf dv = some ds.length := by simpa using hY.len
  have hlw : lenOf wv = some ws.length := by simpa using hWs.len
  have hd0 := ready_ok hrd
  have hGF := gf_of hd0
  have hg8 := hGF.n8
  have hg30 := hGF.d30
  refine Ok.seq ?_
  refine Ok.region ?_
  refine OkO.box rfl rfl ?_
  refine OkO.assign rfl rfl ?_
  refine OkO.nil ?_
  refine Ok.seq ?_
  refine Ok.seq ?_
  refine Ok.region ?_
  refine OkO.load rfl rfl (ldg (n := 6) (by kernel_rfl) (by first | assumption | (simp (disch := first | omega | (simp only [hNw, hPt]; omega)) only [gn0, gn1, gn2, gn3, gn4, gn5, gp0, gno, gpo] <;> first | rfl | assumption)) (by first | rfl | assumption)) ?_
  refine OkO.move rfl rfl ?_
  refine OkO.callV rfl rfl rfl rfl rfl (c43 (m + 4) cv dv cs g ds _ (hR.ext (hE _ (by (try dsimp only); repeat (first | exact hG | apply Grow.new | (refine Grow.put ?_ _ (by first | omega | (simp only [hNw, hPt]; omega))))))) (hY.ext (hE _ (by (try dsimp only); repeat (first | exact hG | apply Grow.new | (refine Grow.put ?_ _ (by first | omega | (simp only [hNw, hPt]; omega)))))))) ?_ -- "sackung/sackunglaw02.ready"
  refine OkO.un rfl rfl rfl ?_
  refine OkO.nil ?_
  refine Ok.cond rfl (fun h1 => ?_) (fun h1 => ?_)
  · -- yes h1
    exact absurd h1 (by simp [hrd])
  · -- no h1
    refine Ok.skip ?_
    refine Ok.seq ?_
    refine Ok.region ?_
    refine OkO.load rfl rfl (ldg (n := 6) (by kernel_rfl) (by first | assumption | (simp (disch := first | omega | (simp only [hNw, hPt]; omega)) only [gn0, gn1, gn2, gn3, gn4, gn5, gp0, gno, gpo] <;> first | rfl | assumption)) (by first | rfl | assumption)) ?_
    refine OkO.callE rfl rfl rfl rfl rfl (c19 (m + 7) cv cs g _ (hR.ext (hE _ (by (try dsimp only); repeat (first | exact hG | apply Grow.new | (refine Grow.put ?_ _ (by first | omega | (simp only [hNw, hPt]; omega))))))) (by omega)) ?_ -- "sackung/sackunglaw02.Ground"
    rintro vA HA ⟨cvA, rfl, qA, rA, atA⟩
    have gA : Grow W HA := Grow.ret (by (try dsimp only); repeat (first | exact hG | apply Grow.new | (refine Grow.put ?_ _ (by first | omega | (simp only [hNw, hPt]; omega))))) qA
    have nA : W.next + 1 ≤ HA.next := by have := qA.ext.next; first | omega | (simp only [hNw] at this; omega)
    have aA : (HA.get W.next).bind AObj.cs = some [cv, I g.slo, I g.shi, I g.klo, I g.khi, I g.melt] := by rw [qA.ext.get _ (by first | omega | (simp only [hNw]; omega))]; first | assumption | (simp (disch := first | omega | (simp only [hNw, hPt]; omega)) only [gn0, gn1, gn2, gn3, gn4, gn5, gp0, gno, gpo] <;> first | rfl | assumption)
    refine OkO.move rfl rfl ?_
    refine OkO.callE rfl rfl rfl rfl rfl (c21 (m + 7) dv ds _ (hY.ext (hE _ gA)) (by omega)) ?_ -- "sackung/sackunglaw02.Days"
    rintro dvB HB ⟨qB, rB, atB⟩
    have gB : Grow W HB := Grow.ret gA qB
    have nB : W.next + 1 ≤ HB.next := by have := qB.ext.next; first | omega | (simp only [hNw] at this; omega)
    have aB : (HB.get W.next).bind AObj.cs = some [cv, I g.slo, I g.shi, I g.klo, I g.khi, I g.melt] := by rw [qB.ext.get _ (by first | omega | (simp only [hNw]; omega))]; first | assumption | (simp (disch := first | omega | (simp only [hNw, hPt]; omega)) only [gn0, gn1, gn2, gn3, gn4, gn5, gp0, gno, gpo] <;> first | rfl | assumption)
    refine OkO.callE rfl rfl rfl rfl rfl (c28 (m + 1) cvA dvB cs g ds _ (rA.ext (qB.ext)) (rB.ext (Ext.refl _)) atA atB hd0) ?_ -- "sackung/water.Levels"
    rintro vL HL ⟨v4L, v5L, rfl, qL, lsL, inL⟩
    have gL : Grow W HL := Grow.ret gB qL
    have nL : W.next + 1 ≤ HL.next := by have := qL.ext.next; first | omega | (simp only [hNw] at this; omega)
    have aL : (HL.get W.next).bind AObj.cs = some [cv, I g.slo, I g.shi, I g.klo, I g.khi, I g.melt] := by rw [qL.ext.get _ (by first | omega | (simp only [hNw]; omega))]; first | assumption | (simp (disch := first | omega | (simp only [hNw, hPt]; omega)) only [gn0, gn1, gn2, gn3, gn4, gn5, gp0, gno, gpo] <;> first | rfl | assumption)
    refine OkO.move rfl rfl ?_
    refine OkO.extract rfl rfl rfl ?_
    refine OkO.extract rfl rfl rfl ?_
    refine OkO.extract rfl rfl rfl ?_
    refine OkO.assign rfl rfl ?_
    refine OkO.assign rfl rfl ?_
    refine OkO.assign rfl rfl ?_
    refine OkO.nil ?_
    refine Ok.seq ?_
    refine Ok.drawn [(0, true, []), (2, true, []), (4, true, []), (5, true, []), (6, true, []), (1, false, [4]), (3, false, [4, 0]), (7, false, [0]), (8, false, [4, 0]), (9, false, [4, 0]), (10, true, []), (11, true, []), (12, true, []), (13, true, []), (14, true, []), (15, true, []), (16, true, []), (17, true, []), (18, true, [])] (by kernel_rfl) ?_
    refine OkP.step ?_
    refine OkO.load rfl rfl (ldg (n := 6) (by kernel_rfl) (by first | assumption | (simp (disch := first | omega | (simp only [hNw, hPt]; omega)) only [gn0, gn1, gn2, gn3, gn4, gn5, gp0, gno, gpo] <;> first | rfl | assumption)) (by first | rfl | assumption)) ?_
    refine OkO.nil ⟨rfl, ?_⟩
    refine OkP.step ?_
    refine OkO.move rfl rfl ?_
    refine OkO.nil ⟨rfl, ?_⟩
    refine OkP.step ?_
    refine OkO.load rfl rfl (ldg (n := 6) (by kernel_rfl) (by first | assumption | (simp (disch := first | omega | (simp only [hNw, hPt]; omega)) only [gn0, gn1, gn2, gn3, gn4, gn5, gp0, gno, gpo] <;> first | rfl | assumption)) (by first | rfl | assumption)) ?_
    refine OkO.nil ⟨rfl, ?_⟩
    refine OkP.step ?_
    refine OkO.move rfl rfl ?_
    refine OkO.nil ⟨rfl, ?_⟩
    refine OkP.step ?_
    refine OkO.move rfl rfl ?_
    refine OkO.nil ⟨rfl, ?_⟩
    refine OkP.step ?_
    refine OkO.callE rfl rfl rfl rfl rfl (c19 (m + 7) cv cs g _ (hR.ext (hE _ gL)) (by omega)) ?_ -- "sackung/sackunglaw02.Ground"
    rintro vC HC ⟨cvC, rfl, qC, rC, atC⟩
    have gC : Grow W HC := Grow.ret gL qC
    have nC : W.next + 1 ≤ HC.next := by have := qC.ext.next; first | omega | (simp only [hNw] at this; omega)
    have aC : (HC.get W.next).bind AObj.cs = some [cv, I g.slo, I g.shi, I g.klo, I g.khi, I g.melt] := by rw [qC.ext.get _ (by first | omega | (simp only [hNw]; omega))]; first | assumption | (simp (disch := first | omega | (simp only [hNw, hPt]; omega)) only [gn0, gn1, gn2, gn3, gn4, gn5, gp0, gno, gpo] <;> first | rfl | assumption)
    refine OkO.nil ⟨(sco (sld rfl rfl (ldg (n := 6) (by kernel_rfl) (by first | assumption | (simp (disch := first | omega | (simp only [hNw, hPt]; omega)) only [gn0, gn1, gn2, gn3, gn4, gn5, gp0, gno, gpo] <;> first | rfl | assumption)) (by first | rfl | assumption)) rfl (eqr _ (by first | rfl | exact lpl (by assumption) | (simp [AV.plain, AV.plains, AV.cells, pc])))) rfl), ?_⟩
    refine OkP.step ?_
    refine OkO.callE rfl rfl rfl rfl rfl (c21 (m + 7) dv ds _ (hY.ext (hE _ gC)) (by omega)) ?_ -- "sackung/sackunglaw02.Days"
    rintro dvE HE ⟨qE, rE, atE⟩
    have gE : Grow W HE := Grow.ret gC qE
    have nE : W.next + 1 ≤ HE.next := by have := qE.ext.next; first | omega | (simp only [hNw] at this; omega)
    have aE : (HE.get W.next).bind AObj.cs = some [cv, I g.slo, I g.shi, I g.klo, I g.khi, I g.melt] := by rw [qE.ext.get _ (by first | omega | (simp only [hNw]; omega))]; first | assumption | (simp (disch := first | omega | (simp only [hNw, hPt]; omega)) only [gn0, gn1, gn2, gn3, gn4, gn5, gp0, gno, gpo] <;> first | rfl | assumption)
    refine OkO.nil ⟨(sco (sld rfl rfl (ldg (n := 6) (by kernel_rfl) (by first | assumption | (simp (disch := first | omega | (simp only [hNw, hPt]; omega)) only [gn0, gn1, gn2, gn3, gn4, gn5, gp0, gno, gpo] <;> first | rfl | assumption)) (by first | rfl | assumption)) rfl (eqr _ (by first | rfl | exact lpl (by assumption) | (simp [AV.plain, AV.plains, AV.cells, pc])))) (sco (sld rfl rfl (ldg (n := 6) (by kernel_rfl) (by first | assumption | (simp (disch := first | omega | (simp only [hNw, hPt]; omega)) only [gn0, gn1, gn2, gn3, gn4, gn5, gp0, gno, gpo] <;> first | rfl | assumption)) (by first | rfl | assumption)) rfl (eqr _ (by first | rfl | exact lpl (by assumption) | (simp [AV.plain, AV.plains, AV.cells, pc])))) rfl)), ?_⟩
    refine OkP.step ?_
    refine OkO.callE rfl rfl rfl rfl rfl (c44 (m + 7) cv dv wv cs g ds ws _ (hR.ext (hE _ gE)) (hY.ext (hE _ gE)) (hWs.ext (hE _ gE)) hws hGF.lim hGF.dlim hGF.n8.2 hGF.d30 hGF.snow hGF.soak) ?_ -- "sackung/sackunglaw02.Picked"
    rintro vP HP ⟨lvP, rvP, rfl, qP, lP, rP, alP, arP⟩
    have gP : Grow W HP := Grow.ret gE qP
    have nP : W.next + 1 ≤ HP.next := by have := qP.ext.next; first | omega | (simp only [hNw] at this; omega)
    have aP : (HP.get W.next).bind AObj.cs = some [cv, I g.slo, I g.shi, I g.klo, I g.khi, I g.melt] := by rw [qP.ext.get _ (by first | omega | (simp only [hNw]; omega))]; first | assumption | (simp (disch := first | omega | (simp only [hNw, hPt]; omega)) only [gn0, gn1, gn2, gn3, gn4, gn5, gp0, gno, gpo] <;> first | rfl | assumption)
    have hte := pick_ok ws hd0
    generalize pickT g ws = t at *
    generalize pickL cs ws cs.length = lvs at *
    generalize pickR cs ds ws ds.length = rain at *
    have hF := fit_of hte
    have hfl := hF.ll
    have hfr := hF.rl
    refine OkO.nil ⟨(sco (sld rfl rfl (ldg (n := 6) (by kernel_rfl) (by first | assumption | (simp (disch := first | omega | (simp only [hNw, hPt]; omega)) only [gn0, gn1, gn2, gn3, gn4, gn5, gp0, gno, gpo] <;> first | rfl | assumption)) (by first | rfl | assumption)) rfl (eqr _ (by first | rfl | exact lpl (by assumption) | (simp [AV.plain, AV.plains, AV.cells, pc])))) rfl), ?_⟩
    refine OkP.step ?_
    refine OkO.callE rfl rfl rfl rfl rfl (c22 (m + 7) lvP rvP t lvs rain _ (lP.ext (Ext.refl _)) (by omega) (rP.ext (Ext.refl _)) (by omega)) ?_ -- "sackung/sackunglaw02.Truth"
    rintro vT HT ⟨lvT, rvT, rfl, qT, lT, rT⟩
    have gT : Grow W HT := Grow.ret gP qT
    have nT : W.next + 1 ≤ HT.next := by have := qT.ext.next; first | omega | (simp only [hNw] at this; omega)
    have aT : (HT.get W.next).bind AObj.cs = some [cv, I g.slo, I g.shi, I g.klo, I g.khi, I g.melt] := by rw [qT.ext.get _ (by first | omega | (simp only [hNw]; omega))]; first | assumption | (simp (disch := first | omega | (simp only [hNw, hPt]; omega)) only [gn0, gn1, gn2, gn3, gn4, gn5, gp0, gno, gpo] <;> first | rfl | assumption)
    refine OkO.nil ⟨(sco (sld rfl rfl (ldg (n := 6) (by kernel_rfl) (by first | assumption | (simp (disch := first | omega | (simp only [hNw, hPt]; omega)) only [gn0, gn1, gn2, gn3, gn4, gn5, gp0, gno, gpo] <;> first | rfl | assumption)) (by first | rfl | assumption)) rfl (eqr _ (by first | rfl | exact lpl (by assumption) | (simp [AV.plain, AV.plains, AV.cells, pc])))) (sco (sld rfl rfl (ldg (n := 6) (by kernel_rfl) (by first | assumption | (simp (disch := first | omega | (simp only [hNw, hPt]; omega)) only [gn0, gn1, gn2, gn3, gn4, gn5, gp0, gno, gpo] <;> first | rfl | assumption)) (by first | rfl | assumption)) rfl (eqr _ (by first | rfl | exact lpl (by assumption) | (simp [AV.plain, AV.plains, AV.cells, pc])))) rfl)), ?_⟩
    refine OkP.step ?_
    refine OkO.callE rfl rfl rfl rfl rfl (c20 (m + 1) cvC dvE lvT rvT cs g ds t lvs rain _ (rC.ext (qE.ext.trans (qP.ext.trans (qT.ext)))) (by omega) (rE.ext (qP.ext.trans (qT.ext))) (by omega) lT (by omega) rT (by omega) hte) ?_ -- "sackung/water.Run"
    rintro vR HR ⟨v6R, v7R, rfl, qR, lsR, inR⟩
    have gR : Grow W HR := Grow.ret gT qR
    have nR : W.next + 1 ≤ HR.next := by have := qR.ext.next; first | omega | (simp only [hNw] at this; omega)
    have aR : (HR.get W.next).bind AObj.cs = some [cv, I g.slo, I g.shi, I g.klo, I g.khi, I g.melt] := by rw [qR.ext.get _ (by first | omega | (simp only [hNw]; omega))]; first | assumption | (simp (disch := first | omega | (simp only [hNw, hPt]; omega)) only [gn0, gn1, gn2, gn3, gn4, gn5, gp0, gno, gpo] <;> first | rfl | assumption)
    refine OkO.nil ⟨(sco (sld rfl rfl (ldg (n := 6) (by kernel_rfl) (by first | assumption | (simp (disch := first | omega | (simp only [hNw, hPt]; omega)) only [gn0, gn1, gn2, gn3, gn4, gn5, gp0, gno, gpo] <;> first | rfl | assumption)) (by first | rfl | assumption)) rfl (eqr _ (by first | rfl | exact lpl (by assumption) | (simp [AV.plain, AV.plains, AV.cells, pc])))) (sco (sld rfl rfl (ldg (n := 6) (by kernel_rfl) (by first | assumption | (simp (disch := first | omega | (simp only [hNw, hPt]; omega)) only [gn0, gn1, gn2, gn3, gn4, gn5, gp0, gno, gpo] <;> first | rfl | assumption)) (by first | rfl | assumption)) rfl (eqr _ (by first | rfl | exact lpl (by assumption) | (simp [AV.plain, AV.plains, AV.cells, pc])))) rfl)), ?_⟩
    refine OkP.step ?_
    refine OkO.move rfl rfl ?_
    refine OkO.nil ⟨rfl, ?_⟩
    refine OkP.step ?_
    refine OkO.extract rfl rfl rfl ?_
    refine OkO.nil ⟨rfl, ?_⟩
    refine OkP.step ?_
    refine OkO.extract rfl rfl rfl ?_
    refine OkO.nil ⟨rfl, ?_⟩
    refine OkP.step ?_
    refine OkO.extract rfl rfl rfl ?_
    refine OkO.nil ⟨rfl, ?_⟩
    refine OkP.step ?_
    refine OkO.extract rfl rfl rfl ?_
    refine OkO.nil ⟨rfl, ?_⟩
    refine OkP.step ?_
    refine OkO.assign rfl rfl ?_
    refine OkO.nil ⟨rfl, ?_⟩
    refine OkP.step ?_
    refine OkO.assign rfl rfl ?_
    refine OkO.nil ⟨rfl, ?_⟩
    refine OkP.step ?_
    refine OkO.assign rfl rfl ?_
    refine OkO.nil ⟨rfl, ?_⟩
    refine OkP.step ?_
    refine OkO.assign rfl rfl ?_
    refine OkO.nil ⟨rfl, ?_⟩
    refine OkP.nil ?_
    refine Ok.seq ?_
    refine Ok.drawn [(0, true, []), (2, true, []), (4, true, []), (5, true, []), (1, false, [4]), (3, false, [4, 0]), (6, false, [0]), (7, false, [4, 0]), (8, false, [4, 0]), (9, true, []), (10, true, []), (11, true, []), (12, true, []), (13, true, []), (14, true, []), (15, true, []), (16, true, []), (17, true, [])] (by kernel_rfl) ?_
    refine OkP.step ?_
    refine OkO.load rfl rfl (ldg (n := 6) (by kernel_rfl) (by first | assumption | (simp (disch := first | omega | (simp only [hNw, hPt]; omega)) only [gn0, gn1, gn2, gn3, gn4, gn5, gp0, gno, gpo] <;> first | rfl | assumption)) (by first | rfl | assumption)) ?_
    refine OkO.nil ⟨rfl, ?_⟩
    refine OkP.step ?_
    refine OkO.move rfl rfl ?_
    refine OkO.nil ⟨rfl, ?_⟩
    refine OkP.step ?_
    refine OkO.load rfl rfl (ldg (n := 6) (by kernel_rfl) (by first | assumption | (simp (disch := first | omega | (simp only [hNw, hPt]; omega)) only [gn0, gn1, gn2, gn3, gn4, gn5, gp0, gno, gpo] <;> first | rfl | assumption)) (by first | rfl | assumption)) ?_
    refine OkO.nil ⟨rfl, ?_⟩
    refine OkP.step ?_
    refine OkO.move rfl rfl ?_
    refine OkO.nil ⟨rfl, ?_⟩
    refine OkP.step ?_
    refine OkO.callE rfl rfl rfl rfl rfl (c19 (m + 7) cv cs g _ (hR.ext (hE _ gR)) (by omega)) ?_ -- "sackung/sackunglaw02.Ground"
    rintro vF HF ⟨cvF, rfl, qF, rF, atF⟩
    have gF : Grow W HF := Grow.ret gR qF
    have nF : W.next + 1 ≤ HF.next := by have := qF.ext.next; first | omega | (simp only [hNw] at this; omega)
    have aF : (HF.get W.next).bind AObj.cs = some [cv, I g.slo, I g.shi, I g.klo, I g.khi, I g.melt] := by rw [qF.ext.get _ (by first | omega | (simp only [hNw]; omega))]; first | assumption | (simp (disch := first | omega | (simp only [hNw, hPt]; omega)) only [gn0, gn1, gn2, gn3, gn4, gn5, gp0, gno, gpo] <;> first | rfl | assumption)
    refine OkO.nil ⟨(sco (sld rfl rfl (ldg (n := 6) (by kernel_rfl) (by first | assumption | (simp (disch := first | omega | (simp only [hNw, hPt]; omega)) only [gn0, gn1, gn2, gn3, gn4, gn5, gp0, gno, gpo] <;> first | rfl | assumption)) (by first | rfl | assumption)) rfl (eqr _ (by first | rfl | exact lpl (by assumption) | (simp [AV.plain, AV.plains, AV.cells, pc])))) rfl), ?_⟩
    refine OkP.step ?_
    refine OkO.callE rfl rfl rfl rfl rfl (c21 (m + 7) dv ds _ (hY.ext (hE _ gF)) (by omega)) ?_ -- "sackung/sackunglaw02.Days"
    rintro dvG2 HG2 ⟨qG2, rG2, atG2⟩
    have gG2 : Grow W HG2 := Grow.ret gF qG2
    have nG2 : W.next + 1 ≤ HG2.next := by have := qG2.ext.next; first | omega | (simp only [hNw] at this; omega)
    have aG2 : (HG2.get W.next).bind AObj.cs = some [cv, I g.slo, I g.shi, I g.klo, I g.khi, I g.melt] := by rw [qG2.ext.get _ (by first | omega | (simp only [hNw]; omega))]; first | assumption | (simp (disch := first | omega | (simp only [hNw, hPt]; omega)) only [gn0, gn1, gn2, gn3, gn4, gn5, gp0, gno, gpo] <;> first | rfl | assumption)
    refine OkO.nil ⟨(sco (sld rfl rfl (ldg (n := 6) (by kernel_rfl) (by first | assumption | (simp (disch := first | omega | (simp only [hNw, hPt]; omega)) only [gn0, gn1, gn2, gn3, gn4, gn5, gp0, gno, gpo] <;> first | rfl | assumption)) (by first | rfl | assumption)) rfl (eqr _ (by first | rfl | exact lpl (by assumption) | (simp [AV.plain, AV.plains, AV.cells, pc])))) (sco (sld rfl rfl (ldg (n := 6) (by kernel_rfl) (by first | assumption | (simp (disch := first | omega | (simp only [hNw, hPt]; omega)) only [gn0, gn1, gn2, gn3, gn4, gn5, gp0, gno, gpo] <;> first | rfl | assumption)) (by first | rfl | assumption)) rfl (eqr _ (by first | rfl | exact lpl (by assumption) | (simp [AV.plain, AV.plains, AV.cells, pc])))) rfl)), ?_⟩
    refine OkP.step ?_
    refine OkO.callE rfl rfl rfl rfl rfl (c29l (m + 8) cv dv cs g ds _ (hR.ext (hE _ gG2)) (hY.ext (hE _ gG2)) (by omega) (by omega)) ?_ -- "sackung/sackungref02.Ends"
    rintro vU HU ⟨lvU, rvU, rfl, qU, lU, rU⟩
    have gU : Grow W HU := Grow.ret gG2 qU
    have nU : W.next + 1 ≤ HU.next := by have := qU.ext.next; first | omega | (simp only [hNw] at this; omega)
    have aU : (HU.get W.next).bind AObj.cs = some [cv, I g.slo, I g.shi, I g.klo, I g.khi, I g.melt] := by rw [qU.ext.get _ (by first | omega | (simp only [hNw]; omega))]; first | assumption | (simp (disch := first | omega | (simp only [hNw, hPt]; omega)) only [gn0, gn1, gn2, gn3, gn4, gn5, gp0, gno, gpo] <;> first | rfl | assumption)
    refine OkO.nil ⟨(sco (sld rfl rfl (ldg (n := 6) (by kernel_rfl) (by first | assumption | (simp (disch := first | omega | (simp only [hNw, hPt]; omega)) only [gn0, gn1, gn2, gn3, gn4, gn5, gp0, gno, gpo] <;> first | rfl | assumption)) (by first | rfl | assumption)) rfl (eqr _ (by first | rfl | exact lpl (by assumption) | (simp [AV.plain, AV.plains, AV.cells, pc])))) rfl), ?_⟩
    refine OkP.step ?_
    refine OkO.callE rfl rfl rfl rfl rfl (c22 (m + 7) lvU rvU (lowT g) (lowL cs) (lowR ds) _ (lU.ext (Ext.refl _)) (by simp [lowL]; omega) (rU.ext (Ext.refl _)) (by simp [lowR]; omega)) ?_ -- "sackung/sackunglaw02.Truth"
    rintro vV HV ⟨lvV, rvV, rfl, qV, lV, rV⟩
    have gV : Grow W HV := Grow.ret gU qV
    have nV : W.next + 1 ≤ HV.next := by have := qV.ext.next; first | omega | (simp only [hNw] at this; omega)
    have aV : (HV.get W.next).bind AObj.cs = some [cv, I g.slo, I g.shi, I g.klo, I g.khi, I g.melt] := by rw [qV.ext.get _ (by first | omega | (simp only [hNw]; omega))]; first | assumption | (simp (disch := first | omega | (simp only [hNw, hPt]; omega)) only [gn0, gn1, gn2, gn3, gn4, gn5, gp0, gno, gpo] <;> first | rfl | assumption)
    refine OkO.nil ⟨(sco (sld rfl rfl (ldg (n := 6) (by kernel_rfl) (by first | assumption | (simp (disch := first | omega | (simp only [hNw, hPt]; omega)) only [gn0, gn1, gn2, gn3, gn4, gn5, gp0, gno, gpo] <;> first | rfl | assumption)) (by first | rfl | assumption)) rfl (eqr _ (by first | rfl | exact lpl (by assumption) | (simp [AV.plain, AV.plains, AV.cells, pc])))) (sco (sld rfl rfl (ldg (n := 6) (by kernel_rfl) (by first | assumption | (simp (disch := first | omega | (simp only [hNw, hPt]; omega)) only [gn0, gn1, gn2, gn3, gn4, gn5, gp0, gno, gpo] <;> first | rfl | assumption)) (by first | rfl | assumption)) rfl (eqr _ (by first | rfl | exact lpl (by assumption) | (simp [AV.plain, AV.plains, AV.cells, pc])))) rfl)), ?_⟩
    refine OkP.step ?_
    refine OkO.callE rfl rfl rfl rfl rfl (c20 (m + 1) cvF dvG2 lvV rvV cs g ds (lowT g) (lowL cs) (lowR ds) _ (rF.ext (qG2.ext.trans (qU.ext.trans (qV.ext)))) (by omega) (rG2.ext (qU.ext.trans (qV.ext))) (by omega) lV (by simp [lowL]; omega) rV (by simp [lowR]; omega) (low_ok hd0)) ?_ -- "sackung/water.Run"
    rintro vX HX ⟨v6X, v7X, rfl, qX, lsX, inX⟩
    have gX : Grow W HX := Grow.ret gV qX
    have nX : W.next + 1 ≤ HX.next := by have := qX.ext.next; first | omega | (simp only [hNw] at this; omega)
    have aX : (HX.get W.next).bind AObj.cs = some [cv, I g.slo, I g.shi, I g.klo, I g.khi, I g.melt] := by rw [qX.ext.get _ (by first | omega | (simp only [hNw]; omega))]; first | assumption | (simp (disch := first | omega | (simp only [hNw, hPt]; omega)) only [gn0, gn1, gn2, gn3, gn4, gn5, gp0, gno, gpo] <;> first | rfl | assumption)
    refine OkO.nil ⟨(sco (sld rfl rfl (ldg (n := 6) (by kernel_rfl) (by first | assumption | (simp (disch := first | omega | (simp only [hNw, hPt]; omega)) only [gn0, gn1, gn2, gn3, gn4, gn5, gp0, gno, gpo] <;> first | rfl | assumption)) (by first | rfl | assumption)) rfl (eqr _ (by first | rfl | exact lpl (by assumption) | (simp [AV.plain, AV.plains, AV.cells, pc])))) (sco (sld rfl rfl (ldg (n := 6) (by kernel_rfl) (by first | assumption | (simp (disch := first | omega | (simp only [hNw, hPt]; omega)) only [gn0, gn1, gn2, gn3, gn4, gn5, gp0, gno, gpo] <;> first | rfl | assumption)) (by first | rfl | assumption)) rfl (eqr _ (by first | rfl | exact lpl (by assumption) | (simp [AV.plain, AV.plains, AV.cells, pc])))) rfl)), ?_⟩
    refine OkP.step ?_
    refine OkO.move rfl rfl ?_
    refine OkO.nil ⟨rfl, ?_⟩
    refine OkP.step ?_
    refine OkO.extract rfl rfl rfl ?_
    refine OkO.nil ⟨rfl, ?_⟩
    refine OkP.step ?_
    refine OkO.extract rfl rfl rfl ?_
    refine OkO.nil ⟨rfl, ?_⟩
    refine OkP.step ?_
    refine OkO.extract rfl rfl rfl ?_
    refine OkO.nil ⟨rfl, ?_⟩
    refine OkP.step ?_
    refine OkO.extract rfl rfl rfl ?_
    refine OkO.nil ⟨rfl, ?_⟩
    refine OkP.step ?_
    refine OkO.assign rfl rfl ?_
    refine OkO.nil ⟨rfl, ?_⟩
    refine OkP.step ?_
    refine OkO.assign rfl rfl ?_
    refine OkO.nil ⟨rfl, ?_⟩
    refine OkP.step ?_
    refine OkO.assign rfl rfl ?_
    refine OkO.nil ⟨rfl, ?_⟩
    refine OkP.step ?_
    refine OkO.assign rfl rfl ?_
    refine OkO.nil ⟨rfl, ?_⟩
    refine OkP.nil ?_
    refine Ok.seq ?_
    refine Ok.drawn [(0, true, []), (2, true, []), (4, true, []), (5, true, []), (1, false, [4]), (3, false, [4, 0]), (6, false, [0]), (7, false, [4, 0]), (8, false, [4, 0]), (9, true, []), (10, true, []), (11, true, []), (12, true, []), (13, true, []), (14, true, []), (15, true, []), (16, true, []), (17, true, [])] (by kernel_rfl) ?_
    refine OkP.step ?_
    refine OkO.load rfl rfl (ldg (n := 6) (by kernel_rfl) (by first | assumption | (simp (disch := first | omega | (simp only [hNw, hPt]; omega)) only [gn0, gn1, gn2, gn3, gn4, gn5, gp0, gno, gpo] <;> first | rfl | assumption)) (by first | rfl | assumption)) ?_
    refine OkO.nil ⟨rfl, ?_⟩
    refine OkP.step ?_
    refine OkO.move rfl rfl ?_
    refine OkO.nil ⟨rfl, ?_⟩
    refine OkP.step ?_
    refine OkO.load rfl rfl (ldg (n := 6) (by kernel_rfl) (by first | assumption | (simp (disch := first | omega | (simp only [hNw, hPt]; omega)) only [gn0, gn1, gn2, gn3, gn4, gn5, gp0, gno, gpo] <;> first | rfl | assumption)) (by first | rfl | assumption)) ?_
    refine OkO.nil ⟨rfl, ?_⟩
    refine OkP.step ?_
    refine OkO.move rfl rfl ?_
    refine OkO.nil ⟨rfl, ?_⟩
    refine OkP.step ?_
    refine OkO.callE rfl rfl rfl rfl rfl (c19 (m + 7) cv cs g _ (hR.ext (hE _ gX)) (by omega)) ?_ -- "sackung/sackunglaw02.Ground"
    rintro vI2 HI2 ⟨cvI2, rfl, qI2, rI2, atI2⟩
    have gI2 : Grow W HI2 := Grow.ret gX qI2
    have nI2 : W.next + 1 ≤ HI2.next := by have := qI2.ext.next; first | omega | (simp only [hNw] at this; omega)
    have aI2 : (HI2.get W.next).bind AObj.cs = some [cv, I g.slo, I g.shi, I g.klo, I g.khi, I g.melt] := by rw [qI2.ext.get _ (by first | omega | (simp only [hNw]; omega))]; first | assumption | (simp (disch := first | omega | (simp only [hNw, hPt]; omega)) only [gn0, gn1, gn2, gn3, gn4, gn5, gp0, gno, gpo] <;> first | rfl | assumption)
    refine OkO.nil ⟨(sco (sld rfl rfl (ldg (n := 6) (by kernel_rfl) (by first | assumption | (simp (disch := first | omega | (simp only [hNw, hPt]; omega)) only [gn0, gn1, gn2, gn3, gn4, gn5, gp0, gno, gpo] <;> first | rfl | assumption)) (by first | rfl | assumption)) rfl (eqr _ (by first | rfl | exact lpl (by assumption) | (simp [AV.plain, AV.plains, AV.cells, pc])))) rfl), ?_⟩
    refine OkP.step ?_
    refine OkO.callE rfl rfl rfl rfl rfl (c21 (m + 7) dv ds _ (hY.ext (hE _ gI2)) (by omega)) ?_ -- "sackung/sackunglaw02.Days"
    rintro dvJ HJ ⟨qJ, rJ, atJ⟩
    have gJ : Grow W HJ := Grow.ret gI2 qJ
    have nJ : W.next + 1 ≤ HJ.next := by have := qJ.ext.next; first | omega | (simp only [hNw] at this; omega)
    have aJ : (HJ.get W.next).bind AObj.cs = some [cv, I g.slo, I g.shi, I g.klo, I g.khi, I g.melt] := by rw [qJ.ext.get _ (by first | omega | (simp only [hNw]; omega))]; first | assumption | (simp (disch := first | omega | (simp only [hNw, hPt]; omega)) only [gn0, gn1, gn2, gn3, gn4, gn5, gp0, gno, gpo] <;> first | rfl | assumption)
    refine OkO.nil ⟨(sco (sld rfl rfl (ldg (n := 6) (by kernel_rfl) (by first | assumption | (simp (disch := first | omega | (simp only [hNw, hPt]; omega)) only [gn0, gn1, gn2, gn3, gn4, gn5, gp0, gno, gpo] <;> first | rfl | assumption)) (by first | rfl | assumption)) rfl (eqr _ (by first | rfl | exact lpl (by assumption) | (simp [AV.plain, AV.plains, AV.cells, pc])))) (sco (sld rfl rfl (ldg (n := 6) (by kernel_rfl) (by first | assumption | (simp (disch := first | omega | (simp only [hNw, hPt]; omega)) only [gn0, gn1, gn2, gn3, gn4, gn5, gp0, gno, gpo] <;> first | rfl | assumption)) (by first | rfl | assumption)) rfl (eqr _ (by first | rfl | exact lpl (by assumption) | (simp [AV.plain, AV.plains, AV.cells, pc])))) rfl)), ?_⟩
    refine OkP.step ?_
    refine OkO.callE rfl rfl rfl rfl rfl (c29h (m + 8) cv dv cs g ds _ (hR.ext (hE _ gJ)) (hY.ext (hE _ gJ)) (by omega) (by omega)) ?_ -- "sackung/sackungref02.Ends"
    rintro vM HM ⟨lvM, rvM, rfl, qM, lM, rM⟩
    have gM : Grow W HM := Grow.ret gJ qM
    have nM : W.next + 1 ≤ HM.next := by have := qM.ext.next; first | omega | (simp only [hNw] at this; omega)
    have aM : (HM.get W.next).bind AObj.cs = some [cv, I g.slo, I g.shi, I g.klo, I g.khi, I g.melt] := by rw [qM.ext.get _ (by first | omega | (simp only [hNw]; omega))]; first | assumption | (simp (disch := first | omega | (simp only [hNw, hPt]; omega)) only [gn0, gn1, gn2, gn3, gn4, gn5, gp0, gno, gpo] <;> first | rfl | assumption)
    refine OkO.nil ⟨(sco (sld rfl rfl (ldg (n := 6) (by kernel_rfl) (by first | assumption | (simp (disch := first | omega | (simp only [hNw, hPt]; omega)) only [gn0, gn1, gn2, gn3, gn4, gn5, gp0, gno, gpo] <;> first | rfl | assumption)) (by first | rfl | assumption)) rfl (eqr _ (by first | rfl | exact lpl (by assumption) | (simp [AV.plain, AV.plains, AV.cells, pc])))) rfl), ?_⟩
    refine OkP.step ?_
    refine OkO.callE rfl rfl rfl rfl rfl (c22 (m + 7) lvM rvM (highT g) (highL cs) (highR ds) _ (lM.ext (Ext.refl _)) (by simp [highL]; omega) (rM.ext (Ext.refl _)) (by simp [highR]; omega)) ?_ -- "sackung/sackunglaw02.Truth"
    rintro vN2 HN2 ⟨lvN2, rvN2, rfl, qN2, lN2, rN2⟩
    have gN2 : Grow W HN2 := Grow.ret gM qN2
    have nN2 : W.next + 1 ≤ HN2.next := by have := qN2.ext.next; first | omega | (simp only [hNw] at this; omega)
    have aN2 : (HN2.get W.next).bind AObj.cs = some [cv, I g.slo, I g.shi, I g.klo, I g.khi, I g.melt] := by rw [qN2.ext.get _ (by first | omega | (simp only [hNw]; omega))]; first | assumption | (simp (disch := first | omega | (simp only [hNw, hPt]; omega)) only [gn0, gn1, gn2, gn3, gn4, gn5, gp0, gno, gpo] <;> first | rfl | assumption)
    refine OkO.nil ⟨(sco (sld rfl rfl (ldg (n := 6) (by kernel_rfl) (by first | assumption | (simp (disch := first | omega | (simp only [hNw, hPt]; omega)) only [gn0, gn1, gn2, gn3, gn4, gn5, gp0, gno, gpo] <;> first | rfl | assumption)) (by first | rfl | assumption)) rfl (eqr _ (by first | rfl | exact lpl (by assumption) | (simp [AV.plain, AV.plains, AV.cells, pc])))) (sco (sld rfl rfl (ldg (n := 6) (by kernel_rfl) (by first | assumption | (simp (disch := first | omega | (simp only [hNw, hPt]; omega)) only [gn0, gn1, gn2, gn3, gn4, gn5, gp0, gno, gpo] <;> first | rfl | assumption)) (by first | rfl | assumption)) rfl (eqr _ (by first | rfl | exact lpl (by assumption) | (simp [AV.plain, AV.plains, AV.cells, pc])))) rfl)), ?_⟩
    refine OkP.step ?_
    refine OkO.callE rfl rfl rfl rfl rfl (c20 (m + 1) cvI2 dvJ lvN2 rvN2 cs g ds (highT g) (highL cs) (highR ds) _ (rI2.ext (qJ.ext.trans (qM.ext.trans (qN2.ext)))) (by omega) (rJ.ext (qM.ext.trans (qN2.ext))) (by omega) lN2 (by simp [highL]; omega) rN2 (by simp [highR]; omega) (high_ok hd0)) ?_ -- "sackung/water.Run"
    rintro vZ HZ ⟨v6Z, v7Z, rfl, qZ, lsZ, inZ⟩
    have gZ : Grow W HZ := Grow.ret gN2 qZ
    have nZ : W.next + 1 ≤ HZ.next := by have := qZ.ext.next; first | omega | (simp only [hNw] at this; omega)
    have aZ : (HZ.get W.next).bind AObj.cs = some [cv, I g.slo, I g.shi, I g.klo, I g.khi, I g.melt] := by rw [qZ.ext.get _ (by first | omega | (simp only [hNw]; omega))]; first | assumption | (simp (disch := first | omega | (simp only [hNw, hPt]; omega)) only [gn0, gn1, gn2, gn3, gn4, gn5, gp0, gno, gpo] <;> first | rfl | assumption)
    have lsl := lsL.ext (qC.ext.trans (qE.ext.trans (qP.ext.trans (qT.ext.trans (qR.ext.trans (qF.ext.trans (qG2.ext.trans (qU.ext.trans (qV.ext.trans (qX.ext.trans (qI2.ext.trans (qJ.ext.trans (qM.ext.trans (qN2.ext.trans (qZ.ext)))))))))))))))
    have inl := inL.ext (qC.ext.trans (qE.ext.trans (qP.ext.trans (qT.ext.trans (qR.ext.trans (qF.ext.trans (qG2.ext.trans (qU.ext.trans (qV.ext.trans (qX.ext.trans (qI2.ext.trans (qJ.ext.trans (qM.ext.trans (qN2.ext.trans (qZ.ext)))))))))))))))
    have lsr := lsR.ext (qF.ext.trans (qG2.ext.trans (qU.ext.trans (qV.ext.trans (qX.ext.trans (qI2.ext.trans (qJ.ext.trans (qM.ext.trans (qN2.ext.trans (qZ.ext))))))))))
    have lsx := lsX.ext (qI2.ext.trans (qJ.ext.trans (qM.ext.trans (qN2.ext.trans (qZ.ext)))))
    have hFl := fit_of (low_ok hd0)
    have hFh := fit_of (high_ok hd0)
    have sm1 := rows_same hF hFl rfl
    have sm2 := rows_same hF hFh rfl
    have hrl : (rowsR cs g ds t lvs rain ds.length).length = ds.length := by simp [rowsR]
    obtain ⟨vsl, x1, x2, x3⟩ := id lsl
    obtain ⟨vsr, y1, y2, y3⟩ := id lsr
    obtain ⟨vsx, z1, z2, z3⟩ := id lsx
    obtain ⟨vsz, w1, w2, w3⟩ := id lsZ
    have k1 : lenOf v4L = some ds.length := by rw [x1.len]; simp [rowsG] at x2 ⊢; omega
    have k2 : lenOf v5L = some ds.length := by rw [inl.len]; simp [snG]
    have k3 : lenOf v6R = some ds.length := by rw [y1.len]; simp [rowsR] at y2 ⊢; omega
    have k4 : vsx.length = ds.length := by rw [z2]; simp [rowsR]
    have k5 : vsz.length = ds.length := by rw [w2]; simp [rowsR]
    have k6 : vsl.length = ds.length := by rw [x2]; simp [rowsG]
    have k7 : vsr.length = ds.length := by rw [y2]; simp [rowsR]
    have RZ : Row HZ cv 7 (cs.map Cell.c) := hR.ext (hE _ gZ)
    refine OkO.nil ⟨(sco (sld rfl rfl (ldg (n := 6) (by kernel_rfl) (by first | assumption | (simp (disch := first | omega | (simp only [hNw, hPt]; omega)) only [gn0, gn1, gn2, gn3, gn4, gn5, gp0, gno, gpo] <;> first | rfl | assumption)) (by first | rfl | assumption)) rfl (eqr _ (by first | rfl | exact lpl (by assumption) | (simp [AV.plain, AV.plains, AV.cells, pc])))) (sco (sld rfl rfl (ldg (n := 6) (by kernel_rfl) (by first | assumption | (simp (disch := first | omega | (simp only [hNw, hPt]; omega)) only [gn0, gn1, gn2, gn3, gn4, gn5, gp0, gno, gpo] <;> first | rfl | assumption)) (by first | rfl | assumption)) rfl (eqr _ (by first | rfl | exact lpl (by assumption) | (simp [AV.plain, AV.plains, AV.cells, pc])))) rfl)), ?_⟩
    refine OkP.step ?_
    refine OkO.move rfl rfl ?_
    refine OkO.nil ⟨rfl, ?_⟩
    refine OkP.step ?_
    refine OkO.extract rfl rfl rfl ?_
    refine OkO.nil ⟨rfl, ?_⟩
    refine OkP.step ?_
    refine OkO.extract rfl rfl rfl ?_
    refine OkO.nil ⟨rfl, ?_⟩
    refine OkP.step ?_
    refine OkO.extract rfl rfl rfl ?_
    refine OkO.nil ⟨rfl, ?_⟩
    refine OkP.step ?_
    refine OkO.extract rfl rfl rfl ?_
    refine OkO.nil ⟨rfl, ?_⟩
    refine OkP.step ?_
    refine OkO.assign rfl rfl ?_
    refine OkO.nil ⟨rfl, ?_⟩
    refine OkP.step ?_
    refine OkO.assign rfl rfl ?_
    refine OkO.nil ⟨rfl, ?_⟩
    refine OkP.step ?_
    refine OkO.assign rfl rfl ?_
    refine OkO.nil ⟨rfl, ?_⟩
    refine OkP.step ?_
    refine OkO.assign rfl rfl ?_
    refine OkO.nil ⟨rfl, ?_⟩
    refine OkP.nil ?_
    refine Ok.seq ?_
    refine Ok.seq ?_
    refine Ok.region ?_
    refine OkO.move rfl rfl ?_
    refine OkO.bin rfl rfl rfl (bin_neq _ _) ?_
    refine OkO.move rfl rfl ?_
    refine OkO.split (d := 84) rfl (fun g2 => ?_) (fun g2 => ?_)
    · -- true g2
      exact absurd g2 (by simp)
    · -- false g2
      refine OkO.move rfl rfl ?_
      refine OkO.bin rfl rfl rfl (bin_neq _ _) ?_
      refine OkO.pick (b := false) rfl rfl nofun (fun _ => rfl) ?_
      refine OkO.move rfl rfl ?_
      refine OkO.split (d := 88) rfl (fun g3 => ?_) (fun g3 => ?_)
      · -- true g3
        exact absurd g3 (by simp)
      · -- false g3
        refine OkO.move rfl rfl ?_
        refine OkO.bin rfl rfl rfl (bin_neq _ _) ?_
        refine OkO.pick (b := false) rfl rfl nofun (fun _ => rfl) ?_
        refine OkO.move rfl rfl ?_
        refine OkO.split (d := 92) rfl (fun g4 => ?_) (fun g4 => ?_)
        · -- true g4
          exact absurd g4 (by simp)
        · -- false g4
          refine OkO.move rfl rfl ?_
          refine OkO.bin rfl rfl rfl (bin_neq _ _) ?_
          refine OkO.pick (b := false) rfl rfl nofun (fun _ => rfl) ?_
          refine OkO.move rfl rfl ?_
          refine OkO.split (d := 96) rfl (fun g5 => ?_) (fun g5 => ?_)
          · -- true g5
            exact absurd g5 (by simp)
          · -- false g5
            refine OkO.move rfl rfl ?_
            refine OkO.builtin rfl rfl rfl (bln (by kernel_rfl) (by first | assumption | rfl)) ?_
            refine OkO.move rfl rfl ?_
            refine OkO.builtin rfl rfl rfl (bln (by kernel_rfl) (by first | assumption | rfl)) ?_
            refine OkO.bin rfl rfl rfl (bin_neq _ _) ?_
            refine OkO.pick (b := false) rfl rfl nofun (fun _ => rfl) ?_
            refine OkO.move rfl rfl ?_
            refine OkO.split (d := 103) rfl (fun g6 => ?_) (fun g6 => ?_)
            · -- true g6
              exact absurd g6 (by simp)
            · -- false g6
              refine OkO.move rfl rfl ?_
              refine OkO.builtin rfl rfl rfl (bln (by kernel_rfl) (by first | assumption | rfl)) ?_
              refine OkO.move rfl rfl ?_
              refine OkO.builtin rfl rfl rfl (bln (by kernel_rfl) (by first | assumption | rfl)) ?_
              refine OkO.bin rfl rfl rfl (bin_neq _ _) ?_
              refine OkO.pick (b := false) rfl rfl nofun (fun _ => rfl) ?_
              refine OkO.move rfl rfl ?_
              refine OkO.split (d := 110) rfl (fun g7 => ?_) (fun g7 => ?_)
              · -- true g7
                exact absurd g7 (by simp)
              · -- false g7
                refine OkO.move rfl rfl ?_
                refine OkO.move rfl rfl ?_
                refine OkO.callV rfl rfl rfl rfl rfl (c45 _ v6R v6X _ _ _ lsr lsx sm1 (by omega)) ?_ -- "sackung/sackunglaw02.rows"
                refine OkO.un rfl rfl rfl ?_
                refine OkO.pick (b := false) rfl rfl nofun (fun _ => rfl) ?_
                refine OkO.move rfl rfl ?_
                refine OkO.split (d := 116) rfl (fun g8 => ?_) (fun g8 => ?_)
                · -- true g8
                  exact absurd g8 (by simp)
                · -- false g8
                  refine OkO.move rfl rfl ?_
                  refine OkO.move rfl rfl ?_
                  refine OkO.callV rfl rfl rfl rfl rfl (c45 _ v6R v6Z _ _ _ lsr lsZ sm2 (by omega)) ?_ -- "sackung/sackunglaw02.rows"
                  refine OkO.un rfl rfl rfl ?_
                  refine OkO.pick (b := false) rfl rfl nofun (fun _ => rfl) ?_
                  refine OkO.move rfl rfl ?_
                  refine OkO.split (d := 122) rfl (fun g9 => ?_) (fun g9 => ?_)
                  · -- true g9
                    exact absurd g9 (by simp)
                  · -- false g9
                    refine OkO.move rfl rfl ?_
                    refine OkO.builtin rfl rfl rfl (bln (by kernel_rfl) (by first | assumption | rfl)) ?_
                    refine OkO.move rfl rfl ?_
                    refine OkO.builtin rfl rfl rfl (bln (by kernel_rfl) (by first | assumption | rfl)) ?_
                    refine OkO.bin rfl rfl rfl (bin_neq _ _) ?_
                    refine OkO.pick (b := false) rfl rfl nofun (fun _ => rfl) ?_
                    refine OkO.nil ?_
                    refine Ok.cond rfl (fun h10 => ?_) (fun h10 => ?_)
                    · -- yes h10
                      exact absurd h10 (by simp)
                    · -- no h10
                      refine Ok.skip ?_
                      refine Ok.seq ?_
                      refine Ok.seq ?_
                      refine Ok.region ?_
                      refine OkO.assign rfl rfl ?_
                      refine OkO.nil ?_
                      refine Ok.block ?_
                      refine Ok.loop (fun n s => ∃ i : Nat, n = ds.length - i ∧ i ≤ ds.length ∧ HZ = s.H ∧ Has 9 [(1, dv), (3, .ptr W.next 0), (7, v4L), (8, v5L), (10, v6R), (12, I (snowP g.melt ds rain t.snow ds.length)), (14, v6X), (16, I (snowP g.melt ds (lowR ds) (lowT g).snow ds.length)), (18, v6Z), (20, I (snowP g.melt ds (highR ds) (highT g).snow ds.length)), (22, I (i : Int))] s.T ∧ s.D = [] ∧ Grow W s.H) (ds.length) (by unfold loopFuel; omega)
                        ⟨0, rfl, Nat.zero_le _, rfl, Has.of (by kernel_rfl), rfl, gZ⟩ ?_
                      rintro n ⟨T, D, G⟩ ⟨i, hn, hi, hH, ⟨f, hT⟩, hD, hg⟩
                      dsimp only at *
                      subst hT hD
                      have hgn := hg.next
                      subst hH
                      refine Ok.seq ?_
                      refine Ok.seq ?_
                      refine Ok.region ?_
                      refine OkO.move rfl rfl ?_
                      refine OkO.move rfl rfl ?_
                      refine OkO.builtin rfl rfl rfl (bln (by kernel_rfl) (by first | assumption | rfl)) ?_
                      refine OkO.bin rfl rfl rfl (bin_lss _ _) ?_
                      refine OkO.nil ?_
                      refine Ok.cond rfl (fun h11 => ?_) (fun h11 => ?_)
                      · -- yes h11
                        have hlt : i < ds.length := by simpa using h11
                        have i1 : i < vsl.length := by omega
                        have i2 : i < vsr.length := by omega
                        have i3 : i < vsx.length := by omega
                        have i4 : i < vsz.length := by omega
                        obtain ⟨pb, po, pcs, p1, p2, p3, p4⟩ := x1.at_ i [vsl[i]] (by simp [i1])
                        have p5 := seg_one p3
                        obtain ⟨rb, ro, rcs, r1, r2, r3, r4⟩ := y1.at_ i [vsr[i]] (by simp [i2])
                        have r5 := seg_one r3
                        obtain ⟨ub, uo, ucs, u1, u2, u3, u4⟩ := z1.at_ i [vsx[i]] (by simp [i3])
                        have u5 := seg_one u3
                        obtain ⟨eb, eo, ecs, e1, e2, e3, e4⟩ := w1.at_ i [vsz[i]] (by simp [i4])
                        have e5 := seg_one e3
                        have xr : Row HZ vsl[i] 2 ((rowG cs g ds i cs.length).map Rg.c) := x3 i vsl[i] _ (List.getElem?_eq_getElem i1) (by rw [rowsG, List.getElem?_map, List.getElem?_range hlt]; rfl)
                        have yr : Ints HZ vsr[i] ((levP cs g ds t lvs rain (i + 1)).take cs.length) := y3 i vsr[i] _ (List.getElem?_eq_getElem i2) (by rw [rowsR, List.getElem?_map, List.getElem?_range hlt]; rfl)
                        have zr : Ints HZ vsx[i] ((levP cs g ds (lowT g) (lowL cs) (lowR ds) (i + 1)).take cs.length) := z3 i vsx[i] _ (List.getElem?_eq_getElem i3) (by rw [rowsR, List.getElem?_map, List.getElem?_range hlt]; rfl)
                        have wr : Ints HZ vsz[i] ((levP cs g ds (highT g) (highL cs) (highR ds) (i + 1)).take cs.length) := w3 i vsz[i] _ (List.getElem?_eq_getElem i4) (by rw [rowsR, List.getElem?_map, List.getElem?_range hlt]; rfl)
                        have fy := lev_facts hF (i + 1) (by omega)
                        have fz := lev_facts hFl (i + 1) (by omega)
                        have fw := lev_facts hFh (i + 1) (by omega)
                        have lx : lenOf vsl[i] = some cs.length := by rw [xr.len]; simp [rowG]
                        have ly : lenOf vsr[i] = some cs.length := by rw [yr.len]; simp; omega
                        refine Ok.skip ?_
                        refine Ok.seq ?_
                        refine Ok.block ?_
                        refine Ok.seq ?_
                        refine Ok.seq ?_
                        refine Ok.drawn [(0, true, []), (1, true, []), (2, true, []), (3, true, []), (4, true, []), (5, true, []), (6, true, []), (7, true, []), (8, true, []), (9, true, []), (10, true, []), (11, true, []), (12, true, []), (13, true, []), (14, true, []), (15, true, []), (16, true, []), (17, true, []), (18, true, []), (19, true, [])] (by kernel_rfl) ?_
                        refine OkP.step ?_
                        refine OkO.move rfl rfl ?_
                        refine OkO.nil ⟨rfl, ?_⟩
                        refine OkP.step ?_
                        refine OkO.move rfl rfl ?_
                        refine OkO.nil ⟨rfl, ?_⟩
                        refine OkP.step ?_
                        refine OkO.index (sz := 1) (n := i) rfl rfl rfl (by kernel_rfl) (by first | assumption | rfl | exact slAt_slice (by omega)) ?_ -- index ('Go.Operand.tmp', 135) ('Go.Operand.tmp', 136)
                        refine OkO.nil ⟨rfl, ?_⟩
                        refine OkP.step ?_
                        refine OkO.load rfl rfl (lda (n := 1) (by kernel_rfl) (by first | assumption | (simp (disch := first | omega | (simp only [hNw, hPt]; omega)) only [gn0, gn1, gn2, gn3, gn4, gn5, gp0, gno, gpo] <;> first | rfl | assumption)) (by first | rfl | assumption)) ?_
                        refine OkO.nil ⟨rfl, ?_⟩
                        refine OkP.step ?_
                        refine OkO.builtin rfl rfl rfl (bln (by kernel_rfl) (by first | assumption | rfl)) ?_
                        refine OkO.nil ⟨rfl, ?_⟩
                        refine OkP.step ?_
                        refine OkO.fieldAddr (o := 0) rfl (by kernel_rfl) rfl ?_
                        refine OkO.nil ⟨rfl, ?_⟩
                        refine OkP.step ?_
                        refine OkO.load rfl rfl (lda (n := 1) (by kernel_rfl) (by first | assumption | (simp (disch := first | omega | (simp only [hNw, hPt]; omega)) only [gn0, gn1, gn2, gn3, gn4, gn5, gp0, gno, gpo] <;> first | rfl | assumption)) (by first | rfl | assumption)) ?_
                        refine OkO.nil ⟨rfl, ?_⟩
                        refine OkP.step ?_
                        refine OkO.builtin rfl rfl rfl (bln (by kernel_rfl) (by first | assumption | rfl)) ?_
                        refine OkO.nil ⟨rfl, ?_⟩
                        refine OkP.step ?_
                        refine OkO.bin rfl rfl rfl (bin_neq _ _) ?_
                        refine OkO.nil ⟨rfl, ?_⟩
                        refine OkP.step ?_
                        refine OkO.move rfl rfl ?_
                        refine OkO.nil ⟨rfl, ?_⟩
                        refine OkP.split (d := 144) rfl (fun g12 => ?_) (fun g12 => ?_)
                        · -- true g12
                          exact absurd g12 (by simp)
                        · -- false g12
                          refine OkP.step ?_
                          refine OkO.move rfl rfl ?_
                          refine OkO.nil ⟨rfl, ?_⟩
                          refine OkP.step ?_
                          refine OkO.move rfl rfl ?_
                          refine OkO.nil ⟨rfl, ?_⟩
                          refine OkP.step ?_
                          refine OkO.index (sz := 1) (n := i) rfl rfl rfl (by kernel_rfl) (by first | assumption | rfl | exact slAt_slice (by omega)) ?_ -- index ('Go.Operand.tmp', 145) ('Go.Operand.tmp', 146)
                          refine OkO.nil ⟨rfl, ?_⟩
                          refine OkP.step ?_
                          refine OkO.load rfl rfl (lda (n := 1) (by kernel_rfl) (by first | assumption | (simp (disch := first | omega | (simp only [hNw, hPt]; omega)) only [gn0, gn1, gn2, gn3, gn4, gn5, gp0, gno, gpo] <;> first | rfl | assumption)) (by first | rfl | assumption)) ?_
                          refine OkO.nil ⟨rfl, ?_⟩
                          refine OkP.step ?_
                          refine OkO.builtin rfl rfl rfl (bln (by kernel_rfl) (by first | assumption | rfl)) ?_
                          refine OkO.nil ⟨rfl, ?_⟩
                          refine OkP.step ?_
                          refine OkO.fieldAddr (o := 0) rfl (by kernel_rfl) rfl ?_
                          refine OkO.nil ⟨rfl, ?_⟩
                          refine OkP.step ?_
                          refine OkO.load rfl rfl (lda (n := 1) (by kernel_rfl) (by first | assumption | (simp (disch := first | omega | (simp only [hNw, hPt]; omega)) only [gn0, gn1, gn2, gn3, gn4, gn5, gp0, gno, gpo] <;> first | rfl | assumption)) (by first | rfl | assumption)) ?_
                          refine OkO.nil ⟨rfl, ?_⟩
                          refine OkP.step ?_
                          refine OkO.builtin rfl rfl rfl (bln (by kernel_rfl) (by first | assumption | rfl)) ?_
                          refine OkO.nil ⟨rfl, ?_⟩
                          refine OkP.step ?_
                          refine OkO.bin rfl rfl rfl (bin_neq _ _) ?_
                          refine OkO.nil ⟨rfl, ?_⟩
                          refine OkP.step ?_
                          refine OkO.pick (b := false) rfl rfl nofun (fun _ => rfl) ?_
                          refine OkO.nil ⟨rfl, ?_⟩
                          refine OkP.nil ?_
                          refine Ok.cond rfl (fun h13 => ?_) (fun h13 => ?_)
                          · -- yes h13
                            exact absurd h13 (by simp)
                          · -- no h13
                            refine Ok.skip ?_
                            refine Ok.seq ?_
                            refine Ok.region ?_
                            refine OkO.assign rfl rfl ?_
                            refine OkO.nil ?_
                            refine Ok.block ?_
                            refine Ok.loop (fun n s => ∃ k : Nat, n = cs.length - k ∧ k ≤ cs.length ∧ HZ = s.H ∧ Has 9 [(1, dv), (3, .ptr W.next 0), (7, v4L), (8, v5L), (10, v6R), (12, I (snowP g.melt ds rain t.snow ds.length)), (14, v6X), (16, I (snowP g.melt ds (lowR ds) (lowT g).snow ds.length)), (18, v6Z), (20, I (snowP g.melt ds (highR ds) (highT g).snow ds.length)), (22, I (i : Int)), (23, I (k : Int))] s.T ∧ s.D = [] ∧ Grow W s.H) (cs.length) (by unfold loopFuel; omega)
                              ⟨0, rfl, Nat.zero_le _, rfl, Has.of (by kernel_rfl), rfl, gZ⟩ ?_
                            rintro n ⟨T, D, G⟩ ⟨k, hn2, hk, hH, ⟨f2, hT⟩, hD, hg⟩
                            dsimp only at *
                            subst hT hD
                            have hgn := hg.next
                            subst hH
                            refine Ok.seq ?_
                            refine Ok.seq ?_
                            refine Ok.region ?_
                            refine OkO.move rfl rfl ?_
                            refine OkO.fieldAddr (o := 0) rfl (by kernel_rfl) rfl ?_
                            refine OkO.load rfl rfl (lda (n := 1) (by kernel_rfl) (by first | assumption | (simp (disch := first | omega | (simp only [hNw, hPt]; omega)) only [gn0, gn1, gn2, gn3, gn4, gn5, gp0, gno, gpo] <;> first | rfl | assumption)) (by first | rfl | assumption)) ?_
                            refine OkO.builtin rfl rfl rfl (bln (by kernel_rfl) (by first | assumption | rfl)) ?_
                            refine OkO.bin rfl rfl rfl (bin_lss _ _) ?_
                            refine OkO.nil ?_
                            refine Ok.cond rfl (fun h14 => ?_) (fun h14 => ?_)
                            · -- yes h14
                              have hltk : k < cs.length := by simpa using h14
                              obtain ⟨ab, ao, acs, a1, a2, a3, a4⟩ := yr.at_ k [I ((levP cs g ds t lvs rain (i + 1)).getD k 0)] (by rw [List.getElem?_map, List.getElem?_take, if_pos hltk, List.getElem?_eq_getElem (by omega), getD_lt (by omega)]; rfl)
                              have a5 := seg_one a3
                              obtain ⟨bb, bo, bcs, b1, b2, b3, b4⟩ := zr.at_ k [I ((levP cs g ds (lowT g) (lowL cs) (lowR ds) (i + 1)).getD k 0)] (by rw [List.getElem?_map, List.getElem?_take, if_pos hltk, List.getElem?_eq_getElem (by omega), getD_lt (by omega)]; rfl)
                              have b5 := seg_one b3
                              obtain ⟨dzb, dzo, dzcs, dz1, dz2, dz3, dz4⟩ := wr.at_ k [I ((levP cs g ds (highT g) (highL cs) (highR ds) (i + 1)).getD k 0)] (by rw [List.getElem?_map, List.getElem?_take, if_pos hltk, List.getElem?_eq_getElem (by omega), getD_lt (by omega)]; rfl)
                              have dz5 := seg_one dz3
                              obtain ⟨jb, jo, jcs, j1, j2, j3, j4⟩ := xr.at_ k (lvR cs g ds i k).c (by rw [List.getElem?_map, rowG, List.getElem?_map, List.getElem?_range hltk]; rfl)
                              have j5 : jcs[jo + 0]? = some (I ((levP cs g ds (lowT g) (lowL cs) (lowR ds) (i + 1)).getD k 0)) := seg_get j3 0 (by omega)
                              have j6 : jcs[jo + 1]? = some (I ((levP cs g ds (highT g) (highL cs) (highR ds) (i + 1)).getD k 0)) := seg_get j3 1 (by omega)
                              have hbl := betw_lev hd0 hte (i + 1) (by omega) k
                              refine Ok.skip ?_
                              refine Ok.seq ?_
                              refine Ok.block ?_
                              refine Ok.seq ?_
                              refine Ok.drawn [(0, true, []), (1, true, []), (2, true, []), (3, true, []), (4, true, []), (5, true, []), (6, true, []), (7, true, []), (8, true, []), (9, true, []), (10, true, []), (11, true, []), (12, true, []), (13, true, []), (14, true, []), (15, true, []), (16, true, []), (17, true, []), (18, true, []), (19, true, []), (20, true, []), (21, true, []), (22, true, []), (23, true, []), (24, true, []), (25, true, []), (26, true, []), (27, true, []), (28, true, []), (29, true, []), (30, true, []), (31, true, []), (32, true, []), (33, true, []), (34, true, []), (35, true, []), (36, true, []), (37, true, []), (38, true, []), (39, true, []), (40, true, []), (41, true, []), (42, true, []), (43, true, []), (44, true, []), (45, true, []), (46, true, []), (47, true, []), (48, true, []), (49, true, []), (50, true, []), (51, true, []), (52, true, []), (53, true, []), (54, true, []), (55, true, []), (56, true, []), (57, true, []), (58, true, []), (59, true, []), (60, true, []), (61, true, []), (62, true, []), (63, true, []), (64, true, []), (65, true, []), (66, true, []), (67, true, []), (68, true, []), (69, true, [])] (by kernel_rfl) ?_
                              refine OkP.step ?_
                              refine OkO.move rfl rfl ?_
                              refine OkO.nil ⟨rfl, ?_⟩
                              refine OkP.step ?_
                              refine OkO.move rfl rfl ?_
                              refine OkO.nil ⟨rfl, ?_⟩
                              refine OkP.step ?_
                              refine OkO.index (sz := 1) (n := i) rfl rfl rfl (by kernel_rfl) (by first | assumption | rfl | exact slAt_slice (by omega)) ?_ -- index ('Go.Operand.tmp', 162) ('Go.Operand.tmp', 163)
                              refine OkO.nil ⟨rfl, ?_⟩
                              refine OkP.step ?_
                              refine OkO.load rfl rfl (lda (n := 1) (by kernel_rfl) (by first | assumption | (simp (disch := first | omega | (simp only [hNw, hPt]; omega)) only [gn0, gn1, gn2, gn3, gn4, gn5, gp0, gno, gpo] <;> first | rfl | assumption)) (by first | rfl | assumption)) ?_
                              refine OkO.nil ⟨rfl, ?_⟩
                              refine OkP.step ?_
                              refine OkO.move rfl rfl ?_
                              refine OkO.nil ⟨rfl, ?_⟩
                              refine OkP.step ?_
                              refine OkO.index (sz := 1) (n := k) rfl rfl rfl (by kernel_rfl) (by first | assumption | rfl | exact slAt_slice (by omega)) ?_ -- index ('Go.Operand.tmp', 165) ('Go.Operand.tmp', 166)
                              refine OkO.nil ⟨rfl, ?_⟩
                              refine OkP.step ?_
                              refine OkO.load rfl rfl (lda (n := 1) (by kernel_rfl) (by first | assumption | (simp (disch := first | omega | (simp only [hNw, hPt]; omega)) only [gn0, gn1, gn2, gn3, gn4, gn5, gp0, gno, gpo] <;> first | rfl | assumption)) (by first | rfl | assumption)) ?_
                              refine OkO.nil ⟨rfl, ?_⟩
                              refine OkP.step ?_
                              refine OkO.move rfl rfl ?_
                              refine OkO.nil ⟨rfl, ?_⟩
                              refine OkP.step ?_
                              refine OkO.move rfl rfl ?_
                              refine OkO.nil ⟨rfl, ?_⟩
                              refine OkP.step ?_
                              refine OkO.index (sz := 1) (n := i) rfl rfl rfl (by kernel_rfl) (by first | assumption | rfl | exact slAt_slice (by omega)) ?_ -- index ('Go.Operand.tmp', 169) ('Go.Operand.tmp', 170)
                              refine OkO.nil ⟨rfl, ?_⟩
                              refine OkP.step ?_
                              refine OkO.load rfl rfl (lda (n := 1) (by kernel_rfl) (by first | assumption | (simp (disch := first | omega | (simp only [hNw, hPt]; omega)) only [gn0, gn1, gn2, gn3, gn4, gn5, gp0, gno, gpo] <;> first | rfl | assumption)) (by first | rfl | assumption)) ?_
                              refine OkO.nil ⟨rfl, ?_⟩
                              refine OkP.step ?_
                              refine OkO.move rfl rfl ?_
                              refine OkO.nil ⟨rfl, ?_⟩
                              refine OkP.step ?_
                              refine OkO.index (sz := 2) (n := k) rfl rfl rfl (by kernel_rfl) (by first | assumption | rfl | exact slAt_slice (by omega)) ?_ -- index ('Go.Operand.tmp', 172) ('Go.Operand.tmp', 173)
                              refine OkO.nil ⟨rfl, ?_⟩
                              refine OkP.step ?_
                              refine OkO.fieldAddr (o := 0) rfl (by kernel_rfl) rfl ?_
                              refine OkO.nil ⟨rfl, ?_⟩
                              refine OkP.step ?_
                              refine OkO.load rfl rfl (lda (n := 1) (by kernel_rfl) (by first | assumption | (simp (disch := first | omega | (simp only [hNw, hPt]; omega)) only [gn0, gn1, gn2, gn3, gn4, gn5, gp0, gno, gpo] <;> first | rfl | assumption)) (by first | rfl | assumption)) ?_
                              refine OkO.nil ⟨rfl, ?_⟩
                              refine OkP.step ?_
                              refine OkO.bin rfl rfl rfl (bin_lss _ _) ?_
                              refine OkO.nil ⟨rfl, ?_⟩
                              refine OkP.step ?_
                              refine OkO.move rfl rfl ?_
                              refine OkO.nil ⟨rfl, ?_⟩
                              refine OkP.split (d := 178) rfl (fun g15 => ?_) (fun g15 => ?_)
                              · -- true g15
                                exact absurd (of_decide_eq_true g15) (by omega)
                              · -- false g15
                                refine OkP.step ?_
                                refine OkO.move rfl rfl ?_
                                refine OkO.nil ⟨rfl, ?_⟩
                                refine OkP.step ?_
                                refine OkO.move rfl rfl ?_
                                refine OkO.nil ⟨rfl, ?_⟩
                                refine OkP.step ?_
                                refine OkO.index (sz := 1) (n := i) rfl rfl rfl (by kernel_rfl) (by first | assumption | rfl | exact slAt_slice (by omega)) ?_ -- index ('Go.Operand.tmp', 179) ('Go.Operand.tmp', 180)
                                refine OkO.nil ⟨rfl, ?_⟩
                                refine OkP.step ?_
                                refine OkO.load rfl rfl (lda (n := 1) (by kernel_rfl) (by first | assumption | (simp (disch := first | omega | (simp only [hNw, hPt]; omega)) only [gn0, gn1, gn2, gn3, gn4, gn5, gp0, gno, gpo] <;> first | rfl | assumption)) (by first | rfl | assumption)) ?_
                                refine OkO.nil ⟨rfl, ?_⟩
                                refine OkP.step ?_
                                refine OkO.move rfl rfl ?_
                                refine OkO.nil ⟨rfl, ?_⟩
                                refine OkP.step ?_
                                refine OkO.index (sz := 1) (n := k) rfl rfl rfl (by kernel_rfl) (by first | assumption | rfl | exact slAt_slice (by omega)) ?_ -- index ('Go.Operand.tmp', 182) ('Go.Operand.tmp', 183)
                                refine OkO.nil ⟨rfl, ?_⟩
                                refine OkP.step ?_
                                refine OkO.load rfl rfl (lda (n := 1) (by kernel_rfl) (by first | assumption | (simp (disch := first | omega | (simp only [hNw, hPt]; omega)) only [gn0, gn1, gn2, gn3, gn4, gn5, gp0, gno, gpo] <;> first | rfl | assumption)) (by first | rfl | assumption)) ?_
                                refine OkO.nil ⟨rfl, ?_⟩
                                refine OkP.step ?_
                                refine OkO.move rfl rfl ?_
                                refine OkO.nil ⟨rfl, ?_⟩
                                refine OkP.step ?_
                                refine OkO.move rfl rfl ?_
                                refine OkO.nil ⟨rfl, ?_⟩
                                refine OkP.step ?_
                                refine OkO.index (sz := 1) (n := i) rfl rfl rfl (by kernel_rfl) (by first | assumption | rfl | exact slAt_slice (by omega)) ?_ -- index ('Go.Operand.tmp', 186) ('Go.Operand.tmp', 187)
                                refine OkO.nil ⟨rfl, ?_⟩
                                refine OkP.step ?_
                                refine OkO.load rfl rfl (lda (n := 1) (by kernel_rfl) (by first | assumption | (simp (disch := first | omega | (simp only [hNw, hPt]; omega)) only [gn0, gn1, gn2, gn3, gn4, gn5, gp0, gno, gpo] <;> first | rfl | assumption)) (by first | rfl | assumption)) ?_
                                refine OkO.nil ⟨rfl, ?_⟩
                                refine OkP.step ?_
                                refine OkO.move rfl rfl ?_
                                refine OkO.nil ⟨rfl, ?_⟩
                                refine OkP.step ?_
                                refine OkO.index (sz := 2) (n := k) rfl rfl rfl (by kernel_rfl) (by first | assumption | rfl | exact slAt_slice (by omega)) ?_ -- index ('Go.Operand.tmp', 189) ('Go.Operand.tmp', 190)
                                refine OkO.nil ⟨rfl, ?_⟩
                                refine OkP.step ?_
                                refine OkO.fieldAddr (o := 1) rfl (by kernel_rfl) rfl ?_
                                refine OkO.nil ⟨rfl, ?_⟩
                                refine OkP.step ?_
                                refine OkO.load rfl rfl (lda (n := 1) (by kernel_rfl) (by first | assumption | (simp (disch := first | omega | (simp only [hNw, hPt]; omega)) only [gn0, gn1, gn2, gn3, gn4, gn5, gp0, gno, gpo] <;> first | rfl | assumption)) (by first | rfl | assumption)) ?_
                                refine OkO.nil ⟨rfl, ?_⟩
                                refine OkP.step ?_
                                refine OkO.bin rfl rfl rfl (bin_gtr _ _) ?_
                                refine OkO.nil ⟨rfl, ?_⟩
                                refine OkP.step ?_
                                refine OkO.pick (b := false) rfl rfl nofun (fun _ => rfl) ?_
                                refine OkO.nil ⟨rfl, ?_⟩
                                refine OkP.step ?_
                                refine OkO.move rfl rfl ?_
                                refine OkO.nil ⟨rfl, ?_⟩
                                refine OkP.split (d := 196) rfl (fun g16 => ?_) (fun g16 => ?_)
                                · -- true g16
                                  exact absurd (of_decide_eq_true g16) (by omega)
                                · -- false g16
                                  refine OkP.step ?_
                                  refine OkO.move rfl rfl ?_
                                  refine OkO.nil ⟨rfl, ?_⟩
                                  refine OkP.step ?_
                                  refine OkO.move rfl rfl ?_
                                  refine OkO.nil ⟨rfl, ?_⟩
                                  refine OkP.step ?_
                                  refine OkO.index (sz := 1) (n := i) rfl rfl rfl (by kernel_rfl) (by first | assumption | rfl | exact slAt_slice (by omega)) ?_ -- index ('Go.Operand.tmp', 197) ('Go.Operand.tmp', 198)
                                  refine OkO.nil ⟨rfl, ?_⟩
                                  refine OkP.step ?_
                                  refine OkO.load rfl rfl (lda (n := 1) (by kernel_rfl) (by first | assumption | (simp (disch := first | omega | (simp only [hNw, hPt]; omega)) only [gn0, gn1, gn2, gn3, gn4, gn5, gp0, gno, gpo] <;> first | rfl | assumption)) (by first | rfl | assumption)) ?_
                                  refine OkO.nil ⟨rfl, ?_⟩
                                  refine OkP.step ?_
                                  refine OkO.move rfl rfl ?_
                                  refine OkO.nil ⟨rfl, ?_⟩
                                  refine OkP.step ?_
                                  refine OkO.index (sz := 1) (n := k) rfl rfl rfl (by kernel_rfl) (by first | assumption | rfl | exact slAt_slice (by omega)) ?_ -- index ('Go.Operand.tmp', 200) ('Go.Operand.tmp', 201)
                                  refine OkO.nil ⟨rfl, ?_⟩
                                  refine OkP.step ?_
                                  refine OkO.load rfl rfl (lda (n := 1) (by kernel_rfl) (by first | assumption | (simp (disch := first | omega | (simp only [hNw, hPt]; omega)) only [gn0, gn1, gn2, gn3, gn4, gn5, gp0, gno, gpo] <;> first | rfl | assumption)) (by first | rfl | assumption)) ?_
                                  refine OkO.nil ⟨rfl, ?_⟩
                                  refine OkP.step ?_
                                  refine OkO.move rfl rfl ?_
                                  refine OkO.nil ⟨rfl, ?_⟩
                                  refine OkP.step ?_
                                  refine OkO.move rfl rfl ?_
                                  refine OkO.nil ⟨rfl, ?_⟩
                                  refine OkP.step ?_
                                  refine OkO.index (sz := 1) (n := i) rfl rfl rfl (by kernel_rfl) (by first | assumption | rfl | exact slAt_slice (by omega)) ?_ -- index ('Go.Operand.tmp', 204) ('Go.Operand.tmp', 205)
                                  refine OkO.nil ⟨rfl, ?_⟩
                                  refine OkP.step ?_
                                  refine OkO.load rfl rfl (lda (n := 1) (by kernel_rfl) (by first | assumption | (simp (disch := first | omega | (simp only [hNw, hPt]; omega)) only [gn0, gn1, gn2, gn3, gn4, gn5, gp0, gno, gpo] <;> first | rfl | assumption)) (by first | rfl | assumption)) ?_
                                  refine OkO.nil ⟨rfl, ?_⟩
                                  refine OkP.step ?_
                                  refine OkO.move rfl rfl ?_
                                  refine OkO.nil ⟨rfl, ?_⟩
                                  refine OkP.step ?_
                                  refine OkO.index (sz := 2) (n := k) rfl rfl rfl (by kernel_rfl) (by first | assumption | rfl | exact slAt_slice (by omega)) ?_ -- index ('Go.Operand.tmp', 207) ('Go.Operand.tmp', 208)
                                  refine OkO.nil ⟨rfl, ?_⟩
                                  refine OkP.step ?_
                                  refine OkO.fieldAddr (o := 0) rfl (by kernel_rfl) rfl ?_
                                  refine OkO.nil ⟨rfl, ?_⟩
                                  refine OkP.step ?_
                                  refine OkO.load rfl rfl (lda (n := 1) (by kernel_rfl) (by first | assumption | (simp (disch := first | omega | (simp only [hNw, hPt]; omega)) only [gn0, gn1, gn2, gn3, gn4, gn5, gp0, gno, gpo] <;> first | rfl | assumption)) (by first | rfl | assumption)) ?_
                                  refine OkO.nil ⟨rfl, ?_⟩
                                  refine OkP.step ?_
                                  refine OkO.bin rfl rfl rfl (bin_neq _ _) ?_
                                  refine OkO.nil ⟨rfl, ?_⟩
                                  refine OkP.step ?_
                                  refine OkO.pick (b := false) rfl rfl nofun (fun _ => rfl) ?_
                                  refine OkO.nil ⟨rfl, ?_⟩
                                  refine OkP.step ?_
                                  refine OkO.move rfl rfl ?_
                                  refine OkO.nil ⟨rfl, ?_⟩
                                  refine OkP.split (d := 214) rfl (fun g17 => ?_) (fun g17 => ?_)
                                  · -- true g17
                                    exact absurd (of_decide_eq_true g17) (by omega)
                                  · -- false g17
                                    refine OkP.step ?_
                                    refine OkO.move rfl rfl ?_
                                    refine OkO.nil ⟨rfl, ?_⟩
                                    refine OkP.step ?_
                                    refine OkO.move rfl rfl ?_
                                    refine OkO.nil ⟨rfl, ?_⟩
                                    refine OkP.step ?_
                                    refine OkO.index (sz := 1) (n := i) rfl rfl rfl (by kernel_rfl) (by first | assumption | rfl | exact slAt_slice (by omega)) ?_ -- index ('Go.Operand.tmp', 215) ('Go.Operand.tmp', 216)
                                    refine OkO.nil ⟨rfl, ?_⟩
                                    refine OkP.step ?_
                                    refine OkO.load rfl rfl (lda (n := 1) (by kernel_rfl) (by first | assumption | (simp (disch := first | omega | (simp only [hNw, hPt]; omega)) only [gn0, gn1, gn2, gn3, gn4, gn5, gp0, gno, gpo] <;> first | rfl | assumption)) (by first | rfl | assumption)) ?_
                                    refine OkO.nil ⟨rfl, ?_⟩
                                    refine OkP.step ?_
                                    refine OkO.move rfl rfl ?_
                                    refine OkO.nil ⟨rfl, ?_⟩
                                    refine OkP.step ?_
                                    refine OkO.index (sz := 1) (n := k) rfl rfl rfl (by kernel_rfl) (by first | assumption | rfl | exact slAt_slice (by omega)) ?_ -- index ('Go.Operand.tmp', 218) ('Go.Operand.tmp', 219)
                                    refine OkO.nil ⟨rfl, ?_⟩
                                    refine OkP.step ?_
                                    refine OkO.load rfl rfl (lda (n := 1) (by kernel_rfl) (by first | assumption | (simp (disch := first | omega | (simp only [hNw, hPt]; omega)) only [gn0, gn1, gn2, gn3, gn4, gn5, gp0, gno, gpo] <;> first | rfl | assumption)) (by first | rfl | assumption)) ?_
                                    refine OkO.nil ⟨rfl, ?_⟩
                                    refine OkP.step ?_
                                    refine OkO.move rfl rfl ?_
                                    refine OkO.nil ⟨rfl, ?_⟩
                                    refine OkP.step ?_
                                    refine OkO.move rfl rfl ?_
                                    refine OkO.nil ⟨rfl, ?_⟩
                                    refine OkP.step ?_
                                    refine OkO.index (sz := 1) (n := i) rfl rfl rfl (by kernel_rfl) (by first | assumption | rfl | exact slAt_slice (by omega)) ?_ -- index ('Go.Operand.tmp', 222) ('Go.Operand.tmp', 223)
                                    refine OkO.nil ⟨rfl, ?_⟩
                                    refine OkP.step ?_
                                    refine OkO.load rfl rfl (lda (n := 1) (by kernel_rfl) (by first | assumption | (simp (disch := first | omega | (simp only [hNw, hPt]; omega)) only [gn0, gn1, gn2, gn3, gn4, gn5, gp0, gno, gpo] <;> first | rfl | assumption)) (by first | rfl | assumption)) ?_
                                    refine OkO.nil ⟨rfl, ?_⟩
                                    refine OkP.step ?_
                                    refine OkO.move rfl rfl ?_
                                    refine OkO.nil ⟨rfl, ?_⟩
                                    refine OkP.step ?_
                                    refine OkO.index (sz := 2) (n := k) rfl rfl rfl (by kernel_rfl) (by first | assumption | rfl | exact slAt_slice (by omega)) ?_ -- index ('Go.Operand.tmp', 225) ('Go.Operand.tmp', 226)
                                    refine OkO.nil ⟨rfl, ?_⟩
                                    refine OkP.step ?_
                                    refine OkO.fieldAddr (o := 1) rfl (by kernel_rfl) rfl ?_
                                    refine OkO.nil ⟨rfl, ?_⟩
                                    refine OkP.step ?_
                                    refine OkO.load rfl rfl (lda (n := 1) (by kernel_rfl) (by first | assumption | (simp (disch := first | omega | (simp only [hNw, hPt]; omega)) only [gn0, gn1, gn2, gn3, gn4, gn5, gp0, gno, gpo] <;> first | rfl | assumption)) (by first | rfl | assumption)) ?_
                                    refine OkO.nil ⟨rfl, ?_⟩
                                    refine OkP.step ?_
                                    refine OkO.bin rfl rfl rfl (bin_neq _ _) ?_
                                    refine OkO.nil ⟨rfl, ?_⟩
                                    refine OkP.step ?_
                                    refine OkO.pick (b := false) rfl rfl nofun (fun _ => rfl) ?_
                                    refine OkO.nil ⟨rfl, ?_⟩
                                    refine OkP.nil ?_
                                    refine Ok.cond rfl (fun h18 => ?_) (fun h18 => ?_)
                                    · -- yes h18
                                      exact absurd (of_decide_eq_true h18) (by omega)
                                    · -- no h18
                                      refine Ok.skip ?_
                                      refine Ok.region ?_
                                      refine OkO.move rfl rfl ?_
                                      refine OkO.bin rfl rfl rfl (bin_add (by omega) (by omega)) ?_
                                      refine OkO.assign rfl rfl ?_
                                      refine OkO.nil ?_
                                      refine ⟨cs.length - (k + 1), by omega, k + 1, rfl, hltk, rfl, Has.of (by kernel_rfl), rfl, gZ⟩
                            · -- no h14
                              have hgek : k = cs.length := by simp at h14; omega
                              refine Ok.exit ?_
                              refine Ok.region ?_
                              refine OkO.move rfl rfl ?_
                              refine OkO.bin rfl rfl rfl (bin_add (by omega) (by omega)) ?_
                              refine OkO.assign rfl rfl ?_
                              refine OkO.nil ?_
                              refine ⟨ds.length - (i + 1), by omega, i + 1, rfl, hlt, rfl, Has.of (by kernel_rfl), rfl, gZ⟩
                      · -- no h11
                        have hge : i = ds.length := by simp at h11; omega
                        refine Ok.exit ?_
                        refine Ok.seq ?_
                        refine Ok.seq ?_
                        refine Ok.region ?_
                        refine OkO.move rfl rfl ?_
                        refine OkO.builtin rfl rfl rfl (bln (by kernel_rfl) (by first | assumption | rfl)) ?_
                        refine OkO.assign rfl rfl ?_
                        refine OkO.nil ?_
                        refine Ok.seq ?_
                        refine Ok.region ?_
                        refine OkO.move rfl rfl ?_
                        refine OkO.bin rfl rfl rfl (bin_gtr _ _) ?_
                        refine OkO.move rfl rfl ?_
                        refine OkO.split (d := 236) rfl (fun g19 => ?_) (fun g19 => ?_)
                        · -- true g19
                          have hpos : 0 < ds.length := by simpa using g19
                          obtain ⟨jb, jo, jcs, j1, j2, j3, j4⟩ := inl.at_ (ds.length - 1) [I (snowP g.melt ds (lowR ds) (lowT g).snow ds.length), I (snowP g.melt ds (highR ds) (highT g).snow ds.length)] (by rw [List.getElem?_map, snG, List.getElem?_map, List.getElem?_range (by omega)]; simp [Rg.c, show ds.length - 1 + 1 = ds.length from by omega])
                          have j5 : jcs[jo + 0]? = some (I (snowP g.melt ds (lowR ds) (lowT g).snow ds.length)) := seg_get j3 0 (by omega)
                          have j6 : jcs[jo + 1]? = some (I (snowP g.melt ds (highR ds) (highT g).snow ds.length)) := seg_get j3 1 (by omega)
                          have hbs := betw_snow hte ds.length
                          refine OkO.move rfl rfl ?_
                          refine OkO.move rfl rfl ?_
                          refine OkO.move rfl rfl ?_
                          refine OkO.bin rfl rfl rfl (bin_sub (by omega) (by omega)) ?_
                          refine OkO.index (sz := 2) (n := ds.length - 1) rfl rfl (congrArg (fun z => some (I z)) (by omega)) (by kernel_rfl) (by first | assumption | rfl | exact slAt_slice (by omega)) ?_ -- index ('Go.Operand.tmp', 238) ('Go.Operand.tmp', 240)
                          refine OkO.fieldAddr (o := 0) rfl (by kernel_rfl) rfl ?_
                          refine OkO.load rfl rfl (lda (n := 1) (by kernel_rfl) (by first | assumption | (simp (disch := first | omega | (simp only [hNw, hPt]; omega)) only [gn0, gn1, gn2, gn3, gn4, gn5, gp0, gno, gpo] <;> first | rfl | assumption)) (by first | rfl | assumption)) ?_
                          refine OkO.bin rfl rfl rfl (bin_lss _ _) ?_
                          refine OkO.move rfl rfl ?_
                          refine OkO.split (d := 245) rfl (fun g20 => ?_) (fun g20 => ?_)
                          · -- true g20
                            exact absurd (of_decide_eq_true g20) (by omega)
                          · -- false g20
                            refine OkO.move rfl rfl ?_
                            refine OkO.move rfl rfl ?_
                            refine OkO.move rfl rfl ?_
                            refine OkO.bin rfl rfl rfl (bin_sub (by omega) (by omega)) ?_
                            refine OkO.index (sz := 2) (n := ds.length - 1) rfl rfl (congrArg (fun z => some (I z)) (by omega)) (by kernel_rfl) (by first | assumption | rfl | exact slAt_slice (by omega)) ?_ -- index ('Go.Operand.tmp', 247) ('Go.Operand.tmp', 249)
                            refine OkO.fieldAddr (o := 1) rfl (by kernel_rfl) rfl ?_
                            refine OkO.load rfl rfl (lda (n := 1) (by kernel_rfl) (by first | assumption | (simp (disch := first | omega | (simp only [hNw, hPt]; omega)) only [gn0, gn1, gn2, gn3, gn4, gn5, gp0, gno, gpo] <;> first | rfl | assumption)) (by first | rfl | assumption)) ?_
                            refine OkO.bin rfl rfl rfl (bin_gtr _ _) ?_
                            refine OkO.pick (b := false) rfl rfl nofun (fun _ => rfl) ?_
                            refine OkO.move rfl rfl ?_
                            refine OkO.split (d := 255) rfl (fun g21 => ?_) (fun g21 => ?_)
                            · -- true g21
                              exact absurd (of_decide_eq_true g21) (by omega)
                            · -- false g21
                              refine OkO.move rfl rfl ?_
                              refine OkO.move rfl rfl ?_
                              refine OkO.move rfl rfl ?_
                              refine OkO.bin rfl rfl rfl (bin_sub (by omega) (by omega)) ?_
                              refine OkO.index (sz := 2) (n := ds.length - 1) rfl rfl (congrArg (fun z => some (I z)) (by omega)) (by kernel_rfl) (by first | assumption | rfl | exact slAt_slice (by omega)) ?_ -- index ('Go.Operand.tmp', 257) ('Go.Operand.tmp', 259)
                              refine OkO.fieldAddr (o := 0) rfl (by kernel_rfl) rfl ?_
                              refine OkO.load rfl rfl (lda (n := 1) (by kernel_rfl) (by first | assumption | (simp (disch := first | omega | (simp only [hNw, hPt]; omega)) only [gn0, gn1, gn2, gn3, gn4, gn5, gp0, gno, gpo] <;> first | rfl | assumption)) (by first | rfl | assumption)) ?_
                              refine OkO.bin rfl rfl rfl (bin_neq _ _) ?_
                              refine OkO.pick (b := false) rfl rfl nofun (fun _ => rfl) ?_
                              refine OkO.move rfl rfl ?_
                              refine OkO.split (d := 265) rfl (fun g22 => ?_) (fun g22 => ?_)
                              · -- true g22
                                exact absurd (of_decide_eq_true g22) (by omega)
                              · -- false g22
                                refine OkO.move rfl rfl ?_
                                refine OkO.move rfl rfl ?_
                                refine OkO.move rfl rfl ?_
                                refine OkO.bin rfl rfl rfl (bin_sub (by omega) (by omega)) ?_
                                refine OkO.index (sz := 2) (n := ds.length - 1) rfl rfl (congrArg (fun z => some (I z)) (by omega)) (by kernel_rfl) (by first | assumption | rfl | exact slAt_slice (by omega)) ?_ -- index ('Go.Operand.tmp', 267) ('Go.Operand.tmp', 269)
                                refine OkO.fieldAddr (o := 1) rfl (by kernel_rfl) rfl ?_
                                refine OkO.load rfl rfl (lda (n := 1) (by kernel_rfl) (by first | assumption | (simp (disch := first | omega | (simp only [hNw, hPt]; omega)) only [gn0, gn1, gn2, gn3, gn4, gn5, gp0, gno, gpo] <;> first | rfl | assumption)) (by first | rfl | assumption)) ?_
                                refine OkO.bin rfl rfl rfl (bin_neq _ _) ?_
                                refine OkO.pick (b := false) rfl rfl nofun (fun _ => rfl) ?_
                                refine OkO.pick (b := true) rfl rfl (fun _ => rfl) nofun ?_
                                refine OkO.nil ?_
                                refine Ok.cond rfl (fun h23 => ?_) (fun h23 => ?_)
                                · -- yes h23
                                  exact absurd (of_decide_eq_true h23) (by omega)
                                · -- no h23
                                  refine Ok.skip ?_
                                  refine Ok.seq ?_
                                  refine Ok.region ?_
                                  refine OkO.callV rfl rfl rfl rfl rfl (rfl) ?_ -- "sackung/sackunglaw02.wakes"
                                  refine OkO.assign rfl rfl ?_
                                  refine OkO.nil ?_
                                  refine Ok.ret ⟨.inr rfl, ?_⟩
                                  exact back_flat rfl rfl rfl (by rw [← hW]; exact gZ)
                        · -- false g19
                          refine OkO.skip rfl ?_
                          refine OkO.skip rfl ?_
                          refine OkO.skip rfl ?_
                          refine OkO.skip rfl ?_
                          refine OkO.skip rfl ?_
                          refine OkO.skip rfl ?_
                          refine OkO.skip rfl ?_
                          refine OkO.skip rfl ?_
                          refine OkO.skip rfl ?_
                          refine OkO.skip rfl ?_
                          refine OkO.skip rfl ?_
                          refine OkO.skip rfl ?_
                          refine OkO.skip rfl ?_
                          refine OkO.skip rfl ?_
                          refine OkO.skip rfl ?_
                          refine OkO.skip rfl ?_
                          refine OkO.skip rfl ?_
                          refine OkO.skip rfl ?_
                          refine OkO.skip rfl ?_
                          refine OkO.skip rfl ?_
                          refine OkO.skip rfl ?_
                          refine OkO.skip rfl ?_
                          refine OkO.skip rfl ?_
                          refine OkO.skip rfl ?_
                          refine OkO.skip rfl ?_
                          refine OkO.skip rfl ?_
                          refine OkO.skip rfl ?_
                          refine OkO.skip rfl ?_
                          refine OkO.skip rfl ?_
                          refine OkO.skip rfl ?_
                          refine OkO.skip rfl ?_
                          refine OkO.skip rfl ?_
                          refine OkO.skip rfl ?_
                          refine OkO.skip rfl ?_
                          refine OkO.skip rfl ?_
                          refine OkO.skip rfl ?_
                          refine OkO.skip rfl ?_
                          refine OkO.skip rfl ?_
                          refine OkO.pick (b := false) rfl rfl nofun (fun _ => rfl) ?_
                          refine OkO.nil ?_
                          refine Ok.condF rfl ?_
                          refine Ok.skip ?_
                          refine Ok.seq ?_
                          refine Ok.region ?_
                          refine OkO.callV rfl rfl rfl rfl rfl (rfl) ?_ -- "sackung/sackunglaw02.wakes"
                          refine OkO.assign rfl rfl ?_
                          refine OkO.nil ?_
                          refine Ok.ret ⟨.inr rfl, ?_⟩
                          exact back_flat rfl rfl rfl (by rw [← hW]; exact gZ)
theorem c9 (m : Nat) (cv dv wv : AV) (cs : List Cell) (g : Gr) (ds : List Day) (ws : List Int) (H : Heap) (hR : Row H cv 7 (cs.map Cell.c)) (hY : Row H dv 3 (ds.map Day.c)) (hWs : Row H wv 1 (ws.map fun w => [U w])) (hws : Upto 65535 ws) : RR (m + 10) (.fn 9 [.agg [cv, I g.slo, I g.shi, I g.klo, I g.khi, I g.melt], dv, wv]) H = some (.bool true, H) := by
  cases h : readyB cs g ds with
  | false => exact c9W m cv dv wv cs g ds ws H hR hY hWs hws h
  | true => exact c9K m cv dv wv cs g ds ws H hR hY hWs hws h
end
end Go.Ev
