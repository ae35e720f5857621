/-
  Functions of the program, reckoned by the evaluator: what each answers, and that it leaves what came in as it was (part 35).
-/
import Derived.Test.YtibplmibcbillaaV34
import Derived.Test.YtibplmibcbillaaV20
import Derived.Test.YtibplmibcbillaaV36
import Derived.Test.YtibplmibcbillaaV17
set_option maxRecDepth 100000
set_option maxHeartbeats 4000000
set_option linter.unusedSimpArgs false
set_option linter.unusedVariables false
namespace Go.Ev
open Go Go.Proofs
noncomputable section
theorem c11W (m : Nat) (cv dv wv xv : AV) (cs : List Cell) (g : Gr) (ds : List Day) (ws os : List Int) (y x : Int) (H : Heap) (hR : Row H cv 7 (cs.map Cell.c)) (hY : Row H dv 3 (ds.map Day.c)) (hWs : Row H wv 1 (ws.map fun w => [U w])) (hws : Upto 65535 ws) (hXs : Row H xv 1 (os.map fun w => [U w])) (hos : Upto 65535 os) (hy : 0 ≤ y ∧ y ≤ 255) (hx9 : 0 ≤ x ∧ x ≤ 65535) (hrd : readyB cs g ds = false) : RR (m + 11) (.fn 11 [.agg [cv, I g.slo, I g.shi, I g.klo, I g.khi, I g.melt], dv, wv, xv, .int .u8 y, .int .u16 x]) H = some (.bool true, H) := by
  refine (R_fn _ _ _ _ _).trans ?_
  refine fn_ok Try.func11 rfl rfl (by kernel_rfl) (by kernel_rfl) ?_
  obtain ⟨W, hW⟩ : ∃ W : Heap, W = ⟨H.t, H.next, H.next⟩ := ⟨_, rfl⟩
  have hg : ∀ n, W.get n = H.get n := fun n => by rw [hW]; rfl
  have hN : W.next = H.next := by rw [hW]
  have hE : ∀ G, Grow W G → Ext H G := fun G g => ⟨by rw [← hN]; exact g.next, fun n k => by rw [g.get n (by rw [hN]; exact k), hg]⟩
  have hG : Grow W W := Grow.refl (by rw [hW]; exact Nat.le_refl _)
  rw [← hW]
  have hlc : lenOf cv = some cs.length := by simpa using hR.len
  have pc := lpl hlc
  have hld : lenOf dv = some ds.length := by simpa using hY.len
  have hlw : lenOf wv = some ws.length := by simpa using hWs.len
  have hlx : lenOf xv = some os.length := by simpa using hXs.len
  refine Ok.seq ?_
  refine Ok.region ?_
  refine OkO.box rfl rfl ?_
  refine OkO.assign rfl rfl ?_
  refine OkO.nil ?_
  refine Ok.seq ?_
  refine Ok.seq ?_
  refine Ok.region ?_
  refine OkO.load rfl rfl (ldg (n := 6) (by kernel_rfl) (by first | assumption | (simp (disch := first | omega | (simp only [hNw, hPt]; omega)) only [gn0, gn1, gn2, gn3, gn4, gn5, gp0, gno, gpo] <;> first | rfl | assumption)) (by first | rfl | assumption)) ?_
  refine OkO.move rfl rfl ?_
  refine OkO.callV rfl rfl rfl rfl rfl (c43 (m + 5) cv dv cs g ds _ (hR.ext (hE _ (by (try dsimp only); repeat (first | exact hG | apply Grow.new | (refine Grow.put ?_ _ (by first | omega | (simp only [hNw, hPt]; omega))))))) (hY.ext (hE _ (by (try dsimp only); repeat (first | exact hG | apply Grow.new | (refine Grow.put ?_ _ (by first | omega | (simp only [hNw, hPt]; omega)))))))) ?_ -- "sackung/sackunglaw02.ready"
  refine OkO.un rfl rfl rfl ?_
  refine OkO.nil ?_
  refine Ok.cond rfl (fun h1 => ?_) (fun h1 => ?_)
  · -- yes h1
    refine Ok.seq ?_
    refine Ok.region ?_
    refine OkO.callV rfl rfl rfl rfl rfl (rfl) ?_ -- "sackung/sackunglaw02.wakes"
    refine OkO.assign rfl rfl ?_
    refine OkO.nil ?_
    refine Ok.ret ⟨.inr rfl, ?_⟩
    exact back_flat rfl (congrArg AV.bool rfl) rfl (by rw [← hW]; exact (by (try dsimp only); repeat (first | exact hG | apply Grow.new | (refine Grow.put ?_ _ (by first | omega | (simp only [hNw, hPt]; omega))))))
  · -- no h1
    exact absurd h1 (by simp [hrd])
theorem c11K (m : Nat) (cv dv wv xv : AV) (cs : List Cell) (g : Gr) (ds : List Day) (ws os : List Int) (y x : Int) (H : Heap) (hR : Row H cv 7 (cs.map Cell.c)) (hY : Row H dv 3 (ds.map Day.c)) (hWs : Row H wv 1 (ws.map fun w => [U w])) (hws : Upto 65535 ws) (hXs : Row H xv 1 (os.map fun w => [U w])) (hos : Upto 65535 os) (hy : 0 ≤ y ∧ y ≤ 255) (hx9 : 0 ≤ x ∧ x ≤ 65535) (hrd : readyB cs g ds = true) : RR (m + 11) (.fn 11 [.agg [cv, I g.slo, I g.shi, I g.klo, I g.khi, I g.melt], dv, wv, xv, .int .u8 y, .int .u16 x]) H = some (.bool true, H) := by
  refine (R_fn _ _ _ _ _).trans ?_
  refine fn_ok Try.func11 rfl rfl (by kernel_rfl) (by kernel_rfl) ?_
  obtain ⟨W, hW⟩ : ∃ W : Heap, W = ⟨H.t, H.next, H.next⟩ := ⟨_, rfl⟩
  have hg : ∀ n, W.get n = H.get n := fun n => by rw [hW]; rfl
  have hN : W.next = H.next := by rw [hW]
  have hE : ∀ G, Grow W G → Ext H G := fun G g => ⟨by rw [← hN]; exact g.next, fun n k => by rw [g.get n (by rw [hN]; exact k), hg]⟩
  have hG : Grow W W := Grow.refl (by rw [hW]; exact Nat.le_refl _)
  rw [← hW]
  have hlc : lenOf cv = some cs.length := by simpa using hR.len
  have pc := lpl hlc
  have hld : lenOf dv = some ds.length := by simpa using hY.len
  have hlw : lenOf wv = some ws.length := by simpa using hWs.len
  have hlx : lenOf xv = some os.length := by simpa using hXs.len
  have hd0 := ready_ok hrd
  have hGF := gf_of hd0
  have hg8 := hGF.n8
  have hg30 := hGF.d30
  obtain ⟨k, hkq, hkl⟩ : ∃ k : Nat, y % (cs.length : Int) = (k : Int) ∧ k < cs.length := ⟨(y % (cs.length : Int)).toNat, by have := Int.emod_nonneg y (b := (cs.length : Int)) (by omega); omega, by have := Int.emod_lt_of_pos y (b := (cs.length : Int)) (by omega); omega⟩
  have hxk := hGF.lim _ (List.getElem_mem hkl)
  unfold Cell.lim at hxk
  refine Ok.seq ?_
  refine Ok.region ?_
  refine OkO.box rfl rfl ?_
  refine OkO.assign rfl rfl ?_
  refine OkO.nil ?_
  refine Ok.seq ?_
  refine Ok.seq ?_
  refine Ok.region ?_
  refine OkO.load rfl rfl (ldg (n := 6) (by kernel_rfl) (by first | assumption | (simp (disch := first | omega | (simp only [hNw, hPt]; omega)) only [gn0, gn1, gn2, gn3, gn4, gn5, gp0, gno, gpo] <;> first | rfl | assumption)) (by first | rfl | assumption)) ?_
  refine OkO.move rfl rfl ?_
  refine OkO.callV rfl rfl rfl rfl rfl (c43 (m + 5) cv dv cs g ds _ (hR.ext (hE _ (by (try dsimp only); repeat (first | exact hG | apply Grow.new | (refine Grow.put ?_ _ (by first | omega | (simp only [hNw, hPt]; omega))))))) (hY.ext (hE _ (by (try dsimp only); repeat (first | exact hG | apply Grow.new | (refine Grow.put ?_ _ (by first | omega | (simp only [hNw, hPt]; omega)))))))) ?_ -- "sackung/sackunglaw02.ready"
  refine OkO.un rfl rfl rfl ?_
  refine OkO.nil ?_
  refine Ok.cond rfl (fun h1 => ?_) (fun h1 => ?_)
  · -- yes h1
    exact absurd h1 (by simp [hrd])
  · -- no h1
    refine Ok.skip ?_
    refine Ok.seq ?_
    refine Ok.drawn [(0, true, []), (1, true, []), (2, true, []), (4, true, []), (5, true, []), (6, true, []), (8, true, [4, 0]), (9, true, [4, 0]), (3, false, [4]), (7, false, [0]), (10, false, [4]), (11, false, [])] (by kernel_rfl) ?_
    refine OkP.step ?_
    refine OkO.load rfl rfl (ldg (n := 6) (by kernel_rfl) (by first | assumption | (simp (disch := first | omega | (simp only [hNw, hPt]; omega)) only [gn0, gn1, gn2, gn3, gn4, gn5, gp0, gno, gpo] <;> first | rfl | assumption)) (by first | rfl | assumption)) ?_
    refine OkO.nil ⟨rfl, ?_⟩
    refine OkP.step ?_
    refine OkO.move rfl rfl ?_
    refine OkO.nil ⟨rfl, ?_⟩
    refine OkP.step ?_
    refine OkO.move rfl rfl ?_
    refine OkO.nil ⟨rfl, ?_⟩
    refine OkP.step ?_
    refine OkO.load rfl rfl (ldg (n := 6) (by kernel_rfl) (by first | assumption | (simp (disch := first | omega | (simp only [hNw, hPt]; omega)) only [gn0, gn1, gn2, gn3, gn4, gn5, gp0, gno, gpo] <;> first | rfl | assumption)) (by first | rfl | assumption)) ?_
    refine OkO.nil ⟨rfl, ?_⟩
    refine OkP.step ?_
    refine OkO.move rfl rfl ?_
    refine OkO.nil ⟨rfl, ?_⟩
    refine OkP.step ?_
    refine OkO.move rfl rfl ?_
    refine OkO.nil ⟨rfl, ?_⟩
    refine OkP.step ?_
    refine OkO.alloc (z := [.int .i64 0, .int .i64 0, .nils, .nils]) rfl (by kernel_rfl) ?_
    refine OkO.nil ⟨(sco (sld rfl rfl (ldg (n := 6) (by kernel_rfl) (by first | assumption | (simp (disch := first | omega | (simp only [hNw, hPt]; omega)) only [gn0, gn1, gn2, gn3, gn4, gn5, gp0, gno, gpo] <;> first | rfl | assumption)) (by first | rfl | assumption)) rfl (eqr _ (by first | rfl | exact lpl (by assumption) | (simp [AV.plain, AV.plains, AV.cells, pc])))) (sco (sld rfl rfl (ldg (n := 6) (by kernel_rfl) (by first | assumption | (simp (disch := first | omega | (simp only [hNw, hPt]; omega)) only [gn0, gn1, gn2, gn3, gn4, gn5, gp0, gno, gpo] <;> first | rfl | assumption)) (by first | rfl | assumption)) rfl (eqr _ (by first | rfl | exact lpl (by assumption) | (simp [AV.plain, AV.plains, AV.cells, pc])))) rfl)), ?_⟩
    refine OkP.step ?_
    refine OkO.alloc (z := [.int .i64 0, .int .i64 0, .nils, .nils]) rfl (by kernel_rfl) ?_
    refine OkO.nil ⟨(sco (sld rfl rfl (ldg (n := 6) (by kernel_rfl) (by first | assumption | (simp (disch := first | omega | (simp only [hNw, hPt]; omega)) only [gn0, gn1, gn2, gn3, gn4, gn5, gp0, gno, gpo] <;> first | rfl | assumption)) (by first | rfl | assumption)) rfl (eqr _ (by first | rfl | exact lpl (by assumption) | (simp [AV.plain, AV.plains, AV.cells, pc])))) (sco (sld rfl rfl (ldg (n := 6) (by kernel_rfl) (by first | assumption | (simp (disch := first | omega | (simp only [hNw, hPt]; omega)) only [gn0, gn1, gn2, gn3, gn4, gn5, gp0, gno, gpo] <;> first | rfl | assumption)) (by first | rfl | assumption)) rfl (eqr _ (by first | rfl | exact lpl (by assumption) | (simp [AV.plain, AV.plains, AV.cells, pc])))) rfl)), ?_⟩
    refine OkP.step ?_
    refine OkO.callE rfl rfl rfl rfl rfl (c44F (m + 8) cv dv wv cs g ds ws _ (hR.ext (hE _ (by (try dsimp only); repeat (first | exact hG | apply Grow.new | (refine Grow.put ?_ _ (by first | omega | (simp only [hNw, hPt]; omega))))))) (hY.ext (hE _ (by (try dsimp only); repeat (first | exact hG | apply Grow.new | (refine Grow.put ?_ _ (by first | omega | (simp only [hNw, hPt]; omega))))))) (hWs.ext (hE _ (by (try dsimp only); repeat (first | exact hG | apply Grow.new | (refine Grow.put ?_ _ (by first | omega | (simp only [hNw, hPt]; omega))))))) hws hGF.lim hGF.dlim hGF.n8.2 hGF.d30 hGF.snow hGF.soak) ?_ -- "sackung/sackunglaw02.Picked"
    rintro vP HP ⟨lvP, rvP, rfl, qP, FP, FR, alP, arP⟩
    have gP : Grow W HP := Grow.ret (by (try dsimp only); repeat (first | exact hG | apply Grow.new | (refine Grow.put ?_ _ (by first | omega | (simp only [hNw, hPt]; omega))))) qP
    have nP : W.next + 3 ≤ HP.next := by have := qP.ext.next; first | omega | (simp only [hNw] at this; omega)
    have w9P : HP.get (W.next) = some (.cells [cv, I g.slo, I g.shi, I g.klo, I g.khi, I g.melt] 26) := by rw [qP.ext.get _ (by first | omega | (simp only [hNw]; omega))]; first | assumption | exact gn1 _ _ _ | exact gn2 _ _ _ | exact gn0 _ _ _ | (simp (disch := first | omega | (simp only [hNw, hPt]; omega)) only [gn0, gn1, gn2, gn3, gn4, gn5, gp0, gno, gpo] <;> first | rfl | assumption)
    have z1P : HP.get (W.next + 1) = some (.cells [I 0, I 0, .nils, .nils] 30) := by rw [qP.ext.get _ (by first | omega | (simp only [hNw]; omega))]; first | assumption | exact gn1 _ _ _ | exact gn2 _ _ _ | exact gn0 _ _ _ | (simp (disch := first | omega | (simp only [hNw, hPt]; omega)) only [gn0, gn1, gn2, gn3, gn4, gn5, gp0, gno, gpo] <;> first | rfl | assumption)
    have z2P : HP.get (W.next + 2) = some (.cells [I 0, I 0, .nils, .nils] 30) := by rw [qP.ext.get _ (by first | omega | (simp only [hNw]; omega))]; first | assumption | exact gn1 _ _ _ | exact gn2 _ _ _ | exact gn0 _ _ _ | (simp (disch := first | omega | (simp only [hNw, hPt]; omega)) only [gn0, gn1, gn2, gn3, gn4, gn5, gp0, gno, gpo] <;> first | rfl | assumption)
    have aP : (HP.get W.next).bind AObj.cs = some [cv, I g.slo, I g.shi, I g.klo, I g.khi, I g.melt] := by rw [w9P]; rfl
    have hte := pick_ok ws hd0
    generalize pickT g ws = t at *
    generalize pickL cs ws cs.length = lvs at *
    generalize pickR cs ds ws ds.length = rain at *
    have hF := fit_of hte
    have hfl := hF.ll
    have hfr := hF.rl
    have hdt := hF.d30
    have FP : Fr (W.next + 3) HP.next HP (fun X => Ints X lvP lvs) := FP
    have FR : Fr (W.next + 3) HP.next HP (fun X => Ints X rvP rain) := FR
    refine OkO.nil ⟨(sco (sld rfl rfl (ldg (n := 6) (by kernel_rfl) (by first | assumption | (simp (disch := first | omega | (simp only [hNw, hPt]; omega)) only [gn0, gn1, gn2, gn3, gn4, gn5, gp0, gno, gpo] <;> first | rfl | assumption)) (by first | rfl | assumption)) rfl (eqr _ (by first | rfl | exact lpl (by assumption) | (simp [AV.plain, AV.plains, AV.cells, pc])))) rfl), ?_⟩
    refine OkP.step ?_
    refine OkO.callE rfl rfl rfl rfl rfl (c44F (m + 8) cv dv xv cs g ds os _ (hR.ext (hE _ gP)) (hY.ext (hE _ gP)) (hXs.ext (hE _ gP)) hos hGF.lim hGF.dlim hGF.n8.2 hGF.d30 hGF.snow hGF.soak) ?_ -- "sackung/sackunglaw02.Picked"
    rintro vO HO ⟨lvO, rvO, rfl, qO, GP, GQ, alO, arO⟩
    have gO : Grow W HO := Grow.ret gP qO
    have nO : HP.next ≤ HO.next := qO.ext.next
    have w9O : HO.get (W.next) = some (.cells [cv, I g.slo, I g.shi, I g.klo, I g.khi, I g.melt] 26) := by rw [qO.ext.get _ (by first | omega | (simp only [hNw]; omega))]; first | assumption | exact gn1 _ _ _ | exact gn2 _ _ _ | exact gn0 _ _ _ | (simp (disch := first | omega | (simp only [hNw, hPt]; omega)) only [gn0, gn1, gn2, gn3, gn4, gn5, gp0, gno, gpo] <;> first | rfl | assumption)
    have z1O : HO.get (W.next + 1) = some (.cells [I 0, I 0, .nils, .nils] 30) := by rw [qO.ext.get _ (by first | omega | (simp only [hNw]; omega))]; first | assumption | exact gn1 _ _ _ | exact gn2 _ _ _ | exact gn0 _ _ _ | (simp (disch := first | omega | (simp only [hNw, hPt]; omega)) only [gn0, gn1, gn2, gn3, gn4, gn5, gp0, gno, gpo] <;> first | rfl | assumption)
    have z2O : HO.get (W.next + 2) = some (.cells [I 0, I 0, .nils, .nils] 30) := by rw [qO.ext.get _ (by first | omega | (simp only [hNw]; omega))]; first | assumption | exact gn1 _ _ _ | exact gn2 _ _ _ | exact gn0 _ _ _ | (simp (disch := first | omega | (simp only [hNw, hPt]; omega)) only [gn0, gn1, gn2, gn3, gn4, gn5, gp0, gno, gpo] <;> first | rfl | assumption)
    have aO : (HO.get W.next).bind AObj.cs = some [cv, I g.slo, I g.shi, I g.klo, I g.khi, I g.melt] := by rw [w9O]; rfl
    have hte2 := pick_ok os hd0
    generalize pickT g os = o at *
    generalize pickL cs os cs.length = lvs2 at *
    generalize pickR cs ds os ds.length = rain2 at *
    have hF2 := fit_of hte2
    have hfl2 := hF2.ll
    have hfr2 := hF2.rl
    have LP := (FP HP (Nat.le_refl _) (fun _ _ _ => rfl)).ext qO.ext
    have RP := (FR HP (Nat.le_refl _) (fun _ _ _ => rfl)).ext qO.ext
    have lO : Ints HO lvO lvs2 := GP HO (Nat.le_refl _) (fun _ _ _ => rfl)
    have rO : Ints HO rvO rain2 := GQ HO (Nat.le_refl _) (fun _ _ _ => rfl)
    have hllP : lenOf lvP = some lvs.length := by simpa using LP.len
    have hlrP : lenOf rvP = some rain.length := by simpa using RP.len
    have hllO : lenOf lvO = some lvs2.length := by simpa using lO.len
    have hlrO : lenOf rvO = some rain2.length := by simpa using rO.len
    have plP := lpl hllP
    have prP := lpl hlrP
    have plO := lpl hllO
    have prO := lpl hlrO
    have hmaxok := max_ok hte hte2
    have hFM := fit_of hmaxok
    refine OkO.nil ⟨(sco (sld rfl rfl (ldg (n := 6) (by kernel_rfl) (by first | assumption | (simp (disch := first | omega | (simp only [hNw, hPt]; omega)) only [gn0, gn1, gn2, gn3, gn4, gn5, gp0, gno, gpo] <;> first | rfl | assumption)) (by first | rfl | assumption)) rfl (eqr _ (by first | rfl | exact lpl (by assumption) | (simp [AV.plain, AV.plains, AV.cells, pc, plP, prP, plO, prO])))) rfl), ?_⟩
    refine OkP.step ?_
    refine OkO.store rfl rfl rfl (stc (n := 4) (ag := true) (l := [I t.snow, I t.soak, lvP, rvP]) (by kernel_rfl) (by first | assumption | simp (disch := first | omega | (simp only [hNw, hPt]; omega)) only [gn0, gn1, gn2, gn3, gn4, gn5, gp0, gno, gpo] <;> first | rfl | assumption) rfl (by show atoms [I t.snow, I t.soak, lvP, rvP] = true; simp [atoms, alP, arP, show ∀ z, (I z).atom = true from fun _ => rfl]) rfl) ?_
    refine OkO.nil ⟨(sco (sld rfl rfl (ldg (n := 6) (by kernel_rfl) (by first | assumption | (simp (disch := first | omega | (simp only [hNw, hPt]; omega)) only [gn0, gn1, gn2, gn3, gn4, gn5, gp0, gno, gpo] <;> first | rfl | assumption)) (by first | rfl | assumption)) rfl (eqr _ (by first | rfl | exact lpl (by assumption) | (simp [AV.plain, AV.plains, AV.cells, pc, plP, prP, plO, prO])))) rfl), ?_⟩
    refine OkP.step ?_
    refine OkO.store rfl rfl rfl (stc (n := 4) (ag := true) (l := [I o.snow, I o.soak, lvO, rvO]) (by kernel_rfl) (by first | assumption | simp (disch := first | omega | (simp only [hNw, hPt]; omega)) only [gn0, gn1, gn2, gn3, gn4, gn5, gp0, gno, gpo] <;> first | rfl | assumption) rfl (by show atoms [I o.snow, I o.soak, lvO, rvO] = true; simp [atoms, alO, arO, show ∀ z, (I z).atom = true from fun _ => rfl]) rfl) ?_
    refine OkO.nil ⟨rfl, ?_⟩
    refine OkP.nil ?_
    refine Ok.seq ?_
    refine Ok.region ?_
    refine OkO.fieldAddr (o := 0) rfl (by kernel_rfl) rfl ?_
    refine OkO.load rfl rfl (lda (n := 1) (by kernel_rfl) (by first | assumption | (simp (disch := first | omega | (simp only [hNw, hPt]; omega)) only [gn0, gn1, gn2, gn3, gn4, gn5, gp0, gno, gpo] <;> first | rfl | assumption)) (by first | rfl | assumption)) ?_
    refine OkO.fieldAddr (o := 0) rfl (by kernel_rfl) rfl ?_
    refine OkO.load rfl rfl (lda (n := 1) (by kernel_rfl) (by first | assumption | (simp (disch := first | omega | (simp only [hNw, hPt]; omega)) only [gn0, gn1, gn2, gn3, gn4, gn5, gp0, gno, gpo] <;> first | rfl | assumption)) (by first | rfl | assumption)) ?_
    refine OkO.builtin rfl rfl rfl (builtin_max2 _ _) ?_
    refine OkO.fieldAddr (o := 1) rfl (by kernel_rfl) rfl ?_
    refine OkO.load rfl rfl (lda (n := 1) (by kernel_rfl) (by first | assumption | (simp (disch := first | omega | (simp only [hNw, hPt]; omega)) only [gn0, gn1, gn2, gn3, gn4, gn5, gp0, gno, gpo] <;> first | rfl | assumption)) (by first | rfl | assumption)) ?_
    refine OkO.fieldAddr (o := 1) rfl (by kernel_rfl) rfl ?_
    refine OkO.load rfl rfl (lda (n := 1) (by kernel_rfl) (by first | assumption | (simp (disch := first | omega | (simp only [hNw, hPt]; omega)) only [gn0, gn1, gn2, gn3, gn4, gn5, gp0, gno, gpo] <;> first | rfl | assumption)) (by first | rfl | assumption)) ?_
    refine OkO.builtin rfl rfl rfl (builtin_max2 _ _) ?_
    refine OkO.build (z := [.int .i64 0, .int .i64 0, .nils, .nils]) (pl := [(0, 1), (1, 1), (2, 1), (3, 1)]) rfl (by kernel_rfl) rfl rfl ?_
    refine OkO.alloc (z := [.int .i64 0, .int .i64 0, .nils, .nils]) rfl (by kernel_rfl) ?_
    refine OkO.store rfl rfl rfl (stc (n := 4) (ag := true) (by kernel_rfl) (by first | assumption | (simp (disch := first | omega | (simp only [hNw, hPt]; omega)) only [gn0, gn1, gn2, gn3, gn4, gn5, gp0, gno, gpo] <;> first | rfl | assumption)) rfl rfl (by first | rfl | exact spl_set _ _ _ (by first | assumption | (simp; omega)))) ?_
    refine OkO.nil ?_
    refine Ok.seq ?_
    refine Ok.seq ?_
    refine Ok.region ?_
    refine OkO.assign rfl rfl ?_
    refine OkO.nil ?_
    refine Ok.block ?_
    refine Ok.loop (fun n s => ∃ (i : Nat) (vl vr : AV), n = lvs.length - i ∧ i ≤ lvs.length ∧ Mine (HO.next + 1) s.H vl 3 1 (((maxL lvs lvs2).take i).map I) ∧ Mine (HO.next + 1) s.H vr 3 1 (((maxL rain rain2).take 0).map I) ∧ (∀ b m m', vl = .opn b m → vr ≠ .opn b m') ∧ Has 8 [(1, dv), (4, .int .u8 y), (5, .int .u16 x), (6, .ptr W.next 0), (13, .ptr (W.next + 1) 0), (14, .ptr (W.next + 2) 0), (15, .ptr HO.next 0), (16, I (i : Int))] s.T ∧ s.D = [] ∧ Grow W s.H ∧ (∀ n, W.next + 3 ≤ n → n < HO.next → s.H.get n = HO.get n) ∧ s.H.get W.next = some (.cells [cv, I g.slo, I g.shi, I g.klo, I g.khi, I g.melt] 26) ∧ s.H.get (W.next + 1) = some (.cells [I t.snow, I t.soak, lvP, rvP] 30) ∧ s.H.get (W.next + 2) = some (.cells [I o.snow, I o.soak, lvO, rvO] 30) ∧ s.H.get HO.next = some (.cells [I (max t.snow o.snow), I (max t.soak o.soak), vl, vr] 30) ∧ HO.next + 1 ≤ s.H.next) (lvs.length) (by unfold loopFuel; omega)
      ⟨0, .nils, .nils, rfl, Nat.zero_le _, Mine.nil _ _ _ _, Mine.nil _ _ _ _, nofun, Has.of (by kernel_rfl), rfl, (by (try dsimp only); repeat (first | (first | exact gO | exact hG) | apply Grow.new | (refine Grow.put ?_ _ (by first | omega | (simp only [hNw, hPt]; omega))))), fun j h1 h2 => (by (try simp only [hNw, hPt, Nat.add_assoc, Nat.reduceAdd]); simp (disch := first | omega | (simp only [hNw, hPt]; omega)) only [gn0, gn1, gn2, gn3, gn4, gn5, gp0, gno, gpo]), (by (try simp only [hNw, hPt, Nat.add_assoc, Nat.reduceAdd]); (simp (disch := first | omega | (simp only [hNw, hPt]; omega)) only [gn0, gn1, gn2, gn3, gn4, gn5, gp0, gno, gpo] <;> first | rfl | assumption)), (by (try simp only [hNw, hPt, Nat.add_assoc, Nat.reduceAdd]); (simp (disch := first | omega | (simp only [hNw, hPt]; omega)) only [gn0, gn1, gn2, gn3, gn4, gn5, gp0, gno, gpo] <;> first | rfl | assumption)), (by (try simp only [hNw, hPt, Nat.add_assoc, Nat.reduceAdd]); (simp (disch := first | omega | (simp only [hNw, hPt]; omega)) only [gn0, gn1, gn2, gn3, gn4, gn5, gp0, gno, gpo] <;> first | rfl | assumption)), by first | exact gp0 _ _ _ | (simp (disch := first | omega | (simp only [hNw, hPt]; omega)) only [gn0, gn1, gn2, gn3, gn4, gn5, gp0, gno, gpo] <;> first | rfl | assumption), by simp only [hNw, hPt]; omega⟩ ?_
    rintro n ⟨T, D, G⟩ ⟨i, vl, vr, hn, hi, hml, hmr, hsep, ⟨f, hT⟩, hD, hg, hJ, f9, f0, f1, f3, hb4⟩
    dsimp only at *
    subst hT hD
    have hgn := hg.next
    have ea : (G.get W.next).bind AObj.cs = some [cv, I g.slo, I g.shi, I g.klo, I g.khi, I g.melt] := by rw [f9]; rfl
    have e0 : (G.get (W.next + 1)).bind AObj.cs = some [I t.snow, I t.soak, lvP, rvP] := by rw [f0]; rfl
    have e1 : (G.get (W.next + 2)).bind AObj.cs = some [I o.snow, I o.soak, lvO, rvO] := by rw [f1]; rfl
    have e3 : (G.get HO.next).bind AObj.cs = some [I (max t.snow o.snow), I (max t.soak o.soak), vl, vr] := by rw [f3]; rfl
    obtain ⟨ll, hll, _⟩ := hml.len
    obtain ⟨lr, hlr, _⟩ := hmr.len
    have LPG : Ints G lvP lvs := FP G (by omega) (fun n a b => (hJ n a (by omega)).trans (qO.ext.get n b))
    have RPG : Ints G rvP rain := FR G (by omega) (fun n a b => (hJ n a (by omega)).trans (qO.ext.get n b))
    have LOG : Ints G lvO lvs2 := GP G (by omega) (fun n a b => hJ n (by omega) b)
    have ROG : Ints G rvO rain2 := GQ G (by omega) (fun n a b => hJ n (by omega) b)
    refine Ok.seq ?_
    refine Ok.seq ?_
    refine Ok.region ?_
    refine OkO.move rfl rfl ?_
    refine OkO.fieldAddr (o := 2) rfl (by kernel_rfl) rfl ?_
    refine OkO.load rfl rfl (lda (n := 1) (by kernel_rfl) (by first | assumption | (simp (disch := first | omega | (simp only [hNw, hPt]; omega)) only [gn0, gn1, gn2, gn3, gn4, gn5, gp0, gno, gpo] <;> first | rfl | assumption)) (by first | rfl | assumption)) ?_
    refine OkO.builtin rfl rfl rfl (bln (by kernel_rfl) (by first | assumption | rfl)) ?_
    refine OkO.bin rfl rfl rfl (bin_lss _ _) ?_
    refine OkO.nil ?_
    refine Ok.cond rfl (fun h2 => ?_) (fun h2 => ?_)
    · -- yes h2
      have hlt : i < lvs.length := by simpa using h2
      have hlt2 : i < lvs2.length := by omega
      obtain ⟨pb, po, pcs, p1, p2, p3, p4⟩ := LPG.at_ i [I lvs[i]] (by simp [hlt])
      have p5 := seg_one p3
      obtain ⟨ob, oo, ocs, o1, o2, o3, o4⟩ := LOG.at_ i [I lvs2[i]] (by simp [hlt2])
      have o5 := seg_one o3
      refine Ok.skip ?_
      refine Ok.seq ?_
      refine Ok.block ?_
      refine Ok.drawn [(0, true, []), (1, true, []), (2, true, []), (3, true, []), (4, true, []), (5, true, []), (6, true, []), (7, true, []), (8, true, []), (9, true, []), (10, true, []), (11, true, []), (12, false, [8, 3, 1]), (13, true, [11, 8, 6, 3, 1]), (14, false, [11, 8, 6, 3]), (15, true, []), (16, false, [])] (by kernel_rfl) ?_
      refine OkP.step ?_
      refine OkO.fieldAddr (o := 2) rfl (by kernel_rfl) rfl ?_
      refine OkO.nil ⟨rfl, ?_⟩
      refine OkP.step ?_
      refine OkO.load rfl rfl (lda (n := 1) (by kernel_rfl) (by first | assumption | (simp (disch := first | omega | (simp only [hNw, hPt]; omega)) only [gn0, gn1, gn2, gn3, gn4, gn5, gp0, gno, gpo] <;> first | rfl | assumption)) (by first | rfl | assumption)) ?_
      refine OkO.nil ⟨rfl, ?_⟩
      refine OkP.step ?_
      refine OkO.fieldAddr (o := 2) rfl (by kernel_rfl) rfl ?_
      refine OkO.nil ⟨rfl, ?_⟩
      refine OkP.step ?_
      refine OkO.load rfl rfl (lda (n := 1) (by kernel_rfl) (by first | assumption | (simp (disch := first | omega | (simp only [hNw, hPt]; omega)) only [gn0, gn1, gn2, gn3, gn4, gn5, gp0, gno, gpo] <;> first | rfl | assumption)) (by first | rfl | assumption)) ?_
      refine OkO.nil ⟨rfl, ?_⟩
      refine OkP.step ?_
      refine OkO.move rfl rfl ?_
      refine OkO.nil ⟨rfl, ?_⟩
      refine OkP.step ?_
      refine OkO.index (sz := 1) (n := i) rfl rfl rfl (by kernel_rfl) (by first | assumption | rfl | exact slAt_slice (by omega)) ?_ -- index ('Go.Operand.tmp', 68) ('Go.Operand.tmp', 69)
      refine OkO.nil ⟨rfl, ?_⟩
      refine OkP.step ?_
      refine OkO.load rfl rfl (lda (n := 1) (by kernel_rfl) (by first | assumption | (simp (disch := first | omega | (simp only [hNw, hPt]; omega)) only [gn0, gn1, gn2, gn3, gn4, gn5, gp0, gno, gpo] <;> first | rfl | assumption)) (by first | rfl | assumption)) ?_
      refine OkO.nil ⟨rfl, ?_⟩
      refine OkP.step ?_
      refine OkO.fieldAddr (o := 2) rfl (by kernel_rfl) rfl ?_
      refine OkO.nil ⟨rfl, ?_⟩
      refine OkP.step ?_
      refine OkO.load rfl rfl (lda (n := 1) (by kernel_rfl) (by first | assumption | (simp (disch := first | omega | (simp only [hNw, hPt]; omega)) only [gn0, gn1, gn2, gn3, gn4, gn5, gp0, gno, gpo] <;> first | rfl | assumption)) (by first | rfl | assumption)) ?_
      refine OkO.nil ⟨rfl, ?_⟩
      refine OkP.step ?_
      refine OkO.move rfl rfl ?_
      refine OkO.nil ⟨rfl, ?_⟩
      refine OkP.step ?_
      refine OkO.index (sz := 1) (n := i) rfl rfl rfl (by kernel_rfl) (by first | assumption | rfl | exact slAt_slice (by omega)) ?_ -- index ('Go.Operand.tmp', 73) ('Go.Operand.tmp', 74)
      refine OkO.nil ⟨rfl, ?_⟩
      refine OkP.step ?_
      refine OkO.load rfl rfl (lda (n := 1) (by kernel_rfl) (by first | assumption | (simp (disch := first | omega | (simp only [hNw, hPt]; omega)) only [gn0, gn1, gn2, gn3, gn4, gn5, gp0, gno, gpo] <;> first | rfl | assumption)) (by first | rfl | assumption)) ?_
      refine OkO.nil ⟨rfl, ?_⟩
      refine OkP.step ?_
      refine OkO.builtin rfl rfl rfl (builtin_max2 _ _) ?_
      refine OkO.nil ⟨(sco (sld rfl rfl (lda (n := 1) (by kernel_rfl) (by first | assumption | (simp (disch := first | omega | (simp only [hNw, hPt]; omega)) only [gn0, gn1, gn2, gn3, gn4, gn5, gp0, gno, gpo] <;> first | rfl | assumption)) (by first | rfl | assumption)) rfl (eqr _ (by first | rfl | exact lpl (by assumption) | (simp [AV.plain, AV.plains, AV.cells, pc, plP, prP, plO, prO])))) (sco (sld rfl rfl (lda (n := 1) (by kernel_rfl) (by first | assumption | (simp (disch := first | omega | (simp only [hNw, hPt]; omega)) only [gn0, gn1, gn2, gn3, gn4, gn5, gp0, gno, gpo] <;> first | rfl | assumption)) (by first | rfl | assumption)) rfl (eqr _ (by first | rfl | exact lpl (by assumption) | (simp [AV.plain, AV.plains, AV.cells, pc, plP, prP, plO, prO])))) (sco (sld rfl rfl (lda (n := 1) (by kernel_rfl) (by first | assumption | (simp (disch := first | omega | (simp only [hNw, hPt]; omega)) only [gn0, gn1, gn2, gn3, gn4, gn5, gp0, gno, gpo] <;> first | rfl | assumption)) (by first | rfl | assumption)) rfl (eqr _ (by first | rfl | exact lpl (by assumption) | (simp [AV.plain, AV.plains, AV.cells, pc, plP, prP, plO, prO])))) rfl))), ?_⟩
      refine OkP.step ?_
      refine OkO.buildSlice (el := 3) (sz := 1) (z := [.int .i64 0]) rfl (by kernel_rfl) (by decide) rfl rfl ?_
      refine OkO.nil ⟨(sco (sld rfl rfl (lda (n := 1) (by kernel_rfl) (by first | assumption | (simp (disch := first | omega | (simp only [hNw, hPt]; omega)) only [gn0, gn1, gn2, gn3, gn4, gn5, gp0, gno, gpo] <;> first | rfl | assumption)) (by first | rfl | assumption)) rfl (eqr _ (by first | rfl | exact lpl (by assumption) | (simp [AV.plain, AV.plains, AV.cells, pc, plP, prP, plO, prO])))) (sco (sld rfl rfl (lda (n := 1) (by kernel_rfl) (by first | assumption | (simp (disch := first | omega | (simp only [hNw, hPt]; omega)) only [gn0, gn1, gn2, gn3, gn4, gn5, gp0, gno, gpo] <;> first | rfl | assumption)) (by first | rfl | assumption)) rfl (eqr _ (by first | rfl | exact lpl (by assumption) | (simp [AV.plain, AV.plains, AV.cells, pc, plP, prP, plO, prO])))) (sco (sld rfl rfl (lda (n := 1) (by kernel_rfl) (by first | assumption | (simp (disch := first | omega | (simp only [hNw, hPt]; omega)) only [gn0, gn1, gn2, gn3, gn4, gn5, gp0, gno, gpo] <;> first | rfl | assumption)) (by first | rfl | assumption)) rfl (eqr _ (by first | rfl | exact lpl (by assumption) | (simp [AV.plain, AV.plains, AV.cells, pc, plP, prP, plO, prO])))) (sco (sld rfl rfl (lda (n := 1) (by kernel_rfl) (by first | assumption | (simp (disch := first | omega | (simp only [hNw, hPt]; omega)) only [gn0, gn1, gn2, gn3, gn4, gn5, gp0, gno, gpo] <;> first | rfl | assumption)) (by first | rfl | assumption)) rfl (eqr _ (by first | rfl | exact lpl (by assumption) | (simp [AV.plain, AV.plains, AV.cells, pc, plP, prP, plO, prO])))) (sco (sld rfl rfl (lda (n := 1) (by kernel_rfl) (by first | assumption | (simp (disch := first | omega | (simp only [hNw, hPt]; omega)) only [gn0, gn1, gn2, gn3, gn4, gn5, gp0, gno, gpo] <;> first | rfl | assumption)) (by first | rfl | assumption)) rfl (eqr _ (by first | rfl | exact lpl (by assumption) | (simp [AV.plain, AV.plains, AV.cells, pc, plP, prP, plO, prO])))) rfl))))), ?_⟩
      refine OkP.step ?_
      refine OkO.builtinE rfl rfl rfl (Mine.app2 (W := W) (k0 := HO.next + 1) (sz := 1) (by_ := 8) (e := 3) (n := 1) (new := [I (max lvs[i] lvs2[i])]) (hml.to (Grow.toNew G _)) (hg.new _) (by omega) (by simp only [hNw]; omega) (by kernel_rfl) (by kernel_rfl) (elems_new (n := 1) (sz := 1) rfl) rfl rfl (by rw [List.length_map, List.length_take]; omega) (by omega) (by omega) rfl) ?_
      rintro v2 G2 ⟨q1, q2, q3, q4, q5, q6⟩
      simp only [hNw] at q4 q5 q6
      obtain ⟨mm, hv2⟩ := q6
      have z0 : G2.get (W.next) = some (.cells [cv, I g.slo, I g.shi, I g.klo, I g.khi, I g.melt] 26) := by rw [q3.get _ (by omega) (by simp only [hNw]; omega), gno _ _ _ (by omega)]; exact f9
      have y0 : (G2.get (W.next)).bind AObj.cs = some [cv, I g.slo, I g.shi, I g.klo, I g.khi, I g.melt] := by rw [z0]; rfl
      have z1 : G2.get (W.next + 1) = some (.cells [I t.snow, I t.soak, lvP, rvP] 30) := by rw [q3.get _ (by omega) (by simp only [hNw]; omega), gno _ _ _ (by omega)]; exact f0
      have y1 : (G2.get (W.next + 1)).bind AObj.cs = some [I t.snow, I t.soak, lvP, rvP] := by rw [z1]; rfl
      have z2 : G2.get (W.next + 2) = some (.cells [I o.snow, I o.soak, lvO, rvO] 30) := by rw [q3.get _ (by omega) (by simp only [hNw]; omega), gno _ _ _ (by omega)]; exact f1
      have y2 : (G2.get (W.next + 2)).bind AObj.cs = some [I o.snow, I o.soak, lvO, rvO] := by rw [z2]; rfl
      have z3 : G2.get (HO.next) = some (.cells [I (max t.snow o.snow), I (max t.soak o.soak), vl, vr] 30) := by rw [q3.get _ (by omega) (by simp only [hNw]; omega), gno _ _ _ (by omega)]; exact f3
      have y3 : (G2.get (HO.next)).bind AObj.cs = some [I (max t.snow o.snow), I (max t.soak o.soak), vl, vr] := by rw [z3]; rfl
      have hmo : Mine (HO.next + 1) G2 vr 3 1 _ := (hmr.to (Grow.toNew G _)).keep (w := vl) (fun j h1 h2 => q4 j (by simpa using h1) h2) (fun b m m' h1 h2 => hsep b m' m h2 h1) (by simp only [hNw]; omega)
      have hs2 : ∀ b m m', v2 = .opn b m → vr ≠ .opn b m' := fun b m m' h1 h2 => by rw [hv2] at h1; have e9 := (AV.opn.inj h1).1; have := hmr.lt h2; omega
      have hJ2 : ∀ n, W.next + 3 ≤ n → n < HO.next → G2.get n = HO.get n := fun j h1 h2 => by rw [q3.get j (by omega) (by simp only [hNw]; omega), gno _ _ _ (by omega)]; exact hJ j h1 h2
      obtain ⟨pb2, po2, pcs2, r1, r2, r3, r4⟩ := (show Ints G2 lvP lvs from FP G2 (by omega) (fun n a b => (hJ2 n a (by omega)).trans (qO.ext.get n b))).at_ i [I lvs[i]] (by simp [hlt])
      have r5 := seg_one r3
      rw [p1] at r1
      cases r1
      obtain ⟨ob2, oo2, ocs2, s1, s2, s3, s4⟩ := (show Ints G2 lvO lvs2 from GP G2 (by omega) (fun n a b => hJ2 n (by omega) b)).at_ i [I lvs2[i]] (by simp [hlt2])
      have s5 := seg_one s3
      rw [o1] at s1
      cases s1
      obtain ⟨bb2, hbb2⟩ : ∃ bb2, bb2 = G.next + 1 := ⟨_, rfl⟩
      rw [← hbb2] at hv2
      subst hv2
      refine OkO.nil ⟨(sco (sld rfl rfl (lda (n := 1) (by kernel_rfl) (by first | assumption | (simp (disch := first | omega | (simp only [hNw, hPt]; omega)) only [gn0, gn1, gn2, gn3, gn4, gn5, gp0, gno, gpo] <;> first | rfl | assumption)) (by first | rfl | assumption)) rfl (eqr _ (by first | rfl | exact lpl (by assumption) | (simp [AV.plain, AV.plains, AV.cells, pc, plP, prP, plO, prO])))) (sco (sld rfl rfl (lda (n := 1) (by kernel_rfl) (by first | assumption | (simp (disch := first | omega | (simp only [hNw, hPt]; omega)) only [gn0, gn1, gn2, gn3, gn4, gn5, gp0, gno, gpo] <;> first | rfl | assumption)) (by first | rfl | assumption)) rfl (eqr _ (by first | rfl | exact lpl (by assumption) | (simp [AV.plain, AV.plains, AV.cells, pc, plP, prP, plO, prO])))) (sco (sld rfl rfl (lda (n := 1) (by kernel_rfl) (by first | assumption | (simp (disch := first | omega | (simp only [hNw, hPt]; omega)) only [gn0, gn1, gn2, gn3, gn4, gn5, gp0, gno, gpo] <;> first | rfl | assumption)) (by first | rfl | assumption)) rfl (eqr _ (by first | rfl | exact lpl (by assumption) | (simp [AV.plain, AV.plains, AV.cells, pc, plP, prP, plO, prO])))) (sco (sld rfl rfl (lda (n := 1) (by kernel_rfl) (by first | assumption | (simp (disch := first | omega | (simp only [hNw, hPt]; omega)) only [gn0, gn1, gn2, gn3, gn4, gn5, gp0, gno, gpo] <;> first | rfl | assumption)) (by first | rfl | assumption)) rfl (eqr _ (by first | rfl | exact lpl (by assumption) | (simp [AV.plain, AV.plains, AV.cells, pc, plP, prP, plO, prO])))) rfl)))), ?_⟩
      refine OkP.step ?_
      refine OkO.fieldAddr (o := 2) rfl (by kernel_rfl) rfl ?_
      refine OkO.nil ⟨rfl, ?_⟩
      refine OkP.step ?_
      refine OkO.store rfl rfl rfl (stc (n := 1) (ag := false) (by kernel_rfl) (by first | assumption | (simp (disch := first | omega | (simp only [hNw, hPt]; omega)) only [gn0, gn1, gn2, gn3, gn4, gn5, gp0, gno, gpo] <;> first | rfl | assumption)) rfl rfl (by first | rfl | exact spl_set _ _ _ (by first | assumption | (simp; omega)))) ?_
      refine OkO.nil ⟨rfl, ?_⟩
      refine OkP.nil ?_
      refine Ok.region ?_
      refine OkO.move rfl rfl ?_
      refine OkO.bin rfl rfl rfl (bin_add (by omega) (by omega)) ?_
      refine OkO.assign rfl rfl ?_
      refine OkO.nil ?_
      refine ⟨lvs.length - (i + 1), by omega, i + 1, .opn bb2 mm, vr, rfl, hlt, ?_, ?_, hs2, Has.of (by kernel_rfl), rfl, q2.put _ (by omega), fun j h1 h2 => by rw [gpo _ _ _ _ (by omega)]; exact hJ2 j h1 h2, by rw [gpo _ _ _ _ (by omega)]; exact z0, by rw [gpo _ _ _ _ (by omega)]; exact z1, by rw [gpo _ _ _ _ (by omega)]; exact z2, gp0 _ _ _, by simp only [hPt]; omega⟩
      · rw [maxL_take (by omega) (by omega)]; exact q1.put _ (by omega)
      · exact hmo.put _ (by omega)
    · -- no h2
      have hge : i = lvs.length := by simp at h2; omega
      subst hge
      have hml : Mine (HO.next + 1) G vl 3 1 ((maxL lvs lvs2).map I) := by rw [List.take_of_length_le (by rw [maxL_len (by omega)]; omega)] at hml; exact hml
      refine Ok.exit ?_
      refine Ok.seq ?_
      refine Ok.seq ?_
      refine Ok.region ?_
      refine OkO.assign rfl rfl ?_
      refine OkO.nil ?_
      refine Ok.block ?_
      refine Ok.loop (fun n s => ∃ (i : Nat) (vl vr : AV), n = rain.length - i ∧ i ≤ rain.length ∧ Mine (HO.next + 1) s.H vl 3 1 ((maxL lvs lvs2).map I) ∧ Mine (HO.next + 1) s.H vr 3 1 (((maxL rain rain2).take i).map I) ∧ (∀ b m m', vl = .opn b m → vr ≠ .opn b m') ∧ Has 8 [(1, dv), (4, .int .u8 y), (5, .int .u16 x), (6, .ptr W.next 0), (13, .ptr (W.next + 1) 0), (14, .ptr (W.next + 2) 0), (15, .ptr HO.next 0), (17, I (i : Int))] s.T ∧ s.D = [] ∧ Grow W s.H ∧ (∀ n, W.next + 3 ≤ n → n < HO.next → s.H.get n = HO.get n) ∧ s.H.get W.next = some (.cells [cv, I g.slo, I g.shi, I g.klo, I g.khi, I g.melt] 26) ∧ s.H.get (W.next + 1) = some (.cells [I t.snow, I t.soak, lvP, rvP] 30) ∧ s.H.get (W.next + 2) = some (.cells [I o.snow, I o.soak, lvO, rvO] 30) ∧ s.H.get HO.next = some (.cells [I (max t.snow o.snow), I (max t.soak o.soak), vl, vr] 30) ∧ HO.next + 1 ≤ s.H.next) (rain.length) (by unfold loopFuel; omega)
        ⟨0, vl, vr, rfl, Nat.zero_le _, hml, hmr, hsep, Has.of (by kernel_rfl), rfl, hg, hJ, f9, f0, f1, f3, hb4⟩ ?_
      rintro n ⟨T, D, G⟩ ⟨i, vl, vr, hn, hi, hml, hmr, hsep, ⟨f, hT⟩, hD, hg, hJ, f9, f0, f1, f3, hb4⟩
      dsimp only at *
      subst hT hD
      have hgn := hg.next
      have ea : (G.get W.next).bind AObj.cs = some [cv, I g.slo, I g.shi, I g.klo, I g.khi, I g.melt] := by rw [f9]; rfl
      have e0 : (G.get (W.next + 1)).bind AObj.cs = some [I t.snow, I t.soak, lvP, rvP] := by rw [f0]; rfl
      have e1 : (G.get (W.next + 2)).bind AObj.cs = some [I o.snow, I o.soak, lvO, rvO] := by rw [f1]; rfl
      have e3 : (G.get HO.next).bind AObj.cs = some [I (max t.snow o.snow), I (max t.soak o.soak), vl, vr] := by rw [f3]; rfl
      obtain ⟨ll, hll, _⟩ := hml.len
      obtain ⟨lr, hlr, _⟩ := hmr.len
      have LPG : Ints G lvP lvs := FP G (by omega) (fun n a b => (hJ n a (by omega)).trans (qO.ext.get n b))
      have RPG : Ints G rvP rain := FR G (by omega) (fun n a b => (hJ n a (by omega)).trans (qO.ext.get n b))
      have LOG : Ints G lvO lvs2 := GP G (by omega) (fun n a b => hJ n (by omega) b)
      have ROG : Ints G rvO rain2 := GQ G (by omega) (fun n a b => hJ n (by omega) b)
      refine Ok.seq ?_
      refine Ok.seq ?_
      refine Ok.region ?_
      refine OkO.move rfl rfl ?_
      refine OkO.fieldAddr (o := 3) rfl (by kernel_rfl) rfl ?_
      refine OkO.load rfl rfl (lda (n := 1) (by kernel_rfl) (by first | assumption | (simp (disch := first | omega | (simp only [hNw, hPt]; omega)) only [gn0, gn1, gn2, gn3, gn4, gn5, gp0, gno, gpo] <;> first | rfl | assumption)) (by first | rfl | assumption)) ?_
      refine OkO.builtin rfl rfl rfl (bln (by kernel_rfl) (by first | assumption | rfl)) ?_
      refine OkO.bin rfl rfl rfl (bin_lss _ _) ?_
      refine OkO.nil ?_
      refine Ok.cond rfl (fun h3 => ?_) (fun h3 => ?_)
      · -- yes h3
        have hlt : i < rain.length := by simpa using h3
        have hlt2 : i < rain2.length := by omega
        obtain ⟨pb, po, pcs, p1, p2, p3, p4⟩ := RPG.at_ i [I rain[i]] (by simp [hlt])
        have p5 := seg_one p3
        obtain ⟨ob, oo, ocs, o1, o2, o3, o4⟩ := ROG.at_ i [I rain2[i]] (by simp [hlt2])
        have o5 := seg_one o3
        refine Ok.skip ?_
        refine Ok.seq ?_
        refine Ok.block ?_
        refine Ok.drawn [(0, true, []), (1, true, []), (2, true, []), (3, true, []), (4, true, []), (5, true, []), (6, true, []), (7, true, []), (8, true, []), (9, true, []), (10, true, []), (11, true, []), (12, false, [8, 3, 1]), (13, true, [11, 8, 6, 3, 1]), (14, false, [11, 8, 6, 3]), (15, true, []), (16, false, [])] (by kernel_rfl) ?_
        refine OkP.step ?_
        refine OkO.fieldAddr (o := 3) rfl (by kernel_rfl) rfl ?_
        refine OkO.nil ⟨rfl, ?_⟩
        refine OkP.step ?_
        refine OkO.load rfl rfl (lda (n := 1) (by kernel_rfl) (by first | assumption | (simp (disch := first | omega | (simp only [hNw, hPt]; omega)) only [gn0, gn1, gn2, gn3, gn4, gn5, gp0, gno, gpo] <;> first | rfl | assumption)) (by first | rfl | assumption)) ?_
        refine OkO.nil ⟨rfl, ?_⟩
        refine OkP.step ?_
        refine OkO.fieldAddr (o := 3) rfl (by kernel_rfl) rfl ?_
        refine OkO.nil ⟨rfl, ?_⟩
        refine OkP.step ?_
        refine OkO.load rfl rfl (lda (n := 1) (by kernel_rfl) (by first | assumption | (simp (disch := first | omega | (simp only [hNw, hPt]; omega)) only [gn0, gn1, gn2, gn3, gn4, gn5, gp0, gno, gpo] <;> first | rfl | assumption)) (by first | rfl | assumption)) ?_
        refine OkO.nil ⟨rfl, ?_⟩
        refine OkP.step ?_
        refine OkO.move rfl rfl ?_
        refine OkO.nil ⟨rfl, ?_⟩
        refine OkP.step ?_
        refine OkO.index (sz := 1) (n := i) rfl rfl rfl (by kernel_rfl) (by first | assumption | rfl | exact slAt_slice (by omega)) ?_ -- index ('Go.Operand.tmp', 91) ('Go.Operand.tmp', 92)
        refine OkO.nil ⟨rfl, ?_⟩
        refine OkP.step ?_
        refine OkO.load rfl rfl (lda (n := 1) (by kernel_rfl) (by first | assumption | (simp (disch := first | omega | (simp only [hNw, hPt]; omega)) only [gn0, gn1, gn2, gn3, gn4, gn5, gp0, gno, gpo] <;> first | rfl | assumption)) (by first | rfl | assumption)) ?_
        refine OkO.nil ⟨rfl, ?_⟩
        refine OkP.step ?_
        refine OkO.fieldAddr (o := 3) rfl (by kernel_rfl) rfl ?_
        refine OkO.nil ⟨rfl, ?_⟩
        refine OkP.step ?_
        refine OkO.load rfl rfl (lda (n := 1) (by kernel_rfl) (by first | assumption | (simp (disch := first | omega | (simp only [hNw, hPt]; omega)) only [gn0, gn1, gn2, gn3, gn4, gn5, gp0, gno, gpo] <;> first | rfl | assumption)) (by first | rfl | assumption)) ?_
        refine OkO.nil ⟨rfl, ?_⟩
        refine OkP.step ?_
        refine OkO.move rfl rfl ?_
        refine OkO.nil ⟨rfl, ?_⟩
        refine OkP.step ?_
        refine OkO.index (sz := 1) (n := i) rfl rfl rfl (by kernel_rfl) (by first | assumption | rfl | exact slAt_slice (by omega)) ?_ -- index ('Go.Operand.tmp', 96) ('Go.Operand.tmp', 97)
        refine OkO.nil ⟨rfl, ?_⟩
        refine OkP.step ?_
        refine OkO.load rfl rfl (lda (n := 1) (by kernel_rfl) (by first | assumption | (simp (disch := first | omega | (simp only [hNw, hPt]; omega)) only [gn0, gn1, gn2, gn3, gn4, gn5, gp0, gno, gpo] <;> first | rfl | assumption)) (by first | rfl | assumption)) ?_
        refine OkO.nil ⟨rfl, ?_⟩
        refine OkP.step ?_
        refine OkO.builtin rfl rfl rfl (builtin_max2 _ _) ?_
        refine OkO.nil ⟨(sco (sld rfl rfl (lda (n := 1) (by kernel_rfl) (by first | assumption | (simp (disch := first | omega | (simp only [hNw, hPt]; omega)) only [gn0, gn1, gn2, gn3, gn4, gn5, gp0, gno, gpo] <;> first | rfl | assumption)) (by first | rfl | assumption)) rfl (eqr _ (by first | rfl | exact lpl (by assumption) | (simp [AV.plain, AV.plains, AV.cells, pc, plP, prP, plO, prO])))) (sco (sld rfl rfl (lda (n := 1) (by kernel_rfl) (by first | assumption | (simp (disch := first | omega | (simp only [hNw, hPt]; omega)) only [gn0, gn1, gn2, gn3, gn4, gn5, gp0, gno, gpo] <;> first | rfl | assumption)) (by first | rfl | assumption)) rfl (eqr _ (by first | rfl | exact lpl (by assumption) | (simp [AV.plain, AV.plains, AV.cells, pc, plP, prP, plO, prO])))) (sco (sld rfl rfl (lda (n := 1) (by kernel_rfl) (by first | assumption | (simp (disch := first | omega | (simp only [hNw, hPt]; omega)) only [gn0, gn1, gn2, gn3, gn4, gn5, gp0, gno, gpo] <;> first | rfl | assumption)) (by first | rfl | assumption)) rfl (eqr _ (by first | rfl | exact lpl (by assumption) | (simp [AV.plain, AV.plains, AV.cells, pc, plP, prP, plO, prO])))) rfl))), ?_⟩
        refine OkP.step ?_
        refine OkO.buildSlice (el := 3) (sz := 1) (z := [.int .i64 0]) rfl (by kernel_rfl) (by decide) rfl rfl ?_
        refine OkO.nil ⟨(sco (sld rfl rfl (lda (n := 1) (by kernel_rfl) (by first | assumption | (simp (disch := first | omega | (simp only [hNw, hPt]; omega)) only [gn0, gn1, gn2, gn3, gn4, gn5, gp0, gno, gpo] <;> first | rfl | assumption)) (by first | rfl | assumption)) rfl (eqr _ (by first | rfl | exact lpl (by assumption) | (simp [AV.plain, AV.plains, AV.cells, pc, plP, prP, plO, prO])))) (sco (sld rfl rfl (lda (n := 1) (by kernel_rfl) (by first | assumption | (simp (disch := first | omega | (simp only [hNw, hPt]; omega)) only [gn0, gn1, gn2, gn3, gn4, gn5, gp0, gno, gpo] <;> first | rfl | assumption)) (by first | rfl | assumption)) rfl (eqr _ (by first | rfl | exact lpl (by assumption) | (simp [AV.plain, AV.plains, AV.cells, pc, plP, prP, plO, prO])))) (sco (sld rfl rfl (lda (n := 1) (by kernel_rfl) (by first | assumption | (simp (disch := first | omega | (simp only [hNw, hPt]; omega)) only [gn0, gn1, gn2, gn3, gn4, gn5, gp0, gno, gpo] <;> first | rfl | assumption)) (by first | rfl | assumption)) rfl (eqr _ (by first | rfl | exact lpl (by assumption) | (simp [AV.plain, AV.plains, AV.cells, pc, plP, prP, plO, prO])))) (sco (sld rfl rfl (lda (n := 1) (by kernel_rfl) (by first | assumption | (simp (disch := first | omega | (simp only [hNw, hPt]; omega)) only [gn0, gn1, gn2, gn3, gn4, gn5, gp0, gno, gpo] <;> first | rfl | assumption)) (by first | rfl | assumption)) rfl (eqr _ (by first | rfl | exact lpl (by assumption) | (simp [AV.plain, AV.plains, AV.cells, pc, plP, prP, plO, prO])))) (sco (sld rfl rfl (lda (n := 1) (by kernel_rfl) (by first | assumption | (simp (disch := first | omega | (simp only [hNw, hPt]; omega)) only [gn0, gn1, gn2, gn3, gn4, gn5, gp0, gno, gpo] <;> first | rfl | assumption)) (by first | rfl | assumption)) rfl (eqr _ (by first | rfl | exact lpl (by assumption) | (simp [AV.plain, AV.plains, AV.cells, pc, plP, prP, plO, prO])))) rfl))))), ?_⟩
        refine OkP.step ?_
        refine OkO.builtinE rfl rfl rfl (Mine.app2 (W := W) (k0 := HO.next + 1) (sz := 1) (by_ := 8) (e := 3) (n := 1) (new := [I (max rain[i] rain2[i])]) (hmr.to (Grow.toNew G _)) (hg.new _) (by omega) (by simp only [hNw]; omega) (by kernel_rfl) (by kernel_rfl) (elems_new (n := 1) (sz := 1) rfl) rfl rfl (by rw [List.length_map, List.length_take]; omega) (by omega) (by omega) rfl) ?_
        rintro v2 G2 ⟨q1, q2, q3, q4, q5, q6⟩
        simp only [hNw] at q4 q5 q6
        obtain ⟨mm, hv2⟩ := q6
        have z0 : G2.get (W.next) = some (.cells [cv, I g.slo, I g.shi, I g.klo, I g.khi, I g.melt] 26) := by rw [q3.get _ (by omega) (by simp only [hNw]; omega), gno _ _ _ (by omega)]; exact f9
        have y0 : (G2.get (W.next)).bind AObj.cs = some [cv, I g.slo, I g.shi, I g.klo, I g.khi, I g.melt] := by rw [z0]; rfl
        have z1 : G2.get (W.next + 1) = some (.cells [I t.snow, I t.soak, lvP, rvP] 30) := by rw [q3.get _ (by omega) (by simp only [hNw]; omega), gno _ _ _ (by omega)]; exact f0
        have y1 : (G2.get (W.next + 1)).bind AObj.cs = some [I t.snow, I t.soak, lvP, rvP] := by rw [z1]; rfl
        have z2 : G2.get (W.next + 2) = some (.cells [I o.snow, I o.soak, lvO, rvO] 30) := by rw [q3.get _ (by omega) (by simp only [hNw]; omega), gno _ _ _ (by omega)]; exact f1
        have y2 : (G2.get (W.next + 2)).bind AObj.cs = some [I o.snow, I o.soak, lvO, rvO] := by rw [z2]; rfl
        have z3 : G2.get (HO.next) = some (.cells [I (max t.snow o.snow), I (max t.soak o.soak), vl, vr] 30) := by rw [q3.get _ (by omega) (by simp only [hNw]; omega), gno _ _ _ (by omega)]; exact f3
        have y3 : (G2.get (HO.next)).bind AObj.cs = some [I (max t.snow o.snow), I (max t.soak o.soak), vl, vr] := by rw [z3]; rfl
        have hmo : Mine (HO.next + 1) G2 vl 3 1 _ := (hml.to (Grow.toNew G _)).keep (w := vr) (fun j h1 h2 => q4 j (by simpa using h1) h2) (fun b m m' h1 h2 => hsep b m m' h1 h2) (by simp only [hNw]; omega)
        have hs2 : ∀ b m m', vl = .opn b m → v2 ≠ .opn b m' := fun b m m' h1 h2 => by rw [hv2] at h2; have e9 := (AV.opn.inj h2).1; have := hml.lt h1; omega
        have hJ2 : ∀ n, W.next + 3 ≤ n → n < HO.next → G2.get n = HO.get n := fun j h1 h2 => by rw [q3.get j (by omega) (by simp only [hNw]; omega), gno _ _ _ (by omega)]; exact hJ j h1 h2
        obtain ⟨pb2, po2, pcs2, r1, r2, r3, r4⟩ := (show Ints G2 rvP rain from FR G2 (by omega) (fun n a b => (hJ2 n a (by omega)).trans (qO.ext.get n b))).at_ i [I rain[i]] (by simp [hlt])
        have r5 := seg_one r3
        rw [p1] at r1
        cases r1
        obtain ⟨ob2, oo2, ocs2, s1, s2, s3, s4⟩ := (show Ints G2 rvO rain2 from GQ G2 (by omega) (fun n a b => hJ2 n (by omega) b)).at_ i [I rain2[i]] (by simp [hlt2])
        have s5 := seg_one s3
        rw [o1] at s1
        cases s1
        obtain ⟨bb2, hbb2⟩ : ∃ bb2, bb2 = G.next + 1 := ⟨_, rfl⟩
        rw [← hbb2] at hv2
        subst hv2
        refine OkO.nil ⟨(sco (sld rfl rfl (lda (n := 1) (by kernel_rfl) (by first | assumption | (simp (disch := first | omega | (simp only [hNw, hPt]; omega)) only [gn0, gn1, gn2, gn3, gn4, gn5, gp0, gno, gpo] <;> first | rfl | assumption)) (by first | rfl | assumption)) rfl (eqr _ (by first | rfl | exact lpl (by assumption) | (simp [AV.plain, AV.plains, AV.cells, pc, plP, prP, plO, prO])))) (sco (sld rfl rfl (lda (n := 1) (by kernel_rfl) (by first | assumption | (simp (disch := first | omega | (simp only [hNw, hPt]; omega)) only [gn0, gn1, gn2, gn3, gn4, gn5, gp0, gno, gpo] <;> first | rfl | assumption)) (by first | rfl | assumption)) rfl (eqr _ (by first | rfl | exact lpl (by assumption) | (simp [AV.plain, AV.plains, AV.cells, pc, plP, prP, plO, prO])))) (sco (sld rfl rfl (lda (n := 1) (by kernel_rfl) (by first | assumption | (simp (disch := first | omega | (simp only [hNw, hPt]; omega)) only [gn0, gn1, gn2, gn3, gn4, gn5, gp0, gno, gpo] <;> first | rfl | assumption)) (by first | rfl | assumption)) rfl (eqr _ (by first | rfl | exact lpl (by assumption) | (simp [AV.plain, AV.plains, AV.cells, pc, plP, prP, plO, prO])))) (sco (sld rfl rfl (lda (n := 1) (by kernel_rfl) (by first | assumption | (simp (disch := first | omega | (simp only [hNw, hPt]; omega)) only [gn0, gn1, gn2, gn3, gn4, gn5, gp0, gno, gpo] <;> first | rfl | assumption)) (by first | rfl | assumption)) rfl (eqr _ (by first | rfl | exact lpl (by assumption) | (simp [AV.plain, AV.plains, AV.cells, pc, plP, prP, plO, prO])))) rfl)))), ?_⟩
        refine OkP.step ?_
        refine OkO.fieldAddr (o := 3) rfl (by kernel_rfl) rfl ?_
        refine OkO.nil ⟨rfl, ?_⟩
        refine OkP.step ?_
        refine OkO.store rfl rfl rfl (stc (n := 1) (ag := false) (by kernel_rfl) (by first | assumption | (simp (disch := first | omega | (simp only [hNw, hPt]; omega)) only [gn0, gn1, gn2, gn3, gn4, gn5, gp0, gno, gpo] <;> first | rfl | assumption)) rfl rfl (by first | rfl | exact spl_set _ _ _ (by first | assumption | (simp; omega)))) ?_
        refine OkO.nil ⟨rfl, ?_⟩
        refine OkP.nil ?_
        refine Ok.region ?_
        refine OkO.move rfl rfl ?_
        refine OkO.bin rfl rfl rfl (bin_add (by omega) (by omega)) ?_
        refine OkO.assign rfl rfl ?_
        refine OkO.nil ?_
        refine ⟨rain.length - (i + 1), by omega, i + 1, vl, .opn bb2 mm, rfl, hlt, ?_, ?_, hs2, Has.of (by kernel_rfl), rfl, q2.put _ (by omega), fun j h1 h2 => by rw [gpo _ _ _ _ (by omega)]; exact hJ2 j h1 h2, by rw [gpo _ _ _ _ (by omega)]; exact z0, by rw [gpo _ _ _ _ (by omega)]; exact z1, by rw [gpo _ _ _ _ (by omega)]; exact z2, gp0 _ _ _, by simp only [hPt]; omega⟩
        · exact hmo.put _ (by omega)
        · rw [maxL_take (by omega) (by omega)]; exact q1.put _ (by omega)
      · -- no h3
        have hge : i = rain.length := by simp at h3; omega
        subst hge
        have hmr : Mine (HO.next + 1) G vr 3 1 ((maxL rain rain2).map I) := by rw [List.take_of_length_le (by rw [maxL_len (by omega)]; omega)] at hmr; exact hmr
        obtain ⟨l1, l2⟩ := hml.one
        obtain ⟨r1, r2⟩ := hmr.one
        obtain ⟨G1, hG1⟩ : ∃ G1, G1 = G := ⟨_, rfl⟩
        subst hG1
        have IL : Ints G1 vl (maxL lvs lvs2) := Mine.row (by rw [ints_flat]; exact hml) (fun x hx => by simp only [List.mem_map] at hx; obtain ⟨y, _, rfl⟩ := hx; rfl) (by omega)
        have IR : Ints G1 vr (maxL rain rain2) := Mine.row (by rw [ints_flat]; exact hmr) (fun x hx => by simp only [List.mem_map] at hx; obtain ⟨y, _, rfl⟩ := hx; rfl) (by omega)
        have hllM : lenOf vl = some (maxL lvs lvs2).length := by simpa using IL.len
        have hlrM : lenOf vr = some (maxL rain rain2).length := by simpa using IR.len
        have plM := lpl hllM
        have prM := lpl hlrM
        have hmlL : (maxL lvs lvs2).length = lvs.length := maxL_len (by omega)
        have hmlR : (maxL rain rain2).length = rain.length := maxL_len (by omega)
        obtain ⟨gb, go, gcs, g1, g2, g3, g4⟩ := (hR.ext (hE _ hg)).at_ k cs[k].c (by simp [hkl])
        have g6 : gcs[go + 6]? = some (I cs[k].pump) := seg_get g3 6 (by omega)
        refine Ok.exit ?_
        refine Ok.seq ?_
        refine Ok.region ?_
        refine OkO.move rfl rfl ?_
        refine OkO.convert (k := .i64) rfl (by kernel_rfl) rfl (wrapF_i64 (by omega) (by omega)) ?_
        refine OkO.fieldAddr (o := 0) rfl (by kernel_rfl) rfl ?_
        refine OkO.load rfl rfl (lda (n := 1) (by kernel_rfl) (by first | assumption | (simp (disch := first | omega | (simp only [hNw, hPt]; omega)) only [gn0, gn1, gn2, gn3, gn4, gn5, gp0, gno, gpo] <;> first | rfl | assumption)) (by first | rfl | assumption)) ?_
        refine OkO.builtin rfl rfl rfl (bln (by kernel_rfl) (by first | assumption | rfl)) ?_
        refine OkO.bin rfl rfl rfl (bin_rem (by omega) (by omega)) ?_
        refine OkO.assign rfl rfl ?_
        refine OkO.nil ?_
        refine Ok.seq ?_
        refine Ok.drawn [(0, true, []), (1, true, []), (2, true, []), (3, true, []), (4, true, []), (5, true, []), (6, true, []), (7, true, []), (8, true, []), (9, true, []), (10, true, []), (13, true, [7, 3, 0]), (11, false, [7, 3, 0]), (12, false, [7, 3]), (14, false, [])] (by kernel_rfl) ?_
        refine OkP.step ?_
        refine OkO.load rfl rfl (ldg (n := 6) (by kernel_rfl) (by first | assumption | (simp (disch := first | omega | (simp only [hNw, hPt]; omega)) only [gn0, gn1, gn2, gn3, gn4, gn5, gp0, gno, gpo] <;> first | rfl | assumption)) (by first | rfl | assumption)) ?_
        refine OkO.nil ⟨rfl, ?_⟩
        refine OkP.step ?_
        refine OkO.move rfl rfl ?_
        refine OkO.nil ⟨rfl, ?_⟩
        refine OkP.step ?_
        refine OkO.fieldAddr (o := 0) rfl (by kernel_rfl) rfl ?_
        refine OkO.nil ⟨rfl, ?_⟩
        refine OkP.step ?_
        refine OkO.load rfl rfl (lda (n := 1) (by kernel_rfl) (by first | assumption | (simp (disch := first | omega | (simp only [hNw, hPt]; omega)) only [gn0, gn1, gn2, gn3, gn4, gn5, gp0, gno, gpo] <;> first | rfl | assumption)) (by first | rfl | assumption)) ?_
        refine OkO.nil ⟨rfl, ?_⟩
        refine OkP.step ?_
        refine OkO.move rfl rfl ?_
        refine OkO.nil ⟨rfl, ?_⟩
        refine OkP.step ?_
        refine OkO.index (sz := 7) (n := k) rfl rfl (congrArg (fun z => some (I z)) hkq) (by kernel_rfl) (by first | assumption | rfl | exact slAt_slice (by omega)) ?_ -- index ('Go.Operand.tmp', 113) ('Go.Operand.tmp', 114)
        refine OkO.nil ⟨rfl, ?_⟩
        refine OkP.step ?_
        refine OkO.fieldAddr (o := 6) rfl (by kernel_rfl) rfl ?_
        refine OkO.nil ⟨rfl, ?_⟩
        refine OkP.step ?_
        refine OkO.load rfl rfl (lda (n := 1) (by kernel_rfl) (by first | assumption | (simp (disch := first | omega | (simp only [hNw, hPt]; omega)) only [gn0, gn1, gn2, gn3, gn4, gn5, gp0, gno, gpo] <;> first | rfl | assumption)) (by first | rfl | assumption)) ?_
        refine OkO.nil ⟨rfl, ?_⟩
        refine OkP.step ?_
        refine OkO.move rfl rfl ?_
        refine OkO.nil ⟨rfl, ?_⟩
        refine OkP.step ?_
        refine OkO.convert (k := .i64) rfl (by kernel_rfl) rfl (wrapF_i64 (by omega) (by omega)) ?_
        refine OkO.nil ⟨rfl, ?_⟩
        refine OkP.step ?_
        refine OkO.bin rfl rfl rfl (bin_add (by omega) (by omega)) ?_
        refine OkO.nil ⟨rfl, ?_⟩
        refine OkP.step ?_
        refine OkO.alloc (z := [.nils, .int .i64 0, .int .i64 0, .int .i64 0, .int .i64 0, .int .i64 0]) rfl (by kernel_rfl) ?_
        refine OkO.nil ⟨(sco (sld rfl rfl (lda (n := 1) (by kernel_rfl) (by first | assumption | (simp (disch := first | omega | (simp only [hNw, hPt]; omega)) only [gn0, gn1, gn2, gn3, gn4, gn5, gp0, gno, gpo] <;> first | rfl | assumption)) (by first | rfl | assumption)) rfl (eqr _ (by first | rfl | exact lpl (by assumption) | (simp [AV.plain, AV.plains, AV.cells, pc, plP, prP, plO, prO, plM, prM])))) (sco (sld rfl rfl (lda (n := 1) (by kernel_rfl) (by first | assumption | (simp (disch := first | omega | (simp only [hNw, hPt]; omega)) only [gn0, gn1, gn2, gn3, gn4, gn5, gp0, gno, gpo] <;> first | rfl | assumption)) (by first | rfl | assumption)) rfl (eqr _ (by first | rfl | exact lpl (by assumption) | (simp [AV.plain, AV.plains, AV.cells, pc, plP, prP, plO, prO, plM, prM])))) (sco (sld rfl rfl (ldg (n := 6) (by kernel_rfl) (by first | assumption | (simp (disch := first | omega | (simp only [hNw, hPt]; omega)) only [gn0, gn1, gn2, gn3, gn4, gn5, gp0, gno, gpo] <;> first | rfl | assumption)) (by first | rfl | assumption)) rfl (eqr _ (by first | rfl | exact lpl (by assumption) | (simp [AV.plain, AV.plains, AV.cells, pc, plP, prP, plO, prO, plM, prM])))) rfl))), ?_⟩
        refine OkP.step ?_
        refine OkO.builtin rfl rfl rfl (builtin_min2 _ _) ?_
        refine OkO.nil ⟨(sco (sld rfl rfl (lda (n := 1) (by kernel_rfl) (by first | assumption | (simp (disch := first | omega | (simp only [hNw, hPt]; omega)) only [gn0, gn1, gn2, gn3, gn4, gn5, gp0, gno, gpo] <;> first | rfl | assumption)) (by first | rfl | assumption)) rfl (eqr _ (by first | rfl | exact lpl (by assumption) | (simp [AV.plain, AV.plains, AV.cells, pc, plP, prP, plO, prO, plM, prM])))) (sco (sld rfl rfl (lda (n := 1) (by kernel_rfl) (by first | assumption | (simp (disch := first | omega | (simp only [hNw, hPt]; omega)) only [gn0, gn1, gn2, gn3, gn4, gn5, gp0, gno, gpo] <;> first | rfl | assumption)) (by first | rfl | assumption)) rfl (eqr _ (by first | rfl | exact lpl (by assumption) | (simp [AV.plain, AV.plains, AV.cells, pc, plP, prP, plO, prO, plM, prM])))) (sco (sld rfl rfl (ldg (n := 6) (by kernel_rfl) (by first | assumption | (simp (disch := first | omega | (simp only [hNw, hPt]; omega)) only [gn0, gn1, gn2, gn3, gn4, gn5, gp0, gno, gpo] <;> first | rfl | assumption)) (by first | rfl | assumption)) rfl (eqr _ (by first | rfl | exact lpl (by assumption) | (simp [AV.plain, AV.plains, AV.cells, pc, plP, prP, plO, prO, plM, prM])))) rfl))), ?_⟩
        refine OkP.step ?_
        refine OkO.callE rfl rfl rfl rfl rfl ((by rw [hkq]; exact c47 (m + 9) cv cs g k (min 100000 (cs[k].pump + x)) _ (hR.ext (hE _ (hg.new _))) (by omega) hkl)) ?_ -- "sackung/sackungref02.With"
        rintro vN HN ⟨cvN, rfl, qN, FN⟩
        have rN := FN.now (Nat.le_refl _)
        have gN : Grow W HN := Grow.ret (hg.new _) qN
        have hnN : G1.next + 1 ≤ HN.next := qN.ext.next
        have xN : Ext G1 HN := (Grow.toNew _ _).trans qN.ext
        have zN : HN.get G1.next = some (.cells [.nils, I 0, I 0, I 0, I 0, I 0] 26) := by rw [qN.ext.get _ (by simp only [hNw]; omega)]; exact gn0 _ _
        have aN : (HN.get W.next).bind AObj.cs = some [cv, I g.slo, I g.shi, I g.klo, I g.khi, I g.melt] := by rw [xN.get _ (by omega)]; exact ea
        have pN : (HN.get (W.next + 1)).bind AObj.cs = some [I t.snow, I t.soak, lvP, rvP] := by rw [xN.get _ (by omega)]; exact e0
        have mN : (HN.get HO.next).bind AObj.cs = some [I (max t.snow o.snow), I (max t.soak o.soak), vl, vr] := by rw [xN.get _ (by omega)]; exact e3
        have rN2 : Row (HN.put G1.next (.cells [cvN, I g.slo, I g.shi, I g.klo, I g.khi, I g.melt] 26)) cvN 7 ((setP cs k (min 100000 (cs[k].pump + x))).map Cell.c) := FN _ (by simp only [hPt]; omega) (fun n a b => gpo _ _ _ _ (by simp only [hNw] at a; omega))
        have gHN : (HN.get gb).bind AObj.cs = some gcs := by rw [xN.get _ g4]; exact g2
        have acN := rN.atom (by simp [setP_len]; omega)
        have hlN : lenOf cvN = some cs.length := by rw [rN.len]; simp [setP_len]
        have pcN := lpl hlN
        have hpv : 0 ≤ (min 100000 (cs[k].pump + x)) ∧ (min 100000 (cs[k].pump + x)) ≤ 100000 := by omega
        have hteC := setP_truth (k := k) hte hpv
        have hFC := fit_of hteC
        have smM := rows_same hF hFM rfl
        have smC := rows_same hF hFC setP_len
        refine OkO.nil ⟨(sco (sld rfl rfl (lda (n := 1) (by kernel_rfl) (by first | assumption | (simp (disch := first | omega | (simp only [hNw, hPt]; omega)) only [gn0, gn1, gn2, gn3, gn4, gn5, gp0, gno, gpo] <;> first | rfl | assumption)) (by first | rfl | assumption)) rfl (eqr _ (by first | rfl | exact lpl (by assumption) | (simp [AV.plain, AV.plains, AV.cells, pc, plP, prP, plO, prO, plM, prM, pcN])))) (sco (sld rfl rfl (lda (n := 1) (by kernel_rfl) (by first | assumption | (simp (disch := first | omega | (simp only [hNw, hPt]; omega)) only [gn0, gn1, gn2, gn3, gn4, gn5, gp0, gno, gpo] <;> first | rfl | assumption)) (by first | rfl | assumption)) rfl (eqr _ (by first | rfl | exact lpl (by assumption) | (simp [AV.plain, AV.plains, AV.cells, pc, plP, prP, plO, prO, plM, prM, pcN])))) rfl)), ?_⟩
        refine OkP.step ?_
        refine OkO.store rfl rfl rfl (stc (n := 6) (ag := true) (l := [cvN, I g.slo, I g.shi, I g.klo, I g.khi, I g.melt]) (by kernel_rfl) (by first | assumption | simp (disch := first | omega | (simp only [hNw, hPt]; omega)) only [gn0, gn1, gn2, gn3, gn4, gn5, gp0, gno, gpo] <;> first | rfl | assumption) rfl (by show atoms [cvN, I g.slo, I g.shi, I g.klo, I g.khi, I g.melt] = true; simp [atoms, acN, show ∀ z, (I z).atom = true from fun _ => rfl]) rfl) ?_
        refine OkO.nil ⟨rfl, ?_⟩
        refine OkP.nil ?_
        refine Ok.seq ?_
        refine Ok.drawn [(0, true, []), (2, true, []), (4, true, []), (1, false, [4]), (3, false, [4, 0]), (5, false, [0]), (6, false, [4, 0]), (7, true, []), (8, true, []), (9, true, []), (10, true, []), (11, true, []), (12, true, []), (13, true, []), (14, true, []), (15, true, [])] (by kernel_rfl) ?_
        refine OkP.step ?_
        refine OkO.load rfl rfl (ldg (n := 6) (by kernel_rfl) (by first | assumption | (simp (disch := first | omega | (simp only [hNw, hPt]; omega)) only [gn0, gn1, gn2, gn3, gn4, gn5, gp0, gno, gpo] <;> first | rfl | assumption)) (by first | rfl | assumption)) ?_
        refine OkO.nil ⟨rfl, ?_⟩
        refine OkP.step ?_
        refine OkO.move rfl rfl ?_
        refine OkO.nil ⟨rfl, ?_⟩
        refine OkP.step ?_
        refine OkO.load rfl rfl (ldg (n := 4) (by kernel_rfl) (by first | assumption | (simp (disch := first | omega | (simp only [hNw, hPt]; omega)) only [gn0, gn1, gn2, gn3, gn4, gn5, gp0, gno, gpo] <;> first | rfl | assumption)) (by first | rfl | assumption)) ?_
        refine OkO.nil ⟨rfl, ?_⟩
        refine OkP.step ?_
        refine OkO.callE rfl rfl rfl rfl rfl (c19 (m + 8) cv cs g _ (hR.ext (hE _ (by (try dsimp only); repeat (first | (first | exact gN | exact hG) | apply Grow.new | (refine Grow.put ?_ _ (by first | omega | (simp only [hNw, hPt]; omega))))))) (by omega)) ?_ -- "sackung/sackunglaw02.Ground"
        rintro vA HA ⟨cvA, rfl, qA, rA, atA⟩
        have gA : Grow W HA := Grow.ret (by (try dsimp only); repeat (first | (first | exact gN | exact hG) | apply Grow.new | (refine Grow.put ?_ _ (by first | omega | (simp only [hNw, hPt]; omega))))) qA
        have xA : Ext G1 HA := Ext.trans (xN.put _ (by omega)) qA.ext
        have nA : HN.next ≤ HA.next := by have := qA.ext.next; first | omega | (simp only [hNw, hPt] at this; omega)
        have aA : (HA.get W.next).bind AObj.cs = some [cv, I g.slo, I g.shi, I g.klo, I g.khi, I g.melt] := by rw [xA.get _ (by omega)]; exact ea
        have pA : (HA.get (W.next + 1)).bind AObj.cs = some [I t.snow, I t.soak, lvP, rvP] := by rw [xA.get _ (by omega)]; exact e0
        have mA : (HA.get HO.next).bind AObj.cs = some [I (max t.snow o.snow), I (max t.soak o.soak), vl, vr] := by rw [xA.get _ (by omega)]; exact e3
        have tA : (HA.get G1.next).bind AObj.cs = some [cvN, I g.slo, I g.shi, I g.klo, I g.khi, I g.melt] := by rw [qA.ext.get _ (by first | omega | (simp only [hNw, hPt]; omega))]; first | assumption | (rw [gp0]; rfl)
        refine OkO.nil ⟨(sco (sld rfl rfl (ldg (n := 4) (by kernel_rfl) (by first | assumption | (simp (disch := first | omega | (simp only [hNw, hPt]; omega)) only [gn0, gn1, gn2, gn3, gn4, gn5, gp0, gno, gpo] <;> first | rfl | assumption)) (by first | rfl | assumption)) rfl (eqr _ (by first | rfl | exact lpl (by assumption) | (simp [AV.plain, AV.plains, AV.cells, pc, plP, prP, plO, prO, plM, prM, pcN])))) rfl), ?_⟩
        refine OkP.step ?_
        refine OkO.callE rfl rfl rfl rfl rfl (c21 (m + 8) dv ds _ (hY.ext (hE _ gA)) (by omega)) ?_ -- "sackung/sackunglaw02.Days"
        rintro dvB HB ⟨qB, rB, atB⟩
        have gB : Grow W HB := Grow.ret gA qB
        have xB : Ext G1 HB := Ext.trans xA qB.ext
        have nB : HN.next ≤ HB.next := by have := qB.ext.next; first | omega | (simp only [hNw, hPt] at this; omega)
        have aB : (HB.get W.next).bind AObj.cs = some [cv, I g.slo, I g.shi, I g.klo, I g.khi, I g.melt] := by rw [xB.get _ (by omega)]; exact ea
        have pB : (HB.get (W.next + 1)).bind AObj.cs = some [I t.snow, I t.soak, lvP, rvP] := by rw [xB.get _ (by omega)]; exact e0
        have mB : (HB.get HO.next).bind AObj.cs = some [I (max t.snow o.snow), I (max t.soak o.soak), vl, vr] := by rw [xB.get _ (by omega)]; exact e3
        have tB : (HB.get G1.next).bind AObj.cs = some [cvN, I g.slo, I g.shi, I g.klo, I g.khi, I g.melt] := by rw [qB.ext.get _ (by first | omega | (simp only [hNw, hPt]; omega))]; first | assumption | (rw [gp0]; rfl)
        refine OkO.nil ⟨(sco (sld rfl rfl (ldg (n := 4) (by kernel_rfl) (by first | assumption | (simp (disch := first | omega | (simp only [hNw, hPt]; omega)) only [gn0, gn1, gn2, gn3, gn4, gn5, gp0, gno, gpo] <;> first | rfl | assumption)) (by first | rfl | assumption)) rfl (eqr _ (by first | rfl | exact lpl (by assumption) | (simp [AV.plain, AV.plains, AV.cells, pc, plP, prP, plO, prO, plM, prM, pcN])))) (sco (sld rfl rfl (ldg (n := 6) (by kernel_rfl) (by first | assumption | (simp (disch := first | omega | (simp only [hNw, hPt]; omega)) only [gn0, gn1, gn2, gn3, gn4, gn5, gp0, gno, gpo] <;> first | rfl | assumption)) (by first | rfl | assumption)) rfl (eqr _ (by first | rfl | exact lpl (by assumption) | (simp [AV.plain, AV.plains, AV.cells, pc, plP, prP, plO, prO, plM, prM, pcN])))) rfl)), ?_⟩
        refine OkP.step ?_
        refine OkO.callE rfl rfl rfl rfl rfl (c22 (m + 8) lvP rvP t lvs rain _ (LPG.ext xB) (by omega) (RPG.ext xB) (by omega)) ?_ -- "sackung/sackunglaw02.Truth"
        rintro vD HD ⟨lvD, rvD, rfl, qD, lD, rD⟩
        have gD : Grow W HD := Grow.ret gB qD
        have xD : Ext G1 HD := Ext.trans xB qD.ext
        have nD : HN.next ≤ HD.next := by have := qD.ext.next; first | omega | (simp only [hNw, hPt] at this; omega)
        have aD : (HD.get W.next).bind AObj.cs = some [cv, I g.slo, I g.shi, I g.klo, I g.khi, I g.melt] := by rw [xD.get _ (by omega)]; exact ea
        have pD : (HD.get (W.next + 1)).bind AObj.cs = some [I t.snow, I t.soak, lvP, rvP] := by rw [xD.get _ (by omega)]; exact e0
        have mD : (HD.get HO.next).bind AObj.cs = some [I (max t.snow o.snow), I (max t.soak o.soak), vl, vr] := by rw [xD.get _ (by omega)]; exact e3
        have tD : (HD.get G1.next).bind AObj.cs = some [cvN, I g.slo, I g.shi, I g.klo, I g.khi, I g.melt] := by rw [qD.ext.get _ (by first | omega | (simp only [hNw, hPt]; omega))]; first | assumption | (rw [gp0]; rfl)
        refine OkO.nil ⟨(sco (sld rfl rfl (ldg (n := 6) (by kernel_rfl) (by first | assumption | (simp (disch := first | omega | (simp only [hNw, hPt]; omega)) only [gn0, gn1, gn2, gn3, gn4, gn5, gp0, gno, gpo] <;> first | rfl | assumption)) (by first | rfl | assumption)) rfl (eqr _ (by first | rfl | exact lpl (by assumption) | (simp [AV.plain, AV.plains, AV.cells, pc, plP, prP, plO, prO, plM, prM, pcN])))) rfl), ?_⟩
        refine OkP.step ?_
        refine OkO.callE rfl rfl rfl rfl rfl (c20 (m + 2) cvA dvB lvD rvD cs g ds t lvs rain _ (rA.ext (qB.ext.trans qD.ext)) (by omega) (rB.ext qD.ext) (by omega) lD (by omega) rD (by omega) hte) ?_ -- "sackung/water.Run"
        rintro vR1 HR1 ⟨v6R1, v7R1, rfl, qR1, lsR1, inR1⟩
        have gR1 : Grow W HR1 := Grow.ret gD qR1
        have xR1 : Ext G1 HR1 := Ext.trans xD qR1.ext
        have nR1 : HN.next ≤ HR1.next := by have := qR1.ext.next; first | omega | (simp only [hNw, hPt] at this; omega)
        have aR1 : (HR1.get W.next).bind AObj.cs = some [cv, I g.slo, I g.shi, I g.klo, I g.khi, I g.melt] := by rw [xR1.get _ (by omega)]; exact ea
        have pR1 : (HR1.get (W.next + 1)).bind AObj.cs = some [I t.snow, I t.soak, lvP, rvP] := by rw [xR1.get _ (by omega)]; exact e0
        have mR1 : (HR1.get HO.next).bind AObj.cs = some [I (max t.snow o.snow), I (max t.soak o.soak), vl, vr] := by rw [xR1.get _ (by omega)]; exact e3
        have tR1 : (HR1.get G1.next).bind AObj.cs = some [cvN, I g.slo, I g.shi, I g.klo, I g.khi, I g.melt] := by rw [qR1.ext.get _ (by first | omega | (simp only [hNw, hPt]; omega))]; first | assumption | (rw [gp0]; rfl)
        refine OkO.nil ⟨(sco (sld rfl rfl (ldg (n := 4) (by kernel_rfl) (by first | assumption | (simp (disch := first | omega | (simp only [hNw, hPt]; omega)) only [gn0, gn1, gn2, gn3, gn4, gn5, gp0, gno, gpo] <;> first | rfl | assumption)) (by first | rfl | assumption)) rfl (eqr _ (by first | rfl | exact lpl (by assumption) | (simp [AV.plain, AV.plains, AV.cells, pc, plP, prP, plO, prO, plM, prM, pcN])))) (sco (sld rfl rfl (ldg (n := 6) (by kernel_rfl) (by first | assumption | (simp (disch := first | omega | (simp only [hNw, hPt]; omega)) only [gn0, gn1, gn2, gn3, gn4, gn5, gp0, gno, gpo] <;> first | rfl | assumption)) (by first | rfl | assumption)) rfl (eqr _ (by first | rfl | exact lpl (by assumption) | (simp [AV.plain, AV.plains, AV.cells, pc, plP, prP, plO, prO, plM, prM, pcN])))) rfl)), ?_⟩
        refine OkP.step ?_
        refine OkO.move rfl rfl ?_
        refine OkO.nil ⟨rfl, ?_⟩
        refine OkP.step ?_
        refine OkO.extract rfl rfl rfl ?_
        refine OkO.nil ⟨rfl, ?_⟩
        refine OkP.step ?_
        refine OkO.extract rfl rfl rfl ?_
        refine OkO.nil ⟨rfl, ?_⟩
        refine OkP.step ?_
        refine OkO.extract rfl rfl rfl ?_
        refine OkO.nil ⟨rfl, ?_⟩
        refine OkP.step ?_
        refine OkO.extract rfl rfl rfl ?_
        refine OkO.nil ⟨rfl, ?_⟩
        refine OkP.step ?_
        refine OkO.assign rfl rfl ?_
        refine OkO.nil ⟨rfl, ?_⟩
        refine OkP.step ?_
        refine OkO.assign rfl rfl ?_
        refine OkO.nil ⟨rfl, ?_⟩
        refine OkP.step ?_
        refine OkO.assign rfl rfl ?_
        refine OkO.nil ⟨rfl, ?_⟩
        refine OkP.step ?_
        refine OkO.assign rfl rfl ?_
        refine OkO.nil ⟨rfl, ?_⟩
        refine OkP.nil ?_
        refine Ok.seq ?_
        refine Ok.drawn [(0, true, []), (2, true, []), (4, true, []), (1, false, [4]), (3, false, [4, 0]), (5, false, [0]), (6, false, [4, 0]), (7, true, []), (8, true, []), (9, true, []), (10, true, []), (11, true, []), (12, true, []), (13, true, []), (14, true, []), (15, true, [])] (by kernel_rfl) ?_
        refine OkP.step ?_
        refine OkO.load rfl rfl (ldg (n := 6) (by kernel_rfl) (by first | assumption | (simp (disch := first | omega | (simp only [hNw, hPt]; omega)) only [gn0, gn1, gn2, gn3, gn4, gn5, gp0, gno, gpo] <;> first | rfl | assumption)) (by first | rfl | assumption)) ?_
        refine OkO.nil ⟨rfl, ?_⟩
        refine OkP.step ?_
        refine OkO.move rfl rfl ?_
        refine OkO.nil ⟨rfl, ?_⟩
        refine OkP.step ?_
        refine OkO.load rfl rfl (ldg (n := 4) (by kernel_rfl) (by first | assumption | (simp (disch := first | omega | (simp only [hNw, hPt]; omega)) only [gn0, gn1, gn2, gn3, gn4, gn5, gp0, gno, gpo] <;> first | rfl | assumption)) (by first | rfl | assumption)) ?_
        refine OkO.nil ⟨rfl, ?_⟩
        refine OkP.step ?_
        refine OkO.callE rfl rfl rfl rfl rfl (c19 (m + 8) cv cs g _ (hR.ext (hE _ gR1)) (by omega)) ?_ -- "sackung/sackunglaw02.Ground"
        rintro vE HE ⟨cvE, rfl, qE, rE, atE⟩
        have gE : Grow W HE := Grow.ret gR1 qE
        have xE : Ext G1 HE := Ext.trans xR1 qE.ext
        have nE : HN.next ≤ HE.next := by have := qE.ext.next; first | omega | (simp only [hNw, hPt] at this; omega)
        have aE : (HE.get W.next).bind AObj.cs = some [cv, I g.slo, I g.shi, I g.klo, I g.khi, I g.melt] := by rw [xE.get _ (by omega)]; exact ea
        have pE : (HE.get (W.next + 1)).bind AObj.cs = some [I t.snow, I t.soak, lvP, rvP] := by rw [xE.get _ (by omega)]; exact e0
        have mE : (HE.get HO.next).bind AObj.cs = some [I (max t.snow o.snow), I (max t.soak o.soak), vl, vr] := by rw [xE.get _ (by omega)]; exact e3
        have tE : (HE.get G1.next).bind AObj.cs = some [cvN, I g.slo, I g.shi, I g.klo, I g.khi, I g.melt] := by rw [qE.ext.get _ (by first | omega | (simp only [hNw, hPt]; omega))]; first | assumption | (rw [gp0]; rfl)
        refine OkO.nil ⟨(sco (sld rfl rfl (ldg (n := 4) (by kernel_rfl) (by first | assumption | (simp (disch := first | omega | (simp only [hNw, hPt]; omega)) only [gn0, gn1, gn2, gn3, gn4, gn5, gp0, gno, gpo] <;> first | rfl | assumption)) (by first | rfl | assumption)) rfl (eqr _ (by first | rfl | exact lpl (by assumption) | (simp [AV.plain, AV.plains, AV.cells, pc, plP, prP, plO, prO, plM, prM, pcN])))) rfl), ?_⟩
        refine OkP.step ?_
        refine OkO.callE rfl rfl rfl rfl rfl (c21 (m + 8) dv ds _ (hY.ext (hE _ gE)) (by omega)) ?_ -- "sackung/sackunglaw02.Days"
        rintro dvF HF ⟨qF, rF, atF⟩
        have gF : Grow W HF := Grow.ret gE qF
        have xF : Ext G1 HF := Ext.trans xE qF.ext
        have nF : HN.next ≤ HF.next := by have := qF.ext.next; first | omega | (simp only [hNw, hPt] at this; omega)
        have aF : (HF.get W.next).bind AObj.cs = some [cv, I g.slo, I g.shi, I g.klo, I g.khi, I g.melt] := by rw [xF.get _ (by omega)]; exact ea
        have pF : (HF.get (W.next + 1)).bind AObj.cs = some [I t.snow, I t.soak, lvP, rvP] := by rw [xF.get _ (by omega)]; exact e0
        have mF : (HF.get HO.next).bind AObj.cs = some [I (max t.snow o.snow), I (max t.soak o.soak), vl, vr] := by rw [xF.get _ (by omega)]; exact e3
        have tF : (HF.get G1.next).bind AObj.cs = some [cvN, I g.slo, I g.shi, I g.klo, I g.khi, I g.melt] := by rw [qF.ext.get _ (by first | omega | (simp only [hNw, hPt]; omega))]; first | assumption | (rw [gp0]; rfl)
        refine OkO.nil ⟨(sco (sld rfl rfl (ldg (n := 4) (by kernel_rfl) (by first | assumption | (simp (disch := first | omega | (simp only [hNw, hPt]; omega)) only [gn0, gn1, gn2, gn3, gn4, gn5, gp0, gno, gpo] <;> first | rfl | assumption)) (by first | rfl | assumption)) rfl (eqr _ (by first | rfl | exact lpl (by assumption) | (simp [AV.plain, AV.plains, AV.cells, pc, plP, prP, plO, prO, plM, prM, pcN])))) (sco (sld rfl rfl (ldg (n := 6) (by kernel_rfl) (by first | assumption | (simp (disch := first | omega | (simp only [hNw, hPt]; omega)) only [gn0, gn1, gn2, gn3, gn4, gn5, gp0, gno, gpo] <;> first | rfl | assumption)) (by first | rfl | assumption)) rfl (eqr _ (by first | rfl | exact lpl (by assumption) | (simp [AV.plain, AV.plains, AV.cells, pc, plP, prP, plO, prO, plM, prM, pcN])))) rfl)), ?_⟩
        refine OkP.step ?_
        refine OkO.callE rfl rfl rfl rfl rfl (c22 (m + 8) vl vr (maxT t o) (maxL lvs lvs2) (maxL rain rain2) _ (IL.ext xF) (by omega) (IR.ext xF) (by omega)) ?_ -- "sackung/sackunglaw02.Truth"
        rintro vJ HJ ⟨lvJ, rvJ, rfl, qJ, lJ, rJ⟩
        have gJ : Grow W HJ := Grow.ret gF qJ
        have xJ : Ext G1 HJ := Ext.trans xF qJ.ext
        have nJ : HN.next ≤ HJ.next := by have := qJ.ext.next; first | omega | (simp only [hNw, hPt] at this; omega)
        have aJ : (HJ.get W.next).bind AObj.cs = some [cv, I g.slo, I g.shi, I g.klo, I g.khi, I g.melt] := by rw [xJ.get _ (by omega)]; exact ea
        have pJ : (HJ.get (W.next + 1)).bind AObj.cs = some [I t.snow, I t.soak, lvP, rvP] := by rw [xJ.get _ (by omega)]; exact e0
        have mJ : (HJ.get HO.next).bind AObj.cs = some [I (max t.snow o.snow), I (max t.soak o.soak), vl, vr] := by rw [xJ.get _ (by omega)]; exact e3
        have tJ : (HJ.get G1.next).bind AObj.cs = some [cvN, I g.slo, I g.shi, I g.klo, I g.khi, I g.melt] := by rw [qJ.ext.get _ (by first | omega | (simp only [hNw, hPt]; omega))]; first | assumption | (rw [gp0]; rfl)
        refine OkO.nil ⟨(sco (sld rfl rfl (ldg (n := 6) (by kernel_rfl) (by first | assumption | (simp (disch := first | omega | (simp only [hNw, hPt]; omega)) only [gn0, gn1, gn2, gn3, gn4, gn5, gp0, gno, gpo] <;> first | rfl | assumption)) (by first | rfl | assumption)) rfl (eqr _ (by first | rfl | exact lpl (by assumption) | (simp [AV.plain, AV.plains, AV.cells, pc, plP, prP, plO, prO, plM, prM, pcN])))) rfl), ?_⟩
        refine OkP.step ?_
        refine OkO.callE rfl rfl rfl rfl rfl (c20 (m + 2) cvE dvF lvJ rvJ cs g ds (maxT t o) (maxL lvs lvs2) (maxL rain rain2) _ (rE.ext (qF.ext.trans qJ.ext)) (by omega) (rF.ext qJ.ext) (by omega) lJ (by omega) rJ (by omega) hmaxok) ?_ -- "sackung/water.Run"
        rintro vR2 HR2 ⟨v6R2, v7R2, rfl, qR2, lsR2, inR2⟩
        have gR2 : Grow W HR2 := Grow.ret gJ qR2
        have xR2 : Ext G1 HR2 := Ext.trans xJ qR2.ext
        have nR2 : HN.next ≤ HR2.next := by have := qR2.ext.next; first | omega | (simp only [hNw, hPt] at this; omega)
        have aR2 : (HR2.get W.next).bind AObj.cs = some [cv, I g.slo, I g.shi, I g.klo, I g.khi, I g.melt] := by rw [xR2.get _ (by omega)]; exact ea
        have pR2 : (HR2.get (W.next + 1)).bind AObj.cs = some [I t.snow, I t.soak, lvP, rvP] := by rw [xR2.get _ (by omega)]; exact e0
        have mR2 : (HR2.get HO.next).bind AObj.cs = some [I (max t.snow o.snow), I (max t.soak o.soak), vl, vr] := by rw [xR2.get _ (by omega)]; exact e3
        have tR2 : (HR2.get G1.next).bind AObj.cs = some [cvN, I g.slo, I g.shi, I g.klo, I g.khi, I g.melt] := by rw [qR2.ext.get _ (by first | omega | (simp only [hNw, hPt]; omega))]; first | assumption | (rw [gp0]; rfl)
        refine OkO.nil ⟨(sco (sld rfl rfl (ldg (n := 4) (by kernel_rfl) (by first | assumption | (simp (disch := first | omega | (simp only [hNw, hPt]; omega)) only [gn0, gn1, gn2, gn3, gn4, gn5, gp0, gno, gpo] <;> first | rfl | assumption)) (by first | rfl | assumption)) rfl (eqr _ (by first | rfl | exact lpl (by assumption) | (simp [AV.plain, AV.plains, AV.cells, pc, plP, prP, plO, prO, plM, prM, pcN])))) (sco (sld rfl rfl (ldg (n := 6) (by kernel_rfl) (by first | assumption | (simp (disch := first | omega | (simp only [hNw, hPt]; omega)) only [gn0, gn1, gn2, gn3, gn4, gn5, gp0, gno, gpo] <;> first | rfl | assumption)) (by first | rfl | assumption)) rfl (eqr _ (by first | rfl | exact lpl (by assumption) | (simp [AV.plain, AV.plains, AV.cells, pc, plP, prP, plO, prO, plM, prM, pcN])))) rfl)), ?_⟩
        refine OkP.step ?_
        refine OkO.move rfl rfl ?_
        refine OkO.nil ⟨rfl, ?_⟩
        refine OkP.step ?_
        refine OkO.extract rfl rfl rfl ?_
        refine OkO.nil ⟨rfl, ?_⟩
        refine OkP.step ?_
        refine OkO.extract rfl rfl rfl ?_
        refine OkO.nil ⟨rfl, ?_⟩
        refine OkP.step ?_
        refine OkO.extract rfl rfl rfl ?_
        refine OkO.nil ⟨rfl, ?_⟩
        refine OkP.step ?_
        refine OkO.extract rfl rfl rfl ?_
        refine OkO.nil ⟨rfl, ?_⟩
        refine OkP.step ?_
        refine OkO.assign rfl rfl ?_
        refine OkO.nil ⟨rfl, ?_⟩
        refine OkP.step ?_
        refine OkO.assign rfl rfl ?_
        refine OkO.nil ⟨rfl, ?_⟩
        refine OkP.step ?_
        refine OkO.assign rfl rfl ?_
        refine OkO.nil ⟨rfl, ?_⟩
        refine OkP.step ?_
        refine OkO.assign rfl rfl ?_
        refine OkO.nil ⟨rfl, ?_⟩
        refine OkP.nil ?_
        refine Ok.seq ?_
        refine Ok.drawn [(0, true, []), (2, true, []), (4, true, []), (1, false, [4]), (3, false, [4, 0]), (5, false, [0]), (6, false, [4, 0]), (7, true, []), (8, true, []), (9, true, []), (10, true, []), (11, true, []), (12, true, []), (13, true, []), (14, true, []), (15, true, [])] (by kernel_rfl) ?_
        refine OkP.step ?_
        refine OkO.load rfl rfl (ldg (n := 6) (by kernel_rfl) (by first | assumption | (simp (disch := first | omega | (simp only [hNw, hPt]; omega)) only [gn0, gn1, gn2, gn3, gn4, gn5, gp0, gno, gpo] <;> first | rfl | assumption)) (by first | rfl | assumption)) ?_
        refine OkO.nil ⟨rfl, ?_⟩
        refine OkP.step ?_
        refine OkO.move rfl rfl ?_
        refine OkO.nil ⟨rfl, ?_⟩
        refine OkP.step ?_
        refine OkO.load rfl rfl (ldg (n := 4) (by kernel_rfl) (by first | assumption | (simp (disch := first | omega | (simp only [hNw, hPt]; omega)) only [gn0, gn1, gn2, gn3, gn4, gn5, gp0, gno, gpo] <;> first | rfl | assumption)) (by first | rfl | assumption)) ?_
        refine OkO.nil ⟨rfl, ?_⟩
        refine OkP.step ?_
        refine OkO.callE rfl rfl rfl rfl rfl (c19 (m + 8) cvN (setP cs k (min 100000 (cs[k].pump + x))) g _ (rN2.ext (qA.ext.trans (qB.ext.trans (qD.ext.trans (qR1.ext.trans (qE.ext.trans (qF.ext.trans (qJ.ext.trans (qR2.ext))))))))) (by rw [setP_len]; omega)) ?_ -- "sackung/sackunglaw02.Ground"
        rintro vK HK ⟨cvK, rfl, qK, rK, atK⟩
        have gK : Grow W HK := Grow.ret gR2 qK
        have xK : Ext G1 HK := Ext.trans xR2 qK.ext
        have nK : HN.next ≤ HK.next := by have := qK.ext.next; first | omega | (simp only [hNw, hPt] at this; omega)
        have aK : (HK.get W.next).bind AObj.cs = some [cv, I g.slo, I g.shi, I g.klo, I g.khi, I g.melt] := by rw [xK.get _ (by omega)]; exact ea
        have pK : (HK.get (W.next + 1)).bind AObj.cs = some [I t.snow, I t.soak, lvP, rvP] := by rw [xK.get _ (by omega)]; exact e0
        have mK : (HK.get HO.next).bind AObj.cs = some [I (max t.snow o.snow), I (max t.soak o.soak), vl, vr] := by rw [xK.get _ (by omega)]; exact e3
        have tK : (HK.get G1.next).bind AObj.cs = some [cvN, I g.slo, I g.shi, I g.klo, I g.khi, I g.melt] := by rw [qK.ext.get _ (by first | omega | (simp only [hNw, hPt]; omega))]; first | assumption | (rw [gp0]; rfl)
        refine OkO.nil ⟨(sco (sld rfl rfl (ldg (n := 4) (by kernel_rfl) (by first | assumption | (simp (disch := first | omega | (simp only [hNw, hPt]; omega)) only [gn0, gn1, gn2, gn3, gn4, gn5, gp0, gno, gpo] <;> first | rfl | assumption)) (by first | rfl | assumption)) rfl (eqr _ (by first | rfl | exact lpl (by assumption) | (simp [AV.plain, AV.plains, AV.cells, pc, plP, prP, plO, prO, plM, prM, pcN])))) rfl), ?_⟩
        refine OkP.step ?_
        refine OkO.callE rfl rfl rfl rfl rfl (c21 (m + 8) dv ds _ (hY.ext (hE _ gK)) (by omega)) ?_ -- "sackung/sackunglaw02.Days"
        rintro dvL HL ⟨qL, rL, atL⟩
        have gL : Grow W HL := Grow.ret gK qL
        have xL : Ext G1 HL := Ext.trans xK qL.ext
        have nL : HN.next ≤ HL.next := by have := qL.ext.next; first | omega | (simp only [hNw, hPt] at this; omega)
        have aL : (HL.get W.next).bind AObj.cs = some [cv, I g.slo, I g.shi, I g.klo, I g.khi, I g.melt] := by rw [xL.get _ (by omega)]; exact ea
        have pL : (HL.get (W.next + 1)).bind AObj.cs = some [I t.snow, I t.soak, lvP, rvP] := by rw [xL.get _ (by omega)]; exact e0
        have mL : (HL.get HO.next).bind AObj.cs = some [I (max t.snow o.snow), I (max t.soak o.soak), vl, vr] := by rw [xL.get _ (by omega)]; exact e3
        have tL : (HL.get G1.next).bind AObj.cs = some [cvN, I g.slo, I g.shi, I g.klo, I g.khi, I g.melt] := by rw [qL.ext.get _ (by first | omega | (simp only [hNw, hPt]; omega))]; first | assumption | (rw [gp0]; rfl)
        refine OkO.nil ⟨(sco (sld rfl rfl (ldg (n := 4) (by kernel_rfl) (by first | assumption | (simp (disch := first | omega | (simp only [hNw, hPt]; omega)) only [gn0, gn1, gn2, gn3, gn4, gn5, gp0, gno, gpo] <;> first | rfl | assumption)) (by first | rfl | assumption)) rfl (eqr _ (by first | rfl | exact lpl (by assumption) | (simp [AV.plain, AV.plains, AV.cells, pc, plP, prP, plO, prO, plM, prM, pcN])))) (sco (sld rfl rfl (ldg (n := 6) (by kernel_rfl) (by first | assumption | (simp (disch := first | omega | (simp only [hNw, hPt]; omega)) only [gn0, gn1, gn2, gn3, gn4, gn5, gp0, gno, gpo] <;> first | rfl | assumption)) (by first | rfl | assumption)) rfl (eqr _ (by first | rfl | exact lpl (by assumption) | (simp [AV.plain, AV.plains, AV.cells, pc, plP, prP, plO, prO, plM, prM, pcN])))) rfl)), ?_⟩
        refine OkP.step ?_
        refine OkO.callE rfl rfl rfl rfl rfl (c22 (m + 8) lvP rvP t lvs rain _ (LPG.ext xL) (by omega) (RPG.ext xL) (by omega)) ?_ -- "sackung/sackunglaw02.Truth"
        rintro vM HM ⟨lvM, rvM, rfl, qM, lM, rM⟩
        have gM : Grow W HM := Grow.ret gL qM
        have xM : Ext G1 HM := Ext.trans xL qM.ext
        have nM : HN.next ≤ HM.next := by have := qM.ext.next; first | omega | (simp only [hNw, hPt] at this; omega)
        have aM : (HM.get W.next).bind AObj.cs = some [cv, I g.slo, I g.shi, I g.klo, I g.khi, I g.melt] := by rw [xM.get _ (by omega)]; exact ea
        have pM : (HM.get (W.next + 1)).bind AObj.cs = some [I t.snow, I t.soak, lvP, rvP] := by rw [xM.get _ (by omega)]; exact e0
        have mM : (HM.get HO.next).bind AObj.cs = some [I (max t.snow o.snow), I (max t.soak o.soak), vl, vr] := by rw [xM.get _ (by omega)]; exact e3
        have tM : (HM.get G1.next).bind AObj.cs = some [cvN, I g.slo, I g.shi, I g.klo, I g.khi, I g.melt] := by rw [qM.ext.get _ (by first | omega | (simp only [hNw, hPt]; omega))]; first | assumption | (rw [gp0]; rfl)
        refine OkO.nil ⟨(sco (sld rfl rfl (ldg (n := 6) (by kernel_rfl) (by first | assumption | (simp (disch := first | omega | (simp only [hNw, hPt]; omega)) only [gn0, gn1, gn2, gn3, gn4, gn5, gp0, gno, gpo] <;> first | rfl | assumption)) (by first | rfl | assumption)) rfl (eqr _ (by first | rfl | exact lpl (by assumption) | (simp [AV.plain, AV.plains, AV.cells, pc, plP, prP, plO, prO, plM, prM, pcN])))) rfl), ?_⟩
        refine OkP.step ?_
        refine OkO.callE rfl rfl rfl rfl rfl (c20 (m + 2) cvK dvL lvM rvM (setP cs k (min 100000 (cs[k].pump + x))) g ds t lvs rain _ (rK.ext (qL.ext.trans qM.ext)) (by rw [setP_len]; omega) (rL.ext qM.ext) (by omega) lM (by omega) rM (by omega) hteC) ?_ -- "sackung/water.Run"
        rintro vR3 HR3 ⟨v6R3, v7R3, rfl, qR3, lsR3, inR3⟩
        have gR3 : Grow W HR3 := Grow.ret gM qR3
        have xR3 : Ext G1 HR3 := Ext.trans xM qR3.ext
        have nR3 : HN.next ≤ HR3.next := by have := qR3.ext.next; first | omega | (simp only [hNw, hPt] at this; omega)
        have aR3 : (HR3.get W.next).bind AObj.cs = some [cv, I g.slo, I g.shi, I g.klo, I g.khi, I g.melt] := by rw [xR3.get _ (by omega)]; exact ea
        have pR3 : (HR3.get (W.next + 1)).bind AObj.cs = some [I t.snow, I t.soak, lvP, rvP] := by rw [xR3.get _ (by omega)]; exact e0
        have mR3 : (HR3.get HO.next).bind AObj.cs = some [I (max t.snow o.snow), I (max t.soak o.soak), vl, vr] := by rw [xR3.get _ (by omega)]; exact e3
        have tR3 : (HR3.get G1.next).bind AObj.cs = some [cvN, I g.slo, I g.shi, I g.klo, I g.khi, I g.melt] := by rw [qR3.ext.get _ (by first | omega | (simp only [hNw, hPt]; omega))]; first | assumption | (rw [gp0]; rfl)
        have lsA := lsR1.ext ((qE.ext.trans (qF.ext.trans (qJ.ext.trans qR2.ext))).trans (qK.ext.trans (qL.ext.trans (qM.ext.trans qR3.ext))))
        have lsB := lsR2.ext (qK.ext.trans (qL.ext.trans (qM.ext.trans qR3.ext)))
        obtain ⟨va, a1, a2, a3⟩ := id lsA
        obtain ⟨vb, b1, b2, b3⟩ := id lsB
        obtain ⟨vc, c1, c2, c3⟩ := id lsR3
        have ka : va.length = ds.length := by rw [a2]; simp [rowsR]
        have kb : vb.length = ds.length := by rw [b2]; simp [rowsR]
        have kc : vc.length = ds.length := by rw [c2]; simp [rowsR]
        have la : lenOf v6R1 = some ds.length := by rw [a1.len]; simp [ka]
        have hrl : (rowsR cs g ds t lvs rain ds.length).length = ds.length := by simp [rowsR]
        have hsn := (sd_mono (melt := g.melt) (ds := ds) (maxL_le (a := rain) (b := rain2) (by omega)) (show t.snow ≤ (maxT t o).snow from by unfold maxT; dsimp only; omega) ds.length).1
        have hup : ∀ i, i ≤ ds.length → LeL (levP cs g ds t lvs rain i) (levP cs g ds (maxT t o) (maxL lvs lvs2) (maxL rain rain2) i) := fun i hi => lev_mono hFM hF rfl (fun _ _ => LeC.refl _) rfl (by unfold maxT; dsimp only; omega) (by unfold maxT; dsimp only; omega) (maxL_le (by omega)) (maxL_le (by omega)) i hi
        have hdn : ∀ i, i ≤ ds.length → LeL (levP (setP cs k (min 100000 (cs[k].pump + x))) g ds t lvs rain i) (levP cs g ds t lvs rain i) := fun i hi => lev_mono hF hFC setP_len (setP_le hkl (by omega)) rfl (Int.le_refl _) (Int.le_refl _) (fun _ => Int.le_refl _) (fun _ => Int.le_refl _) i hi
        refine OkO.nil ⟨(sco (sld rfl rfl (ldg (n := 4) (by kernel_rfl) (by first | assumption | (simp (disch := first | omega | (simp only [hNw, hPt]; omega)) only [gn0, gn1, gn2, gn3, gn4, gn5, gp0, gno, gpo] <;> first | rfl | assumption)) (by first | rfl | assumption)) rfl (eqr _ (by first | rfl | exact lpl (by assumption) | (simp [AV.plain, AV.plains, AV.cells, pc, plP, prP, plO, prO, plM, prM, pcN])))) (sco (sld rfl rfl (ldg (n := 6) (by kernel_rfl) (by first | assumption | (simp (disch := first | omega | (simp only [hNw, hPt]; omega)) only [gn0, gn1, gn2, gn3, gn4, gn5, gp0, gno, gpo] <;> first | rfl | assumption)) (by first | rfl | assumption)) rfl (eqr _ (by first | rfl | exact lpl (by assumption) | (simp [AV.plain, AV.plains, AV.cells, pc, plP, prP, plO, prO, plM, prM, pcN])))) rfl)), ?_⟩
        refine OkP.step ?_
        refine OkO.move rfl rfl ?_
        refine OkO.nil ⟨rfl, ?_⟩
        refine OkP.step ?_
        refine OkO.extract rfl rfl rfl ?_
        refine OkO.nil ⟨rfl, ?_⟩
        refine OkP.step ?_
        refine OkO.extract rfl rfl rfl ?_
        refine OkO.nil ⟨rfl, ?_⟩
        refine OkP.step ?_
        refine OkO.extract rfl rfl rfl ?_
        refine OkO.nil ⟨rfl, ?_⟩
        refine OkP.step ?_
        refine OkO.extract rfl rfl rfl ?_
        refine OkO.nil ⟨rfl, ?_⟩
        refine OkP.step ?_
        refine OkO.assign rfl rfl ?_
        refine OkO.nil ⟨rfl, ?_⟩
        refine OkP.step ?_
        refine OkO.assign rfl rfl ?_
        refine OkO.nil ⟨rfl, ?_⟩
        refine OkP.step ?_
        refine OkO.assign rfl rfl ?_
        refine OkO.nil ⟨rfl, ?_⟩
        refine OkP.step ?_
        refine OkO.assign rfl rfl ?_
        refine OkO.nil ⟨rfl, ?_⟩
        refine OkP.nil ?_
        refine Ok.seq ?_
        refine Ok.seq ?_
        refine Ok.region ?_
        refine OkO.move rfl rfl ?_
        refine OkO.bin rfl rfl rfl (bin_neq _ _) ?_
        refine OkO.move rfl rfl ?_
        refine OkO.split (d := 161) rfl (fun g4 => ?_) (fun g4 => ?_)
        · -- true g4
          exact absurd g4 (by simp)
        · -- false g4
          refine OkO.move rfl rfl ?_
          refine OkO.bin rfl rfl rfl (bin_neq _ _) ?_
          refine OkO.pick (b := false) rfl rfl nofun (fun _ => rfl) ?_
          refine OkO.move rfl rfl ?_
          refine OkO.split (d := 165) rfl (fun g5 => ?_) (fun g5 => ?_)
          · -- true g5
            exact absurd g5 (by simp)
          · -- false g5
            refine OkO.move rfl rfl ?_
            refine OkO.bin rfl rfl rfl (bin_neq _ _) ?_
            refine OkO.pick (b := false) rfl rfl nofun (fun _ => rfl) ?_
            refine OkO.move rfl rfl ?_
            refine OkO.split (d := 169) rfl (fun g6 => ?_) (fun g6 => ?_)
            · -- true g6
              exact absurd g6 (by simp)
            · -- false g6
              refine OkO.move rfl rfl ?_
              refine OkO.move rfl rfl ?_
              refine OkO.callV rfl rfl rfl rfl rfl (c45 _ v6R1 v6R2 _ _ _ lsA lsB smM (by omega)) ?_ -- "sackung/sackunglaw02.rows"
              refine OkO.un rfl rfl rfl ?_
              refine OkO.pick (b := false) rfl rfl nofun (fun _ => rfl) ?_
              refine OkO.move rfl rfl ?_
              refine OkO.split (d := 175) rfl (fun g7 => ?_) (fun g7 => ?_)
              · -- true g7
                exact absurd g7 (by simp)
              · -- false g7
                refine OkO.move rfl rfl ?_
                refine OkO.move rfl rfl ?_
                refine OkO.callV rfl rfl rfl rfl rfl (c45 _ v6R1 v6R3 _ _ _ lsA lsR3 smC (by omega)) ?_ -- "sackung/sackunglaw02.rows"
                refine OkO.un rfl rfl rfl ?_
                refine OkO.pick (b := false) rfl rfl nofun (fun _ => rfl) ?_
                refine OkO.move rfl rfl ?_
                refine OkO.split (d := 181) rfl (fun g8 => ?_) (fun g8 => ?_)
                · -- true g8
                  exact absurd g8 (by simp)
                · -- false g8
                  refine OkO.move rfl rfl ?_
                  refine OkO.move rfl rfl ?_
                  refine OkO.bin rfl rfl rfl (bin_lss _ _) ?_
                  refine OkO.pick (b := false) rfl rfl nofun (fun _ => rfl) ?_
                  refine OkO.nil ?_
                  refine Ok.cond rfl (fun h9 => ?_) (fun h9 => ?_)
                  · -- yes h9
                    exact absurd (of_decide_eq_true h9) (by omega)
                  · -- no h9
                    refine Ok.skip ?_
                    refine Ok.seq ?_
                    refine Ok.seq ?_
                    refine Ok.region ?_
                    refine OkO.assign rfl rfl ?_
                    refine OkO.nil ?_
                    refine Ok.block ?_
                    refine Ok.loop (fun n s => ∃ i : Nat, n = ds.length - i ∧ i ≤ ds.length ∧ HR3 = s.H ∧ Has 8 [(1, dv), (6, .ptr W.next 0), (20, v6R1), (24, v6R2), (28, v6R3), (32, I (i : Int))] s.T ∧ s.D = [] ∧ Grow W s.H) (ds.length) (by unfold loopFuel; omega)
                      ⟨0, rfl, Nat.zero_le _, rfl, Has.of (by kernel_rfl), rfl, gR3⟩ ?_
                    rintro n ⟨T, D, G⟩ ⟨i, hn, hi, hH, ⟨f, hT⟩, hD, hg⟩
                    dsimp only at *
                    subst hT hD
                    have hgn := hg.next
                    subst hH
                    refine Ok.seq ?_
                    refine Ok.seq ?_
                    refine Ok.region ?_
                    refine OkO.move rfl rfl ?_
                    refine OkO.move rfl rfl ?_
                    refine OkO.builtin rfl rfl rfl (bln (by kernel_rfl) (by first | assumption | rfl)) ?_
                    refine OkO.bin rfl rfl rfl (bin_lss _ _) ?_
                    refine OkO.nil ?_
                    refine Ok.cond rfl (fun h10 => ?_) (fun h10 => ?_)
                    · -- yes h10
                      have hlt : i < ds.length := by simpa using h10
                      have isa : i < va.length := by omega
                      obtain ⟨sab, sao, sacs, sa1, sa2, sa3, sa4⟩ := a1.at_ i [va[i]] (by simp [isa])
                      have sa5 := seg_one sa3
                      have isb : i < vb.length := by omega
                      obtain ⟨sbb, sbo, sbcs, sb1, sb2, sb3, sb4⟩ := b1.at_ i [vb[i]] (by simp [isb])
                      have sb5 := seg_one sb3
                      have isc : i < vc.length := by omega
                      obtain ⟨scb, sco, sccs, sc1, sc2, sc3, sc4⟩ := c1.at_ i [vc[i]] (by simp [isc])
                      have sc5 := seg_one sc3
                      have ra : Ints HR3 va[i] ((levP cs g ds t lvs rain (i + 1)).take cs.length) := a3 i va[i] _ (List.getElem?_eq_getElem (by omega)) (by rw [rowsR, List.getElem?_map, List.getElem?_range hlt]; rfl)
                      have rb : Ints HR3 vb[i] ((levP cs g ds (maxT t o) (maxL lvs lvs2) (maxL rain rain2) (i + 1)).take cs.length) := b3 i vb[i] _ (List.getElem?_eq_getElem (by omega)) (by rw [rowsR, List.getElem?_map, List.getElem?_range hlt]; rfl)
                      have rc : Ints HR3 vc[i] ((levP (setP cs k (min 100000 (cs[k].pump + x))) g ds t lvs rain (i + 1)).take cs.length) := c3 i vc[i] _ (List.getElem?_eq_getElem (by omega)) (by rw [rowsR, List.getElem?_map, List.getElem?_range hlt, setP_len]; rfl)
                      have fa := lev_facts hF (i + 1) (by omega)
                      have fb := lev_facts hFM (i + 1) (by omega)
                      have fc := lev_facts hFC (i + 1) (by omega)
                      have lx : lenOf va[i] = some cs.length := by rw [ra.len]; simp; omega
                      refine Ok.skip ?_
                      refine Ok.seq ?_
                      refine Ok.block ?_
                      refine Ok.seq ?_
                      refine Ok.region ?_
                      refine OkO.assign rfl rfl ?_
                      refine OkO.nil ?_
                      refine Ok.block ?_
                      refine Ok.loop (fun n s => ∃ j : Nat, n = cs.length - j ∧ j ≤ cs.length ∧ HR3 = s.H ∧ Has 8 [(1, dv), (6, .ptr W.next 0), (20, v6R1), (24, v6R2), (28, v6R3), (32, I (i : Int)), (33, I (j : Int))] s.T ∧ s.D = [] ∧ Grow W s.H) (cs.length) (by unfold loopFuel; omega)
                        ⟨0, rfl, Nat.zero_le _, rfl, Has.of (by kernel_rfl), rfl, gR3⟩ ?_
                      rintro n ⟨T, D, G⟩ ⟨j, hn2, hj, hH, ⟨f2, hT⟩, hD, hg⟩
                      dsimp only at *
                      subst hT hD
                      have hgn := hg.next
                      subst hH
                      refine Ok.seq ?_
                      refine Ok.seq ?_
                      refine Ok.region ?_
                      refine OkO.move rfl rfl ?_
                      refine OkO.move rfl rfl ?_
                      refine OkO.move rfl rfl ?_
                      refine OkO.index (sz := 1) (n := i) rfl rfl rfl (by kernel_rfl) (by first | assumption | rfl | exact slAt_slice (by omega)) ?_ -- index ('Go.Operand.tmp', 193) ('Go.Operand.tmp', 194)
                      refine OkO.load rfl rfl (lda (n := 1) (by kernel_rfl) (by first | assumption | (simp (disch := first | omega | (simp only [hNw, hPt]; omega)) only [gn0, gn1, gn2, gn3, gn4, gn5, gp0, gno, gpo] <;> first | rfl | assumption)) (by first | rfl | assumption)) ?_
                      refine OkO.builtin rfl rfl rfl (bln (by kernel_rfl) (by first | assumption | rfl)) ?_
                      refine OkO.bin rfl rfl rfl (bin_lss _ _) ?_
                      refine OkO.nil ?_
                      refine Ok.cond rfl (fun h11 => ?_) (fun h11 => ?_)
                      · -- yes h11
                        have hltk : j < cs.length := by simpa using h11
                        obtain ⟨jab, jao, jacs, ja1, ja2, ja3, ja4⟩ := ra.at_ j [I ((levP cs g ds t lvs rain (i + 1)).getD j 0)] (by rw [List.getElem?_map, List.getElem?_take, if_pos hltk, List.getElem?_eq_getElem (by omega), getD_lt (by omega)]; rfl)
                        have ja5 := seg_one ja3
                        obtain ⟨jbb, jbo, jbcs, jb1, jb2, jb3, jb4⟩ := rb.at_ j [I ((levP cs g ds (maxT t o) (maxL lvs lvs2) (maxL rain rain2) (i + 1)).getD j 0)] (by rw [List.getElem?_map, List.getElem?_take, if_pos hltk, List.getElem?_eq_getElem (by omega), getD_lt (by omega)]; rfl)
                        have jb5 := seg_one jb3
                        obtain ⟨jcb, jco, jccs, jc1, jc2, jc3, jc4⟩ := rc.at_ j [I ((levP (setP cs k (min 100000 (cs[k].pump + x))) g ds t lvs rain (i + 1)).getD j 0)] (by rw [List.getElem?_map, List.getElem?_take, if_pos hltk, List.getElem?_eq_getElem (by omega), getD_lt (by omega)]; rfl)
                        have jc5 := seg_one jc3
                        have hq1 := hup (i + 1) (by omega) j
                        have hq2 := hdn (i + 1) (by omega) j
                        refine Ok.skip ?_
                        refine Ok.seq ?_
                        refine Ok.block ?_
                        refine Ok.seq ?_
                        refine Ok.drawn [(0, true, []), (1, true, []), (2, true, []), (3, true, []), (4, true, []), (5, true, []), (6, true, []), (7, true, []), (8, true, []), (9, true, []), (10, true, []), (11, true, []), (12, true, []), (13, true, []), (14, true, []), (15, true, []), (16, true, []), (17, true, []), (18, true, []), (19, true, []), (20, true, []), (21, true, []), (22, true, []), (23, true, []), (24, true, []), (25, true, []), (26, true, []), (27, true, []), (28, true, []), (29, true, []), (30, true, []), (31, true, [])] (by kernel_rfl) ?_
                        refine OkP.step ?_
                        refine OkO.move rfl rfl ?_
                        refine OkO.nil ⟨rfl, ?_⟩
                        refine OkP.step ?_
                        refine OkO.move rfl rfl ?_
                        refine OkO.nil ⟨rfl, ?_⟩
                        refine OkP.step ?_
                        refine OkO.index (sz := 1) (n := i) rfl rfl rfl (by kernel_rfl) (by first | assumption | rfl | exact slAt_slice (by omega)) ?_ -- index ('Go.Operand.tmp', 201) ('Go.Operand.tmp', 202)
                        refine OkO.nil ⟨rfl, ?_⟩
                        refine OkP.step ?_
                        refine OkO.load rfl rfl (lda (n := 1) (by kernel_rfl) (by first | assumption | (simp (disch := first | omega | (simp only [hNw, hPt]; omega)) only [gn0, gn1, gn2, gn3, gn4, gn5, gp0, gno, gpo] <;> first | rfl | assumption)) (by first | rfl | assumption)) ?_
                        refine OkO.nil ⟨rfl, ?_⟩
                        refine OkP.step ?_
                        refine OkO.move rfl rfl ?_
                        refine OkO.nil ⟨rfl, ?_⟩
                        refine OkP.step ?_
                        refine OkO.index (sz := 1) (n := j) rfl rfl rfl (by kernel_rfl) (by first | assumption | rfl | exact slAt_slice (by omega)) ?_ -- index ('Go.Operand.tmp', 204) ('Go.Operand.tmp', 205)
                        refine OkO.nil ⟨rfl, ?_⟩
                        refine OkP.step ?_
                        refine OkO.load rfl rfl (lda (n := 1) (by kernel_rfl) (by first | assumption | (simp (disch := first | omega | (simp only [hNw, hPt]; omega)) only [gn0, gn1, gn2, gn3, gn4, gn5, gp0, gno, gpo] <;> first | rfl | assumption)) (by first | rfl | assumption)) ?_
                        refine OkO.nil ⟨rfl, ?_⟩
                        refine OkP.step ?_
                        refine OkO.move rfl rfl ?_
                        refine OkO.nil ⟨rfl, ?_⟩
                        refine OkP.step ?_
                        refine OkO.move rfl rfl ?_
                        refine OkO.nil ⟨rfl, ?_⟩
                        refine OkP.step ?_
                        refine OkO.index (sz := 1) (n := i) rfl rfl rfl (by kernel_rfl) (by first | assumption | rfl | exact slAt_slice (by omega)) ?_ -- index ('Go.Operand.tmp', 208) ('Go.Operand.tmp', 209)
                        refine OkO.nil ⟨rfl, ?_⟩
                        refine OkP.step ?_
                        refine OkO.load rfl rfl (lda (n := 1) (by kernel_rfl) (by first | assumption | (simp (disch := first | omega | (simp only [hNw, hPt]; omega)) only [gn0, gn1, gn2, gn3, gn4, gn5, gp0, gno, gpo] <;> first | rfl | assumption)) (by first | rfl | assumption)) ?_
                        refine OkO.nil ⟨rfl, ?_⟩
                        refine OkP.step ?_
                        refine OkO.move rfl rfl ?_
                        refine OkO.nil ⟨rfl, ?_⟩
                        refine OkP.step ?_
                        refine OkO.index (sz := 1) (n := j) rfl rfl rfl (by kernel_rfl) (by first | assumption | rfl | exact slAt_slice (by omega)) ?_ -- index ('Go.Operand.tmp', 211) ('Go.Operand.tmp', 212)
                        refine OkO.nil ⟨rfl, ?_⟩
                        refine OkP.step ?_
                        refine OkO.load rfl rfl (lda (n := 1) (by kernel_rfl) (by first | assumption | (simp (disch := first | omega | (simp only [hNw, hPt]; omega)) only [gn0, gn1, gn2, gn3, gn4, gn5, gp0, gno, gpo] <;> first | rfl | assumption)) (by first | rfl | assumption)) ?_
                        refine OkO.nil ⟨rfl, ?_⟩
                        refine OkP.step ?_
                        refine OkO.bin rfl rfl rfl (bin_lss _ _) ?_
                        refine OkO.nil ⟨rfl, ?_⟩
                        refine OkP.step ?_
                        refine OkO.move rfl rfl ?_
                        refine OkO.nil ⟨rfl, ?_⟩
                        refine OkP.split (d := 216) rfl (fun g12 => ?_) (fun g12 => ?_)
                        · -- true g12
                          exact absurd (of_decide_eq_true g12) (by omega)
                        · -- false g12
                          refine OkP.step ?_
                          refine OkO.move rfl rfl ?_
                          refine OkO.nil ⟨rfl, ?_⟩
                          refine OkP.step ?_
                          refine OkO.move rfl rfl ?_
                          refine OkO.nil ⟨rfl, ?_⟩
                          refine OkP.step ?_
                          refine OkO.index (sz := 1) (n := i) rfl rfl rfl (by kernel_rfl) (by first | assumption | rfl | exact slAt_slice (by omega)) ?_ -- index ('Go.Operand.tmp', 217) ('Go.Operand.tmp', 218)
                          refine OkO.nil ⟨rfl, ?_⟩
                          refine OkP.step ?_
                          refine OkO.load rfl rfl (lda (n := 1) (by kernel_rfl) (by first | assumption | (simp (disch := first | omega | (simp only [hNw, hPt]; omega)) only [gn0, gn1, gn2, gn3, gn4, gn5, gp0, gno, gpo] <;> first | rfl | assumption)) (by first | rfl | assumption)) ?_
                          refine OkO.nil ⟨rfl, ?_⟩
                          refine OkP.step ?_
                          refine OkO.move rfl rfl ?_
                          refine OkO.nil ⟨rfl, ?_⟩
                          refine OkP.step ?_
                          refine OkO.index (sz := 1) (n := j) rfl rfl rfl (by kernel_rfl) (by first | assumption | rfl | exact slAt_slice (by omega)) ?_ -- index ('Go.Operand.tmp', 220) ('Go.Operand.tmp', 221)
                          refine OkO.nil ⟨rfl, ?_⟩
                          refine OkP.step ?_
                          refine OkO.load rfl rfl (lda (n := 1) (by kernel_rfl) (by first | assumption | (simp (disch := first | omega | (simp only [hNw, hPt]; omega)) only [gn0, gn1, gn2, gn3, gn4, gn5, gp0, gno, gpo] <;> first | rfl | assumption)) (by first | rfl | assumption)) ?_
                          refine OkO.nil ⟨rfl, ?_⟩
                          refine OkP.step ?_
                          refine OkO.move rfl rfl ?_
                          refine OkO.nil ⟨rfl, ?_⟩
                          refine OkP.step ?_
                          refine OkO.move rfl rfl ?_
                          refine OkO.nil ⟨rfl, ?_⟩
                          refine OkP.step ?_
                          refine OkO.index (sz := 1) (n := i) rfl rfl rfl (by kernel_rfl) (by first | assumption | rfl | exact slAt_slice (by omega)) ?_ -- index ('Go.Operand.tmp', 224) ('Go.Operand.tmp', 225)
                          refine OkO.nil ⟨rfl, ?_⟩
                          refine OkP.step ?_
                          refine OkO.load rfl rfl (lda (n := 1) (by kernel_rfl) (by first | assumption | (simp (disch := first | omega | (simp only [hNw, hPt]; omega)) only [gn0, gn1, gn2, gn3, gn4, gn5, gp0, gno, gpo] <;> first | rfl | assumption)) (by first | rfl | assumption)) ?_
                          refine OkO.nil ⟨rfl, ?_⟩
                          refine OkP.step ?_
                          refine OkO.move rfl rfl ?_
                          refine OkO.nil ⟨rfl, ?_⟩
                          refine OkP.step ?_
                          refine OkO.index (sz := 1) (n := j) rfl rfl rfl (by kernel_rfl) (by first | assumption | rfl | exact slAt_slice (by omega)) ?_ -- index ('Go.Operand.tmp', 227) ('Go.Operand.tmp', 228)
                          refine OkO.nil ⟨rfl, ?_⟩
                          refine OkP.step ?_
                          refine OkO.load rfl rfl (lda (n := 1) (by kernel_rfl) (by first | assumption | (simp (disch := first | omega | (simp only [hNw, hPt]; omega)) only [gn0, gn1, gn2, gn3, gn4, gn5, gp0, gno, gpo] <;> first | rfl | assumption)) (by first | rfl | assumption)) ?_
                          refine OkO.nil ⟨rfl, ?_⟩
                          refine OkP.step ?_
                          refine OkO.bin rfl rfl rfl (bin_gtr _ _) ?_
                          refine OkO.nil ⟨rfl, ?_⟩
                          refine OkP.step ?_
                          refine OkO.pick (b := false) rfl rfl nofun (fun _ => rfl) ?_
                          refine OkO.nil ⟨rfl, ?_⟩
                          refine OkP.nil ?_
                          refine Ok.cond rfl (fun h13 => ?_) (fun h13 => ?_)
                          · -- yes h13
                            exact absurd (of_decide_eq_true h13) (by omega)
                          · -- no h13
                            refine Ok.skip ?_
                            refine Ok.region ?_
                            refine OkO.move rfl rfl ?_
                            refine OkO.bin rfl rfl rfl (bin_add (by omega) (by omega)) ?_
                            refine OkO.assign rfl rfl ?_
                            refine OkO.nil ?_
                            refine ⟨cs.length - (j + 1), by omega, j + 1, rfl, hltk, rfl, Has.of (by kernel_rfl), rfl, gR3⟩
                      · -- no h11
                        have hgek : j = cs.length := by simp at h11; omega
                        refine Ok.exit ?_
                        refine Ok.region ?_
                        refine OkO.move rfl rfl ?_
                        refine OkO.bin rfl rfl rfl (bin_add (by omega) (by omega)) ?_
                        refine OkO.assign rfl rfl ?_
                        refine OkO.nil ?_
                        refine ⟨ds.length - (i + 1), by omega, i + 1, rfl, hlt, rfl, Has.of (by kernel_rfl), rfl, gR3⟩
                    · -- no h10
                      refine Ok.exit ?_
                      refine Ok.seq ?_
                      refine Ok.region ?_
                      refine OkO.callV rfl rfl rfl rfl rfl (rfl) ?_ -- "sackung/sackunglaw02.wakes"
                      refine OkO.assign rfl rfl ?_
                      refine OkO.nil ?_
                      refine Ok.ret ⟨.inr rfl, ?_⟩
                      exact back_flat rfl (congrArg AV.bool rfl) rfl (by rw [← hW]; exact hg)
theorem c11 (m : Nat) (cv dv wv xv : AV) (cs : List Cell) (g : Gr) (ds : List Day) (ws os : List Int) (y x : Int) (H : Heap) (hR : Row H cv 7 (cs.map Cell.c)) (hY : Row H dv 3 (ds.map Day.c)) (hWs : Row H wv 1 (ws.map fun w => [U w])) (hws : Upto 65535 ws) (hXs : Row H xv 1 (os.map fun w => [U w])) (hos : Upto 65535 os) (hy : 0 ≤ y ∧ y ≤ 255) (hx9 : 0 ≤ x ∧ x ≤ 65535) : RR (m + 11) (.fn 11 [.agg [cv, I g.slo, I g.shi, I g.klo, I g.khi, I g.melt], dv, wv, xv, .int .u8 y, .int .u16 x]) H = some (.bool true, H) := by
  cases h : readyB cs g ds with
  | false => exact c11W m cv dv wv xv cs g ds ws os y x H hR hY hWs hws hXs hos hy hx9 h
  | true => exact c11K m cv dv wv xv cs g ds ws os y x H hR hY hWs hws hXs hos hy hx9 h
end
end Go.Ev
