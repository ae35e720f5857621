/-
  Functions of the program, reckoned by the evaluator: what each answers, and that it leaves what came in as it was (part 44).
-/
import Derived.Test.YtibplmibcbillaaV14
set_option maxRecDepth 100000
set_option linter.unusedSimpArgs false
set_option linter.unusedVariables false
namespace Go.Ev
open Go Go.Proofs
noncomputable section
theorem c44 (m : Nat) (cv dv wv : AV) (cs : List Cell) (g : Gr) (ds : List Day) (ws : List Int) (H : Heap) (hR : Row H cv 7 (cs.map Cell.c)) (hY : Row H dv 3 (ds.map Day.c)) (hWs : Row H wv 1 (ws.map fun w => [U w])) (hws : Upto 65535 ws) (hc : ∀ x ∈ cs, x.lim) (hd : ∀ x ∈ ds, x.lim) (hn8 : cs.length ≤ 8) (hd30 : ds.length ≤ 30) (hs1 : 0 ≤ g.slo ∧ g.slo ≤ g.shi ∧ g.shi ≤ 100000) (hs2 : 0 ≤ g.klo ∧ g.klo ≤ g.khi ∧ g.khi ≤ 1000) : ∃ v H', RR (m + 2) (.fn 44 [.agg [cv, I g.slo, I g.shi, I g.klo, I g.khi, I g.melt], dv, wv]) H = some (v, H') ∧ ∃ lv rv, v = .agg [I (pickT g ws).snow, I (pickT g ws).soak, lv, rv] ∧ Ret H H' ∧ Ints H' lv (pickL cs ws cs.length) ∧ Ints H' rv (pickR cs ds ws ds.length) ∧ lv.atom = true ∧ rv.atom = true := by
  show ∃ v H', evFn Try.prog (RR (m + 1)) 44 [.agg [cv, I g.slo, I g.shi, I g.klo, I g.khi, I g.melt], dv, wv] H = some (v, H') ∧ ∃ lv rv, v = .agg [I (pickT g ws).snow, I (pickT g ws).soak, lv, rv] ∧ Ret H H' ∧ Ints H' lv (pickL cs ws cs.length) ∧ Ints H' rv (pickR cs ds ws ds.length) ∧ lv.atom = true ∧ rv.atom = true
  refine fn_okE Try.func44 rfl rfl (by kernel_rfl) (by kernel_rfl) ?_
  obtain ⟨W, hW⟩ : ∃ W : Heap, W = ⟨H.t, H.next, H.next⟩ := ⟨_, rfl⟩
  have hg : ∀ n, W.get n = H.get n := fun n => by rw [hW]; rfl
  have hN : W.next = H.next := by rw [hW]
  have hE : ∀ G, Grow W G → Ext H G := fun G g => ⟨by rw [← hN]; exact g.next, fun n k => by rw [g.get n (by rw [hN]; exact k), hg]⟩
  have hG : Grow W W := Grow.refl (by rw [hW]; exact Nat.le_refl _)
  rw [← hW]
  have hlc : lenOf cv = some cs.length := by simpa using hR.len
  have hld : lenOf dv = some ds.length := by simpa using hY.len
  have hlw : lenOf wv = some ws.length := by simpa using hWs.len
  refine Ok.seq ?_
  refine Ok.region ?_
  refine OkO.box rfl rfl ?_
  refine OkO.alloc (z := [.int .i64 0, .int .i64 0, .nils, .nils]) rfl (by kernel_rfl) ?_
  refine OkO.nil ?_
  refine Ok.seq ?_
  refine Ok.region ?_
  refine OkO.assign rfl rfl ?_
  refine OkO.nil ?_
  refine Ok.seq ?_
  refine Ok.region ?_
  refine OkO.fieldAddr (o := 0) rfl (by kernel_rfl) rfl ?_
  refine OkO.load rfl rfl (lda (n := 1) (by kernel_rfl) (by first | assumption | (simp (disch := first | omega | (simp only [hNw, hPt]; omega)) only [gn0, gn1, gn2, gn3, gn4, gn5, gp0, gno, gpo] <;> first | rfl | assumption)) (by first | rfl | assumption)) ?_
  refine OkO.builtin rfl rfl rfl (bln (by kernel_rfl) (by first | assumption | rfl)) ?_
  refine OkO.bin rfl rfl rfl (bin_add (by omega) (by omega)) ?_
  refine OkO.move rfl rfl ?_
  refine OkO.builtin rfl rfl rfl (bln (by kernel_rfl) (by first | assumption | rfl)) ?_
  refine OkO.bin rfl rfl rfl (bin_add (by omega) (by omega)) ?_
  refine OkO.makeSlice (el := 64) (sz := 1) (z := [.int .u16 0]) (n := (2 + cs.length + ds.length)) (by_ := 2) rfl (by kernel_rfl) (by kernel_rfl) (by omega) (congrArg (fun z => some (I z)) (by push_cast; rfl)) (congrArg (fun z => some (I z)) (by push_cast; rfl)) (by omega) ?_
  refine OkO.assign rfl rfl ?_
  refine OkO.nil ?_
  refine Ok.seq ?_
  refine Ok.seq ?_
  refine Ok.region ?_
  refine OkO.assign rfl rfl ?_
  refine OkO.nil ?_
  refine Ok.block ?_
  refine Ok.loop (fun n s => ∃ i : Nat, n = (2 + cs.length + ds.length) - i ∧ i ≤ (2 + cs.length + ds.length) ∧ Has 7 [(1, dv), (2, wv), (3, .ptr W.next 0), (6, .ptr (W.next + 1) 0), (8, .slice (W.next + 2) 0 (2 + cs.length + ds.length) (2 + cs.length + ds.length)), (9, I (i : Int))] s.T ∧ s.D = [] ∧ Grow W s.H ∧ s.H.get W.next = some (.cells [cv, I g.slo, I g.shi, I g.klo, I g.khi, I g.melt] 26) ∧ s.H.get (W.next + 1) = some (.cells [I 0, I 0, .nils, .nils] 30) ∧ s.H.get (W.next + 2) = some (.cells (fillW ws (2 + cs.length + ds.length) i) 64) ∧ s.H.next = W.next + 3) ((2 + cs.length + ds.length)) (by unfold loopFuel; omega)
    ⟨0, by omega, Nat.zero_le _, Has.of (by kernel_rfl), rfl, (by (try dsimp only); repeat (first | exact hG | apply Grow.new | (refine Grow.put ?_ _ (by first | omega | (simp only [hNw, hPt]; omega))))), (by simp (disch := first | omega | (simp only [hNw, hPt]; omega)) only [gn0, gn1, gn2, gn3, gn4, gn5, gp0, gno, gpo] <;> first | rfl | assumption), by first | exact gn1 _ _ _ | (simp (disch := first | omega | (simp only [hNw, hPt]; omega)) only [gn0, gn1, gn2, gn3, gn4, gn5, gp0, gno, gpo] <;> first | rfl | assumption), by rw [gn2]; congr 2; exact rep_u16 ws _, rfl⟩ ?_
  rintro n ⟨T, D, G⟩ ⟨i, hn, hi, ⟨f, hT⟩, hD, hg, f0, f1, f2, hb4⟩
  dsimp only at *
  subst hT hD
  have hgn := hg.next
  have e0 : (G.get W.next).bind AObj.cs = some [cv, I g.slo, I g.shi, I g.klo, I g.khi, I g.melt] := by rw [f0]; rfl
  have e2 : (G.get (W.next + 2)).bind AObj.cs = some (fillW ws (2 + cs.length + ds.length) i) := by rw [f2]; rfl
  refine Ok.seq ?_
  refine Ok.seq ?_
  refine Ok.region ?_
  refine OkO.move rfl rfl ?_
  refine OkO.move rfl rfl ?_
  refine OkO.builtin rfl rfl rfl (bln (by kernel_rfl) (by first | assumption | rfl)) ?_
  refine OkO.bin rfl rfl rfl (bin_lss _ _) ?_
  refine OkO.move rfl rfl ?_
  refine OkO.split (d := 25) rfl (fun g1 => ?_) (fun g1 => ?_)
  · -- true g1
    have hlt : i < (2 + cs.length + ds.length) := by simp at g1; omega
    refine OkO.move rfl rfl ?_
    refine OkO.builtin rfl rfl rfl (bln (by kernel_rfl) (by first | assumption | rfl)) ?_
    refine OkO.bin rfl rfl rfl (bin_gtr _ _) ?_
    refine OkO.pick (b := true) rfl rfl (fun _ => rfl) nofun ?_
    refine OkO.nil ?_
    refine Ok.cond rfl (fun h2 => ?_) (fun h2 => ?_)
    · -- yes h2
      have hw0 : 0 < ws.length := by simpa using h2
      have hwi : i % ws.length < ws.length := Nat.mod_lt _ hw0
      obtain ⟨wb, wo, wcs, w1, w2w, w3, w4⟩ := (hWs.ext (hE W hG)).at_ (i % ws.length) [U (nextW ws i)] (by rw [List.getElem?_map, List.getElem?_eq_getElem hwi]; simp [nextW, hwi])
      have w2 : (G.get wb).bind AObj.cs = some wcs := by rw [hg.get _ w4]; exact w2w
      have w5 := seg_one w3
      refine Ok.skip ?_
      refine Ok.seq ?_
      refine Ok.block ?_
      refine Ok.region ?_
      refine OkO.move rfl rfl ?_
      refine OkO.move rfl rfl ?_
      refine OkO.move rfl rfl ?_
      refine OkO.move rfl rfl ?_
      refine OkO.move rfl rfl ?_
      refine OkO.builtin rfl rfl rfl (bln (by kernel_rfl) (by first | assumption | rfl)) ?_
      refine OkO.bin rfl rfl rfl (bin_rem (by omega) (by omega)) ?_
      refine OkO.index (sz := 1) (n := i % ws.length) rfl rfl (congrArg (fun z => some (I z)) (by simp)) (by kernel_rfl) (by first | assumption | rfl | exact slAt_slice (by omega)) ?_ -- index ('Go.Operand.tmp', 34) ('Go.Operand.tmp', 38)
      refine OkO.load rfl rfl (lda (n := 1) (by kernel_rfl) (by first | assumption | (simp (disch := first | omega | (simp only [hNw, hPt]; omega)) only [gn0, gn1, gn2, gn3, gn4, gn5, gp0, gno, gpo] <;> first | rfl | assumption)) (by first | rfl | assumption)) ?_
      refine OkO.index (sz := 1) (n := i) rfl rfl rfl (by kernel_rfl) (by first | assumption | rfl | exact slAt_slice (by omega)) ?_ -- index ('Go.Operand.tmp', 32) ('Go.Operand.tmp', 33)
      refine OkO.store rfl rfl rfl (stc (n := 1) (ag := false) (by kernel_rfl) (by first | assumption | (simp (disch := first | omega | (simp only [hNw, hPt]; omega)) only [gn0, gn1, gn2, gn3, gn4, gn5, gp0, gno, gpo] <;> first | rfl | assumption)) rfl rfl (by first | rfl | first | exact fillW_set (by omega) | exact spl_set _ _ _ (by first | assumption | (simp; omega)))) ?_
      refine OkO.nil ?_
      refine Ok.region ?_
      refine OkO.move rfl rfl ?_
      refine OkO.bin rfl rfl rfl (bin_add (by omega) (by omega)) ?_
      refine OkO.assign rfl rfl ?_
      refine OkO.nil ?_
      refine ⟨(2 + cs.length + ds.length) - (i + 1), by omega, i + 1, rfl, by omega, Has.of (by kernel_rfl), rfl, (by (try dsimp only); repeat (first | (first | exact hg | exact hG) | apply Grow.new | (refine Grow.put ?_ _ (by first | omega | (simp only [hNw, hPt]; omega))))), (by simp (disch := first | omega | (simp only [hNw, hPt]; omega)) only [gn0, gn1, gn2, gn3, gn4, gn5, gp0, gno, gpo] <;> first | rfl | assumption), (by simp (disch := first | omega | (simp only [hNw, hPt]; omega)) only [gn0, gn1, gn2, gn3, gn4, gn5, gp0, gno, gpo] <;> first | rfl | assumption), gp0 _ _ _, by rw [hPt]; exact hb4⟩
    · -- no h2
      have hw0 : ws = [] := List.eq_nil_of_length_eq_zero (by simpa using h2)
      have f2n : G.get (W.next + 2) = some (.cells (fillW ws (2 + cs.length + ds.length) (2 + cs.length + ds.length)) 64) := by rw [f2, hw0, fillW_nil _ i]
      obtain ⟨G0, hG0⟩ : ∃ G0, G0 = G := ⟨_, rfl⟩
      subst hG0
      have p0 : (fillW ws (2 + cs.length + ds.length) (2 + cs.length + ds.length))[0 + 0 * 1]? = some (U (nextW ws 0)) := by rw [fillW_get (by omega), if_pos (by omega)]
      have p1 : (fillW ws (2 + cs.length + ds.length) (2 + cs.length + ds.length))[0 + 1 * 1]? = some (U (nextW ws 1)) := by rw [fillW_get (by omega), if_pos (by omega)]
      have f2 : G0.get (W.next + 2) = some (.cells (fillW ws (2 + cs.length + ds.length) (2 + cs.length + ds.length)) 64) := f2n
      have e2 : (G0.get (W.next + 2)).bind AObj.cs = some (fillW ws (2 + cs.length + ds.length) (2 + cs.length + ds.length)) := by rw [f2]; rfl
      clear e0
      have e0 : (G0.get W.next).bind AObj.cs = some [cv, I g.slo, I g.shi, I g.klo, I g.khi, I g.melt] := by rw [f0]; rfl
      refine Ok.exit ?_
      refine Ok.seq ?_
      refine Ok.drawn [(0, true, []), (1, true, []), (2, true, []), (3, true, []), (4, true, []), (6, true, []), (7, true, []), (8, true, []), (9, true, []), (10, true, []), (13, true, [10, 7, 4, 1]), (5, false, [10, 7]), (11, false, [4, 1]), (12, true, []), (14, false, [])] (by kernel_rfl) ?_
      refine OkP.step ?_
      refine OkO.fieldAddr (o := 1) rfl (by kernel_rfl) rfl ?_
      refine OkO.nil ⟨rfl, ?_⟩
      refine OkP.step ?_
      refine OkO.load rfl rfl (ldg (n := 2) (by kernel_rfl) (by first | assumption | (simp (disch := first | omega | (simp only [hNw, hPt]; omega)) only [gn0, gn1, gn2, gn3, gn4, gn5, gp0, gno, gpo] <;> first | rfl | assumption)) (by first | rfl | assumption)) ?_
      refine OkO.nil ⟨rfl, ?_⟩
      refine OkP.step ?_
      refine OkO.move rfl rfl ?_
      refine OkO.nil ⟨rfl, ?_⟩
      refine OkP.step ?_
      refine OkO.index (sz := 1) (n := 0) rfl rfl rfl (by kernel_rfl) (by first | assumption | rfl | exact slAt_slice (by omega)) ?_ -- index ('Go.Operand.tmp', 44) ('Go.Operand.const', ('Go.Value.int', 'Go.IntKind.i64', 0))
      refine OkO.nil ⟨rfl, ?_⟩
      refine OkP.step ?_
      refine OkO.load rfl rfl (lda (n := 1) (by kernel_rfl) (by first | assumption | (simp (disch := first | omega | (simp only [hNw, hPt]; omega)) only [gn0, gn1, gn2, gn3, gn4, gn5, gp0, gno, gpo] <;> first | rfl | assumption)) (by first | rfl | assumption)) ?_
      refine OkO.nil ⟨rfl, ?_⟩
      refine OkP.step ?_
      refine OkO.fieldAddr (o := 3) rfl (by kernel_rfl) rfl ?_
      refine OkO.nil ⟨rfl, ?_⟩
      refine OkP.step ?_
      refine OkO.load rfl rfl (ldg (n := 2) (by kernel_rfl) (by first | assumption | (simp (disch := first | omega | (simp only [hNw, hPt]; omega)) only [gn0, gn1, gn2, gn3, gn4, gn5, gp0, gno, gpo] <;> first | rfl | assumption)) (by first | rfl | assumption)) ?_
      refine OkO.nil ⟨rfl, ?_⟩
      refine OkP.step ?_
      refine OkO.move rfl rfl ?_
      refine OkO.nil ⟨rfl, ?_⟩
      refine OkP.step ?_
      refine OkO.index (sz := 1) (n := 1) rfl rfl rfl (by kernel_rfl) (by first | assumption | rfl | exact slAt_slice (by omega)) ?_ -- index ('Go.Operand.tmp', 50) ('Go.Operand.const', ('Go.Value.int', 'Go.IntKind.i64', 1))
      refine OkO.nil ⟨rfl, ?_⟩
      refine OkP.step ?_
      refine OkO.load rfl rfl (lda (n := 1) (by kernel_rfl) (by first | assumption | (simp (disch := first | omega | (simp only [hNw, hPt]; omega)) only [gn0, gn1, gn2, gn3, gn4, gn5, gp0, gno, gpo] <;> first | rfl | assumption)) (by first | rfl | assumption)) ?_
      refine OkO.nil ⟨rfl, ?_⟩
      refine OkP.step ?_
      refine OkO.alloc (z := [.int .i64 0, .int .i64 0, .nils, .nils]) rfl (by kernel_rfl) ?_
      refine OkO.nil ⟨(sco (sld rfl rfl (lda (n := 1) (by kernel_rfl) (by first | assumption | (simp (disch := first | omega | (simp only [hNw, hPt]; omega)) only [gn0, gn1, gn2, gn3, gn4, gn5, gp0, gno, gpo] <;> first | rfl | assumption)) (by first | rfl | assumption)) rfl (eqr _ (by first | rfl | exact lpl (by assumption) | (simp [AV.plain, AV.plains, AV.cells, AV.plain])))) (sco (sld rfl rfl (ldg (n := 2) (by kernel_rfl) (by first | assumption | (simp (disch := first | omega | (simp only [hNw, hPt]; omega)) only [gn0, gn1, gn2, gn3, gn4, gn5, gp0, gno, gpo] <;> first | rfl | assumption)) (by first | rfl | assumption)) rfl (eqr _ (by first | rfl | exact lpl (by assumption) | (simp [AV.plain, AV.plains, AV.cells, AV.plain])))) (sco (sld rfl rfl (lda (n := 1) (by kernel_rfl) (by first | assumption | (simp (disch := first | omega | (simp only [hNw, hPt]; omega)) only [gn0, gn1, gn2, gn3, gn4, gn5, gp0, gno, gpo] <;> first | rfl | assumption)) (by first | rfl | assumption)) rfl (eqr _ (by first | rfl | exact lpl (by assumption) | (simp [AV.plain, AV.plains, AV.cells, AV.plain])))) (sco (sld rfl rfl (ldg (n := 2) (by kernel_rfl) (by first | assumption | (simp (disch := first | omega | (simp only [hNw, hPt]; omega)) only [gn0, gn1, gn2, gn3, gn4, gn5, gp0, gno, gpo] <;> first | rfl | assumption)) (by first | rfl | assumption)) rfl (eqr _ (by first | rfl | exact lpl (by assumption) | (simp [AV.plain, AV.plains, AV.cells, AV.plain])))) rfl)))), ?_⟩
      refine OkP.step ?_
      refine OkO.callV rfl rfl rfl rfl rfl (c49 _ _ _ _ _ (by omega) (next_bd hws _)) ?_ -- "sackung/sackunglaw02.pick"
      refine OkO.nil ⟨(sco (sld rfl rfl (lda (n := 1) (by kernel_rfl) (by first | assumption | (simp (disch := first | omega | (simp only [hNw, hPt]; omega)) only [gn0, gn1, gn2, gn3, gn4, gn5, gp0, gno, gpo] <;> first | rfl | assumption)) (by first | rfl | assumption)) rfl (eqr _ (by first | rfl | exact lpl (by assumption) | (simp [AV.plain, AV.plains, AV.cells, AV.plain])))) (sco (sld rfl rfl (ldg (n := 2) (by kernel_rfl) (by first | assumption | (simp (disch := first | omega | (simp only [hNw, hPt]; omega)) only [gn0, gn1, gn2, gn3, gn4, gn5, gp0, gno, gpo] <;> first | rfl | assumption)) (by first | rfl | assumption)) rfl (eqr _ (by first | rfl | exact lpl (by assumption) | (simp [AV.plain, AV.plains, AV.cells, AV.plain])))) rfl)), ?_⟩
      refine OkP.step ?_
      refine OkO.callV rfl rfl rfl rfl rfl (c49 _ _ _ _ _ (by omega) (next_bd hws _)) ?_ -- "sackung/sackunglaw02.pick"
      refine OkO.nil ⟨(sco (sld rfl rfl (lda (n := 1) (by kernel_rfl) (by first | assumption | (simp (disch := first | omega | (simp only [hNw, hPt]; omega)) only [gn0, gn1, gn2, gn3, gn4, gn5, gp0, gno, gpo] <;> first | rfl | assumption)) (by first | rfl | assumption)) rfl (eqr _ (by first | rfl | exact lpl (by assumption) | (simp [AV.plain, AV.plains, AV.cells, AV.plain])))) (sco (sld rfl rfl (ldg (n := 2) (by kernel_rfl) (by first | assumption | (simp (disch := first | omega | (simp only [hNw, hPt]; omega)) only [gn0, gn1, gn2, gn3, gn4, gn5, gp0, gno, gpo] <;> first | rfl | assumption)) (by first | rfl | assumption)) rfl (eqr _ (by first | rfl | exact lpl (by assumption) | (simp [AV.plain, AV.plains, AV.cells, AV.plain])))) rfl)), ?_⟩
      refine OkP.step ?_
      refine OkO.build (z := [.int .i64 0, .int .i64 0, .nils, .nils]) (pl := [(0, 1), (1, 1), (2, 1), (3, 1)]) rfl (by kernel_rfl) rfl rfl ?_
      refine OkO.nil ⟨rfl, ?_⟩
      refine OkP.step ?_
      refine OkO.store rfl rfl rfl (stc (n := 4) (ag := true) (by kernel_rfl) (by first | assumption | (simp (disch := first | omega | (simp only [hNw, hPt]; omega)) only [gn0, gn1, gn2, gn3, gn4, gn5, gp0, gno, gpo] <;> first | rfl | assumption)) rfl rfl (by first | rfl | first | exact fillW_set (by omega) | exact spl_set _ _ _ (by first | assumption | (simp; omega)))) ?_
      refine OkO.nil ⟨rfl, ?_⟩
      refine OkP.nil ?_
      refine Ok.seq ?_
      refine Ok.region ?_
      refine OkO.assign rfl rfl ?_
      refine OkO.nil ?_
      refine Ok.seq ?_
      refine Ok.seq ?_
      refine Ok.region ?_
      refine OkO.assign rfl rfl ?_
      refine OkO.nil ?_
      refine Ok.block ?_
      refine Ok.loop (fun n s => ∃ (i : Nat) (vl vr : AV), n = cs.length - i ∧ i ≤ cs.length ∧ Mine (G0.next + 1) s.H vl 3 1 ((pickL cs ws i).map I) ∧ Mine (G0.next + 1) s.H vr 3 1 ((pickR cs ds ws 0).map I) ∧ (∀ b m m', vl = .opn b m → vr ≠ .opn b m') ∧ Has 7 [(1, dv), (3, .ptr W.next 0), (6, .ptr (W.next + 1) 0), (7, I 2), (8, .slice (W.next + 2) 0 (2 + cs.length + ds.length) (2 + cs.length + ds.length)), (10, .ptr (G0.next) 0), (11, I (i : Int))] s.T ∧ s.D = [] ∧ Grow W s.H ∧ s.H.get W.next = some (.cells [cv, I g.slo, I g.shi, I g.klo, I g.khi, I g.melt] 26) ∧ s.H.get (W.next + 1) = some (.cells [I 0, I 0, .nils, .nils] 30) ∧ s.H.get (W.next + 2) = some (.cells (fillW ws (2 + cs.length + ds.length) (2 + cs.length + ds.length)) 64) ∧ s.H.get (G0.next) = some (.cells [I (pickT g ws).snow, I (pickT g ws).soak, vl, vr] 30) ∧ G0.next + 1 ≤ s.H.next) (cs.length) (by unfold loopFuel; omega)
        ⟨0, .nils, .nils, rfl, Nat.zero_le _, Mine.nil _ _ _ _, Mine.nil _ _ _ _, nofun, Has.of (by kernel_rfl), rfl, (by (try dsimp only); repeat (first | (first | exact hg | exact hG) | apply Grow.new | (refine Grow.put ?_ _ (by first | omega | (simp only [hNw, hPt]; omega))))), (by simp (disch := first | omega | (simp only [hNw, hPt]; omega)) only [gn0, gn1, gn2, gn3, gn4, gn5, gp0, gno, gpo] <;> first | rfl | assumption), (by simp (disch := first | omega | (simp only [hNw, hPt]; omega)) only [gn0, gn1, gn2, gn3, gn4, gn5, gp0, gno, gpo] <;> first | rfl | assumption), (by simp (disch := first | omega | (simp only [hNw, hPt]; omega)) only [gn0, gn1, gn2, gn3, gn4, gn5, gp0, gno, gpo] <;> first | rfl | assumption), gp0 _ _ _, by simp only [hNw, hPt]; omega⟩ ?_
      rintro n ⟨T, D, G⟩ ⟨i, vl, vr, hn, hi, hml, hmr, hsep, ⟨f, hT⟩, hD, hg, f0, f1, f2, f3, hb4⟩
      dsimp only at *
      subst hT hD
      have hgn := hg.next
      have e0 : (G.get W.next).bind AObj.cs = some [cv, I g.slo, I g.shi, I g.klo, I g.khi, I g.melt] := by rw [f0]; rfl
      have e2 : (G.get (W.next + 2)).bind AObj.cs = some (fillW ws (2 + cs.length + ds.length) (2 + cs.length + ds.length)) := by rw [f2]; rfl
      have e3 : (G.get (G0.next)).bind AObj.cs = some [I (pickT g ws).snow, I (pickT g ws).soak, vl, vr] := by rw [f3]; rfl
      obtain ⟨ll, hll, _⟩ := hml.len
      obtain ⟨lr, hlr, _⟩ := hmr.len
      refine Ok.seq ?_
      refine Ok.seq ?_
      refine Ok.region ?_
      refine OkO.move rfl rfl ?_
      refine OkO.fieldAddr (o := 0) rfl (by kernel_rfl) rfl ?_
      refine OkO.load rfl rfl (lda (n := 1) (by kernel_rfl) (by first | assumption | (simp (disch := first | omega | (simp only [hNw, hPt]; omega)) only [gn0, gn1, gn2, gn3, gn4, gn5, gp0, gno, gpo] <;> first | rfl | assumption)) (by first | rfl | assumption)) ?_
      refine OkO.builtin rfl rfl rfl (bln (by kernel_rfl) (by first | assumption | rfl)) ?_
      refine OkO.bin rfl rfl rfl (bin_lss _ _) ?_
      refine OkO.nil ?_
      refine Ok.cond rfl (fun h3 => ?_) (fun h3 => ?_)
      · -- yes h3
        have hlt : i < cs.length := by simpa using h3
        have hx0 : cs.getD i default = cs[i] := by simp [hlt]
        obtain ⟨bb, off, ccs, i1, i2w, i3, i4⟩ := (hR.ext (hE W hG)).at_ i cs[i].c (by simp [hlt])
        have i2 : (G.get bb).bind AObj.cs = some ccs := by rw [hg.get _ i4]; exact i2w
        have i4g : bb < G.next := by omega
        have i5 : seg ccs (off + 0) 2 = some [I cs[i].lo, I cs[i].hi] := seg_sub i3 0 2 (by omega) (by omega)
        have hxl := hc _ (List.getElem_mem hlt)
        unfold Cell.lim at hxl
        have p2 : (fillW ws (2 + cs.length + ds.length) (2 + cs.length + ds.length))[0 + (2 + i) * 1]? = some (U (nextW ws (2 + i))) := by rw [fillW_get (by omega), if_pos (by omega)]
        have hpl : (pickL cs ws i).length = i := by simp [pickL]
        refine Ok.skip ?_
        refine Ok.seq ?_
        refine Ok.block ?_
        refine Ok.drawn [(0, true, []), (1, true, []), (2, true, []), (3, true, []), (4, true, []), (5, true, []), (6, true, []), (7, true, []), (8, true, []), (9, true, []), (10, true, []), (11, true, []), (12, true, []), (13, true, []), (14, false, [3, 1]), (15, true, [13, 7, 3, 1]), (16, false, [13, 7, 3]), (17, true, []), (18, false, [])] (by kernel_rfl) ?_
        refine OkP.step ?_
        refine OkO.fieldAddr (o := 2) rfl (by kernel_rfl) rfl ?_
        refine OkO.nil ⟨rfl, ?_⟩
        refine OkP.step ?_
        refine OkO.load rfl rfl (lda (n := 1) (by kernel_rfl) (by first | assumption | (simp (disch := first | omega | (simp only [hNw, hPt]; omega)) only [gn0, gn1, gn2, gn3, gn4, gn5, gp0, gno, gpo] <;> first | rfl | assumption)) (by first | rfl | assumption)) ?_
        refine OkO.nil ⟨rfl, ?_⟩
        refine OkP.step ?_
        refine OkO.fieldAddr (o := 0) rfl (by kernel_rfl) rfl ?_
        refine OkO.nil ⟨rfl, ?_⟩
        refine OkP.step ?_
        refine OkO.load rfl rfl (lda (n := 1) (by kernel_rfl) (by first | assumption | (simp (disch := first | omega | (simp only [hNw, hPt]; omega)) only [gn0, gn1, gn2, gn3, gn4, gn5, gp0, gno, gpo] <;> first | rfl | assumption)) (by first | rfl | assumption)) ?_
        refine OkO.nil ⟨rfl, ?_⟩
        refine OkP.step ?_
        refine OkO.move rfl rfl ?_
        refine OkO.nil ⟨rfl, ?_⟩
        refine OkP.step ?_
        refine OkO.index (sz := 7) (n := i) rfl rfl rfl (by kernel_rfl) (by first | assumption | rfl | exact slAt_slice (by omega)) ?_ -- index ('Go.Operand.tmp', 65) ('Go.Operand.tmp', 66)
        refine OkO.nil ⟨rfl, ?_⟩
        refine OkP.step ?_
        refine OkO.fieldAddr (o := 0) rfl (by kernel_rfl) rfl ?_
        refine OkO.nil ⟨rfl, ?_⟩
        refine OkP.step ?_
        refine OkO.load rfl rfl (ldg (n := 2) (by kernel_rfl) (by first | assumption | (simp (disch := first | omega | (simp only [hNw, hPt]; omega)) only [gn0, gn1, gn2, gn3, gn4, gn5, gp0, gno, gpo] <;> first | rfl | assumption)) (by first | rfl | assumption)) ?_
        refine OkO.nil ⟨rfl, ?_⟩
        refine OkP.step ?_
        refine OkO.move rfl rfl ?_
        refine OkO.nil ⟨rfl, ?_⟩
        refine OkP.step ?_
        refine OkO.move rfl rfl ?_
        refine OkO.nil ⟨rfl, ?_⟩
        refine OkP.step ?_
        refine OkO.move rfl rfl ?_
        refine OkO.nil ⟨rfl, ?_⟩
        refine OkP.step ?_
        refine OkO.bin rfl rfl rfl (bin_add (by omega) (by omega)) ?_
        refine OkO.nil ⟨rfl, ?_⟩
        refine OkP.step ?_
        refine OkO.index (sz := 1) (n := 2 + i) rfl rfl (congrArg (fun z => some (I z)) (by push_cast; rfl)) (by kernel_rfl) (by first | assumption | rfl | exact slAt_slice (by omega)) ?_ -- index ('Go.Operand.tmp', 70) ('Go.Operand.tmp', 73)
        refine OkO.nil ⟨rfl, ?_⟩
        refine OkP.step ?_
        refine OkO.load rfl rfl (lda (n := 1) (by kernel_rfl) (by first | assumption | (simp (disch := first | omega | (simp only [hNw, hPt]; omega)) only [gn0, gn1, gn2, gn3, gn4, gn5, gp0, gno, gpo] <;> first | rfl | assumption)) (by first | rfl | assumption)) ?_
        refine OkO.nil ⟨rfl, ?_⟩
        refine OkP.step ?_
        refine OkO.callV rfl rfl rfl rfl rfl (c49 _ _ _ _ _ (by omega) (next_bd hws _)) ?_ -- "sackung/sackunglaw02.pick"
        refine OkO.nil ⟨(sco (sld rfl rfl (lda (n := 1) (by kernel_rfl) (by first | assumption | (simp (disch := first | omega | (simp only [hNw, hPt]; omega)) only [gn0, gn1, gn2, gn3, gn4, gn5, gp0, gno, gpo] <;> first | rfl | assumption)) (by first | rfl | assumption)) rfl (eqr _ (by first | rfl | exact lpl (by assumption) | (simp [AV.plain, AV.plains, AV.cells, AV.plain])))) (sco (sld rfl rfl (lda (n := 1) (by kernel_rfl) (by first | assumption | (simp (disch := first | omega | (simp only [hNw, hPt]; omega)) only [gn0, gn1, gn2, gn3, gn4, gn5, gp0, gno, gpo] <;> first | rfl | assumption)) (by first | rfl | assumption)) rfl (eqr _ (by first | rfl | exact lpl (by assumption) | (simp [AV.plain, AV.plains, AV.cells, AV.plain])))) rfl)), ?_⟩
        refine OkP.step ?_
        refine OkO.buildSlice (el := 3) (sz := 1) (z := [.int .i64 0]) rfl (by kernel_rfl) (by decide) rfl rfl ?_
        refine OkO.nil ⟨(sco (sld rfl rfl (lda (n := 1) (by kernel_rfl) (by first | assumption | (simp (disch := first | omega | (simp only [hNw, hPt]; omega)) only [gn0, gn1, gn2, gn3, gn4, gn5, gp0, gno, gpo] <;> first | rfl | assumption)) (by first | rfl | assumption)) rfl (eqr _ (by first | rfl | exact lpl (by assumption) | (simp [AV.plain, AV.plains, AV.cells, AV.plain])))) (sco (sld rfl rfl (ldg (n := 2) (by kernel_rfl) (by first | assumption | (simp (disch := first | omega | (simp only [hNw, hPt]; omega)) only [gn0, gn1, gn2, gn3, gn4, gn5, gp0, gno, gpo] <;> first | rfl | assumption)) (by first | rfl | assumption)) rfl (eqr _ (by first | rfl | exact lpl (by assumption) | (simp [AV.plain, AV.plains, AV.cells, AV.plain])))) (sco (sld rfl rfl (lda (n := 1) (by kernel_rfl) (by first | assumption | (simp (disch := first | omega | (simp only [hNw, hPt]; omega)) only [gn0, gn1, gn2, gn3, gn4, gn5, gp0, gno, gpo] <;> first | rfl | assumption)) (by first | rfl | assumption)) rfl (eqr _ (by first | rfl | exact lpl (by assumption) | (simp [AV.plain, AV.plains, AV.cells, AV.plain])))) (sco (sld rfl rfl (lda (n := 1) (by kernel_rfl) (by first | assumption | (simp (disch := first | omega | (simp only [hNw, hPt]; omega)) only [gn0, gn1, gn2, gn3, gn4, gn5, gp0, gno, gpo] <;> first | rfl | assumption)) (by first | rfl | assumption)) rfl (eqr _ (by first | rfl | exact lpl (by assumption) | (simp [AV.plain, AV.plains, AV.cells, AV.plain])))) rfl)))), ?_⟩
        refine OkP.step ?_
        refine OkO.builtinE rfl rfl rfl (Mine.app2 (W := W) (k0 := G0.next + 1) (sz := 1) (by_ := 8) (e := 3) (n := 1) (new := [I (pickI cs[i].lo cs[i].hi (nextW ws (2 + i)))]) (hml.to (Grow.toNew G _)) (hg.new _) (by omega) (by simp only [hNw]; omega) (by kernel_rfl) (by kernel_rfl) (elems_new (n := 1) (sz := 1) rfl) rfl rfl (by rw [List.length_map, hpl]; omega) (by omega) (by omega) rfl) ?_
        rintro v2 G2 ⟨q1, q2, q3, q4, q5, q6⟩
        simp only [hNw] at q4 q5 q6
        obtain ⟨mm, hv2⟩ := q6
        have z0 : G2.get (W.next) = some (.cells [cv, I g.slo, I g.shi, I g.klo, I g.khi, I g.melt] 26) := by rw [q3.get _ (by omega) (by simp only [hNw]; omega), gno _ _ _ (by omega)]; exact f0
        have y0 : (G2.get (W.next)).bind AObj.cs = some [cv, I g.slo, I g.shi, I g.klo, I g.khi, I g.melt] := by rw [z0]; rfl
        have z1 : G2.get (W.next + 1) = some (.cells [I 0, I 0, .nils, .nils] 30) := by rw [q3.get _ (by omega) (by simp only [hNw]; omega), gno _ _ _ (by omega)]; exact f1
        have y1 : (G2.get (W.next + 1)).bind AObj.cs = some [I 0, I 0, .nils, .nils] := by rw [z1]; rfl
        have z2 : G2.get (W.next + 2) = some (.cells (fillW ws (2 + cs.length + ds.length) (2 + cs.length + ds.length)) 64) := by rw [q3.get _ (by omega) (by simp only [hNw]; omega), gno _ _ _ (by omega)]; exact f2
        have y2 : (G2.get (W.next + 2)).bind AObj.cs = some (fillW ws (2 + cs.length + ds.length) (2 + cs.length + ds.length)) := by rw [z2]; rfl
        have z3 : G2.get (G0.next) = some (.cells [I (pickT g ws).snow, I (pickT g ws).soak, vl, vr] 30) := by rw [q3.get _ (by omega) (by simp only [hNw]; omega), gno _ _ _ (by omega)]; exact f3
        have y3 : (G2.get (G0.next)).bind AObj.cs = some [I (pickT g ws).snow, I (pickT g ws).soak, vl, vr] := by rw [z3]; rfl
        have hmo : Mine (G0.next + 1) G2 vr 3 1 _ := (hmr.to (Grow.toNew G _)).keep (w := vl) (fun j h1 h2 => q4 j (by simpa using h1) h2) (fun b m m' h1 h2 => hsep b m' m h2 h1) (by simp only [hNw]; omega)
        have hs2 : ∀ b m m', v2 = .opn b m → vr ≠ .opn b m' := fun b m m' h1 h2 => by rw [hv2] at h1; have e9 := (AV.opn.inj h1).1; have := hmr.lt h2; omega
        have iw : (G2.get bb).bind AObj.cs = some ccs := by rw [q2.get _ i4]; exact i2w
        obtain ⟨bb2, hbb2⟩ : ∃ bb2, bb2 = G.next + 1 := ⟨_, rfl⟩
        rw [← hbb2] at hv2
        subst hv2
        refine OkO.nil ⟨(sco (sld rfl rfl (lda (n := 1) (by kernel_rfl) (by first | assumption | (simp (disch := first | omega | (simp only [hNw, hPt]; omega)) only [gn0, gn1, gn2, gn3, gn4, gn5, gp0, gno, gpo] <;> first | rfl | assumption)) (by first | rfl | assumption)) rfl (eqr _ (by first | rfl | exact lpl (by assumption) | (simp [AV.plain, AV.plains, AV.cells, AV.plain])))) (sco (sld rfl rfl (ldg (n := 2) (by kernel_rfl) (by first | assumption | (simp (disch := first | omega | (simp only [hNw, hPt]; omega)) only [gn0, gn1, gn2, gn3, gn4, gn5, gp0, gno, gpo] <;> first | rfl | assumption)) (by first | rfl | assumption)) rfl (eqr _ (by first | rfl | exact lpl (by assumption) | (simp [AV.plain, AV.plains, AV.cells, AV.plain])))) (sco (sld rfl rfl (lda (n := 1) (by kernel_rfl) (by first | assumption | (simp (disch := first | omega | (simp only [hNw, hPt]; omega)) only [gn0, gn1, gn2, gn3, gn4, gn5, gp0, gno, gpo] <;> first | rfl | assumption)) (by first | rfl | assumption)) rfl (eqr _ (by first | rfl | exact lpl (by assumption) | (simp [AV.plain, AV.plains, AV.cells, AV.plain])))) rfl))), ?_⟩
        refine OkP.step ?_
        refine OkO.fieldAddr (o := 2) rfl (by kernel_rfl) rfl ?_
        refine OkO.nil ⟨rfl, ?_⟩
        refine OkP.step ?_
        refine OkO.store rfl rfl rfl (stc (n := 1) (ag := false) (by kernel_rfl) (by first | assumption | (simp (disch := first | omega | (simp only [hNw, hPt]; omega)) only [gn0, gn1, gn2, gn3, gn4, gn5, gp0, gno, gpo] <;> first | rfl | assumption)) rfl rfl (by first | rfl | first | exact fillW_set (by omega) | exact spl_set _ _ _ (by first | assumption | (simp; omega)))) ?_
        refine OkO.nil ⟨rfl, ?_⟩
        refine OkP.nil ?_
        refine Ok.region ?_
        refine OkO.move rfl rfl ?_
        refine OkO.bin rfl rfl rfl (bin_add (by omega) (by omega)) ?_
        refine OkO.assign rfl rfl ?_
        refine OkO.nil ?_
        refine ⟨cs.length - (i + 1), by omega, i + 1, .opn bb2 mm, vr, rfl, hlt, ?_, ?_, hs2, Has.of (by kernel_rfl), rfl, q2.put _ (by omega), by rw [gpo _ _ _ _ (by omega)]; exact z0, by rw [gpo _ _ _ _ (by omega)]; exact z1, by rw [gpo _ _ _ _ (by omega)]; exact z2, gp0 _ _ _, by simp only [hPt]; omega⟩
        · rw [pickL_succ, hx0]; exact q1.put _ (by omega)
        · exact hmo.put _ (by omega)
      · -- no h3
        have hge : i = cs.length := by simp at h3; omega
        subst hge
        refine Ok.exit ?_
        refine Ok.seq ?_
        refine Ok.region ?_
        refine OkO.move rfl rfl ?_
        refine OkO.fieldAddr (o := 0) rfl (by kernel_rfl) rfl ?_
        refine OkO.load rfl rfl (lda (n := 1) (by kernel_rfl) (by first | assumption | (simp (disch := first | omega | (simp only [hNw, hPt]; omega)) only [gn0, gn1, gn2, gn3, gn4, gn5, gp0, gno, gpo] <;> first | rfl | assumption)) (by first | rfl | assumption)) ?_
        refine OkO.builtin rfl rfl rfl (bln (by kernel_rfl) (by first | assumption | rfl)) ?_
        refine OkO.bin rfl rfl rfl (bin_add (by omega) (by omega)) ?_
        refine OkO.assign rfl rfl ?_
        refine OkO.nil ?_
        refine Ok.seq ?_
        refine Ok.seq ?_
        refine Ok.region ?_
        refine OkO.assign rfl rfl ?_
        refine OkO.nil ?_
        refine Ok.block ?_
        refine Ok.loop (fun n s => ∃ (i : Nat) (vl vr : AV), n = ds.length - i ∧ i ≤ ds.length ∧ Mine (G0.next + 1) s.H vl 3 1 ((pickL cs ws cs.length).map I) ∧ Mine (G0.next + 1) s.H vr 3 1 ((pickR cs ds ws i).map I) ∧ (∀ b m m', vl = .opn b m → vr ≠ .opn b m') ∧ Has 7 [(1, dv), (3, .ptr W.next 0), (6, .ptr (W.next + 1) 0), (7, I (2 + (cs.length : Int))), (8, .slice (W.next + 2) 0 (2 + cs.length + ds.length) (2 + cs.length + ds.length)), (10, .ptr (G0.next) 0), (12, I (i : Int))] s.T ∧ s.D = [] ∧ Grow W s.H ∧ s.H.get W.next = some (.cells [cv, I g.slo, I g.shi, I g.klo, I g.khi, I g.melt] 26) ∧ s.H.get (W.next + 1) = some (.cells [I 0, I 0, .nils, .nils] 30) ∧ s.H.get (W.next + 2) = some (.cells (fillW ws (2 + cs.length + ds.length) (2 + cs.length + ds.length)) 64) ∧ s.H.get (G0.next) = some (.cells [I (pickT g ws).snow, I (pickT g ws).soak, vl, vr] 30) ∧ G0.next + 1 ≤ s.H.next) (ds.length) (by unfold loopFuel; omega)
          ⟨0, vl, vr, rfl, Nat.zero_le _, hml, hmr, hsep, Has.of (by kernel_rfl), rfl, hg, f0, f1, f2, f3, hb4⟩ ?_
        rintro n ⟨T, D, G⟩ ⟨i, vl, vr, hn, hi, hml, hmr, hsep, ⟨f, hT⟩, hD, hg, f0, f1, f2, f3, hb4⟩
        dsimp only at *
        subst hT hD
        have hgn := hg.next
        have e0 : (G.get W.next).bind AObj.cs = some [cv, I g.slo, I g.shi, I g.klo, I g.khi, I g.melt] := by rw [f0]; rfl
        have e2 : (G.get (W.next + 2)).bind AObj.cs = some (fillW ws (2 + cs.length + ds.length) (2 + cs.length + ds.length)) := by rw [f2]; rfl
        have e3 : (G.get (G0.next)).bind AObj.cs = some [I (pickT g ws).snow, I (pickT g ws).soak, vl, vr] := by rw [f3]; rfl
        obtain ⟨ll, hll, _⟩ := hml.len
        obtain ⟨lr, hlr, _⟩ := hmr.len
        refine Ok.seq ?_
        refine Ok.seq ?_
        refine Ok.region ?_
        refine OkO.move rfl rfl ?_
        refine OkO.move rfl rfl ?_
        refine OkO.builtin rfl rfl rfl (bln (by kernel_rfl) (by first | assumption | rfl)) ?_
        refine OkO.bin rfl rfl rfl (bin_lss _ _) ?_
        refine OkO.nil ?_
        refine Ok.cond rfl (fun h4 => ?_) (fun h4 => ?_)
        · -- yes h4
          have hlt : i < ds.length := by simpa using h4
          have hx0 : ds.getD i default = ds[i] := by simp [hlt]
          obtain ⟨bb, off, ccs, i1, i2w, i3, i4⟩ := (hY.ext (hE W hG)).at_ i ds[i].c (by simp [hlt])
          have i2 : (G.get bb).bind AObj.cs = some ccs := by rw [hg.get _ i4]; exact i2w
          have i4g : bb < G.next := by omega
          have i5 : seg ccs (off + 0) 2 = some [I ds[i].lo, I ds[i].hi] := seg_sub i3 0 2 (by omega) (by omega)
          have hxl := hd _ (List.getElem_mem hlt)
          unfold Day.lim at hxl
          have p2 : (fillW ws (2 + cs.length + ds.length) (2 + cs.length + ds.length))[0 + (2 + cs.length + i) * 1]? = some (U (nextW ws (2 + cs.length + i))) := by rw [fillW_get (by omega), if_pos (by omega)]
          have hpl : (pickR cs ds ws i).length = i := by simp [pickR]
          refine Ok.skip ?_
          refine Ok.seq ?_
          refine Ok.block ?_
          refine Ok.drawn [(0, true, []), (1, true, []), (2, true, []), (3, true, []), (4, true, []), (5, true, []), (6, true, []), (7, true, []), (8, true, []), (9, true, []), (10, true, []), (11, true, []), (12, true, []), (13, false, [1]), (14, true, [12, 6, 1]), (15, false, [12, 6]), (16, true, []), (17, false, [])] (by kernel_rfl) ?_
          refine OkP.step ?_
          refine OkO.fieldAddr (o := 3) rfl (by kernel_rfl) rfl ?_
          refine OkO.nil ⟨rfl, ?_⟩
          refine OkP.step ?_
          refine OkO.load rfl rfl (lda (n := 1) (by kernel_rfl) (by first | assumption | (simp (disch := first | omega | (simp only [hNw, hPt]; omega)) only [gn0, gn1, gn2, gn3, gn4, gn5, gp0, gno, gpo] <;> first | rfl | assumption)) (by first | rfl | assumption)) ?_
          refine OkO.nil ⟨rfl, ?_⟩
          refine OkP.step ?_
          refine OkO.move rfl rfl ?_
          refine OkO.nil ⟨rfl, ?_⟩
          refine OkP.step ?_
          refine OkO.move rfl rfl ?_
          refine OkO.nil ⟨rfl, ?_⟩
          refine OkP.step ?_
          refine OkO.index (sz := 3) (n := i) rfl rfl rfl (by kernel_rfl) (by first | assumption | rfl | exact slAt_slice (by omega)) ?_ -- index ('Go.Operand.tmp', 93) ('Go.Operand.tmp', 94)
          refine OkO.nil ⟨rfl, ?_⟩
          refine OkP.step ?_
          refine OkO.fieldAddr (o := 0) rfl (by kernel_rfl) rfl ?_
          refine OkO.nil ⟨rfl, ?_⟩
          refine OkP.step ?_
          refine OkO.load rfl rfl (ldg (n := 2) (by kernel_rfl) (by first | assumption | (simp (disch := first | omega | (simp only [hNw, hPt]; omega)) only [gn0, gn1, gn2, gn3, gn4, gn5, gp0, gno, gpo] <;> first | rfl | assumption)) (by first | rfl | assumption)) ?_
          refine OkO.nil ⟨rfl, ?_⟩
          refine OkP.step ?_
          refine OkO.move rfl rfl ?_
          refine OkO.nil ⟨rfl, ?_⟩
          refine OkP.step ?_
          refine OkO.move rfl rfl ?_
          refine OkO.nil ⟨rfl, ?_⟩
          refine OkP.step ?_
          refine OkO.move rfl rfl ?_
          refine OkO.nil ⟨rfl, ?_⟩
          refine OkP.step ?_
          refine OkO.bin rfl rfl rfl (bin_add (by omega) (by omega)) ?_
          refine OkO.nil ⟨rfl, ?_⟩
          refine OkP.step ?_
          refine OkO.index (sz := 1) (n := 2 + cs.length + i) rfl rfl (congrArg (fun z => some (I z)) (by push_cast; rfl)) (by kernel_rfl) (by first | assumption | rfl | exact slAt_slice (by omega)) ?_ -- index ('Go.Operand.tmp', 98) ('Go.Operand.tmp', 101)
          refine OkO.nil ⟨rfl, ?_⟩
          refine OkP.step ?_
          refine OkO.load rfl rfl (lda (n := 1) (by kernel_rfl) (by first | assumption | (simp (disch := first | omega | (simp only [hNw, hPt]; omega)) only [gn0, gn1, gn2, gn3, gn4, gn5, gp0, gno, gpo] <;> first | rfl | assumption)) (by first | rfl | assumption)) ?_
          refine OkO.nil ⟨rfl, ?_⟩
          refine OkP.step ?_
          refine OkO.callV rfl rfl rfl rfl rfl (c49 _ _ _ _ _ (by omega) (next_bd hws _)) ?_ -- "sackung/sackunglaw02.pick"
          refine OkO.nil ⟨(sco (sld rfl rfl (lda (n := 1) (by kernel_rfl) (by first | assumption | (simp (disch := first | omega | (simp only [hNw, hPt]; omega)) only [gn0, gn1, gn2, gn3, gn4, gn5, gp0, gno, gpo] <;> first | rfl | assumption)) (by first | rfl | assumption)) rfl (eqr _ (by first | rfl | exact lpl (by assumption) | (simp [AV.plain, AV.plains, AV.cells, AV.plain])))) rfl), ?_⟩
          refine OkP.step ?_
          refine OkO.buildSlice (el := 3) (sz := 1) (z := [.int .i64 0]) rfl (by kernel_rfl) (by decide) rfl rfl ?_
          refine OkO.nil ⟨(sco (sld rfl rfl (lda (n := 1) (by kernel_rfl) (by first | assumption | (simp (disch := first | omega | (simp only [hNw, hPt]; omega)) only [gn0, gn1, gn2, gn3, gn4, gn5, gp0, gno, gpo] <;> first | rfl | assumption)) (by first | rfl | assumption)) rfl (eqr _ (by first | rfl | exact lpl (by assumption) | (simp [AV.plain, AV.plains, AV.cells, AV.plain])))) (sco (sld rfl rfl (ldg (n := 2) (by kernel_rfl) (by first | assumption | (simp (disch := first | omega | (simp only [hNw, hPt]; omega)) only [gn0, gn1, gn2, gn3, gn4, gn5, gp0, gno, gpo] <;> first | rfl | assumption)) (by first | rfl | assumption)) rfl (eqr _ (by first | rfl | exact lpl (by assumption) | (simp [AV.plain, AV.plains, AV.cells, AV.plain])))) (sco (sld rfl rfl (lda (n := 1) (by kernel_rfl) (by first | assumption | (simp (disch := first | omega | (simp only [hNw, hPt]; omega)) only [gn0, gn1, gn2, gn3, gn4, gn5, gp0, gno, gpo] <;> first | rfl | assumption)) (by first | rfl | assumption)) rfl (eqr _ (by first | rfl | exact lpl (by assumption) | (simp [AV.plain, AV.plains, AV.cells, AV.plain])))) rfl))), ?_⟩
          refine OkP.step ?_
          refine OkO.builtinE rfl rfl rfl (Mine.app2 (W := W) (k0 := G0.next + 1) (sz := 1) (by_ := 8) (e := 3) (n := 1) (new := [I (pickI ds[i].lo ds[i].hi (nextW ws (2 + cs.length + i)))]) (hmr.to (Grow.toNew G _)) (hg.new _) (by omega) (by simp only [hNw]; omega) (by kernel_rfl) (by kernel_rfl) (elems_new (n := 1) (sz := 1) rfl) rfl rfl (by rw [List.length_map, hpl]; omega) (by omega) (by omega) rfl) ?_
          rintro v2 G2 ⟨q1, q2, q3, q4, q5, q6⟩
          simp only [hNw] at q4 q5 q6
          obtain ⟨mm, hv2⟩ := q6
          have z0 : G2.get (W.next) = some (.cells [cv, I g.slo, I g.shi, I g.klo, I g.khi, I g.melt] 26) := by rw [q3.get _ (by omega) (by simp only [hNw]; omega), gno _ _ _ (by omega)]; exact f0
          have y0 : (G2.get (W.next)).bind AObj.cs = some [cv, I g.slo, I g.shi, I g.klo, I g.khi, I g.melt] := by rw [z0]; rfl
          have z1 : G2.get (W.next + 1) = some (.cells [I 0, I 0, .nils, .nils] 30) := by rw [q3.get _ (by omega) (by simp only [hNw]; omega), gno _ _ _ (by omega)]; exact f1
          have y1 : (G2.get (W.next + 1)).bind AObj.cs = some [I 0, I 0, .nils, .nils] := by rw [z1]; rfl
          have z2 : G2.get (W.next + 2) = some (.cells (fillW ws (2 + cs.length + ds.length) (2 + cs.length + ds.length)) 64) := by rw [q3.get _ (by omega) (by simp only [hNw]; omega), gno _ _ _ (by omega)]; exact f2
          have y2 : (G2.get (W.next + 2)).bind AObj.cs = some (fillW ws (2 + cs.length + ds.length) (2 + cs.length + ds.length)) := by rw [z2]; rfl
          have z3 : G2.get (G0.next) = some (.cells [I (pickT g ws).snow, I (pickT g ws).soak, vl, vr] 30) := by rw [q3.get _ (by omega) (by simp only [hNw]; omega), gno _ _ _ (by omega)]; exact f3
          have y3 : (G2.get (G0.next)).bind AObj.cs = some [I (pickT g ws).snow, I (pickT g ws).soak, vl, vr] := by rw [z3]; rfl
          have hmo : Mine (G0.next + 1) G2 vl 3 1 _ := (hml.to (Grow.toNew G _)).keep (w := vr) (fun j h1 h2 => q4 j (by simpa using h1) h2) (fun b m m' h1 h2 => hsep b m m' h1 h2) (by simp only [hNw]; omega)
          have hs2 : ∀ b m m', vl = .opn b m → v2 ≠ .opn b m' := fun b m m' h1 h2 => by rw [hv2] at h2; have e9 := (AV.opn.inj h2).1; have := hml.lt h1; omega
          have iw : (G2.get bb).bind AObj.cs = some ccs := by rw [q2.get _ i4]; exact i2w
          obtain ⟨bb2, hbb2⟩ : ∃ bb2, bb2 = G.next + 1 := ⟨_, rfl⟩
          rw [← hbb2] at hv2
          subst hv2
          refine OkO.nil ⟨(sco (sld rfl rfl (lda (n := 1) (by kernel_rfl) (by first | assumption | (simp (disch := first | omega | (simp only [hNw, hPt]; omega)) only [gn0, gn1, gn2, gn3, gn4, gn5, gp0, gno, gpo] <;> first | rfl | assumption)) (by first | rfl | assumption)) rfl (eqr _ (by first | rfl | exact lpl (by assumption) | (simp [AV.plain, AV.plains, AV.cells, AV.plain])))) (sco (sld rfl rfl (ldg (n := 2) (by kernel_rfl) (by first | assumption | (simp (disch := first | omega | (simp only [hNw, hPt]; omega)) only [gn0, gn1, gn2, gn3, gn4, gn5, gp0, gno, gpo] <;> first | rfl | assumption)) (by first | rfl | assumption)) rfl (eqr _ (by first | rfl | exact lpl (by assumption) | (simp [AV.plain, AV.plains, AV.cells, AV.plain])))) rfl)), ?_⟩
          refine OkP.step ?_
          refine OkO.fieldAddr (o := 3) rfl (by kernel_rfl) rfl ?_
          refine OkO.nil ⟨rfl, ?_⟩
          refine OkP.step ?_
          refine OkO.store rfl rfl rfl (stc (n := 1) (ag := false) (by kernel_rfl) (by first | assumption | (simp (disch := first | omega | (simp only [hNw, hPt]; omega)) only [gn0, gn1, gn2, gn3, gn4, gn5, gp0, gno, gpo] <;> first | rfl | assumption)) rfl rfl (by first | rfl | first | exact fillW_set (by omega) | exact spl_set _ _ _ (by first | assumption | (simp; omega)))) ?_
          refine OkO.nil ⟨rfl, ?_⟩
          refine OkP.nil ?_
          refine Ok.region ?_
          refine OkO.move rfl rfl ?_
          refine OkO.bin rfl rfl rfl (bin_add (by omega) (by omega)) ?_
          refine OkO.assign rfl rfl ?_
          refine OkO.nil ?_
          refine ⟨ds.length - (i + 1), by omega, i + 1, vl, .opn bb2 mm, rfl, hlt, ?_, ?_, hs2, Has.of (by kernel_rfl), rfl, q2.put _ (by omega), by rw [gpo _ _ _ _ (by omega)]; exact z0, by rw [gpo _ _ _ _ (by omega)]; exact z1, by rw [gpo _ _ _ _ (by omega)]; exact z2, gp0 _ _ _, by simp only [hPt]; omega⟩
          · exact hmo.put _ (by omega)
          · rw [pickR_succ, hx0]; exact q1.put _ (by omega)
        · -- no h4
          have hge : i = ds.length := by simp at h4; omega
          subst hge
          obtain ⟨l1, l2⟩ := hml.one
          obtain ⟨r1, r2⟩ := hmr.one
          refine Ok.exit ?_
          refine Ok.seq ?_
          refine Ok.region ?_
          refine OkO.load rfl rfl (ldg (n := 4) (by kernel_rfl) (by first | assumption | (simp (disch := first | omega | (simp only [hNw, hPt]; omega)) only [gn0, gn1, gn2, gn3, gn4, gn5, gp0, gno, gpo] <;> first | rfl | assumption)) (by first | rfl | assumption)) ?_
          refine OkO.store rfl rfl rfl (stc (n := 4) (ag := true) (l := [I (pickT g ws).snow, I (pickT g ws).soak, vl, vr]) (by kernel_rfl) (by first | assumption | simp (disch := first | omega | (simp only [hNw, hPt]; omega)) only [gn0, gn1, gn2, gn3, gn4, gn5, gp0, gno, gpo] <;> first | rfl | assumption) rfl (by show atoms [I (pickT g ws).snow, I (pickT g ws).soak, vl, vr] = true; simp [atoms, l2, r2, show ∀ z, (I z).atom = true from fun _ => rfl]) rfl) ?_
          refine OkO.nil ?_
          refine Ok.ret ⟨.inr rfl, ?_⟩
          refine back_newA (resV_cell (b := W.next + 1) (off := 0) rfl (ldg (n := 4) (by kernel_rfl) (show ((G.put (W.next + 1) (.cells [I (pickT g ws).snow, I (pickT g ws).soak, vl, vr] 30)).get (W.next + 1)).bind AObj.cs = some [I (pickT g ws).snow, I (pickT g ws).soak, vl, vr] by rw [gp0]; rfl) rfl) resV_nil) rfl (by rw [← hW]; exact hg.put _ (by omega)) (fun H2 q2 q3 => ⟨vl, vr, rfl, q2, ?_, ?_, l2, r2⟩)
          · exact (Mine.back (l := (pickL cs ws cs.length).map fun n => [I n]) (H := H) (by rw [ints_flat]; exact hml.put (n := W.next + 1) (.cells [I (pickT g ws).snow, I (pickT g ws).soak, vl, vr] 30) (by omega)) (fun x hx => by simp only [List.mem_map] at hx; obtain ⟨y, _, rfl⟩ := hx; rfl) (by omega) (q3.imp (fun h => ⟨h.1, (flat4 h.2).1⟩) id)).1
          · exact (Mine.back (l := (pickR cs ds ws ds.length).map fun n => [I n]) (H := H) (by rw [ints_flat]; exact hmr.put (n := W.next + 1) (.cells [I (pickT g ws).snow, I (pickT g ws).soak, vl, vr] 30) (by omega)) (fun x hx => by simp only [List.mem_map] at hx; obtain ⟨y, _, rfl⟩ := hx; rfl) (by omega) (q3.imp (fun h => ⟨h.1, (flat4 h.2).2⟩) id)).1
  · -- false g1
    have hge : i = (2 + cs.length + ds.length) := by simp at g1; omega
    have f2n : G.get (W.next + 2) = some (.cells (fillW ws (2 + cs.length + ds.length) (2 + cs.length + ds.length)) 64) := by rw [f2, hge]
    obtain ⟨G0, hG0⟩ : ∃ G0, G0 = G := ⟨_, rfl⟩
    subst hG0
    have p0 : (fillW ws (2 + cs.length + ds.length) (2 + cs.length + ds.length))[0 + 0 * 1]? = some (U (nextW ws 0)) := by rw [fillW_get (by omega), if_pos (by omega)]
    have p1 : (fillW ws (2 + cs.length + ds.length) (2 + cs.length + ds.length))[0 + 1 * 1]? = some (U (nextW ws 1)) := by rw [fillW_get (by omega), if_pos (by omega)]
    have f2 : G0.get (W.next + 2) = some (.cells (fillW ws (2 + cs.length + ds.length) (2 + cs.length + ds.length)) 64) := f2n
    have e2 : (G0.get (W.next + 2)).bind AObj.cs = some (fillW ws (2 + cs.length + ds.length) (2 + cs.length + ds.length)) := by rw [f2]; rfl
    clear e0
    have e0 : (G0.get W.next).bind AObj.cs = some [cv, I g.slo, I g.shi, I g.klo, I g.khi, I g.melt] := by rw [f0]; rfl
    refine OkO.skip rfl ?_
    refine OkO.skip rfl ?_
    refine OkO.skip rfl ?_
    refine OkO.pick (b := false) rfl rfl nofun (fun _ => rfl) ?_
    refine OkO.nil ?_
    refine Ok.condF rfl ?_
    refine Ok.exit ?_
    refine Ok.seq ?_
    refine Ok.drawn [(0, true, []), (1, true, []), (2, true, []), (3, true, []), (4, true, []), (6, true, []), (7, true, []), (8, true, []), (9, true, []), (10, true, []), (13, true, [10, 7, 4, 1]), (5, false, [10, 7]), (11, false, [4, 1]), (12, true, []), (14, false, [])] (by kernel_rfl) ?_
    refine OkP.step ?_
    refine OkO.fieldAddr (o := 1) rfl (by kernel_rfl) rfl ?_
    refine OkO.nil ⟨rfl, ?_⟩
    refine OkP.step ?_
    refine OkO.load rfl rfl (ldg (n := 2) (by kernel_rfl) (by first | assumption | (simp (disch := first | omega | (simp only [hNw, hPt]; omega)) only [gn0, gn1, gn2, gn3, gn4, gn5, gp0, gno, gpo] <;> first | rfl | assumption)) (by first | rfl | assumption)) ?_
    refine OkO.nil ⟨rfl, ?_⟩
    refine OkP.step ?_
    refine OkO.move rfl rfl ?_
    refine OkO.nil ⟨rfl, ?_⟩
    refine OkP.step ?_
    refine OkO.index (sz := 1) (n := 0) rfl rfl rfl (by kernel_rfl) (by first | assumption | rfl | exact slAt_slice (by omega)) ?_ -- index ('Go.Operand.tmp', 44) ('Go.Operand.const', ('Go.Value.int', 'Go.IntKind.i64', 0))
    refine OkO.nil ⟨rfl, ?_⟩
    refine OkP.step ?_
    refine OkO.load rfl rfl (lda (n := 1) (by kernel_rfl) (by first | assumption | (simp (disch := first | omega | (simp only [hNw, hPt]; omega)) only [gn0, gn1, gn2, gn3, gn4, gn5, gp0, gno, gpo] <;> first | rfl | assumption)) (by first | rfl | assumption)) ?_
    refine OkO.nil ⟨rfl, ?_⟩
    refine OkP.step ?_
    refine OkO.fieldAddr (o := 3) rfl (by kernel_rfl) rfl ?_
    refine OkO.nil ⟨rfl, ?_⟩
    refine OkP.step ?_
    refine OkO.load rfl rfl (ldg (n := 2) (by kernel_rfl) (by first | assumption | (simp (disch := first | omega | (simp only [hNw, hPt]; omega)) only [gn0, gn1, gn2, gn3, gn4, gn5, gp0, gno, gpo] <;> first | rfl | assumption)) (by first | rfl | assumption)) ?_
    refine OkO.nil ⟨rfl, ?_⟩
    refine OkP.step ?_
    refine OkO.move rfl rfl ?_
    refine OkO.nil ⟨rfl, ?_⟩
    refine OkP.step ?_
    refine OkO.index (sz := 1) (n := 1) rfl rfl rfl (by kernel_rfl) (by first | assumption | rfl | exact slAt_slice (by omega)) ?_ -- index ('Go.Operand.tmp', 50) ('Go.Operand.const', ('Go.Value.int', 'Go.IntKind.i64', 1))
    refine OkO.nil ⟨rfl, ?_⟩
    refine OkP.step ?_
    refine OkO.load rfl rfl (lda (n := 1) (by kernel_rfl) (by first | assumption | (simp (disch := first | omega | (simp only [hNw, hPt]; omega)) only [gn0, gn1, gn2, gn3, gn4, gn5, gp0, gno, gpo] <;> first | rfl | assumption)) (by first | rfl | assumption)) ?_
    refine OkO.nil ⟨rfl, ?_⟩
    refine OkP.step ?_
    refine OkO.alloc (z := [.int .i64 0, .int .i64 0, .nils, .nils]) rfl (by kernel_rfl) ?_
    refine OkO.nil ⟨(sco (sld rfl rfl (lda (n := 1) (by kernel_rfl) (by first | assumption | (simp (disch := first | omega | (simp only [hNw, hPt]; omega)) only [gn0, gn1, gn2, gn3, gn4, gn5, gp0, gno, gpo] <;> first | rfl | assumption)) (by first | rfl | assumption)) rfl (eqr _ (by first | rfl | exact lpl (by assumption) | (simp [AV.plain, AV.plains, AV.cells, AV.plain])))) (sco (sld rfl rfl (ldg (n := 2) (by kernel_rfl) (by first | assumption | (simp (disch := first | omega | (simp only [hNw, hPt]; omega)) only [gn0, gn1, gn2, gn3, gn4, gn5, gp0, gno, gpo] <;> first | rfl | assumption)) (by first | rfl | assumption)) rfl (eqr _ (by first | rfl | exact lpl (by assumption) | (simp [AV.plain, AV.plains, AV.cells, AV.plain])))) (sco (sld rfl rfl (lda (n := 1) (by kernel_rfl) (by first | assumption | (simp (disch := first | omega | (simp only [hNw, hPt]; omega)) only [gn0, gn1, gn2, gn3, gn4, gn5, gp0, gno, gpo] <;> first | rfl | assumption)) (by first | rfl | assumption)) rfl (eqr _ (by first | rfl | exact lpl (by assumption) | (simp [AV.plain, AV.plains, AV.cells, AV.plain])))) (sco (sld rfl rfl (ldg (n := 2) (by kernel_rfl) (by first | assumption | (simp (disch := first | omega | (simp only [hNw, hPt]; omega)) only [gn0, gn1, gn2, gn3, gn4, gn5, gp0, gno, gpo] <;> first | rfl | assumption)) (by first | rfl | assumption)) rfl (eqr _ (by first | rfl | exact lpl (by assumption) | (simp [AV.plain, AV.plains, AV.cells, AV.plain])))) rfl)))), ?_⟩
    refine OkP.step ?_
    refine OkO.callV rfl rfl rfl rfl rfl (c49 _ _ _ _ _ (by omega) (next_bd hws _)) ?_ -- "sackung/sackunglaw02.pick"
    refine OkO.nil ⟨(sco (sld rfl rfl (lda (n := 1) (by kernel_rfl) (by first | assumption | (simp (disch := first | omega | (simp only [hNw, hPt]; omega)) only [gn0, gn1, gn2, gn3, gn4, gn5, gp0, gno, gpo] <;> first | rfl | assumption)) (by first | rfl | assumption)) rfl (eqr _ (by first | rfl | exact lpl (by assumption) | (simp [AV.plain, AV.plains, AV.cells, AV.plain])))) (sco (sld rfl rfl (ldg (n := 2) (by kernel_rfl) (by first | assumption | (simp (disch := first | omega | (simp only [hNw, hPt]; omega)) only [gn0, gn1, gn2, gn3, gn4, gn5, gp0, gno, gpo] <;> first | rfl | assumption)) (by first | rfl | assumption)) rfl (eqr _ (by first | rfl | exact lpl (by assumption) | (simp [AV.plain, AV.plains, AV.cells, AV.plain])))) rfl)), ?_⟩
    refine OkP.step ?_
    refine OkO.callV rfl rfl rfl rfl rfl (c49 _ _ _ _ _ (by omega) (next_bd hws _)) ?_ -- "sackung/sackunglaw02.pick"
    refine OkO.nil ⟨(sco (sld rfl rfl (lda (n := 1) (by kernel_rfl) (by first | assumption | (simp (disch := first | omega | (simp only [hNw, hPt]; omega)) only [gn0, gn1, gn2, gn3, gn4, gn5, gp0, gno, gpo] <;> first | rfl | assumption)) (by first | rfl | assumption)) rfl (eqr _ (by first | rfl | exact lpl (by assumption) | (simp [AV.plain, AV.plains, AV.cells, AV.plain])))) (sco (sld rfl rfl (ldg (n := 2) (by kernel_rfl) (by first | assumption | (simp (disch := first | omega | (simp only [hNw, hPt]; omega)) only [gn0, gn1, gn2, gn3, gn4, gn5, gp0, gno, gpo] <;> first | rfl | assumption)) (by first | rfl | assumption)) rfl (eqr _ (by first | rfl | exact lpl (by assumption) | (simp [AV.plain, AV.plains, AV.cells, AV.plain])))) rfl)), ?_⟩
    refine OkP.step ?_
    refine OkO.build (z := [.int .i64 0, .int .i64 0, .nils, .nils]) (pl := [(0, 1), (1, 1), (2, 1), (3, 1)]) rfl (by kernel_rfl) rfl rfl ?_
    refine OkO.nil ⟨rfl, ?_⟩
    refine OkP.step ?_
    refine OkO.store rfl rfl rfl (stc (n := 4) (ag := true) (by kernel_rfl) (by first | assumption | (simp (disch := first | omega | (simp only [hNw, hPt]; omega)) only [gn0, gn1, gn2, gn3, gn4, gn5, gp0, gno, gpo] <;> first | rfl | assumption)) rfl rfl (by first | rfl | first | exact fillW_set (by omega) | exact spl_set _ _ _ (by first | assumption | (simp; omega)))) ?_
    refine OkO.nil ⟨rfl, ?_⟩
    refine OkP.nil ?_
    refine Ok.seq ?_
    refine Ok.region ?_
    refine OkO.assign rfl rfl ?_
    refine OkO.nil ?_
    refine Ok.seq ?_
    refine Ok.seq ?_
    refine Ok.region ?_
    refine OkO.assign rfl rfl ?_
    refine OkO.nil ?_
    refine Ok.block ?_
    refine Ok.loop (fun n s => ∃ (i : Nat) (vl vr : AV), n = cs.length - i ∧ i ≤ cs.length ∧ Mine (G0.next + 1) s.H vl 3 1 ((pickL cs ws i).map I) ∧ Mine (G0.next + 1) s.H vr 3 1 ((pickR cs ds ws 0).map I) ∧ (∀ b m m', vl = .opn b m → vr ≠ .opn b m') ∧ Has 7 [(1, dv), (3, .ptr W.next 0), (6, .ptr (W.next + 1) 0), (7, I 2), (8, .slice (W.next + 2) 0 (2 + cs.length + ds.length) (2 + cs.length + ds.length)), (10, .ptr (G0.next) 0), (11, I (i : Int))] s.T ∧ s.D = [] ∧ Grow W s.H ∧ s.H.get W.next = some (.cells [cv, I g.slo, I g.shi, I g.klo, I g.khi, I g.melt] 26) ∧ s.H.get (W.next + 1) = some (.cells [I 0, I 0, .nils, .nils] 30) ∧ s.H.get (W.next + 2) = some (.cells (fillW ws (2 + cs.length + ds.length) (2 + cs.length + ds.length)) 64) ∧ s.H.get (G0.next) = some (.cells [I (pickT g ws).snow, I (pickT g ws).soak, vl, vr] 30) ∧ G0.next + 1 ≤ s.H.next) (cs.length) (by unfold loopFuel; omega)
      ⟨0, .nils, .nils, rfl, Nat.zero_le _, Mine.nil _ _ _ _, Mine.nil _ _ _ _, nofun, Has.of (by kernel_rfl), rfl, (by (try dsimp only); repeat (first | (first | exact hg | exact hG) | apply Grow.new | (refine Grow.put ?_ _ (by first | omega | (simp only [hNw, hPt]; omega))))), (by simp (disch := first | omega | (simp only [hNw, hPt]; omega)) only [gn0, gn1, gn2, gn3, gn4, gn5, gp0, gno, gpo] <;> first | rfl | assumption), (by simp (disch := first | omega | (simp only [hNw, hPt]; omega)) only [gn0, gn1, gn2, gn3, gn4, gn5, gp0, gno, gpo] <;> first | rfl | assumption), (by simp (disch := first | omega | (simp only [hNw, hPt]; omega)) only [gn0, gn1, gn2, gn3, gn4, gn5, gp0, gno, gpo] <;> first | rfl | assumption), gp0 _ _ _, by simp only [hNw, hPt]; omega⟩ ?_
    rintro n ⟨T, D, G⟩ ⟨i, vl, vr, hn, hi, hml, hmr, hsep, ⟨f, hT⟩, hD, hg, f0, f1, f2, f3, hb4⟩
    dsimp only at *
    subst hT hD
    have hgn := hg.next
    have e0 : (G.get W.next).bind AObj.cs = some [cv, I g.slo, I g.shi, I g.klo, I g.khi, I g.melt] := by rw [f0]; rfl
    have e2 : (G.get (W.next + 2)).bind AObj.cs = some (fillW ws (2 + cs.length + ds.length) (2 + cs.length + ds.length)) := by rw [f2]; rfl
    have e3 : (G.get (G0.next)).bind AObj.cs = some [I (pickT g ws).snow, I (pickT g ws).soak, vl, vr] := by rw [f3]; rfl
    obtain ⟨ll, hll, _⟩ := hml.len
    obtain ⟨lr, hlr, _⟩ := hmr.len
    refine Ok.seq ?_
    refine Ok.seq ?_
    refine Ok.region ?_
    refine OkO.move rfl rfl ?_
    refine OkO.fieldAddr (o := 0) rfl (by kernel_rfl) rfl ?_
    refine OkO.load rfl rfl (lda (n := 1) (by kernel_rfl) (by first | assumption | (simp (disch := first | omega | (simp only [hNw, hPt]; omega)) only [gn0, gn1, gn2, gn3, gn4, gn5, gp0, gno, gpo] <;> first | rfl | assumption)) (by first | rfl | assumption)) ?_
    refine OkO.builtin rfl rfl rfl (bln (by kernel_rfl) (by first | assumption | rfl)) ?_
    refine OkO.bin rfl rfl rfl (bin_lss _ _) ?_
    refine OkO.nil ?_
    refine Ok.cond rfl (fun h5 => ?_) (fun h5 => ?_)
    · -- yes h5
      have hlt : i < cs.length := by simpa using h5
      have hx0 : cs.getD i default = cs[i] := by simp [hlt]
      obtain ⟨bb, off, ccs, i1, i2w, i3, i4⟩ := (hR.ext (hE W hG)).at_ i cs[i].c (by simp [hlt])
      have i2 : (G.get bb).bind AObj.cs = some ccs := by rw [hg.get _ i4]; exact i2w
      have i4g : bb < G.next := by omega
      have i5 : seg ccs (off + 0) 2 = some [I cs[i].lo, I cs[i].hi] := seg_sub i3 0 2 (by omega) (by omega)
      have hxl := hc _ (List.getElem_mem hlt)
      unfold Cell.lim at hxl
      have p2 : (fillW ws (2 + cs.length + ds.length) (2 + cs.length + ds.length))[0 + (2 + i) * 1]? = some (U (nextW ws (2 + i))) := by rw [fillW_get (by omega), if_pos (by omega)]
      have hpl : (pickL cs ws i).length = i := by simp [pickL]
      refine Ok.skip ?_
      refine Ok.seq ?_
      refine Ok.block ?_
      refine Ok.drawn [(0, true, []), (1, true, []), (2, true, []), (3, true, []), (4, true, []), (5, true, []), (6, true, []), (7, true, []), (8, true, []), (9, true, []), (10, true, []), (11, true, []), (12, true, []), (13, true, []), (14, false, [3, 1]), (15, true, [13, 7, 3, 1]), (16, false, [13, 7, 3]), (17, true, []), (18, false, [])] (by kernel_rfl) ?_
      refine OkP.step ?_
      refine OkO.fieldAddr (o := 2) rfl (by kernel_rfl) rfl ?_
      refine OkO.nil ⟨rfl, ?_⟩
      refine OkP.step ?_
      refine OkO.load rfl rfl (lda (n := 1) (by kernel_rfl) (by first | assumption | (simp (disch := first | omega | (simp only [hNw, hPt]; omega)) only [gn0, gn1, gn2, gn3, gn4, gn5, gp0, gno, gpo] <;> first | rfl | assumption)) (by first | rfl | assumption)) ?_
      refine OkO.nil ⟨rfl, ?_⟩
      refine OkP.step ?_
      refine OkO.fieldAddr (o := 0) rfl (by kernel_rfl) rfl ?_
      refine OkO.nil ⟨rfl, ?_⟩
      refine OkP.step ?_
      refine OkO.load rfl rfl (lda (n := 1) (by kernel_rfl) (by first | assumption | (simp (disch := first | omega | (simp only [hNw, hPt]; omega)) only [gn0, gn1, gn2, gn3, gn4, gn5, gp0, gno, gpo] <;> first | rfl | assumption)) (by first | rfl | assumption)) ?_
      refine OkO.nil ⟨rfl, ?_⟩
      refine OkP.step ?_
      refine OkO.move rfl rfl ?_
      refine OkO.nil ⟨rfl, ?_⟩
      refine OkP.step ?_
      refine OkO.index (sz := 7) (n := i) rfl rfl rfl (by kernel_rfl) (by first | assumption | rfl | exact slAt_slice (by omega)) ?_ -- index ('Go.Operand.tmp', 65) ('Go.Operand.tmp', 66)
      refine OkO.nil ⟨rfl, ?_⟩
      refine OkP.step ?_
      refine OkO.fieldAddr (o := 0) rfl (by kernel_rfl) rfl ?_
      refine OkO.nil ⟨rfl, ?_⟩
      refine OkP.step ?_
      refine OkO.load rfl rfl (ldg (n := 2) (by kernel_rfl) (by first | assumption | (simp (disch := first | omega | (simp only [hNw, hPt]; omega)) only [gn0, gn1, gn2, gn3, gn4, gn5, gp0, gno, gpo] <;> first | rfl | assumption)) (by first | rfl | assumption)) ?_
      refine OkO.nil ⟨rfl, ?_⟩
      refine OkP.step ?_
      refine OkO.move rfl rfl ?_
      refine OkO.nil ⟨rfl, ?_⟩
      refine OkP.step ?_
      refine OkO.move rfl rfl ?_
      refine OkO.nil ⟨rfl, ?_⟩
      refine OkP.step ?_
      refine OkO.move rfl rfl ?_
      refine OkO.nil ⟨rfl, ?_⟩
      refine OkP.step ?_
      refine OkO.bin rfl rfl rfl (bin_add (by omega) (by omega)) ?_
      refine OkO.nil ⟨rfl, ?_⟩
      refine OkP.step ?_
      refine OkO.index (sz := 1) (n := 2 + i) rfl rfl (congrArg (fun z => some (I z)) (by push_cast; rfl)) (by kernel_rfl) (by first | assumption | rfl | exact slAt_slice (by omega)) ?_ -- index ('Go.Operand.tmp', 70) ('Go.Operand.tmp', 73)
      refine OkO.nil ⟨rfl, ?_⟩
      refine OkP.step ?_
      refine OkO.load rfl rfl (lda (n := 1) (by kernel_rfl) (by first | assumption | (simp (disch := first | omega | (simp only [hNw, hPt]; omega)) only [gn0, gn1, gn2, gn3, gn4, gn5, gp0, gno, gpo] <;> first | rfl | assumption)) (by first | rfl | assumption)) ?_
      refine OkO.nil ⟨rfl, ?_⟩
      refine OkP.step ?_
      refine OkO.callV rfl rfl rfl rfl rfl (c49 _ _ _ _ _ (by omega) (next_bd hws _)) ?_ -- "sackung/sackunglaw02.pick"
      refine OkO.nil ⟨(sco (sld rfl rfl (lda (n := 1) (by kernel_rfl) (by first | assumption | (simp (disch := first | omega | (simp only [hNw, hPt]; omega)) only [gn0, gn1, gn2, gn3, gn4, gn5, gp0, gno, gpo] <;> first | rfl | assumption)) (by first | rfl | assumption)) rfl (eqr _ (by first | rfl | exact lpl (by assumption) | (simp [AV.plain, AV.plains, AV.cells, AV.plain])))) (sco (sld rfl rfl (lda (n := 1) (by kernel_rfl) (by first | assumption | (simp (disch := first | omega | (simp only [hNw, hPt]; omega)) only [gn0, gn1, gn2, gn3, gn4, gn5, gp0, gno, gpo] <;> first | rfl | assumption)) (by first | rfl | assumption)) rfl (eqr _ (by first | rfl | exact lpl (by assumption) | (simp [AV.plain, AV.plains, AV.cells, AV.plain])))) rfl)), ?_⟩
      refine OkP.step ?_
      refine OkO.buildSlice (el := 3) (sz := 1) (z := [.int .i64 0]) rfl (by kernel_rfl) (by decide) rfl rfl ?_
      refine OkO.nil ⟨(sco (sld rfl rfl (lda (n := 1) (by kernel_rfl) (by first | assumption | (simp (disch := first | omega | (simp only [hNw, hPt]; omega)) only [gn0, gn1, gn2, gn3, gn4, gn5, gp0, gno, gpo] <;> first | rfl | assumption)) (by first | rfl | assumption)) rfl (eqr _ (by first | rfl | exact lpl (by assumption) | (simp [AV.plain, AV.plains, AV.cells, AV.plain])))) (sco (sld rfl rfl (ldg (n := 2) (by kernel_rfl) (by first | assumption | (simp (disch := first | omega | (simp only [hNw, hPt]; omega)) only [gn0, gn1, gn2, gn3, gn4, gn5, gp0, gno, gpo] <;> first | rfl | assumption)) (by first | rfl | assumption)) rfl (eqr _ (by first | rfl | exact lpl (by assumption) | (simp [AV.plain, AV.plains, AV.cells, AV.plain])))) (sco (sld rfl rfl (lda (n := 1) (by kernel_rfl) (by first | assumption | (simp (disch := first | omega | (simp only [hNw, hPt]; omega)) only [gn0, gn1, gn2, gn3, gn4, gn5, gp0, gno, gpo] <;> first | rfl | assumption)) (by first | rfl | assumption)) rfl (eqr _ (by first | rfl | exact lpl (by assumption) | (simp [AV.plain, AV.plains, AV.cells, AV.plain])))) (sco (sld rfl rfl (lda (n := 1) (by kernel_rfl) (by first | assumption | (simp (disch := first | omega | (simp only [hNw, hPt]; omega)) only [gn0, gn1, gn2, gn3, gn4, gn5, gp0, gno, gpo] <;> first | rfl | assumption)) (by first | rfl | assumption)) rfl (eqr _ (by first | rfl | exact lpl (by assumption) | (simp [AV.plain, AV.plains, AV.cells, AV.plain])))) rfl)))), ?_⟩
      refine OkP.step ?_
      refine OkO.builtinE rfl rfl rfl (Mine.app2 (W := W) (k0 := G0.next + 1) (sz := 1) (by_ := 8) (e := 3) (n := 1) (new := [I (pickI cs[i].lo cs[i].hi (nextW ws (2 + i)))]) (hml.to (Grow.toNew G _)) (hg.new _) (by omega) (by simp only [hNw]; omega) (by kernel_rfl) (by kernel_rfl) (elems_new (n := 1) (sz := 1) rfl) rfl rfl (by rw [List.length_map, hpl]; omega) (by omega) (by omega) rfl) ?_
      rintro v2 G2 ⟨q1, q2, q3, q4, q5, q6⟩
      simp only [hNw] at q4 q5 q6
      obtain ⟨mm, hv2⟩ := q6
      have z0 : G2.get (W.next) = some (.cells [cv, I g.slo, I g.shi, I g.klo, I g.khi, I g.melt] 26) := by rw [q3.get _ (by omega) (by simp only [hNw]; omega), gno _ _ _ (by omega)]; exact f0
      have y0 : (G2.get (W.next)).bind AObj.cs = some [cv, I g.slo, I g.shi, I g.klo, I g.khi, I g.melt] := by rw [z0]; rfl
      have z1 : G2.get (W.next + 1) = some (.cells [I 0, I 0, .nils, .nils] 30) := by rw [q3.get _ (by omega) (by simp only [hNw]; omega), gno _ _ _ (by omega)]; exact f1
      have y1 : (G2.get (W.next + 1)).bind AObj.cs = some [I 0, I 0, .nils, .nils] := by rw [z1]; rfl
      have z2 : G2.get (W.next + 2) = some (.cells (fillW ws (2 + cs.length + ds.length) (2 + cs.length + ds.length)) 64) := by rw [q3.get _ (by omega) (by simp only [hNw]; omega), gno _ _ _ (by omega)]; exact f2
      have y2 : (G2.get (W.next + 2)).bind AObj.cs = some (fillW ws (2 + cs.length + ds.length) (2 + cs.length + ds.length)) := by rw [z2]; rfl
      have z3 : G2.get (G0.next) = some (.cells [I (pickT g ws).snow, I (pickT g ws).soak, vl, vr] 30) := by rw [q3.get _ (by omega) (by simp only [hNw]; omega), gno _ _ _ (by omega)]; exact f3
      have y3 : (G2.get (G0.next)).bind AObj.cs = some [I (pickT g ws).snow, I (pickT g ws).soak, vl, vr] := by rw [z3]; rfl
      have hmo : Mine (G0.next + 1) G2 vr 3 1 _ := (hmr.to (Grow.toNew G _)).keep (w := vl) (fun j h1 h2 => q4 j (by simpa using h1) h2) (fun b m m' h1 h2 => hsep b m' m h2 h1) (by simp only [hNw]; omega)
      have hs2 : ∀ b m m', v2 = .opn b m → vr ≠ .opn b m' := fun b m m' h1 h2 => by rw [hv2] at h1; have e9 := (AV.opn.inj h1).1; have := hmr.lt h2; omega
      have iw : (G2.get bb).bind AObj.cs = some ccs := by rw [q2.get _ i4]; exact i2w
      obtain ⟨bb2, hbb2⟩ : ∃ bb2, bb2 = G.next + 1 := ⟨_, rfl⟩
      rw [← hbb2] at hv2
      subst hv2
      refine OkO.nil ⟨(sco (sld rfl rfl (lda (n := 1) (by kernel_rfl) (by first | assumption | (simp (disch := first | omega | (simp only [hNw, hPt]; omega)) only [gn0, gn1, gn2, gn3, gn4, gn5, gp0, gno, gpo] <;> first | rfl | assumption)) (by first | rfl | assumption)) rfl (eqr _ (by first | rfl | exact lpl (by assumption) | (simp [AV.plain, AV.plains, AV.cells, AV.plain])))) (sco (sld rfl rfl (ldg (n := 2) (by kernel_rfl) (by first | assumption | (simp (disch := first | omega | (simp only [hNw, hPt]; omega)) only [gn0, gn1, gn2, gn3, gn4, gn5, gp0, gno, gpo] <;> first | rfl | assumption)) (by first | rfl | assumption)) rfl (eqr _ (by first | rfl | exact lpl (by assumption) | (simp [AV.plain, AV.plains, AV.cells, AV.plain])))) (sco (sld rfl rfl (lda (n := 1) (by kernel_rfl) (by first | assumption | (simp (disch := first | omega | (simp only [hNw, hPt]; omega)) only [gn0, gn1, gn2, gn3, gn4, gn5, gp0, gno, gpo] <;> first | rfl | assumption)) (by first | rfl | assumption)) rfl (eqr _ (by first | rfl | exact lpl (by assumption) | (simp [AV.plain, AV.plains, AV.cells, AV.plain])))) rfl))), ?_⟩
      refine OkP.step ?_
      refine OkO.fieldAddr (o := 2) rfl (by kernel_rfl) rfl ?_
      refine OkO.nil ⟨rfl, ?_⟩
      refine OkP.step ?_
      refine OkO.store rfl rfl rfl (stc (n := 1) (ag := false) (by kernel_rfl) (by first | assumption | (simp (disch := first | omega | (simp only [hNw, hPt]; omega)) only [gn0, gn1, gn2, gn3, gn4, gn5, gp0, gno, gpo] <;> first | rfl | assumption)) rfl rfl (by first | rfl | first | exact fillW_set (by omega) | exact spl_set _ _ _ (by first | assumption | (simp; omega)))) ?_
      refine OkO.nil ⟨rfl, ?_⟩
      refine OkP.nil ?_
      refine Ok.region ?_
      refine OkO.move rfl rfl ?_
      refine OkO.bin rfl rfl rfl (bin_add (by omega) (by omega)) ?_
      refine OkO.assign rfl rfl ?_
      refine OkO.nil ?_
      refine ⟨cs.length - (i + 1), by omega, i + 1, .opn bb2 mm, vr, rfl, hlt, ?_, ?_, hs2, Has.of (by kernel_rfl), rfl, q2.put _ (by omega), by rw [gpo _ _ _ _ (by omega)]; exact z0, by rw [gpo _ _ _ _ (by omega)]; exact z1, by rw [gpo _ _ _ _ (by omega)]; exact z2, gp0 _ _ _, by simp only [hPt]; omega⟩
      · rw [pickL_succ, hx0]; exact q1.put _ (by omega)
      · exact hmo.put _ (by omega)
    · -- no h5
      have hge : i = cs.length := by simp at h5; omega
      subst hge
      refine Ok.exit ?_
      refine Ok.seq ?_
      refine Ok.region ?_
      refine OkO.move rfl rfl ?_
      refine OkO.fieldAddr (o := 0) rfl (by kernel_rfl) rfl ?_
      refine OkO.load rfl rfl (lda (n := 1) (by kernel_rfl) (by first | assumption | (simp (disch := first | omega | (simp only [hNw, hPt]; omega)) only [gn0, gn1, gn2, gn3, gn4, gn5, gp0, gno, gpo] <;> first | rfl | assumption)) (by first | rfl | assumption)) ?_
      refine OkO.builtin rfl rfl rfl (bln (by kernel_rfl) (by first | assumption | rfl)) ?_
      refine OkO.bin rfl rfl rfl (bin_add (by omega) (by omega)) ?_
      refine OkO.assign rfl rfl ?_
      refine OkO.nil ?_
      refine Ok.seq ?_
      refine Ok.seq ?_
      refine Ok.region ?_
      refine OkO.assign rfl rfl ?_
      refine OkO.nil ?_
      refine Ok.block ?_
      refine Ok.loop (fun n s => ∃ (i : Nat) (vl vr : AV), n = ds.length - i ∧ i ≤ ds.length ∧ Mine (G0.next + 1) s.H vl 3 1 ((pickL cs ws cs.length).map I) ∧ Mine (G0.next + 1) s.H vr 3 1 ((pickR cs ds ws i).map I) ∧ (∀ b m m', vl = .opn b m → vr ≠ .opn b m') ∧ Has 7 [(1, dv), (3, .ptr W.next 0), (6, .ptr (W.next + 1) 0), (7, I (2 + (cs.length : Int))), (8, .slice (W.next + 2) 0 (2 + cs.length + ds.length) (2 + cs.length + ds.length)), (10, .ptr (G0.next) 0), (12, I (i : Int))] s.T ∧ s.D = [] ∧ Grow W s.H ∧ s.H.get W.next = some (.cells [cv, I g.slo, I g.shi, I g.klo, I g.khi, I g.melt] 26) ∧ s.H.get (W.next + 1) = some (.cells [I 0, I 0, .nils, .nils] 30) ∧ s.H.get (W.next + 2) = some (.cells (fillW ws (2 + cs.length + ds.length) (2 + cs.length + ds.length)) 64) ∧ s.H.get (G0.next) = some (.cells [I (pickT g ws).snow, I (pickT g ws).soak, vl, vr] 30) ∧ G0.next + 1 ≤ s.H.next) (ds.length) (by unfold loopFuel; omega)
        ⟨0, vl, vr, rfl, Nat.zero_le _, hml, hmr, hsep, Has.of (by kernel_rfl), rfl, hg, f0, f1, f2, f3, hb4⟩ ?_
      rintro n ⟨T, D, G⟩ ⟨i, vl, vr, hn, hi, hml, hmr, hsep, ⟨f, hT⟩, hD, hg, f0, f1, f2, f3, hb4⟩
      dsimp only at *
      subst hT hD
      have hgn := hg.next
      have e0 : (G.get W.next).bind AObj.cs = some [cv, I g.slo, I g.shi, I g.klo, I g.khi, I g.melt] := by rw [f0]; rfl
      have e2 : (G.get (W.next + 2)).bind AObj.cs = some (fillW ws (2 + cs.length + ds.length) (2 + cs.length + ds.length)) := by rw [f2]; rfl
      have e3 : (G.get (G0.next)).bind AObj.cs = some [I (pickT g ws).snow, I (pickT g ws).soak, vl, vr] := by rw [f3]; rfl
      obtain ⟨ll, hll, _⟩ := hml.len
      obtain ⟨lr, hlr, _⟩ := hmr.len
      refine Ok.seq ?_
      refine Ok.seq ?_
      refine Ok.region ?_
      refine OkO.move rfl rfl ?_
      refine OkO.move rfl rfl ?_
      refine OkO.builtin rfl rfl rfl (bln (by kernel_rfl) (by first | assumption | rfl)) ?_
      refine OkO.bin rfl rfl rfl (bin_lss _ _) ?_
      refine OkO.nil ?_
      refine Ok.cond rfl (fun h6 => ?_) (fun h6 => ?_)
      · -- yes h6
        have hlt : i < ds.length := by simpa using h6
        have hx0 : ds.getD i default = ds[i] := by simp [hlt]
        obtain ⟨bb, off, ccs, i1, i2w, i3, i4⟩ := (hY.ext (hE W hG)).at_ i ds[i].c (by simp [hlt])
        have i2 : (G.get bb).bind AObj.cs = some ccs := by rw [hg.get _ i4]; exact i2w
        have i4g : bb < G.next := by omega
        have i5 : seg ccs (off + 0) 2 = some [I ds[i].lo, I ds[i].hi] := seg_sub i3 0 2 (by omega) (by omega)
        have hxl := hd _ (List.getElem_mem hlt)
        unfold Day.lim at hxl
        have p2 : (fillW ws (2 + cs.length + ds.length) (2 + cs.length + ds.length))[0 + (2 + cs.length + i) * 1]? = some (U (nextW ws (2 + cs.length + i))) := by rw [fillW_get (by omega), if_pos (by omega)]
        have hpl : (pickR cs ds ws i).length = i := by simp [pickR]
        refine Ok.skip ?_
        refine Ok.seq ?_
        refine Ok.block ?_
        refine Ok.drawn [(0, true, []), (1, true, []), (2, true, []), (3, true, []), (4, true, []), (5, true, []), (6, true, []), (7, true, []), (8, true, []), (9, true, []), (10, true, []), (11, true, []), (12, true, []), (13, false, [1]), (14, true, [12, 6, 1]), (15, false, [12, 6]), (16, true, []), (17, false, [])] (by kernel_rfl) ?_
        refine OkP.step ?_
        refine OkO.fieldAddr (o := 3) rfl (by kernel_rfl) rfl ?_
        refine OkO.nil ⟨rfl, ?_⟩
        refine OkP.step ?_
        refine OkO.load rfl rfl (lda (n := 1) (by kernel_rfl) (by first | assumption | (simp (disch := first | omega | (simp only [hNw, hPt]; omega)) only [gn0, gn1, gn2, gn3, gn4, gn5, gp0, gno, gpo] <;> first | rfl | assumption)) (by first | rfl | assumption)) ?_
        refine OkO.nil ⟨rfl, ?_⟩
        refine OkP.step ?_
        refine OkO.move rfl rfl ?_
        refine OkO.nil ⟨rfl, ?_⟩
        refine OkP.step ?_
        refine OkO.move rfl rfl ?_
        refine OkO.nil ⟨rfl, ?_⟩
        refine OkP.step ?_
        refine OkO.index (sz := 3) (n := i) rfl rfl rfl (by kernel_rfl) (by first | assumption | rfl | exact slAt_slice (by omega)) ?_ -- index ('Go.Operand.tmp', 93) ('Go.Operand.tmp', 94)
        refine OkO.nil ⟨rfl, ?_⟩
        refine OkP.step ?_
        refine OkO.fieldAddr (o := 0) rfl (by kernel_rfl) rfl ?_
        refine OkO.nil ⟨rfl, ?_⟩
        refine OkP.step ?_
        refine OkO.load rfl rfl (ldg (n := 2) (by kernel_rfl) (by first | assumption | (simp (disch := first | omega | (simp only [hNw, hPt]; omega)) only [gn0, gn1, gn2, gn3, gn4, gn5, gp0, gno, gpo] <;> first | rfl | assumption)) (by first | rfl | assumption)) ?_
        refine OkO.nil ⟨rfl, ?_⟩
        refine OkP.step ?_
        refine OkO.move rfl rfl ?_
        refine OkO.nil ⟨rfl, ?_⟩
        refine OkP.step ?_
        refine OkO.move rfl rfl ?_
        refine OkO.nil ⟨rfl, ?_⟩
        refine OkP.step ?_
        refine OkO.move rfl rfl ?_
        refine OkO.nil ⟨rfl, ?_⟩
        refine OkP.step ?_
        refine OkO.bin rfl rfl rfl (bin_add (by omega) (by omega)) ?_
        refine OkO.nil ⟨rfl, ?_⟩
        refine OkP.step ?_
        refine OkO.index (sz := 1) (n := 2 + cs.length + i) rfl rfl (congrArg (fun z => some (I z)) (by push_cast; rfl)) (by kernel_rfl) (by first | assumption | rfl | exact slAt_slice (by omega)) ?_ -- index ('Go.Operand.tmp', 98) ('Go.Operand.tmp', 101)
        refine OkO.nil ⟨rfl, ?_⟩
        refine OkP.step ?_
        refine OkO.load rfl rfl (lda (n := 1) (by kernel_rfl) (by first | assumption | (simp (disch := first | omega | (simp only [hNw, hPt]; omega)) only [gn0, gn1, gn2, gn3, gn4, gn5, gp0, gno, gpo] <;> first | rfl | assumption)) (by first | rfl | assumption)) ?_
        refine OkO.nil ⟨rfl, ?_⟩
        refine OkP.step ?_
        refine OkO.callV rfl rfl rfl rfl rfl (c49 _ _ _ _ _ (by omega) (next_bd hws _)) ?_ -- "sackung/sackunglaw02.pick"
        refine OkO.nil ⟨(sco (sld rfl rfl (lda (n := 1) (by kernel_rfl) (by first | assumption | (simp (disch := first | omega | (simp only [hNw, hPt]; omega)) only [gn0, gn1, gn2, gn3, gn4, gn5, gp0, gno, gpo] <;> first | rfl | assumption)) (by first | rfl | assumption)) rfl (eqr _ (by first | rfl | exact lpl (by assumption) | (simp [AV.plain, AV.plains, AV.cells, AV.plain])))) rfl), ?_⟩
        refine OkP.step ?_
        refine OkO.buildSlice (el := 3) (sz := 1) (z := [.int .i64 0]) rfl (by kernel_rfl) (by decide) rfl rfl ?_
        refine OkO.nil ⟨(sco (sld rfl rfl (lda (n := 1) (by kernel_rfl) (by first | assumption | (simp (disch := first | omega | (simp only [hNw, hPt]; omega)) only [gn0, gn1, gn2, gn3, gn4, gn5, gp0, gno, gpo] <;> first | rfl | assumption)) (by first | rfl | assumption)) rfl (eqr _ (by first | rfl | exact lpl (by assumption) | (simp [AV.plain, AV.plains, AV.cells, AV.plain])))) (sco (sld rfl rfl (ldg (n := 2) (by kernel_rfl) (by first | assumption | (simp (disch := first | omega | (simp only [hNw, hPt]; omega)) only [gn0, gn1, gn2, gn3, gn4, gn5, gp0, gno, gpo] <;> first | rfl | assumption)) (by first | rfl | assumption)) rfl (eqr _ (by first | rfl | exact lpl (by assumption) | (simp [AV.plain, AV.plains, AV.cells, AV.plain])))) (sco (sld rfl rfl (lda (n := 1) (by kernel_rfl) (by first | assumption | (simp (disch := first | omega | (simp only [hNw, hPt]; omega)) only [gn0, gn1, gn2, gn3, gn4, gn5, gp0, gno, gpo] <;> first | rfl | assumption)) (by first | rfl | assumption)) rfl (eqr _ (by first | rfl | exact lpl (by assumption) | (simp [AV.plain, AV.plains, AV.cells, AV.plain])))) rfl))), ?_⟩
        refine OkP.step ?_
        refine OkO.builtinE rfl rfl rfl (Mine.app2 (W := W) (k0 := G0.next + 1) (sz := 1) (by_ := 8) (e := 3) (n := 1) (new := [I (pickI ds[i].lo ds[i].hi (nextW ws (2 + cs.length + i)))]) (hmr.to (Grow.toNew G _)) (hg.new _) (by omega) (by simp only [hNw]; omega) (by kernel_rfl) (by kernel_rfl) (elems_new (n := 1) (sz := 1) rfl) rfl rfl (by rw [List.length_map, hpl]; omega) (by omega) (by omega) rfl) ?_
        rintro v2 G2 ⟨q1, q2, q3, q4, q5, q6⟩
        simp only [hNw] at q4 q5 q6
        obtain ⟨mm, hv2⟩ := q6
        have z0 : G2.get (W.next) = some (.cells [cv, I g.slo, I g.shi, I g.klo, I g.khi, I g.melt] 26) := by rw [q3.get _ (by omega) (by simp only [hNw]; omega), gno _ _ _ (by omega)]; exact f0
        have y0 : (G2.get (W.next)).bind AObj.cs = some [cv, I g.slo, I g.shi, I g.klo, I g.khi, I g.melt] := by rw [z0]; rfl
        have z1 : G2.get (W.next + 1) = some (.cells [I 0, I 0, .nils, .nils] 30) := by rw [q3.get _ (by omega) (by simp only [hNw]; omega), gno _ _ _ (by omega)]; exact f1
        have y1 : (G2.get (W.next + 1)).bind AObj.cs = some [I 0, I 0, .nils, .nils] := by rw [z1]; rfl
        have z2 : G2.get (W.next + 2) = some (.cells (fillW ws (2 + cs.length + ds.length) (2 + cs.length + ds.length)) 64) := by rw [q3.get _ (by omega) (by simp only [hNw]; omega), gno _ _ _ (by omega)]; exact f2
        have y2 : (G2.get (W.next + 2)).bind AObj.cs = some (fillW ws (2 + cs.length + ds.length) (2 + cs.length + ds.length)) := by rw [z2]; rfl
        have z3 : G2.get (G0.next) = some (.cells [I (pickT g ws).snow, I (pickT g ws).soak, vl, vr] 30) := by rw [q3.get _ (by omega) (by simp only [hNw]; omega), gno _ _ _ (by omega)]; exact f3
        have y3 : (G2.get (G0.next)).bind AObj.cs = some [I (pickT g ws).snow, I (pickT g ws).soak, vl, vr] := by rw [z3]; rfl
        have hmo : Mine (G0.next + 1) G2 vl 3 1 _ := (hml.to (Grow.toNew G _)).keep (w := vr) (fun j h1 h2 => q4 j (by simpa using h1) h2) (fun b m m' h1 h2 => hsep b m m' h1 h2) (by simp only [hNw]; omega)
        have hs2 : ∀ b m m', vl = .opn b m → v2 ≠ .opn b m' := fun b m m' h1 h2 => by rw [hv2] at h2; have e9 := (AV.opn.inj h2).1; have := hml.lt h1; omega
        have iw : (G2.get bb).bind AObj.cs = some ccs := by rw [q2.get _ i4]; exact i2w
        obtain ⟨bb2, hbb2⟩ : ∃ bb2, bb2 = G.next + 1 := ⟨_, rfl⟩
        rw [← hbb2] at hv2
        subst hv2
        refine OkO.nil ⟨(sco (sld rfl rfl (lda (n := 1) (by kernel_rfl) (by first | assumption | (simp (disch := first | omega | (simp only [hNw, hPt]; omega)) only [gn0, gn1, gn2, gn3, gn4, gn5, gp0, gno, gpo] <;> first | rfl | assumption)) (by first | rfl | assumption)) rfl (eqr _ (by first | rfl | exact lpl (by assumption) | (simp [AV.plain, AV.plains, AV.cells, AV.plain])))) (sco (sld rfl rfl (ldg (n := 2) (by kernel_rfl) (by first | assumption | (simp (disch := first | omega | (simp only [hNw, hPt]; omega)) only [gn0, gn1, gn2, gn3, gn4, gn5, gp0, gno, gpo] <;> first | rfl | assumption)) (by first | rfl | assumption)) rfl (eqr _ (by first | rfl | exact lpl (by assumption) | (simp [AV.plain, AV.plains, AV.cells, AV.plain])))) rfl)), ?_⟩
        refine OkP.step ?_
        refine OkO.fieldAddr (o := 3) rfl (by kernel_rfl) rfl ?_
        refine OkO.nil ⟨rfl, ?_⟩
        refine OkP.step ?_
        refine OkO.store rfl rfl rfl (stc (n := 1) (ag := false) (by kernel_rfl) (by first | assumption | (simp (disch := first | omega | (simp only [hNw, hPt]; omega)) only [gn0, gn1, gn2, gn3, gn4, gn5, gp0, gno, gpo] <;> first | rfl | assumption)) rfl rfl (by first | rfl | first | exact fillW_set (by omega) | exact spl_set _ _ _ (by first | assumption | (simp; omega)))) ?_
        refine OkO.nil ⟨rfl, ?_⟩
        refine OkP.nil ?_
        refine Ok.region ?_
        refine OkO.move rfl rfl ?_
        refine OkO.bin rfl rfl rfl (bin_add (by omega) (by omega)) ?_
        refine OkO.assign rfl rfl ?_
        refine OkO.nil ?_
        refine ⟨ds.length - (i + 1), by omega, i + 1, vl, .opn bb2 mm, rfl, hlt, ?_, ?_, hs2, Has.of (by kernel_rfl), rfl, q2.put _ (by omega), by rw [gpo _ _ _ _ (by omega)]; exact z0, by rw [gpo _ _ _ _ (by omega)]; exact z1, by rw [gpo _ _ _ _ (by omega)]; exact z2, gp0 _ _ _, by simp only [hPt]; omega⟩
        · exact hmo.put _ (by omega)
        · rw [pickR_succ, hx0]; exact q1.put _ (by omega)
      · -- no h6
        have hge : i = ds.length := by simp at h6; omega
        subst hge
        obtain ⟨l1, l2⟩ := hml.one
        obtain ⟨r1, r2⟩ := hmr.one
        refine Ok.exit ?_
        refine Ok.seq ?_
        refine Ok.region ?_
        refine OkO.load rfl rfl (ldg (n := 4) (by kernel_rfl) (by first | assumption | (simp (disch := first | omega | (simp only [hNw, hPt]; omega)) only [gn0, gn1, gn2, gn3, gn4, gn5, gp0, gno, gpo] <;> first | rfl | assumption)) (by first | rfl | assumption)) ?_
        refine OkO.store rfl rfl rfl (stc (n := 4) (ag := true) (l := [I (pickT g ws).snow, I (pickT g ws).soak, vl, vr]) (by kernel_rfl) (by first | assumption | simp (disch := first | omega | (simp only [hNw, hPt]; omega)) only [gn0, gn1, gn2, gn3, gn4, gn5, gp0, gno, gpo] <;> first | rfl | assumption) rfl (by show atoms [I (pickT g ws).snow, I (pickT g ws).soak, vl, vr] = true; simp [atoms, l2, r2, show ∀ z, (I z).atom = true from fun _ => rfl]) rfl) ?_
        refine OkO.nil ?_
        refine Ok.ret ⟨.inr rfl, ?_⟩
        refine back_newA (resV_cell (b := W.next + 1) (off := 0) rfl (ldg (n := 4) (by kernel_rfl) (show ((G.put (W.next + 1) (.cells [I (pickT g ws).snow, I (pickT g ws).soak, vl, vr] 30)).get (W.next + 1)).bind AObj.cs = some [I (pickT g ws).snow, I (pickT g ws).soak, vl, vr] by rw [gp0]; rfl) rfl) resV_nil) rfl (by rw [← hW]; exact hg.put _ (by omega)) (fun H2 q2 q3 => ⟨vl, vr, rfl, q2, ?_, ?_, l2, r2⟩)
        · exact (Mine.back (l := (pickL cs ws cs.length).map fun n => [I n]) (H := H) (by rw [ints_flat]; exact hml.put (n := W.next + 1) (.cells [I (pickT g ws).snow, I (pickT g ws).soak, vl, vr] 30) (by omega)) (fun x hx => by simp only [List.mem_map] at hx; obtain ⟨y, _, rfl⟩ := hx; rfl) (by omega) (q3.imp (fun h => ⟨h.1, (flat4 h.2).1⟩) id)).1
        · exact (Mine.back (l := (pickR cs ds ws ds.length).map fun n => [I n]) (H := H) (by rw [ints_flat]; exact hmr.put (n := W.next + 1) (.cells [I (pickT g ws).snow, I (pickT g ws).soak, vl, vr] 30) (by omega)) (fun x hx => by simp only [List.mem_map] at hx; obtain ⟨y, _, rfl⟩ := hx; rfl) (by omega) (q3.imp (fun h => ⟨h.1, (flat4 h.2).2⟩) id)).1
end
end Go.Ev
