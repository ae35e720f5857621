/-
  Functions of the program, reckoned by the evaluator: what each answers, and that it leaves what came in as it was (part 24).
-/
import Derived.Test.YtibplmibcbillaaV23
set_option maxRecDepth 100000
set_option linter.unusedSimpArgs false
set_option linter.unusedVariables false
namespace Go.Ev
open Go Go.Proofs
noncomputable section
def leftK (cs : List Cell) (g : Gr) (ds : List Day) (t : Tru) (lvs rain : List Int) : Nat → Int
  | 0 => 0
  | k + 1 => leftD cs g ds t lvs rain k
theorem flat_tup {v : AV} {l : List AV} (h : v.flat = false) : (AV.tup (v :: l)).flat = false := by rw [AV.flat, AV.flats, h]
theorem lev0 {cs : List Cell} {g : Gr} {ds : List Day} {t : Tru} {lvs rain : List Int} (h : lvs.length = cs.length) : (levP cs g ds t lvs rain 0).take cs.length = lvs := by rw [levP, ← h]; simp
theorem c26Z (m : Nat) (cv dv lv rv : AV) (cs : List Cell) (g : Gr) (ds : List Day) (t : Tru) (lvs rain : List Int) (H : Heap) (hR : Row H cv 7 (cs.map Cell.c)) (hY : Row H dv 3 (ds.map Day.c)) (hL : Ints H lv lvs) (hA : Ints H rv rain) (hF : Fit cs g ds t lvs rain) : ∃ v H', RR (m + 1) (.fn 26 [.agg [cv, I g.slo, I g.shi, I g.klo, I g.khi, I g.melt], dv, .agg [I t.snow, I t.soak, lv, rv], I 0]) H = some (v, H') ∧ ∃ v6, v = .tup [v6, I (leftK cs g ds t lvs rain 0), I (snowP g.melt ds rain t.snow 0)] ∧ Ret H H' ∧ Ints H' v6 ((levP cs g ds t lvs rain 0).take cs.length) := by
  show ∃ v H', evFn Try.prog (RR (m + 0)) 26 [.agg [cv, I g.slo, I g.shi, I g.klo, I g.khi, I g.melt], dv, .agg [I t.snow, I t.soak, lv, rv], I 0] H = some (v, H') ∧ ∃ v6, v = .tup [v6, I (leftK cs g ds t lvs rain 0), I (snowP g.melt ds rain t.snow 0)] ∧ Ret H H' ∧ Ints H' v6 ((levP cs g ds t lvs rain 0).take cs.length)
  refine fn_okE Try.func26 rfl rfl (by kernel_rfl) (by kernel_rfl) ?_
  obtain ⟨W, hW⟩ : ∃ W : Heap, W = ⟨H.t, H.next, H.next⟩ := ⟨_, rfl⟩
  have hg : ∀ n, W.get n = H.get n := fun n => by rw [hW]; rfl
  have hN : W.next = H.next := by rw [hW]
  have hE : ∀ G, Grow W G → Ext H G := fun G g => ⟨by rw [← hN]; exact g.next, fun n k => by rw [g.get n (by rw [hN]; exact k), hg]⟩
  have hG : Grow W W := Grow.refl (by rw [hW]; exact Nat.le_refl _)
  rw [← hW]
  have hlc : lenOf cv = some cs.length := by simpa using hR.len
  have pc := lpl hlc
  have hld : lenOf dv = some ds.length := by simpa using hY.len
  have hll : lenOf lv = some lvs.length := by simpa using hL.len
  have hlr : lenOf rv = some rain.length := by simpa using hA.len
  have pl := lpl hll
  have pr := lpl hlr
  have hn8 := hF.n8
  have hfl := hF.ll
  have hfr := hF.rl
  have hd30 := hF.d30
  refine Ok.seq ?_
  refine Ok.region ?_
  refine OkO.box rfl rfl ?_
  refine OkO.box rfl rfl ?_
  refine OkO.assign rfl rfl ?_
  refine OkO.assign rfl rfl ?_
  refine OkO.assign rfl rfl ?_
  refine OkO.nil ?_
  refine Ok.seq ?_
  refine Ok.seq ?_
  refine Ok.region ?_
  refine OkO.move rfl rfl ?_
  refine OkO.bin rfl rfl rfl (bin_eql _ _) ?_
  refine OkO.nil ?_
  refine Ok.cond rfl (fun h1 => ?_) (fun h1 => ?_)
  · -- yes h1
    refine Ok.seq ?_
    refine Ok.drawn [(0, true, []), (1, true, []), (2, true, []), (4, true, []), (5, true, []), (3, false, [5]), (6, true, []), (7, true, []), (8, true, [])] (by kernel_rfl) ?_
    refine OkP.step ?_
    refine OkO.buildSlice (el := 3) (sz := 1) (z := [.int .i64 0]) rfl (by kernel_rfl) (by decide) rfl rfl ?_
    refine OkO.nil ⟨rfl, ?_⟩
    refine OkP.step ?_
    refine OkO.fieldAddr (o := 2) rfl (by kernel_rfl) rfl ?_
    refine OkO.nil ⟨rfl, ?_⟩
    refine OkP.step ?_
    refine OkO.load rfl rfl (lda (n := 1) (by kernel_rfl) (by first | assumption | (simp (disch := first | omega | (simp only [hNw, hPt]; omega)) only [gn0, gn1, gn2, gn3, gn4, gn5, gp0, gno, gpo] <;> first | rfl | assumption)) (by first | rfl | assumption)) ?_
    refine OkO.nil ⟨rfl, ?_⟩
    refine OkP.step ?_
    refine OkO.fieldAddr (o := 0) rfl (by kernel_rfl) rfl ?_
    refine OkO.nil ⟨rfl, ?_⟩
    refine OkP.step ?_
    refine OkO.load rfl rfl (lda (n := 1) (by kernel_rfl) (by first | assumption | (simp (disch := first | omega | (simp only [hNw, hPt]; omega)) only [gn0, gn1, gn2, gn3, gn4, gn5, gp0, gno, gpo] <;> first | rfl | assumption)) (by first | rfl | assumption)) ?_
    refine OkO.nil ⟨rfl, ?_⟩
    refine OkP.step ?_
    refine OkO.builtinE rfl rfl rfl (app_lit (el := 3) (sz := 1) (by_ := 8) (e := 3) (rows := lvs.map fun n => [I n]) (by (try dsimp only); repeat (first | exact hG | apply Grow.new | (refine Grow.put ?_ _ (by first | omega | (simp only [hNw, hPt]; omega))))) (by kernel_rfl) (by kernel_rfl) ((hL.ext (hE _ (by (try dsimp only); repeat (first | exact hG | apply Grow.new | (refine Grow.put ?_ _ (by first | omega | (simp only [hNw, hPt]; omega))))))).ext (Grow.toNew _ _)) (fun x hx => by simp only [List.mem_map] at hx; obtain ⟨y, _, rfl⟩ := hx; rfl) (by simp; omega) (by omega) (by rw [ints_flat]; exact atoms_ints lvs)) ?_
    rintro v2 G2 ⟨r1, r3, r4, r5⟩
    have yy : (G2.get (W.next + 1)).bind AObj.cs = some [I t.snow, I t.soak, lv, rv] := by rw [r5.get _ (by simp only [hNw]; omega) (by simp only [hNw]; omega)]; (simp (disch := first | omega | (simp only [hNw, hPt]; omega)) only [gn0, gn1, gn2, gn3, gn4, gn5, gp0, gno, gpo] <;> first | rfl | assumption)
    refine OkO.nil ⟨(sco (sld rfl rfl (lda (n := 1) (by kernel_rfl) (by first | assumption | (simp (disch := first | omega | (simp only [hNw, hPt]; omega)) only [gn0, gn1, gn2, gn3, gn4, gn5, gp0, gno, gpo] <;> first | rfl | assumption)) (by first | rfl | assumption)) rfl (eqr _ (by first | rfl | exact lpl (by assumption) | (simp [AV.plain, AV.plains, AV.cells, pc, pl, pr])))) rfl), ?_⟩
    refine OkP.step ?_
    refine OkO.assign rfl rfl ?_
    refine OkO.nil ⟨rfl, ?_⟩
    refine OkP.step ?_
    refine OkO.assign rfl rfl ?_
    refine OkO.nil ⟨rfl, ?_⟩
    refine OkP.step ?_
    refine OkO.assign rfl rfl ?_
    refine OkO.nil ⟨rfl, ?_⟩
    refine OkP.nil ?_
    refine Ok.ret ⟨.inr rfl, ?_⟩
    exact back_newQ (resV_tmp rfl (resV_tmp rfl (resV_tmp rfl resV_nil))) rfl (by rw [← hW]; exact r3) (flat_tup r4.2.2) (fun H' q1 q2 q3 => ⟨v2, rfl, q1, by rw [lev0 hfl]; exact (r1.now (Nat.le_refl _)).1.same q2 q3⟩)
  · -- no h1
    exact absurd h1 (by simp)
theorem flatT1 {a : AV} {l : List AV} (h : (AV.tup (a :: l)).flat = true) : a.flat = true := by
  rw [AV.flat, AV.flats] at h
  cases hq : a.flat with
  | true => rfl
  | false => rw [hq] at h; cases h
theorem c26S (m : Nat) (k : Nat) (cv dv lv rv : AV) (cs : List Cell) (g : Gr) (ds : List Day) (t : Tru) (lvs rain : List Int) (H : Heap) (hR : Row H cv 7 (cs.map Cell.c)) (hY : Row H dv 3 (ds.map Day.c)) (hL : Ints H lv lvs) (hA : Ints H rv rain) (hF : Fit cs g ds t lvs rain) (hk : k < ds.length) (ih : ∀ G, Ext H G → ∃ v H', RR m (.fn 26 [.agg [cv, I g.slo, I g.shi, I g.klo, I g.khi, I g.melt], dv, .agg [I t.snow, I t.soak, lv, rv], I (k : Int)]) G = some (v, H') ∧ ∃ v6, v = .tup [v6, I (leftK cs g ds t lvs rain k), I (snowP g.melt ds rain t.snow k)] ∧ Ret G H' ∧ Ints H' v6 ((levP cs g ds t lvs rain k).take cs.length)) : ∃ v H', RR (m + 1) (.fn 26 [.agg [cv, I g.slo, I g.shi, I g.klo, I g.khi, I g.melt], dv, .agg [I t.snow, I t.soak, lv, rv], .int .i64 ((k : Int) + 1)]) H = some (v, H') ∧ ∃ v6, v = .tup [v6, I (leftK cs g ds t lvs rain (k + 1)), I (snowP g.melt ds rain t.snow (k + 1))] ∧ Ret H H' ∧ Ints H' v6 ((levP cs g ds t lvs rain (k + 1)).take cs.length) := by
  show ∃ v H', evFn Try.prog (RR (m + 0)) 26 [.agg [cv, I g.slo, I g.shi, I g.klo, I g.khi, I g.melt], dv, .agg [I t.snow, I t.soak, lv, rv], .int .i64 ((k : Int) + 1)] H = some (v, H') ∧ ∃ v6, v = .tup [v6, I (leftK cs g ds t lvs rain (k + 1)), I (snowP g.melt ds rain t.snow (k + 1))] ∧ Ret H H' ∧ Ints H' v6 ((levP cs g ds t lvs rain (k + 1)).take cs.length)
  refine fn_okE Try.func26 rfl rfl (by kernel_rfl) (by kernel_rfl) ?_
  obtain ⟨W, hW⟩ : ∃ W : Heap, W = ⟨H.t, H.next, H.next⟩ := ⟨_, rfl⟩
  have hg : ∀ n, W.get n = H.get n := fun n => by rw [hW]; rfl
  have hN : W.next = H.next := by rw [hW]
  have hE : ∀ G, Grow W G → Ext H G := fun G g => ⟨by rw [← hN]; exact g.next, fun n k => by rw [g.get n (by rw [hN]; exact k), hg]⟩
  have hG : Grow W W := Grow.refl (by rw [hW]; exact Nat.le_refl _)
  rw [← hW]
  have hlc : lenOf cv = some cs.length := by simpa using hR.len
  have pc := lpl hlc
  have hld : lenOf dv = some ds.length := by simpa using hY.len
  have hll : lenOf lv = some lvs.length := by simpa using hL.len
  have hlr : lenOf rv = some rain.length := by simpa using hA.len
  have pl := lpl hll
  have pr := lpl hlr
  have hn8 := hF.n8
  have hfl := hF.ll
  have hfr := hF.rl
  have hd30 := hF.d30
  refine Ok.seq ?_
  refine Ok.region ?_
  refine OkO.box rfl rfl ?_
  refine OkO.box rfl rfl ?_
  refine OkO.assign rfl rfl ?_
  refine OkO.assign rfl rfl ?_
  refine OkO.assign rfl rfl ?_
  refine OkO.nil ?_
  refine Ok.seq ?_
  refine Ok.seq ?_
  refine Ok.region ?_
  refine OkO.move rfl rfl ?_
  refine OkO.bin rfl rfl rfl (bin_eql _ _) ?_
  refine OkO.nil ?_
  refine Ok.cond rfl (fun h1 => ?_) (fun h1 => ?_)
  · -- yes h1
    exact absurd h1 (by simp; omega)
  · -- no h1
    refine Ok.skip ?_
    refine Ok.seq ?_
    refine Ok.region ?_
    refine OkO.load rfl rfl (ldg (n := 6) (by kernel_rfl) (by first | assumption | (simp (disch := first | omega | (simp only [hNw, hPt]; omega)) only [gn0, gn1, gn2, gn3, gn4, gn5, gp0, gno, gpo] <;> first | rfl | assumption)) (by first | rfl | assumption)) ?_
    refine OkO.move rfl rfl ?_
    refine OkO.load rfl rfl (ldg (n := 4) (by kernel_rfl) (by first | assumption | (simp (disch := first | omega | (simp only [hNw, hPt]; omega)) only [gn0, gn1, gn2, gn3, gn4, gn5, gp0, gno, gpo] <;> first | rfl | assumption)) (by first | rfl | assumption)) ?_
    refine OkO.move rfl rfl ?_
    refine OkO.bin rfl rfl rfl (bin_sub (by omega) (by omega)) ?_
    refine OkO.callE rfl rfl rfl rfl rfl ((by rw [show ((k : Int) + 1 - 1) = (k : Int) from by omega]; exact ih _ (hE _ (by (try dsimp only); repeat (first | exact hG | apply Grow.new | (refine Grow.put ?_ _ (by first | omega | (simp only [hNw, hPt]; omega)))))))) ?_ -- "sackung/sackungref02.After"
    rintro v26 H1 ⟨vp, rfl, q1, hp⟩
    have g1 : Grow W H1 := Grow.ret (by (try dsimp only); repeat (first | exact hG | apply Grow.new | (refine Grow.put ?_ _ (by first | omega | (simp only [hNw, hPt]; omega))))) q1
    have n1 : W.next + 2 ≤ H1.next := by have := q1.ext.next; simp only [hNw] at this; omega
    have a1 : (H1.get W.next).bind AObj.cs = some [cv, I g.slo, I g.shi, I g.klo, I g.khi, I g.melt] := by rw [q1.ext.get _ (by simp only [hNw]; omega)]; (simp (disch := first | omega | (simp only [hNw, hPt]; omega)) only [gn0, gn1, gn2, gn3, gn4, gn5, gp0, gno, gpo] <;> first | rfl | assumption)
    have b1 : (H1.get (W.next + 1)).bind AObj.cs = some [I t.snow, I t.soak, lv, rv] := by rw [q1.ext.get _ (by simp only [hNw]; omega)]; (simp (disch := first | omega | (simp only [hNw, hPt]; omega)) only [gn0, gn1, gn2, gn3, gn4, gn5, gp0, gno, gpo] <;> first | rfl | assumption)
    have hlf0 := (lev_facts hF k (by omega)).1
    have hlp : lenOf vp = some cs.length := by rw [hp.len]; simp; omega
    have hkd : k < ds.length := hk
    have A1 : Ints H1 rv rain := hA.ext (hE _ g1)
    have Y1 : Row H1 dv 3 (ds.map Day.c) := hY.ext (hE _ g1)
    have R1 : Row H1 cv 7 (cs.map Cell.c) := hR.ext (hE _ g1)
    obtain ⟨rb, ro, rcs, r1, r2, r3, r4⟩ := A1.at_ k [I (rain.getD k 0)] (by rw [List.getElem?_map, List.getElem?_eq_getElem (by omega), getD_lt (by omega)]; rfl)
    have r5 := seg_one r3
    obtain ⟨db, dof, dcs, d1, d2, d3, d4⟩ := Y1.at_ k ds[k].c (by rw [List.getElem?_map, List.getElem?_eq_getElem hkd]; rfl)
    have d5 : dcs[dof + 2]? = some (I ds[k].warm) := seg_get d3 2 (by omega)
    have hx0 : ds.getD k default = ds[k] := by simp [hkd]
    have hsb := snow_bd hF.melt hF.dlim hF.rb hF.snow k (by omega)
    have hrb := hF.rb.getD (by omega) k
    have hdlm := hF.dlim _ (List.getElem_mem hkd)
    have hlm := hdlm
    unfold Day.lim at hlm
    refine OkO.move rfl rfl ?_
    refine OkO.extract rfl rfl rfl ?_
    refine OkO.extract rfl rfl rfl ?_
    refine OkO.extract rfl rfl rfl ?_
    refine OkO.assign rfl rfl ?_
    refine OkO.assign rfl rfl ?_
    refine OkO.assign rfl rfl ?_
    refine OkO.nil ?_
    refine Ok.seq ?_
    refine Ok.drawn [(0, true, []), (1, true, []), (2, true, []), (3, true, []), (4, true, []), (5, true, []), (6, true, []), (7, true, []), (8, true, []), (9, true, []), (10, true, []), (11, true, []), (12, true, []), (13, true, [])] (by kernel_rfl) ?_
    refine OkP.step ?_
    refine OkO.fieldAddr (o := 3) rfl (by kernel_rfl) rfl ?_
    refine OkO.nil ⟨rfl, ?_⟩
    refine OkP.step ?_
    refine OkO.load rfl rfl (lda (n := 1) (by kernel_rfl) (by first | assumption | (simp (disch := first | omega | (simp only [hNw, hPt]; omega)) only [gn0, gn1, gn2, gn3, gn4, gn5, gp0, gno, gpo] <;> first | rfl | assumption)) (by first | rfl | assumption)) ?_
    refine OkO.nil ⟨rfl, ?_⟩
    refine OkP.step ?_
    refine OkO.move rfl rfl ?_
    refine OkO.nil ⟨rfl, ?_⟩
    refine OkP.step ?_
    refine OkO.bin rfl rfl rfl (bin_sub (by omega) (by omega)) ?_
    refine OkO.nil ⟨rfl, ?_⟩
    refine OkP.step ?_
    refine OkO.index (sz := 1) (n := k) rfl rfl (congrArg (fun z => some (I z)) (by omega)) (by kernel_rfl) (by first | assumption | rfl | exact slAt_slice (by omega)) ?_ -- index ('Go.Operand.tmp', 50) ('Go.Operand.tmp', 52)
    refine OkO.nil ⟨rfl, ?_⟩
    refine OkP.step ?_
    refine OkO.load rfl rfl (lda (n := 1) (by kernel_rfl) (by first | assumption | (simp (disch := first | omega | (simp only [hNw, hPt]; omega)) only [gn0, gn1, gn2, gn3, gn4, gn5, gp0, gno, gpo] <;> first | rfl | assumption)) (by first | rfl | assumption)) ?_
    refine OkO.nil ⟨rfl, ?_⟩
    refine OkP.step ?_
    refine OkO.move rfl rfl ?_
    refine OkO.nil ⟨rfl, ?_⟩
    refine OkP.step ?_
    refine OkO.move rfl rfl ?_
    refine OkO.nil ⟨rfl, ?_⟩
    refine OkP.step ?_
    refine OkO.bin rfl rfl rfl (bin_sub (by omega) (by omega)) ?_
    refine OkO.nil ⟨rfl, ?_⟩
    refine OkP.step ?_
    refine OkO.index (sz := 3) (n := k) rfl rfl (congrArg (fun z => some (I z)) (by omega)) (by kernel_rfl) (by first | assumption | rfl | exact slAt_slice (by omega)) ?_ -- index ('Go.Operand.tmp', 55) ('Go.Operand.tmp', 57)
    refine OkO.nil ⟨rfl, ?_⟩
    refine OkP.step ?_
    refine OkO.fieldAddr (o := 2) rfl (by kernel_rfl) rfl ?_
    refine OkO.nil ⟨rfl, ?_⟩
    refine OkP.step ?_
    refine OkO.load rfl rfl (lda (n := 1) (by kernel_rfl) (by first | assumption | (simp (disch := first | omega | (simp only [hNw, hPt]; omega)) only [gn0, gn1, gn2, gn3, gn4, gn5, gp0, gno, gpo] <;> first | rfl | assumption)) (by first | rfl | assumption)) ?_
    refine OkO.nil ⟨rfl, ?_⟩
    refine OkP.step ?_
    refine OkO.assign rfl rfl ?_
    refine OkO.nil ⟨rfl, ?_⟩
    refine OkP.step ?_
    refine OkO.assign rfl rfl ?_
    refine OkO.nil ⟨rfl, ?_⟩
    refine OkP.nil ?_
    refine Ok.seq ?_
    refine Ok.region ?_
    refine OkO.assign rfl rfl ?_
    refine OkO.nil ?_
    refine Ok.join (fun s => Has 8 [(1, dv), (4, .ptr W.next 0), (6, .ptr (W.next + 1) 0), (11, vp), (13, I (snowP g.melt ds rain t.snow (k + 1))), (16, I (downP g.melt ds rain t.snow k))] s.T ∧ s.D = [] ∧ H1 = s.H) ?_ ?_
    · -- to the meeting
      refine Ok.seq ?_
      refine Ok.region ?_
      refine OkO.move rfl rfl ?_
      refine OkO.bin rfl rfl rfl (bin_gtr _ _) ?_
      refine OkO.nil ?_
      refine Ok.cond rfl (fun h2 => ?_) (fun h2 => ?_)
      · -- yes h2
        have hwm : 0 < ds[k].warm := by simpa using h2
        have hmb0 := melt_bd hF.melt hdlm hwm
        have hd : (downP g.melt ds rain t.snow k) = rain.getD k 0 + min (snowP g.melt ds rain t.snow k) (g.melt * ds[k].warm) := by unfold downP; rw [hx0, if_pos hwm]
        have hs : snowP g.melt ds rain t.snow (k + 1) = (snowP g.melt ds rain t.snow k) - min (snowP g.melt ds rain t.snow k) (g.melt * ds[k].warm) := by rw [snowP, hx0, if_pos hwm]
        refine Ok.seq ?_
        refine Ok.region ?_
        refine OkO.move rfl rfl ?_
        refine OkO.fieldAddr (o := 5) rfl (by kernel_rfl) rfl ?_
        refine OkO.load rfl rfl (lda (n := 1) (by kernel_rfl) (by first | assumption | (simp (disch := first | omega | (simp only [hNw, hPt]; omega)) only [gn0, gn1, gn2, gn3, gn4, gn5, gp0, gno, gpo] <;> first | rfl | assumption)) (by first | rfl | assumption)) ?_
        refine OkO.move rfl rfl ?_
        refine OkO.bin rfl rfl rfl (bin_mul (by omega) (by omega)) ?_
        refine OkO.builtin rfl rfl rfl (builtin_min2 _ _) ?_
        refine OkO.assign rfl rfl ?_
        refine OkO.nil ?_
        refine Ok.seq ?_
        refine Ok.region ?_
        refine OkO.move rfl rfl ?_
        refine OkO.move rfl rfl ?_
        refine OkO.bin rfl rfl rfl (bin_sub (by omega) (by omega)) ?_
        refine OkO.assign rfl rfl ?_
        refine OkO.nil ?_
        refine Ok.region ?_
        refine OkO.move rfl rfl ?_
        refine OkO.move rfl rfl ?_
        refine OkO.bin rfl rfl rfl (bin_add (by omega) (by omega)) ?_
        refine OkO.assign rfl rfl ?_
        refine OkO.nil ?_
        refine ⟨rfl, ?_, rfl, rfl⟩
        rw [hs, hd]; exact Has.of (by kernel_rfl)
      · -- no h2
        have hwm : ¬0 < ds[k].warm := by simpa using h2
        have hd : (downP g.melt ds rain t.snow k) = 0 := by unfold downP; rw [hx0, if_neg hwm]
        have hs : snowP g.melt ds rain t.snow (k + 1) = (snowP g.melt ds rain t.snow k) + rain.getD k 0 := by rw [snowP, hx0, if_neg hwm]
        refine Ok.region ?_
        refine OkO.move rfl rfl ?_
        refine OkO.move rfl rfl ?_
        refine OkO.bin rfl rfl rfl (bin_add (by omega) (by omega)) ?_
        refine OkO.assign rfl rfl ?_
        refine OkO.nil ?_
        refine ⟨rfl, ?_, rfl, rfl⟩
        rw [hs, hd]; exact Has.of (by kernel_rfl)
    · -- behind it
      rintro ⟨T, D, G⟩ ⟨⟨f, hT⟩, hD, hH⟩
      dsimp only at *
      subst hT hD
      subst hH
      have hdb := down_bd hF.melt hF.dlim hF.rb hF.snow k hkd
      have hsk := hF.soak
      have hmb := mul_bd (a := (downP g.melt ds rain t.snow k)) (b := t.soak) (p := 4000) (q := 1000) hdb hsk
      have hms := Int.mul_le_mul_of_nonneg_left hsk.2 hdb.1
      have hso : 0 ≤ ((downP g.melt ds rain t.snow k) * t.soak / 1000) ∧ ((downP g.melt ds rain t.snow k) * t.soak / 1000) ≤ (downP g.melt ds rain t.snow k) := by omega
      have hlf := lev_facts hF k (by omega)
      have hnd := mul_bd (a := (cs.length : Int)) (b := (downP g.melt ds rain t.snow k) - ((downP g.melt ds rain t.snow k) * t.soak / 1000)) (p := 8) (q := 4000) (by omega) (by omega)
      refine Ok.seq ?_
      refine Ok.region ?_
      refine OkO.fieldAddr (o := 0) rfl (by kernel_rfl) rfl ?_
      refine OkO.load rfl rfl (lda (n := 1) (by kernel_rfl) (by first | assumption | (simp (disch := first | omega | (simp only [hNw, hPt]; omega)) only [gn0, gn1, gn2, gn3, gn4, gn5, gp0, gno, gpo] <;> first | rfl | assumption)) (by first | rfl | assumption)) ?_
      refine OkO.builtin rfl rfl rfl (bln (by kernel_rfl) (by first | assumption | rfl)) ?_
      refine OkO.assign rfl rfl ?_
      refine OkO.nil ?_
      refine Ok.seq ?_
      refine Ok.drawn [(0, true, []), (1, true, []), (2, true, []), (3, true, []), (4, true, []), (5, true, [])] (by kernel_rfl) ?_
      refine OkP.step ?_
      refine OkO.move rfl rfl ?_
      refine OkO.nil ⟨rfl, ?_⟩
      refine OkP.step ?_
      refine OkO.makeSlice (el := 3) (sz := 1) (z := [.int .i64 0]) (n := cs.length) (by_ := 8) rfl (by kernel_rfl) (by kernel_rfl) (by omega) rfl rfl (by omega) ?_
      refine OkO.nil ⟨rfl, ?_⟩
      refine OkP.step ?_
      refine OkO.move rfl rfl ?_
      refine OkO.nil ⟨rfl, ?_⟩
      refine OkP.step ?_
      refine OkO.makeSlice (el := 3) (sz := 1) (z := [.int .i64 0]) (n := cs.length) (by_ := 8) rfl (by kernel_rfl) (by kernel_rfl) (by omega) rfl rfl (by omega) ?_
      refine OkO.nil ⟨rfl, ?_⟩
      refine OkP.step ?_
      refine OkO.assign rfl rfl ?_
      refine OkO.nil ⟨rfl, ?_⟩
      refine OkP.step ?_
      refine OkO.assign rfl rfl ?_
      refine OkO.nil ⟨rfl, ?_⟩
      refine OkP.nil ?_
      refine Ok.seq ?_
      refine Ok.region ?_
      refine OkO.move rfl rfl ?_
      refine OkO.fieldAddr (o := 1) rfl (by kernel_rfl) rfl ?_
      refine OkO.load rfl rfl (lda (n := 1) (by kernel_rfl) (by first | assumption | (simp (disch := first | omega | (simp only [hNw, hPt]; omega)) only [gn0, gn1, gn2, gn3, gn4, gn5, gp0, gno, gpo] <;> first | rfl | assumption)) (by first | rfl | assumption)) ?_
      refine OkO.bin rfl rfl rfl (bin_mul (by omega) (by omega)) ?_
      refine OkO.bin rfl rfl rfl (bin_quo (by omega) (by omega) (by omega)) ?_
      refine OkO.assign rfl rfl ?_
      refine OkO.nil ?_
      refine Ok.seq ?_
      refine Ok.region ?_
      refine OkO.move rfl rfl ?_
      refine OkO.move rfl rfl ?_
      refine OkO.move rfl rfl ?_
      refine OkO.bin rfl rfl rfl (bin_sub (by omega) (by omega)) ?_
      refine OkO.bin rfl rfl rfl (bin_mul (by omega) (by omega)) ?_
      refine OkO.assign rfl rfl ?_
      refine OkO.nil ?_
      refine Ok.seq ?_
      refine Ok.seq ?_
      refine Ok.region ?_
      refine OkO.assign rfl rfl ?_
      refine OkO.nil ?_
      refine Ok.block ?_
      refine Ok.loop (fun n s => ∃ i : Nat, n = cs.length - i ∧ i ≤ cs.length ∧ Has 8 [(4, .ptr W.next 0), (11, vp), (13, I (snowP g.melt ds rain t.snow (k + 1))), (18, I cs.length), (19, .slice H1.next 0 cs.length cs.length), (20, .slice (H1.next + 1) 0 cs.length cs.length), (21, I ((downP g.melt ds rain t.snow k) * t.soak / 1000)), (22, I (lAI cs (levP cs g ds t lvs rain k) (downP g.melt ds rain t.snow k) ((downP g.melt ds rain t.snow k) * t.soak / 1000) i)), (23, I (i : Int))] s.T ∧ s.D = [] ∧ Grow W s.H ∧ Ext H1 s.H ∧ s.H.get H1.next = some (.cells ((fillI (stayI cs (levP cs g ds t lvs rain k)) cs.length i).map I) 3) ∧ s.H.get (H1.next + 1) = some (.cells ((fillI (passI cs (levP cs g ds t lvs rain k)) cs.length i).map I) 3) ∧ H1.next + 2 ≤ s.H.next) (cs.length) (by unfold loopFuel; omega)
        ⟨0, rfl, Nat.zero_le _, Has.of (by kernel_rfl), rfl, (g1.new _).new _, (Grow.toNew _ _).trans (Grow.toNew _ _), by rw [gno _ _ _ (by simp only [hNw]; omega), gn0]; congr 2; exact rep_zero _ _, by rw [gn1]; congr 2; exact rep_zero _ _, by simp only [hNw]; omega⟩ ?_
      rintro n ⟨T, D, G⟩ ⟨i, hn, hi, ⟨f, hT⟩, hD, hg, hx, fs, fp, hb2⟩
      dsimp only at *
      subst hT hD
      have hgn := hg.next
      have es : (G.get H1.next).bind AObj.cs = some ((fillI (stayI cs (levP cs g ds t lvs rain k)) cs.length i).map I) := by rw [fs]; rfl
      have ep : (G.get (H1.next + 1)).bind AObj.cs = some ((fillI (passI cs (levP cs g ds t lvs rain k)) cs.length i).map I) := by rw [fp]; rfl
      have ea : (G.get W.next).bind AObj.cs = some [cv, I g.slo, I g.shi, I g.klo, I g.khi, I g.melt] := by rw [hx.get _ (by omega)]; exact a1
      refine Ok.seq ?_
      refine Ok.seq ?_
      refine Ok.region ?_
      refine OkO.move rfl rfl ?_
      refine OkO.move rfl rfl ?_
      refine OkO.bin rfl rfl rfl (bin_lss _ _) ?_
      refine OkO.nil ?_
      refine Ok.cond rfl (fun h3 => ?_) (fun h3 => ?_)
      · -- yes h3
        have hlt : i < cs.length := by simpa using h3
        have hx9 : cs.getD i default = cs[i] := by simp [hlt]
        obtain ⟨bb, off, ccs, i1, i2, i3, i4⟩ := (R1.ext hx).at_ i cs[i].c (by simp [hlt])
        have hne : bb ≠ G.next := by omega
        obtain ⟨lb, lo, lcs, l1, l2w, l3, l4⟩ := hp.at_ i [I ((levP cs g ds t lvs rain k).getD i 0)] (by rw [List.getElem?_map, List.getElem?_take, if_pos hlt, List.getElem?_eq_getElem (by omega), getD_lt (by omega)]; rfl)
        have l5 := seg_one l3
        have l2 : (G.get lb).bind AObj.cs = some lcs := by rw [hx.get _ l4]; exact l2w
        have hnl : lb ≠ G.next := by omega
        have hgb := gets_bd hF.lim hlf.2 i hlt
        have hlA := lA_bd hF.lim hlf.2 hn8.2 ⟨hso.1, hso.2, hdb.2⟩ i hi
        have hxl := hF.lim _ (List.getElem_mem hlt)
        unfold Cell.lim at hxl
        have hpd : pumpd (cs.getD i default) ((levP cs g ds t lvs rain k).getD i 0) = min ((levP cs g ds t lvs rain k).getD i 0) cs[i].pump := by unfold pumpd; rw [hx9]
        rw [hpd] at hgb
        have hpd2 : (passI cs (levP cs g ds t lvs rain k)) i = max ((((levP cs g ds t lvs rain k).getD i 0) - min ((levP cs g ds t lvs rain k).getD i 0) cs[i].pump) - cs[i].keep) 0 * cs[i].pass / 1000 := by unfold passI passd pumpd; rw [hx9]
        have pl8 : i < (fillI (passI cs (levP cs g ds t lvs rain k)) cs.length i).length := by rw [fillI_len]; omega
        have hrn : 0 ≤ (((levP cs g ds t lvs rain k).getD i 0) - min ((levP cs g ds t lvs rain k).getD i 0) cs[i].pump) ∧ (((levP cs g ds t lvs rain k).getD i 0) - min ((levP cs g ds t lvs rain k).getD i 0) cs[i].pump) ≤ 100000 := by omega
        obtain ⟨G0, hG0⟩ : ∃ G0, G0 = G := ⟨_, rfl⟩
        subst hG0
        refine Ok.skip ?_
        refine Ok.seq ?_
        refine Ok.block ?_
        refine Ok.seq ?_
        refine Ok.region ?_
        refine OkO.fieldAddr (o := 0) rfl (by kernel_rfl) rfl ?_
        refine OkO.load rfl rfl (lda (n := 1) (by kernel_rfl) (by first | assumption | (simp (disch := first | omega | (simp only [hNw, hPt]; omega)) only [gn0, gn1, gn2, gn3, gn4, gn5, gp0, gno, gpo] <;> first | rfl | assumption)) (by first | rfl | assumption)) ?_
        refine OkO.move rfl rfl ?_
        refine OkO.index (sz := 7) (n := i) rfl rfl rfl (by kernel_rfl) (by first | assumption | rfl | exact slAt_slice (by omega)) ?_ -- index ('Go.Operand.tmp', 101) ('Go.Operand.tmp', 102)
        refine OkO.load rfl rfl (ldg (n := 7) (by kernel_rfl) (by first | assumption | (simp (disch := first | omega | (simp only [hNw, hPt]; omega)) only [gn0, gn1, gn2, gn3, gn4, gn5, gp0, gno, gpo] <;> first | rfl | assumption)) (by first | rfl | assumption)) ?_
        refine OkO.alloc (z := [.int .i64 0, .int .i64 0, .int .i64 0, .int .i64 0, .int .i64 0, .int .i64 0, .int .i64 0]) rfl (by kernel_rfl) ?_
        refine OkO.store rfl rfl rfl (stc (n := 7) (ag := true) (by kernel_rfl) (by first | assumption | (simp (disch := first | omega | (simp only [hNw, hPt]; omega)) only [gn0, gn1, gn2, gn3, gn4, gn5, gp0, gno, gpo] <;> first | rfl | assumption)) rfl rfl (by first | rfl | exact spl_set _ _ _ (by first | assumption | (simp; omega)))) ?_
        refine OkO.nil ?_
        refine Ok.seq ?_
        refine Ok.drawn [(0, true, []), (1, true, []), (2, true, []), (3, true, []), (4, true, []), (5, true, []), (6, false, []), (7, true, [])] (by kernel_rfl) ?_
        refine OkP.step ?_
        refine OkO.move rfl rfl ?_
        refine OkO.nil ⟨rfl, ?_⟩
        refine OkP.step ?_
        refine OkO.move rfl rfl ?_
        refine OkO.nil ⟨rfl, ?_⟩
        refine OkP.step ?_
        refine OkO.index (sz := 1) (n := i) rfl rfl rfl (by kernel_rfl) (by first | assumption | rfl | exact slAt_slice (by omega)) ?_ -- index ('Go.Operand.tmp', 105) ('Go.Operand.tmp', 106)
        refine OkO.nil ⟨rfl, ?_⟩
        refine OkP.step ?_
        refine OkO.load rfl rfl (lda (n := 1) (by kernel_rfl) (by first | assumption | (simp (disch := first | omega | (simp only [hNw, hPt]; omega)) only [gn0, gn1, gn2, gn3, gn4, gn5, gp0, gno, gpo] <;> first | rfl | assumption)) (by first | rfl | assumption)) ?_
        refine OkO.nil ⟨rfl, ?_⟩
        refine OkP.step ?_
        refine OkO.fieldAddr (o := 6) rfl (by kernel_rfl) rfl ?_
        refine OkO.nil ⟨rfl, ?_⟩
        refine OkP.step ?_
        refine OkO.load rfl rfl (lda (n := 1) (by kernel_rfl) (by first | assumption | (simp (disch := first | omega | (simp only [hNw, hPt]; omega)) only [gn0, gn1, gn2, gn3, gn4, gn5, gp0, gno, gpo] <;> first | rfl | assumption)) (by first | rfl | assumption)) ?_
        refine OkO.nil ⟨rfl, ?_⟩
        refine OkP.step ?_
        refine OkO.builtin rfl rfl rfl (builtin_min2 _ _) ?_
        refine OkO.nil ⟨rfl, ?_⟩
        refine OkP.step ?_
        refine OkO.assign rfl rfl ?_
        refine OkO.nil ⟨rfl, ?_⟩
        refine OkP.nil ?_
        refine Ok.seq ?_
        refine Ok.region ?_
        refine OkO.move rfl rfl ?_
        refine OkO.move rfl rfl ?_
        refine OkO.index (sz := 1) (n := i) rfl rfl rfl (by kernel_rfl) (by first | assumption | rfl | exact slAt_slice (by omega)) ?_ -- index ('Go.Operand.tmp', 112) ('Go.Operand.tmp', 113)
        refine OkO.load rfl rfl (lda (n := 1) (by kernel_rfl) (by first | assumption | (simp (disch := first | omega | (simp only [hNw, hPt]; omega)) only [gn0, gn1, gn2, gn3, gn4, gn5, gp0, gno, gpo] <;> first | rfl | assumption)) (by first | rfl | assumption)) ?_
        refine OkO.move rfl rfl ?_
        refine OkO.bin rfl rfl rfl (bin_sub (by omega) (by omega)) ?_
        refine OkO.assign rfl rfl ?_
        refine OkO.nil ?_
        refine Ok.join (fun s => Has 8 [(4, .ptr W.next 0), (11, vp), (13, I (snowP g.melt ds rain t.snow (k + 1))), (18, I cs.length), (19, .slice H1.next 0 cs.length cs.length), (20, .slice (H1.next + 1) 0 cs.length cs.length), (21, I ((downP g.melt ds rain t.snow k) * t.soak / 1000)), (22, I (lAI cs (levP cs g ds t lvs rain k) (downP g.melt ds rain t.snow k) ((downP g.melt ds rain t.snow k) * t.soak / 1000) i)), (23, I (i : Int)), (24, .ptr G0.next 0), (25, I (min ((levP cs g ds t lvs rain k).getD i 0) cs[i].pump)), (26, I (((levP cs g ds t lvs rain k).getD i 0) - min ((levP cs g ds t lvs rain k).getD i 0) cs[i].pump))] s.T ∧ s.D = [] ∧ Grow W s.H ∧ Ext H1 s.H ∧ s.H.get H1.next = some (.cells ((fillI (stayI cs (levP cs g ds t lvs rain k)) cs.length i).map I) 3) ∧ s.H.get (H1.next + 1) = some (.cells ((fillI (passI cs (levP cs g ds t lvs rain k)) cs.length (i + 1)).map I) 3) ∧ s.H.get G0.next = some (.cells cs[i].c 91) ∧ G0.next + 1 ≤ s.H.next) ?_ ?_
        · -- to the meeting
          refine Ok.seq ?_
          refine Ok.region ?_
          refine OkO.move rfl rfl ?_
          refine OkO.fieldAddr (o := 3) rfl (by kernel_rfl) rfl ?_
          refine OkO.load rfl rfl (lda (n := 1) (by kernel_rfl) (by first | assumption | (simp (disch := first | omega | (simp only [hNw, hPt]; omega)) only [gn0, gn1, gn2, gn3, gn4, gn5, gp0, gno, gpo] <;> first | rfl | assumption)) (by first | rfl | assumption)) ?_
          refine OkO.bin rfl rfl rfl (bin_gtr _ _) ?_
          refine OkO.nil ?_
          refine Ok.cond rfl (fun h4 => ?_) (fun h4 => ?_)
          · -- yes h4
            have hgt : cs[i].keep < (((levP cs g ds t lvs rain k).getD i 0) - min ((levP cs g ds t lvs rain k).getD i 0) cs[i].pump) := by simpa using h4
            have hpm := mul_bd (a := (((levP cs g ds t lvs rain k).getD i 0) - min ((levP cs g ds t lvs rain k).getD i 0) cs[i].pump) - cs[i].keep) (b := cs[i].pass) (p := 100000) (q := 1000) (by omega) (by omega)
            have hpe : (((((levP cs g ds t lvs rain k).getD i 0) - min ((levP cs g ds t lvs rain k).getD i 0) cs[i].pump) - cs[i].keep) * cs[i].pass / 1000) = (passI cs (levP cs g ds t lvs rain k)) i := by rw [hpd2, Int.max_eq_left (by omega)]
            refine Ok.region ?_
            refine OkO.move rfl rfl ?_
            refine OkO.move rfl rfl ?_
            refine OkO.move rfl rfl ?_
            refine OkO.fieldAddr (o := 3) rfl (by kernel_rfl) rfl ?_
            refine OkO.load rfl rfl (lda (n := 1) (by kernel_rfl) (by first | assumption | (simp (disch := first | omega | (simp only [hNw, hPt]; omega)) only [gn0, gn1, gn2, gn3, gn4, gn5, gp0, gno, gpo] <;> first | rfl | assumption)) (by first | rfl | assumption)) ?_
            refine OkO.bin rfl rfl rfl (bin_sub (by omega) (by omega)) ?_
            refine OkO.fieldAddr (o := 4) rfl (by kernel_rfl) rfl ?_
            refine OkO.load rfl rfl (lda (n := 1) (by kernel_rfl) (by first | assumption | (simp (disch := first | omega | (simp only [hNw, hPt]; omega)) only [gn0, gn1, gn2, gn3, gn4, gn5, gp0, gno, gpo] <;> first | rfl | assumption)) (by first | rfl | assumption)) ?_
            refine OkO.bin rfl rfl rfl (bin_mul (by omega) (by omega)) ?_
            refine OkO.bin rfl rfl rfl (bin_quo (by omega) (by omega) (by omega)) ?_
            refine OkO.index (sz := 1) (n := i) rfl rfl rfl (by kernel_rfl) (by first | assumption | rfl | exact slAt_slice (by omega)) ?_ -- index ('Go.Operand.tmp', 122) ('Go.Operand.tmp', 123)
            refine OkO.store rfl rfl rfl (stc (n := 1) (ag := false) (by kernel_rfl) (by first | assumption | (simp (disch := first | omega | (simp only [hNw, hPt]; omega)) only [gn0, gn1, gn2, gn3, gn4, gn5, gp0, gno, gpo] <;> first | rfl | assumption)) rfl rfl (by first | rfl | exact spl_set _ _ _ (by first | assumption | (simp; omega)))) ?_
            refine OkO.nil ?_
            refine ⟨rfl, Has.of (by kernel_rfl), rfl, (by (try dsimp only); repeat (first | (first | exact hg | exact hg) | apply Grow.new | (refine Grow.put ?_ _ (by first | omega | (simp only [hNw, hPt]; omega))))), ⟨by simp only [hNw, hPt]; omega, fun j hj => by (simp (disch := first | omega | (simp only [hNw, hPt]; omega)) only [gn0, gn1, gn2, gn3, gn4, gn5, gp0, gno, gpo]); exact hx.get j hj⟩, (by simp (disch := first | omega | (simp only [hNw, hPt]; omega)) only [gn0, gn1, gn2, gn3, gn4, gn5, gp0, gno, gpo] <;> first | rfl | assumption), ?_, (by simp (disch := first | omega | (simp only [hNw, hPt]; omega)) only [gn0, gn1, gn2, gn3, gn4, gn5, gp0, gno, gpo] <;> first | rfl | assumption), by simp only [hNw, hPt]; omega⟩
            first | (rw [gp0, hpe, fillI_set _ hlt]) | (rw [← fillI_zero _ hlt hpz]; simp (disch := first | omega | (simp only [hNw, hPt]; omega)) only [gn0, gn1, gn2, gn3, gn4, gn5, gp0, gno, gpo] <;> first | rfl | assumption)
          · -- no h4
            have hle : (((levP cs g ds t lvs rain k).getD i 0) - min ((levP cs g ds t lvs rain k).getD i 0) cs[i].pump) ≤ cs[i].keep := by simpa using h4
            have hpz : (passI cs (levP cs g ds t lvs rain k)) i = 0 := by rw [hpd2, Int.max_eq_right (by omega)]; simp
            refine Ok.skip ?_
            refine ⟨rfl, Has.of (by kernel_rfl), rfl, (by (try dsimp only); repeat (first | (first | exact hg | exact hg) | apply Grow.new | (refine Grow.put ?_ _ (by first | omega | (simp only [hNw, hPt]; omega))))), ⟨by simp only [hNw, hPt]; omega, fun j hj => by (simp (disch := first | omega | (simp only [hNw, hPt]; omega)) only [gn0, gn1, gn2, gn3, gn4, gn5, gp0, gno, gpo]); exact hx.get j hj⟩, (by simp (disch := first | omega | (simp only [hNw, hPt]; omega)) only [gn0, gn1, gn2, gn3, gn4, gn5, gp0, gno, gpo] <;> first | rfl | assumption), ?_, (by simp (disch := first | omega | (simp only [hNw, hPt]; omega)) only [gn0, gn1, gn2, gn3, gn4, gn5, gp0, gno, gpo] <;> first | rfl | assumption), by simp only [hNw, hPt]; omega⟩
            first | (rw [gp0, hpe, fillI_set _ hlt]) | (rw [← fillI_zero _ hlt hpz]; simp (disch := first | omega | (simp only [hNw, hPt]; omega)) only [gn0, gn1, gn2, gn3, gn4, gn5, gp0, gno, gpo] <;> first | rfl | assumption)
        · -- behind it
          rintro ⟨T, D, G⟩ ⟨⟨f, hT⟩, hD, hg, hx, fs, fp, fc, hb3⟩
          dsimp only at *
          subst hT hD
          have es : (G.get H1.next).bind AObj.cs = some ((fillI (stayI cs (levP cs g ds t lvs rain k)) cs.length i).map I) := by rw [fs]; rfl
          have ep : (G.get (H1.next + 1)).bind AObj.cs = some ((fillI (passI cs (levP cs g ds t lvs rain k)) cs.length (i + 1)).map I) := by rw [fp]; rfl
          have ec : (G.get G0.next).bind AObj.cs = some cs[i].c := by rw [fc]; rfl
          have pp : ((fillI (passI cs (levP cs g ds t lvs rain k)) cs.length (i + 1)).map I)[0 + i * 1]? = some (I ((passI cs (levP cs g ds t lvs rain k)) i)) := by rw [arr_get _ _ (by rw [fillI_len]; omega), fillI_getD _ hlt, if_pos (by omega)]
          have sl8 : i < (fillI (stayI cs (levP cs g ds t lvs rain k)) cs.length i).length := by rw [fillI_len]; omega
          have hst : (((levP cs g ds t lvs rain k).getD i 0) - min ((levP cs g ds t lvs rain k).getD i 0) cs[i].pump) - (passI cs (levP cs g ds t lvs rain k)) i = (stayI cs (levP cs g ds t lvs rain k)) i := by unfold stayI pumpd passI; rw [hx9]
          have hgn := hg.next
          refine Ok.seq ?_
          refine Ok.region ?_
          refine OkO.move rfl rfl ?_
          refine OkO.move rfl rfl ?_
          refine OkO.move rfl rfl ?_
          refine OkO.move rfl rfl ?_
          refine OkO.move rfl rfl ?_
          refine OkO.index (sz := 1) (n := i) rfl rfl rfl (by kernel_rfl) (by first | assumption | rfl | exact slAt_slice (by omega)) ?_ -- index ('Go.Operand.tmp', 136) ('Go.Operand.tmp', 137)
          refine OkO.load rfl rfl (lda (n := 1) (by kernel_rfl) (by first | assumption | (simp (disch := first | omega | (simp only [hNw, hPt]; omega)) only [gn0, gn1, gn2, gn3, gn4, gn5, gp0, gno, gpo] <;> first | rfl | assumption)) (by first | rfl | assumption)) ?_
          refine OkO.bin rfl rfl rfl (bin_sub (by omega) (by omega)) ?_
          refine OkO.index (sz := 1) (n := i) rfl rfl rfl (by kernel_rfl) (by first | assumption | rfl | exact slAt_slice (by omega)) ?_ -- index ('Go.Operand.tmp', 133) ('Go.Operand.tmp', 134)
          refine OkO.store rfl rfl rfl (stc (n := 1) (ag := false) (by kernel_rfl) (by first | assumption | (simp (disch := first | omega | (simp only [hNw, hPt]; omega)) only [gn0, gn1, gn2, gn3, gn4, gn5, gp0, gno, gpo] <;> first | rfl | assumption)) rfl rfl (by first | rfl | exact spl_set _ _ _ (by first | assumption | (simp; omega)))) ?_
          refine OkO.nil ?_
          refine Ok.seq ?_
          refine Ok.region ?_
          refine OkO.move rfl rfl ?_
          refine OkO.move rfl rfl ?_
          refine OkO.bin rfl rfl rfl (bin_add (by omega) (by omega)) ?_
          refine OkO.assign rfl rfl ?_
          refine OkO.nil ?_
          refine Ok.seq ?_
          refine Ok.region ?_
          refine OkO.fieldAddr (o := 5) rfl (by kernel_rfl) rfl ?_
          refine OkO.load rfl rfl (lda (n := 1) (by kernel_rfl) (by first | assumption | (simp (disch := first | omega | (simp only [hNw, hPt]; omega)) only [gn0, gn1, gn2, gn3, gn4, gn5, gp0, gno, gpo] <;> first | rfl | assumption)) (by first | rfl | assumption)) ?_
          refine OkO.bin rfl rfl rfl (bin_lss _ _) ?_
          refine OkO.nil ?_
          refine Ok.cond rfl (fun h5 => ?_) (fun h5 => ?_)
          · -- yes h5
            have hto : (cs.getD i default).to < 0 := by rw [hx9]; simpa using h5
            have hla : lAI cs (levP cs g ds t lvs rain k) (downP g.melt ds rain t.snow k) ((downP g.melt ds rain t.snow k) * t.soak / 1000) (i + 1) = lAI cs (levP cs g ds t lvs rain k) (downP g.melt ds rain t.snow k) ((downP g.melt ds rain t.snow k) * t.soak / 1000) i + min ((levP cs g ds t lvs rain k).getD i 0) cs[i].pump + (passI cs (levP cs g ds t lvs rain k)) i := by rw [lAI, if_pos hto, hpd]
            refine Ok.region ?_
            refine OkO.move rfl rfl ?_
            refine OkO.move rfl rfl ?_
            refine OkO.move rfl rfl ?_
            refine OkO.index (sz := 1) (n := i) rfl rfl rfl (by kernel_rfl) (by first | assumption | rfl | exact slAt_slice (by omega)) ?_ -- index ('Go.Operand.tmp', 149) ('Go.Operand.tmp', 150)
            refine OkO.load rfl rfl (lda (n := 1) (by kernel_rfl) (by first | assumption | (simp (disch := first | omega | (simp only [hNw, hPt]; omega)) only [gn0, gn1, gn2, gn3, gn4, gn5, gp0, gno, gpo] <;> first | rfl | assumption)) (by first | rfl | assumption)) ?_
            refine OkO.bin rfl rfl rfl (bin_add (by omega) (by omega)) ?_
            refine OkO.assign rfl rfl ?_
            refine OkO.nil ?_
            refine Ok.region ?_
            refine OkO.move rfl rfl ?_
            refine OkO.bin rfl rfl rfl (bin_add (by omega) (by omega)) ?_
            refine OkO.assign rfl rfl ?_
            refine OkO.nil ?_
            refine ⟨cs.length - (i + 1), by omega, i + 1, rfl, hlt, ?_, rfl, (by (try dsimp only); repeat (first | (first | exact hg | exact hg) | apply Grow.new | (refine Grow.put ?_ _ (by first | omega | (simp only [hNw, hPt]; omega))))), ⟨by simp only [hNw, hPt]; omega, fun j hj => by (simp (disch := first | omega | (simp only [hNw, hPt]; omega)) only [gn0, gn1, gn2, gn3, gn4, gn5, gp0, gno, gpo]); exact hx.get j hj⟩, ?_, (by simp (disch := first | omega | (simp only [hNw, hPt]; omega)) only [gn0, gn1, gn2, gn3, gn4, gn5, gp0, gno, gpo] <;> first | rfl | assumption), by simp only [hNw, hPt]; omega⟩
            rw [hla]; exact Has.of (by kernel_rfl)
            rw [gp0, hst, fillI_set _ hlt]
          · -- no h5
            have hto : ¬(cs.getD i default).to < 0 := by rw [hx9]; simpa using h5
            have hla : lAI cs (levP cs g ds t lvs rain k) (downP g.melt ds rain t.snow k) ((downP g.melt ds rain t.snow k) * t.soak / 1000) (i + 1) = lAI cs (levP cs g ds t lvs rain k) (downP g.melt ds rain t.snow k) ((downP g.melt ds rain t.snow k) * t.soak / 1000) i + min ((levP cs g ds t lvs rain k).getD i 0) cs[i].pump := by rw [lAI, if_neg hto, hpd]; omega
            refine Ok.skip ?_
            refine Ok.region ?_
            refine OkO.move rfl rfl ?_
            refine OkO.bin rfl rfl rfl (bin_add (by omega) (by omega)) ?_
            refine OkO.assign rfl rfl ?_
            refine OkO.nil ?_
            refine ⟨cs.length - (i + 1), by omega, i + 1, rfl, hlt, ?_, rfl, (by (try dsimp only); repeat (first | (first | exact hg | exact hg) | apply Grow.new | (refine Grow.put ?_ _ (by first | omega | (simp only [hNw, hPt]; omega))))), ⟨by simp only [hNw, hPt]; omega, fun j hj => by (simp (disch := first | omega | (simp only [hNw, hPt]; omega)) only [gn0, gn1, gn2, gn3, gn4, gn5, gp0, gno, gpo]); exact hx.get j hj⟩, ?_, (by simp (disch := first | omega | (simp only [hNw, hPt]; omega)) only [gn0, gn1, gn2, gn3, gn4, gn5, gp0, gno, gpo] <;> first | rfl | assumption), by simp only [hNw, hPt]; omega⟩
            rw [hla]; exact Has.of (by kernel_rfl)
            rw [gp0, hst, fillI_set _ hlt]
      · -- no h3
        have hge : i = cs.length := by simp at h3; omega
        subst hge
        refine Ok.exit ?_
        refine Ok.seq ?_
        refine Ok.region ?_
        refine OkO.assign rfl rfl ?_
        refine OkO.nil ?_
        refine Ok.seq ?_
        refine Ok.seq ?_
        refine Ok.region ?_
        refine OkO.assign rfl rfl ?_
        refine OkO.nil ?_
        refine Ok.block ?_
        refine Ok.loop (fun n s => ∃ (i : Nat) (vo : AV), n = cs.length - i ∧ i ≤ cs.length ∧ Mine (H1.next + 2) s.H vo 3 1 ((outI cs (levP cs g ds t lvs rain k) ((downP g.melt ds rain t.snow k) * t.soak / 1000) i).map I) ∧ Has 8 [(4, .ptr W.next 0), (11, vp), (13, I (snowP g.melt ds rain t.snow (k + 1))), (18, I cs.length), (19, .slice H1.next 0 cs.length cs.length), (20, .slice (H1.next + 1) 0 cs.length cs.length), (21, I ((downP g.melt ds rain t.snow k) * t.soak / 1000)), (22, I (lBI cs (levP cs g ds t lvs rain k) (downP g.melt ds rain t.snow k) ((downP g.melt ds rain t.snow k) * t.soak / 1000) i)), (27, vo), (28, I (i : Int))] s.T ∧ s.D = [] ∧ Grow W s.H ∧ Ext H1 s.H ∧ s.H.get H1.next = some (.cells ((fillI (stayI cs (levP cs g ds t lvs rain k)) cs.length cs.length).map I) 3) ∧ s.H.get (H1.next + 1) = some (.cells ((fillI (passI cs (levP cs g ds t lvs rain k)) cs.length cs.length).map I) 3) ∧ H1.next + 2 ≤ s.H.next) (cs.length) (by unfold loopFuel; omega)
          ⟨0, .nils, rfl, Nat.zero_le _, Mine.nil _ _ _ _, Has.of (by kernel_rfl), rfl, hg, hx, fs, fp, hb2⟩ ?_
        rintro n ⟨T, D, G⟩ ⟨i, vo, hn, hi, hmo, ⟨f, hT⟩, hD, hg, hx, fs, fp, hb2⟩
        dsimp only at *
        subst hT hD
        have hgn := hg.next
        have es : (G.get H1.next).bind AObj.cs = some ((fillI (stayI cs (levP cs g ds t lvs rain k)) cs.length cs.length).map I) := by rw [fs]; rfl
        have ep : (G.get (H1.next + 1)).bind AObj.cs = some ((fillI (passI cs (levP cs g ds t lvs rain k)) cs.length cs.length).map I) := by rw [fp]; rfl
        have ea : (G.get W.next).bind AObj.cs = some [cv, I g.slo, I g.shi, I g.klo, I g.khi, I g.melt] := by rw [hx.get _ (by omega)]; exact a1
        obtain ⟨lo9, hlo9, _⟩ := hmo.len
        refine Ok.seq ?_
        refine Ok.seq ?_
        refine Ok.region ?_
        refine OkO.move rfl rfl ?_
        refine OkO.move rfl rfl ?_
        refine OkO.bin rfl rfl rfl (bin_lss _ _) ?_
        refine OkO.nil ?_
        refine Ok.cond rfl (fun h6 => ?_) (fun h6 => ?_)
        · -- yes h6
          have hlt : i < cs.length := by simpa using h6
          have hx9 : cs.getD i default = cs[i] := by simp [hlt]
          obtain ⟨bb, off, ccs, i1, i2, i3, i4⟩ := (R1.ext hx).at_ i cs[i].c (by simp [hlt])
          have i5 : ccs[off + 2]? = some (I cs[i].cap) := seg_get i3 2 (by omega)
          have ps : ((fillI (stayI cs (levP cs g ds t lvs rain k)) cs.length cs.length).map I)[0 + i * 1]? = some (I ((stayI cs (levP cs g ds t lvs rain k)) i)) := by rw [arr_get _ _ (by rw [fillI_len]; omega), fillI_getD _ hlt, if_pos (by omega)]
          have hgb := gets_bd hF.lim hlf.2 i hlt
          have hlB0 := lB_bd hF.lim hlf.2 hn8.2 ⟨hso.1, hso.2, hdb.2⟩ i hi
          have hxl := hF.lim _ (List.getElem_mem hlt)
          unfold Cell.lim at hxl
          obtain ⟨G1, hG1⟩ : ∃ G1, G1 = G := ⟨_, rfl⟩
          subst hG1
          have hif := infl_bd hF.lim hlf.2 i cs.length (Nat.le_refl _)
          refine Ok.skip ?_
          refine Ok.seq ?_
          refine Ok.block ?_
          refine Ok.seq ?_
          refine Ok.region ?_
          refine OkO.move rfl rfl ?_
          refine OkO.move rfl rfl ?_
          refine OkO.index (sz := 1) (n := i) rfl rfl rfl (by kernel_rfl) (by first | assumption | rfl | exact slAt_slice (by omega)) ?_ -- index ('Go.Operand.tmp', 159) ('Go.Operand.tmp', 160)
          refine OkO.load rfl rfl (lda (n := 1) (by kernel_rfl) (by first | assumption | (simp (disch := first | omega | (simp only [hNw, hPt]; omega)) only [gn0, gn1, gn2, gn3, gn4, gn5, gp0, gno, gpo] <;> first | rfl | assumption)) (by first | rfl | assumption)) ?_
          refine OkO.move rfl rfl ?_
          refine OkO.bin rfl rfl rfl (bin_add (by omega) (by omega)) ?_
          refine OkO.assign rfl rfl ?_
          refine OkO.nil ?_
          refine Ok.seq ?_
          refine Ok.seq ?_
          refine Ok.region ?_
          refine OkO.assign rfl rfl ?_
          refine OkO.nil ?_
          refine Ok.block ?_
          refine Ok.loop (fun n s => ∃ q : Nat, n = cs.length - q ∧ q ≤ cs.length ∧ Has 8 [(4, .ptr W.next 0), (11, vp), (13, I (snowP g.melt ds rain t.snow (k + 1))), (18, I cs.length), (19, .slice H1.next 0 cs.length cs.length), (20, .slice (H1.next + 1) 0 cs.length cs.length), (21, I ((downP g.melt ds rain t.snow k) * t.soak / 1000)), (22, I (lBI cs (levP cs g ds t lvs rain k) (downP g.melt ds rain t.snow k) ((downP g.melt ds rain t.snow k) * t.soak / 1000) i)), (27, vo), (28, I (i : Int)), (29, I ((stayI cs (levP cs g ds t lvs rain k)) i + ((downP g.melt ds rain t.snow k) * t.soak / 1000) + (inflI cs (levP cs g ds t lvs rain k) q i))), (30, I (q : Int))] s.T ∧ s.D = [] ∧ Grow W s.H ∧ G1 = s.H) (cs.length) (by unfold loopFuel; omega)
            ⟨0, rfl, Nat.zero_le _, (by rw [show (inflI cs (levP cs g ds t lvs rain k) 0 i) = 0 from rfl, Int.add_zero]; exact Has.of (by kernel_rfl)), rfl, hg, rfl⟩ ?_
          rintro n ⟨T, D, G⟩ ⟨q, hn2, hq, ⟨f2, hT⟩, hD, hg, hH⟩
          dsimp only at *
          subst hT hD
          have hgn := hg.next
          subst hH
          refine Ok.seq ?_
          refine Ok.seq ?_
          refine Ok.region ?_
          refine OkO.move rfl rfl ?_
          refine OkO.move rfl rfl ?_
          refine OkO.bin rfl rfl rfl (bin_lss _ _) ?_
          refine OkO.nil ?_
          refine Ok.cond rfl (fun h7 => ?_) (fun h7 => ?_)
          · -- yes h7
            have hltq : q < cs.length := by simpa using h7
            have hxq : cs.getD q default = cs[q] := by simp [hltq]
            obtain ⟨eb, eo, ecs, e1, e2, e3, e4⟩ := (R1.ext hx).at_ q cs[q].c (by simp [hltq])
            have e5 : ecs[eo + 5]? = some (I cs[q].to) := seg_get e3 5 (by omega)
            have pq : ((fillI (passI cs (levP cs g ds t lvs rain k)) cs.length cs.length).map I)[0 + q * 1]? = some (I ((passI cs (levP cs g ds t lvs rain k)) q)) := by rw [arr_get _ _ (by rw [fillI_len]; omega), fillI_getD _ hltq, if_pos (by omega)]
            have hgq := gets_bd hF.lim hlf.2 q hltq
            have hiq := infl_bd hF.lim hlf.2 i q (by omega)
            refine Ok.skip ?_
            refine Ok.seq ?_
            refine Ok.block ?_
            refine Ok.seq ?_
            refine Ok.region ?_
            refine OkO.fieldAddr (o := 0) rfl (by kernel_rfl) rfl ?_
            refine OkO.load rfl rfl (lda (n := 1) (by kernel_rfl) (by first | assumption | (simp (disch := first | omega | (simp only [hNw, hPt]; omega)) only [gn0, gn1, gn2, gn3, gn4, gn5, gp0, gno, gpo] <;> first | rfl | assumption)) (by first | rfl | assumption)) ?_
            refine OkO.move rfl rfl ?_
            refine OkO.index (sz := 7) (n := q) rfl rfl rfl (by kernel_rfl) (by first | assumption | rfl | exact slAt_slice (by omega)) ?_ -- index ('Go.Operand.tmp', 171) ('Go.Operand.tmp', 172)
            refine OkO.fieldAddr (o := 5) rfl (by kernel_rfl) rfl ?_
            refine OkO.load rfl rfl (lda (n := 1) (by kernel_rfl) (by first | assumption | (simp (disch := first | omega | (simp only [hNw, hPt]; omega)) only [gn0, gn1, gn2, gn3, gn4, gn5, gp0, gno, gpo] <;> first | rfl | assumption)) (by first | rfl | assumption)) ?_
            refine OkO.move rfl rfl ?_
            refine OkO.bin rfl rfl rfl (bin_eql _ _) ?_
            refine OkO.nil ?_
            refine Ok.cond rfl (fun h8 => ?_) (fun h8 => ?_)
            · -- yes h8
              have hte : (cs.getD q default).to = (i : Int) := by rw [hxq]; simpa using h8
              have hin : (stayI cs (levP cs g ds t lvs rain k)) i + ((downP g.melt ds rain t.snow k) * t.soak / 1000) + (inflI cs (levP cs g ds t lvs rain k) (q + 1) i) = (stayI cs (levP cs g ds t lvs rain k)) i + ((downP g.melt ds rain t.snow k) * t.soak / 1000) + (inflI cs (levP cs g ds t lvs rain k) q i) + (passI cs (levP cs g ds t lvs rain k)) q := by rw [inflI, if_pos hte]; omega
              refine Ok.region ?_
              refine OkO.move rfl rfl ?_
              refine OkO.move rfl rfl ?_
              refine OkO.move rfl rfl ?_
              refine OkO.index (sz := 1) (n := q) rfl rfl rfl (by kernel_rfl) (by first | assumption | rfl | exact slAt_slice (by omega)) ?_ -- index ('Go.Operand.tmp', 179) ('Go.Operand.tmp', 180)
              refine OkO.load rfl rfl (lda (n := 1) (by kernel_rfl) (by first | assumption | (simp (disch := first | omega | (simp only [hNw, hPt]; omega)) only [gn0, gn1, gn2, gn3, gn4, gn5, gp0, gno, gpo] <;> first | rfl | assumption)) (by first | rfl | assumption)) ?_
              refine OkO.bin rfl rfl rfl (bin_add (by omega) (by omega)) ?_
              refine OkO.assign rfl rfl ?_
              refine OkO.nil ?_
              refine Ok.region ?_
              refine OkO.move rfl rfl ?_
              refine OkO.bin rfl rfl rfl (bin_add (by omega) (by omega)) ?_
              refine OkO.assign rfl rfl ?_
              refine OkO.nil ?_
              refine ⟨cs.length - (q + 1), by omega, q + 1, rfl, hltq, ?_, rfl, hg, rfl⟩
              rw [hin]; exact Has.of (by kernel_rfl)
            · -- no h8
              have hte : ¬(cs.getD q default).to = (i : Int) := by rw [hxq]; simpa using h8
              have hin : (stayI cs (levP cs g ds t lvs rain k)) i + ((downP g.melt ds rain t.snow k) * t.soak / 1000) + (inflI cs (levP cs g ds t lvs rain k) (q + 1) i) = (stayI cs (levP cs g ds t lvs rain k)) i + ((downP g.melt ds rain t.snow k) * t.soak / 1000) + (inflI cs (levP cs g ds t lvs rain k) q i) := by rw [inflI, if_neg hte]; omega
              refine Ok.skip ?_
              refine Ok.region ?_
              refine OkO.move rfl rfl ?_
              refine OkO.bin rfl rfl rfl (bin_add (by omega) (by omega)) ?_
              refine OkO.assign rfl rfl ?_
              refine OkO.nil ?_
              refine ⟨cs.length - (q + 1), by omega, q + 1, rfl, hltq, ?_, rfl, hg, rfl⟩
              rw [hin]; exact Has.of (by kernel_rfl)
          · -- no h7
            have hgeq : q = cs.length := by simp at h7; omega
            subst hgeq
            refine Ok.exit ?_
            refine Ok.seq ?_
            refine Ok.seq ?_
            refine Ok.region ?_
            refine OkO.move rfl rfl ?_
            refine OkO.fieldAddr (o := 0) rfl (by kernel_rfl) rfl ?_
            refine OkO.load rfl rfl (lda (n := 1) (by kernel_rfl) (by first | assumption | (simp (disch := first | omega | (simp only [hNw, hPt]; omega)) only [gn0, gn1, gn2, gn3, gn4, gn5, gp0, gno, gpo] <;> first | rfl | assumption)) (by first | rfl | assumption)) ?_
            refine OkO.move rfl rfl ?_
            refine OkO.index (sz := 7) (n := i) rfl rfl rfl (by kernel_rfl) (by first | assumption | rfl | exact slAt_slice (by omega)) ?_ -- index ('Go.Operand.tmp', 186) ('Go.Operand.tmp', 187)
            refine OkO.fieldAddr (o := 2) rfl (by kernel_rfl) rfl ?_
            refine OkO.load rfl rfl (lda (n := 1) (by kernel_rfl) (by first | assumption | (simp (disch := first | omega | (simp only [hNw, hPt]; omega)) only [gn0, gn1, gn2, gn3, gn4, gn5, gp0, gno, gpo] <;> first | rfl | assumption)) (by first | rfl | assumption)) ?_
            refine OkO.bin rfl rfl rfl (bin_gtr _ _) ?_
            refine OkO.nil ?_
            refine Ok.cond rfl (fun h9 => ?_) (fun h9 => ?_)
            · -- yes h9
              have hcp : cs[i].cap < ((stayI cs (levP cs g ds t lvs rain k)) i + ((downP g.melt ds rain t.snow k) * t.soak / 1000) + (inflI cs (levP cs g ds t lvs rain k) cs.length i)) := by simpa using h9
              have hlB : lBI cs (levP cs g ds t lvs rain k) (downP g.melt ds rain t.snow k) ((downP g.melt ds rain t.snow k) * t.soak / 1000) (i + 1) = lBI cs (levP cs g ds t lvs rain k) (downP g.melt ds rain t.snow k) ((downP g.melt ds rain t.snow k) * t.soak / 1000) i + (((stayI cs (levP cs g ds t lvs rain k)) i + ((downP g.melt ds rain t.snow k) * t.soak / 1000) + (inflI cs (levP cs g ds t lvs rain k) cs.length i)) - cs[i].cap) := by rw [lBI, hx9, if_pos (by unfold lvlI; exact hcp)]; rfl
              have hmn : min ((lvlI cs (levP cs g ds t lvs rain k) ((downP g.melt ds rain t.snow k) * t.soak / 1000) i)) (cs.getD i default).cap = cs[i].cap := by rw [hx9]; unfold lvlI; omega
              refine Ok.seq ?_
              refine Ok.region ?_
              refine OkO.move rfl rfl ?_
              refine OkO.move rfl rfl ?_
              refine OkO.fieldAddr (o := 0) rfl (by kernel_rfl) rfl ?_
              refine OkO.load rfl rfl (lda (n := 1) (by kernel_rfl) (by first | assumption | (simp (disch := first | omega | (simp only [hNw, hPt]; omega)) only [gn0, gn1, gn2, gn3, gn4, gn5, gp0, gno, gpo] <;> first | rfl | assumption)) (by first | rfl | assumption)) ?_
              refine OkO.move rfl rfl ?_
              refine OkO.index (sz := 7) (n := i) rfl rfl rfl (by kernel_rfl) (by first | assumption | rfl | exact slAt_slice (by omega)) ?_ -- index ('Go.Operand.tmp', 195) ('Go.Operand.tmp', 196)
              refine OkO.fieldAddr (o := 2) rfl (by kernel_rfl) rfl ?_
              refine OkO.load rfl rfl (lda (n := 1) (by kernel_rfl) (by first | assumption | (simp (disch := first | omega | (simp only [hNw, hPt]; omega)) only [gn0, gn1, gn2, gn3, gn4, gn5, gp0, gno, gpo] <;> first | rfl | assumption)) (by first | rfl | assumption)) ?_
              refine OkO.bin rfl rfl rfl (bin_sub (by omega) (by omega)) ?_
              refine OkO.bin rfl rfl rfl (bin_add (by omega) (by omega)) ?_
              refine OkO.assign rfl rfl ?_
              refine OkO.nil ?_
              refine Ok.region ?_
              refine OkO.fieldAddr (o := 0) rfl (by kernel_rfl) rfl ?_
              refine OkO.load rfl rfl (lda (n := 1) (by kernel_rfl) (by first | assumption | (simp (disch := first | omega | (simp only [hNw, hPt]; omega)) only [gn0, gn1, gn2, gn3, gn4, gn5, gp0, gno, gpo] <;> first | rfl | assumption)) (by first | rfl | assumption)) ?_
              refine OkO.move rfl rfl ?_
              refine OkO.index (sz := 7) (n := i) rfl rfl rfl (by kernel_rfl) (by first | assumption | rfl | exact slAt_slice (by omega)) ?_ -- index ('Go.Operand.tmp', 203) ('Go.Operand.tmp', 204)
              refine OkO.fieldAddr (o := 2) rfl (by kernel_rfl) rfl ?_
              refine OkO.load rfl rfl (lda (n := 1) (by kernel_rfl) (by first | assumption | (simp (disch := first | omega | (simp only [hNw, hPt]; omega)) only [gn0, gn1, gn2, gn3, gn4, gn5, gp0, gno, gpo] <;> first | rfl | assumption)) (by first | rfl | assumption)) ?_
              refine OkO.assign rfl rfl ?_
              refine OkO.nil ?_
              refine Ok.region ?_
              refine OkO.move rfl rfl ?_
              refine OkO.move rfl rfl ?_
              refine OkO.buildSlice (el := 3) (sz := 1) (z := [.int .i64 0]) rfl (by kernel_rfl) (by decide) rfl rfl ?_
              refine OkO.builtinE rfl rfl rfl (Mine.app2 (W := W) (k0 := H1.next + 2) (sz := 1) (by_ := 8) (e := 3) (n := 1) (new := [I cs[i].cap]) (hmo.to (Grow.toNew _ _)) (hg.new _) (by omega) (by simp only [hNw]; omega) (by kernel_rfl) (by kernel_rfl) (elems_new (n := 1) (sz := 1) rfl) rfl rfl (by simp [outI]; omega) (by omega) (by omega) rfl) ?_
              rintro v2 G2 ⟨q1, q2, q3, q4, q5, q6⟩
              simp only [hNw] at q5
              refine OkO.assign rfl rfl ?_
              refine OkO.nil ?_
              refine Ok.region ?_
              refine OkO.move rfl rfl ?_
              refine OkO.bin rfl rfl rfl (bin_add (by omega) (by omega)) ?_
              refine OkO.assign rfl rfl ?_
              refine OkO.nil ?_
              refine ⟨cs.length - (i + 1), by omega, i + 1, v2, rfl, hlt, by rw [outI_succ, hmn]; exact q1, ?_, rfl, q2, ⟨show H1.next ≤ G2.next by omega, fun j hj => by rw [q3.get j (by omega) (by simp only [hNw]; omega), gno _ _ _ (by omega)]; exact hx.get j hj⟩, by rw [q3.get _ (by omega) (by simp only [hNw]; omega), gno _ _ _ (by omega)]; exact fs, by rw [q3.get _ (by omega) (by simp only [hNw]; omega), gno _ _ _ (by omega)]; exact fp, show H1.next + 2 ≤ G2.next by omega⟩
              rw [hlB]; exact Has.of (by kernel_rfl)
            · -- no h9
              have hcp : ¬cs[i].cap < ((stayI cs (levP cs g ds t lvs rain k)) i + ((downP g.melt ds rain t.snow k) * t.soak / 1000) + (inflI cs (levP cs g ds t lvs rain k) cs.length i)) := by simpa using h9
              have hlB : lBI cs (levP cs g ds t lvs rain k) (downP g.melt ds rain t.snow k) ((downP g.melt ds rain t.snow k) * t.soak / 1000) (i + 1) = lBI cs (levP cs g ds t lvs rain k) (downP g.melt ds rain t.snow k) ((downP g.melt ds rain t.snow k) * t.soak / 1000) i := by rw [lBI, hx9, if_neg (by unfold lvlI; exact hcp)]; omega
              have hmn : min ((lvlI cs (levP cs g ds t lvs rain k) ((downP g.melt ds rain t.snow k) * t.soak / 1000) i)) (cs.getD i default).cap = ((stayI cs (levP cs g ds t lvs rain k)) i + ((downP g.melt ds rain t.snow k) * t.soak / 1000) + (inflI cs (levP cs g ds t lvs rain k) cs.length i)) := by rw [hx9]; unfold lvlI; omega
              refine Ok.skip ?_
              refine Ok.region ?_
              refine OkO.move rfl rfl ?_
              refine OkO.move rfl rfl ?_
              refine OkO.buildSlice (el := 3) (sz := 1) (z := [.int .i64 0]) rfl (by kernel_rfl) (by decide) rfl rfl ?_
              refine OkO.builtinE rfl rfl rfl (Mine.app2 (W := W) (k0 := H1.next + 2) (sz := 1) (by_ := 8) (e := 3) (n := 1) (new := [I ((stayI cs (levP cs g ds t lvs rain k)) i + ((downP g.melt ds rain t.snow k) * t.soak / 1000) + (inflI cs (levP cs g ds t lvs rain k) cs.length i))]) (hmo.to (Grow.toNew _ _)) (hg.new _) (by omega) (by simp only [hNw]; omega) (by kernel_rfl) (by kernel_rfl) (elems_new (n := 1) (sz := 1) rfl) rfl rfl (by simp [outI]; omega) (by omega) (by omega) rfl) ?_
              rintro v2 G2 ⟨q1, q2, q3, q4, q5, q6⟩
              simp only [hNw] at q5
              refine OkO.assign rfl rfl ?_
              refine OkO.nil ?_
              refine Ok.region ?_
              refine OkO.move rfl rfl ?_
              refine OkO.bin rfl rfl rfl (bin_add (by omega) (by omega)) ?_
              refine OkO.assign rfl rfl ?_
              refine OkO.nil ?_
              refine ⟨cs.length - (i + 1), by omega, i + 1, v2, rfl, hlt, by rw [outI_succ, hmn]; exact q1, ?_, rfl, q2, ⟨show H1.next ≤ G2.next by omega, fun j hj => by rw [q3.get j (by omega) (by simp only [hNw]; omega), gno _ _ _ (by omega)]; exact hx.get j hj⟩, by rw [q3.get _ (by omega) (by simp only [hNw]; omega), gno _ _ _ (by omega)]; exact fs, by rw [q3.get _ (by omega) (by simp only [hNw]; omega), gno _ _ _ (by omega)]; exact fp, show H1.next + 2 ≤ G2.next by omega⟩
              rw [hlB]; exact Has.of (by kernel_rfl)
        · -- no h6
          have hge : i = cs.length := by simp at h6; omega
          subst hge
          refine Ok.exit ?_
          refine Ok.seq ?_
          refine Ok.region ?_
          refine OkO.move rfl rfl ?_
          refine OkO.move rfl rfl ?_
          refine OkO.move rfl rfl ?_
          refine OkO.assign rfl rfl ?_
          refine OkO.assign rfl rfl ?_
          refine OkO.assign rfl rfl ?_
          refine OkO.nil ?_
          refine Ok.ret ⟨.inr rfl, ?_⟩
          have hdc := day_closed hF.lim hF.to_ hn8.2 hlf.2 hdb hsk
          have hmx : Mine (H1.next + 2) G vo 3 1 (((outI cs (levP cs g ds t lvs rain k) ((downP g.melt ds rain t.snow k) * t.soak / 1000) cs.length).map fun n => [I n]).flatten) := by rw [ints_flat]; exact hmo
          refine back_newA (resV_tmp rfl (resV_tmp rfl (resV_tmp rfl resV_nil))) rfl (by rw [← hW]; exact hg) (fun H2 r2 r3 => ⟨vo, by rw [show leftK cs g ds t lvs rain (k + 1) = lBI cs (levP cs g ds t lvs rain k) (downP g.melt ds rain t.snow k) ((downP g.melt ds rain t.snow k) * t.soak / 1000) cs.length from hdc.1]; rfl, r2, ?_⟩)
          have e9 : (levP cs g ds t lvs rain (k + 1)).take cs.length = outI cs (levP cs g ds t lvs rain k) ((downP g.melt ds rain t.snow k) * t.soak / 1000) cs.length := (outI_take hF.lim hF.to_ hn8.2 hlf.2 hdb hsk).symm
          rw [e9]
          exact (Mine.back (H := H) hmx (fun x hx => by simp only [List.mem_map] at hx; obtain ⟨y, _, rfl⟩ := hx; rfl) (by omega) (r3.imp (fun h => ⟨h.1, flatT1 h.2⟩) id)).1
end
end Go.Ev
