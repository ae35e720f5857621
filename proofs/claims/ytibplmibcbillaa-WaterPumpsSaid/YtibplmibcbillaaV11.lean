/-
  Functions of the program, reckoned by the evaluator: what each answers, and that it leaves what came in as it was (part 11).
-/
import Derived.Test.YtibplmibcbillaaV10
set_option maxRecDepth 100000
set_option linter.unusedSimpArgs false
set_option linter.unusedVariables false
namespace Go.Ev
open Go Go.Proofs
noncomputable section
theorem one_cells {v : AV} {n : Nat} (h : lenOf v = some n) : v.cells = [v] := by
  cases v with
  | raw u => cases u <;> simp [lenOf] at h; rfl
  | _ => first | rfl | simp [lenOf] at h
theorem build110 {dv : AV} {n : Nat} (h : lenOf dv = some n) (a0 a1 a2 a3 a4 a5 b0 b1 b2 b3 : AV) : fillS (fun i => [(0, 6), (6, 1), (7, 4)][i]?) [.nils, I 0, I 0, I 0, I 0, I 0, .nils, I 0, I 0, .nils, .nils] [(0, .agg [a0, a1, a2, a3, a4, a5]), (1, dv), (2, .agg [b0, b1, b2, b3])] = some [a0, a1, a2, a3, a4, a5, dv, b0, b1, b2, b3] := by
  cases dv with
  | raw u => cases u <;> simp [lenOf] at h; rfl
  | _ => first | (simp [lenOf] at h; done) | rfl
theorem flat2 {a b : AV} {x y : Int} (h : (AV.tup [a, b, I x, I y]).flat = true) : a.flat = true ∧ b.flat = true := by
  simp only [AV.flat, AV.flats] at h
  cases ha : a.flat with
  | false => rw [ha] at h; cases h
  | true =>
    rw [ha] at h
    cases hb : b.flat with
    | false => rw [hb] at h; cases h
    | true => exact ⟨rfl, rfl⟩
theorem fit_of {cs : List Cell} {g : Gr} {ds : List Day} {t : Tru} {lvs rain : List Int} (h : truthErr cs g ds t lvs rain = 0) : Fit cs g ds t lvs rain := by
  unfold truthErr at h
  split at h
  · rename_i h0
    split at h
    · rename_i h1
      simp only [Bool.and_eq_true] at h1
      obtain ⟨⟨⟨h2, h3⟩, h4⟩, h5⟩ := h1
      unfold daysErr at h0
      split at h0
      · rename_i h6
        split at h0
        · simp at h0
        · rename_i h7
          split at h0
          · rename_i h8
            simp only [gOk, Bool.and_eq_true] at h6
            obtain ⟨⟨⟨⟨⟨k1, k2⟩, k3⟩, k4⟩, k5⟩, k6⟩ := h6
            rw [List.all_eq_true] at k2 h8
            simp only [inB, okR, Bool.and_eq_true, decide_eq_true_eq] at k1 k4 k5 k6 h2 h3
            obtain ⟨l1, l2⟩ := (fits_iff _ _).1 h4
            obtain ⟨r1, r2⟩ := (fits_iff _ _).1 h5
            refine ⟨by omega, fun x hx => Cell.ok_lim (k2 x hx), k3, k6, by omega, fun x hx => Day.ok_lim (h8 x hx), by simpa using l1, fun i x n a1 a2 => ?_, by simpa using r1, fun z hz => ?_, by omega, by omega⟩
            · have := l2 i n x.lv a2 (by rw [List.getElem?_map, a1]; rfl)
              have hl := Cell.ok_lim (k2 x (List.mem_of_getElem? a1))
              unfold Cell.lim at hl
              have h9 : x.lo ≤ n ∧ n ≤ x.hi := by simp only [inB, Bool.and_eq_true] at this; exact ⟨of_decide_eq_true this.1, of_decide_eq_true this.2⟩
              omega
            · obtain ⟨j, hj, rfl⟩ := List.mem_iff_getElem.1 hz
              have hjd : j < ds.length := by simp at r1; omega
              have := r2 j rain[j] ds[j].rn (List.getElem?_eq_getElem hj) (by rw [List.getElem?_map, List.getElem?_eq_getElem hjd]; rfl)
              have hl := Day.ok_lim (h8 _ (List.getElem_mem hjd))
              unfold Day.lim at hl
              have h9 : ds[j].lo ≤ rain[j] ∧ rain[j] ≤ ds[j].hi := by simp only [inB, Bool.and_eq_true] at this; exact ⟨of_decide_eq_true this.1, of_decide_eq_true this.2⟩
              omega
          · simp at h0
      · simp at h0
    · simp at h
  · rename_i h0; exact absurd h h0
def rowsR (cs : List Cell) (g : Gr) (ds : List Day) (t : Tru) (lvs rain : List Int) (k : Nat) : List (List Int) := (List.range k).map fun i => (levP cs g ds t lvs rain (i + 1)).take cs.length
def leftsR (cs : List Cell) (g : Gr) (ds : List Day) (t : Tru) (lvs rain : List Int) (k : Nat) : List Int := (List.range k).map (leftD cs g ds t lvs rain)
theorem rowsR_succ (cs : List Cell) (g : Gr) (ds : List Day) (t : Tru) (lvs rain : List Int) (k : Nat) : rowsR cs g ds t lvs rain (k + 1) = rowsR cs g ds t lvs rain k ++ [(levP cs g ds t lvs rain (k + 1)).take cs.length] := by simp [rowsR, List.range_succ]
theorem leftsR_succ (cs : List Cell) (g : Gr) (ds : List Day) (t : Tru) (lvs rain : List Int) (k : Nat) : leftsR cs g ds t lvs rain (k + 1) = leftsR cs g ds t lvs rain k ++ [leftD cs g ds t lvs rain k] := by simp [leftsR, List.range_succ]
theorem c20E (m : Nat) (cv dv lv rv : AV) (cs : List Cell) (g : Gr) (ds : List Day) (t : Tru) (lvs rain : List Int) (H : Heap) (hR : Row H cv 7 (cs.map Cell.c)) (hbig : cs.length ≤ 1000) (hD : Row H dv 3 (ds.map Day.c)) (hbd : ds.length ≤ 1000) (hL : Ints H lv lvs) (hbl : lvs.length ≤ 1000) (hA : Ints H rv rain) (hba : rain.length ≤ 1000) (he : ¬truthErr cs g ds t lvs rain = 0) : RR (m + 8) (.fn 20 [.agg [cv, I g.slo, I g.shi, I g.klo, I g.khi, I g.melt], dv, .agg [I t.snow, I t.soak, lv, rv]]) H = some (.tup [.nils, .nils, I 0, I (truthErr cs g ds t lvs rain)], H) := by
  refine (R_fn _ _ _ _ _).trans ?_
  refine fn_ok Try.func20 rfl rfl (by kernel_rfl) (by kernel_rfl) ?_
  obtain ⟨W, hW⟩ : ∃ W : Heap, W = ⟨H.t, H.next, H.next⟩ := ⟨_, rfl⟩
  have hg : ∀ n, W.get n = H.get n := fun n => by rw [hW]; rfl
  have hN : W.next = H.next := by rw [hW]
  have hE : ∀ G, Grow W G → Ext H G := fun G g => ⟨by rw [← hN]; exact g.next, fun n k => by rw [g.get n (by rw [hN]; exact k), hg]⟩
  have hG : Grow W W := Grow.refl (by rw [hW]; exact Nat.le_refl _)
  rw [← hW]
  refine Ok.seq ?_
  refine Ok.region ?_
  refine OkO.box rfl rfl ?_
  refine OkO.box rfl rfl ?_
  refine OkO.assign rfl rfl ?_
  refine OkO.assign rfl rfl ?_
  refine OkO.assign rfl rfl ?_
  refine OkO.assign rfl rfl ?_
  refine OkO.nil ?_
  refine Ok.seq ?_
  refine Ok.seq ?_
  refine Ok.region ?_
  refine OkO.load rfl rfl (ldg (n := 6) (by kernel_rfl) (by first | assumption | (simp (disch := first | omega | (simp only [hNw, hPt]; omega)) only [gn0, gn1, gn2, gn3, gn4, gn5, gp0, gno, gpo] <;> first | rfl | assumption)) (by first | rfl | assumption)) ?_
  refine OkO.move rfl rfl ?_
  refine OkO.load rfl rfl (ldg (n := 4) (by kernel_rfl) (by first | assumption | (simp (disch := first | omega | (simp only [hNw, hPt]; omega)) only [gn0, gn1, gn2, gn3, gn4, gn5, gp0, gno, gpo] <;> first | rfl | assumption)) (by first | rfl | assumption)) ?_
  refine OkO.callV rfl rfl rfl rfl rfl (c53 m cv dv lv rv cs g ds t lvs rain _ (hR.ext (hE _ (by (try dsimp only); repeat (first | exact hG | apply Grow.new | (refine Grow.put ?_ _ (by first | omega | (simp only [hNw, hPt]; omega))))))) hbig (hD.ext (hE _ (by (try dsimp only); repeat (first | exact hG | apply Grow.new | (refine Grow.put ?_ _ (by first | omega | (simp only [hNw, hPt]; omega))))))) hbd (hL.ext (hE _ (by (try dsimp only); repeat (first | exact hG | apply Grow.new | (refine Grow.put ?_ _ (by first | omega | (simp only [hNw, hPt]; omega))))))) hbl (hA.ext (hE _ (by (try dsimp only); repeat (first | exact hG | apply Grow.new | (refine Grow.put ?_ _ (by first | omega | (simp only [hNw, hPt]; omega))))))) hba) ?_ -- "sackung/water.checkTruth"
  refine OkO.assign rfl rfl ?_
  refine OkO.nil ?_
  refine Ok.seq ?_
  refine Ok.region ?_
  refine OkO.move rfl rfl ?_
  refine OkO.bin rfl rfl rfl (bin_neq _ _) ?_
  refine OkO.nil ?_
  refine Ok.cond rfl (fun h1 => ?_) (fun h1 => ?_)
  · -- yes h1
    refine Ok.seq ?_
    refine Ok.region ?_
    refine OkO.move rfl rfl ?_
    refine OkO.assign rfl rfl ?_
    refine OkO.assign rfl rfl ?_
    refine OkO.assign rfl rfl ?_
    refine OkO.assign rfl rfl ?_
    refine OkO.nil ?_
    refine Ok.ret ⟨.inr rfl, ?_⟩
    exact back_flat (resV_tmp rfl (resV_tmp rfl (resV_tmp rfl (resV_tmp rfl resV_nil)))) rfl rfl (by rw [← hW]; exact (by (try dsimp only); repeat (first | exact hG | apply Grow.new | (refine Grow.put ?_ _ (by first | omega | (simp only [hNw, hPt]; omega))))))
  · -- no h1
    exact absurd h1 (by simpa using he)
theorem c20 (m : Nat) (cv dv lv rv : AV) (cs : List Cell) (g : Gr) (ds : List Day) (t : Tru) (lvs rain : List Int) (H : Heap) (hR : Row H cv 7 (cs.map Cell.c)) (hbig : cs.length ≤ 1000) (hD : Row H dv 3 (ds.map Day.c)) (hbd : ds.length ≤ 1000) (hL : Ints H lv lvs) (hbl : lvs.length ≤ 1000) (hA : Ints H rv rain) (hba : rain.length ≤ 1000) (he : truthErr cs g ds t lvs rain = 0) : ∃ v H', RR (m + 8) (.fn 20 [.agg [cv, I g.slo, I g.shi, I g.klo, I g.khi, I g.melt], dv, .agg [I t.snow, I t.soak, lv, rv]]) H = some (v, H') ∧ ∃ v6 v7, v = .tup [v6, v7, I (snowP g.melt ds rain t.snow ds.length), I 0] ∧ Ret H H' ∧ Lists H' v6 (rowsR cs g ds t lvs rain ds.length) ∧ Ints H' v7 (leftsR cs g ds t lvs rain ds.length) := by
  show ∃ v H', evFn Try.prog (RR (m + 7)) 20 [.agg [cv, I g.slo, I g.shi, I g.klo, I g.khi, I g.melt], dv, .agg [I t.snow, I t.soak, lv, rv]] H = some (v, H') ∧ ∃ v6 v7, v = .tup [v6, v7, I (snowP g.melt ds rain t.snow ds.length), I 0] ∧ Ret H H' ∧ Lists H' v6 (rowsR cs g ds t lvs rain ds.length) ∧ Ints H' v7 (leftsR cs g ds t lvs rain ds.length)
  refine fn_okE Try.func20 rfl rfl (by kernel_rfl) (by kernel_rfl) ?_
  obtain ⟨W, hW⟩ : ∃ W : Heap, W = ⟨H.t, H.next, H.next⟩ := ⟨_, rfl⟩
  have hg : ∀ n, W.get n = H.get n := fun n => by rw [hW]; rfl
  have hN : W.next = H.next := by rw [hW]
  have hE : ∀ G, Grow W G → Ext H G := fun G g => ⟨by rw [← hN]; exact g.next, fun n k => by rw [g.get n (by rw [hN]; exact k), hg]⟩
  have hG : Grow W W := Grow.refl (by rw [hW]; exact Nat.le_refl _)
  rw [← hW]
  have hF := fit_of he
  have hn8 := hF.n8
  have hlc : lenOf cv = some cs.length := by simpa using hR.len
  have hld : lenOf dv = some ds.length := by simpa using hD.len
  have hll0 : lenOf lv = some lvs.length := by simpa using hL.len
  have hlr0 : lenOf rv = some rain.length := by simpa using hA.len
  refine Ok.seq ?_
  refine Ok.region ?_
  refine OkO.box rfl rfl ?_
  refine OkO.box rfl rfl ?_
  refine OkO.assign rfl rfl ?_
  refine OkO.assign rfl rfl ?_
  refine OkO.assign rfl rfl ?_
  refine OkO.assign rfl rfl ?_
  refine OkO.nil ?_
  refine Ok.seq ?_
  refine Ok.seq ?_
  refine Ok.region ?_
  refine OkO.load rfl rfl (ldg (n := 6) (by kernel_rfl) (by first | assumption | (simp (disch := first | omega | (simp only [hNw, hPt]; omega)) only [gn0, gn1, gn2, gn3, gn4, gn5, gp0, gno, gpo] <;> first | rfl | assumption)) (by first | rfl | assumption)) ?_
  refine OkO.move rfl rfl ?_
  refine OkO.load rfl rfl (ldg (n := 4) (by kernel_rfl) (by first | assumption | (simp (disch := first | omega | (simp only [hNw, hPt]; omega)) only [gn0, gn1, gn2, gn3, gn4, gn5, gp0, gno, gpo] <;> first | rfl | assumption)) (by first | rfl | assumption)) ?_
  refine OkO.callV rfl rfl rfl rfl rfl (c53 m cv dv lv rv cs g ds t lvs rain _ (hR.ext (hE _ (by (try dsimp only); repeat (first | exact hG | apply Grow.new | (refine Grow.put ?_ _ (by first | omega | (simp only [hNw, hPt]; omega))))))) hbig (hD.ext (hE _ (by (try dsimp only); repeat (first | exact hG | apply Grow.new | (refine Grow.put ?_ _ (by first | omega | (simp only [hNw, hPt]; omega))))))) hbd (hL.ext (hE _ (by (try dsimp only); repeat (first | exact hG | apply Grow.new | (refine Grow.put ?_ _ (by first | omega | (simp only [hNw, hPt]; omega))))))) hbl (hA.ext (hE _ (by (try dsimp only); repeat (first | exact hG | apply Grow.new | (refine Grow.put ?_ _ (by first | omega | (simp only [hNw, hPt]; omega))))))) hba) ?_ -- "sackung/water.checkTruth"
  refine OkO.assign rfl rfl ?_
  refine OkO.nil ?_
  refine Ok.seq ?_
  refine Ok.region ?_
  refine OkO.move rfl rfl ?_
  refine OkO.bin rfl rfl rfl (bin_neq _ _) ?_
  refine OkO.nil ?_
  refine Ok.cond rfl (fun h1 => ?_) (fun h1 => ?_)
  · -- yes h1
    exact absurd h1 (by simp [he])
  · -- no h1
    have h0 : truthErr cs g ds t lvs rain = 0 := he
    refine Ok.skip ?_
    refine Ok.seq ?_
    refine Ok.region ?_
    refine OkO.fieldAddr (o := 0) rfl (by kernel_rfl) rfl ?_
    refine OkO.load rfl rfl (lda (n := 1) (by kernel_rfl) (by first | assumption | (simp (disch := first | omega | (simp only [hNw, hPt]; omega)) only [gn0, gn1, gn2, gn3, gn4, gn5, gp0, gno, gpo] <;> first | rfl | assumption)) (by first | rfl | assumption)) ?_
    refine OkO.assign rfl rfl ?_
    refine OkO.nil ?_
    refine Ok.seq ?_
    refine Ok.seq ?_
    refine Ok.region ?_
    refine OkO.load rfl rfl (ldg (n := 6) (by kernel_rfl) (by first | assumption | (simp (disch := first | omega | (simp only [hNw, hPt]; omega)) only [gn0, gn1, gn2, gn3, gn4, gn5, gp0, gno, gpo] <;> first | rfl | assumption)) (by first | rfl | assumption)) ?_
    refine OkO.move rfl rfl ?_
    refine OkO.load rfl rfl (ldg (n := 4) (by kernel_rfl) (by first | assumption | (simp (disch := first | omega | (simp only [hNw, hPt]; omega)) only [gn0, gn1, gn2, gn3, gn4, gn5, gp0, gno, gpo] <;> first | rfl | assumption)) (by first | rfl | assumption)) ?_
    refine OkO.build (z := [.nils, .int .i64 0, .int .i64 0, .int .i64 0, .int .i64 0, .int .i64 0, .nils, .int .i64 0, .int .i64 0, .nils, .nils]) (pl := [(0, 6), (6, 1), (7, 4)]) (cs := [cv, I g.slo, I g.shi, I g.klo, I g.khi, I g.melt, dv, I t.snow, I t.soak, lv, rv]) rfl (by kernel_rfl) rfl (build110 hld _ _ _ _ _ _ _ _ _ _) ?_
    refine OkO.callE rfl rfl rfl rfl rfl (c54 (m + 2) cv dv lv rv cs g ds t lvs rain _ (hR.ext (hE _ (by (try dsimp only); repeat (first | exact hG | apply Grow.new | (refine Grow.put ?_ _ (by first | omega | (simp only [hNw, hPt]; omega))))))) (hD.ext (hE _ (by (try dsimp only); repeat (first | exact hG | apply Grow.new | (refine Grow.put ?_ _ (by first | omega | (simp only [hNw, hPt]; omega))))))) (hL.ext (hE _ (by (try dsimp only); repeat (first | exact hG | apply Grow.new | (refine Grow.put ?_ _ (by first | omega | (simp only [hNw, hPt]; omega))))))) (hA.ext (hE _ (by (try dsimp only); repeat (first | exact hG | apply Grow.new | (refine Grow.put ?_ _ (by first | omega | (simp only [hNw, hPt]; omega))))))) hF) ?_ -- "(sackung/water.flow).run"
    rintro v54 H54 ⟨q54, r54, c54⟩
    have g54 : Grow W H54 := Grow.ret (by (try dsimp only); repeat (first | exact hG | apply Grow.new | (refine Grow.put ?_ _ (by first | omega | (simp only [hNw, hPt]; omega))))) q54
    have n54 : W.next + 2 ≤ H54.next := by have := q54.ext.next; simp at this; omega
    have b54 : H54.get W.next = some (.cells [cv, I g.slo, I g.shi, I g.klo, I g.khi, I g.melt] 38) := by rw [q54.ext.get _ (by simp only [hNw]; omega)]; first | exact gn0 _ _ | (simp (disch := first | omega | (simp only [hNw, hPt]; omega)) only [gn0, gn1, gn2, gn3, gn4, gn5, gp0, gno, gpo] <;> first | rfl | assumption)
    have l54 : lenOf v54 = some ds.length := by simpa using r54.len
    refine OkO.builtin rfl rfl rfl (bln (by kernel_rfl) (by first | assumption | rfl)) ?_
    refine OkO.move rfl rfl ?_
    refine OkO.nil ?_
    refine Ok.block ?_
    refine Ok.loop (fun n s => ∃ (i : Nat) (v6 v7 : AV) (vs : List AV), n = ds.length - i ∧ i ≤ ds.length ∧ Mine H54.next s.H v6 28 1 vs ∧ Mine H54.next s.H v7 3 1 ((leftsR cs g ds t lvs rain i).map I) ∧ RowsAt s.H v6 v7 vs (rowsR cs g ds t lvs rain i) ∧ (∀ b m m', v6 = .opn b m → v7 ≠ .opn b m') ∧ Has 6 [(3, .ptr W.next 0), (6, v6), (7, v7), (8, I (snowP g.melt ds rain t.snow i)), (26, v54), (27, I ds.length), (28, I (i : Int))] s.T ∧ s.D = [] ∧ Grow W s.H ∧ Ext H54 s.H) (ds.length) (by unfold loopFuel; omega)
      ⟨0, .nils, .nils, [], rfl, Nat.zero_le _, Mine.nil _ _ _ _, Mine.nil _ _ _ _, ⟨rfl, nofun⟩, nofun, Has.of (by kernel_rfl), rfl, g54, Ext.refl _⟩ ?_
    rintro n ⟨T, D, G⟩ ⟨i, v6, v7, vs, hn, hi, hm6, hm7, hrows, hsep, ⟨f, hT⟩, hD, hg, hx⟩
    dsimp only at *
    subst hT hD
    have hgn := hg.next
    refine Ok.seq ?_
    refine Ok.region ?_
    refine OkO.bin rfl rfl rfl (bin_lss _ _) ?_
    refine OkO.nil ?_
    refine Ok.seq ?_
    refine Ok.cond rfl (fun h2 => ?_) (fun h2 => ?_)
    · -- yes h2
      have hlt : i < ds.length := by simpa using h2
      have hlf := lev_facts hF (i + 1) (by omega)
      obtain ⟨p0, p1, p2, p3, p4, p5, p6, p7, hP⟩ := list8 hlf.1
      obtain ⟨bb, off, ecs, i1, i2, i3, i4⟩ := (r54.ext hx).at_ i [I p0, I p1, I p2, I p3, I p4, I p5, I p6, I p7, I (leftD cs g ds t lvs rain i), I (snowP g.melt ds rain t.snow (i + 1))] (by rw [List.getElem?_map, List.getElem?_range hlt]; simp [evC, hP])
      have hne : bb ≠ G.next := by omega
      have hb1 : G.get W.next = some (.cells [cv, I g.slo, I g.shi, I g.klo, I g.khi, I g.melt] 38) := by rw [hx.get _ (by omega)]; exact b54
      have hb2 : (G.get W.next).bind AObj.cs = some [cv, I g.slo, I g.shi, I g.klo, I g.khi, I g.melt] := by rw [hb1]; rfl
      have hxn := hx.next
      have hnw : W.next ≠ G.next := by omega
      have hvl : vs.length = i := by have := hrows.1; simpa [rowsR] using this
      have hll : (leftsR cs g ds t lvs rain i).length = i := by simp [leftsR]
      refine Ok.skip ?_
      refine Ok.seq ?_
      refine Ok.block ?_
      refine Ok.seq ?_
      refine Ok.region ?_
      refine OkO.index (sz := 10) (n := i) rfl rfl rfl (by kernel_rfl) (by first | assumption | rfl | exact slAt_slice (by omega)) ?_ -- index ('Go.Operand.tmp', 26) ('Go.Operand.tmp', 28)
      refine OkO.load rfl rfl (ldg (n := 10) (by kernel_rfl) (by first | assumption | (simp (disch := first | omega | (simp only [hNw, hPt]; omega)) only [gn0, gn1, gn2, gn3, gn4, gn5, gp0, gno, gpo] <;> first | rfl | assumption)) (by first | rfl | assumption)) ?_
      refine OkO.alloc (z := [.int .i64 0, .int .i64 0, .int .i64 0, .int .i64 0, .int .i64 0, .int .i64 0, .int .i64 0, .int .i64 0, .int .i64 0, .int .i64 0]) rfl (by kernel_rfl) ?_
      refine OkO.store rfl rfl rfl (stc (n := 10) (ag := true) (by kernel_rfl) (by first | assumption | (simp (disch := first | omega | (simp only [hNw, hPt]; omega)) only [gn0, gn1, gn2, gn3, gn4, gn5, gp0, gno, gpo] <;> first | rfl | assumption)) rfl rfl (by first | rfl | exact spl_set _ _ _ (by first | assumption | (simp; omega)))) ?_
      refine OkO.nil ?_
      refine Ok.seq ?_
      refine Ok.region ?_
      refine OkO.move rfl rfl ?_
      refine OkO.fieldAddr (o := 0) rfl (by kernel_rfl) rfl ?_
      refine OkO.fieldAddr (o := 0) rfl (by kernel_rfl) rfl ?_
      refine OkO.load rfl rfl (lda (n := 1) (by kernel_rfl) (by first | assumption | (simp (disch := first | omega | (simp only [hNw, hPt]; omega)) only [gn0, gn1, gn2, gn3, gn4, gn5, gp0, gno, gpo] <;> first | rfl | assumption)) (by first | rfl | assumption)) ?_
      refine OkO.builtin rfl rfl rfl (bln (by kernel_rfl) (by first | assumption | rfl)) ?_
      refine OkO.sliceArr (len := 8) (sz := 1) (m := cs.length) rfl rfl (by kernel_rfl) rfl rfl (by omega) ?_
      have hus : Ints ((G.new (.cells [I 0, I 0, I 0, I 0, I 0, I 0, I 0, I 0, I 0, I 0] 115)).put G.next (.cells [I p0, I p1, I p2, I p3, I p4, I p5, I p6, I p7, I (leftD cs g ds t lvs rain i), I (snowP g.melt ds rain t.snow (i + 1))] 115)) (.slice G.next 0 cs.length 8) ((levP cs g ds t lvs rain (i + 1)).take cs.length) := by rw [hP]; exact ints_of_cells (a := [p0, p1, p2, p3, p4, p5, p6, p7]) (rest := [I (leftD cs g ds t lvs rain i), I (snowP g.melt ds rain t.snow (i + 1))]) (gp0 _ _ _) rfl (by simpa using hn8.2) (by simp)
      refine OkO.callE rfl rfl rfl rfl rfl (c55 (m + 6) G.next cs.length 8 ((levP cs g ds t lvs rain (i + 1)).take cs.length) _ hus (by rw [List.length_take]; omega) (by rw [List.length_take]; omega)) ?_ -- "slices.Clone[[]int,int]"
      rintro v55 H55 ⟨hv55, q55, w55, n55⟩
      simp only [hNw, hPt] at n55 w55
      have hul : ((levP cs g ds t lvs rain (i + 1)).take cs.length).length = cs.length := by rw [List.length_take]; omega
      have hv55b : v55 = .opn (G.next + 2) cs.length := by rw [hv55, hul]; rfl
      clear hv55
      subst hv55b
      have x55 : Ext G H55 := Ext.trans (by (try dsimp only); repeat (first | exact Ext.refl _ | assumption | apply Ext.new | (refine Ext.put ?_ _ (by first | omega | (simp only [hNw, hPt]; omega))))) q55.ext
      have g55 : Grow W H55 := Grow.ret (by (try dsimp only); repeat (first | (first | exact hg | exact hG) | apply Grow.new | (refine Grow.put ?_ _ (by first | omega | (simp only [hNw, hPt]; omega))))) q55
      have t55 : H55.get G.next = some (.cells [I p0, I p1, I p2, I p3, I p4, I p5, I p6, I p7, I (leftD cs g ds t lvs rain i), I (snowP g.melt ds rain t.snow (i + 1))] 115) := by rw [q55.ext.get _ (by simp only [hNw, hPt]; omega)]; exact gp0 _ _ _
      obtain ⟨L5, hL5⟩ : ∃ L5, L5 = (Go.Ev.levP cs g ds t lvs rain (i + 1)).take cs.length := ⟨_, rfl⟩
      rw [← hL5] at w55 hul
      refine OkO.buildSlice (el := 28) (sz := 1) (z := [.nils]) rfl (by kernel_rfl) (by decide) rfl rfl ?_
      refine OkO.builtinE rfl rfl rfl (Mine.app2 (W := W) (k0 := H54.next) (sz := 1) (by_ := 24) (e := 28) (n := 1) (new := [.opn (G.next + 2) cs.length]) (hm6.to (x55.new _)) (g55.new _) (by omega) (by simp only [hNw]; omega) (by kernel_rfl) (by kernel_rfl) (elems_new (n := 1) (sz := 1) rfl) rfl rfl (by rw [hvl]; omega) (by omega) (by omega) rfl) ?_
      rintro v6n G6 ⟨q1, q2, q3, q4, q5, q6⟩
      simp only [hNw] at q5 q6 q4
      obtain ⟨m6, hv6⟩ := q6
      have k6 : ∀ j, j < H55.next + 1 → (∀ m, v6 ≠ .opn j m) → G6.get j = (H55.new _).get j := q4
      have t6 : G6.get G.next = some (.cells [I p0, I p1, I p2, I p3, I p4, I p5, I p6, I p7, I (leftD cs g ds t lvs rain i), I (snowP g.melt ds rain t.snow (i + 1))] 115) := by rw [q4 _ (by omega) (fun m hm => by have := hm6.lt hm; omega), gno _ _ _ (by omega)]; exact t55
      have t6b : (G6.get G.next).bind AObj.cs = some [I p0, I p1, I p2, I p3, I p4, I p5, I p6, I p7, I (leftD cs g ds t lvs rain i), I (snowP g.melt ds rain t.snow (i + 1))] := by rw [t6]; rfl
      have hm7a : Mine H54.next G6 v7 3 1 ((leftsR cs g ds t lvs rain i).map I) := (hm7.to (x55.new _)).keep (w := v6) (fun j h1 h2 => q4 j (by simpa using h1) h2) (fun b m m' h1 h2 => hsep b m' m h2 h1) (by simp only [hNw]; omega)
      refine OkO.assign rfl rfl ?_
      refine OkO.nil ?_
      refine Ok.seq ?_
      refine Ok.region ?_
      refine OkO.move rfl rfl ?_
      refine OkO.fieldAddr (o := 8) rfl (by kernel_rfl) rfl ?_
      refine OkO.load rfl rfl (lda (n := 1) (by kernel_rfl) (by first | assumption | (simp (disch := first | omega | (simp only [hNw, hPt]; omega)) only [gn0, gn1, gn2, gn3, gn4, gn5, gp0, gno, gpo] <;> first | rfl | assumption)) (by first | rfl | assumption)) ?_
      refine OkO.buildSlice (el := 3) (sz := 1) (z := [.int .i64 0]) rfl (by kernel_rfl) (by decide) rfl rfl ?_
      refine OkO.builtinE rfl rfl rfl (Mine.app2 (W := W) (k0 := H54.next) (sz := 1) (by_ := 8) (e := 3) (n := 1) (new := [I (leftD cs g ds t lvs rain i)]) (hm7a.to (Grow.toNew _ _)) (q2.new _) (by omega) (by simp only [hNw]; omega) (by kernel_rfl) (by kernel_rfl) (elems_new (n := 1) (sz := 1) rfl) rfl rfl (by rw [List.length_map, hll]; omega) (by omega) (by omega) rfl) ?_
      rintro v7n G7 ⟨s1, s2, s3, s4, s5, s6⟩
      simp only [hNw] at s5 s6 s4
      obtain ⟨m7, hv7⟩ := s6
      have t7 : G7.get G.next = some (.cells [I p0, I p1, I p2, I p3, I p4, I p5, I p6, I p7, I (leftD cs g ds t lvs rain i), I (snowP g.melt ds rain t.snow (i + 1))] 115) := by rw [s4 _ (by omega) (fun m hm => by have := hm7.lt hm; omega), gno _ _ _ (by omega)]; exact t6
      have t7b : (G7.get G.next).bind AObj.cs = some [I p0, I p1, I p2, I p3, I p4, I p5, I p6, I p7, I (leftD cs g ds t lvs rain i), I (snowP g.melt ds rain t.snow (i + 1))] := by rw [t7]; rfl
      refine OkO.assign rfl rfl ?_
      refine OkO.nil ?_
      refine Ok.region ?_
      refine OkO.fieldAddr (o := 9) rfl (by kernel_rfl) rfl ?_
      refine OkO.load rfl rfl (lda (n := 1) (by kernel_rfl) (by first | assumption | (simp (disch := first | omega | (simp only [hNw, hPt]; omega)) only [gn0, gn1, gn2, gn3, gn4, gn5, gp0, gno, gpo] <;> first | rfl | assumption)) (by first | rfl | assumption)) ?_
      refine OkO.assign rfl rfl ?_
      refine OkO.nil ?_
      refine Ok.region ?_
      refine OkO.bin rfl rfl rfl (bin_add (by omega) (by omega)) ?_
      refine OkO.move rfl rfl ?_
      refine OkO.nil ?_
      refine ⟨ds.length - (i + 1), by omega, i + 1, v6n, v7n, vs ++ [.opn (G.next + 2) cs.length], rfl, hlt, ?_, ?_, ?_, ?_, Has.of (by kernel_rfl), rfl, s2, ?_⟩
      · refine (q1.to (Grow.toNew _ _)).keep (w := v7) (fun j h1 h2 => s4 j (by simpa using h1) h2) (fun b m m' h1 h2 => by rw [hv6] at h1; cases h1; have := hm7.lt h2; omega) (by simp only [hNw]; omega)
      · rw [leftsR_succ, List.map_append]; exact s1
      · rw [rowsR_succ, ← hL5]
        have kk : RowsAt G7 v6n v7n vs (rowsR cs g ds t lvs rain i) := hrows.keep (fun j h1 h2 h3 => by rw [s4 j (by omega) h3, gno _ _ _ (by omega), q4 j (by omega) h2, gno _ _ _ (by omega), x55.get j h1]) (by omega) (fun b m h => by rw [hv6] at h; cases h; left; omega) (fun b m h => by rw [hv7] at h; cases h; left; omega)
        have := kk.snoc (b := G.next + 2) (r := L5) (by rw [s4 _ (by omega) (fun m hm => by have := hm7.lt hm; omega), gno _ _ _ (by omega), q4 _ (by omega) (fun m hm => by have := hm6.lt hm; omega), gno _ _ _ (by omega)]; exact w55) (by omega) (fun m h => by rw [hv6] at h; have := (AV.opn.inj h).1; omega) (fun m h => by rw [hv7] at h; have := (AV.opn.inj h).1; omega)
        rw [hul] at this; exact this
      · intro b m m' h1 h2; rw [hv6] at h1; rw [hv7] at h2; have e1 := (AV.opn.inj h1).1; have e2 := (AV.opn.inj h2).1; omega
      · exact ⟨show H54.next ≤ G7.next by omega, fun j hj => by rw [s4 j (by omega) (fun m hm => by rcases hm7 with ⟨h, _⟩ | ⟨b, mm, h, _, _, h4, _⟩ <;> rw [h] at hm <;> cases hm; omega), gno _ _ _ (by omega), q4 j (by omega) (fun m hm => by rcases hm6 with ⟨h, _⟩ | ⟨b, mm, h, _, _, h4, _⟩ <;> rw [h] at hm <;> cases hm; omega), gno _ _ _ (by omega), x55.get j (by omega)]; exact hx.get j hj⟩
    · -- no h2
      have hge : i = ds.length := by simp at h2; omega
      refine Ok.exit ?_
      refine Ok.seq ?_
      refine Ok.region ?_
      refine OkO.move rfl rfl ?_
      refine OkO.move rfl rfl ?_
      refine OkO.move rfl rfl ?_
      refine OkO.assign rfl rfl ?_
      refine OkO.assign rfl rfl ?_
      refine OkO.assign rfl rfl ?_
      refine OkO.assign rfl rfl ?_
      refine OkO.nil ?_
      refine Ok.ret ⟨.inr rfl, ?_⟩
      subst hge
      refine back_newA (resV_tmp rfl (resV_tmp rfl (resV_tmp rfl (resV_tmp rfl resV_nil)))) rfl (by rw [← hW]; exact hg) (fun H2 r2 r3 => ⟨v6, v7, rfl, r2, ?_, ?_⟩)
      · have hB := Mine.back (l := vs.map fun x => [x]) (H := H) (H' := H2) (by rw [singles]; exact hm6) (fun x hx => by simp only [List.mem_map] at hx; obtain ⟨y, _, rfl⟩ := hx; rfl) (by omega) (r3.imp (fun h => ⟨h.1, (flat2 h.2).1⟩) id)
        refine hrows.lists hB.1 (r3.imp (fun h => ?_) id)
        have h6 := (flat2 h.2).1
        rcases hm6 with ⟨_, h2⟩ | ⟨b, m, h1, _⟩
        · exact h2
        · rw [h1] at h6; cases h6
      · exact (Mine.back (l := (leftsR cs g ds t lvs rain ds.length).map fun n => [I n]) (H := H) (by rw [ints_flat]; exact hm7) (fun x hx => by simp only [List.mem_map] at hx; obtain ⟨y, _, rfl⟩ := hx; rfl) (by omega) (r3.imp (fun h => ⟨h.1, (flat2 h.2).2⟩) id)).1
end
end Go.Ev
