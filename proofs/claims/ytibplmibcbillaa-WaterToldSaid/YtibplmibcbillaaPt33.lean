/-
  Functions of the program, reckoned by the evaluator: what each answers, and that it leaves what came in as it was.
-/
import Derived.Test.YtibplmibcbillaaPt32
import Derived.Test.YtibplmibcbillaaEvY
import Derived.WideShapes
import Derived.Carry
set_option maxRecDepth 100000
set_option linter.unusedSimpArgs false
set_option linter.unusedVariables false
namespace Go.Ev
open Go Go.Proofs
noncomputable section
theorem one_cells {v : AV} {n : Nat} (h : lenOf v = some n) : v.cells = [v] := by
  cases v with
  | raw u => cases u <;> simp [lenOf] at h; rfl
  | _ => first | rfl | simp [lenOf] at h
theorem build110 {dv : AV} {n : Nat} (h : lenOf dv = some n) (a0 a1 a2 a3 a4 a5 b0 b1 b2 b3 : AV) : fillS (fun i => [(0, 6), (6, 1), (7, 4)][i]?) [.nils, I 0, I 0, I 0, I 0, I 0, .nils, I 0, I 0, .nils, .nils] [(0, .agg [a0, a1, a2, a3, a4, a5]), (1, dv), (2, .agg [b0, b1, b2, b3])] = some [a0, a1, a2, a3, a4, a5, dv, b0, b1, b2, b3] := by
  cases dv with
  | raw u => cases u <;> simp [lenOf] at h; rfl
  | _ => first | (simp [lenOf] at h; done) | rfl
theorem flat2 {a b : AV} {x y : Int} (h : (AV.tup [a, b, I x, I y]).flat = true) : a.flat = true ∧ b.flat = true := by
  simp only [AV.flat, AV.flats] at h
  cases ha : a.flat with
  | false => rw [ha] at h; cases h
  | true =>
    rw [ha] at h
    cases hb : b.flat with
    | false => rw [hb] at h; cases h
    | true => exact ⟨rfl, rfl⟩
theorem fit_of {cs : List Cell} {g : Gr} {ds : List Day} {t : Tru} {lvs rain : List Int} (h : truthErr cs g ds t lvs rain = 0) : Fit cs g ds t lvs rain := by
  unfold truthErr at h
  split at h
  · rename_i h0
    split at h
    · rename_i h1
      simp only [Bool.and_eq_true] at h1
      obtain ⟨⟨⟨h2, h3⟩, h4⟩, h5⟩ := h1
      unfold daysErr at h0
      split at h0
      · rename_i h6
        split at h0
        · simp at h0
        · rename_i h7
          split at h0
          · rename_i h8
            simp only [gOk, Bool.and_eq_true] at h6
            obtain ⟨⟨⟨⟨⟨k1, k2⟩, k3⟩, k4⟩, k5⟩, k6⟩ := h6
            rw [List.all_eq_true] at k2 h8
            simp only [inB, okR, Bool.and_eq_true, decide_eq_true_eq] at k1 k4 k5 k6 h2 h3
            obtain ⟨l1, l2⟩ := (fits_iff _ _).1 h4
            obtain ⟨r1, r2⟩ := (fits_iff _ _).1 h5
            refine ⟨by omega, fun x hx => Cell.ok_lim (k2 x hx), k3, k6, by omega, fun x hx => Day.ok_lim (h8 x hx), by simpa using l1, fun i x n a1 a2 => ?_, by simpa using r1, fun z hz => ?_, by omega, by omega⟩
            · have := l2 i n x.lv a2 (by rw [List.getElem?_map, a1]; rfl)
              have hl := Cell.ok_lim (k2 x (List.mem_of_getElem? a1))
              unfold Cell.lim at hl
              have h9 : x.lo ≤ n ∧ n ≤ x.hi := by simp only [inB, Bool.and_eq_true] at this; exact ⟨of_decide_eq_true this.1, of_decide_eq_true this.2⟩
              omega
            · obtain ⟨j, hj, rfl⟩ := List.mem_iff_getElem.1 hz
              have hjd : j < ds.length := by simp at r1; omega
              have := r2 j rain[j] ds[j].rn (List.getElem?_eq_getElem hj) (by rw [List.getElem?_map, List.getElem?_eq_getElem hjd]; rfl)
              have hl := Day.ok_lim (h8 _ (List.getElem_mem hjd))
              unfold Day.lim at hl
              have h9 : ds[j].lo ≤ rain[j] ∧ rain[j] ≤ ds[j].hi := by simp only [inB, Bool.and_eq_true] at this; exact ⟨of_decide_eq_true this.1, of_decide_eq_true this.2⟩
              omega
          · simp at h0
      · simp at h0
    · simp at h
  · rename_i h0; exact absurd h h0
def rowsR (cs : List Cell) (g : Gr) (ds : List Day) (t : Tru) (lvs rain : List Int) (k : Nat) : List (List Int) := (List.range k).map fun i => (levP cs g ds t lvs rain (i + 1)).take cs.length
def leftsR (cs : List Cell) (g : Gr) (ds : List Day) (t : Tru) (lvs rain : List Int) (k : Nat) : List Int := (List.range k).map (leftD cs g ds t lvs rain)
theorem rowsR_succ (cs : List Cell) (g : Gr) (ds : List Day) (t : Tru) (lvs rain : List Int) (k : Nat) : rowsR cs g ds t lvs rain (k + 1) = rowsR cs g ds t lvs rain k ++ [(levP cs g ds t lvs rain (k + 1)).take cs.length] := by simp [rowsR, List.range_succ]
theorem leftsR_succ (cs : List Cell) (g : Gr) (ds : List Day) (t : Tru) (lvs rain : List Int) (k : Nat) : leftsR cs g ds t lvs rain (k + 1) = leftsR cs g ds t lvs rain k ++ [leftD cs g ds t lvs rain k] := by simp [leftsR, List.range_succ]
theorem c20 (m : Nat) (cv dv lv rv : AV) (cs : List Cell) (g : Gr) (ds : List Day) (t : Tru) (lvs rain : List Int) (H : Heap) (hR : Row H cv 7 (cs.map Cell.c)) (hbig : cs.length ≤ 1000) (hD : Row H dv 3 (ds.map Day.c)) (hbd : ds.length ≤ 1000) (hL : Ints H lv lvs) (hbl : lvs.length ≤ 1000) (hA : Ints H rv rain) (hba : rain.length ≤ 1000) (he : truthErr cs g ds t lvs rain = 0) : ∃ v H', RR (m + 8) (.fn 20 [.agg [cv, I g.slo, I g.shi, I g.klo, I g.khi, I g.melt], dv, .agg [I t.snow, I t.soak, lv, rv]]) H = some (v, H') ∧ ∃ v6 v7, v = .tup [v6, v7, I (snowP g.melt ds rain t.snow ds.length), I 0] ∧ Ret H H' ∧ Lists H' v6 (rowsR cs g ds t lvs rain ds.length) ∧ Ints H' v7 (leftsR cs g ds t lvs rain ds.length) := by
  show ∃ v H', evFn Try.prog (RR (m + 7)) 20 [.agg [cv, I g.slo, I g.shi, I g.klo, I g.khi, I g.melt], dv, .agg [I t.snow, I t.soak, lv, rv]] H = some (v, H') ∧ ∃ v6 v7, v = .tup [v6, v7, I (snowP g.melt ds rain t.snow ds.length), I 0] ∧ Ret H H' ∧ Lists H' v6 (rowsR cs g ds t lvs rain ds.length) ∧ Ints H' v7 (leftsR cs g ds t lvs rain ds.length)
  refine fn_okE Try.func20 rfl rfl (by kernel_rfl) (by kernel_rfl) ?_
  obtain ⟨W, hW, hg, hN, hE, hG⟩ := wOf H
  rw [← hW]
  have hF := fit_of he
  have hn8 := hF.n8
  have hlc : lenOf cv = some cs.length := by simpa using hR.len
  have hld : lenOf dv = some ds.length := by simpa using hD.len
  have hll0 : lenOf lv = some lvs.length := by simpa using hL.len
  have hlr0 : lenOf rv = some rain.length := by simpa using hA.len
  refine kS ?_; refine kR ?_; refine OkO.box rfl rfl ?_; refine OkO.box rfl rfl ?_; refine oA rfl rfl ?_; refine oA rfl rfl ?_; refine oA rfl rfl ?_; refine oA rfl rfl ?_; refine oN ?_; refine kS ?_; refine kS ?_; refine kR ?_; refine oL rfl rfl (ldg (n := 6) (by kernel_rfl) (by first | assumption | (simp (disch := first | omega | (simp only [hNw, hPt]; omega)) only [gN] <;> first | rfl | assumption)) (by first | rfl | assumption)) ?_; refine oM rfl rfl ?_; refine oL rfl rfl (ldg (n := 4) (by kernel_rfl) (by first | assumption | (simp (disch := first | omega | (simp only [hNw, hPt]; omega)) only [gN] <;> first | rfl | assumption)) (by first | rfl | assumption)) ?_; refine oV rfl rfl rfl rfl rfl (c53 m cv dv lv rv cs g ds t lvs rain _ (hR.ext (hE _ (by (try dsimp only); repeat (first | exact hG | apply Grow.new | (refine Grow.put ?_ _ (by first | omega | (simp only [hNw, hPt]; omega))))))) hbig (hD.ext (hE _ (by (try dsimp only); repeat (first | exact hG | apply Grow.new | (refine Grow.put ?_ _ (by first | omega | (simp only [hNw, hPt]; omega))))))) hbd (hL.ext (hE _ (by (try dsimp only); repeat (first | exact hG | apply Grow.new | (refine Grow.put ?_ _ (by first | omega | (simp only [hNw, hPt]; omega))))))) hbl (hA.ext (hE _ (by (try dsimp only); repeat (first | exact hG | apply Grow.new | (refine Grow.put ?_ _ (by first | omega | (simp only [hNw, hPt]; omega))))))) hba) ?_; refine oA rfl rfl ?_; refine oN ?_; refine kS ?_; refine kR ?_; refine oM rfl rfl ?_; refine OkO.bin rfl rfl rfl (bin_neq _ _) ?_; refine oN ?_
  refine Ok.cond rfl (fun h1 => ?_) (fun h1 => ?_)
  · exact absurd h1 (by simp [he])
  · have h0 : truthErr cs g ds t lvs rain = 0 := he
    refine Ok.skip ?_; refine kS ?_; refine kR ?_; refine oF (o := 0) rfl (by kernel_rfl) rfl ?_; refine oL rfl rfl (lda (n := 1) (by kernel_rfl) (by first | assumption | (simp (disch := first | omega | (simp only [hNw, hPt]; omega)) only [gN] <;> first | rfl | assumption)) (by first | rfl | assumption)) ?_; refine oA rfl rfl ?_; refine oN ?_; refine kS ?_; refine kS ?_; refine kR ?_; refine oL rfl rfl (ldg (n := 6) (by kernel_rfl) (by first | assumption | (simp (disch := first | omega | (simp only [hNw, hPt]; omega)) only [gN] <;> first | rfl | assumption)) (by first | rfl | assumption)) ?_; refine oM rfl rfl ?_; refine oL rfl rfl (ldg (n := 4) (by kernel_rfl) (by first | assumption | (simp (disch := first | omega | (simp only [hNw, hPt]; omega)) only [gN] <;> first | rfl | assumption)) (by first | rfl | assumption)) ?_; refine OkO.build (z := [.nils, .int .i64 0, .int .i64 0, .int .i64 0, .int .i64 0, .int .i64 0, .nils, .int .i64 0, .int .i64 0, .nils, .nils]) (pl := [(0, 6), (6, 1), (7, 4)]) (cs := [cv, I g.slo, I g.shi, I g.klo, I g.khi, I g.melt, dv, I t.snow, I t.soak, lv, rv]) rfl (by kernel_rfl) rfl (build110 hld _ _ _ _ _ _ _ _ _ _) ?_; refine oE rfl rfl rfl rfl rfl (c54 (m + 2) cv dv lv rv cs g ds t lvs rain _ (hR.ext (hE _ (by (try dsimp only); repeat (first | exact hG | apply Grow.new | (refine Grow.put ?_ _ (by first | omega | (simp only [hNw, hPt]; omega))))))) (hD.ext (hE _ (by (try dsimp only); repeat (first | exact hG | apply Grow.new | (refine Grow.put ?_ _ (by first | omega | (simp only [hNw, hPt]; omega))))))) (hL.ext (hE _ (by (try dsimp only); repeat (first | exact hG | apply Grow.new | (refine Grow.put ?_ _ (by first | omega | (simp only [hNw, hPt]; omega))))))) (hA.ext (hE _ (by (try dsimp only); repeat (first | exact hG | apply Grow.new | (refine Grow.put ?_ _ (by first | omega | (simp only [hNw, hPt]; omega))))))) hF) ?_
    rintro v54 H54 ⟨q54, r54, c54⟩
    have g54 : Grow W H54 := Grow.ret (by (try dsimp only); repeat (first | exact hG | apply Grow.new | (refine Grow.put ?_ _ (by first | omega | (simp only [hNw, hPt]; omega))))) q54
    have n54 : W.next + 2 ≤ H54.next := by have := q54.ext.next; simp at this; omega
    have b54 : H54.get W.next = some (.cells [cv, I g.slo, I g.shi, I g.klo, I g.khi, I g.melt] 38) := by rw [q54.ext.get _ (by simp only [hNw]; omega)]; first | exact gn0 _ _ | (simp (disch := first | omega | (simp only [hNw, hPt]; omega)) only [gN] <;> first | rfl | assumption)
    have l54 : lenOf v54 = some ds.length := by simpa using r54.len
    refine oB rfl rfl rfl qbl ?_; refine oM rfl rfl ?_; refine oN ?_; refine Ok.block ?_
    refine Ok.loop (fun n s => ∃ (i : Nat) (v6 v7 : AV) (vs : List AV), n = ds.length - i ∧ i ≤ ds.length ∧ Mine H54.next s.H v6 28 1 vs ∧ Mine H54.next s.H v7 3 1 ((leftsR cs g ds t lvs rain i).map I) ∧ RowsAt s.H v6 v7 vs (rowsR cs g ds t lvs rain i) ∧ (∀ b m m', v6 = .opn b m → v7 ≠ .opn b m') ∧ Has 6 [(3, .ptr W.next 0), (6, v6), (7, v7), (8, I (snowP g.melt ds rain t.snow i)), (26, v54), (27, I ds.length), (28, I (i : Int))] s.T ∧ s.D = [] ∧ Grow W s.H ∧ Ext H54 s.H) (ds.length) (by unfold loopFuel; omega)
      ⟨0, .nils, .nils, [], rfl, Nat.zero_le _, Mine.nil _ _ _ _, Mine.nil _ _ _ _, ⟨rfl, nofun⟩, nofun, Has.of (by kernel_rfl), rfl, g54, Ext.refl _⟩ ?_
    rintro n ⟨T, D, G⟩ ⟨i, v6, v7, vs, hn, hi, hm6, hm7, hrows, hsep, ⟨f, hT⟩, hD, hg, hx⟩
    dsimp only at *
    subst hT hD
    have hgn := hg.next
    refine kS ?_; refine kR ?_; refine OkO.bin rfl rfl rfl (bin_lss _ _) ?_; refine oN ?_; refine kS ?_
    refine Ok.cond rfl (fun h2 => ?_) (fun h2 => ?_)
    · have hlt : i < ds.length := by simpa using h2
      have hlf := lev_facts hF (i + 1) (by omega)
      obtain ⟨p0, p1, p2, p3, p4, p5, p6, p7, hP⟩ := list8 hlf.1
      obtain ⟨bb, off, ecs, i1, i2, i3, i4⟩ := (r54.ext hx).at_ i [I p0, I p1, I p2, I p3, I p4, I p5, I p6, I p7, I (leftD cs g ds t lvs rain i), I (snowP g.melt ds rain t.snow (i + 1))] (by rw [List.getElem?_map, List.getElem?_range hlt]; simp [evC, hP])
      have hne : bb ≠ G.next := by omega
      have hb1 : G.get W.next = some (.cells [cv, I g.slo, I g.shi, I g.klo, I g.khi, I g.melt] 38) := by rw [hx.get _ (by omega)]; exact b54
      have hb2 : (G.get W.next).bind AObj.cs = some [cv, I g.slo, I g.shi, I g.klo, I g.khi, I g.melt] := by rw [hb1]; rfl
      have hxn := hx.next
      have hnw : W.next ≠ G.next := by omega
      have hvl : vs.length = i := by have := hrows.1; simpa [rowsR] using this
      have hll : (leftsR cs g ds t lvs rain i).length = i := by simp [leftsR]
      refine Ok.skip ?_; refine kS ?_; refine Ok.block ?_; refine kS ?_; refine kR ?_; refine qX (sz := 10) (n := i) rfl rfl rfl ?_; refine oL rfl rfl (ldg (n := 10) (by kernel_rfl) (by first | assumption | (simp (disch := first | omega | (simp only [hNw, hPt]; omega)) only [gN] <;> first | rfl | assumption)) (by first | rfl | assumption)) ?_; refine OkO.alloc (z := [.int .i64 0, .int .i64 0, .int .i64 0, .int .i64 0, .int .i64 0, .int .i64 0, .int .i64 0, .int .i64 0, .int .i64 0, .int .i64 0]) rfl (by kernel_rfl) ?_; refine oT rfl rfl rfl (sAc (n := 10) (ag := true) (by kernel_rfl) (by first | assumption | (simp (disch := first | omega | (simp only [hNw, hPt]; omega)) only [gN] <;> first | rfl | assumption)) rfl rfl (by first | rfl | exact spl_set _ _ _ (by first | assumption | (simp; omega)))) ?_; refine oN ?_; refine kS ?_; refine kR ?_; refine oM rfl rfl ?_; refine oF (o := 0) rfl (by kernel_rfl) rfl ?_; refine oF (o := 0) rfl (by kernel_rfl) rfl ?_; refine oL rfl rfl (lda (n := 1) (by kernel_rfl) (by first | assumption | (simp (disch := first | omega | (simp only [hNw, hPt]; omega)) only [gN] <;> first | rfl | assumption)) (by first | rfl | assumption)) ?_; refine oB rfl rfl rfl qbl ?_; refine OkO.sliceArr (len := 8) (sz := 1) (m := cs.length) rfl rfl (by kernel_rfl) rfl rfl (by omega) ?_
      have hus : Ints ((G.new (.cells [I 0, I 0, I 0, I 0, I 0, I 0, I 0, I 0, I 0, I 0] 115)).put G.next (.cells [I p0, I p1, I p2, I p3, I p4, I p5, I p6, I p7, I (leftD cs g ds t lvs rain i), I (snowP g.melt ds rain t.snow (i + 1))] 115)) (.slice G.next 0 cs.length 8) ((levP cs g ds t lvs rain (i + 1)).take cs.length) := by rw [hP]; exact ints_of_cells (a := [p0, p1, p2, p3, p4, p5, p6, p7]) (rest := [I (leftD cs g ds t lvs rain i), I (snowP g.melt ds rain t.snow (i + 1))]) (gp0 _ _ _) rfl (by simpa using hn8.2) (by simp)
      refine oE rfl rfl rfl rfl rfl (c55 (m + 6) G.next cs.length 8 ((levP cs g ds t lvs rain (i + 1)).take cs.length) _ hus (by rw [List.length_take]; omega) (by rw [List.length_take]; omega)) ?_
      rintro v55 H55 ⟨hv55, q55, w55, n55⟩
      simp only [hNw, hPt] at n55 w55
      have hul : ((levP cs g ds t lvs rain (i + 1)).take cs.length).length = cs.length := by rw [List.length_take]; omega
      have hv55b : v55 = .opn (G.next + 2) cs.length := by rw [hv55, hul]; rfl
      clear hv55
      subst hv55b
      have x55 : Ext G H55 := Ext.trans (by (try dsimp only); repeat (first | exact Ext.refl _ | assumption | apply Ext.new | (refine Ext.put ?_ _ (by first | omega | (simp only [hNw, hPt]; omega))))) q55.ext
      have g55 : Grow W H55 := Grow.ret (by (try dsimp only); repeat (first | (first | exact hg | exact hG) | apply Grow.new | (refine Grow.put ?_ _ (by first | omega | (simp only [hNw, hPt]; omega))))) q55
      have t55 : H55.get G.next = some (.cells [I p0, I p1, I p2, I p3, I p4, I p5, I p6, I p7, I (leftD cs g ds t lvs rain i), I (snowP g.melt ds rain t.snow (i + 1))] 115) := by rw [q55.ext.get _ (by simp only [hNw, hPt]; omega)]; exact gp0 _ _ _
      obtain ⟨L5, hL5⟩ : ∃ L5, L5 = (Go.Ev.levP cs g ds t lvs rain (i + 1)).take cs.length := ⟨_, rfl⟩
      rw [← hL5] at w55 hul
      refine OkO.buildSlice (el := 28) (sz := 1) (z := [.nils]) rfl (by kernel_rfl) (by decide) rfl rfl ?_; refine OkO.builtinE rfl rfl rfl (Mine.app2 (W := W) (k0 := H54.next) (sz := 1) (by_ := 24) (e := 28) (n := 1) (new := [.opn (G.next + 2) cs.length]) (hm6.to (x55.new _)) (g55.new _) (by omega) (by simp only [hNw]; omega) (by kernel_rfl) (by kernel_rfl) (elems_new (n := 1) (sz := 1) rfl) rfl rfl (by rw [hvl]; omega) (by omega) (by omega) rfl) ?_
      rintro v6n G6 ⟨q1, q2, q3, q4, q5, q6⟩
      simp only [hNw] at q5 q6 q4
      obtain ⟨m6, hv6⟩ := q6
      have k6 : ∀ j, j < H55.next + 1 → (∀ m, v6 ≠ .opn j m) → G6.get j = (H55.new _).get j := q4
      have t6 : G6.get G.next = some (.cells [I p0, I p1, I p2, I p3, I p4, I p5, I p6, I p7, I (leftD cs g ds t lvs rain i), I (snowP g.melt ds rain t.snow (i + 1))] 115) := by rw [q4 _ (by omega) (fun m hm => by have := hm6.lt hm; omega), gno _ _ _ (by omega)]; exact t55
      have t6b : (G6.get G.next).bind AObj.cs = some [I p0, I p1, I p2, I p3, I p4, I p5, I p6, I p7, I (leftD cs g ds t lvs rain i), I (snowP g.melt ds rain t.snow (i + 1))] := by rw [t6]; rfl
      have hm7a : Mine H54.next G6 v7 3 1 ((leftsR cs g ds t lvs rain i).map I) := (hm7.to (x55.new _)).keep (w := v6) (fun j h1 h2 => q4 j (by simpa using h1) h2) (fun b m m' h1 h2 => hsep b m' m h2 h1) (by simp only [hNw]; omega)
      refine oA rfl rfl ?_; refine oN ?_; refine kS ?_; refine kR ?_; refine oM rfl rfl ?_; refine oF (o := 8) rfl (by kernel_rfl) rfl ?_; refine oL rfl rfl (lda (n := 1) (by kernel_rfl) (by first | assumption | (simp (disch := first | omega | (simp only [hNw, hPt]; omega)) only [gN] <;> first | rfl | assumption)) (by first | rfl | assumption)) ?_; refine OkO.buildSlice (el := 3) (sz := 1) (z := [.int .i64 0]) rfl (by kernel_rfl) (by decide) rfl rfl ?_; refine OkO.builtinE rfl rfl rfl (Mine.app2 (W := W) (k0 := H54.next) (sz := 1) (by_ := 8) (e := 3) (n := 1) (new := [I (leftD cs g ds t lvs rain i)]) (hm7a.to (Grow.toNew _ _)) (q2.new _) (by omega) (by simp only [hNw]; omega) (by kernel_rfl) (by kernel_rfl) (elems_new (n := 1) (sz := 1) rfl) rfl rfl (by rw [List.length_map, hll]; omega) (by omega) (by omega) rfl) ?_
      rintro v7n G7 ⟨s1, s2, s3, s4, s5, s6⟩
      simp only [hNw] at s5 s6 s4
      obtain ⟨m7, hv7⟩ := s6
      have t7 : G7.get G.next = some (.cells [I p0, I p1, I p2, I p3, I p4, I p5, I p6, I p7, I (leftD cs g ds t lvs rain i), I (snowP g.melt ds rain t.snow (i + 1))] 115) := by rw [s4 _ (by omega) (fun m hm => by have := hm7.lt hm; omega), gno _ _ _ (by omega)]; exact t6
      have t7b : (G7.get G.next).bind AObj.cs = some [I p0, I p1, I p2, I p3, I p4, I p5, I p6, I p7, I (leftD cs g ds t lvs rain i), I (snowP g.melt ds rain t.snow (i + 1))] := by rw [t7]; rfl
      refine oA rfl rfl ?_; refine oN ?_; refine kR ?_; refine oF (o := 9) rfl (by kernel_rfl) rfl ?_; refine oL rfl rfl (lda (n := 1) (by kernel_rfl) (by first | assumption | (simp (disch := first | omega | (simp only [hNw, hPt]; omega)) only [gN] <;> first | rfl | assumption)) (by first | rfl | assumption)) ?_; refine oA rfl rfl ?_; refine oN ?_; refine kR ?_; refine OkO.bin rfl rfl rfl (bin_add (by omega) (by omega)) ?_; refine oM rfl rfl ?_; refine oN ?_
      refine ⟨ds.length - (i + 1), by omega, i + 1, v6n, v7n, vs ++ [.opn (G.next + 2) cs.length], rfl, hlt, ?_, ?_, ?_, ?_, Has.of (by kernel_rfl), rfl, s2, ?_⟩
      · refine (q1.to (Grow.toNew _ _)).keep (w := v7) (fun j h1 h2 => s4 j (by simpa using h1) h2) (fun b m m' h1 h2 => by rw [hv6] at h1; cases h1; have := hm7.lt h2; omega) (by simp only [hNw]; omega)
      · rw [leftsR_succ, List.map_append]; exact s1
      · rw [rowsR_succ, ← hL5]
        have kk : RowsAt G7 v6n v7n vs (rowsR cs g ds t lvs rain i) := hrows.keep (fun j h1 h2 h3 => by rw [s4 j (by omega) h3, gno _ _ _ (by omega), q4 j (by omega) h2, gno _ _ _ (by omega), x55.get j h1]) (by omega) (fun b m h => by rw [hv6] at h; cases h; left; omega) (fun b m h => by rw [hv7] at h; cases h; left; omega)
        have := kk.snoc (b := G.next + 2) (r := L5) (by rw [s4 _ (by omega) (fun m hm => by have := hm7.lt hm; omega), gno _ _ _ (by omega), q4 _ (by omega) (fun m hm => by have := hm6.lt hm; omega), gno _ _ _ (by omega)]; exact w55) (by omega) (fun m h => by rw [hv6] at h; have := (AV.opn.inj h).1; omega) (fun m h => by rw [hv7] at h; have := (AV.opn.inj h).1; omega)
        rw [hul] at this; exact this
      · intro b m m' h1 h2; rw [hv6] at h1; rw [hv7] at h2; have e1 := (AV.opn.inj h1).1; have e2 := (AV.opn.inj h2).1; omega
      · exact ⟨show H54.next ≤ G7.next by omega, fun j hj => by rw [s4 j (by omega) (fun m hm => by rcases hm7 with ⟨h, _⟩ | ⟨b, mm, h, _, _, h4, _⟩ <;> rw [h] at hm <;> cases hm; omega), gno _ _ _ (by omega), q4 j (by omega) (fun m hm => by rcases hm6 with ⟨h, _⟩ | ⟨b, mm, h, _, _, h4, _⟩ <;> rw [h] at hm <;> cases hm; omega), gno _ _ _ (by omega), x55.get j (by omega)]; exact hx.get j hj⟩
    · have hge : i = ds.length := by simp at h2; omega
      refine Ok.exit ?_; refine kS ?_; refine kR ?_; refine oM rfl rfl ?_; refine oM rfl rfl ?_; refine oM rfl rfl ?_; refine oA rfl rfl ?_; refine oA rfl rfl ?_; refine oA rfl rfl ?_; refine oA rfl rfl ?_; refine oN ?_
      refine Ok.ret ⟨.inr rfl, ?_⟩
      subst hge
      refine back_newA (resV_tmp rfl (resV_tmp rfl (resV_tmp rfl (resV_tmp rfl resV_nil)))) rfl (by rw [← hW]; exact hg) (fun H2 r2 r3 => ⟨v6, v7, rfl, r2, ?_, ?_⟩)
      · have hB := Mine.back (l := vs.map fun x => [x]) (H := H) (H' := H2) (by rw [singles]; exact hm6) (fun x hx => by simp only [List.mem_map] at hx; obtain ⟨y, _, rfl⟩ := hx; rfl) (by omega) (r3.imp (fun h => ⟨h.1, (flat2 h.2).1⟩) id)
        refine hrows.lists hB.1 (r3.imp (fun h => ?_) id)
        have h6 := (flat2 h.2).1
        rcases hm6 with ⟨_, h2⟩ | ⟨b, m, h1, _⟩
        · exact h2
        · rw [h1] at h6; cases h6
      · exact (Mine.back (l := (leftsR cs g ds t lvs rain ds.length).map fun n => [I n]) (H := H) (by rw [ints_flat]; exact hm7) (fun x hx => by simp only [List.mem_map] at hx; obtain ⟨y, _, rfl⟩ := hx; rfl) (by omega) (r3.imp (fun h => ⟨h.1, (flat2 h.2).2⟩) id)).1
end
end Go.Ev

set_option maxRecDepth 100000
set_option linter.unusedSimpArgs false
set_option linter.unusedVariables false
namespace Go.Ev
open Go Go.Proofs
noncomputable section
def thinB (cs : List Cell) (ds : List Day) : Bool := decide ((cs.length : Int) ≤ 10) && decide ((ds.length : Int) ≤ 35)
theorem c16 (m : Nat) (cv dv : AV) (cs : List Cell) (g : Gr) (ds : List Day) (H : Heap) (hR : Row H cv 7 (cs.map Cell.c)) (hD : Row H dv 3 (ds.map Day.c)) : RR (m + 1) (.fn 16 [.agg [cv, I g.slo, I g.shi, I g.klo, I g.khi, I g.melt], dv]) H = some (.bool (thinB cs ds), H) := by
  refine (R_fn _ _ _ _ _).trans ?_; refine fn_ok Try.func16 rfl rfl (by kernel_rfl) (by kernel_rfl) ?_
  obtain ⟨W, hW, hg, hN, hE, hG⟩ := wOf H
  rw [← hW]
  have hlc : lenOf cv = some cs.length := by simpa using hR.len
  have hld : lenOf dv = some ds.length := by simpa using hD.len
  refine kS ?_; refine kR ?_; refine OkO.box rfl rfl ?_; refine oA rfl rfl ?_; refine oN ?_; refine kS ?_; refine kR ?_; refine oF (o := 0) rfl (by kernel_rfl) rfl ?_; refine oL rfl rfl (lda (n := 1) (by kernel_rfl) (by first | assumption | (simp (disch := first | omega | (simp only [hNw, hPt]; omega)) only [gN] <;> first | rfl | assumption)) (by first | rfl | assumption)) ?_; refine oB rfl rfl rfl qbl ?_; refine OkO.bin rfl rfl rfl (bin_leq _ _) ?_; refine oM rfl rfl ?_
  refine OkO.split (d := 9) rfl (fun g1 => ?_) (fun g1 => ?_)
  · refine oM rfl rfl ?_
    refine oB rfl rfl rfl qbl ?_; refine OkO.bin rfl rfl rfl (bin_leq _ _) ?_; refine OkO.pick (b := true) rfl rfl (fun _ => rfl) nofun ?_; refine oA rfl rfl ?_; refine oN ?_
    refine Ok.ret ⟨.inr rfl, ?_⟩
    have hz : decide ((ds.length : Int) ≤ 35) = thinB cs ds := by unfold thinB; rw [g1]; rfl
    exact back_flat rfl (congrArg AV.bool hz) rfl (by rw [← hW]; exact (by (try dsimp only); repeat (first | exact hG | apply Grow.new | (refine Grow.put ?_ _ (by first | omega | (simp only [hNw, hPt]; omega))))))
  · refine oK rfl ?_
    refine oK rfl ?_; refine oK rfl ?_; refine OkO.pick (b := false) rfl rfl nofun (fun _ => rfl) ?_; refine oA rfl rfl ?_; refine oN ?_
    refine Ok.ret ⟨.inr rfl, ?_⟩
    have hz : false = thinB cs ds := by unfold thinB; rw [g1]; rfl
    exact back_flat rfl (congrArg AV.bool hz) rfl (by rw [← hW]; exact (by (try dsimp only); repeat (first | exact hG | apply Grow.new | (refine Grow.put ?_ _ (by first | omega | (simp only [hNw, hPt]; omega))))))
theorem c23 (m : Nat) (cv : AV) (cs : List Cell) (g : Gr) (H : Heap) (hR : Row H cv 7 (cs.map Cell.c)) (hbig : cs.length ≤ 1000000) : RR (m + 2) (.fn 23 [.agg [cv, I g.slo, I g.shi, I g.klo, I g.khi, I g.melt]]) H = some (.bool (gOk cs g), H) := by
  refine (R_fn _ _ _ _ _).trans ?_; refine fn_ok Try.func23 rfl rfl (by kernel_rfl) (by kernel_rfl) ?_
  obtain ⟨W, hW, hg, hN, hE, hG⟩ := wOf H
  rw [← hW]
  have hlc : lenOf cv = some cs.length := by simpa using hR.len
  refine kS ?_; refine kR ?_; refine OkO.box rfl rfl ?_; refine oA rfl rfl ?_; refine oN ?_; refine kS ?_; refine kR ?_; refine oF (o := 0) rfl (by kernel_rfl) rfl ?_; refine oL rfl rfl (lda (n := 1) (by kernel_rfl) (by first | assumption | (simp (disch := first | omega | (simp only [hNw, hPt]; omega)) only [gN] <;> first | rfl | assumption)) (by first | rfl | assumption)) ?_; refine oB rfl rfl rfl qbl ?_; refine oA rfl rfl ?_; refine oN ?_; refine kS ?_; refine kS ?_; refine kR ?_; refine oM rfl rfl ?_; refine oV rfl rfl rfl rfl rfl (c37 _ _ _ _ _) ?_; refine OkO.un rfl rfl rfl ?_; refine oM rfl rfl ?_
  refine OkO.split (d := 12) rfl (fun g1 => ?_) (fun g1 => ?_)
  · have k1 : inB (cs.length : Int) 1 8 = false := by simpa using g1
    refine oK rfl ?_; refine oK rfl ?_; refine oK rfl ?_; refine oK rfl ?_; refine OkO.pick (b := true) rfl rfl (fun _ => rfl) nofun ?_; refine oM rfl rfl ?_; refine oK rfl ?_; refine oK rfl ?_; refine oK rfl ?_; refine oK rfl ?_; refine OkO.pick (b := true) rfl rfl (fun _ => rfl) nofun ?_; refine oM rfl rfl ?_; refine oK rfl ?_; refine oK rfl ?_; refine oK rfl ?_; refine oK rfl ?_; refine OkO.pick (b := true) rfl rfl (fun _ => rfl) nofun ?_; refine oN ?_; refine Ok.condT rfl ?_; refine kS ?_; refine kR ?_; refine oA rfl rfl ?_; refine oN ?_
    refine Ok.ret ⟨.inr rfl, ?_⟩
    have hz : gOk cs g = false := by unfold gOk; rw [k1]; simp
    exact back_flat rfl (congrArg AV.bool hz.symm) rfl (by rw [← hW]; exact (by (try dsimp only); repeat (first | exact hG | apply Grow.new | (refine Grow.put ?_ _ (by first | omega | (simp only [hNw, hPt]; omega))))))
  · have k1 : inB (cs.length : Int) 1 8 = true := by simpa using g1
    refine oF (o := 1) rfl (by kernel_rfl) rfl ?_; refine oL rfl rfl (ldg (n := 2) (by kernel_rfl) (by first | assumption | (simp (disch := first | omega | (simp only [hNw, hPt]; omega)) only [gN] <;> first | rfl | assumption)) (by first | rfl | assumption)) ?_; refine oV rfl rfl rfl rfl rfl (c57 _ _ _ _ _) ?_; refine OkO.un rfl rfl rfl ?_; refine OkO.pick (b := false) rfl rfl nofun (fun _ => rfl) ?_; refine oM rfl rfl ?_
    refine OkO.split (d := 18) rfl (fun g2 => ?_) (fun g2 => ?_)
    · have k2 : okR g.slo g.shi 100000 = false := by simpa using g2
      refine oK rfl ?_; refine oK rfl ?_; refine oK rfl ?_; refine oK rfl ?_; refine OkO.pick (b := true) rfl rfl (fun _ => rfl) nofun ?_; refine oM rfl rfl ?_; refine oK rfl ?_; refine oK rfl ?_; refine oK rfl ?_; refine oK rfl ?_; refine OkO.pick (b := true) rfl rfl (fun _ => rfl) nofun ?_; refine oN ?_; refine Ok.condT rfl ?_; refine kS ?_; refine kR ?_; refine oA rfl rfl ?_; refine oN ?_
      refine Ok.ret ⟨.inr rfl, ?_⟩
      have hz : gOk cs g = false := by unfold gOk; rw [k2]; simp
      exact back_flat rfl (congrArg AV.bool hz.symm) rfl (by rw [← hW]; exact (by (try dsimp only); repeat (first | exact hG | apply Grow.new | (refine Grow.put ?_ _ (by first | omega | (simp only [hNw, hPt]; omega))))))
    · have k2 : okR g.slo g.shi 100000 = true := by simpa using g2
      refine oF (o := 3) rfl (by kernel_rfl) rfl ?_; refine oL rfl rfl (ldg (n := 2) (by kernel_rfl) (by first | assumption | (simp (disch := first | omega | (simp only [hNw, hPt]; omega)) only [gN] <;> first | rfl | assumption)) (by first | rfl | assumption)) ?_; refine oV rfl rfl rfl rfl rfl (c57 _ _ _ _ _) ?_; refine OkO.un rfl rfl rfl ?_; refine OkO.pick (b := false) rfl rfl nofun (fun _ => rfl) ?_; refine oM rfl rfl ?_
      refine OkO.split (d := 24) rfl (fun g3 => ?_) (fun g3 => ?_)
      · have k3 : okR g.klo g.khi 1000 = false := by simpa using g3
        refine oK rfl ?_; refine oK rfl ?_; refine oK rfl ?_; refine oK rfl ?_; refine OkO.pick (b := true) rfl rfl (fun _ => rfl) nofun ?_; refine oN ?_; refine Ok.condT rfl ?_; refine kS ?_; refine kR ?_; refine oA rfl rfl ?_; refine oN ?_
        refine Ok.ret ⟨.inr rfl, ?_⟩
        have hz : gOk cs g = false := by unfold gOk; rw [k3]; simp
        exact back_flat rfl (congrArg AV.bool hz.symm) rfl (by rw [← hW]; exact (by (try dsimp only); repeat (first | exact hG | apply Grow.new | (refine Grow.put ?_ _ (by first | omega | (simp only [hNw, hPt]; omega))))))
      · have k3 : okR g.klo g.khi 1000 = true := by simpa using g3
        refine oF (o := 5) rfl (by kernel_rfl) rfl ?_; refine oL rfl rfl (lda (n := 1) (by kernel_rfl) (by first | assumption | (simp (disch := first | omega | (simp only [hNw, hPt]; omega)) only [gN] <;> first | rfl | assumption)) (by first | rfl | assumption)) ?_; refine oV rfl rfl rfl rfl rfl (c37 _ _ _ _ _) ?_; refine OkO.un rfl rfl rfl ?_; refine OkO.pick (b := false) rfl rfl nofun (fun _ => rfl) ?_; refine oN ?_
        refine Ok.cond rfl (fun h4 => ?_) (fun h4 => ?_)
        · have k4 : inB g.melt 0 50 = false := by simpa using h4
          refine kS ?_; refine kR ?_; refine oA rfl rfl ?_; refine oN ?_
          refine Ok.ret ⟨.inr rfl, ?_⟩
          have hz : gOk cs g = false := by unfold gOk; rw [k4]; simp
          exact back_flat rfl (congrArg AV.bool hz.symm) rfl (by rw [← hW]; exact (by (try dsimp only); repeat (first | exact hG | apply Grow.new | (refine Grow.put ?_ _ (by first | omega | (simp only [hNw, hPt]; omega))))))
        · have k4 : inB g.melt 0 50 = true := by simpa using h4
          refine Ok.skip ?_; refine kS ?_; refine kS ?_; refine kR ?_; refine oA rfl rfl ?_; refine oN ?_; refine Ok.block ?_
          refine Ok.loop (fun n s => ∃ i : Nat, n = cs.length - i ∧ i ≤ cs.length ∧ (∀ j, j < i → ∀ c, cs[j]? = some c → c.ok = true ∧ inB c.to (-1) ((cs.length : Int) - 1) = true ∧ c.to ≠ (0 : Int) + j) ∧ Has 7 [(1, .ptr W.next 0), (2, .bool false), (3, I cs.length), (4, I (i : Int))] s.T ∧ s.D = [] ∧ Grow W s.H ∧ s.H.get W.next = some (.cells [cv, I g.slo, I g.shi, I g.klo, I g.khi, I g.melt] 26) ∧ W.next + 1 ≤ s.H.next) (cs.length) (by unfold loopFuel; omega)
            ⟨0, rfl, Nat.zero_le _, nofun, Has.of (by kernel_rfl), rfl, (by (try dsimp only); repeat (first | exact hG | apply Grow.new | (refine Grow.put ?_ _ (by first | omega | (simp only [hNw, hPt]; omega))))), (by simp (disch := first | omega | (simp only [hNw, hPt]; omega)) only [gN] <;> first | rfl | assumption), by simp⟩ ?_
          rintro n ⟨T, D, G⟩ ⟨i, hn, hi, hall, ⟨f, hT⟩, hD, hg, hb1, hb2⟩
          dsimp only at *
          subst hT hD
          have hgn := hg.next
          have hb3 : (G.get W.next).bind AObj.cs = some [cv, I g.slo, I g.shi, I g.klo, I g.khi, I g.melt] := by rw [hb1]; rfl
          refine kS ?_; refine kS ?_; refine kR ?_; refine oM rfl rfl ?_; refine oM rfl rfl ?_; refine OkO.bin rfl rfl rfl (bin_lss _ _) ?_; refine oN ?_
          refine Ok.cond rfl (fun h5 => ?_) (fun h5 => ?_)
          · have hlt : i < cs.length := by simpa using h5
            obtain ⟨bb, off, ccs, i1, i2, i3, i4⟩ := (hR.ext (hE _ hg)).at_ i cs[i].c (by simp [hlt])
            have hne : bb ≠ G.next := by omega
            have hne2 : W.next ≠ G.next := by omega
            refine Ok.skip ?_; refine kS ?_; refine Ok.block ?_; refine kS ?_; refine kR ?_; refine oF (o := 0) rfl (by kernel_rfl) rfl ?_; refine oL rfl rfl (lda (n := 1) (by kernel_rfl) (by first | assumption | (simp (disch := first | omega | (simp only [hNw, hPt]; omega)) only [gN] <;> first | rfl | assumption)) (by first | rfl | assumption)) ?_; refine oM rfl rfl ?_; refine qX (sz := 7) (n := i) rfl rfl rfl ?_; refine oL rfl rfl (ldg (n := 7) (by kernel_rfl) (by first | assumption | (simp (disch := first | omega | (simp only [hNw, hPt]; omega)) only [gN] <;> first | rfl | assumption)) (by first | rfl | assumption)) ?_; refine OkO.alloc (z := [.int .i64 0, .int .i64 0, .int .i64 0, .int .i64 0, .int .i64 0, .int .i64 0, .int .i64 0]) rfl (by kernel_rfl) ?_; refine oT rfl rfl rfl (sAc (n := 7) (ag := true) (by kernel_rfl) (by first | assumption | (simp (disch := first | omega | (simp only [hNw, hPt]; omega)) only [gN] <;> first | rfl | assumption)) rfl rfl (by first | rfl | exact spl_set _ _ _ (by first | assumption | (simp; omega)))) ?_; refine oN ?_; refine kS ?_; refine kR ?_; refine oF (o := 2) rfl (by kernel_rfl) rfl ?_; refine oL rfl rfl (lda (n := 1) (by kernel_rfl) (by first | assumption | (simp (disch := first | omega | (simp only [hNw, hPt]; omega)) only [gN] <;> first | rfl | assumption)) (by first | rfl | assumption)) ?_; refine oV rfl rfl rfl rfl rfl (c37 _ _ _ _ _) ?_; refine OkO.un rfl rfl rfl ?_; refine oM rfl rfl ?_
            refine OkO.split (d := 44) rfl (fun g6 => ?_) (fun g6 => ?_)
            · have m1 : inB cs[i].cap 1 100000 = false := by simpa using g6
              have kbad : (cs.all fun x => x.ok) = false := by rw [List.all_eq_false]; exact ⟨cs[i], List.getElem_mem hlt, by unfold Cell.ok; rw [m1]; simp⟩
              refine oK rfl ?_; refine oK rfl ?_; refine oK rfl ?_; refine oK rfl ?_; refine oK rfl ?_; refine oK rfl ?_; refine OkO.pick (b := true) rfl rfl (fun _ => rfl) nofun ?_; refine oM rfl rfl ?_; refine oK rfl ?_; refine oK rfl ?_; refine oK rfl ?_; refine oK rfl ?_; refine oK rfl ?_; refine oK rfl ?_; refine OkO.pick (b := true) rfl rfl (fun _ => rfl) nofun ?_; refine oM rfl rfl ?_; refine oK rfl ?_; refine oK rfl ?_; refine oK rfl ?_; refine oK rfl ?_; refine OkO.pick (b := true) rfl rfl (fun _ => rfl) nofun ?_; refine oM rfl rfl ?_; refine oK rfl ?_; refine oK rfl ?_; refine oK rfl ?_; refine oK rfl ?_; refine oK rfl ?_; refine oK rfl ?_; refine OkO.pick (b := true) rfl rfl (fun _ => rfl) nofun ?_; refine oM rfl rfl ?_; refine oK rfl ?_; refine oK rfl ?_; refine oK rfl ?_; refine oK rfl ?_; refine OkO.pick (b := true) rfl rfl (fun _ => rfl) nofun ?_; refine oM rfl rfl ?_; refine oK rfl ?_; refine oK rfl ?_; refine oK rfl ?_; refine oK rfl ?_; refine OkO.pick (b := true) rfl rfl (fun _ => rfl) nofun ?_; refine oN ?_; refine Ok.condT rfl ?_; refine kS ?_; refine kR ?_; refine oA rfl rfl ?_; refine oN ?_
              refine Ok.ret ⟨.inr rfl, ?_⟩
              have hz : gOk cs g = false := by unfold gOk; rw [kbad]; simp
              exact back_flat rfl (congrArg AV.bool hz.symm) rfl (by rw [← hW]; exact (by (try dsimp only); repeat (first | (first | exact hg | exact hG) | apply Grow.new | (refine Grow.put ?_ _ (by first | omega | (simp only [hNw, hPt]; omega))))))
            · refine oF (o := 0) rfl (by kernel_rfl) rfl ?_
              refine oL rfl rfl (ldg (n := 2) (by kernel_rfl) (by first | assumption | (simp (disch := first | omega | (simp only [hNw, hPt]; omega)) only [gN] <;> first | rfl | assumption)) (by first | rfl | assumption)) ?_; refine oF (o := 2) rfl (by kernel_rfl) rfl ?_; refine oL rfl rfl (lda (n := 1) (by kernel_rfl) (by first | assumption | (simp (disch := first | omega | (simp only [hNw, hPt]; omega)) only [gN] <;> first | rfl | assumption)) (by first | rfl | assumption)) ?_; refine oV rfl rfl rfl rfl rfl (c57 _ _ _ _ _) ?_; refine OkO.un rfl rfl rfl ?_; refine OkO.pick (b := false) rfl rfl nofun (fun _ => rfl) ?_; refine oM rfl rfl ?_
              refine OkO.split (d := 52) rfl (fun g7 => ?_) (fun g7 => ?_)
              · have m2 : okR cs[i].lo cs[i].hi cs[i].cap = false := by simpa using g7
                have kbad : (cs.all fun x => x.ok) = false := by rw [List.all_eq_false]; exact ⟨cs[i], List.getElem_mem hlt, by unfold Cell.ok; rw [m2]; simp⟩
                refine oK rfl ?_; refine oK rfl ?_; refine oK rfl ?_; refine oK rfl ?_; refine oK rfl ?_; refine oK rfl ?_; refine OkO.pick (b := true) rfl rfl (fun _ => rfl) nofun ?_; refine oM rfl rfl ?_; refine oK rfl ?_; refine oK rfl ?_; refine oK rfl ?_; refine oK rfl ?_; refine OkO.pick (b := true) rfl rfl (fun _ => rfl) nofun ?_; refine oM rfl rfl ?_; refine oK rfl ?_; refine oK rfl ?_; refine oK rfl ?_; refine oK rfl ?_; refine oK rfl ?_; refine oK rfl ?_; refine OkO.pick (b := true) rfl rfl (fun _ => rfl) nofun ?_; refine oM rfl rfl ?_; refine oK rfl ?_; refine oK rfl ?_; refine oK rfl ?_; refine oK rfl ?_; refine OkO.pick (b := true) rfl rfl (fun _ => rfl) nofun ?_; refine oM rfl rfl ?_; refine oK rfl ?_; refine oK rfl ?_; refine oK rfl ?_; refine oK rfl ?_; refine OkO.pick (b := true) rfl rfl (fun _ => rfl) nofun ?_; refine oN ?_; refine Ok.condT rfl ?_; refine kS ?_; refine kR ?_; refine oA rfl rfl ?_; refine oN ?_
                refine Ok.ret ⟨.inr rfl, ?_⟩
                have hz : gOk cs g = false := by unfold gOk; rw [kbad]; simp
                exact back_flat rfl (congrArg AV.bool hz.symm) rfl (by rw [← hW]; exact (by (try dsimp only); repeat (first | (first | exact hg | exact hG) | apply Grow.new | (refine Grow.put ?_ _ (by first | omega | (simp only [hNw, hPt]; omega))))))
              · refine oF (o := 3) rfl (by kernel_rfl) rfl ?_
                refine oL rfl rfl (lda (n := 1) (by kernel_rfl) (by first | assumption | (simp (disch := first | omega | (simp only [hNw, hPt]; omega)) only [gN] <;> first | rfl | assumption)) (by first | rfl | assumption)) ?_; refine oF (o := 2) rfl (by kernel_rfl) rfl ?_; refine oL rfl rfl (lda (n := 1) (by kernel_rfl) (by first | assumption | (simp (disch := first | omega | (simp only [hNw, hPt]; omega)) only [gN] <;> first | rfl | assumption)) (by first | rfl | assumption)) ?_; refine oV rfl rfl rfl rfl rfl (c37 _ _ _ _ _) ?_; refine OkO.un rfl rfl rfl ?_; refine OkO.pick (b := false) rfl rfl nofun (fun _ => rfl) ?_; refine oM rfl rfl ?_
                refine OkO.split (d := 60) rfl (fun g8 => ?_) (fun g8 => ?_)
                · have m3 : inB cs[i].keep 0 cs[i].cap = false := by simpa using g8
                  have kbad : (cs.all fun x => x.ok) = false := by rw [List.all_eq_false]; exact ⟨cs[i], List.getElem_mem hlt, by unfold Cell.ok; rw [m3]; simp⟩
                  refine oK rfl ?_; refine oK rfl ?_; refine oK rfl ?_; refine oK rfl ?_; refine OkO.pick (b := true) rfl rfl (fun _ => rfl) nofun ?_; refine oM rfl rfl ?_; refine oK rfl ?_; refine oK rfl ?_; refine oK rfl ?_; refine oK rfl ?_; refine oK rfl ?_; refine oK rfl ?_; refine OkO.pick (b := true) rfl rfl (fun _ => rfl) nofun ?_; refine oM rfl rfl ?_; refine oK rfl ?_; refine oK rfl ?_; refine oK rfl ?_; refine oK rfl ?_; refine OkO.pick (b := true) rfl rfl (fun _ => rfl) nofun ?_; refine oM rfl rfl ?_; refine oK rfl ?_; refine oK rfl ?_; refine oK rfl ?_; refine oK rfl ?_; refine OkO.pick (b := true) rfl rfl (fun _ => rfl) nofun ?_; refine oN ?_; refine Ok.condT rfl ?_; refine kS ?_; refine kR ?_; refine oA rfl rfl ?_; refine oN ?_
                  refine Ok.ret ⟨.inr rfl, ?_⟩
                  have hz : gOk cs g = false := by unfold gOk; rw [kbad]; simp
                  exact back_flat rfl (congrArg AV.bool hz.symm) rfl (by rw [← hW]; exact (by (try dsimp only); repeat (first | (first | exact hg | exact hG) | apply Grow.new | (refine Grow.put ?_ _ (by first | omega | (simp only [hNw, hPt]; omega))))))
                · refine oF (o := 4) rfl (by kernel_rfl) rfl ?_
                  refine oL rfl rfl (lda (n := 1) (by kernel_rfl) (by first | assumption | (simp (disch := first | omega | (simp only [hNw, hPt]; omega)) only [gN] <;> first | rfl | assumption)) (by first | rfl | assumption)) ?_; refine oV rfl rfl rfl rfl rfl (c37 _ _ _ _ _) ?_; refine OkO.un rfl rfl rfl ?_; refine OkO.pick (b := false) rfl rfl nofun (fun _ => rfl) ?_; refine oM rfl rfl ?_
                  refine OkO.split (d := 66) rfl (fun g9 => ?_) (fun g9 => ?_)
                  · have m4 : inB cs[i].pass 0 1000 = false := by simpa using g9
                    have kbad : (cs.all fun x => x.ok) = false := by rw [List.all_eq_false]; exact ⟨cs[i], List.getElem_mem hlt, by unfold Cell.ok; rw [m4]; simp⟩
                    refine oK rfl ?_; refine oK rfl ?_; refine oK rfl ?_; refine oK rfl ?_; refine oK rfl ?_; refine oK rfl ?_; refine OkO.pick (b := true) rfl rfl (fun _ => rfl) nofun ?_; refine oM rfl rfl ?_; refine oK rfl ?_; refine oK rfl ?_; refine oK rfl ?_; refine oK rfl ?_; refine OkO.pick (b := true) rfl rfl (fun _ => rfl) nofun ?_; refine oM rfl rfl ?_; refine oK rfl ?_; refine oK rfl ?_; refine oK rfl ?_; refine oK rfl ?_; refine OkO.pick (b := true) rfl rfl (fun _ => rfl) nofun ?_; refine oN ?_; refine Ok.condT rfl ?_; refine kS ?_; refine kR ?_; refine oA rfl rfl ?_; refine oN ?_
                    refine Ok.ret ⟨.inr rfl, ?_⟩
                    have hz : gOk cs g = false := by unfold gOk; rw [kbad]; simp
                    exact back_flat rfl (congrArg AV.bool hz.symm) rfl (by rw [← hW]; exact (by (try dsimp only); repeat (first | (first | exact hg | exact hG) | apply Grow.new | (refine Grow.put ?_ _ (by first | omega | (simp only [hNw, hPt]; omega))))))
                  · refine oF (o := 5) rfl (by kernel_rfl) rfl ?_
                    refine oL rfl rfl (lda (n := 1) (by kernel_rfl) (by first | assumption | (simp (disch := first | omega | (simp only [hNw, hPt]; omega)) only [gN] <;> first | rfl | assumption)) (by first | rfl | assumption)) ?_; refine oM rfl rfl ?_; refine OkO.bin rfl rfl rfl (bin_sub (by omega) (by omega)) ?_; refine oV rfl rfl rfl rfl rfl (c37 _ _ _ _ _) ?_; refine OkO.un rfl rfl rfl ?_; refine OkO.pick (b := false) rfl rfl nofun (fun _ => rfl) ?_; refine oM rfl rfl ?_
                    refine OkO.split (d := 74) rfl (fun g10 => ?_) (fun g10 => ?_)
                    · have kto : inB cs[i].to (-1) ((cs.length : Int) - 1) = false ∨ cs[i].to = (i : Int) := .inl (by simpa using g10)
                      refine oK rfl ?_; refine oK rfl ?_; refine oK rfl ?_; refine oK rfl ?_; refine OkO.pick (b := true) rfl rfl (fun _ => rfl) nofun ?_; refine oM rfl rfl ?_; refine oK rfl ?_; refine oK rfl ?_; refine oK rfl ?_; refine oK rfl ?_; refine OkO.pick (b := true) rfl rfl (fun _ => rfl) nofun ?_; refine oN ?_; refine Ok.condT rfl ?_; refine kS ?_; refine kR ?_; refine oA rfl rfl ?_; refine oN ?_
                      refine Ok.ret ⟨.inr rfl, ?_⟩
                      have hz : gOk cs g = false := by unfold gOk; rw [toOk_no (List.getElem?_eq_getElem hlt) kto]; simp
                      exact back_flat rfl (congrArg AV.bool hz.symm) rfl (by rw [← hW]; exact (by (try dsimp only); repeat (first | (first | exact hg | exact hG) | apply Grow.new | (refine Grow.put ?_ _ (by first | omega | (simp only [hNw, hPt]; omega))))))
                    · refine oF (o := 5) rfl (by kernel_rfl) rfl ?_
                      refine oL rfl rfl (lda (n := 1) (by kernel_rfl) (by first | assumption | (simp (disch := first | omega | (simp only [hNw, hPt]; omega)) only [gN] <;> first | rfl | assumption)) (by first | rfl | assumption)) ?_; refine oM rfl rfl ?_; refine OkO.bin rfl rfl rfl (bin_eql _ _) ?_; refine OkO.pick (b := false) rfl rfl nofun (fun _ => rfl) ?_; refine oM rfl rfl ?_
                      refine OkO.split (d := 80) rfl (fun g11 => ?_) (fun g11 => ?_)
                      · have kto : inB cs[i].to (-1) ((cs.length : Int) - 1) = false ∨ cs[i].to = (i : Int) := .inr (by simpa using g11)
                        refine oK rfl ?_; refine oK rfl ?_; refine oK rfl ?_; refine oK rfl ?_; refine OkO.pick (b := true) rfl rfl (fun _ => rfl) nofun ?_; refine oN ?_; refine Ok.condT rfl ?_; refine kS ?_; refine kR ?_; refine oA rfl rfl ?_; refine oN ?_
                        refine Ok.ret ⟨.inr rfl, ?_⟩
                        have hz : gOk cs g = false := by unfold gOk; rw [toOk_no (List.getElem?_eq_getElem hlt) kto]; simp
                        exact back_flat rfl (congrArg AV.bool hz.symm) rfl (by rw [← hW]; exact (by (try dsimp only); repeat (first | (first | exact hg | exact hG) | apply Grow.new | (refine Grow.put ?_ _ (by first | omega | (simp only [hNw, hPt]; omega))))))
                      · refine oF (o := 6) rfl (by kernel_rfl) rfl ?_
                        refine oL rfl rfl (lda (n := 1) (by kernel_rfl) (by first | assumption | (simp (disch := first | omega | (simp only [hNw, hPt]; omega)) only [gN] <;> first | rfl | assumption)) (by first | rfl | assumption)) ?_; refine oV rfl rfl rfl rfl rfl (c37 _ _ _ _ _) ?_; refine OkO.un rfl rfl rfl ?_; refine OkO.pick (b := false) rfl rfl nofun (fun _ => rfl) ?_; refine oN ?_
                        refine Ok.cond rfl (fun h12 => ?_) (fun h12 => ?_)
                        · have m5 : inB cs[i].pump 0 100000 = false := by simpa using h12
                          have kbad : (cs.all fun x => x.ok) = false := by rw [List.all_eq_false]; exact ⟨cs[i], List.getElem_mem hlt, by unfold Cell.ok; rw [m5]; simp⟩
                          refine kS ?_; refine kR ?_; refine oA rfl rfl ?_; refine oN ?_
                          refine Ok.ret ⟨.inr rfl, ?_⟩
                          have hz : gOk cs g = false := by unfold gOk; rw [kbad]; simp
                          exact back_flat rfl (congrArg AV.bool hz.symm) rfl (by rw [← hW]; exact (by (try dsimp only); repeat (first | (first | exact hg | exact hG) | apply Grow.new | (refine Grow.put ?_ _ (by first | omega | (simp only [hNw, hPt]; omega))))))
                        · have hok : cs[i].ok = true ∧ inB cs[i].to (-1) ((cs.length : Int) - 1) = true ∧ cs[i].to ≠ (0 : Int) + i := ⟨by unfold Cell.ok; rw [show inB cs[i].cap 1 100000 = true from by simpa using g6, show okR cs[i].lo cs[i].hi cs[i].cap = true from by simpa using g7, show inB cs[i].keep 0 cs[i].cap = true from by simpa using g8, show inB cs[i].pass 0 1000 = true from by simpa using g9, show inB cs[i].pump 0 100000 = true from by simpa using h12]; rfl, by simpa using g10, by (have e9 : ¬cs[i].to = (i : Int) := by simpa using g11); omega⟩
                          refine Ok.skip ?_; refine kR ?_; refine oM rfl rfl ?_; refine OkO.bin rfl rfl rfl (bin_add (by omega) (by omega)) ?_; refine oA rfl rfl ?_; refine oN ?_
                          refine ⟨cs.length - (i + 1), by omega, i + 1, rfl, hlt, fun j hj c hc => ?_, Has.of (by kernel_rfl), rfl, (by (try dsimp only); repeat (first | (first | exact hg | exact hG) | apply Grow.new | (refine Grow.put ?_ _ (by first | omega | (simp only [hNw, hPt]; omega))))), (by simp (disch := first | omega | (simp only [hNw, hPt]; omega)) only [gN] <;> first | rfl | assumption), by simp only [hNw, hPt]; omega⟩
                          by_cases e : j = i
                          · subst e; rw [List.getElem?_eq_getElem hlt] at hc; cases hc; exact hok
                          · exact hall j (by omega) c hc
          · have hge : i = cs.length := by simp at h5; omega
            have k6 : toOk (cs.length : Int) 0 cs = true := (toOk_iff _ _ _).2 fun j c hc => (hall j (by have := (List.getElem?_eq_some_iff.1 hc).1; omega) c hc).2
            have k5 : (cs.all fun x => x.ok) = true := by rw [List.all_eq_true]; intro x hx; obtain ⟨j, hj, rfl⟩ := List.mem_iff_getElem.1 hx; exact (hall j (by omega) _ (List.getElem?_eq_getElem hj)).1
            refine Ok.exit ?_; refine kS ?_; refine kR ?_; refine oA rfl rfl ?_; refine oN ?_
            refine Ok.ret ⟨.inr rfl, ?_⟩
            have hz : true = gOk cs g := by unfold gOk; rw [k1, k2, k3, k4, k5, k6]; rfl
            exact back_flat rfl (congrArg AV.bool hz) rfl (by rw [← hW]; exact (by (try dsimp only); repeat (first | (first | exact hg | exact hG) | apply Grow.new | (refine Grow.put ?_ _ (by first | omega | (simp only [hNw, hPt]; omega))))))
theorem c58 (m : Nat) (cv dv : AV) (cs : List Cell) (g : Gr) (ds : List Day) (H : Heap) (hR : Row H cv 7 (cs.map Cell.c)) (hbig : cs.length ≤ 1000000) (hY : Row H dv 3 (ds.map Day.c)) (hbd : ds.length ≤ 1000000) : RR (m + 3) (.fn 58 [.agg [cv, I g.slo, I g.shi, I g.klo, I g.khi, I g.melt], dv]) H = some (I (daysErr cs g ds), H) := by
  refine (R_fn _ _ _ _ _).trans ?_; refine fn_ok Try.func58 rfl rfl (by kernel_rfl) (by kernel_rfl) ?_
  obtain ⟨W, hW, hg, hN, hE, hG⟩ := wOf H
  rw [← hW]
  have hld : lenOf dv = some ds.length := by simpa using hY.len
  refine kS ?_; refine kR ?_; refine OkO.box rfl rfl ?_; refine oA rfl rfl ?_; refine oN ?_; refine kS ?_; refine kS ?_; refine kR ?_; refine oL rfl rfl (ldg (n := 6) (by kernel_rfl) (by first | assumption | (simp (disch := first | omega | (simp only [hNw, hPt]; omega)) only [gN] <;> first | rfl | assumption)) (by first | rfl | assumption)) ?_; refine oV rfl rfl rfl rfl rfl (c23 m cv cs g _ (hR.ext (hE _ (by (try dsimp only); repeat (first | exact hG | apply Grow.new | (refine Grow.put ?_ _ (by first | omega | (simp only [hNw, hPt]; omega))))))) hbig) ?_; refine OkO.un rfl rfl rfl ?_; refine oN ?_
  refine Ok.cond rfl (fun h1 => ?_) (fun h1 => ?_)
  · have hf : gOk cs g = false := by simpa using h1
    refine kS ?_; refine kR ?_; refine oA rfl rfl ?_; refine oN ?_
    refine Ok.ret ⟨.inr rfl, ?_⟩
    exact back_flat rfl (by unfold daysErr; rw [hf]; rfl) rfl (by rw [← hW]; exact (by (try dsimp only); repeat (first | exact hG | apply Grow.new | (refine Grow.put ?_ _ (by first | omega | (simp only [hNw, hPt]; omega))))))
  · have hf : gOk cs g = true := by simpa using h1
    refine Ok.skip ?_; refine kS ?_; refine kS ?_; refine kR ?_; refine oM rfl rfl ?_; refine oB rfl rfl rfl qbl ?_; refine OkO.bin rfl rfl rfl (bin_gtr _ _) ?_; refine oN ?_
    refine Ok.cond rfl (fun h2 => ?_) (fun h2 => ?_)
    · have h3 : (30 : Int) < (ds.length : Int) := by simpa using h2
      refine kS ?_; refine kR ?_; refine oA rfl rfl ?_; refine oN ?_
      refine Ok.ret ⟨.inr rfl, ?_⟩
      exact back_flat rfl (by unfold daysErr; rw [if_pos hf, if_pos h3]; rfl) rfl (by rw [← hW]; exact (by (try dsimp only); repeat (first | exact hG | apply Grow.new | (refine Grow.put ?_ _ (by first | omega | (simp only [hNw, hPt]; omega))))))
    · have h4 : ¬(30 : Int) < (ds.length : Int) := by simpa using h2
      refine Ok.skip ?_; refine kS ?_; refine kS ?_; refine kR ?_; refine oA rfl rfl ?_; refine oN ?_; refine Ok.block ?_
      refine Ok.loop (fun n s => ∃ i : Nat, n = ds.length - i ∧ i ≤ ds.length ∧ (∀ j, j < i → ∀ c, ds[j]? = some c → c.ok = true) ∧ Has 6 [(1, dv), (4, I 0), (5, I (i : Int))] s.T ∧ s.D = [] ∧ Grow W s.H) (ds.length) (by unfold loopFuel; omega)
        ⟨0, rfl, Nat.zero_le _, nofun, Has.of (by kernel_rfl), rfl, (by (try dsimp only); repeat (first | exact hG | apply Grow.new | (refine Grow.put ?_ _ (by first | omega | (simp only [hNw, hPt]; omega)))))⟩ ?_
      rintro n ⟨T, D, G⟩ ⟨i, hn, hi, hall, ⟨f, hT⟩, hD, hg⟩
      dsimp only at *
      subst hT hD
      have hgn := hg.next
      refine kS ?_; refine kS ?_; refine kR ?_; refine oM rfl rfl ?_; refine oM rfl rfl ?_; refine oB rfl rfl rfl qbl ?_; refine OkO.bin rfl rfl rfl (bin_lss _ _) ?_; refine oN ?_
      refine Ok.cond rfl (fun h3 => ?_) (fun h3 => ?_)
      · have hlt : i < ds.length := by simpa using h3
        obtain ⟨bb, off, ccs, i1, i2, i3, i4⟩ := (hY.ext (hE _ hg)).at_ i ds[i].c (by simp [hlt])
        have i5 : seg ccs (off + 0) 2 = some [I ds[i].lo, I ds[i].hi] := seg_sub i3 0 2 (by omega) (by omega)
        have i6 : ccs[off + 2]? = some (I ds[i].warm) := seg_get i3 2 (by omega)
        refine Ok.skip ?_; refine kS ?_; refine Ok.block ?_; refine kS ?_; refine kR ?_; refine oM rfl rfl ?_; refine oM rfl rfl ?_; refine qX (sz := 3) (n := i) rfl rfl rfl ?_; refine oF (o := 0) rfl (by kernel_rfl) rfl ?_; refine oL rfl rfl (ldg (n := 2) (by kernel_rfl) (by first | assumption | (simp (disch := first | omega | (simp only [hNw, hPt]; omega)) only [gN] <;> first | rfl | assumption)) (by first | rfl | assumption)) ?_; refine oV rfl rfl rfl rfl rfl (c57 _ _ _ _ _) ?_; refine OkO.un rfl rfl rfl ?_; refine oM rfl rfl ?_
        refine OkO.split (d := 25) rfl (fun g4 => ?_) (fun g4 => ?_)
        · have m1 : okR ds[i].lo ds[i].hi 1000 = false := by simpa using g4
          have kbad : (ds.all fun x => x.ok) = false := by rw [List.all_eq_false]; exact ⟨ds[i], List.getElem_mem hlt, by unfold Day.ok; rw [m1]; simp⟩
          refine oK rfl ?_; refine oK rfl ?_; refine oK rfl ?_; refine oK rfl ?_; refine oK rfl ?_; refine oK rfl ?_; refine oK rfl ?_; refine OkO.pick (b := true) rfl rfl (fun _ => rfl) nofun ?_; refine oN ?_; refine Ok.condT rfl ?_; refine kS ?_; refine kR ?_; refine oA rfl rfl ?_; refine oN ?_
          refine Ok.ret ⟨.inr rfl, ?_⟩
          exact back_flat rfl (by unfold daysErr; rw [if_pos hf, if_neg h4, kbad]; rfl) rfl (by rw [← hW]; exact (by (try dsimp only); repeat (first | (first | exact hg | exact hG) | apply Grow.new | (refine Grow.put ?_ _ (by first | omega | (simp only [hNw, hPt]; omega))))))
        · refine oM rfl rfl ?_
          refine oM rfl rfl ?_; refine qX (sz := 3) (n := i) rfl rfl rfl ?_; refine oF (o := 2) rfl (by kernel_rfl) rfl ?_; refine oL rfl rfl (lda (n := 1) (by kernel_rfl) (by first | assumption | (simp (disch := first | omega | (simp only [hNw, hPt]; omega)) only [gN] <;> first | rfl | assumption)) (by first | rfl | assumption)) ?_; refine oV rfl rfl rfl rfl rfl (c37 _ _ _ _ _) ?_; refine OkO.un rfl rfl rfl ?_; refine OkO.pick (b := false) rfl rfl nofun (fun _ => rfl) ?_; refine oN ?_
          refine Ok.cond rfl (fun h5 => ?_) (fun h5 => ?_)
          · have m2 : inB ds[i].warm (-50) 50 = false := by simpa using h5
            have kbad : (ds.all fun x => x.ok) = false := by rw [List.all_eq_false]; exact ⟨ds[i], List.getElem_mem hlt, by unfold Day.ok; rw [m2]; simp⟩
            refine kS ?_; refine kR ?_; refine oA rfl rfl ?_; refine oN ?_
            refine Ok.ret ⟨.inr rfl, ?_⟩
            exact back_flat rfl (by unfold daysErr; rw [if_pos hf, if_neg h4, kbad]; rfl) rfl (by rw [← hW]; exact (by (try dsimp only); repeat (first | (first | exact hg | exact hG) | apply Grow.new | (refine Grow.put ?_ _ (by first | omega | (simp only [hNw, hPt]; omega))))))
          · have hok : ds[i].ok = true := by unfold Day.ok; rw [show okR ds[i].lo ds[i].hi 1000 = true from by simpa using g4, show inB ds[i].warm (-50) 50 = true from by simpa using h5]; rfl
            refine Ok.skip ?_; refine kR ?_; refine oM rfl rfl ?_; refine OkO.bin rfl rfl rfl (bin_add (by omega) (by omega)) ?_; refine oA rfl rfl ?_; refine oN ?_
            refine ⟨ds.length - (i + 1), by omega, i + 1, rfl, hlt, fun j hj c hc => ?_, Has.of (by kernel_rfl), rfl, (by (try dsimp only); repeat (first | (first | exact hg | exact hG) | apply Grow.new | (refine Grow.put ?_ _ (by first | omega | (simp only [hNw, hPt]; omega)))))⟩
            by_cases e : j = i
            · subst e; rw [List.getElem?_eq_getElem hlt] at hc; cases hc; exact hok
            · exact hall j (by omega) c hc
      · have hge : i = ds.length := by simp at h3; omega
        have k5 : (ds.all fun x => x.ok) = true := by rw [List.all_eq_true]; intro x hx; obtain ⟨j, hj, rfl⟩ := List.mem_iff_getElem.1 hx; exact hall j (by omega) _ (List.getElem?_eq_getElem hj)
        refine Ok.exit ?_; refine kS ?_; refine kR ?_; refine oA rfl rfl ?_; refine oN ?_
        refine Ok.ret ⟨.inr rfl, ?_⟩
        exact back_flat rfl (by unfold daysErr; rw [if_pos hf, if_neg h4, if_pos k5]; rfl) rfl (by rw [← hW]; exact (by (try dsimp only); repeat (first | (first | exact hg | exact hG) | apply Grow.new | (refine Grow.put ?_ _ (by first | omega | (simp only [hNw, hPt]; omega))))))
theorem c24 (m : Nat) (cv dv : AV) (cs : List Cell) (g : Gr) (ds : List Day) (H : Heap) (hR : Row H cv 7 (cs.map Cell.c)) (hbig : cs.length ≤ 1000000) (hD : Row H dv 3 (ds.map Day.c)) (hbd : ds.length ≤ 1000000) : RR (m + 4) (.fn 24 [.agg [cv, I g.slo, I g.shi, I g.klo, I g.khi, I g.melt], dv]) H = some (I (daysErr cs g ds), H) := by
  refine (R_fn _ _ _ _ _).trans ?_; refine fn_ok Try.func24 rfl rfl (by kernel_rfl) (by kernel_rfl) ?_
  obtain ⟨W, hW, hg, hN, hE, hG⟩ := wOf H
  rw [← hW]
  have hld : lenOf dv = some ds.length := by simpa using hD.len
  refine kS ?_; refine kR ?_; refine OkO.box rfl rfl ?_; refine oA rfl rfl ?_; refine oN ?_; refine kS ?_; refine kR ?_; refine oL rfl rfl (ldg (n := 6) (by kernel_rfl) (by first | assumption | (simp (disch := first | omega | (simp only [hNw, hPt]; omega)) only [gN] <;> first | rfl | assumption)) (by first | rfl | assumption)) ?_; refine oM rfl rfl ?_; refine oV rfl rfl rfl rfl rfl (c58 m cv dv cs g ds _ (hR.ext (hE _ (by (try dsimp only); repeat (first | exact hG | apply Grow.new | (refine Grow.put ?_ _ (by first | omega | (simp only [hNw, hPt]; omega))))))) hbig (hD.ext (hE _ (by (try dsimp only); repeat (first | exact hG | apply Grow.new | (refine Grow.put ?_ _ (by first | omega | (simp only [hNw, hPt]; omega))))))) hbd) ?_; refine oA rfl rfl ?_; refine oN ?_
  refine Ok.ret ⟨.inr rfl, ?_⟩
  exact back_flat rfl (rfl) rfl (by rw [← hW]; exact (by (try dsimp only); repeat (first | exact hG | apply Grow.new | (refine Grow.put ?_ _ (by first | omega | (simp only [hNw, hPt]; omega))))))
end
end Go.Ev

set_option maxRecDepth 100000
set_option linter.unusedSimpArgs false
set_option linter.unusedVariables false
namespace Go.Ev
open Go Go.Proofs
noncomputable section
theorem flatA {a : AV} {l : List AV} (h : (AV.agg (a :: l)).flat = true) : a.flat = true := by
  rw [AV.flat, AV.flats] at h
  cases hq : a.flat with
  | true => rfl
  | false => rw [hq] at h; cases h
theorem c19 (m : Nat) (cv : AV) (cs : List Cell) (g : Gr) (H : Heap) (hR : Row H cv 7 (cs.map Cell.c)) (hbig : cs.length ≤ 1000) : ∃ v H', RR (m + 2) (.fn 19 [.agg [cv, I g.slo, I g.shi, I g.klo, I g.khi, I g.melt]]) H = some (v, H') ∧ ∃ cv', v = .agg [cv', I g.slo, I g.shi, I g.klo, I g.khi, I g.melt] ∧ Ret H H' ∧ Row H' cv' 7 (cs.map Cell.c) ∧ cv'.atom = true := by
  show ∃ v H', evFn Try.prog (RR (m + 1)) 19 [.agg [cv, I g.slo, I g.shi, I g.klo, I g.khi, I g.melt]] H = some (v, H') ∧ ∃ cv', v = .agg [cv', I g.slo, I g.shi, I g.klo, I g.khi, I g.melt] ∧ Ret H H' ∧ Row H' cv' 7 (cs.map Cell.c) ∧ cv'.atom = true
  refine fn_okE Try.func19 rfl rfl (by kernel_rfl) (by kernel_rfl) ?_
  obtain ⟨W, hW, hg, hN, hE, hG⟩ := wOf H
  rw [← hW]
  have hlc : lenOf cv = some cs.length := by simpa using hR.len
  refine kS ?_; refine kR ?_; refine OkO.box rfl rfl ?_; refine OkO.alloc (z := [.nils, .int .i64 0, .int .i64 0, .int .i64 0, .int .i64 0, .int .i64 0]) rfl (by kernel_rfl) ?_; refine oN ?_; refine kS ?_; refine Ok.drawn [(0, true, []), (1, true, []), (3, true, []), (4, true, []), (6, true, []), (7, true, []), (9, true, [7, 4, 1]), (2, false, [7, 4]), (5, false, [7, 1]), (8, true, []), (10, false, [])] (by kernel_rfl) ?_; refine pS ?_; refine oF (o := 1) rfl (by kernel_rfl) rfl ?_; refine oN ⟨rfl, ?_⟩; refine pS ?_; refine oL rfl rfl (ldg (n := 2) (by kernel_rfl) (by first | assumption | (simp (disch := first | omega | (simp only [hNw, hPt]; omega)) only [gN] <;> first | rfl | assumption)) (by first | rfl | assumption)) ?_; refine oN ⟨rfl, ?_⟩; refine pS ?_; refine oF (o := 3) rfl (by kernel_rfl) rfl ?_; refine oN ⟨rfl, ?_⟩; refine pS ?_; refine oL rfl rfl (ldg (n := 2) (by kernel_rfl) (by first | assumption | (simp (disch := first | omega | (simp only [hNw, hPt]; omega)) only [gN] <;> first | rfl | assumption)) (by first | rfl | assumption)) ?_; refine oN ⟨rfl, ?_⟩; refine pS ?_; refine oF (o := 5) rfl (by kernel_rfl) rfl ?_; refine oN ⟨rfl, ?_⟩; refine pS ?_; refine oL rfl rfl (lda (n := 1) (by kernel_rfl) (by first | assumption | (simp (disch := first | omega | (simp only [hNw, hPt]; omega)) only [gN] <;> first | rfl | assumption)) (by first | rfl | assumption)) ?_; refine oN ⟨rfl, ?_⟩; refine pS ?_; refine OkO.alloc (z := [.nils, .int .i64 0, .int .i64 0, .int .i64 0, .int .i64 0, .int .i64 0]) rfl (by kernel_rfl) ?_
  refine oN ⟨(sco (sld rfl rfl (lda (n := 1) (by kernel_rfl) (by first | assumption | (simp (disch := first | omega | (simp only [hNw, hPt]; omega)) only [gN] <;> first | rfl | assumption)) (by first | rfl | assumption)) rfl (eqr _ (by first | rfl | exact lpl (by assumption) | (simp [AV.plain, AV.plains, AV.plain])))) (sco (sld rfl rfl (ldg (n := 2) (by kernel_rfl) (by first | assumption | (simp (disch := first | omega | (simp only [hNw, hPt]; omega)) only [gN] <;> first | rfl | assumption)) (by first | rfl | assumption)) rfl (eqr _ (by first | rfl | exact lpl (by assumption) | (simp [AV.plain, AV.plains, AV.plain])))) (sco (sld rfl rfl (ldg (n := 2) (by kernel_rfl) (by first | assumption | (simp (disch := first | omega | (simp only [hNw, hPt]; omega)) only [gN] <;> first | rfl | assumption)) (by first | rfl | assumption)) rfl (eqr _ (by first | rfl | exact lpl (by assumption) | (simp [AV.plain, AV.plains, AV.plain])))) rfl))), ?_⟩; refine pS ?_; refine oV rfl rfl rfl rfl rfl (c52 _ _ _ _) ?_
  refine oN ⟨(sco (sld rfl rfl (lda (n := 1) (by kernel_rfl) (by first | assumption | (simp (disch := first | omega | (simp only [hNw, hPt]; omega)) only [gN] <;> first | rfl | assumption)) (by first | rfl | assumption)) rfl (eqr _ (by first | rfl | exact lpl (by assumption) | (simp [AV.plain, AV.plains, AV.plain])))) (sco (sld rfl rfl (ldg (n := 2) (by kernel_rfl) (by first | assumption | (simp (disch := first | omega | (simp only [hNw, hPt]; omega)) only [gN] <;> first | rfl | assumption)) (by first | rfl | assumption)) rfl (eqr _ (by first | rfl | exact lpl (by assumption) | (simp [AV.plain, AV.plains, AV.plain])))) rfl)), ?_⟩; refine pS ?_; refine oV rfl rfl rfl rfl rfl (c52 _ _ _ _) ?_
  refine oN ⟨(sco (sld rfl rfl (lda (n := 1) (by kernel_rfl) (by first | assumption | (simp (disch := first | omega | (simp only [hNw, hPt]; omega)) only [gN] <;> first | rfl | assumption)) (by first | rfl | assumption)) rfl (eqr _ (by first | rfl | exact lpl (by assumption) | (simp [AV.plain, AV.plains, AV.plain])))) (sco (sld rfl rfl (ldg (n := 2) (by kernel_rfl) (by first | assumption | (simp (disch := first | omega | (simp only [hNw, hPt]; omega)) only [gN] <;> first | rfl | assumption)) (by first | rfl | assumption)) rfl (eqr _ (by first | rfl | exact lpl (by assumption) | (simp [AV.plain, AV.plains, AV.plain])))) rfl)), ?_⟩; refine pS ?_; refine OkO.build (z := [.nils, .int .i64 0, .int .i64 0, .int .i64 0, .int .i64 0, .int .i64 0]) (pl := [(0, 1), (1, 2), (3, 2), (5, 1)]) rfl (by kernel_rfl) rfl rfl ?_; refine oN ⟨rfl, ?_⟩; refine pS ?_; refine oT rfl rfl rfl (sAc (n := 6) (ag := true) (by kernel_rfl) (by first | assumption | (simp (disch := first | omega | (simp only [hNw, hPt]; omega)) only [gN] <;> first | rfl | assumption)) rfl rfl (by first | rfl | exact spl_set _ _ _ (by first | assumption | (simp; omega)))) ?_; refine oN ⟨rfl, ?_⟩; refine OkP.nil ?_; refine kS ?_; refine kS ?_; refine kR ?_; refine oA rfl rfl ?_; refine oN ?_; refine Ok.block ?_
  refine Ok.loop (fun n s => ∃ (i : Nat) (v3 : AV), n = cs.length - i ∧ i ≤ cs.length ∧ Mine (W.next + 3) s.H v3 80 7 ((cs.take i).map Cell.c).flatten ∧ Has 6 [(1, .ptr W.next 0), (2, .ptr (W.next + 1) 0), (3, .ptr (W.next + 2) 0), (4, I (i : Int))] s.T ∧ s.D = [] ∧ Grow W s.H ∧ s.H.get W.next = some (.cells [cv, I g.slo, I g.shi, I g.klo, I g.khi, I g.melt] 26) ∧ s.H.get (W.next + 1) = some (.cells [.nils, I 0, I 0, I 0, I 0, I 0] 38) ∧ s.H.get (W.next + 2) = some (.cells [v3, I g.slo, I g.shi, I g.klo, I g.khi, I g.melt] 38) ∧ W.next + 3 ≤ s.H.next) (cs.length) (by unfold loopFuel; omega)
    ⟨0, .nils, rfl, Nat.zero_le _, Mine.nil _ _ _ _, Has.of (by kernel_rfl), rfl, (by (try dsimp only); repeat (first | exact hG | apply Grow.new | (refine Grow.put ?_ _ (by first | omega | (simp only [hNw, hPt]; omega))))), (by simp (disch := first | omega | (simp only [hNw, hPt]; omega)) only [gN] <;> first | rfl | assumption), (by simp (disch := first | omega | (simp only [hNw, hPt]; omega)) only [gN] <;> first | rfl | assumption), by first | exact gp0 _ _ _ | (simp (disch := first | omega | (simp only [hNw, hPt]; omega)) only [gN] <;> first | rfl | assumption), by simp⟩ ?_
  rintro n ⟨T, D, G⟩ ⟨i, v3, hn, hi, hm, ⟨f, hT⟩, hD, hg, f0, f1, f2, hb4⟩
  dsimp only at *
  subst hT hD
  have hgn := hg.next
  obtain ⟨l3, hl3, _⟩ := hm.len
  have e0 : (G.get W.next).bind AObj.cs = some [cv, I g.slo, I g.shi, I g.klo, I g.khi, I g.melt] := by rw [f0]; rfl
  have e2 : (G.get (W.next + 2)).bind AObj.cs = some [v3, I g.slo, I g.shi, I g.klo, I g.khi, I g.melt] := by rw [f2]; rfl
  refine kS ?_; refine kS ?_; refine kR ?_; refine oM rfl rfl ?_; refine oF (o := 0) rfl (by kernel_rfl) rfl ?_; refine oL rfl rfl (lda (n := 1) (by kernel_rfl) (by first | assumption | (simp (disch := first | omega | (simp only [hNw, hPt]; omega)) only [gN] <;> first | rfl | assumption)) (by first | rfl | assumption)) ?_; refine oB rfl rfl rfl qbl ?_; refine OkO.bin rfl rfl rfl (bin_lss _ _) ?_; refine oN ?_
  refine Ok.cond rfl (fun h1 => ?_) (fun h1 => ?_)
  · have hlt : i < cs.length := by simpa using h1
    obtain ⟨bb, off, ccs, i1, i2, i3, i4⟩ := (hR.ext (hE _ hg)).at_ i cs[i].c (by simp [hlt])
    have hne : bb ≠ G.next := by omega
    have hml : ((cs.take i).map Cell.c).flatten.length = i * 7 := by rw [flat_len _ 7 (fun x hx => by simp only [List.mem_map] at hx; obtain ⟨y, _, rfl⟩ := hx; rfl)]; simp; omega
    refine Ok.skip ?_; refine kS ?_; refine Ok.block ?_; refine kS ?_; refine kR ?_; refine oF (o := 0) rfl (by kernel_rfl) rfl ?_; refine oL rfl rfl (lda (n := 1) (by kernel_rfl) (by first | assumption | (simp (disch := first | omega | (simp only [hNw, hPt]; omega)) only [gN] <;> first | rfl | assumption)) (by first | rfl | assumption)) ?_; refine oM rfl rfl ?_; refine qX (sz := 7) (n := i) rfl rfl rfl ?_; refine oL rfl rfl (ldg (n := 7) (by kernel_rfl) (by first | assumption | (simp (disch := first | omega | (simp only [hNw, hPt]; omega)) only [gN] <;> first | rfl | assumption)) (by first | rfl | assumption)) ?_; refine OkO.alloc (z := [.int .i64 0, .int .i64 0, .int .i64 0, .int .i64 0, .int .i64 0, .int .i64 0, .int .i64 0]) rfl (by kernel_rfl) ?_; refine oT rfl rfl rfl (sAc (n := 7) (ag := true) (by kernel_rfl) (by first | assumption | (simp (disch := first | omega | (simp only [hNw, hPt]; omega)) only [gN] <;> first | rfl | assumption)) rfl rfl (by first | rfl | exact spl_set _ _ _ (by first | assumption | (simp; omega)))) ?_; refine oN ?_; refine Ok.drawn [(0, true, []), (1, true, []), (2, true, []), (3, true, []), (5, true, []), (6, true, []), (7, true, []), (8, true, []), (9, true, []), (10, true, []), (11, true, []), (12, true, []), (13, true, []), (14, true, []), (4, false, [14, 12, 10, 8, 6, 1]), (15, true, []), (16, true, [14, 12, 10, 8, 6, 3, 1]), (17, false, [14, 12, 10, 8, 6, 3]), (18, true, []), (19, false, [])] (by kernel_rfl) ?_; refine pS ?_; refine oF (o := 0) rfl (by kernel_rfl) rfl ?_; refine oN ⟨rfl, ?_⟩; refine pS ?_; refine oL rfl rfl (lda (n := 1) (by kernel_rfl) (by first | assumption | (simp (disch := first | omega | (simp only [hNw, hPt]; omega)) only [gN] <;> first | rfl | assumption)) (by first | rfl | assumption)) ?_; refine oN ⟨rfl, ?_⟩; refine pS ?_; refine oF (o := 0) rfl (by kernel_rfl) rfl ?_; refine oN ⟨rfl, ?_⟩; refine pS ?_; refine oL rfl rfl (ldg (n := 2) (by kernel_rfl) (by first | assumption | (simp (disch := first | omega | (simp only [hNw, hPt]; omega)) only [gN] <;> first | rfl | assumption)) (by first | rfl | assumption)) ?_; refine oN ⟨rfl, ?_⟩; refine pS ?_; refine oF (o := 2) rfl (by kernel_rfl) rfl ?_; refine oN ⟨rfl, ?_⟩; refine pS ?_; refine oL rfl rfl (lda (n := 1) (by kernel_rfl) (by first | assumption | (simp (disch := first | omega | (simp only [hNw, hPt]; omega)) only [gN] <;> first | rfl | assumption)) (by first | rfl | assumption)) ?_; refine oN ⟨rfl, ?_⟩; refine pS ?_; refine oF (o := 3) rfl (by kernel_rfl) rfl ?_; refine oN ⟨rfl, ?_⟩; refine pS ?_; refine oL rfl rfl (lda (n := 1) (by kernel_rfl) (by first | assumption | (simp (disch := first | omega | (simp only [hNw, hPt]; omega)) only [gN] <;> first | rfl | assumption)) (by first | rfl | assumption)) ?_; refine oN ⟨rfl, ?_⟩; refine pS ?_; refine oF (o := 4) rfl (by kernel_rfl) rfl ?_; refine oN ⟨rfl, ?_⟩; refine pS ?_; refine oL rfl rfl (lda (n := 1) (by kernel_rfl) (by first | assumption | (simp (disch := first | omega | (simp only [hNw, hPt]; omega)) only [gN] <;> first | rfl | assumption)) (by first | rfl | assumption)) ?_; refine oN ⟨rfl, ?_⟩; refine pS ?_; refine oF (o := 5) rfl (by kernel_rfl) rfl ?_; refine oN ⟨rfl, ?_⟩; refine pS ?_; refine oL rfl rfl (lda (n := 1) (by kernel_rfl) (by first | assumption | (simp (disch := first | omega | (simp only [hNw, hPt]; omega)) only [gN] <;> first | rfl | assumption)) (by first | rfl | assumption)) ?_; refine oN ⟨rfl, ?_⟩; refine pS ?_; refine oF (o := 6) rfl (by kernel_rfl) rfl ?_; refine oN ⟨rfl, ?_⟩; refine pS ?_; refine oL rfl rfl (lda (n := 1) (by kernel_rfl) (by first | assumption | (simp (disch := first | omega | (simp only [hNw, hPt]; omega)) only [gN] <;> first | rfl | assumption)) (by first | rfl | assumption)) ?_; refine oN ⟨rfl, ?_⟩; refine pS ?_; refine oV rfl rfl rfl rfl rfl (c52 _ _ _ _) ?_
    refine oN ⟨(sco (sld rfl rfl (lda (n := 1) (by kernel_rfl) (by first | assumption | (simp (disch := first | omega | (simp only [hNw, hPt]; omega)) only [gN] <;> first | rfl | assumption)) (by first | rfl | assumption)) rfl (eqr _ (by first | rfl | exact lpl (by assumption) | (simp [AV.plain, AV.plains, AV.plain])))) (sco (sld rfl rfl (lda (n := 1) (by kernel_rfl) (by first | assumption | (simp (disch := first | omega | (simp only [hNw, hPt]; omega)) only [gN] <;> first | rfl | assumption)) (by first | rfl | assumption)) rfl (eqr _ (by first | rfl | exact lpl (by assumption) | (simp [AV.plain, AV.plains, AV.plain])))) (sco (sld rfl rfl (lda (n := 1) (by kernel_rfl) (by first | assumption | (simp (disch := first | omega | (simp only [hNw, hPt]; omega)) only [gN] <;> first | rfl | assumption)) (by first | rfl | assumption)) rfl (eqr _ (by first | rfl | exact lpl (by assumption) | (simp [AV.plain, AV.plains, AV.plain])))) (sco (sld rfl rfl (lda (n := 1) (by kernel_rfl) (by first | assumption | (simp (disch := first | omega | (simp only [hNw, hPt]; omega)) only [gN] <;> first | rfl | assumption)) (by first | rfl | assumption)) rfl (eqr _ (by first | rfl | exact lpl (by assumption) | (simp [AV.plain, AV.plains, AV.plain])))) (sco (sld rfl rfl (lda (n := 1) (by kernel_rfl) (by first | assumption | (simp (disch := first | omega | (simp only [hNw, hPt]; omega)) only [gN] <;> first | rfl | assumption)) (by first | rfl | assumption)) rfl (eqr _ (by first | rfl | exact lpl (by assumption) | (simp [AV.plain, AV.plains, AV.plain])))) (sco (sld rfl rfl (lda (n := 1) (by kernel_rfl) (by first | assumption | (simp (disch := first | omega | (simp only [hNw, hPt]; omega)) only [gN] <;> first | rfl | assumption)) (by first | rfl | assumption)) rfl (eqr _ (by first | rfl | exact lpl (by assumption) | (simp [AV.plain, AV.plains, AV.plain])))) rfl)))))), ?_⟩; refine pS ?_; refine OkO.build (z := [.int .i64 0, .int .i64 0, .int .i64 0, .int .i64 0, .int .i64 0, .int .i64 0, .int .i64 0]) (pl := [(0, 2), (2, 1), (3, 1), (4, 1), (5, 1), (6, 1)]) rfl (by kernel_rfl) rfl rfl ?_; refine oN ⟨rfl, ?_⟩; refine pS ?_; refine OkO.buildSlice (el := 80) (sz := 7) (z := [.int .i64 0, .int .i64 0, .int .i64 0, .int .i64 0, .int .i64 0, .int .i64 0, .int .i64 0]) rfl (by kernel_rfl) (by decide) rfl rfl ?_
    refine oN ⟨(sco (sld rfl rfl (lda (n := 1) (by kernel_rfl) (by first | assumption | (simp (disch := first | omega | (simp only [hNw, hPt]; omega)) only [gN] <;> first | rfl | assumption)) (by first | rfl | assumption)) rfl (eqr _ (by first | rfl | exact lpl (by assumption) | (simp [AV.plain, AV.plains, AV.plain])))) (sco (sld rfl rfl (lda (n := 1) (by kernel_rfl) (by first | assumption | (simp (disch := first | omega | (simp only [hNw, hPt]; omega)) only [gN] <;> first | rfl | assumption)) (by first | rfl | assumption)) rfl (eqr _ (by first | rfl | exact lpl (by assumption) | (simp [AV.plain, AV.plains, AV.plain])))) (sco (sld rfl rfl (lda (n := 1) (by kernel_rfl) (by first | assumption | (simp (disch := first | omega | (simp only [hNw, hPt]; omega)) only [gN] <;> first | rfl | assumption)) (by first | rfl | assumption)) rfl (eqr _ (by first | rfl | exact lpl (by assumption) | (simp [AV.plain, AV.plains, AV.plain])))) (sco (sld rfl rfl (lda (n := 1) (by kernel_rfl) (by first | assumption | (simp (disch := first | omega | (simp only [hNw, hPt]; omega)) only [gN] <;> first | rfl | assumption)) (by first | rfl | assumption)) rfl (eqr _ (by first | rfl | exact lpl (by assumption) | (simp [AV.plain, AV.plains, AV.plain])))) (sco (sld rfl rfl (lda (n := 1) (by kernel_rfl) (by first | assumption | (simp (disch := first | omega | (simp only [hNw, hPt]; omega)) only [gN] <;> first | rfl | assumption)) (by first | rfl | assumption)) rfl (eqr _ (by first | rfl | exact lpl (by assumption) | (simp [AV.plain, AV.plains, AV.plain])))) (sco (sld rfl rfl (ldg (n := 2) (by kernel_rfl) (by first | assumption | (simp (disch := first | omega | (simp only [hNw, hPt]; omega)) only [gN] <;> first | rfl | assumption)) (by first | rfl | assumption)) rfl (eqr _ (by first | rfl | exact lpl (by assumption) | (simp [AV.plain, AV.plains, AV.plain])))) (sco (sld rfl rfl (lda (n := 1) (by kernel_rfl) (by first | assumption | (simp (disch := first | omega | (simp only [hNw, hPt]; omega)) only [gN] <;> first | rfl | assumption)) (by first | rfl | assumption)) rfl (eqr _ (by first | rfl | exact lpl (by assumption) | (simp [AV.plain, AV.plains, AV.plain])))) rfl))))))), ?_⟩; refine pS ?_; refine OkO.builtinE rfl rfl rfl (Mine.app2 (k0 := W.next + 3) (sz := 7) (by_ := 56) (e := 80) (n := 1) (new := cs[i].c) (hm.to (by (try dsimp only); repeat (first | exact Ext.refl _ | assumption | apply Ext.new | (refine Ext.put ?_ _ (by first | omega | (simp only [hNw, hPt]; omega)))))) (by (try dsimp only); repeat (first | (first | exact hg | exact hG) | apply Grow.new | (refine Grow.put ?_ _ (by first | omega | (simp only [hNw, hPt]; omega))))) (by omega) (by first | omega | (simp only [hNw, hPt]; omega)) (by kernel_rfl) (by kernel_rfl) (elems_new (n := 1) (sz := 7) rfl) rfl rfl (by rw [hml]; omega) (by omega) (by omega) rfl) ?_
    rintro v2 G2 ⟨q1, q2, q3, q4, q5, q6⟩
    simp only [hNw, hPt] at q5
    have z0 : G2.get (W.next) = some (.cells [cv, I g.slo, I g.shi, I g.klo, I g.khi, I g.melt] 26) := by rw [q3.get _ (by omega) (by first | omega | (simp only [hNw, hPt]; omega))]; (simp (disch := first | omega | (simp only [hNw, hPt]; omega)) only [gN] <;> first | rfl | assumption)
    have z1 : G2.get (W.next + 1) = some (.cells [.nils, I 0, I 0, I 0, I 0, I 0] 38) := by rw [q3.get _ (by omega) (by first | omega | (simp only [hNw, hPt]; omega))]; (simp (disch := first | omega | (simp only [hNw, hPt]; omega)) only [gN] <;> first | rfl | assumption)
    have z2 : G2.get (W.next + 2) = some (.cells [v3, I g.slo, I g.shi, I g.klo, I g.khi, I g.melt] 38) := by rw [q3.get _ (by omega) (by first | omega | (simp only [hNw, hPt]; omega))]; (simp (disch := first | omega | (simp only [hNw, hPt]; omega)) only [gN] <;> first | rfl | assumption)
    have z3 : G2.get G.next = some (.cells cs[i].c 91) := by rw [q4 _ (by first | omega | (simp only [hNw, hPt]; omega)) (fun m hm2 => by have := hm.lt hm2; omega)]; (simp (disch := first | omega | (simp only [hNw, hPt]; omega)) only [gN] <;> first | rfl | assumption)
    have y0 : (G2.get (W.next)).bind AObj.cs = some [cv, I g.slo, I g.shi, I g.klo, I g.khi, I g.melt] := by rw [z0]; rfl
    have y1 : (G2.get (W.next + 1)).bind AObj.cs = some [.nils, I 0, I 0, I 0, I 0, I 0] := by rw [z1]; rfl
    have y2 : (G2.get (W.next + 2)).bind AObj.cs = some [v3, I g.slo, I g.shi, I g.klo, I g.khi, I g.melt] := by rw [z2]; rfl
    have y3 : (G2.get (G.next)).bind AObj.cs = some cs[i].c := by rw [z3]; rfl
    obtain ⟨bb2, mm, hv2⟩ : ∃ b m, v2 = .opn b m := (let ⟨m, h⟩ := q6; ⟨_, m, h⟩)
    subst hv2
    refine oN ⟨(sco (sld rfl rfl (lda (n := 1) (by kernel_rfl) (by first | assumption | (simp (disch := first | omega | (simp only [hNw, hPt]; omega)) only [gN] <;> first | rfl | assumption)) (by first | rfl | assumption)) rfl (eqr _ (by first | rfl | exact lpl (by assumption) | (simp [AV.plain, AV.plains, AV.plain])))) (sco (sld rfl rfl (lda (n := 1) (by kernel_rfl) (by first | assumption | (simp (disch := first | omega | (simp only [hNw, hPt]; omega)) only [gN] <;> first | rfl | assumption)) (by first | rfl | assumption)) rfl (eqr _ (by first | rfl | exact lpl (by assumption) | (simp [AV.plain, AV.plains, AV.plain])))) (sco (sld rfl rfl (lda (n := 1) (by kernel_rfl) (by first | assumption | (simp (disch := first | omega | (simp only [hNw, hPt]; omega)) only [gN] <;> first | rfl | assumption)) (by first | rfl | assumption)) rfl (eqr _ (by first | rfl | exact lpl (by assumption) | (simp [AV.plain, AV.plains, AV.plain])))) (sco (sld rfl rfl (lda (n := 1) (by kernel_rfl) (by first | assumption | (simp (disch := first | omega | (simp only [hNw, hPt]; omega)) only [gN] <;> first | rfl | assumption)) (by first | rfl | assumption)) rfl (eqr _ (by first | rfl | exact lpl (by assumption) | (simp [AV.plain, AV.plains, AV.plain])))) (sco (sld rfl rfl (lda (n := 1) (by kernel_rfl) (by first | assumption | (simp (disch := first | omega | (simp only [hNw, hPt]; omega)) only [gN] <;> first | rfl | assumption)) (by first | rfl | assumption)) rfl (eqr _ (by first | rfl | exact lpl (by assumption) | (simp [AV.plain, AV.plains, AV.plain])))) (sco (sld rfl rfl (ldg (n := 2) (by kernel_rfl) (by first | assumption | (simp (disch := first | omega | (simp only [hNw, hPt]; omega)) only [gN] <;> first | rfl | assumption)) (by first | rfl | assumption)) rfl (eqr _ (by first | rfl | exact lpl (by assumption) | (simp [AV.plain, AV.plains, AV.plain])))) rfl)))))), ?_⟩; refine pS ?_; refine oF (o := 0) rfl (by kernel_rfl) rfl ?_; refine oN ⟨rfl, ?_⟩; refine pS ?_; refine oT rfl rfl rfl (sAc (n := 1) (ag := false) (by kernel_rfl) (by first | assumption | (simp (disch := first | omega | (simp only [hNw, hPt]; omega)) only [gN] <;> first | rfl | assumption)) rfl rfl (by first | rfl | exact spl_set _ _ _ (by first | assumption | (simp; omega)))) ?_; refine oN ⟨rfl, ?_⟩; refine OkP.nil ?_; refine kR ?_; refine oM rfl rfl ?_; refine OkO.bin rfl rfl rfl (bin_add (by omega) (by omega)) ?_; refine oA rfl rfl ?_; refine oN ?_
    refine ⟨cs.length - (i + 1), by omega, i + 1, .opn bb2 mm, rfl, hlt, ?_, Has.of (by kernel_rfl), rfl, q2.put _ (by omega), by rw [gpo _ _ _ _ (by omega)]; exact z0, by rw [gpo _ _ _ _ (by omega)]; exact z1, gp0 _ _ _, by simp only [hPt]; omega⟩
    rw [flat_take _ _ _ hlt]; exact q1.put _ (by omega)
  · have hge : i = cs.length := by simp at h1; omega
    subst hge
    obtain ⟨a1, a2⟩ := hm.one
    refine Ok.exit ?_; refine kS ?_; refine kR ?_; refine oL rfl rfl (ldg (n := 6) (by kernel_rfl) (by first | assumption | (simp (disch := first | omega | (simp only [hNw, hPt]; omega)) only [gN] <;> first | rfl | assumption)) (by first | rfl | assumption)) ?_; refine oT rfl rfl rfl (sAc (n := 6) (ag := true) (l := [v3, I g.slo, I g.shi, I g.klo, I g.khi, I g.melt]) (by kernel_rfl) (by first | assumption | simp (disch := first | omega | (simp only [hNw, hPt]; omega)) only [gN] <;> first | rfl | assumption) rfl (by show atoms [v3, I g.slo, I g.shi, I g.klo, I g.khi, I g.melt] = true; simp [atoms, a2, show ∀ z, (I z).atom = true from fun _ => rfl]) rfl) ?_; refine oN ?_
    refine Ok.ret ⟨.inr rfl, ?_⟩
    refine back_newA (resV_cell (b := W.next + 1) (off := 0) rfl (ldg (n := 6) (by kernel_rfl) (by first | assumption | (simp (disch := first | omega | (simp only [hNw, hPt]; omega)) only [gN] <;> first | rfl | assumption)) rfl) resV_nil) rfl (by rw [← hW]; exact (by (try dsimp only); repeat (first | (first | exact hg | exact hG) | apply Grow.new | (refine Grow.put ?_ _ (by first | omega | (simp only [hNw, hPt]; omega)))))) (fun H2 r2 r3 => ⟨v3, rfl, r2, ?_, a2⟩)
    have hmp := hm.put (n := W.next + 1) (.cells [v3, I g.slo, I g.shi, I g.klo, I g.khi, I g.melt] 38) (by omega)
    rw [List.take_length] at hmp
    refine (Mine.back (H := H) hmp (fun x hx => by simp only [List.mem_map] at hx; obtain ⟨y, _, rfl⟩ := hx; rfl) (by omega) (r3.imp (fun h => ⟨h.1, flatA h.2⟩) id)).1
theorem c21 (m : Nat) (dv : AV) (ds : List Day) (H : Heap) (hY : Row H dv 3 (ds.map Day.c)) (hbig : ds.length ≤ 1000) : ∃ v H', RR (m + 2) (.fn 21 [dv]) H = some (v, H') ∧ Ret H H' ∧ Row H' v 3 (ds.map Day.c) ∧ v.atom = true := by
  show ∃ v H', evFn Try.prog (RR (m + 1)) 21 [dv] H = some (v, H') ∧ Ret H H' ∧ Row H' v 3 (ds.map Day.c) ∧ v.atom = true
  refine fn_okE Try.func21 rfl rfl (by kernel_rfl) (by kernel_rfl) ?_
  obtain ⟨W, hW, hg, hN, hE, hG⟩ := wOf H
  rw [← hW]
  have hld : lenOf dv = some ds.length := by simpa using hY.len
  refine kS ?_; refine kR ?_; refine oA rfl rfl ?_; refine oN ?_; refine kS ?_; refine kR ?_; refine oA rfl rfl ?_; refine oN ?_; refine kS ?_; refine kS ?_; refine kR ?_; refine oA rfl rfl ?_; refine oN ?_; refine Ok.block ?_
  refine Ok.loop (fun n s => ∃ (i : Nat) (v3 : AV), n = ds.length - i ∧ i ≤ ds.length ∧ Mine W.next s.H v3 82 3 ((ds.take i).map Day.c).flatten ∧ Has 5 [(0, dv), (2, .nils), (3, v3), (4, I (i : Int))] s.T ∧ s.D = [] ∧ Grow W s.H) (ds.length) (by unfold loopFuel; omega)
    ⟨0, .nils, rfl, Nat.zero_le _, Mine.nil _ _ _ _, Has.of (by kernel_rfl), rfl, hG⟩ ?_
  rintro n ⟨T, D, G⟩ ⟨i, v3, hn, hi, hm, ⟨f, hT⟩, hD, hg⟩
  dsimp only at *
  subst hT hD
  have hgn := hg.next
  refine kS ?_; refine kS ?_; refine kR ?_; refine oM rfl rfl ?_; refine oM rfl rfl ?_; refine oB rfl rfl rfl qbl ?_; refine OkO.bin rfl rfl rfl (bin_lss _ _) ?_; refine oN ?_
  refine Ok.cond rfl (fun h1 => ?_) (fun h1 => ?_)
  · have hlt : i < ds.length := by simpa using h1
    obtain ⟨bb, off, ccs, i1, i2w, i3, i4⟩ := (hY.ext (hE W hG)).at_ i ds[i].c (by simp [hlt])
    have i2 : (G.get bb).bind AObj.cs = some ccs := by rw [hg.get _ i4]; exact i2w
    have i4g : bb < G.next := by omega
    have i5 : seg ccs (off + 0) 2 = some [I ds[i].lo, I ds[i].hi] := seg_sub i3 0 2 (by omega) (by omega)
    have i6 : ccs[off + 2]? = some (I ds[i].warm) := seg_get i3 2 (by omega)
    have hml : ((ds.take i).map Day.c).flatten.length = i * 3 := by rw [flat_len _ 3 (fun x hx => by simp only [List.mem_map] at hx; obtain ⟨y, _, rfl⟩ := hx; rfl)]; simp; omega
    refine Ok.skip ?_; refine kS ?_; refine Ok.block ?_; refine Ok.drawn [(0, true, []), (1, true, []), (2, true, []), (3, true, []), (4, true, []), (5, true, []), (7, true, []), (8, true, []), (9, true, []), (10, true, []), (11, true, []), (6, false, [11]), (12, true, []), (13, true, [11, 5]), (14, false, [11, 5]), (15, false, [])] (by kernel_rfl) ?_; refine pS ?_; refine oM rfl rfl ?_; refine oN ⟨rfl, ?_⟩; refine pS ?_; refine oM rfl rfl ?_; refine oN ⟨rfl, ?_⟩; refine pS ?_; refine oM rfl rfl ?_; refine oN ⟨rfl, ?_⟩; refine pS ?_; refine qX (sz := 3) (n := i) rfl rfl rfl ?_; refine oN ⟨rfl, ?_⟩; refine pS ?_; refine oF (o := 0) rfl (by kernel_rfl) rfl ?_; refine oN ⟨rfl, ?_⟩; refine pS ?_; refine oL rfl rfl (ldg (n := 2) (by kernel_rfl) (by first | assumption | (simp (disch := first | omega | (simp only [hNw, hPt]; omega)) only [gN] <;> first | rfl | assumption)) (by first | rfl | assumption)) ?_; refine oN ⟨rfl, ?_⟩; refine pS ?_; refine oM rfl rfl ?_; refine oN ⟨rfl, ?_⟩; refine pS ?_; refine oM rfl rfl ?_; refine oN ⟨rfl, ?_⟩; refine pS ?_; refine qX (sz := 3) (n := i) rfl rfl rfl ?_; refine oN ⟨rfl, ?_⟩; refine pS ?_; refine oF (o := 2) rfl (by kernel_rfl) rfl ?_; refine oN ⟨rfl, ?_⟩; refine pS ?_; refine oL rfl rfl (lda (n := 1) (by kernel_rfl) (by first | assumption | (simp (disch := first | omega | (simp only [hNw, hPt]; omega)) only [gN] <;> first | rfl | assumption)) (by first | rfl | assumption)) ?_; refine oN ⟨rfl, ?_⟩; refine pS ?_; refine oV rfl rfl rfl rfl rfl (c52 _ _ _ _) ?_
    refine oN ⟨(sco (sld rfl rfl (lda (n := 1) (by kernel_rfl) (by first | assumption | (simp (disch := first | omega | (simp only [hNw, hPt]; omega)) only [gN] <;> first | rfl | assumption)) (by first | rfl | assumption)) rfl (eqr _ (by first | rfl | exact lpl (by assumption) | (simp [AV.plain, AV.plains, AV.plain])))) rfl), ?_⟩; refine pS ?_; refine OkO.build (z := [.int .i64 0, .int .i64 0, .int .i64 0]) (pl := [(0, 2), (2, 1)]) rfl (by kernel_rfl) rfl rfl ?_; refine oN ⟨rfl, ?_⟩; refine pS ?_; refine OkO.buildSlice (el := 82) (sz := 3) (z := [.int .i64 0, .int .i64 0, .int .i64 0]) rfl (by kernel_rfl) (by decide) rfl rfl ?_
    refine oN ⟨(sco (sld rfl rfl (lda (n := 1) (by kernel_rfl) (by first | assumption | (simp (disch := first | omega | (simp only [hNw, hPt]; omega)) only [gN] <;> first | rfl | assumption)) (by first | rfl | assumption)) rfl (eqr _ (by first | rfl | exact lpl (by assumption) | (simp [AV.plain, AV.plains, AV.plain])))) (sco (sld rfl rfl (ldg (n := 2) (by kernel_rfl) (by first | assumption | (simp (disch := first | omega | (simp only [hNw, hPt]; omega)) only [gN] <;> first | rfl | assumption)) (by first | rfl | assumption)) rfl (eqr _ (by first | rfl | exact lpl (by assumption) | (simp [AV.plain, AV.plains, AV.plain])))) rfl)), ?_⟩; refine pS ?_; refine OkO.builtinE rfl rfl rfl (Mine.app (k0 := W.next) (sz := 3) (by_ := 24) (e := 82) (n := 1) (new := ds[i].c) (hm.to (by (try dsimp only); repeat (first | exact Ext.refl _ | assumption | apply Ext.new | (refine Ext.put ?_ _ (by first | omega | (simp only [hNw, hPt]; omega)))))) (by (try dsimp only); repeat (first | (first | exact hg | exact hG) | apply Grow.new | (refine Grow.put ?_ _ (by first | omega | (simp only [hNw, hPt]; omega))))) (Nat.le_refl _) (by have := hg.next; simp only [hNw]; omega) (by kernel_rfl) (by kernel_rfl) (elems_new (n := 1) (sz := 3) rfl) rfl rfl (by rw [hml]; omega) (by omega) (by omega) rfl) ?_
    rintro v2 G2 ⟨q1, q2, q3⟩
    have i7 : (G2.get bb).bind AObj.cs = some ccs := by rw [q2.get _ i4]; exact i2w
    refine oN ⟨(sco (sld rfl rfl (lda (n := 1) (by kernel_rfl) (by first | assumption | (simp (disch := first | omega | (simp only [hNw, hPt]; omega)) only [gN] <;> first | rfl | assumption)) (by first | rfl | assumption)) rfl (eqr _ (by first | rfl | exact lpl (by assumption) | (simp [AV.plain, AV.plains, AV.plain])))) (sco (sld rfl rfl (ldg (n := 2) (by kernel_rfl) (by first | assumption | (simp (disch := first | omega | (simp only [hNw, hPt]; omega)) only [gN] <;> first | rfl | assumption)) (by first | rfl | assumption)) rfl (eqr _ (by first | rfl | exact lpl (by assumption) | (simp [AV.plain, AV.plains, AV.plain])))) rfl)), ?_⟩; refine pS ?_; refine oA rfl rfl ?_; refine oN ⟨rfl, ?_⟩; refine OkP.nil ?_; refine kR ?_; refine oM rfl rfl ?_; refine OkO.bin rfl rfl rfl (bin_add (by omega) (by omega)) ?_; refine oA rfl rfl ?_; refine oN ?_
    refine ⟨ds.length - (i + 1), by omega, i + 1, v2, rfl, hlt, ?_, Has.of (by kernel_rfl), rfl, q2⟩
    rw [flat_take _ _ _ hlt]; exact q1
  · have hge : i = ds.length := by simp at h1; omega
    subst hge
    refine Ok.exit ?_; refine kS ?_; refine kR ?_; refine oM rfl rfl ?_; refine oA rfl rfl ?_; refine oN ?_
    refine Ok.ret ⟨.inr rfl, ?_⟩
    exact back_newA (resV_tmp rfl resV_nil) rfl (by rw [← hW]; exact hg) (fun H2 r2 r3 => ⟨r2, (Mine.back (by rw [List.take_length] at hm; exact hm) (fun x hx => by simp only [List.mem_map] at hx; obtain ⟨y, _, rfl⟩ := hx; rfl) (by omega) r3).1, hm.one.2⟩)
theorem c56 (m : Nat) (bv : AV) (us : List Int) (H : Heap) (hU : Ints H bv us) (hl : us.length ≤ 1000) : ∃ v H', RR (m + 1) (.fn 56 [bv]) H = some (v, H') ∧ Ret H H' ∧ Fr H.next H'.next H' (fun X => Ints X v us) ∧ One v := by
  show ∃ v H', evFn Try.prog (RR (m + 0)) 56 [bv] H = some (v, H') ∧ Ret H H' ∧ Fr H.next H'.next H' (fun X => Ints X v us) ∧ One v
  refine fn_okE Try.func56 rfl rfl (by kernel_rfl) (by kernel_rfl) ?_
  obtain ⟨W, hW, hg, hN, hE, hG⟩ := wOf H
  rw [← hW]
  refine kS ?_; refine kR ?_; refine oA rfl rfl ?_; refine oN ?_; refine kS ?_; refine kR ?_; refine OkO.buildSlice (el := 3) (sz := 1) (z := [.int .i64 0]) rfl (by kernel_rfl) (by decide) rfl rfl ?_; refine oM rfl rfl ?_; refine OkO.builtinE rfl rfl rfl (app_lit (el := 3) (sz := 1) (by_ := 8) (e := 3) (rows := us.map fun n => [I n]) hG (by kernel_rfl) (by kernel_rfl) ((hU.ext (hE _ hG)).ext (Grow.toNew _ _)) (fun x hx => by simp only [List.mem_map] at hx; obtain ⟨y, _, rfl⟩ := hx; rfl) (by simp; omega) (by omega) (by rw [ints_flat]; exact atoms_ints us)) ?_
  rintro v2 G2 ⟨r1, r3, r4, r5⟩
  refine oA rfl rfl ?_; refine oN ?_
  refine Ok.ret ⟨.inr rfl, ?_⟩
  exact back_newQ (resV_tmp rfl resV_nil) rfl (by rw [← hW]; exact r3) r4.2.2 (fun H' q1 q2 q3 => ⟨q1, by rw [q3, ← hN]; exact (Fr.to r1 (fun n _ _ => q2 n)).mono fun X h => h.1, r4⟩)
theorem c22 (m : Nat) (lv rv : AV) (t : Tru) (lvs rain : List Int) (H : Heap) (hL : Ints H lv lvs) (hbl : lvs.length ≤ 1000) (hA : Ints H rv rain) (hba : rain.length ≤ 1000) : ∃ v H', RR (m + 2) (.fn 22 [.agg [I t.snow, I t.soak, lv, rv]]) H = some (v, H') ∧ ∃ lv' rv', v = .agg [I t.snow, I t.soak, lv', rv'] ∧ Ret H H' ∧ Ints H' lv' lvs ∧ Ints H' rv' rain := by
  show ∃ v H', evFn Try.prog (RR (m + 1)) 22 [.agg [I t.snow, I t.soak, lv, rv]] H = some (v, H') ∧ ∃ lv' rv', v = .agg [I t.snow, I t.soak, lv', rv'] ∧ Ret H H' ∧ Ints H' lv' lvs ∧ Ints H' rv' rain
  refine fn_okE Try.func22 rfl rfl (by kernel_rfl) (by kernel_rfl) ?_
  obtain ⟨W, hW, hg, hN, hE, hG⟩ := wOf H
  rw [← hW]
  have hll : lenOf lv = some lvs.length := by simpa using hL.len
  have hlr : lenOf rv = some rain.length := by simpa using hA.len
  refine kS ?_; refine kR ?_; refine OkO.box rfl rfl ?_; refine OkO.alloc (z := [.int .i64 0, .int .i64 0, .nils, .nils]) rfl (by kernel_rfl) ?_; refine oN ?_; refine kS ?_; refine Ok.drawn [(0, true, []), (1, true, []), (2, true, []), (3, true, []), (4, true, []), (5, true, []), (7, true, []), (8, true, []), (6, false, [8, 3, 1]), (9, false, [5, 3, 1]), (10, true, []), (11, false, [])] (by kernel_rfl) ?_; refine pS ?_; refine oF (o := 0) rfl (by kernel_rfl) rfl ?_; refine oN ⟨rfl, ?_⟩; refine pS ?_; refine oL rfl rfl (lda (n := 1) (by kernel_rfl) (by first | assumption | (simp (disch := first | omega | (simp only [hNw, hPt]; omega)) only [gN] <;> first | rfl | assumption)) (by first | rfl | assumption)) ?_; refine oN ⟨rfl, ?_⟩; refine pS ?_; refine oF (o := 1) rfl (by kernel_rfl) rfl ?_; refine oN ⟨rfl, ?_⟩; refine pS ?_; refine oL rfl rfl (lda (n := 1) (by kernel_rfl) (by first | assumption | (simp (disch := first | omega | (simp only [hNw, hPt]; omega)) only [gN] <;> first | rfl | assumption)) (by first | rfl | assumption)) ?_; refine oN ⟨rfl, ?_⟩; refine pS ?_; refine oF (o := 2) rfl (by kernel_rfl) rfl ?_; refine oN ⟨rfl, ?_⟩; refine pS ?_; refine oL rfl rfl (lda (n := 1) (by kernel_rfl) (by first | assumption | (simp (disch := first | omega | (simp only [hNw, hPt]; omega)) only [gN] <;> first | rfl | assumption)) (by first | rfl | assumption)) ?_; refine oN ⟨rfl, ?_⟩; refine pS ?_; refine oF (o := 3) rfl (by kernel_rfl) rfl ?_; refine oN ⟨rfl, ?_⟩; refine pS ?_; refine oL rfl rfl (lda (n := 1) (by kernel_rfl) (by first | assumption | (simp (disch := first | omega | (simp only [hNw, hPt]; omega)) only [gN] <;> first | rfl | assumption)) (by first | rfl | assumption)) ?_; refine oN ⟨rfl, ?_⟩; refine pS ?_; refine oE rfl rfl rfl rfl rfl (c56 m lv lvs _ (hL.ext (hE _ (by (try dsimp only); repeat (first | exact hG | apply Grow.new | (refine Grow.put ?_ _ (by first | omega | (simp only [hNw, hPt]; omega))))))) hbl) ?_
  rintro vA HA ⟨qA, rA, oA⟩
  have gA : Grow W HA := Grow.ret (by (try dsimp only); repeat (first | exact hG | apply Grow.new | (refine Grow.put ?_ _ (by first | omega | (simp only [hNw, hPt]; omega))))) qA
  have nA : W.next + 2 ≤ HA.next := by have := qA.ext.next; first | omega | (simp only [hNw] at this; omega)
  have aA : HA.get W.next = some (.cells [I t.snow, I t.soak, lv, rv] 30) := by rw [qA.ext.get _ (by first | omega | (simp only [hNw]; omega))]; first | assumption | (simp (disch := first | omega | (simp only [hNw, hPt]; omega)) only [gN] <;> first | rfl | assumption)
  have bA : (HA.get W.next).bind AObj.cs = some [I t.snow, I t.soak, lv, rv] := by rw [aA]; rfl
  have cA : HA.get (W.next + 1) = some (.cells [I 0, I 0, .nils, .nils] 45) := by rw [qA.ext.get _ (by first | omega | (simp only [hNw]; omega))]; first | assumption | exact gn0 _ _ | (simp (disch := first | omega | (simp only [hNw, hPt]; omega)) only [gN] <;> first | rfl | assumption)
  refine oN ⟨(sco (sld rfl rfl (lda (n := 1) (by kernel_rfl) (by first | assumption | (simp (disch := first | omega | (simp only [hNw, hPt]; omega)) only [gN] <;> first | rfl | assumption)) (by first | rfl | assumption)) rfl (eqr _ (by first | rfl | exact lpl (by assumption) | (simp [AV.plain, AV.plains, AV.plain])))) (sco (sld rfl rfl (lda (n := 1) (by kernel_rfl) (by first | assumption | (simp (disch := first | omega | (simp only [hNw, hPt]; omega)) only [gN] <;> first | rfl | assumption)) (by first | rfl | assumption)) rfl (eqr _ (by first | rfl | exact lpl (by assumption) | (simp [AV.plain, AV.plains, AV.plain])))) (sco (sld rfl rfl (lda (n := 1) (by kernel_rfl) (by first | assumption | (simp (disch := first | omega | (simp only [hNw, hPt]; omega)) only [gN] <;> first | rfl | assumption)) (by first | rfl | assumption)) rfl (eqr _ (by first | rfl | exact lpl (by assumption) | (simp [AV.plain, AV.plains, AV.plain])))) rfl))), ?_⟩; refine pS ?_; refine oE rfl rfl rfl rfl rfl (c56 m rv rain _ (hA.ext (hE _ gA)) hba) ?_
  rintro vB HB ⟨qB, rB, oB⟩
  have gB : Grow W HB := Grow.ret gA qB
  have nB : W.next + 2 ≤ HB.next := by have := qB.ext.next; first | omega | (simp only [hNw] at this; omega)
  have aB : HB.get W.next = some (.cells [I t.snow, I t.soak, lv, rv] 30) := by rw [qB.ext.get _ (by first | omega | (simp only [hNw]; omega))]; first | assumption | (simp (disch := first | omega | (simp only [hNw, hPt]; omega)) only [gN] <;> first | rfl | assumption)
  have bB : (HB.get W.next).bind AObj.cs = some [I t.snow, I t.soak, lv, rv] := by rw [aB]; rfl
  have cB : HB.get (W.next + 1) = some (.cells [I 0, I 0, .nils, .nils] 45) := by rw [qB.ext.get _ (by first | omega | (simp only [hNw]; omega))]; first | assumption | exact gn0 _ _ | (simp (disch := first | omega | (simp only [hNw, hPt]; omega)) only [gN] <;> first | rfl | assumption)
  refine oN ⟨(sco (sld rfl rfl (lda (n := 1) (by kernel_rfl) (by first | assumption | (simp (disch := first | omega | (simp only [hNw, hPt]; omega)) only [gN] <;> first | rfl | assumption)) (by first | rfl | assumption)) rfl (eqr _ (by first | rfl | exact lpl (by assumption) | (simp [AV.plain, AV.plains, AV.plain])))) (sco (sld rfl rfl (lda (n := 1) (by kernel_rfl) (by first | assumption | (simp (disch := first | omega | (simp only [hNw, hPt]; omega)) only [gN] <;> first | rfl | assumption)) (by first | rfl | assumption)) rfl (eqr _ (by first | rfl | exact lpl (by assumption) | (simp [AV.plain, AV.plains, AV.plain])))) (sco (sld rfl rfl (lda (n := 1) (by kernel_rfl) (by first | assumption | (simp (disch := first | omega | (simp only [hNw, hPt]; omega)) only [gN] <;> first | rfl | assumption)) (by first | rfl | assumption)) rfl (eqr _ (by first | rfl | exact lpl (by assumption) | (simp [AV.plain, AV.plains, AV.plain])))) rfl))), ?_⟩; refine pS ?_; refine OkO.build (z := [.int .i64 0, .int .i64 0, .nils, .nils]) (pl := [(0, 1), (1, 1), (2, 1), (3, 1)]) (cs := [I t.snow, I t.soak, vA, vB]) rfl (by kernel_rfl) rfl (by simp [fillS, spl, oA.1, oB.1, show ∀ z, (I z).cells = [I z] from fun _ => rfl]) ?_; refine oN ⟨rfl, ?_⟩; refine pS ?_; refine oT rfl rfl rfl (sAc (n := 4) (ag := true) (l := [I t.snow, I t.soak, vA, vB]) (by kernel_rfl) (by first | assumption | simp (disch := first | omega | (simp only [hNw, hPt]; omega)) only [gN] <;> first | rfl | assumption) rfl (by show atoms [I t.snow, I t.soak, vA, vB] = true; simp [atoms, oA.2.1, oB.2.1, show ∀ z, (I z).atom = true from fun _ => rfl]) rfl) ?_; refine oN ⟨rfl, ?_⟩; refine OkP.nil ?_
  refine Ok.ret ⟨.inr rfl, ?_⟩
  refine back_newQ (resV_cell (b := W.next + 1) (off := 0) rfl (ldg (n := 4) (by kernel_rfl) (show ((HB.put (W.next + 1) (.cells [I t.snow, I t.soak, vA, vB] 45)).get (W.next + 1)).bind AObj.cs = some [I t.snow, I t.soak, vA, vB] by rw [gp0]; rfl) rfl) resV_nil) rfl (by rw [← hW]; exact (by (try dsimp only); repeat (first | exact gB | apply Grow.new | (refine Grow.put ?_ _ (by first | omega | (simp only [hNw, hPt]; omega)))))) (by show (AV.agg [I t.snow, I t.soak, vA, vB]).flat = false; simp [AV.flat, AV.flats, oA.2.2]) (fun H2 p1 p2 p3 => ⟨vA, vB, rfl, p1, ?_, ?_⟩)
  · exact rA H2 (by rw [p3]; exact qB.ext.next) (fun n h1 h2 => by rw [p2, gpo _ _ _ _ (by simp only [hNw] at h1 ⊢; omega), qB.ext.get _ h2])
  · exact rB H2 (by rw [p3]; exact Nat.le_refl _) (fun n h1 h2 => by rw [p2, gpo _ _ _ _ (by simp only [hNw]; omega)])
end
end Go.Ev

set_option maxRecDepth 100000
set_option linter.unusedSimpArgs false
set_option linter.unusedVariables false
namespace Go.Ev
open Go Go.Proofs
noncomputable section
/-- A number of a range, by a word. -/
def pickI (lo hi w : Int) : Int := lo + w % (hi - lo + 1)
theorem pick_in {lo hi w : Int} (h : lo ≤ hi) : lo ≤ pickI lo hi w ∧ pickI lo hi w ≤ hi := by
  unfold pickI
  have h1 := Int.emod_nonneg w (b := hi - lo + 1) (by omega)
  have h2 := Int.emod_lt_of_pos w (b := hi - lo + 1) (by omega)
  omega
def U (w : Int) : AV := .int .u16 w
theorem c49 (m : Nat) (lo hi w : Int) (H : Heap) (h1 : -1000000 ≤ lo ∧ lo ≤ hi ∧ hi ≤ 1000000) (hw : 0 ≤ w ∧ w ≤ 65535) : RR (m + 1) (.fn 49 [.agg [I lo, I hi], U w]) H = some (I (pickI lo hi w), H) := by
  refine (R_fn _ _ _ _ _).trans ?_; refine fn_ok Try.func49 rfl rfl (by kernel_rfl) (by kernel_rfl) ?_
  obtain ⟨W, hW, hg, hN, hE, hG⟩ := wOf H
  rw [← hW]
  have hpi := pick_in (w := w) h1.2.1
  unfold pickI at hpi
  refine kS ?_; refine kR ?_; refine OkO.box rfl rfl ?_; refine oA rfl rfl ?_; refine oN ?_; refine kS ?_; refine Ok.drawn [(0, true, []), (1, true, []), (2, true, []), (3, true, []), (4, true, []), (5, true, []), (6, true, []), (7, true, []), (8, true, []), (9, true, []), (10, true, []), (11, true, []), (12, true, [])] (by kernel_rfl) ?_; refine pS ?_; refine oF (o := 0) rfl (by kernel_rfl) rfl ?_; refine oN ⟨rfl, ?_⟩; refine pS ?_; refine oL rfl rfl (lda (n := 1) (by kernel_rfl) (by first | assumption | (simp (disch := first | omega | (simp only [hNw, hPt]; omega)) only [gN] <;> first | rfl | assumption)) (by first | rfl | assumption)) ?_; refine oN ⟨rfl, ?_⟩; refine pS ?_; refine oM rfl rfl ?_; refine oN ⟨rfl, ?_⟩; refine pS ?_; refine OkO.convert (k := .i64) rfl (by kernel_rfl) rfl (wrapF_i64 (by omega) (by omega)) ?_; refine oN ⟨rfl, ?_⟩; refine pS ?_; refine oF (o := 1) rfl (by kernel_rfl) rfl ?_; refine oN ⟨rfl, ?_⟩; refine pS ?_; refine oL rfl rfl (lda (n := 1) (by kernel_rfl) (by first | assumption | (simp (disch := first | omega | (simp only [hNw, hPt]; omega)) only [gN] <;> first | rfl | assumption)) (by first | rfl | assumption)) ?_; refine oN ⟨rfl, ?_⟩; refine pS ?_; refine oF (o := 0) rfl (by kernel_rfl) rfl ?_; refine oN ⟨rfl, ?_⟩; refine pS ?_; refine oL rfl rfl (lda (n := 1) (by kernel_rfl) (by first | assumption | (simp (disch := first | omega | (simp only [hNw, hPt]; omega)) only [gN] <;> first | rfl | assumption)) (by first | rfl | assumption)) ?_; refine oN ⟨rfl, ?_⟩; refine pS ?_; refine OkO.bin rfl rfl rfl (bin_sub (by omega) (by omega)) ?_; refine oN ⟨rfl, ?_⟩; refine pS ?_; refine OkO.bin rfl rfl rfl (bin_add (by omega) (by omega)) ?_; refine oN ⟨rfl, ?_⟩; refine pS ?_; refine OkO.bin rfl rfl rfl (bin_rem (by omega) (by omega)) ?_; refine oN ⟨rfl, ?_⟩; refine pS ?_; refine OkO.bin rfl rfl rfl (bin_add (by omega) (by omega)) ?_; refine oN ⟨rfl, ?_⟩; refine pS ?_; refine oA rfl rfl ?_; refine oN ⟨rfl, ?_⟩; refine OkP.nil ?_
  refine Ok.ret ⟨.inr rfl, ?_⟩
  exact back_flat rfl (rfl) rfl (by rw [← hW]; exact (by (try dsimp only); repeat (first | exact hG | apply Grow.new | (refine Grow.put ?_ _ (by first | omega | (simp only [hNw, hPt]; omega))))))
theorem thin_of {cs : List Cell} {ds : List Day} (h : thinB cs ds = true) : cs.length ≤ 10 ∧ ds.length ≤ 35 := by
  simp only [thinB, Bool.and_eq_true, decide_eq_true_eq] at h; omega
def readyB (cs : List Cell) (g : Gr) (ds : List Day) : Bool := thinB cs ds && decide (daysErr cs g ds = 0)
theorem c43 (m : Nat) (cv dv : AV) (cs : List Cell) (g : Gr) (ds : List Day) (H : Heap) (hR : Row H cv 7 (cs.map Cell.c)) (hY : Row H dv 3 (ds.map Day.c)) : RR (m + 5) (.fn 43 [.agg [cv, I g.slo, I g.shi, I g.klo, I g.khi, I g.melt], dv]) H = some (.bool (readyB cs g ds), H) := by
  refine (R_fn _ _ _ _ _).trans ?_; refine fn_ok Try.func43 rfl rfl (by kernel_rfl) (by kernel_rfl) ?_
  obtain ⟨W, hW, hg, hN, hE, hG⟩ := wOf H
  rw [← hW]
  refine kS ?_; refine kR ?_; refine OkO.box rfl rfl ?_; refine oA rfl rfl ?_; refine oN ?_; refine kS ?_; refine kR ?_; refine oL rfl rfl (ldg (n := 6) (by kernel_rfl) (by first | assumption | (simp (disch := first | omega | (simp only [hNw, hPt]; omega)) only [gN] <;> first | rfl | assumption)) (by first | rfl | assumption)) ?_; refine oM rfl rfl ?_; refine oV rfl rfl rfl rfl rfl (c16 _ cv dv cs g ds _ (hR.ext (hE _ (by (try dsimp only); repeat (first | exact hG | apply Grow.new | (refine Grow.put ?_ _ (by first | omega | (simp only [hNw, hPt]; omega))))))) (hY.ext (hE _ (by (try dsimp only); repeat (first | exact hG | apply Grow.new | (refine Grow.put ?_ _ (by first | omega | (simp only [hNw, hPt]; omega)))))))) ?_; refine oM rfl rfl ?_
  refine OkO.split (d := 8) rfl (fun g1 => ?_) (fun g1 => ?_)
  · have hth := thin_of g1
    refine oL rfl rfl (ldg (n := 6) (by kernel_rfl) (by first | assumption | (simp (disch := first | omega | (simp only [hNw, hPt]; omega)) only [gN] <;> first | rfl | assumption)) (by first | rfl | assumption)) ?_; refine oM rfl rfl ?_; refine oV rfl rfl rfl rfl rfl (c24 m cv dv cs g ds _ (hR.ext (hE _ (by (try dsimp only); repeat (first | exact hG | apply Grow.new | (refine Grow.put ?_ _ (by first | omega | (simp only [hNw, hPt]; omega))))))) (by omega) (hY.ext (hE _ (by (try dsimp only); repeat (first | exact hG | apply Grow.new | (refine Grow.put ?_ _ (by first | omega | (simp only [hNw, hPt]; omega))))))) (by omega)) ?_; refine OkO.bin rfl rfl rfl (bin_eql _ _) ?_; refine OkO.pick (b := true) rfl rfl (fun _ => rfl) nofun ?_; refine oA rfl rfl ?_; refine oN ?_
    refine Ok.ret ⟨.inr rfl, ?_⟩
    have hz : decide (daysErr cs g ds = 0) = readyB cs g ds := by unfold readyB; rw [g1]; rfl
    exact back_flat rfl (congrArg AV.bool hz) rfl (by rw [← hW]; exact (by (try dsimp only); repeat (first | exact hG | apply Grow.new | (refine Grow.put ?_ _ (by first | omega | (simp only [hNw, hPt]; omega))))))
  · refine oK rfl ?_
    refine oK rfl ?_; refine oK rfl ?_; refine oK rfl ?_; refine OkO.pick (b := false) rfl rfl nofun (fun _ => rfl) ?_; refine oA rfl rfl ?_; refine oN ?_
    refine Ok.ret ⟨.inr rfl, ?_⟩
    have hz : false = readyB cs g ds := by unfold readyB; rw [g1]; rfl
    exact back_flat rfl (congrArg AV.bool hz) rfl (by rw [← hW]; exact (by (try dsimp only); repeat (first | exact hG | apply Grow.new | (refine Grow.put ?_ _ (by first | omega | (simp only [hNw, hPt]; omega))))))
def nextW (ws : List Int) (i : Nat) : Int := ws.getD (i % ws.length) 0
theorem next_bd {ws : List Int} (h : Upto 65535 ws) (i : Nat) : 0 ≤ nextW ws i ∧ nextW ws i ≤ 65535 := h.getD (by omega) _
def pickT (g : Gr) (ws : List Int) : Tru := ⟨pickI g.slo g.shi (nextW ws 0), pickI g.klo g.khi (nextW ws 1)⟩
def pickL (cs : List Cell) (ws : List Int) (k : Nat) : List Int := (List.range k).map fun i => pickI (cs.getD i default).lo (cs.getD i default).hi (nextW ws (2 + i))
def pickR (cs : List Cell) (ds : List Day) (ws : List Int) (k : Nat) : List Int := (List.range k).map fun i => pickI (ds.getD i default).lo (ds.getD i default).hi (nextW ws (2 + cs.length + i))
theorem pickL_succ (cs : List Cell) (ws : List Int) (k : Nat) : (pickL cs ws (k + 1)).map I = (pickL cs ws k).map I ++ [I (pickI (cs.getD k default).lo (cs.getD k default).hi (nextW ws (2 + k)))] := by simp [pickL, List.range_succ]
theorem pickR_succ (cs : List Cell) (ds : List Day) (ws : List Int) (k : Nat) : (pickR cs ds ws (k + 1)).map I = (pickR cs ds ws k).map I ++ [I (pickI (ds.getD k default).lo (ds.getD k default).hi (nextW ws (2 + cs.length + k)))] := by simp [pickR, List.range_succ]
def fillW (ws : List Int) (k i : Nat) : List AV := (List.range k).map fun j => if j < i then U (nextW ws j) else U 0
theorem fillW_get {ws : List Int} {k i j : Nat} (h : j < k) : (fillW ws k i)[0 + j * 1]? = some (if j < i then U (nextW ws j) else U 0) := by simp [fillW, h]
theorem fillW_set {ws : List Int} {k i : Nat} (h : i < k) : spl (fillW ws k i) (0 + i * 1) (U (nextW ws i)).cells = some (fillW ws k (i + 1)) := by
  have e : spl (fillW ws k i) (0 + i * 1) (U (nextW ws i)).cells = (match Nat.ble (0 + i * 1 + 1) (fillW ws k i).length with
    | true => some ((fillW ws k i).take (0 + i * 1) ++ ([U (nextW ws i)] ++ (fillW ws k i).drop (0 + i * 1 + 1)))
    | false => none) := rfl
  have hl : (fillW ws k i).length = k := by simp [fillW]
  rw [e, Nat.zero_add, Nat.mul_one, Nat.ble_eq_true_of_le (by rw [hl]; omega)]
  simp only
  congr 1
  have e2 : (fillW ws k i).take i ++ ([U (nextW ws i)] ++ (fillW ws k i).drop (i + 1)) = (fillW ws k i).set i (U (nextW ws i)) := by
    rw [List.set_eq_take_append_cons_drop, if_pos (by rw [hl]; exact h)]; rfl
  rw [e2]
  apply List.ext_getElem?
  intro j
  rw [List.getElem?_set]
  by_cases hj : i = j
  · subst hj
    rw [if_pos rfl, if_pos (by rw [hl]; exact h)]
    have := fillW_get (ws := ws) (k := k) (i := i + 1) h
    rw [Nat.zero_add, Nat.mul_one, if_pos (by omega)] at this
    exact this.symm
  · rw [if_neg hj]
    by_cases hk : j < k
    · have h1 := fillW_get (ws := ws) (k := k) (i := i + 1) hk
      have h2 := fillW_get (ws := ws) (k := k) (i := i) hk
      rw [Nat.zero_add, Nat.mul_one] at h1 h2
      rw [h1, h2]
      by_cases hji : j < i
      · rw [if_pos hji, if_pos (by omega)]
      · rw [if_neg hji, if_neg (by omega)]
    · rw [List.getElem?_eq_none (by simp [fillW]; omega), List.getElem?_eq_none (by simp [fillW]; omega)]
theorem rep_u16 (ws : List Int) : ∀ k, rep [U 0] k = fillW ws k 0
  | 0 => rfl
  | k + 1 => by
    show [U 0] ++ rep [U 0] k = _
    rw [rep_u16 ws k]
    simp [fillW, List.range_succ_eq_map, Function.comp_def]
theorem fillW_nil (k i j : Nat) : fillW [] k i = fillW [] k j := by simp [fillW, nextW]
theorem flat4 {a b : AV} {x y : Int} (h : (AV.agg [I x, I y, a, b]).flat = true) : a.flat = true ∧ b.flat = true := by
  simp only [AV.flat, AV.flats] at h
  cases ha : a.flat with
  | false => rw [ha] at h; cases h
  | true =>
    rw [ha] at h
    cases hb : b.flat with
    | false => rw [hb] at h; cases h
    | true => exact ⟨rfl, rfl⟩
end
end Go.Ev

set_option maxRecDepth 100000
set_option linter.unusedSimpArgs false
set_option linter.unusedVariables false
namespace Go.Ev
open Go Go.Proofs
noncomputable section
theorem c44 (m : Nat) (cv dv wv : AV) (cs : List Cell) (g : Gr) (ds : List Day) (ws : List Int) (H : Heap) (hR : Row H cv 7 (cs.map Cell.c)) (hY : Row H dv 3 (ds.map Day.c)) (hWs : Row H wv 1 (ws.map fun w => [U w])) (hws : Upto 65535 ws) (hc : ∀ x ∈ cs, x.lim) (hd : ∀ x ∈ ds, x.lim) (hn8 : cs.length ≤ 8) (hd30 : ds.length ≤ 30) (hs1 : 0 ≤ g.slo ∧ g.slo ≤ g.shi ∧ g.shi ≤ 100000) (hs2 : 0 ≤ g.klo ∧ g.klo ≤ g.khi ∧ g.khi ≤ 1000) : ∃ v H', RR (m + 2) (.fn 44 [.agg [cv, I g.slo, I g.shi, I g.klo, I g.khi, I g.melt], dv, wv]) H = some (v, H') ∧ ∃ lv rv, v = .agg [I (pickT g ws).snow, I (pickT g ws).soak, lv, rv] ∧ Ret H H' ∧ Ints H' lv (pickL cs ws cs.length) ∧ Ints H' rv (pickR cs ds ws ds.length) ∧ lv.atom = true ∧ rv.atom = true := by
  show ∃ v H', evFn Try.prog (RR (m + 1)) 44 [.agg [cv, I g.slo, I g.shi, I g.klo, I g.khi, I g.melt], dv, wv] H = some (v, H') ∧ ∃ lv rv, v = .agg [I (pickT g ws).snow, I (pickT g ws).soak, lv, rv] ∧ Ret H H' ∧ Ints H' lv (pickL cs ws cs.length) ∧ Ints H' rv (pickR cs ds ws ds.length) ∧ lv.atom = true ∧ rv.atom = true
  refine fn_okE Try.func44 rfl rfl (by kernel_rfl) (by kernel_rfl) ?_
  obtain ⟨W, hW, hg, hN, hE, hG⟩ := wOf H
  rw [← hW]
  have hlc : lenOf cv = some cs.length := by simpa using hR.len
  have hld : lenOf dv = some ds.length := by simpa using hY.len
  have hlw : lenOf wv = some ws.length := by simpa using hWs.len
  refine kS ?_; refine kR ?_; refine OkO.box rfl rfl ?_; refine OkO.alloc (z := [.int .i64 0, .int .i64 0, .nils, .nils]) rfl (by kernel_rfl) ?_; refine oN ?_; refine kS ?_; refine kR ?_; refine oA rfl rfl ?_; refine oN ?_; refine kS ?_; refine kR ?_; refine oF (o := 0) rfl (by kernel_rfl) rfl ?_; refine oL rfl rfl (lda (n := 1) (by kernel_rfl) (by first | assumption | (simp (disch := first | omega | (simp only [hNw, hPt]; omega)) only [gN] <;> first | rfl | assumption)) (by first | rfl | assumption)) ?_; refine oB rfl rfl rfl qbl ?_; refine OkO.bin rfl rfl rfl (bin_add (by omega) (by omega)) ?_; refine oM rfl rfl ?_; refine oB rfl rfl rfl qbl ?_; refine OkO.bin rfl rfl rfl (bin_add (by omega) (by omega)) ?_; refine OkO.makeSlice (el := 64) (sz := 1) (z := [.int .u16 0]) (n := (2 + cs.length + ds.length)) (by_ := 2) rfl (by kernel_rfl) (by kernel_rfl) (by omega) (congrArg (fun z => some (I z)) (by push_cast; rfl)) (congrArg (fun z => some (I z)) (by push_cast; rfl)) (by omega) ?_; refine oA rfl rfl ?_; refine oN ?_; refine kS ?_; refine kS ?_; refine kR ?_; refine oA rfl rfl ?_; refine oN ?_; refine Ok.block ?_
  refine Ok.loop (fun n s => ∃ i : Nat, n = (2 + cs.length + ds.length) - i ∧ i ≤ (2 + cs.length + ds.length) ∧ Has 7 [(1, dv), (2, wv), (3, .ptr W.next 0), (6, .ptr (W.next + 1) 0), (8, .slice (W.next + 2) 0 (2 + cs.length + ds.length) (2 + cs.length + ds.length)), (9, I (i : Int))] s.T ∧ s.D = [] ∧ Grow W s.H ∧ s.H.get W.next = some (.cells [cv, I g.slo, I g.shi, I g.klo, I g.khi, I g.melt] 26) ∧ s.H.get (W.next + 1) = some (.cells [I 0, I 0, .nils, .nils] 30) ∧ s.H.get (W.next + 2) = some (.cells (fillW ws (2 + cs.length + ds.length) i) 64) ∧ s.H.next = W.next + 3) ((2 + cs.length + ds.length)) (by unfold loopFuel; omega)
    ⟨0, by omega, Nat.zero_le _, Has.of (by kernel_rfl), rfl, (by (try dsimp only); repeat (first | exact hG | apply Grow.new | (refine Grow.put ?_ _ (by first | omega | (simp only [hNw, hPt]; omega))))), (by simp (disch := first | omega | (simp only [hNw, hPt]; omega)) only [gN] <;> first | rfl | assumption), by first | exact gn1 _ _ _ | (simp (disch := first | omega | (simp only [hNw, hPt]; omega)) only [gN] <;> first | rfl | assumption), by rw [gn2]; congr 2; exact rep_u16 ws _, rfl⟩ ?_
  rintro n ⟨T, D, G⟩ ⟨i, hn, hi, ⟨f, hT⟩, hD, hg, f0, f1, f2, hb4⟩
  dsimp only at *
  subst hT hD
  have hgn := hg.next
  have e0 : (G.get W.next).bind AObj.cs = some [cv, I g.slo, I g.shi, I g.klo, I g.khi, I g.melt] := by rw [f0]; rfl
  have e2 : (G.get (W.next + 2)).bind AObj.cs = some (fillW ws (2 + cs.length + ds.length) i) := by rw [f2]; rfl
  refine kS ?_; refine kS ?_; refine kR ?_; refine oM rfl rfl ?_; refine oM rfl rfl ?_; refine oB rfl rfl rfl qbl ?_; refine OkO.bin rfl rfl rfl (bin_lss _ _) ?_; refine oM rfl rfl ?_
  refine OkO.split (d := 25) rfl (fun g1 => ?_) (fun g1 => ?_)
  · have hlt : i < (2 + cs.length + ds.length) := by simp at g1; omega
    refine oM rfl rfl ?_; refine oB rfl rfl rfl qbl ?_; refine OkO.bin rfl rfl rfl (bin_gtr _ _) ?_; refine OkO.pick (b := true) rfl rfl (fun _ => rfl) nofun ?_; refine oN ?_
    refine Ok.cond rfl (fun h2 => ?_) (fun h2 => ?_)
    · have hw0 : 0 < ws.length := by simpa using h2
      have hwi : i % ws.length < ws.length := Nat.mod_lt _ hw0
      obtain ⟨wb, wo, wcs, w1, w2w, w3, w4⟩ := (hWs.ext (hE W hG)).at_ (i % ws.length) [U (nextW ws i)] (by rw [List.getElem?_map, List.getElem?_eq_getElem hwi]; simp [nextW, hwi])
      have w2 : (G.get wb).bind AObj.cs = some wcs := by rw [hg.get _ w4]; exact w2w
      have w5 := seg_one w3
      refine Ok.skip ?_; refine kS ?_; refine Ok.block ?_; refine kR ?_; refine oM rfl rfl ?_; refine oM rfl rfl ?_; refine oM rfl rfl ?_; refine oM rfl rfl ?_; refine oM rfl rfl ?_; refine oB rfl rfl rfl qbl ?_; refine OkO.bin rfl rfl rfl (bin_rem (by omega) (by omega)) ?_; refine qX (sz := 1) (n := i % ws.length) rfl rfl (congrArg (fun z => some (I z)) (by simp)) ?_; refine oL rfl rfl (lda (n := 1) (by kernel_rfl) (by first | assumption | (simp (disch := first | omega | (simp only [hNw, hPt]; omega)) only [gN] <;> first | rfl | assumption)) (by first | rfl | assumption)) ?_; refine qX (sz := 1) (n := i) rfl rfl rfl ?_; refine oT rfl rfl rfl (sAc (n := 1) (ag := false) (by kernel_rfl) (by first | assumption | (simp (disch := first | omega | (simp only [hNw, hPt]; omega)) only [gN] <;> first | rfl | assumption)) rfl rfl (by first | rfl | first | exact fillW_set (by omega) | exact spl_set _ _ _ (by first | assumption | (simp; omega)))) ?_; refine oN ?_; refine kR ?_; refine oM rfl rfl ?_; refine OkO.bin rfl rfl rfl (bin_add (by omega) (by omega)) ?_; refine oA rfl rfl ?_; refine oN ?_
      refine ⟨(2 + cs.length + ds.length) - (i + 1), by omega, i + 1, rfl, by omega, Has.of (by kernel_rfl), rfl, (by (try dsimp only); repeat (first | (first | exact hg | exact hG) | apply Grow.new | (refine Grow.put ?_ _ (by first | omega | (simp only [hNw, hPt]; omega))))), (by simp (disch := first | omega | (simp only [hNw, hPt]; omega)) only [gN] <;> first | rfl | assumption), (by simp (disch := first | omega | (simp only [hNw, hPt]; omega)) only [gN] <;> first | rfl | assumption), gp0 _ _ _, by rw [hPt]; exact hb4⟩
    · have hw0 : ws = [] := List.eq_nil_of_length_eq_zero (by simpa using h2)
      have f2n : G.get (W.next + 2) = some (.cells (fillW ws (2 + cs.length + ds.length) (2 + cs.length + ds.length)) 64) := by rw [f2, hw0, fillW_nil _ i]
      obtain ⟨G0, hG0⟩ : ∃ G0, G0 = G := ⟨_, rfl⟩
      subst hG0
      have p0 : (fillW ws (2 + cs.length + ds.length) (2 + cs.length + ds.length))[0 + 0 * 1]? = some (U (nextW ws 0)) := by rw [fillW_get (by omega), if_pos (by omega)]
      have p1 : (fillW ws (2 + cs.length + ds.length) (2 + cs.length + ds.length))[0 + 1 * 1]? = some (U (nextW ws 1)) := by rw [fillW_get (by omega), if_pos (by omega)]
      have f2 : G0.get (W.next + 2) = some (.cells (fillW ws (2 + cs.length + ds.length) (2 + cs.length + ds.length)) 64) := f2n
      have e2 : (G0.get (W.next + 2)).bind AObj.cs = some (fillW ws (2 + cs.length + ds.length) (2 + cs.length + ds.length)) := by rw [f2]; rfl
      clear e0
      have e0 : (G0.get W.next).bind AObj.cs = some [cv, I g.slo, I g.shi, I g.klo, I g.khi, I g.melt] := by rw [f0]; rfl
      refine Ok.exit ?_; refine kS ?_; refine Ok.drawn [(0, true, []), (1, true, []), (2, true, []), (3, true, []), (4, true, []), (6, true, []), (7, true, []), (8, true, []), (9, true, []), (10, true, []), (13, true, [10, 7, 4, 1]), (5, false, [10, 7]), (11, false, [4, 1]), (12, true, []), (14, false, [])] (by kernel_rfl) ?_; refine pS ?_; refine oF (o := 1) rfl (by kernel_rfl) rfl ?_; refine oN ⟨rfl, ?_⟩; refine pS ?_; refine oL rfl rfl (ldg (n := 2) (by kernel_rfl) (by first | assumption | (simp (disch := first | omega | (simp only [hNw, hPt]; omega)) only [gN] <;> first | rfl | assumption)) (by first | rfl | assumption)) ?_; refine oN ⟨rfl, ?_⟩; refine pS ?_; refine oM rfl rfl ?_; refine oN ⟨rfl, ?_⟩; refine pS ?_; refine qX (sz := 1) (n := 0) rfl rfl rfl ?_; refine oN ⟨rfl, ?_⟩; refine pS ?_; refine oL rfl rfl (lda (n := 1) (by kernel_rfl) (by first | assumption | (simp (disch := first | omega | (simp only [hNw, hPt]; omega)) only [gN] <;> first | rfl | assumption)) (by first | rfl | assumption)) ?_; refine oN ⟨rfl, ?_⟩; refine pS ?_; refine oF (o := 3) rfl (by kernel_rfl) rfl ?_; refine oN ⟨rfl, ?_⟩; refine pS ?_; refine oL rfl rfl (ldg (n := 2) (by kernel_rfl) (by first | assumption | (simp (disch := first | omega | (simp only [hNw, hPt]; omega)) only [gN] <;> first | rfl | assumption)) (by first | rfl | assumption)) ?_; refine oN ⟨rfl, ?_⟩; refine pS ?_; refine oM rfl rfl ?_; refine oN ⟨rfl, ?_⟩; refine pS ?_; refine qX (sz := 1) (n := 1) rfl rfl rfl ?_; refine oN ⟨rfl, ?_⟩; refine pS ?_; refine oL rfl rfl (lda (n := 1) (by kernel_rfl) (by first | assumption | (simp (disch := first | omega | (simp only [hNw, hPt]; omega)) only [gN] <;> first | rfl | assumption)) (by first | rfl | assumption)) ?_; refine oN ⟨rfl, ?_⟩; refine pS ?_; refine OkO.alloc (z := [.int .i64 0, .int .i64 0, .nils, .nils]) rfl (by kernel_rfl) ?_
      refine oN ⟨(sco (sld rfl rfl (lda (n := 1) (by kernel_rfl) (by first | assumption | (simp (disch := first | omega | (simp only [hNw, hPt]; omega)) only [gN] <;> first | rfl | assumption)) (by first | rfl | assumption)) rfl (eqr _ (by first | rfl | exact lpl (by assumption) | (simp [AV.plain, AV.plains, AV.cells, AV.plain])))) (sco (sld rfl rfl (ldg (n := 2) (by kernel_rfl) (by first | assumption | (simp (disch := first | omega | (simp only [hNw, hPt]; omega)) only [gN] <;> first | rfl | assumption)) (by first | rfl | assumption)) rfl (eqr _ (by first | rfl | exact lpl (by assumption) | (simp [AV.plain, AV.plains, AV.cells, AV.plain])))) (sco (sld rfl rfl (lda (n := 1) (by kernel_rfl) (by first | assumption | (simp (disch := first | omega | (simp only [hNw, hPt]; omega)) only [gN] <;> first | rfl | assumption)) (by first | rfl | assumption)) rfl (eqr _ (by first | rfl | exact lpl (by assumption) | (simp [AV.plain, AV.plains, AV.cells, AV.plain])))) (sco (sld rfl rfl (ldg (n := 2) (by kernel_rfl) (by first | assumption | (simp (disch := first | omega | (simp only [hNw, hPt]; omega)) only [gN] <;> first | rfl | assumption)) (by first | rfl | assumption)) rfl (eqr _ (by first | rfl | exact lpl (by assumption) | (simp [AV.plain, AV.plains, AV.cells, AV.plain])))) rfl)))), ?_⟩; refine pS ?_; refine oV rfl rfl rfl rfl rfl (c49 _ _ _ _ _ (by omega) (next_bd hws _)) ?_
      refine oN ⟨(sco (sld rfl rfl (lda (n := 1) (by kernel_rfl) (by first | assumption | (simp (disch := first | omega | (simp only [hNw, hPt]; omega)) only [gN] <;> first | rfl | assumption)) (by first | rfl | assumption)) rfl (eqr _ (by first | rfl | exact lpl (by assumption) | (simp [AV.plain, AV.plains, AV.cells, AV.plain])))) (sco (sld rfl rfl (ldg (n := 2) (by kernel_rfl) (by first | assumption | (simp (disch := first | omega | (simp only [hNw, hPt]; omega)) only [gN] <;> first | rfl | assumption)) (by first | rfl | assumption)) rfl (eqr _ (by first | rfl | exact lpl (by assumption) | (simp [AV.plain, AV.plains, AV.cells, AV.plain])))) rfl)), ?_⟩; refine pS ?_; refine oV rfl rfl rfl rfl rfl (c49 _ _ _ _ _ (by omega) (next_bd hws _)) ?_
      refine oN ⟨(sco (sld rfl rfl (lda (n := 1) (by kernel_rfl) (by first | assumption | (simp (disch := first | omega | (simp only [hNw, hPt]; omega)) only [gN] <;> first | rfl | assumption)) (by first | rfl | assumption)) rfl (eqr _ (by first | rfl | exact lpl (by assumption) | (simp [AV.plain, AV.plains, AV.cells, AV.plain])))) (sco (sld rfl rfl (ldg (n := 2) (by kernel_rfl) (by first | assumption | (simp (disch := first | omega | (simp only [hNw, hPt]; omega)) only [gN] <;> first | rfl | assumption)) (by first | rfl | assumption)) rfl (eqr _ (by first | rfl | exact lpl (by assumption) | (simp [AV.plain, AV.plains, AV.cells, AV.plain])))) rfl)), ?_⟩; refine pS ?_; refine OkO.build (z := [.int .i64 0, .int .i64 0, .nils, .nils]) (pl := [(0, 1), (1, 1), (2, 1), (3, 1)]) rfl (by kernel_rfl) rfl rfl ?_; refine oN ⟨rfl, ?_⟩; refine pS ?_; refine oT rfl rfl rfl (sAc (n := 4) (ag := true) (by kernel_rfl) (by first | assumption | (simp (disch := first | omega | (simp only [hNw, hPt]; omega)) only [gN] <;> first | rfl | assumption)) rfl rfl (by first | rfl | first | exact fillW_set (by omega) | exact spl_set _ _ _ (by first | assumption | (simp; omega)))) ?_; refine oN ⟨rfl, ?_⟩; refine OkP.nil ?_; refine kS ?_; refine kR ?_; refine oA rfl rfl ?_; refine oN ?_; refine kS ?_; refine kS ?_; refine kR ?_; refine oA rfl rfl ?_; refine oN ?_; refine Ok.block ?_
      refine Ok.loop (fun n s => ∃ (i : Nat) (vl vr : AV), n = cs.length - i ∧ i ≤ cs.length ∧ Mine (G0.next + 1) s.H vl 3 1 ((pickL cs ws i).map I) ∧ Mine (G0.next + 1) s.H vr 3 1 ((pickR cs ds ws 0).map I) ∧ (∀ b m m', vl = .opn b m → vr ≠ .opn b m') ∧ Has 7 [(1, dv), (3, .ptr W.next 0), (6, .ptr (W.next + 1) 0), (7, I 2), (8, .slice (W.next + 2) 0 (2 + cs.length + ds.length) (2 + cs.length + ds.length)), (10, .ptr (G0.next) 0), (11, I (i : Int))] s.T ∧ s.D = [] ∧ Grow W s.H ∧ s.H.get W.next = some (.cells [cv, I g.slo, I g.shi, I g.klo, I g.khi, I g.melt] 26) ∧ s.H.get (W.next + 1) = some (.cells [I 0, I 0, .nils, .nils] 30) ∧ s.H.get (W.next + 2) = some (.cells (fillW ws (2 + cs.length + ds.length) (2 + cs.length + ds.length)) 64) ∧ s.H.get (G0.next) = some (.cells [I (pickT g ws).snow, I (pickT g ws).soak, vl, vr] 30) ∧ G0.next + 1 ≤ s.H.next) (cs.length) (by unfold loopFuel; omega)
        ⟨0, .nils, .nils, rfl, Nat.zero_le _, Mine.nil _ _ _ _, Mine.nil _ _ _ _, nofun, Has.of (by kernel_rfl), rfl, (by (try dsimp only); repeat (first | (first | exact hg | exact hG) | apply Grow.new | (refine Grow.put ?_ _ (by first | omega | (simp only [hNw, hPt]; omega))))), (by simp (disch := first | omega | (simp only [hNw, hPt]; omega)) only [gN] <;> first | rfl | assumption), (by simp (disch := first | omega | (simp only [hNw, hPt]; omega)) only [gN] <;> first | rfl | assumption), (by simp (disch := first | omega | (simp only [hNw, hPt]; omega)) only [gN] <;> first | rfl | assumption), gp0 _ _ _, by simp only [hNw, hPt]; omega⟩ ?_
      rintro n ⟨T, D, G⟩ ⟨i, vl, vr, hn, hi, hml, hmr, hsep, ⟨f, hT⟩, hD, hg, f0, f1, f2, f3, hb4⟩
      dsimp only at *
      subst hT hD
      have hgn := hg.next
      have e0 : (G.get W.next).bind AObj.cs = some [cv, I g.slo, I g.shi, I g.klo, I g.khi, I g.melt] := by rw [f0]; rfl
      have e2 : (G.get (W.next + 2)).bind AObj.cs = some (fillW ws (2 + cs.length + ds.length) (2 + cs.length + ds.length)) := by rw [f2]; rfl
      have e3 : (G.get (G0.next)).bind AObj.cs = some [I (pickT g ws).snow, I (pickT g ws).soak, vl, vr] := by rw [f3]; rfl
      obtain ⟨ll, hll, _⟩ := hml.len
      obtain ⟨lr, hlr, _⟩ := hmr.len
      refine kS ?_; refine kS ?_; refine kR ?_; refine oM rfl rfl ?_; refine oF (o := 0) rfl (by kernel_rfl) rfl ?_; refine oL rfl rfl (lda (n := 1) (by kernel_rfl) (by first | assumption | (simp (disch := first | omega | (simp only [hNw, hPt]; omega)) only [gN] <;> first | rfl | assumption)) (by first | rfl | assumption)) ?_; refine oB rfl rfl rfl qbl ?_; refine OkO.bin rfl rfl rfl (bin_lss _ _) ?_; refine oN ?_
      refine Ok.cond rfl (fun h3 => ?_) (fun h3 => ?_)
      · have hlt : i < cs.length := by simpa using h3
        have hx0 : cs.getD i default = cs[i] := by simp [hlt]
        obtain ⟨bb, off, ccs, i1, i2w, i3, i4⟩ := (hR.ext (hE W hG)).at_ i cs[i].c (by simp [hlt])
        have i2 : (G.get bb).bind AObj.cs = some ccs := by rw [hg.get _ i4]; exact i2w
        have i4g : bb < G.next := by omega
        have i5 : seg ccs (off + 0) 2 = some [I cs[i].lo, I cs[i].hi] := seg_sub i3 0 2 (by omega) (by omega)
        have hxl := hc _ (List.getElem_mem hlt)
        unfold Cell.lim at hxl
        have p2 : (fillW ws (2 + cs.length + ds.length) (2 + cs.length + ds.length))[0 + (2 + i) * 1]? = some (U (nextW ws (2 + i))) := by rw [fillW_get (by omega), if_pos (by omega)]
        have hpl : (pickL cs ws i).length = i := by simp [pickL]
        refine Ok.skip ?_; refine kS ?_; refine Ok.block ?_; refine Ok.drawn [(0, true, []), (1, true, []), (2, true, []), (3, true, []), (4, true, []), (5, true, []), (6, true, []), (7, true, []), (8, true, []), (9, true, []), (10, true, []), (11, true, []), (12, true, []), (13, true, []), (14, false, [3, 1]), (15, true, [13, 7, 3, 1]), (16, false, [13, 7, 3]), (17, true, []), (18, false, [])] (by kernel_rfl) ?_; refine pS ?_; refine oF (o := 2) rfl (by kernel_rfl) rfl ?_; refine oN ⟨rfl, ?_⟩; refine pS ?_; refine oL rfl rfl (lda (n := 1) (by kernel_rfl) (by first | assumption | (simp (disch := first | omega | (simp only [hNw, hPt]; omega)) only [gN] <;> first | rfl | assumption)) (by first | rfl | assumption)) ?_; refine oN ⟨rfl, ?_⟩; refine pS ?_; refine oF (o := 0) rfl (by kernel_rfl) rfl ?_; refine oN ⟨rfl, ?_⟩; refine pS ?_; refine oL rfl rfl (lda (n := 1) (by kernel_rfl) (by first | assumption | (simp (disch := first | omega | (simp only [hNw, hPt]; omega)) only [gN] <;> first | rfl | assumption)) (by first | rfl | assumption)) ?_; refine oN ⟨rfl, ?_⟩; refine pS ?_; refine oM rfl rfl ?_; refine oN ⟨rfl, ?_⟩; refine pS ?_; refine qX (sz := 7) (n := i) rfl rfl rfl ?_; refine oN ⟨rfl, ?_⟩; refine pS ?_; refine oF (o := 0) rfl (by kernel_rfl) rfl ?_; refine oN ⟨rfl, ?_⟩; refine pS ?_; refine oL rfl rfl (ldg (n := 2) (by kernel_rfl) (by first | assumption | (simp (disch := first | omega | (simp only [hNw, hPt]; omega)) only [gN] <;> first | rfl | assumption)) (by first | rfl | assumption)) ?_; refine oN ⟨rfl, ?_⟩; refine pS ?_; refine oM rfl rfl ?_; refine oN ⟨rfl, ?_⟩; refine pS ?_; refine oM rfl rfl ?_; refine oN ⟨rfl, ?_⟩; refine pS ?_; refine oM rfl rfl ?_; refine oN ⟨rfl, ?_⟩; refine pS ?_; refine OkO.bin rfl rfl rfl (bin_add (by omega) (by omega)) ?_; refine oN ⟨rfl, ?_⟩; refine pS ?_; refine qX (sz := 1) (n := 2 + i) rfl rfl (congrArg (fun z => some (I z)) (by push_cast; rfl)) ?_; refine oN ⟨rfl, ?_⟩; refine pS ?_; refine oL rfl rfl (lda (n := 1) (by kernel_rfl) (by first | assumption | (simp (disch := first | omega | (simp only [hNw, hPt]; omega)) only [gN] <;> first | rfl | assumption)) (by first | rfl | assumption)) ?_; refine oN ⟨rfl, ?_⟩; refine pS ?_; refine oV rfl rfl rfl rfl rfl (c49 _ _ _ _ _ (by omega) (next_bd hws _)) ?_
        refine oN ⟨(sco (sld rfl rfl (lda (n := 1) (by kernel_rfl) (by first | assumption | (simp (disch := first | omega | (simp only [hNw, hPt]; omega)) only [gN] <;> first | rfl | assumption)) (by first | rfl | assumption)) rfl (eqr _ (by first | rfl | exact lpl (by assumption) | (simp [AV.plain, AV.plains, AV.cells, AV.plain])))) (sco (sld rfl rfl (lda (n := 1) (by kernel_rfl) (by first | assumption | (simp (disch := first | omega | (simp only [hNw, hPt]; omega)) only [gN] <;> first | rfl | assumption)) (by first | rfl | assumption)) rfl (eqr _ (by first | rfl | exact lpl (by assumption) | (simp [AV.plain, AV.plains, AV.cells, AV.plain])))) rfl)), ?_⟩; refine pS ?_; refine OkO.buildSlice (el := 3) (sz := 1) (z := [.int .i64 0]) rfl (by kernel_rfl) (by decide) rfl rfl ?_
        refine oN ⟨(sco (sld rfl rfl (lda (n := 1) (by kernel_rfl) (by first | assumption | (simp (disch := first | omega | (simp only [hNw, hPt]; omega)) only [gN] <;> first | rfl | assumption)) (by first | rfl | assumption)) rfl (eqr _ (by first | rfl | exact lpl (by assumption) | (simp [AV.plain, AV.plains, AV.cells, AV.plain])))) (sco (sld rfl rfl (ldg (n := 2) (by kernel_rfl) (by first | assumption | (simp (disch := first | omega | (simp only [hNw, hPt]; omega)) only [gN] <;> first | rfl | assumption)) (by first | rfl | assumption)) rfl (eqr _ (by first | rfl | exact lpl (by assumption) | (simp [AV.plain, AV.plains, AV.cells, AV.plain])))) (sco (sld rfl rfl (lda (n := 1) (by kernel_rfl) (by first | assumption | (simp (disch := first | omega | (simp only [hNw, hPt]; omega)) only [gN] <;> first | rfl | assumption)) (by first | rfl | assumption)) rfl (eqr _ (by first | rfl | exact lpl (by assumption) | (simp [AV.plain, AV.plains, AV.cells, AV.plain])))) (sco (sld rfl rfl (lda (n := 1) (by kernel_rfl) (by first | assumption | (simp (disch := first | omega | (simp only [hNw, hPt]; omega)) only [gN] <;> first | rfl | assumption)) (by first | rfl | assumption)) rfl (eqr _ (by first | rfl | exact lpl (by assumption) | (simp [AV.plain, AV.plains, AV.cells, AV.plain])))) rfl)))), ?_⟩; refine pS ?_; refine OkO.builtinE rfl rfl rfl (Mine.app2 (W := W) (k0 := G0.next + 1) (sz := 1) (by_ := 8) (e := 3) (n := 1) (new := [I (pickI cs[i].lo cs[i].hi (nextW ws (2 + i)))]) (hml.to (Grow.toNew G _)) (hg.new _) (by omega) (by simp only [hNw]; omega) (by kernel_rfl) (by kernel_rfl) (elems_new (n := 1) (sz := 1) rfl) rfl rfl (by rw [List.length_map, hpl]; omega) (by omega) (by omega) rfl) ?_
        rintro v2 G2 ⟨q1, q2, q3, q4, q5, q6⟩
        simp only [hNw] at q4 q5 q6
        obtain ⟨mm, hv2⟩ := q6
        have z0 : G2.get (W.next) = some (.cells [cv, I g.slo, I g.shi, I g.klo, I g.khi, I g.melt] 26) := by rw [q3.get _ (by omega) (by simp only [hNw]; omega), gno _ _ _ (by omega)]; exact f0
        have y0 : (G2.get (W.next)).bind AObj.cs = some [cv, I g.slo, I g.shi, I g.klo, I g.khi, I g.melt] := by rw [z0]; rfl
        have z1 : G2.get (W.next + 1) = some (.cells [I 0, I 0, .nils, .nils] 30) := by rw [q3.get _ (by omega) (by simp only [hNw]; omega), gno _ _ _ (by omega)]; exact f1
        have y1 : (G2.get (W.next + 1)).bind AObj.cs = some [I 0, I 0, .nils, .nils] := by rw [z1]; rfl
        have z2 : G2.get (W.next + 2) = some (.cells (fillW ws (2 + cs.length + ds.length) (2 + cs.length + ds.length)) 64) := by rw [q3.get _ (by omega) (by simp only [hNw]; omega), gno _ _ _ (by omega)]; exact f2
        have y2 : (G2.get (W.next + 2)).bind AObj.cs = some (fillW ws (2 + cs.length + ds.length) (2 + cs.length + ds.length)) := by rw [z2]; rfl
        have z3 : G2.get (G0.next) = some (.cells [I (pickT g ws).snow, I (pickT g ws).soak, vl, vr] 30) := by rw [q3.get _ (by omega) (by simp only [hNw]; omega), gno _ _ _ (by omega)]; exact f3
        have y3 : (G2.get (G0.next)).bind AObj.cs = some [I (pickT g ws).snow, I (pickT g ws).soak, vl, vr] := by rw [z3]; rfl
        have hmo : Mine (G0.next + 1) G2 vr 3 1 _ := (hmr.to (Grow.toNew G _)).keep (w := vl) (fun j h1 h2 => q4 j (by simpa using h1) h2) (fun b m m' h1 h2 => hsep b m' m h2 h1) (by simp only [hNw]; omega)
        have hs2 : ∀ b m m', v2 = .opn b m → vr ≠ .opn b m' := fun b m m' h1 h2 => by rw [hv2] at h1; have e9 := (AV.opn.inj h1).1; have := hmr.lt h2; omega
        have iw : (G2.get bb).bind AObj.cs = some ccs := by rw [q2.get _ i4]; exact i2w
        obtain ⟨bb2, hbb2⟩ : ∃ bb2, bb2 = G.next + 1 := ⟨_, rfl⟩
        rw [← hbb2] at hv2
        subst hv2
        refine oN ⟨(sco (sld rfl rfl (lda (n := 1) (by kernel_rfl) (by first | assumption | (simp (disch := first | omega | (simp only [hNw, hPt]; omega)) only [gN] <;> first | rfl | assumption)) (by first | rfl | assumption)) rfl (eqr _ (by first | rfl | exact lpl (by assumption) | (simp [AV.plain, AV.plains, AV.cells, AV.plain])))) (sco (sld rfl rfl (ldg (n := 2) (by kernel_rfl) (by first | assumption | (simp (disch := first | omega | (simp only [hNw, hPt]; omega)) only [gN] <;> first | rfl | assumption)) (by first | rfl | assumption)) rfl (eqr _ (by first | rfl | exact lpl (by assumption) | (simp [AV.plain, AV.plains, AV.cells, AV.plain])))) (sco (sld rfl rfl (lda (n := 1) (by kernel_rfl) (by first | assumption | (simp (disch := first | omega | (simp only [hNw, hPt]; omega)) only [gN] <;> first | rfl | assumption)) (by first | rfl | assumption)) rfl (eqr _ (by first | rfl | exact lpl (by assumption) | (simp [AV.plain, AV.plains, AV.cells, AV.plain])))) rfl))), ?_⟩; refine pS ?_; refine oF (o := 2) rfl (by kernel_rfl) rfl ?_; refine oN ⟨rfl, ?_⟩; refine pS ?_; refine oT rfl rfl rfl (sAc (n := 1) (ag := false) (by kernel_rfl) (by first | assumption | (simp (disch := first | omega | (simp only [hNw, hPt]; omega)) only [gN] <;> first | rfl | assumption)) rfl rfl (by first | rfl | first | exact fillW_set (by omega) | exact spl_set _ _ _ (by first | assumption | (simp; omega)))) ?_; refine oN ⟨rfl, ?_⟩; refine OkP.nil ?_; refine kR ?_; refine oM rfl rfl ?_; refine OkO.bin rfl rfl rfl (bin_add (by omega) (by omega)) ?_; refine oA rfl rfl ?_; refine oN ?_
        refine ⟨cs.length - (i + 1), by omega, i + 1, .opn bb2 mm, vr, rfl, hlt, ?_, ?_, hs2, Has.of (by kernel_rfl), rfl, q2.put _ (by omega), by rw [gpo _ _ _ _ (by omega)]; exact z0, by rw [gpo _ _ _ _ (by omega)]; exact z1, by rw [gpo _ _ _ _ (by omega)]; exact z2, gp0 _ _ _, by simp only [hPt]; omega⟩
        · rw [pickL_succ, hx0]; exact q1.put _ (by omega)
        · exact hmo.put _ (by omega)
      · have hge : i = cs.length := by simp at h3; omega
        subst hge
        refine Ok.exit ?_; refine kS ?_; refine kR ?_; refine oM rfl rfl ?_; refine oF (o := 0) rfl (by kernel_rfl) rfl ?_; refine oL rfl rfl (lda (n := 1) (by kernel_rfl) (by first | assumption | (simp (disch := first | omega | (simp only [hNw, hPt]; omega)) only [gN] <;> first | rfl | assumption)) (by first | rfl | assumption)) ?_; refine oB rfl rfl rfl qbl ?_; refine OkO.bin rfl rfl rfl (bin_add (by omega) (by omega)) ?_; refine oA rfl rfl ?_; refine oN ?_; refine kS ?_; refine kS ?_; refine kR ?_; refine oA rfl rfl ?_; refine oN ?_; refine Ok.block ?_
        refine Ok.loop (fun n s => ∃ (i : Nat) (vl vr : AV), n = ds.length - i ∧ i ≤ ds.length ∧ Mine (G0.next + 1) s.H vl 3 1 ((pickL cs ws cs.length).map I) ∧ Mine (G0.next + 1) s.H vr 3 1 ((pickR cs ds ws i).map I) ∧ (∀ b m m', vl = .opn b m → vr ≠ .opn b m') ∧ Has 7 [(1, dv), (3, .ptr W.next 0), (6, .ptr (W.next + 1) 0), (7, I (2 + (cs.length : Int))), (8, .slice (W.next + 2) 0 (2 + cs.length + ds.length) (2 + cs.length + ds.length)), (10, .ptr (G0.next) 0), (12, I (i : Int))] s.T ∧ s.D = [] ∧ Grow W s.H ∧ s.H.get W.next = some (.cells [cv, I g.slo, I g.shi, I g.klo, I g.khi, I g.melt] 26) ∧ s.H.get (W.next + 1) = some (.cells [I 0, I 0, .nils, .nils] 30) ∧ s.H.get (W.next + 2) = some (.cells (fillW ws (2 + cs.length + ds.length) (2 + cs.length + ds.length)) 64) ∧ s.H.get (G0.next) = some (.cells [I (pickT g ws).snow, I (pickT g ws).soak, vl, vr] 30) ∧ G0.next + 1 ≤ s.H.next) (ds.length) (by unfold loopFuel; omega)
          ⟨0, vl, vr, rfl, Nat.zero_le _, hml, hmr, hsep, Has.of (by kernel_rfl), rfl, hg, f0, f1, f2, f3, hb4⟩ ?_
        rintro n ⟨T, D, G⟩ ⟨i, vl, vr, hn, hi, hml, hmr, hsep, ⟨f, hT⟩, hD, hg, f0, f1, f2, f3, hb4⟩
        dsimp only at *
        subst hT hD
        have hgn := hg.next
        have e0 : (G.get W.next).bind AObj.cs = some [cv, I g.slo, I g.shi, I g.klo, I g.khi, I g.melt] := by rw [f0]; rfl
        have e2 : (G.get (W.next + 2)).bind AObj.cs = some (fillW ws (2 + cs.length + ds.length) (2 + cs.length + ds.length)) := by rw [f2]; rfl
        have e3 : (G.get (G0.next)).bind AObj.cs = some [I (pickT g ws).snow, I (pickT g ws).soak, vl, vr] := by rw [f3]; rfl
        obtain ⟨ll, hll, _⟩ := hml.len
        obtain ⟨lr, hlr, _⟩ := hmr.len
        refine kS ?_; refine kS ?_; refine kR ?_; refine oM rfl rfl ?_; refine oM rfl rfl ?_; refine oB rfl rfl rfl qbl ?_; refine OkO.bin rfl rfl rfl (bin_lss _ _) ?_; refine oN ?_
        refine Ok.cond rfl (fun h4 => ?_) (fun h4 => ?_)
        · have hlt : i < ds.length := by simpa using h4
          have hx0 : ds.getD i default = ds[i] := by simp [hlt]
          obtain ⟨bb, off, ccs, i1, i2w, i3, i4⟩ := (hY.ext (hE W hG)).at_ i ds[i].c (by simp [hlt])
          have i2 : (G.get bb).bind AObj.cs = some ccs := by rw [hg.get _ i4]; exact i2w
          have i4g : bb < G.next := by omega
          have i5 : seg ccs (off + 0) 2 = some [I ds[i].lo, I ds[i].hi] := seg_sub i3 0 2 (by omega) (by omega)
          have hxl := hd _ (List.getElem_mem hlt)
          unfold Day.lim at hxl
          have p2 : (fillW ws (2 + cs.length + ds.length) (2 + cs.length + ds.length))[0 + (2 + cs.length + i) * 1]? = some (U (nextW ws (2 + cs.length + i))) := by rw [fillW_get (by omega), if_pos (by omega)]
          have hpl : (pickR cs ds ws i).length = i := by simp [pickR]
          refine Ok.skip ?_; refine kS ?_; refine Ok.block ?_; refine Ok.drawn [(0, true, []), (1, true, []), (2, true, []), (3, true, []), (4, true, []), (5, true, []), (6, true, []), (7, true, []), (8, true, []), (9, true, []), (10, true, []), (11, true, []), (12, true, []), (13, false, [1]), (14, true, [12, 6, 1]), (15, false, [12, 6]), (16, true, []), (17, false, [])] (by kernel_rfl) ?_; refine pS ?_; refine oF (o := 3) rfl (by kernel_rfl) rfl ?_; refine oN ⟨rfl, ?_⟩; refine pS ?_; refine oL rfl rfl (lda (n := 1) (by kernel_rfl) (by first | assumption | (simp (disch := first | omega | (simp only [hNw, hPt]; omega)) only [gN] <;> first | rfl | assumption)) (by first | rfl | assumption)) ?_; refine oN ⟨rfl, ?_⟩; refine pS ?_; refine oM rfl rfl ?_; refine oN ⟨rfl, ?_⟩; refine pS ?_; refine oM rfl rfl ?_; refine oN ⟨rfl, ?_⟩; refine pS ?_; refine qX (sz := 3) (n := i) rfl rfl rfl ?_; refine oN ⟨rfl, ?_⟩; refine pS ?_; refine oF (o := 0) rfl (by kernel_rfl) rfl ?_; refine oN ⟨rfl, ?_⟩; refine pS ?_; refine oL rfl rfl (ldg (n := 2) (by kernel_rfl) (by first | assumption | (simp (disch := first | omega | (simp only [hNw, hPt]; omega)) only [gN] <;> first | rfl | assumption)) (by first | rfl | assumption)) ?_; refine oN ⟨rfl, ?_⟩; refine pS ?_; refine oM rfl rfl ?_; refine oN ⟨rfl, ?_⟩; refine pS ?_; refine oM rfl rfl ?_; refine oN ⟨rfl, ?_⟩; refine pS ?_; refine oM rfl rfl ?_; refine oN ⟨rfl, ?_⟩; refine pS ?_; refine OkO.bin rfl rfl rfl (bin_add (by omega) (by omega)) ?_; refine oN ⟨rfl, ?_⟩; refine pS ?_; refine qX (sz := 1) (n := 2 + cs.length + i) rfl rfl (congrArg (fun z => some (I z)) (by push_cast; rfl)) ?_; refine oN ⟨rfl, ?_⟩; refine pS ?_; refine oL rfl rfl (lda (n := 1) (by kernel_rfl) (by first | assumption | (simp (disch := first | omega | (simp only [hNw, hPt]; omega)) only [gN] <;> first | rfl | assumption)) (by first | rfl | assumption)) ?_; refine oN ⟨rfl, ?_⟩; refine pS ?_; refine oV rfl rfl rfl rfl rfl (c49 _ _ _ _ _ (by omega) (next_bd hws _)) ?_
          refine oN ⟨(sco (sld rfl rfl (lda (n := 1) (by kernel_rfl) (by first | assumption | (simp (disch := first | omega | (simp only [hNw, hPt]; omega)) only [gN] <;> first | rfl | assumption)) (by first | rfl | assumption)) rfl (eqr _ (by first | rfl | exact lpl (by assumption) | (simp [AV.plain, AV.plains, AV.cells, AV.plain])))) rfl), ?_⟩; refine pS ?_; refine OkO.buildSlice (el := 3) (sz := 1) (z := [.int .i64 0]) rfl (by kernel_rfl) (by decide) rfl rfl ?_
          refine oN ⟨(sco (sld rfl rfl (lda (n := 1) (by kernel_rfl) (by first | assumption | (simp (disch := first | omega | (simp only [hNw, hPt]; omega)) only [gN] <;> first | rfl | assumption)) (by first | rfl | assumption)) rfl (eqr _ (by first | rfl | exact lpl (by assumption) | (simp [AV.plain, AV.plains, AV.cells, AV.plain])))) (sco (sld rfl rfl (ldg (n := 2) (by kernel_rfl) (by first | assumption | (simp (disch := first | omega | (simp only [hNw, hPt]; omega)) only [gN] <;> first | rfl | assumption)) (by first | rfl | assumption)) rfl (eqr _ (by first | rfl | exact lpl (by assumption) | (simp [AV.plain, AV.plains, AV.cells, AV.plain])))) (sco (sld rfl rfl (lda (n := 1) (by kernel_rfl) (by first | assumption | (simp (disch := first | omega | (simp only [hNw, hPt]; omega)) only [gN] <;> first | rfl | assumption)) (by first | rfl | assumption)) rfl (eqr _ (by first | rfl | exact lpl (by assumption) | (simp [AV.plain, AV.plains, AV.cells, AV.plain])))) rfl))), ?_⟩; refine pS ?_; refine OkO.builtinE rfl rfl rfl (Mine.app2 (W := W) (k0 := G0.next + 1) (sz := 1) (by_ := 8) (e := 3) (n := 1) (new := [I (pickI ds[i].lo ds[i].hi (nextW ws (2 + cs.length + i)))]) (hmr.to (Grow.toNew G _)) (hg.new _) (by omega) (by simp only [hNw]; omega) (by kernel_rfl) (by kernel_rfl) (elems_new (n := 1) (sz := 1) rfl) rfl rfl (by rw [List.length_map, hpl]; omega) (by omega) (by omega) rfl) ?_
          rintro v2 G2 ⟨q1, q2, q3, q4, q5, q6⟩
          simp only [hNw] at q4 q5 q6
          obtain ⟨mm, hv2⟩ := q6
          have z0 : G2.get (W.next) = some (.cells [cv, I g.slo, I g.shi, I g.klo, I g.khi, I g.melt] 26) := by rw [q3.get _ (by omega) (by simp only [hNw]; omega), gno _ _ _ (by omega)]; exact f0
          have y0 : (G2.get (W.next)).bind AObj.cs = some [cv, I g.slo, I g.shi, I g.klo, I g.khi, I g.melt] := by rw [z0]; rfl
          have z1 : G2.get (W.next + 1) = some (.cells [I 0, I 0, .nils, .nils] 30) := by rw [q3.get _ (by omega) (by simp only [hNw]; omega), gno _ _ _ (by omega)]; exact f1
          have y1 : (G2.get (W.next + 1)).bind AObj.cs = some [I 0, I 0, .nils, .nils] := by rw [z1]; rfl
          have z2 : G2.get (W.next + 2) = some (.cells (fillW ws (2 + cs.length + ds.length) (2 + cs.length + ds.length)) 64) := by rw [q3.get _ (by omega) (by simp only [hNw]; omega), gno _ _ _ (by omega)]; exact f2
          have y2 : (G2.get (W.next + 2)).bind AObj.cs = some (fillW ws (2 + cs.length + ds.length) (2 + cs.length + ds.length)) := by rw [z2]; rfl
          have z3 : G2.get (G0.next) = some (.cells [I (pickT g ws).snow, I (pickT g ws).soak, vl, vr] 30) := by rw [q3.get _ (by omega) (by simp only [hNw]; omega), gno _ _ _ (by omega)]; exact f3
          have y3 : (G2.get (G0.next)).bind AObj.cs = some [I (pickT g ws).snow, I (pickT g ws).soak, vl, vr] := by rw [z3]; rfl
          have hmo : Mine (G0.next + 1) G2 vl 3 1 _ := (hml.to (Grow.toNew G _)).keep (w := vr) (fun j h1 h2 => q4 j (by simpa using h1) h2) (fun b m m' h1 h2 => hsep b m m' h1 h2) (by simp only [hNw]; omega)
          have hs2 : ∀ b m m', vl = .opn b m → v2 ≠ .opn b m' := fun b m m' h1 h2 => by rw [hv2] at h2; have e9 := (AV.opn.inj h2).1; have := hml.lt h1; omega
          have iw : (G2.get bb).bind AObj.cs = some ccs := by rw [q2.get _ i4]; exact i2w
          obtain ⟨bb2, hbb2⟩ : ∃ bb2, bb2 = G.next + 1 := ⟨_, rfl⟩
          rw [← hbb2] at hv2
          subst hv2
          refine oN ⟨(sco (sld rfl rfl (lda (n := 1) (by kernel_rfl) (by first | assumption | (simp (disch := first | omega | (simp only [hNw, hPt]; omega)) only [gN] <;> first | rfl | assumption)) (by first | rfl | assumption)) rfl (eqr _ (by first | rfl | exact lpl (by assumption) | (simp [AV.plain, AV.plains, AV.cells, AV.plain])))) (sco (sld rfl rfl (ldg (n := 2) (by kernel_rfl) (by first | assumption | (simp (disch := first | omega | (simp only [hNw, hPt]; omega)) only [gN] <;> first | rfl | assumption)) (by first | rfl | assumption)) rfl (eqr _ (by first | rfl | exact lpl (by assumption) | (simp [AV.plain, AV.plains, AV.cells, AV.plain])))) rfl)), ?_⟩; refine pS ?_; refine oF (o := 3) rfl (by kernel_rfl) rfl ?_; refine oN ⟨rfl, ?_⟩; refine pS ?_; refine oT rfl rfl rfl (sAc (n := 1) (ag := false) (by kernel_rfl) (by first | assumption | (simp (disch := first | omega | (simp only [hNw, hPt]; omega)) only [gN] <;> first | rfl | assumption)) rfl rfl (by first | rfl | first | exact fillW_set (by omega) | exact spl_set _ _ _ (by first | assumption | (simp; omega)))) ?_; refine oN ⟨rfl, ?_⟩; refine OkP.nil ?_; refine kR ?_; refine oM rfl rfl ?_; refine OkO.bin rfl rfl rfl (bin_add (by omega) (by omega)) ?_; refine oA rfl rfl ?_; refine oN ?_
          refine ⟨ds.length - (i + 1), by omega, i + 1, vl, .opn bb2 mm, rfl, hlt, ?_, ?_, hs2, Has.of (by kernel_rfl), rfl, q2.put _ (by omega), by rw [gpo _ _ _ _ (by omega)]; exact z0, by rw [gpo _ _ _ _ (by omega)]; exact z1, by rw [gpo _ _ _ _ (by omega)]; exact z2, gp0 _ _ _, by simp only [hPt]; omega⟩
          · exact hmo.put _ (by omega)
          · rw [pickR_succ, hx0]; exact q1.put _ (by omega)
        · have hge : i = ds.length := by simp at h4; omega
          subst hge
          obtain ⟨l1, l2⟩ := hml.one
          obtain ⟨r1, r2⟩ := hmr.one
          refine Ok.exit ?_; refine kS ?_; refine kR ?_; refine oL rfl rfl (ldg (n := 4) (by kernel_rfl) (by first | assumption | (simp (disch := first | omega | (simp only [hNw, hPt]; omega)) only [gN] <;> first | rfl | assumption)) (by first | rfl | assumption)) ?_; refine oT rfl rfl rfl (sAc (n := 4) (ag := true) (l := [I (pickT g ws).snow, I (pickT g ws).soak, vl, vr]) (by kernel_rfl) (by first | assumption | simp (disch := first | omega | (simp only [hNw, hPt]; omega)) only [gN] <;> first | rfl | assumption) rfl (by show atoms [I (pickT g ws).snow, I (pickT g ws).soak, vl, vr] = true; simp [atoms, l2, r2, show ∀ z, (I z).atom = true from fun _ => rfl]) rfl) ?_; refine oN ?_
          refine Ok.ret ⟨.inr rfl, ?_⟩
          refine back_newA (resV_cell (b := W.next + 1) (off := 0) rfl (ldg (n := 4) (by kernel_rfl) (show ((G.put (W.next + 1) (.cells [I (pickT g ws).snow, I (pickT g ws).soak, vl, vr] 30)).get (W.next + 1)).bind AObj.cs = some [I (pickT g ws).snow, I (pickT g ws).soak, vl, vr] by rw [gp0]; rfl) rfl) resV_nil) rfl (by rw [← hW]; exact hg.put _ (by omega)) (fun H2 q2 q3 => ⟨vl, vr, rfl, q2, ?_, ?_, l2, r2⟩)
          · exact (Mine.back (l := (pickL cs ws cs.length).map fun n => [I n]) (H := H) (by rw [ints_flat]; exact hml.put (n := W.next + 1) (.cells [I (pickT g ws).snow, I (pickT g ws).soak, vl, vr] 30) (by omega)) (fun x hx => by simp only [List.mem_map] at hx; obtain ⟨y, _, rfl⟩ := hx; rfl) (by omega) (q3.imp (fun h => ⟨h.1, (flat4 h.2).1⟩) id)).1
          · exact (Mine.back (l := (pickR cs ds ws ds.length).map fun n => [I n]) (H := H) (by rw [ints_flat]; exact hmr.put (n := W.next + 1) (.cells [I (pickT g ws).snow, I (pickT g ws).soak, vl, vr] 30) (by omega)) (fun x hx => by simp only [List.mem_map] at hx; obtain ⟨y, _, rfl⟩ := hx; rfl) (by omega) (q3.imp (fun h => ⟨h.1, (flat4 h.2).2⟩) id)).1
  · have hge : i = (2 + cs.length + ds.length) := by simp at g1; omega
    have f2n : G.get (W.next + 2) = some (.cells (fillW ws (2 + cs.length + ds.length) (2 + cs.length + ds.length)) 64) := by rw [f2, hge]
    obtain ⟨G0, hG0⟩ : ∃ G0, G0 = G := ⟨_, rfl⟩
    subst hG0
    have p0 : (fillW ws (2 + cs.length + ds.length) (2 + cs.length + ds.length))[0 + 0 * 1]? = some (U (nextW ws 0)) := by rw [fillW_get (by omega), if_pos (by omega)]
    have p1 : (fillW ws (2 + cs.length + ds.length) (2 + cs.length + ds.length))[0 + 1 * 1]? = some (U (nextW ws 1)) := by rw [fillW_get (by omega), if_pos (by omega)]
    have f2 : G0.get (W.next + 2) = some (.cells (fillW ws (2 + cs.length + ds.length) (2 + cs.length + ds.length)) 64) := f2n
    have e2 : (G0.get (W.next + 2)).bind AObj.cs = some (fillW ws (2 + cs.length + ds.length) (2 + cs.length + ds.length)) := by rw [f2]; rfl
    clear e0
    have e0 : (G0.get W.next).bind AObj.cs = some [cv, I g.slo, I g.shi, I g.klo, I g.khi, I g.melt] := by rw [f0]; rfl
    refine oK rfl ?_; refine oK rfl ?_; refine oK rfl ?_; refine OkO.pick (b := false) rfl rfl nofun (fun _ => rfl) ?_; refine oN ?_; refine Ok.condF rfl ?_; refine Ok.exit ?_; refine kS ?_; refine Ok.drawn [(0, true, []), (1, true, []), (2, true, []), (3, true, []), (4, true, []), (6, true, []), (7, true, []), (8, true, []), (9, true, []), (10, true, []), (13, true, [10, 7, 4, 1]), (5, false, [10, 7]), (11, false, [4, 1]), (12, true, []), (14, false, [])] (by kernel_rfl) ?_; refine pS ?_; refine oF (o := 1) rfl (by kernel_rfl) rfl ?_; refine oN ⟨rfl, ?_⟩; refine pS ?_; refine oL rfl rfl (ldg (n := 2) (by kernel_rfl) (by first | assumption | (simp (disch := first | omega | (simp only [hNw, hPt]; omega)) only [gN] <;> first | rfl | assumption)) (by first | rfl | assumption)) ?_; refine oN ⟨rfl, ?_⟩; refine pS ?_; refine oM rfl rfl ?_; refine oN ⟨rfl, ?_⟩; refine pS ?_; refine qX (sz := 1) (n := 0) rfl rfl rfl ?_; refine oN ⟨rfl, ?_⟩; refine pS ?_; refine oL rfl rfl (lda (n := 1) (by kernel_rfl) (by first | assumption | (simp (disch := first | omega | (simp only [hNw, hPt]; omega)) only [gN] <;> first | rfl | assumption)) (by first | rfl | assumption)) ?_; refine oN ⟨rfl, ?_⟩; refine pS ?_; refine oF (o := 3) rfl (by kernel_rfl) rfl ?_; refine oN ⟨rfl, ?_⟩; refine pS ?_; refine oL rfl rfl (ldg (n := 2) (by kernel_rfl) (by first | assumption | (simp (disch := first | omega | (simp only [hNw, hPt]; omega)) only [gN] <;> first | rfl | assumption)) (by first | rfl | assumption)) ?_; refine oN ⟨rfl, ?_⟩; refine pS ?_; refine oM rfl rfl ?_; refine oN ⟨rfl, ?_⟩; refine pS ?_; refine qX (sz := 1) (n := 1) rfl rfl rfl ?_; refine oN ⟨rfl, ?_⟩; refine pS ?_; refine oL rfl rfl (lda (n := 1) (by kernel_rfl) (by first | assumption | (simp (disch := first | omega | (simp only [hNw, hPt]; omega)) only [gN] <;> first | rfl | assumption)) (by first | rfl | assumption)) ?_; refine oN ⟨rfl, ?_⟩; refine pS ?_; refine OkO.alloc (z := [.int .i64 0, .int .i64 0, .nils, .nils]) rfl (by kernel_rfl) ?_
    refine oN ⟨(sco (sld rfl rfl (lda (n := 1) (by kernel_rfl) (by first | assumption | (simp (disch := first | omega | (simp only [hNw, hPt]; omega)) only [gN] <;> first | rfl | assumption)) (by first | rfl | assumption)) rfl (eqr _ (by first | rfl | exact lpl (by assumption) | (simp [AV.plain, AV.plains, AV.cells, AV.plain])))) (sco (sld rfl rfl (ldg (n := 2) (by kernel_rfl) (by first | assumption | (simp (disch := first | omega | (simp only [hNw, hPt]; omega)) only [gN] <;> first | rfl | assumption)) (by first | rfl | assumption)) rfl (eqr _ (by first | rfl | exact lpl (by assumption) | (simp [AV.plain, AV.plains, AV.cells, AV.plain])))) (sco (sld rfl rfl (lda (n := 1) (by kernel_rfl) (by first | assumption | (simp (disch := first | omega | (simp only [hNw, hPt]; omega)) only [gN] <;> first | rfl | assumption)) (by first | rfl | assumption)) rfl (eqr _ (by first | rfl | exact lpl (by assumption) | (simp [AV.plain, AV.plains, AV.cells, AV.plain])))) (sco (sld rfl rfl (ldg (n := 2) (by kernel_rfl) (by first | assumption | (simp (disch := first | omega | (simp only [hNw, hPt]; omega)) only [gN] <;> first | rfl | assumption)) (by first | rfl | assumption)) rfl (eqr _ (by first | rfl | exact lpl (by assumption) | (simp [AV.plain, AV.plains, AV.cells, AV.plain])))) rfl)))), ?_⟩; refine pS ?_; refine oV rfl rfl rfl rfl rfl (c49 _ _ _ _ _ (by omega) (next_bd hws _)) ?_
    refine oN ⟨(sco (sld rfl rfl (lda (n := 1) (by kernel_rfl) (by first | assumption | (simp (disch := first | omega | (simp only [hNw, hPt]; omega)) only [gN] <;> first | rfl | assumption)) (by first | rfl | assumption)) rfl (eqr _ (by first | rfl | exact lpl (by assumption) | (simp [AV.plain, AV.plains, AV.cells, AV.plain])))) (sco (sld rfl rfl (ldg (n := 2) (by kernel_rfl) (by first | assumption | (simp (disch := first | omega | (simp only [hNw, hPt]; omega)) only [gN] <;> first | rfl | assumption)) (by first | rfl | assumption)) rfl (eqr _ (by first | rfl | exact lpl (by assumption) | (simp [AV.plain, AV.plains, AV.cells, AV.plain])))) rfl)), ?_⟩; refine pS ?_; refine oV rfl rfl rfl rfl rfl (c49 _ _ _ _ _ (by omega) (next_bd hws _)) ?_
    refine oN ⟨(sco (sld rfl rfl (lda (n := 1) (by kernel_rfl) (by first | assumption | (simp (disch := first | omega | (simp only [hNw, hPt]; omega)) only [gN] <;> first | rfl | assumption)) (by first | rfl | assumption)) rfl (eqr _ (by first | rfl | exact lpl (by assumption) | (simp [AV.plain, AV.plains, AV.cells, AV.plain])))) (sco (sld rfl rfl (ldg (n := 2) (by kernel_rfl) (by first | assumption | (simp (disch := first | omega | (simp only [hNw, hPt]; omega)) only [gN] <;> first | rfl | assumption)) (by first | rfl | assumption)) rfl (eqr _ (by first | rfl | exact lpl (by assumption) | (simp [AV.plain, AV.plains, AV.cells, AV.plain])))) rfl)), ?_⟩; refine pS ?_; refine OkO.build (z := [.int .i64 0, .int .i64 0, .nils, .nils]) (pl := [(0, 1), (1, 1), (2, 1), (3, 1)]) rfl (by kernel_rfl) rfl rfl ?_; refine oN ⟨rfl, ?_⟩; refine pS ?_; refine oT rfl rfl rfl (sAc (n := 4) (ag := true) (by kernel_rfl) (by first | assumption | (simp (disch := first | omega | (simp only [hNw, hPt]; omega)) only [gN] <;> first | rfl | assumption)) rfl rfl (by first | rfl | first | exact fillW_set (by omega) | exact spl_set _ _ _ (by first | assumption | (simp; omega)))) ?_; refine oN ⟨rfl, ?_⟩; refine OkP.nil ?_; refine kS ?_; refine kR ?_; refine oA rfl rfl ?_; refine oN ?_; refine kS ?_; refine kS ?_; refine kR ?_; refine oA rfl rfl ?_; refine oN ?_; refine Ok.block ?_
    refine Ok.loop (fun n s => ∃ (i : Nat) (vl vr : AV), n = cs.length - i ∧ i ≤ cs.length ∧ Mine (G0.next + 1) s.H vl 3 1 ((pickL cs ws i).map I) ∧ Mine (G0.next + 1) s.H vr 3 1 ((pickR cs ds ws 0).map I) ∧ (∀ b m m', vl = .opn b m → vr ≠ .opn b m') ∧ Has 7 [(1, dv), (3, .ptr W.next 0), (6, .ptr (W.next + 1) 0), (7, I 2), (8, .slice (W.next + 2) 0 (2 + cs.length + ds.length) (2 + cs.length + ds.length)), (10, .ptr (G0.next) 0), (11, I (i : Int))] s.T ∧ s.D = [] ∧ Grow W s.H ∧ s.H.get W.next = some (.cells [cv, I g.slo, I g.shi, I g.klo, I g.khi, I g.melt] 26) ∧ s.H.get (W.next + 1) = some (.cells [I 0, I 0, .nils, .nils] 30) ∧ s.H.get (W.next + 2) = some (.cells (fillW ws (2 + cs.length + ds.length) (2 + cs.length + ds.length)) 64) ∧ s.H.get (G0.next) = some (.cells [I (pickT g ws).snow, I (pickT g ws).soak, vl, vr] 30) ∧ G0.next + 1 ≤ s.H.next) (cs.length) (by unfold loopFuel; omega)
      ⟨0, .nils, .nils, rfl, Nat.zero_le _, Mine.nil _ _ _ _, Mine.nil _ _ _ _, nofun, Has.of (by kernel_rfl), rfl, (by (try dsimp only); repeat (first | (first | exact hg | exact hG) | apply Grow.new | (refine Grow.put ?_ _ (by first | omega | (simp only [hNw, hPt]; omega))))), (by simp (disch := first | omega | (simp only [hNw, hPt]; omega)) only [gN] <;> first | rfl | assumption), (by simp (disch := first | omega | (simp only [hNw, hPt]; omega)) only [gN] <;> first | rfl | assumption), (by simp (disch := first | omega | (simp only [hNw, hPt]; omega)) only [gN] <;> first | rfl | assumption), gp0 _ _ _, by simp only [hNw, hPt]; omega⟩ ?_
    rintro n ⟨T, D, G⟩ ⟨i, vl, vr, hn, hi, hml, hmr, hsep, ⟨f, hT⟩, hD, hg, f0, f1, f2, f3, hb4⟩
    dsimp only at *
    subst hT hD
    have hgn := hg.next
    have e0 : (G.get W.next).bind AObj.cs = some [cv, I g.slo, I g.shi, I g.klo, I g.khi, I g.melt] := by rw [f0]; rfl
    have e2 : (G.get (W.next + 2)).bind AObj.cs = some (fillW ws (2 + cs.length + ds.length) (2 + cs.length + ds.length)) := by rw [f2]; rfl
    have e3 : (G.get (G0.next)).bind AObj.cs = some [I (pickT g ws).snow, I (pickT g ws).soak, vl, vr] := by rw [f3]; rfl
    obtain ⟨ll, hll, _⟩ := hml.len
    obtain ⟨lr, hlr, _⟩ := hmr.len
    refine kS ?_; refine kS ?_; refine kR ?_; refine oM rfl rfl ?_; refine oF (o := 0) rfl (by kernel_rfl) rfl ?_; refine oL rfl rfl (lda (n := 1) (by kernel_rfl) (by first | assumption | (simp (disch := first | omega | (simp only [hNw, hPt]; omega)) only [gN] <;> first | rfl | assumption)) (by first | rfl | assumption)) ?_; refine oB rfl rfl rfl qbl ?_; refine OkO.bin rfl rfl rfl (bin_lss _ _) ?_; refine oN ?_
    refine Ok.cond rfl (fun h5 => ?_) (fun h5 => ?_)
    · have hlt : i < cs.length := by simpa using h5
      have hx0 : cs.getD i default = cs[i] := by simp [hlt]
      obtain ⟨bb, off, ccs, i1, i2w, i3, i4⟩ := (hR.ext (hE W hG)).at_ i cs[i].c (by simp [hlt])
      have i2 : (G.get bb).bind AObj.cs = some ccs := by rw [hg.get _ i4]; exact i2w
      have i4g : bb < G.next := by omega
      have i5 : seg ccs (off + 0) 2 = some [I cs[i].lo, I cs[i].hi] := seg_sub i3 0 2 (by omega) (by omega)
      have hxl := hc _ (List.getElem_mem hlt)
      unfold Cell.lim at hxl
      have p2 : (fillW ws (2 + cs.length + ds.length) (2 + cs.length + ds.length))[0 + (2 + i) * 1]? = some (U (nextW ws (2 + i))) := by rw [fillW_get (by omega), if_pos (by omega)]
      have hpl : (pickL cs ws i).length = i := by simp [pickL]
      refine Ok.skip ?_; refine kS ?_; refine Ok.block ?_; refine Ok.drawn [(0, true, []), (1, true, []), (2, true, []), (3, true, []), (4, true, []), (5, true, []), (6, true, []), (7, true, []), (8, true, []), (9, true, []), (10, true, []), (11, true, []), (12, true, []), (13, true, []), (14, false, [3, 1]), (15, true, [13, 7, 3, 1]), (16, false, [13, 7, 3]), (17, true, []), (18, false, [])] (by kernel_rfl) ?_; refine pS ?_; refine oF (o := 2) rfl (by kernel_rfl) rfl ?_; refine oN ⟨rfl, ?_⟩; refine pS ?_; refine oL rfl rfl (lda (n := 1) (by kernel_rfl) (by first | assumption | (simp (disch := first | omega | (simp only [hNw, hPt]; omega)) only [gN] <;> first | rfl | assumption)) (by first | rfl | assumption)) ?_; refine oN ⟨rfl, ?_⟩; refine pS ?_; refine oF (o := 0) rfl (by kernel_rfl) rfl ?_; refine oN ⟨rfl, ?_⟩; refine pS ?_; refine oL rfl rfl (lda (n := 1) (by kernel_rfl) (by first | assumption | (simp (disch := first | omega | (simp only [hNw, hPt]; omega)) only [gN] <;> first | rfl | assumption)) (by first | rfl | assumption)) ?_; refine oN ⟨rfl, ?_⟩; refine pS ?_; refine oM rfl rfl ?_; refine oN ⟨rfl, ?_⟩; refine pS ?_; refine qX (sz := 7) (n := i) rfl rfl rfl ?_; refine oN ⟨rfl, ?_⟩; refine pS ?_; refine oF (o := 0) rfl (by kernel_rfl) rfl ?_; refine oN ⟨rfl, ?_⟩; refine pS ?_; refine oL rfl rfl (ldg (n := 2) (by kernel_rfl) (by first | assumption | (simp (disch := first | omega | (simp only [hNw, hPt]; omega)) only [gN] <;> first | rfl | assumption)) (by first | rfl | assumption)) ?_; refine oN ⟨rfl, ?_⟩; refine pS ?_; refine oM rfl rfl ?_; refine oN ⟨rfl, ?_⟩; refine pS ?_; refine oM rfl rfl ?_; refine oN ⟨rfl, ?_⟩; refine pS ?_; refine oM rfl rfl ?_; refine oN ⟨rfl, ?_⟩; refine pS ?_; refine OkO.bin rfl rfl rfl (bin_add (by omega) (by omega)) ?_; refine oN ⟨rfl, ?_⟩; refine pS ?_; refine qX (sz := 1) (n := 2 + i) rfl rfl (congrArg (fun z => some (I z)) (by push_cast; rfl)) ?_; refine oN ⟨rfl, ?_⟩; refine pS ?_; refine oL rfl rfl (lda (n := 1) (by kernel_rfl) (by first | assumption | (simp (disch := first | omega | (simp only [hNw, hPt]; omega)) only [gN] <;> first | rfl | assumption)) (by first | rfl | assumption)) ?_; refine oN ⟨rfl, ?_⟩; refine pS ?_; refine oV rfl rfl rfl rfl rfl (c49 _ _ _ _ _ (by omega) (next_bd hws _)) ?_
      refine oN ⟨(sco (sld rfl rfl (lda (n := 1) (by kernel_rfl) (by first | assumption | (simp (disch := first | omega | (simp only [hNw, hPt]; omega)) only [gN] <;> first | rfl | assumption)) (by first | rfl | assumption)) rfl (eqr _ (by first | rfl | exact lpl (by assumption) | (simp [AV.plain, AV.plains, AV.cells, AV.plain])))) (sco (sld rfl rfl (lda (n := 1) (by kernel_rfl) (by first | assumption | (simp (disch := first | omega | (simp only [hNw, hPt]; omega)) only [gN] <;> first | rfl | assumption)) (by first | rfl | assumption)) rfl (eqr _ (by first | rfl | exact lpl (by assumption) | (simp [AV.plain, AV.plains, AV.cells, AV.plain])))) rfl)), ?_⟩; refine pS ?_; refine OkO.buildSlice (el := 3) (sz := 1) (z := [.int .i64 0]) rfl (by kernel_rfl) (by decide) rfl rfl ?_
      refine oN ⟨(sco (sld rfl rfl (lda (n := 1) (by kernel_rfl) (by first | assumption | (simp (disch := first | omega | (simp only [hNw, hPt]; omega)) only [gN] <;> first | rfl | assumption)) (by first | rfl | assumption)) rfl (eqr _ (by first | rfl | exact lpl (by assumption) | (simp [AV.plain, AV.plains, AV.cells, AV.plain])))) (sco (sld rfl rfl (ldg (n := 2) (by kernel_rfl) (by first | assumption | (simp (disch := first | omega | (simp only [hNw, hPt]; omega)) only [gN] <;> first | rfl | assumption)) (by first | rfl | assumption)) rfl (eqr _ (by first | rfl | exact lpl (by assumption) | (simp [AV.plain, AV.plains, AV.cells, AV.plain])))) (sco (sld rfl rfl (lda (n := 1) (by kernel_rfl) (by first | assumption | (simp (disch := first | omega | (simp only [hNw, hPt]; omega)) only [gN] <;> first | rfl | assumption)) (by first | rfl | assumption)) rfl (eqr _ (by first | rfl | exact lpl (by assumption) | (simp [AV.plain, AV.plains, AV.cells, AV.plain])))) (sco (sld rfl rfl (lda (n := 1) (by kernel_rfl) (by first | assumption | (simp (disch := first | omega | (simp only [hNw, hPt]; omega)) only [gN] <;> first | rfl | assumption)) (by first | rfl | assumption)) rfl (eqr _ (by first | rfl | exact lpl (by assumption) | (simp [AV.plain, AV.plains, AV.cells, AV.plain])))) rfl)))), ?_⟩; refine pS ?_; refine OkO.builtinE rfl rfl rfl (Mine.app2 (W := W) (k0 := G0.next + 1) (sz := 1) (by_ := 8) (e := 3) (n := 1) (new := [I (pickI cs[i].lo cs[i].hi (nextW ws (2 + i)))]) (hml.to (Grow.toNew G _)) (hg.new _) (by omega) (by simp only [hNw]; omega) (by kernel_rfl) (by kernel_rfl) (elems_new (n := 1) (sz := 1) rfl) rfl rfl (by rw [List.length_map, hpl]; omega) (by omega) (by omega) rfl) ?_
      rintro v2 G2 ⟨q1, q2, q3, q4, q5, q6⟩
      simp only [hNw] at q4 q5 q6
      obtain ⟨mm, hv2⟩ := q6
      have z0 : G2.get (W.next) = some (.cells [cv, I g.slo, I g.shi, I g.klo, I g.khi, I g.melt] 26) := by rw [q3.get _ (by omega) (by simp only [hNw]; omega), gno _ _ _ (by omega)]; exact f0
      have y0 : (G2.get (W.next)).bind AObj.cs = some [cv, I g.slo, I g.shi, I g.klo, I g.khi, I g.melt] := by rw [z0]; rfl
      have z1 : G2.get (W.next + 1) = some (.cells [I 0, I 0, .nils, .nils] 30) := by rw [q3.get _ (by omega) (by simp only [hNw]; omega), gno _ _ _ (by omega)]; exact f1
      have y1 : (G2.get (W.next + 1)).bind AObj.cs = some [I 0, I 0, .nils, .nils] := by rw [z1]; rfl
      have z2 : G2.get (W.next + 2) = some (.cells (fillW ws (2 + cs.length + ds.length) (2 + cs.length + ds.length)) 64) := by rw [q3.get _ (by omega) (by simp only [hNw]; omega), gno _ _ _ (by omega)]; exact f2
      have y2 : (G2.get (W.next + 2)).bind AObj.cs = some (fillW ws (2 + cs.length + ds.length) (2 + cs.length + ds.length)) := by rw [z2]; rfl
      have z3 : G2.get (G0.next) = some (.cells [I (pickT g ws).snow, I (pickT g ws).soak, vl, vr] 30) := by rw [q3.get _ (by omega) (by simp only [hNw]; omega), gno _ _ _ (by omega)]; exact f3
      have y3 : (G2.get (G0.next)).bind AObj.cs = some [I (pickT g ws).snow, I (pickT g ws).soak, vl, vr] := by rw [z3]; rfl
      have hmo : Mine (G0.next + 1) G2 vr 3 1 _ := (hmr.to (Grow.toNew G _)).keep (w := vl) (fun j h1 h2 => q4 j (by simpa using h1) h2) (fun b m m' h1 h2 => hsep b m' m h2 h1) (by simp only [hNw]; omega)
      have hs2 : ∀ b m m', v2 = .opn b m → vr ≠ .opn b m' := fun b m m' h1 h2 => by rw [hv2] at h1; have e9 := (AV.opn.inj h1).1; have := hmr.lt h2; omega
      have iw : (G2.get bb).bind AObj.cs = some ccs := by rw [q2.get _ i4]; exact i2w
      obtain ⟨bb2, hbb2⟩ : ∃ bb2, bb2 = G.next + 1 := ⟨_, rfl⟩
      rw [← hbb2] at hv2
      subst hv2
      refine oN ⟨(sco (sld rfl rfl (lda (n := 1) (by kernel_rfl) (by first | assumption | (simp (disch := first | omega | (simp only [hNw, hPt]; omega)) only [gN] <;> first | rfl | assumption)) (by first | rfl | assumption)) rfl (eqr _ (by first | rfl | exact lpl (by assumption) | (simp [AV.plain, AV.plains, AV.cells, AV.plain])))) (sco (sld rfl rfl (ldg (n := 2) (by kernel_rfl) (by first | assumption | (simp (disch := first | omega | (simp only [hNw, hPt]; omega)) only [gN] <;> first | rfl | assumption)) (by first | rfl | assumption)) rfl (eqr _ (by first | rfl | exact lpl (by assumption) | (simp [AV.plain, AV.plains, AV.cells, AV.plain])))) (sco (sld rfl rfl (lda (n := 1) (by kernel_rfl) (by first | assumption | (simp (disch := first | omega | (simp only [hNw, hPt]; omega)) only [gN] <;> first | rfl | assumption)) (by first | rfl | assumption)) rfl (eqr _ (by first | rfl | exact lpl (by assumption) | (simp [AV.plain, AV.plains, AV.cells, AV.plain])))) rfl))), ?_⟩; refine pS ?_; refine oF (o := 2) rfl (by kernel_rfl) rfl ?_; refine oN ⟨rfl, ?_⟩; refine pS ?_; refine oT rfl rfl rfl (sAc (n := 1) (ag := false) (by kernel_rfl) (by first | assumption | (simp (disch := first | omega | (simp only [hNw, hPt]; omega)) only [gN] <;> first | rfl | assumption)) rfl rfl (by first | rfl | first | exact fillW_set (by omega) | exact spl_set _ _ _ (by first | assumption | (simp; omega)))) ?_; refine oN ⟨rfl, ?_⟩; refine OkP.nil ?_; refine kR ?_; refine oM rfl rfl ?_; refine OkO.bin rfl rfl rfl (bin_add (by omega) (by omega)) ?_; refine oA rfl rfl ?_; refine oN ?_
      refine ⟨cs.length - (i + 1), by omega, i + 1, .opn bb2 mm, vr, rfl, hlt, ?_, ?_, hs2, Has.of (by kernel_rfl), rfl, q2.put _ (by omega), by rw [gpo _ _ _ _ (by omega)]; exact z0, by rw [gpo _ _ _ _ (by omega)]; exact z1, by rw [gpo _ _ _ _ (by omega)]; exact z2, gp0 _ _ _, by simp only [hPt]; omega⟩
      · rw [pickL_succ, hx0]; exact q1.put _ (by omega)
      · exact hmo.put _ (by omega)
    · have hge : i = cs.length := by simp at h5; omega
      subst hge
      refine Ok.exit ?_; refine kS ?_; refine kR ?_; refine oM rfl rfl ?_; refine oF (o := 0) rfl (by kernel_rfl) rfl ?_; refine oL rfl rfl (lda (n := 1) (by kernel_rfl) (by first | assumption | (simp (disch := first | omega | (simp only [hNw, hPt]; omega)) only [gN] <;> first | rfl | assumption)) (by first | rfl | assumption)) ?_; refine oB rfl rfl rfl qbl ?_; refine OkO.bin rfl rfl rfl (bin_add (by omega) (by omega)) ?_; refine oA rfl rfl ?_; refine oN ?_; refine kS ?_; refine kS ?_; refine kR ?_; refine oA rfl rfl ?_; refine oN ?_; refine Ok.block ?_
      refine Ok.loop (fun n s => ∃ (i : Nat) (vl vr : AV), n = ds.length - i ∧ i ≤ ds.length ∧ Mine (G0.next + 1) s.H vl 3 1 ((pickL cs ws cs.length).map I) ∧ Mine (G0.next + 1) s.H vr 3 1 ((pickR cs ds ws i).map I) ∧ (∀ b m m', vl = .opn b m → vr ≠ .opn b m') ∧ Has 7 [(1, dv), (3, .ptr W.next 0), (6, .ptr (W.next + 1) 0), (7, I (2 + (cs.length : Int))), (8, .slice (W.next + 2) 0 (2 + cs.length + ds.length) (2 + cs.length + ds.length)), (10, .ptr (G0.next) 0), (12, I (i : Int))] s.T ∧ s.D = [] ∧ Grow W s.H ∧ s.H.get W.next = some (.cells [cv, I g.slo, I g.shi, I g.klo, I g.khi, I g.melt] 26) ∧ s.H.get (W.next + 1) = some (.cells [I 0, I 0, .nils, .nils] 30) ∧ s.H.get (W.next + 2) = some (.cells (fillW ws (2 + cs.length + ds.length) (2 + cs.length + ds.length)) 64) ∧ s.H.get (G0.next) = some (.cells [I (pickT g ws).snow, I (pickT g ws).soak, vl, vr] 30) ∧ G0.next + 1 ≤ s.H.next) (ds.length) (by unfold loopFuel; omega)
        ⟨0, vl, vr, rfl, Nat.zero_le _, hml, hmr, hsep, Has.of (by kernel_rfl), rfl, hg, f0, f1, f2, f3, hb4⟩ ?_
      rintro n ⟨T, D, G⟩ ⟨i, vl, vr, hn, hi, hml, hmr, hsep, ⟨f, hT⟩, hD, hg, f0, f1, f2, f3, hb4⟩
      dsimp only at *
      subst hT hD
      have hgn := hg.next
      have e0 : (G.get W.next).bind AObj.cs = some [cv, I g.slo, I g.shi, I g.klo, I g.khi, I g.melt] := by rw [f0]; rfl
      have e2 : (G.get (W.next + 2)).bind AObj.cs = some (fillW ws (2 + cs.length + ds.length) (2 + cs.length + ds.length)) := by rw [f2]; rfl
      have e3 : (G.get (G0.next)).bind AObj.cs = some [I (pickT g ws).snow, I (pickT g ws).soak, vl, vr] := by rw [f3]; rfl
      obtain ⟨ll, hll, _⟩ := hml.len
      obtain ⟨lr, hlr, _⟩ := hmr.len
      refine kS ?_; refine kS ?_; refine kR ?_; refine oM rfl rfl ?_; refine oM rfl rfl ?_; refine oB rfl rfl rfl qbl ?_; refine OkO.bin rfl rfl rfl (bin_lss _ _) ?_; refine oN ?_
      refine Ok.cond rfl (fun h6 => ?_) (fun h6 => ?_)
      · have hlt : i < ds.length := by simpa using h6
        have hx0 : ds.getD i default = ds[i] := by simp [hlt]
        obtain ⟨bb, off, ccs, i1, i2w, i3, i4⟩ := (hY.ext (hE W hG)).at_ i ds[i].c (by simp [hlt])
        have i2 : (G.get bb).bind AObj.cs = some ccs := by rw [hg.get _ i4]; exact i2w
        have i4g : bb < G.next := by omega
        have i5 : seg ccs (off + 0) 2 = some [I ds[i].lo, I ds[i].hi] := seg_sub i3 0 2 (by omega) (by omega)
        have hxl := hd _ (List.getElem_mem hlt)
        unfold Day.lim at hxl
        have p2 : (fillW ws (2 + cs.length + ds.length) (2 + cs.length + ds.length))[0 + (2 + cs.length + i) * 1]? = some (U (nextW ws (2 + cs.length + i))) := by rw [fillW_get (by omega), if_pos (by omega)]
        have hpl : (pickR cs ds ws i).length = i := by simp [pickR]
        refine Ok.skip ?_; refine kS ?_; refine Ok.block ?_; refine Ok.drawn [(0, true, []), (1, true, []), (2, true, []), (3, true, []), (4, true, []), (5, true, []), (6, true, []), (7, true, []), (8, true, []), (9, true, []), (10, true, []), (11, true, []), (12, true, []), (13, false, [1]), (14, true, [12, 6, 1]), (15, false, [12, 6]), (16, true, []), (17, false, [])] (by kernel_rfl) ?_; refine pS ?_; refine oF (o := 3) rfl (by kernel_rfl) rfl ?_; refine oN ⟨rfl, ?_⟩; refine pS ?_; refine oL rfl rfl (lda (n := 1) (by kernel_rfl) (by first | assumption | (simp (disch := first | omega | (simp only [hNw, hPt]; omega)) only [gN] <;> first | rfl | assumption)) (by first | rfl | assumption)) ?_; refine oN ⟨rfl, ?_⟩; refine pS ?_; refine oM rfl rfl ?_; refine oN ⟨rfl, ?_⟩; refine pS ?_; refine oM rfl rfl ?_; refine oN ⟨rfl, ?_⟩; refine pS ?_; refine qX (sz := 3) (n := i) rfl rfl rfl ?_; refine oN ⟨rfl, ?_⟩; refine pS ?_; refine oF (o := 0) rfl (by kernel_rfl) rfl ?_; refine oN ⟨rfl, ?_⟩; refine pS ?_; refine oL rfl rfl (ldg (n := 2) (by kernel_rfl) (by first | assumption | (simp (disch := first | omega | (simp only [hNw, hPt]; omega)) only [gN] <;> first | rfl | assumption)) (by first | rfl | assumption)) ?_; refine oN ⟨rfl, ?_⟩; refine pS ?_; refine oM rfl rfl ?_; refine oN ⟨rfl, ?_⟩; refine pS ?_; refine oM rfl rfl ?_; refine oN ⟨rfl, ?_⟩; refine pS ?_; refine oM rfl rfl ?_; refine oN ⟨rfl, ?_⟩; refine pS ?_; refine OkO.bin rfl rfl rfl (bin_add (by omega) (by omega)) ?_; refine oN ⟨rfl, ?_⟩; refine pS ?_; refine qX (sz := 1) (n := 2 + cs.length + i) rfl rfl (congrArg (fun z => some (I z)) (by push_cast; rfl)) ?_; refine oN ⟨rfl, ?_⟩; refine pS ?_; refine oL rfl rfl (lda (n := 1) (by kernel_rfl) (by first | assumption | (simp (disch := first | omega | (simp only [hNw, hPt]; omega)) only [gN] <;> first | rfl | assumption)) (by first | rfl | assumption)) ?_; refine oN ⟨rfl, ?_⟩; refine pS ?_; refine oV rfl rfl rfl rfl rfl (c49 _ _ _ _ _ (by omega) (next_bd hws _)) ?_
        refine oN ⟨(sco (sld rfl rfl (lda (n := 1) (by kernel_rfl) (by first | assumption | (simp (disch := first | omega | (simp only [hNw, hPt]; omega)) only [gN] <;> first | rfl | assumption)) (by first | rfl | assumption)) rfl (eqr _ (by first | rfl | exact lpl (by assumption) | (simp [AV.plain, AV.plains, AV.cells, AV.plain])))) rfl), ?_⟩; refine pS ?_; refine OkO.buildSlice (el := 3) (sz := 1) (z := [.int .i64 0]) rfl (by kernel_rfl) (by decide) rfl rfl ?_
        refine oN ⟨(sco (sld rfl rfl (lda (n := 1) (by kernel_rfl) (by first | assumption | (simp (disch := first | omega | (simp only [hNw, hPt]; omega)) only [gN] <;> first | rfl | assumption)) (by first | rfl | assumption)) rfl (eqr _ (by first | rfl | exact lpl (by assumption) | (simp [AV.plain, AV.plains, AV.cells, AV.plain])))) (sco (sld rfl rfl (ldg (n := 2) (by kernel_rfl) (by first | assumption | (simp (disch := first | omega | (simp only [hNw, hPt]; omega)) only [gN] <;> first | rfl | assumption)) (by first | rfl | assumption)) rfl (eqr _ (by first | rfl | exact lpl (by assumption) | (simp [AV.plain, AV.plains, AV.cells, AV.plain])))) (sco (sld rfl rfl (lda (n := 1) (by kernel_rfl) (by first | assumption | (simp (disch := first | omega | (simp only [hNw, hPt]; omega)) only [gN] <;> first | rfl | assumption)) (by first | rfl | assumption)) rfl (eqr _ (by first | rfl | exact lpl (by assumption) | (simp [AV.plain, AV.plains, AV.cells, AV.plain])))) rfl))), ?_⟩; refine pS ?_; refine OkO.builtinE rfl rfl rfl (Mine.app2 (W := W) (k0 := G0.next + 1) (sz := 1) (by_ := 8) (e := 3) (n := 1) (new := [I (pickI ds[i].lo ds[i].hi (nextW ws (2 + cs.length + i)))]) (hmr.to (Grow.toNew G _)) (hg.new _) (by omega) (by simp only [hNw]; omega) (by kernel_rfl) (by kernel_rfl) (elems_new (n := 1) (sz := 1) rfl) rfl rfl (by rw [List.length_map, hpl]; omega) (by omega) (by omega) rfl) ?_
        rintro v2 G2 ⟨q1, q2, q3, q4, q5, q6⟩
        simp only [hNw] at q4 q5 q6
        obtain ⟨mm, hv2⟩ := q6
        have z0 : G2.get (W.next) = some (.cells [cv, I g.slo, I g.shi, I g.klo, I g.khi, I g.melt] 26) := by rw [q3.get _ (by omega) (by simp only [hNw]; omega), gno _ _ _ (by omega)]; exact f0
        have y0 : (G2.get (W.next)).bind AObj.cs = some [cv, I g.slo, I g.shi, I g.klo, I g.khi, I g.melt] := by rw [z0]; rfl
        have z1 : G2.get (W.next + 1) = some (.cells [I 0, I 0, .nils, .nils] 30) := by rw [q3.get _ (by omega) (by simp only [hNw]; omega), gno _ _ _ (by omega)]; exact f1
        have y1 : (G2.get (W.next + 1)).bind AObj.cs = some [I 0, I 0, .nils, .nils] := by rw [z1]; rfl
        have z2 : G2.get (W.next + 2) = some (.cells (fillW ws (2 + cs.length + ds.length) (2 + cs.length + ds.length)) 64) := by rw [q3.get _ (by omega) (by simp only [hNw]; omega), gno _ _ _ (by omega)]; exact f2
        have y2 : (G2.get (W.next + 2)).bind AObj.cs = some (fillW ws (2 + cs.length + ds.length) (2 + cs.length + ds.length)) := by rw [z2]; rfl
        have z3 : G2.get (G0.next) = some (.cells [I (pickT g ws).snow, I (pickT g ws).soak, vl, vr] 30) := by rw [q3.get _ (by omega) (by simp only [hNw]; omega), gno _ _ _ (by omega)]; exact f3
        have y3 : (G2.get (G0.next)).bind AObj.cs = some [I (pickT g ws).snow, I (pickT g ws).soak, vl, vr] := by rw [z3]; rfl
        have hmo : Mine (G0.next + 1) G2 vl 3 1 _ := (hml.to (Grow.toNew G _)).keep (w := vr) (fun j h1 h2 => q4 j (by simpa using h1) h2) (fun b m m' h1 h2 => hsep b m m' h1 h2) (by simp only [hNw]; omega)
        have hs2 : ∀ b m m', vl = .opn b m → v2 ≠ .opn b m' := fun b m m' h1 h2 => by rw [hv2] at h2; have e9 := (AV.opn.inj h2).1; have := hml.lt h1; omega
        have iw : (G2.get bb).bind AObj.cs = some ccs := by rw [q2.get _ i4]; exact i2w
        obtain ⟨bb2, hbb2⟩ : ∃ bb2, bb2 = G.next + 1 := ⟨_, rfl⟩
        rw [← hbb2] at hv2
        subst hv2
        refine oN ⟨(sco (sld rfl rfl (lda (n := 1) (by kernel_rfl) (by first | assumption | (simp (disch := first | omega | (simp only [hNw, hPt]; omega)) only [gN] <;> first | rfl | assumption)) (by first | rfl | assumption)) rfl (eqr _ (by first | rfl | exact lpl (by assumption) | (simp [AV.plain, AV.plains, AV.cells, AV.plain])))) (sco (sld rfl rfl (ldg (n := 2) (by kernel_rfl) (by first | assumption | (simp (disch := first | omega | (simp only [hNw, hPt]; omega)) only [gN] <;> first | rfl | assumption)) (by first | rfl | assumption)) rfl (eqr _ (by first | rfl | exact lpl (by assumption) | (simp [AV.plain, AV.plains, AV.cells, AV.plain])))) rfl)), ?_⟩; refine pS ?_; refine oF (o := 3) rfl (by kernel_rfl) rfl ?_; refine oN ⟨rfl, ?_⟩; refine pS ?_; refine oT rfl rfl rfl (sAc (n := 1) (ag := false) (by kernel_rfl) (by first | assumption | (simp (disch := first | omega | (simp only [hNw, hPt]; omega)) only [gN] <;> first | rfl | assumption)) rfl rfl (by first | rfl | first | exact fillW_set (by omega) | exact spl_set _ _ _ (by first | assumption | (simp; omega)))) ?_; refine oN ⟨rfl, ?_⟩; refine OkP.nil ?_; refine kR ?_; refine oM rfl rfl ?_; refine OkO.bin rfl rfl rfl (bin_add (by omega) (by omega)) ?_; refine oA rfl rfl ?_; refine oN ?_
        refine ⟨ds.length - (i + 1), by omega, i + 1, vl, .opn bb2 mm, rfl, hlt, ?_, ?_, hs2, Has.of (by kernel_rfl), rfl, q2.put _ (by omega), by rw [gpo _ _ _ _ (by omega)]; exact z0, by rw [gpo _ _ _ _ (by omega)]; exact z1, by rw [gpo _ _ _ _ (by omega)]; exact z2, gp0 _ _ _, by simp only [hPt]; omega⟩
        · exact hmo.put _ (by omega)
        · rw [pickR_succ, hx0]; exact q1.put _ (by omega)
      · have hge : i = ds.length := by simp at h6; omega
        subst hge
        obtain ⟨l1, l2⟩ := hml.one
        obtain ⟨r1, r2⟩ := hmr.one
        refine Ok.exit ?_; refine kS ?_; refine kR ?_; refine oL rfl rfl (ldg (n := 4) (by kernel_rfl) (by first | assumption | (simp (disch := first | omega | (simp only [hNw, hPt]; omega)) only [gN] <;> first | rfl | assumption)) (by first | rfl | assumption)) ?_; refine oT rfl rfl rfl (sAc (n := 4) (ag := true) (l := [I (pickT g ws).snow, I (pickT g ws).soak, vl, vr]) (by kernel_rfl) (by first | assumption | simp (disch := first | omega | (simp only [hNw, hPt]; omega)) only [gN] <;> first | rfl | assumption) rfl (by show atoms [I (pickT g ws).snow, I (pickT g ws).soak, vl, vr] = true; simp [atoms, l2, r2, show ∀ z, (I z).atom = true from fun _ => rfl]) rfl) ?_; refine oN ?_
        refine Ok.ret ⟨.inr rfl, ?_⟩
        refine back_newA (resV_cell (b := W.next + 1) (off := 0) rfl (ldg (n := 4) (by kernel_rfl) (show ((G.put (W.next + 1) (.cells [I (pickT g ws).snow, I (pickT g ws).soak, vl, vr] 30)).get (W.next + 1)).bind AObj.cs = some [I (pickT g ws).snow, I (pickT g ws).soak, vl, vr] by rw [gp0]; rfl) rfl) resV_nil) rfl (by rw [← hW]; exact hg.put _ (by omega)) (fun H2 q2 q3 => ⟨vl, vr, rfl, q2, ?_, ?_, l2, r2⟩)
        · exact (Mine.back (l := (pickL cs ws cs.length).map fun n => [I n]) (H := H) (by rw [ints_flat]; exact hml.put (n := W.next + 1) (.cells [I (pickT g ws).snow, I (pickT g ws).soak, vl, vr] 30) (by omega)) (fun x hx => by simp only [List.mem_map] at hx; obtain ⟨y, _, rfl⟩ := hx; rfl) (by omega) (q3.imp (fun h => ⟨h.1, (flat4 h.2).1⟩) id)).1
        · exact (Mine.back (l := (pickR cs ds ws ds.length).map fun n => [I n]) (H := H) (by rw [ints_flat]; exact hmr.put (n := W.next + 1) (.cells [I (pickT g ws).snow, I (pickT g ws).soak, vl, vr] 30) (by omega)) (fun x hx => by simp only [List.mem_map] at hx; obtain ⟨y, _, rfl⟩ := hx; rfl) (by omega) (q3.imp (fun h => ⟨h.1, (flat4 h.2).2⟩) id)).1
end
end Go.Ev

set_option maxRecDepth 100000
set_option linter.unusedSimpArgs false
set_option linter.unusedVariables false
namespace Go.Ev
open Go Go.Proofs
noncomputable section
theorem getD_lt {a : List Int} {i : Nat} (h : i < a.length) : a.getD i 0 = a[i] := by rw [List.getD_eq_getElem?_getD, List.getElem?_eq_getElem h]; rfl
/-- A truth by words is one of the ground's. -/
theorem pick_ok {cs : List Cell} {g : Gr} {ds : List Day} (ws : List Int) (h : daysErr cs g ds = 0) : truthErr cs g ds (pickT g ws) (pickL cs ws cs.length) (pickR cs ds ws ds.length) = 0 := by
  have h0 := h
  unfold daysErr at h0
  split at h0
  · rename_i h6
    split at h0
    · simp at h0
    · split at h0
      · rename_i h8
        simp only [gOk, Bool.and_eq_true] at h6
        obtain ⟨⟨⟨⟨⟨k1, k2⟩, k3⟩, k4⟩, k5⟩, k6⟩ := h6
        rw [List.all_eq_true] at k2 h8
        simp only [okR, Bool.and_eq_true, decide_eq_true_eq] at k4 k5
        have a1 := pick_in (w := nextW ws 0) k4.1.2
        have a2 := pick_in (w := nextW ws 1) k5.1.2
        have e1 : inB (pickT g ws).snow g.slo g.shi = true := by simp only [inB, Bool.and_eq_true, decide_eq_true_eq]; exact a1
        have e2 : inB (pickT g ws).soak g.klo g.khi = true := by simp only [inB, Bool.and_eq_true, decide_eq_true_eq]; exact a2
        have e3 : fitsB (pickL cs ws cs.length) (cs.map Cell.lv) = true := (fits_iff _ _).2 ⟨by simp [pickL], fun i u r q1 q2 => by
          simp only [pickL, List.getElem?_map, Option.map_eq_some_iff] at q1 q2
          obtain ⟨j, q3, rfl⟩ := q1
          obtain ⟨x, q4, rfl⟩ := q2
          have hi := (List.getElem?_eq_some_iff.1 q4).1
          rw [List.getElem?_range hi] at q3
          cases q3
          have hx : cs.getD i default = x := by rw [List.getD_eq_getElem?_getD, q4]; rfl
          have hl := Cell.ok_lim (k2 x (List.mem_of_getElem? q4))
          unfold Cell.lim at hl
          rw [hx]
          have := pick_in (w := nextW ws (2 + i)) hl.2.1.2.1
          simp only [inB, Bool.and_eq_true, decide_eq_true_eq]
          exact this⟩
        have e4 : fitsB (pickR cs ds ws ds.length) (ds.map Day.rn) = true := (fits_iff _ _).2 ⟨by simp [pickR], fun i u r q1 q2 => by
          simp only [pickR, List.getElem?_map, Option.map_eq_some_iff] at q1 q2
          obtain ⟨j, q3, rfl⟩ := q1
          obtain ⟨x, q4, rfl⟩ := q2
          have hi := (List.getElem?_eq_some_iff.1 q4).1
          rw [List.getElem?_range hi] at q3
          cases q3
          have hx : ds.getD i default = x := by rw [List.getD_eq_getElem?_getD, q4]; rfl
          have hl := Day.ok_lim (h8 x (List.mem_of_getElem? q4))
          unfold Day.lim at hl
          rw [hx]
          have := pick_in (w := nextW ws (2 + cs.length + i)) hl.1.2.1
          simp only [inB, Bool.and_eq_true, decide_eq_true_eq]
          exact this⟩
        unfold truthErr
        rw [if_pos h, e1, e2, e3, e4]
        rfl
      · simp at h0
  · simp at h0
/-- What a valid ground with days is. -/
structure GF (cs : List Cell) (g : Gr) (ds : List Day) : Prop where
  n8 : 1 ≤ cs.length ∧ cs.length ≤ 8
  lim : ∀ x ∈ cs, x.lim
  dlim : ∀ x ∈ ds, x.lim
  d30 : ds.length ≤ 30
  snow : 0 ≤ g.slo ∧ g.slo ≤ g.shi ∧ g.shi ≤ 100000
  soak : 0 ≤ g.klo ∧ g.klo ≤ g.khi ∧ g.khi ≤ 1000
theorem gf_of {cs : List Cell} {g : Gr} {ds : List Day} (h : daysErr cs g ds = 0) : GF cs g ds := by
  unfold daysErr at h
  split at h
  · rename_i h6
    split at h
    · simp at h
    · rename_i h7
      split at h
      · rename_i h8
        simp only [gOk, Bool.and_eq_true] at h6
        obtain ⟨⟨⟨⟨⟨k1, k2⟩, k3⟩, k4⟩, k5⟩, k6⟩ := h6
        rw [List.all_eq_true] at k2 h8
        simp only [inB, okR, Bool.and_eq_true, decide_eq_true_eq] at k1 k4 k5
        exact ⟨by omega, fun x hx => Cell.ok_lim (k2 x hx), fun x hx => Day.ok_lim (h8 x hx), by omega, by omega, by omega⟩
      · simp at h
  · simp at h
theorem ready_ok {cs : List Cell} {g : Gr} {ds : List Day} (h : readyB cs g ds = true) : daysErr cs g ds = 0 := by
  simp only [readyB, Bool.and_eq_true, decide_eq_true_eq] at h; exact h.2
end
end Go.Ev

set_option maxRecDepth 100000
set_option linter.unusedSimpArgs false
set_option linter.unusedVariables false
namespace Go.Ev
open Go Go.Proofs
noncomputable section
end
end Go.Ev

set_option maxRecDepth 100000
set_option linter.unusedSimpArgs false
set_option linter.unusedVariables false
namespace Go.Ev
open Go Go.Proofs Go.RowKit
noncomputable section
theorem cells3 : Try.prog.cellsOf 3 = 1 := by kernel_rfl
theorem cells24 : Try.prog.cellsOf 24 = 2 := by kernel_rfl
theorem cells91 : Try.prog.cellsOf 91 = 7 := by kernel_rfl
theorem cells118 : Try.prog.cellsOf 118 = 3 := by kernel_rfl
theorem cells22 : Try.prog.cellsOf 22 = 1 := by kernel_rfl
theorem cells26 : Try.prog.cellsOf 26 = 6 := by kernel_rfl
theorem cells64 : Try.prog.cellsOf 64 = 1 := by kernel_rfl
variable {H0 : Type} {enc : TypeId × Value → H0} {w : World} {base : Nat} {sp : Nat → Bool} {hd : Bool} {n : Nat}
theorem int_open {c : List Value} {y} (h : DataW.trod enc Try.prog w base sp hd n 3 c = some y) : ∃ x : Int, c = [.int .i64 x] := by
  obtain ⟨x, h1, _, _⟩ := DataW.trod_int Try.underlying3 h
  exact ⟨x, h1⟩
theorem u16_open {c : List Value} {y} (h : DataW.trod enc Try.prog w base sp hd n 64 c = some y) : ∃ x : Int, c = [.int .u16 x] ∧ 0 ≤ x ∧ x ≤ 65535 := by
  obtain ⟨x, h1, _, hw⟩ := DataW.trod_int Try.underlying64 h
  refine ⟨x, h1, ?_⟩
  have h2 : (decide (IntKind.min .u16 ≤ x) && decide (x ≤ IntKind.max .u16)) = true := hw
  rw [Bool.and_eq_true] at h2
  have h3 := of_decide_eq_true h2.1
  have h4 := of_decide_eq_true h2.2
  have e1 : IntKind.min .u16 = 0 := by decide
  have e2 : IntKind.max .u16 = 65535 := by decide
  omega
theorem pair_open {c : List Value} {y} (h : DataW.trod enc Try.prog w base sp hd n 24 c = some y) : ∃ a b : Int, c = [.int .i64 a, .int .i64 b] := by
  obtain ⟨xs, k, _, _, hl, hx, hf⟩ := DataW.trod_struct Try.underlying24 h
  rw [cells24] at hl
  match c, hl with
  | [p, q], _ =>
    have h0 : DataW.trod enc Try.prog w base sp hd k 3 (([p, q].drop 0).take (Try.prog.cellsOf 3)) = xs[0]? := hf 0 _ rfl
    have h1 : DataW.trod enc Try.prog w base sp hd k 3 (([p, q].drop 1).take (Try.prog.cellsOf 3)) = xs[1]? := hf 1 _ rfl
    rw [cells3] at h0 h1
    match xs, hx with
    | [x0, x1], _ =>
      obtain ⟨a, ha⟩ := int_open h0
      obtain ⟨b, hb⟩ := int_open h1
      simp at ha hb
      exact ⟨a, b, by rw [ha, hb]⟩
theorem cell_open {c : List Value} {y} (h : DataW.trod enc Try.prog w base sp hd n 91 c = some y) : ∃ b : Cell, ∀ k, toAVs k c = b.c := by
  obtain ⟨xs, k, _, _, hl, hx, hf⟩ := DataW.trod_struct Try.underlying91 h
  rw [cells91] at hl
  match c, hl with
  | [c0, c1, c2, c3, c4, c5, c6], _ =>
    have h0 : DataW.trod enc Try.prog w base sp hd k 24 (([c0, c1, c2, c3, c4, c5, c6].drop 0).take (Try.prog.cellsOf 24)) = xs[0]? := hf 0 _ rfl
    rw [cells24] at h0
    have h1 : DataW.trod enc Try.prog w base sp hd k 3 (([c0, c1, c2, c3, c4, c5, c6].drop 2).take (Try.prog.cellsOf 3)) = xs[1]? := hf 1 _ rfl
    rw [cells3] at h1
    have h2 : DataW.trod enc Try.prog w base sp hd k 3 (([c0, c1, c2, c3, c4, c5, c6].drop 3).take (Try.prog.cellsOf 3)) = xs[2]? := hf 2 _ rfl
    rw [cells3] at h2
    have h3 : DataW.trod enc Try.prog w base sp hd k 3 (([c0, c1, c2, c3, c4, c5, c6].drop 4).take (Try.prog.cellsOf 3)) = xs[3]? := hf 3 _ rfl
    rw [cells3] at h3
    have h4 : DataW.trod enc Try.prog w base sp hd k 3 (([c0, c1, c2, c3, c4, c5, c6].drop 5).take (Try.prog.cellsOf 3)) = xs[4]? := hf 4 _ rfl
    rw [cells3] at h4
    have h5 : DataW.trod enc Try.prog w base sp hd k 3 (([c0, c1, c2, c3, c4, c5, c6].drop 6).take (Try.prog.cellsOf 3)) = xs[5]? := hf 5 _ rfl
    rw [cells3] at h5
    match xs, hx with
    | [x0, x1, x2, x3, x4, x5], _ =>
      obtain ⟨a0_0, a0_1, e0⟩ := pair_open h0
      obtain ⟨a1_0, e1⟩ := int_open h1
      obtain ⟨a2_0, e2⟩ := int_open h2
      obtain ⟨a3_0, e3⟩ := int_open h3
      obtain ⟨a4_0, e4⟩ := int_open h4
      obtain ⟨a5_0, e5⟩ := int_open h5
      simp at e0 e1 e2 e3 e4 e5
      refine ⟨⟨a0_0, a0_1, a1_0, a2_0, a3_0, a4_0, a5_0⟩, fun k => ?_⟩
      rw [e0.1, e0.2, e1, e2, e3, e4, e5]
      rfl
theorem day_open {c : List Value} {y} (h : DataW.trod enc Try.prog w base sp hd n 118 c = some y) : ∃ b : Day, ∀ k, toAVs k c = b.c := by
  obtain ⟨xs, k, _, _, hl, hx, hf⟩ := DataW.trod_struct Try.underlying118 h
  rw [cells118] at hl
  match c, hl with
  | [c0, c1, c2], _ =>
    have h0 : DataW.trod enc Try.prog w base sp hd k 24 (([c0, c1, c2].drop 0).take (Try.prog.cellsOf 24)) = xs[0]? := hf 0 _ rfl
    rw [cells24] at h0
    have h1 : DataW.trod enc Try.prog w base sp hd k 3 (([c0, c1, c2].drop 2).take (Try.prog.cellsOf 3)) = xs[1]? := hf 1 _ rfl
    rw [cells3] at h1
    match xs, hx with
    | [x0, x1], _ =>
      obtain ⟨a0_0, a0_1, e0⟩ := pair_open h0
      obtain ⟨a1_0, e1⟩ := int_open h1
      simp at e0 e1
      refine ⟨⟨a0_0, a0_1, a1_0⟩, fun k => ?_⟩
      rw [e0.1, e0.2, e1]
      rfl
/-- One of each, chosen: a list of what each element has. -/
theorem choose_list {α β : Type} {R : α → β → Prop} : ∀ l : List α, (∀ x ∈ l, ∃ y, R x y) → ∃ m : List β, m.length = l.length ∧ ∀ (i : Nat) x y, l[i]? = some x → m[i]? = some y → R x y := by
  intro l
  induction l with
  | nil => exact fun _ => ⟨[], rfl, fun i x y h => by simp at h⟩
  | cons a t ih =>
    intro h
    obtain ⟨y, hy⟩ := h a (by simp)
    obtain ⟨m, hm, hr⟩ := ih fun x hx => h x (by simp [hx])
    refine ⟨y :: m, by simp [hm], fun i x z h1 h2 => ?_⟩
    cases i with
    | zero => simp at h1 h2; subst h1; subst h2; exact hy
    | succ i => exact hr i x z (by simpa using h1) (by simpa using h2)
theorem map_of_get {α β : Type} {f : α → β} {l : List α} {m : List β} (hl : m.length = l.length) (h : ∀ (i : Nat) x y, l[i]? = some x → m[i]? = some y → f x = y) : l.map f = m := by
  apply List.ext_getElem (by simp [hl])
  intro i h1 h2
  have hi : i < l.length := by simpa using h1
  rw [List.getElem_map]
  exact h i _ _ (List.getElem?_eq_getElem hi) (List.getElem?_eq_getElem h2)
theorem cells_open {H : Heap} (hs : Snap w H) {v : Value} {y} (h : DataW.trod enc Try.prog w base sp hd n 22 [v] = some y) : ∃ l : List Cell, Row H (toAV w.heap.size v) 7 (l.map Cell.c) := by
  obtain ⟨l, hR, _, hl⟩ := hs.slice Try.underlying22 cells91 (by decide) h
  obtain ⟨m, hm, hr⟩ := choose_list (R := fun c (b : Cell) => ∀ k, toAVs k c = b.c) l fun c hc => by
    obtain ⟨_, n', y', hy⟩ := hl c hc
    exact cell_open hy
  refine ⟨m, ?_⟩
  have : l.map (toAVs w.heap.size) = m.map Cell.c := map_of_get (by simp [hm]) fun i x z h1 h2 => by
    rw [List.getElem?_map, Option.map_eq_some_iff] at h2
    obtain ⟨b, h3, rfl⟩ := h2
    exact hr i x b h1 h3 _
  rwa [this] at hR
theorem days_open {H : Heap} (hs : Snap w H) {v : Value} {y} (h : DataW.trod enc Try.prog w base sp hd n 27 [v] = some y) : ∃ l : List Day, Row H (toAV w.heap.size v) 3 (l.map Day.c) := by
  obtain ⟨l, hR, _, hl⟩ := hs.slice Try.underlying27 cells118 (by decide) h
  obtain ⟨m, hm, hr⟩ := choose_list (R := fun c (b : Day) => ∀ k, toAVs k c = b.c) l fun c hc => by
    obtain ⟨_, n', y', hy⟩ := hl c hc
    exact day_open hy
  refine ⟨m, ?_⟩
  have : l.map (toAVs w.heap.size) = m.map Day.c := map_of_get (by simp [hm]) fun i x z h1 h2 => by
    rw [List.getElem?_map, Option.map_eq_some_iff] at h2
    obtain ⟨b, h3, rfl⟩ := h2
    exact hr i x b h1 h3 _
  rwa [this] at hR
theorem words_open {H : Heap} (hs : Snap w H) {v : Value} {y} (h : DataW.trod enc Try.prog w base sp hd n 85 [v] = some y) : ∃ us : List Int, Row H (toAV w.heap.size v) 1 (us.map fun n => [U n]) ∧ Upto 65535 us := by
  obtain ⟨l, hR, _, hl⟩ := hs.slice Try.underlying85 cells64 (by decide) h
  obtain ⟨us, hus, hr⟩ := choose_list (R := fun c (x : Int) => c = [.int .u16 x] ∧ 0 ≤ x ∧ x ≤ 65535) l fun c hc => by
    obtain ⟨_, n', y', hy⟩ := hl c hc
    exact u16_open hy
  refine ⟨us, ?_, fun z hz => ?_⟩
  · have : l.map (toAVs w.heap.size) = us.map fun n => [U n] := map_of_get (by simp [hus]) fun i x z h1 h2 => by
      rw [List.getElem?_map, Option.map_eq_some_iff] at h2
      obtain ⟨b, h3, rfl⟩ := h2
      rw [(hr i x b h1 h3).1]
      rfl
    rwa [this] at hR
  · obtain ⟨i, hi, rfl⟩ := List.mem_iff_getElem.1 hz
    exact (hr i (l[i]'(by omega)) us[i] (List.getElem?_eq_getElem (by omega)) (List.getElem?_eq_getElem hi)).2
/-- A ground at hand. -/
theorem ground_arg {H : Heap} (hs : Snap w H) {v : Value} {d : DataW H0} {p : List MemPlace} (hv : ∃ cs, v = .agg cs ∧ cs.size = Try.prog.cellsOf 26) (h : DataW.Trod enc Try.prog w base sp hd 26 v d p) :
    ∃ (cv : AV) (cs : List Cell) (g : Gr), argAV w.heap.size v = .agg [cv, I g.slo, I g.shi, I g.klo, I g.khi, I g.melt] ∧ Row H cv 7 (cs.map Cell.c) := by
  obtain ⟨cs, rfl, hsz⟩ := hv
  obtain ⟨fuel, h⟩ := h
  obtain ⟨xs, k, _, _, hl, hx, hf⟩ := DataW.trod_struct Try.underlying26 h
  rw [cells26] at hsz
  obtain ⟨cl⟩ := cs
  match cl, hsz with
  | [c0, c1, c2, c3, c4, c5], _ =>
    have h0 : DataW.trod enc Try.prog w base sp hd k 22 (([c0, c1, c2, c3, c4, c5].drop 0).take (Try.prog.cellsOf 22)) = xs[0]? := hf 0 _ rfl
    have h1 : DataW.trod enc Try.prog w base sp hd k 24 (([c0, c1, c2, c3, c4, c5].drop 1).take (Try.prog.cellsOf 24)) = xs[1]? := hf 1 _ rfl
    have h2 : DataW.trod enc Try.prog w base sp hd k 24 (([c0, c1, c2, c3, c4, c5].drop 3).take (Try.prog.cellsOf 24)) = xs[2]? := hf 2 _ rfl
    have h3 : DataW.trod enc Try.prog w base sp hd k 3 (([c0, c1, c2, c3, c4, c5].drop 5).take (Try.prog.cellsOf 3)) = xs[3]? := hf 3 _ rfl
    rw [cells22] at h0
    rw [cells24] at h1 h2
    rw [cells3] at h3
    match xs, hx with
    | [x0, x1, x2, x3], _ =>
      obtain ⟨cs, hc⟩ := cells_open hs (v := c0) h0
      obtain ⟨a, b, e1⟩ := pair_open h1
      obtain ⟨e, f, e2⟩ := pair_open h2
      obtain ⟨z, e3⟩ := int_open h3
      simp at e1 e2 e3
      refine ⟨_, cs, ⟨a, b, e, f, z⟩, ?_, hc⟩
      rw [e1.1, e1.2, e2.1, e2.2, e3]
      rfl
theorem days_arg {H : Heap} (hs : Snap w H) {v : Value} {d : DataW H0} {p : List MemPlace} (hv : ∃ a len cap, v = .slice a len cap) (h : DataW.Trod enc Try.prog w base sp hd 27 v d p) :
    ∃ (dv : AV) (ds : List Day), argAV w.heap.size v = dv ∧ Row H dv 3 (ds.map Day.c) := by
  obtain ⟨a, len, cap, rfl⟩ := hv
  obtain ⟨fuel, h⟩ := h
  obtain ⟨ds, hR⟩ := days_open hs (v := .slice a len cap) h
  exact ⟨_, ds, rfl, hR⟩
theorem words_arg {H : Heap} (hs : Snap w H) {v : Value} {d : DataW H0} {p : List MemPlace} (hv : ∃ a len cap, v = .slice a len cap) (h : DataW.Trod enc Try.prog w base sp hd 85 v d p) :
    ∃ (wv : AV) (ws : List Int), argAV w.heap.size v = wv ∧ Row H wv 1 (ws.map fun n => [U n]) ∧ Upto 65535 ws := by
  obtain ⟨a, len, cap, rfl⟩ := hv
  obtain ⟨fuel, h⟩ := h
  obtain ⟨ws, hR, hb⟩ := words_open hs (v := .slice a len cap) h
  exact ⟨_, ws, rfl, hR, hb⟩
end
end Go.Ev

set_option maxRecDepth 100000
set_option linter.unusedSimpArgs false
set_option linter.unusedVariables false
namespace Go.Ev
open Go Go.Proofs
noncomputable section
theorem flat_no {v : AV} {n : Nat} (h : lenOf v = some n) (hn : 0 < n) : v.flat = false := by
  cases v with
  | nils => simp [lenOf] at h; omega
  | raw u => rfl
  | _ => first | rfl | simp [lenOf] at h
theorem flat_cons {v : AV} {l : List AV} (h : v.flat = false) : (AV.agg (v :: l)).flat = false := by rw [AV.flat, AV.flats, h]
theorem any_ok {cs : List Cell} {g : Gr} {ds : List Day} (h : daysErr cs g ds = 0) {t : Tru} {lvs rain : List Int} (h1 : g.slo ≤ t.snow ∧ t.snow ≤ g.shi) (h2 : g.klo ≤ t.soak ∧ t.soak ≤ g.khi) (h3 : lvs.length = cs.length) (h4 : rain.length = ds.length)
    (h5 : ∀ (i : Nat) x n, cs[i]? = some x → lvs[i]? = some n → x.lo ≤ n ∧ n ≤ x.hi) (h6 : ∀ (i : Nat) x n, ds[i]? = some x → rain[i]? = some n → x.lo ≤ n ∧ n ≤ x.hi) : truthErr cs g ds t lvs rain = 0 := by
  have e1 : inB t.snow g.slo g.shi = true := by simp only [inB, Bool.and_eq_true, decide_eq_true_eq]; exact h1
  have e2 : inB t.soak g.klo g.khi = true := by simp only [inB, Bool.and_eq_true, decide_eq_true_eq]; exact h2
  have e3 : fitsB lvs (cs.map Cell.lv) = true := (fits_iff _ _).2 ⟨by simp [h3], fun i u r q1 q2 => by
    rw [List.getElem?_map, Option.map_eq_some_iff] at q2
    obtain ⟨x, q4, rfl⟩ := q2
    have := h5 i x u q4 q1
    simp only [inB, Bool.and_eq_true]
    exact ⟨decide_eq_true this.1, decide_eq_true this.2⟩⟩
  have e4 : fitsB rain (ds.map Day.rn) = true := (fits_iff _ _).2 ⟨by simp [h4], fun i u r q1 q2 => by
    rw [List.getElem?_map, Option.map_eq_some_iff] at q2
    obtain ⟨x, q4, rfl⟩ := q2
    have := h6 i x u q4 q1
    simp only [inB, Bool.and_eq_true]
    exact ⟨decide_eq_true this.1, decide_eq_true this.2⟩⟩
  unfold truthErr
  rw [if_pos h, e1, e2, e3, e4]
  rfl
def lowT (g : Gr) : Tru := ⟨g.slo, g.klo⟩
def highT (g : Gr) : Tru := ⟨g.shi, g.khi⟩
def lowL (cs : List Cell) : List Int := cs.map Cell.lo
def highL (cs : List Cell) : List Int := cs.map Cell.hi
def lowR (ds : List Day) : List Int := ds.map Day.lo
def highR (ds : List Day) : List Int := ds.map Day.hi
theorem low_ok {cs : List Cell} {g : Gr} {ds : List Day} (h : daysErr cs g ds = 0) : truthErr cs g ds (lowT g) (lowL cs) (lowR ds) = 0 := by
  have hg := gf_of h
  have h1 := hg.snow
  have h2 := hg.soak
  refine any_ok h (by simp only [lowT]; omega) (by simp only [lowT]; omega) (by simp [lowL]) (by simp [lowR]) (fun i x n a1 a2 => ?_) (fun i x n a1 a2 => ?_)
  · simp only [lowL, List.getElem?_map, a1, Option.map_some, Option.some.injEq] at a2
    have := hg.lim x (List.mem_of_getElem? a1); unfold Cell.lim at this; omega
  · simp only [lowR, List.getElem?_map, a1, Option.map_some, Option.some.injEq] at a2
    have := hg.dlim x (List.mem_of_getElem? a1); unfold Day.lim at this; omega
theorem build45 {a b : AV} {n m : Nat} (h : lenOf a = some n) (k : lenOf b = some m) (x y : Int) : fillS (fun i => [(0, 1), (1, 1), (2, 1), (3, 1)][i]?) [I 0, I 0, .nils, .nils] [(0, I x), (1, I y), (2, a), (3, b)] = some [I x, I y, a, b] := by
  have ha := one_cells h
  have hb := one_cells k
  simp [fillS, spl, ha, hb, show ∀ z, (I z).cells = [I z] from fun _ => rfl]
theorem c93l (m : Nat) (cv dv : AV) (cs : List Cell) (g : Gr) (ds : List Day) (H : Heap) (hR : Row H cv 7 (cs.map Cell.c)) (hbig : cs.length ≤ 1000) (hY : Row H dv 3 (ds.map Day.c)) (hbd : ds.length ≤ 1000) (hca : cv.atom = true) (hda : dv.atom = true) (hn1 : 1 ≤ cs.length) : ∃ v H', RR (m + 3) (.fn 93 [.agg [.fn 85 [] []], .agg [cv, I g.slo, I g.shi, I g.klo, I g.khi, I g.melt], dv]) H = some (v, H') ∧ ∃ lv rv, v = .agg [cv, I g.slo, I g.shi, I g.klo, I g.khi, I g.melt, dv, I g.slo, I g.klo, lv, rv] ∧ Ret H H' ∧ Ints H' lv (lowL cs) ∧ Ints H' rv (lowR ds) := by
  show ∃ v H', evFn Try.prog (RR (m + 2)) 93 [.agg [.fn 85 [] []], .agg [cv, I g.slo, I g.shi, I g.klo, I g.khi, I g.melt], dv] H = some (v, H') ∧ ∃ lv rv, v = .agg [cv, I g.slo, I g.shi, I g.klo, I g.khi, I g.melt, dv, I g.slo, I g.klo, lv, rv] ∧ Ret H H' ∧ Ints H' lv (lowL cs) ∧ Ints H' rv (lowR ds)
  refine fn_okE Try.func93 rfl rfl (by kernel_rfl) (by kernel_rfl) ?_
  obtain ⟨W, hW, hg, hN, hE, hG⟩ := wOf H
  rw [← hW]
  have hlc : lenOf cv = some cs.length := by simpa using hR.len
  have pc := lpl hlc
  have hld : lenOf dv = some ds.length := by simpa using hY.len
  refine kS ?_; refine kR ?_; refine OkO.box rfl rfl ?_; refine OkO.box rfl rfl ?_; refine OkO.alloc (z := [.nils, .int .i64 0, .int .i64 0, .int .i64 0, .int .i64 0, .int .i64 0, .nils, .int .i64 0, .int .i64 0, .nils, .nils]) rfl (by kernel_rfl) ?_; refine oN ?_; refine kS ?_; refine Ok.drawn [(0, true, []), (1, true, []), (2, true, []), (3, true, []), (4, true, []), (5, true, []), (7, true, []), (8, true, []), (9, true, []), (10, true, []), (12, true, []), (13, true, []), (15, true, []), (16, true, []), (18, true, []), (20, true, []), (21, true, []), (6, false, [21, 16, 13, 10, 8, 0]), (11, false, [21, 16, 13, 5, 3, 0]), (14, false, [21, 16, 10, 8, 5, 3, 0]), (17, false, [21, 13, 10, 8, 5, 3, 0]), (19, false, [21, 16, 13, 10, 8, 5, 3, 0]), (22, false, [16, 13, 10, 8, 5, 3, 0]), (23, true, []), (24, true, []), (25, false, [])] (by kernel_rfl) ?_; refine pS ?_; refine oL rfl rfl (ldg (n := 6) (by kernel_rfl) (by first | assumption | (simp (disch := first | omega | (simp only [hNw, hPt]; omega)) only [gN] <;> first | rfl | assumption)) (by first | rfl | assumption)) ?_; refine oN ⟨rfl, ?_⟩; refine pS ?_; refine oM rfl rfl ?_; refine oN ⟨rfl, ?_⟩; refine pS ?_; refine oF (o := 0) rfl (by kernel_rfl) rfl ?_; refine oN ⟨rfl, ?_⟩; refine pS ?_; refine oL rfl rfl (lda (n := 1) (by kernel_rfl) (by first | assumption | (simp (disch := first | omega | (simp only [hNw, hPt]; omega)) only [gN] <;> first | rfl | assumption)) (by first | rfl | assumption)) ?_; refine oN ⟨rfl, ?_⟩; refine pS ?_; refine oF (o := 1) rfl (by kernel_rfl) rfl ?_; refine oN ⟨rfl, ?_⟩; refine pS ?_; refine oL rfl rfl (ldg (n := 2) (by kernel_rfl) (by first | assumption | (simp (disch := first | omega | (simp only [hNw, hPt]; omega)) only [gN] <;> first | rfl | assumption)) (by first | rfl | assumption)) ?_; refine oN ⟨rfl, ?_⟩; refine pS ?_; refine oF (o := 0) rfl (by kernel_rfl) rfl ?_; refine oN ⟨rfl, ?_⟩; refine pS ?_; refine oL rfl rfl (lda (n := 1) (by kernel_rfl) (by first | assumption | (simp (disch := first | omega | (simp only [hNw, hPt]; omega)) only [gN] <;> first | rfl | assumption)) (by first | rfl | assumption)) ?_; refine oN ⟨rfl, ?_⟩; refine pS ?_; refine oF (o := 3) rfl (by kernel_rfl) rfl ?_; refine oN ⟨rfl, ?_⟩; refine pS ?_; refine oL rfl rfl (ldg (n := 2) (by kernel_rfl) (by first | assumption | (simp (disch := first | omega | (simp only [hNw, hPt]; omega)) only [gN] <;> first | rfl | assumption)) (by first | rfl | assumption)) ?_; refine oN ⟨rfl, ?_⟩; refine pS ?_; refine oF (o := 0) rfl (by kernel_rfl) rfl ?_; refine oN ⟨rfl, ?_⟩; refine pS ?_; refine oL rfl rfl (lda (n := 1) (by kernel_rfl) (by first | assumption | (simp (disch := first | omega | (simp only [hNw, hPt]; omega)) only [gN] <;> first | rfl | assumption)) (by first | rfl | assumption)) ?_; refine oN ⟨rfl, ?_⟩; refine pS ?_; refine oF (o := 0) rfl (by kernel_rfl) rfl ?_; refine oN ⟨rfl, ?_⟩; refine pS ?_; refine oL rfl rfl (lda (n := 1) (by kernel_rfl) (by first | assumption | (simp (disch := first | omega | (simp only [hNw, hPt]; omega)) only [gN] <;> first | rfl | assumption)) (by first | rfl | assumption)) ?_; refine oN ⟨rfl, ?_⟩; refine pS ?_; refine oM rfl rfl ?_; refine oN ⟨rfl, ?_⟩; refine pS ?_; refine oF (o := 0) rfl (by kernel_rfl) rfl ?_; refine oN ⟨rfl, ?_⟩; refine pS ?_; refine oL rfl rfl (lda (n := 1) (by kernel_rfl) (by first | assumption | (simp (disch := first | omega | (simp only [hNw, hPt]; omega)) only [gN] <;> first | rfl | assumption)) (by first | rfl | assumption)) ?_; refine oN ⟨rfl, ?_⟩; refine pS ?_; refine oV rfl rfl rfl rfl rfl (c85 _ g.slo g.shi _) ?_
  refine oN ⟨(sco (sld rfl rfl (lda (n := 1) (by kernel_rfl) (by first | assumption | (simp (disch := first | omega | (simp only [hNw, hPt]; omega)) only [gN] <;> first | rfl | assumption)) (by first | rfl | assumption)) rfl (eqr _ (by first | rfl | exact lpl (by assumption) | (simp [AV.plain, AV.plains, AV.cells, pc])))) (sco (sld rfl rfl (lda (n := 1) (by kernel_rfl) (by first | assumption | (simp (disch := first | omega | (simp only [hNw, hPt]; omega)) only [gN] <;> first | rfl | assumption)) (by first | rfl | assumption)) rfl (eqr _ (by first | rfl | exact lpl (by assumption) | (simp [AV.plain, AV.plains, AV.cells, pc])))) (sco (sld rfl rfl (lda (n := 1) (by kernel_rfl) (by first | assumption | (simp (disch := first | omega | (simp only [hNw, hPt]; omega)) only [gN] <;> first | rfl | assumption)) (by first | rfl | assumption)) rfl (eqr _ (by first | rfl | exact lpl (by assumption) | (simp [AV.plain, AV.plains, AV.cells, pc])))) (sco (sld rfl rfl (ldg (n := 2) (by kernel_rfl) (by first | assumption | (simp (disch := first | omega | (simp only [hNw, hPt]; omega)) only [gN] <;> first | rfl | assumption)) (by first | rfl | assumption)) rfl (eqr _ (by first | rfl | exact lpl (by assumption) | (simp [AV.plain, AV.plains, AV.cells, pc])))) (sco (sld rfl rfl (lda (n := 1) (by kernel_rfl) (by first | assumption | (simp (disch := first | omega | (simp only [hNw, hPt]; omega)) only [gN] <;> first | rfl | assumption)) (by first | rfl | assumption)) rfl (eqr _ (by first | rfl | exact lpl (by assumption) | (simp [AV.plain, AV.plains, AV.cells, pc])))) (sco (sld rfl rfl (ldg (n := 6) (by kernel_rfl) (by first | assumption | (simp (disch := first | omega | (simp only [hNw, hPt]; omega)) only [gN] <;> first | rfl | assumption)) (by first | rfl | assumption)) rfl (eqr _ (by first | rfl | exact lpl (by assumption) | (simp [AV.plain, AV.plains, AV.cells, pc])))) rfl)))))), ?_⟩; refine pS ?_; refine oV rfl rfl rfl rfl rfl (c85 _ g.klo g.khi _) ?_
  refine oN ⟨(sco (sld rfl rfl (lda (n := 1) (by kernel_rfl) (by first | assumption | (simp (disch := first | omega | (simp only [hNw, hPt]; omega)) only [gN] <;> first | rfl | assumption)) (by first | rfl | assumption)) rfl (eqr _ (by first | rfl | exact lpl (by assumption) | (simp [AV.plain, AV.plains, AV.cells, pc])))) (sco (sld rfl rfl (lda (n := 1) (by kernel_rfl) (by first | assumption | (simp (disch := first | omega | (simp only [hNw, hPt]; omega)) only [gN] <;> first | rfl | assumption)) (by first | rfl | assumption)) rfl (eqr _ (by first | rfl | exact lpl (by assumption) | (simp [AV.plain, AV.plains, AV.cells, pc])))) (sco (sld rfl rfl (lda (n := 1) (by kernel_rfl) (by first | assumption | (simp (disch := first | omega | (simp only [hNw, hPt]; omega)) only [gN] <;> first | rfl | assumption)) (by first | rfl | assumption)) rfl (eqr _ (by first | rfl | exact lpl (by assumption) | (simp [AV.plain, AV.plains, AV.cells, pc])))) (sco (sld rfl rfl (ldg (n := 2) (by kernel_rfl) (by first | assumption | (simp (disch := first | omega | (simp only [hNw, hPt]; omega)) only [gN] <;> first | rfl | assumption)) (by first | rfl | assumption)) rfl (eqr _ (by first | rfl | exact lpl (by assumption) | (simp [AV.plain, AV.plains, AV.cells, pc])))) (sco (sld rfl rfl (lda (n := 1) (by kernel_rfl) (by first | assumption | (simp (disch := first | omega | (simp only [hNw, hPt]; omega)) only [gN] <;> first | rfl | assumption)) (by first | rfl | assumption)) rfl (eqr _ (by first | rfl | exact lpl (by assumption) | (simp [AV.plain, AV.plains, AV.cells, pc])))) (sco (sld rfl rfl (ldg (n := 6) (by kernel_rfl) (by first | assumption | (simp (disch := first | omega | (simp only [hNw, hPt]; omega)) only [gN] <;> first | rfl | assumption)) (by first | rfl | assumption)) rfl (eqr _ (by first | rfl | exact lpl (by assumption) | (simp [AV.plain, AV.plains, AV.cells, pc])))) rfl)))))), ?_⟩; refine pS ?_; refine oE rfl rfl rfl rfl rfl (c77 (m + 0) cv cs _ (hR.ext (hE _ (by (try dsimp only); repeat (first | exact hG | apply Grow.new | (refine Grow.put ?_ _ (by first | omega | (simp only [hNw, hPt]; omega))))))) hbig) ?_
  rintro vA HA ⟨qA, rA, cA, fA⟩
  have gA : Grow W HA := Grow.ret (by (try dsimp only); repeat (first | exact hG | apply Grow.new | (refine Grow.put ?_ _ (by first | omega | (simp only [hNw, hPt]; omega))))) qA
  have nA : W.next + 3 ≤ HA.next := by have := qA.ext.next; first | omega | (simp only [hNw] at this; omega)
  have aA : (HA.get W.next).bind AObj.cs = some [.fn 85 [] []] := by rw [qA.ext.get _ (by first | omega | (simp only [hNw]; omega))]; first | assumption | (simp (disch := first | omega | (simp only [hNw, hPt]; omega)) only [gN] <;> first | rfl | assumption)
  have bA : (HA.get (W.next + 1)).bind AObj.cs = some [cv, I g.slo, I g.shi, I g.klo, I g.khi, I g.melt] := by rw [qA.ext.get _ (by first | omega | (simp only [hNw]; omega))]; first | assumption | (simp (disch := first | omega | (simp only [hNw, hPt]; omega)) only [gN] <;> first | rfl | assumption)
  have zA : HA.get (W.next + 2) = some (.cells [.nils, I 0, I 0, I 0, I 0, I 0, .nils, I 0, I 0, .nils, .nils] 110) := by rw [qA.ext.get _ (by first | omega | (simp only [hNw]; omega))]; first | assumption | exact gn0 _ _ | (simp (disch := first | omega | (simp only [hNw, hPt]; omega)) only [gN] <;> first | rfl | assumption)
  refine oN ⟨(sco (sld rfl rfl (lda (n := 1) (by kernel_rfl) (by first | assumption | (simp (disch := first | omega | (simp only [hNw, hPt]; omega)) only [gN] <;> first | rfl | assumption)) (by first | rfl | assumption)) rfl (eqr _ (by first | rfl | exact lpl (by assumption) | (simp [AV.plain, AV.plains, AV.cells, pc])))) (sco (sld rfl rfl (lda (n := 1) (by kernel_rfl) (by first | assumption | (simp (disch := first | omega | (simp only [hNw, hPt]; omega)) only [gN] <;> first | rfl | assumption)) (by first | rfl | assumption)) rfl (eqr _ (by first | rfl | exact lpl (by assumption) | (simp [AV.plain, AV.plains, AV.cells, pc])))) (sco (sld rfl rfl (ldg (n := 2) (by kernel_rfl) (by first | assumption | (simp (disch := first | omega | (simp only [hNw, hPt]; omega)) only [gN] <;> first | rfl | assumption)) (by first | rfl | assumption)) rfl (eqr _ (by first | rfl | exact lpl (by assumption) | (simp [AV.plain, AV.plains, AV.cells, pc])))) (sco (sld rfl rfl (lda (n := 1) (by kernel_rfl) (by first | assumption | (simp (disch := first | omega | (simp only [hNw, hPt]; omega)) only [gN] <;> first | rfl | assumption)) (by first | rfl | assumption)) rfl (eqr _ (by first | rfl | exact lpl (by assumption) | (simp [AV.plain, AV.plains, AV.cells, pc])))) (sco (sld rfl rfl (ldg (n := 2) (by kernel_rfl) (by first | assumption | (simp (disch := first | omega | (simp only [hNw, hPt]; omega)) only [gN] <;> first | rfl | assumption)) (by first | rfl | assumption)) rfl (eqr _ (by first | rfl | exact lpl (by assumption) | (simp [AV.plain, AV.plains, AV.cells, pc])))) (sco (sld rfl rfl (lda (n := 1) (by kernel_rfl) (by first | assumption | (simp (disch := first | omega | (simp only [hNw, hPt]; omega)) only [gN] <;> first | rfl | assumption)) (by first | rfl | assumption)) rfl (eqr _ (by first | rfl | exact lpl (by assumption) | (simp [AV.plain, AV.plains, AV.cells, pc])))) (sco (sld rfl rfl (ldg (n := 6) (by kernel_rfl) (by first | assumption | (simp (disch := first | omega | (simp only [hNw, hPt]; omega)) only [gN] <;> first | rfl | assumption)) (by first | rfl | assumption)) rfl (eqr _ (by first | rfl | exact lpl (by assumption) | (simp [AV.plain, AV.plains, AV.cells, pc])))) rfl))))))), ?_⟩; refine pS ?_; refine oE rfl rfl rfl rfl rfl (c106l (m + 0) vA (cs.map Cell.lv) _ (by rw [lv_map]; exact rA) (by simp; omega)) ?_
  rintro lv HB ⟨qB, rB, cB, fB⟩
  have gB : Grow W HB := Grow.ret gA qB
  have nB : W.next + 3 ≤ HB.next := by have := qB.ext.next; first | omega | (simp only [hNw] at this; omega)
  have aB : (HB.get W.next).bind AObj.cs = some [.fn 85 [] []] := by rw [qB.ext.get _ (by first | omega | (simp only [hNw]; omega))]; first | assumption | (simp (disch := first | omega | (simp only [hNw, hPt]; omega)) only [gN] <;> first | rfl | assumption)
  have bB : (HB.get (W.next + 1)).bind AObj.cs = some [cv, I g.slo, I g.shi, I g.klo, I g.khi, I g.melt] := by rw [qB.ext.get _ (by first | omega | (simp only [hNw]; omega))]; first | assumption | (simp (disch := first | omega | (simp only [hNw, hPt]; omega)) only [gN] <;> first | rfl | assumption)
  have zB : HB.get (W.next + 2) = some (.cells [.nils, I 0, I 0, I 0, I 0, I 0, .nils, I 0, I 0, .nils, .nils] 110) := by rw [qB.ext.get _ (by first | omega | (simp only [hNw]; omega))]; first | assumption | exact gn0 _ _ | (simp (disch := first | omega | (simp only [hNw, hPt]; omega)) only [gN] <;> first | rfl | assumption)
  refine oN ⟨(sco (sld rfl rfl (lda (n := 1) (by kernel_rfl) (by first | assumption | (simp (disch := first | omega | (simp only [hNw, hPt]; omega)) only [gN] <;> first | rfl | assumption)) (by first | rfl | assumption)) rfl (eqr _ (by first | rfl | exact lpl (by assumption) | (simp [AV.plain, AV.plains, AV.cells, pc])))) (sco (sld rfl rfl (lda (n := 1) (by kernel_rfl) (by first | assumption | (simp (disch := first | omega | (simp only [hNw, hPt]; omega)) only [gN] <;> first | rfl | assumption)) (by first | rfl | assumption)) rfl (eqr _ (by first | rfl | exact lpl (by assumption) | (simp [AV.plain, AV.plains, AV.cells, pc])))) (sco (sld rfl rfl (ldg (n := 2) (by kernel_rfl) (by first | assumption | (simp (disch := first | omega | (simp only [hNw, hPt]; omega)) only [gN] <;> first | rfl | assumption)) (by first | rfl | assumption)) rfl (eqr _ (by first | rfl | exact lpl (by assumption) | (simp [AV.plain, AV.plains, AV.cells, pc])))) (sco (sld rfl rfl (lda (n := 1) (by kernel_rfl) (by first | assumption | (simp (disch := first | omega | (simp only [hNw, hPt]; omega)) only [gN] <;> first | rfl | assumption)) (by first | rfl | assumption)) rfl (eqr _ (by first | rfl | exact lpl (by assumption) | (simp [AV.plain, AV.plains, AV.cells, pc])))) (sco (sld rfl rfl (ldg (n := 2) (by kernel_rfl) (by first | assumption | (simp (disch := first | omega | (simp only [hNw, hPt]; omega)) only [gN] <;> first | rfl | assumption)) (by first | rfl | assumption)) rfl (eqr _ (by first | rfl | exact lpl (by assumption) | (simp [AV.plain, AV.plains, AV.cells, pc])))) (sco (sld rfl rfl (lda (n := 1) (by kernel_rfl) (by first | assumption | (simp (disch := first | omega | (simp only [hNw, hPt]; omega)) only [gN] <;> first | rfl | assumption)) (by first | rfl | assumption)) rfl (eqr _ (by first | rfl | exact lpl (by assumption) | (simp [AV.plain, AV.plains, AV.cells, pc])))) (sco (sld rfl rfl (ldg (n := 6) (by kernel_rfl) (by first | assumption | (simp (disch := first | omega | (simp only [hNw, hPt]; omega)) only [gN] <;> first | rfl | assumption)) (by first | rfl | assumption)) rfl (eqr _ (by first | rfl | exact lpl (by assumption) | (simp [AV.plain, AV.plains, AV.cells, pc])))) rfl))))))), ?_⟩; refine pS ?_; refine oE rfl rfl rfl rfl rfl (c79 (m + 0) dv ds _ (hY.ext (hE _ gB)) hbd) ?_
  rintro vC HC ⟨qC, rC, cC, fC⟩
  have gC : Grow W HC := Grow.ret gB qC
  have nC : W.next + 3 ≤ HC.next := by have := qC.ext.next; first | omega | (simp only [hNw] at this; omega)
  have aC : (HC.get W.next).bind AObj.cs = some [.fn 85 [] []] := by rw [qC.ext.get _ (by first | omega | (simp only [hNw]; omega))]; first | assumption | (simp (disch := first | omega | (simp only [hNw, hPt]; omega)) only [gN] <;> first | rfl | assumption)
  have bC : (HC.get (W.next + 1)).bind AObj.cs = some [cv, I g.slo, I g.shi, I g.klo, I g.khi, I g.melt] := by rw [qC.ext.get _ (by first | omega | (simp only [hNw]; omega))]; first | assumption | (simp (disch := first | omega | (simp only [hNw, hPt]; omega)) only [gN] <;> first | rfl | assumption)
  have zC : HC.get (W.next + 2) = some (.cells [.nils, I 0, I 0, I 0, I 0, I 0, .nils, I 0, I 0, .nils, .nils] 110) := by rw [qC.ext.get _ (by first | omega | (simp only [hNw]; omega))]; first | assumption | exact gn0 _ _ | (simp (disch := first | omega | (simp only [hNw, hPt]; omega)) only [gN] <;> first | rfl | assumption)
  refine oN ⟨(sco (sld rfl rfl (lda (n := 1) (by kernel_rfl) (by first | assumption | (simp (disch := first | omega | (simp only [hNw, hPt]; omega)) only [gN] <;> first | rfl | assumption)) (by first | rfl | assumption)) rfl (eqr _ (by first | rfl | exact lpl (by assumption) | (simp [AV.plain, AV.plains, AV.cells, pc])))) (sco (sld rfl rfl (lda (n := 1) (by kernel_rfl) (by first | assumption | (simp (disch := first | omega | (simp only [hNw, hPt]; omega)) only [gN] <;> first | rfl | assumption)) (by first | rfl | assumption)) rfl (eqr _ (by first | rfl | exact lpl (by assumption) | (simp [AV.plain, AV.plains, AV.cells, pc])))) (sco (sld rfl rfl (lda (n := 1) (by kernel_rfl) (by first | assumption | (simp (disch := first | omega | (simp only [hNw, hPt]; omega)) only [gN] <;> first | rfl | assumption)) (by first | rfl | assumption)) rfl (eqr _ (by first | rfl | exact lpl (by assumption) | (simp [AV.plain, AV.plains, AV.cells, pc])))) (sco (sld rfl rfl (ldg (n := 2) (by kernel_rfl) (by first | assumption | (simp (disch := first | omega | (simp only [hNw, hPt]; omega)) only [gN] <;> first | rfl | assumption)) (by first | rfl | assumption)) rfl (eqr _ (by first | rfl | exact lpl (by assumption) | (simp [AV.plain, AV.plains, AV.cells, pc])))) (sco (sld rfl rfl (lda (n := 1) (by kernel_rfl) (by first | assumption | (simp (disch := first | omega | (simp only [hNw, hPt]; omega)) only [gN] <;> first | rfl | assumption)) (by first | rfl | assumption)) rfl (eqr _ (by first | rfl | exact lpl (by assumption) | (simp [AV.plain, AV.plains, AV.cells, pc])))) (sco (sld rfl rfl (ldg (n := 2) (by kernel_rfl) (by first | assumption | (simp (disch := first | omega | (simp only [hNw, hPt]; omega)) only [gN] <;> first | rfl | assumption)) (by first | rfl | assumption)) rfl (eqr _ (by first | rfl | exact lpl (by assumption) | (simp [AV.plain, AV.plains, AV.cells, pc])))) (sco (sld rfl rfl (lda (n := 1) (by kernel_rfl) (by first | assumption | (simp (disch := first | omega | (simp only [hNw, hPt]; omega)) only [gN] <;> first | rfl | assumption)) (by first | rfl | assumption)) rfl (eqr _ (by first | rfl | exact lpl (by assumption) | (simp [AV.plain, AV.plains, AV.cells, pc])))) (sco (sld rfl rfl (ldg (n := 6) (by kernel_rfl) (by first | assumption | (simp (disch := first | omega | (simp only [hNw, hPt]; omega)) only [gN] <;> first | rfl | assumption)) (by first | rfl | assumption)) rfl (eqr _ (by first | rfl | exact lpl (by assumption) | (simp [AV.plain, AV.plains, AV.cells, pc])))) rfl)))))))), ?_⟩; refine pS ?_; refine oE rfl rfl rfl rfl rfl (c106l (m + 0) vC (ds.map Day.rn) _ (by rw [rn_map]; exact rC) (by simp; omega)) ?_
  rintro rv HD ⟨qD, rD, cD, fD⟩
  have gD : Grow W HD := Grow.ret gC qD
  have nD : W.next + 3 ≤ HD.next := by have := qD.ext.next; first | omega | (simp only [hNw] at this; omega)
  have aD : (HD.get W.next).bind AObj.cs = some [.fn 85 [] []] := by rw [qD.ext.get _ (by first | omega | (simp only [hNw]; omega))]; first | assumption | (simp (disch := first | omega | (simp only [hNw, hPt]; omega)) only [gN] <;> first | rfl | assumption)
  have bD : (HD.get (W.next + 1)).bind AObj.cs = some [cv, I g.slo, I g.shi, I g.klo, I g.khi, I g.melt] := by rw [qD.ext.get _ (by first | omega | (simp only [hNw]; omega))]; first | assumption | (simp (disch := first | omega | (simp only [hNw, hPt]; omega)) only [gN] <;> first | rfl | assumption)
  have zD : HD.get (W.next + 2) = some (.cells [.nils, I 0, I 0, I 0, I 0, I 0, .nils, I 0, I 0, .nils, .nils] 110) := by rw [qD.ext.get _ (by first | omega | (simp only [hNw]; omega))]; first | assumption | exact gn0 _ _ | (simp (disch := first | omega | (simp only [hNw, hPt]; omega)) only [gN] <;> first | rfl | assumption)
  have hlv : lenOf lv = some cs.length := by simpa using rB.len
  have hrv : lenOf rv = some ds.length := by simpa using rD.len
  refine oN ⟨(sco (sld rfl rfl (lda (n := 1) (by kernel_rfl) (by first | assumption | (simp (disch := first | omega | (simp only [hNw, hPt]; omega)) only [gN] <;> first | rfl | assumption)) (by first | rfl | assumption)) rfl (eqr _ (by first | rfl | exact lpl (by assumption) | (simp [AV.plain, AV.plains, AV.cells, pc])))) (sco (sld rfl rfl (lda (n := 1) (by kernel_rfl) (by first | assumption | (simp (disch := first | omega | (simp only [hNw, hPt]; omega)) only [gN] <;> first | rfl | assumption)) (by first | rfl | assumption)) rfl (eqr _ (by first | rfl | exact lpl (by assumption) | (simp [AV.plain, AV.plains, AV.cells, pc])))) (sco (sld rfl rfl (ldg (n := 2) (by kernel_rfl) (by first | assumption | (simp (disch := first | omega | (simp only [hNw, hPt]; omega)) only [gN] <;> first | rfl | assumption)) (by first | rfl | assumption)) rfl (eqr _ (by first | rfl | exact lpl (by assumption) | (simp [AV.plain, AV.plains, AV.cells, pc])))) (sco (sld rfl rfl (lda (n := 1) (by kernel_rfl) (by first | assumption | (simp (disch := first | omega | (simp only [hNw, hPt]; omega)) only [gN] <;> first | rfl | assumption)) (by first | rfl | assumption)) rfl (eqr _ (by first | rfl | exact lpl (by assumption) | (simp [AV.plain, AV.plains, AV.cells, pc])))) (sco (sld rfl rfl (ldg (n := 2) (by kernel_rfl) (by first | assumption | (simp (disch := first | omega | (simp only [hNw, hPt]; omega)) only [gN] <;> first | rfl | assumption)) (by first | rfl | assumption)) rfl (eqr _ (by first | rfl | exact lpl (by assumption) | (simp [AV.plain, AV.plains, AV.cells, pc])))) (sco (sld rfl rfl (lda (n := 1) (by kernel_rfl) (by first | assumption | (simp (disch := first | omega | (simp only [hNw, hPt]; omega)) only [gN] <;> first | rfl | assumption)) (by first | rfl | assumption)) rfl (eqr _ (by first | rfl | exact lpl (by assumption) | (simp [AV.plain, AV.plains, AV.cells, pc])))) (sco (sld rfl rfl (ldg (n := 6) (by kernel_rfl) (by first | assumption | (simp (disch := first | omega | (simp only [hNw, hPt]; omega)) only [gN] <;> first | rfl | assumption)) (by first | rfl | assumption)) rfl (eqr _ (by first | rfl | exact lpl (by assumption) | (simp [AV.plain, AV.plains, AV.cells, pc])))) rfl))))))), ?_⟩; refine pS ?_; refine OkO.build (z := [.int .i64 0, .int .i64 0, .nils, .nils]) (pl := [(0, 1), (1, 1), (2, 1), (3, 1)]) (cs := [I g.slo, I g.klo, lv, rv]) rfl (by kernel_rfl) rfl (build45 hlv hrv _ _) ?_; refine oN ⟨rfl, ?_⟩; refine pS ?_; refine OkO.build (z := [.nils, .int .i64 0, .int .i64 0, .int .i64 0, .int .i64 0, .int .i64 0, .nils, .int .i64 0, .int .i64 0, .nils, .nils]) (pl := [(0, 6), (6, 1), (7, 4)]) (cs := [cv, I g.slo, I g.shi, I g.klo, I g.khi, I g.melt, dv, I g.slo, I g.klo, lv, rv]) rfl (by kernel_rfl) rfl (build110 hld _ _ _ _ _ _ _ _ _ _) ?_; refine oN ⟨rfl, ?_⟩; refine pS ?_; refine oT rfl rfl rfl (sAc (n := 11) (ag := true) (l := [cv, I g.slo, I g.shi, I g.klo, I g.khi, I g.melt, dv, I g.slo, I g.klo, lv, rv]) (by kernel_rfl) (by first | assumption | simp (disch := first | omega | (simp only [hNw, hPt]; omega)) only [gN] <;> first | rfl | assumption) rfl (by show atoms [cv, I g.slo, I g.shi, I g.klo, I g.khi, I g.melt, dv, I g.slo, I g.klo, lv, rv] = true; simp [atoms, hca, hda, cB.atom.1, cD.atom.1, show ∀ z, (I z).atom = true from fun _ => rfl]) rfl) ?_; refine oN ⟨rfl, ?_⟩; refine OkP.nil ?_
  refine Ok.ret ⟨.inr rfl, ?_⟩
  refine back_newQ (resV_cell (b := W.next + 2) (off := 0) rfl (ldg (n := 11) (by kernel_rfl) (show ((HD.put (W.next + 2) (.cells [cv, I g.slo, I g.shi, I g.klo, I g.khi, I g.melt, dv, I g.slo, I g.klo, lv, rv] 110)).get (W.next + 2)).bind AObj.cs = some [cv, I g.slo, I g.shi, I g.klo, I g.khi, I g.melt, dv, I g.slo, I g.klo, lv, rv] by rw [gp0]; rfl) rfl) resV_nil) rfl (by rw [← hW]; exact gD.put _ (by simp only [hNw]; omega)) (flat_cons (flat_no hlc (by omega))) (fun H2 p1 h1 h2 => ⟨lv, rv, rfl, p1, ?_, ?_⟩)
  · exact by
      have hq : Ints H2 lv (lowL cs) := by
        have e : ((cs.map Cell.lv).map fun x => [I x.lo]) = (lowL cs).map fun n => [I n] := by simp [lowL, Cell.lv]
        rw [e] at fB rB
        exact fB H2 (by rw [h2]; exact Nat.le_trans qC.ext.next qD.ext.next) (fun n a1 a2 => by have := qA.ext.next; simp only [hNw] at this; rw [h1, gpo _ _ _ _ (by first | omega | (simp only [hNw]; omega)), qD.ext.get _ (by have := qC.ext.next; omega), qC.ext.get _ a2])
      exact hq
  · exact by
      have hq : Ints H2 rv (lowR ds) := by
        have e : ((ds.map Day.rn).map fun x => [I x.lo]) = (lowR ds).map fun n => [I n] := by simp [lowR, Day.rn]
        rw [e] at fD rD
        exact fD H2 (by rw [h2]; exact Nat.le_refl _) (fun n a1 a2 => by rw [h1, gpo _ _ _ _ (by first | omega | (simp only [hNw]; omega))])
      exact hq
end
end Go.Ev

set_option maxRecDepth 100000
set_option linter.unusedSimpArgs false
set_option linter.unusedVariables false
namespace Go.Ev
open Go Go.Proofs
noncomputable section
/-- Lists of ranges, each in a block of its own, none of them that of either slice. -/
def RowsR (G : Heap) (v6 v7 : AV) (vs : List AV) (rows : List (List Rg)) : Prop := vs.length = rows.length ∧ ∀ (j : Nat) x r, vs[j]? = some x → rows[j]? = some r → ∃ b, x = .opn b r.length ∧ G.get b = some (.opn ((r.map Rg.c).flatten) 36 2) ∧ b < G.next ∧ (∀ m, v6 ≠ .opn b m) ∧ (∀ m, v7 ≠ .opn b m)
theorem RowsR.keep {G G' : Heap} {v6 v7 w6 w7 : AV} {vs : List AV} {rows : List (List Rg)} (h : RowsR G v6 v7 vs rows) (hk : ∀ j, j < G.next → (∀ m, v6 ≠ .opn j m) → (∀ m, v7 ≠ .opn j m) → G'.get j = G.get j) (hn : G.next ≤ G'.next)
    (h6 : ∀ b m, w6 = .opn b m → G.next ≤ b ∨ v6 = w6) (h7 : ∀ b m, w7 = .opn b m → G.next ≤ b ∨ v7 = w7) : RowsR G' w6 w7 vs rows := by
  refine ⟨h.1, fun j x r k1 k2 => ?_⟩
  obtain ⟨b, a1, a2, a3, a4, a5⟩ := h.2 j x r k1 k2
  refine ⟨b, a1, by rw [hk b a3 a4 a5]; exact a2, by omega, fun m hm => ?_, fun m hm => ?_⟩
  · rcases h6 b m hm with h | h
    · omega
    · exact a4 m (h.trans hm)
  · rcases h7 b m hm with h | h
    · omega
    · exact a5 m (h.trans hm)
theorem RowsR.snoc {G : Heap} {v6 v7 : AV} {vs : List AV} {rows : List (List Rg)} (h : RowsR G v6 v7 vs rows) {b : Nat} {r : List Rg} (h1 : G.get b = some (.opn ((r.map Rg.c).flatten) 36 2)) (h2 : b < G.next) (h3 : ∀ m, v6 ≠ .opn b m) (h4 : ∀ m, v7 ≠ .opn b m) : RowsR G v6 v7 (vs ++ [.opn b r.length]) (rows ++ [r]) := by
  refine ⟨by simp [h.1], fun j x q k1 k2 => ?_⟩
  have hl := h.1
  by_cases hj : j < vs.length
  · rw [List.getElem?_append_left hj] at k1
    rw [List.getElem?_append_left (by omega)] at k2
    exact h.2 j x q k1 k2
  · have hj2 : j = vs.length := by
      have := (List.getElem?_eq_some_iff.1 k1).1
      simp at this; omega
    subst hj2
    simp at k1
    rw [hl] at k2
    simp at k2
    subst k1 k2
    exact ⟨b, rfl, h1, h2, h3, h4⟩
/-- A slice of lists of ranges. -/
def ListsR (G : Heap) (v : AV) (rows : List (List Rg)) : Prop := ∃ vs : List AV, Row G v 1 (vs.map fun x => [x]) ∧ vs.length = rows.length ∧ ∀ (j : Nat) x r, vs[j]? = some x → rows[j]? = some r → Row G x 2 (r.map Rg.c)
theorem ListsR.ext {H G : Heap} {v : AV} {rows : List (List Rg)} (h : ListsR H v rows) (g : Ext H G) : ListsR G v rows := let ⟨vs, h1, h2, h3⟩ := h; ⟨vs, h1.ext g, h2, fun j x r k1 k2 => (h3 j x r k1 k2).ext g⟩
theorem RowsR.lists {G G' : Heap} {v6 v7 : AV} {vs : List AV} {rows : List (List Rg)} (h : RowsR G v6 v7 vs rows) (hr : Row G' v6 1 (vs.map fun x => [x])) (hg : vs = [] ∨ ((∀ n, G'.get n = G.get n) ∧ G'.next = G.next)) : ListsR G' v6 rows := by
  refine ⟨vs, hr, h.1, fun j x r k1 k2 => ?_⟩
  rcases hg with rfl | ⟨g1, g2⟩
  · simp at k1
  · obtain ⟨b, rfl, a2, a3, _, _⟩ := h.2 j x r k1 k2
    have : Mine 0 G (.opn b r.length) 36 2 ((r.map Rg.c).flatten) := .inr ⟨b, r.length, rfl, a2, by rw [flat_len _ 2 (fun x hx => by simp only [List.mem_map] at hx; obtain ⟨y, _, rfl⟩ := hx; rfl)]; simp, by omega, a3⟩
    exact (this.row (fun x hx => by simp only [List.mem_map] at hx; obtain ⟨y, _, rfl⟩ := hx; rfl) (by omega)).same g1 g2
theorem backRow {H G H' : Heap} {v : AV} {sz : Nat} {l : List (List AV)} (hc : Cut G v sz) (hr : Row G v sz l) (r : (H' = H ∧ v.flat = true) ∨ ((∀ n, H'.get n = G.get n) ∧ H'.next = G.next)) : Row H' v sz l := by
  rcases r with ⟨_, hf⟩ | ⟨h1, h2⟩
  · rcases hc with ⟨b, off, len, cap, rfl, _⟩ | ⟨b, len, cs, e, rfl, _⟩ | rfl
    · cases hf
    · cases hf
    · have hl : l = [] := by
        have := hr.len
        cases l with
        | nil => rfl
        | cons a b => simp [lenOf] at this
      subst hl
      exact Row.nil _ _
  · exact hr.same h1 h2
/-- The range of a level, of all on a day, of the snow. -/
def lvR (cs : List Cell) (g : Gr) (ds : List Day) (i k : Nat) : Rg := ⟨(levP cs g ds (lowT g) (lowL cs) (lowR ds) (i + 1)).getD k 0, (levP cs g ds (highT g) (highL cs) (highR ds) (i + 1)).getD k 0⟩
def rowG (cs : List Cell) (g : Gr) (ds : List Day) (i k : Nat) : List Rg := (List.range k).map (lvR cs g ds i)
def rowsG (cs : List Cell) (g : Gr) (ds : List Day) (n : Nat) : List (List Rg) := (List.range n).map fun i => rowG cs g ds i cs.length
def snG (cs : List Cell) (g : Gr) (ds : List Day) (n : Nat) : List Rg := (List.range n).map fun i => ⟨snowP g.melt ds (lowR ds) (lowT g).snow (i + 1), snowP g.melt ds (highR ds) (highT g).snow (i + 1)⟩
end
end Go.Ev

set_option maxRecDepth 100000
set_option linter.unusedSimpArgs false
set_option linter.unusedVariables false
namespace Go.Ev
open Go Go.Proofs
noncomputable section
theorem ListsR.same {G G' : Heap} {v : AV} {rows : List (List Rg)} (h : ListsR G v rows) (hg : ∀ n, G'.get n = G.get n) (hn : G'.next = G.next) : ListsR G' v rows := h.ext ⟨by omega, fun n _ => hg n⟩
/-- Lists of lists of the same lengths. -/
def Same (a b : List (List Int)) : Prop := a.length = b.length ∧ ∀ (i : Nat) x y, a[i]? = some x → b[i]? = some y → x.length = y.length
theorem c45 (m : Nat) (av bv : AV) (ra rb : List (List Int)) (H : Heap) (hA : Lists H av ra) (hB : Lists H bv rb) (hs : Same ra rb) (hl : ra.length ≤ 1000) : RR (m + 1) (.fn 45 [av, bv]) H = some (.bool true, H) := by
  refine (R_fn _ _ _ _ _).trans ?_; refine fn_ok Try.func45 rfl rfl (by kernel_rfl) (by kernel_rfl) ?_
  obtain ⟨W, hW, hg, hN, hE, hG⟩ := wOf H
  rw [← hW]
  obtain ⟨va, a1, a2, a3⟩ := hA
  obtain ⟨vb, b1, b2, b3⟩ := hB
  have hs1 := hs.1
  have hla : lenOf av = some ra.length := by rw [a1.len]; simp; omega
  have hlb : lenOf bv = some ra.length := by rw [b1.len]; simp; omega
  refine kS ?_; refine kR ?_; refine oA rfl rfl ?_; refine oN ?_; refine kS ?_; refine kS ?_; refine kR ?_; refine oM rfl rfl ?_; refine oB rfl rfl rfl qbl ?_; refine oM rfl rfl ?_; refine oB rfl rfl rfl qbl ?_; refine OkO.bin rfl rfl rfl (bin_neq _ _) ?_; refine oN ?_
  refine Ok.cond rfl (fun h1 => ?_) (fun h1 => ?_)
  · exact absurd h1 (by simp)
  · refine Ok.skip ?_
    refine kS ?_; refine kS ?_; refine kR ?_; refine oA rfl rfl ?_; refine oN ?_; refine Ok.block ?_
    refine Ok.loop (fun n s => ∃ i : Nat, n = ra.length - i ∧ i ≤ ra.length ∧ Has 5 [(0, av), (1, bv), (4, .bool false), (5, I (i : Int))] s.T ∧ s.D = [] ∧ Grow W s.H) (ra.length) (by unfold loopFuel; omega)
      ⟨0, rfl, Nat.zero_le _, Has.of (by kernel_rfl), rfl, hG⟩ ?_
    rintro n ⟨T, D, G⟩ ⟨i, hn, hi, ⟨f, hT⟩, hD, hg⟩
    dsimp only at *
    subst hT hD
    have hgn := hg.next
    refine kS ?_; refine kS ?_; refine kR ?_; refine oM rfl rfl ?_; refine oM rfl rfl ?_; refine oB rfl rfl rfl qbl ?_; refine OkO.bin rfl rfl rfl (bin_lss _ _) ?_; refine oN ?_
    refine Ok.cond rfl (fun h2 => ?_) (fun h2 => ?_)
    · have hlt : i < ra.length := by simpa using h2
      have hia : i < va.length := by omega
      have hib : i < vb.length := by omega
      obtain ⟨xb, xo, xcs, x1, x2, x3, x4⟩ := (a1.ext (hE _ hg)).at_ i [va[i]] (by simp [hia])
      have x5 := seg_one x3
      obtain ⟨yb, yo, ycs, y1, y2, y3, y4⟩ := (b1.ext (hE _ hg)).at_ i [vb[i]] (by simp [hib])
      have y5 := seg_one y3
      have e1 := (a3 i va[i] ra[i] (List.getElem?_eq_getElem hia) (List.getElem?_eq_getElem hlt)).len
      have e2 := (b3 i vb[i] rb[i] (List.getElem?_eq_getElem hib) (List.getElem?_eq_getElem (by omega))).len
      have e3 := hs.2 i ra[i] rb[i] (List.getElem?_eq_getElem hlt) (List.getElem?_eq_getElem (by omega))
      rw [List.length_map] at e1 e2
      refine Ok.skip ?_; refine kS ?_; refine Ok.block ?_; refine kS ?_; refine Ok.drawn [(0, true, []), (1, true, []), (2, true, []), (3, true, []), (4, true, []), (5, true, []), (6, true, []), (7, true, []), (8, true, []), (9, true, []), (10, true, [])] (by kernel_rfl) ?_; refine pS ?_; refine oM rfl rfl ?_; refine oN ⟨rfl, ?_⟩; refine pS ?_; refine oM rfl rfl ?_; refine oN ⟨rfl, ?_⟩; refine pS ?_; refine qX (sz := 1) (n := i) rfl rfl rfl ?_; refine oN ⟨rfl, ?_⟩; refine pS ?_; refine oL rfl rfl (lda (n := 1) (by kernel_rfl) (by first | assumption | (simp (disch := first | omega | (simp only [hNw, hPt]; omega)) only [gN] <;> first | rfl | assumption)) (by first | rfl | assumption)) ?_; refine oN ⟨rfl, ?_⟩; refine pS ?_; refine oB rfl rfl rfl qbl ?_; refine oN ⟨rfl, ?_⟩; refine pS ?_; refine oM rfl rfl ?_; refine oN ⟨rfl, ?_⟩; refine pS ?_; refine oM rfl rfl ?_; refine oN ⟨rfl, ?_⟩; refine pS ?_; refine qX (sz := 1) (n := i) rfl rfl rfl ?_; refine oN ⟨rfl, ?_⟩; refine pS ?_; refine oL rfl rfl (lda (n := 1) (by kernel_rfl) (by first | assumption | (simp (disch := first | omega | (simp only [hNw, hPt]; omega)) only [gN] <;> first | rfl | assumption)) (by first | rfl | assumption)) ?_; refine oN ⟨rfl, ?_⟩; refine pS ?_; refine oB rfl rfl rfl qbl ?_; refine oN ⟨rfl, ?_⟩; refine pS ?_; refine OkO.bin rfl rfl rfl (bin_neq _ _) ?_; refine oN ⟨rfl, ?_⟩; refine OkP.nil ?_
      refine Ok.cond rfl (fun h3 => ?_) (fun h3 => ?_)
      · exact absurd h3 (by simp [e3])
      · refine Ok.skip ?_
        refine kR ?_; refine oM rfl rfl ?_; refine OkO.bin rfl rfl rfl (bin_add (by omega) (by omega)) ?_; refine oA rfl rfl ?_; refine oN ?_
        refine ⟨ra.length - (i + 1), by omega, i + 1, rfl, hlt, Has.of (by kernel_rfl), rfl, (by (try dsimp only); repeat (first | (first | exact hg | exact hG) | apply Grow.new | (refine Grow.put ?_ _ (by first | omega | (simp only [hNw, hPt]; omega)))))⟩
    · refine Ok.exit ?_
      refine kS ?_; refine kR ?_; refine oA rfl rfl ?_; refine oN ?_
      refine Ok.ret ⟨.inr rfl, ?_⟩
      exact back_flat rfl (congrArg AV.bool rfl) rfl (by rw [← hW]; exact (by (try dsimp only); repeat (first | (first | exact hg | exact hG) | apply Grow.new | (refine Grow.put ?_ _ (by first | omega | (simp only [hNw, hPt]; omega))))))
end
end Go.Ev

set_option maxRecDepth 100000
set_option linter.unusedSimpArgs false
set_option linter.unusedVariables false
namespace Go.Ev
open Go Go.Proofs
noncomputable section
/-- None is greater. -/
def LeL (a b : List Int) : Prop := ∀ j, a.getD j 0 ≤ b.getD j 0
theorem getD_set (a : List Int) (k j : Nat) (z : Int) (hk : k < a.length) : (a.set k z).getD j 0 = if k = j then z else a.getD j 0 := by
  rw [List.getD_eq_getElem?_getD, List.getElem?_set]
  split
  · first | rfl | (rw [if_pos (by omega)]; rfl)
  · rw [List.getD_eq_getElem?_getD]
theorem LeL.set {a b : List Int} (h : LeL a b) {k : Nat} {y z : Int} (hz : y ≤ z) (ha : k < a.length) (hb : k < b.length) : LeL (a.set k y) (b.set k z) := fun j => by
  rw [getD_set _ _ _ _ ha, getD_set _ _ _ _ hb]
  split
  · exact hz
  · exact h j
theorem LeL.refl (a : List Int) : LeL a a := fun _ => Int.le_refl _
/-- The same cell, with a pump that is not less. -/
structure LeC (x' x : Cell) : Prop where
  cap : x'.cap = x.cap
  keep : x'.keep = x.keep
  pass : x'.pass = x.pass
  to_ : x'.to = x.to
  pump : x.pump ≤ x'.pump
theorem LeC.refl (x : Cell) : LeC x x := ⟨rfl, rfl, rfl, rfl, Int.le_refl _⟩
theorem give_mono {x x' : Cell} (h : LeC x' x) (hx : x.lim) (hx' : x'.lim) {n' n : Int} (hn : n' ≤ n) : passd x' n' ≤ passd x n ∧ n' - pumpd x' n' - passd x' n' ≤ n - pumpd x n - passd x n := by
  have h1 := h.pump
  unfold Cell.lim at hx hx'
  have hr : n' - pumpd x' n' ≤ n - pumpd x n := by unfold pumpd; omega
  have he : max (n' - pumpd x' n' - x'.keep) 0 ≤ max (n - pumpd x n - x.keep) 0 := by rw [h.keep]; omega
  have hd : max (n - pumpd x n - x.keep) 0 - max (n' - pumpd x' n' - x'.keep) 0 ≤ (n - pumpd x n) - (n' - pumpd x' n') := by rw [h.keep]; omega
  unfold passd
  rw [h.pass]
  generalize n - pumpd x n = r at *
  generalize n' - pumpd x' n' = r' at *
  generalize max (r - x.keep) 0 = e at *
  generalize max (r' - x'.keep) 0 = e' at *
  have hp : 0 ≤ x.pass ∧ x.pass ≤ 1000 := hx.2.2.2.1
  have m1 := Int.mul_le_mul_of_nonneg_right he hp.1
  have m2 : e * x.pass ≤ e' * x.pass + (e - e') * 1000 := by
    have m3 := Int.mul_le_mul_of_nonneg_left hp.2 (show 0 ≤ e - e' by omega)
    have m4 : e * x.pass = e' * x.pass + (e - e') * x.pass := by rw [← Int.add_mul]; congr 1; omega
    omega
  constructor
  · exact Int.ediv_le_ediv (by omega) m1
  · omega
theorem stepA_mono {x x' : Cell} (h : LeC x' x) (hx : x.lim) (hx' : x'.lim) {i : Nat} {n' n so' so : Int} (hn : n' ≤ n) (hs : so' ≤ so) {a' a : List Int} (ha : LeL a' a) (hl' : a'.length = 8) (hl : a.length = 8) (hi : i < 8) (hto : x.to = -1 ∨ 0 ≤ x.to ∧ x.to < 8) : LeL (stepA x' i n' so' a') (stepA x i n so a) := by
  have hg := give_mono h hx hx' hn
  unfold stepA
  rw [h.to_]
  by_cases hm : x.to = -1
  · simp only [if_pos hm]
    exact ha.set (by have := ha i; omega) (by omega) (by omega)
  · simp only [if_neg hm]
    have h1 : LeL (a'.set x.to.toNat (a'.getD x.to.toNat 0 + passd x' n')) (a.set x.to.toNat (a.getD x.to.toNat 0 + passd x n)) := ha.set (by have := ha x.to.toNat; omega) (by omega) (by omega)
    exact h1.set (by have := h1 i; omega) (by rw [List.length_set]; omega) (by rw [List.length_set]; omega)
theorem aft_mono {cs cs' : List Cell} (hlen : cs'.length = cs.length) (hn : cs.length ≤ 8) (hc : ∀ i, i < cs.length → LeC (cs'.getD i default) (cs.getD i default)) (hlim : ∀ x ∈ cs, x.lim) (hlim' : ∀ x ∈ cs', x.lim) (ht : toOk (cs.length : Int) 0 cs = true) {bef' bef : List Int} (hb : LeL bef' bef) {so' so : Int} (hs : so' ≤ so) :
    ∀ i, i ≤ cs.length → LeL (aftP cs' bef' so' i) (aftP cs bef so i)
  | 0, _ => LeL.refl _
  | i + 1, hi => by
    have h := aft_mono hlen hn hc hlim hlim' ht hb hs i (by omega)
    have hx : cs.getD i default = cs[i]'(by omega) := by simp [show i < cs.length from by omega]
    have hx' : cs'.getD i default = cs'[i]'(by omega) := by simp [show i < cs'.length from by omega]
    have hto := ((toOk_iff _ _ _).1 ht i (cs[i]'(by omega)) (List.getElem?_eq_getElem (by omega))).1
    simp only [inB, Bool.and_eq_true, decide_eq_true_eq] at hto
    rw [aftP, aftP]
    exact stepA_mono (hc i (by omega)) (by rw [hx]; exact hlim _ (List.getElem_mem _)) (by rw [hx']; exact hlim' _ (List.getElem_mem _)) (hb i) hs h (aft_len _ _ _ _) (aft_len _ _ _ _) (by omega) (by rw [hx]; omega)
theorem cut_mono {cs cs' : List Cell} (hlen : cs'.length = cs.length) (hc : ∀ i, i < cs.length → LeC (cs'.getD i default) (cs.getD i default)) {a' a : List Int} (ha : LeL a' a) (hl' : a'.length = 8) (hl : a.length = 8) (hn : cs.length ≤ 8) : ∀ i, i ≤ cs.length → LeL (cutP cs' a' i) (cutP cs a i)
  | 0, _ => ha
  | i + 1, hi => by
    have h := cut_mono hlen hc ha hl' hl hn i (by omega)
    have hcap := (hc i (by omega)).cap
    rw [cutP, cutP, hcap]
    exact h.set (by have := h i; omega) (by rw [cut_len]; omega) (by rw [cut_len]; omega)
theorem day_mono {cs cs' : List Cell} (hlen : cs'.length = cs.length) (hn : cs.length ≤ 8) (hc : ∀ i, i < cs.length → LeC (cs'.getD i default) (cs.getD i default)) (hlim : ∀ x ∈ cs, x.lim) (hlim' : ∀ x ∈ cs', x.lim) (ht : toOk (cs.length : Int) 0 cs = true) {bef' bef : List Int} (hb : LeL bef' bef) {d' d s' s : Int}
    (hd : 0 ≤ d' ∧ d' ≤ d) (hs : 0 ≤ s' ∧ s' ≤ s) : LeL (dayL cs' bef' d' s') (dayL cs bef d s) := by
  have m : d' * s' / 1000 ≤ d * s / 1000 := Int.ediv_le_ediv (by omega) (Int.mul_le_mul hd.2 hs.2 hs.1 (by omega))
  unfold dayL
  rw [hlen]
  exact cut_mono hlen hc (aft_mono hlen hn hc hlim hlim' ht hb m cs.length (Nat.le_refl _)) (aft_len _ _ _ _) (aft_len _ _ _ _) hn cs.length (Nat.le_refl _)
theorem sd_mono {melt : Int} {ds : List Day} {rain' rain : List Int} {s' s : Int} (hr : LeL rain' rain) (hs : s' ≤ s) : ∀ i, snowP melt ds rain' s' i ≤ snowP melt ds rain s i ∧ downP melt ds rain' s' i ≤ downP melt ds rain s i
  | 0 => by
    have := hr 0
    refine ⟨by rw [snowP, snowP]; exact hs, ?_⟩
    rw [downP, downP, snowP, snowP]
    split <;> omega
  | i + 1 => by
    have h := sd_mono (melt := melt) (ds := ds) hr hs i
    have h0 := hr i
    have h1 := hr (i + 1)
    have e : snowP melt ds rain' s' (i + 1) ≤ snowP melt ds rain s (i + 1) := by
      rw [snowP, snowP]
      split <;> omega
    refine ⟨e, ?_⟩
    rw [downP, downP]
    split <;> omega
theorem app_zero (l : List Int) (k j : Nat) : (l ++ List.replicate k 0).getD j 0 = l.getD j 0 := by
  rw [List.getD_eq_getElem?_getD, List.getD_eq_getElem?_getD]
  by_cases h : j < l.length
  · rw [List.getElem?_append_left h]
  · rw [List.getElem?_append_right (by omega), List.getElem?_eq_none (by omega : l.length ≤ j), List.getElem?_replicate]
    split <;> rfl
theorem lev_mono {cs cs' : List Cell} {g g' : Gr} {ds : List Day} {t t' : Tru} {lvs lvs' rain rain' : List Int} (h : Fit cs g ds t lvs rain) (h' : Fit cs' g' ds t' lvs' rain') (hlen : cs'.length = cs.length) (hc : ∀ i, i < cs.length → LeC (cs'.getD i default) (cs.getD i default)) (hm : g'.melt = g.melt)
    (hs : t'.snow ≤ t.snow) (hk : t'.soak ≤ t.soak) (hl : LeL lvs' lvs) (hr : LeL rain' rain) : ∀ i, i ≤ ds.length → LeL (levP cs' g' ds t' lvs' rain' i) (levP cs g ds t lvs rain i)
  | 0, _ => fun j => by rw [levP, levP, app_zero, app_zero]; exact hl j
  | i + 1, hi => by
    have ih := lev_mono h h' hlen hc hm hs hk hl hr i (by omega)
    have hsd := sd_mono (melt := g.melt) (ds := ds) hr hs i
    have hdb := down_bd h'.melt h'.dlim h'.rb h'.snow i (by omega)
    have hsk := h'.soak
    rw [levP, levP, hm]
    rw [hm] at hdb
    exact day_mono hlen h.n8.2 hc h.lim h'.lim h.to_ ih ⟨hdb.1, hsd.2⟩ ⟨hsk.1, hk⟩
/-- A truth lies between the ends. -/
structure Betw (cs : List Cell) (g : Gr) (ds : List Day) (t : Tru) (lvs rain : List Int) : Prop where
  snow : g.slo ≤ t.snow ∧ t.snow ≤ g.shi
  soak : g.klo ≤ t.soak ∧ t.soak ≤ g.khi
  l1 : LeL (lowL cs) lvs
  l2 : LeL lvs (highL cs)
  r1 : LeL (lowR ds) rain
  r2 : LeL rain (highR ds)
theorem LeL.of {a b : List Int} (hl : a.length = b.length) (h : ∀ (j : Nat) x y, a[j]? = some x → b[j]? = some y → x ≤ y) : LeL a b := fun j => by
  by_cases hj : j < a.length
  · rw [getD_lt hj, getD_lt (by omega)]
    exact h j _ _ (List.getElem?_eq_getElem hj) (List.getElem?_eq_getElem (by omega))
  · rw [List.getD_eq_getElem?_getD, List.getD_eq_getElem?_getD, List.getElem?_eq_none (by omega), List.getElem?_eq_none (by omega)]
    exact Int.le_refl _
end
end Go.Ev

set_option maxRecDepth 100000
set_option linter.unusedSimpArgs false
set_option linter.unusedVariables false
namespace Go.Ev
open Go Go.Proofs
noncomputable section
end
end Go.Ev

set_option maxRecDepth 100000
set_option linter.unusedSimpArgs false
set_option linter.unusedVariables false
namespace Go.Ev
open Go Go.Proofs
noncomputable section
def stayI (cs : List Cell) (bef : List Int) (i : Nat) : Int := bef.getD i 0 - pumpd (cs.getD i default) (bef.getD i 0) - passd (cs.getD i default) (bef.getD i 0)
def passI (cs : List Cell) (bef : List Int) (i : Nat) : Int := passd (cs.getD i default) (bef.getD i 0)
def inflI (cs : List Cell) (bef : List Int) : Nat → Nat → Int
  | 0, _ => 0
  | k + 1, j => inflI cs bef k j + if (cs.getD k default).to = (j : Int) then passI cs bef k else 0
def lvlI (cs : List Cell) (bef : List Int) (so : Int) (j : Nat) : Int := stayI cs bef j + so + inflI cs bef cs.length j
def lAI (cs : List Cell) (bef : List Int) (dn so : Int) : Nat → Int
  | 0 => cs.length * (dn - so)
  | m + 1 => lAI cs bef dn so m + pumpd (cs.getD m default) (bef.getD m 0) + (if (cs.getD m default).to < 0 then passI cs bef m else 0)
def lBI (cs : List Cell) (bef : List Int) (dn so : Int) : Nat → Int
  | 0 => lAI cs bef dn so cs.length
  | m + 1 => lBI cs bef dn so m + (if (cs.getD m default).cap < lvlI cs bef so m then lvlI cs bef so m - (cs.getD m default).cap else 0)
def fillI (f : Nat → Int) (n i : Nat) : List Int := (List.range n).map fun j => if j < i then f j else 0
def outI (cs : List Cell) (bef : List Int) (so : Int) (k : Nat) : List Int := (List.range k).map fun j => min (lvlI cs bef so j) (cs.getD j default).cap
end
end Go.Ev

set_option maxRecDepth 100000
set_option linter.unusedSimpArgs false
set_option linter.unusedVariables false
namespace Go.Ev
open Go Go.Proofs
noncomputable section
def leftK (cs : List Cell) (g : Gr) (ds : List Day) (t : Tru) (lvs rain : List Int) : Nat → Int
  | 0 => 0
  | k + 1 => leftD cs g ds t lvs rain k
end
end Go.Ev

set_option maxRecDepth 100000
set_option linter.unusedSimpArgs false
set_option linter.unusedVariables false
namespace Go.Ev
open Go Go.Proofs
noncomputable section
def fitB (cs : List Cell) (g : Gr) (ds : List Day) (t : Tru) (lvs rain : List Int) : Bool := inB t.snow g.slo g.shi && inB t.soak g.klo g.khi && fitsB lvs (cs.map Cell.lv) && fitsB rain (ds.map Day.rn)
section
open Go.RowKit
variable {H0 : Type} {enc : TypeId × Value → H0} {w : World} {base : Nat} {sp : Nat → Bool} {hd : Bool}
end
end
end Go.Ev


set_option maxRecDepth 100000
set_option linter.unusedSimpArgs false
set_option linter.unusedVariables false
namespace Go.Ev
open Go Go.Proofs
noncomputable section
end
end Go.Ev

set_option maxRecDepth 100000
set_option linter.unusedSimpArgs false
set_option linter.unusedVariables false
namespace Go.Ev
open Go Go.Proofs
noncomputable section
end
end Go.Ev

set_option maxRecDepth 100000
set_option linter.unusedSimpArgs false
set_option linter.unusedVariables false
namespace Go.Ev
open Go Go.Proofs
noncomputable section
def askErr (cs : List Cell) (g : Gr) (ds : List Day) (cell level : Int) : Int :=
  if daysErr cs g ds = 0 then (if (inB cell 0 ((cs.length : Int) - 1) && inB level 0 100000) = true then 0 else 2) else daysErr cs g ds
/-- The first of so many at which `f` is at least `lv`, or -1. -/
def firstD (f : Nat → Int) (lv : Int) : Nat → Int
  | 0 => -1
  | n + 1 => if firstD f lv n = -1 then (if lv ≤ f n then (n : Int) else -1) else firstD f lv n
end
end Go.Ev

set_option maxRecDepth 100000
set_option linter.unusedSimpArgs false
set_option linter.unusedVariables false
namespace Go.Ev
open Go Go.Proofs
noncomputable section
end
end Go.Ev

set_option maxRecDepth 100000
set_option linter.unusedSimpArgs false
set_option linter.unusedVariables false
namespace Go.Ev
open Go Go.Proofs
noncomputable section
section
open Go.ChangeShapes Go.WideShapes Go.RowKit
variable {H0 : Type} {enc : TypeId × Value → H0} {w : World} {base : Nat} {sp : Nat → Bool} {hd : Bool}
end
end
end Go.Ev

set_option maxRecDepth 100000
set_option linter.unusedSimpArgs false
set_option linter.unusedVariables false
namespace Go.Ev
open Go Go.Proofs
noncomputable section
end
end Go.Ev

set_option maxRecDepth 100000
set_option linter.unusedSimpArgs false
set_option linter.unusedVariables false
namespace Go.Ev
open Go Go.Proofs
noncomputable section
section
open Go.ChangeShapes Go.WideShapes Go.RowKit
variable {H0 : Type} {enc : TypeId × Value → H0} {w : World} {base : Nat} {sp : Nat → Bool} {hd : Bool}
end
end
end Go.Ev

set_option linter.unusedVariables false
namespace Go.Ev
open Go Go.Proofs Go.ChangeShapes Go.WideShapes Go.RowKit
variable {H : Type} {enc : TypeId × Value → H} {P : Program} {w : World} {base : Nat} {spare : Nat → Bool} {held : Bool}
end Go.Ev

set_option maxRecDepth 100000
set_option linter.unusedSimpArgs false
set_option linter.unusedVariables false
namespace Go.Ev
open Go Go.Proofs
noncomputable section
/-- A day behind all others, where there is none. -/
def fixD (D : Nat) (x : Int) : Int := if x < 0 then (D : Int) else x
def lateL (D : Nat) (l : List Int) (i : Nat) : List Int := (l.take i).map (fixD D) ++ l.drop i
section
open Go.ChangeShapes Go.WideShapes Go.RowKit
variable {H0 : Type} {enc : TypeId × Value → H0} {w : World} {base : Nat} {sp : Nat → Bool} {hd : Bool}
/-- A word at hand. -/
theorem u16_arg {H : Heap} (hs : Snap w H) {v : Value} {d : DataW H0} {p : List MemPlace} (hv : ∃ n, v = .int .u16 n) (h : DataW.Trod enc Try.prog w base sp hd 64 v d p) : ∃ x : Int, argAV w.heap.size v = .int .u16 x ∧ 0 ≤ x ∧ x ≤ 65535 := by
  obtain ⟨n, rfl⟩ := hv
  obtain ⟨fuel, h⟩ := h
  obtain ⟨x, h1, h2⟩ := u16_open h
  have h1' : ([Value.int .u16 n] : List Value) = [.int .u16 x] := h1
  have e0 : n = x := by simpa using h1'
  subst e0
  exact ⟨n, rfl, h2⟩
end
end
end Go.Ev

set_option maxRecDepth 100000
set_option linter.unusedSimpArgs false
set_option linter.unusedVariables false
namespace Go.Ev
open Go Go.Proofs
noncomputable section
def setP (cs : List Cell) (k : Nat) (p : Int) : List Cell := cs.set k { cs.getD k default with pump := p }
end
end Go.Ev

