/-
  Rules of the evaluator, more of them.
-/
import Derived.Test.YtibplmibcbillaaVM
import Derived.Test.YtibplmibcbillaaV20
import Derived.Test.YtibplmibcbillaaV44
set_option maxRecDepth 100000
set_option linter.unusedSimpArgs false
set_option linter.unusedVariables false
namespace Go.Ev
open Go Go.Proofs
noncomputable section
def hiP (f : Nat → Int) : Nat → Int
  | 0 => -1
  | n + 1 => max (hiP f n) (f n)
theorem hiP_congr {f f' : Nat → Int} (n : Nat) (h : ∀ j, j < n → f j = f' j) : hiP f n = hiP f' n := by
  induction n with
  | zero => rfl
  | succ n ih => rw [hiP, hiP, ih fun j hj => h j (by omega), h n (by omega)]
theorem hiP_le {f : Nat → Int} {x : Int} (hx : -1 ≤ x) (n : Nat) (h : ∀ j, j < n → f j ≤ x) : hiP f n ≤ x := by
  induction n with
  | zero => exact hx
  | succ n ih => rw [hiP]; have := ih fun j hj => h j (by omega); have := h n (by omega); omega
theorem hiP_ge {f : Nat → Int} (n : Nat) : ∀ j, j < n → f j ≤ hiP f n := by
  induction n with
  | zero => intro j hj; omega
  | succ n ih =>
    intro j hj
    rw [hiP]
    rcases Nat.lt_or_ge j n with e | e
    · have := ih j e; omega
    · have : j = n := by omega
      subst this; omega
theorem c50 (m : Nat) (v : AV) (rows : List (List Int)) (k : Nat) (H : Heap) (hV : Lists H v rows) (hk : ∀ r ∈ rows, k < r.length) (hl : rows.length ≤ 1000) : RR (m + 1) (.fn 50 [v, I (k : Int)]) H = some (I (hiP (fun j => (rows.getD j []).getD k 0) rows.length), H) := by
  refine (R_fn _ _ _ _ _).trans ?_
  refine fn_ok Try.func50 rfl rfl (by kernel_rfl) (by kernel_rfl) ?_
  obtain ⟨W, hW⟩ : ∃ W : Heap, W = ⟨H.t, H.next, H.next⟩ := ⟨_, rfl⟩
  have hg : ∀ n, W.get n = H.get n := fun n => by rw [hW]; rfl
  have hN : W.next = H.next := by rw [hW]
  have hE : ∀ G, Grow W G → Ext H G := fun G g => ⟨by rw [← hN]; exact g.next, fun n k => by rw [g.get n (by rw [hN]; exact k), hg]⟩
  have hG : Grow W W := Grow.refl (by rw [hW]; exact Nat.le_refl _)
  rw [← hW]
  obtain ⟨vs, s1, s2, s3⟩ := hV
  have hla : lenOf v = some rows.length := by rw [s1.len]; simp; omega
  refine Ok.seq ?_
  refine Ok.region ?_
  refine OkO.assign rfl rfl ?_
  refine OkO.nil ?_
  refine Ok.seq ?_
  refine Ok.region ?_
  refine OkO.assign rfl rfl ?_
  refine OkO.nil ?_
  refine Ok.seq ?_
  refine Ok.seq ?_
  refine Ok.region ?_
  refine OkO.assign rfl rfl ?_
  refine OkO.nil ?_
  refine Ok.block ?_
  refine Ok.loop (fun n s => ∃ i : Nat, n = rows.length - i ∧ i ≤ rows.length ∧ Has 5 [(0, v), (1, I (k : Int)), (5, I (hiP (fun j => (rows.getD j []).getD k 0) i)), (6, I (i : Int))] s.T ∧ s.D = [] ∧ Grow W s.H) (rows.length) (by unfold loopFuel; omega)
    ⟨0, rfl, Nat.zero_le _, Has.of (by kernel_rfl), rfl, hG⟩ ?_
  rintro n ⟨T, D, G⟩ ⟨i, hn, hi, ⟨f, hT⟩, hD, hg⟩
  dsimp only at *
  subst hT hD
  have hgn := hg.next
  refine Ok.seq ?_
  refine Ok.seq ?_
  refine Ok.region ?_
  refine OkO.move rfl rfl ?_
  refine OkO.move rfl rfl ?_
  refine OkO.builtin rfl rfl rfl (bln (by kernel_rfl) (by first | assumption | rfl)) ?_
  refine OkO.bin rfl rfl rfl (bin_lss _ _) ?_
  refine OkO.nil ?_
  refine Ok.cond rfl (fun h1 => ?_) (fun h1 => ?_)
  · -- yes h1
    have hlt : i < rows.length := by simpa using h1
    have i1 : i < vs.length := by omega
    obtain ⟨xb, xo, xcs, x1, x2, x3, x4⟩ := (s1.ext (hE _ hg)).at_ i [vs[i]] (by simp [i1])
    have x5 := seg_one x3
    have hkr : k < rows[i].length := hk _ (List.getElem_mem hlt)
    have xr : Ints G vs[i] rows[i] := (s3 i vs[i] rows[i] (List.getElem?_eq_getElem i1) (List.getElem?_eq_getElem hlt)).ext (hE _ hg)
    have lx : lenOf vs[i] = some rows[i].length := by simpa using xr.len
    obtain ⟨yb, yo, ycs, y1, y2, y3, y4⟩ := xr.at_ k [I rows[i][k]] (by rw [List.getElem?_map, List.getElem?_eq_getElem hkr]; rfl)
    have y5 := seg_one y3
    have hnx : hiP (fun j => (rows.getD j []).getD k 0) (i + 1) = max (hiP (fun j => (rows.getD j []).getD k 0) i) rows[i][k] := by (rw [hiP]; congr 1; simp [hlt, hkr])
    refine Ok.skip ?_
    refine Ok.seq ?_
    refine Ok.block ?_
    refine Ok.seq ?_
    refine Ok.region ?_
    refine OkO.move rfl rfl ?_
    refine OkO.move rfl rfl ?_
    refine OkO.move rfl rfl ?_
    refine OkO.index (sz := 1) (n := i) rfl rfl rfl (by kernel_rfl) (by first | assumption | rfl | exact slAt_slice (by omega)) ?_ -- index ('Go.Operand.tmp', 14) ('Go.Operand.tmp', 15)
    refine OkO.load rfl rfl (lda (n := 1) (by kernel_rfl) (by first | assumption | (simp (disch := first | omega | (simp only [hNw, hPt]; omega)) only [gn0, gn1, gn2, gn3, gn4, gn5, gp0, gno, gpo] <;> first | rfl | assumption)) (by first | rfl | assumption)) ?_
    refine OkO.builtin rfl rfl rfl (bln (by kernel_rfl) (by first | assumption | rfl)) ?_
    refine OkO.bin rfl rfl rfl (bin_lss _ _) ?_
    refine OkO.nil ?_
    refine Ok.cond rfl (fun h2 => ?_) (fun h2 => ?_)
    · -- yes h2
      refine Ok.region ?_
      refine OkO.move rfl rfl ?_
      refine OkO.move rfl rfl ?_
      refine OkO.move rfl rfl ?_
      refine OkO.index (sz := 1) (n := i) rfl rfl rfl (by kernel_rfl) (by first | assumption | rfl | exact slAt_slice (by omega)) ?_ -- index ('Go.Operand.tmp', 21) ('Go.Operand.tmp', 22)
      refine OkO.load rfl rfl (lda (n := 1) (by kernel_rfl) (by first | assumption | (simp (disch := first | omega | (simp only [hNw, hPt]; omega)) only [gn0, gn1, gn2, gn3, gn4, gn5, gp0, gno, gpo] <;> first | rfl | assumption)) (by first | rfl | assumption)) ?_
      refine OkO.move rfl rfl ?_
      refine OkO.index (sz := 1) (n := k) rfl rfl rfl (by kernel_rfl) (by first | assumption | rfl | exact slAt_slice (by omega)) ?_ -- index ('Go.Operand.tmp', 24) ('Go.Operand.tmp', 25)
      refine OkO.load rfl rfl (lda (n := 1) (by kernel_rfl) (by first | assumption | (simp (disch := first | omega | (simp only [hNw, hPt]; omega)) only [gn0, gn1, gn2, gn3, gn4, gn5, gp0, gno, gpo] <;> first | rfl | assumption)) (by first | rfl | assumption)) ?_
      refine OkO.builtin rfl rfl rfl (builtin_max2 _ _) ?_
      refine OkO.assign rfl rfl ?_
      refine OkO.nil ?_
      refine Ok.region ?_
      refine OkO.move rfl rfl ?_
      refine OkO.bin rfl rfl rfl (bin_add (by omega) (by omega)) ?_
      refine OkO.assign rfl rfl ?_
      refine OkO.nil ?_
      refine ⟨rows.length - (i + 1), by omega, i + 1, rfl, hlt, ?_, rfl, hg⟩
      rw [hnx]; exact Has.of (by kernel_rfl)
    · -- no h2
      exact absurd h2 (by simp; omega)
  · -- no h1
    have hge : i = rows.length := by simp at h1; omega
    subst hge
    refine Ok.exit ?_
    refine Ok.seq ?_
    refine Ok.region ?_
    refine OkO.move rfl rfl ?_
    refine OkO.assign rfl rfl ?_
    refine OkO.nil ?_
    refine Ok.ret ⟨.inr rfl, ?_⟩
    exact back_flat rfl rfl rfl (by rw [← hW]; exact hg)
theorem c50R (m : Nat) (v : AV) (cs : List Cell) (g : Gr) (ds : List Day) (t : Tru) (lvs rain : List Int) (k : Nat) (H : Heap) (hV : Lists H v (rowsR cs g ds t lvs rain ds.length)) (hF : Fit cs g ds t lvs rain) (hk : k < cs.length) :
    RR (m + 1) (.fn 50 [v, I (k : Int)]) H = some (I (hiP (fun j => (levP cs g ds t lvs rain (j + 1)).getD k 0) ds.length), H) := by
  have hn8 := hF.n8
  have hd30 := hF.d30
  have hrl : (rowsR cs g ds t lvs rain ds.length).length = ds.length := by simp [rowsR]
  have e := c50 m v (rowsR cs g ds t lvs rain ds.length) k H hV (fun r hr => by
    rw [rowsR, List.mem_map] at hr
    obtain ⟨i, hi, rfl⟩ := hr
    have := lev_facts hF (i + 1) (by have := List.mem_range.1 hi; omega)
    simp; omega) (by omega)
  rw [hrl, hiP_congr (f := fun j => ((rowsR cs g ds t lvs rain ds.length).getD j []).getD k 0) (f' := fun j => (levP cs g ds t lvs rain (j + 1)).getD k 0) ds.length (fun j hj => by simp [rowsR, hj, List.getD_eq_getElem?_getD, List.getElem?_take, hk])] at e
  exact e
end
end Go.Ev

set_option maxRecDepth 100000
set_option linter.unusedSimpArgs false
set_option linter.unusedVariables false
namespace Go.Ev
open Go Go.Proofs
noncomputable section
theorem highL_len (cs : List Cell) : (highL cs).length = cs.length := by simp [highL]
theorem lt_hi {cs : List Cell} {g : Gr} {ds : List Day} {k : Nat} {z p : Int} (hd0 : daysErr cs g ds = 0) (hk : k < cs.length) (hp : 0 ≤ p ∧ p ≤ 100000) (hK : keepsB cs g ds k z p = false) : z < (hiP (fun j => (levP (setP cs k p) g ds (highT g) (highL cs) (highR ds) (j + 1)).getD k 0) ds.length) := by
  rcases Int.lt_or_le z (hiP (fun j => (levP (setP cs k p) g ds (highT g) (highL cs) (highR ds) (j + 1)).getD k 0) ds.length) with h | h
  · exact h
  · exfalso
    have e : keepsB cs g ds k z p = true := by
      rw [← keeps_eq]
      unfold keepsA
      rw [List.all_eq_true]
      intro i hi
      rw [decide_eq_true_eq, highL_setP]
      exact Int.le_trans (hiP_ge (f := fun j => (levP (setP cs k p) g ds (highT g) (highL cs) (highR ds) (j + 1)).getD k 0) ds.length i (List.mem_range.1 hi)) h
    rw [e] at hK; cases hK
theorem hi_le {cs : List Cell} {g : Gr} {ds : List Day} {t : Tru} {lvs rain : List Int} {k : Nat} {z p : Int} (hd0 : daysErr cs g ds = 0) (hte : truthErr cs g ds t lvs rain = 0) (hz : 0 ≤ z) (hp : 0 ≤ p ∧ p ≤ 100000) (hK : keepsB cs g ds k z p = true) : hiP (fun j => (levP (setP cs k p) g ds t lvs rain (j + 1)).getD k 0) ds.length ≤ z := by
  refine hiP_le (by omega) _ fun j hj => ?_
  rw [← keeps_eq] at hK
  unfold keepsA at hK
  rw [List.all_eq_true] at hK
  have h1 := hK j (List.mem_range.2 hj)
  rw [decide_eq_true_eq] at h1
  exact Int.le_trans (betw_lev (setP_days (k := k) hd0 hp) (setP_truth (k := k) hte hp) (j + 1) (by omega) k).2 h1
theorem c14W (m : Nat) (cv dv wv : AV) (cs : List Cell) (g : Gr) (ds : List Day) (ws : List Int) (y z x : Int) (H : Heap) (hR : Row H cv 7 (cs.map Cell.c)) (hY : Row H dv 3 (ds.map Day.c)) (hWs : Row H wv 1 (ws.map fun w => [U w])) (hws : Upto 65535 ws) (hy : 0 ≤ y ∧ y ≤ 255) (hz : 0 ≤ z ∧ z ≤ 65535) (hx9 : 0 ≤ x ∧ x ≤ 65535) (hrd : readyB cs g ds = false) : RR (m + 42) (.fn 14 [.agg [cv, I g.slo, I g.shi, I g.klo, I g.khi, I g.melt], dv, wv, .int .u8 y, .int .u16 z, .int .u16 x]) H = some (.bool true, H) := by
  refine (R_fn _ _ _ _ _).trans ?_
  refine fn_ok Try.func14 rfl rfl (by kernel_rfl) (by kernel_rfl) ?_
  obtain ⟨W, hW⟩ : ∃ W : Heap, W = ⟨H.t, H.next, H.next⟩ := ⟨_, rfl⟩
  have hg : ∀ n, W.get n = H.get n := fun n => by rw [hW]; rfl
  have hN : W.next = H.next := by rw [hW]
  have hE : ∀ G, Grow W G → Ext H G := fun G g => ⟨by rw [← hN]; exact g.next, fun n k => by rw [g.get n (by rw [hN]; exact k), hg]⟩
  have hG : Grow W W := Grow.refl (by rw [hW]; exact Nat.le_refl _)
  rw [← hW]
  have hlc : lenOf cv = some cs.length := by simpa using hR.len
  have pc := lpl hlc
  have hld : lenOf dv = some ds.length := by simpa using hY.len
  have hlw : lenOf wv = some ws.length := by simpa using hWs.len
  refine Ok.seq ?_
  refine Ok.region ?_
  refine OkO.box rfl rfl ?_
  refine OkO.assign rfl rfl ?_
  refine OkO.nil ?_
  refine Ok.seq ?_
  refine Ok.seq ?_
  refine Ok.region ?_
  refine OkO.load rfl rfl (ldg (n := 6) (by kernel_rfl) (by first | assumption | (simp (disch := first | omega | (simp only [hNw, hPt]; omega)) only [gn0, gn1, gn2, gn3, gn4, gn5, gp0, gno, gpo] <;> first | rfl | assumption)) (by first | rfl | assumption)) ?_
  refine OkO.move rfl rfl ?_
  refine OkO.callV rfl rfl rfl rfl rfl (c43 (m + 36) cv dv cs g ds _ (hR.ext (hE _ (by (try dsimp only); repeat (first | exact hG | apply Grow.new | (refine Grow.put ?_ _ (by first | omega | (simp only [hNw, hPt]; omega))))))) (hY.ext (hE _ (by (try dsimp only); repeat (first | exact hG | apply Grow.new | (refine Grow.put ?_ _ (by first | omega | (simp only [hNw, hPt]; omega)))))))) ?_ -- "sackung/sackunglaw02.ready"
  refine OkO.un rfl rfl rfl ?_
  refine OkO.nil ?_
  refine Ok.cond rfl (fun h1 => ?_) (fun h1 => ?_)
  · -- yes h1
    refine Ok.seq ?_
    refine Ok.region ?_
    refine OkO.callV rfl rfl rfl rfl rfl (rfl) ?_ -- "sackung/sackunglaw02.wakes"
    refine OkO.assign rfl rfl ?_
    refine OkO.nil ?_
    refine Ok.ret ⟨.inr rfl, ?_⟩
    exact back_flat rfl (congrArg AV.bool rfl) rfl (by rw [← hW]; exact (by (try dsimp only); repeat (first | exact hG | apply Grow.new | (refine Grow.put ?_ _ (by first | omega | (simp only [hNw, hPt]; omega))))))
  · -- no h1
    exact absurd h1 (by simp [hrd])
theorem c14F (m : Nat) (cv dv wv : AV) (cs : List Cell) (g : Gr) (ds : List Day) (ws : List Int) (y z x : Int) (H : Heap) (hR : Row H cv 7 (cs.map Cell.c)) (hY : Row H dv 3 (ds.map Day.c)) (hWs : Row H wv 1 (ws.map fun w => [U w])) (hws : Upto 65535 ws) (hy : 0 ≤ y ∧ y ≤ 255) (hz : 0 ≤ z ∧ z ≤ 65535) (hx9 : 0 ≤ x ∧ x ≤ 65535)(hrd : readyB cs g ds = true) {k : Nat} (hkq : y % (cs.length : Int) = (k : Int)) (hkl : k < cs.length) (hK : keepsB cs g ds k z 100000 = false) : RR (m + 42) (.fn 14 [.agg [cv, I g.slo, I g.shi, I g.klo, I g.khi, I g.melt], dv, wv, .int .u8 y, .int .u16 z, .int .u16 x]) H = some (.bool true, H) := by
  refine (R_fn _ _ _ _ _).trans ?_
  refine fn_ok Try.func14 rfl rfl (by kernel_rfl) (by kernel_rfl) ?_
  obtain ⟨W, hW⟩ : ∃ W : Heap, W = ⟨H.t, H.next, H.next⟩ := ⟨_, rfl⟩
  have hg : ∀ n, W.get n = H.get n := fun n => by rw [hW]; rfl
  have hN : W.next = H.next := by rw [hW]
  have hE : ∀ G, Grow W G → Ext H G := fun G g => ⟨by rw [← hN]; exact g.next, fun n k => by rw [g.get n (by rw [hN]; exact k), hg]⟩
  have hG : Grow W W := Grow.refl (by rw [hW]; exact Nat.le_refl _)
  rw [← hW]
  have hlc : lenOf cv = some cs.length := by simpa using hR.len
  have pc := lpl hlc
  have hld : lenOf dv = some ds.length := by simpa using hY.len
  have hlw : lenOf wv = some ws.length := by simpa using hWs.len
  have hd0 := ready_ok hrd
  have hGF := gf_of hd0
  have hg8 := hGF.n8
  have hg30 := hGF.d30
  have hfix : ∀ k : Nat, k < cs.length → askErr cs g ds (k : Int) z = 0 := fun k hk => by
    unfold askErr
    rw [if_pos hd0, if_pos]
    simp only [inB, Bool.and_eq_true, decide_eq_true_eq]
    omega
  have hhi : z < (hiP (fun j => (levP (setP cs k 100000) g ds (highT g) (highL cs) (highR ds) (j + 1)).getD k 0) ds.length) := lt_hi hd0 hkl (by omega) hK
  refine Ok.seq ?_
  refine Ok.region ?_
  refine OkO.box rfl rfl ?_
  refine OkO.assign rfl rfl ?_
  refine OkO.nil ?_
  refine Ok.seq ?_
  refine Ok.seq ?_
  refine Ok.region ?_
  refine OkO.load rfl rfl (ldg (n := 6) (by kernel_rfl) (by first | assumption | (simp (disch := first | omega | (simp only [hNw, hPt]; omega)) only [gn0, gn1, gn2, gn3, gn4, gn5, gp0, gno, gpo] <;> first | rfl | assumption)) (by first | rfl | assumption)) ?_
  refine OkO.move rfl rfl ?_
  refine OkO.callV rfl rfl rfl rfl rfl (c43 (m + 36) cv dv cs g ds _ (hR.ext (hE _ (by (try dsimp only); repeat (first | exact hG | apply Grow.new | (refine Grow.put ?_ _ (by first | omega | (simp only [hNw, hPt]; omega))))))) (hY.ext (hE _ (by (try dsimp only); repeat (first | exact hG | apply Grow.new | (refine Grow.put ?_ _ (by first | omega | (simp only [hNw, hPt]; omega)))))))) ?_ -- "sackung/sackunglaw02.ready"
  refine OkO.un rfl rfl rfl ?_
  refine OkO.nil ?_
  refine Ok.cond rfl (fun h1 => ?_) (fun h1 => ?_)
  · -- yes h1
    exact absurd h1 (by simp [hrd])
  · -- no h1
    refine Ok.skip ?_
    refine Ok.seq ?_
    refine Ok.region ?_
    refine OkO.move rfl rfl ?_
    refine OkO.convert (k := .i64) rfl (by kernel_rfl) rfl (by first | exact wrapF_i64 (by omega) (by omega)) ?_
    refine OkO.fieldAddr (o := 0) rfl (by kernel_rfl) rfl ?_
    refine OkO.load rfl rfl (lda (n := 1) (by kernel_rfl) (by first | assumption | (simp (disch := first | omega | (simp only [hNw, hPt]; omega)) only [gn0, gn1, gn2, gn3, gn4, gn5, gp0, gno, gpo] <;> first | rfl | assumption)) (by first | rfl | assumption)) ?_
    refine OkO.builtin rfl rfl rfl (bln (by kernel_rfl) (by first | assumption | rfl)) ?_
    refine OkO.bin rfl rfl rfl (bin_rem (by omega) (by omega)) ?_
    refine OkO.assign rfl rfl ?_
    refine OkO.nil ?_
    refine Ok.seq ?_
    refine Ok.region ?_
    refine OkO.load rfl rfl (ldg (n := 6) (by kernel_rfl) (by first | assumption | (simp (disch := first | omega | (simp only [hNw, hPt]; omega)) only [gn0, gn1, gn2, gn3, gn4, gn5, gp0, gno, gpo] <;> first | rfl | assumption)) (by first | rfl | assumption)) ?_
    refine OkO.callE rfl rfl rfl rfl rfl (c19 (m + 39) cv cs g _ (hR.ext (hE _ (by (try dsimp only); repeat (first | exact hG | apply Grow.new | (refine Grow.put ?_ _ (by first | omega | (simp only [hNw, hPt]; omega))))))) (by omega)) ?_ -- "sackung/sackunglaw02.Ground"
    rintro vA HA ⟨cvA, rfl, qA, rA, atA⟩
    have gA : Grow W HA := Grow.ret (by (try dsimp only); repeat (first | exact hG | apply Grow.new | (refine Grow.put ?_ _ (by first | omega | (simp only [hNw, hPt]; omega))))) qA
    have nA : W.next + 1 ≤ HA.next := by have := qA.ext.next; first | omega | (simp only [hNw, hPt] at this; omega)
    have aA : (HA.get W.next).bind AObj.cs = some [cv, I g.slo, I g.shi, I g.klo, I g.khi, I g.melt] := by rw [qA.ext.get _ (by first | omega | (simp only [hNw, hPt]; omega))]; first | assumption | (simp (disch := first | omega | (simp only [hNw, hPt]; omega)) only [gn0, gn1, gn2, gn3, gn4, gn5, gp0, gno, gpo] <;> first | rfl | assumption)
    refine OkO.move rfl rfl ?_
    refine OkO.callE rfl rfl rfl rfl rfl (c21 (m + 39) dv ds _ (hY.ext (hE _ gA)) (by omega)) ?_ -- "sackung/sackunglaw02.Days"
    rintro dvB HB ⟨qB, rB, atB⟩
    have gB : Grow W HB := Grow.ret gA qB
    have nB : W.next + 1 ≤ HB.next := by have := qB.ext.next; first | omega | (simp only [hNw, hPt] at this; omega)
    have aB : (HB.get W.next).bind AObj.cs = some [cv, I g.slo, I g.shi, I g.klo, I g.khi, I g.melt] := by rw [qB.ext.get _ (by first | omega | (simp only [hNw, hPt]; omega))]; first | assumption | (simp (disch := first | omega | (simp only [hNw, hPt]; omega)) only [gn0, gn1, gn2, gn3, gn4, gn5, gp0, gno, gpo] <;> first | rfl | assumption)
    refine OkO.move rfl rfl ?_
    refine OkO.move rfl rfl ?_
    refine OkO.convert (k := .i64) rfl (by kernel_rfl) rfl (by first | exact wrapF_i64 (by omega) (by omega)) ?_
    refine OkO.callV rfl rfl rfl rfl rfl ((by rw [hkq]; exact c38F (m + 29) cvA dvB cs g ds k z _ (rA.ext qB.ext) rB atB hkl (hfix k hkl) hK)) ?_ -- "sackung/water.Least"
    refine OkO.move rfl rfl ?_
    refine OkO.extract rfl rfl rfl ?_
    refine OkO.extract rfl rfl rfl ?_
    refine OkO.assign rfl rfl ?_
    refine OkO.assign rfl rfl ?_
    refine OkO.nil ?_
    refine Ok.seq ?_
    refine Ok.seq ?_
    refine Ok.region ?_
    refine OkO.move rfl rfl ?_
    refine OkO.bin rfl rfl rfl (bin_neq _ _) ?_
    refine OkO.move rfl rfl ?_
    refine OkO.split (d := 51) rfl (fun g2 => ?_) (fun g2 => ?_)
    · -- true g2
      refine OkO.move rfl rfl ?_
      refine OkO.bin rfl rfl rfl (bin_neq _ _) ?_
      refine OkO.pick (b := true) rfl rfl (fun _ => rfl) nofun ?_
      refine OkO.move rfl rfl ?_
      refine OkO.split (d := 55) rfl (fun g3 => ?_) (fun g3 => ?_)
      · -- true g3
        exact absurd (of_decide_eq_true g3) (by omega)
      · -- false g3
        refine OkO.move rfl rfl ?_
        refine OkO.bin rfl rfl rfl (bin_lss _ _) ?_
        refine OkO.pick (b := false) rfl rfl nofun (fun _ => rfl) ?_
        refine OkO.move rfl rfl ?_
        refine OkO.split (d := 59) rfl (fun g4 => ?_) (fun g4 => ?_)
        · -- true g4
          exact absurd (of_decide_eq_true g4) (by omega)
        · -- false g4
          refine OkO.move rfl rfl ?_
          refine OkO.bin rfl rfl rfl (bin_gtr _ _) ?_
          refine OkO.pick (b := false) rfl rfl nofun (fun _ => rfl) ?_
          refine OkO.nil ?_
          refine Ok.cond rfl (fun h5 => ?_) (fun h5 => ?_)
          · -- yes h5
            exact absurd h5 (by simp)
          · -- no h5
            refine Ok.skip ?_
            refine Ok.seq ?_
            refine Ok.region ?_
            refine OkO.assign rfl rfl ?_
            refine OkO.nil ?_
            refine Ok.seq ?_
            refine Ok.seq ?_
            refine Ok.region ?_
            refine OkO.move rfl rfl ?_
            refine OkO.bin rfl rfl rfl (bin_eql _ _) ?_
            refine OkO.nil ?_
            refine Ok.cond rfl (fun h6 => ?_) (fun h6 => ?_)
            · -- yes h6
              exact absurd h6 (by simp)
            · -- no h6
              refine Ok.skip ?_
              refine Ok.seq ?_
              refine Ok.region ?_
              refine OkO.load rfl rfl (ldg (n := 6) (by kernel_rfl) (by first | assumption | (simp (disch := first | omega | (simp only [hNw, hPt]; omega)) only [gn0, gn1, gn2, gn3, gn4, gn5, gp0, gno, gpo] <;> first | rfl | assumption)) (by first | rfl | assumption)) ?_
              refine OkO.move rfl rfl ?_
              refine OkO.move rfl rfl ?_
              refine OkO.callE rfl rfl rfl rfl rfl ((by rw [hkq]; exact c47 (m + 40) cv cs g k 100000 _ (hR.ext (hE _ gB)) (by omega) hkl)) ?_ -- "sackung/sackungref02.With"
              rintro vN2 HN2 ⟨cvN2, rfl, qN2, FN2⟩
              have gN2 : Grow W HN2 := Grow.ret gB qN2
              have nN2 : W.next + 1 ≤ HN2.next := by have := qN2.ext.next; first | omega | (simp only [hNw, hPt] at this; omega)
              have aN2 : (HN2.get W.next).bind AObj.cs = some [cv, I g.slo, I g.shi, I g.klo, I g.khi, I g.melt] := by rw [qN2.ext.get _ (by first | omega | (simp only [hNw, hPt]; omega))]; first | assumption | (simp (disch := first | omega | (simp only [hNw, hPt]; omega)) only [gn0, gn1, gn2, gn3, gn4, gn5, gp0, gno, gpo] <;> first | rfl | assumption)
              have rN2 := FN2.now (Nat.le_refl _)
              have acN2 := rN2.atom (by simp [setP_len]; omega)
              have hlN2 : lenOf cvN2 = some cs.length := by rw [rN2.len]; simp [setP_len]
              have pcN2 := lpl hlN2
              refine OkO.alloc (z := [.nils, .int .i64 0, .int .i64 0, .int .i64 0, .int .i64 0, .int .i64 0]) rfl (by kernel_rfl) ?_
              refine OkO.store rfl rfl rfl (stc (n := 6) (ag := true) (l := [cvN2, I g.slo, I g.shi, I g.klo, I g.khi, I g.melt]) (by kernel_rfl) (by first | assumption | simp (disch := first | omega | (simp only [hNw, hPt]; omega)) only [gn0, gn1, gn2, gn3, gn4, gn5, gp0, gno, gpo] <;> first | rfl | assumption) rfl (by show atoms [cvN2, I g.slo, I g.shi, I g.klo, I g.khi, I g.melt] = true; simp [atoms, acN2, show ∀ z, (I z).atom = true from fun _ => rfl]) rfl) ?_
              refine OkO.nil ?_
              refine Ok.seq ?_
              refine Ok.drawn [(0, true, []), (2, true, []), (4, true, []), (5, true, []), (1, false, [4]), (3, false, [4, 0]), (6, false, [0]), (7, false, [4, 0]), (8, false, [4, 0]), (9, true, []), (10, true, []), (11, true, []), (12, true, []), (13, true, []), (14, true, []), (15, true, []), (16, true, []), (17, true, [])] (by kernel_rfl) ?_
              refine OkP.step ?_
              refine OkO.load rfl rfl (ldg (n := 6) (by kernel_rfl) (by first | assumption | (simp (disch := first | omega | (simp only [hNw, hPt]; omega)) only [gn0, gn1, gn2, gn3, gn4, gn5, gp0, gno, gpo] <;> first | rfl | assumption)) (by first | rfl | assumption)) ?_
              refine OkO.nil ⟨rfl, ?_⟩
              refine OkP.step ?_
              refine OkO.move rfl rfl ?_
              refine OkO.nil ⟨rfl, ?_⟩
              refine OkP.step ?_
              refine OkO.load rfl rfl (ldg (n := 6) (by kernel_rfl) (by first | assumption | (simp (disch := first | omega | (simp only [hNw, hPt]; omega)) only [gn0, gn1, gn2, gn3, gn4, gn5, gp0, gno, gpo] <;> first | rfl | assumption)) (by first | rfl | assumption)) ?_
              refine OkO.nil ⟨rfl, ?_⟩
              refine OkP.step ?_
              refine OkO.move rfl rfl ?_
              refine OkO.nil ⟨rfl, ?_⟩
              refine OkP.step ?_
              refine OkO.callE rfl rfl rfl rfl rfl (c19 (m + 39) cvN2 (setP cs k 100000) g _ (rN2.ext (show Ext HN2 _ from (by (try dsimp only); repeat (first | exact Ext.refl _ | assumption | apply Ext.new | (refine Ext.put ?_ _ (by first | omega | (simp only [hNw, hPt]; omega))))))) (by rw [setP_len]; omega)) ?_ -- "sackung/sackunglaw02.Ground"
              rintro vFN2 HFN2 ⟨cvFN2, rfl, qFN2, rFN2, atFN2⟩
              have gFN2 : Grow W HFN2 := Grow.ret (by (try dsimp only); repeat (first | (first | exact gN2 | exact hG) | apply Grow.new | (refine Grow.put ?_ _ (by first | omega | (simp only [hNw, hPt]; omega))))) qFN2
              have nFN2 : W.next + 1 ≤ HFN2.next := by have := qFN2.ext.next; first | omega | (simp only [hNw, hPt] at this; omega)
              have aFN2 : (HFN2.get W.next).bind AObj.cs = some [cv, I g.slo, I g.shi, I g.klo, I g.khi, I g.melt] := by rw [qFN2.ext.get _ (by first | omega | (simp only [hNw, hPt]; omega))]; first | assumption | (simp (disch := first | omega | (simp only [hNw, hPt]; omega)) only [gn0, gn1, gn2, gn3, gn4, gn5, gp0, gno, gpo] <;> first | rfl | assumption)
              have tnFN2 : HN2.next + 1 ≤ HFN2.next := by have := qFN2.ext.next; first | omega | (simp only [hNw, hPt] at this; omega)
              have tFN2 : (HFN2.get HN2.next).bind AObj.cs = some [cvN2, I g.slo, I g.shi, I g.klo, I g.khi, I g.melt] := by rw [qFN2.ext.get _ (by first | omega | (simp only [hNw, hPt]; omega))]; first | assumption | (rw [gp0]; rfl)
              refine OkO.nil ⟨(sco (sld rfl rfl (ldg (n := 6) (by kernel_rfl) (by first | assumption | (simp (disch := first | omega | (simp only [hNw, hPt]; omega)) only [gn0, gn1, gn2, gn3, gn4, gn5, gp0, gno, gpo] <;> first | rfl | assumption)) (by first | rfl | assumption)) rfl (eqr _ (by first | rfl | exact lpl (by assumption) | (simp [AV.plain, AV.plains, AV.cells, pc, pcN2])))) rfl), ?_⟩
              refine OkP.step ?_
              refine OkO.callE rfl rfl rfl rfl rfl (c21 (m + 39) dv ds _ (hY.ext (hE _ gFN2)) (by omega)) ?_ -- "sackung/sackunglaw02.Days"
              rintro dvJN2 HJN2 ⟨qJN2, rJN2, atJN2⟩
              have gJN2 : Grow W HJN2 := Grow.ret gFN2 qJN2
              have nJN2 : W.next + 1 ≤ HJN2.next := by have := qJN2.ext.next; first | omega | (simp only [hNw, hPt] at this; omega)
              have aJN2 : (HJN2.get W.next).bind AObj.cs = some [cv, I g.slo, I g.shi, I g.klo, I g.khi, I g.melt] := by rw [qJN2.ext.get _ (by first | omega | (simp only [hNw, hPt]; omega))]; first | assumption | (simp (disch := first | omega | (simp only [hNw, hPt]; omega)) only [gn0, gn1, gn2, gn3, gn4, gn5, gp0, gno, gpo] <;> first | rfl | assumption)
              have tnJN2 : HN2.next + 1 ≤ HJN2.next := by have := qJN2.ext.next; first | omega | (simp only [hNw, hPt] at this; omega)
              have tJN2 : (HJN2.get HN2.next).bind AObj.cs = some [cvN2, I g.slo, I g.shi, I g.klo, I g.khi, I g.melt] := by rw [qJN2.ext.get _ (by first | omega | (simp only [hNw, hPt]; omega))]; first | assumption | (rw [gp0]; rfl)
              refine OkO.nil ⟨(sco (sld rfl rfl (ldg (n := 6) (by kernel_rfl) (by first | assumption | (simp (disch := first | omega | (simp only [hNw, hPt]; omega)) only [gn0, gn1, gn2, gn3, gn4, gn5, gp0, gno, gpo] <;> first | rfl | assumption)) (by first | rfl | assumption)) rfl (eqr _ (by first | rfl | exact lpl (by assumption) | (simp [AV.plain, AV.plains, AV.cells, pc, pcN2])))) (sco (sld rfl rfl (ldg (n := 6) (by kernel_rfl) (by first | assumption | (simp (disch := first | omega | (simp only [hNw, hPt]; omega)) only [gn0, gn1, gn2, gn3, gn4, gn5, gp0, gno, gpo] <;> first | rfl | assumption)) (by first | rfl | assumption)) rfl (eqr _ (by first | rfl | exact lpl (by assumption) | (simp [AV.plain, AV.plains, AV.cells, pc, pcN2])))) rfl)), ?_⟩
              refine OkP.step ?_
              refine OkO.callE rfl rfl rfl rfl rfl (c29h (m + 40) cv dv cs g ds _ (hR.ext (hE _ gJN2)) (hY.ext (hE _ gJN2)) (by omega) (by omega)) ?_ -- "sackung/sackungref02.Ends"
              rintro vPN2 HPN2 ⟨lvU, rvU, rfl, qPN2, lU, rU⟩
              have gPN2 : Grow W HPN2 := Grow.ret gJN2 qPN2
              have nPN2 : W.next + 1 ≤ HPN2.next := by have := qPN2.ext.next; first | omega | (simp only [hNw, hPt] at this; omega)
              have aPN2 : (HPN2.get W.next).bind AObj.cs = some [cv, I g.slo, I g.shi, I g.klo, I g.khi, I g.melt] := by rw [qPN2.ext.get _ (by first | omega | (simp only [hNw, hPt]; omega))]; first | assumption | (simp (disch := first | omega | (simp only [hNw, hPt]; omega)) only [gn0, gn1, gn2, gn3, gn4, gn5, gp0, gno, gpo] <;> first | rfl | assumption)
              have tnPN2 : HN2.next + 1 ≤ HPN2.next := by have := qPN2.ext.next; first | omega | (simp only [hNw, hPt] at this; omega)
              have tPN2 : (HPN2.get HN2.next).bind AObj.cs = some [cvN2, I g.slo, I g.shi, I g.klo, I g.khi, I g.melt] := by rw [qPN2.ext.get _ (by first | omega | (simp only [hNw, hPt]; omega))]; first | assumption | (rw [gp0]; rfl)
              have hteU := setP_truth (k := k) (p := 100000) (high_ok hd0) (by omega)
              have hl9 : (highL cs).length = cs.length := by simp [highL]
              have hr9 : (highR ds).length = ds.length := by simp [highR]
              refine OkO.nil ⟨(sco (sld rfl rfl (ldg (n := 6) (by kernel_rfl) (by first | assumption | (simp (disch := first | omega | (simp only [hNw, hPt]; omega)) only [gn0, gn1, gn2, gn3, gn4, gn5, gp0, gno, gpo] <;> first | rfl | assumption)) (by first | rfl | assumption)) rfl (eqr _ (by first | rfl | exact lpl (by assumption) | (simp [AV.plain, AV.plains, AV.cells, pc, pcN2])))) rfl), ?_⟩
              refine OkP.step ?_
              refine OkO.callE rfl rfl rfl rfl rfl (c22 (m + 39) lvU rvU (highT g) (highL cs) (highR ds) _ lU (by omega) rU (by omega)) ?_ -- "sackung/sackunglaw02.Truth"
              rintro vTN2 HTN2 ⟨lvTN2, rvTN2, rfl, qTN2, lTN2, rTN2⟩
              have gTN2 : Grow W HTN2 := Grow.ret gPN2 qTN2
              have nTN2 : W.next + 1 ≤ HTN2.next := by have := qTN2.ext.next; first | omega | (simp only [hNw, hPt] at this; omega)
              have aTN2 : (HTN2.get W.next).bind AObj.cs = some [cv, I g.slo, I g.shi, I g.klo, I g.khi, I g.melt] := by rw [qTN2.ext.get _ (by first | omega | (simp only [hNw, hPt]; omega))]; first | assumption | (simp (disch := first | omega | (simp only [hNw, hPt]; omega)) only [gn0, gn1, gn2, gn3, gn4, gn5, gp0, gno, gpo] <;> first | rfl | assumption)
              have tnTN2 : HN2.next + 1 ≤ HTN2.next := by have := qTN2.ext.next; first | omega | (simp only [hNw, hPt] at this; omega)
              have tTN2 : (HTN2.get HN2.next).bind AObj.cs = some [cvN2, I g.slo, I g.shi, I g.klo, I g.khi, I g.melt] := by rw [qTN2.ext.get _ (by first | omega | (simp only [hNw, hPt]; omega))]; first | assumption | (rw [gp0]; rfl)
              refine OkO.nil ⟨(sco (sld rfl rfl (ldg (n := 6) (by kernel_rfl) (by first | assumption | (simp (disch := first | omega | (simp only [hNw, hPt]; omega)) only [gn0, gn1, gn2, gn3, gn4, gn5, gp0, gno, gpo] <;> first | rfl | assumption)) (by first | rfl | assumption)) rfl (eqr _ (by first | rfl | exact lpl (by assumption) | (simp [AV.plain, AV.plains, AV.cells, pc, pcN2])))) (sco (sld rfl rfl (ldg (n := 6) (by kernel_rfl) (by first | assumption | (simp (disch := first | omega | (simp only [hNw, hPt]; omega)) only [gn0, gn1, gn2, gn3, gn4, gn5, gp0, gno, gpo] <;> first | rfl | assumption)) (by first | rfl | assumption)) rfl (eqr _ (by first | rfl | exact lpl (by assumption) | (simp [AV.plain, AV.plains, AV.cells, pc, pcN2])))) rfl)), ?_⟩
              refine OkP.step ?_
              refine OkO.callE rfl rfl rfl rfl rfl (c20 (m + 33) cvFN2 dvJN2 lvTN2 rvTN2 (setP cs k 100000) g ds (highT g) (highL cs) (highR ds) _ (rFN2.ext (qJN2.ext.trans (qPN2.ext.trans qTN2.ext))) (by rw [setP_len]; omega) (rJN2.ext (qPN2.ext.trans qTN2.ext)) (by omega) lTN2 (by omega) rTN2 (by omega) hteU) ?_ -- "sackung/water.Run"
              rintro vRN2 HRN2 ⟨v6N2, v7N2, rfl, qRN2, lsN2, inN2⟩
              have gRN2 : Grow W HRN2 := Grow.ret gTN2 qRN2
              have nRN2 : W.next + 1 ≤ HRN2.next := by have := qRN2.ext.next; first | omega | (simp only [hNw, hPt] at this; omega)
              have aRN2 : (HRN2.get W.next).bind AObj.cs = some [cv, I g.slo, I g.shi, I g.klo, I g.khi, I g.melt] := by rw [qRN2.ext.get _ (by first | omega | (simp only [hNw, hPt]; omega))]; first | assumption | (simp (disch := first | omega | (simp only [hNw, hPt]; omega)) only [gn0, gn1, gn2, gn3, gn4, gn5, gp0, gno, gpo] <;> first | rfl | assumption)
              have tnRN2 : HN2.next + 1 ≤ HRN2.next := by have := qRN2.ext.next; first | omega | (simp only [hNw, hPt] at this; omega)
              have tRN2 : (HRN2.get HN2.next).bind AObj.cs = some [cvN2, I g.slo, I g.shi, I g.klo, I g.khi, I g.melt] := by rw [qRN2.ext.get _ (by first | omega | (simp only [hNw, hPt]; omega))]; first | assumption | (rw [gp0]; rfl)
              refine OkO.nil ⟨(sco (sld rfl rfl (ldg (n := 6) (by kernel_rfl) (by first | assumption | (simp (disch := first | omega | (simp only [hNw, hPt]; omega)) only [gn0, gn1, gn2, gn3, gn4, gn5, gp0, gno, gpo] <;> first | rfl | assumption)) (by first | rfl | assumption)) rfl (eqr _ (by first | rfl | exact lpl (by assumption) | (simp [AV.plain, AV.plains, AV.cells, pc, pcN2])))) (sco (sld rfl rfl (ldg (n := 6) (by kernel_rfl) (by first | assumption | (simp (disch := first | omega | (simp only [hNw, hPt]; omega)) only [gn0, gn1, gn2, gn3, gn4, gn5, gp0, gno, gpo] <;> first | rfl | assumption)) (by first | rfl | assumption)) rfl (eqr _ (by first | rfl | exact lpl (by assumption) | (simp [AV.plain, AV.plains, AV.cells, pc, pcN2])))) rfl)), ?_⟩
              refine OkP.step ?_
              refine OkO.move rfl rfl ?_
              refine OkO.nil ⟨rfl, ?_⟩
              refine OkP.step ?_
              refine OkO.extract rfl rfl rfl ?_
              refine OkO.nil ⟨rfl, ?_⟩
              refine OkP.step ?_
              refine OkO.extract rfl rfl rfl ?_
              refine OkO.nil ⟨rfl, ?_⟩
              refine OkP.step ?_
              refine OkO.extract rfl rfl rfl ?_
              refine OkO.nil ⟨rfl, ?_⟩
              refine OkP.step ?_
              refine OkO.extract rfl rfl rfl ?_
              refine OkO.nil ⟨rfl, ?_⟩
              refine OkP.step ?_
              refine OkO.assign rfl rfl ?_
              refine OkO.nil ⟨rfl, ?_⟩
              refine OkP.step ?_
              refine OkO.assign rfl rfl ?_
              refine OkO.nil ⟨rfl, ?_⟩
              refine OkP.step ?_
              refine OkO.assign rfl rfl ?_
              refine OkO.nil ⟨rfl, ?_⟩
              refine OkP.step ?_
              refine OkO.assign rfl rfl ?_
              refine OkO.nil ⟨rfl, ?_⟩
              refine OkP.nil ?_
              refine Ok.seq ?_
              refine Ok.region ?_
              refine OkO.move rfl rfl ?_
              refine OkO.bin rfl rfl rfl (bin_eql _ _) ?_
              refine OkO.move rfl rfl ?_
              refine OkO.split (d := 123) rfl (fun g7 => ?_) (fun g7 => ?_)
              · -- true g7
                refine OkO.move rfl rfl ?_
                refine OkO.move rfl rfl ?_
                refine OkO.callV rfl rfl rfl rfl rfl ((by rw [hkq]; exact c50R (m + 40) v6N2 (setP cs k 100000) g ds (highT g) (highL cs) (highR ds) k _ lsN2 (fit_of hteU) (by rw [setP_len]; exact hkl))) ?_ -- "sackung/sackunglaw02.highest"
                refine OkO.move rfl rfl ?_
                refine OkO.convert (k := .i64) rfl (by kernel_rfl) rfl (by first | exact wrapF_i64 (by omega) (by omega)) ?_
                refine OkO.bin rfl rfl rfl (bin_gtr _ _) ?_
                refine OkO.pick (b := true) rfl rfl (fun _ => rfl) nofun ?_
                refine OkO.move rfl rfl ?_
                refine OkO.split (d := 131) rfl (fun g8 => ?_) (fun g8 => ?_)
                · -- true g8
                  refine OkO.callV rfl rfl rfl rfl rfl (rfl) ?_ -- "sackung/sackunglaw02.wakes"
                  refine OkO.pick (b := true) rfl rfl (fun _ => rfl) nofun ?_
                  refine OkO.assign rfl rfl ?_
                  refine OkO.nil ?_
                  refine Ok.ret ⟨.inr rfl, ?_⟩
                  exact back_flat rfl (congrArg AV.bool rfl) rfl (by rw [← hW]; exact gRN2)
                · -- false g8
                  exact absurd (of_decide_eq_false g8) (by omega)
              · -- false g7
                exact absurd g7 (by simp)
    · -- false g2
      exact absurd g2 (by simp)
theorem c14T (m : Nat) (cv dv wv : AV) (cs : List Cell) (g : Gr) (ds : List Day) (ws : List Int) (y z x : Int) (H : Heap) (hR : Row H cv 7 (cs.map Cell.c)) (hY : Row H dv 3 (ds.map Day.c)) (hWs : Row H wv 1 (ws.map fun w => [U w])) (hws : Upto 65535 ws) (hy : 0 ≤ y ∧ y ≤ 255) (hz : 0 ≤ z ∧ z ≤ 65535) (hx9 : 0 ≤ x ∧ x ≤ 65535)(hrd : readyB cs g ds = true) {k : Nat} (hkq : y % (cs.length : Int) = (k : Int)) (hkl : k < cs.length) (hK : keepsB cs g ds k z 100000 = true) : RR (m + 42) (.fn 14 [.agg [cv, I g.slo, I g.shi, I g.klo, I g.khi, I g.melt], dv, wv, .int .u8 y, .int .u16 z, .int .u16 x]) H = some (.bool true, H) := by
  refine (R_fn _ _ _ _ _).trans ?_
  refine fn_ok Try.func14 rfl rfl (by kernel_rfl) (by kernel_rfl) ?_
  obtain ⟨W, hW⟩ : ∃ W : Heap, W = ⟨H.t, H.next, H.next⟩ := ⟨_, rfl⟩
  have hg : ∀ n, W.get n = H.get n := fun n => by rw [hW]; rfl
  have hN : W.next = H.next := by rw [hW]
  have hE : ∀ G, Grow W G → Ext H G := fun G g => ⟨by rw [← hN]; exact g.next, fun n k => by rw [g.get n (by rw [hN]; exact k), hg]⟩
  have hG : Grow W W := Grow.refl (by rw [hW]; exact Nat.le_refl _)
  rw [← hW]
  have hlc : lenOf cv = some cs.length := by simpa using hR.len
  have pc := lpl hlc
  have hld : lenOf dv = some ds.length := by simpa using hY.len
  have hlw : lenOf wv = some ws.length := by simpa using hWs.len
  have hd0 := ready_ok hrd
  have hGF := gf_of hd0
  have hg8 := hGF.n8
  have hg30 := hGF.d30
  have hfix : ∀ k : Nat, k < cs.length → askErr cs g ds (k : Int) z = 0 := fun k hk => by
    unfold askErr
    rw [if_pos hd0, if_pos]
    simp only [inB, Bool.and_eq_true, decide_eq_true_eq]
    omega
  refine Ok.seq ?_
  refine Ok.region ?_
  refine OkO.box rfl rfl ?_
  refine OkO.assign rfl rfl ?_
  refine OkO.nil ?_
  refine Ok.seq ?_
  refine Ok.seq ?_
  refine Ok.region ?_
  refine OkO.load rfl rfl (ldg (n := 6) (by kernel_rfl) (by first | assumption | (simp (disch := first | omega | (simp only [hNw, hPt]; omega)) only [gn0, gn1, gn2, gn3, gn4, gn5, gp0, gno, gpo] <;> first | rfl | assumption)) (by first | rfl | assumption)) ?_
  refine OkO.move rfl rfl ?_
  refine OkO.callV rfl rfl rfl rfl rfl (c43 (m + 36) cv dv cs g ds _ (hR.ext (hE _ (by (try dsimp only); repeat (first | exact hG | apply Grow.new | (refine Grow.put ?_ _ (by first | omega | (simp only [hNw, hPt]; omega))))))) (hY.ext (hE _ (by (try dsimp only); repeat (first | exact hG | apply Grow.new | (refine Grow.put ?_ _ (by first | omega | (simp only [hNw, hPt]; omega)))))))) ?_ -- "sackung/sackunglaw02.ready"
  refine OkO.un rfl rfl rfl ?_
  refine OkO.nil ?_
  refine Ok.cond rfl (fun h1 => ?_) (fun h1 => ?_)
  · -- yes h1
    exact absurd h1 (by simp [hrd])
  · -- no h1
    refine Ok.skip ?_
    refine Ok.seq ?_
    refine Ok.region ?_
    refine OkO.move rfl rfl ?_
    refine OkO.convert (k := .i64) rfl (by kernel_rfl) rfl (by first | exact wrapF_i64 (by omega) (by omega)) ?_
    refine OkO.fieldAddr (o := 0) rfl (by kernel_rfl) rfl ?_
    refine OkO.load rfl rfl (lda (n := 1) (by kernel_rfl) (by first | assumption | (simp (disch := first | omega | (simp only [hNw, hPt]; omega)) only [gn0, gn1, gn2, gn3, gn4, gn5, gp0, gno, gpo] <;> first | rfl | assumption)) (by first | rfl | assumption)) ?_
    refine OkO.builtin rfl rfl rfl (bln (by kernel_rfl) (by first | assumption | rfl)) ?_
    refine OkO.bin rfl rfl rfl (bin_rem (by omega) (by omega)) ?_
    refine OkO.assign rfl rfl ?_
    refine OkO.nil ?_
    refine Ok.seq ?_
    refine Ok.region ?_
    refine OkO.load rfl rfl (ldg (n := 6) (by kernel_rfl) (by first | assumption | (simp (disch := first | omega | (simp only [hNw, hPt]; omega)) only [gn0, gn1, gn2, gn3, gn4, gn5, gp0, gno, gpo] <;> first | rfl | assumption)) (by first | rfl | assumption)) ?_
    refine OkO.callE rfl rfl rfl rfl rfl (c19 (m + 39) cv cs g _ (hR.ext (hE _ (by (try dsimp only); repeat (first | exact hG | apply Grow.new | (refine Grow.put ?_ _ (by first | omega | (simp only [hNw, hPt]; omega))))))) (by omega)) ?_ -- "sackung/sackunglaw02.Ground"
    rintro vA HA ⟨cvA, rfl, qA, rA, atA⟩
    have gA : Grow W HA := Grow.ret (by (try dsimp only); repeat (first | exact hG | apply Grow.new | (refine Grow.put ?_ _ (by first | omega | (simp only [hNw, hPt]; omega))))) qA
    have nA : W.next + 1 ≤ HA.next := by have := qA.ext.next; first | omega | (simp only [hNw, hPt] at this; omega)
    have aA : (HA.get W.next).bind AObj.cs = some [cv, I g.slo, I g.shi, I g.klo, I g.khi, I g.melt] := by rw [qA.ext.get _ (by first | omega | (simp only [hNw, hPt]; omega))]; first | assumption | (simp (disch := first | omega | (simp only [hNw, hPt]; omega)) only [gn0, gn1, gn2, gn3, gn4, gn5, gp0, gno, gpo] <;> first | rfl | assumption)
    refine OkO.move rfl rfl ?_
    refine OkO.callE rfl rfl rfl rfl rfl (c21 (m + 39) dv ds _ (hY.ext (hE _ gA)) (by omega)) ?_ -- "sackung/sackunglaw02.Days"
    rintro dvB HB ⟨qB, rB, atB⟩
    have gB : Grow W HB := Grow.ret gA qB
    have nB : W.next + 1 ≤ HB.next := by have := qB.ext.next; first | omega | (simp only [hNw, hPt] at this; omega)
    have aB : (HB.get W.next).bind AObj.cs = some [cv, I g.slo, I g.shi, I g.klo, I g.khi, I g.melt] := by rw [qB.ext.get _ (by first | omega | (simp only [hNw, hPt]; omega))]; first | assumption | (simp (disch := first | omega | (simp only [hNw, hPt]; omega)) only [gn0, gn1, gn2, gn3, gn4, gn5, gp0, gno, gpo] <;> first | rfl | assumption)
    refine OkO.move rfl rfl ?_
    refine OkO.move rfl rfl ?_
    refine OkO.convert (k := .i64) rfl (by kernel_rfl) rfl (by first | exact wrapF_i64 (by omega) (by omega)) ?_
    refine OkO.callE rfl rfl rfl rfl rfl ((by rw [hkq]; exact c38T (m + 29) cvA dvB cs g ds k z _ (rA.ext qB.ext) rB atB hkl (hfix k hkl) hK)) ?_ -- "sackung/water.Least"
    rintro v38 H38 ⟨r, hH38, hr, r2, r3, rfl⟩
    subst hH38
    refine OkO.move rfl rfl ?_
    refine OkO.extract rfl rfl rfl ?_
    refine OkO.extract rfl rfl rfl ?_
    refine OkO.assign rfl rfl ?_
    refine OkO.assign rfl rfl ?_
    refine OkO.nil ?_
    refine Ok.seq ?_
    refine Ok.seq ?_
    refine Ok.region ?_
    refine OkO.move rfl rfl ?_
    refine OkO.bin rfl rfl rfl (bin_neq _ _) ?_
    refine OkO.move rfl rfl ?_
    refine OkO.split (d := 51) rfl (fun g2 => ?_) (fun g2 => ?_)
    · -- true g2
      exact absurd g2 (by simp)
    · -- false g2
      refine OkO.skip rfl ?_
      refine OkO.skip rfl ?_
      refine OkO.pick (b := false) rfl rfl nofun (fun _ => rfl) ?_
      refine OkO.move rfl rfl ?_
      refine OkO.move rfl rfl ?_
      refine OkO.bin rfl rfl rfl (bin_lss _ _) ?_
      refine OkO.pick (b := false) rfl rfl nofun (fun _ => rfl) ?_
      refine OkO.move rfl rfl ?_
      refine OkO.split (d := 59) rfl (fun g3 => ?_) (fun g3 => ?_)
      · -- true g3
        exact absurd (of_decide_eq_true g3) (by omega)
      · -- false g3
        refine OkO.move rfl rfl ?_
        refine OkO.bin rfl rfl rfl (bin_gtr _ _) ?_
        refine OkO.pick (b := false) rfl rfl nofun (fun _ => rfl) ?_
        refine OkO.nil ?_
        refine Ok.cond rfl (fun h4 => ?_) (fun h4 => ?_)
        · -- yes h4
          exact absurd (of_decide_eq_true h4) (by omega)
        · -- no h4
          refine Ok.skip ?_
          refine Ok.seq ?_
          refine Ok.region ?_
          refine OkO.assign rfl rfl ?_
          refine OkO.nil ?_
          refine Ok.seq ?_
          refine Ok.seq ?_
          refine Ok.region ?_
          refine OkO.move rfl rfl ?_
          refine OkO.bin rfl rfl rfl (bin_eql _ _) ?_
          refine OkO.nil ?_
          refine Ok.cond rfl (fun h5 => ?_) (fun h5 => ?_)
          · -- yes h5
            refine Ok.seq ?_
            refine Ok.region ?_
            refine OkO.load rfl rfl (ldg (n := 6) (by kernel_rfl) (by first | assumption | (simp (disch := first | omega | (simp only [hNw, hPt]; omega)) only [gn0, gn1, gn2, gn3, gn4, gn5, gp0, gno, gpo] <;> first | rfl | assumption)) (by first | rfl | assumption)) ?_
            refine OkO.move rfl rfl ?_
            refine OkO.move rfl rfl ?_
            refine OkO.callE rfl rfl rfl rfl rfl ((by rw [hkq]; exact c47 (m + 40) cv cs g k (0 + (r : Int)) _ (hR.ext (hE _ gB)) (by omega) hkl)) ?_ -- "sackung/sackungref02.With"
            rintro vN1 HN1 ⟨cvN1, rfl, qN1, FN1⟩
            have gN1 : Grow W HN1 := Grow.ret gB qN1
            have nN1 : W.next + 1 ≤ HN1.next := by have := qN1.ext.next; first | omega | (simp only [hNw, hPt] at this; omega)
            have aN1 : (HN1.get W.next).bind AObj.cs = some [cv, I g.slo, I g.shi, I g.klo, I g.khi, I g.melt] := by rw [qN1.ext.get _ (by first | omega | (simp only [hNw, hPt]; omega))]; first | assumption | (simp (disch := first | omega | (simp only [hNw, hPt]; omega)) only [gn0, gn1, gn2, gn3, gn4, gn5, gp0, gno, gpo] <;> first | rfl | assumption)
            have rN1 := FN1.now (Nat.le_refl _)
            have acN1 := rN1.atom (by simp [setP_len]; omega)
            have hlN1 : lenOf cvN1 = some cs.length := by rw [rN1.len]; simp [setP_len]
            have pcN1 := lpl hlN1
            refine OkO.alloc (z := [.nils, .int .i64 0, .int .i64 0, .int .i64 0, .int .i64 0, .int .i64 0]) rfl (by kernel_rfl) ?_
            refine OkO.store rfl rfl rfl (stc (n := 6) (ag := true) (l := [cvN1, I g.slo, I g.shi, I g.klo, I g.khi, I g.melt]) (by kernel_rfl) (by first | assumption | simp (disch := first | omega | (simp only [hNw, hPt]; omega)) only [gn0, gn1, gn2, gn3, gn4, gn5, gp0, gno, gpo] <;> first | rfl | assumption) rfl (by show atoms [cvN1, I g.slo, I g.shi, I g.klo, I g.khi, I g.melt] = true; simp [atoms, acN1, show ∀ z, (I z).atom = true from fun _ => rfl]) rfl) ?_
            refine OkO.nil ?_
            refine Ok.seq ?_
            refine Ok.drawn [(0, true, []), (2, true, []), (4, true, []), (5, true, []), (6, true, []), (1, false, [4]), (3, false, [4, 0]), (7, false, [0]), (8, false, [4, 0]), (9, false, [4, 0]), (10, true, []), (11, true, []), (12, true, []), (13, true, []), (14, true, []), (15, true, []), (16, true, []), (17, true, []), (18, true, [])] (by kernel_rfl) ?_
            refine OkP.step ?_
            refine OkO.load rfl rfl (ldg (n := 6) (by kernel_rfl) (by first | assumption | (simp (disch := first | omega | (simp only [hNw, hPt]; omega)) only [gn0, gn1, gn2, gn3, gn4, gn5, gp0, gno, gpo] <;> first | rfl | assumption)) (by first | rfl | assumption)) ?_
            refine OkO.nil ⟨rfl, ?_⟩
            refine OkP.step ?_
            refine OkO.move rfl rfl ?_
            refine OkO.nil ⟨rfl, ?_⟩
            refine OkP.step ?_
            refine OkO.load rfl rfl (ldg (n := 6) (by kernel_rfl) (by first | assumption | (simp (disch := first | omega | (simp only [hNw, hPt]; omega)) only [gn0, gn1, gn2, gn3, gn4, gn5, gp0, gno, gpo] <;> first | rfl | assumption)) (by first | rfl | assumption)) ?_
            refine OkO.nil ⟨rfl, ?_⟩
            refine OkP.step ?_
            refine OkO.move rfl rfl ?_
            refine OkO.nil ⟨rfl, ?_⟩
            refine OkP.step ?_
            refine OkO.move rfl rfl ?_
            refine OkO.nil ⟨rfl, ?_⟩
            refine OkP.step ?_
            refine OkO.callE rfl rfl rfl rfl rfl (c19 (m + 39) cvN1 (setP cs k (0 + (r : Int))) g _ (rN1.ext (show Ext HN1 _ from (by (try dsimp only); repeat (first | exact Ext.refl _ | assumption | apply Ext.new | (refine Ext.put ?_ _ (by first | omega | (simp only [hNw, hPt]; omega))))))) (by rw [setP_len]; omega)) ?_ -- "sackung/sackunglaw02.Ground"
            rintro vFN1 HFN1 ⟨cvFN1, rfl, qFN1, rFN1, atFN1⟩
            have gFN1 : Grow W HFN1 := Grow.ret (by (try dsimp only); repeat (first | (first | exact gN1 | exact hG) | apply Grow.new | (refine Grow.put ?_ _ (by first | omega | (simp only [hNw, hPt]; omega))))) qFN1
            have nFN1 : W.next + 1 ≤ HFN1.next := by have := qFN1.ext.next; first | omega | (simp only [hNw, hPt] at this; omega)
            have aFN1 : (HFN1.get W.next).bind AObj.cs = some [cv, I g.slo, I g.shi, I g.klo, I g.khi, I g.melt] := by rw [qFN1.ext.get _ (by first | omega | (simp only [hNw, hPt]; omega))]; first | assumption | (simp (disch := first | omega | (simp only [hNw, hPt]; omega)) only [gn0, gn1, gn2, gn3, gn4, gn5, gp0, gno, gpo] <;> first | rfl | assumption)
            have tnFN1 : HN1.next + 1 ≤ HFN1.next := by have := qFN1.ext.next; first | omega | (simp only [hNw, hPt] at this; omega)
            have tFN1 : (HFN1.get HN1.next).bind AObj.cs = some [cvN1, I g.slo, I g.shi, I g.klo, I g.khi, I g.melt] := by rw [qFN1.ext.get _ (by first | omega | (simp only [hNw, hPt]; omega))]; first | assumption | (rw [gp0]; rfl)
            refine OkO.nil ⟨(sco (sld rfl rfl (ldg (n := 6) (by kernel_rfl) (by first | assumption | (simp (disch := first | omega | (simp only [hNw, hPt]; omega)) only [gn0, gn1, gn2, gn3, gn4, gn5, gp0, gno, gpo] <;> first | rfl | assumption)) (by first | rfl | assumption)) rfl (eqr _ (by first | rfl | exact lpl (by assumption) | (simp [AV.plain, AV.plains, AV.cells, pc, pcN1])))) rfl), ?_⟩
            refine OkP.step ?_
            refine OkO.callE rfl rfl rfl rfl rfl (c21 (m + 39) dv ds _ (hY.ext (hE _ gFN1)) (by omega)) ?_ -- "sackung/sackunglaw02.Days"
            rintro dvJN1 HJN1 ⟨qJN1, rJN1, atJN1⟩
            have gJN1 : Grow W HJN1 := Grow.ret gFN1 qJN1
            have nJN1 : W.next + 1 ≤ HJN1.next := by have := qJN1.ext.next; first | omega | (simp only [hNw, hPt] at this; omega)
            have aJN1 : (HJN1.get W.next).bind AObj.cs = some [cv, I g.slo, I g.shi, I g.klo, I g.khi, I g.melt] := by rw [qJN1.ext.get _ (by first | omega | (simp only [hNw, hPt]; omega))]; first | assumption | (simp (disch := first | omega | (simp only [hNw, hPt]; omega)) only [gn0, gn1, gn2, gn3, gn4, gn5, gp0, gno, gpo] <;> first | rfl | assumption)
            have tnJN1 : HN1.next + 1 ≤ HJN1.next := by have := qJN1.ext.next; first | omega | (simp only [hNw, hPt] at this; omega)
            have tJN1 : (HJN1.get HN1.next).bind AObj.cs = some [cvN1, I g.slo, I g.shi, I g.klo, I g.khi, I g.melt] := by rw [qJN1.ext.get _ (by first | omega | (simp only [hNw, hPt]; omega))]; first | assumption | (rw [gp0]; rfl)
            refine OkO.nil ⟨(sco (sld rfl rfl (ldg (n := 6) (by kernel_rfl) (by first | assumption | (simp (disch := first | omega | (simp only [hNw, hPt]; omega)) only [gn0, gn1, gn2, gn3, gn4, gn5, gp0, gno, gpo] <;> first | rfl | assumption)) (by first | rfl | assumption)) rfl (eqr _ (by first | rfl | exact lpl (by assumption) | (simp [AV.plain, AV.plains, AV.cells, pc, pcN1])))) (sco (sld rfl rfl (ldg (n := 6) (by kernel_rfl) (by first | assumption | (simp (disch := first | omega | (simp only [hNw, hPt]; omega)) only [gn0, gn1, gn2, gn3, gn4, gn5, gp0, gno, gpo] <;> first | rfl | assumption)) (by first | rfl | assumption)) rfl (eqr _ (by first | rfl | exact lpl (by assumption) | (simp [AV.plain, AV.plains, AV.cells, pc, pcN1])))) rfl)), ?_⟩
            refine OkP.step ?_
            refine OkO.callE rfl rfl rfl rfl rfl (c44 (m + 39) cv dv wv cs g ds ws _ (hR.ext (hE _ gJN1)) (hY.ext (hE _ gJN1)) (hWs.ext (hE _ gJN1)) hws hGF.lim hGF.dlim hGF.n8.2 hGF.d30 hGF.snow hGF.soak) ?_ -- "sackung/sackunglaw02.Picked"
            rintro vPN1 HPN1 ⟨lvP, rvP, rfl, qPN1, lP, rP, alP, arP⟩
            have gPN1 : Grow W HPN1 := Grow.ret gJN1 qPN1
            have nPN1 : W.next + 1 ≤ HPN1.next := by have := qPN1.ext.next; first | omega | (simp only [hNw, hPt] at this; omega)
            have aPN1 : (HPN1.get W.next).bind AObj.cs = some [cv, I g.slo, I g.shi, I g.klo, I g.khi, I g.melt] := by rw [qPN1.ext.get _ (by first | omega | (simp only [hNw, hPt]; omega))]; first | assumption | (simp (disch := first | omega | (simp only [hNw, hPt]; omega)) only [gn0, gn1, gn2, gn3, gn4, gn5, gp0, gno, gpo] <;> first | rfl | assumption)
            have tnPN1 : HN1.next + 1 ≤ HPN1.next := by have := qPN1.ext.next; first | omega | (simp only [hNw, hPt] at this; omega)
            have tPN1 : (HPN1.get HN1.next).bind AObj.cs = some [cvN1, I g.slo, I g.shi, I g.klo, I g.khi, I g.melt] := by rw [qPN1.ext.get _ (by first | omega | (simp only [hNw, hPt]; omega))]; first | assumption | (rw [gp0]; rfl)
            have hte := pick_ok ws hd0
            generalize pickT g ws = t at *
            generalize pickL cs ws cs.length = lvs at *
            generalize pickR cs ds ws ds.length = rain at *
            have hF := fit_of hte
            have hfl := hF.ll
            have hfr := hF.rl
            have hteP := setP_truth (k := k) hte (show 0 ≤ (0 + (r : Int)) ∧ (0 + (r : Int)) ≤ 100000 by omega)
            refine OkO.nil ⟨(sco (sld rfl rfl (ldg (n := 6) (by kernel_rfl) (by first | assumption | (simp (disch := first | omega | (simp only [hNw, hPt]; omega)) only [gn0, gn1, gn2, gn3, gn4, gn5, gp0, gno, gpo] <;> first | rfl | assumption)) (by first | rfl | assumption)) rfl (eqr _ (by first | rfl | exact lpl (by assumption) | (simp [AV.plain, AV.plains, AV.cells, pc, pcN1])))) rfl), ?_⟩
            refine OkP.step ?_
            refine OkO.callE rfl rfl rfl rfl rfl (c22 (m + 39) lvP rvP t lvs rain _ lP (by omega) rP (by omega)) ?_ -- "sackung/sackunglaw02.Truth"
            rintro vTN1 HTN1 ⟨lvTN1, rvTN1, rfl, qTN1, lTN1, rTN1⟩
            have gTN1 : Grow W HTN1 := Grow.ret gPN1 qTN1
            have nTN1 : W.next + 1 ≤ HTN1.next := by have := qTN1.ext.next; first | omega | (simp only [hNw, hPt] at this; omega)
            have aTN1 : (HTN1.get W.next).bind AObj.cs = some [cv, I g.slo, I g.shi, I g.klo, I g.khi, I g.melt] := by rw [qTN1.ext.get _ (by first | omega | (simp only [hNw, hPt]; omega))]; first | assumption | (simp (disch := first | omega | (simp only [hNw, hPt]; omega)) only [gn0, gn1, gn2, gn3, gn4, gn5, gp0, gno, gpo] <;> first | rfl | assumption)
            have tnTN1 : HN1.next + 1 ≤ HTN1.next := by have := qTN1.ext.next; first | omega | (simp only [hNw, hPt] at this; omega)
            have tTN1 : (HTN1.get HN1.next).bind AObj.cs = some [cvN1, I g.slo, I g.shi, I g.klo, I g.khi, I g.melt] := by rw [qTN1.ext.get _ (by first | omega | (simp only [hNw, hPt]; omega))]; first | assumption | (rw [gp0]; rfl)
            refine OkO.nil ⟨(sco (sld rfl rfl (ldg (n := 6) (by kernel_rfl) (by first | assumption | (simp (disch := first | omega | (simp only [hNw, hPt]; omega)) only [gn0, gn1, gn2, gn3, gn4, gn5, gp0, gno, gpo] <;> first | rfl | assumption)) (by first | rfl | assumption)) rfl (eqr _ (by first | rfl | exact lpl (by assumption) | (simp [AV.plain, AV.plains, AV.cells, pc, pcN1])))) (sco (sld rfl rfl (ldg (n := 6) (by kernel_rfl) (by first | assumption | (simp (disch := first | omega | (simp only [hNw, hPt]; omega)) only [gn0, gn1, gn2, gn3, gn4, gn5, gp0, gno, gpo] <;> first | rfl | assumption)) (by first | rfl | assumption)) rfl (eqr _ (by first | rfl | exact lpl (by assumption) | (simp [AV.plain, AV.plains, AV.cells, pc, pcN1])))) rfl)), ?_⟩
            refine OkP.step ?_
            refine OkO.callE rfl rfl rfl rfl rfl (c20 (m + 33) cvFN1 dvJN1 lvTN1 rvTN1 (setP cs k (0 + (r : Int))) g ds t lvs rain _ (rFN1.ext (qJN1.ext.trans (qPN1.ext.trans qTN1.ext))) (by rw [setP_len]; omega) (rJN1.ext (qPN1.ext.trans qTN1.ext)) (by omega) lTN1 (by omega) rTN1 (by omega) hteP) ?_ -- "sackung/water.Run"
            rintro vRN1 HRN1 ⟨v6N1, v7N1, rfl, qRN1, lsN1, inN1⟩
            have gRN1 : Grow W HRN1 := Grow.ret gTN1 qRN1
            have nRN1 : W.next + 1 ≤ HRN1.next := by have := qRN1.ext.next; first | omega | (simp only [hNw, hPt] at this; omega)
            have aRN1 : (HRN1.get W.next).bind AObj.cs = some [cv, I g.slo, I g.shi, I g.klo, I g.khi, I g.melt] := by rw [qRN1.ext.get _ (by first | omega | (simp only [hNw, hPt]; omega))]; first | assumption | (simp (disch := first | omega | (simp only [hNw, hPt]; omega)) only [gn0, gn1, gn2, gn3, gn4, gn5, gp0, gno, gpo] <;> first | rfl | assumption)
            have tnRN1 : HN1.next + 1 ≤ HRN1.next := by have := qRN1.ext.next; first | omega | (simp only [hNw, hPt] at this; omega)
            have tRN1 : (HRN1.get HN1.next).bind AObj.cs = some [cvN1, I g.slo, I g.shi, I g.klo, I g.khi, I g.melt] := by rw [qRN1.ext.get _ (by first | omega | (simp only [hNw, hPt]; omega))]; first | assumption | (rw [gp0]; rfl)
            have hlo : hiP (fun j => (levP (setP cs k (0 + (r : Int))) g ds t lvs rain (j + 1)).getD k 0) ds.length ≤ z := hi_le hd0 hte (by omega) (by omega) (by rw [Int.zero_add]; exact r3)
            refine OkO.nil ⟨(sco (sld rfl rfl (ldg (n := 6) (by kernel_rfl) (by first | assumption | (simp (disch := first | omega | (simp only [hNw, hPt]; omega)) only [gn0, gn1, gn2, gn3, gn4, gn5, gp0, gno, gpo] <;> first | rfl | assumption)) (by first | rfl | assumption)) rfl (eqr _ (by first | rfl | exact lpl (by assumption) | (simp [AV.plain, AV.plains, AV.cells, pc, pcN1])))) (sco (sld rfl rfl (ldg (n := 6) (by kernel_rfl) (by first | assumption | (simp (disch := first | omega | (simp only [hNw, hPt]; omega)) only [gn0, gn1, gn2, gn3, gn4, gn5, gp0, gno, gpo] <;> first | rfl | assumption)) (by first | rfl | assumption)) rfl (eqr _ (by first | rfl | exact lpl (by assumption) | (simp [AV.plain, AV.plains, AV.cells, pc, pcN1])))) rfl)), ?_⟩
            refine OkP.step ?_
            refine OkO.move rfl rfl ?_
            refine OkO.nil ⟨rfl, ?_⟩
            refine OkP.step ?_
            refine OkO.extract rfl rfl rfl ?_
            refine OkO.nil ⟨rfl, ?_⟩
            refine OkP.step ?_
            refine OkO.extract rfl rfl rfl ?_
            refine OkO.nil ⟨rfl, ?_⟩
            refine OkP.step ?_
            refine OkO.extract rfl rfl rfl ?_
            refine OkO.nil ⟨rfl, ?_⟩
            refine OkP.step ?_
            refine OkO.extract rfl rfl rfl ?_
            refine OkO.nil ⟨rfl, ?_⟩
            refine OkP.step ?_
            refine OkO.assign rfl rfl ?_
            refine OkO.nil ⟨rfl, ?_⟩
            refine OkP.step ?_
            refine OkO.assign rfl rfl ?_
            refine OkO.nil ⟨rfl, ?_⟩
            refine OkP.step ?_
            refine OkO.assign rfl rfl ?_
            refine OkO.nil ⟨rfl, ?_⟩
            refine OkP.step ?_
            refine OkO.assign rfl rfl ?_
            refine OkO.nil ⟨rfl, ?_⟩
            refine OkP.nil ?_
            refine Ok.seq ?_
            refine Ok.seq ?_
            refine Ok.region ?_
            refine OkO.move rfl rfl ?_
            refine OkO.bin rfl rfl rfl (bin_neq _ _) ?_
            refine OkO.move rfl rfl ?_
            refine OkO.split (d := 86) rfl (fun g6 => ?_) (fun g6 => ?_)
            · -- true g6
              exact absurd g6 (by simp)
            · -- false g6
              refine OkO.move rfl rfl ?_
              refine OkO.move rfl rfl ?_
              refine OkO.callV rfl rfl rfl rfl rfl ((by rw [hkq]; exact c50R (m + 40) v6N1 (setP cs k (0 + (r : Int))) g ds t lvs rain k _ lsN1 (fit_of hteP) (by rw [setP_len]; exact hkl))) ?_ -- "sackung/sackunglaw02.highest"
              refine OkO.move rfl rfl ?_
              refine OkO.convert (k := .i64) rfl (by kernel_rfl) rfl (by first | exact wrapF_i64 (by omega) (by omega)) ?_
              refine OkO.bin rfl rfl rfl (bin_gtr _ _) ?_
              refine OkO.pick (b := false) rfl rfl nofun (fun _ => rfl) ?_
              refine OkO.nil ?_
              refine Ok.cond rfl (fun h7 => ?_) (fun h7 => ?_)
              · -- yes h7
                exact absurd (of_decide_eq_true h7) (by omega)
              · -- no h7
                refine Ok.skip ?_
                refine Ok.seq ?_
                refine Ok.seq ?_
                refine Ok.region ?_
                refine OkO.move rfl rfl ?_
                refine OkO.bin rfl rfl rfl (bin_eql _ _) ?_
                refine OkO.nil ?_
                refine Ok.cond rfl (fun h8 => ?_) (fun h8 => ?_)
                · -- yes h8
                  refine Ok.seq ?_
                  refine Ok.region ?_
                  refine OkO.callV rfl rfl rfl rfl rfl (rfl) ?_ -- "sackung/sackunglaw02.wakes"
                  refine OkO.assign rfl rfl ?_
                  refine OkO.nil ?_
                  refine Ok.ret ⟨.inr rfl, ?_⟩
                  exact back_flat rfl (congrArg AV.bool rfl) rfl (by rw [← hW]; exact gRN1)
                · -- no h8
                  have hr0 : ¬r = 0 := by (have e9 : ¬((0 : Int) + (r : Int) = 0) := by simpa using h8); omega
                  have hrf : keepsB cs g ds k z ((r - 1 : Nat) : Int) = false := r2.resolve_left hr0
                  have hKl : keepsB cs g ds k z (max 0 (0 + (r : Int) - 1 - x)) = false := by (cases hq : keepsB cs g ds k z (max 0 (0 + (r : Int) - 1 - x)) with | false => rfl | true => rw [keeps_mono hd0 (by omega) (show (max 0 (0 + (r : Int) - 1 - x)) ≤ ((r - 1 : Nat) : Int) by omega) (by omega) hq] at hrf; cases hrf)
                  have hhi : z < (hiP (fun j => (levP (setP cs k (max 0 (0 + (r : Int) - 1 - x))) g ds (highT g) (highL cs) (highR ds) (j + 1)).getD k 0) ds.length) := lt_hi hd0 hkl (by omega) hKl
                  refine Ok.skip ?_
                  refine Ok.region ?_
                  refine OkO.move rfl rfl ?_
                  refine OkO.bin rfl rfl rfl (bin_sub (by omega) (by omega)) ?_
                  refine OkO.move rfl rfl ?_
                  refine OkO.convert (k := .i64) rfl (by kernel_rfl) rfl (by first | exact wrapF_i64 (by omega) (by omega)) ?_
                  refine OkO.bin rfl rfl rfl (bin_sub (by omega) (by omega)) ?_
                  refine OkO.builtin rfl rfl rfl (builtin_max2 _ _) ?_
                  refine OkO.assign rfl rfl ?_
                  refine OkO.nil ?_
                  refine Ok.seq ?_
                  refine Ok.region ?_
                  refine OkO.load rfl rfl (ldg (n := 6) (by kernel_rfl) (by first | assumption | (simp (disch := first | omega | (simp only [hNw, hPt]; omega)) only [gn0, gn1, gn2, gn3, gn4, gn5, gp0, gno, gpo] <;> first | rfl | assumption)) (by first | rfl | assumption)) ?_
                  refine OkO.move rfl rfl ?_
                  refine OkO.move rfl rfl ?_
                  refine OkO.callE rfl rfl rfl rfl rfl ((by rw [hkq]; exact c47 (m + 40) cv cs g k (max 0 (0 + (r : Int) - 1 - x)) _ (hR.ext (hE _ gRN1)) (by omega) hkl)) ?_ -- "sackung/sackungref02.With"
                  rintro vN2 HN2 ⟨cvN2, rfl, qN2, FN2⟩
                  have gN2 : Grow W HN2 := Grow.ret gRN1 qN2
                  have nN2 : W.next + 1 ≤ HN2.next := by have := qN2.ext.next; first | omega | (simp only [hNw, hPt] at this; omega)
                  have aN2 : (HN2.get W.next).bind AObj.cs = some [cv, I g.slo, I g.shi, I g.klo, I g.khi, I g.melt] := by rw [qN2.ext.get _ (by first | omega | (simp only [hNw, hPt]; omega))]; first | assumption | (simp (disch := first | omega | (simp only [hNw, hPt]; omega)) only [gn0, gn1, gn2, gn3, gn4, gn5, gp0, gno, gpo] <;> first | rfl | assumption)
                  have rN2 := FN2.now (Nat.le_refl _)
                  have acN2 := rN2.atom (by simp [setP_len]; omega)
                  have hlN2 : lenOf cvN2 = some cs.length := by rw [rN2.len]; simp [setP_len]
                  have pcN2 := lpl hlN2
                  refine OkO.alloc (z := [.nils, .int .i64 0, .int .i64 0, .int .i64 0, .int .i64 0, .int .i64 0]) rfl (by kernel_rfl) ?_
                  refine OkO.store rfl rfl rfl (stc (n := 6) (ag := true) (l := [cvN2, I g.slo, I g.shi, I g.klo, I g.khi, I g.melt]) (by kernel_rfl) (by first | assumption | simp (disch := first | omega | (simp only [hNw, hPt]; omega)) only [gn0, gn1, gn2, gn3, gn4, gn5, gp0, gno, gpo] <;> first | rfl | assumption) rfl (by show atoms [cvN2, I g.slo, I g.shi, I g.klo, I g.khi, I g.melt] = true; simp [atoms, acN2, show ∀ z, (I z).atom = true from fun _ => rfl]) rfl) ?_
                  refine OkO.nil ?_
                  refine Ok.seq ?_
                  refine Ok.drawn [(0, true, []), (2, true, []), (4, true, []), (5, true, []), (1, false, [4]), (3, false, [4, 0]), (6, false, [0]), (7, false, [4, 0]), (8, false, [4, 0]), (9, true, []), (10, true, []), (11, true, []), (12, true, []), (13, true, []), (14, true, []), (15, true, []), (16, true, []), (17, true, [])] (by kernel_rfl) ?_
                  refine OkP.step ?_
                  refine OkO.load rfl rfl (ldg (n := 6) (by kernel_rfl) (by first | assumption | (simp (disch := first | omega | (simp only [hNw, hPt]; omega)) only [gn0, gn1, gn2, gn3, gn4, gn5, gp0, gno, gpo] <;> first | rfl | assumption)) (by first | rfl | assumption)) ?_
                  refine OkO.nil ⟨rfl, ?_⟩
                  refine OkP.step ?_
                  refine OkO.move rfl rfl ?_
                  refine OkO.nil ⟨rfl, ?_⟩
                  refine OkP.step ?_
                  refine OkO.load rfl rfl (ldg (n := 6) (by kernel_rfl) (by first | assumption | (simp (disch := first | omega | (simp only [hNw, hPt]; omega)) only [gn0, gn1, gn2, gn3, gn4, gn5, gp0, gno, gpo] <;> first | rfl | assumption)) (by first | rfl | assumption)) ?_
                  refine OkO.nil ⟨rfl, ?_⟩
                  refine OkP.step ?_
                  refine OkO.move rfl rfl ?_
                  refine OkO.nil ⟨rfl, ?_⟩
                  refine OkP.step ?_
                  refine OkO.callE rfl rfl rfl rfl rfl (c19 (m + 39) cvN2 (setP cs k (max 0 (0 + (r : Int) - 1 - x))) g _ (rN2.ext (show Ext HN2 _ from (by (try dsimp only); repeat (first | exact Ext.refl _ | assumption | apply Ext.new | (refine Ext.put ?_ _ (by first | omega | (simp only [hNw, hPt]; omega))))))) (by rw [setP_len]; omega)) ?_ -- "sackung/sackunglaw02.Ground"
                  rintro vFN2 HFN2 ⟨cvFN2, rfl, qFN2, rFN2, atFN2⟩
                  have gFN2 : Grow W HFN2 := Grow.ret (by (try dsimp only); repeat (first | (first | exact gN2 | exact hG) | apply Grow.new | (refine Grow.put ?_ _ (by first | omega | (simp only [hNw, hPt]; omega))))) qFN2
                  have nFN2 : W.next + 1 ≤ HFN2.next := by have := qFN2.ext.next; first | omega | (simp only [hNw, hPt] at this; omega)
                  have aFN2 : (HFN2.get W.next).bind AObj.cs = some [cv, I g.slo, I g.shi, I g.klo, I g.khi, I g.melt] := by rw [qFN2.ext.get _ (by first | omega | (simp only [hNw, hPt]; omega))]; first | assumption | (simp (disch := first | omega | (simp only [hNw, hPt]; omega)) only [gn0, gn1, gn2, gn3, gn4, gn5, gp0, gno, gpo] <;> first | rfl | assumption)
                  have tnFN2 : HN2.next + 1 ≤ HFN2.next := by have := qFN2.ext.next; first | omega | (simp only [hNw, hPt] at this; omega)
                  have tFN2 : (HFN2.get HN2.next).bind AObj.cs = some [cvN2, I g.slo, I g.shi, I g.klo, I g.khi, I g.melt] := by rw [qFN2.ext.get _ (by first | omega | (simp only [hNw, hPt]; omega))]; first | assumption | (rw [gp0]; rfl)
                  refine OkO.nil ⟨(sco (sld rfl rfl (ldg (n := 6) (by kernel_rfl) (by first | assumption | (simp (disch := first | omega | (simp only [hNw, hPt]; omega)) only [gn0, gn1, gn2, gn3, gn4, gn5, gp0, gno, gpo] <;> first | rfl | assumption)) (by first | rfl | assumption)) rfl (eqr _ (by first | rfl | exact lpl (by assumption) | (simp [AV.plain, AV.plains, AV.cells, pc, pcN1, pcN2])))) rfl), ?_⟩
                  refine OkP.step ?_
                  refine OkO.callE rfl rfl rfl rfl rfl (c21 (m + 39) dv ds _ (hY.ext (hE _ gFN2)) (by omega)) ?_ -- "sackung/sackunglaw02.Days"
                  rintro dvJN2 HJN2 ⟨qJN2, rJN2, atJN2⟩
                  have gJN2 : Grow W HJN2 := Grow.ret gFN2 qJN2
                  have nJN2 : W.next + 1 ≤ HJN2.next := by have := qJN2.ext.next; first | omega | (simp only [hNw, hPt] at this; omega)
                  have aJN2 : (HJN2.get W.next).bind AObj.cs = some [cv, I g.slo, I g.shi, I g.klo, I g.khi, I g.melt] := by rw [qJN2.ext.get _ (by first | omega | (simp only [hNw, hPt]; omega))]; first | assumption | (simp (disch := first | omega | (simp only [hNw, hPt]; omega)) only [gn0, gn1, gn2, gn3, gn4, gn5, gp0, gno, gpo] <;> first | rfl | assumption)
                  have tnJN2 : HN2.next + 1 ≤ HJN2.next := by have := qJN2.ext.next; first | omega | (simp only [hNw, hPt] at this; omega)
                  have tJN2 : (HJN2.get HN2.next).bind AObj.cs = some [cvN2, I g.slo, I g.shi, I g.klo, I g.khi, I g.melt] := by rw [qJN2.ext.get _ (by first | omega | (simp only [hNw, hPt]; omega))]; first | assumption | (rw [gp0]; rfl)
                  refine OkO.nil ⟨(sco (sld rfl rfl (ldg (n := 6) (by kernel_rfl) (by first | assumption | (simp (disch := first | omega | (simp only [hNw, hPt]; omega)) only [gn0, gn1, gn2, gn3, gn4, gn5, gp0, gno, gpo] <;> first | rfl | assumption)) (by first | rfl | assumption)) rfl (eqr _ (by first | rfl | exact lpl (by assumption) | (simp [AV.plain, AV.plains, AV.cells, pc, pcN1, pcN2])))) (sco (sld rfl rfl (ldg (n := 6) (by kernel_rfl) (by first | assumption | (simp (disch := first | omega | (simp only [hNw, hPt]; omega)) only [gn0, gn1, gn2, gn3, gn4, gn5, gp0, gno, gpo] <;> first | rfl | assumption)) (by first | rfl | assumption)) rfl (eqr _ (by first | rfl | exact lpl (by assumption) | (simp [AV.plain, AV.plains, AV.cells, pc, pcN1, pcN2])))) rfl)), ?_⟩
                  refine OkP.step ?_
                  refine OkO.callE rfl rfl rfl rfl rfl (c29h (m + 40) cv dv cs g ds _ (hR.ext (hE _ gJN2)) (hY.ext (hE _ gJN2)) (by omega) (by omega)) ?_ -- "sackung/sackungref02.Ends"
                  rintro vPN2 HPN2 ⟨lvU, rvU, rfl, qPN2, lU, rU⟩
                  have gPN2 : Grow W HPN2 := Grow.ret gJN2 qPN2
                  have nPN2 : W.next + 1 ≤ HPN2.next := by have := qPN2.ext.next; first | omega | (simp only [hNw, hPt] at this; omega)
                  have aPN2 : (HPN2.get W.next).bind AObj.cs = some [cv, I g.slo, I g.shi, I g.klo, I g.khi, I g.melt] := by rw [qPN2.ext.get _ (by first | omega | (simp only [hNw, hPt]; omega))]; first | assumption | (simp (disch := first | omega | (simp only [hNw, hPt]; omega)) only [gn0, gn1, gn2, gn3, gn4, gn5, gp0, gno, gpo] <;> first | rfl | assumption)
                  have tnPN2 : HN2.next + 1 ≤ HPN2.next := by have := qPN2.ext.next; first | omega | (simp only [hNw, hPt] at this; omega)
                  have tPN2 : (HPN2.get HN2.next).bind AObj.cs = some [cvN2, I g.slo, I g.shi, I g.klo, I g.khi, I g.melt] := by rw [qPN2.ext.get _ (by first | omega | (simp only [hNw, hPt]; omega))]; first | assumption | (rw [gp0]; rfl)
                  have hteU := setP_truth (k := k) (p := (max 0 (0 + (r : Int) - 1 - x))) (high_ok hd0) (by omega)
                  have hl9 : (highL cs).length = cs.length := by simp [highL]
                  have hr9 : (highR ds).length = ds.length := by simp [highR]
                  refine OkO.nil ⟨(sco (sld rfl rfl (ldg (n := 6) (by kernel_rfl) (by first | assumption | (simp (disch := first | omega | (simp only [hNw, hPt]; omega)) only [gn0, gn1, gn2, gn3, gn4, gn5, gp0, gno, gpo] <;> first | rfl | assumption)) (by first | rfl | assumption)) rfl (eqr _ (by first | rfl | exact lpl (by assumption) | (simp [AV.plain, AV.plains, AV.cells, pc, pcN1, pcN2])))) rfl), ?_⟩
                  refine OkP.step ?_
                  refine OkO.callE rfl rfl rfl rfl rfl (c22 (m + 39) lvU rvU (highT g) (highL cs) (highR ds) _ lU (by omega) rU (by omega)) ?_ -- "sackung/sackunglaw02.Truth"
                  rintro vTN2 HTN2 ⟨lvTN2, rvTN2, rfl, qTN2, lTN2, rTN2⟩
                  have gTN2 : Grow W HTN2 := Grow.ret gPN2 qTN2
                  have nTN2 : W.next + 1 ≤ HTN2.next := by have := qTN2.ext.next; first | omega | (simp only [hNw, hPt] at this; omega)
                  have aTN2 : (HTN2.get W.next).bind AObj.cs = some [cv, I g.slo, I g.shi, I g.klo, I g.khi, I g.melt] := by rw [qTN2.ext.get _ (by first | omega | (simp only [hNw, hPt]; omega))]; first | assumption | (simp (disch := first | omega | (simp only [hNw, hPt]; omega)) only [gn0, gn1, gn2, gn3, gn4, gn5, gp0, gno, gpo] <;> first | rfl | assumption)
                  have tnTN2 : HN2.next + 1 ≤ HTN2.next := by have := qTN2.ext.next; first | omega | (simp only [hNw, hPt] at this; omega)
                  have tTN2 : (HTN2.get HN2.next).bind AObj.cs = some [cvN2, I g.slo, I g.shi, I g.klo, I g.khi, I g.melt] := by rw [qTN2.ext.get _ (by first | omega | (simp only [hNw, hPt]; omega))]; first | assumption | (rw [gp0]; rfl)
                  refine OkO.nil ⟨(sco (sld rfl rfl (ldg (n := 6) (by kernel_rfl) (by first | assumption | (simp (disch := first | omega | (simp only [hNw, hPt]; omega)) only [gn0, gn1, gn2, gn3, gn4, gn5, gp0, gno, gpo] <;> first | rfl | assumption)) (by first | rfl | assumption)) rfl (eqr _ (by first | rfl | exact lpl (by assumption) | (simp [AV.plain, AV.plains, AV.cells, pc, pcN1, pcN2])))) (sco (sld rfl rfl (ldg (n := 6) (by kernel_rfl) (by first | assumption | (simp (disch := first | omega | (simp only [hNw, hPt]; omega)) only [gn0, gn1, gn2, gn3, gn4, gn5, gp0, gno, gpo] <;> first | rfl | assumption)) (by first | rfl | assumption)) rfl (eqr _ (by first | rfl | exact lpl (by assumption) | (simp [AV.plain, AV.plains, AV.cells, pc, pcN1, pcN2])))) rfl)), ?_⟩
                  refine OkP.step ?_
                  refine OkO.callE rfl rfl rfl rfl rfl (c20 (m + 33) cvFN2 dvJN2 lvTN2 rvTN2 (setP cs k (max 0 (0 + (r : Int) - 1 - x))) g ds (highT g) (highL cs) (highR ds) _ (rFN2.ext (qJN2.ext.trans (qPN2.ext.trans qTN2.ext))) (by rw [setP_len]; omega) (rJN2.ext (qPN2.ext.trans qTN2.ext)) (by omega) lTN2 (by omega) rTN2 (by omega) hteU) ?_ -- "sackung/water.Run"
                  rintro vRN2 HRN2 ⟨v6N2, v7N2, rfl, qRN2, lsN2, inN2⟩
                  have gRN2 : Grow W HRN2 := Grow.ret gTN2 qRN2
                  have nRN2 : W.next + 1 ≤ HRN2.next := by have := qRN2.ext.next; first | omega | (simp only [hNw, hPt] at this; omega)
                  have aRN2 : (HRN2.get W.next).bind AObj.cs = some [cv, I g.slo, I g.shi, I g.klo, I g.khi, I g.melt] := by rw [qRN2.ext.get _ (by first | omega | (simp only [hNw, hPt]; omega))]; first | assumption | (simp (disch := first | omega | (simp only [hNw, hPt]; omega)) only [gn0, gn1, gn2, gn3, gn4, gn5, gp0, gno, gpo] <;> first | rfl | assumption)
                  have tnRN2 : HN2.next + 1 ≤ HRN2.next := by have := qRN2.ext.next; first | omega | (simp only [hNw, hPt] at this; omega)
                  have tRN2 : (HRN2.get HN2.next).bind AObj.cs = some [cvN2, I g.slo, I g.shi, I g.klo, I g.khi, I g.melt] := by rw [qRN2.ext.get _ (by first | omega | (simp only [hNw, hPt]; omega))]; first | assumption | (rw [gp0]; rfl)
                  refine OkO.nil ⟨(sco (sld rfl rfl (ldg (n := 6) (by kernel_rfl) (by first | assumption | (simp (disch := first | omega | (simp only [hNw, hPt]; omega)) only [gn0, gn1, gn2, gn3, gn4, gn5, gp0, gno, gpo] <;> first | rfl | assumption)) (by first | rfl | assumption)) rfl (eqr _ (by first | rfl | exact lpl (by assumption) | (simp [AV.plain, AV.plains, AV.cells, pc, pcN1, pcN2])))) (sco (sld rfl rfl (ldg (n := 6) (by kernel_rfl) (by first | assumption | (simp (disch := first | omega | (simp only [hNw, hPt]; omega)) only [gn0, gn1, gn2, gn3, gn4, gn5, gp0, gno, gpo] <;> first | rfl | assumption)) (by first | rfl | assumption)) rfl (eqr _ (by first | rfl | exact lpl (by assumption) | (simp [AV.plain, AV.plains, AV.cells, pc, pcN1, pcN2])))) rfl)), ?_⟩
                  refine OkP.step ?_
                  refine OkO.move rfl rfl ?_
                  refine OkO.nil ⟨rfl, ?_⟩
                  refine OkP.step ?_
                  refine OkO.extract rfl rfl rfl ?_
                  refine OkO.nil ⟨rfl, ?_⟩
                  refine OkP.step ?_
                  refine OkO.extract rfl rfl rfl ?_
                  refine OkO.nil ⟨rfl, ?_⟩
                  refine OkP.step ?_
                  refine OkO.extract rfl rfl rfl ?_
                  refine OkO.nil ⟨rfl, ?_⟩
                  refine OkP.step ?_
                  refine OkO.extract rfl rfl rfl ?_
                  refine OkO.nil ⟨rfl, ?_⟩
                  refine OkP.step ?_
                  refine OkO.assign rfl rfl ?_
                  refine OkO.nil ⟨rfl, ?_⟩
                  refine OkP.step ?_
                  refine OkO.assign rfl rfl ?_
                  refine OkO.nil ⟨rfl, ?_⟩
                  refine OkP.step ?_
                  refine OkO.assign rfl rfl ?_
                  refine OkO.nil ⟨rfl, ?_⟩
                  refine OkP.step ?_
                  refine OkO.assign rfl rfl ?_
                  refine OkO.nil ⟨rfl, ?_⟩
                  refine OkP.nil ?_
                  refine Ok.seq ?_
                  refine Ok.region ?_
                  refine OkO.move rfl rfl ?_
                  refine OkO.bin rfl rfl rfl (bin_eql _ _) ?_
                  refine OkO.move rfl rfl ?_
                  refine OkO.split (d := 123) rfl (fun g9 => ?_) (fun g9 => ?_)
                  · -- true g9
                    refine OkO.move rfl rfl ?_
                    refine OkO.move rfl rfl ?_
                    refine OkO.callV rfl rfl rfl rfl rfl ((by rw [hkq]; exact c50R (m + 40) v6N2 (setP cs k (max 0 (0 + (r : Int) - 1 - x))) g ds (highT g) (highL cs) (highR ds) k _ lsN2 (fit_of hteU) (by rw [setP_len]; exact hkl))) ?_ -- "sackung/sackunglaw02.highest"
                    refine OkO.move rfl rfl ?_
                    refine OkO.convert (k := .i64) rfl (by kernel_rfl) rfl (by first | exact wrapF_i64 (by omega) (by omega)) ?_
                    refine OkO.bin rfl rfl rfl (bin_gtr _ _) ?_
                    refine OkO.pick (b := true) rfl rfl (fun _ => rfl) nofun ?_
                    refine OkO.move rfl rfl ?_
                    refine OkO.split (d := 131) rfl (fun g10 => ?_) (fun g10 => ?_)
                    · -- true g10
                      refine OkO.callV rfl rfl rfl rfl rfl (rfl) ?_ -- "sackung/sackunglaw02.wakes"
                      refine OkO.pick (b := true) rfl rfl (fun _ => rfl) nofun ?_
                      refine OkO.assign rfl rfl ?_
                      refine OkO.nil ?_
                      refine Ok.ret ⟨.inr rfl, ?_⟩
                      exact back_flat rfl (congrArg AV.bool rfl) rfl (by rw [← hW]; exact gRN2)
                    · -- false g10
                      exact absurd (of_decide_eq_false g10) (by omega)
                  · -- false g9
                    exact absurd g9 (by simp)
          · -- no h5
            exact absurd h5 (by simp)
theorem c14 (m : Nat) (cv dv wv : AV) (cs : List Cell) (g : Gr) (ds : List Day) (ws : List Int) (y z x : Int) (H : Heap) (hR : Row H cv 7 (cs.map Cell.c)) (hY : Row H dv 3 (ds.map Day.c)) (hWs : Row H wv 1 (ws.map fun w => [U w])) (hws : Upto 65535 ws) (hy : 0 ≤ y ∧ y ≤ 255) (hz : 0 ≤ z ∧ z ≤ 65535) (hx9 : 0 ≤ x ∧ x ≤ 65535) : RR (m + 42) (.fn 14 [.agg [cv, I g.slo, I g.shi, I g.klo, I g.khi, I g.melt], dv, wv, .int .u8 y, .int .u16 z, .int .u16 x]) H = some (.bool true, H) := by
  cases h : readyB cs g ds with
  | false => exact c14W m cv dv wv cs g ds ws y z x H hR hY hWs hws hy hz hx9 h
  | true =>
    have hg8 := (gf_of (ready_ok h)).n8
    obtain ⟨k, hkq, hkl⟩ : ∃ k : Nat, y % (cs.length : Int) = (k : Int) ∧ k < cs.length := ⟨(y % (cs.length : Int)).toNat, by have := Int.emod_nonneg y (b := (cs.length : Int)) (by omega); omega, by have := Int.emod_lt_of_pos y (b := (cs.length : Int)) (by omega); omega⟩
    cases hK : keepsB cs g ds k z 100000 with
    | false => exact c14F m cv dv wv cs g ds ws y z x H hR hY hWs hws hy hz hx9 h hkq hkl hK
    | true => exact c14T m cv dv wv cs g ds ws y z x H hR hY hWs hws hy hz hx9 h hkq hkl hK
end
end Go.Ev

