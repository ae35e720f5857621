/-
  Functions of the program, reckoned by the evaluator: what each answers, and that it leaves what came in as it was (part 29).
-/
import Derived.Test.YtibplmibcbillaaV28
set_option maxRecDepth 100000
set_option linter.unusedSimpArgs false
set_option linter.unusedVariables false
namespace Go.Ev
open Go Go.Proofs
noncomputable section
theorem c63G (m : Nat) (v : AV) (cs : List Cell) (g : Gr) (ds : List Day) (k : Nat) (lv : Int) (H : Heap) (hV : ListsR H v (rowsG cs g ds ds.length)) (hk : k < cs.length) (hd0 : daysErr cs g ds = 0) :
    RR (m + 1) (.fn 63 [v, I (k : Int), I lv]) H = some (.tup [I (firstD (fun j => (levP cs g ds (highT g) (highL cs) (highR ds) (j + 1)).getD k 0) lv ds.length), I (firstD (fun j => (levP cs g ds (lowT g) (lowL cs) (lowR ds) (j + 1)).getD k 0) lv ds.length)], H) := by
  have hFl := fit_of (low_ok hd0)
  have hrl : (rowsG cs g ds ds.length).length = ds.length := by simp [rowsG]
  have hat : ∀ j, j < ds.length → (((rowsG cs g ds ds.length).getD j []).getD k ⟨0, 0⟩) = lvR cs g ds j k := fun j hj => by
    have h1 : (rowsG cs g ds ds.length).getD j [] = rowG cs g ds j cs.length := by simp [rowsG, hj]
    have h2 : (rowG cs g ds j cs.length).getD k ⟨0, 0⟩ = lvR cs g ds j k := by simp [rowG, hk]
    rw [h1, h2]
  have e := c63 m v (rowsG cs g ds ds.length) k lv H hV (fun r hr => by
      rw [rowsG, List.mem_map] at hr
      obtain ⟨i, _, rfl⟩ := hr
      simp [rowG]; exact hk) (fun r hr => by
      obtain ⟨i, hi, rfl⟩ := List.mem_iff_getElem.1 hr
      have hi2 : i < ds.length := by omega
      have h1 := hat i hi2
      rw [show (rowsG cs g ds ds.length).getD i [] = (rowsG cs g ds ds.length)[i] from by simp [hi]] at h1
      rw [h1]
      have h2 := betw_lev hd0 (low_ok hd0) (i + 1) (by omega) k
      exact Int.le_trans h2.1 h2.2) (by have := hFl.d30; omega)
  have e1 : firstD (fun j => (((rowsG cs g ds ds.length).getD j []).getD k ⟨0, 0⟩).hi) lv ds.length = firstD (fun j => (levP cs g ds (highT g) (highL cs) (highR ds) (j + 1)).getD k 0) lv ds.length := firstD_congr _ fun j hj => by
    show (((rowsG cs g ds ds.length).getD j []).getD k ⟨0, 0⟩).hi = _
    rw [hat j hj]; rfl
  have e2 : firstD (fun j => (((rowsG cs g ds ds.length).getD j []).getD k ⟨0, 0⟩).lo) lv ds.length = firstD (fun j => (levP cs g ds (lowT g) (lowL cs) (lowR ds) (j + 1)).getD k 0) lv ds.length := firstD_congr _ fun j hj => by
    show (((rowsG cs g ds ds.length).getD j []).getD k ⟨0, 0⟩).lo = _
    rw [hat j hj]; rfl
  rw [hrl, e1, e2] at e
  exact e
theorem c62w (m : Nat) (cv dv : AV) (cs : List Cell) (g : Gr) (ds : List Day) (cell level : Int) (H : Heap) (hR : Row H cv 7 (cs.map Cell.c)) (hbig : cs.length ≤ 1000000) (hY : Row H dv 3 (ds.map Day.c)) (hbd : ds.length ≤ 1000000) {e : Int} (hk : askErr cs g ds cell level = e) : RR (m + 7) (.fn 62 [.agg [cv, I g.slo, I g.shi, I g.klo, I g.khi, I g.melt], dv, I cell, I level]) H = some (I e, H) := by
  have e1 := c62 m cv dv cs g ds cell level H hR hbig hY hbd
  rw [hk] at e1
  exact e1
theorem c31w (m : Nat) (cv dv : AV) (cs : List Cell) (g : Gr) (ds : List Day) (cell level : Int) (H : Heap) (hR : Row H cv 7 (cs.map Cell.c)) (hbig : cs.length ≤ 1000000) (hY : Row H dv 3 (ds.map Day.c)) (hbd : ds.length ≤ 1000000) {e : Int} (hk : askErr cs g ds cell level = e) : RR (m + 5) (.fn 31 [.agg [cv, I g.slo, I g.shi, I g.klo, I g.khi, I g.melt], dv, I cell, I level]) H = some (I e, H) := by
  have e1 := c31 m cv dv cs g ds cell level H hR hbig hY hbd
  rw [hk] at e1
  exact e1
theorem ask_ok {cs : List Cell} {g : Gr} {ds : List Day} {cell level : Int} (h : askErr cs g ds cell level = 0) : daysErr cs g ds = 0 ∧ (∃ k : Nat, cell = (k : Int) ∧ k < cs.length) ∧ 0 ≤ level ∧ level ≤ 100000 := by
  unfold askErr at h
  split at h
  · rename_i h0
    split at h
    · rename_i h1
      simp only [inB, Bool.and_eq_true, decide_eq_true_eq] at h1
      exact ⟨h0, ⟨cell.toNat, by omega, by omega⟩, by omega, by omega⟩
    · omega
  · exact absurd h (by assumption)
theorem c30E (m : Nat) (cv dv : AV) (cs : List Cell) (g : Gr) (ds : List Day) (cell level : Int) (H : Heap) (hR : Row H cv 7 (cs.map Cell.c)) (hY : Row H dv 3 (ds.map Day.c)) (hbig : cs.length ≤ 1000000) (hbd : ds.length ≤ 1000000) {e : Int} (hke : askErr cs g ds cell level = e) (he : ¬e = 0) : RR (m + 8) (.fn 30 [.agg [cv, I g.slo, I g.shi, I g.klo, I g.khi, I g.melt], dv, I cell, I level]) H = some (.tup [I 0, I 0, I e], H) := by
  refine (R_fn _ _ _ _ _).trans ?_
  refine fn_ok Try.func30 rfl rfl (by kernel_rfl) (by kernel_rfl) ?_
  obtain ⟨W, hW⟩ : ∃ W : Heap, W = ⟨H.t, H.next, H.next⟩ := ⟨_, rfl⟩
  have hg : ∀ n, W.get n = H.get n := fun n => by rw [hW]; rfl
  have hN : W.next = H.next := by rw [hW]
  have hE : ∀ G, Grow W G → Ext H G := fun G g => ⟨by rw [← hN]; exact g.next, fun n k => by rw [g.get n (by rw [hN]; exact k), hg]⟩
  have hG : Grow W W := Grow.refl (by rw [hW]; exact Nat.le_refl _)
  rw [← hW]
  have hlc : lenOf cv = some cs.length := by simpa using hR.len
  have hld : lenOf dv = some ds.length := by simpa using hY.len
  have pc := lpl hlc
  refine Ok.seq ?_
  refine Ok.region ?_
  refine OkO.box rfl rfl ?_
  refine OkO.assign rfl rfl ?_
  refine OkO.assign rfl rfl ?_
  refine OkO.assign rfl rfl ?_
  refine OkO.nil ?_
  refine Ok.seq ?_
  refine Ok.seq ?_
  refine Ok.region ?_
  refine OkO.load rfl rfl (ldg (n := 6) (by kernel_rfl) (by first | assumption | (simp (disch := first | omega | (simp only [hNw, hPt]; omega)) only [gn0, gn1, gn2, gn3, gn4, gn5, gp0, gno, gpo] <;> first | rfl | assumption)) (by first | rfl | assumption)) ?_
  refine OkO.move rfl rfl ?_
  refine OkO.move rfl rfl ?_
  refine OkO.move rfl rfl ?_
  refine OkO.callV rfl rfl rfl rfl rfl (c62w m cv dv cs g ds cell level _ (hR.ext (hE _ (by (try dsimp only); repeat (first | exact hG | apply Grow.new | (refine Grow.put ?_ _ (by first | omega | (simp only [hNw, hPt]; omega))))))) (by omega) (hY.ext (hE _ (by (try dsimp only); repeat (first | exact hG | apply Grow.new | (refine Grow.put ?_ _ (by first | omega | (simp only [hNw, hPt]; omega))))))) (by omega) hke) ?_ -- "sackung/water.checkLevel"
  refine OkO.assign rfl rfl ?_
  refine OkO.nil ?_
  refine Ok.seq ?_
  refine Ok.region ?_
  refine OkO.move rfl rfl ?_
  refine OkO.bin rfl rfl rfl (bin_neq _ _) ?_
  refine OkO.nil ?_
  refine Ok.cond rfl (fun h1 => ?_) (fun h1 => ?_)
  · -- yes h1
    refine Ok.seq ?_
    refine Ok.region ?_
    refine OkO.move rfl rfl ?_
    refine OkO.assign rfl rfl ?_
    refine OkO.assign rfl rfl ?_
    refine OkO.assign rfl rfl ?_
    refine OkO.nil ?_
    refine Ok.ret ⟨.inr rfl, ?_⟩
    exact back_flat (resV_tmp rfl (resV_tmp rfl (resV_tmp rfl resV_nil))) rfl rfl (by rw [← hW]; exact (by (try dsimp only); repeat (first | exact hG | apply Grow.new | (refine Grow.put ?_ _ (by first | omega | (simp only [hNw, hPt]; omega))))))
  · -- no h1
    exact absurd h1 (by simp [he])
theorem c30K (m : Nat) (cv dv : AV) (cs : List Cell) (g : Gr) (ds : List Day) (k : Nat) (level : Int) (H : Heap) (hR : Row H cv 7 (cs.map Cell.c)) (hY : Row H dv 3 (ds.map Day.c)) (hca : cv.atom = true) (hda : dv.atom = true) (hk : k < cs.length) (hke : askErr cs g ds (k : Int) level = 0) : RR (m + 9) (.fn 30 [.agg [cv, I g.slo, I g.shi, I g.klo, I g.khi, I g.melt], dv, I (k : Int), I level]) H = some (.tup [I (firstD (fun j => (levP cs g ds (highT g) (highL cs) (highR ds) (j + 1)).getD k 0) level ds.length), I (firstD (fun j => (levP cs g ds (lowT g) (lowL cs) (lowR ds) (j + 1)).getD k 0) level ds.length), I 0], H) := by
  refine (R_fn _ _ _ _ _).trans ?_
  refine fn_ok Try.func30 rfl rfl (by kernel_rfl) (by kernel_rfl) ?_
  obtain ⟨W, hW⟩ : ∃ W : Heap, W = ⟨H.t, H.next, H.next⟩ := ⟨_, rfl⟩
  have hg : ∀ n, W.get n = H.get n := fun n => by rw [hW]; rfl
  have hN : W.next = H.next := by rw [hW]
  have hE : ∀ G, Grow W G → Ext H G := fun G g => ⟨by rw [← hN]; exact g.next, fun n k => by rw [g.get n (by rw [hN]; exact k), hg]⟩
  have hG : Grow W W := Grow.refl (by rw [hW]; exact Nat.le_refl _)
  rw [← hW]
  have hlc : lenOf cv = some cs.length := by simpa using hR.len
  have hld : lenOf dv = some ds.length := by simpa using hY.len
  have pc := lpl hlc
  have hak := ask_ok hke
  have hGF := gf_of hak.1
  have hn8 := hGF.n8
  have hd30 := hGF.d30
  refine Ok.seq ?_
  refine Ok.region ?_
  refine OkO.box rfl rfl ?_
  refine OkO.assign rfl rfl ?_
  refine OkO.assign rfl rfl ?_
  refine OkO.assign rfl rfl ?_
  refine OkO.nil ?_
  refine Ok.seq ?_
  refine Ok.seq ?_
  refine Ok.region ?_
  refine OkO.load rfl rfl (ldg (n := 6) (by kernel_rfl) (by first | assumption | (simp (disch := first | omega | (simp only [hNw, hPt]; omega)) only [gn0, gn1, gn2, gn3, gn4, gn5, gp0, gno, gpo] <;> first | rfl | assumption)) (by first | rfl | assumption)) ?_
  refine OkO.move rfl rfl ?_
  refine OkO.move rfl rfl ?_
  refine OkO.move rfl rfl ?_
  refine OkO.callV rfl rfl rfl rfl rfl (c62w (m + 1) cv dv cs g ds _ level _ (hR.ext (hE _ (by (try dsimp only); repeat (first | exact hG | apply Grow.new | (refine Grow.put ?_ _ (by first | omega | (simp only [hNw, hPt]; omega))))))) (by omega) (hY.ext (hE _ (by (try dsimp only); repeat (first | exact hG | apply Grow.new | (refine Grow.put ?_ _ (by first | omega | (simp only [hNw, hPt]; omega))))))) (by omega) hke) ?_ -- "sackung/water.checkLevel"
  refine OkO.assign rfl rfl ?_
  refine OkO.nil ?_
  refine Ok.seq ?_
  refine Ok.region ?_
  refine OkO.move rfl rfl ?_
  refine OkO.bin rfl rfl rfl (bin_neq _ _) ?_
  refine OkO.nil ?_
  refine Ok.cond rfl (fun h1 => ?_) (fun h1 => ?_)
  · -- yes h1
    exact absurd h1 (by simp)
  · -- no h1
    refine Ok.skip ?_
    refine Ok.seq ?_
    refine Ok.region ?_
    refine OkO.load rfl rfl (ldg (n := 6) (by kernel_rfl) (by first | assumption | (simp (disch := first | omega | (simp only [hNw, hPt]; omega)) only [gn0, gn1, gn2, gn3, gn4, gn5, gp0, gno, gpo] <;> first | rfl | assumption)) (by first | rfl | assumption)) ?_
    refine OkO.move rfl rfl ?_
    refine OkO.callE rfl rfl rfl rfl rfl (c61 (m + 1) cv dv cs g ds _ (hR.ext (hE _ (by (try dsimp only); repeat (first | exact hG | apply Grow.new | (refine Grow.put ?_ _ (by first | omega | (simp only [hNw, hPt]; omega))))))) (hY.ext (hE _ (by (try dsimp only); repeat (first | exact hG | apply Grow.new | (refine Grow.put ?_ _ (by first | omega | (simp only [hNw, hPt]; omega))))))) hca hda hak.1) ?_ -- "sackung/water.spans"
    rintro v61 H61 ⟨v4, v5, rfl, q61, ls61, in61⟩
    have g61 : Grow W H61 := Grow.ret (by (try dsimp only); repeat (first | exact hG | apply Grow.new | (refine Grow.put ?_ _ (by first | omega | (simp only [hNw, hPt]; omega))))) q61
    refine OkO.move rfl rfl ?_
    refine OkO.extract rfl rfl rfl ?_
    refine OkO.extract rfl rfl rfl ?_
    refine OkO.assign rfl rfl ?_
    refine OkO.assign rfl rfl ?_
    refine OkO.nil ?_
    refine Ok.seq ?_
    refine Ok.region ?_
    refine OkO.move rfl rfl ?_
    refine OkO.move rfl rfl ?_
    refine OkO.move rfl rfl ?_
    refine OkO.callV rfl rfl rfl rfl rfl (c63G (m + 7) v4 cs g ds k level _ ls61 hk hak.1) ?_ -- "sackung/water.firstDays"
    refine OkO.move rfl rfl ?_
    refine OkO.extract rfl rfl rfl ?_
    refine OkO.extract rfl rfl rfl ?_
    refine OkO.assign rfl rfl ?_
    refine OkO.assign rfl rfl ?_
    refine OkO.nil ?_
    refine Ok.seq ?_
    refine Ok.region ?_
    refine OkO.move rfl rfl ?_
    refine OkO.move rfl rfl ?_
    refine OkO.assign rfl rfl ?_
    refine OkO.assign rfl rfl ?_
    refine OkO.assign rfl rfl ?_
    refine OkO.nil ?_
    refine Ok.ret ⟨.inr rfl, ?_⟩
    exact back_flat (resV_tmp rfl (resV_tmp rfl (resV_tmp rfl resV_nil))) rfl rfl (by rw [← hW]; exact g61)
end
end Go.Ev
