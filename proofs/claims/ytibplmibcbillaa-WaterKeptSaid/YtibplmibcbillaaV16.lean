/-
  Functions of the program, reckoned by the evaluator: what each answers, and that it leaves what came in as it was (part 16).
-/
import Derived.Test.YtibplmibcbillaaV15
set_option maxRecDepth 100000
set_option linter.unusedSimpArgs false
set_option linter.unusedVariables false
namespace Go.Ev
open Go Go.Proofs
noncomputable section
theorem mul_bd2 {a b : Int} (h : 0 ≤ a ∧ a ≤ 8) (k : -100000 ≤ b ∧ b ≤ 100000) : -1000000 ≤ a * b ∧ a * b ≤ 1000000 := by
  have h1 := Int.mul_le_mul_of_nonneg_left k.2 h.1
  have h2 := Int.mul_le_mul_of_nonneg_left k.1 h.1
  omega
theorem lvs_bd {cs : List Cell} {g : Gr} {ds : List Day} {t : Tru} {lvs rain : List Int} (h : Fit cs g ds t lvs rain) : ∀ x ∈ lvs, -10000000 ≤ x ∧ x ≤ 10000000 := fun x hx => by
  obtain ⟨j, hj, rfl⟩ := List.mem_iff_getElem.1 hx
  have hl := h.ll
  have h1 := h.lb j (cs[j]'(by omega)) lvs[j] (List.getElem?_eq_getElem (by omega)) (List.getElem?_eq_getElem hj)
  have h2 := h.lim _ (List.getElem_mem (show j < cs.length by omega))
  unfold Cell.lim at h2
  omega
theorem c10W (m : Nat) (cv dv wv : AV) (cs : List Cell) (g : Gr) (ds : List Day) (ws : List Int) (H : Heap) (hR : Row H cv 7 (cs.map Cell.c)) (hY : Row H dv 3 (ds.map Day.c)) (hWs : Row H wv 1 (ws.map fun w => [U w])) (hws : Upto 65535 ws) (hrd : readyB cs g ds = false) : RR (m + 10) (.fn 10 [.agg [cv, I g.slo, I g.shi, I g.klo, I g.khi, I g.melt], dv, wv]) H = some (.bool true, H) := by
  refine (R_fn _ _ _ _ _).trans ?_
  refine fn_ok Try.func10 rfl rfl (by kernel_rfl) (by kernel_rfl) ?_
  obtain ⟨W, hW⟩ : ∃ W : Heap, W = ⟨H.t, H.next, H.next⟩ := ⟨_, rfl⟩
  have hg : ∀ n, W.get n = H.get n := fun n => by rw [hW]; rfl
  have hN : W.next = H.next := by rw [hW]
  have hE : ∀ G, Grow W G → Ext H G := fun G g => ⟨by rw [← hN]; exact g.next, fun n k => by rw [g.get n (by rw [hN]; exact k), hg]⟩
  have hG : Grow W W := Grow.refl (by rw [hW]; exact Nat.le_refl _)
  rw [← hW]
  have hlc : lenOf cv = some cs.length := by simpa using hR.len
  have pc := len_plain hlc
  have hld : lenOf dv = some ds.length := by simpa using hY.len
  have hlw : lenOf wv = some ws.length := by simpa using hWs.len
  refine Ok.seq ?_
  refine Ok.region ?_
  refine OkO.box rfl rfl ?_
  refine OkO.assign rfl rfl ?_
  refine OkO.nil ?_
  refine Ok.seq ?_
  refine Ok.seq ?_
  refine Ok.region ?_
  refine OkO.load rfl rfl (loadAt_agg (n := 6) (by kernel_rfl) (by first | assumption | (simp (disch := first | omega | (simp only [Heap.next_new, Heap.next_put]; omega)) only [get_new_same, get_new_same1, get_new_same2, get_new_same3, get_new_same4, get_new_same5, get_put_same, get_new_other, get_put_other] <;> first | rfl | assumption)) (by first | rfl | assumption)) ?_
  refine OkO.move rfl rfl ?_
  refine OkO.callV rfl rfl rfl rfl rfl (c43 (m + 4) cv dv cs g ds _ (hR.ext (hE _ (by (try dsimp only); repeat (first | exact hG | apply Grow.new | (refine Grow.put ?_ _ (by first | omega | (simp only [Heap.next_new, Heap.next_put]; omega))))))) (hY.ext (hE _ (by (try dsimp only); repeat (first | exact hG | apply Grow.new | (refine Grow.put ?_ _ (by first | omega | (simp only [Heap.next_new, Heap.next_put]; omega)))))))) ?_ -- "sackung/sackunglaw02.ready"
  refine OkO.un rfl rfl rfl ?_
  refine OkO.nil ?_
  refine Ok.cond rfl (fun h1 => ?_) (fun h1 => ?_)
  · -- yes h1
    refine Ok.seq ?_
    refine Ok.region ?_
    refine OkO.callV rfl rfl rfl rfl rfl (rfl) ?_ -- "sackung/sackunglaw02.wakes"
    refine OkO.assign rfl rfl ?_
    refine OkO.nil ?_
    refine Ok.ret ⟨.inr rfl, ?_⟩
    exact back_flat rfl rfl rfl (by rw [← hW]; exact (by (try dsimp only); repeat (first | exact hG | apply Grow.new | (refine Grow.put ?_ _ (by first | omega | (simp only [Heap.next_new, Heap.next_put]; omega))))))
  · -- no h1
    exact absurd h1 (by simp [hrd])
theorem c10K (m : Nat) (cv dv wv : AV) (cs : List Cell) (g : Gr) (ds : List Day) (ws : List Int) (H : Heap) (hR : Row H cv 7 (cs.map Cell.c)) (hY : Row H dv 3 (ds.map Day.c)) (hWs : Row H wv 1 (ws.map fun w => [U w])) (hws : Upto 65535 ws) (hrd : readyB cs g ds = true) : RR (m + 10) (.fn 10 [.agg [cv, I g.slo, I g.shi, I g.klo, I g.khi, I g.melt], dv, wv]) H = some (.bool true, H) := by
  refine (R_fn _ _ _ _ _).trans ?_
  refine fn_ok Try.func10 rfl rfl (by kernel_rfl) (by kernel_rfl) ?_
  obtain ⟨W, hW⟩ : ∃ W : Heap, W = ⟨H.t, H.next, H.next⟩ := ⟨_, rfl⟩
  have hg : ∀ n, W.get n = H.get n := fun n => by rw [hW]; rfl
  have hN : W.next = H.next := by rw [hW]
  have hE : ∀ G, Grow W G → Ext H G := fun G g => ⟨by rw [← hN]; exact g.next, fun n k => by rw [g.get n (by rw [hN]; exact k), hg]⟩
  have hG : Grow W W := Grow.refl (by rw [hW]; exact Nat.le_refl _)
  rw [← hW]
  have hlc : lenOf cv = some cs.length := by simpa using hR.len
  have pc := len_plain hlc
  have hld : lenOf dv = some ds.length := by simpa using hY.len
  have hlw : lenOf wv = some ws.length := by simpa using hWs.len
  have hd0 := ready_ok hrd
  have hGF := gf_of hd0
  have hg8 := hGF.n8
  have hg30 := hGF.d30
  refine Ok.seq ?_
  refine Ok.region ?_
  refine OkO.box rfl rfl ?_
  refine OkO.assign rfl rfl ?_
  refine OkO.nil ?_
  refine Ok.seq ?_
  refine Ok.seq ?_
  refine Ok.region ?_
  refine OkO.load rfl rfl (loadAt_agg (n := 6) (by kernel_rfl) (by first | assumption | (simp (disch := first | omega | (simp only [Heap.next_new, Heap.next_put]; omega)) only [get_new_same, get_new_same1, get_new_same2, get_new_same3, get_new_same4, get_new_same5, get_put_same, get_new_other, get_put_other] <;> first | rfl | assumption)) (by first | rfl | assumption)) ?_
  refine OkO.move rfl rfl ?_
  refine OkO.callV rfl rfl rfl rfl rfl (c43 (m + 4) cv dv cs g ds _ (hR.ext (hE _ (by (try dsimp only); repeat (first | exact hG | apply Grow.new | (refine Grow.put ?_ _ (by first | omega | (simp only [Heap.next_new, Heap.next_put]; omega))))))) (hY.ext (hE _ (by (try dsimp only); repeat (first | exact hG | apply Grow.new | (refine Grow.put ?_ _ (by first | omega | (simp only [Heap.next_new, Heap.next_put]; omega)))))))) ?_ -- "sackung/sackunglaw02.ready"
  refine OkO.un rfl rfl rfl ?_
  refine OkO.nil ?_
  refine Ok.cond rfl (fun h1 => ?_) (fun h1 => ?_)
  · -- yes h1
    exact absurd h1 (by simp [hrd])
  · -- no h1
    refine Ok.skip ?_
    refine Ok.seq ?_
    refine Ok.region ?_
    refine OkO.load rfl rfl (loadAt_agg (n := 6) (by kernel_rfl) (by first | assumption | (simp (disch := first | omega | (simp only [Heap.next_new, Heap.next_put]; omega)) only [get_new_same, get_new_same1, get_new_same2, get_new_same3, get_new_same4, get_new_same5, get_put_same, get_new_other, get_put_other] <;> first | rfl | assumption)) (by first | rfl | assumption)) ?_
    refine OkO.move rfl rfl ?_
    refine OkO.move rfl rfl ?_
    refine OkO.callE rfl rfl rfl rfl rfl (c44 (m + 7) cv dv wv cs g ds ws _ (hR.ext (hE _ (by (try dsimp only); repeat (first | exact hG | apply Grow.new | (refine Grow.put ?_ _ (by first | omega | (simp only [Heap.next_new, Heap.next_put]; omega))))))) (hY.ext (hE _ (by (try dsimp only); repeat (first | exact hG | apply Grow.new | (refine Grow.put ?_ _ (by first | omega | (simp only [Heap.next_new, Heap.next_put]; omega))))))) (hWs.ext (hE _ (by (try dsimp only); repeat (first | exact hG | apply Grow.new | (refine Grow.put ?_ _ (by first | omega | (simp only [Heap.next_new, Heap.next_put]; omega))))))) hws hGF.lim hGF.dlim hGF.n8.2 hGF.d30 hGF.snow hGF.soak) ?_ -- "sackung/sackunglaw02.Picked"
    rintro v44 H44 ⟨lv, rv, rfl, q44, l44, r44, al, ar⟩
    have g44 : Grow W H44 := Grow.ret (by (try dsimp only); repeat (first | exact hG | apply Grow.new | (refine Grow.put ?_ _ (by first | omega | (simp only [Heap.next_new, Heap.next_put]; omega))))) q44
    have n44 : W.next + 1 ≤ H44.next := by have := q44.ext.next; simp only [Heap.next_new] at this; omega
    have a44 : (H44.get W.next).bind AObj.cs = some [cv, I g.slo, I g.shi, I g.klo, I g.khi, I g.melt] := by rw [q44.ext.get _ (by simp only [Heap.next_new]; omega)]; (simp (disch := first | omega | (simp only [Heap.next_new, Heap.next_put]; omega)) only [get_new_same, get_new_same1, get_new_same2, get_new_same3, get_new_same4, get_new_same5, get_put_same, get_new_other, get_put_other] <;> first | rfl | assumption)
    have hte := pick_ok ws hd0
    generalize pickT g ws = t at *
    generalize pickL cs ws cs.length = lvs at *
    generalize pickR cs ds ws ds.length = rain at *
    have hF := fit_of hte
    have hfl := hF.ll
    have hfr := hF.rl
    have hll : lenOf lv = some lvs.length := by simpa using l44.len
    have hlr : lenOf rv = some rain.length := by simpa using r44.len
    have pl := len_plain hll
    have pr := len_plain hlr
    refine OkO.alloc (z := [.int .i64 0, .int .i64 0, .nils, .nils]) rfl (by kernel_rfl) ?_
    refine OkO.store rfl rfl rfl (storeAt_cells (n := 4) (ag := true) (l := [I t.snow, I t.soak, lv, rv]) (by kernel_rfl) (by first | assumption | exact get_new_same _ _ | simp (disch := first | omega | (simp only [Heap.next_new, Heap.next_put]; omega)) only [get_new_same, get_new_same1, get_new_same2, get_new_same3, get_new_same4, get_new_same5, get_put_same, get_new_other, get_put_other] <;> first | rfl | assumption) rfl (by show atoms [I t.snow, I t.soak, lv, rv] = true; simp [atoms, al, ar, show ∀ z, (I z).atom = true from fun _ => rfl]) rfl) ?_
    refine OkO.nil ?_
    refine Ok.seq ?_
    refine Ok.drawn [(0, true, []), (2, true, []), (4, true, []), (1, false, [4]), (3, false, [4, 0]), (5, false, [0]), (6, false, [4, 0]), (7, true, []), (8, true, []), (9, true, []), (10, true, []), (11, true, []), (12, true, []), (13, true, []), (14, true, []), (15, true, [])] (by kernel_rfl) ?_
    refine OkP.step ?_
    refine OkO.load rfl rfl (loadAt_agg (n := 6) (by kernel_rfl) (by first | assumption | (simp (disch := first | omega | (simp only [Heap.next_new, Heap.next_put]; omega)) only [get_new_same, get_new_same1, get_new_same2, get_new_same3, get_new_same4, get_new_same5, get_put_same, get_new_other, get_put_other] <;> first | rfl | assumption)) (by first | rfl | assumption)) ?_
    refine OkO.nil ⟨rfl, ?_⟩
    refine OkP.step ?_
    refine OkO.move rfl rfl ?_
    refine OkO.nil ⟨rfl, ?_⟩
    refine OkP.step ?_
    refine OkO.load rfl rfl (loadAt_agg (n := 4) (by kernel_rfl) (by first | assumption | (simp (disch := first | omega | (simp only [Heap.next_new, Heap.next_put]; omega)) only [get_new_same, get_new_same1, get_new_same2, get_new_same3, get_new_same4, get_new_same5, get_put_same, get_new_other, get_put_other] <;> first | rfl | assumption)) (by first | rfl | assumption)) ?_
    refine OkO.nil ⟨rfl, ?_⟩
    refine OkP.step ?_
    have x44 : Ext H44 ((H44.new (.cells [I 0, I 0, .nils, .nils] 30)).put H44.next (.cells [I t.snow, I t.soak, lv, rv] 30)) := (by (try dsimp only); repeat (first | exact Ext.refl _ | assumption | apply Ext.new | (refine Ext.put ?_ _ (by first | omega | (simp only [Heap.next_new, Heap.next_put]; omega)))))
    have gst : Grow W ((H44.new (.cells [I 0, I 0, .nils, .nils] 30)).put H44.next (.cells [I t.snow, I t.soak, lv, rv] 30)) := (by (try dsimp only); repeat (first | exact g44 | exact hG | apply Grow.new | (refine Grow.put ?_ _ (by first | omega | (simp only [Heap.next_new, Heap.next_put]; omega)))))
    refine OkO.callE rfl rfl rfl rfl rfl (c19 (m + 7) cv cs g _ (hR.ext (hE _ (by (try dsimp only); repeat (first | exact g44 | exact hG | apply Grow.new | (refine Grow.put ?_ _ (by first | omega | (simp only [Heap.next_new, Heap.next_put]; omega))))))) (by omega)) ?_ -- "sackung/sackunglaw02.Ground"
    rintro v19 H19 ⟨cv2, rfl, q19, r19⟩
    have g19 : Grow W H19 := Grow.ret (by (try dsimp only); repeat (first | exact g44 | exact hG | apply Grow.new | (refine Grow.put ?_ _ (by first | omega | (simp only [Heap.next_new, Heap.next_put]; omega))))) q19
    have n19 : H44.next + 1 ≤ H19.next := by have := q19.ext.next; first | omega | (simp only [Heap.next_new, Heap.next_put] at this; omega)
    have a19 : (H19.get W.next).bind AObj.cs = some [cv, I g.slo, I g.shi, I g.klo, I g.khi, I g.melt] := by rw [q19.ext.get _ (by first | omega | (simp only [Heap.next_new, Heap.next_put]; omega))]; first | assumption | (simp (disch := first | omega | (simp only [Heap.next_new, Heap.next_put]; omega)) only [get_new_same, get_new_same1, get_new_same2, get_new_same3, get_new_same4, get_new_same5, get_put_same, get_new_other, get_put_other] <;> first | rfl | assumption)
    have b19 : (H19.get H44.next).bind AObj.cs = some [I t.snow, I t.soak, lv, rv] := by rw [q19.ext.get _ (by first | omega | (simp only [Heap.next_new, Heap.next_put]; omega))]; first | assumption | (rw [get_put_same]; rfl) | (simp (disch := first | omega | (simp only [Heap.next_new, Heap.next_put]; omega)) only [get_new_same, get_new_same1, get_new_same2, get_new_same3, get_new_same4, get_new_same5, get_put_same, get_new_other, get_put_other] <;> first | rfl | assumption)
    refine OkO.nil ⟨(stills_cons (still_load rfl rfl (loadAt_agg (n := 4) (by kernel_rfl) (by first | assumption | (simp (disch := first | omega | (simp only [Heap.next_new, Heap.next_put]; omega)) only [get_new_same, get_new_same1, get_new_same2, get_new_same3, get_new_same4, get_new_same5, get_put_same, get_new_other, get_put_other] <;> first | rfl | assumption)) (by first | rfl | assumption)) rfl (eqv_refl _ (by first | rfl | exact len_plain (by assumption) | (simp [AV.plain, AV.plains, pc, pl, pr])))) rfl), ?_⟩
    refine OkP.step ?_
    refine OkO.callE rfl rfl rfl rfl rfl (c21 (m + 7) dv ds _ (hY.ext (hE _ g19)) (by omega)) ?_ -- "sackung/sackunglaw02.Days"
    rintro dv2 H21 ⟨q21, r21⟩
    have g21 : Grow W H21 := Grow.ret g19 q21
    have n21 : H44.next + 1 ≤ H21.next := by have := q21.ext.next; first | omega | (simp only [Heap.next_new, Heap.next_put] at this; omega)
    have a21 : (H21.get W.next).bind AObj.cs = some [cv, I g.slo, I g.shi, I g.klo, I g.khi, I g.melt] := by rw [q21.ext.get _ (by first | omega | (simp only [Heap.next_new, Heap.next_put]; omega))]; first | assumption | (simp (disch := first | omega | (simp only [Heap.next_new, Heap.next_put]; omega)) only [get_new_same, get_new_same1, get_new_same2, get_new_same3, get_new_same4, get_new_same5, get_put_same, get_new_other, get_put_other] <;> first | rfl | assumption)
    have b21 : (H21.get H44.next).bind AObj.cs = some [I t.snow, I t.soak, lv, rv] := by rw [q21.ext.get _ (by first | omega | (simp only [Heap.next_new, Heap.next_put]; omega))]; first | assumption | (rw [get_put_same]; rfl) | (simp (disch := first | omega | (simp only [Heap.next_new, Heap.next_put]; omega)) only [get_new_same, get_new_same1, get_new_same2, get_new_same3, get_new_same4, get_new_same5, get_put_same, get_new_other, get_put_other] <;> first | rfl | assumption)
    refine OkO.nil ⟨(stills_cons (still_load rfl rfl (loadAt_agg (n := 4) (by kernel_rfl) (by first | assumption | (simp (disch := first | omega | (simp only [Heap.next_new, Heap.next_put]; omega)) only [get_new_same, get_new_same1, get_new_same2, get_new_same3, get_new_same4, get_new_same5, get_put_same, get_new_other, get_put_other] <;> first | rfl | assumption)) (by first | rfl | assumption)) rfl (eqv_refl _ (by first | rfl | exact len_plain (by assumption) | (simp [AV.plain, AV.plains, pc, pl, pr])))) (stills_cons (still_load rfl rfl (loadAt_agg (n := 6) (by kernel_rfl) (by first | assumption | (simp (disch := first | omega | (simp only [Heap.next_new, Heap.next_put]; omega)) only [get_new_same, get_new_same1, get_new_same2, get_new_same3, get_new_same4, get_new_same5, get_put_same, get_new_other, get_put_other] <;> first | rfl | assumption)) (by first | rfl | assumption)) rfl (eqv_refl _ (by first | rfl | exact len_plain (by assumption) | (simp [AV.plain, AV.plains, pc, pl, pr])))) rfl)), ?_⟩
    refine OkP.step ?_
    refine OkO.callE rfl rfl rfl rfl rfl (c22 (m + 7) lv rv t lvs rain _ (l44.ext (x44.trans (q19.ext.trans q21.ext))) (by omega) (r44.ext (x44.trans (q19.ext.trans q21.ext))) (by omega)) ?_ -- "sackung/sackunglaw02.Truth"
    rintro v22 H22 ⟨lv2, rv2, rfl, q22, l22, r22⟩
    have g22 : Grow W H22 := Grow.ret g21 q22
    have n22 : H44.next + 1 ≤ H22.next := by have := q22.ext.next; first | omega | (simp only [Heap.next_new, Heap.next_put] at this; omega)
    have a22 : (H22.get W.next).bind AObj.cs = some [cv, I g.slo, I g.shi, I g.klo, I g.khi, I g.melt] := by rw [q22.ext.get _ (by first | omega | (simp only [Heap.next_new, Heap.next_put]; omega))]; first | assumption | (simp (disch := first | omega | (simp only [Heap.next_new, Heap.next_put]; omega)) only [get_new_same, get_new_same1, get_new_same2, get_new_same3, get_new_same4, get_new_same5, get_put_same, get_new_other, get_put_other] <;> first | rfl | assumption)
    have b22 : (H22.get H44.next).bind AObj.cs = some [I t.snow, I t.soak, lv, rv] := by rw [q22.ext.get _ (by first | omega | (simp only [Heap.next_new, Heap.next_put]; omega))]; first | assumption | (rw [get_put_same]; rfl) | (simp (disch := first | omega | (simp only [Heap.next_new, Heap.next_put]; omega)) only [get_new_same, get_new_same1, get_new_same2, get_new_same3, get_new_same4, get_new_same5, get_put_same, get_new_other, get_put_other] <;> first | rfl | assumption)
    refine OkO.nil ⟨(stills_cons (still_load rfl rfl (loadAt_agg (n := 6) (by kernel_rfl) (by first | assumption | (simp (disch := first | omega | (simp only [Heap.next_new, Heap.next_put]; omega)) only [get_new_same, get_new_same1, get_new_same2, get_new_same3, get_new_same4, get_new_same5, get_put_same, get_new_other, get_put_other] <;> first | rfl | assumption)) (by first | rfl | assumption)) rfl (eqv_refl _ (by first | rfl | exact len_plain (by assumption) | (simp [AV.plain, AV.plains, pc, pl, pr])))) rfl), ?_⟩
    refine OkP.step ?_
    refine OkO.callE rfl rfl rfl rfl rfl (c20 (m + 1) cv2 dv2 lv2 rv2 cs g ds t lvs rain _ (r19.ext (q21.ext.trans q22.ext)) (by omega) (r21.ext q22.ext) (by omega) l22 (by omega) r22 (by omega) hte) ?_ -- "sackung/water.Run"
    rintro v20 H20 ⟨v6, v7, rfl, q20, ls20, in20⟩
    have g20 : Grow W H20 := Grow.ret g22 q20
    have n20 : H44.next + 1 ≤ H20.next := by have := q20.ext.next; first | omega | (simp only [Heap.next_new, Heap.next_put] at this; omega)
    have a20 : (H20.get W.next).bind AObj.cs = some [cv, I g.slo, I g.shi, I g.klo, I g.khi, I g.melt] := by rw [q20.ext.get _ (by first | omega | (simp only [Heap.next_new, Heap.next_put]; omega))]; first | assumption | (simp (disch := first | omega | (simp only [Heap.next_new, Heap.next_put]; omega)) only [get_new_same, get_new_same1, get_new_same2, get_new_same3, get_new_same4, get_new_same5, get_put_same, get_new_other, get_put_other] <;> first | rfl | assumption)
    have b20 : (H20.get H44.next).bind AObj.cs = some [I t.snow, I t.soak, lv, rv] := by rw [q20.ext.get _ (by first | omega | (simp only [Heap.next_new, Heap.next_put]; omega))]; first | assumption | (rw [get_put_same]; rfl) | (simp (disch := first | omega | (simp only [Heap.next_new, Heap.next_put]; omega)) only [get_new_same, get_new_same1, get_new_same2, get_new_same3, get_new_same4, get_new_same5, get_put_same, get_new_other, get_put_other] <;> first | rfl | assumption)
    obtain ⟨vs, hv6, hvl, hvr⟩ := ls20
    have hrl : (rowsR cs g ds t lvs rain ds.length).length = ds.length := by simp [rowsR]
    have l6 : lenOf v6 = some ds.length := by rw [hv6.len]; simp; omega
    have l7 : lenOf v7 = some ds.length := by rw [in20.len]; simp [leftsR]
    have xa : Ext H44 H20 := x44.trans (q19.ext.trans (q21.ext.trans (q22.ext.trans q20.ext)))
    have l20 : Ints H20 lv lvs := l44.ext xa
    have r20 : Ints H20 rv rain := r44.ext xa
    have R20 : Row H20 cv 7 (cs.map Cell.c) := hR.ext (hE _ g20)
    have hsL0 := lvs_bd hF
    have hsL : ∀ x ∈ lvs, -1000000000 ≤ x ∧ x ≤ 1000000000 := fun x hx => by have := hsL0 x hx; omega
    have hsR : ∀ x ∈ rain, -1000000000 ≤ x ∧ x ≤ 1000000000 := fun x hx => by have := hF.rb x hx; omega
    have sL := sum_bd 10000000 (by omega) lvs hsL0
    have sR := sum_bd 1000 (by omega) rain (fun x hx => by have := hF.rb x hx; omega)
    have hfn := hF.n8
    have hfs := hF.snow
    have hfd := hF.d30
    have m1 := mul_bd (a := (cs.length : Int)) (b := t.snow) (p := 8) (q := 100000) (by omega) hfs
    have m2 : -1000000 ≤ (cs.length : Int) * rain.sum ∧ (cs.length : Int) * rain.sum ≤ 1000000 := mul_bd2 (by omega) (by omega)
    have hse := snow_bd hF.melt hF.dlim hF.rb hF.snow ds.length (Nat.le_refl _)
    have m3 := mul_bd (a := (cs.length : Int)) (b := snowP g.melt ds rain t.snow ds.length) (p := 8) (q := 200000) (by omega) (by omega)
    have hfin := run_sum hF ds.length (Nat.le_refl _)
    rw [show rain.take ds.length = rain from by rw [← hfr, List.take_length]] at hfin
    refine OkO.nil ⟨(stills_cons (still_load rfl rfl (loadAt_agg (n := 4) (by kernel_rfl) (by first | assumption | (simp (disch := first | omega | (simp only [Heap.next_new, Heap.next_put]; omega)) only [get_new_same, get_new_same1, get_new_same2, get_new_same3, get_new_same4, get_new_same5, get_put_same, get_new_other, get_put_other] <;> first | rfl | assumption)) (by first | rfl | assumption)) rfl (eqv_refl _ (by first | rfl | exact len_plain (by assumption) | (simp [AV.plain, AV.plains, pc, pl, pr])))) (stills_cons (still_load rfl rfl (loadAt_agg (n := 6) (by kernel_rfl) (by first | assumption | (simp (disch := first | omega | (simp only [Heap.next_new, Heap.next_put]; omega)) only [get_new_same, get_new_same1, get_new_same2, get_new_same3, get_new_same4, get_new_same5, get_put_same, get_new_other, get_put_other] <;> first | rfl | assumption)) (by first | rfl | assumption)) rfl (eqv_refl _ (by first | rfl | exact len_plain (by assumption) | (simp [AV.plain, AV.plains, pc, pl, pr])))) rfl)), ?_⟩
    refine OkP.step ?_
    refine OkO.move rfl rfl ?_
    refine OkO.nil ⟨rfl, ?_⟩
    refine OkP.step ?_
    refine OkO.extract rfl rfl rfl ?_
    refine OkO.nil ⟨rfl, ?_⟩
    refine OkP.step ?_
    refine OkO.extract rfl rfl rfl ?_
    refine OkO.nil ⟨rfl, ?_⟩
    refine OkP.step ?_
    refine OkO.extract rfl rfl rfl ?_
    refine OkO.nil ⟨rfl, ?_⟩
    refine OkP.step ?_
    refine OkO.extract rfl rfl rfl ?_
    refine OkO.nil ⟨rfl, ?_⟩
    refine OkP.step ?_
    refine OkO.assign rfl rfl ?_
    refine OkO.nil ⟨rfl, ?_⟩
    refine OkP.step ?_
    refine OkO.assign rfl rfl ?_
    refine OkO.nil ⟨rfl, ?_⟩
    refine OkP.step ?_
    refine OkO.assign rfl rfl ?_
    refine OkO.nil ⟨rfl, ?_⟩
    refine OkP.step ?_
    refine OkO.assign rfl rfl ?_
    refine OkO.nil ⟨rfl, ?_⟩
    refine OkP.nil ?_
    refine Ok.seq ?_
    refine Ok.seq ?_
    refine Ok.region ?_
    refine OkO.move rfl rfl ?_
    refine OkO.bin rfl rfl rfl (bin_neq _ _) ?_
    refine OkO.move rfl rfl ?_
    refine OkO.split (d := 40) rfl (fun g2 => ?_) (fun g2 => ?_)
    · -- true g2
      exact absurd g2 (by simp)
    · -- false g2
      refine OkO.move rfl rfl ?_
      refine OkO.builtin rfl rfl rfl (builtin_len (by kernel_rfl) (by first | assumption | rfl)) ?_
      refine OkO.move rfl rfl ?_
      refine OkO.builtin rfl rfl rfl (builtin_len (by kernel_rfl) (by first | assumption | rfl)) ?_
      refine OkO.bin rfl rfl rfl (bin_neq _ _) ?_
      refine OkO.pick (b := false) rfl rfl nofun (fun _ => rfl) ?_
      refine OkO.move rfl rfl ?_
      refine OkO.split (d := 47) rfl (fun g3 => ?_) (fun g3 => ?_)
      · -- true g3
        exact absurd g3 (by simp)
      · -- false g3
        refine OkO.move rfl rfl ?_
        refine OkO.builtin rfl rfl rfl (builtin_len (by kernel_rfl) (by first | assumption | rfl)) ?_
        refine OkO.move rfl rfl ?_
        refine OkO.builtin rfl rfl rfl (builtin_len (by kernel_rfl) (by first | assumption | rfl)) ?_
        refine OkO.bin rfl rfl rfl (bin_neq _ _) ?_
        refine OkO.pick (b := false) rfl rfl nofun (fun _ => rfl) ?_
        refine OkO.nil ?_
        refine Ok.cond rfl (fun h4 => ?_) (fun h4 => ?_)
        · -- yes h4
          exact absurd h4 (by simp)
        · -- no h4
          refine Ok.skip ?_
          refine Ok.seq ?_
          refine Ok.region ?_
          refine OkO.fieldAddr (o := 0) rfl (by kernel_rfl) rfl ?_
          refine OkO.load rfl rfl (loadAt_atom (n := 1) (by kernel_rfl) (by first | assumption | (simp (disch := first | omega | (simp only [Heap.next_new, Heap.next_put]; omega)) only [get_new_same, get_new_same1, get_new_same2, get_new_same3, get_new_same4, get_new_same5, get_put_same, get_new_other, get_put_other] <;> first | rfl | assumption)) (by first | rfl | assumption)) ?_
          refine OkO.builtin rfl rfl rfl (builtin_len (by kernel_rfl) (by first | assumption | rfl)) ?_
          refine OkO.assign rfl rfl ?_
          refine OkO.nil ?_
          refine Ok.seq ?_
          refine Ok.drawn [(0, true, []), (1, true, []), (3, true, []), (4, true, []), (5, true, []), (6, true, []), (8, true, []), (9, true, []), (10, true, []), (2, false, [10, 5]), (7, true, []), (11, false, [5, 1]), (12, true, []), (13, true, []), (14, true, [])] (by kernel_rfl) ?_
          refine OkP.step ?_
          refine OkO.fieldAddr (o := 2) rfl (by kernel_rfl) rfl ?_
          refine OkO.nil ⟨rfl, ?_⟩
          refine OkP.step ?_
          refine OkO.load rfl rfl (loadAt_atom (n := 1) (by kernel_rfl) (by first | assumption | (simp (disch := first | omega | (simp only [Heap.next_new, Heap.next_put]; omega)) only [get_new_same, get_new_same1, get_new_same2, get_new_same3, get_new_same4, get_new_same5, get_put_same, get_new_other, get_put_other] <;> first | rfl | assumption)) (by first | rfl | assumption)) ?_
          refine OkO.nil ⟨rfl, ?_⟩
          refine OkP.step ?_
          refine OkO.move rfl rfl ?_
          refine OkO.nil ⟨rfl, ?_⟩
          refine OkP.step ?_
          refine OkO.fieldAddr (o := 0) rfl (by kernel_rfl) rfl ?_
          refine OkO.nil ⟨rfl, ?_⟩
          refine OkP.step ?_
          refine OkO.load rfl rfl (loadAt_atom (n := 1) (by kernel_rfl) (by first | assumption | (simp (disch := first | omega | (simp only [Heap.next_new, Heap.next_put]; omega)) only [get_new_same, get_new_same1, get_new_same2, get_new_same3, get_new_same4, get_new_same5, get_put_same, get_new_other, get_put_other] <;> first | rfl | assumption)) (by first | rfl | assumption)) ?_
          refine OkO.nil ⟨rfl, ?_⟩
          refine OkP.step ?_
          refine OkO.bin rfl rfl rfl (bin_mul (by omega) (by omega)) ?_
          refine OkO.nil ⟨rfl, ?_⟩
          refine OkP.step ?_
          refine OkO.move rfl rfl ?_
          refine OkO.nil ⟨rfl, ?_⟩
          refine OkP.step ?_
          refine OkO.fieldAddr (o := 3) rfl (by kernel_rfl) rfl ?_
          refine OkO.nil ⟨rfl, ?_⟩
          refine OkP.step ?_
          refine OkO.load rfl rfl (loadAt_atom (n := 1) (by kernel_rfl) (by first | assumption | (simp (disch := first | omega | (simp only [Heap.next_new, Heap.next_put]; omega)) only [get_new_same, get_new_same1, get_new_same2, get_new_same3, get_new_same4, get_new_same5, get_put_same, get_new_other, get_put_other] <;> first | rfl | assumption)) (by first | rfl | assumption)) ?_
          refine OkO.nil ⟨rfl, ?_⟩
          refine OkP.step ?_
          refine OkO.callV rfl rfl rfl rfl rfl (c46 _ lv lvs _ l20 (by omega) hsL) ?_ -- "sackung/sackungref02.Sum"
          refine OkO.nil ⟨(stills_cons (still_load rfl rfl (loadAt_atom (n := 1) (by kernel_rfl) (by first | assumption | (simp (disch := first | omega | (simp only [Heap.next_new, Heap.next_put]; omega)) only [get_new_same, get_new_same1, get_new_same2, get_new_same3, get_new_same4, get_new_same5, get_put_same, get_new_other, get_put_other] <;> first | rfl | assumption)) (by first | rfl | assumption)) rfl (eqv_refl _ (by first | rfl | exact len_plain (by assumption) | (simp [AV.plain, AV.plains, pc, pl, pr])))) (stills_cons (still_load rfl rfl (loadAt_atom (n := 1) (by kernel_rfl) (by first | assumption | (simp (disch := first | omega | (simp only [Heap.next_new, Heap.next_put]; omega)) only [get_new_same, get_new_same1, get_new_same2, get_new_same3, get_new_same4, get_new_same5, get_put_same, get_new_other, get_put_other] <;> first | rfl | assumption)) (by first | rfl | assumption)) rfl (eqv_refl _ (by first | rfl | exact len_plain (by assumption) | (simp [AV.plain, AV.plains, pc, pl, pr])))) rfl)), ?_⟩
          refine OkP.step ?_
          refine OkO.bin rfl rfl rfl (bin_add (by omega) (by omega)) ?_
          refine OkO.nil ⟨rfl, ?_⟩
          refine OkP.step ?_
          refine OkO.callV rfl rfl rfl rfl rfl (c46 _ rv rain _ r20 (by omega) hsR) ?_ -- "sackung/sackungref02.Sum"
          refine OkO.nil ⟨(stills_cons (still_load rfl rfl (loadAt_atom (n := 1) (by kernel_rfl) (by first | assumption | (simp (disch := first | omega | (simp only [Heap.next_new, Heap.next_put]; omega)) only [get_new_same, get_new_same1, get_new_same2, get_new_same3, get_new_same4, get_new_same5, get_put_same, get_new_other, get_put_other] <;> first | rfl | assumption)) (by first | rfl | assumption)) rfl (eqv_refl _ (by first | rfl | exact len_plain (by assumption) | (simp [AV.plain, AV.plains, pc, pl, pr])))) (stills_cons (still_load rfl rfl (loadAt_atom (n := 1) (by kernel_rfl) (by first | assumption | (simp (disch := first | omega | (simp only [Heap.next_new, Heap.next_put]; omega)) only [get_new_same, get_new_same1, get_new_same2, get_new_same3, get_new_same4, get_new_same5, get_put_same, get_new_other, get_put_other] <;> first | rfl | assumption)) (by first | rfl | assumption)) rfl (eqv_refl _ (by first | rfl | exact len_plain (by assumption) | (simp [AV.plain, AV.plains, pc, pl, pr])))) rfl)), ?_⟩
          refine OkP.step ?_
          refine OkO.bin rfl rfl rfl (bin_mul (by omega) (by omega)) ?_
          refine OkO.nil ⟨rfl, ?_⟩
          refine OkP.step ?_
          refine OkO.bin rfl rfl rfl (bin_add (by omega) (by omega)) ?_
          refine OkO.nil ⟨rfl, ?_⟩
          refine OkP.step ?_
          refine OkO.assign rfl rfl ?_
          refine OkO.nil ⟨rfl, ?_⟩
          refine OkP.nil ?_
          refine Ok.seq ?_
          refine Ok.region ?_
          refine OkO.fieldAddr (o := 2) rfl (by kernel_rfl) rfl ?_
          refine OkO.load rfl rfl (loadAt_atom (n := 1) (by kernel_rfl) (by first | assumption | (simp (disch := first | omega | (simp only [Heap.next_new, Heap.next_put]; omega)) only [get_new_same, get_new_same1, get_new_same2, get_new_same3, get_new_same4, get_new_same5, get_put_same, get_new_other, get_put_other] <;> first | rfl | assumption)) (by first | rfl | assumption)) ?_
          refine OkO.callV rfl rfl rfl rfl rfl (c46 _ lv lvs _ l20 (by omega) hsL) ?_ -- "sackung/sackungref02.Sum"
          refine OkO.assign rfl rfl ?_
          refine OkO.nil ?_
          refine Ok.seq ?_
          refine Ok.seq ?_
          refine Ok.region ?_
          refine OkO.assign rfl rfl ?_
          refine OkO.nil ?_
          refine Ok.block ?_
          refine Ok.loop (fun n s => ∃ i : Nat, n = ds.length - i ∧ i ≤ ds.length ∧ H20 = s.H ∧ Has 8 [(3, .ptr W.next 0), (6, .bool false), (7, .ptr H44.next 0), (8, v6), (9, v7), (10, I (snowP g.melt ds rain t.snow ds.length)), (12, I cs.length), (13, I (lvs.sum + cs.length * t.snow + cs.length * rain.sum)), (14, I ((levP cs g ds t lvs rain i).take cs.length).sum), (15, I (i : Int))] s.T ∧ s.D = [] ∧ Grow W s.H) (ds.length) (by unfold loopFuel; omega)
            ⟨0, rfl, Nat.zero_le _, rfl, (by rw [show ((levP cs g ds t lvs rain 0).take cs.length).sum = lvs.sum from by rw [levP, ← hfl]; simp]; exact Has.of (by kernel_rfl)), rfl, g20⟩ ?_
          rintro n ⟨T, D, G⟩ ⟨i, hn, hi, hH, ⟨f, hT⟩, hD, hg⟩
          dsimp only at *
          subst hT hD
          have hgn := hg.next
          subst hH
          refine Ok.seq ?_
          refine Ok.seq ?_
          refine Ok.region ?_
          refine OkO.move rfl rfl ?_
          refine OkO.move rfl rfl ?_
          refine OkO.builtin rfl rfl rfl (builtin_len (by kernel_rfl) (by first | assumption | rfl)) ?_
          refine OkO.bin rfl rfl rfl (bin_lss _ _) ?_
          refine OkO.nil ?_
          refine Ok.cond rfl (fun h5 => ?_) (fun h5 => ?_)
          · -- yes h5
            have hlt : i < ds.length := by simpa using h5
            have hiv : i < vs.length := by omega
            obtain ⟨bb, off, ccs, i1, i2, i3, i4⟩ := hv6.at_ i [vs[i]] (by simp [hiv])
            have i5 := seg_one i3
            have hri : Ints H20 vs[i] ((levP cs g ds t lvs rain (i + 1)).take cs.length) := hvr i vs[i] _ (List.getElem?_eq_getElem hiv) (by rw [rowsR, List.getElem?_map, List.getElem?_range hlt]; rfl)
            have hlv := lev_facts hF (i + 1) (by omega)
            have hrn : ((levP cs g ds t lvs rain (i + 1)).take cs.length).length = cs.length := by rw [List.length_take]; omega
            have lri : lenOf vs[i] = some cs.length := by rw [hri.len]; simp; omega
            obtain ⟨lb, lo, lcs, j1, j2, j3, j4⟩ := in20.at_ i [I (leftD cs g ds t lvs rain i)] (by simp [leftsR, hlt])
            have j5 := seg_one j3
            have hlp := left_pos hF i hlt
            have hrb : ∀ x ∈ ((levP cs g ds t lvs rain (i + 1)).take cs.length), -1000000000 ≤ x ∧ x ≤ 1000000000 := fun x hx => by have := hlv.2 x (List.mem_of_mem_take hx); omega
            refine Ok.skip ?_
            refine Ok.seq ?_
            refine Ok.block ?_
            refine Ok.seq ?_
            refine Ok.seq ?_
            refine Ok.region ?_
            refine OkO.move rfl rfl ?_
            refine OkO.move rfl rfl ?_
            refine OkO.index (sz := 1) (n := i) rfl rfl rfl (by kernel_rfl) (by first | assumption | rfl | exact slAt_slice (by omega)) ?_ -- index ('Go.Operand.tmp', 80) ('Go.Operand.tmp', 81)
            refine OkO.load rfl rfl (loadAt_atom (n := 1) (by kernel_rfl) (by first | assumption | (simp (disch := first | omega | (simp only [Heap.next_new, Heap.next_put]; omega)) only [get_new_same, get_new_same1, get_new_same2, get_new_same3, get_new_same4, get_new_same5, get_put_same, get_new_other, get_put_other] <;> first | rfl | assumption)) (by first | rfl | assumption)) ?_
            refine OkO.builtin rfl rfl rfl (builtin_len (by kernel_rfl) (by first | assumption | rfl)) ?_
            refine OkO.move rfl rfl ?_
            refine OkO.bin rfl rfl rfl (bin_neq _ _) ?_
            refine OkO.move rfl rfl ?_
            refine OkO.split (d := 87) rfl (fun g6 => ?_) (fun g6 => ?_)
            · -- true g6
              exact absurd g6 (by simp)
            · -- false g6
              refine OkO.move rfl rfl ?_
              refine OkO.move rfl rfl ?_
              refine OkO.index (sz := 1) (n := i) rfl rfl rfl (by kernel_rfl) (by first | assumption | rfl | exact slAt_slice (by omega)) ?_ -- index ('Go.Operand.tmp', 88) ('Go.Operand.tmp', 89)
              refine OkO.load rfl rfl (loadAt_atom (n := 1) (by kernel_rfl) (by first | assumption | (simp (disch := first | omega | (simp only [Heap.next_new, Heap.next_put]; omega)) only [get_new_same, get_new_same1, get_new_same2, get_new_same3, get_new_same4, get_new_same5, get_put_same, get_new_other, get_put_other] <;> first | rfl | assumption)) (by first | rfl | assumption)) ?_
              refine OkO.bin rfl rfl rfl (bin_lss _ _) ?_
              refine OkO.pick (b := false) rfl rfl nofun (fun _ => rfl) ?_
              refine OkO.nil ?_
              refine Ok.cond rfl (fun h7 => ?_) (fun h7 => ?_)
              · -- yes h7
                exact absurd h7 (by simp; omega)
              · -- no h7
                refine Ok.skip ?_
                refine Ok.seq ?_
                refine Ok.seq ?_
                refine Ok.region ?_
                refine OkO.assign rfl rfl ?_
                refine OkO.nil ?_
                refine Ok.block ?_
                refine Ok.loop (fun n s => ∃ k : Nat, n = cs.length - k ∧ k ≤ cs.length ∧ H20 = s.H ∧ Has 8 [(3, .ptr W.next 0), (6, .bool false), (7, .ptr H44.next 0), (8, v6), (9, v7), (10, I (snowP g.melt ds rain t.snow ds.length)), (12, I cs.length), (13, I (lvs.sum + cs.length * t.snow + cs.length * rain.sum)), (14, I ((levP cs g ds t lvs rain i).take cs.length).sum), (15, I (i : Int)), (16, I (k : Int))] s.T ∧ s.D = [] ∧ Grow W s.H) (cs.length) (by unfold loopFuel; omega)
                  ⟨0, rfl, Nat.zero_le _, rfl, Has.of (by kernel_rfl), rfl, g20⟩ ?_
                rintro n ⟨T, D, G⟩ ⟨k, hn2, hk, hH, ⟨f2, hT⟩, hD, hg⟩
                dsimp only at *
                subst hT hD
                have hgn := hg.next
                subst hH
                refine Ok.seq ?_
                refine Ok.seq ?_
                refine Ok.region ?_
                refine OkO.move rfl rfl ?_
                refine OkO.move rfl rfl ?_
                refine OkO.bin rfl rfl rfl (bin_lss _ _) ?_
                refine OkO.nil ?_
                refine Ok.cond rfl (fun h8 => ?_) (fun h8 => ?_)
                · -- yes h8
                  have hltk : k < cs.length := by simpa using h8
                  obtain ⟨rb, ro, rcs, k1, k2, k3, k4⟩ := hri.at_ k [I ((levP cs g ds t lvs rain (i + 1)).getD k 0)] (by rw [List.getElem?_map, List.getElem?_take, if_pos hltk, List.getElem?_eq_getElem (by omega), getD_lt (by omega)]; rfl)
                  have k5 := seg_one k3
                  obtain ⟨cb, co, ecs, c1, c2, c3, c4⟩ := R20.at_ k cs[k].c (by simp [hltk])
                  have c5 : ecs[co + 2]? = some (I cs[k].cap) := seg_get c3 2 (by omega)
                  have hup := hlv.2.getD (by omega) k
                  have hcap := lev_cap hF i hlt k hltk
                  refine Ok.skip ?_
                  refine Ok.seq ?_
                  refine Ok.block ?_
                  refine Ok.seq ?_
                  refine Ok.drawn [(0, true, []), (1, true, []), (2, true, []), (3, true, []), (4, true, []), (5, true, []), (6, true, []), (7, true, []), (8, true, []), (9, true, []), (10, true, []), (11, true, []), (12, true, []), (13, true, []), (14, true, []), (15, true, []), (16, true, []), (17, true, []), (18, true, []), (19, true, []), (20, true, []), (21, true, []), (22, true, []), (23, true, [])] (by kernel_rfl) ?_
                  refine OkP.step ?_
                  refine OkO.move rfl rfl ?_
                  refine OkO.nil ⟨rfl, ?_⟩
                  refine OkP.step ?_
                  refine OkO.move rfl rfl ?_
                  refine OkO.nil ⟨rfl, ?_⟩
                  refine OkP.step ?_
                  refine OkO.index (sz := 1) (n := i) rfl rfl rfl (by kernel_rfl) (by first | assumption | rfl | exact slAt_slice (by omega)) ?_ -- index ('Go.Operand.tmp', 99) ('Go.Operand.tmp', 100)
                  refine OkO.nil ⟨rfl, ?_⟩
                  refine OkP.step ?_
                  refine OkO.load rfl rfl (loadAt_atom (n := 1) (by kernel_rfl) (by first | assumption | (simp (disch := first | omega | (simp only [Heap.next_new, Heap.next_put]; omega)) only [get_new_same, get_new_same1, get_new_same2, get_new_same3, get_new_same4, get_new_same5, get_put_same, get_new_other, get_put_other] <;> first | rfl | assumption)) (by first | rfl | assumption)) ?_
                  refine OkO.nil ⟨rfl, ?_⟩
                  refine OkP.step ?_
                  refine OkO.move rfl rfl ?_
                  refine OkO.nil ⟨rfl, ?_⟩
                  refine OkP.step ?_
                  refine OkO.index (sz := 1) (n := k) rfl rfl rfl (by kernel_rfl) (by first | assumption | rfl | exact slAt_slice (by omega)) ?_ -- index ('Go.Operand.tmp', 102) ('Go.Operand.tmp', 103)
                  refine OkO.nil ⟨rfl, ?_⟩
                  refine OkP.step ?_
                  refine OkO.load rfl rfl (loadAt_atom (n := 1) (by kernel_rfl) (by first | assumption | (simp (disch := first | omega | (simp only [Heap.next_new, Heap.next_put]; omega)) only [get_new_same, get_new_same1, get_new_same2, get_new_same3, get_new_same4, get_new_same5, get_put_same, get_new_other, get_put_other] <;> first | rfl | assumption)) (by first | rfl | assumption)) ?_
                  refine OkO.nil ⟨rfl, ?_⟩
                  refine OkP.step ?_
                  refine OkO.bin rfl rfl rfl (bin_lss _ _) ?_
                  refine OkO.nil ⟨rfl, ?_⟩
                  refine OkP.step ?_
                  refine OkO.move rfl rfl ?_
                  refine OkO.nil ⟨rfl, ?_⟩
                  refine OkP.split (d := 107) rfl (fun g9 => ?_) (fun g9 => ?_)
                  · -- true g9
                    exact absurd (of_decide_eq_true g9) (by omega)
                  · -- false g9
                    refine OkP.step ?_
                    refine OkO.move rfl rfl ?_
                    refine OkO.nil ⟨rfl, ?_⟩
                    refine OkP.step ?_
                    refine OkO.move rfl rfl ?_
                    refine OkO.nil ⟨rfl, ?_⟩
                    refine OkP.step ?_
                    refine OkO.index (sz := 1) (n := i) rfl rfl rfl (by kernel_rfl) (by first | assumption | rfl | exact slAt_slice (by omega)) ?_ -- index ('Go.Operand.tmp', 108) ('Go.Operand.tmp', 109)
                    refine OkO.nil ⟨rfl, ?_⟩
                    refine OkP.step ?_
                    refine OkO.load rfl rfl (loadAt_atom (n := 1) (by kernel_rfl) (by first | assumption | (simp (disch := first | omega | (simp only [Heap.next_new, Heap.next_put]; omega)) only [get_new_same, get_new_same1, get_new_same2, get_new_same3, get_new_same4, get_new_same5, get_put_same, get_new_other, get_put_other] <;> first | rfl | assumption)) (by first | rfl | assumption)) ?_
                    refine OkO.nil ⟨rfl, ?_⟩
                    refine OkP.step ?_
                    refine OkO.move rfl rfl ?_
                    refine OkO.nil ⟨rfl, ?_⟩
                    refine OkP.step ?_
                    refine OkO.index (sz := 1) (n := k) rfl rfl rfl (by kernel_rfl) (by first | assumption | rfl | exact slAt_slice (by omega)) ?_ -- index ('Go.Operand.tmp', 111) ('Go.Operand.tmp', 112)
                    refine OkO.nil ⟨rfl, ?_⟩
                    refine OkP.step ?_
                    refine OkO.load rfl rfl (loadAt_atom (n := 1) (by kernel_rfl) (by first | assumption | (simp (disch := first | omega | (simp only [Heap.next_new, Heap.next_put]; omega)) only [get_new_same, get_new_same1, get_new_same2, get_new_same3, get_new_same4, get_new_same5, get_put_same, get_new_other, get_put_other] <;> first | rfl | assumption)) (by first | rfl | assumption)) ?_
                    refine OkO.nil ⟨rfl, ?_⟩
                    refine OkP.step ?_
                    refine OkO.fieldAddr (o := 0) rfl (by kernel_rfl) rfl ?_
                    refine OkO.nil ⟨rfl, ?_⟩
                    refine OkP.step ?_
                    refine OkO.load rfl rfl (loadAt_atom (n := 1) (by kernel_rfl) (by first | assumption | (simp (disch := first | omega | (simp only [Heap.next_new, Heap.next_put]; omega)) only [get_new_same, get_new_same1, get_new_same2, get_new_same3, get_new_same4, get_new_same5, get_put_same, get_new_other, get_put_other] <;> first | rfl | assumption)) (by first | rfl | assumption)) ?_
                    refine OkO.nil ⟨rfl, ?_⟩
                    refine OkP.step ?_
                    refine OkO.move rfl rfl ?_
                    refine OkO.nil ⟨rfl, ?_⟩
                    refine OkP.step ?_
                    refine OkO.index (sz := 7) (n := k) rfl rfl rfl (by kernel_rfl) (by first | assumption | rfl | exact slAt_slice (by omega)) ?_ -- index ('Go.Operand.tmp', 116) ('Go.Operand.tmp', 117)
                    refine OkO.nil ⟨rfl, ?_⟩
                    refine OkP.step ?_
                    refine OkO.fieldAddr (o := 2) rfl (by kernel_rfl) rfl ?_
                    refine OkO.nil ⟨rfl, ?_⟩
                    refine OkP.step ?_
                    refine OkO.load rfl rfl (loadAt_atom (n := 1) (by kernel_rfl) (by first | assumption | (simp (disch := first | omega | (simp only [Heap.next_new, Heap.next_put]; omega)) only [get_new_same, get_new_same1, get_new_same2, get_new_same3, get_new_same4, get_new_same5, get_put_same, get_new_other, get_put_other] <;> first | rfl | assumption)) (by first | rfl | assumption)) ?_
                    refine OkO.nil ⟨rfl, ?_⟩
                    refine OkP.step ?_
                    refine OkO.bin rfl rfl rfl (bin_gtr _ _) ?_
                    refine OkO.nil ⟨rfl, ?_⟩
                    refine OkP.step ?_
                    refine OkO.pick (b := false) rfl rfl nofun (fun _ => rfl) ?_
                    refine OkO.nil ⟨rfl, ?_⟩
                    refine OkP.nil ?_
                    refine Ok.cond rfl (fun h10 => ?_) (fun h10 => ?_)
                    · -- yes h10
                      exact absurd (of_decide_eq_true h10) (by omega)
                    · -- no h10
                      refine Ok.skip ?_
                      refine Ok.region ?_
                      refine OkO.move rfl rfl ?_
                      refine OkO.bin rfl rfl rfl (bin_add (by omega) (by omega)) ?_
                      refine OkO.assign rfl rfl ?_
                      refine OkO.nil ?_
                      refine ⟨cs.length - (k + 1), by omega, k + 1, rfl, hltk, rfl, Has.of (by kernel_rfl), rfl, g20⟩
                · -- no h8
                  have hgek : k = cs.length := by simp at h8; omega
                  refine Ok.exit ?_
                  refine Ok.region ?_
                  refine OkO.move rfl rfl ?_
                  refine OkO.move rfl rfl ?_
                  refine OkO.index (sz := 1) (n := i) rfl rfl rfl (by kernel_rfl) (by first | assumption | rfl | exact slAt_slice (by omega)) ?_ -- index ('Go.Operand.tmp', 123) ('Go.Operand.tmp', 124)
                  refine OkO.load rfl rfl (loadAt_atom (n := 1) (by kernel_rfl) (by first | assumption | (simp (disch := first | omega | (simp only [Heap.next_new, Heap.next_put]; omega)) only [get_new_same, get_new_same1, get_new_same2, get_new_same3, get_new_same4, get_new_same5, get_put_same, get_new_other, get_put_other] <;> first | rfl | assumption)) (by first | rfl | assumption)) ?_
                  refine OkO.callV rfl rfl rfl rfl rfl (c46 _ _ _ _ hri (by simp; omega) hrb) ?_ -- "sackung/sackungref02.Sum"
                  refine OkO.assign rfl rfl ?_
                  refine OkO.nil ?_
                  refine Ok.region ?_
                  refine OkO.move rfl rfl ?_
                  refine OkO.bin rfl rfl rfl (bin_add (by omega) (by omega)) ?_
                  refine OkO.assign rfl rfl ?_
                  refine OkO.nil ?_
                  refine ⟨ds.length - (i + 1), by omega, i + 1, rfl, hlt, rfl, Has.of (by kernel_rfl), rfl, g20⟩
          · -- no h5
            have hge : i = ds.length := by simp at h5; omega
            subst hge
            refine Ok.exit ?_
            refine Ok.seq ?_
            refine Ok.region ?_
            refine OkO.move rfl rfl ?_
            refine OkO.bin rfl rfl rfl (bin_geq _ _) ?_
            refine OkO.move rfl rfl ?_
            refine OkO.split (d := 130) rfl (fun g11 => ?_) (fun g11 => ?_)
            · -- true g11
              have hlb : ∀ x ∈ leftsR cs g ds t lvs rain ds.length, -1000000000 ≤ x ∧ x ≤ 1000000000 := fun x hx => by simp only [leftsR, List.mem_map, List.mem_range] at hx; obtain ⟨j, hj, rfl⟩ := hx; have := left_pos hF j hj; omega
              have hle := lev_facts hF ds.length (Nat.le_refl _)
              have sE := sum_bd 100000 (by omega) ((levP cs g ds t lvs rain ds.length).take cs.length) (fun x hx => by have := hle.2 x (List.mem_of_mem_take hx); omega)
              rw [List.length_take, hle.1] at sE
              refine OkO.move rfl rfl ?_
              refine OkO.move rfl rfl ?_
              refine OkO.move rfl rfl ?_
              refine OkO.move rfl rfl ?_
              refine OkO.bin rfl rfl rfl (bin_mul (by omega) (by omega)) ?_
              refine OkO.bin rfl rfl rfl (bin_add (by omega) (by omega)) ?_
              refine OkO.move rfl rfl ?_
              refine OkO.callV rfl rfl rfl rfl rfl (c46 _ v7 (leftsR cs g ds t lvs rain ds.length) _ in20 (by simp [leftsR]; omega) hlb) ?_ -- "sackung/sackungref02.Sum"
              refine OkO.bin rfl rfl rfl (bin_add (by omega) (by omega)) ?_
              refine OkO.bin rfl rfl rfl (bin_eql _ _) ?_
              refine OkO.pick (b := true) rfl rfl (fun _ => rfl) nofun ?_
              refine OkO.move rfl rfl ?_
              refine OkO.split (d := 142) rfl (fun g12 => ?_) (fun g12 => ?_)
              · -- true g12
                refine OkO.callV rfl rfl rfl rfl rfl (rfl) ?_ -- "sackung/sackunglaw02.wakes"
                refine OkO.pick (b := true) rfl rfl (fun _ => rfl) nofun ?_
                refine OkO.assign rfl rfl ?_
                refine OkO.nil ?_
                refine Ok.ret ⟨.inr rfl, ?_⟩
                exact back_flat rfl rfl rfl (by rw [← hW]; exact g20)
              · -- false g12
                exact absurd g12 (by simp; omega)
            · -- false g11
              exact absurd g11 (by simp; omega)
end
end Go.Ev
