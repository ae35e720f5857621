/-
  Functions of the program, reckoned by the evaluator: what each answers, and that it leaves what came in as it was (part 9).
-/
import Derived.Test.YtibplmibcbillaaV8
set_option maxRecDepth 100000
set_option linter.unusedSimpArgs false
set_option linter.unusedVariables false
namespace Go.Ev
open Go Go.Proofs
noncomputable section
theorem spl_pad (l : List Int) (h : l.length ≤ 8) : spl [I 0, I 0, I 0, I 0, I 0, I 0, I 0, I 0] 0 (l.map I) = some ((l ++ List.replicate (8 - l.length) 0).map I) := by
  have e : spl [I 0, I 0, I 0, I 0, I 0, I 0, I 0, I 0] 0 (l.map I) = (match Nat.ble (0 + (l.map I).length) 8 with
    | true => some ([] ++ (l.map I ++ (List.replicate 8 (I 0)).drop (0 + (l.map I).length)))
    | false => none) := rfl
  rw [e, Nat.ble_eq_true_of_le (by simp; omega)]
  simp only [List.nil_append, List.map_append, List.map_replicate, List.length_map, Nat.zero_add, List.drop_replicate]
theorem c81 (m : Nat) (cv dv lv rv : AV) (g : Gr) (t : Tru) (H : Heap)  : ∃ v H', RR (m + 1) (.fn 81 [.agg [cv, I g.slo, I g.shi, I g.klo, I g.khi, I g.melt, dv, I t.snow, I t.soak, lv, rv]]) H = some (v, H') ∧ v = .fn 103 [] [.ptr H.next 0] ∧ Ret H H' ∧ H'.get H.next = some (.cells [cv, I g.slo, I g.shi, I g.klo, I g.khi, I g.melt, dv, I t.snow, I t.soak, lv, rv] 110) ∧ H'.next = H.next + 1 := by
  show ∃ v H', evFn Try.prog (RR (m + 0)) 81 [.agg [cv, I g.slo, I g.shi, I g.klo, I g.khi, I g.melt, dv, I t.snow, I t.soak, lv, rv]] H = some (v, H') ∧ v = .fn 103 [] [.ptr H.next 0] ∧ Ret H H' ∧ H'.get H.next = some (.cells [cv, I g.slo, I g.shi, I g.klo, I g.khi, I g.melt, dv, I t.snow, I t.soak, lv, rv] 110) ∧ H'.next = H.next + 1
  refine fn_okE Try.func81 rfl rfl (by kernel_rfl) (by kernel_rfl) ?_
  obtain ⟨W, hW⟩ : ∃ W : Heap, W = ⟨H.t, H.next, H.next⟩ := ⟨_, rfl⟩
  have hg : ∀ n, W.get n = H.get n := fun n => by rw [hW]; rfl
  have hN : W.next = H.next := by rw [hW]
  have hE : ∀ G, Grow W G → Ext H G := fun G g => ⟨by rw [← hN]; exact g.next, fun n k => by rw [g.get n (by rw [hN]; exact k), hg]⟩
  have hG : Grow W W := Grow.refl (by rw [hW]; exact Nat.le_refl _)
  rw [← hW]
  refine Ok.seq ?_
  refine Ok.region ?_
  refine OkO.box rfl rfl ?_
  refine OkO.assign rfl rfl ?_
  refine OkO.nil ?_
  refine Ok.seq ?_
  refine Ok.region ?_
  refine OkO.makeFunc rfl rfl rfl ?_
  refine OkO.assign rfl rfl ?_
  refine OkO.nil ?_
  refine Ok.ret ⟨.inr rfl, ?_⟩
  exact back_newQ (resV_tmp rfl resV_nil) (by rw [hN]; rfl) (by rw [← hW]; exact (by (try dsimp only); repeat (first | exact hG | apply Grow.new | (refine Grow.put ?_ _ (by first | omega | (simp only [hNw, hPt]; omega)))))) rfl (fun H' p1 p2 p3 => ⟨rfl, p1, by rw [p2, ← hN]; exact gn0 _ _, by rw [p3, ← hN]; rfl⟩)
theorem c54 (m : Nat) (cv dv lv rv : AV) (cs : List Cell) (g : Gr) (ds : List Day) (t : Tru) (lvs rain : List Int) (H : Heap) (hR : Row H cv 7 (cs.map Cell.c)) (hD : Row H dv 3 (ds.map Day.c)) (hL : Ints H lv lvs) (hA : Ints H rv rain) (hF : Fit cs g ds t lvs rain) : ∃ v H', RR (m + 5) (.fn 54 [.agg [cv, I g.slo, I g.shi, I g.klo, I g.khi, I g.melt, dv, I t.snow, I t.soak, lv, rv]]) H = some (v, H') ∧ Ret H H' ∧ Row H' v 10 ((List.range ds.length).map (evC cs g ds t lvs rain)) ∧ Cut H' v 10 := by
  show ∃ v H', evFn Try.prog (RR (m + 4)) 54 [.agg [cv, I g.slo, I g.shi, I g.klo, I g.khi, I g.melt, dv, I t.snow, I t.soak, lv, rv]] H = some (v, H') ∧ Ret H H' ∧ Row H' v 10 ((List.range ds.length).map (evC cs g ds t lvs rain)) ∧ Cut H' v 10
  refine fn_okE Try.func54 rfl rfl (by kernel_rfl) (by kernel_rfl) ?_
  obtain ⟨W, hW⟩ : ∃ W : Heap, W = ⟨H.t, H.next, H.next⟩ := ⟨_, rfl⟩
  have hg : ∀ n, W.get n = H.get n := fun n => by rw [hW]; rfl
  have hN : W.next = H.next := by rw [hW]
  have hE : ∀ G, Grow W G → Ext H G := fun G g => ⟨by rw [← hN]; exact g.next, fun n k => by rw [g.get n (by rw [hN]; exact k), hg]⟩
  have hG : Grow W W := Grow.refl (by rw [hW]; exact Nat.le_refl _)
  rw [← hW]
  have hll : lenOf lv = some lvs.length := by simpa using hL.len
  have hlc : lenOf cv = some cs.length := by simpa using hR.len
  have hn8 := hF.n8
  have hflv := hF.ll
  refine Ok.seq ?_
  refine Ok.region ?_
  refine OkO.box rfl rfl ?_
  refine OkO.assign rfl rfl ?_
  refine OkO.nil ?_
  refine Ok.seq ?_
  refine Ok.region ?_
  refine OkO.alloc (z := [.int .i64 0, .int .i64 0, .int .i64 0, .int .i64 0, .int .i64 0, .int .i64 0, .int .i64 0, .int .i64 0]) rfl (by kernel_rfl) ?_
  refine OkO.nil ?_
  refine Ok.seq ?_
  refine Ok.drawn [(0, true, []), (1, true, []), (2, true, []), (3, true, []), (4, false, [])] (by kernel_rfl) ?_
  refine OkP.step ?_
  refine OkO.sliceArr (len := 8) (sz := 1) (m := 8) rfl rfl (by kernel_rfl) rfl rfl (by omega) ?_
  refine OkO.nil ⟨rfl, ?_⟩
  refine OkP.step ?_
  refine OkO.fieldAddr (o := 7) rfl (by kernel_rfl) rfl ?_
  refine OkO.nil ⟨rfl, ?_⟩
  refine OkP.step ?_
  refine OkO.fieldAddr (o := 2) rfl (by kernel_rfl) rfl ?_
  refine OkO.nil ⟨rfl, ?_⟩
  refine OkP.step ?_
  refine OkO.load rfl rfl (lda (n := 1) (by kernel_rfl) (by first | assumption | (simp (disch := first | omega | (simp only [hNw, hPt]; omega)) only [gn0, gn1, gn2, gn3, gn4, gn5, gp0, gno, gpo] <;> first | rfl | assumption)) (by first | rfl | assumption)) ?_
  refine OkO.nil ⟨rfl, ?_⟩
  refine OkP.step ?_
  refine OkO.builtin rfl rfl rfl (builtin_copy (el := 113) (sz := 1) (n := lvs.length) (cs := [I 0, I 0, I 0, I 0, I 0, I 0, I 0, I 0]) (new := lvs.map I) (l := (levP cs g ds t lvs rain 0).map I) (by kernel_rfl) (by rw [← ints_flat]; exact (hL.ext (hE _ (by (try dsimp only); repeat (first | exact hG | apply Grow.new | (refine Grow.put ?_ _ (by first | omega | (simp only [hNw, hPt]; omega))))))).elems (fun x hx => by simp only [List.mem_map] at hx; obtain ⟨y, _, rfl⟩ := hx; rfl)) hll (by simp (disch := first | omega | (simp only [hNw, hPt]; omega)) only [gn0, gn1, gn2, gn3, gn4, gn5, gp0, gno, gpo] <;> first | rfl | assumption) (by omega) (atoms_ints _) (spl_pad lvs (by omega))) ?_
  refine OkO.nil ⟨rfl, ?_⟩
  refine OkP.nil ?_
  refine Ok.seq ?_
  refine Ok.region ?_
  refine OkO.alloc (z := [.nils]) rfl (by kernel_rfl) ?_
  refine OkO.nil ?_
  refine Ok.seq ?_
  refine Ok.seq ?_
  refine Ok.region ?_
  refine OkO.load rfl rfl (ldg (n := 11) (by kernel_rfl) (by first | assumption | (simp (disch := first | omega | (simp only [hNw, hPt]; omega)) only [gn0, gn1, gn2, gn3, gn4, gn5, gp0, gno, gpo] <;> first | rfl | assumption)) (by first | rfl | assumption)) ?_
  refine OkO.callE rfl rfl rfl rfl rfl (c81 (m + 3) cv dv lv rv g t _) ?_ -- "(sackung/water.flow).weather"
  rintro v81 H81 ⟨rfl, q81, z3, n81⟩
  simp only [hNw, hPt] at z3 n81
  have z0 : H81.get (W.next) = some (.cells [cv, I g.slo, I g.shi, I g.klo, I g.khi, I g.melt, dv, I t.snow, I t.soak, lv, rv] 110) := by rw [q81.ext.get _ (by simp only [hNw, hPt]; omega)]; first | exact gn0 _ _ | (simp (disch := first | omega | (simp only [hNw, hPt]; omega)) only [gn0, gn1, gn2, gn3, gn4, gn5, gp0, gno, gpo] <;> first | rfl | assumption | exact gp0 _ _ _)
  have z1 : H81.get (W.next + 1) = some (.cells ((levP cs g ds t lvs rain 0).map I) 113) := by rw [q81.ext.get _ (by simp only [hNw, hPt]; omega)]; first | exact gn0 _ _ | (simp (disch := first | omega | (simp only [hNw, hPt]; omega)) only [gn0, gn1, gn2, gn3, gn4, gn5, gp0, gno, gpo] <;> first | rfl | assumption | exact gp0 _ _ _)
  have z2 : H81.get (W.next + 2) = some (.cells [.nils] 108) := by rw [q81.ext.get _ (by simp only [hNw, hPt]; omega)]; first | exact gn0 _ _ | (simp (disch := first | omega | (simp only [hNw, hPt]; omega)) only [gn0, gn1, gn2, gn3, gn4, gn5, gp0, gno, gpo] <;> first | rfl | assumption | exact gp0 _ _ _)
  have g81 : Grow W H81 := Grow.ret (by (try dsimp only); repeat (first | exact hG | apply Grow.new | (refine Grow.put ?_ _ (by first | omega | (simp only [hNw, hPt]; omega))))) q81
  have x81 : Ext W H81 := g81.ext
  refine OkO.nil ?_
  refine Ok.block ?_
  refine Ok.rangeT rfl rfl (fun T0 hT0 => ?_)
  have hH : Has 5 [(1, .ptr W.next 0), (3, .ptr (W.next + 1) 0), (4, .ptr (W.next + 2) 0)] T0 := by rw [hT0]; exact Has.of (by kernel_rfl)
  have hJ0 : RunJ W W.next [cv, I g.slo, I g.shi, I g.klo, I g.khi, I g.melt, dv, I t.snow, I t.soak, lv, rv] T0 (levP cs g ds t lvs rain) (evC cs g ds t lvs rain) 0 ((H81.new .defd).new (.loop .ready none T0 [15, 16] as54 bd54 (W.next + 4))) := ⟨(x81.new _).new _, by simp only [hNw]; omega, by rw [gno _ _ _ (by simp only [hNw]; omega), gno _ _ _ (by omega)]; exact z0, by rw [gno _ _ _ (by simp only [hNw]; omega), gno _ _ _ (by omega)]; exact z1, ⟨.nils, by rw [gno _ _ _ (by simp only [hNw]; omega), gno _ _ _ (by omega)]; exact z2, Mine.nil _ _ _ _⟩, by rw [gno _ _ _ (by simp only [hNw]; omega), gno _ _ _ (by omega)]; exact z3, by rw [gno _ _ _ (by simp only [hNw]; omega), ← n81]; exact gn0 _ _, by rw [show W.next + 5 = H81.next + 1 from by omega]; exact gn1 _ _ _⟩
  have hRW : Row W cv 7 (cs.map Cell.c) := hR.ext ⟨by omega, fun n _ => hg n⟩
  have hDW : Row W dv 3 (ds.map Day.c) := hD.ext ⟨by omega, fun n _ => hg n⟩
  have hAW : Ints W rv rain := hA.ext ⟨by omega, fun n _ => hg n⟩
  obtain ⟨v3, H3, k1, k2, k3⟩ := c103 (m + 3) (W.next + 5) (W.next + 3) W.next cv dv lv rv g t ds rain (RunJ W W.next [cv, I g.slo, I g.shi, I g.klo, I g.khi, I g.melt, dv, I t.snow, I t.soak, lv, rv] T0 (levP cs g ds t lvs rain) (evC cs g ds t lvs rain)) ((H81.new .defd).new (.loop .ready none T0 [15, 16] as54 bd54 (W.next + 4))) (fun i G G' h x => h.to x) (fun i G h => ⟨by rw [h.b3]; rfl, hDW.ext h.ext, hAW.ext h.ext, by have := h.n; omega, by have := h.n; omega⟩) (fun i G hi hj hk => r54 m W.next i cv dv lv rv cs g ds t lvs rain T0 W G hRW hF rfl hi hH hj hk) hJ0 (by show W.next ≤ H81.lo; exact g81.lo) (by omega) hF.melt hF.dlim hF.rb hF.snow (by have := hF.d30; omega) hF.rl
  have kn := k2.n
  obtain ⟨v0, y2, ym⟩ := k2.b2
  rw [n81]
  refine ⟨v3, H3, k1, T0, [15, 16], as54, bd54, W.next + 4, k2.b5, ?_⟩
  have g3 : Grow W H3 := ⟨k2.ext.next, k2.ext.get, k3⟩
  have y2b : (H3.get (W.next + 2)).bind AObj.cs = some [v0] := by rw [y2]; rfl
  clear k1
  refine Ok.seq ?_
  refine Ok.region ?_
  refine OkO.load rfl rfl (lda (n := 1) (by kernel_rfl) (by first | assumption | (simp (disch := first | omega | (simp only [hNw, hPt]; omega)) only [gn0, gn1, gn2, gn3, gn4, gn5, gp0, gno, gpo] <;> first | rfl | assumption)) (by first | rfl | assumption)) ?_
  refine OkO.assign rfl rfl ?_
  refine OkO.nil ?_
  refine Ok.ret ⟨.inr rfl, ?_⟩
  rw [back_mark (d := W.next + 4) (by rw [gpo _ _ _ _ (by omega), gpo _ _ _ _ (by omega)]; exact k2.b4)]
  have ymm := ((ym.put (n := W.next + 5) (.loop .exhausted none T0 [15, 16] as54 bd54 (W.next + 4)) (by omega)).put (n := W.next + 5) .dead (by omega)).put (n := W.next + 4) .shut (by omega)
  exact back_newA (resV_tmp rfl resV_nil) rfl (by rw [← hW]; exact ((g3.put _ (by omega)).put _ (by omega)).put _ (by omega)) (fun H2 r2 r3 => ⟨r2, Mine.back ymm (fun x hx => by simp only [List.mem_map, List.mem_range] at hx; obtain ⟨y, hy, rfl⟩ := hx; have := lev_facts hF (y + 1) (by omega); simp [evC, this.1]) (by omega) r3⟩)
end
end Go.Ev
