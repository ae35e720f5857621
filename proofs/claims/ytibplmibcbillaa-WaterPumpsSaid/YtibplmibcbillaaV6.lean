/-
  Functions of the program, reckoned by the evaluator: what each answers, and that it leaves what came in as it was (part 6).
-/
import Derived.Test.YtibplmibcbillaaV5
set_option maxRecDepth 100000
set_option linter.unusedSimpArgs false
set_option linter.unusedVariables false
namespace Go.Ev
open Go Go.Proofs
noncomputable section
theorem Mine.put {k0 : Nat} {G : Heap} {v : AV} {e : TypeId} {sz : Nat} {cs : List AV} (h : Mine k0 G v e sz cs) {n : Nat} (o : AObj) (hn : n < k0) : Mine k0 (G.put n o) v e sz cs := by
  rcases h with h | ⟨b, m, h1, h2, h3, h4, h5⟩
  · exact .inl h
  · exact .inr ⟨b, m, h1, by rw [gpo _ _ _ _ (by omega)]; exact h2, h3, h4, by simpa using h5⟩
theorem c82 (m : Nat) (cv dv lv rv : AV) (cs : List Cell) (g : Gr) (t : Tru) (bef : List Int) (down : Int) (H : Heap) (hR : Row H cv 7 (cs.map Cell.c)) (hn8 : cs.length ≤ 8) (hc : ∀ x ∈ cs, x.lim) (hto0 : toOk (cs.length : Int) 0 cs = true) (hbl : bef.length = 8) (hb : Upto 100000 bef) (hdw : 0 ≤ down ∧ down ≤ 4000) (hsk : 0 ≤ t.soak ∧ t.soak ≤ 1000) : RR (m + 2) (.fn 82 [.agg [cv, I g.slo, I g.shi, I g.klo, I g.khi, I g.melt, dv, I t.snow, I t.soak, lv, rv], .agg (bef.map I), I down]) H = some (.agg ((dayL cs bef down t.soak).map I ++ [I (dayO cs bef down t.soak), I 0]), H) := by
  refine (R_fn _ _ _ _ _).trans ?_
  refine fn_ok Try.func82 rfl rfl (by kernel_rfl) (by kernel_rfl) ?_
  obtain ⟨W, hW⟩ : ∃ W : Heap, W = ⟨H.t, H.next, H.next⟩ := ⟨_, rfl⟩
  have hg : ∀ n, W.get n = H.get n := fun n => by rw [hW]; rfl
  have hN : W.next = H.next := by rw [hW]
  have hE : ∀ G, Grow W G → Ext H G := fun G g => ⟨by rw [← hN]; exact g.next, fun n k => by rw [g.get n (by rw [hN]; exact k), hg]⟩
  have hG : Grow W W := Grow.refl (by rw [hW]; exact Nat.le_refl _)
  rw [← hW]
  have hlc0 : lenOf cv = some cs.length := by simpa using hR.len
  have pc : cv.plain = true := lpl hlc0
  have hb8 : bef.length = 8 := hbl
  have hmb := mul_bd (a := down) (b := t.soak) (p := 4000) (q := 1000) hdw hsk
  have hms := Int.mul_le_mul_of_nonneg_left hsk.2 hdw.1
  have hso : 0 ≤ (down * t.soak / 1000) ∧ (down * t.soak / 1000) ≤ down := by omega
  refine Ok.seq ?_
  refine Ok.region ?_
  refine OkO.box rfl rfl ?_
  refine OkO.box rfl rfl ?_
  refine OkO.alloc (z := [.int .i64 0, .int .i64 0, .int .i64 0, .int .i64 0, .int .i64 0, .int .i64 0, .int .i64 0, .int .i64 0, .int .i64 0, .int .i64 0]) rfl (by kernel_rfl) ?_
  refine OkO.nil ?_
  refine Ok.seq ?_
  refine Ok.region ?_
  refine OkO.move rfl rfl ?_
  refine OkO.fieldAddr (o := 7) rfl (by kernel_rfl) rfl ?_
  refine OkO.fieldAddr (o := 1) rfl (by kernel_rfl) rfl ?_
  refine OkO.load rfl rfl (lda (n := 1) (by kernel_rfl) (by first | assumption | (simp (disch := first | omega | (simp only [hNw, hPt]; omega)) only [gn0, gn1, gn2, gn3, gn4, gn5, gp0, gno, gpo] <;> first | rfl | assumption)) (by first | rfl | assumption)) ?_
  refine OkO.bin rfl rfl rfl (bin_mul (by omega) (by omega)) ?_
  refine OkO.bin rfl rfl rfl (bin_quo (by omega) (by omega) (by omega)) ?_
  refine OkO.assign rfl rfl ?_
  refine OkO.nil ?_
  refine Ok.seq ?_
  refine Ok.region ?_
  refine OkO.alloc (z := [.int .i64 0, .int .i64 0, .int .i64 0, .int .i64 0, .int .i64 0, .int .i64 0, .int .i64 0, .int .i64 0]) rfl (by kernel_rfl) ?_
  refine OkO.nil ?_
  refine Ok.seq ?_
  refine Ok.region ?_
  refine OkO.assign rfl rfl ?_
  refine OkO.nil ?_
  refine Ok.seq ?_
  refine Ok.seq ?_
  refine Ok.region ?_
  refine OkO.fieldAddr (o := 0) rfl (by kernel_rfl) rfl ?_
  refine OkO.fieldAddr (o := 0) rfl (by kernel_rfl) rfl ?_
  refine OkO.load rfl rfl (lda (n := 1) (by kernel_rfl) (by first | assumption | (simp (disch := first | omega | (simp only [hNw, hPt]; omega)) only [gn0, gn1, gn2, gn3, gn4, gn5, gp0, gno, gpo] <;> first | rfl | assumption)) (by first | rfl | assumption)) ?_
  refine OkO.builtin rfl rfl rfl (bln (by kernel_rfl) (by first | assumption | rfl)) ?_
  refine OkO.move rfl rfl ?_
  refine OkO.nil ?_
  refine Ok.block ?_
  refine Ok.loop (fun n s => ∃ (i : Nat) (v9 : AV), n = cs.length - i ∧ i ≤ cs.length ∧ Mine (W.next + 4) s.H v9 3 1 ((leftP cs bef down (down * t.soak / 1000) i).map I) ∧ Has 7 [(2, I down), (3, .ptr W.next 0), (4, .ptr (W.next + 1) 0), (6, .ptr (W.next + 2) 0), (7, I (down * t.soak / 1000)), (8, .ptr (W.next + 3) 0), (9, v9), (25, cv), (26, I cs.length), (27, I (i : Int))] s.T ∧ s.D = [] ∧ Grow W s.H ∧ s.H.get W.next = some (.cells [cv, I g.slo, I g.shi, I g.klo, I g.khi, I g.melt, dv, I t.snow, I t.soak, lv, rv] 110) ∧ s.H.get (W.next + 1) = some (.cells (bef.map I) 113) ∧ s.H.get (W.next + 2) = some (.cells [I 0, I 0, I 0, I 0, I 0, I 0, I 0, I 0, I 0, I 0] 115) ∧ s.H.get (W.next + 3) = some (.cells ((aftP cs bef (down * t.soak / 1000) i).map I) 113) ∧ W.next + 4 ≤ s.H.next) (cs.length) (by unfold loopFuel; omega)
    ⟨0, .nils, rfl, Nat.zero_le _, Mine.nil _ _ _ _, Has.of (by kernel_rfl), rfl, (by (try dsimp only); repeat (first | exact hG | apply Grow.new | (refine Grow.put ?_ _ (by first | omega | (simp only [hNw, hPt]; omega))))), (by simp (disch := first | omega | (simp only [hNw, hPt]; omega)) only [gn0, gn1, gn2, gn3, gn4, gn5, gp0, gno, gpo] <;> first | rfl | assumption), (by simp (disch := first | omega | (simp only [hNw, hPt]; omega)) only [gn0, gn1, gn2, gn3, gn4, gn5, gp0, gno, gpo] <;> first | rfl | assumption), (by simp (disch := first | omega | (simp only [hNw, hPt]; omega)) only [gn0, gn1, gn2, gn3, gn4, gn5, gp0, gno, gpo] <;> first | rfl | assumption), (by simp (disch := first | omega | (simp only [hNw, hPt]; omega)) only [gn0, gn1, gn2, gn3, gn4, gn5, gp0, gno, gpo] <;> first | rfl | assumption), by simp only [hNw, hPt]; omega⟩ ?_
  rintro n ⟨T, D, G⟩ ⟨i, v9, hn, hi, hm, ⟨f, hT⟩, hD, hg, f0G, f1G, f2G, f3G, hb4⟩
  dsimp only at *
  subst hT hD
  have hgn := hg.next
  have e0G : (G.get (W.next)).bind AObj.cs = some [cv, I g.slo, I g.shi, I g.klo, I g.khi, I g.melt, dv, I t.snow, I t.soak, lv, rv] := by rw [f0G]; rfl
  have e1G : (G.get (W.next + 1)).bind AObj.cs = some (bef.map I) := by rw [f1G]; rfl
  have e2G : (G.get (W.next + 2)).bind AObj.cs = some [I 0, I 0, I 0, I 0, I 0, I 0, I 0, I 0, I 0, I 0] := by rw [f2G]; rfl
  have e3G : (G.get (W.next + 3)).bind AObj.cs = some ((aftP cs bef (down * t.soak / 1000) i).map I) := by rw [f3G]; rfl
  refine Ok.seq ?_
  refine Ok.region ?_
  refine OkO.bin rfl rfl rfl (bin_lss _ _) ?_
  refine OkO.nil ?_
  refine Ok.seq ?_
  refine Ok.cond rfl (fun h1 => ?_) (fun h1 => ?_)
  · -- yes h1
    have hlt : i < cs.length := by simpa using h1
    have hx0 : cs.getD i default = cs[i] := by simp [hlt]
    obtain ⟨bb, off, ccs, i1, i2, i3, i4⟩ := (hR.ext (hE _ hg)).at_ i cs[i].c (by simp [hlt])
    have hne : bb ≠ G.next := by omega
    have hxl : cs[i].lim := hc _ (List.getElem_mem hlt)
    have hbi := hb.getD (by omega) i
    have hgb := give_bd hxl hbi
    have hab := aft_bd (so := (down * t.soak / 1000)) hc hb (by omega) i (by omega)
    have halen := aft_len cs bef (down * t.soak / 1000) i
    have hlb := left_bd hc hb hdw hso i (by omega)
    have hai := hab.getD (by omega) i
    have hti := hab.getD (by omega) cs[i].to.toNat
    have p1 := arr_get bef i (by omega)
    have p2 := arr_get (aftP cs bef (down * t.soak / 1000) i) i (by omega)
    have i8 : i < (aftP cs bef (down * t.soak / 1000) i).length := by omega
    have hmlb := hlb.2
    refine Ok.skip ?_
    refine Ok.seq ?_
    refine Ok.block ?_
    refine Ok.seq ?_
    refine Ok.region ?_
    refine OkO.move rfl rfl ?_
    refine OkO.index (sz := 7) (n := i) rfl rfl rfl (by kernel_rfl) (by first | assumption | rfl | exact slAt_slice (by omega)) ?_ -- index ('Go.Operand.tmp', 25) ('Go.Operand.tmp', 27)
    refine OkO.load rfl rfl (ldg (n := 7) (by kernel_rfl) (by first | assumption | (simp (disch := first | omega | (simp only [hNw, hPt]; omega)) only [gn0, gn1, gn2, gn3, gn4, gn5, gp0, gno, gpo] <;> first | rfl | assumption)) (by first | rfl | assumption)) ?_
    refine OkO.alloc (z := [.int .i64 0, .int .i64 0, .int .i64 0, .int .i64 0, .int .i64 0, .int .i64 0, .int .i64 0]) rfl (by kernel_rfl) ?_
    refine OkO.assign rfl rfl ?_
    refine OkO.store rfl rfl rfl (stc (n := 7) (ag := true) (by kernel_rfl) (by first | assumption | (simp (disch := first | omega | (simp only [hNw, hPt]; omega)) only [gn0, gn1, gn2, gn3, gn4, gn5, gp0, gno, gpo] <;> first | rfl | assumption)) rfl rfl (by first | rfl | exact spl_set _ _ _ (by first | assumption | (simp; omega)))) ?_
    refine OkO.nil ?_
    refine Ok.seq ?_
    refine Ok.drawn [(0, true, []), (1, true, []), (2, true, []), (3, true, []), (4, false, []), (5, true, []), (6, true, []), (7, true, []), (8, true, []), (9, true, [])] (by kernel_rfl) ?_
    refine OkP.step ?_
    refine OkO.load rfl rfl (ldg (n := 7) (by kernel_rfl) (by first | assumption | (simp (disch := first | omega | (simp only [hNw, hPt]; omega)) only [gn0, gn1, gn2, gn3, gn4, gn5, gp0, gno, gpo] <;> first | rfl | assumption)) (by first | rfl | assumption)) ?_
    refine OkO.nil ⟨rfl, ?_⟩
    refine OkP.step ?_
    refine OkO.move rfl rfl ?_
    refine OkO.nil ⟨rfl, ?_⟩
    refine OkP.step ?_
    refine OkO.indexArr (len := 8) (sz := 1) (n := i) rfl rfl rfl (by kernel_rfl) (by omega) ?_
    refine OkO.nil ⟨rfl, ?_⟩
    refine OkP.step ?_
    refine OkO.load rfl rfl (lda (n := 1) (by kernel_rfl) (by first | assumption | (simp (disch := first | omega | (simp only [hNw, hPt]; omega)) only [gn0, gn1, gn2, gn3, gn4, gn5, gp0, gno, gpo] <;> first | rfl | assumption)) (by first | rfl | assumption)) ?_
    refine OkO.nil ⟨rfl, ?_⟩
    refine OkP.step ?_
    refine OkO.callV rfl rfl rfl rfl rfl (c104 _ cs[i] (bef.getD i 0) _ hxl hbi) ?_ -- "(sackung/water.Cell).gives"
    refine OkO.nil ⟨rfl, ?_⟩
    refine OkP.step ?_
    refine OkO.move rfl rfl ?_
    refine OkO.nil ⟨rfl, ?_⟩
    refine OkP.step ?_
    refine OkO.extract rfl rfl rfl ?_
    refine OkO.nil ⟨rfl, ?_⟩
    refine OkP.step ?_
    refine OkO.extract rfl rfl rfl ?_
    refine OkO.nil ⟨rfl, ?_⟩
    refine OkP.step ?_
    refine OkO.assign rfl rfl ?_
    refine OkO.nil ⟨rfl, ?_⟩
    refine OkP.step ?_
    refine OkO.assign rfl rfl ?_
    refine OkO.nil ⟨rfl, ?_⟩
    refine OkP.nil ?_
    refine Ok.seq ?_
    refine Ok.region ?_
    refine OkO.move rfl rfl ?_
    refine OkO.move rfl rfl ?_
    refine OkO.move rfl rfl ?_
    refine OkO.bin rfl rfl rfl (bin_sub (by omega) (by omega)) ?_
    refine OkO.move rfl rfl ?_
    refine OkO.buildSlice (el := 3) (sz := 1) (z := [.int .i64 0]) rfl (by kernel_rfl) (by decide) rfl rfl ?_
    refine OkO.builtinE rfl rfl rfl (Mine.app2 (k0 := W.next + 4) (sz := 1) (by_ := 8) (e := 3) (n := 2) (new := [I (down - (down * t.soak / 1000)), I (pumpd cs[i] (bef.getD i 0))]) (hm.to (by (try dsimp only); repeat (first | exact Ext.refl _ | assumption | apply Ext.new | (refine Ext.put ?_ _ (by first | omega | (simp only [hNw, hPt]; omega)))))) (by (try dsimp only); repeat (first | (first | exact hg | exact hG) | apply Grow.new | (refine Grow.put ?_ _ (by first | omega | (simp only [hNw, hPt]; omega))))) (by omega) (by first | omega | (simp only [hNw, hPt]; omega)) (by kernel_rfl) (by kernel_rfl) (elems_new (n := 2) (sz := 1) rfl) rfl rfl (by simp only [List.length_append, List.length_map, List.length_cons, List.length_nil]; omega) (by omega) (by omega) rfl) ?_
    rintro vP1 P1 ⟨q1P1, q2P1, q3P1, q4P1, q5P1, q6P1⟩
    have hnP1 : G.next + 1 ≤ P1.next := by have := q3P1.next; simp only [hNw, hPt] at this; omega
    have f0P1 : P1.get (W.next) = some (.cells [cv, I g.slo, I g.shi, I g.klo, I g.khi, I g.melt, dv, I t.snow, I t.soak, lv, rv] 110) := by rw [q3P1.get _ (by omega) (by first | omega | (simp only [hNw, hPt]; omega))]; first | exact f0G | (simp (disch := first | omega | (simp only [hNw, hPt]; omega)) only [gn0, gn1, gn2, gn3, gn4, gn5, gp0, gno, gpo] <;> first | rfl | assumption)
    have e0P1 : (P1.get (W.next)).bind AObj.cs = some [cv, I g.slo, I g.shi, I g.klo, I g.khi, I g.melt, dv, I t.snow, I t.soak, lv, rv] := by rw [f0P1]; rfl
    have f1P1 : P1.get (W.next + 1) = some (.cells (bef.map I) 113) := by rw [q3P1.get _ (by omega) (by first | omega | (simp only [hNw, hPt]; omega))]; first | exact f1G | (simp (disch := first | omega | (simp only [hNw, hPt]; omega)) only [gn0, gn1, gn2, gn3, gn4, gn5, gp0, gno, gpo] <;> first | rfl | assumption)
    have e1P1 : (P1.get (W.next + 1)).bind AObj.cs = some (bef.map I) := by rw [f1P1]; rfl
    have f2P1 : P1.get (W.next + 2) = some (.cells [I 0, I 0, I 0, I 0, I 0, I 0, I 0, I 0, I 0, I 0] 115) := by rw [q3P1.get _ (by omega) (by first | omega | (simp only [hNw, hPt]; omega))]; first | exact f2G | (simp (disch := first | omega | (simp only [hNw, hPt]; omega)) only [gn0, gn1, gn2, gn3, gn4, gn5, gp0, gno, gpo] <;> first | rfl | assumption)
    have e2P1 : (P1.get (W.next + 2)).bind AObj.cs = some [I 0, I 0, I 0, I 0, I 0, I 0, I 0, I 0, I 0, I 0] := by rw [f2P1]; rfl
    have f3P1 : P1.get (W.next + 3) = some (.cells ((aftP cs bef (down * t.soak / 1000) i).map I) 113) := by rw [q3P1.get _ (by omega) (by first | omega | (simp only [hNw, hPt]; omega))]; first | exact f3G | (simp (disch := first | omega | (simp only [hNw, hPt]; omega)) only [gn0, gn1, gn2, gn3, gn4, gn5, gp0, gno, gpo] <;> first | rfl | assumption)
    have e3P1 : (P1.get (W.next + 3)).bind AObj.cs = some ((aftP cs bef (down * t.soak / 1000) i).map I) := by rw [f3P1]; rfl
    have f4P1 : P1.get G.next = some (.cells (cs[i]).c 80) := by rw [q4P1 _ (by first | omega | (simp only [hNw, hPt]; omega)) (by rintro m rfl; rcases hm with ⟨h, _⟩ | ⟨b, k, h, _, _, _, h6⟩ <;> cases h; omega)]; first | assumption | (simp (disch := first | omega | (simp only [hNw, hPt]; omega)) only [gn0, gn1, gn2, gn3, gn4, gn5, gp0, gno, gpo] <;> first | rfl | assumption)
    have e4P1 : (P1.get G.next).bind AObj.cs = some (cs[i]).c := by rw [f4P1]; rfl
    refine OkO.assign rfl rfl ?_
    refine OkO.nil ?_
    refine Ok.seq ?_
    refine Ok.seq ?_
    refine Ok.region ?_
    refine OkO.fieldAddr (o := 5) rfl (by kernel_rfl) rfl ?_
    refine OkO.load rfl rfl (lda (n := 1) (by kernel_rfl) (by first | assumption | (simp (disch := first | omega | (simp only [hNw, hPt]; omega)) only [gn0, gn1, gn2, gn3, gn4, gn5, gp0, gno, gpo] <;> first | rfl | assumption)) (by first | rfl | assumption)) ?_
    refine OkO.bin rfl rfl rfl (bin_eql _ _) ?_
    refine OkO.nil ?_
    refine Ok.cond rfl (fun h2 => ?_) (fun h2 => ?_)
    · -- yes h2
      have hto : cs[i].to = -1 := by simpa using h2
      refine Ok.region ?_
      refine OkO.move rfl rfl ?_
      refine OkO.move rfl rfl ?_
      refine OkO.buildSlice (el := 3) (sz := 1) (z := [.int .i64 0]) rfl (by kernel_rfl) (by decide) rfl rfl ?_
      refine OkO.builtinE rfl rfl rfl (Mine.app2 (k0 := W.next + 4) (sz := 1) (by_ := 8) (e := 3) (n := 1) (new := [I (passd cs[i] (bef.getD i 0))]) (q1P1.to (by (try dsimp only); repeat (first | exact Ext.refl _ | assumption | apply Ext.new | (refine Ext.put ?_ _ (by first | omega | (simp only [hNw, hPt]; omega)))))) (by (try dsimp only); repeat (first | exact q2P1 | exact hg | exact hG | apply Grow.new | (refine Grow.put ?_ _ (by first | omega | (simp only [hNw, hPt]; omega))))) (by omega) (by first | omega | (simp only [hNw, hPt]; omega)) (by kernel_rfl) (by kernel_rfl) (elems_new (n := 1) (sz := 1) rfl) rfl rfl (by simp only [List.length_append, List.length_map, List.length_cons, List.length_nil]; omega) (by omega) (by omega) rfl) ?_
      rintro vP2 P2 ⟨q1P2, q2P2, q3P2, q4P2, q5P2, q6P2⟩
      have hnP2 : G.next + 1 ≤ P2.next := by have := q3P2.next; simp only [hNw, hPt] at this; omega
      have f0P2 : P2.get (W.next) = some (.cells [cv, I g.slo, I g.shi, I g.klo, I g.khi, I g.melt, dv, I t.snow, I t.soak, lv, rv] 110) := by rw [q3P2.get _ (by omega) (by first | omega | (simp only [hNw, hPt]; omega))]; first | exact f0P1 | (simp (disch := first | omega | (simp only [hNw, hPt]; omega)) only [gn0, gn1, gn2, gn3, gn4, gn5, gp0, gno, gpo] <;> first | rfl | assumption)
      have e0P2 : (P2.get (W.next)).bind AObj.cs = some [cv, I g.slo, I g.shi, I g.klo, I g.khi, I g.melt, dv, I t.snow, I t.soak, lv, rv] := by rw [f0P2]; rfl
      have f1P2 : P2.get (W.next + 1) = some (.cells (bef.map I) 113) := by rw [q3P2.get _ (by omega) (by first | omega | (simp only [hNw, hPt]; omega))]; first | exact f1P1 | (simp (disch := first | omega | (simp only [hNw, hPt]; omega)) only [gn0, gn1, gn2, gn3, gn4, gn5, gp0, gno, gpo] <;> first | rfl | assumption)
      have e1P2 : (P2.get (W.next + 1)).bind AObj.cs = some (bef.map I) := by rw [f1P2]; rfl
      have f2P2 : P2.get (W.next + 2) = some (.cells [I 0, I 0, I 0, I 0, I 0, I 0, I 0, I 0, I 0, I 0] 115) := by rw [q3P2.get _ (by omega) (by first | omega | (simp only [hNw, hPt]; omega))]; first | exact f2P1 | (simp (disch := first | omega | (simp only [hNw, hPt]; omega)) only [gn0, gn1, gn2, gn3, gn4, gn5, gp0, gno, gpo] <;> first | rfl | assumption)
      have e2P2 : (P2.get (W.next + 2)).bind AObj.cs = some [I 0, I 0, I 0, I 0, I 0, I 0, I 0, I 0, I 0, I 0] := by rw [f2P2]; rfl
      have f3P2 : P2.get (W.next + 3) = some (.cells ((aftP cs bef (down * t.soak / 1000) i).map I) 113) := by rw [q3P2.get _ (by omega) (by first | omega | (simp only [hNw, hPt]; omega))]; first | exact f3P1 | (simp (disch := first | omega | (simp only [hNw, hPt]; omega)) only [gn0, gn1, gn2, gn3, gn4, gn5, gp0, gno, gpo] <;> first | rfl | assumption)
      have e3P2 : (P2.get (W.next + 3)).bind AObj.cs = some ((aftP cs bef (down * t.soak / 1000) i).map I) := by rw [f3P2]; rfl
      have f4P2 : P2.get G.next = some (.cells (cs[i]).c 80) := by rw [q4P2 _ (by first | omega | (simp only [hNw, hPt]; omega)) (by rintro m rfl; obtain ⟨w, hw⟩ := q6P1; simp only [AV.opn.injEq, hNw, hPt] at hw; omega)]; first | assumption | (simp (disch := first | omega | (simp only [hNw, hPt]; omega)) only [gn0, gn1, gn2, gn3, gn4, gn5, gp0, gno, gpo] <;> first | rfl | assumption)
      have e4P2 : (P2.get G.next).bind AObj.cs = some (cs[i]).c := by rw [f4P2]; rfl
      refine OkO.assign rfl rfl ?_
      refine OkO.nil ?_
      refine Ok.drawn [(0, true, []), (1, true, []), (2, true, []), (3, true, []), (4, true, []), (5, true, []), (6, true, []), (7, true, []), (8, true, []), (9, true, []), (10, true, []), (11, true, []), (12, true, []), (13, true, []), (14, false, [])] (by kernel_rfl) ?_
      refine OkP.step ?_
      refine OkO.move rfl rfl ?_
      refine OkO.nil ⟨rfl, ?_⟩
      refine OkP.step ?_
      refine OkO.indexArr (len := 8) (sz := 1) (n := i) rfl rfl rfl (by kernel_rfl) (by omega) ?_
      refine OkO.nil ⟨rfl, ?_⟩
      refine OkP.step ?_
      refine OkO.load rfl rfl (lda (n := 1) (by kernel_rfl) (by first | assumption | (simp (disch := first | omega | (simp only [hNw, hPt]; omega)) only [gn0, gn1, gn2, gn3, gn4, gn5, gp0, gno, gpo] <;> first | rfl | assumption)) (by first | rfl | assumption)) ?_
      refine OkO.nil ⟨rfl, ?_⟩
      refine OkP.step ?_
      refine OkO.move rfl rfl ?_
      refine OkO.nil ⟨rfl, ?_⟩
      refine OkP.step ?_
      refine OkO.indexArr (len := 8) (sz := 1) (n := i) rfl rfl rfl (by kernel_rfl) (by omega) ?_
      refine OkO.nil ⟨rfl, ?_⟩
      refine OkP.step ?_
      refine OkO.load rfl rfl (lda (n := 1) (by kernel_rfl) (by first | assumption | (simp (disch := first | omega | (simp only [hNw, hPt]; omega)) only [gn0, gn1, gn2, gn3, gn4, gn5, gp0, gno, gpo] <;> first | rfl | assumption)) (by first | rfl | assumption)) ?_
      refine OkO.nil ⟨rfl, ?_⟩
      refine OkP.step ?_
      refine OkO.move rfl rfl ?_
      refine OkO.nil ⟨rfl, ?_⟩
      refine OkP.step ?_
      refine OkO.bin rfl rfl rfl (bin_sub (by omega) (by omega)) ?_
      refine OkO.nil ⟨rfl, ?_⟩
      refine OkP.step ?_
      refine OkO.move rfl rfl ?_
      refine OkO.nil ⟨rfl, ?_⟩
      refine OkP.step ?_
      refine OkO.bin rfl rfl rfl (bin_sub (by omega) (by omega)) ?_
      refine OkO.nil ⟨rfl, ?_⟩
      refine OkP.step ?_
      refine OkO.move rfl rfl ?_
      refine OkO.nil ⟨rfl, ?_⟩
      refine OkP.step ?_
      refine OkO.bin rfl rfl rfl (bin_add (by omega) (by omega)) ?_
      refine OkO.nil ⟨rfl, ?_⟩
      refine OkP.step ?_
      refine OkO.bin rfl rfl rfl (bin_add (by omega) (by omega)) ?_
      refine OkO.nil ⟨rfl, ?_⟩
      refine OkP.step ?_
      refine OkO.indexArr (len := 8) (sz := 1) (n := i) rfl rfl rfl (by kernel_rfl) (by omega) ?_
      refine OkO.nil ⟨rfl, ?_⟩
      refine OkP.step ?_
      refine OkO.store rfl rfl rfl (stc (n := 1) (ag := false) (by kernel_rfl) (by first | assumption | (simp (disch := first | omega | (simp only [hNw, hPt]; omega)) only [gn0, gn1, gn2, gn3, gn4, gn5, gp0, gno, gpo] <;> first | rfl | assumption)) rfl rfl (by first | rfl | exact spl_set _ _ _ (by first | assumption | (simp; omega)))) ?_
      refine OkO.nil ⟨rfl, ?_⟩
      refine OkP.nil ?_
      refine Ok.region ?_
      refine OkO.bin rfl rfl rfl (bin_add (by omega) (by omega)) ?_
      refine OkO.move rfl rfl ?_
      refine OkO.nil ?_
      refine ⟨cs.length - (i + 1), by omega, i + 1, vP2, rfl, hlt, ?_, Has.of (by kernel_rfl), rfl, (by (try dsimp only); repeat (first | exact q2P2 | exact q2P1 | exact hg | exact hG | apply Grow.new | (refine Grow.put ?_ _ (by first | omega | (simp only [hNw, hPt]; omega))))), (by first | assumption | (simp (disch := first | omega | (simp only [hNw, hPt]; omega)) only [gn0, gn1, gn2, gn3, gn4, gn5, gp0, gno, gpo] <;> first | rfl | assumption)), (by first | assumption | (simp (disch := first | omega | (simp only [hNw, hPt]; omega)) only [gn0, gn1, gn2, gn3, gn4, gn5, gp0, gno, gpo] <;> first | rfl | assumption)), (by first | assumption | (simp (disch := first | omega | (simp only [hNw, hPt]; omega)) only [gn0, gn1, gn2, gn3, gn4, gn5, gp0, gno, gpo] <;> first | rfl | assumption)), ?_, by first | omega | (simp only [hNw, hPt]; omega)⟩
      · have hL : leftP cs bef down (down * t.soak / 1000) (i + 1) = (leftP cs bef down (down * t.soak / 1000) i ++ [down - (down * t.soak / 1000), pumpd cs[i] (bef.getD i 0)]) ++ [passd cs[i] (bef.getD i 0)] := by rw [leftP, hx0]; simp [hto]
        rw [hL]; exact (by have q := q1P2; simp only [List.map_append, List.map_cons, List.map_nil] at q ⊢; (try dsimp only); (repeat (refine Mine.put ?_ _ (by omega))); exact q)
      · have hA : aftP cs bef (down * t.soak / 1000) (i + 1) = (aftP cs bef (down * t.soak / 1000) i).set i ((aftP cs bef (down * t.soak / 1000) i).getD i 0 + (bef.getD i 0 - pumpd cs[i] (bef.getD i 0) - passd cs[i] (bef.getD i 0) + (down * t.soak / 1000))) := by rw [aftP, hx0, stepA, if_pos hto]
        rw [hA]; first | assumption | (simp (disch := first | omega | (simp only [hNw, hPt]; omega)) only [gn0, gn1, gn2, gn3, gn4, gn5, gp0, gno, gpo] <;> first | rfl | assumption)
    · -- no h2
      have hnt : ¬cs[i].to = -1 := by simpa using h2
      have hto2 := (toOk_iff _ _ _).1 hto0 i cs[i] (List.getElem?_eq_getElem hlt)
      have hto3 : cs[i].to = ((cs[i].to.toNat : Nat) : Int) := by (have h4 := hto2.1; simp [inB] at h4; omega)
      have hto4 : cs[i].to.toNat < 8 := by (have h4 := hto2.1; simp [inB] at h4; omega)
      have t8 : cs[i].to.toNat < (aftP cs bef (down * t.soak / 1000) i).length := by omega
      have p3 := arr_get (aftP cs bef (down * t.soak / 1000) i) cs[i].to.toNat t8
      have i9 : i < (((aftP cs bef (down * t.soak / 1000) i).set cs[i].to.toNat ((aftP cs bef (down * t.soak / 1000) i).getD cs[i].to.toNat 0 + passd cs[i] (bef.getD i 0)))).length := by rw [List.length_set]; omega
      have p4 := arr_get ((aftP cs bef (down * t.soak / 1000) i).set cs[i].to.toNat ((aftP cs bef (down * t.soak / 1000) i).getD cs[i].to.toNat 0 + passd cs[i] (bef.getD i 0))) i i9
      have hb9 := ((hab.mono (show (300000 : Int) * i ≤ 300000 * i + 100000 by omega)).set (z := (aftP cs bef (down * t.soak / 1000) i).getD cs[i].to.toNat 0 + passd cs[i] (bef.getD i 0)) (by omega) cs[i].to.toNat).getD (by omega) i
      refine Ok.region ?_
      refine OkO.fieldAddr (o := 5) rfl (by kernel_rfl) rfl ?_
      refine OkO.load rfl rfl (lda (n := 1) (by kernel_rfl) (by first | assumption | (simp (disch := first | omega | (simp only [hNw, hPt]; omega)) only [gn0, gn1, gn2, gn3, gn4, gn5, gp0, gno, gpo] <;> first | rfl | assumption)) (by first | rfl | assumption)) ?_
      refine OkO.indexArr (len := 8) (sz := 1) (n := cs[i].to.toNat) rfl rfl (congrArg (fun z => some (I z)) hto3) (by kernel_rfl) (by omega) ?_
      refine OkO.load rfl rfl (lda (n := 1) (by kernel_rfl) (by first | assumption | (simp (disch := first | omega | (simp only [hNw, hPt]; omega)) only [gn0, gn1, gn2, gn3, gn4, gn5, gp0, gno, gpo] <;> first | rfl | assumption)) (by first | rfl | assumption)) ?_
      refine OkO.move rfl rfl ?_
      refine OkO.bin rfl rfl rfl (bin_add (by omega) (by omega)) ?_
      refine OkO.indexArr (len := 8) (sz := 1) (n := cs[i].to.toNat) rfl rfl (congrArg (fun z => some (I z)) hto3) (by kernel_rfl) (by omega) ?_
      refine OkO.store rfl rfl rfl (stc (n := 1) (ag := false) (by kernel_rfl) (by first | assumption | (simp (disch := first | omega | (simp only [hNw, hPt]; omega)) only [gn0, gn1, gn2, gn3, gn4, gn5, gp0, gno, gpo] <;> first | rfl | assumption)) rfl rfl (by first | rfl | exact spl_set _ _ _ (by first | assumption | (simp; omega)))) ?_
      refine OkO.nil ?_
      refine Ok.drawn [(0, true, []), (1, true, []), (2, true, []), (3, true, []), (4, true, []), (5, true, []), (6, true, []), (7, true, []), (8, true, []), (9, true, []), (10, true, []), (11, true, []), (12, true, []), (13, true, []), (14, false, [])] (by kernel_rfl) ?_
      refine OkP.step ?_
      refine OkO.move rfl rfl ?_
      refine OkO.nil ⟨rfl, ?_⟩
      refine OkP.step ?_
      refine OkO.indexArr (len := 8) (sz := 1) (n := i) rfl rfl rfl (by kernel_rfl) (by omega) ?_
      refine OkO.nil ⟨rfl, ?_⟩
      refine OkP.step ?_
      refine OkO.load rfl rfl (lda (n := 1) (by kernel_rfl) (by first | assumption | (simp (disch := first | omega | (simp only [hNw, hPt]; omega)) only [gn0, gn1, gn2, gn3, gn4, gn5, gp0, gno, gpo] <;> first | rfl | assumption)) (by first | rfl | assumption)) ?_
      refine OkO.nil ⟨rfl, ?_⟩
      refine OkP.step ?_
      refine OkO.move rfl rfl ?_
      refine OkO.nil ⟨rfl, ?_⟩
      refine OkP.step ?_
      refine OkO.indexArr (len := 8) (sz := 1) (n := i) rfl rfl rfl (by kernel_rfl) (by omega) ?_
      refine OkO.nil ⟨rfl, ?_⟩
      refine OkP.step ?_
      refine OkO.load rfl rfl (lda (n := 1) (by kernel_rfl) (by first | assumption | (simp (disch := first | omega | (simp only [hNw, hPt]; omega)) only [gn0, gn1, gn2, gn3, gn4, gn5, gp0, gno, gpo] <;> first | rfl | assumption)) (by first | rfl | assumption)) ?_
      refine OkO.nil ⟨rfl, ?_⟩
      refine OkP.step ?_
      refine OkO.move rfl rfl ?_
      refine OkO.nil ⟨rfl, ?_⟩
      refine OkP.step ?_
      refine OkO.bin rfl rfl rfl (bin_sub (by omega) (by omega)) ?_
      refine OkO.nil ⟨rfl, ?_⟩
      refine OkP.step ?_
      refine OkO.move rfl rfl ?_
      refine OkO.nil ⟨rfl, ?_⟩
      refine OkP.step ?_
      refine OkO.bin rfl rfl rfl (bin_sub (by omega) (by omega)) ?_
      refine OkO.nil ⟨rfl, ?_⟩
      refine OkP.step ?_
      refine OkO.move rfl rfl ?_
      refine OkO.nil ⟨rfl, ?_⟩
      refine OkP.step ?_
      refine OkO.bin rfl rfl rfl (bin_add (by omega) (by omega)) ?_
      refine OkO.nil ⟨rfl, ?_⟩
      refine OkP.step ?_
      refine OkO.bin rfl rfl rfl (bin_add (by omega) (by omega)) ?_
      refine OkO.nil ⟨rfl, ?_⟩
      refine OkP.step ?_
      refine OkO.indexArr (len := 8) (sz := 1) (n := i) rfl rfl rfl (by kernel_rfl) (by omega) ?_
      refine OkO.nil ⟨rfl, ?_⟩
      refine OkP.step ?_
      refine OkO.store rfl rfl rfl (stc (n := 1) (ag := false) (by kernel_rfl) (by first | assumption | (simp (disch := first | omega | (simp only [hNw, hPt]; omega)) only [gn0, gn1, gn2, gn3, gn4, gn5, gp0, gno, gpo] <;> first | rfl | assumption)) rfl rfl (by first | rfl | exact spl_set _ _ _ (by first | assumption | (simp; omega)))) ?_
      refine OkO.nil ⟨rfl, ?_⟩
      refine OkP.nil ?_
      refine Ok.region ?_
      refine OkO.bin rfl rfl rfl (bin_add (by omega) (by omega)) ?_
      refine OkO.move rfl rfl ?_
      refine OkO.nil ?_
      refine ⟨cs.length - (i + 1), by omega, i + 1, vP1, rfl, hlt, ?_, Has.of (by kernel_rfl), rfl, (by (try dsimp only); repeat (first | exact q2P1 | exact hg | exact hG | apply Grow.new | (refine Grow.put ?_ _ (by first | omega | (simp only [hNw, hPt]; omega))))), (by first | assumption | (simp (disch := first | omega | (simp only [hNw, hPt]; omega)) only [gn0, gn1, gn2, gn3, gn4, gn5, gp0, gno, gpo] <;> first | rfl | assumption)), (by first | assumption | (simp (disch := first | omega | (simp only [hNw, hPt]; omega)) only [gn0, gn1, gn2, gn3, gn4, gn5, gp0, gno, gpo] <;> first | rfl | assumption)), (by first | assumption | (simp (disch := first | omega | (simp only [hNw, hPt]; omega)) only [gn0, gn1, gn2, gn3, gn4, gn5, gp0, gno, gpo] <;> first | rfl | assumption)), ?_, by first | omega | (simp only [hNw, hPt]; omega)⟩
      · have hL : leftP cs bef down (down * t.soak / 1000) (i + 1) = leftP cs bef down (down * t.soak / 1000) i ++ [down - (down * t.soak / 1000), pumpd cs[i] (bef.getD i 0)] := by rw [leftP, hx0]; simp [hnt]
        rw [hL]; exact (by have q := q1P1; simp only [List.map_append, List.map_cons, List.map_nil] at q ⊢; (try dsimp only); (repeat (refine Mine.put ?_ _ (by omega))); exact q)
      · have hA : aftP cs bef (down * t.soak / 1000) (i + 1) = ((aftP cs bef (down * t.soak / 1000) i).set cs[i].to.toNat ((aftP cs bef (down * t.soak / 1000) i).getD cs[i].to.toNat 0 + passd cs[i] (bef.getD i 0))).set i (((aftP cs bef (down * t.soak / 1000) i).set cs[i].to.toNat ((aftP cs bef (down * t.soak / 1000) i).getD cs[i].to.toNat 0 + passd cs[i] (bef.getD i 0))).getD i 0 + (bef.getD i 0 - pumpd cs[i] (bef.getD i 0) - passd cs[i] (bef.getD i 0) + (down * t.soak / 1000))) := by rw [aftP, hx0, stepA, if_neg hnt]
        rw [hA]; first | assumption | (simp (disch := first | omega | (simp only [hNw, hPt]; omega)) only [gn0, gn1, gn2, gn3, gn4, gn5, gp0, gno, gpo] <;> first | rfl | assumption)
  · -- no h1
    have hge : i = cs.length := by simp at h1; omega
    subst hge
    have haB := aft_bd (so := (down * t.soak / 1000)) hc hb (by omega) cs.length (Nat.le_refl _)
    have hlB := left_bd hc hb hdw hso cs.length (Nat.le_refl _)
    have halen := aft_len cs bef (down * t.soak / 1000) cs.length
    have F3 := f3G
    refine Ok.exit ?_
    refine Ok.seq ?_
    refine Ok.seq ?_
    refine Ok.region ?_
    refine OkO.fieldAddr (o := 0) rfl (by kernel_rfl) rfl ?_
    refine OkO.fieldAddr (o := 0) rfl (by kernel_rfl) rfl ?_
    refine OkO.load rfl rfl (lda (n := 1) (by kernel_rfl) (by first | assumption | (simp (disch := first | omega | (simp only [hNw, hPt]; omega)) only [gn0, gn1, gn2, gn3, gn4, gn5, gp0, gno, gpo] <;> first | rfl | assumption)) (by first | rfl | assumption)) ?_
    refine OkO.builtin rfl rfl rfl (bln (by kernel_rfl) (by first | assumption | rfl)) ?_
    refine OkO.move rfl rfl ?_
    refine OkO.nil ?_
    refine Ok.block ?_
    refine Ok.loop (fun n s => ∃ (i : Nat) (v9 : AV), n = cs.length - i ∧ i ≤ cs.length ∧ Mine (W.next + 4) s.H v9 3 1 ((overP cs (aftP cs bef (down * t.soak / 1000) cs.length) (leftP cs bef down (down * t.soak / 1000) cs.length) i).map I) ∧ Has 7 [(3, .ptr W.next 0), (4, .ptr (W.next + 1) 0), (6, .ptr (W.next + 2) 0), (8, .ptr (W.next + 3) 0), (9, v9), (78, cv), (79, I cs.length), (80, I (i : Int))] s.T ∧ s.D = [] ∧ Grow W s.H ∧ s.H.get W.next = some (.cells [cv, I g.slo, I g.shi, I g.klo, I g.khi, I g.melt, dv, I t.snow, I t.soak, lv, rv] 110) ∧ s.H.get (W.next + 1) = some (.cells (bef.map I) 113) ∧ s.H.get (W.next + 2) = some (.cells [I 0, I 0, I 0, I 0, I 0, I 0, I 0, I 0, I 0, I 0] 115) ∧ s.H.get (W.next + 3) = some (.cells ((cutP cs (aftP cs bef (down * t.soak / 1000) cs.length) i).map I) 113) ∧ W.next + 4 ≤ s.H.next) (cs.length) (by unfold loopFuel; omega)
      ⟨0, v9, rfl, Nat.zero_le _, hm, Has.of (by kernel_rfl), rfl, hg, f0G, f1G, f2G, f3G, hb4⟩ ?_
    rintro n ⟨T, D, G⟩ ⟨i, v9, hn, hi, hm, ⟨f, hT⟩, hD, hg, f0G, f1G, f2G, f3G, hb4⟩
    dsimp only at *
    subst hT hD
    have hgn := hg.next
    have e0G : (G.get (W.next)).bind AObj.cs = some [cv, I g.slo, I g.shi, I g.klo, I g.khi, I g.melt, dv, I t.snow, I t.soak, lv, rv] := by rw [f0G]; rfl
    have e1G : (G.get (W.next + 1)).bind AObj.cs = some (bef.map I) := by rw [f1G]; rfl
    have e2G : (G.get (W.next + 2)).bind AObj.cs = some [I 0, I 0, I 0, I 0, I 0, I 0, I 0, I 0, I 0, I 0] := by rw [f2G]; rfl
    have e3G : (G.get (W.next + 3)).bind AObj.cs = some ((cutP cs (aftP cs bef (down * t.soak / 1000) cs.length) i).map I) := by rw [f3G]; rfl
    refine Ok.seq ?_
    refine Ok.region ?_
    refine OkO.bin rfl rfl rfl (bin_lss _ _) ?_
    refine OkO.nil ?_
    refine Ok.seq ?_
    refine Ok.cond rfl (fun h3 => ?_) (fun h3 => ?_)
    · -- yes h3
      have hlt : i < cs.length := by simpa using h3
      have hx0 : cs.getD i default = cs[i] := by simp [hlt]
      obtain ⟨bb, off, ccs, i1, i2, i3, i4⟩ := (hR.ext (hE _ hg)).at_ i cs[i].c (by simp [hlt])
      have hne : bb ≠ G.next := by omega
      have hxl : cs[i].lim := hc _ (List.getElem_mem hlt)
      have hcb := (cut_bd hc haB (by omega) i (by omega)).getD (by omega) i
      have hob := over_bd (k := 3000000) hc (haB.mono (by omega)) (by omega) (hlB.1.mono (by omega)) i (by omega)
      have hclen : (cutP cs (aftP cs bef (down * t.soak / 1000) cs.length) i).length = 8 := by rw [cut_len, aft_len]
      have p1 := arr_get (cutP cs (aftP cs bef (down * t.soak / 1000) cs.length) i) i (by omega)
      have i8 : i < (cutP cs (aftP cs bef (down * t.soak / 1000) cs.length) i).length := by omega
      have hlc : cs[i].lim := hxl
      unfold Cell.lim at hlc
      refine Ok.skip ?_
      refine Ok.seq ?_
      refine Ok.block ?_
      refine Ok.seq ?_
      refine Ok.region ?_
      refine OkO.move rfl rfl ?_
      refine OkO.index (sz := 7) (n := i) rfl rfl rfl (by kernel_rfl) (by first | assumption | rfl | exact slAt_slice (by omega)) ?_ -- index ('Go.Operand.tmp', 78) ('Go.Operand.tmp', 80)
      refine OkO.load rfl rfl (ldg (n := 7) (by kernel_rfl) (by first | assumption | (simp (disch := first | omega | (simp only [hNw, hPt]; omega)) only [gn0, gn1, gn2, gn3, gn4, gn5, gp0, gno, gpo] <;> first | rfl | assumption)) (by first | rfl | assumption)) ?_
      refine OkO.alloc (z := [.int .i64 0, .int .i64 0, .int .i64 0, .int .i64 0, .int .i64 0, .int .i64 0, .int .i64 0]) rfl (by kernel_rfl) ?_
      refine OkO.assign rfl rfl ?_
      refine OkO.store rfl rfl rfl (stc (n := 7) (ag := true) (by kernel_rfl) (by first | assumption | (simp (disch := first | omega | (simp only [hNw, hPt]; omega)) only [gn0, gn1, gn2, gn3, gn4, gn5, gp0, gno, gpo] <;> first | rfl | assumption)) rfl rfl (by first | rfl | exact spl_set _ _ _ (by first | assumption | (simp; omega)))) ?_
      refine OkO.nil ?_
      refine Ok.seq ?_
      refine Ok.drawn [(0, true, []), (1, true, []), (2, true, []), (3, true, []), (4, true, []), (5, true, []), (6, false, [4, 2]), (7, true, [])] (by kernel_rfl) ?_
      refine OkP.step ?_
      refine OkO.move rfl rfl ?_
      refine OkO.nil ⟨rfl, ?_⟩
      refine OkP.step ?_
      refine OkO.indexArr (len := 8) (sz := 1) (n := i) rfl rfl rfl (by kernel_rfl) (by omega) ?_
      refine OkO.nil ⟨rfl, ?_⟩
      refine OkP.step ?_
      refine OkO.load rfl rfl (lda (n := 1) (by kernel_rfl) (by first | assumption | (simp (disch := first | omega | (simp only [hNw, hPt]; omega)) only [gn0, gn1, gn2, gn3, gn4, gn5, gp0, gno, gpo] <;> first | rfl | assumption)) (by first | rfl | assumption)) ?_
      refine OkO.nil ⟨rfl, ?_⟩
      refine OkP.step ?_
      refine OkO.fieldAddr (o := 2) rfl (by kernel_rfl) rfl ?_
      refine OkO.nil ⟨rfl, ?_⟩
      refine OkP.step ?_
      refine OkO.load rfl rfl (lda (n := 1) (by kernel_rfl) (by first | assumption | (simp (disch := first | omega | (simp only [hNw, hPt]; omega)) only [gn0, gn1, gn2, gn3, gn4, gn5, gp0, gno, gpo] <;> first | rfl | assumption)) (by first | rfl | assumption)) ?_
      refine OkO.nil ⟨rfl, ?_⟩
      refine OkP.step ?_
      refine OkO.bin rfl rfl rfl (bin_sub (by omega) (by omega)) ?_
      refine OkO.nil ⟨rfl, ?_⟩
      refine OkP.step ?_
      refine OkO.builtin rfl rfl rfl (builtin_max2 _ _) ?_
      refine OkO.nil ⟨(sco (sld rfl rfl (lda (n := 1) (by kernel_rfl) (by first | assumption | (simp (disch := first | omega | (simp only [hNw, hPt]; omega)) only [gn0, gn1, gn2, gn3, gn4, gn5, gp0, gno, gpo] <;> first | rfl | assumption)) (by first | rfl | assumption)) rfl (eqr _ (by first | rfl | exact lpl (by assumption) | (simp [AV.plain, AV.plains, AV.plain])))) (sco (sld rfl rfl (lda (n := 1) (by kernel_rfl) (by first | assumption | (simp (disch := first | omega | (simp only [hNw, hPt]; omega)) only [gn0, gn1, gn2, gn3, gn4, gn5, gp0, gno, gpo] <;> first | rfl | assumption)) (by first | rfl | assumption)) rfl (eqr _ (by first | rfl | exact lpl (by assumption) | (simp [AV.plain, AV.plains, AV.plain])))) rfl)), ?_⟩
      refine OkP.step ?_
      refine OkO.assign rfl rfl ?_
      refine OkO.nil ⟨rfl, ?_⟩
      refine OkP.nil ?_
      refine Ok.seq ?_
      refine Ok.region ?_
      refine OkO.move rfl rfl ?_
      refine OkO.move rfl rfl ?_
      refine OkO.buildSlice (el := 3) (sz := 1) (z := [.int .i64 0]) rfl (by kernel_rfl) (by decide) rfl rfl ?_
      refine OkO.builtinE rfl rfl rfl (Mine.app2 (k0 := W.next + 4) (sz := 1) (by_ := 8) (e := 3) (n := 1) (new := [I (max ((cutP cs (aftP cs bef (down * t.soak / 1000) cs.length) i).getD i 0 - cs[i].cap) 0)]) (hm.to (by (try dsimp only); repeat (first | exact Ext.refl _ | assumption | apply Ext.new | (refine Ext.put ?_ _ (by first | omega | (simp only [hNw, hPt]; omega)))))) (by (try dsimp only); repeat (first | (first | exact hg | exact hG) | apply Grow.new | (refine Grow.put ?_ _ (by first | omega | (simp only [hNw, hPt]; omega))))) (by omega) (by first | omega | (simp only [hNw, hPt]; omega)) (by kernel_rfl) (by kernel_rfl) (elems_new (n := 1) (sz := 1) rfl) rfl rfl (by simp only [List.length_append, List.length_map, List.length_cons, List.length_nil]; omega) (by omega) (by omega) rfl) ?_
      rintro vP4 P4 ⟨q1P4, q2P4, q3P4, q4P4, q5P4, q6P4⟩
      have hnP4 : G.next + 1 ≤ P4.next := by have := q3P4.next; simp only [hNw, hPt] at this; omega
      have f0P4 : P4.get (W.next) = some (.cells [cv, I g.slo, I g.shi, I g.klo, I g.khi, I g.melt, dv, I t.snow, I t.soak, lv, rv] 110) := by rw [q3P4.get _ (by omega) (by first | omega | (simp only [hNw, hPt]; omega))]; first | exact f0G | (simp (disch := first | omega | (simp only [hNw, hPt]; omega)) only [gn0, gn1, gn2, gn3, gn4, gn5, gp0, gno, gpo] <;> first | rfl | assumption)
      have e0P4 : (P4.get (W.next)).bind AObj.cs = some [cv, I g.slo, I g.shi, I g.klo, I g.khi, I g.melt, dv, I t.snow, I t.soak, lv, rv] := by rw [f0P4]; rfl
      have f1P4 : P4.get (W.next + 1) = some (.cells (bef.map I) 113) := by rw [q3P4.get _ (by omega) (by first | omega | (simp only [hNw, hPt]; omega))]; first | exact f1G | (simp (disch := first | omega | (simp only [hNw, hPt]; omega)) only [gn0, gn1, gn2, gn3, gn4, gn5, gp0, gno, gpo] <;> first | rfl | assumption)
      have e1P4 : (P4.get (W.next + 1)).bind AObj.cs = some (bef.map I) := by rw [f1P4]; rfl
      have f2P4 : P4.get (W.next + 2) = some (.cells [I 0, I 0, I 0, I 0, I 0, I 0, I 0, I 0, I 0, I 0] 115) := by rw [q3P4.get _ (by omega) (by first | omega | (simp only [hNw, hPt]; omega))]; first | exact f2G | (simp (disch := first | omega | (simp only [hNw, hPt]; omega)) only [gn0, gn1, gn2, gn3, gn4, gn5, gp0, gno, gpo] <;> first | rfl | assumption)
      have e2P4 : (P4.get (W.next + 2)).bind AObj.cs = some [I 0, I 0, I 0, I 0, I 0, I 0, I 0, I 0, I 0, I 0] := by rw [f2P4]; rfl
      have f3P4 : P4.get (W.next + 3) = some (.cells ((cutP cs (aftP cs bef (down * t.soak / 1000) cs.length) i).map I) 113) := by rw [q3P4.get _ (by omega) (by first | omega | (simp only [hNw, hPt]; omega))]; first | exact f3G | (simp (disch := first | omega | (simp only [hNw, hPt]; omega)) only [gn0, gn1, gn2, gn3, gn4, gn5, gp0, gno, gpo] <;> first | rfl | assumption)
      have e3P4 : (P4.get (W.next + 3)).bind AObj.cs = some ((cutP cs (aftP cs bef (down * t.soak / 1000) cs.length) i).map I) := by rw [f3P4]; rfl
      have f4P4 : P4.get G.next = some (.cells (cs[i]).c 80) := by rw [q4P4 _ (by first | omega | (simp only [hNw, hPt]; omega)) (by rintro m rfl; rcases hm with ⟨h, _⟩ | ⟨b, k, h, _, _, _, h6⟩ <;> cases h; omega)]; first | assumption | (simp (disch := first | omega | (simp only [hNw, hPt]; omega)) only [gn0, gn1, gn2, gn3, gn4, gn5, gp0, gno, gpo] <;> first | rfl | assumption)
      have e4P4 : (P4.get G.next).bind AObj.cs = some (cs[i]).c := by rw [f4P4]; rfl
      refine OkO.assign rfl rfl ?_
      refine OkO.nil ?_
      refine Ok.region ?_
      refine OkO.move rfl rfl ?_
      refine OkO.indexArr (len := 8) (sz := 1) (n := i) rfl rfl rfl (by kernel_rfl) (by omega) ?_
      refine OkO.load rfl rfl (lda (n := 1) (by kernel_rfl) (by first | assumption | (simp (disch := first | omega | (simp only [hNw, hPt]; omega)) only [gn0, gn1, gn2, gn3, gn4, gn5, gp0, gno, gpo] <;> first | rfl | assumption)) (by first | rfl | assumption)) ?_
      refine OkO.move rfl rfl ?_
      refine OkO.bin rfl rfl rfl (bin_sub (by omega) (by omega)) ?_
      refine OkO.indexArr (len := 8) (sz := 1) (n := i) rfl rfl rfl (by kernel_rfl) (by omega) ?_
      refine OkO.store rfl rfl rfl (stc (n := 1) (ag := false) (by kernel_rfl) (by first | assumption | (simp (disch := first | omega | (simp only [hNw, hPt]; omega)) only [gn0, gn1, gn2, gn3, gn4, gn5, gp0, gno, gpo] <;> first | rfl | assumption)) rfl rfl (by first | rfl | exact spl_set _ _ _ (by first | assumption | (simp; omega)))) ?_
      refine OkO.nil ?_
      refine Ok.region ?_
      refine OkO.bin rfl rfl rfl (bin_add (by omega) (by omega)) ?_
      refine OkO.move rfl rfl ?_
      refine OkO.nil ?_
      refine ⟨cs.length - (i + 1), by omega, i + 1, vP4, rfl, hlt, ?_, Has.of (by kernel_rfl), rfl, (by (try dsimp only); repeat (first | exact q2P4 | exact hg | exact hG | apply Grow.new | (refine Grow.put ?_ _ (by first | omega | (simp only [hNw, hPt]; omega))))), (by first | assumption | (simp (disch := first | omega | (simp only [hNw, hPt]; omega)) only [gn0, gn1, gn2, gn3, gn4, gn5, gp0, gno, gpo] <;> first | rfl | assumption)), (by first | assumption | (simp (disch := first | omega | (simp only [hNw, hPt]; omega)) only [gn0, gn1, gn2, gn3, gn4, gn5, gp0, gno, gpo] <;> first | rfl | assumption)), (by first | assumption | (simp (disch := first | omega | (simp only [hNw, hPt]; omega)) only [gn0, gn1, gn2, gn3, gn4, gn5, gp0, gno, gpo] <;> first | rfl | assumption)), ?_, by first | omega | (simp only [hNw, hPt]; omega)⟩
      · have hL : overP cs (aftP cs bef (down * t.soak / 1000) cs.length) (leftP cs bef down (down * t.soak / 1000) cs.length) (i + 1) = overP cs (aftP cs bef (down * t.soak / 1000) cs.length) (leftP cs bef down (down * t.soak / 1000) cs.length) i ++ [max ((cutP cs (aftP cs bef (down * t.soak / 1000) cs.length) i).getD i 0 - cs[i].cap) 0] := by rw [overP, hx0]
        rw [hL, List.map_append]; exact (by have q := q1P4; simp only [List.map_append, List.map_cons, List.map_nil] at q ⊢; (try dsimp only); (repeat (refine Mine.put ?_ _ (by omega))); exact q)
      · have hA : cutP cs (aftP cs bef (down * t.soak / 1000) cs.length) (i + 1) = (cutP cs (aftP cs bef (down * t.soak / 1000) cs.length) i).set i ((cutP cs (aftP cs bef (down * t.soak / 1000) cs.length) i).getD i 0 - max ((cutP cs (aftP cs bef (down * t.soak / 1000) cs.length) i).getD i 0 - cs[i].cap) 0) := by rw [cutP, hx0]
        rw [hA]; first | assumption | (simp (disch := first | omega | (simp only [hNw, hPt]; omega)) only [gn0, gn1, gn2, gn3, gn4, gn5, gp0, gno, gpo] <;> first | rfl | assumption)
    · -- no h3
      have hge : i = cs.length := by simp at h3; omega
      subst hge
      obtain ⟨a0, a1, a2, a3, a4, a5, a6, a7, hA⟩ := list8 (a := cutP cs (aftP cs bef (down * t.soak / 1000) cs.length) cs.length) (by rw [cut_len, aft_len])
      have e3 : (G.get (W.next + 3)).bind AObj.cs = some [I a0, I a1, I a2, I a3, I a4, I a5, I a6, I a7] := by rw [f3G, hA]; rfl
      have hob := over_bd (k := 3000000) hc (haB.mono (by omega)) (by omega) (hlB.1.mono (by omega)) cs.length (Nat.le_refl _)
      have hrow : Ints G v9 (overP cs (aftP cs bef (down * t.soak / 1000) cs.length) (leftP cs bef down (down * t.soak / 1000) cs.length) cs.length) := Mine.row (l := (overP cs (aftP cs bef (down * t.soak / 1000) cs.length) (leftP cs bef down (down * t.soak / 1000) cs.length) cs.length).map fun n => [I n]) (by rw [ints_flat]; exact hm) (fun x hx => by simp only [List.mem_map] at hx; obtain ⟨y, _, rfl⟩ := hx; rfl) (by omega)
      have hlo : lenOf v9 = some (overP cs (aftP cs bef (down * t.soak / 1000) cs.length) (leftP cs bef down (down * t.soak / 1000) cs.length) cs.length).length := by simpa using hrow.len
      refine Ok.exit ?_
      refine Ok.seq ?_
      refine Ok.drawn [(0, true, []), (1, true, []), (2, false, [0]), (3, true, []), (4, false, [])] (by kernel_rfl) ?_
      refine OkP.step ?_
      refine OkO.load rfl rfl (ldg (n := 8) (by kernel_rfl) (by first | assumption | (simp (disch := first | omega | (simp only [hNw, hPt]; omega)) only [gn0, gn1, gn2, gn3, gn4, gn5, gp0, gno, gpo] <;> first | rfl | assumption)) (by first | rfl | assumption)) ?_
      refine OkO.nil ⟨rfl, ?_⟩
      refine OkP.step ?_
      refine OkO.move rfl rfl ?_
      refine OkO.nil ⟨rfl, ?_⟩
      refine OkP.step ?_
      refine OkO.callV rfl rfl rfl rfl rfl (c105 _ v9 (overP cs (aftP cs bef (down * t.soak / 1000) cs.length) (leftP cs bef down (down * t.soak / 1000) cs.length) cs.length) _ hrow (by omega) (fun x hx => by have := hob.1 x hx; omega)) ?_ -- "sackung/water.sum"
      refine OkO.nil ⟨(sco (sld rfl rfl (ldg (n := 8) (by kernel_rfl) (by first | assumption | (simp (disch := first | omega | (simp only [hNw, hPt]; omega)) only [gn0, gn1, gn2, gn3, gn4, gn5, gp0, gno, gpo] <;> first | rfl | assumption)) (by first | rfl | assumption)) rfl (eqr _ (by first | rfl | exact lpl (by assumption) | (simp [AV.plain, AV.plains, AV.plain])))) rfl), ?_⟩
      refine OkP.step ?_
      refine OkO.build (z := [.int .i64 0, .int .i64 0, .int .i64 0, .int .i64 0, .int .i64 0, .int .i64 0, .int .i64 0, .int .i64 0, .int .i64 0, .int .i64 0]) (pl := [(0, 8), (8, 1), (9, 1)]) rfl (by kernel_rfl) rfl rfl ?_
      refine OkO.nil ⟨rfl, ?_⟩
      refine OkP.step ?_
      refine OkO.store rfl rfl rfl (stc (n := 10) (ag := true) (by kernel_rfl) (by first | assumption | (simp (disch := first | omega | (simp only [hNw, hPt]; omega)) only [gn0, gn1, gn2, gn3, gn4, gn5, gp0, gno, gpo] <;> first | rfl | assumption)) rfl rfl (by first | rfl | exact spl_set _ _ _ (by first | assumption | (simp; omega)))) ?_
      refine OkO.nil ⟨rfl, ?_⟩
      refine OkP.nil ?_
      refine Ok.ret ⟨.inr rfl, ?_⟩
      exact back_flat (resV_cell (b := W.next + 2) (off := 0) rfl (ldg (n := 10) (by kernel_rfl) (by first | assumption | (simp (disch := first | omega | (simp only [hNw, hPt]; omega)) only [gn0, gn1, gn2, gn3, gn4, gn5, gp0, gno, gpo] <;> first | rfl | assumption)) rfl) resV_nil) (by unfold dayL dayO; rw [hA]; rfl) (by unfold dayL dayO; rw [hA]; rfl) (by rw [← hW]; exact (by (try dsimp only); repeat (first | (first | exact hg | exact hG) | apply Grow.new | (refine Grow.put ?_ _ (by first | omega | (simp only [hNw, hPt]; omega))))))
end
end Go.Ev
