/-
  Functions of the program, reckoned by the evaluator: what each answers, and that it leaves what came in as it was (part 20).
-/
import Derived.Test.YtibplmibcbillaaV19
set_option maxRecDepth 100000
set_option linter.unusedSimpArgs false
set_option linter.unusedVariables false
namespace Go.Ev
open Go Go.Proofs
noncomputable section
theorem row_flat {G H : Heap} {v : AV} {sz : Nat} {l : List (List AV)} (h : Row G v sz l) (hf : v.flat = true) : Row H v sz l := by
  have hn : v = .nils := by
    have := h.len
    cases v <;> simp [AV.flat, lenOf] at hf this <;> rfl
  subst hn
  have hl : l = [] := by
    have := h.len
    cases l with
    | nil => rfl
    | cons a b => simp [lenOf] at this
  subst hl
  exact Row.nil _ _
theorem ListsR.same {G G' : Heap} {v : AV} {rows : List (List Rg)} (h : ListsR G v rows) (hg : ∀ n, G'.get n = G.get n) (hn : G'.next = G.next) : ListsR G' v rows := h.ext ⟨by omega, fun n _ => hg n⟩
theorem lists_flat {G H : Heap} {v : AV} {rows : List (List Rg)} (h : ListsR G v rows) (hf : v.flat = true) : ListsR H v rows := by
  obtain ⟨vs, h1, h2, h3⟩ := h
  have hr := row_flat (H := H) h1 hf
  refine ⟨vs, hr, h2, fun j x r k1 k2 => ?_⟩
  have hn : v = .nils := by
    have := h1.len
    cases v <;> simp [AV.flat, lenOf] at hf this <;> rfl
  subst hn
  have := h1.len
  have hj := (List.getElem?_eq_some_iff.1 k1).1
  have t2 : some 0 = some (vs.map fun x => [x]).length := this
  have t3 := Option.some.inj t2
  rw [List.length_map] at t3
  omega
/-- Lists of lists of the same lengths. -/
def Same (a b : List (List Int)) : Prop := a.length = b.length ∧ ∀ (i : Nat) x y, a[i]? = some x → b[i]? = some y → x.length = y.length
theorem c29l (m : Nat) (cv dv : AV) (cs : List Cell) (g : Gr) (ds : List Day) (H : Heap) (hR : Row H cv 7 (cs.map Cell.c)) (hY : Row H dv 3 (ds.map Day.c)) (hn8 : cs.length ≤ 8) (hd30 : ds.length ≤ 30) : ∃ v H', RR (m + 1) (.fn 29 [.agg [cv, I g.slo, I g.shi, I g.klo, I g.khi, I g.melt], dv, .bool false]) H = some (v, H') ∧ ∃ lv rv, v = .agg [I g.slo, I g.klo, lv, rv] ∧ Ret H H' ∧ Ints H' lv (lowL cs) ∧ Ints H' rv (lowR ds) := by
  show ∃ v H', evFn Try.prog (RR (m + 0)) 29 [.agg [cv, I g.slo, I g.shi, I g.klo, I g.khi, I g.melt], dv, .bool false] H = some (v, H') ∧ ∃ lv rv, v = .agg [I g.slo, I g.klo, lv, rv] ∧ Ret H H' ∧ Ints H' lv (lowL cs) ∧ Ints H' rv (lowR ds)
  refine fn_okE Try.func29 rfl rfl (by kernel_rfl) (by kernel_rfl) ?_
  obtain ⟨W, hW⟩ : ∃ W : Heap, W = ⟨H.t, H.next, H.next⟩ := ⟨_, rfl⟩
  have hg : ∀ n, W.get n = H.get n := fun n => by rw [hW]; rfl
  have hN : W.next = H.next := by rw [hW]
  have hE : ∀ G, Grow W G → Ext H G := fun G g => ⟨by rw [← hN]; exact g.next, fun n k => by rw [g.get n (by rw [hN]; exact k), hg]⟩
  have hG : Grow W W := Grow.refl (by rw [hW]; exact Nat.le_refl _)
  rw [← hW]
  have hlc : lenOf cv = some cs.length := by simpa using hR.len
  have pc := lpl hlc
  have hld : lenOf dv = some ds.length := by simpa using hY.len
  refine Ok.seq ?_
  refine Ok.region ?_
  refine OkO.box rfl rfl ?_
  refine OkO.alloc (z := [.int .i64 0, .int .i64 0, .nils, .nils]) rfl (by kernel_rfl) ?_
  refine OkO.nil ?_
  refine Ok.seq ?_
  refine Ok.region ?_
  refine OkO.fieldAddr (o := 1) rfl (by kernel_rfl) rfl ?_
  refine OkO.fieldAddr (o := 0) rfl (by kernel_rfl) rfl ?_
  refine OkO.load rfl rfl (lda (n := 1) (by kernel_rfl) (by first | assumption | (simp (disch := first | omega | (simp only [hNw, hPt]; omega)) only [gn0, gn1, gn2, gn3, gn4, gn5, gp0, gno, gpo] <;> first | rfl | assumption)) (by first | rfl | assumption)) ?_
  refine OkO.fieldAddr (o := 3) rfl (by kernel_rfl) rfl ?_
  refine OkO.fieldAddr (o := 0) rfl (by kernel_rfl) rfl ?_
  refine OkO.load rfl rfl (lda (n := 1) (by kernel_rfl) (by first | assumption | (simp (disch := first | omega | (simp only [hNw, hPt]; omega)) only [gn0, gn1, gn2, gn3, gn4, gn5, gp0, gno, gpo] <;> first | rfl | assumption)) (by first | rfl | assumption)) ?_
  refine OkO.build (z := [.int .i64 0, .int .i64 0, .nils, .nils]) (pl := [(0, 1), (1, 1), (2, 1), (3, 1)]) rfl (by kernel_rfl) rfl rfl ?_
  refine OkO.alloc (z := [.int .i64 0, .int .i64 0, .nils, .nils]) rfl (by kernel_rfl) ?_
  refine OkO.store rfl rfl rfl (stc (n := 4) (ag := true) (by kernel_rfl) (by first | assumption | (simp (disch := first | omega | (simp only [hNw, hPt]; omega)) only [gn0, gn1, gn2, gn3, gn4, gn5, gp0, gno, gpo] <;> first | rfl | assumption)) rfl rfl (by first | rfl | exact spl_set _ _ _ (by first | assumption | (simp; omega)))) ?_
  refine OkO.nil ?_
  refine Ok.seq ?_
  refine Ok.seq ?_
  refine Ok.region ?_
  refine OkO.move rfl rfl ?_
  refine OkO.nil ?_
  refine Ok.cond rfl (fun h1 => ?_) (fun h1 => ?_)
  · -- yes h1
    exact absurd h1 (by simp)
  · -- no h1
    refine Ok.skip ?_
    refine Ok.seq ?_
    refine Ok.seq ?_
    refine Ok.region ?_
    refine OkO.assign rfl rfl ?_
    refine OkO.nil ?_
    refine Ok.block ?_
    refine Ok.loop (fun n s => ∃ (i : Nat) (vl vr : AV), n = cs.length - i ∧ i ≤ cs.length ∧ Mine (W.next + 3) s.H vl 3 1 (((lowL cs).take i).map I) ∧ Mine (W.next + 3) s.H vr 3 1 (((lowR ds).take 0).map I) ∧ (∀ b m m', vl = .opn b m → vr ≠ .opn b m') ∧ Has 7 [(1, dv), (2, .bool false), (3, .ptr W.next 0), (6, .ptr (W.next + 1) 0), (7, .ptr (W.next + 2) 0), (8, I (i : Int))] s.T ∧ s.D = [] ∧ Grow W s.H ∧ s.H.get W.next = some (.cells [cv, I g.slo, I g.shi, I g.klo, I g.khi, I g.melt] 26) ∧ s.H.get (W.next + 1) = some (.cells [I 0, I 0, .nils, .nils] 30) ∧ s.H.get (W.next + 2) = some (.cells [I g.slo, I g.klo, vl, vr] 30) ∧ W.next + 3 ≤ s.H.next) (cs.length) (by unfold loopFuel; omega)
      ⟨0, .nils, .nils, rfl, Nat.zero_le _, Mine.nil _ _ _ _, Mine.nil _ _ _ _, nofun, Has.of (by kernel_rfl), rfl, (by (try dsimp only); repeat (first | exact hG | apply Grow.new | (refine Grow.put ?_ _ (by first | omega | (simp only [hNw, hPt]; omega))))), (by simp (disch := first | omega | (simp only [hNw, hPt]; omega)) only [gn0, gn1, gn2, gn3, gn4, gn5, gp0, gno, gpo] <;> first | rfl | assumption), (by first | exact gn1 _ _ _ | simp (disch := first | omega | (simp only [hNw, hPt]; omega)) only [gn0, gn1, gn2, gn3, gn4, gn5, gp0, gno, gpo] <;> first | rfl | assumption), by first | exact gp0 _ _ _ | (simp (disch := first | omega | (simp only [hNw, hPt]; omega)) only [gn0, gn1, gn2, gn3, gn4, gn5, gp0, gno, gpo] <;> first | rfl | assumption), by simp only [hNw, hPt]; omega⟩ ?_
    rintro n ⟨T, D, G⟩ ⟨i, vl, vr, hn, hi, hml, hmr, hsep, ⟨f, hT⟩, hD, hg, f0, f1, f3, hb4⟩
    dsimp only at *
    subst hT hD
    have hgn := hg.next
    have e0 : (G.get W.next).bind AObj.cs = some [cv, I g.slo, I g.shi, I g.klo, I g.khi, I g.melt] := by rw [f0]; rfl
    have e3 : (G.get (W.next + 2)).bind AObj.cs = some [I g.slo, I g.klo, vl, vr] := by rw [f3]; rfl
    obtain ⟨ll, hll, _⟩ := hml.len
    obtain ⟨lr, hlr, _⟩ := hmr.len
    refine Ok.seq ?_
    refine Ok.seq ?_
    refine Ok.region ?_
    refine OkO.move rfl rfl ?_
    refine OkO.fieldAddr (o := 0) rfl (by kernel_rfl) rfl ?_
    refine OkO.load rfl rfl (lda (n := 1) (by kernel_rfl) (by first | assumption | (simp (disch := first | omega | (simp only [hNw, hPt]; omega)) only [gn0, gn1, gn2, gn3, gn4, gn5, gp0, gno, gpo] <;> first | rfl | assumption)) (by first | rfl | assumption)) ?_
    refine OkO.builtin rfl rfl rfl (bln (by kernel_rfl) (by first | assumption | rfl)) ?_
    refine OkO.bin rfl rfl rfl (bin_lss _ _) ?_
    refine OkO.nil ?_
    refine Ok.cond rfl (fun h2 => ?_) (fun h2 => ?_)
    · -- yes h2
      have hlt : i < cs.length := by simpa using h2
      obtain ⟨bb, off, ccs, i1, i2w, i3, i4⟩ := (hR.ext (hE W hG)).at_ i cs[i].c (by simp [hlt])
      have i2 : (G.get bb).bind AObj.cs = some ccs := by rw [hg.get _ i4]; exact i2w
      have i4g : bb < G.next := by omega
      have i5 : ccs[off + 0 + 0]? = some (I cs[i].lo) := by rw [show off + 0 + 0 = off + 0 from rfl]; exact seg_get i3 0 (by omega)
      have i6 : ccs[off + 0 + 1]? = some (I cs[i].hi) := by rw [Nat.add_zero]; exact seg_get i3 1 (by omega)
      refine Ok.skip ?_
      refine Ok.seq ?_
      refine Ok.block ?_
      refine Ok.seq ?_
      refine Ok.region ?_
      refine OkO.fieldAddr (o := 0) rfl (by kernel_rfl) rfl ?_
      refine OkO.load rfl rfl (lda (n := 1) (by kernel_rfl) (by first | assumption | (simp (disch := first | omega | (simp only [hNw, hPt]; omega)) only [gn0, gn1, gn2, gn3, gn4, gn5, gp0, gno, gpo] <;> first | rfl | assumption)) (by first | rfl | assumption)) ?_
      refine OkO.move rfl rfl ?_
      refine OkO.index (sz := 7) (n := i) rfl rfl rfl (by kernel_rfl) (by first | assumption | rfl | exact slAt_slice (by omega)) ?_ -- index ('Go.Operand.tmp', 35) ('Go.Operand.tmp', 36)
      refine OkO.fieldAddr (o := 0) rfl (by kernel_rfl) rfl ?_
      refine OkO.fieldAddr (o := 0) rfl (by kernel_rfl) rfl ?_
      refine OkO.load rfl rfl (lda (n := 1) (by kernel_rfl) (by first | assumption | (simp (disch := first | omega | (simp only [hNw, hPt]; omega)) only [gn0, gn1, gn2, gn3, gn4, gn5, gp0, gno, gpo] <;> first | rfl | assumption)) (by first | rfl | assumption)) ?_
      refine OkO.assign rfl rfl ?_
      refine OkO.nil ?_
      refine Ok.seq ?_
      refine Ok.seq ?_
      refine Ok.region ?_
      refine OkO.move rfl rfl ?_
      refine OkO.nil ?_
      refine Ok.cond rfl (fun h3 => ?_) (fun h3 => ?_)
      · -- yes h3
        exact absurd h3 (by simp)
      · -- no h3
        refine Ok.skip ?_
        refine Ok.region ?_
        refine OkO.fieldAddr (o := 2) rfl (by kernel_rfl) rfl ?_
        refine OkO.load rfl rfl (lda (n := 1) (by kernel_rfl) (by first | assumption | (simp (disch := first | omega | (simp only [hNw, hPt]; omega)) only [gn0, gn1, gn2, gn3, gn4, gn5, gp0, gno, gpo] <;> first | rfl | assumption)) (by first | rfl | assumption)) ?_
        refine OkO.move rfl rfl ?_
        refine OkO.buildSlice (el := 3) (sz := 1) (z := [.int .i64 0]) rfl (by kernel_rfl) (by decide) rfl rfl ?_
        refine OkO.builtinE rfl rfl rfl (Mine.app2 (W := W) (k0 := W.next + 3) (sz := 1) (by_ := 8) (e := 3) (n := 1) (new := [I cs[i].lo]) (hml.to (Grow.toNew G _)) (hg.new _) (by omega) (by simp only [hNw]; omega) (by kernel_rfl) (by kernel_rfl) (elems_new (n := 1) (sz := 1) rfl) rfl rfl (by rw [List.length_map, List.length_take]; omega) (by omega) (by omega) rfl) ?_
        rintro v2 G2 ⟨q1, q2, q3, q4, q5, q6⟩
        simp only [hNw] at q4 q5 q6
        obtain ⟨mm, hv2⟩ := q6
        have z0 : G2.get (W.next) = some (.cells [cv, I g.slo, I g.shi, I g.klo, I g.khi, I g.melt] 26) := by rw [q3.get _ (by omega) (by simp only [hNw]; omega), gno _ _ _ (by omega)]; exact f0
        have y0 : (G2.get (W.next)).bind AObj.cs = some [cv, I g.slo, I g.shi, I g.klo, I g.khi, I g.melt] := by rw [z0]; rfl
        have z1 : G2.get (W.next + 1) = some (.cells [I 0, I 0, .nils, .nils] 30) := by rw [q3.get _ (by omega) (by simp only [hNw]; omega), gno _ _ _ (by omega)]; exact f1
        have y1 : (G2.get (W.next + 1)).bind AObj.cs = some [I 0, I 0, .nils, .nils] := by rw [z1]; rfl
        have z2 : G2.get (W.next + 2) = some (.cells [I g.slo, I g.klo, vl, vr] 30) := by rw [q3.get _ (by omega) (by simp only [hNw]; omega), gno _ _ _ (by omega)]; exact f3
        have y2 : (G2.get (W.next + 2)).bind AObj.cs = some [I g.slo, I g.klo, vl, vr] := by rw [z2]; rfl
        have hmo : Mine (W.next + 3) G2 vr 3 1 _ := (hmr.to (Grow.toNew G _)).keep (w := vl) (fun j h1 h2 => q4 j (by simpa using h1) h2) (fun b m m' h1 h2 => hsep b m' m h2 h1) (by simp only [hNw]; omega)
        have hs2 : ∀ b m m', v2 = .opn b m → vr ≠ .opn b m' := fun b m m' h1 h2 => by rw [hv2] at h1; have e9 := (AV.opn.inj h1).1; have := hmr.lt h2; omega
        have iw : (G2.get bb).bind AObj.cs = some ccs := by rw [q2.get _ i4]; exact i2w
        obtain ⟨bb2, hbb2⟩ : ∃ bb2, bb2 = G.next + 1 := ⟨_, rfl⟩
        rw [← hbb2] at hv2
        subst hv2
        refine OkO.fieldAddr (o := 2) rfl (by kernel_rfl) rfl ?_
        refine OkO.store rfl rfl rfl (stc (n := 1) (ag := false) (by kernel_rfl) (by first | assumption | (simp (disch := first | omega | (simp only [hNw, hPt]; omega)) only [gn0, gn1, gn2, gn3, gn4, gn5, gp0, gno, gpo] <;> first | rfl | assumption)) rfl rfl (by first | rfl | exact spl_set _ _ _ (by first | assumption | (simp; omega)))) ?_
        refine OkO.nil ?_
        refine Ok.region ?_
        refine OkO.move rfl rfl ?_
        refine OkO.bin rfl rfl rfl (bin_add (by omega) (by omega)) ?_
        refine OkO.assign rfl rfl ?_
        refine OkO.nil ?_
        refine ⟨cs.length - (i + 1), by omega, i + 1, .opn bb2 mm, vr, rfl, hlt, ?_, ?_, hs2, Has.of (by kernel_rfl), rfl, q2.put _ (by omega), by rw [gpo _ _ _ _ (by omega)]; exact z0, by rw [gpo _ _ _ _ (by omega)]; exact z1, gp0 _ _ _, by simp only [hPt]; omega⟩
        · have ee : ((lowL cs).take (i + 1)).map I = ((lowL cs).take i).map I ++ [I cs[i].lo] := by rw [List.take_succ_eq_append_getElem (by simp [lowL]; omega), List.map_append]; simp [lowL]
          rw [ee]; exact q1.put _ (by omega)
        · exact hmo.put _ (by omega)
    · -- no h2
      have hge : i = cs.length := by simp at h2; omega
      subst hge
      have hml : Mine (W.next + 3) G vl 3 1 ((lowL cs).map I) := by rw [List.take_of_length_le (by simp [lowL])] at hml; exact hml
      refine Ok.exit ?_
      refine Ok.seq ?_
      refine Ok.seq ?_
      refine Ok.region ?_
      refine OkO.assign rfl rfl ?_
      refine OkO.nil ?_
      refine Ok.block ?_
      refine Ok.loop (fun n s => ∃ (i : Nat) (vl vr : AV), n = ds.length - i ∧ i ≤ ds.length ∧ Mine (W.next + 3) s.H vl 3 1 ((lowL cs).map I) ∧ Mine (W.next + 3) s.H vr 3 1 (((lowR ds).take i).map I) ∧ (∀ b m m', vl = .opn b m → vr ≠ .opn b m') ∧ Has 7 [(1, dv), (2, .bool false), (3, .ptr W.next 0), (6, .ptr (W.next + 1) 0), (7, .ptr (W.next + 2) 0), (10, I (i : Int))] s.T ∧ s.D = [] ∧ Grow W s.H ∧ s.H.get W.next = some (.cells [cv, I g.slo, I g.shi, I g.klo, I g.khi, I g.melt] 26) ∧ s.H.get (W.next + 1) = some (.cells [I 0, I 0, .nils, .nils] 30) ∧ s.H.get (W.next + 2) = some (.cells [I g.slo, I g.klo, vl, vr] 30) ∧ W.next + 3 ≤ s.H.next) (ds.length) (by unfold loopFuel; omega)
        ⟨0, vl, vr, rfl, Nat.zero_le _, hml, hmr, hsep, Has.of (by kernel_rfl), rfl, hg, f0, f1, f3, hb4⟩ ?_
      rintro n ⟨T, D, G⟩ ⟨i, vl, vr, hn, hi, hml, hmr, hsep, ⟨f, hT⟩, hD, hg, f0, f1, f3, hb4⟩
      dsimp only at *
      subst hT hD
      have hgn := hg.next
      have e0 : (G.get W.next).bind AObj.cs = some [cv, I g.slo, I g.shi, I g.klo, I g.khi, I g.melt] := by rw [f0]; rfl
      have e3 : (G.get (W.next + 2)).bind AObj.cs = some [I g.slo, I g.klo, vl, vr] := by rw [f3]; rfl
      obtain ⟨ll, hll, _⟩ := hml.len
      obtain ⟨lr, hlr, _⟩ := hmr.len
      refine Ok.seq ?_
      refine Ok.seq ?_
      refine Ok.region ?_
      refine OkO.move rfl rfl ?_
      refine OkO.move rfl rfl ?_
      refine OkO.builtin rfl rfl rfl (bln (by kernel_rfl) (by first | assumption | rfl)) ?_
      refine OkO.bin rfl rfl rfl (bin_lss _ _) ?_
      refine OkO.nil ?_
      refine Ok.cond rfl (fun h4 => ?_) (fun h4 => ?_)
      · -- yes h4
        have hlt : i < ds.length := by simpa using h4
        obtain ⟨bb, off, ccs, i1, i2w, i3, i4⟩ := (hY.ext (hE W hG)).at_ i ds[i].c (by simp [hlt])
        have i2 : (G.get bb).bind AObj.cs = some ccs := by rw [hg.get _ i4]; exact i2w
        have i4g : bb < G.next := by omega
        have i5 : ccs[off + 0 + 0]? = some (I ds[i].lo) := by rw [show off + 0 + 0 = off + 0 from rfl]; exact seg_get i3 0 (by omega)
        have i6 : ccs[off + 0 + 1]? = some (I ds[i].hi) := by rw [Nat.add_zero]; exact seg_get i3 1 (by omega)
        refine Ok.skip ?_
        refine Ok.seq ?_
        refine Ok.block ?_
        refine Ok.seq ?_
        refine Ok.region ?_
        refine OkO.move rfl rfl ?_
        refine OkO.move rfl rfl ?_
        refine OkO.index (sz := 3) (n := i) rfl rfl rfl (by kernel_rfl) (by first | assumption | rfl | exact slAt_slice (by omega)) ?_ -- index ('Go.Operand.tmp', 61) ('Go.Operand.tmp', 62)
        refine OkO.fieldAddr (o := 0) rfl (by kernel_rfl) rfl ?_
        refine OkO.fieldAddr (o := 0) rfl (by kernel_rfl) rfl ?_
        refine OkO.load rfl rfl (lda (n := 1) (by kernel_rfl) (by first | assumption | (simp (disch := first | omega | (simp only [hNw, hPt]; omega)) only [gn0, gn1, gn2, gn3, gn4, gn5, gp0, gno, gpo] <;> first | rfl | assumption)) (by first | rfl | assumption)) ?_
        refine OkO.assign rfl rfl ?_
        refine OkO.nil ?_
        refine Ok.seq ?_
        refine Ok.seq ?_
        refine Ok.region ?_
        refine OkO.move rfl rfl ?_
        refine OkO.nil ?_
        refine Ok.cond rfl (fun h5 => ?_) (fun h5 => ?_)
        · -- yes h5
          exact absurd h5 (by simp)
        · -- no h5
          refine Ok.skip ?_
          refine Ok.region ?_
          refine OkO.fieldAddr (o := 3) rfl (by kernel_rfl) rfl ?_
          refine OkO.load rfl rfl (lda (n := 1) (by kernel_rfl) (by first | assumption | (simp (disch := first | omega | (simp only [hNw, hPt]; omega)) only [gn0, gn1, gn2, gn3, gn4, gn5, gp0, gno, gpo] <;> first | rfl | assumption)) (by first | rfl | assumption)) ?_
          refine OkO.move rfl rfl ?_
          refine OkO.buildSlice (el := 3) (sz := 1) (z := [.int .i64 0]) rfl (by kernel_rfl) (by decide) rfl rfl ?_
          refine OkO.builtinE rfl rfl rfl (Mine.app2 (W := W) (k0 := W.next + 3) (sz := 1) (by_ := 8) (e := 3) (n := 1) (new := [I ds[i].lo]) (hmr.to (Grow.toNew G _)) (hg.new _) (by omega) (by simp only [hNw]; omega) (by kernel_rfl) (by kernel_rfl) (elems_new (n := 1) (sz := 1) rfl) rfl rfl (by rw [List.length_map, List.length_take]; omega) (by omega) (by omega) rfl) ?_
          rintro v2 G2 ⟨q1, q2, q3, q4, q5, q6⟩
          simp only [hNw] at q4 q5 q6
          obtain ⟨mm, hv2⟩ := q6
          have z0 : G2.get (W.next) = some (.cells [cv, I g.slo, I g.shi, I g.klo, I g.khi, I g.melt] 26) := by rw [q3.get _ (by omega) (by simp only [hNw]; omega), gno _ _ _ (by omega)]; exact f0
          have y0 : (G2.get (W.next)).bind AObj.cs = some [cv, I g.slo, I g.shi, I g.klo, I g.khi, I g.melt] := by rw [z0]; rfl
          have z1 : G2.get (W.next + 1) = some (.cells [I 0, I 0, .nils, .nils] 30) := by rw [q3.get _ (by omega) (by simp only [hNw]; omega), gno _ _ _ (by omega)]; exact f1
          have y1 : (G2.get (W.next + 1)).bind AObj.cs = some [I 0, I 0, .nils, .nils] := by rw [z1]; rfl
          have z2 : G2.get (W.next + 2) = some (.cells [I g.slo, I g.klo, vl, vr] 30) := by rw [q3.get _ (by omega) (by simp only [hNw]; omega), gno _ _ _ (by omega)]; exact f3
          have y2 : (G2.get (W.next + 2)).bind AObj.cs = some [I g.slo, I g.klo, vl, vr] := by rw [z2]; rfl
          have hmo : Mine (W.next + 3) G2 vl 3 1 _ := (hml.to (Grow.toNew G _)).keep (w := vr) (fun j h1 h2 => q4 j (by simpa using h1) h2) (fun b m m' h1 h2 => hsep b m m' h1 h2) (by simp only [hNw]; omega)
          have hs2 : ∀ b m m', vl = .opn b m → v2 ≠ .opn b m' := fun b m m' h1 h2 => by rw [hv2] at h2; have e9 := (AV.opn.inj h2).1; have := hml.lt h1; omega
          have iw : (G2.get bb).bind AObj.cs = some ccs := by rw [q2.get _ i4]; exact i2w
          obtain ⟨bb2, hbb2⟩ : ∃ bb2, bb2 = G.next + 1 := ⟨_, rfl⟩
          rw [← hbb2] at hv2
          subst hv2
          refine OkO.fieldAddr (o := 3) rfl (by kernel_rfl) rfl ?_
          refine OkO.store rfl rfl rfl (stc (n := 1) (ag := false) (by kernel_rfl) (by first | assumption | (simp (disch := first | omega | (simp only [hNw, hPt]; omega)) only [gn0, gn1, gn2, gn3, gn4, gn5, gp0, gno, gpo] <;> first | rfl | assumption)) rfl rfl (by first | rfl | exact spl_set _ _ _ (by first | assumption | (simp; omega)))) ?_
          refine OkO.nil ?_
          refine Ok.region ?_
          refine OkO.move rfl rfl ?_
          refine OkO.bin rfl rfl rfl (bin_add (by omega) (by omega)) ?_
          refine OkO.assign rfl rfl ?_
          refine OkO.nil ?_
          refine ⟨ds.length - (i + 1), by omega, i + 1, vl, .opn bb2 mm, rfl, hlt, ?_, ?_, hs2, Has.of (by kernel_rfl), rfl, q2.put _ (by omega), by rw [gpo _ _ _ _ (by omega)]; exact z0, by rw [gpo _ _ _ _ (by omega)]; exact z1, gp0 _ _ _, by simp only [hPt]; omega⟩
          · exact hmo.put _ (by omega)
          · have ee : ((lowR ds).take (i + 1)).map I = ((lowR ds).take i).map I ++ [I ds[i].lo] := by rw [List.take_succ_eq_append_getElem (by simp [lowR]; omega), List.map_append]; simp [lowR]
            rw [ee]; exact q1.put _ (by omega)
      · -- no h4
        have hge : i = ds.length := by simp at h4; omega
        subst hge
        have hmr : Mine (W.next + 3) G vr 3 1 ((lowR ds).map I) := by rw [List.take_of_length_le (by simp [lowR])] at hmr; exact hmr
        obtain ⟨l1, l2⟩ := hml.one
        obtain ⟨r1, r2⟩ := hmr.one
        refine Ok.exit ?_
        refine Ok.seq ?_
        refine Ok.region ?_
        refine OkO.load rfl rfl (ldg (n := 4) (by kernel_rfl) (by first | assumption | (simp (disch := first | omega | (simp only [hNw, hPt]; omega)) only [gn0, gn1, gn2, gn3, gn4, gn5, gp0, gno, gpo] <;> first | rfl | assumption)) (by first | rfl | assumption)) ?_
        refine OkO.store rfl rfl rfl (stc (n := 4) (ag := true) (l := [I g.slo, I g.klo, vl, vr]) (by kernel_rfl) (by first | assumption | simp (disch := first | omega | (simp only [hNw, hPt]; omega)) only [gn0, gn1, gn2, gn3, gn4, gn5, gp0, gno, gpo] <;> first | rfl | assumption) rfl (by show atoms [I g.slo, I g.klo, vl, vr] = true; simp [atoms, l2, r2, show ∀ z, (I z).atom = true from fun _ => rfl]) rfl) ?_
        refine OkO.nil ?_
        refine Ok.ret ⟨.inr rfl, ?_⟩
        refine back_newA (resV_cell (b := W.next + 1) (off := 0) rfl (ldg (n := 4) (by kernel_rfl) (show ((G.put (W.next + 1) (.cells [I g.slo, I g.klo, vl, vr] 30)).get (W.next + 1)).bind AObj.cs = some [I g.slo, I g.klo, vl, vr] by rw [gp0]; rfl) rfl) resV_nil) rfl (by rw [← hW]; exact hg.put _ (by omega)) (fun H2 q2 q3 => ⟨vl, vr, rfl, q2, ?_, ?_⟩)
        · exact (Mine.back (l := (lowL cs).map fun n => [I n]) (H := H) (by rw [ints_flat]; exact hml.put (n := W.next + 1) (.cells [I g.slo, I g.klo, vl, vr] 30) (by omega)) (fun x hx => by simp only [List.mem_map] at hx; obtain ⟨y, _, rfl⟩ := hx; rfl) (by omega) (q3.imp (fun h => ⟨h.1, (flat4 h.2).1⟩) id)).1
        · exact (Mine.back (l := (lowR ds).map fun n => [I n]) (H := H) (by rw [ints_flat]; exact hmr.put (n := W.next + 1) (.cells [I g.slo, I g.klo, vl, vr] 30) (by omega)) (fun x hx => by simp only [List.mem_map] at hx; obtain ⟨y, _, rfl⟩ := hx; rfl) (by omega) (q3.imp (fun h => ⟨h.1, (flat4 h.2).2⟩) id)).1
theorem c29h (m : Nat) (cv dv : AV) (cs : List Cell) (g : Gr) (ds : List Day) (H : Heap) (hR : Row H cv 7 (cs.map Cell.c)) (hY : Row H dv 3 (ds.map Day.c)) (hn8 : cs.length ≤ 8) (hd30 : ds.length ≤ 30) : ∃ v H', RR (m + 1) (.fn 29 [.agg [cv, I g.slo, I g.shi, I g.klo, I g.khi, I g.melt], dv, .bool true]) H = some (v, H') ∧ ∃ lv rv, v = .agg [I g.shi, I g.khi, lv, rv] ∧ Ret H H' ∧ Ints H' lv (highL cs) ∧ Ints H' rv (highR ds) := by
  show ∃ v H', evFn Try.prog (RR (m + 0)) 29 [.agg [cv, I g.slo, I g.shi, I g.klo, I g.khi, I g.melt], dv, .bool true] H = some (v, H') ∧ ∃ lv rv, v = .agg [I g.shi, I g.khi, lv, rv] ∧ Ret H H' ∧ Ints H' lv (highL cs) ∧ Ints H' rv (highR ds)
  refine fn_okE Try.func29 rfl rfl (by kernel_rfl) (by kernel_rfl) ?_
  obtain ⟨W, hW⟩ : ∃ W : Heap, W = ⟨H.t, H.next, H.next⟩ := ⟨_, rfl⟩
  have hg : ∀ n, W.get n = H.get n := fun n => by rw [hW]; rfl
  have hN : W.next = H.next := by rw [hW]
  have hE : ∀ G, Grow W G → Ext H G := fun G g => ⟨by rw [← hN]; exact g.next, fun n k => by rw [g.get n (by rw [hN]; exact k), hg]⟩
  have hG : Grow W W := Grow.refl (by rw [hW]; exact Nat.le_refl _)
  rw [← hW]
  have hlc : lenOf cv = some cs.length := by simpa using hR.len
  have pc := lpl hlc
  have hld : lenOf dv = some ds.length := by simpa using hY.len
  refine Ok.seq ?_
  refine Ok.region ?_
  refine OkO.box rfl rfl ?_
  refine OkO.alloc (z := [.int .i64 0, .int .i64 0, .nils, .nils]) rfl (by kernel_rfl) ?_
  refine OkO.nil ?_
  refine Ok.seq ?_
  refine Ok.region ?_
  refine OkO.fieldAddr (o := 1) rfl (by kernel_rfl) rfl ?_
  refine OkO.fieldAddr (o := 0) rfl (by kernel_rfl) rfl ?_
  refine OkO.load rfl rfl (lda (n := 1) (by kernel_rfl) (by first | assumption | (simp (disch := first | omega | (simp only [hNw, hPt]; omega)) only [gn0, gn1, gn2, gn3, gn4, gn5, gp0, gno, gpo] <;> first | rfl | assumption)) (by first | rfl | assumption)) ?_
  refine OkO.fieldAddr (o := 3) rfl (by kernel_rfl) rfl ?_
  refine OkO.fieldAddr (o := 0) rfl (by kernel_rfl) rfl ?_
  refine OkO.load rfl rfl (lda (n := 1) (by kernel_rfl) (by first | assumption | (simp (disch := first | omega | (simp only [hNw, hPt]; omega)) only [gn0, gn1, gn2, gn3, gn4, gn5, gp0, gno, gpo] <;> first | rfl | assumption)) (by first | rfl | assumption)) ?_
  refine OkO.build (z := [.int .i64 0, .int .i64 0, .nils, .nils]) (pl := [(0, 1), (1, 1), (2, 1), (3, 1)]) rfl (by kernel_rfl) rfl rfl ?_
  refine OkO.alloc (z := [.int .i64 0, .int .i64 0, .nils, .nils]) rfl (by kernel_rfl) ?_
  refine OkO.store rfl rfl rfl (stc (n := 4) (ag := true) (by kernel_rfl) (by first | assumption | (simp (disch := first | omega | (simp only [hNw, hPt]; omega)) only [gn0, gn1, gn2, gn3, gn4, gn5, gp0, gno, gpo] <;> first | rfl | assumption)) rfl rfl (by first | rfl | exact spl_set _ _ _ (by first | assumption | (simp; omega)))) ?_
  refine OkO.nil ?_
  refine Ok.seq ?_
  refine Ok.seq ?_
  refine Ok.region ?_
  refine OkO.move rfl rfl ?_
  refine OkO.nil ?_
  refine Ok.cond rfl (fun h1 => ?_) (fun h1 => ?_)
  · -- yes h1
    refine Ok.region ?_
    refine OkO.fieldAddr (o := 1) rfl (by kernel_rfl) rfl ?_
    refine OkO.fieldAddr (o := 1) rfl (by kernel_rfl) rfl ?_
    refine OkO.load rfl rfl (lda (n := 1) (by kernel_rfl) (by first | assumption | (simp (disch := first | omega | (simp only [hNw, hPt]; omega)) only [gn0, gn1, gn2, gn3, gn4, gn5, gp0, gno, gpo] <;> first | rfl | assumption)) (by first | rfl | assumption)) ?_
    refine OkO.fieldAddr (o := 3) rfl (by kernel_rfl) rfl ?_
    refine OkO.fieldAddr (o := 1) rfl (by kernel_rfl) rfl ?_
    refine OkO.load rfl rfl (lda (n := 1) (by kernel_rfl) (by first | assumption | (simp (disch := first | omega | (simp only [hNw, hPt]; omega)) only [gn0, gn1, gn2, gn3, gn4, gn5, gp0, gno, gpo] <;> first | rfl | assumption)) (by first | rfl | assumption)) ?_
    refine OkO.build (z := [.int .i64 0, .int .i64 0, .nils, .nils]) (pl := [(0, 1), (1, 1), (2, 1), (3, 1)]) rfl (by kernel_rfl) rfl rfl ?_
    refine OkO.store rfl rfl rfl (stc (n := 4) (ag := true) (by kernel_rfl) (by first | assumption | (simp (disch := first | omega | (simp only [hNw, hPt]; omega)) only [gn0, gn1, gn2, gn3, gn4, gn5, gp0, gno, gpo] <;> first | rfl | assumption)) rfl rfl (by first | rfl | exact spl_set _ _ _ (by first | assumption | (simp; omega)))) ?_
    refine OkO.nil ?_
    refine Ok.seq ?_
    refine Ok.seq ?_
    refine Ok.region ?_
    refine OkO.assign rfl rfl ?_
    refine OkO.nil ?_
    refine Ok.block ?_
    refine Ok.loop (fun n s => ∃ (i : Nat) (vl vr : AV), n = cs.length - i ∧ i ≤ cs.length ∧ Mine (W.next + 3) s.H vl 3 1 (((highL cs).take i).map I) ∧ Mine (W.next + 3) s.H vr 3 1 (((highR ds).take 0).map I) ∧ (∀ b m m', vl = .opn b m → vr ≠ .opn b m') ∧ Has 7 [(1, dv), (2, .bool true), (3, .ptr W.next 0), (6, .ptr (W.next + 1) 0), (7, .ptr (W.next + 2) 0), (8, I (i : Int))] s.T ∧ s.D = [] ∧ Grow W s.H ∧ s.H.get W.next = some (.cells [cv, I g.slo, I g.shi, I g.klo, I g.khi, I g.melt] 26) ∧ s.H.get (W.next + 1) = some (.cells [I 0, I 0, .nils, .nils] 30) ∧ s.H.get (W.next + 2) = some (.cells [I g.shi, I g.khi, vl, vr] 30) ∧ W.next + 3 ≤ s.H.next) (cs.length) (by unfold loopFuel; omega)
      ⟨0, .nils, .nils, rfl, Nat.zero_le _, Mine.nil _ _ _ _, Mine.nil _ _ _ _, nofun, Has.of (by kernel_rfl), rfl, (by (try dsimp only); repeat (first | exact hG | apply Grow.new | (refine Grow.put ?_ _ (by first | omega | (simp only [hNw, hPt]; omega))))), (by simp (disch := first | omega | (simp only [hNw, hPt]; omega)) only [gn0, gn1, gn2, gn3, gn4, gn5, gp0, gno, gpo] <;> first | rfl | assumption), (by first | exact gn1 _ _ _ | simp (disch := first | omega | (simp only [hNw, hPt]; omega)) only [gn0, gn1, gn2, gn3, gn4, gn5, gp0, gno, gpo] <;> first | rfl | assumption), by first | exact gp0 _ _ _ | (simp (disch := first | omega | (simp only [hNw, hPt]; omega)) only [gn0, gn1, gn2, gn3, gn4, gn5, gp0, gno, gpo] <;> first | rfl | assumption), by simp only [hNw, hPt]; omega⟩ ?_
    rintro n ⟨T, D, G⟩ ⟨i, vl, vr, hn, hi, hml, hmr, hsep, ⟨f, hT⟩, hD, hg, f0, f1, f3, hb4⟩
    dsimp only at *
    subst hT hD
    have hgn := hg.next
    have e0 : (G.get W.next).bind AObj.cs = some [cv, I g.slo, I g.shi, I g.klo, I g.khi, I g.melt] := by rw [f0]; rfl
    have e3 : (G.get (W.next + 2)).bind AObj.cs = some [I g.shi, I g.khi, vl, vr] := by rw [f3]; rfl
    obtain ⟨ll, hll, _⟩ := hml.len
    obtain ⟨lr, hlr, _⟩ := hmr.len
    refine Ok.seq ?_
    refine Ok.seq ?_
    refine Ok.region ?_
    refine OkO.move rfl rfl ?_
    refine OkO.fieldAddr (o := 0) rfl (by kernel_rfl) rfl ?_
    refine OkO.load rfl rfl (lda (n := 1) (by kernel_rfl) (by first | assumption | (simp (disch := first | omega | (simp only [hNw, hPt]; omega)) only [gn0, gn1, gn2, gn3, gn4, gn5, gp0, gno, gpo] <;> first | rfl | assumption)) (by first | rfl | assumption)) ?_
    refine OkO.builtin rfl rfl rfl (bln (by kernel_rfl) (by first | assumption | rfl)) ?_
    refine OkO.bin rfl rfl rfl (bin_lss _ _) ?_
    refine OkO.nil ?_
    refine Ok.cond rfl (fun h2 => ?_) (fun h2 => ?_)
    · -- yes h2
      have hlt : i < cs.length := by simpa using h2
      obtain ⟨bb, off, ccs, i1, i2w, i3, i4⟩ := (hR.ext (hE W hG)).at_ i cs[i].c (by simp [hlt])
      have i2 : (G.get bb).bind AObj.cs = some ccs := by rw [hg.get _ i4]; exact i2w
      have i4g : bb < G.next := by omega
      have i5 : ccs[off + 0 + 0]? = some (I cs[i].lo) := by rw [show off + 0 + 0 = off + 0 from rfl]; exact seg_get i3 0 (by omega)
      have i6 : ccs[off + 0 + 1]? = some (I cs[i].hi) := by rw [Nat.add_zero]; exact seg_get i3 1 (by omega)
      refine Ok.skip ?_
      refine Ok.seq ?_
      refine Ok.block ?_
      refine Ok.seq ?_
      refine Ok.region ?_
      refine OkO.fieldAddr (o := 0) rfl (by kernel_rfl) rfl ?_
      refine OkO.load rfl rfl (lda (n := 1) (by kernel_rfl) (by first | assumption | (simp (disch := first | omega | (simp only [hNw, hPt]; omega)) only [gn0, gn1, gn2, gn3, gn4, gn5, gp0, gno, gpo] <;> first | rfl | assumption)) (by first | rfl | assumption)) ?_
      refine OkO.move rfl rfl ?_
      refine OkO.index (sz := 7) (n := i) rfl rfl rfl (by kernel_rfl) (by first | assumption | rfl | exact slAt_slice (by omega)) ?_ -- index ('Go.Operand.tmp', 35) ('Go.Operand.tmp', 36)
      refine OkO.fieldAddr (o := 0) rfl (by kernel_rfl) rfl ?_
      refine OkO.fieldAddr (o := 0) rfl (by kernel_rfl) rfl ?_
      refine OkO.load rfl rfl (lda (n := 1) (by kernel_rfl) (by first | assumption | (simp (disch := first | omega | (simp only [hNw, hPt]; omega)) only [gn0, gn1, gn2, gn3, gn4, gn5, gp0, gno, gpo] <;> first | rfl | assumption)) (by first | rfl | assumption)) ?_
      refine OkO.assign rfl rfl ?_
      refine OkO.nil ?_
      refine Ok.seq ?_
      refine Ok.seq ?_
      refine Ok.region ?_
      refine OkO.move rfl rfl ?_
      refine OkO.nil ?_
      refine Ok.cond rfl (fun h3 => ?_) (fun h3 => ?_)
      · -- yes h3
        refine Ok.region ?_
        refine OkO.fieldAddr (o := 0) rfl (by kernel_rfl) rfl ?_
        refine OkO.load rfl rfl (lda (n := 1) (by kernel_rfl) (by first | assumption | (simp (disch := first | omega | (simp only [hNw, hPt]; omega)) only [gn0, gn1, gn2, gn3, gn4, gn5, gp0, gno, gpo] <;> first | rfl | assumption)) (by first | rfl | assumption)) ?_
        refine OkO.move rfl rfl ?_
        refine OkO.index (sz := 7) (n := i) rfl rfl rfl (by kernel_rfl) (by first | assumption | rfl | exact slAt_slice (by omega)) ?_ -- index ('Go.Operand.tmp', 43) ('Go.Operand.tmp', 44)
        refine OkO.fieldAddr (o := 0) rfl (by kernel_rfl) rfl ?_
        refine OkO.fieldAddr (o := 1) rfl (by kernel_rfl) rfl ?_
        refine OkO.load rfl rfl (lda (n := 1) (by kernel_rfl) (by first | assumption | (simp (disch := first | omega | (simp only [hNw, hPt]; omega)) only [gn0, gn1, gn2, gn3, gn4, gn5, gp0, gno, gpo] <;> first | rfl | assumption)) (by first | rfl | assumption)) ?_
        refine OkO.assign rfl rfl ?_
        refine OkO.nil ?_
        refine Ok.region ?_
        refine OkO.fieldAddr (o := 2) rfl (by kernel_rfl) rfl ?_
        refine OkO.load rfl rfl (lda (n := 1) (by kernel_rfl) (by first | assumption | (simp (disch := first | omega | (simp only [hNw, hPt]; omega)) only [gn0, gn1, gn2, gn3, gn4, gn5, gp0, gno, gpo] <;> first | rfl | assumption)) (by first | rfl | assumption)) ?_
        refine OkO.move rfl rfl ?_
        refine OkO.buildSlice (el := 3) (sz := 1) (z := [.int .i64 0]) rfl (by kernel_rfl) (by decide) rfl rfl ?_
        refine OkO.builtinE rfl rfl rfl (Mine.app2 (W := W) (k0 := W.next + 3) (sz := 1) (by_ := 8) (e := 3) (n := 1) (new := [I cs[i].hi]) (hml.to (Grow.toNew G _)) (hg.new _) (by omega) (by simp only [hNw]; omega) (by kernel_rfl) (by kernel_rfl) (elems_new (n := 1) (sz := 1) rfl) rfl rfl (by rw [List.length_map, List.length_take]; omega) (by omega) (by omega) rfl) ?_
        rintro v2 G2 ⟨q1, q2, q3, q4, q5, q6⟩
        simp only [hNw] at q4 q5 q6
        obtain ⟨mm, hv2⟩ := q6
        have z0 : G2.get (W.next) = some (.cells [cv, I g.slo, I g.shi, I g.klo, I g.khi, I g.melt] 26) := by rw [q3.get _ (by omega) (by simp only [hNw]; omega), gno _ _ _ (by omega)]; exact f0
        have y0 : (G2.get (W.next)).bind AObj.cs = some [cv, I g.slo, I g.shi, I g.klo, I g.khi, I g.melt] := by rw [z0]; rfl
        have z1 : G2.get (W.next + 1) = some (.cells [I 0, I 0, .nils, .nils] 30) := by rw [q3.get _ (by omega) (by simp only [hNw]; omega), gno _ _ _ (by omega)]; exact f1
        have y1 : (G2.get (W.next + 1)).bind AObj.cs = some [I 0, I 0, .nils, .nils] := by rw [z1]; rfl
        have z2 : G2.get (W.next + 2) = some (.cells [I g.shi, I g.khi, vl, vr] 30) := by rw [q3.get _ (by omega) (by simp only [hNw]; omega), gno _ _ _ (by omega)]; exact f3
        have y2 : (G2.get (W.next + 2)).bind AObj.cs = some [I g.shi, I g.khi, vl, vr] := by rw [z2]; rfl
        have hmo : Mine (W.next + 3) G2 vr 3 1 _ := (hmr.to (Grow.toNew G _)).keep (w := vl) (fun j h1 h2 => q4 j (by simpa using h1) h2) (fun b m m' h1 h2 => hsep b m' m h2 h1) (by simp only [hNw]; omega)
        have hs2 : ∀ b m m', v2 = .opn b m → vr ≠ .opn b m' := fun b m m' h1 h2 => by rw [hv2] at h1; have e9 := (AV.opn.inj h1).1; have := hmr.lt h2; omega
        have iw : (G2.get bb).bind AObj.cs = some ccs := by rw [q2.get _ i4]; exact i2w
        obtain ⟨bb2, hbb2⟩ : ∃ bb2, bb2 = G.next + 1 := ⟨_, rfl⟩
        rw [← hbb2] at hv2
        subst hv2
        refine OkO.fieldAddr (o := 2) rfl (by kernel_rfl) rfl ?_
        refine OkO.store rfl rfl rfl (stc (n := 1) (ag := false) (by kernel_rfl) (by first | assumption | (simp (disch := first | omega | (simp only [hNw, hPt]; omega)) only [gn0, gn1, gn2, gn3, gn4, gn5, gp0, gno, gpo] <;> first | rfl | assumption)) rfl rfl (by first | rfl | exact spl_set _ _ _ (by first | assumption | (simp; omega)))) ?_
        refine OkO.nil ?_
        refine Ok.region ?_
        refine OkO.move rfl rfl ?_
        refine OkO.bin rfl rfl rfl (bin_add (by omega) (by omega)) ?_
        refine OkO.assign rfl rfl ?_
        refine OkO.nil ?_
        refine ⟨cs.length - (i + 1), by omega, i + 1, .opn bb2 mm, vr, rfl, hlt, ?_, ?_, hs2, Has.of (by kernel_rfl), rfl, q2.put _ (by omega), by rw [gpo _ _ _ _ (by omega)]; exact z0, by rw [gpo _ _ _ _ (by omega)]; exact z1, gp0 _ _ _, by simp only [hPt]; omega⟩
        · have ee : ((highL cs).take (i + 1)).map I = ((highL cs).take i).map I ++ [I cs[i].hi] := by rw [List.take_succ_eq_append_getElem (by simp [highL]; omega), List.map_append]; simp [highL]
          rw [ee]; exact q1.put _ (by omega)
        · exact hmo.put _ (by omega)
      · -- no h3
        exact absurd h3 (by simp)
    · -- no h2
      have hge : i = cs.length := by simp at h2; omega
      subst hge
      have hml : Mine (W.next + 3) G vl 3 1 ((highL cs).map I) := by rw [List.take_of_length_le (by simp [highL])] at hml; exact hml
      refine Ok.exit ?_
      refine Ok.seq ?_
      refine Ok.seq ?_
      refine Ok.region ?_
      refine OkO.assign rfl rfl ?_
      refine OkO.nil ?_
      refine Ok.block ?_
      refine Ok.loop (fun n s => ∃ (i : Nat) (vl vr : AV), n = ds.length - i ∧ i ≤ ds.length ∧ Mine (W.next + 3) s.H vl 3 1 ((highL cs).map I) ∧ Mine (W.next + 3) s.H vr 3 1 (((highR ds).take i).map I) ∧ (∀ b m m', vl = .opn b m → vr ≠ .opn b m') ∧ Has 7 [(1, dv), (2, .bool true), (3, .ptr W.next 0), (6, .ptr (W.next + 1) 0), (7, .ptr (W.next + 2) 0), (10, I (i : Int))] s.T ∧ s.D = [] ∧ Grow W s.H ∧ s.H.get W.next = some (.cells [cv, I g.slo, I g.shi, I g.klo, I g.khi, I g.melt] 26) ∧ s.H.get (W.next + 1) = some (.cells [I 0, I 0, .nils, .nils] 30) ∧ s.H.get (W.next + 2) = some (.cells [I g.shi, I g.khi, vl, vr] 30) ∧ W.next + 3 ≤ s.H.next) (ds.length) (by unfold loopFuel; omega)
        ⟨0, vl, vr, rfl, Nat.zero_le _, hml, hmr, hsep, Has.of (by kernel_rfl), rfl, hg, f0, f1, f3, hb4⟩ ?_
      rintro n ⟨T, D, G⟩ ⟨i, vl, vr, hn, hi, hml, hmr, hsep, ⟨f, hT⟩, hD, hg, f0, f1, f3, hb4⟩
      dsimp only at *
      subst hT hD
      have hgn := hg.next
      have e0 : (G.get W.next).bind AObj.cs = some [cv, I g.slo, I g.shi, I g.klo, I g.khi, I g.melt] := by rw [f0]; rfl
      have e3 : (G.get (W.next + 2)).bind AObj.cs = some [I g.shi, I g.khi, vl, vr] := by rw [f3]; rfl
      obtain ⟨ll, hll, _⟩ := hml.len
      obtain ⟨lr, hlr, _⟩ := hmr.len
      refine Ok.seq ?_
      refine Ok.seq ?_
      refine Ok.region ?_
      refine OkO.move rfl rfl ?_
      refine OkO.move rfl rfl ?_
      refine OkO.builtin rfl rfl rfl (bln (by kernel_rfl) (by first | assumption | rfl)) ?_
      refine OkO.bin rfl rfl rfl (bin_lss _ _) ?_
      refine OkO.nil ?_
      refine Ok.cond rfl (fun h4 => ?_) (fun h4 => ?_)
      · -- yes h4
        have hlt : i < ds.length := by simpa using h4
        obtain ⟨bb, off, ccs, i1, i2w, i3, i4⟩ := (hY.ext (hE W hG)).at_ i ds[i].c (by simp [hlt])
        have i2 : (G.get bb).bind AObj.cs = some ccs := by rw [hg.get _ i4]; exact i2w
        have i4g : bb < G.next := by omega
        have i5 : ccs[off + 0 + 0]? = some (I ds[i].lo) := by rw [show off + 0 + 0 = off + 0 from rfl]; exact seg_get i3 0 (by omega)
        have i6 : ccs[off + 0 + 1]? = some (I ds[i].hi) := by rw [Nat.add_zero]; exact seg_get i3 1 (by omega)
        refine Ok.skip ?_
        refine Ok.seq ?_
        refine Ok.block ?_
        refine Ok.seq ?_
        refine Ok.region ?_
        refine OkO.move rfl rfl ?_
        refine OkO.move rfl rfl ?_
        refine OkO.index (sz := 3) (n := i) rfl rfl rfl (by kernel_rfl) (by first | assumption | rfl | exact slAt_slice (by omega)) ?_ -- index ('Go.Operand.tmp', 61) ('Go.Operand.tmp', 62)
        refine OkO.fieldAddr (o := 0) rfl (by kernel_rfl) rfl ?_
        refine OkO.fieldAddr (o := 0) rfl (by kernel_rfl) rfl ?_
        refine OkO.load rfl rfl (lda (n := 1) (by kernel_rfl) (by first | assumption | (simp (disch := first | omega | (simp only [hNw, hPt]; omega)) only [gn0, gn1, gn2, gn3, gn4, gn5, gp0, gno, gpo] <;> first | rfl | assumption)) (by first | rfl | assumption)) ?_
        refine OkO.assign rfl rfl ?_
        refine OkO.nil ?_
        refine Ok.seq ?_
        refine Ok.seq ?_
        refine Ok.region ?_
        refine OkO.move rfl rfl ?_
        refine OkO.nil ?_
        refine Ok.cond rfl (fun h5 => ?_) (fun h5 => ?_)
        · -- yes h5
          refine Ok.region ?_
          refine OkO.move rfl rfl ?_
          refine OkO.move rfl rfl ?_
          refine OkO.index (sz := 3) (n := i) rfl rfl rfl (by kernel_rfl) (by first | assumption | rfl | exact slAt_slice (by omega)) ?_ -- index ('Go.Operand.tmp', 68) ('Go.Operand.tmp', 69)
          refine OkO.fieldAddr (o := 0) rfl (by kernel_rfl) rfl ?_
          refine OkO.fieldAddr (o := 1) rfl (by kernel_rfl) rfl ?_
          refine OkO.load rfl rfl (lda (n := 1) (by kernel_rfl) (by first | assumption | (simp (disch := first | omega | (simp only [hNw, hPt]; omega)) only [gn0, gn1, gn2, gn3, gn4, gn5, gp0, gno, gpo] <;> first | rfl | assumption)) (by first | rfl | assumption)) ?_
          refine OkO.assign rfl rfl ?_
          refine OkO.nil ?_
          refine Ok.region ?_
          refine OkO.fieldAddr (o := 3) rfl (by kernel_rfl) rfl ?_
          refine OkO.load rfl rfl (lda (n := 1) (by kernel_rfl) (by first | assumption | (simp (disch := first | omega | (simp only [hNw, hPt]; omega)) only [gn0, gn1, gn2, gn3, gn4, gn5, gp0, gno, gpo] <;> first | rfl | assumption)) (by first | rfl | assumption)) ?_
          refine OkO.move rfl rfl ?_
          refine OkO.buildSlice (el := 3) (sz := 1) (z := [.int .i64 0]) rfl (by kernel_rfl) (by decide) rfl rfl ?_
          refine OkO.builtinE rfl rfl rfl (Mine.app2 (W := W) (k0 := W.next + 3) (sz := 1) (by_ := 8) (e := 3) (n := 1) (new := [I ds[i].hi]) (hmr.to (Grow.toNew G _)) (hg.new _) (by omega) (by simp only [hNw]; omega) (by kernel_rfl) (by kernel_rfl) (elems_new (n := 1) (sz := 1) rfl) rfl rfl (by rw [List.length_map, List.length_take]; omega) (by omega) (by omega) rfl) ?_
          rintro v2 G2 ⟨q1, q2, q3, q4, q5, q6⟩
          simp only [hNw] at q4 q5 q6
          obtain ⟨mm, hv2⟩ := q6
          have z0 : G2.get (W.next) = some (.cells [cv, I g.slo, I g.shi, I g.klo, I g.khi, I g.melt] 26) := by rw [q3.get _ (by omega) (by simp only [hNw]; omega), gno _ _ _ (by omega)]; exact f0
          have y0 : (G2.get (W.next)).bind AObj.cs = some [cv, I g.slo, I g.shi, I g.klo, I g.khi, I g.melt] := by rw [z0]; rfl
          have z1 : G2.get (W.next + 1) = some (.cells [I 0, I 0, .nils, .nils] 30) := by rw [q3.get _ (by omega) (by simp only [hNw]; omega), gno _ _ _ (by omega)]; exact f1
          have y1 : (G2.get (W.next + 1)).bind AObj.cs = some [I 0, I 0, .nils, .nils] := by rw [z1]; rfl
          have z2 : G2.get (W.next + 2) = some (.cells [I g.shi, I g.khi, vl, vr] 30) := by rw [q3.get _ (by omega) (by simp only [hNw]; omega), gno _ _ _ (by omega)]; exact f3
          have y2 : (G2.get (W.next + 2)).bind AObj.cs = some [I g.shi, I g.khi, vl, vr] := by rw [z2]; rfl
          have hmo : Mine (W.next + 3) G2 vl 3 1 _ := (hml.to (Grow.toNew G _)).keep (w := vr) (fun j h1 h2 => q4 j (by simpa using h1) h2) (fun b m m' h1 h2 => hsep b m m' h1 h2) (by simp only [hNw]; omega)
          have hs2 : ∀ b m m', vl = .opn b m → v2 ≠ .opn b m' := fun b m m' h1 h2 => by rw [hv2] at h2; have e9 := (AV.opn.inj h2).1; have := hml.lt h1; omega
          have iw : (G2.get bb).bind AObj.cs = some ccs := by rw [q2.get _ i4]; exact i2w
          obtain ⟨bb2, hbb2⟩ : ∃ bb2, bb2 = G.next + 1 := ⟨_, rfl⟩
          rw [← hbb2] at hv2
          subst hv2
          refine OkO.fieldAddr (o := 3) rfl (by kernel_rfl) rfl ?_
          refine OkO.store rfl rfl rfl (stc (n := 1) (ag := false) (by kernel_rfl) (by first | assumption | (simp (disch := first | omega | (simp only [hNw, hPt]; omega)) only [gn0, gn1, gn2, gn3, gn4, gn5, gp0, gno, gpo] <;> first | rfl | assumption)) rfl rfl (by first | rfl | exact spl_set _ _ _ (by first | assumption | (simp; omega)))) ?_
          refine OkO.nil ?_
          refine Ok.region ?_
          refine OkO.move rfl rfl ?_
          refine OkO.bin rfl rfl rfl (bin_add (by omega) (by omega)) ?_
          refine OkO.assign rfl rfl ?_
          refine OkO.nil ?_
          refine ⟨ds.length - (i + 1), by omega, i + 1, vl, .opn bb2 mm, rfl, hlt, ?_, ?_, hs2, Has.of (by kernel_rfl), rfl, q2.put _ (by omega), by rw [gpo _ _ _ _ (by omega)]; exact z0, by rw [gpo _ _ _ _ (by omega)]; exact z1, gp0 _ _ _, by simp only [hPt]; omega⟩
          · exact hmo.put _ (by omega)
          · have ee : ((highR ds).take (i + 1)).map I = ((highR ds).take i).map I ++ [I ds[i].hi] := by rw [List.take_succ_eq_append_getElem (by simp [highR]; omega), List.map_append]; simp [highR]
            rw [ee]; exact q1.put _ (by omega)
        · -- no h5
          exact absurd h5 (by simp)
      · -- no h4
        have hge : i = ds.length := by simp at h4; omega
        subst hge
        have hmr : Mine (W.next + 3) G vr 3 1 ((highR ds).map I) := by rw [List.take_of_length_le (by simp [highR])] at hmr; exact hmr
        obtain ⟨l1, l2⟩ := hml.one
        obtain ⟨r1, r2⟩ := hmr.one
        refine Ok.exit ?_
        refine Ok.seq ?_
        refine Ok.region ?_
        refine OkO.load rfl rfl (ldg (n := 4) (by kernel_rfl) (by first | assumption | (simp (disch := first | omega | (simp only [hNw, hPt]; omega)) only [gn0, gn1, gn2, gn3, gn4, gn5, gp0, gno, gpo] <;> first | rfl | assumption)) (by first | rfl | assumption)) ?_
        refine OkO.store rfl rfl rfl (stc (n := 4) (ag := true) (l := [I g.shi, I g.khi, vl, vr]) (by kernel_rfl) (by first | assumption | simp (disch := first | omega | (simp only [hNw, hPt]; omega)) only [gn0, gn1, gn2, gn3, gn4, gn5, gp0, gno, gpo] <;> first | rfl | assumption) rfl (by show atoms [I g.shi, I g.khi, vl, vr] = true; simp [atoms, l2, r2, show ∀ z, (I z).atom = true from fun _ => rfl]) rfl) ?_
        refine OkO.nil ?_
        refine Ok.ret ⟨.inr rfl, ?_⟩
        refine back_newA (resV_cell (b := W.next + 1) (off := 0) rfl (ldg (n := 4) (by kernel_rfl) (show ((G.put (W.next + 1) (.cells [I g.shi, I g.khi, vl, vr] 30)).get (W.next + 1)).bind AObj.cs = some [I g.shi, I g.khi, vl, vr] by rw [gp0]; rfl) rfl) resV_nil) rfl (by rw [← hW]; exact hg.put _ (by omega)) (fun H2 q2 q3 => ⟨vl, vr, rfl, q2, ?_, ?_⟩)
        · exact (Mine.back (l := (highL cs).map fun n => [I n]) (H := H) (by rw [ints_flat]; exact hml.put (n := W.next + 1) (.cells [I g.shi, I g.khi, vl, vr] 30) (by omega)) (fun x hx => by simp only [List.mem_map] at hx; obtain ⟨y, _, rfl⟩ := hx; rfl) (by omega) (q3.imp (fun h => ⟨h.1, (flat4 h.2).1⟩) id)).1
        · exact (Mine.back (l := (highR ds).map fun n => [I n]) (H := H) (by rw [ints_flat]; exact hmr.put (n := W.next + 1) (.cells [I g.shi, I g.khi, vl, vr] 30) (by omega)) (fun x hx => by simp only [List.mem_map] at hx; obtain ⟨y, _, rfl⟩ := hx; rfl) (by omega) (q3.imp (fun h => ⟨h.1, (flat4 h.2).2⟩) id)).1
  · -- no h1
    exact absurd h1 (by simp)
end
end Go.Ev
