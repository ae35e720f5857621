/-
  Functions of the program, reckoned by the evaluator: what each answers, and that it leaves what came in as it was.
-/
import Derived.Test.YtfhomicfhgiidaaPt28
import Derived.Test.YtfhomicfhgiidaaPt27
set_option maxRecDepth 100000
set_option linter.unusedSimpArgs false
set_option linter.unusedVariables false
namespace Go.Ev
open Go Go.Proofs
noncomputable section
/-- What ProveLeast answers: yes only where no surface is below. -/
theorem c38U (m : Nat) (cv tv : AV) (cols : List (List Bed)) (fa : Int) (L : Nat) (TT : List (List (List Int))) (H : Heap) (hM : Mat H cv cols) (hT : Tab H tv TT) (hTl : TT.length ≤ 1000) (hRl : ∀ R ∈ TT, R.length ≤ 1000) (hll : ∀ R ∈ TT, ∀ l ∈ R, l.length ≤ 1000) (hv : slOk cols (L : Int) = true) (hf : 0 ≤ fa ∧ fa ≤ 10000) : ∃ v H', RR (m + 10) (.fn 38 [.agg [cv, I (L : Int)], I fa, tv]) H = some (v, H') ∧ ∃ bb : Bool, v = .bool bb ∧ H = H' ∧ (bb = true → belowB cols.length (cols.headD []).length (L : Int) (prC cols fa) = false) := by
  have hsf := slOk_facts hv
  cases hsh : shapeB cols.length (cols.headD []).length (L : Int) TT with
  | false => exact ⟨_, _, c38S m cv tv cols fa L TT H hM hT hTl hRl hll hv hf hsh, false, rfl, rfl, fun h => by cases h⟩
  | true =>
    obtain ⟨v, H', h1, bb, h2, h3, h4⟩ := c38 m cv tv cols fa L TT H hM hT hTl hRl hll hv hf hsh
    exact ⟨v, H', h1, bb, h2, h3.symm, fun h => proved_sound (tabP_proved (by omega) (h4.1 h)) (by omega)⟩
theorem c38G (m : Nat) (cv tv : AV) (cols : List (List Bed)) (fa : Int) (L : Nat) (H : Heap) (hM : Mat H cv cols) (hv : slOk cols (L : Int) = true) (hf : 0 ≤ fa ∧ fa ≤ 10000) (hb : belowB cols.length (cols.headD []).length (L : Int) (prC cols fa) = false) (hT : Tab H tv (tabL (prC cols fa) cols.length (cols.headD []).length L)) : RR (m + 10) (.fn 38 [.agg [cv, I (L : Int)], I fa, tv]) H = some (.bool true, H) := by
  have hsf := slOk_facts hv
  have hBB := prC_bd (bedsOk_of hv) hf
  have hl : ∀ R ∈ tabL (prC cols fa) cols.length (cols.headD []).length L, R.length = cols.length ∧ ∀ l ∈ R, l.length = (cols.headD []).length := fun R hR => by
    obtain ⟨r, _, rfl⟩ := List.mem_map.1 hR
    refine ⟨by simp [rowL], fun l hl => ?_⟩
    obtain ⟨c, _, rfl⟩ := List.mem_map.1 hl
    simp [colL]
  obtain ⟨v, H', h1, bb, h2, h3, h4⟩ := c38 m cv tv cols fa L _ H hM hT (by simp [tabL]; omega) (fun R hR => by rw [(hl R hR).1]; omega) (fun R hR l hl2 => by rw [(hl R hR).2 l hl2]; omega) hv hf (tabL_shape hBB (by omega))
  have h5 : bb = true := h4.2 (tF_tab hBB (by omega) (by omega) hb fun r c k hr hc hk => tabL_at hr hc hk)
  rw [h1, h2, h3, h5]
theorem bin4n (x y : Bool) : binT Try.prog .neq 4 (.bool x) (.bool y) = some (.bool (!(x == y))) := by kernel_rfl
set_option maxHeartbeats 2000000 in
theorem c11P (m : Nat) (cv wv tv : AV) (cols : List (List Bed)) (L : Nat) (fw : Int) (ws : List Int) (TT : List (List (List Int))) (H : Heap) (hM : Mat H cv cols) (hWs : Row H wv 1 (ws.map fun w => [U8 w])) (hws : Upto 255 ws) (hfw : 0 ≤ fw ∧ fw ≤ 65535) (hT : Tab H tv TT) (hT5 : TT.length ≤ 5) (hth : thinB cols = true) (hv : slOk cols (L : Int) = true) (hlc : (L : Int) ≤ cols.length) (hrd : readyS cols (L : Int) = true) (hcase : ¬ NoneAt cols (cols.headD []).length (L : Int)) (hbf : belowB cols.length (cols.headD []).length (L : Int) (prC cols (fw % 10001)) = false) (hre : reachE cols (L : Int) (fw % 10001) = 0) : RR (m + 212) (.fn 11 [.agg [cv, I (L : Int)], wv, U16 fw, tv]) H = some (.bool true, H) := by
  refine (R_fn _ _ _ _ _).trans ?_
  refine fn_ok Try.func11 rfl rfl (by kernel_rfl) (by kernel_rfl) ?_
  obtain ⟨W, hW, hg, hN, hE, hG⟩ := wOf H
  rw [← hW]
  have pc : cv.plain = true := by obtain ⟨vs, hR, _, _⟩ := hM; exact lpl hR.len
  have hlT := hT.len
  have ptv : tv.plain = true := lpl hlT
  have pwv : wv.plain = true := lpl hWs.len
  have hsf := slOk_facts hv
  have hfm1 := Int.emod_nonneg fw (b := 10001) (by omega)
  have hfm2 := Int.emod_lt_of_pos fw (b := 10001) (by omega)
  refine Ok.seq ?_
  refine Ok.region ?_
  refine OkO.box rfl rfl ?_
  refine OkO.assign rfl rfl ?_
  refine OkO.nil ?_
  refine Ok.seq ?_
  refine Ok.seq ?_
  refine Ok.region ?_
  refine OkO.load rfl rfl (ldg (n := 2) (by kernel_rfl) (by first | assumption | (simp (disch := first | omega | (simp only [hNw, hPt]; omega)) only [gN] <;> first | rfl | assumption | exact gp0 _ _ _ | exact gn0 _ _)) (by first | rfl | assumption)) ?_
  refine OkO.callV rfl rfl rfl rfl rfl ((c51 (m + 208) cv cols (L : Int) _ (hM.ext (hE _ (by (try dsimp only); repeat (first | exact hG | apply Grow.new | (refine Grow.put ?_ _ (by first | omega | (simp only [hNw, hPt]; omega)))))))).trans (by rw [hrd])) ?_
  refine OkO.un rfl rfl rfl ?_
  refine OkO.move rfl rfl ?_
  refine OkO.move rfl rfl ?_
  refine OkO.builtin rfl rfl rfl (bln (by kernel_rfl) (by first | assumption | rfl)) ?_
  refine OkO.bin rfl rfl rfl ((bin_gtr _ _).trans (congrArg (fun b => some (AV.bool b)) (show _ = false from (by rw [decide_eq_false_iff_not]; omega)))) ?_
  refine OkO.pick (b := false) rfl rfl nofun (fun _ => rfl) ?_
  refine OkO.nil ?_
  refine Ok.condF rfl ?_
  refine Ok.skip ?_
  refine Ok.seq ?_
  refine Ok.seq ?_
  refine Ok.region ?_
  refine OkO.assign rfl rfl ?_
  refine OkO.nil ?_
  refine Ok.block ?_
  obtain ⟨G6, hG6⟩ : ∃ G6, G6 = W.new (.cells [cv, I (L : Int)] 24) := ⟨_, rfl⟩
  have e6 : (G6.get W.next).bind AObj.cs = some [cv, I (L : Int)] := by rw [hG6, gn0]; rfl
  have g6 : Grow W G6 := by rw [hG6]; exact hG.new _
  have n6 : W.next + 1 ≤ G6.next := by rw [hG6]; simp
  refine Ok.loop (fun n9 s_ => ∃ i : Nat, n9 = TT.length - i ∧ i ≤ TT.length ∧ (∀ R ∈ TT.take i, (R.length ≤ 15 ∧ ∀ l ∈ R, l.length ≤ 8)) ∧ Has 8 [(1, wv), (2, U16 fw), (3, tv), (4, .ptr W.next 0), (9, I (i : Int))] s_.T ∧ s_.D = [] ∧ G6 = s_.H) (TT.length) (by unfold loopFuel; omega)
    ⟨0, rfl, Nat.zero_le _, (fun R h => absurd h (by simp)), Has.of (by kernel_rfl), rfl, hG6⟩ ?_
  rintro nn_ ⟨T, D, G⟩ ⟨i, hn9_, hi, hOK, ⟨f_, hTT⟩, hD, hgE⟩
  dsimp only at *
  subst hTT hD
  skip
  subst hgE
  refine Ok.seq ?_
  refine Ok.seq ?_
  refine Ok.region ?_
  refine OkO.move rfl rfl ?_
  refine OkO.move rfl rfl ?_
  refine OkO.builtin rfl rfl rfl (bln (by kernel_rfl) (by first | assumption | rfl)) ?_
  refine OkO.bin rfl rfl rfl (bin_lss _ _) ?_
  refine OkO.nil ?_
  refine Ok.cond rfl (fun h1 => ?_) (fun h1 => ?_)
  · -- yes h1
    have hlt : i < TT.length := by simpa using h1
    obtain ⟨xr, rb, ro, rcs, t1, t2, t3, t4, t5⟩ := (hT.ext (hE _ g6)).get i hlt
    have lq := t5.len
    have pxr : xr.plain = true := lpl lq
    refine Ok.skip ?_
    refine Ok.seq ?_
    refine Ok.block ?_
    refine Ok.seq ?_
    refine Ok.seq ?_
    refine Ok.region ?_
    refine OkO.move rfl rfl ?_
    refine OkO.move rfl rfl ?_
    refine OkO.index (sz := 1) (n := i) rfl rfl rfl (by kernel_rfl) (by first | assumption | rfl | exact slAt_slice (by omega) | exact slAt_opn (by omega)) ?_
    refine OkO.load rfl rfl (lda (n := 1) (by kernel_rfl) (by first | assumption | (simp (disch := first | omega | (simp only [hNw, hPt]; omega)) only [gN] <;> first | rfl | assumption | exact gp0 _ _ _ | exact gn0 _ _)) (by first | rfl | assumption)) ?_
    refine OkO.builtin rfl rfl rfl (bln (by kernel_rfl) (by first | assumption | rfl)) ?_
    refine OkO.bin rfl rfl rfl (bin_gtr _ _) ?_
    refine OkO.nil ?_
    refine Ok.cond rfl (fun h2 => ?_) (fun h2 => ?_)
    · -- yes h2
      refine Ok.seq ?_
      refine Ok.region ?_
      refine OkO.callV rfl rfl rfl rfl rfl (rfl) ?_
      refine OkO.assign rfl rfl ?_
      refine OkO.nil ?_
      refine Ok.ret ⟨.inr rfl, ?_⟩
      exact back_flat rfl rfl rfl (by rw [← hW]; exact g6)
    · -- no h2
      have hl15 : TT[i].length ≤ 15 := by (have h9 : ¬ (15 : Int) < (TT[i].length : Int) := by simpa using h2); omega
      refine Ok.skip ?_
      refine Ok.seq ?_
      refine Ok.region ?_
      refine OkO.assign rfl rfl ?_
      refine OkO.nil ?_
      refine Ok.block ?_
      refine Ok.loop (fun n8 s_ => ∃ j : Nat, n8 = TT[i].length - j ∧ j ≤ TT[i].length ∧ (∀ l ∈ TT[i].take j, l.length ≤ 8) ∧ Has 8 [(1, wv), (2, U16 fw), (3, tv), (4, .ptr W.next 0), (9, I (i : Int)), (10, I (j : Int))] s_.T ∧ s_.D = [] ∧ G6 = s_.H) (TT[i].length) (by unfold loopFuel; omega)
        ⟨0, rfl, Nat.zero_le _, (fun l h => absurd h (by simp)), Has.of (by kernel_rfl), rfl, rfl⟩ ?_
      rintro nn_ ⟨T, D, G⟩ ⟨j, hn8_, hj, hOKj, ⟨f2_, hTT⟩, hD, hgE⟩
      dsimp only at *
      subst hTT hD
      skip
      subst hgE
      refine Ok.seq ?_
      refine Ok.seq ?_
      refine Ok.region ?_
      refine OkO.move rfl rfl ?_
      refine OkO.move rfl rfl ?_
      refine OkO.move rfl rfl ?_
      refine OkO.index (sz := 1) (n := i) rfl rfl rfl (by kernel_rfl) (by first | assumption | rfl | exact slAt_slice (by omega) | exact slAt_opn (by omega)) ?_
      refine OkO.load rfl rfl (lda (n := 1) (by kernel_rfl) (by first | assumption | (simp (disch := first | omega | (simp only [hNw, hPt]; omega)) only [gN] <;> first | rfl | assumption | exact gp0 _ _ _ | exact gn0 _ _)) (by first | rfl | assumption)) ?_
      refine OkO.builtin rfl rfl rfl (bln (by kernel_rfl) (by first | assumption | rfl)) ?_
      refine OkO.bin rfl rfl rfl (bin_lss _ _) ?_
      refine OkO.nil ?_
      refine Ok.cond rfl (fun h3 => ?_) (fun h3 => ?_)
      · -- yes h3
        have hlt2 : j < TT[i].length := by simpa using h3
        obtain ⟨xl, cb, co, ccs, s1, s2, s3, s4, s5⟩ := t5.get j hlt2
        have lq2 := Row.len s5
        rw [List.length_map] at lq2
        have pxl : xl.plain = true := lpl lq2
        refine Ok.skip ?_
        refine Ok.seq ?_
        refine Ok.block ?_
        refine Ok.seq ?_
        refine Ok.region ?_
        refine OkO.move rfl rfl ?_
        refine OkO.move rfl rfl ?_
        refine OkO.index (sz := 1) (n := i) rfl rfl rfl (by kernel_rfl) (by first | assumption | rfl | exact slAt_slice (by omega) | exact slAt_opn (by omega)) ?_
        refine OkO.load rfl rfl (lda (n := 1) (by kernel_rfl) (by first | assumption | (simp (disch := first | omega | (simp only [hNw, hPt]; omega)) only [gN] <;> first | rfl | assumption | exact gp0 _ _ _ | exact gn0 _ _)) (by first | rfl | assumption)) ?_
        refine OkO.move rfl rfl ?_
        refine OkO.index (sz := 1) (n := j) rfl rfl rfl (by kernel_rfl) (by first | assumption | rfl | exact slAt_slice (by omega) | exact slAt_opn (by omega)) ?_
        refine OkO.load rfl rfl (lda (n := 1) (by kernel_rfl) (by first | assumption | (simp (disch := first | omega | (simp only [hNw, hPt]; omega)) only [gN] <;> first | rfl | assumption | exact gp0 _ _ _ | exact gn0 _ _)) (by first | rfl | assumption)) ?_
        refine OkO.builtin rfl rfl rfl (bln (by kernel_rfl) (by first | assumption | rfl)) ?_
        refine OkO.bin rfl rfl rfl (bin_gtr _ _) ?_
        refine OkO.nil ?_
        refine Ok.cond rfl (fun h4 => ?_) (fun h4 => ?_)
        · -- yes h4
          refine Ok.seq ?_
          refine Ok.region ?_
          refine OkO.callV rfl rfl rfl rfl rfl (rfl) ?_
          refine OkO.assign rfl rfl ?_
          refine OkO.nil ?_
          refine Ok.ret ⟨.inr rfl, ?_⟩
          exact back_flat rfl rfl rfl (by rw [← hW]; exact g6)
        · -- no h4
          have hl8 : TT[i][j].length ≤ 8 := by (have h9 : ¬ (8 : Int) < (TT[i][j].length : Int) := by simpa using h4); omega
          refine Ok.skip ?_
          refine Ok.region ?_
          refine OkO.move rfl rfl ?_
          refine OkO.bin rfl rfl rfl (bin_add (by omega) (by omega)) ?_
          refine OkO.assign rfl rfl ?_
          refine OkO.nil ?_
          refine ⟨TT[i].length - (j + 1), by omega, j + 1, rfl, by omega, fun l hl => ?_, Has.of (by kernel_rfl), rfl, rfl⟩
          rw [List.take_succ_eq_append_getElem hlt2, List.mem_append, List.mem_singleton] at hl
          rcases hl with hl | hl
          · exact hOKj l hl
          · rw [hl]; exact hl8
      · -- no h3
        have hge2 : j = TT[i].length := by (have h9 : ¬ j < TT[i].length := by simpa using h3); omega
        rw [hge2, List.take_length] at hOKj
        have hOKl := hOKj
        refine Ok.exit ?_
        refine Ok.region ?_
        refine OkO.move rfl rfl ?_
        refine OkO.bin rfl rfl rfl (bin_add (by omega) (by omega)) ?_
        refine OkO.assign rfl rfl ?_
        refine OkO.nil ?_
        refine ⟨TT.length - (i + 1), by omega, i + 1, rfl, by omega, fun R hR => ?_, Has.of (by kernel_rfl), rfl, rfl⟩
        rw [List.take_succ_eq_append_getElem hlt, List.mem_append, List.mem_singleton] at hR
        rcases hR with hR | hR
        · exact hOK R hR
        · rw [hR]; exact ⟨hl15, hOKl⟩
  · -- no h1
    have hge : i = TT.length := by (have h9 : ¬ i < TT.length := by simpa using h1); omega
    rw [hge, List.take_length] at hOK
    refine Ok.exit ?_
    refine Ok.seq ?_
    refine Ok.region ?_
    refine OkO.move rfl rfl ?_
    refine OkO.convert (k := .i64) rfl (by kernel_rfl) rfl (wrapF_i64 (by omega) (by omega)) ?_
    refine OkO.bin rfl rfl rfl (bin_rem (by omega) (by omega)) ?_
    refine OkO.assign rfl rfl ?_
    refine OkO.nil ?_
    refine Ok.seq ?_
    refine Ok.drawn [(0, true, []), (2, true, []), (3, true, []), (10, true, [2, 0]), (1, false, [2]), (4, false, [0]), (5, false, [2, 0]), (6, false, [2, 0]), (7, true, []), (8, true, []), (9, true, []), (11, false, []), (12, true, [])] (by kernel_rfl) ?_
    refine OkP.step ?_
    refine OkO.load rfl rfl (ldg (n := 2) (by kernel_rfl) (by first | assumption | (simp (disch := first | omega | (simp only [hNw, hPt]; omega)) only [gN] <;> first | rfl | assumption | exact gp0 _ _ _ | exact gn0 _ _)) (by first | rfl | assumption)) ?_
    refine OkO.nil ⟨rfl, ?_⟩
    refine OkP.step ?_
    refine OkO.load rfl rfl (ldg (n := 2) (by kernel_rfl) (by first | assumption | (simp (disch := first | omega | (simp only [hNw, hPt]; omega)) only [gN] <;> first | rfl | assumption | exact gp0 _ _ _ | exact gn0 _ _)) (by first | rfl | assumption)) ?_
    refine OkO.nil ⟨rfl, ?_⟩
    refine OkP.step ?_
    refine OkO.move rfl rfl ?_
    refine OkO.nil ⟨rfl, ?_⟩
    refine OkP.step ?_
    refine OkO.alloc (z := [.int .i64 0, .int .i64 0]) rfl (by kernel_rfl) ?_
    refine OkO.nil ⟨(sco (sld rfl rfl (ldg (n := 2) (by kernel_rfl) (by first | assumption | (simp (disch := first | omega | (simp only [hNw, hPt]; omega)) only [gN] <;> first | rfl | assumption | exact gp0 _ _ _ | exact gn0 _ _)) (by first | rfl | assumption)) rfl (eqr _ (by first | rfl | exact lpl (by assumption) | (simp [AV.plain, AV.plains, AV.cells, pc])))) (sco (sld rfl rfl (ldg (n := 2) (by kernel_rfl) (by first | assumption | (simp (disch := first | omega | (simp only [hNw, hPt]; omega)) only [gN] <;> first | rfl | assumption | exact gp0 _ _ _ | exact gn0 _ _)) (by first | rfl | assumption)) rfl (eqr _ (by first | rfl | exact lpl (by assumption) | (simp [AV.plain, AV.plains, AV.cells, pc])))) rfl)), ?_⟩
    refine OkP.step ?_
    refine OkO.callE rfl rfl rfl rfl rfl (c19 (m + 209) cv cols (L : Int) _ (hM.ext (hE _ (by (try dsimp only); repeat (first | exact g6 | apply Grow.new | (refine Grow.put ?_ _ (by first | omega | (simp only [hNw, hPt]; omega))))))) hth) ?_
    rintro _ Ha1 ⟨cv1, rfl, qa1, fa1⟩
    have n1 := qa1.ext.next
    try simp only [hNw, hPt] at n1
    have gg1 : Grow W Ha1 := Grow.ret (by (try dsimp only); repeat (first | exact g6 | apply Grow.new | (refine Grow.put ?_ _ (by first | omega | (simp only [hNw, hPt]; omega))))) qa1
    have a1 : (Ha1.get (W.next)).bind AObj.cs = some [cv, I (L : Int)] := by rw [qa1.ext.get _ (by first | omega | (simp only [hNw, hPt]; omega))]; first | assumption | (rw [gn0]; rfl) | (rw [get_put_eq] <;> rfl) | (simp (disch := first | omega | (simp only [hNw, hPt]; omega)) only [gN] <;> first | rfl | assumption | (rw [get_put_eq] <;> rfl))
    have o121 : Ha1.get (G6.next) = some (.cells [I 0, I 0] 47) := by rw [qa1.ext.get _ (by first | omega | (simp only [hNw, hPt]; omega))]; first | assumption | exact gn0 _ _ | (simp (disch := first | omega | (simp only [hNw, hPt]; omega)) only [gN] <;> first | rfl | assumption | exact gp0 _ _ _ | exact gn0 _ _)
    have ma1 := fa1.now (Nat.le_refl _)
    have pc1 : cv1.plain = true := by obtain ⟨vs, hR, _, _⟩ := ma1; exact lpl hR.len
    refine OkO.nil ⟨(sco (sld rfl rfl (ldg (n := 2) (by kernel_rfl) (by first | assumption | (simp (disch := first | omega | (simp only [hNw, hPt]; omega)) only [gN] <;> first | rfl | assumption | exact gp0 _ _ _ | exact gn0 _ _)) (by first | rfl | assumption)) rfl (eqr _ (by first | rfl | exact lpl (by assumption) | (simp [AV.plain, AV.plains, AV.cells, pc])))) rfl), ?_⟩
    refine OkP.step ?_
    refine OkO.callE rfl rfl rfl rfl rfl (c52 (m + 209) (cols.headD []).length cv wv cols (L : Int) ws _ (hM.ext (hE _ (by (try dsimp only); repeat (first | exact gg1 | apply Grow.new | (refine Grow.put ?_ _ (by first | omega | (simp only [hNw, hPt]; omega))))))) (hWs.ext (hE _ (by (try dsimp only); repeat (first | exact gg1 | apply Grow.new | (refine Grow.put ?_ _ (by first | omega | (simp only [hNw, hPt]; omega))))))) hws hv rfl hlc) ?_
    rintro v52 H52 ⟨fr, us, bu, rfl, q52, m52, nn52, hs, hlu⟩
    have n2 := q52.ext.next
    try simp only [hNw, hPt] at n2
    have gg2 : Grow W H52 := Grow.ret (by (try dsimp only); repeat (first | exact gg1 | apply Grow.new | (refine Grow.put ?_ _ (by first | omega | (simp only [hNw, hPt]; omega))))) q52
    have a2 : (H52.get (W.next)).bind AObj.cs = some [cv, I (L : Int)] := by rw [q52.ext.get _ (by first | omega | (simp only [hNw, hPt]; omega))]; first | assumption | (rw [gn0]; rfl) | (rw [get_put_eq] <;> rfl) | (simp (disch := first | omega | (simp only [hNw, hPt]; omega)) only [gN] <;> first | rfl | assumption | (rw [get_put_eq] <;> rfl))
    have o122 : H52.get (G6.next) = some (.cells [I 0, I 0] 47) := by rw [q52.ext.get _ (by first | omega | (simp only [hNw, hPt]; omega))]; first | assumption | exact gn0 _ _ | (simp (disch := first | omega | (simp only [hNw, hPt]; omega)) only [gN] <;> first | rfl | assumption | exact gp0 _ _ _ | exact gn0 _ _)
    have exHa12 : Ext Ha1 H52 := Ext.trans (by (try dsimp only); repeat (first | exact Ext.refl _ | exact Ext.refl _ | apply Ext.new | (refine Ext.put ?_ _ (by first | omega | (simp only [hNw, hPt]; omega))))) q52.ext
    have hone : bu.cells = [bu] ∧ bu.atom = true := m52.one
    have hU : Row H52 bu 1 (us.map fun (k : Nat) => [I (k : Int)]) := Mine.row (by rw [flatN]; exact m52) (fun x hx => by simp only [List.mem_map] at hx; obtain ⟨y, _, rfl⟩ := hx; rfl) (by omega)
    have pbu := lpl hU.len
    have hs4 : fr + us.length ≤ cols.length := hs.2.2.2
    have hsp := span_W hv hs
    obtain ⟨sa, sb, se, hspv⟩ : ∃ sa sb se, spW cols fr us = (sa, sb, se) := ⟨_, _, _, rfl⟩
    rw [hspv] at hsp
    have hcs : (1 ≤ drive (bedsW cols fr us) ∧ sa = facW cols fr us ∧ se = 0) ∨ (¬ 1 ≤ drive (bedsW cols fr us) ∧ se = 7) := by (unfold spW at hspv); (split at hspv); (· cases hspv; exact .inl ⟨by assumption, rfl, rfl⟩); (· cases hspv; exact .inr ⟨by assumption, rfl⟩)
    refine OkO.nil ⟨(sco (sld rfl rfl (ldg (n := 2) (by kernel_rfl) (by first | assumption | (simp (disch := first | omega | (simp only [hNw, hPt]; omega)) only [gN] <;> first | rfl | assumption | exact gp0 _ _ _ | exact gn0 _ _)) (by first | rfl | assumption)) rfl (eqr _ (by first | rfl | exact lpl (by assumption) | (simp [AV.plain, AV.plains, AV.cells, pc])))) rfl), ?_⟩
    refine OkP.step ?_
    refine OkO.callE rfl rfl rfl rfl rfl (c21 (m + 209) bu (fr : Int) (ofN us) _ (ints_N (hU.ext (by (try dsimp only); repeat (first | exact Ext.refl _ | exact Ext.refl _ | apply Ext.new | (refine Ext.put ?_ _ (by first | omega | (simp only [hNw, hPt]; omega))))))) (by rw [ofN_len]; omega)) ?_
    rintro _ Hb1 ⟨bu1, rfl, qb1, fb1⟩
    have n3 := qb1.ext.next
    try simp only [hNw, hPt] at n3
    have gg3 : Grow W Hb1 := Grow.ret (by (try dsimp only); repeat (first | exact gg2 | apply Grow.new | (refine Grow.put ?_ _ (by first | omega | (simp only [hNw, hPt]; omega))))) qb1
    have a3 : (Hb1.get (W.next)).bind AObj.cs = some [cv, I (L : Int)] := by rw [qb1.ext.get _ (by first | omega | (simp only [hNw, hPt]; omega))]; first | assumption | (rw [gn0]; rfl) | (rw [get_put_eq] <;> rfl) | (simp (disch := first | omega | (simp only [hNw, hPt]; omega)) only [gN] <;> first | rfl | assumption | (rw [get_put_eq] <;> rfl))
    have o123 : Hb1.get (G6.next) = some (.cells [I 0, I 0] 47) := by rw [qb1.ext.get _ (by first | omega | (simp only [hNw, hPt]; omega))]; first | assumption | exact gn0 _ _ | (simp (disch := first | omega | (simp only [hNw, hPt]; omega)) only [gN] <;> first | rfl | assumption | exact gp0 _ _ _ | exact gn0 _ _)
    have exHa13 : Ext Ha1 Hb1 := Ext.trans (by (try dsimp only); repeat (first | exact exHa12 | exact Ext.refl _ | apply Ext.new | (refine Ext.put ?_ _ (by first | omega | (simp only [hNw, hPt]; omega))))) qb1.ext
    have exH523 : Ext H52 Hb1 := Ext.trans (by (try dsimp only); repeat (first | exact Ext.refl _ | exact Ext.refl _ | apply Ext.new | (refine Ext.put ?_ _ (by first | omega | (simp only [hNw, hPt]; omega))))) qb1.ext
    have ib1 := fb1.now (Nat.le_refl _)
    have pbu1 : bu1.plain = true := lpl ib1.1.len
    refine OkO.nil ⟨(sco (sld rfl rfl (ldg (n := 2) (by kernel_rfl) (by first | assumption | (simp (disch := first | omega | (simp only [hNw, hPt]; omega)) only [gN] <;> first | rfl | assumption | exact gp0 _ _ _ | exact gn0 _ _)) (by first | rfl | assumption)) rfl (eqr _ (by first | rfl | exact lpl (by assumption) | (simp [AV.plain, AV.plains, AV.cells, pc])))) (sco (sld rfl rfl (ldg (n := 2) (by kernel_rfl) (by first | assumption | (simp (disch := first | omega | (simp only [hNw, hPt]; omega)) only [gN] <;> first | rfl | assumption | exact gp0 _ _ _ | exact gn0 _ _)) (by first | rfl | assumption)) rfl (eqr _ (by first | rfl | exact lpl (by assumption) | (simp [AV.plain, AV.plains, AV.cells, pc])))) rfl)), ?_⟩
    refine OkP.step ?_
    have h27 := c27 (m + 202) cv1 bu1 cols (L : Int) (fr : Int) (ofN us) Hb1 (ma1.ext (by (try dsimp only); repeat (first | exact exHa13 | exact Ext.refl _ | apply Ext.new | (refine Ext.put ?_ _ (by first | omega | (simp only [hNw, hPt]; omega)))))) ib1.1 ib1.2 (by rw [ofN_len]; omega)
    rw [hsp] at h27
    refine OkO.callV rfl rfl rfl rfl rfl (h27) ?_
    refine OkO.nil ⟨(sco (sld rfl rfl (ldg (n := 2) (by kernel_rfl) (by first | assumption | (simp (disch := first | omega | (simp only [hNw, hPt]; omega)) only [gN] <;> first | rfl | assumption | exact gp0 _ _ _ | exact gn0 _ _)) (by first | rfl | assumption)) rfl (eqr _ (by first | rfl | exact lpl (by assumption) | (simp [AV.plain, AV.plains, AV.cells, pc])))) (sco (sld rfl rfl (ldg (n := 2) (by kernel_rfl) (by first | assumption | (simp (disch := first | omega | (simp only [hNw, hPt]; omega)) only [gN] <;> first | rfl | assumption | exact gp0 _ _ _ | exact gn0 _ _)) (by first | rfl | assumption)) rfl (eqr _ (by first | rfl | exact lpl (by assumption) | (simp [AV.plain, AV.plains, AV.cells, pc])))) rfl)), ?_⟩
    refine OkP.step ?_
    refine OkO.move rfl rfl ?_
    refine OkO.nil ⟨rfl, ?_⟩
    refine OkP.step ?_
    refine OkO.extract rfl rfl rfl ?_
    refine OkO.nil ⟨rfl, ?_⟩
    refine OkP.step ?_
    refine OkO.extract rfl rfl rfl ?_
    refine OkO.nil ⟨rfl, ?_⟩
    refine OkP.step ?_
    refine OkO.store rfl rfl rfl (sAc (n := 2) (ag := true) (by kernel_rfl) (by first | assumption | (simp (disch := first | omega | (simp only [hNw, hPt]; omega)) only [gN] <;> first | rfl | assumption | exact gp0 _ _ _ | exact gn0 _ _)) rfl (by first | rfl | assumption | exact at31) (by first | rfl | exact spl_set _ _ _ (by first | assumption | omega | (simp; omega)))) ?_
    refine OkO.nil ⟨rfl, ?_⟩
    refine OkP.step ?_
    refine OkO.assign rfl rfl ?_
    refine OkO.nil ⟨rfl, ?_⟩
    refine OkP.nil ?_
    refine Ok.seq ?_
    refine Ok.region ?_
    refine OkO.load rfl rfl (ldg (n := 2) (by kernel_rfl) (by first | assumption | (simp (disch := first | omega | (simp only [hNw, hPt]; omega)) only [gN] <;> first | rfl | assumption | exact gp0 _ _ _ | exact gn0 _ _)) (by first | rfl | assumption)) ?_
    refine OkO.callE rfl rfl rfl rfl rfl (c19 (m + 209) cv cols (L : Int) _ (hM.ext (hE _ (by (try dsimp only); repeat (first | exact gg3 | apply Grow.new | (refine Grow.put ?_ _ (by first | omega | (simp only [hNw, hPt]; omega))))))) hth) ?_
    rintro _ Ha2 ⟨cv2, rfl, qa2, fa2⟩
    have n4 := qa2.ext.next
    try simp only [hNw, hPt] at n4
    have gg4 : Grow W Ha2 := Grow.ret (by (try dsimp only); repeat (first | exact gg3 | apply Grow.new | (refine Grow.put ?_ _ (by first | omega | (simp only [hNw, hPt]; omega))))) qa2
    have a4 : (Ha2.get (W.next)).bind AObj.cs = some [cv, I (L : Int)] := by rw [qa2.ext.get _ (by first | omega | (simp only [hNw, hPt]; omega))]; first | assumption | (rw [gn0]; rfl) | (rw [get_put_eq] <;> rfl) | (simp (disch := first | omega | (simp only [hNw, hPt]; omega)) only [gN] <;> first | rfl | assumption | (rw [get_put_eq] <;> rfl))
    have s124 : (Ha2.get (G6.next)).bind AObj.cs = some [I sa, I sb] := by rw [qa2.ext.get _ (by first | omega | (simp only [hNw, hPt]; omega))]; first | assumption | (rw [gn0]; rfl) | (rw [get_put_eq] <;> rfl) | (simp (disch := first | omega | (simp only [hNw, hPt]; omega)) only [gN] <;> first | rfl | assumption | (rw [get_put_eq] <;> rfl))
    have ma2 := fa2.now (Nat.le_refl _)
    have pc2 : cv2.plain = true := by obtain ⟨vs, hR, _, _⟩ := ma2; exact lpl hR.len
    refine OkO.callE rfl rfl rfl rfl rfl (c31' m cv2 cols (L : Int) _ ma2 hv) ?_
    rintro _ Hw ⟨qw, x31, y31, z31, e31, rfl, at31, hd31⟩
    have n5 := qw.ext.next
    try simp only [hNw, hPt] at n5
    have gg5 : Grow W Hw := Grow.ret (by (try dsimp only); repeat (first | exact gg4 | apply Grow.new | (refine Grow.put ?_ _ (by first | omega | (simp only [hNw, hPt]; omega))))) qw
    have a5 : (Hw.get (W.next)).bind AObj.cs = some [cv, I (L : Int)] := by rw [qw.ext.get _ (by first | omega | (simp only [hNw, hPt]; omega))]; first | assumption | (rw [gn0]; rfl) | (rw [get_put_eq] <;> rfl) | (simp (disch := first | omega | (simp only [hNw, hPt]; omega)) only [gN] <;> first | rfl | assumption | (rw [get_put_eq] <;> rfl))
    have s125 : (Hw.get (G6.next)).bind AObj.cs = some [I sa, I sb] := by rw [qw.ext.get _ (by first | omega | (simp only [hNw, hPt]; omega))]; first | assumption | (rw [gn0]; rfl) | (rw [get_put_eq] <;> rfl) | (simp (disch := first | omega | (simp only [hNw, hPt]; omega)) only [gN] <;> first | rfl | assumption | (rw [get_put_eq] <;> rfl))
    have exHa25 : Ext Ha2 Hw := Ext.trans (by (try dsimp only); repeat (first | exact Ext.refl _ | exact Ext.refl _ | apply Ext.new | (refine Ext.put ?_ _ (by first | omega | (simp only [hNw, hPt]; omega))))) qw.ext
    have w31 := worstIs_of hd31
    have hwb := worst_below (fa := fw % 10001) (bedsOk_of hv) w31 (by omega)
    obtain ⟨he31, fr2, us2, hx31, my31, hyn, hLow⟩ : e31 = 0 ∧ ∃ (fr : Nat) (us : List Nat), x31 = I (fr : Int) ∧ Mine Ha2.next Hw y31 3 1 (us.map fun (k : Nat) => I (k : Int)) ∧ y31 ≠ .nils ∧ LowAt cols (cols.headD []).length (L : Int) z31 fr us := by (rcases hd31 with h | ⟨_, _, _, _, _, h⟩); (· exact h); (· exact absurd h hcase)
    subst he31 hx31
    have hU2 : Row Hw y31 1 (us2.map fun (k : Nat) => [I (k : Int)]) := Mine.row (by rw [flatN]; exact my31) (fun x hx => by simp only [List.mem_map] at hx; obtain ⟨y, _, rfl⟩ := hx; rfl) (by omega)
    have hcut2 : Cut Hw y31 1 := my31.cut
    have py31 := lpl hU2.len
    have hone2 := my31.one
    have hs2 := hLow.1
    have hsp2 := span_W hv hs2
    obtain ⟨sb2, hspv2⟩ : ∃ sb2, spW cols fr2 us2 = (z31, sb2, 0) := by (unfold spW); (rw [if_pos hLow.2.1, hLow.2.2.1]); exact ⟨_, rfl⟩
    rw [hspv2] at hsp2
    have hul2 : us2.length ≤ 1000 := by (have h9 := hs2.2.2.2); omega
    have hzf : (fw % 10001) ≤ z31 := by (have h9 : ¬ (z31 < (fw % 10001)) := fun h => by rw [hwb.2 ⟨rfl, h⟩] at hbf; cases hbf); omega
    refine OkO.move rfl rfl ?_
    refine OkO.extract rfl rfl rfl ?_
    refine OkO.extract rfl rfl rfl ?_
    refine OkO.extract rfl rfl rfl ?_
    refine OkO.alloc (z := [.int .i64 0, .nils]) rfl (by kernel_rfl) ?_
    refine OkO.store rfl rfl rfl (sAc (n := 2) (ag := true) (by kernel_rfl) (by first | assumption | (simp (disch := first | omega | (simp only [hNw, hPt]; omega)) only [gN] <;> first | rfl | assumption | exact gp0 _ _ _ | exact gn0 _ _)) rfl (by first | rfl | assumption | exact at31) (by first | rfl | exact spl_set _ _ _ (by first | assumption | omega | (simp; omega)))) ?_
    refine OkO.assign rfl rfl ?_
    refine OkO.assign rfl rfl ?_
    refine OkO.nil ?_
    refine Ok.seq ?_
    refine Ok.region ?_
    refine OkO.load rfl rfl (ldg (n := 2) (by kernel_rfl) (by first | assumption | (simp (disch := first | omega | (simp only [hNw, hPt]; omega)) only [gN] <;> first | rfl | assumption | exact gp0 _ _ _ | exact gn0 _ _)) (by first | rfl | assumption)) ?_
    refine OkO.callE rfl rfl rfl rfl rfl (c19 (m + 209) cv cols (L : Int) _ (hM.ext (hE _ (by (try dsimp only); repeat (first | exact gg5 | apply Grow.new | (refine Grow.put ?_ _ (by first | omega | (simp only [hNw, hPt]; omega))))))) hth) ?_
    rintro _ Ha3 ⟨cv3, rfl, qa3, fa3⟩
    have n6 := qa3.ext.next
    try simp only [hNw, hPt] at n6
    have gg6 : Grow W Ha3 := Grow.ret (by (try dsimp only); repeat (first | exact gg5 | apply Grow.new | (refine Grow.put ?_ _ (by first | omega | (simp only [hNw, hPt]; omega))))) qa3
    have a6 : (Ha3.get (W.next)).bind AObj.cs = some [cv, I (L : Int)] := by rw [qa3.ext.get _ (by first | omega | (simp only [hNw, hPt]; omega))]; first | assumption | (rw [gn0]; rfl) | (rw [get_put_eq] <;> rfl) | (simp (disch := first | omega | (simp only [hNw, hPt]; omega)) only [gN] <;> first | rfl | assumption | (rw [get_put_eq] <;> rfl))
    have s126 : (Ha3.get (G6.next)).bind AObj.cs = some [I sa, I sb] := by rw [qa3.ext.get _ (by first | omega | (simp only [hNw, hPt]; omega))]; first | assumption | (rw [gn0]; rfl) | (rw [get_put_eq] <;> rfl) | (simp (disch := first | omega | (simp only [hNw, hPt]; omega)) only [gN] <;> first | rfl | assumption | (rw [get_put_eq] <;> rfl))
    have u146 : (Ha3.get (Hw.next)).bind AObj.cs = some [I (fr2 : Int), y31] := by rw [qa3.ext.get _ (by first | omega | (simp only [hNw, hPt]; omega))]; first | assumption | (rw [gn0]; rfl) | (rw [get_put_eq] <;> rfl) | (simp (disch := first | omega | (simp only [hNw, hPt]; omega)) only [gN] <;> first | rfl | assumption | (rw [get_put_eq] <;> rfl))
    have exHa26 : Ext Ha2 Ha3 := Ext.trans (by (try dsimp only); repeat (first | exact exHa25 | exact Ext.refl _ | apply Ext.new | (refine Ext.put ?_ _ (by first | omega | (simp only [hNw, hPt]; omega))))) qa3.ext
    have exHw6 : Ext Hw Ha3 := Ext.trans (by (try dsimp only); repeat (first | exact Ext.refl _ | exact Ext.refl _ | apply Ext.new | (refine Ext.put ?_ _ (by first | omega | (simp only [hNw, hPt]; omega))))) qa3.ext
    have ma3 := fa3.now (Nat.le_refl _)
    have pc3 : cv3.plain = true := by obtain ⟨vs, hR, _, _⟩ := ma3; exact lpl hR.len
    refine OkO.move rfl rfl ?_
    refine OkO.callE rfl rfl rfl rfl rfl (c36 m cv3 cols (fw % 10001) L _ ma3 hv (by omega) hre) ?_
    rintro _ Ht ⟨tv9, rfl, qt, ht9⟩
    have n7 := qt.ext.next
    try simp only [hNw, hPt] at n7
    have gg7 : Grow W Ht := Grow.ret (by (try dsimp only); repeat (first | exact gg6 | apply Grow.new | (refine Grow.put ?_ _ (by first | omega | (simp only [hNw, hPt]; omega))))) qt
    have a7 : (Ht.get (W.next)).bind AObj.cs = some [cv, I (L : Int)] := by rw [qt.ext.get _ (by first | omega | (simp only [hNw, hPt]; omega))]; first | assumption | (rw [gn0]; rfl) | (rw [get_put_eq] <;> rfl) | (simp (disch := first | omega | (simp only [hNw, hPt]; omega)) only [gN] <;> first | rfl | assumption | (rw [get_put_eq] <;> rfl))
    have s127 : (Ht.get (G6.next)).bind AObj.cs = some [I sa, I sb] := by rw [qt.ext.get _ (by first | omega | (simp only [hNw, hPt]; omega))]; first | assumption | (rw [gn0]; rfl) | (rw [get_put_eq] <;> rfl) | (simp (disch := first | omega | (simp only [hNw, hPt]; omega)) only [gN] <;> first | rfl | assumption | (rw [get_put_eq] <;> rfl))
    have u147 : (Ht.get (Hw.next)).bind AObj.cs = some [I (fr2 : Int), y31] := by rw [qt.ext.get _ (by first | omega | (simp only [hNw, hPt]; omega))]; first | assumption | (rw [gn0]; rfl) | (rw [get_put_eq] <;> rfl) | (simp (disch := first | omega | (simp only [hNw, hPt]; omega)) only [gN] <;> first | rfl | assumption | (rw [get_put_eq] <;> rfl))
    have exHa27 : Ext Ha2 Ht := Ext.trans (by (try dsimp only); repeat (first | exact exHa26 | exact Ext.refl _ | apply Ext.new | (refine Ext.put ?_ _ (by first | omega | (simp only [hNw, hPt]; omega))))) qt.ext
    have exHw7 : Ext Hw Ht := Ext.trans (by (try dsimp only); repeat (first | exact exHw6 | exact Ext.refl _ | apply Ext.new | (refine Ext.put ?_ _ (by first | omega | (simp only [hNw, hPt]; omega))))) qt.ext
    have exHa37 : Ext Ha3 Ht := Ext.trans (by (try dsimp only); repeat (first | exact Ext.refl _ | exact Ext.refl _ | apply Ext.new | (refine Ext.put ?_ _ (by first | omega | (simp only [hNw, hPt]; omega))))) qt.ext
    have lt9 := ht9.len
    have pt9 : tv9.plain = true := lpl lt9
    refine OkO.move rfl rfl ?_
    refine OkO.extract rfl rfl rfl ?_
    refine OkO.extract rfl rfl rfl ?_
    refine OkO.assign rfl rfl ?_
    refine OkO.assign rfl rfl ?_
    refine OkO.nil ?_
    refine Ok.join (fun s => Has 8 [(3, tv), (4, .ptr W.next 0), (11, I (fw % 10001)), (14, .ptr Hw.next 0), (15, I z31), (16, I 0), (17, tv9), (18, I 0)] s.T ∧ s.D = [] ∧ Ht = s.H) ?_ ?_
    · -- to the meeting
      refine Ok.seq ?_
      refine Ok.region ?_
      refine OkO.move rfl rfl ?_
      refine OkO.bin rfl rfl rfl (bin_neq _ _) ?_
      refine OkO.move rfl rfl ?_
      refine OkO.split (d := 91) rfl (fun g5 => ?_) (fun g5 => ?_)
      · -- true g5
        refine OkO.move rfl rfl ?_
        refine OkO.bin rfl rfl rfl ((bin_neq _ _).trans (congrArg (fun b => some (AV.bool b)) (show _ = false from (by (rcases hcs with h9 | h9); (· exact absurd h9.2.2 (by simpa using g5)); (· rw [h9.2]; rfl))))) ?_
        refine OkO.pick (b := true) rfl rfl (fun _ => rfl) nofun ?_
        refine OkO.move rfl rfl ?_
        refine OkO.move rfl rfl ?_
        refine OkO.bin rfl rfl rfl ((bin_neq _ _).trans (congrArg (fun b => some (AV.bool b)) (show _ = false from (by rfl)))) ?_
        refine OkO.move rfl rfl ?_
        refine OkO.skip rfl ?_
        refine OkO.skip rfl ?_
        refine OkO.pick (b := false) rfl rfl nofun (fun _ => rfl) ?_
        refine OkO.pick (b := false) rfl rfl nofun (fun _ => rfl) ?_
        refine OkO.move rfl rfl ?_
        refine OkO.move rfl rfl ?_
        refine OkO.bin rfl rfl rfl (bin_eql _ _) ?_
        refine OkO.move rfl rfl ?_
        refine OkO.split (d := 106) rfl (fun g6 => ?_) (fun g6 => ?_)
        · -- true g6
          exfalso
          have h9 : se = 0 := by simpa using g6
          exact absurd h9 (by simpa using g5)
        · -- false g6
          refine OkO.skip rfl ?_
          refine OkO.skip rfl ?_
          refine OkO.skip rfl ?_
          refine OkO.skip rfl ?_
          refine OkO.skip rfl ?_
          refine OkO.skip rfl ?_
          refine OkO.skip rfl ?_
          refine OkO.skip rfl ?_
          refine OkO.pick (b := false) rfl rfl nofun (fun _ => rfl) ?_
          refine OkO.pick (b := false) rfl rfl nofun (fun _ => rfl) ?_
          refine OkO.nil ?_
          refine Ok.condF rfl ?_
          refine Ok.skip ?_
          exact ⟨rfl, Has.of (by kernel_rfl), rfl, rfl⟩
      · -- false g5
        refine OkO.skip rfl ?_
        refine OkO.skip rfl ?_
        refine OkO.pick (b := false) rfl rfl nofun (fun _ => rfl) ?_
        refine OkO.move rfl rfl ?_
        refine OkO.move rfl rfl ?_
        refine OkO.bin rfl rfl rfl ((bin_neq _ _).trans (congrArg (fun b => some (AV.bool b)) (show _ = false from (by rfl)))) ?_
        refine OkO.move rfl rfl ?_
        refine OkO.skip rfl ?_
        refine OkO.skip rfl ?_
        refine OkO.pick (b := false) rfl rfl nofun (fun _ => rfl) ?_
        refine OkO.pick (b := false) rfl rfl nofun (fun _ => rfl) ?_
        refine OkO.move rfl rfl ?_
        refine OkO.move rfl rfl ?_
        refine OkO.bin rfl rfl rfl (bin_eql _ _) ?_
        refine OkO.move rfl rfl ?_
        refine OkO.split (d := 106) rfl (fun g7 => ?_) (fun g7 => ?_)
        · -- true g7
          refine OkO.move rfl rfl ?_
          refine OkO.bin rfl rfl rfl ((bin_neq _ _).trans (congrArg (fun b => some (AV.bool b)) (show _ = false from (by rfl)))) ?_
          refine OkO.move rfl rfl ?_
          refine OkO.fieldAddr (o := 0) rfl (by kernel_rfl) rfl ?_
          refine OkO.load rfl rfl (lda (n := 1) (by kernel_rfl) (by first | assumption | (simp (disch := first | omega | (simp only [hNw, hPt]; omega)) only [gN] <;> first | rfl | assumption | exact gp0 _ _ _ | exact gn0 _ _)) (by first | rfl | assumption)) ?_
          refine OkO.move rfl rfl ?_
          refine OkO.bin rfl rfl rfl ((bin_lss _ _).trans (congrArg (fun b => some (AV.bool b)) (show _ = false from (by rw [decide_eq_false_iff_not]; (rcases hcs with h9 | h9); (· (have h8 := hLow.2.2.2 fr us hs h9.1); (have h7 := h9.2.1); omega); (· (have h8 := h9.2); (have h7 : se = 0 := by simpa using g7); omega))))) ?_
          refine OkO.pick (b := false) rfl rfl nofun (fun _ => rfl) ?_
          refine OkO.pick (b := true) rfl rfl (fun _ => rfl) nofun ?_
          refine OkO.pick (b := false) rfl rfl nofun (fun _ => rfl) ?_
          refine OkO.nil ?_
          refine Ok.condF rfl ?_
          refine Ok.skip ?_
          exact ⟨rfl, Has.of (by kernel_rfl), rfl, rfl⟩
        · -- false g7
          refine OkO.skip rfl ?_
          refine OkO.skip rfl ?_
          refine OkO.skip rfl ?_
          refine OkO.skip rfl ?_
          refine OkO.skip rfl ?_
          refine OkO.skip rfl ?_
          refine OkO.skip rfl ?_
          refine OkO.skip rfl ?_
          refine OkO.pick (b := false) rfl rfl nofun (fun _ => rfl) ?_
          refine OkO.pick (b := false) rfl rfl nofun (fun _ => rfl) ?_
          refine OkO.nil ?_
          refine Ok.condF rfl ?_
          refine Ok.skip ?_
          exact ⟨rfl, Has.of (by kernel_rfl), rfl, rfl⟩
    · -- behind it
      rintro ⟨T, D, G⟩ ⟨⟨f9_, hTT⟩, hD, hGG⟩
      dsimp only at *
      subst hTT hD
      subst hGG
      refine Ok.seq ?_
      refine Ok.seq ?_
      refine Ok.region ?_
      refine OkO.move rfl rfl ?_
      refine OkO.bin rfl rfl rfl ((bin_eql _ _).trans (congrArg (fun b => some (AV.bool b)) (show _ = true from (by rfl)))) ?_
      refine OkO.nil ?_
      refine Ok.condT rfl ?_
      refine Ok.seq ?_
      refine Ok.drawn [(0, true, []), (2, true, []), (7, true, [2, 0]), (1, false, [2]), (3, false, [0]), (4, true, []), (5, true, []), (6, true, []), (8, false, []), (9, true, [])] (by kernel_rfl) ?_
      refine OkP.step ?_
      refine OkO.load rfl rfl (ldg (n := 2) (by kernel_rfl) (by first | assumption | (simp (disch := first | omega | (simp only [hNw, hPt]; omega)) only [gN] <;> first | rfl | assumption | exact gp0 _ _ _ | exact gn0 _ _)) (by first | rfl | assumption)) ?_
      refine OkO.nil ⟨rfl, ?_⟩
      refine OkP.step ?_
      refine OkO.load rfl rfl (ldg (n := 2) (by kernel_rfl) (by first | assumption | (simp (disch := first | omega | (simp only [hNw, hPt]; omega)) only [gN] <;> first | rfl | assumption | exact gp0 _ _ _ | exact gn0 _ _)) (by first | rfl | assumption)) ?_
      refine OkO.nil ⟨rfl, ?_⟩
      refine OkP.step ?_
      refine OkO.alloc (z := [.int .i64 0, .int .i64 0]) rfl (by kernel_rfl) ?_
      refine OkO.nil ⟨(sco (sld rfl rfl (ldg (n := 2) (by kernel_rfl) (by first | assumption | (simp (disch := first | omega | (simp only [hNw, hPt]; omega)) only [gN] <;> first | rfl | assumption | exact gp0 _ _ _ | exact gn0 _ _)) (by first | rfl | assumption)) rfl (eqr _ (by first | rfl | exact lpl (by assumption) | (simp [AV.plain, AV.plains, AV.cells, pc, py31])))) (sco (sld rfl rfl (ldg (n := 2) (by kernel_rfl) (by first | assumption | (simp (disch := first | omega | (simp only [hNw, hPt]; omega)) only [gN] <;> first | rfl | assumption | exact gp0 _ _ _ | exact gn0 _ _)) (by first | rfl | assumption)) rfl (eqr _ (by first | rfl | exact lpl (by assumption) | (simp [AV.plain, AV.plains, AV.cells, pc, py31])))) rfl)), ?_⟩
      refine OkP.step ?_
      refine OkO.callE rfl rfl rfl rfl rfl (c19 (m + 209) cv cols (L : Int) _ (hM.ext (hE _ (by (try dsimp only); repeat (first | exact gg7 | apply Grow.new | (refine Grow.put ?_ _ (by first | omega | (simp only [hNw, hPt]; omega))))))) hth) ?_
      rintro _ Ha4 ⟨cv4, rfl, qa4, fa4⟩
      have n8 := qa4.ext.next
      try simp only [hNw, hPt] at n8
      have gg8 : Grow W Ha4 := Grow.ret (by (try dsimp only); repeat (first | exact gg7 | apply Grow.new | (refine Grow.put ?_ _ (by first | omega | (simp only [hNw, hPt]; omega))))) qa4
      have a8 : (Ha4.get (W.next)).bind AObj.cs = some [cv, I (L : Int)] := by rw [qa4.ext.get _ (by first | omega | (simp only [hNw, hPt]; omega))]; first | assumption | (rw [gn0]; rfl) | (rw [get_put_eq] <;> rfl) | (simp (disch := first | omega | (simp only [hNw, hPt]; omega)) only [gN] <;> first | rfl | assumption | (rw [get_put_eq] <;> rfl))
      have s128 : (Ha4.get (G6.next)).bind AObj.cs = some [I sa, I sb] := by rw [qa4.ext.get _ (by first | omega | (simp only [hNw, hPt]; omega))]; first | assumption | (rw [gn0]; rfl) | (rw [get_put_eq] <;> rfl) | (simp (disch := first | omega | (simp only [hNw, hPt]; omega)) only [gN] <;> first | rfl | assumption | (rw [get_put_eq] <;> rfl))
      have u148 : (Ha4.get (Hw.next)).bind AObj.cs = some [I (fr2 : Int), y31] := by rw [qa4.ext.get _ (by first | omega | (simp only [hNw, hPt]; omega))]; first | assumption | (rw [gn0]; rfl) | (rw [get_put_eq] <;> rfl) | (simp (disch := first | omega | (simp only [hNw, hPt]; omega)) only [gN] <;> first | rfl | assumption | (rw [get_put_eq] <;> rfl))
      have o198 : Ha4.get (Ht.next) = some (.cells [I 0, I 0] 47) := by rw [qa4.ext.get _ (by first | omega | (simp only [hNw, hPt]; omega))]; first | assumption | exact gn0 _ _ | (simp (disch := first | omega | (simp only [hNw, hPt]; omega)) only [gN] <;> first | rfl | assumption | exact gp0 _ _ _ | exact gn0 _ _)
      have exHa28 : Ext Ha2 Ha4 := Ext.trans (by (try dsimp only); repeat (first | exact exHa27 | exact Ext.refl _ | apply Ext.new | (refine Ext.put ?_ _ (by first | omega | (simp only [hNw, hPt]; omega))))) qa4.ext
      have exHw8 : Ext Hw Ha4 := Ext.trans (by (try dsimp only); repeat (first | exact exHw7 | exact Ext.refl _ | apply Ext.new | (refine Ext.put ?_ _ (by first | omega | (simp only [hNw, hPt]; omega))))) qa4.ext
      have exHa38 : Ext Ha3 Ha4 := Ext.trans (by (try dsimp only); repeat (first | exact exHa37 | exact Ext.refl _ | apply Ext.new | (refine Ext.put ?_ _ (by first | omega | (simp only [hNw, hPt]; omega))))) qa4.ext
      have exHt8 : Ext Ht Ha4 := Ext.trans (by (try dsimp only); repeat (first | exact Ext.refl _ | exact Ext.refl _ | apply Ext.new | (refine Ext.put ?_ _ (by first | omega | (simp only [hNw, hPt]; omega))))) qa4.ext
      have ma4 := fa4.now (Nat.le_refl _)
      have pc4 : cv4.plain = true := by obtain ⟨vs, hR, _, _⟩ := ma4; exact lpl hR.len
      refine OkO.nil ⟨(sco (sld rfl rfl (ldg (n := 2) (by kernel_rfl) (by first | assumption | (simp (disch := first | omega | (simp only [hNw, hPt]; omega)) only [gN] <;> first | rfl | assumption | exact gp0 _ _ _ | exact gn0 _ _)) (by first | rfl | assumption)) rfl (eqr _ (by first | rfl | exact lpl (by assumption) | (simp [AV.plain, AV.plains, AV.cells, pc, py31])))) rfl), ?_⟩
      refine OkP.step ?_
      have h27b := c27 (m + 202) cv4 y31 cols (L : Int) (fr2 : Int) (ofN us2) Ha4 ma4 (ints_N (hU2.ext (by (try dsimp only); repeat (first | exact exHw8 | exact Ext.refl _ | apply Ext.new | (refine Ext.put ?_ _ (by first | omega | (simp only [hNw, hPt]; omega))))))) (hcut2.ext (by (try dsimp only); repeat (first | exact exHw8 | exact Ext.refl _ | apply Ext.new | (refine Ext.put ?_ _ (by first | omega | (simp only [hNw, hPt]; omega)))))) (by rw [ofN_len]; omega)
      rw [hsp2] at h27b
      refine OkO.callV rfl rfl rfl rfl rfl (h27b) ?_
      refine OkO.nil ⟨(sco (sld rfl rfl (ldg (n := 2) (by kernel_rfl) (by first | assumption | (simp (disch := first | omega | (simp only [hNw, hPt]; omega)) only [gN] <;> first | rfl | assumption | exact gp0 _ _ _ | exact gn0 _ _)) (by first | rfl | assumption)) rfl (eqr _ (by first | rfl | exact lpl (by assumption) | (simp [AV.plain, AV.plains, AV.cells, pc, py31])))) rfl), ?_⟩
      refine OkP.step ?_
      refine OkO.move rfl rfl ?_
      refine OkO.nil ⟨rfl, ?_⟩
      refine OkP.step ?_
      refine OkO.extract rfl rfl rfl ?_
      refine OkO.nil ⟨rfl, ?_⟩
      refine OkP.step ?_
      refine OkO.extract rfl rfl rfl ?_
      refine OkO.nil ⟨rfl, ?_⟩
      refine OkP.step ?_
      refine OkO.store rfl rfl rfl (sAc (n := 2) (ag := true) (by kernel_rfl) (by first | assumption | (simp (disch := first | omega | (simp only [hNw, hPt]; omega)) only [gN] <;> first | rfl | assumption | exact gp0 _ _ _ | exact gn0 _ _)) rfl (by first | rfl | assumption | exact at31) (by first | rfl | exact spl_set _ _ _ (by first | assumption | omega | (simp; omega)))) ?_
      refine OkO.nil ⟨rfl, ?_⟩
      refine OkP.step ?_
      refine OkO.assign rfl rfl ?_
      refine OkO.nil ⟨rfl, ?_⟩
      refine OkP.nil ?_
      refine Ok.seq ?_
      refine Ok.seq ?_
      refine Ok.region ?_
      refine OkO.move rfl rfl ?_
      refine OkO.bin rfl rfl rfl ((bin_neq _ _).trans (congrArg (fun b => some (AV.bool b)) (show _ = false from (by rfl)))) ?_
      refine OkO.move rfl rfl ?_
      refine OkO.fieldAddr (o := 0) rfl (by kernel_rfl) rfl ?_
      refine OkO.load rfl rfl (lda (n := 1) (by kernel_rfl) (by first | assumption | (simp (disch := first | omega | (simp only [hNw, hPt]; omega)) only [gN] <;> first | rfl | assumption | exact gp0 _ _ _ | exact gn0 _ _)) (by first | rfl | assumption)) ?_
      refine OkO.move rfl rfl ?_
      refine OkO.bin rfl rfl rfl ((bin_neq _ _).trans (congrArg (fun b => some (AV.bool b)) (show _ = false from (by simp)))) ?_
      refine OkO.pick (b := false) rfl rfl nofun (fun _ => rfl) ?_
      refine OkO.move rfl rfl ?_
      refine OkO.move rfl rfl ?_
      refine OkO.bin rfl rfl rfl ((bin_eql _ _).trans (congrArg (fun b => some (AV.bool b)) (show _ = true from (by rfl)))) ?_
      refine OkO.move rfl rfl ?_
      refine OkO.move rfl rfl ?_
      refine OkO.bin rfl rfl rfl ((bin_leq _ _).trans (congrArg (fun b => some (AV.bool b)) (show _ = true from (by rw [decide_eq_true_eq]; omega)))) ?_
      refine OkO.binT rfl rfl rfl ((bin4n _ _).trans (congrArg (fun b => some (AV.bool b)) (show _ = false from (by rfl)))) ?_
      refine OkO.pick (b := false) rfl rfl nofun (fun _ => rfl) ?_
      refine OkO.nil ?_
      refine Ok.condF rfl ?_
      refine Ok.skip ?_
      refine Ok.seq ?_
      refine Ok.region ?_
      refine OkO.load rfl rfl (ldg (n := 2) (by kernel_rfl) (by first | assumption | (simp (disch := first | omega | (simp only [hNw, hPt]; omega)) only [gN] <;> first | rfl | assumption | exact gp0 _ _ _ | exact gn0 _ _)) (by first | rfl | assumption)) ?_
      refine OkO.callE rfl rfl rfl rfl rfl (c19 (m + 209) cv cols (L : Int) _ (hM.ext (hE _ (by (try dsimp only); repeat (first | exact gg8 | apply Grow.new | (refine Grow.put ?_ _ (by first | omega | (simp only [hNw, hPt]; omega))))))) hth) ?_
      rintro _ Ha5 ⟨cv5, rfl, qa5, fa5⟩
      have n9 := qa5.ext.next
      try simp only [hNw, hPt] at n9
      have gg9 : Grow W Ha5 := Grow.ret (by (try dsimp only); repeat (first | exact gg8 | apply Grow.new | (refine Grow.put ?_ _ (by first | omega | (simp only [hNw, hPt]; omega))))) qa5
      have a9 : (Ha5.get (W.next)).bind AObj.cs = some [cv, I (L : Int)] := by rw [qa5.ext.get _ (by first | omega | (simp only [hNw, hPt]; omega))]; first | assumption | (rw [gn0]; rfl) | (rw [get_put_eq] <;> rfl) | (simp (disch := first | omega | (simp only [hNw, hPt]; omega)) only [gN] <;> first | rfl | assumption | (rw [get_put_eq] <;> rfl))
      have s129 : (Ha5.get (G6.next)).bind AObj.cs = some [I sa, I sb] := by rw [qa5.ext.get _ (by first | omega | (simp only [hNw, hPt]; omega))]; first | assumption | (rw [gn0]; rfl) | (rw [get_put_eq] <;> rfl) | (simp (disch := first | omega | (simp only [hNw, hPt]; omega)) only [gN] <;> first | rfl | assumption | (rw [get_put_eq] <;> rfl))
      have u149 : (Ha5.get (Hw.next)).bind AObj.cs = some [I (fr2 : Int), y31] := by rw [qa5.ext.get _ (by first | omega | (simp only [hNw, hPt]; omega))]; first | assumption | (rw [gn0]; rfl) | (rw [get_put_eq] <;> rfl) | (simp (disch := first | omega | (simp only [hNw, hPt]; omega)) only [gN] <;> first | rfl | assumption | (rw [get_put_eq] <;> rfl))
      have w199 : (Ha5.get (Ht.next)).bind AObj.cs = some [I z31, I sb2] := by rw [qa5.ext.get _ (by first | omega | (simp only [hNw, hPt]; omega))]; first | assumption | (rw [gn0]; rfl) | (rw [get_put_eq] <;> rfl) | (simp (disch := first | omega | (simp only [hNw, hPt]; omega)) only [gN] <;> first | rfl | assumption | (rw [get_put_eq] <;> rfl))
      have exHw9 : Ext Hw Ha5 := Ext.trans (by (try dsimp only); repeat (first | exact exHw8 | exact Ext.refl _ | apply Ext.new | (refine Ext.put ?_ _ (by first | omega | (simp only [hNw, hPt]; omega))))) qa5.ext
      have exHt9 : Ext Ht Ha5 := Ext.trans (by (try dsimp only); repeat (first | exact exHt8 | exact Ext.refl _ | apply Ext.new | (refine Ext.put ?_ _ (by first | omega | (simp only [hNw, hPt]; omega))))) qa5.ext
      have ma5 := fa5.now (Nat.le_refl _)
      have pc5 : cv5.plain = true := by obtain ⟨vs, hR, _, _⟩ := ma5; exact lpl hR.len
      refine OkO.move rfl rfl ?_
      refine OkO.move rfl rfl ?_
      refine OkO.callE rfl rfl rfl rfl rfl (c39 (m + 209) tv TT _ (hT.ext (hE _ (by (try dsimp only); repeat (first | exact gg9 | apply Grow.new | (refine Grow.put ?_ _ (by first | omega | (simp only [hNw, hPt]; omega))))))) (by omega) (fun R hR => by (have h9 := (hOK R hR).1); omega) (fun R hR l hl => by (have h9 := (hOK R hR).2 l hl); omega)) ?_
      rintro tc Hc ⟨qc, htc⟩
      have n10 := qc.ext.next
      try simp only [hNw, hPt] at n10
      have gg10 : Grow W Hc := Grow.ret (by (try dsimp only); repeat (first | exact gg9 | apply Grow.new | (refine Grow.put ?_ _ (by first | omega | (simp only [hNw, hPt]; omega))))) qc
      have a10 : (Hc.get (W.next)).bind AObj.cs = some [cv, I (L : Int)] := by rw [qc.ext.get _ (by first | omega | (simp only [hNw, hPt]; omega))]; first | assumption | (rw [gn0]; rfl) | (rw [get_put_eq] <;> rfl) | (simp (disch := first | omega | (simp only [hNw, hPt]; omega)) only [gN] <;> first | rfl | assumption | (rw [get_put_eq] <;> rfl))
      have s1210 : (Hc.get (G6.next)).bind AObj.cs = some [I sa, I sb] := by rw [qc.ext.get _ (by first | omega | (simp only [hNw, hPt]; omega))]; first | assumption | (rw [gn0]; rfl) | (rw [get_put_eq] <;> rfl) | (simp (disch := first | omega | (simp only [hNw, hPt]; omega)) only [gN] <;> first | rfl | assumption | (rw [get_put_eq] <;> rfl))
      have u1410 : (Hc.get (Hw.next)).bind AObj.cs = some [I (fr2 : Int), y31] := by rw [qc.ext.get _ (by first | omega | (simp only [hNw, hPt]; omega))]; first | assumption | (rw [gn0]; rfl) | (rw [get_put_eq] <;> rfl) | (simp (disch := first | omega | (simp only [hNw, hPt]; omega)) only [gN] <;> first | rfl | assumption | (rw [get_put_eq] <;> rfl))
      have w1910 : (Hc.get (Ht.next)).bind AObj.cs = some [I z31, I sb2] := by rw [qc.ext.get _ (by first | omega | (simp only [hNw, hPt]; omega))]; first | assumption | (rw [gn0]; rfl) | (rw [get_put_eq] <;> rfl) | (simp (disch := first | omega | (simp only [hNw, hPt]; omega)) only [gN] <;> first | rfl | assumption | (rw [get_put_eq] <;> rfl))
      have exHw10 : Ext Hw Hc := Ext.trans (by (try dsimp only); repeat (first | exact exHw9 | exact Ext.refl _ | apply Ext.new | (refine Ext.put ?_ _ (by first | omega | (simp only [hNw, hPt]; omega))))) qc.ext
      have exHt10 : Ext Ht Hc := Ext.trans (by (try dsimp only); repeat (first | exact exHt9 | exact Ext.refl _ | apply Ext.new | (refine Ext.put ?_ _ (by first | omega | (simp only [hNw, hPt]; omega))))) qc.ext
      have exHa510 : Ext Ha5 Hc := Ext.trans (by (try dsimp only); repeat (first | exact Ext.refl _ | exact Ext.refl _ | apply Ext.new | (refine Ext.put ?_ _ (by first | omega | (simp only [hNw, hPt]; omega))))) qc.ext
      have lct := htc.len
      have pct : tc.plain = true := lpl lct
      refine OkO.callE rfl rfl rfl rfl rfl (c38U (m + 201) cv5 tc cols (fw % 10001) L TT _ (ma5.ext (by (try dsimp only); repeat (first | exact exHa510 | exact Ext.refl _ | apply Ext.new | (refine Ext.put ?_ _ (by first | omega | (simp only [hNw, hPt]; omega)))))) (htc.ext (by (try dsimp only); repeat (first | exact Ext.refl _ | exact Ext.refl _ | apply Ext.new | (refine Ext.put ?_ _ (by first | omega | (simp only [hNw, hPt]; omega)))))) (by omega) (fun R hR => by (have h9 := (hOK R hR).1); omega) (fun R hR l hl => by (have h9 := (hOK R hR).2 l hl); omega) hv (by omega)) ?_
      rintro _ H38 ⟨bb, rfl, rfl, hbb⟩
      refine OkO.move rfl rfl ?_
      refine OkO.split (d := 148) rfl (fun g8 => ?_) (fun g8 => ?_)
      · -- true g8
        refine OkO.move rfl rfl ?_
        refine OkO.move rfl rfl ?_
        refine OkO.bin rfl rfl rfl ((bin_gtr _ _).trans (congrArg (fun b => some (AV.bool b)) (show _ = false from (by rw [decide_eq_false_iff_not]; omega)))) ?_
        refine OkO.pick (b := true) rfl rfl (fun _ => rfl) nofun ?_
        refine OkO.nil ?_
        refine Ok.condF rfl ?_
        refine Ok.skip ?_
        refine Ok.seq ?_
        refine Ok.region ?_
        refine OkO.move rfl rfl ?_
        refine OkO.bin rfl rfl rfl ((bin_eql _ _).trans (congrArg (fun b => some (AV.bool b)) (show _ = true from (by rfl)))) ?_
        refine OkO.move rfl rfl ?_
        refine OkO.load rfl rfl (ldg (n := 2) (by kernel_rfl) (by first | assumption | (simp (disch := first | omega | (simp only [hNw, hPt]; omega)) only [gN] <;> first | rfl | assumption | exact gp0 _ _ _ | exact gn0 _ _)) (by first | rfl | assumption)) ?_
        refine OkO.callE rfl rfl rfl rfl rfl (c19 (m + 209) cv cols (L : Int) _ (hM.ext (hE _ (by (try dsimp only); repeat (first | exact gg10 | apply Grow.new | (refine Grow.put ?_ _ (by first | omega | (simp only [hNw, hPt]; omega))))))) hth) ?_
        rintro _ Ha6 ⟨cv6, rfl, qa6, fa6⟩
        have n11 := qa6.ext.next
        try simp only [hNw, hPt] at n11
        have gg11 : Grow W Ha6 := Grow.ret (by (try dsimp only); repeat (first | exact gg10 | apply Grow.new | (refine Grow.put ?_ _ (by first | omega | (simp only [hNw, hPt]; omega))))) qa6
        have a11 : (Ha6.get (W.next)).bind AObj.cs = some [cv, I (L : Int)] := by rw [qa6.ext.get _ (by first | omega | (simp only [hNw, hPt]; omega))]; first | assumption | (rw [gn0]; rfl) | (rw [get_put_eq] <;> rfl) | (simp (disch := first | omega | (simp only [hNw, hPt]; omega)) only [gN] <;> first | rfl | assumption | (rw [get_put_eq] <;> rfl))
        have s1211 : (Ha6.get (G6.next)).bind AObj.cs = some [I sa, I sb] := by rw [qa6.ext.get _ (by first | omega | (simp only [hNw, hPt]; omega))]; first | assumption | (rw [gn0]; rfl) | (rw [get_put_eq] <;> rfl) | (simp (disch := first | omega | (simp only [hNw, hPt]; omega)) only [gN] <;> first | rfl | assumption | (rw [get_put_eq] <;> rfl))
        have u1411 : (Ha6.get (Hw.next)).bind AObj.cs = some [I (fr2 : Int), y31] := by rw [qa6.ext.get _ (by first | omega | (simp only [hNw, hPt]; omega))]; first | assumption | (rw [gn0]; rfl) | (rw [get_put_eq] <;> rfl) | (simp (disch := first | omega | (simp only [hNw, hPt]; omega)) only [gN] <;> first | rfl | assumption | (rw [get_put_eq] <;> rfl))
        have w1911 : (Ha6.get (Ht.next)).bind AObj.cs = some [I z31, I sb2] := by rw [qa6.ext.get _ (by first | omega | (simp only [hNw, hPt]; omega))]; first | assumption | (rw [gn0]; rfl) | (rw [get_put_eq] <;> rfl) | (simp (disch := first | omega | (simp only [hNw, hPt]; omega)) only [gN] <;> first | rfl | assumption | (rw [get_put_eq] <;> rfl))
        have exHw11 : Ext Hw Ha6 := Ext.trans (by (try dsimp only); repeat (first | exact exHw10 | exact Ext.refl _ | apply Ext.new | (refine Ext.put ?_ _ (by first | omega | (simp only [hNw, hPt]; omega))))) qa6.ext
        have exHt11 : Ext Ht Ha6 := Ext.trans (by (try dsimp only); repeat (first | exact exHt10 | exact Ext.refl _ | apply Ext.new | (refine Ext.put ?_ _ (by first | omega | (simp only [hNw, hPt]; omega))))) qa6.ext
        have exHa511 : Ext Ha5 Ha6 := Ext.trans (by (try dsimp only); repeat (first | exact exHa510 | exact Ext.refl _ | apply Ext.new | (refine Ext.put ?_ _ (by first | omega | (simp only [hNw, hPt]; omega))))) qa6.ext
        have exHc11 : Ext Hc Ha6 := Ext.trans (by (try dsimp only); repeat (first | exact Ext.refl _ | exact Ext.refl _ | apply Ext.new | (refine Ext.put ?_ _ (by first | omega | (simp only [hNw, hPt]; omega))))) qa6.ext
        have ma6 := fa6.now (Nat.le_refl _)
        have pc6 : cv6.plain = true := by obtain ⟨vs, hR, _, _⟩ := ma6; exact lpl hR.len
        refine OkO.move rfl rfl ?_
        refine OkO.move rfl rfl ?_
        refine OkO.callV rfl rfl rfl rfl rfl (c38G (m + 201) cv6 tv9 cols (fw % 10001) L _ ma6 hv (by omega) hbf (ht9.ext (by (try dsimp only); repeat (first | exact exHt11 | exact Ext.refl _ | apply Ext.new | (refine Ext.put ?_ _ (by first | omega | (simp only [hNw, hPt]; omega))))))) ?_
        refine OkO.pick (b := true) rfl rfl (fun _ => rfl) nofun ?_
        refine OkO.move rfl rfl ?_
        refine OkO.skip rfl ?_
        refine OkO.skip rfl ?_
        refine OkO.pick (b := true) rfl rfl (fun _ => rfl) nofun ?_
        refine OkO.move rfl rfl ?_
        refine OkO.callV rfl rfl rfl rfl rfl (rfl) ?_
        refine OkO.pick (b := true) rfl rfl (fun _ => rfl) nofun ?_
        refine OkO.assign rfl rfl ?_
        refine OkO.nil ?_
        refine Ok.ret ⟨.inr rfl, ?_⟩
        exact back_flat rfl rfl rfl (by rw [← hW]; exact (by (try dsimp only); repeat (first | exact gg11 | apply Grow.new | (refine Grow.put ?_ _ (by first | omega | (simp only [hNw, hPt]; omega))))))
      · -- false g8
        refine OkO.skip rfl ?_
        refine OkO.skip rfl ?_
        refine OkO.skip rfl ?_
        refine OkO.pick (b := false) rfl rfl nofun (fun _ => rfl) ?_
        refine OkO.nil ?_
        refine Ok.condF rfl ?_
        refine Ok.skip ?_
        refine Ok.seq ?_
        refine Ok.region ?_
        refine OkO.move rfl rfl ?_
        refine OkO.bin rfl rfl rfl ((bin_eql _ _).trans (congrArg (fun b => some (AV.bool b)) (show _ = true from (by rfl)))) ?_
        refine OkO.move rfl rfl ?_
        refine OkO.load rfl rfl (ldg (n := 2) (by kernel_rfl) (by first | assumption | (simp (disch := first | omega | (simp only [hNw, hPt]; omega)) only [gN] <;> first | rfl | assumption | exact gp0 _ _ _ | exact gn0 _ _)) (by first | rfl | assumption)) ?_
        refine OkO.callE rfl rfl rfl rfl rfl (c19 (m + 209) cv cols (L : Int) _ (hM.ext (hE _ (by (try dsimp only); repeat (first | exact gg10 | apply Grow.new | (refine Grow.put ?_ _ (by first | omega | (simp only [hNw, hPt]; omega))))))) hth) ?_
        rintro _ Ha6 ⟨cv6, rfl, qa6, fa6⟩
        have n11 := qa6.ext.next
        try simp only [hNw, hPt] at n11
        have gg11 : Grow W Ha6 := Grow.ret (by (try dsimp only); repeat (first | exact gg10 | apply Grow.new | (refine Grow.put ?_ _ (by first | omega | (simp only [hNw, hPt]; omega))))) qa6
        have a11 : (Ha6.get (W.next)).bind AObj.cs = some [cv, I (L : Int)] := by rw [qa6.ext.get _ (by first | omega | (simp only [hNw, hPt]; omega))]; first | assumption | (rw [gn0]; rfl) | (rw [get_put_eq] <;> rfl) | (simp (disch := first | omega | (simp only [hNw, hPt]; omega)) only [gN] <;> first | rfl | assumption | (rw [get_put_eq] <;> rfl))
        have s1211 : (Ha6.get (G6.next)).bind AObj.cs = some [I sa, I sb] := by rw [qa6.ext.get _ (by first | omega | (simp only [hNw, hPt]; omega))]; first | assumption | (rw [gn0]; rfl) | (rw [get_put_eq] <;> rfl) | (simp (disch := first | omega | (simp only [hNw, hPt]; omega)) only [gN] <;> first | rfl | assumption | (rw [get_put_eq] <;> rfl))
        have u1411 : (Ha6.get (Hw.next)).bind AObj.cs = some [I (fr2 : Int), y31] := by rw [qa6.ext.get _ (by first | omega | (simp only [hNw, hPt]; omega))]; first | assumption | (rw [gn0]; rfl) | (rw [get_put_eq] <;> rfl) | (simp (disch := first | omega | (simp only [hNw, hPt]; omega)) only [gN] <;> first | rfl | assumption | (rw [get_put_eq] <;> rfl))
        have w1911 : (Ha6.get (Ht.next)).bind AObj.cs = some [I z31, I sb2] := by rw [qa6.ext.get _ (by first | omega | (simp only [hNw, hPt]; omega))]; first | assumption | (rw [gn0]; rfl) | (rw [get_put_eq] <;> rfl) | (simp (disch := first | omega | (simp only [hNw, hPt]; omega)) only [gN] <;> first | rfl | assumption | (rw [get_put_eq] <;> rfl))
        have exHw11 : Ext Hw Ha6 := Ext.trans (by (try dsimp only); repeat (first | exact exHw10 | exact Ext.refl _ | apply Ext.new | (refine Ext.put ?_ _ (by first | omega | (simp only [hNw, hPt]; omega))))) qa6.ext
        have exHt11 : Ext Ht Ha6 := Ext.trans (by (try dsimp only); repeat (first | exact exHt10 | exact Ext.refl _ | apply Ext.new | (refine Ext.put ?_ _ (by first | omega | (simp only [hNw, hPt]; omega))))) qa6.ext
        have exHa511 : Ext Ha5 Ha6 := Ext.trans (by (try dsimp only); repeat (first | exact exHa510 | exact Ext.refl _ | apply Ext.new | (refine Ext.put ?_ _ (by first | omega | (simp only [hNw, hPt]; omega))))) qa6.ext
        have exHc11 : Ext Hc Ha6 := Ext.trans (by (try dsimp only); repeat (first | exact Ext.refl _ | exact Ext.refl _ | apply Ext.new | (refine Ext.put ?_ _ (by first | omega | (simp only [hNw, hPt]; omega))))) qa6.ext
        have ma6 := fa6.now (Nat.le_refl _)
        have pc6 : cv6.plain = true := by obtain ⟨vs, hR, _, _⟩ := ma6; exact lpl hR.len
        refine OkO.move rfl rfl ?_
        refine OkO.move rfl rfl ?_
        refine OkO.callV rfl rfl rfl rfl rfl (c38G (m + 201) cv6 tv9 cols (fw % 10001) L _ ma6 hv (by omega) hbf (ht9.ext (by (try dsimp only); repeat (first | exact exHt11 | exact Ext.refl _ | apply Ext.new | (refine Ext.put ?_ _ (by first | omega | (simp only [hNw, hPt]; omega))))))) ?_
        refine OkO.pick (b := true) rfl rfl (fun _ => rfl) nofun ?_
        refine OkO.move rfl rfl ?_
        refine OkO.skip rfl ?_
        refine OkO.skip rfl ?_
        refine OkO.pick (b := true) rfl rfl (fun _ => rfl) nofun ?_
        refine OkO.move rfl rfl ?_
        refine OkO.callV rfl rfl rfl rfl rfl (rfl) ?_
        refine OkO.pick (b := true) rfl rfl (fun _ => rfl) nofun ?_
        refine OkO.assign rfl rfl ?_
        refine OkO.nil ?_
        refine Ok.ret ⟨.inr rfl, ?_⟩
        exact back_flat rfl rfl rfl (by rw [← hW]; exact (by (try dsimp only); repeat (first | exact gg11 | apply Grow.new | (refine Grow.put ?_ _ (by first | omega | (simp only [hNw, hPt]; omega))))))
set_option maxHeartbeats 2000000 in
theorem c11Q (m : Nat) (cv wv tv : AV) (cols : List (List Bed)) (L : Nat) (fw : Int) (ws : List Int) (TT : List (List (List Int))) (H : Heap) (hM : Mat H cv cols) (hWs : Row H wv 1 (ws.map fun w => [U8 w])) (hws : Upto 255 ws) (hfw : 0 ≤ fw ∧ fw ≤ 65535) (hT : Tab H tv TT) (hT5 : TT.length ≤ 5) (hth : thinB cols = true) (hv : slOk cols (L : Int) = true) (hlc : (L : Int) ≤ cols.length) (hrd : readyS cols (L : Int) = true) (hcase : ¬ NoneAt cols (cols.headD []).length (L : Int)) (hbt : belowB cols.length (cols.headD []).length (L : Int) (prC cols (fw % 10001)) = true) (hre : reachE cols (L : Int) (fw % 10001) = 10) : RR (m + 212) (.fn 11 [.agg [cv, I (L : Int)], wv, U16 fw, tv]) H = some (.bool true, H) := by
  refine (R_fn _ _ _ _ _).trans ?_
  refine fn_ok Try.func11 rfl rfl (by kernel_rfl) (by kernel_rfl) ?_
  obtain ⟨W, hW, hg, hN, hE, hG⟩ := wOf H
  rw [← hW]
  have pc : cv.plain = true := by obtain ⟨vs, hR, _, _⟩ := hM; exact lpl hR.len
  have hlT := hT.len
  have ptv : tv.plain = true := lpl hlT
  have pwv : wv.plain = true := lpl hWs.len
  have hsf := slOk_facts hv
  have hfm1 := Int.emod_nonneg fw (b := 10001) (by omega)
  have hfm2 := Int.emod_lt_of_pos fw (b := 10001) (by omega)
  refine Ok.seq ?_
  refine Ok.region ?_
  refine OkO.box rfl rfl ?_
  refine OkO.assign rfl rfl ?_
  refine OkO.nil ?_
  refine Ok.seq ?_
  refine Ok.seq ?_
  refine Ok.region ?_
  refine OkO.load rfl rfl (ldg (n := 2) (by kernel_rfl) (by first | assumption | (simp (disch := first | omega | (simp only [hNw, hPt]; omega)) only [gN] <;> first | rfl | assumption | exact gp0 _ _ _ | exact gn0 _ _)) (by first | rfl | assumption)) ?_
  refine OkO.callV rfl rfl rfl rfl rfl ((c51 (m + 208) cv cols (L : Int) _ (hM.ext (hE _ (by (try dsimp only); repeat (first | exact hG | apply Grow.new | (refine Grow.put ?_ _ (by first | omega | (simp only [hNw, hPt]; omega)))))))).trans (by rw [hrd])) ?_
  refine OkO.un rfl rfl rfl ?_
  refine OkO.move rfl rfl ?_
  refine OkO.move rfl rfl ?_
  refine OkO.builtin rfl rfl rfl (bln (by kernel_rfl) (by first | assumption | rfl)) ?_
  refine OkO.bin rfl rfl rfl ((bin_gtr _ _).trans (congrArg (fun b => some (AV.bool b)) (show _ = false from (by rw [decide_eq_false_iff_not]; omega)))) ?_
  refine OkO.pick (b := false) rfl rfl nofun (fun _ => rfl) ?_
  refine OkO.nil ?_
  refine Ok.condF rfl ?_
  refine Ok.skip ?_
  refine Ok.seq ?_
  refine Ok.seq ?_
  refine Ok.region ?_
  refine OkO.assign rfl rfl ?_
  refine OkO.nil ?_
  refine Ok.block ?_
  obtain ⟨G6, hG6⟩ : ∃ G6, G6 = W.new (.cells [cv, I (L : Int)] 24) := ⟨_, rfl⟩
  have e6 : (G6.get W.next).bind AObj.cs = some [cv, I (L : Int)] := by rw [hG6, gn0]; rfl
  have g6 : Grow W G6 := by rw [hG6]; exact hG.new _
  have n6 : W.next + 1 ≤ G6.next := by rw [hG6]; simp
  refine Ok.loop (fun n9 s_ => ∃ i : Nat, n9 = TT.length - i ∧ i ≤ TT.length ∧ (∀ R ∈ TT.take i, (R.length ≤ 15 ∧ ∀ l ∈ R, l.length ≤ 8)) ∧ Has 8 [(1, wv), (2, U16 fw), (3, tv), (4, .ptr W.next 0), (9, I (i : Int))] s_.T ∧ s_.D = [] ∧ G6 = s_.H) (TT.length) (by unfold loopFuel; omega)
    ⟨0, rfl, Nat.zero_le _, (fun R h => absurd h (by simp)), Has.of (by kernel_rfl), rfl, hG6⟩ ?_
  rintro nn_ ⟨T, D, G⟩ ⟨i, hn9_, hi, hOK, ⟨f_, hTT⟩, hD, hgE⟩
  dsimp only at *
  subst hTT hD
  skip
  subst hgE
  refine Ok.seq ?_
  refine Ok.seq ?_
  refine Ok.region ?_
  refine OkO.move rfl rfl ?_
  refine OkO.move rfl rfl ?_
  refine OkO.builtin rfl rfl rfl (bln (by kernel_rfl) (by first | assumption | rfl)) ?_
  refine OkO.bin rfl rfl rfl (bin_lss _ _) ?_
  refine OkO.nil ?_
  refine Ok.cond rfl (fun h1 => ?_) (fun h1 => ?_)
  · -- yes h1
    have hlt : i < TT.length := by simpa using h1
    obtain ⟨xr, rb, ro, rcs, t1, t2, t3, t4, t5⟩ := (hT.ext (hE _ g6)).get i hlt
    have lq := t5.len
    have pxr : xr.plain = true := lpl lq
    refine Ok.skip ?_
    refine Ok.seq ?_
    refine Ok.block ?_
    refine Ok.seq ?_
    refine Ok.seq ?_
    refine Ok.region ?_
    refine OkO.move rfl rfl ?_
    refine OkO.move rfl rfl ?_
    refine OkO.index (sz := 1) (n := i) rfl rfl rfl (by kernel_rfl) (by first | assumption | rfl | exact slAt_slice (by omega) | exact slAt_opn (by omega)) ?_
    refine OkO.load rfl rfl (lda (n := 1) (by kernel_rfl) (by first | assumption | (simp (disch := first | omega | (simp only [hNw, hPt]; omega)) only [gN] <;> first | rfl | assumption | exact gp0 _ _ _ | exact gn0 _ _)) (by first | rfl | assumption)) ?_
    refine OkO.builtin rfl rfl rfl (bln (by kernel_rfl) (by first | assumption | rfl)) ?_
    refine OkO.bin rfl rfl rfl (bin_gtr _ _) ?_
    refine OkO.nil ?_
    refine Ok.cond rfl (fun h2 => ?_) (fun h2 => ?_)
    · -- yes h2
      refine Ok.seq ?_
      refine Ok.region ?_
      refine OkO.callV rfl rfl rfl rfl rfl (rfl) ?_
      refine OkO.assign rfl rfl ?_
      refine OkO.nil ?_
      refine Ok.ret ⟨.inr rfl, ?_⟩
      exact back_flat rfl rfl rfl (by rw [← hW]; exact g6)
    · -- no h2
      have hl15 : TT[i].length ≤ 15 := by (have h9 : ¬ (15 : Int) < (TT[i].length : Int) := by simpa using h2); omega
      refine Ok.skip ?_
      refine Ok.seq ?_
      refine Ok.region ?_
      refine OkO.assign rfl rfl ?_
      refine OkO.nil ?_
      refine Ok.block ?_
      refine Ok.loop (fun n8 s_ => ∃ j : Nat, n8 = TT[i].length - j ∧ j ≤ TT[i].length ∧ (∀ l ∈ TT[i].take j, l.length ≤ 8) ∧ Has 8 [(1, wv), (2, U16 fw), (3, tv), (4, .ptr W.next 0), (9, I (i : Int)), (10, I (j : Int))] s_.T ∧ s_.D = [] ∧ G6 = s_.H) (TT[i].length) (by unfold loopFuel; omega)
        ⟨0, rfl, Nat.zero_le _, (fun l h => absurd h (by simp)), Has.of (by kernel_rfl), rfl, rfl⟩ ?_
      rintro nn_ ⟨T, D, G⟩ ⟨j, hn8_, hj, hOKj, ⟨f2_, hTT⟩, hD, hgE⟩
      dsimp only at *
      subst hTT hD
      skip
      subst hgE
      refine Ok.seq ?_
      refine Ok.seq ?_
      refine Ok.region ?_
      refine OkO.move rfl rfl ?_
      refine OkO.move rfl rfl ?_
      refine OkO.move rfl rfl ?_
      refine OkO.index (sz := 1) (n := i) rfl rfl rfl (by kernel_rfl) (by first | assumption | rfl | exact slAt_slice (by omega) | exact slAt_opn (by omega)) ?_
      refine OkO.load rfl rfl (lda (n := 1) (by kernel_rfl) (by first | assumption | (simp (disch := first | omega | (simp only [hNw, hPt]; omega)) only [gN] <;> first | rfl | assumption | exact gp0 _ _ _ | exact gn0 _ _)) (by first | rfl | assumption)) ?_
      refine OkO.builtin rfl rfl rfl (bln (by kernel_rfl) (by first | assumption | rfl)) ?_
      refine OkO.bin rfl rfl rfl (bin_lss _ _) ?_
      refine OkO.nil ?_
      refine Ok.cond rfl (fun h3 => ?_) (fun h3 => ?_)
      · -- yes h3
        have hlt2 : j < TT[i].length := by simpa using h3
        obtain ⟨xl, cb, co, ccs, s1, s2, s3, s4, s5⟩ := t5.get j hlt2
        have lq2 := Row.len s5
        rw [List.length_map] at lq2
        have pxl : xl.plain = true := lpl lq2
        refine Ok.skip ?_
        refine Ok.seq ?_
        refine Ok.block ?_
        refine Ok.seq ?_
        refine Ok.region ?_
        refine OkO.move rfl rfl ?_
        refine OkO.move rfl rfl ?_
        refine OkO.index (sz := 1) (n := i) rfl rfl rfl (by kernel_rfl) (by first | assumption | rfl | exact slAt_slice (by omega) | exact slAt_opn (by omega)) ?_
        refine OkO.load rfl rfl (lda (n := 1) (by kernel_rfl) (by first | assumption | (simp (disch := first | omega | (simp only [hNw, hPt]; omega)) only [gN] <;> first | rfl | assumption | exact gp0 _ _ _ | exact gn0 _ _)) (by first | rfl | assumption)) ?_
        refine OkO.move rfl rfl ?_
        refine OkO.index (sz := 1) (n := j) rfl rfl rfl (by kernel_rfl) (by first | assumption | rfl | exact slAt_slice (by omega) | exact slAt_opn (by omega)) ?_
        refine OkO.load rfl rfl (lda (n := 1) (by kernel_rfl) (by first | assumption | (simp (disch := first | omega | (simp only [hNw, hPt]; omega)) only [gN] <;> first | rfl | assumption | exact gp0 _ _ _ | exact gn0 _ _)) (by first | rfl | assumption)) ?_
        refine OkO.builtin rfl rfl rfl (bln (by kernel_rfl) (by first | assumption | rfl)) ?_
        refine OkO.bin rfl rfl rfl (bin_gtr _ _) ?_
        refine OkO.nil ?_
        refine Ok.cond rfl (fun h4 => ?_) (fun h4 => ?_)
        · -- yes h4
          refine Ok.seq ?_
          refine Ok.region ?_
          refine OkO.callV rfl rfl rfl rfl rfl (rfl) ?_
          refine OkO.assign rfl rfl ?_
          refine OkO.nil ?_
          refine Ok.ret ⟨.inr rfl, ?_⟩
          exact back_flat rfl rfl rfl (by rw [← hW]; exact g6)
        · -- no h4
          have hl8 : TT[i][j].length ≤ 8 := by (have h9 : ¬ (8 : Int) < (TT[i][j].length : Int) := by simpa using h4); omega
          refine Ok.skip ?_
          refine Ok.region ?_
          refine OkO.move rfl rfl ?_
          refine OkO.bin rfl rfl rfl (bin_add (by omega) (by omega)) ?_
          refine OkO.assign rfl rfl ?_
          refine OkO.nil ?_
          refine ⟨TT[i].length - (j + 1), by omega, j + 1, rfl, by omega, fun l hl => ?_, Has.of (by kernel_rfl), rfl, rfl⟩
          rw [List.take_succ_eq_append_getElem hlt2, List.mem_append, List.mem_singleton] at hl
          rcases hl with hl | hl
          · exact hOKj l hl
          · rw [hl]; exact hl8
      · -- no h3
        have hge2 : j = TT[i].length := by (have h9 : ¬ j < TT[i].length := by simpa using h3); omega
        rw [hge2, List.take_length] at hOKj
        have hOKl := hOKj
        refine Ok.exit ?_
        refine Ok.region ?_
        refine OkO.move rfl rfl ?_
        refine OkO.bin rfl rfl rfl (bin_add (by omega) (by omega)) ?_
        refine OkO.assign rfl rfl ?_
        refine OkO.nil ?_
        refine ⟨TT.length - (i + 1), by omega, i + 1, rfl, by omega, fun R hR => ?_, Has.of (by kernel_rfl), rfl, rfl⟩
        rw [List.take_succ_eq_append_getElem hlt, List.mem_append, List.mem_singleton] at hR
        rcases hR with hR | hR
        · exact hOK R hR
        · rw [hR]; exact ⟨hl15, hOKl⟩
  · -- no h1
    have hge : i = TT.length := by (have h9 : ¬ i < TT.length := by simpa using h1); omega
    rw [hge, List.take_length] at hOK
    refine Ok.exit ?_
    refine Ok.seq ?_
    refine Ok.region ?_
    refine OkO.move rfl rfl ?_
    refine OkO.convert (k := .i64) rfl (by kernel_rfl) rfl (wrapF_i64 (by omega) (by omega)) ?_
    refine OkO.bin rfl rfl rfl (bin_rem (by omega) (by omega)) ?_
    refine OkO.assign rfl rfl ?_
    refine OkO.nil ?_
    refine Ok.seq ?_
    refine Ok.drawn [(0, true, []), (2, true, []), (3, true, []), (10, true, [2, 0]), (1, false, [2]), (4, false, [0]), (5, false, [2, 0]), (6, false, [2, 0]), (7, true, []), (8, true, []), (9, true, []), (11, false, []), (12, true, [])] (by kernel_rfl) ?_
    refine OkP.step ?_
    refine OkO.load rfl rfl (ldg (n := 2) (by kernel_rfl) (by first | assumption | (simp (disch := first | omega | (simp only [hNw, hPt]; omega)) only [gN] <;> first | rfl | assumption | exact gp0 _ _ _ | exact gn0 _ _)) (by first | rfl | assumption)) ?_
    refine OkO.nil ⟨rfl, ?_⟩
    refine OkP.step ?_
    refine OkO.load rfl rfl (ldg (n := 2) (by kernel_rfl) (by first | assumption | (simp (disch := first | omega | (simp only [hNw, hPt]; omega)) only [gN] <;> first | rfl | assumption | exact gp0 _ _ _ | exact gn0 _ _)) (by first | rfl | assumption)) ?_
    refine OkO.nil ⟨rfl, ?_⟩
    refine OkP.step ?_
    refine OkO.move rfl rfl ?_
    refine OkO.nil ⟨rfl, ?_⟩
    refine OkP.step ?_
    refine OkO.alloc (z := [.int .i64 0, .int .i64 0]) rfl (by kernel_rfl) ?_
    refine OkO.nil ⟨(sco (sld rfl rfl (ldg (n := 2) (by kernel_rfl) (by first | assumption | (simp (disch := first | omega | (simp only [hNw, hPt]; omega)) only [gN] <;> first | rfl | assumption | exact gp0 _ _ _ | exact gn0 _ _)) (by first | rfl | assumption)) rfl (eqr _ (by first | rfl | exact lpl (by assumption) | (simp [AV.plain, AV.plains, AV.cells, pc])))) (sco (sld rfl rfl (ldg (n := 2) (by kernel_rfl) (by first | assumption | (simp (disch := first | omega | (simp only [hNw, hPt]; omega)) only [gN] <;> first | rfl | assumption | exact gp0 _ _ _ | exact gn0 _ _)) (by first | rfl | assumption)) rfl (eqr _ (by first | rfl | exact lpl (by assumption) | (simp [AV.plain, AV.plains, AV.cells, pc])))) rfl)), ?_⟩
    refine OkP.step ?_
    refine OkO.callE rfl rfl rfl rfl rfl (c19 (m + 209) cv cols (L : Int) _ (hM.ext (hE _ (by (try dsimp only); repeat (first | exact g6 | apply Grow.new | (refine Grow.put ?_ _ (by first | omega | (simp only [hNw, hPt]; omega))))))) hth) ?_
    rintro _ Ha1 ⟨cv1, rfl, qa1, fa1⟩
    have n1 := qa1.ext.next
    try simp only [hNw, hPt] at n1
    have gg1 : Grow W Ha1 := Grow.ret (by (try dsimp only); repeat (first | exact g6 | apply Grow.new | (refine Grow.put ?_ _ (by first | omega | (simp only [hNw, hPt]; omega))))) qa1
    have a1 : (Ha1.get (W.next)).bind AObj.cs = some [cv, I (L : Int)] := by rw [qa1.ext.get _ (by first | omega | (simp only [hNw, hPt]; omega))]; first | assumption | (rw [gn0]; rfl) | (rw [get_put_eq] <;> rfl) | (simp (disch := first | omega | (simp only [hNw, hPt]; omega)) only [gN] <;> first | rfl | assumption | (rw [get_put_eq] <;> rfl))
    have o121 : Ha1.get (G6.next) = some (.cells [I 0, I 0] 47) := by rw [qa1.ext.get _ (by first | omega | (simp only [hNw, hPt]; omega))]; first | assumption | exact gn0 _ _ | (simp (disch := first | omega | (simp only [hNw, hPt]; omega)) only [gN] <;> first | rfl | assumption | exact gp0 _ _ _ | exact gn0 _ _)
    have ma1 := fa1.now (Nat.le_refl _)
    have pc1 : cv1.plain = true := by obtain ⟨vs, hR, _, _⟩ := ma1; exact lpl hR.len
    refine OkO.nil ⟨(sco (sld rfl rfl (ldg (n := 2) (by kernel_rfl) (by first | assumption | (simp (disch := first | omega | (simp only [hNw, hPt]; omega)) only [gN] <;> first | rfl | assumption | exact gp0 _ _ _ | exact gn0 _ _)) (by first | rfl | assumption)) rfl (eqr _ (by first | rfl | exact lpl (by assumption) | (simp [AV.plain, AV.plains, AV.cells, pc])))) rfl), ?_⟩
    refine OkP.step ?_
    refine OkO.callE rfl rfl rfl rfl rfl (c52 (m + 209) (cols.headD []).length cv wv cols (L : Int) ws _ (hM.ext (hE _ (by (try dsimp only); repeat (first | exact gg1 | apply Grow.new | (refine Grow.put ?_ _ (by first | omega | (simp only [hNw, hPt]; omega))))))) (hWs.ext (hE _ (by (try dsimp only); repeat (first | exact gg1 | apply Grow.new | (refine Grow.put ?_ _ (by first | omega | (simp only [hNw, hPt]; omega))))))) hws hv rfl hlc) ?_
    rintro v52 H52 ⟨fr, us, bu, rfl, q52, m52, nn52, hs, hlu⟩
    have n2 := q52.ext.next
    try simp only [hNw, hPt] at n2
    have gg2 : Grow W H52 := Grow.ret (by (try dsimp only); repeat (first | exact gg1 | apply Grow.new | (refine Grow.put ?_ _ (by first | omega | (simp only [hNw, hPt]; omega))))) q52
    have a2 : (H52.get (W.next)).bind AObj.cs = some [cv, I (L : Int)] := by rw [q52.ext.get _ (by first | omega | (simp only [hNw, hPt]; omega))]; first | assumption | (rw [gn0]; rfl) | (rw [get_put_eq] <;> rfl) | (simp (disch := first | omega | (simp only [hNw, hPt]; omega)) only [gN] <;> first | rfl | assumption | (rw [get_put_eq] <;> rfl))
    have o122 : H52.get (G6.next) = some (.cells [I 0, I 0] 47) := by rw [q52.ext.get _ (by first | omega | (simp only [hNw, hPt]; omega))]; first | assumption | exact gn0 _ _ | (simp (disch := first | omega | (simp only [hNw, hPt]; omega)) only [gN] <;> first | rfl | assumption | exact gp0 _ _ _ | exact gn0 _ _)
    have exHa12 : Ext Ha1 H52 := Ext.trans (by (try dsimp only); repeat (first | exact Ext.refl _ | exact Ext.refl _ | apply Ext.new | (refine Ext.put ?_ _ (by first | omega | (simp only [hNw, hPt]; omega))))) q52.ext
    have hone : bu.cells = [bu] ∧ bu.atom = true := m52.one
    have hU : Row H52 bu 1 (us.map fun (k : Nat) => [I (k : Int)]) := Mine.row (by rw [flatN]; exact m52) (fun x hx => by simp only [List.mem_map] at hx; obtain ⟨y, _, rfl⟩ := hx; rfl) (by omega)
    have pbu := lpl hU.len
    have hs4 : fr + us.length ≤ cols.length := hs.2.2.2
    have hsp := span_W hv hs
    obtain ⟨sa, sb, se, hspv⟩ : ∃ sa sb se, spW cols fr us = (sa, sb, se) := ⟨_, _, _, rfl⟩
    rw [hspv] at hsp
    have hcs : (1 ≤ drive (bedsW cols fr us) ∧ sa = facW cols fr us ∧ se = 0) ∨ (¬ 1 ≤ drive (bedsW cols fr us) ∧ se = 7) := by (unfold spW at hspv); (split at hspv); (· cases hspv; exact .inl ⟨by assumption, rfl, rfl⟩); (· cases hspv; exact .inr ⟨by assumption, rfl⟩)
    refine OkO.nil ⟨(sco (sld rfl rfl (ldg (n := 2) (by kernel_rfl) (by first | assumption | (simp (disch := first | omega | (simp only [hNw, hPt]; omega)) only [gN] <;> first | rfl | assumption | exact gp0 _ _ _ | exact gn0 _ _)) (by first | rfl | assumption)) rfl (eqr _ (by first | rfl | exact lpl (by assumption) | (simp [AV.plain, AV.plains, AV.cells, pc])))) rfl), ?_⟩
    refine OkP.step ?_
    refine OkO.callE rfl rfl rfl rfl rfl (c21 (m + 209) bu (fr : Int) (ofN us) _ (ints_N (hU.ext (by (try dsimp only); repeat (first | exact Ext.refl _ | exact Ext.refl _ | apply Ext.new | (refine Ext.put ?_ _ (by first | omega | (simp only [hNw, hPt]; omega))))))) (by rw [ofN_len]; omega)) ?_
    rintro _ Hb1 ⟨bu1, rfl, qb1, fb1⟩
    have n3 := qb1.ext.next
    try simp only [hNw, hPt] at n3
    have gg3 : Grow W Hb1 := Grow.ret (by (try dsimp only); repeat (first | exact gg2 | apply Grow.new | (refine Grow.put ?_ _ (by first | omega | (simp only [hNw, hPt]; omega))))) qb1
    have a3 : (Hb1.get (W.next)).bind AObj.cs = some [cv, I (L : Int)] := by rw [qb1.ext.get _ (by first | omega | (simp only [hNw, hPt]; omega))]; first | assumption | (rw [gn0]; rfl) | (rw [get_put_eq] <;> rfl) | (simp (disch := first | omega | (simp only [hNw, hPt]; omega)) only [gN] <;> first | rfl | assumption | (rw [get_put_eq] <;> rfl))
    have o123 : Hb1.get (G6.next) = some (.cells [I 0, I 0] 47) := by rw [qb1.ext.get _ (by first | omega | (simp only [hNw, hPt]; omega))]; first | assumption | exact gn0 _ _ | (simp (disch := first | omega | (simp only [hNw, hPt]; omega)) only [gN] <;> first | rfl | assumption | exact gp0 _ _ _ | exact gn0 _ _)
    have exHa13 : Ext Ha1 Hb1 := Ext.trans (by (try dsimp only); repeat (first | exact exHa12 | exact Ext.refl _ | apply Ext.new | (refine Ext.put ?_ _ (by first | omega | (simp only [hNw, hPt]; omega))))) qb1.ext
    have exH523 : Ext H52 Hb1 := Ext.trans (by (try dsimp only); repeat (first | exact Ext.refl _ | exact Ext.refl _ | apply Ext.new | (refine Ext.put ?_ _ (by first | omega | (simp only [hNw, hPt]; omega))))) qb1.ext
    have ib1 := fb1.now (Nat.le_refl _)
    have pbu1 : bu1.plain = true := lpl ib1.1.len
    refine OkO.nil ⟨(sco (sld rfl rfl (ldg (n := 2) (by kernel_rfl) (by first | assumption | (simp (disch := first | omega | (simp only [hNw, hPt]; omega)) only [gN] <;> first | rfl | assumption | exact gp0 _ _ _ | exact gn0 _ _)) (by first | rfl | assumption)) rfl (eqr _ (by first | rfl | exact lpl (by assumption) | (simp [AV.plain, AV.plains, AV.cells, pc])))) (sco (sld rfl rfl (ldg (n := 2) (by kernel_rfl) (by first | assumption | (simp (disch := first | omega | (simp only [hNw, hPt]; omega)) only [gN] <;> first | rfl | assumption | exact gp0 _ _ _ | exact gn0 _ _)) (by first | rfl | assumption)) rfl (eqr _ (by first | rfl | exact lpl (by assumption) | (simp [AV.plain, AV.plains, AV.cells, pc])))) rfl)), ?_⟩
    refine OkP.step ?_
    have h27 := c27 (m + 202) cv1 bu1 cols (L : Int) (fr : Int) (ofN us) Hb1 (ma1.ext (by (try dsimp only); repeat (first | exact exHa13 | exact Ext.refl _ | apply Ext.new | (refine Ext.put ?_ _ (by first | omega | (simp only [hNw, hPt]; omega)))))) ib1.1 ib1.2 (by rw [ofN_len]; omega)
    rw [hsp] at h27
    refine OkO.callV rfl rfl rfl rfl rfl (h27) ?_
    refine OkO.nil ⟨(sco (sld rfl rfl (ldg (n := 2) (by kernel_rfl) (by first | assumption | (simp (disch := first | omega | (simp only [hNw, hPt]; omega)) only [gN] <;> first | rfl | assumption | exact gp0 _ _ _ | exact gn0 _ _)) (by first | rfl | assumption)) rfl (eqr _ (by first | rfl | exact lpl (by assumption) | (simp [AV.plain, AV.plains, AV.cells, pc])))) (sco (sld rfl rfl (ldg (n := 2) (by kernel_rfl) (by first | assumption | (simp (disch := first | omega | (simp only [hNw, hPt]; omega)) only [gN] <;> first | rfl | assumption | exact gp0 _ _ _ | exact gn0 _ _)) (by first | rfl | assumption)) rfl (eqr _ (by first | rfl | exact lpl (by assumption) | (simp [AV.plain, AV.plains, AV.cells, pc])))) rfl)), ?_⟩
    refine OkP.step ?_
    refine OkO.move rfl rfl ?_
    refine OkO.nil ⟨rfl, ?_⟩
    refine OkP.step ?_
    refine OkO.extract rfl rfl rfl ?_
    refine OkO.nil ⟨rfl, ?_⟩
    refine OkP.step ?_
    refine OkO.extract rfl rfl rfl ?_
    refine OkO.nil ⟨rfl, ?_⟩
    refine OkP.step ?_
    refine OkO.store rfl rfl rfl (sAc (n := 2) (ag := true) (by kernel_rfl) (by first | assumption | (simp (disch := first | omega | (simp only [hNw, hPt]; omega)) only [gN] <;> first | rfl | assumption | exact gp0 _ _ _ | exact gn0 _ _)) rfl (by first | rfl | assumption | exact at31) (by first | rfl | exact spl_set _ _ _ (by first | assumption | omega | (simp; omega)))) ?_
    refine OkO.nil ⟨rfl, ?_⟩
    refine OkP.step ?_
    refine OkO.assign rfl rfl ?_
    refine OkO.nil ⟨rfl, ?_⟩
    refine OkP.nil ?_
    refine Ok.seq ?_
    refine Ok.region ?_
    refine OkO.load rfl rfl (ldg (n := 2) (by kernel_rfl) (by first | assumption | (simp (disch := first | omega | (simp only [hNw, hPt]; omega)) only [gN] <;> first | rfl | assumption | exact gp0 _ _ _ | exact gn0 _ _)) (by first | rfl | assumption)) ?_
    refine OkO.callE rfl rfl rfl rfl rfl (c19 (m + 209) cv cols (L : Int) _ (hM.ext (hE _ (by (try dsimp only); repeat (first | exact gg3 | apply Grow.new | (refine Grow.put ?_ _ (by first | omega | (simp only [hNw, hPt]; omega))))))) hth) ?_
    rintro _ Ha2 ⟨cv2, rfl, qa2, fa2⟩
    have n4 := qa2.ext.next
    try simp only [hNw, hPt] at n4
    have gg4 : Grow W Ha2 := Grow.ret (by (try dsimp only); repeat (first | exact gg3 | apply Grow.new | (refine Grow.put ?_ _ (by first | omega | (simp only [hNw, hPt]; omega))))) qa2
    have a4 : (Ha2.get (W.next)).bind AObj.cs = some [cv, I (L : Int)] := by rw [qa2.ext.get _ (by first | omega | (simp only [hNw, hPt]; omega))]; first | assumption | (rw [gn0]; rfl) | (rw [get_put_eq] <;> rfl) | (simp (disch := first | omega | (simp only [hNw, hPt]; omega)) only [gN] <;> first | rfl | assumption | (rw [get_put_eq] <;> rfl))
    have s124 : (Ha2.get (G6.next)).bind AObj.cs = some [I sa, I sb] := by rw [qa2.ext.get _ (by first | omega | (simp only [hNw, hPt]; omega))]; first | assumption | (rw [gn0]; rfl) | (rw [get_put_eq] <;> rfl) | (simp (disch := first | omega | (simp only [hNw, hPt]; omega)) only [gN] <;> first | rfl | assumption | (rw [get_put_eq] <;> rfl))
    have ma2 := fa2.now (Nat.le_refl _)
    have pc2 : cv2.plain = true := by obtain ⟨vs, hR, _, _⟩ := ma2; exact lpl hR.len
    refine OkO.callE rfl rfl rfl rfl rfl (c31' m cv2 cols (L : Int) _ ma2 hv) ?_
    rintro _ Hw ⟨qw, x31, y31, z31, e31, rfl, at31, hd31⟩
    have n5 := qw.ext.next
    try simp only [hNw, hPt] at n5
    have gg5 : Grow W Hw := Grow.ret (by (try dsimp only); repeat (first | exact gg4 | apply Grow.new | (refine Grow.put ?_ _ (by first | omega | (simp only [hNw, hPt]; omega))))) qw
    have a5 : (Hw.get (W.next)).bind AObj.cs = some [cv, I (L : Int)] := by rw [qw.ext.get _ (by first | omega | (simp only [hNw, hPt]; omega))]; first | assumption | (rw [gn0]; rfl) | (rw [get_put_eq] <;> rfl) | (simp (disch := first | omega | (simp only [hNw, hPt]; omega)) only [gN] <;> first | rfl | assumption | (rw [get_put_eq] <;> rfl))
    have s125 : (Hw.get (G6.next)).bind AObj.cs = some [I sa, I sb] := by rw [qw.ext.get _ (by first | omega | (simp only [hNw, hPt]; omega))]; first | assumption | (rw [gn0]; rfl) | (rw [get_put_eq] <;> rfl) | (simp (disch := first | omega | (simp only [hNw, hPt]; omega)) only [gN] <;> first | rfl | assumption | (rw [get_put_eq] <;> rfl))
    have exHa25 : Ext Ha2 Hw := Ext.trans (by (try dsimp only); repeat (first | exact Ext.refl _ | exact Ext.refl _ | apply Ext.new | (refine Ext.put ?_ _ (by first | omega | (simp only [hNw, hPt]; omega))))) qw.ext
    have w31 := worstIs_of hd31
    have hwb := worst_below (fa := fw % 10001) (bedsOk_of hv) w31 (by omega)
    obtain ⟨he31, fr2, us2, hx31, my31, hyn, hLow⟩ : e31 = 0 ∧ ∃ (fr : Nat) (us : List Nat), x31 = I (fr : Int) ∧ Mine Ha2.next Hw y31 3 1 (us.map fun (k : Nat) => I (k : Int)) ∧ y31 ≠ .nils ∧ LowAt cols (cols.headD []).length (L : Int) z31 fr us := by (rcases hd31 with h | ⟨_, _, _, _, _, h⟩); (· exact h); (· exact absurd h hcase)
    subst he31 hx31
    have hU2 : Row Hw y31 1 (us2.map fun (k : Nat) => [I (k : Int)]) := Mine.row (by rw [flatN]; exact my31) (fun x hx => by simp only [List.mem_map] at hx; obtain ⟨y, _, rfl⟩ := hx; rfl) (by omega)
    have hcut2 : Cut Hw y31 1 := my31.cut
    have py31 := lpl hU2.len
    have hone2 := my31.one
    have hs2 := hLow.1
    have hsp2 := span_W hv hs2
    obtain ⟨sb2, hspv2⟩ : ∃ sb2, spW cols fr2 us2 = (z31, sb2, 0) := by (unfold spW); (rw [if_pos hLow.2.1, hLow.2.2.1]); exact ⟨_, rfl⟩
    rw [hspv2] at hsp2
    have hul2 : us2.length ≤ 1000 := by (have h9 := hs2.2.2.2); omega
    have hzf : z31 < (fw % 10001) := (hwb.1 hbt).2
    refine OkO.move rfl rfl ?_
    refine OkO.extract rfl rfl rfl ?_
    refine OkO.extract rfl rfl rfl ?_
    refine OkO.extract rfl rfl rfl ?_
    refine OkO.alloc (z := [.int .i64 0, .nils]) rfl (by kernel_rfl) ?_
    refine OkO.store rfl rfl rfl (sAc (n := 2) (ag := true) (by kernel_rfl) (by first | assumption | (simp (disch := first | omega | (simp only [hNw, hPt]; omega)) only [gN] <;> first | rfl | assumption | exact gp0 _ _ _ | exact gn0 _ _)) rfl (by first | rfl | assumption | exact at31) (by first | rfl | exact spl_set _ _ _ (by first | assumption | omega | (simp; omega)))) ?_
    refine OkO.assign rfl rfl ?_
    refine OkO.assign rfl rfl ?_
    refine OkO.nil ?_
    refine Ok.seq ?_
    refine Ok.region ?_
    refine OkO.load rfl rfl (ldg (n := 2) (by kernel_rfl) (by first | assumption | (simp (disch := first | omega | (simp only [hNw, hPt]; omega)) only [gN] <;> first | rfl | assumption | exact gp0 _ _ _ | exact gn0 _ _)) (by first | rfl | assumption)) ?_
    refine OkO.callE rfl rfl rfl rfl rfl (c19 (m + 209) cv cols (L : Int) _ (hM.ext (hE _ (by (try dsimp only); repeat (first | exact gg5 | apply Grow.new | (refine Grow.put ?_ _ (by first | omega | (simp only [hNw, hPt]; omega))))))) hth) ?_
    rintro _ Ha3 ⟨cv3, rfl, qa3, fa3⟩
    have n6 := qa3.ext.next
    try simp only [hNw, hPt] at n6
    have gg6 : Grow W Ha3 := Grow.ret (by (try dsimp only); repeat (first | exact gg5 | apply Grow.new | (refine Grow.put ?_ _ (by first | omega | (simp only [hNw, hPt]; omega))))) qa3
    have a6 : (Ha3.get (W.next)).bind AObj.cs = some [cv, I (L : Int)] := by rw [qa3.ext.get _ (by first | omega | (simp only [hNw, hPt]; omega))]; first | assumption | (rw [gn0]; rfl) | (rw [get_put_eq] <;> rfl) | (simp (disch := first | omega | (simp only [hNw, hPt]; omega)) only [gN] <;> first | rfl | assumption | (rw [get_put_eq] <;> rfl))
    have s126 : (Ha3.get (G6.next)).bind AObj.cs = some [I sa, I sb] := by rw [qa3.ext.get _ (by first | omega | (simp only [hNw, hPt]; omega))]; first | assumption | (rw [gn0]; rfl) | (rw [get_put_eq] <;> rfl) | (simp (disch := first | omega | (simp only [hNw, hPt]; omega)) only [gN] <;> first | rfl | assumption | (rw [get_put_eq] <;> rfl))
    have u146 : (Ha3.get (Hw.next)).bind AObj.cs = some [I (fr2 : Int), y31] := by rw [qa3.ext.get _ (by first | omega | (simp only [hNw, hPt]; omega))]; first | assumption | (rw [gn0]; rfl) | (rw [get_put_eq] <;> rfl) | (simp (disch := first | omega | (simp only [hNw, hPt]; omega)) only [gN] <;> first | rfl | assumption | (rw [get_put_eq] <;> rfl))
    have exHa26 : Ext Ha2 Ha3 := Ext.trans (by (try dsimp only); repeat (first | exact exHa25 | exact Ext.refl _ | apply Ext.new | (refine Ext.put ?_ _ (by first | omega | (simp only [hNw, hPt]; omega))))) qa3.ext
    have exHw6 : Ext Hw Ha3 := Ext.trans (by (try dsimp only); repeat (first | exact Ext.refl _ | exact Ext.refl _ | apply Ext.new | (refine Ext.put ?_ _ (by first | omega | (simp only [hNw, hPt]; omega))))) qa3.ext
    have ma3 := fa3.now (Nat.le_refl _)
    have pc3 : cv3.plain = true := by obtain ⟨vs, hR, _, _⟩ := ma3; exact lpl hR.len
    refine OkO.move rfl rfl ?_
    refine OkO.callV rfl rfl rfl rfl rfl ((c36E m cv3 cols (L : Int) (fw % 10001) _ ma3 (by rw [hre]; decide)).trans (by rw [hre])) ?_
    refine OkO.move rfl rfl ?_
    refine OkO.extract rfl rfl rfl ?_
    refine OkO.extract rfl rfl rfl ?_
    refine OkO.assign rfl rfl ?_
    refine OkO.assign rfl rfl ?_
    refine OkO.nil ?_
    refine Ok.join (fun s => Has 8 [(3, tv), (4, .ptr W.next 0), (11, I (fw % 10001)), (14, .ptr Hw.next 0), (15, I z31), (16, I 0), (17, .nils), (18, I 10)] s.T ∧ s.D = [] ∧ Ha3 = s.H) ?_ ?_
    · -- to the meeting
      refine Ok.seq ?_
      refine Ok.region ?_
      refine OkO.move rfl rfl ?_
      refine OkO.bin rfl rfl rfl (bin_neq _ _) ?_
      refine OkO.move rfl rfl ?_
      refine OkO.split (d := 91) rfl (fun g5 => ?_) (fun g5 => ?_)
      · -- true g5
        refine OkO.move rfl rfl ?_
        refine OkO.bin rfl rfl rfl ((bin_neq _ _).trans (congrArg (fun b => some (AV.bool b)) (show _ = false from (by (rcases hcs with h9 | h9); (· exact absurd h9.2.2 (by simpa using g5)); (· rw [h9.2]; rfl))))) ?_
        refine OkO.pick (b := true) rfl rfl (fun _ => rfl) nofun ?_
        refine OkO.move rfl rfl ?_
        refine OkO.move rfl rfl ?_
        refine OkO.bin rfl rfl rfl ((bin_neq _ _).trans (congrArg (fun b => some (AV.bool b)) (show _ = false from (by rfl)))) ?_
        refine OkO.move rfl rfl ?_
        refine OkO.skip rfl ?_
        refine OkO.skip rfl ?_
        refine OkO.pick (b := false) rfl rfl nofun (fun _ => rfl) ?_
        refine OkO.pick (b := false) rfl rfl nofun (fun _ => rfl) ?_
        refine OkO.move rfl rfl ?_
        refine OkO.move rfl rfl ?_
        refine OkO.bin rfl rfl rfl (bin_eql _ _) ?_
        refine OkO.move rfl rfl ?_
        refine OkO.split (d := 106) rfl (fun g6 => ?_) (fun g6 => ?_)
        · -- true g6
          exfalso
          have h9 : se = 0 := by simpa using g6
          exact absurd h9 (by simpa using g5)
        · -- false g6
          refine OkO.skip rfl ?_
          refine OkO.skip rfl ?_
          refine OkO.skip rfl ?_
          refine OkO.skip rfl ?_
          refine OkO.skip rfl ?_
          refine OkO.skip rfl ?_
          refine OkO.skip rfl ?_
          refine OkO.skip rfl ?_
          refine OkO.pick (b := false) rfl rfl nofun (fun _ => rfl) ?_
          refine OkO.pick (b := false) rfl rfl nofun (fun _ => rfl) ?_
          refine OkO.nil ?_
          refine Ok.condF rfl ?_
          refine Ok.skip ?_
          exact ⟨rfl, Has.of (by kernel_rfl), rfl, rfl⟩
      · -- false g5
        refine OkO.skip rfl ?_
        refine OkO.skip rfl ?_
        refine OkO.pick (b := false) rfl rfl nofun (fun _ => rfl) ?_
        refine OkO.move rfl rfl ?_
        refine OkO.move rfl rfl ?_
        refine OkO.bin rfl rfl rfl ((bin_neq _ _).trans (congrArg (fun b => some (AV.bool b)) (show _ = false from (by rfl)))) ?_
        refine OkO.move rfl rfl ?_
        refine OkO.skip rfl ?_
        refine OkO.skip rfl ?_
        refine OkO.pick (b := false) rfl rfl nofun (fun _ => rfl) ?_
        refine OkO.pick (b := false) rfl rfl nofun (fun _ => rfl) ?_
        refine OkO.move rfl rfl ?_
        refine OkO.move rfl rfl ?_
        refine OkO.bin rfl rfl rfl (bin_eql _ _) ?_
        refine OkO.move rfl rfl ?_
        refine OkO.split (d := 106) rfl (fun g7 => ?_) (fun g7 => ?_)
        · -- true g7
          refine OkO.move rfl rfl ?_
          refine OkO.bin rfl rfl rfl ((bin_neq _ _).trans (congrArg (fun b => some (AV.bool b)) (show _ = false from (by rfl)))) ?_
          refine OkO.move rfl rfl ?_
          refine OkO.fieldAddr (o := 0) rfl (by kernel_rfl) rfl ?_
          refine OkO.load rfl rfl (lda (n := 1) (by kernel_rfl) (by first | assumption | (simp (disch := first | omega | (simp only [hNw, hPt]; omega)) only [gN] <;> first | rfl | assumption | exact gp0 _ _ _ | exact gn0 _ _)) (by first | rfl | assumption)) ?_
          refine OkO.move rfl rfl ?_
          refine OkO.bin rfl rfl rfl ((bin_lss _ _).trans (congrArg (fun b => some (AV.bool b)) (show _ = false from (by rw [decide_eq_false_iff_not]; (rcases hcs with h9 | h9); (· (have h8 := hLow.2.2.2 fr us hs h9.1); (have h7 := h9.2.1); omega); (· (have h8 := h9.2); (have h7 : se = 0 := by simpa using g7); omega))))) ?_
          refine OkO.pick (b := false) rfl rfl nofun (fun _ => rfl) ?_
          refine OkO.pick (b := true) rfl rfl (fun _ => rfl) nofun ?_
          refine OkO.pick (b := false) rfl rfl nofun (fun _ => rfl) ?_
          refine OkO.nil ?_
          refine Ok.condF rfl ?_
          refine Ok.skip ?_
          exact ⟨rfl, Has.of (by kernel_rfl), rfl, rfl⟩
        · -- false g7
          refine OkO.skip rfl ?_
          refine OkO.skip rfl ?_
          refine OkO.skip rfl ?_
          refine OkO.skip rfl ?_
          refine OkO.skip rfl ?_
          refine OkO.skip rfl ?_
          refine OkO.skip rfl ?_
          refine OkO.skip rfl ?_
          refine OkO.pick (b := false) rfl rfl nofun (fun _ => rfl) ?_
          refine OkO.pick (b := false) rfl rfl nofun (fun _ => rfl) ?_
          refine OkO.nil ?_
          refine Ok.condF rfl ?_
          refine Ok.skip ?_
          exact ⟨rfl, Has.of (by kernel_rfl), rfl, rfl⟩
    · -- behind it
      rintro ⟨T, D, G⟩ ⟨⟨f9_, hTT⟩, hD, hGG⟩
      dsimp only at *
      subst hTT hD
      subst hGG
      refine Ok.seq ?_
      refine Ok.seq ?_
      refine Ok.region ?_
      refine OkO.move rfl rfl ?_
      refine OkO.bin rfl rfl rfl ((bin_eql _ _).trans (congrArg (fun b => some (AV.bool b)) (show _ = true from (by rfl)))) ?_
      refine OkO.nil ?_
      refine Ok.condT rfl ?_
      refine Ok.seq ?_
      refine Ok.drawn [(0, true, []), (2, true, []), (7, true, [2, 0]), (1, false, [2]), (3, false, [0]), (4, true, []), (5, true, []), (6, true, []), (8, false, []), (9, true, [])] (by kernel_rfl) ?_
      refine OkP.step ?_
      refine OkO.load rfl rfl (ldg (n := 2) (by kernel_rfl) (by first | assumption | (simp (disch := first | omega | (simp only [hNw, hPt]; omega)) only [gN] <;> first | rfl | assumption | exact gp0 _ _ _ | exact gn0 _ _)) (by first | rfl | assumption)) ?_
      refine OkO.nil ⟨rfl, ?_⟩
      refine OkP.step ?_
      refine OkO.load rfl rfl (ldg (n := 2) (by kernel_rfl) (by first | assumption | (simp (disch := first | omega | (simp only [hNw, hPt]; omega)) only [gN] <;> first | rfl | assumption | exact gp0 _ _ _ | exact gn0 _ _)) (by first | rfl | assumption)) ?_
      refine OkO.nil ⟨rfl, ?_⟩
      refine OkP.step ?_
      refine OkO.alloc (z := [.int .i64 0, .int .i64 0]) rfl (by kernel_rfl) ?_
      refine OkO.nil ⟨(sco (sld rfl rfl (ldg (n := 2) (by kernel_rfl) (by first | assumption | (simp (disch := first | omega | (simp only [hNw, hPt]; omega)) only [gN] <;> first | rfl | assumption | exact gp0 _ _ _ | exact gn0 _ _)) (by first | rfl | assumption)) rfl (eqr _ (by first | rfl | exact lpl (by assumption) | (simp [AV.plain, AV.plains, AV.cells, pc, py31])))) (sco (sld rfl rfl (ldg (n := 2) (by kernel_rfl) (by first | assumption | (simp (disch := first | omega | (simp only [hNw, hPt]; omega)) only [gN] <;> first | rfl | assumption | exact gp0 _ _ _ | exact gn0 _ _)) (by first | rfl | assumption)) rfl (eqr _ (by first | rfl | exact lpl (by assumption) | (simp [AV.plain, AV.plains, AV.cells, pc, py31])))) rfl)), ?_⟩
      refine OkP.step ?_
      refine OkO.callE rfl rfl rfl rfl rfl (c19 (m + 209) cv cols (L : Int) _ (hM.ext (hE _ (by (try dsimp only); repeat (first | exact gg6 | apply Grow.new | (refine Grow.put ?_ _ (by first | omega | (simp only [hNw, hPt]; omega))))))) hth) ?_
      rintro _ Ha4 ⟨cv4, rfl, qa4, fa4⟩
      have n7 := qa4.ext.next
      try simp only [hNw, hPt] at n7
      have gg7 : Grow W Ha4 := Grow.ret (by (try dsimp only); repeat (first | exact gg6 | apply Grow.new | (refine Grow.put ?_ _ (by first | omega | (simp only [hNw, hPt]; omega))))) qa4
      have a7 : (Ha4.get (W.next)).bind AObj.cs = some [cv, I (L : Int)] := by rw [qa4.ext.get _ (by first | omega | (simp only [hNw, hPt]; omega))]; first | assumption | (rw [gn0]; rfl) | (rw [get_put_eq] <;> rfl) | (simp (disch := first | omega | (simp only [hNw, hPt]; omega)) only [gN] <;> first | rfl | assumption | (rw [get_put_eq] <;> rfl))
      have s127 : (Ha4.get (G6.next)).bind AObj.cs = some [I sa, I sb] := by rw [qa4.ext.get _ (by first | omega | (simp only [hNw, hPt]; omega))]; first | assumption | (rw [gn0]; rfl) | (rw [get_put_eq] <;> rfl) | (simp (disch := first | omega | (simp only [hNw, hPt]; omega)) only [gN] <;> first | rfl | assumption | (rw [get_put_eq] <;> rfl))
      have u147 : (Ha4.get (Hw.next)).bind AObj.cs = some [I (fr2 : Int), y31] := by rw [qa4.ext.get _ (by first | omega | (simp only [hNw, hPt]; omega))]; first | assumption | (rw [gn0]; rfl) | (rw [get_put_eq] <;> rfl) | (simp (disch := first | omega | (simp only [hNw, hPt]; omega)) only [gN] <;> first | rfl | assumption | (rw [get_put_eq] <;> rfl))
      have o197 : Ha4.get (Ha3.next) = some (.cells [I 0, I 0] 47) := by rw [qa4.ext.get _ (by first | omega | (simp only [hNw, hPt]; omega))]; first | assumption | exact gn0 _ _ | (simp (disch := first | omega | (simp only [hNw, hPt]; omega)) only [gN] <;> first | rfl | assumption | exact gp0 _ _ _ | exact gn0 _ _)
      have exHa27 : Ext Ha2 Ha4 := Ext.trans (by (try dsimp only); repeat (first | exact exHa26 | exact Ext.refl _ | apply Ext.new | (refine Ext.put ?_ _ (by first | omega | (simp only [hNw, hPt]; omega))))) qa4.ext
      have exHw7 : Ext Hw Ha4 := Ext.trans (by (try dsimp only); repeat (first | exact exHw6 | exact Ext.refl _ | apply Ext.new | (refine Ext.put ?_ _ (by first | omega | (simp only [hNw, hPt]; omega))))) qa4.ext
      have exHa37 : Ext Ha3 Ha4 := Ext.trans (by (try dsimp only); repeat (first | exact Ext.refl _ | exact Ext.refl _ | apply Ext.new | (refine Ext.put ?_ _ (by first | omega | (simp only [hNw, hPt]; omega))))) qa4.ext
      have ma4 := fa4.now (Nat.le_refl _)
      have pc4 : cv4.plain = true := by obtain ⟨vs, hR, _, _⟩ := ma4; exact lpl hR.len
      refine OkO.nil ⟨(sco (sld rfl rfl (ldg (n := 2) (by kernel_rfl) (by first | assumption | (simp (disch := first | omega | (simp only [hNw, hPt]; omega)) only [gN] <;> first | rfl | assumption | exact gp0 _ _ _ | exact gn0 _ _)) (by first | rfl | assumption)) rfl (eqr _ (by first | rfl | exact lpl (by assumption) | (simp [AV.plain, AV.plains, AV.cells, pc, py31])))) rfl), ?_⟩
      refine OkP.step ?_
      have h27b := c27 (m + 202) cv4 y31 cols (L : Int) (fr2 : Int) (ofN us2) Ha4 ma4 (ints_N (hU2.ext (by (try dsimp only); repeat (first | exact exHw7 | exact Ext.refl _ | apply Ext.new | (refine Ext.put ?_ _ (by first | omega | (simp only [hNw, hPt]; omega))))))) (hcut2.ext (by (try dsimp only); repeat (first | exact exHw7 | exact Ext.refl _ | apply Ext.new | (refine Ext.put ?_ _ (by first | omega | (simp only [hNw, hPt]; omega)))))) (by rw [ofN_len]; omega)
      rw [hsp2] at h27b
      refine OkO.callV rfl rfl rfl rfl rfl (h27b) ?_
      refine OkO.nil ⟨(sco (sld rfl rfl (ldg (n := 2) (by kernel_rfl) (by first | assumption | (simp (disch := first | omega | (simp only [hNw, hPt]; omega)) only [gN] <;> first | rfl | assumption | exact gp0 _ _ _ | exact gn0 _ _)) (by first | rfl | assumption)) rfl (eqr _ (by first | rfl | exact lpl (by assumption) | (simp [AV.plain, AV.plains, AV.cells, pc, py31])))) rfl), ?_⟩
      refine OkP.step ?_
      refine OkO.move rfl rfl ?_
      refine OkO.nil ⟨rfl, ?_⟩
      refine OkP.step ?_
      refine OkO.extract rfl rfl rfl ?_
      refine OkO.nil ⟨rfl, ?_⟩
      refine OkP.step ?_
      refine OkO.extract rfl rfl rfl ?_
      refine OkO.nil ⟨rfl, ?_⟩
      refine OkP.step ?_
      refine OkO.store rfl rfl rfl (sAc (n := 2) (ag := true) (by kernel_rfl) (by first | assumption | (simp (disch := first | omega | (simp only [hNw, hPt]; omega)) only [gN] <;> first | rfl | assumption | exact gp0 _ _ _ | exact gn0 _ _)) rfl (by first | rfl | assumption | exact at31) (by first | rfl | exact spl_set _ _ _ (by first | assumption | omega | (simp; omega)))) ?_
      refine OkO.nil ⟨rfl, ?_⟩
      refine OkP.step ?_
      refine OkO.assign rfl rfl ?_
      refine OkO.nil ⟨rfl, ?_⟩
      refine OkP.nil ?_
      refine Ok.seq ?_
      refine Ok.seq ?_
      refine Ok.region ?_
      refine OkO.move rfl rfl ?_
      refine OkO.bin rfl rfl rfl ((bin_neq _ _).trans (congrArg (fun b => some (AV.bool b)) (show _ = false from (by rfl)))) ?_
      refine OkO.move rfl rfl ?_
      refine OkO.fieldAddr (o := 0) rfl (by kernel_rfl) rfl ?_
      refine OkO.load rfl rfl (lda (n := 1) (by kernel_rfl) (by first | assumption | (simp (disch := first | omega | (simp only [hNw, hPt]; omega)) only [gN] <;> first | rfl | assumption | exact gp0 _ _ _ | exact gn0 _ _)) (by first | rfl | assumption)) ?_
      refine OkO.move rfl rfl ?_
      refine OkO.bin rfl rfl rfl ((bin_neq _ _).trans (congrArg (fun b => some (AV.bool b)) (show _ = false from (by simp)))) ?_
      refine OkO.pick (b := false) rfl rfl nofun (fun _ => rfl) ?_
      refine OkO.move rfl rfl ?_
      refine OkO.move rfl rfl ?_
      refine OkO.bin rfl rfl rfl ((bin_eql _ _).trans (congrArg (fun b => some (AV.bool b)) (show _ = false from (by rfl)))) ?_
      refine OkO.move rfl rfl ?_
      refine OkO.move rfl rfl ?_
      refine OkO.bin rfl rfl rfl ((bin_leq _ _).trans (congrArg (fun b => some (AV.bool b)) (show _ = false from (by rw [decide_eq_false_iff_not]; omega)))) ?_
      refine OkO.binT rfl rfl rfl ((bin4n _ _).trans (congrArg (fun b => some (AV.bool b)) (show _ = false from (by rfl)))) ?_
      refine OkO.pick (b := false) rfl rfl nofun (fun _ => rfl) ?_
      refine OkO.nil ?_
      refine Ok.condF rfl ?_
      refine Ok.skip ?_
      refine Ok.seq ?_
      refine Ok.region ?_
      refine OkO.load rfl rfl (ldg (n := 2) (by kernel_rfl) (by first | assumption | (simp (disch := first | omega | (simp only [hNw, hPt]; omega)) only [gN] <;> first | rfl | assumption | exact gp0 _ _ _ | exact gn0 _ _)) (by first | rfl | assumption)) ?_
      refine OkO.callE rfl rfl rfl rfl rfl (c19 (m + 209) cv cols (L : Int) _ (hM.ext (hE _ (by (try dsimp only); repeat (first | exact gg7 | apply Grow.new | (refine Grow.put ?_ _ (by first | omega | (simp only [hNw, hPt]; omega))))))) hth) ?_
      rintro _ Ha5 ⟨cv5, rfl, qa5, fa5⟩
      have n8 := qa5.ext.next
      try simp only [hNw, hPt] at n8
      have gg8 : Grow W Ha5 := Grow.ret (by (try dsimp only); repeat (first | exact gg7 | apply Grow.new | (refine Grow.put ?_ _ (by first | omega | (simp only [hNw, hPt]; omega))))) qa5
      have a8 : (Ha5.get (W.next)).bind AObj.cs = some [cv, I (L : Int)] := by rw [qa5.ext.get _ (by first | omega | (simp only [hNw, hPt]; omega))]; first | assumption | (rw [gn0]; rfl) | (rw [get_put_eq] <;> rfl) | (simp (disch := first | omega | (simp only [hNw, hPt]; omega)) only [gN] <;> first | rfl | assumption | (rw [get_put_eq] <;> rfl))
      have s128 : (Ha5.get (G6.next)).bind AObj.cs = some [I sa, I sb] := by rw [qa5.ext.get _ (by first | omega | (simp only [hNw, hPt]; omega))]; first | assumption | (rw [gn0]; rfl) | (rw [get_put_eq] <;> rfl) | (simp (disch := first | omega | (simp only [hNw, hPt]; omega)) only [gN] <;> first | rfl | assumption | (rw [get_put_eq] <;> rfl))
      have u148 : (Ha5.get (Hw.next)).bind AObj.cs = some [I (fr2 : Int), y31] := by rw [qa5.ext.get _ (by first | omega | (simp only [hNw, hPt]; omega))]; first | assumption | (rw [gn0]; rfl) | (rw [get_put_eq] <;> rfl) | (simp (disch := first | omega | (simp only [hNw, hPt]; omega)) only [gN] <;> first | rfl | assumption | (rw [get_put_eq] <;> rfl))
      have w198 : (Ha5.get (Ha3.next)).bind AObj.cs = some [I z31, I sb2] := by rw [qa5.ext.get _ (by first | omega | (simp only [hNw, hPt]; omega))]; first | assumption | (rw [gn0]; rfl) | (rw [get_put_eq] <;> rfl) | (simp (disch := first | omega | (simp only [hNw, hPt]; omega)) only [gN] <;> first | rfl | assumption | (rw [get_put_eq] <;> rfl))
      have exHw8 : Ext Hw Ha5 := Ext.trans (by (try dsimp only); repeat (first | exact exHw7 | exact Ext.refl _ | apply Ext.new | (refine Ext.put ?_ _ (by first | omega | (simp only [hNw, hPt]; omega))))) qa5.ext
      have ma5 := fa5.now (Nat.le_refl _)
      have pc5 : cv5.plain = true := by obtain ⟨vs, hR, _, _⟩ := ma5; exact lpl hR.len
      refine OkO.move rfl rfl ?_
      refine OkO.move rfl rfl ?_
      refine OkO.callE rfl rfl rfl rfl rfl (c39 (m + 209) tv TT _ (hT.ext (hE _ (by (try dsimp only); repeat (first | exact gg8 | apply Grow.new | (refine Grow.put ?_ _ (by first | omega | (simp only [hNw, hPt]; omega))))))) (by omega) (fun R hR => by (have h9 := (hOK R hR).1); omega) (fun R hR l hl => by (have h9 := (hOK R hR).2 l hl); omega)) ?_
      rintro tc Hc ⟨qc, htc⟩
      have n9 := qc.ext.next
      try simp only [hNw, hPt] at n9
      have gg9 : Grow W Hc := Grow.ret (by (try dsimp only); repeat (first | exact gg8 | apply Grow.new | (refine Grow.put ?_ _ (by first | omega | (simp only [hNw, hPt]; omega))))) qc
      have a9 : (Hc.get (W.next)).bind AObj.cs = some [cv, I (L : Int)] := by rw [qc.ext.get _ (by first | omega | (simp only [hNw, hPt]; omega))]; first | assumption | (rw [gn0]; rfl) | (rw [get_put_eq] <;> rfl) | (simp (disch := first | omega | (simp only [hNw, hPt]; omega)) only [gN] <;> first | rfl | assumption | (rw [get_put_eq] <;> rfl))
      have s129 : (Hc.get (G6.next)).bind AObj.cs = some [I sa, I sb] := by rw [qc.ext.get _ (by first | omega | (simp only [hNw, hPt]; omega))]; first | assumption | (rw [gn0]; rfl) | (rw [get_put_eq] <;> rfl) | (simp (disch := first | omega | (simp only [hNw, hPt]; omega)) only [gN] <;> first | rfl | assumption | (rw [get_put_eq] <;> rfl))
      have u149 : (Hc.get (Hw.next)).bind AObj.cs = some [I (fr2 : Int), y31] := by rw [qc.ext.get _ (by first | omega | (simp only [hNw, hPt]; omega))]; first | assumption | (rw [gn0]; rfl) | (rw [get_put_eq] <;> rfl) | (simp (disch := first | omega | (simp only [hNw, hPt]; omega)) only [gN] <;> first | rfl | assumption | (rw [get_put_eq] <;> rfl))
      have w199 : (Hc.get (Ha3.next)).bind AObj.cs = some [I z31, I sb2] := by rw [qc.ext.get _ (by first | omega | (simp only [hNw, hPt]; omega))]; first | assumption | (rw [gn0]; rfl) | (rw [get_put_eq] <;> rfl) | (simp (disch := first | omega | (simp only [hNw, hPt]; omega)) only [gN] <;> first | rfl | assumption | (rw [get_put_eq] <;> rfl))
      have exHw9 : Ext Hw Hc := Ext.trans (by (try dsimp only); repeat (first | exact exHw8 | exact Ext.refl _ | apply Ext.new | (refine Ext.put ?_ _ (by first | omega | (simp only [hNw, hPt]; omega))))) qc.ext
      have exHa59 : Ext Ha5 Hc := Ext.trans (by (try dsimp only); repeat (first | exact Ext.refl _ | exact Ext.refl _ | apply Ext.new | (refine Ext.put ?_ _ (by first | omega | (simp only [hNw, hPt]; omega))))) qc.ext
      have lct := htc.len
      have pct : tc.plain = true := lpl lct
      refine OkO.callE rfl rfl rfl rfl rfl (c38U (m + 201) cv5 tc cols (fw % 10001) L TT _ (ma5.ext (by (try dsimp only); repeat (first | exact exHa59 | exact Ext.refl _ | apply Ext.new | (refine Ext.put ?_ _ (by first | omega | (simp only [hNw, hPt]; omega)))))) (htc.ext (by (try dsimp only); repeat (first | exact Ext.refl _ | exact Ext.refl _ | apply Ext.new | (refine Ext.put ?_ _ (by first | omega | (simp only [hNw, hPt]; omega)))))) (by omega) (fun R hR => by (have h9 := (hOK R hR).1); omega) (fun R hR l hl => by (have h9 := (hOK R hR).2 l hl); omega) hv (by omega)) ?_
      rintro _ H38 ⟨bb, rfl, rfl, hbb⟩
      refine OkO.move rfl rfl ?_
      refine OkO.split (d := 148) rfl (fun g8 => ?_) (fun g8 => ?_)
      · -- true g8
        exfalso
        have h9 := hbb g8
        rw [hbt] at h9
        cases h9
      · -- false g8
        refine OkO.skip rfl ?_
        refine OkO.skip rfl ?_
        refine OkO.skip rfl ?_
        refine OkO.pick (b := false) rfl rfl nofun (fun _ => rfl) ?_
        refine OkO.nil ?_
        refine Ok.condF rfl ?_
        refine Ok.skip ?_
        refine Ok.seq ?_
        refine Ok.region ?_
        refine OkO.move rfl rfl ?_
        refine OkO.bin rfl rfl rfl ((bin_eql _ _).trans (congrArg (fun b => some (AV.bool b)) (show _ = false from (by rfl)))) ?_
        refine OkO.move rfl rfl ?_
        refine OkO.skip rfl ?_
        refine OkO.skip rfl ?_
        refine OkO.skip rfl ?_
        refine OkO.skip rfl ?_
        refine OkO.skip rfl ?_
        refine OkO.pick (b := false) rfl rfl nofun (fun _ => rfl) ?_
        refine OkO.move rfl rfl ?_
        refine OkO.move rfl rfl ?_
        refine OkO.bin rfl rfl rfl ((bin_eql _ _).trans (congrArg (fun b => some (AV.bool b)) (show _ = true from (by rfl)))) ?_
        refine OkO.pick (b := false) rfl rfl nofun (fun _ => rfl) ?_
        refine OkO.move rfl rfl ?_
        refine OkO.callV rfl rfl rfl rfl rfl (rfl) ?_
        refine OkO.pick (b := true) rfl rfl (fun _ => rfl) nofun ?_
        refine OkO.assign rfl rfl ?_
        refine OkO.nil ?_
        refine Ok.ret ⟨.inr rfl, ?_⟩
        exact back_flat rfl rfl rfl (by rw [← hW]; exact (by (try dsimp only); repeat (first | exact gg9 | apply Grow.new | (refine Grow.put ?_ _ (by first | omega | (simp only [hNw, hPt]; omega))))))
set_option maxHeartbeats 2000000 in
theorem c11N (m : Nat) (cv wv tv : AV) (cols : List (List Bed)) (L : Nat) (fw : Int) (ws : List Int) (TT : List (List (List Int))) (H : Heap) (hM : Mat H cv cols) (hWs : Row H wv 1 (ws.map fun w => [U8 w])) (hws : Upto 255 ws) (hfw : 0 ≤ fw ∧ fw ≤ 65535) (hT : Tab H tv TT) (hT5 : TT.length ≤ 5) (hth : thinB cols = true) (hv : slOk cols (L : Int) = true) (hlc : (L : Int) ≤ cols.length) (hrd : readyS cols (L : Int) = true) (hcase : NoneAt cols (cols.headD []).length (L : Int)) (hbf : belowB cols.length (cols.headD []).length (L : Int) (prC cols (fw % 10001)) = false) (hre : reachE cols (L : Int) (fw % 10001) = 0) : RR (m + 212) (.fn 11 [.agg [cv, I (L : Int)], wv, U16 fw, tv]) H = some (.bool true, H) := by
  refine (R_fn _ _ _ _ _).trans ?_
  refine fn_ok Try.func11 rfl rfl (by kernel_rfl) (by kernel_rfl) ?_
  obtain ⟨W, hW, hg, hN, hE, hG⟩ := wOf H
  rw [← hW]
  have pc : cv.plain = true := by obtain ⟨vs, hR, _, _⟩ := hM; exact lpl hR.len
  have hlT := hT.len
  have ptv : tv.plain = true := lpl hlT
  have pwv : wv.plain = true := lpl hWs.len
  have hsf := slOk_facts hv
  have hfm1 := Int.emod_nonneg fw (b := 10001) (by omega)
  have hfm2 := Int.emod_lt_of_pos fw (b := 10001) (by omega)
  refine Ok.seq ?_
  refine Ok.region ?_
  refine OkO.box rfl rfl ?_
  refine OkO.assign rfl rfl ?_
  refine OkO.nil ?_
  refine Ok.seq ?_
  refine Ok.seq ?_
  refine Ok.region ?_
  refine OkO.load rfl rfl (ldg (n := 2) (by kernel_rfl) (by first | assumption | (simp (disch := first | omega | (simp only [hNw, hPt]; omega)) only [gN] <;> first | rfl | assumption | exact gp0 _ _ _ | exact gn0 _ _)) (by first | rfl | assumption)) ?_
  refine OkO.callV rfl rfl rfl rfl rfl ((c51 (m + 208) cv cols (L : Int) _ (hM.ext (hE _ (by (try dsimp only); repeat (first | exact hG | apply Grow.new | (refine Grow.put ?_ _ (by first | omega | (simp only [hNw, hPt]; omega)))))))).trans (by rw [hrd])) ?_
  refine OkO.un rfl rfl rfl ?_
  refine OkO.move rfl rfl ?_
  refine OkO.move rfl rfl ?_
  refine OkO.builtin rfl rfl rfl (bln (by kernel_rfl) (by first | assumption | rfl)) ?_
  refine OkO.bin rfl rfl rfl ((bin_gtr _ _).trans (congrArg (fun b => some (AV.bool b)) (show _ = false from (by rw [decide_eq_false_iff_not]; omega)))) ?_
  refine OkO.pick (b := false) rfl rfl nofun (fun _ => rfl) ?_
  refine OkO.nil ?_
  refine Ok.condF rfl ?_
  refine Ok.skip ?_
  refine Ok.seq ?_
  refine Ok.seq ?_
  refine Ok.region ?_
  refine OkO.assign rfl rfl ?_
  refine OkO.nil ?_
  refine Ok.block ?_
  obtain ⟨G6, hG6⟩ : ∃ G6, G6 = W.new (.cells [cv, I (L : Int)] 24) := ⟨_, rfl⟩
  have e6 : (G6.get W.next).bind AObj.cs = some [cv, I (L : Int)] := by rw [hG6, gn0]; rfl
  have g6 : Grow W G6 := by rw [hG6]; exact hG.new _
  have n6 : W.next + 1 ≤ G6.next := by rw [hG6]; simp
  refine Ok.loop (fun n9 s_ => ∃ i : Nat, n9 = TT.length - i ∧ i ≤ TT.length ∧ (∀ R ∈ TT.take i, (R.length ≤ 15 ∧ ∀ l ∈ R, l.length ≤ 8)) ∧ Has 8 [(1, wv), (2, U16 fw), (3, tv), (4, .ptr W.next 0), (9, I (i : Int))] s_.T ∧ s_.D = [] ∧ G6 = s_.H) (TT.length) (by unfold loopFuel; omega)
    ⟨0, rfl, Nat.zero_le _, (fun R h => absurd h (by simp)), Has.of (by kernel_rfl), rfl, hG6⟩ ?_
  rintro nn_ ⟨T, D, G⟩ ⟨i, hn9_, hi, hOK, ⟨f_, hTT⟩, hD, hgE⟩
  dsimp only at *
  subst hTT hD
  skip
  subst hgE
  refine Ok.seq ?_
  refine Ok.seq ?_
  refine Ok.region ?_
  refine OkO.move rfl rfl ?_
  refine OkO.move rfl rfl ?_
  refine OkO.builtin rfl rfl rfl (bln (by kernel_rfl) (by first | assumption | rfl)) ?_
  refine OkO.bin rfl rfl rfl (bin_lss _ _) ?_
  refine OkO.nil ?_
  refine Ok.cond rfl (fun h1 => ?_) (fun h1 => ?_)
  · -- yes h1
    have hlt : i < TT.length := by simpa using h1
    obtain ⟨xr, rb, ro, rcs, t1, t2, t3, t4, t5⟩ := (hT.ext (hE _ g6)).get i hlt
    have lq := t5.len
    have pxr : xr.plain = true := lpl lq
    refine Ok.skip ?_
    refine Ok.seq ?_
    refine Ok.block ?_
    refine Ok.seq ?_
    refine Ok.seq ?_
    refine Ok.region ?_
    refine OkO.move rfl rfl ?_
    refine OkO.move rfl rfl ?_
    refine OkO.index (sz := 1) (n := i) rfl rfl rfl (by kernel_rfl) (by first | assumption | rfl | exact slAt_slice (by omega) | exact slAt_opn (by omega)) ?_
    refine OkO.load rfl rfl (lda (n := 1) (by kernel_rfl) (by first | assumption | (simp (disch := first | omega | (simp only [hNw, hPt]; omega)) only [gN] <;> first | rfl | assumption | exact gp0 _ _ _ | exact gn0 _ _)) (by first | rfl | assumption)) ?_
    refine OkO.builtin rfl rfl rfl (bln (by kernel_rfl) (by first | assumption | rfl)) ?_
    refine OkO.bin rfl rfl rfl (bin_gtr _ _) ?_
    refine OkO.nil ?_
    refine Ok.cond rfl (fun h2 => ?_) (fun h2 => ?_)
    · -- yes h2
      refine Ok.seq ?_
      refine Ok.region ?_
      refine OkO.callV rfl rfl rfl rfl rfl (rfl) ?_
      refine OkO.assign rfl rfl ?_
      refine OkO.nil ?_
      refine Ok.ret ⟨.inr rfl, ?_⟩
      exact back_flat rfl rfl rfl (by rw [← hW]; exact g6)
    · -- no h2
      have hl15 : TT[i].length ≤ 15 := by (have h9 : ¬ (15 : Int) < (TT[i].length : Int) := by simpa using h2); omega
      refine Ok.skip ?_
      refine Ok.seq ?_
      refine Ok.region ?_
      refine OkO.assign rfl rfl ?_
      refine OkO.nil ?_
      refine Ok.block ?_
      refine Ok.loop (fun n8 s_ => ∃ j : Nat, n8 = TT[i].length - j ∧ j ≤ TT[i].length ∧ (∀ l ∈ TT[i].take j, l.length ≤ 8) ∧ Has 8 [(1, wv), (2, U16 fw), (3, tv), (4, .ptr W.next 0), (9, I (i : Int)), (10, I (j : Int))] s_.T ∧ s_.D = [] ∧ G6 = s_.H) (TT[i].length) (by unfold loopFuel; omega)
        ⟨0, rfl, Nat.zero_le _, (fun l h => absurd h (by simp)), Has.of (by kernel_rfl), rfl, rfl⟩ ?_
      rintro nn_ ⟨T, D, G⟩ ⟨j, hn8_, hj, hOKj, ⟨f2_, hTT⟩, hD, hgE⟩
      dsimp only at *
      subst hTT hD
      skip
      subst hgE
      refine Ok.seq ?_
      refine Ok.seq ?_
      refine Ok.region ?_
      refine OkO.move rfl rfl ?_
      refine OkO.move rfl rfl ?_
      refine OkO.move rfl rfl ?_
      refine OkO.index (sz := 1) (n := i) rfl rfl rfl (by kernel_rfl) (by first | assumption | rfl | exact slAt_slice (by omega) | exact slAt_opn (by omega)) ?_
      refine OkO.load rfl rfl (lda (n := 1) (by kernel_rfl) (by first | assumption | (simp (disch := first | omega | (simp only [hNw, hPt]; omega)) only [gN] <;> first | rfl | assumption | exact gp0 _ _ _ | exact gn0 _ _)) (by first | rfl | assumption)) ?_
      refine OkO.builtin rfl rfl rfl (bln (by kernel_rfl) (by first | assumption | rfl)) ?_
      refine OkO.bin rfl rfl rfl (bin_lss _ _) ?_
      refine OkO.nil ?_
      refine Ok.cond rfl (fun h3 => ?_) (fun h3 => ?_)
      · -- yes h3
        have hlt2 : j < TT[i].length := by simpa using h3
        obtain ⟨xl, cb, co, ccs, s1, s2, s3, s4, s5⟩ := t5.get j hlt2
        have lq2 := Row.len s5
        rw [List.length_map] at lq2
        have pxl : xl.plain = true := lpl lq2
        refine Ok.skip ?_
        refine Ok.seq ?_
        refine Ok.block ?_
        refine Ok.seq ?_
        refine Ok.region ?_
        refine OkO.move rfl rfl ?_
        refine OkO.move rfl rfl ?_
        refine OkO.index (sz := 1) (n := i) rfl rfl rfl (by kernel_rfl) (by first | assumption | rfl | exact slAt_slice (by omega) | exact slAt_opn (by omega)) ?_
        refine OkO.load rfl rfl (lda (n := 1) (by kernel_rfl) (by first | assumption | (simp (disch := first | omega | (simp only [hNw, hPt]; omega)) only [gN] <;> first | rfl | assumption | exact gp0 _ _ _ | exact gn0 _ _)) (by first | rfl | assumption)) ?_
        refine OkO.move rfl rfl ?_
        refine OkO.index (sz := 1) (n := j) rfl rfl rfl (by kernel_rfl) (by first | assumption | rfl | exact slAt_slice (by omega) | exact slAt_opn (by omega)) ?_
        refine OkO.load rfl rfl (lda (n := 1) (by kernel_rfl) (by first | assumption | (simp (disch := first | omega | (simp only [hNw, hPt]; omega)) only [gN] <;> first | rfl | assumption | exact gp0 _ _ _ | exact gn0 _ _)) (by first | rfl | assumption)) ?_
        refine OkO.builtin rfl rfl rfl (bln (by kernel_rfl) (by first | assumption | rfl)) ?_
        refine OkO.bin rfl rfl rfl (bin_gtr _ _) ?_
        refine OkO.nil ?_
        refine Ok.cond rfl (fun h4 => ?_) (fun h4 => ?_)
        · -- yes h4
          refine Ok.seq ?_
          refine Ok.region ?_
          refine OkO.callV rfl rfl rfl rfl rfl (rfl) ?_
          refine OkO.assign rfl rfl ?_
          refine OkO.nil ?_
          refine Ok.ret ⟨.inr rfl, ?_⟩
          exact back_flat rfl rfl rfl (by rw [← hW]; exact g6)
        · -- no h4
          have hl8 : TT[i][j].length ≤ 8 := by (have h9 : ¬ (8 : Int) < (TT[i][j].length : Int) := by simpa using h4); omega
          refine Ok.skip ?_
          refine Ok.region ?_
          refine OkO.move rfl rfl ?_
          refine OkO.bin rfl rfl rfl (bin_add (by omega) (by omega)) ?_
          refine OkO.assign rfl rfl ?_
          refine OkO.nil ?_
          refine ⟨TT[i].length - (j + 1), by omega, j + 1, rfl, by omega, fun l hl => ?_, Has.of (by kernel_rfl), rfl, rfl⟩
          rw [List.take_succ_eq_append_getElem hlt2, List.mem_append, List.mem_singleton] at hl
          rcases hl with hl | hl
          · exact hOKj l hl
          · rw [hl]; exact hl8
      · -- no h3
        have hge2 : j = TT[i].length := by (have h9 : ¬ j < TT[i].length := by simpa using h3); omega
        rw [hge2, List.take_length] at hOKj
        have hOKl := hOKj
        refine Ok.exit ?_
        refine Ok.region ?_
        refine OkO.move rfl rfl ?_
        refine OkO.bin rfl rfl rfl (bin_add (by omega) (by omega)) ?_
        refine OkO.assign rfl rfl ?_
        refine OkO.nil ?_
        refine ⟨TT.length - (i + 1), by omega, i + 1, rfl, by omega, fun R hR => ?_, Has.of (by kernel_rfl), rfl, rfl⟩
        rw [List.take_succ_eq_append_getElem hlt, List.mem_append, List.mem_singleton] at hR
        rcases hR with hR | hR
        · exact hOK R hR
        · rw [hR]; exact ⟨hl15, hOKl⟩
  · -- no h1
    have hge : i = TT.length := by (have h9 : ¬ i < TT.length := by simpa using h1); omega
    rw [hge, List.take_length] at hOK
    refine Ok.exit ?_
    refine Ok.seq ?_
    refine Ok.region ?_
    refine OkO.move rfl rfl ?_
    refine OkO.convert (k := .i64) rfl (by kernel_rfl) rfl (wrapF_i64 (by omega) (by omega)) ?_
    refine OkO.bin rfl rfl rfl (bin_rem (by omega) (by omega)) ?_
    refine OkO.assign rfl rfl ?_
    refine OkO.nil ?_
    refine Ok.seq ?_
    refine Ok.drawn [(0, true, []), (2, true, []), (3, true, []), (10, true, [2, 0]), (1, false, [2]), (4, false, [0]), (5, false, [2, 0]), (6, false, [2, 0]), (7, true, []), (8, true, []), (9, true, []), (11, false, []), (12, true, [])] (by kernel_rfl) ?_
    refine OkP.step ?_
    refine OkO.load rfl rfl (ldg (n := 2) (by kernel_rfl) (by first | assumption | (simp (disch := first | omega | (simp only [hNw, hPt]; omega)) only [gN] <;> first | rfl | assumption | exact gp0 _ _ _ | exact gn0 _ _)) (by first | rfl | assumption)) ?_
    refine OkO.nil ⟨rfl, ?_⟩
    refine OkP.step ?_
    refine OkO.load rfl rfl (ldg (n := 2) (by kernel_rfl) (by first | assumption | (simp (disch := first | omega | (simp only [hNw, hPt]; omega)) only [gN] <;> first | rfl | assumption | exact gp0 _ _ _ | exact gn0 _ _)) (by first | rfl | assumption)) ?_
    refine OkO.nil ⟨rfl, ?_⟩
    refine OkP.step ?_
    refine OkO.move rfl rfl ?_
    refine OkO.nil ⟨rfl, ?_⟩
    refine OkP.step ?_
    refine OkO.alloc (z := [.int .i64 0, .int .i64 0]) rfl (by kernel_rfl) ?_
    refine OkO.nil ⟨(sco (sld rfl rfl (ldg (n := 2) (by kernel_rfl) (by first | assumption | (simp (disch := first | omega | (simp only [hNw, hPt]; omega)) only [gN] <;> first | rfl | assumption | exact gp0 _ _ _ | exact gn0 _ _)) (by first | rfl | assumption)) rfl (eqr _ (by first | rfl | exact lpl (by assumption) | (simp [AV.plain, AV.plains, AV.cells, pc])))) (sco (sld rfl rfl (ldg (n := 2) (by kernel_rfl) (by first | assumption | (simp (disch := first | omega | (simp only [hNw, hPt]; omega)) only [gN] <;> first | rfl | assumption | exact gp0 _ _ _ | exact gn0 _ _)) (by first | rfl | assumption)) rfl (eqr _ (by first | rfl | exact lpl (by assumption) | (simp [AV.plain, AV.plains, AV.cells, pc])))) rfl)), ?_⟩
    refine OkP.step ?_
    refine OkO.callE rfl rfl rfl rfl rfl (c19 (m + 209) cv cols (L : Int) _ (hM.ext (hE _ (by (try dsimp only); repeat (first | exact g6 | apply Grow.new | (refine Grow.put ?_ _ (by first | omega | (simp only [hNw, hPt]; omega))))))) hth) ?_
    rintro _ Ha1 ⟨cv1, rfl, qa1, fa1⟩
    have n1 := qa1.ext.next
    try simp only [hNw, hPt] at n1
    have gg1 : Grow W Ha1 := Grow.ret (by (try dsimp only); repeat (first | exact g6 | apply Grow.new | (refine Grow.put ?_ _ (by first | omega | (simp only [hNw, hPt]; omega))))) qa1
    have a1 : (Ha1.get (W.next)).bind AObj.cs = some [cv, I (L : Int)] := by rw [qa1.ext.get _ (by first | omega | (simp only [hNw, hPt]; omega))]; first | assumption | (rw [gn0]; rfl) | (rw [get_put_eq] <;> rfl) | (simp (disch := first | omega | (simp only [hNw, hPt]; omega)) only [gN] <;> first | rfl | assumption | (rw [get_put_eq] <;> rfl))
    have o121 : Ha1.get (G6.next) = some (.cells [I 0, I 0] 47) := by rw [qa1.ext.get _ (by first | omega | (simp only [hNw, hPt]; omega))]; first | assumption | exact gn0 _ _ | (simp (disch := first | omega | (simp only [hNw, hPt]; omega)) only [gN] <;> first | rfl | assumption | exact gp0 _ _ _ | exact gn0 _ _)
    have ma1 := fa1.now (Nat.le_refl _)
    have pc1 : cv1.plain = true := by obtain ⟨vs, hR, _, _⟩ := ma1; exact lpl hR.len
    refine OkO.nil ⟨(sco (sld rfl rfl (ldg (n := 2) (by kernel_rfl) (by first | assumption | (simp (disch := first | omega | (simp only [hNw, hPt]; omega)) only [gN] <;> first | rfl | assumption | exact gp0 _ _ _ | exact gn0 _ _)) (by first | rfl | assumption)) rfl (eqr _ (by first | rfl | exact lpl (by assumption) | (simp [AV.plain, AV.plains, AV.cells, pc])))) rfl), ?_⟩
    refine OkP.step ?_
    refine OkO.callE rfl rfl rfl rfl rfl (c52 (m + 209) (cols.headD []).length cv wv cols (L : Int) ws _ (hM.ext (hE _ (by (try dsimp only); repeat (first | exact gg1 | apply Grow.new | (refine Grow.put ?_ _ (by first | omega | (simp only [hNw, hPt]; omega))))))) (hWs.ext (hE _ (by (try dsimp only); repeat (first | exact gg1 | apply Grow.new | (refine Grow.put ?_ _ (by first | omega | (simp only [hNw, hPt]; omega))))))) hws hv rfl hlc) ?_
    rintro v52 H52 ⟨fr, us, bu, rfl, q52, m52, nn52, hs, hlu⟩
    have n2 := q52.ext.next
    try simp only [hNw, hPt] at n2
    have gg2 : Grow W H52 := Grow.ret (by (try dsimp only); repeat (first | exact gg1 | apply Grow.new | (refine Grow.put ?_ _ (by first | omega | (simp only [hNw, hPt]; omega))))) q52
    have a2 : (H52.get (W.next)).bind AObj.cs = some [cv, I (L : Int)] := by rw [q52.ext.get _ (by first | omega | (simp only [hNw, hPt]; omega))]; first | assumption | (rw [gn0]; rfl) | (rw [get_put_eq] <;> rfl) | (simp (disch := first | omega | (simp only [hNw, hPt]; omega)) only [gN] <;> first | rfl | assumption | (rw [get_put_eq] <;> rfl))
    have o122 : H52.get (G6.next) = some (.cells [I 0, I 0] 47) := by rw [q52.ext.get _ (by first | omega | (simp only [hNw, hPt]; omega))]; first | assumption | exact gn0 _ _ | (simp (disch := first | omega | (simp only [hNw, hPt]; omega)) only [gN] <;> first | rfl | assumption | exact gp0 _ _ _ | exact gn0 _ _)
    have exHa12 : Ext Ha1 H52 := Ext.trans (by (try dsimp only); repeat (first | exact Ext.refl _ | exact Ext.refl _ | apply Ext.new | (refine Ext.put ?_ _ (by first | omega | (simp only [hNw, hPt]; omega))))) q52.ext
    have hone : bu.cells = [bu] ∧ bu.atom = true := m52.one
    have hU : Row H52 bu 1 (us.map fun (k : Nat) => [I (k : Int)]) := Mine.row (by rw [flatN]; exact m52) (fun x hx => by simp only [List.mem_map] at hx; obtain ⟨y, _, rfl⟩ := hx; rfl) (by omega)
    have pbu := lpl hU.len
    have hs4 : fr + us.length ≤ cols.length := hs.2.2.2
    have hsp := span_W hv hs
    obtain ⟨sa, sb, se, hspv⟩ : ∃ sa sb se, spW cols fr us = (sa, sb, se) := ⟨_, _, _, rfl⟩
    rw [hspv] at hsp
    have hcs : (1 ≤ drive (bedsW cols fr us) ∧ sa = facW cols fr us ∧ se = 0) ∨ (¬ 1 ≤ drive (bedsW cols fr us) ∧ se = 7) := by (unfold spW at hspv); (split at hspv); (· cases hspv; exact .inl ⟨by assumption, rfl, rfl⟩); (· cases hspv; exact .inr ⟨by assumption, rfl⟩)
    refine OkO.nil ⟨(sco (sld rfl rfl (ldg (n := 2) (by kernel_rfl) (by first | assumption | (simp (disch := first | omega | (simp only [hNw, hPt]; omega)) only [gN] <;> first | rfl | assumption | exact gp0 _ _ _ | exact gn0 _ _)) (by first | rfl | assumption)) rfl (eqr _ (by first | rfl | exact lpl (by assumption) | (simp [AV.plain, AV.plains, AV.cells, pc])))) rfl), ?_⟩
    refine OkP.step ?_
    refine OkO.callE rfl rfl rfl rfl rfl (c21 (m + 209) bu (fr : Int) (ofN us) _ (ints_N (hU.ext (by (try dsimp only); repeat (first | exact Ext.refl _ | exact Ext.refl _ | apply Ext.new | (refine Ext.put ?_ _ (by first | omega | (simp only [hNw, hPt]; omega))))))) (by rw [ofN_len]; omega)) ?_
    rintro _ Hb1 ⟨bu1, rfl, qb1, fb1⟩
    have n3 := qb1.ext.next
    try simp only [hNw, hPt] at n3
    have gg3 : Grow W Hb1 := Grow.ret (by (try dsimp only); repeat (first | exact gg2 | apply Grow.new | (refine Grow.put ?_ _ (by first | omega | (simp only [hNw, hPt]; omega))))) qb1
    have a3 : (Hb1.get (W.next)).bind AObj.cs = some [cv, I (L : Int)] := by rw [qb1.ext.get _ (by first | omega | (simp only [hNw, hPt]; omega))]; first | assumption | (rw [gn0]; rfl) | (rw [get_put_eq] <;> rfl) | (simp (disch := first | omega | (simp only [hNw, hPt]; omega)) only [gN] <;> first | rfl | assumption | (rw [get_put_eq] <;> rfl))
    have o123 : Hb1.get (G6.next) = some (.cells [I 0, I 0] 47) := by rw [qb1.ext.get _ (by first | omega | (simp only [hNw, hPt]; omega))]; first | assumption | exact gn0 _ _ | (simp (disch := first | omega | (simp only [hNw, hPt]; omega)) only [gN] <;> first | rfl | assumption | exact gp0 _ _ _ | exact gn0 _ _)
    have exHa13 : Ext Ha1 Hb1 := Ext.trans (by (try dsimp only); repeat (first | exact exHa12 | exact Ext.refl _ | apply Ext.new | (refine Ext.put ?_ _ (by first | omega | (simp only [hNw, hPt]; omega))))) qb1.ext
    have exH523 : Ext H52 Hb1 := Ext.trans (by (try dsimp only); repeat (first | exact Ext.refl _ | exact Ext.refl _ | apply Ext.new | (refine Ext.put ?_ _ (by first | omega | (simp only [hNw, hPt]; omega))))) qb1.ext
    have ib1 := fb1.now (Nat.le_refl _)
    have pbu1 : bu1.plain = true := lpl ib1.1.len
    refine OkO.nil ⟨(sco (sld rfl rfl (ldg (n := 2) (by kernel_rfl) (by first | assumption | (simp (disch := first | omega | (simp only [hNw, hPt]; omega)) only [gN] <;> first | rfl | assumption | exact gp0 _ _ _ | exact gn0 _ _)) (by first | rfl | assumption)) rfl (eqr _ (by first | rfl | exact lpl (by assumption) | (simp [AV.plain, AV.plains, AV.cells, pc])))) (sco (sld rfl rfl (ldg (n := 2) (by kernel_rfl) (by first | assumption | (simp (disch := first | omega | (simp only [hNw, hPt]; omega)) only [gN] <;> first | rfl | assumption | exact gp0 _ _ _ | exact gn0 _ _)) (by first | rfl | assumption)) rfl (eqr _ (by first | rfl | exact lpl (by assumption) | (simp [AV.plain, AV.plains, AV.cells, pc])))) rfl)), ?_⟩
    refine OkP.step ?_
    have h27 := c27 (m + 202) cv1 bu1 cols (L : Int) (fr : Int) (ofN us) Hb1 (ma1.ext (by (try dsimp only); repeat (first | exact exHa13 | exact Ext.refl _ | apply Ext.new | (refine Ext.put ?_ _ (by first | omega | (simp only [hNw, hPt]; omega)))))) ib1.1 ib1.2 (by rw [ofN_len]; omega)
    rw [hsp] at h27
    refine OkO.callV rfl rfl rfl rfl rfl (h27) ?_
    refine OkO.nil ⟨(sco (sld rfl rfl (ldg (n := 2) (by kernel_rfl) (by first | assumption | (simp (disch := first | omega | (simp only [hNw, hPt]; omega)) only [gN] <;> first | rfl | assumption | exact gp0 _ _ _ | exact gn0 _ _)) (by first | rfl | assumption)) rfl (eqr _ (by first | rfl | exact lpl (by assumption) | (simp [AV.plain, AV.plains, AV.cells, pc])))) (sco (sld rfl rfl (ldg (n := 2) (by kernel_rfl) (by first | assumption | (simp (disch := first | omega | (simp only [hNw, hPt]; omega)) only [gN] <;> first | rfl | assumption | exact gp0 _ _ _ | exact gn0 _ _)) (by first | rfl | assumption)) rfl (eqr _ (by first | rfl | exact lpl (by assumption) | (simp [AV.plain, AV.plains, AV.cells, pc])))) rfl)), ?_⟩
    refine OkP.step ?_
    refine OkO.move rfl rfl ?_
    refine OkO.nil ⟨rfl, ?_⟩
    refine OkP.step ?_
    refine OkO.extract rfl rfl rfl ?_
    refine OkO.nil ⟨rfl, ?_⟩
    refine OkP.step ?_
    refine OkO.extract rfl rfl rfl ?_
    refine OkO.nil ⟨rfl, ?_⟩
    refine OkP.step ?_
    refine OkO.store rfl rfl rfl (sAc (n := 2) (ag := true) (by kernel_rfl) (by first | assumption | (simp (disch := first | omega | (simp only [hNw, hPt]; omega)) only [gN] <;> first | rfl | assumption | exact gp0 _ _ _ | exact gn0 _ _)) rfl (by first | rfl | assumption | exact at31) (by first | rfl | exact spl_set _ _ _ (by first | assumption | omega | (simp; omega)))) ?_
    refine OkO.nil ⟨rfl, ?_⟩
    refine OkP.step ?_
    refine OkO.assign rfl rfl ?_
    refine OkO.nil ⟨rfl, ?_⟩
    refine OkP.nil ?_
    refine Ok.seq ?_
    refine Ok.region ?_
    refine OkO.load rfl rfl (ldg (n := 2) (by kernel_rfl) (by first | assumption | (simp (disch := first | omega | (simp only [hNw, hPt]; omega)) only [gN] <;> first | rfl | assumption | exact gp0 _ _ _ | exact gn0 _ _)) (by first | rfl | assumption)) ?_
    refine OkO.callE rfl rfl rfl rfl rfl (c19 (m + 209) cv cols (L : Int) _ (hM.ext (hE _ (by (try dsimp only); repeat (first | exact gg3 | apply Grow.new | (refine Grow.put ?_ _ (by first | omega | (simp only [hNw, hPt]; omega))))))) hth) ?_
    rintro _ Ha2 ⟨cv2, rfl, qa2, fa2⟩
    have n4 := qa2.ext.next
    try simp only [hNw, hPt] at n4
    have gg4 : Grow W Ha2 := Grow.ret (by (try dsimp only); repeat (first | exact gg3 | apply Grow.new | (refine Grow.put ?_ _ (by first | omega | (simp only [hNw, hPt]; omega))))) qa2
    have a4 : (Ha2.get (W.next)).bind AObj.cs = some [cv, I (L : Int)] := by rw [qa2.ext.get _ (by first | omega | (simp only [hNw, hPt]; omega))]; first | assumption | (rw [gn0]; rfl) | (rw [get_put_eq] <;> rfl) | (simp (disch := first | omega | (simp only [hNw, hPt]; omega)) only [gN] <;> first | rfl | assumption | (rw [get_put_eq] <;> rfl))
    have s124 : (Ha2.get (G6.next)).bind AObj.cs = some [I sa, I sb] := by rw [qa2.ext.get _ (by first | omega | (simp only [hNw, hPt]; omega))]; first | assumption | (rw [gn0]; rfl) | (rw [get_put_eq] <;> rfl) | (simp (disch := first | omega | (simp only [hNw, hPt]; omega)) only [gN] <;> first | rfl | assumption | (rw [get_put_eq] <;> rfl))
    have ma2 := fa2.now (Nat.le_refl _)
    have pc2 : cv2.plain = true := by obtain ⟨vs, hR, _, _⟩ := ma2; exact lpl hR.len
    refine OkO.callE rfl rfl rfl rfl rfl (c31' m cv2 cols (L : Int) _ ma2 hv) ?_
    rintro _ Hw ⟨qw, x31, y31, z31, e31, rfl, at31, hd31⟩
    have n5 := qw.ext.next
    try simp only [hNw, hPt] at n5
    have gg5 : Grow W Hw := Grow.ret (by (try dsimp only); repeat (first | exact gg4 | apply Grow.new | (refine Grow.put ?_ _ (by first | omega | (simp only [hNw, hPt]; omega))))) qw
    have a5 : (Hw.get (W.next)).bind AObj.cs = some [cv, I (L : Int)] := by rw [qw.ext.get _ (by first | omega | (simp only [hNw, hPt]; omega))]; first | assumption | (rw [gn0]; rfl) | (rw [get_put_eq] <;> rfl) | (simp (disch := first | omega | (simp only [hNw, hPt]; omega)) only [gN] <;> first | rfl | assumption | (rw [get_put_eq] <;> rfl))
    have s125 : (Hw.get (G6.next)).bind AObj.cs = some [I sa, I sb] := by rw [qw.ext.get _ (by first | omega | (simp only [hNw, hPt]; omega))]; first | assumption | (rw [gn0]; rfl) | (rw [get_put_eq] <;> rfl) | (simp (disch := first | omega | (simp only [hNw, hPt]; omega)) only [gN] <;> first | rfl | assumption | (rw [get_put_eq] <;> rfl))
    have exHa25 : Ext Ha2 Hw := Ext.trans (by (try dsimp only); repeat (first | exact Ext.refl _ | exact Ext.refl _ | apply Ext.new | (refine Ext.put ?_ _ (by first | omega | (simp only [hNw, hPt]; omega))))) qw.ext
    have w31 := worstIs_of hd31
    have hwb := worst_below (fa := fw % 10001) (bedsOk_of hv) w31 (by omega)
    obtain ⟨he31, hx31, hy31, hz31⟩ : e31 = 7 ∧ x31 = I 0 ∧ y31 = .nils ∧ z31 = 0 := by (rcases hd31 with ⟨_, fr9, us9, _, _, _, h⟩ | ⟨h1, h2, h3, h4, _, _⟩); (· exact absurd (hcase fr9 us9 h.1) (by have := h.2.1; omega)); (· exact ⟨h1, h2, h3, h4⟩)
    subst he31 hx31 hy31 hz31
    refine OkO.move rfl rfl ?_
    refine OkO.extract rfl rfl rfl ?_
    refine OkO.extract rfl rfl rfl ?_
    refine OkO.extract rfl rfl rfl ?_
    refine OkO.alloc (z := [.int .i64 0, .nils]) rfl (by kernel_rfl) ?_
    refine OkO.store rfl rfl rfl (sAc (n := 2) (ag := true) (by kernel_rfl) (by first | assumption | (simp (disch := first | omega | (simp only [hNw, hPt]; omega)) only [gN] <;> first | rfl | assumption | exact gp0 _ _ _ | exact gn0 _ _)) rfl (by first | rfl | assumption | exact at31) (by first | rfl | exact spl_set _ _ _ (by first | assumption | omega | (simp; omega)))) ?_
    refine OkO.assign rfl rfl ?_
    refine OkO.assign rfl rfl ?_
    refine OkO.nil ?_
    refine Ok.seq ?_
    refine Ok.region ?_
    refine OkO.load rfl rfl (ldg (n := 2) (by kernel_rfl) (by first | assumption | (simp (disch := first | omega | (simp only [hNw, hPt]; omega)) only [gN] <;> first | rfl | assumption | exact gp0 _ _ _ | exact gn0 _ _)) (by first | rfl | assumption)) ?_
    refine OkO.callE rfl rfl rfl rfl rfl (c19 (m + 209) cv cols (L : Int) _ (hM.ext (hE _ (by (try dsimp only); repeat (first | exact gg5 | apply Grow.new | (refine Grow.put ?_ _ (by first | omega | (simp only [hNw, hPt]; omega))))))) hth) ?_
    rintro _ Ha3 ⟨cv3, rfl, qa3, fa3⟩
    have n6 := qa3.ext.next
    try simp only [hNw, hPt] at n6
    have gg6 : Grow W Ha3 := Grow.ret (by (try dsimp only); repeat (first | exact gg5 | apply Grow.new | (refine Grow.put ?_ _ (by first | omega | (simp only [hNw, hPt]; omega))))) qa3
    have a6 : (Ha3.get (W.next)).bind AObj.cs = some [cv, I (L : Int)] := by rw [qa3.ext.get _ (by first | omega | (simp only [hNw, hPt]; omega))]; first | assumption | (rw [gn0]; rfl) | (rw [get_put_eq] <;> rfl) | (simp (disch := first | omega | (simp only [hNw, hPt]; omega)) only [gN] <;> first | rfl | assumption | (rw [get_put_eq] <;> rfl))
    have s126 : (Ha3.get (G6.next)).bind AObj.cs = some [I sa, I sb] := by rw [qa3.ext.get _ (by first | omega | (simp only [hNw, hPt]; omega))]; first | assumption | (rw [gn0]; rfl) | (rw [get_put_eq] <;> rfl) | (simp (disch := first | omega | (simp only [hNw, hPt]; omega)) only [gN] <;> first | rfl | assumption | (rw [get_put_eq] <;> rfl))
    have u146 : (Ha3.get (Hw.next)).bind AObj.cs = some [I 0, .nils] := by rw [qa3.ext.get _ (by first | omega | (simp only [hNw, hPt]; omega))]; first | assumption | (rw [gn0]; rfl) | (rw [get_put_eq] <;> rfl) | (simp (disch := first | omega | (simp only [hNw, hPt]; omega)) only [gN] <;> first | rfl | assumption | (rw [get_put_eq] <;> rfl))
    have exHa26 : Ext Ha2 Ha3 := Ext.trans (by (try dsimp only); repeat (first | exact exHa25 | exact Ext.refl _ | apply Ext.new | (refine Ext.put ?_ _ (by first | omega | (simp only [hNw, hPt]; omega))))) qa3.ext
    have exHw6 : Ext Hw Ha3 := Ext.trans (by (try dsimp only); repeat (first | exact Ext.refl _ | exact Ext.refl _ | apply Ext.new | (refine Ext.put ?_ _ (by first | omega | (simp only [hNw, hPt]; omega))))) qa3.ext
    have ma3 := fa3.now (Nat.le_refl _)
    have pc3 : cv3.plain = true := by obtain ⟨vs, hR, _, _⟩ := ma3; exact lpl hR.len
    refine OkO.move rfl rfl ?_
    refine OkO.callE rfl rfl rfl rfl rfl (c36 m cv3 cols (fw % 10001) L _ ma3 hv (by omega) hre) ?_
    rintro _ Ht ⟨tv9, rfl, qt, ht9⟩
    have n7 := qt.ext.next
    try simp only [hNw, hPt] at n7
    have gg7 : Grow W Ht := Grow.ret (by (try dsimp only); repeat (first | exact gg6 | apply Grow.new | (refine Grow.put ?_ _ (by first | omega | (simp only [hNw, hPt]; omega))))) qt
    have a7 : (Ht.get (W.next)).bind AObj.cs = some [cv, I (L : Int)] := by rw [qt.ext.get _ (by first | omega | (simp only [hNw, hPt]; omega))]; first | assumption | (rw [gn0]; rfl) | (rw [get_put_eq] <;> rfl) | (simp (disch := first | omega | (simp only [hNw, hPt]; omega)) only [gN] <;> first | rfl | assumption | (rw [get_put_eq] <;> rfl))
    have s127 : (Ht.get (G6.next)).bind AObj.cs = some [I sa, I sb] := by rw [qt.ext.get _ (by first | omega | (simp only [hNw, hPt]; omega))]; first | assumption | (rw [gn0]; rfl) | (rw [get_put_eq] <;> rfl) | (simp (disch := first | omega | (simp only [hNw, hPt]; omega)) only [gN] <;> first | rfl | assumption | (rw [get_put_eq] <;> rfl))
    have u147 : (Ht.get (Hw.next)).bind AObj.cs = some [I 0, .nils] := by rw [qt.ext.get _ (by first | omega | (simp only [hNw, hPt]; omega))]; first | assumption | (rw [gn0]; rfl) | (rw [get_put_eq] <;> rfl) | (simp (disch := first | omega | (simp only [hNw, hPt]; omega)) only [gN] <;> first | rfl | assumption | (rw [get_put_eq] <;> rfl))
    have exHa27 : Ext Ha2 Ht := Ext.trans (by (try dsimp only); repeat (first | exact exHa26 | exact Ext.refl _ | apply Ext.new | (refine Ext.put ?_ _ (by first | omega | (simp only [hNw, hPt]; omega))))) qt.ext
    have exHw7 : Ext Hw Ht := Ext.trans (by (try dsimp only); repeat (first | exact exHw6 | exact Ext.refl _ | apply Ext.new | (refine Ext.put ?_ _ (by first | omega | (simp only [hNw, hPt]; omega))))) qt.ext
    have exHa37 : Ext Ha3 Ht := Ext.trans (by (try dsimp only); repeat (first | exact Ext.refl _ | exact Ext.refl _ | apply Ext.new | (refine Ext.put ?_ _ (by first | omega | (simp only [hNw, hPt]; omega))))) qt.ext
    have lt9 := ht9.len
    have pt9 : tv9.plain = true := lpl lt9
    refine OkO.move rfl rfl ?_
    refine OkO.extract rfl rfl rfl ?_
    refine OkO.extract rfl rfl rfl ?_
    refine OkO.assign rfl rfl ?_
    refine OkO.assign rfl rfl ?_
    refine OkO.nil ?_
    refine Ok.join (fun s => Has 8 [(3, tv), (4, .ptr W.next 0), (11, I (fw % 10001)), (14, .ptr Hw.next 0), (15, I 0), (16, I 7), (17, tv9), (18, I 0)] s.T ∧ s.D = [] ∧ Ht = s.H) ?_ ?_
    · -- to the meeting
      refine Ok.seq ?_
      refine Ok.region ?_
      refine OkO.move rfl rfl ?_
      refine OkO.bin rfl rfl rfl (bin_neq _ _) ?_
      refine OkO.move rfl rfl ?_
      refine OkO.split (d := 91) rfl (fun g5 => ?_) (fun g5 => ?_)
      · -- true g5
        refine OkO.move rfl rfl ?_
        refine OkO.bin rfl rfl rfl ((bin_neq _ _).trans (congrArg (fun b => some (AV.bool b)) (show _ = false from (by (rcases hcs with h9 | h9); (· exact absurd h9.2.2 (by simpa using g5)); (· rw [h9.2]; rfl))))) ?_
        refine OkO.pick (b := true) rfl rfl (fun _ => rfl) nofun ?_
        refine OkO.move rfl rfl ?_
        refine OkO.move rfl rfl ?_
        refine OkO.bin rfl rfl rfl ((bin_neq _ _).trans (congrArg (fun b => some (AV.bool b)) (show _ = true from (by rfl)))) ?_
        refine OkO.move rfl rfl ?_
        refine OkO.move rfl rfl ?_
        refine OkO.bin rfl rfl rfl ((bin_neq _ _).trans (congrArg (fun b => some (AV.bool b)) (show _ = false from (by rfl)))) ?_
        refine OkO.pick (b := true) rfl rfl (fun _ => rfl) nofun ?_
        refine OkO.pick (b := false) rfl rfl nofun (fun _ => rfl) ?_
        refine OkO.move rfl rfl ?_
        refine OkO.move rfl rfl ?_
        refine OkO.bin rfl rfl rfl (bin_eql _ _) ?_
        refine OkO.move rfl rfl ?_
        refine OkO.split (d := 106) rfl (fun g6 => ?_) (fun g6 => ?_)
        · -- true g6
          exfalso
          have h9 : se = 0 := by simpa using g6
          exact absurd h9 (by simpa using g5)
        · -- false g6
          refine OkO.skip rfl ?_
          refine OkO.skip rfl ?_
          refine OkO.skip rfl ?_
          refine OkO.skip rfl ?_
          refine OkO.skip rfl ?_
          refine OkO.skip rfl ?_
          refine OkO.skip rfl ?_
          refine OkO.skip rfl ?_
          refine OkO.pick (b := false) rfl rfl nofun (fun _ => rfl) ?_
          refine OkO.pick (b := false) rfl rfl nofun (fun _ => rfl) ?_
          refine OkO.nil ?_
          refine Ok.condF rfl ?_
          refine Ok.skip ?_
          exact ⟨rfl, Has.of (by kernel_rfl), rfl, rfl⟩
      · -- false g5
        refine OkO.skip rfl ?_
        refine OkO.skip rfl ?_
        refine OkO.pick (b := false) rfl rfl nofun (fun _ => rfl) ?_
        refine OkO.move rfl rfl ?_
        refine OkO.move rfl rfl ?_
        refine OkO.bin rfl rfl rfl ((bin_neq _ _).trans (congrArg (fun b => some (AV.bool b)) (show _ = true from (by rfl)))) ?_
        refine OkO.move rfl rfl ?_
        refine OkO.move rfl rfl ?_
        refine OkO.bin rfl rfl rfl ((bin_neq _ _).trans (congrArg (fun b => some (AV.bool b)) (show _ = false from (by rfl)))) ?_
        refine OkO.pick (b := true) rfl rfl (fun _ => rfl) nofun ?_
        refine OkO.pick (b := false) rfl rfl nofun (fun _ => rfl) ?_
        refine OkO.move rfl rfl ?_
        refine OkO.move rfl rfl ?_
        refine OkO.bin rfl rfl rfl (bin_eql _ _) ?_
        refine OkO.move rfl rfl ?_
        refine OkO.split (d := 106) rfl (fun g7 => ?_) (fun g7 => ?_)
        · -- true g7
          exfalso
          have h9 : se = 0 := by simpa using g7
          rcases hcs with h8 | h8
          · (have h7 := hcase fr us hs); (have h6 := h8.1); omega
          · (have h7 := h8.2); omega
        · -- false g7
          refine OkO.skip rfl ?_
          refine OkO.skip rfl ?_
          refine OkO.skip rfl ?_
          refine OkO.skip rfl ?_
          refine OkO.skip rfl ?_
          refine OkO.skip rfl ?_
          refine OkO.skip rfl ?_
          refine OkO.skip rfl ?_
          refine OkO.pick (b := false) rfl rfl nofun (fun _ => rfl) ?_
          refine OkO.pick (b := false) rfl rfl nofun (fun _ => rfl) ?_
          refine OkO.nil ?_
          refine Ok.condF rfl ?_
          refine Ok.skip ?_
          exact ⟨rfl, Has.of (by kernel_rfl), rfl, rfl⟩
    · -- behind it
      rintro ⟨T, D, G⟩ ⟨⟨f9_, hTT⟩, hD, hGG⟩
      dsimp only at *
      subst hTT hD
      subst hGG
      refine Ok.seq ?_
      refine Ok.seq ?_
      refine Ok.region ?_
      refine OkO.move rfl rfl ?_
      refine OkO.bin rfl rfl rfl ((bin_eql _ _).trans (congrArg (fun b => some (AV.bool b)) (show _ = false from (by rfl)))) ?_
      refine OkO.nil ?_
      refine Ok.condF rfl ?_
      refine Ok.seq ?_
      refine Ok.region ?_
      refine OkO.move rfl rfl ?_
      refine OkO.bin rfl rfl rfl ((bin_neq _ _).trans (congrArg (fun b => some (AV.bool b)) (show _ = false from (by rfl)))) ?_
      refine OkO.nil ?_
      refine Ok.condF rfl ?_
      refine Ok.skip ?_
      refine Ok.seq ?_
      refine Ok.region ?_
      refine OkO.move rfl rfl ?_
      refine OkO.bin rfl rfl rfl ((bin_eql _ _).trans (congrArg (fun b => some (AV.bool b)) (show _ = true from (by rfl)))) ?_
      refine OkO.move rfl rfl ?_
      refine OkO.load rfl rfl (ldg (n := 2) (by kernel_rfl) (by first | assumption | (simp (disch := first | omega | (simp only [hNw, hPt]; omega)) only [gN] <;> first | rfl | assumption | exact gp0 _ _ _ | exact gn0 _ _)) (by first | rfl | assumption)) ?_
      refine OkO.callE rfl rfl rfl rfl rfl (c19 (m + 209) cv cols (L : Int) _ (hM.ext (hE _ (by (try dsimp only); repeat (first | exact gg7 | apply Grow.new | (refine Grow.put ?_ _ (by first | omega | (simp only [hNw, hPt]; omega))))))) hth) ?_
      rintro _ Ha4 ⟨cv4, rfl, qa4, fa4⟩
      have n8 := qa4.ext.next
      try simp only [hNw, hPt] at n8
      have gg8 : Grow W Ha4 := Grow.ret (by (try dsimp only); repeat (first | exact gg7 | apply Grow.new | (refine Grow.put ?_ _ (by first | omega | (simp only [hNw, hPt]; omega))))) qa4
      have a8 : (Ha4.get (W.next)).bind AObj.cs = some [cv, I (L : Int)] := by rw [qa4.ext.get _ (by first | omega | (simp only [hNw, hPt]; omega))]; first | assumption | (rw [gn0]; rfl) | (rw [get_put_eq] <;> rfl) | (simp (disch := first | omega | (simp only [hNw, hPt]; omega)) only [gN] <;> first | rfl | assumption | (rw [get_put_eq] <;> rfl))
      have s128 : (Ha4.get (G6.next)).bind AObj.cs = some [I sa, I sb] := by rw [qa4.ext.get _ (by first | omega | (simp only [hNw, hPt]; omega))]; first | assumption | (rw [gn0]; rfl) | (rw [get_put_eq] <;> rfl) | (simp (disch := first | omega | (simp only [hNw, hPt]; omega)) only [gN] <;> first | rfl | assumption | (rw [get_put_eq] <;> rfl))
      have u148 : (Ha4.get (Hw.next)).bind AObj.cs = some [I 0, .nils] := by rw [qa4.ext.get _ (by first | omega | (simp only [hNw, hPt]; omega))]; first | assumption | (rw [gn0]; rfl) | (rw [get_put_eq] <;> rfl) | (simp (disch := first | omega | (simp only [hNw, hPt]; omega)) only [gN] <;> first | rfl | assumption | (rw [get_put_eq] <;> rfl))
      have exHa28 : Ext Ha2 Ha4 := Ext.trans (by (try dsimp only); repeat (first | exact exHa27 | exact Ext.refl _ | apply Ext.new | (refine Ext.put ?_ _ (by first | omega | (simp only [hNw, hPt]; omega))))) qa4.ext
      have exHw8 : Ext Hw Ha4 := Ext.trans (by (try dsimp only); repeat (first | exact exHw7 | exact Ext.refl _ | apply Ext.new | (refine Ext.put ?_ _ (by first | omega | (simp only [hNw, hPt]; omega))))) qa4.ext
      have exHa38 : Ext Ha3 Ha4 := Ext.trans (by (try dsimp only); repeat (first | exact exHa37 | exact Ext.refl _ | apply Ext.new | (refine Ext.put ?_ _ (by first | omega | (simp only [hNw, hPt]; omega))))) qa4.ext
      have exHt8 : Ext Ht Ha4 := Ext.trans (by (try dsimp only); repeat (first | exact Ext.refl _ | exact Ext.refl _ | apply Ext.new | (refine Ext.put ?_ _ (by first | omega | (simp only [hNw, hPt]; omega))))) qa4.ext
      have ma4 := fa4.now (Nat.le_refl _)
      have pc4 : cv4.plain = true := by obtain ⟨vs, hR, _, _⟩ := ma4; exact lpl hR.len
      refine OkO.move rfl rfl ?_
      refine OkO.move rfl rfl ?_
      refine OkO.callV rfl rfl rfl rfl rfl (c38G (m + 201) cv4 tv9 cols (fw % 10001) L _ ma4 hv (by omega) hbf (ht9.ext (by (try dsimp only); repeat (first | exact exHt8 | exact Ext.refl _ | apply Ext.new | (refine Ext.put ?_ _ (by first | omega | (simp only [hNw, hPt]; omega))))))) ?_
      refine OkO.pick (b := true) rfl rfl (fun _ => rfl) nofun ?_
      refine OkO.move rfl rfl ?_
      refine OkO.skip rfl ?_
      refine OkO.skip rfl ?_
      refine OkO.pick (b := true) rfl rfl (fun _ => rfl) nofun ?_
      refine OkO.move rfl rfl ?_
      refine OkO.callV rfl rfl rfl rfl rfl (rfl) ?_
      refine OkO.pick (b := true) rfl rfl (fun _ => rfl) nofun ?_
      refine OkO.assign rfl rfl ?_
      refine OkO.nil ?_
      refine Ok.ret ⟨.inr rfl, ?_⟩
      exact back_flat rfl rfl rfl (by rw [← hW]; exact (by (try dsimp only); repeat (first | exact gg8 | apply Grow.new | (refine Grow.put ?_ _ (by first | omega | (simp only [hNw, hPt]; omega))))))
end
end Go.Ev

set_option maxRecDepth 100000
set_option linter.unusedSimpArgs false
set_option linter.unusedVariables false
namespace Go.Ev
open Go Go.Proofs
noncomputable section
theorem c11W (m : Nat) (cv wv tv : AV) (cols : List (List Bed)) (least : Int) (fw : Int) (ws : List Int) (TT : List (List (List Int))) (H : Heap) (hM : Mat H cv cols) (hWs : Row H wv 1 (ws.map fun w => [U8 w])) (hws : Upto 255 ws) (hfw : 0 ≤ fw ∧ fw ≤ 65535) (hT : Tab H tv TT) (hrd : readyS cols least = false) : RR (m + 212) (.fn 11 [.agg [cv, I least], wv, U16 fw, tv]) H = some (.bool true, H) := by
  refine (R_fn _ _ _ _ _).trans ?_
  refine fn_ok Try.func11 rfl rfl (by kernel_rfl) (by kernel_rfl) ?_
  obtain ⟨W, hW, hg, hN, hE, hG⟩ := wOf H
  rw [← hW]
  have pc : cv.plain = true := by obtain ⟨vs, hR, _, _⟩ := hM; exact lpl hR.len
  have hlT := hT.len
  refine Ok.seq ?_
  refine Ok.region ?_
  refine OkO.box rfl rfl ?_
  refine OkO.assign rfl rfl ?_
  refine OkO.nil ?_
  refine Ok.seq ?_
  refine Ok.seq ?_
  refine Ok.region ?_
  refine OkO.load rfl rfl (ldg (n := 2) (by kernel_rfl) (by first | assumption | (simp (disch := first | omega | (simp only [hNw, hPt]; omega)) only [gN] <;> first | rfl | assumption | exact gp0 _ _ _ | exact gn0 _ _)) (by first | rfl | assumption)) ?_
  refine OkO.callV rfl rfl rfl rfl rfl ((c51 (m + 208) cv cols least _ (hM.ext (hE _ (by (try dsimp only); repeat (first | exact hG | apply Grow.new | (refine Grow.put ?_ _ (by first | omega | (simp only [hNw, hPt]; omega)))))))).trans (by rw [hrd])) ?_
  refine OkO.un rfl rfl rfl ?_
  refine OkO.move rfl rfl ?_
  refine OkO.skip rfl ?_
  refine OkO.skip rfl ?_
  refine OkO.skip rfl ?_
  refine OkO.pick (b := true) rfl rfl (fun _ => rfl) nofun ?_
  refine OkO.nil ?_
  refine Ok.condT rfl ?_
  refine Ok.seq ?_
  refine Ok.region ?_
  refine OkO.callV rfl rfl rfl rfl rfl (rfl) ?_
  refine OkO.assign rfl rfl ?_
  refine OkO.nil ?_
  refine Ok.ret ⟨.inr rfl, ?_⟩
  exact back_flat rfl rfl rfl (by rw [← hW]; exact (by (try dsimp only); repeat (first | exact hG | apply Grow.new | (refine Grow.put ?_ _ (by first | omega | (simp only [hNw, hPt]; omega))))))
theorem c11V (m : Nat) (cv wv tv : AV) (cols : List (List Bed)) (least : Int) (fw : Int) (ws : List Int) (TT : List (List (List Int))) (H : Heap) (hM : Mat H cv cols) (hWs : Row H wv 1 (ws.map fun w => [U8 w])) (hws : Upto 255 ws) (hfw : 0 ≤ fw ∧ fw ≤ 65535) (hT : Tab H tv TT) (hrd : readyS cols least = true) (hT5 : 5 < TT.length) : RR (m + 212) (.fn 11 [.agg [cv, I least], wv, U16 fw, tv]) H = some (.bool true, H) := by
  refine (R_fn _ _ _ _ _).trans ?_
  refine fn_ok Try.func11 rfl rfl (by kernel_rfl) (by kernel_rfl) ?_
  obtain ⟨W, hW, hg, hN, hE, hG⟩ := wOf H
  rw [← hW]
  have pc : cv.plain = true := by obtain ⟨vs, hR, _, _⟩ := hM; exact lpl hR.len
  have hlT := hT.len
  refine Ok.seq ?_
  refine Ok.region ?_
  refine OkO.box rfl rfl ?_
  refine OkO.assign rfl rfl ?_
  refine OkO.nil ?_
  refine Ok.seq ?_
  refine Ok.seq ?_
  refine Ok.region ?_
  refine OkO.load rfl rfl (ldg (n := 2) (by kernel_rfl) (by first | assumption | (simp (disch := first | omega | (simp only [hNw, hPt]; omega)) only [gN] <;> first | rfl | assumption | exact gp0 _ _ _ | exact gn0 _ _)) (by first | rfl | assumption)) ?_
  refine OkO.callV rfl rfl rfl rfl rfl ((c51 (m + 208) cv cols least _ (hM.ext (hE _ (by (try dsimp only); repeat (first | exact hG | apply Grow.new | (refine Grow.put ?_ _ (by first | omega | (simp only [hNw, hPt]; omega)))))))).trans (by rw [hrd])) ?_
  refine OkO.un rfl rfl rfl ?_
  refine OkO.move rfl rfl ?_
  refine OkO.move rfl rfl ?_
  refine OkO.builtin rfl rfl rfl (bln (by kernel_rfl) (by first | assumption | rfl)) ?_
  refine OkO.bin rfl rfl rfl ((bin_gtr _ _).trans (congrArg (fun b => some (AV.bool b)) (show _ = true from (by rw [decide_eq_true_eq]; omega)))) ?_
  refine OkO.pick (b := false) rfl rfl nofun (fun _ => rfl) ?_
  refine OkO.nil ?_
  refine Ok.condT rfl ?_
  refine Ok.seq ?_
  refine Ok.region ?_
  refine OkO.callV rfl rfl rfl rfl rfl (rfl) ?_
  refine OkO.assign rfl rfl ?_
  refine OkO.nil ?_
  refine Ok.ret ⟨.inr rfl, ?_⟩
  exact back_flat rfl rfl rfl (by rw [← hW]; exact (by (try dsimp only); repeat (first | exact hG | apply Grow.new | (refine Grow.put ?_ _ (by first | omega | (simp only [hNw, hPt]; omega))))))
theorem c11 (m : Nat) (cv wv tv : AV) (cols : List (List Bed)) (least : Int) (fw : Int) (ws : List Int) (TT : List (List (List Int))) (H : Heap) (hM : Mat H cv cols) (hWs : Row H wv 1 (ws.map fun w => [U8 w])) (hws : Upto 255 ws) (hfw : 0 ≤ fw ∧ fw ≤ 65535) (hT : Tab H tv TT) : RR (m + 212) (.fn 11 [.agg [cv, I least], wv, U16 fw, tv]) H = some (.bool true, H) := by
  cases hrd : readyS cols least with
  | false => exact c11W m cv wv tv cols least fw ws TT H hM hWs hws hfw hT hrd
  | true =>
    by_cases hT5 : TT.length ≤ 5
    · obtain ⟨h1, h2, h3⟩ := ready_facts hrd
      have hsf := slOk_facts h2
      obtain ⟨L, rfl⟩ : ∃ L : Nat, least = (L : Int) := ⟨least.toNat, (Int.toNat_of_nonneg (by omega)).symm⟩
      have hin : inB (fw % 10001) 0 10000 = true := by
        unfold inB
        rw [Bool.and_eq_true, decide_eq_true_eq, decide_eq_true_eq]
        omega
      by_cases hn : NoneAt cols (cols.headD []).length (L : Int)
      · have hbf : belowB cols.length (cols.headD []).length (L : Int) (prC cols (fw % 10001)) = false := by
          cases hb : belowB cols.length (cols.headD []).length (L : Int) (prC cols (fw % 10001)) with
          | false => rfl
          | true =>
            have := (worst_below (z := 0) (e := 7) (bedsOk_of h2) (.inr ⟨rfl, rfl, hn⟩) (by omega)).1 hb
            exact absurd this.1 (by decide)
        exact c11N m cv wv tv cols L fw ws TT H hM hWs hws hfw hT hT5 h1 h2 h3 hrd hn hbf (by unfold reachE; rw [if_pos h2, if_pos hin, hbf]; rfl)
      · cases hb : belowB cols.length (cols.headD []).length (L : Int) (prC cols (fw % 10001)) with
        | false => exact c11P m cv wv tv cols L fw ws TT H hM hWs hws hfw hT hT5 h1 h2 h3 hrd hn hb (by unfold reachE; rw [if_pos h2, if_pos hin, hb]; rfl)
        | true => exact c11Q m cv wv tv cols L fw ws TT H hM hWs hws hfw hT hT5 h1 h2 h3 hrd hn hb (by unfold reachE; rw [if_pos h2, if_pos hin, hb]; rfl)
    · exact c11V m cv wv tv cols least fw ws TT H hM hWs hws hfw hT hrd (by omega)
section
variable {H0 : Type} {enc : TypeId × Value → H0} {w : World} {base n : Nat} {sp : Nat → Bool} {hd : Bool}
theorem cells3' : Try.prog.cellsOf 3 = 1 := by kernel_rfl
theorem cells25' : Try.prog.cellsOf 25 = 1 := by kernel_rfl
theorem cells62' : Try.prog.cellsOf 62 = 1 := by kernel_rfl
theorem ints25_open {H : Heap} (hs : Snap w H) {v : Value} {y} (h : DataW.trod enc Try.prog w base sp hd n 25 [v] = some y) : ∃ us : List Int, SI us (toAV w.heap.size v) H := by
  obtain ⟨l, hR, _, hl⟩ := hs.slice Try.underlying25 cells3' (by decide) h
  obtain ⟨us, hus, hr⟩ := choose_list (R := fun c (x : Int) => c = [.int .i64 x]) l fun c hc => by
    obtain ⟨_, n', y', hy⟩ := hl c hc
    obtain ⟨x, h1, _, _⟩ := DataW.trod_int Try.underlying3 hy
    exact ⟨x, h1⟩
  refine ⟨us, ?_⟩
  have : l.map (toAVs w.heap.size) = us.map fun n => [I n] := map_of_get (by simp [hus]) fun i x z h1 h2 => by
    rw [List.getElem?_map, Option.map_eq_some_iff] at h2
    obtain ⟨b, h3, rfl⟩ := h2
    rw [hr i x b h1 h3]
    rfl
  rwa [this] at hR
theorem cols62_open {H : Heap} (hs : Snap w H) {v : Value} {y} (h : DataW.trod enc Try.prog w base sp hd n 62 [v] = some y) : ∃ R : List (List Int), Cols H (toAV w.heap.size v) R := by
  obtain ⟨l, hR, _, hl⟩ := hs.slice Try.underlying62 cells25' (by decide) h
  obtain ⟨us, hus, hr⟩ := choose_list (R := fun c (x : AV × List Int) => toAVs w.heap.size c = [x.1] ∧ SI x.2 x.1 H) l fun c hc => by
    obtain ⟨h1, n', y', hy⟩ := hl c hc
    match c, h1 with
    | [c0], _ =>
      obtain ⟨r, hr⟩ := ints25_open hs (v := c0) hy
      exact ⟨(_, r), rfl, hr⟩
  have : l.map (toAVs w.heap.size) = (us.map (·.1)).map fun n => [n] := map_of_get (by simp [hus]) fun i x z h1 h2 => by
    rw [List.map_map, List.getElem?_map, Option.map_eq_some_iff] at h2
    obtain ⟨b, h3, rfl⟩ := h2
    exact (hr i x b h1 h3).1
  rw [this] at hR
  refine ⟨us.map (·.2), us.map (·.1), hR, by simp, fun i x r h1 h2 => ?_⟩
  rw [List.getElem?_map, Option.map_eq_some_iff] at h1 h2
  obtain ⟨b, h3, rfl⟩ := h1
  obtain ⟨b', h4, rfl⟩ := h2
  rw [h3] at h4; cases h4
  have hi : i < us.length := (List.getElem?_eq_some_iff.1 h3).1
  exact (hr i (l[i]'(by omega)) b (List.getElem?_eq_getElem (by omega)) h3).2
theorem tab60_arg {H : Heap} (hs : Snap w H) {v : Value} {d : DataW H0} {p : List MemPlace} (hv : ∃ a len cap, v = .slice a len cap) (h : DataW.Trod enc Try.prog w base sp hd 60 v d p) : ∃ (tv : AV) (TT : List (List (List Int))), argAV w.heap.size v = tv ∧ Tab H tv TT := by
  obtain ⟨a, len, cap, rfl⟩ := hv
  obtain ⟨fuel, h⟩ := h
  obtain ⟨l, hR, _, hl⟩ := hs.slice (v := .slice a len cap) Try.underlying60 cells62' (by decide) h
  obtain ⟨us, hus, hr⟩ := choose_list (R := fun c (x : AV × List (List Int)) => toAVs w.heap.size c = [x.1] ∧ Cols H x.1 x.2) l fun c hc => by
    obtain ⟨h1, n', y', hy⟩ := hl c hc
    match c, h1 with
    | [c0], _ =>
      obtain ⟨r, hr⟩ := cols62_open hs (v := c0) hy
      exact ⟨(_, r), rfl, hr⟩
  have : l.map (toAVs w.heap.size) = (us.map (·.1)).map fun n => [n] := map_of_get (by simp [hus]) fun i x z h1 h2 => by
    rw [List.map_map, List.getElem?_map, Option.map_eq_some_iff] at h2
    obtain ⟨b, h3, rfl⟩ := h2
    exact (hr i x b h1 h3).1
  rw [this] at hR
  refine ⟨toAV w.heap.size (.slice a len cap), us.map (fun z => z.2), rfl, us.map (fun z => z.1), hR, by simp, fun i x r h1 h2 => ?_⟩
  rw [List.getElem?_map, Option.map_eq_some_iff] at h1 h2
  obtain ⟨b, h3, rfl⟩ := h1
  obtain ⟨b', h4, rfl⟩ := h2
  rw [h3] at h4; cases h4
  have hi : i < us.length := (List.getElem?_eq_some_iff.1 h3).1
  exact (hr i (l[i]'(by omega)) b (List.getElem?_eq_getElem (by omega)) h3).2
end
end
end Go.Ev

