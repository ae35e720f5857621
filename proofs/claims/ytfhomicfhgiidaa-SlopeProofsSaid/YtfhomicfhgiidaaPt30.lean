/-
  Functions of the program, reckoned by the evaluator: what each answers, and that it leaves what came in as it was.
-/
import Derived.Test.YtfhomicfhgiidaaPt29
import Derived.Test.YtfhomicfhgiidaaPt28
import Derived.Test.YtfhomicfhgiidaaPt27
import Derived.Carry
set_option maxRecDepth 100000
set_option linter.unusedSimpArgs false
set_option linter.unusedVariables false
namespace Go.Ev
open Go Go.Proofs
noncomputable section
theorem bin4e (x y : Bool) : binT Try.prog .eql 4 (.bool x) (.bool y) = some (.bool (x == y)) := by kernel_rfl
theorem bin4n' (x y : Bool) : binT Try.prog .neq 4 (.bool x) (.bool y) = some (.bool (!(x == y))) := by kernel_rfl
/-- What ProveLeast and the reference's Proves answer: the same. -/
theorem c38X (m : Nat) (cv tv : AV) (cols : List (List Bed)) (fa : Int) (L : Nat) (TT : List (List (List Int))) (H : Heap) (hM : Mat H cv cols) (hT : Tab H tv TT) (hTl : TT.length ≤ 1000) (hRl : ∀ R ∈ TT, R.length ≤ 1000) (hll : ∀ R ∈ TT, ∀ l ∈ R, l.length ≤ 1000) (hv : slOk cols (L : Int) = true) (hf : 0 ≤ fa ∧ fa ≤ 10000) : ∃ v H', RR (m + 10) (.fn 38 [.agg [cv, I (L : Int)], I fa, tv]) H = some (v, H') ∧ ∃ bb : Bool, v = .bool bb ∧ H = H' ∧ (bb = true ↔ shapeB cols.length (cols.headD []).length (L : Int) TT = true ∧ TabP (prC cols fa) (tabF TT) cols.length (cols.headD []).length L) := by
  cases hsh : shapeB cols.length (cols.headD []).length (L : Int) TT with
  | false => exact ⟨_, _, c38S m cv tv cols fa L TT H hM hT hTl hRl hll hv hf hsh, false, rfl, rfl, ⟨(fun h => by cases h), (fun h => by cases h.1)⟩⟩
  | true =>
    obtain ⟨v, H', h1, bb, h2, h3, h4⟩ := c38 m cv tv cols fa L TT H hM hT hTl hRl hll hv hf hsh
    exact ⟨v, H', h1, bb, h2, h3.symm, ⟨fun h => ⟨rfl, h4.1 h⟩, fun h => h4.2 h.2⟩⟩
theorem c41X (m : Nat) (cv tv : AV) (cols : List (List Bed)) (fa : Int) (L : Nat) (TT : List (List (List Int))) (H : Heap) (hM : Mat H cv cols) (hT : Tab H tv TT) (hv : slOk cols (L : Int) = true) (hf : 0 ≤ fa ∧ fa ≤ 10000) : ∃ v H', RR (m + 3) (.fn 41 [.agg [cv, I (L : Int)], I fa, tv]) H = some (v, H') ∧ ∃ bb : Bool, v = .bool bb ∧ H = H' ∧ (bb = true ↔ shapeB cols.length (cols.headD []).length (L : Int) TT = true ∧ TabP (prC cols fa) (tabF TT) cols.length (cols.headD []).length L) := by
  have hsf := slOk_facts hv
  obtain ⟨v, H', h1, bb, h2, h3, h4⟩ := c41 m cv tv cols fa L (cols.headD []).length TT H hM (lens_of hv) (bedsOk_of hv) hf (by omega) (by omega) (by omega) hT
  exact ⟨v, H', h1, bb, h2, h3.symm, h4⟩
theorem tabL_len {cols : List (List Bed)} {fa : Int} {n L : Nat} : ∀ R ∈ tabL (prC cols fa) cols.length n L, R.length = cols.length ∧ ∀ l ∈ R, l.length = n := fun R hR => by
  obtain ⟨r, _, rfl⟩ := List.mem_map.1 hR
  refine ⟨by simp [rowL], fun l hl => ?_⟩
  obtain ⟨c, _, rfl⟩ := List.mem_map.1 hl
  simp [colL]
theorem c41G (m : Nat) (cv tv : AV) (cols : List (List Bed)) (fa : Int) (L : Nat) (H : Heap) (hM : Mat H cv cols) (hv : slOk cols (L : Int) = true) (hf : 0 ≤ fa ∧ fa ≤ 10000) (hb : belowB cols.length (cols.headD []).length (L : Int) (prC cols fa) = false) (hT : Tab H tv (tabL (prC cols fa) cols.length (cols.headD []).length L)) : RR (m + 3) (.fn 41 [.agg [cv, I (L : Int)], I fa, tv]) H = some (.bool true, H) := by
  have hsf := slOk_facts hv
  have hBB := prC_bd (bedsOk_of hv) hf
  obtain ⟨v, H', h1, bb, h2, h3, h4⟩ := c41X m cv tv cols fa L _ H hM hT hv hf
  have h5 : bb = true := h4.2 ⟨tabL_shape hBB (by omega), tF_tab hBB (by omega) (by omega) hb fun r c k hr hc hk => tabL_at hr hc hk⟩
  rw [h1, h2, ← h3, h5]
set_option maxHeartbeats 2000000 in
theorem c6QM (m : Nat) (cv tv : AV) (cols : List (List Bed)) (L : Nat) (fa : Int) (TT : List (List (List Int))) (own : Bool) (rw9 cn9 bd9 by9 : Int) (H : Heap) (hM : Mat H cv cols) (hT : Tab H tv TT) (hth : thinB cols = true) (hT5 : TT.length ≤ 5) (hv : slOk cols (L : Int) = true) (hin : inB fa 0 10000 = true) (hf : 0 ≤ fa ∧ fa ≤ 10000) (hfew : fewB cols (L : Int) = false) (hre : reachE cols (L : Int) fa = 10) (hb9 : belowB cols.length (cols.headD []).length (L : Int) (prC cols fa) = true) : RR (m + 213) (.fn 6 [.agg [cv, I (L : Int)], I fa, tv, .bool own, U8 rw9, U8 cn9, U8 bd9, .int .i8 by9]) H = some (.bool true, H) := by
  refine (R_fn _ _ _ _ _).trans ?_; refine fn_ok Try.func6 rfl rfl (by kernel_rfl) (by kernel_rfl) ?_
  obtain ⟨W, hW, hg, hN, hE, hG⟩ := wOf H
  rw [← hW]
  have pc : cv.plain = true := by obtain ⟨vs, hR, _, _⟩ := hM; exact lpl hR.len
  have hlT := hT.len
  have ptv : tv.plain = true := lpl hlT
  have hsf := slOk_facts hv
  refine kS ?_; refine kR ?_; refine OkO.box rfl rfl ?_; refine oA rfl rfl ?_; refine oN ?_; refine kS ?_; refine kS ?_; refine kR ?_; refine oL rfl rfl (qlg7 2) ?_; refine oV rfl rfl rfl rfl rfl ((c16 (m + 211) cv cols (L : Int) _ (hM.ext (hE _ (by (try dsimp only); repeat (first | exact hG | apply Grow.new | (refine Grow.put ?_ _ (by first | omega | (simp only [hNw, hPt]; omega)))))))).trans (by rw [hth])) ?_; refine OkO.un rfl rfl rfl ?_; refine oM rfl rfl ?_; refine oM rfl rfl ?_; refine oB rfl rfl rfl qbl ?_; refine OkO.bin rfl rfl rfl ((bin_gtr _ _).trans (congrArg (fun b => some (AV.bool b)) (show _ = false from (by rw [decide_eq_false_iff_not]; omega)))) ?_; refine OkO.pick (b := false) rfl rfl nofun (fun _ => rfl) ?_; refine oN ?_; refine Ok.condF rfl ?_; refine Ok.skip ?_; refine kS ?_; refine kS ?_; refine kR ?_; refine oA rfl rfl ?_; refine oN ?_; refine Ok.block ?_
  obtain ⟨G6, hG6⟩ : ∃ G6, G6 = W.new (.cells [cv, I (L : Int)] 24) := ⟨_, rfl⟩
  have e6 : (G6.get W.next).bind AObj.cs = some [cv, I (L : Int)] := by rw [hG6, gn0]; rfl
  have g6 : Grow W G6 := by rw [hG6]; exact hG.new _
  have n6 : W.next + 1 ≤ G6.next := by rw [hG6]; simp
  refine Ok.loop (fun n9 s_ => ∃ i : Nat, n9 = TT.length - i ∧ i ≤ TT.length ∧ (∀ R ∈ TT.take i, (R.length ≤ 15 ∧ ∀ l ∈ R, l.length ≤ 8)) ∧ Has 8 [(1, I fa), (2, tv), (3, .bool own), (4, U8 rw9), (5, U8 cn9), (6, U8 bd9), (7, .int .i8 by9), (8, .ptr W.next 0), (17, I (i : Int))] s_.T ∧ s_.D = [] ∧ G6 = s_.H) (TT.length) (by unfold loopFuel; omega)
    ⟨0, rfl, Nat.zero_le _, (fun R h => absurd h (by simp)), Has.of (by kernel_rfl), rfl, hG6⟩ ?_
  rintro nn_ ⟨T, D, G⟩ ⟨i, hn9_, hi, hOK, ⟨f_, hTT⟩, hD, hgE⟩
  dsimp only at *
  subst hTT hD
  skip
  subst hgE
  refine kS ?_; refine kS ?_; refine kR ?_; refine oM rfl rfl ?_; refine oM rfl rfl ?_; refine oB rfl rfl rfl qbl ?_; refine OkO.bin rfl rfl rfl (bin_lss _ _) ?_; refine oN ?_
  refine Ok.cond rfl (fun h1 => ?_) (fun h1 => ?_)
  · have hlt : i < TT.length := by simpa using h1
    obtain ⟨xr, rb, ro, rcs, t1, t2, t3, t4, t5⟩ := (hT.ext (hE _ g6)).get i hlt
    have lq := t5.len
    have pxr : xr.plain = true := lpl lq
    refine Ok.skip ?_; refine kS ?_; refine Ok.block ?_; refine kS ?_; refine kS ?_; refine kR ?_; refine oM rfl rfl ?_; refine oM rfl rfl ?_; refine qX (sz := 1) (n := i) rfl rfl rfl ?_; refine oL rfl rfl (qla0 1) ?_; refine oB rfl rfl rfl qbl ?_; refine OkO.bin rfl rfl rfl (bin_gtr _ _) ?_; refine oN ?_
    refine Ok.cond rfl (fun h2 => ?_) (fun h2 => ?_)
    · refine kS ?_
      refine kR ?_; refine oV rfl rfl rfl rfl rfl (rfl) ?_; refine oA rfl rfl ?_; refine oN ?_
      refine Ok.ret ⟨.inr rfl, ?_⟩
      exact back_flat rfl rfl rfl (by rw [← hW]; exact g6)
    · have hl15 : TT[i].length ≤ 15 := by (have h9 : ¬ (15 : Int) < (TT[i].length : Int) := by simpa using h2); omega
      refine Ok.skip ?_; refine kS ?_; refine kR ?_; refine oA rfl rfl ?_; refine oN ?_; refine Ok.block ?_
      refine Ok.loop (fun n8 s_ => ∃ j : Nat, n8 = TT[i].length - j ∧ j ≤ TT[i].length ∧ (∀ l ∈ TT[i].take j, l.length ≤ 8) ∧ Has 8 [(1, I fa), (2, tv), (3, .bool own), (4, U8 rw9), (5, U8 cn9), (6, U8 bd9), (7, .int .i8 by9), (8, .ptr W.next 0), (17, I (i : Int)), (18, I (j : Int))] s_.T ∧ s_.D = [] ∧ G6 = s_.H) (TT[i].length) (by unfold loopFuel; omega)
        ⟨0, rfl, Nat.zero_le _, (fun l h => absurd h (by simp)), Has.of (by kernel_rfl), rfl, rfl⟩ ?_
      rintro nn_ ⟨T, D, G⟩ ⟨j, hn8_, hj, hOKj, ⟨f2_, hTT⟩, hD, hgE⟩
      dsimp only at *
      subst hTT hD
      skip
      subst hgE
      refine kS ?_; refine kS ?_; refine kR ?_; refine oM rfl rfl ?_; refine oM rfl rfl ?_; refine oM rfl rfl ?_; refine qX (sz := 1) (n := i) rfl rfl rfl ?_; refine oL rfl rfl (qla0 1) ?_; refine oB rfl rfl rfl qbl ?_; refine OkO.bin rfl rfl rfl (bin_lss _ _) ?_; refine oN ?_
      refine Ok.cond rfl (fun h3 => ?_) (fun h3 => ?_)
      · have hlt2 : j < TT[i].length := by simpa using h3
        obtain ⟨xl, cb, co, ccs, s1, s2, s3, s4, s5⟩ := t5.get j hlt2
        have lq2 := Row.len s5
        rw [List.length_map] at lq2
        have pxl : xl.plain = true := lpl lq2
        refine Ok.skip ?_; refine kS ?_; refine Ok.block ?_; refine kS ?_; refine kR ?_; refine oM rfl rfl ?_; refine oM rfl rfl ?_; refine qX (sz := 1) (n := i) rfl rfl rfl ?_; refine oL rfl rfl (qla0 1) ?_; refine oM rfl rfl ?_; refine qX (sz := 1) (n := j) rfl rfl rfl ?_; refine oL rfl rfl (qla0 1) ?_; refine oB rfl rfl rfl qbl ?_; refine OkO.bin rfl rfl rfl (bin_gtr _ _) ?_; refine oN ?_
        refine Ok.cond rfl (fun h4 => ?_) (fun h4 => ?_)
        · refine kS ?_
          refine kR ?_; refine oV rfl rfl rfl rfl rfl (rfl) ?_; refine oA rfl rfl ?_; refine oN ?_
          refine Ok.ret ⟨.inr rfl, ?_⟩
          exact back_flat rfl rfl rfl (by rw [← hW]; exact g6)
        · have hl8 : TT[i][j].length ≤ 8 := by (have h9 : ¬ (8 : Int) < (TT[i][j].length : Int) := by simpa using h4); omega
          refine Ok.skip ?_; refine kR ?_; refine oM rfl rfl ?_; refine OkO.bin rfl rfl rfl (bin_add (by omega) (by omega)) ?_; refine oA rfl rfl ?_; refine oN ?_
          refine ⟨TT[i].length - (j + 1), by omega, j + 1, rfl, by omega, fun l hl => ?_, Has.of (by kernel_rfl), rfl, rfl⟩
          rw [List.take_succ_eq_append_getElem hlt2, List.mem_append, List.mem_singleton] at hl
          rcases hl with hl | hl
          · exact hOKj l hl
          · rw [hl]; exact hl8
      · have hge2 : j = TT[i].length := by (have h9 : ¬ j < TT[i].length := by simpa using h3); omega
        rw [hge2, List.take_length] at hOKj
        have hOKl := hOKj
        refine Ok.exit ?_; refine kR ?_; refine oM rfl rfl ?_; refine OkO.bin rfl rfl rfl (bin_add (by omega) (by omega)) ?_; refine oA rfl rfl ?_; refine oN ?_
        refine ⟨TT.length - (i + 1), by omega, i + 1, rfl, by omega, fun R hR => ?_, Has.of (by kernel_rfl), rfl, rfl⟩
        rw [List.take_succ_eq_append_getElem hlt, List.mem_append, List.mem_singleton] at hR
        rcases hR with hR | hR
        · exact hOK R hR
        · rw [hR]; exact ⟨hl15, hOKl⟩
  · have hge : i = TT.length := by (have h9 : ¬ i < TT.length := by simpa using h1); omega
    rw [hge, List.take_length] at hOK
    refine Ok.exit ?_; refine kS ?_; refine kR ?_; refine oL rfl rfl (qlg7 2) ?_; refine oE rfl rfl rfl rfl rfl (c19 (m + 210) cv cols (L : Int) _ (hM.ext (hE _ (by (try dsimp only); repeat (first | exact g6 | apply Grow.new | (refine Grow.put ?_ _ (by first | omega | (simp only [hNw, hPt]; omega))))))) hth) ?_
    rintro _ Ha1 ⟨cv1, rfl, qa1, fa1⟩
    have n1 := qa1.ext.next
    try simp only [hNw, hPt] at n1
    have gg1 : Grow W Ha1 := Grow.ret (by (try dsimp only); repeat (first | exact g6 | apply Grow.new | (refine Grow.put ?_ _ (by first | omega | (simp only [hNw, hPt]; omega))))) qa1
    have a1 : (Ha1.get (W.next)).bind AObj.cs = some [cv, I (L : Int)] := by rw [qa1.ext.get _ (by first | omega | (simp only [hNw, hPt]; omega))]; first | assumption | (rw [gn0]; rfl) | (rw [get_put_eq] <;> rfl) | (simp (disch := first | omega | (simp only [hNw, hPt]; omega)) only [gN] <;> first | rfl | assumption | (rw [get_put_eq] <;> rfl))
    have ma1 := fa1.now (Nat.le_refl _)
    refine oM rfl rfl ?_; refine oV rfl rfl rfl rfl rfl ((c36E (m + 1) cv1 cols (L : Int) fa _ ma1 (by rw [hre]; decide)).trans (by rw [hre])) ?_; refine oM rfl rfl ?_; refine OkO.extract rfl rfl rfl ?_; refine OkO.extract rfl rfl rfl ?_; refine oA rfl rfl ?_; refine oA rfl rfl ?_; refine oN ?_; refine kS ?_; refine kR ?_; refine oL rfl rfl (qlg7 2) ?_; refine oV rfl rfl rfl rfl rfl ((c23 (m + 210) cv cols (L : Int) _ (hM.ext (hE _ (by (try dsimp only); repeat (first | exact gg1 | apply Grow.new | (refine Grow.put ?_ _ (by first | omega | (simp only [hNw, hPt]; omega)))))))).trans (by rw [hv])) ?_; refine oM rfl rfl ?_; refine oM rfl rfl ?_; refine oV rfl rfl rfl rfl rfl ((c37 (m + 211) fa 0 10000 _).trans (by rw [hin])) ?_; refine OkO.pick (b := true) rfl rfl (fun _ => rfl) nofun ?_; refine oA rfl rfl ?_; refine oN ?_; refine kS ?_; refine kS ?_; refine kR ?_; refine oM rfl rfl ?_; refine OkO.un rfl rfl rfl ?_; refine oN ?_; refine Ok.condF rfl ?_; refine Ok.skip ?_; refine kS ?_; refine kS ?_; refine Ok.drawn [(0, true, []), (1, true, []), (2, true, []), (3, true, []), (4, true, []), (5, true, []), (6, true, []), (7, true, []), (8, true, []), (9, true, []), (10, true, []), (11, true, []), (12, true, []), (13, false, [7]), (14, true, []), (15, true, []), (16, true, []), (17, true, []), (18, true, []), (20, true, []), (19, false, [17, 12, 7]), (21, false, [18, 12, 7]), (22, true, []), (23, true, []), (24, true, [])] (by kernel_rfl) ?_; refine pS ?_; refine oM rfl rfl ?_; refine oN ⟨rfl, ?_⟩; refine pS ?_; refine OkO.bin rfl rfl rfl ((bin_neq _ _).trans (congrArg (fun b => some (AV.bool b)) (show _ = true from (by rfl)))) ?_; refine oN ⟨rfl, ?_⟩; refine pS ?_; refine oM rfl rfl ?_; refine oN ⟨rfl, ?_⟩; refine pS ?_; refine oM rfl rfl ?_; refine oN ⟨rfl, ?_⟩; refine pS ?_; refine OkO.bin rfl rfl rfl ((bin_neq _ _).trans (congrArg (fun b => some (AV.bool b)) (show _ = false from (by rfl)))) ?_; refine oN ⟨rfl, ?_⟩; refine pS ?_; refine oM rfl rfl ?_; refine oN ⟨rfl, ?_⟩; refine pS ?_; refine oM rfl rfl ?_; refine oN ⟨rfl, ?_⟩; refine pS ?_; refine oB rfl rfl rfl qbl ?_; refine oN ⟨rfl, ?_⟩; refine pS ?_; refine OkO.bin rfl rfl rfl ((bin_neq _ _).trans (congrArg (fun b => some (AV.bool b)) (show _ = false from (by rfl)))) ?_; refine oN ⟨rfl, ?_⟩; refine pS ?_; refine OkO.pick (b := false) rfl rfl nofun (fun _ => rfl) ?_; refine oN ⟨rfl, ?_⟩; refine pS ?_; refine OkO.pick (b := true) rfl rfl (fun _ => rfl) nofun ?_; refine oN ⟨rfl, ?_⟩; refine pS ?_; refine oM rfl rfl ?_; refine oN ⟨rfl, ?_⟩; refine pS ?_; refine oL rfl rfl (qlg7 2) ?_; refine oN ⟨rfl, ?_⟩; refine pS ?_; refine oV rfl rfl rfl rfl rfl ((c30 (m + 208) cv cols (L : Int) _ (hM.ext (hE _ (by (try dsimp only); repeat (first | exact gg1 | apply Grow.new | (refine Grow.put ?_ _ (by first | omega | (simp only [hNw, hPt]; omega)))))))).trans (by rw [hfew])) ?_
    refine oN ⟨(sco (svl rfl (ecb rfl rfl qbl) rfl (eqr _ rfl)) rfl), ?_⟩; refine pS ?_; refine oM rfl rfl ?_; refine oN ⟨rfl, ?_⟩; refine pS ?_; refine oK rfl ?_; refine oN ⟨rfl, ?_⟩; refine pS ?_; refine oK rfl ?_; refine oN ⟨rfl, ?_⟩; refine pS ?_; refine oK rfl ?_; refine oN ⟨rfl, ?_⟩; refine pS ?_; refine oK rfl ?_; refine oN ⟨rfl, ?_⟩; refine pS ?_; refine oK rfl ?_; refine oN ⟨rfl, ?_⟩; refine pS ?_; refine oK rfl ?_
    refine oN ⟨(sco (ssk rfl) (sco (qsg6 2 rfl rfl rfl) (sco (svl rfl (ecb rfl rfl qbl) rfl (eqr _ rfl)) rfl))), ?_⟩; refine pS ?_; refine oK rfl ?_
    refine oN ⟨(sco (ssk rfl) (sco (qsg6 2 rfl rfl rfl) (sco (svl rfl (ecb rfl rfl qbl) rfl (eqr _ rfl)) rfl))), ?_⟩; refine pS ?_; refine oK rfl ?_; refine oN ⟨rfl, ?_⟩; refine pS ?_; refine OkO.pick (b := false) rfl rfl nofun (fun _ => rfl) ?_; refine oN ⟨rfl, ?_⟩; refine pS ?_; refine OkO.pick (b := false) rfl rfl nofun (fun _ => rfl) ?_; refine oN ⟨rfl, ?_⟩; refine OkP.nil ?_; refine Ok.condF rfl ?_; refine Ok.skip ?_; refine kS ?_; refine kS ?_; refine kR ?_; refine oM rfl rfl ?_; refine OkO.bin rfl rfl rfl ((bin_eql _ _).trans (congrArg (fun b => some (AV.bool b)) (show _ = false from (by rfl)))) ?_; refine oN ?_; refine Ok.condF rfl ?_; refine Ok.skip ?_; refine kS ?_; refine Ok.drawn [(0, true, []), (2, true, []), (3, true, []), (6, true, []), (7, true, []), (8, true, []), (1, false, [6]), (4, false, [6, 0]), (5, false, [6, 0]), (9, false, [0]), (10, true, []), (11, true, []), (12, false, [6, 0]), (13, true, []), (14, true, [])] (by kernel_rfl) ?_; refine pS ?_; refine oL rfl rfl (qlg7 2) ?_; refine oN ⟨rfl, ?_⟩; refine pS ?_; refine oM rfl rfl ?_; refine oN ⟨rfl, ?_⟩; refine pS ?_; refine oM rfl rfl ?_; refine oN ⟨rfl, ?_⟩; refine pS ?_; refine oL rfl rfl (qlg7 2) ?_; refine oN ⟨rfl, ?_⟩; refine pS ?_; refine oM rfl rfl ?_; refine oN ⟨rfl, ?_⟩; refine pS ?_; refine oM rfl rfl ?_; refine oN ⟨rfl, ?_⟩; refine pS ?_; refine oE rfl rfl rfl rfl rfl (c19 (m + 210) cv cols (L : Int) _ (hM.ext (hE _ (by (try dsimp only); repeat (first | exact gg1 | apply Grow.new | (refine Grow.put ?_ _ (by first | omega | (simp only [hNw, hPt]; omega))))))) hth) ?_
    rintro _ Ha2 ⟨cv2, rfl, qa2, fa2⟩
    have n2 := qa2.ext.next
    try simp only [hNw, hPt] at n2
    have gg2 : Grow W Ha2 := Grow.ret (by (try dsimp only); repeat (first | exact gg1 | apply Grow.new | (refine Grow.put ?_ _ (by first | omega | (simp only [hNw, hPt]; omega))))) qa2
    have a2 : (Ha2.get (W.next)).bind AObj.cs = some [cv, I (L : Int)] := by rw [qa2.ext.get _ (by first | omega | (simp only [hNw, hPt]; omega))]; first | assumption | (rw [gn0]; rfl) | (rw [get_put_eq] <;> rfl) | (simp (disch := first | omega | (simp only [hNw, hPt]; omega)) only [gN] <;> first | rfl | assumption | (rw [get_put_eq] <;> rfl))
    have ma2 := fa2.now (Nat.le_refl _)
    refine oN ⟨(sco (qsg6 2 rfl rfl rfl) rfl), ?_⟩; refine pS ?_; refine oE rfl rfl rfl rfl rfl (c39 (m + 210) tv TT _ (hT.ext (hE _ (by (try dsimp only); repeat (first | exact gg2 | apply Grow.new | (refine Grow.put ?_ _ (by first | omega | (simp only [hNw, hPt]; omega))))))) (by omega) (fun R hR => by (have h9 := (hOK R hR).1); omega) (fun R hR l hl => by (have h9 := (hOK R hR).2 l hl); omega)) ?_
    rintro tc Hc ⟨qc, htc⟩
    have n3 := qc.ext.next
    try simp only [hNw, hPt] at n3
    have gg3 : Grow W Hc := Grow.ret (by (try dsimp only); repeat (first | exact gg2 | apply Grow.new | (refine Grow.put ?_ _ (by first | omega | (simp only [hNw, hPt]; omega))))) qc
    have a3 : (Hc.get (W.next)).bind AObj.cs = some [cv, I (L : Int)] := by rw [qc.ext.get _ (by first | omega | (simp only [hNw, hPt]; omega))]; first | assumption | (rw [gn0]; rfl) | (rw [get_put_eq] <;> rfl) | (simp (disch := first | omega | (simp only [hNw, hPt]; omega)) only [gN] <;> first | rfl | assumption | (rw [get_put_eq] <;> rfl))
    have exHa23 : Ext Ha2 Hc := Ext.trans (by (try dsimp only); repeat (first | exact Ext.refl _ | exact Ext.refl _ | apply Ext.new | (refine Ext.put ?_ _ (by first | omega | (simp only [hNw, hPt]; omega))))) qc.ext
    have lct := htc.len
    have pct : tc.plain = true := lpl lct
    refine oN ⟨(sco (qsg6 2 rfl rfl rfl) (sco (qsg6 2 rfl rfl rfl) rfl)), ?_⟩; refine pS ?_; refine oE rfl rfl rfl rfl rfl (c38X (m + 202) cv2 tc cols fa L TT _ (ma2.ext (by (try dsimp only); repeat (first | exact exHa23 | exact Ext.refl _ | apply Ext.new | (refine Ext.put ?_ _ (by first | omega | (simp only [hNw, hPt]; omega)))))) (htc.ext (by (try dsimp only); repeat (first | exact Ext.refl _ | exact Ext.refl _ | apply Ext.new | (refine Ext.put ?_ _ (by first | omega | (simp only [hNw, hPt]; omega)))))) (by omega) (fun R hR => by (have h9 := (hOK R hR).1); omega) (fun R hR l hl => by (have h9 := (hOK R hR).2 l hl); omega) hv hf) ?_
    rintro _ H38 ⟨bb, rfl, rfl, hbb⟩
    refine oN ⟨(sco (qsg6 2 rfl rfl rfl) (sco (qsg6 2 rfl rfl rfl) rfl)), ?_⟩; refine pS ?_; refine oE rfl rfl rfl rfl rfl (c41X (m + 209) cv tv cols fa L TT _ (hM.ext (hE _ (by (try dsimp only); repeat (first | exact gg3 | apply Grow.new | (refine Grow.put ?_ _ (by first | omega | (simp only [hNw, hPt]; omega))))))) (hT.ext (hE _ (by (try dsimp only); repeat (first | exact gg3 | apply Grow.new | (refine Grow.put ?_ _ (by first | omega | (simp only [hNw, hPt]; omega))))))) hv hf) ?_
    rintro _ H41 ⟨b2, rfl, rfl, hb2⟩
    have hbe : b2 = bb := by (rw [Bool.eq_iff_iff]; exact hb2.trans hbb.symm)
    subst hbe
    refine oN ⟨(sco (qsg6 2 rfl rfl rfl) rfl), ?_⟩; refine pS ?_; refine OkO.binT rfl rfl rfl ((bin4e _ _).trans (congrArg (fun b => some (AV.bool b)) (show _ = true from (by exact beq_self_eq_true _)))) ?_; refine oN ⟨rfl, ?_⟩; refine pS ?_; refine oM rfl rfl ?_; refine oN ⟨rfl, ?_⟩; refine pS ?_; refine oV rfl rfl rfl rfl rfl (rfl) ?_
    refine oN ⟨(sco (qsg6 2 rfl rfl rfl) (sco (qsg6 2 rfl rfl rfl) rfl)), ?_⟩; refine pS ?_; refine OkO.pick (b := true) rfl rfl (fun _ => rfl) nofun ?_; refine oN ⟨rfl, ?_⟩; refine pS ?_; refine oA rfl rfl ?_; refine oN ⟨rfl, ?_⟩; refine OkP.nil ?_
    refine Ok.ret ⟨.inr rfl, ?_⟩
    exact back_flat rfl rfl rfl (by rw [← hW]; exact (by (try dsimp only); repeat (first | exact gg3 | apply Grow.new | (refine Grow.put ?_ _ (by first | omega | (simp only [hNw, hPt]; omega))))))
set_option maxHeartbeats 2000000 in
theorem c6QF (m : Nat) (cv tv : AV) (cols : List (List Bed)) (L : Nat) (fa : Int) (TT : List (List (List Int))) (own : Bool) (rw9 cn9 bd9 by9 : Int) (H : Heap) (hM : Mat H cv cols) (hT : Tab H tv TT) (hth : thinB cols = true) (hT5 : TT.length ≤ 5) (hv : slOk cols (L : Int) = true) (hin : inB fa 0 10000 = true) (hf : 0 ≤ fa ∧ fa ≤ 10000) (hfew : fewB cols (L : Int) = true) (hq : ((cols.headD []).length + 1) ^ (cols.length + 1) ≤ 20000) (hre : reachE cols (L : Int) fa = 10) (hb9 : belowB cols.length (cols.headD []).length (L : Int) (prC cols fa) = true) : RR (m + 213) (.fn 6 [.agg [cv, I (L : Int)], I fa, tv, .bool own, U8 rw9, U8 cn9, U8 bd9, .int .i8 by9]) H = some (.bool true, H) := by
  refine (R_fn _ _ _ _ _).trans ?_; refine fn_ok Try.func6 rfl rfl (by kernel_rfl) (by kernel_rfl) ?_
  obtain ⟨W, hW, hg, hN, hE, hG⟩ := wOf H
  rw [← hW]
  have pc : cv.plain = true := by obtain ⟨vs, hR, _, _⟩ := hM; exact lpl hR.len
  have hlT := hT.len
  have ptv : tv.plain = true := lpl hlT
  have hsf := slOk_facts hv
  refine kS ?_; refine kR ?_; refine OkO.box rfl rfl ?_; refine oA rfl rfl ?_; refine oN ?_; refine kS ?_; refine kS ?_; refine kR ?_; refine oL rfl rfl (qlg7 2) ?_; refine oV rfl rfl rfl rfl rfl ((c16 (m + 211) cv cols (L : Int) _ (hM.ext (hE _ (by (try dsimp only); repeat (first | exact hG | apply Grow.new | (refine Grow.put ?_ _ (by first | omega | (simp only [hNw, hPt]; omega)))))))).trans (by rw [hth])) ?_; refine OkO.un rfl rfl rfl ?_; refine oM rfl rfl ?_; refine oM rfl rfl ?_; refine oB rfl rfl rfl qbl ?_; refine OkO.bin rfl rfl rfl ((bin_gtr _ _).trans (congrArg (fun b => some (AV.bool b)) (show _ = false from (by rw [decide_eq_false_iff_not]; omega)))) ?_; refine OkO.pick (b := false) rfl rfl nofun (fun _ => rfl) ?_; refine oN ?_; refine Ok.condF rfl ?_; refine Ok.skip ?_; refine kS ?_; refine kS ?_; refine kR ?_; refine oA rfl rfl ?_; refine oN ?_; refine Ok.block ?_
  obtain ⟨G6, hG6⟩ : ∃ G6, G6 = W.new (.cells [cv, I (L : Int)] 24) := ⟨_, rfl⟩
  have e6 : (G6.get W.next).bind AObj.cs = some [cv, I (L : Int)] := by rw [hG6, gn0]; rfl
  have g6 : Grow W G6 := by rw [hG6]; exact hG.new _
  have n6 : W.next + 1 ≤ G6.next := by rw [hG6]; simp
  refine Ok.loop (fun n9 s_ => ∃ i : Nat, n9 = TT.length - i ∧ i ≤ TT.length ∧ (∀ R ∈ TT.take i, (R.length ≤ 15 ∧ ∀ l ∈ R, l.length ≤ 8)) ∧ Has 8 [(1, I fa), (2, tv), (3, .bool own), (4, U8 rw9), (5, U8 cn9), (6, U8 bd9), (7, .int .i8 by9), (8, .ptr W.next 0), (17, I (i : Int))] s_.T ∧ s_.D = [] ∧ G6 = s_.H) (TT.length) (by unfold loopFuel; omega)
    ⟨0, rfl, Nat.zero_le _, (fun R h => absurd h (by simp)), Has.of (by kernel_rfl), rfl, hG6⟩ ?_
  rintro nn_ ⟨T, D, G⟩ ⟨i, hn9_, hi, hOK, ⟨f_, hTT⟩, hD, hgE⟩
  dsimp only at *
  subst hTT hD
  skip
  subst hgE
  refine kS ?_; refine kS ?_; refine kR ?_; refine oM rfl rfl ?_; refine oM rfl rfl ?_; refine oB rfl rfl rfl qbl ?_; refine OkO.bin rfl rfl rfl (bin_lss _ _) ?_; refine oN ?_
  refine Ok.cond rfl (fun h1 => ?_) (fun h1 => ?_)
  · have hlt : i < TT.length := by simpa using h1
    obtain ⟨xr, rb, ro, rcs, t1, t2, t3, t4, t5⟩ := (hT.ext (hE _ g6)).get i hlt
    have lq := t5.len
    have pxr : xr.plain = true := lpl lq
    refine Ok.skip ?_; refine kS ?_; refine Ok.block ?_; refine kS ?_; refine kS ?_; refine kR ?_; refine oM rfl rfl ?_; refine oM rfl rfl ?_; refine qX (sz := 1) (n := i) rfl rfl rfl ?_; refine oL rfl rfl (qla0 1) ?_; refine oB rfl rfl rfl qbl ?_; refine OkO.bin rfl rfl rfl (bin_gtr _ _) ?_; refine oN ?_
    refine Ok.cond rfl (fun h2 => ?_) (fun h2 => ?_)
    · refine kS ?_
      refine kR ?_; refine oV rfl rfl rfl rfl rfl (rfl) ?_; refine oA rfl rfl ?_; refine oN ?_
      refine Ok.ret ⟨.inr rfl, ?_⟩
      exact back_flat rfl rfl rfl (by rw [← hW]; exact g6)
    · have hl15 : TT[i].length ≤ 15 := by (have h9 : ¬ (15 : Int) < (TT[i].length : Int) := by simpa using h2); omega
      refine Ok.skip ?_; refine kS ?_; refine kR ?_; refine oA rfl rfl ?_; refine oN ?_; refine Ok.block ?_
      refine Ok.loop (fun n8 s_ => ∃ j : Nat, n8 = TT[i].length - j ∧ j ≤ TT[i].length ∧ (∀ l ∈ TT[i].take j, l.length ≤ 8) ∧ Has 8 [(1, I fa), (2, tv), (3, .bool own), (4, U8 rw9), (5, U8 cn9), (6, U8 bd9), (7, .int .i8 by9), (8, .ptr W.next 0), (17, I (i : Int)), (18, I (j : Int))] s_.T ∧ s_.D = [] ∧ G6 = s_.H) (TT[i].length) (by unfold loopFuel; omega)
        ⟨0, rfl, Nat.zero_le _, (fun l h => absurd h (by simp)), Has.of (by kernel_rfl), rfl, rfl⟩ ?_
      rintro nn_ ⟨T, D, G⟩ ⟨j, hn8_, hj, hOKj, ⟨f2_, hTT⟩, hD, hgE⟩
      dsimp only at *
      subst hTT hD
      skip
      subst hgE
      refine kS ?_; refine kS ?_; refine kR ?_; refine oM rfl rfl ?_; refine oM rfl rfl ?_; refine oM rfl rfl ?_; refine qX (sz := 1) (n := i) rfl rfl rfl ?_; refine oL rfl rfl (qla0 1) ?_; refine oB rfl rfl rfl qbl ?_; refine OkO.bin rfl rfl rfl (bin_lss _ _) ?_; refine oN ?_
      refine Ok.cond rfl (fun h3 => ?_) (fun h3 => ?_)
      · have hlt2 : j < TT[i].length := by simpa using h3
        obtain ⟨xl, cb, co, ccs, s1, s2, s3, s4, s5⟩ := t5.get j hlt2
        have lq2 := Row.len s5
        rw [List.length_map] at lq2
        have pxl : xl.plain = true := lpl lq2
        refine Ok.skip ?_; refine kS ?_; refine Ok.block ?_; refine kS ?_; refine kR ?_; refine oM rfl rfl ?_; refine oM rfl rfl ?_; refine qX (sz := 1) (n := i) rfl rfl rfl ?_; refine oL rfl rfl (qla0 1) ?_; refine oM rfl rfl ?_; refine qX (sz := 1) (n := j) rfl rfl rfl ?_; refine oL rfl rfl (qla0 1) ?_; refine oB rfl rfl rfl qbl ?_; refine OkO.bin rfl rfl rfl (bin_gtr _ _) ?_; refine oN ?_
        refine Ok.cond rfl (fun h4 => ?_) (fun h4 => ?_)
        · refine kS ?_
          refine kR ?_; refine oV rfl rfl rfl rfl rfl (rfl) ?_; refine oA rfl rfl ?_; refine oN ?_
          refine Ok.ret ⟨.inr rfl, ?_⟩
          exact back_flat rfl rfl rfl (by rw [← hW]; exact g6)
        · have hl8 : TT[i][j].length ≤ 8 := by (have h9 : ¬ (8 : Int) < (TT[i][j].length : Int) := by simpa using h4); omega
          refine Ok.skip ?_; refine kR ?_; refine oM rfl rfl ?_; refine OkO.bin rfl rfl rfl (bin_add (by omega) (by omega)) ?_; refine oA rfl rfl ?_; refine oN ?_
          refine ⟨TT[i].length - (j + 1), by omega, j + 1, rfl, by omega, fun l hl => ?_, Has.of (by kernel_rfl), rfl, rfl⟩
          rw [List.take_succ_eq_append_getElem hlt2, List.mem_append, List.mem_singleton] at hl
          rcases hl with hl | hl
          · exact hOKj l hl
          · rw [hl]; exact hl8
      · have hge2 : j = TT[i].length := by (have h9 : ¬ j < TT[i].length := by simpa using h3); omega
        rw [hge2, List.take_length] at hOKj
        have hOKl := hOKj
        refine Ok.exit ?_; refine kR ?_; refine oM rfl rfl ?_; refine OkO.bin rfl rfl rfl (bin_add (by omega) (by omega)) ?_; refine oA rfl rfl ?_; refine oN ?_
        refine ⟨TT.length - (i + 1), by omega, i + 1, rfl, by omega, fun R hR => ?_, Has.of (by kernel_rfl), rfl, rfl⟩
        rw [List.take_succ_eq_append_getElem hlt, List.mem_append, List.mem_singleton] at hR
        rcases hR with hR | hR
        · exact hOK R hR
        · rw [hR]; exact ⟨hl15, hOKl⟩
  · have hge : i = TT.length := by (have h9 : ¬ i < TT.length := by simpa using h1); omega
    rw [hge, List.take_length] at hOK
    refine Ok.exit ?_; refine kS ?_; refine kR ?_; refine oL rfl rfl (qlg7 2) ?_; refine oE rfl rfl rfl rfl rfl (c19 (m + 210) cv cols (L : Int) _ (hM.ext (hE _ (by (try dsimp only); repeat (first | exact g6 | apply Grow.new | (refine Grow.put ?_ _ (by first | omega | (simp only [hNw, hPt]; omega))))))) hth) ?_
    rintro _ Ha1 ⟨cv1, rfl, qa1, fa1⟩
    have n1 := qa1.ext.next
    try simp only [hNw, hPt] at n1
    have gg1 : Grow W Ha1 := Grow.ret (by (try dsimp only); repeat (first | exact g6 | apply Grow.new | (refine Grow.put ?_ _ (by first | omega | (simp only [hNw, hPt]; omega))))) qa1
    have a1 : (Ha1.get (W.next)).bind AObj.cs = some [cv, I (L : Int)] := by rw [qa1.ext.get _ (by first | omega | (simp only [hNw, hPt]; omega))]; first | assumption | (rw [gn0]; rfl) | (rw [get_put_eq] <;> rfl) | (simp (disch := first | omega | (simp only [hNw, hPt]; omega)) only [gN] <;> first | rfl | assumption | (rw [get_put_eq] <;> rfl))
    have ma1 := fa1.now (Nat.le_refl _)
    refine oM rfl rfl ?_; refine oV rfl rfl rfl rfl rfl ((c36E (m + 1) cv1 cols (L : Int) fa _ ma1 (by rw [hre]; decide)).trans (by rw [hre])) ?_; refine oM rfl rfl ?_; refine OkO.extract rfl rfl rfl ?_; refine OkO.extract rfl rfl rfl ?_; refine oA rfl rfl ?_; refine oA rfl rfl ?_; refine oN ?_; refine kS ?_; refine kR ?_; refine oL rfl rfl (qlg7 2) ?_; refine oV rfl rfl rfl rfl rfl ((c23 (m + 210) cv cols (L : Int) _ (hM.ext (hE _ (by (try dsimp only); repeat (first | exact gg1 | apply Grow.new | (refine Grow.put ?_ _ (by first | omega | (simp only [hNw, hPt]; omega)))))))).trans (by rw [hv])) ?_; refine oM rfl rfl ?_; refine oM rfl rfl ?_; refine oV rfl rfl rfl rfl rfl ((c37 (m + 211) fa 0 10000 _).trans (by rw [hin])) ?_; refine OkO.pick (b := true) rfl rfl (fun _ => rfl) nofun ?_; refine oA rfl rfl ?_; refine oN ?_; refine kS ?_; refine kS ?_; refine kR ?_; refine oM rfl rfl ?_; refine OkO.un rfl rfl rfl ?_; refine oN ?_; refine Ok.condF rfl ?_; refine Ok.skip ?_; refine kS ?_; refine kS ?_; refine Ok.drawn [(0, true, []), (1, true, []), (2, true, []), (3, true, []), (4, true, []), (5, true, []), (6, true, []), (7, true, []), (8, true, []), (9, true, []), (10, true, []), (11, true, []), (12, true, []), (13, false, [7]), (14, true, []), (15, true, []), (16, true, []), (17, true, []), (18, true, []), (20, true, []), (19, false, [17, 12, 7]), (21, false, [18, 12, 7]), (22, true, []), (23, true, []), (24, true, [])] (by kernel_rfl) ?_; refine pS ?_; refine oM rfl rfl ?_; refine oN ⟨rfl, ?_⟩; refine pS ?_; refine OkO.bin rfl rfl rfl ((bin_neq _ _).trans (congrArg (fun b => some (AV.bool b)) (show _ = true from (by rfl)))) ?_; refine oN ⟨rfl, ?_⟩; refine pS ?_; refine oM rfl rfl ?_; refine oN ⟨rfl, ?_⟩; refine pS ?_; refine oM rfl rfl ?_; refine oN ⟨rfl, ?_⟩; refine pS ?_; refine OkO.bin rfl rfl rfl ((bin_neq _ _).trans (congrArg (fun b => some (AV.bool b)) (show _ = false from (by rfl)))) ?_; refine oN ⟨rfl, ?_⟩; refine pS ?_; refine oM rfl rfl ?_; refine oN ⟨rfl, ?_⟩; refine pS ?_; refine oM rfl rfl ?_; refine oN ⟨rfl, ?_⟩; refine pS ?_; refine oB rfl rfl rfl qbl ?_; refine oN ⟨rfl, ?_⟩; refine pS ?_; refine OkO.bin rfl rfl rfl ((bin_neq _ _).trans (congrArg (fun b => some (AV.bool b)) (show _ = false from (by rfl)))) ?_; refine oN ⟨rfl, ?_⟩; refine pS ?_; refine OkO.pick (b := false) rfl rfl nofun (fun _ => rfl) ?_; refine oN ⟨rfl, ?_⟩; refine pS ?_; refine OkO.pick (b := true) rfl rfl (fun _ => rfl) nofun ?_; refine oN ⟨rfl, ?_⟩; refine pS ?_; refine oM rfl rfl ?_; refine oN ⟨rfl, ?_⟩; refine pS ?_; refine oL rfl rfl (qlg7 2) ?_; refine oN ⟨rfl, ?_⟩; refine pS ?_; refine oV rfl rfl rfl rfl rfl ((c30 (m + 208) cv cols (L : Int) _ (hM.ext (hE _ (by (try dsimp only); repeat (first | exact gg1 | apply Grow.new | (refine Grow.put ?_ _ (by first | omega | (simp only [hNw, hPt]; omega)))))))).trans (by rw [hfew])) ?_
    refine oN ⟨(sco (svl rfl (ecb rfl rfl qbl) rfl (eqr _ rfl)) rfl), ?_⟩; refine pS ?_; refine oM rfl rfl ?_; refine oN ⟨rfl, ?_⟩; refine pS ?_; refine oM rfl rfl ?_; refine oN ⟨rfl, ?_⟩; refine pS ?_; refine OkO.bin rfl rfl rfl ((bin_eql _ _).trans (congrArg (fun b => some (AV.bool b)) (show _ = false from (by rfl)))) ?_; refine oN ⟨rfl, ?_⟩; refine pS ?_; refine oL rfl rfl (qlg7 2) ?_; refine oN ⟨rfl, ?_⟩; refine pS ?_; refine oL rfl rfl (qlg7 2) ?_; refine oN ⟨rfl, ?_⟩; refine pS ?_; refine oM rfl rfl ?_; refine oN ⟨rfl, ?_⟩; refine pS ?_; refine oE rfl rfl rfl rfl rfl (c33 (m + 196) cv cols (L : Int) _ (hM.ext (hE _ (by (try dsimp only); repeat (first | exact gg1 | apply Grow.new | (refine Grow.put ?_ _ (by first | omega | (simp only [hNw, hPt]; omega))))))) hv hq) ?_
    rintro v33 H33 ⟨Q, q33, hA33, hS33, hl33⟩
    have n2 := q33.ext.next
    try simp only [hNw, hPt] at n2
    have gg2 : Grow W H33 := Grow.ret (by (try dsimp only); repeat (first | exact gg1 | apply Grow.new | (refine Grow.put ?_ _ (by first | omega | (simp only [hNw, hPt]; omega))))) q33
    have a2 : (H33.get (W.next)).bind AObj.cs = some [cv, I (L : Int)] := by rw [q33.ext.get _ (by first | omega | (simp only [hNw, hPt]; omega))]; first | assumption | (rw [gn0]; rfl) | (rw [get_put_eq] <;> rfl) | (simp (disch := first | omega | (simp only [hNw, hPt]; omega)) only [gN] <;> first | rfl | assumption | (rw [get_put_eq] <;> rfl))
    have pv33 := lpl hA33.elems.2
    have v33o := hA33.1.one
    refine oN ⟨(sco (qsg6 2 rfl rfl rfl) (sco (qsg6 2 rfl rfl rfl) (sco (svl rfl (ecb rfl rfl qbl) rfl (eqr _ rfl)) rfl))), ?_⟩; refine pS ?_; refine oV rfl rfl rfl rfl rfl ((c40 (m + 207) cv v33 cols (L : Int) fa Q _ (hM.ext (hE _ (by (try dsimp only); repeat (first | exact gg2 | apply Grow.new | (refine Grow.put ?_ _ (by first | omega | (simp only [hNw, hPt]; omega))))))) hv (hA33.low (Nat.zero_le _)) hS33 hl33 hf).trans (by rw [hb9])) ?_
    refine oN ⟨(sco (qsg6 2 rfl rfl rfl) (sco (qsg6 2 rfl rfl rfl) (sco (svl rfl (ecb rfl rfl qbl) rfl (eqr _ rfl)) rfl))), ?_⟩; refine pS ?_; refine OkO.binT rfl rfl rfl ((bin4n' _ _).trans (congrArg (fun b => some (AV.bool b)) (show _ = false from (by rfl)))) ?_; refine oN ⟨rfl, ?_⟩; refine pS ?_; refine OkO.pick (b := true) rfl rfl (fun _ => rfl) nofun ?_; refine oN ⟨rfl, ?_⟩; refine pS ?_; refine OkO.pick (b := false) rfl rfl nofun (fun _ => rfl) ?_; refine oN ⟨rfl, ?_⟩; refine OkP.nil ?_; refine Ok.condF rfl ?_; refine Ok.skip ?_; refine kS ?_; refine kS ?_; refine kR ?_; refine oM rfl rfl ?_; refine OkO.bin rfl rfl rfl ((bin_eql _ _).trans (congrArg (fun b => some (AV.bool b)) (show _ = false from (by rfl)))) ?_; refine oN ?_; refine Ok.condF rfl ?_; refine Ok.skip ?_; refine kS ?_; refine Ok.drawn [(0, true, []), (2, true, []), (3, true, []), (6, true, []), (7, true, []), (8, true, []), (1, false, [6]), (4, false, [6, 0]), (5, false, [6, 0]), (9, false, [0]), (10, true, []), (11, true, []), (12, false, [6, 0]), (13, true, []), (14, true, [])] (by kernel_rfl) ?_; refine pS ?_; refine oL rfl rfl (qlg7 2) ?_; refine oN ⟨rfl, ?_⟩; refine pS ?_; refine oM rfl rfl ?_; refine oN ⟨rfl, ?_⟩; refine pS ?_; refine oM rfl rfl ?_; refine oN ⟨rfl, ?_⟩; refine pS ?_; refine oL rfl rfl (qlg7 2) ?_; refine oN ⟨rfl, ?_⟩; refine pS ?_; refine oM rfl rfl ?_; refine oN ⟨rfl, ?_⟩; refine pS ?_; refine oM rfl rfl ?_; refine oN ⟨rfl, ?_⟩; refine pS ?_; refine oE rfl rfl rfl rfl rfl (c19 (m + 210) cv cols (L : Int) _ (hM.ext (hE _ (by (try dsimp only); repeat (first | exact gg2 | apply Grow.new | (refine Grow.put ?_ _ (by first | omega | (simp only [hNw, hPt]; omega))))))) hth) ?_
    rintro _ Ha2 ⟨cv2, rfl, qa2, fa2⟩
    have n3 := qa2.ext.next
    try simp only [hNw, hPt] at n3
    have gg3 : Grow W Ha2 := Grow.ret (by (try dsimp only); repeat (first | exact gg2 | apply Grow.new | (refine Grow.put ?_ _ (by first | omega | (simp only [hNw, hPt]; omega))))) qa2
    have a3 : (Ha2.get (W.next)).bind AObj.cs = some [cv, I (L : Int)] := by rw [qa2.ext.get _ (by first | omega | (simp only [hNw, hPt]; omega))]; first | assumption | (rw [gn0]; rfl) | (rw [get_put_eq] <;> rfl) | (simp (disch := first | omega | (simp only [hNw, hPt]; omega)) only [gN] <;> first | rfl | assumption | (rw [get_put_eq] <;> rfl))
    have ma2 := fa2.now (Nat.le_refl _)
    refine oN ⟨(sco (qsg6 2 rfl rfl rfl) rfl), ?_⟩; refine pS ?_; refine oE rfl rfl rfl rfl rfl (c39 (m + 210) tv TT _ (hT.ext (hE _ (by (try dsimp only); repeat (first | exact gg3 | apply Grow.new | (refine Grow.put ?_ _ (by first | omega | (simp only [hNw, hPt]; omega))))))) (by omega) (fun R hR => by (have h9 := (hOK R hR).1); omega) (fun R hR l hl => by (have h9 := (hOK R hR).2 l hl); omega)) ?_
    rintro tc Hc ⟨qc, htc⟩
    have n4 := qc.ext.next
    try simp only [hNw, hPt] at n4
    have gg4 : Grow W Hc := Grow.ret (by (try dsimp only); repeat (first | exact gg3 | apply Grow.new | (refine Grow.put ?_ _ (by first | omega | (simp only [hNw, hPt]; omega))))) qc
    have a4 : (Hc.get (W.next)).bind AObj.cs = some [cv, I (L : Int)] := by rw [qc.ext.get _ (by first | omega | (simp only [hNw, hPt]; omega))]; first | assumption | (rw [gn0]; rfl) | (rw [get_put_eq] <;> rfl) | (simp (disch := first | omega | (simp only [hNw, hPt]; omega)) only [gN] <;> first | rfl | assumption | (rw [get_put_eq] <;> rfl))
    have exHa24 : Ext Ha2 Hc := Ext.trans (by (try dsimp only); repeat (first | exact Ext.refl _ | exact Ext.refl _ | apply Ext.new | (refine Ext.put ?_ _ (by first | omega | (simp only [hNw, hPt]; omega))))) qc.ext
    have lct := htc.len
    have pct : tc.plain = true := lpl lct
    refine oN ⟨(sco (qsg6 2 rfl rfl rfl) (sco (qsg6 2 rfl rfl rfl) rfl)), ?_⟩; refine pS ?_; refine oE rfl rfl rfl rfl rfl (c38X (m + 202) cv2 tc cols fa L TT _ (ma2.ext (by (try dsimp only); repeat (first | exact exHa24 | exact Ext.refl _ | apply Ext.new | (refine Ext.put ?_ _ (by first | omega | (simp only [hNw, hPt]; omega)))))) (htc.ext (by (try dsimp only); repeat (first | exact Ext.refl _ | exact Ext.refl _ | apply Ext.new | (refine Ext.put ?_ _ (by first | omega | (simp only [hNw, hPt]; omega)))))) (by omega) (fun R hR => by (have h9 := (hOK R hR).1); omega) (fun R hR l hl => by (have h9 := (hOK R hR).2 l hl); omega) hv hf) ?_
    rintro _ H38 ⟨bb, rfl, rfl, hbb⟩
    refine oN ⟨(sco (qsg6 2 rfl rfl rfl) (sco (qsg6 2 rfl rfl rfl) rfl)), ?_⟩; refine pS ?_; refine oE rfl rfl rfl rfl rfl (c41X (m + 209) cv tv cols fa L TT _ (hM.ext (hE _ (by (try dsimp only); repeat (first | exact gg4 | apply Grow.new | (refine Grow.put ?_ _ (by first | omega | (simp only [hNw, hPt]; omega))))))) (hT.ext (hE _ (by (try dsimp only); repeat (first | exact gg4 | apply Grow.new | (refine Grow.put ?_ _ (by first | omega | (simp only [hNw, hPt]; omega))))))) hv hf) ?_
    rintro _ H41 ⟨b2, rfl, rfl, hb2⟩
    have hbe : b2 = bb := by (rw [Bool.eq_iff_iff]; exact hb2.trans hbb.symm)
    subst hbe
    refine oN ⟨(sco (qsg6 2 rfl rfl rfl) rfl), ?_⟩; refine pS ?_; refine OkO.binT rfl rfl rfl ((bin4e _ _).trans (congrArg (fun b => some (AV.bool b)) (show _ = true from (by exact beq_self_eq_true _)))) ?_; refine oN ⟨rfl, ?_⟩; refine pS ?_; refine oM rfl rfl ?_; refine oN ⟨rfl, ?_⟩; refine pS ?_; refine oV rfl rfl rfl rfl rfl (rfl) ?_
    refine oN ⟨(sco (qsg6 2 rfl rfl rfl) (sco (qsg6 2 rfl rfl rfl) rfl)), ?_⟩; refine pS ?_; refine OkO.pick (b := true) rfl rfl (fun _ => rfl) nofun ?_; refine oN ⟨rfl, ?_⟩; refine pS ?_; refine oA rfl rfl ?_; refine oN ⟨rfl, ?_⟩; refine OkP.nil ?_
    refine Ok.ret ⟨.inr rfl, ?_⟩
    exact back_flat rfl rfl rfl (by rw [← hW]; exact (by (try dsimp only); repeat (first | exact gg4 | apply Grow.new | (refine Grow.put ?_ _ (by first | omega | (simp only [hNw, hPt]; omega))))))
set_option maxHeartbeats 2000000 in
theorem c6PM (m : Nat) (cv tv : AV) (cols : List (List Bed)) (L : Nat) (fa : Int) (TT : List (List (List Int))) (own : Bool) (rw9 cn9 bd9 by9 : Int) (H : Heap) (hM : Mat H cv cols) (hT : Tab H tv TT) (hth : thinB cols = true) (hT5 : TT.length ≤ 5) (hv : slOk cols (L : Int) = true) (hin : inB fa 0 10000 = true) (hf : 0 ≤ fa ∧ fa ≤ 10000) (hfew : fewB cols (L : Int) = false) (hre : reachE cols (L : Int) fa = 0) (hb9 : belowB cols.length (cols.headD []).length (L : Int) (prC cols fa) = false) (hown : own = false) : RR (m + 213) (.fn 6 [.agg [cv, I (L : Int)], I fa, tv, .bool own, U8 rw9, U8 cn9, U8 bd9, .int .i8 by9]) H = some (.bool true, H) := by
  refine (R_fn _ _ _ _ _).trans ?_; refine fn_ok Try.func6 rfl rfl (by kernel_rfl) (by kernel_rfl) ?_
  obtain ⟨W, hW, hg, hN, hE, hG⟩ := wOf H
  rw [← hW]
  have pc : cv.plain = true := by obtain ⟨vs, hR, _, _⟩ := hM; exact lpl hR.len
  have hlT := hT.len
  have ptv : tv.plain = true := lpl hlT
  have hsf := slOk_facts hv
  subst hown
  refine kS ?_; refine kR ?_; refine OkO.box rfl rfl ?_; refine oA rfl rfl ?_; refine oN ?_; refine kS ?_; refine kS ?_; refine kR ?_; refine oL rfl rfl (qlg7 2) ?_; refine oV rfl rfl rfl rfl rfl ((c16 (m + 211) cv cols (L : Int) _ (hM.ext (hE _ (by (try dsimp only); repeat (first | exact hG | apply Grow.new | (refine Grow.put ?_ _ (by first | omega | (simp only [hNw, hPt]; omega)))))))).trans (by rw [hth])) ?_; refine OkO.un rfl rfl rfl ?_; refine oM rfl rfl ?_; refine oM rfl rfl ?_; refine oB rfl rfl rfl qbl ?_; refine OkO.bin rfl rfl rfl ((bin_gtr _ _).trans (congrArg (fun b => some (AV.bool b)) (show _ = false from (by rw [decide_eq_false_iff_not]; omega)))) ?_; refine OkO.pick (b := false) rfl rfl nofun (fun _ => rfl) ?_; refine oN ?_; refine Ok.condF rfl ?_; refine Ok.skip ?_; refine kS ?_; refine kS ?_; refine kR ?_; refine oA rfl rfl ?_; refine oN ?_; refine Ok.block ?_
  obtain ⟨G6, hG6⟩ : ∃ G6, G6 = W.new (.cells [cv, I (L : Int)] 24) := ⟨_, rfl⟩
  have e6 : (G6.get W.next).bind AObj.cs = some [cv, I (L : Int)] := by rw [hG6, gn0]; rfl
  have g6 : Grow W G6 := by rw [hG6]; exact hG.new _
  have n6 : W.next + 1 ≤ G6.next := by rw [hG6]; simp
  refine Ok.loop (fun n9 s_ => ∃ i : Nat, n9 = TT.length - i ∧ i ≤ TT.length ∧ (∀ R ∈ TT.take i, (R.length ≤ 15 ∧ ∀ l ∈ R, l.length ≤ 8)) ∧ Has 8 [(1, I fa), (2, tv), (3, .bool false), (4, U8 rw9), (5, U8 cn9), (6, U8 bd9), (7, .int .i8 by9), (8, .ptr W.next 0), (17, I (i : Int))] s_.T ∧ s_.D = [] ∧ G6 = s_.H) (TT.length) (by unfold loopFuel; omega)
    ⟨0, rfl, Nat.zero_le _, (fun R h => absurd h (by simp)), Has.of (by kernel_rfl), rfl, hG6⟩ ?_
  rintro nn_ ⟨T, D, G⟩ ⟨i, hn9_, hi, hOK, ⟨f_, hTT⟩, hD, hgE⟩
  dsimp only at *
  subst hTT hD
  skip
  subst hgE
  refine kS ?_; refine kS ?_; refine kR ?_; refine oM rfl rfl ?_; refine oM rfl rfl ?_; refine oB rfl rfl rfl qbl ?_; refine OkO.bin rfl rfl rfl (bin_lss _ _) ?_; refine oN ?_
  refine Ok.cond rfl (fun h1 => ?_) (fun h1 => ?_)
  · have hlt : i < TT.length := by simpa using h1
    obtain ⟨xr, rb, ro, rcs, t1, t2, t3, t4, t5⟩ := (hT.ext (hE _ g6)).get i hlt
    have lq := t5.len
    have pxr : xr.plain = true := lpl lq
    refine Ok.skip ?_; refine kS ?_; refine Ok.block ?_; refine kS ?_; refine kS ?_; refine kR ?_; refine oM rfl rfl ?_; refine oM rfl rfl ?_; refine qX (sz := 1) (n := i) rfl rfl rfl ?_; refine oL rfl rfl (qla0 1) ?_; refine oB rfl rfl rfl qbl ?_; refine OkO.bin rfl rfl rfl (bin_gtr _ _) ?_; refine oN ?_
    refine Ok.cond rfl (fun h2 => ?_) (fun h2 => ?_)
    · refine kS ?_
      refine kR ?_; refine oV rfl rfl rfl rfl rfl (rfl) ?_; refine oA rfl rfl ?_; refine oN ?_
      refine Ok.ret ⟨.inr rfl, ?_⟩
      exact back_flat rfl rfl rfl (by rw [← hW]; exact g6)
    · have hl15 : TT[i].length ≤ 15 := by (have h9 : ¬ (15 : Int) < (TT[i].length : Int) := by simpa using h2); omega
      refine Ok.skip ?_; refine kS ?_; refine kR ?_; refine oA rfl rfl ?_; refine oN ?_; refine Ok.block ?_
      refine Ok.loop (fun n8 s_ => ∃ j : Nat, n8 = TT[i].length - j ∧ j ≤ TT[i].length ∧ (∀ l ∈ TT[i].take j, l.length ≤ 8) ∧ Has 8 [(1, I fa), (2, tv), (3, .bool false), (4, U8 rw9), (5, U8 cn9), (6, U8 bd9), (7, .int .i8 by9), (8, .ptr W.next 0), (17, I (i : Int)), (18, I (j : Int))] s_.T ∧ s_.D = [] ∧ G6 = s_.H) (TT[i].length) (by unfold loopFuel; omega)
        ⟨0, rfl, Nat.zero_le _, (fun l h => absurd h (by simp)), Has.of (by kernel_rfl), rfl, rfl⟩ ?_
      rintro nn_ ⟨T, D, G⟩ ⟨j, hn8_, hj, hOKj, ⟨f2_, hTT⟩, hD, hgE⟩
      dsimp only at *
      subst hTT hD
      skip
      subst hgE
      refine kS ?_; refine kS ?_; refine kR ?_; refine oM rfl rfl ?_; refine oM rfl rfl ?_; refine oM rfl rfl ?_; refine qX (sz := 1) (n := i) rfl rfl rfl ?_; refine oL rfl rfl (qla0 1) ?_; refine oB rfl rfl rfl qbl ?_; refine OkO.bin rfl rfl rfl (bin_lss _ _) ?_; refine oN ?_
      refine Ok.cond rfl (fun h3 => ?_) (fun h3 => ?_)
      · have hlt2 : j < TT[i].length := by simpa using h3
        obtain ⟨xl, cb, co, ccs, s1, s2, s3, s4, s5⟩ := t5.get j hlt2
        have lq2 := Row.len s5
        rw [List.length_map] at lq2
        have pxl : xl.plain = true := lpl lq2
        refine Ok.skip ?_; refine kS ?_; refine Ok.block ?_; refine kS ?_; refine kR ?_; refine oM rfl rfl ?_; refine oM rfl rfl ?_; refine qX (sz := 1) (n := i) rfl rfl rfl ?_; refine oL rfl rfl (qla0 1) ?_; refine oM rfl rfl ?_; refine qX (sz := 1) (n := j) rfl rfl rfl ?_; refine oL rfl rfl (qla0 1) ?_; refine oB rfl rfl rfl qbl ?_; refine OkO.bin rfl rfl rfl (bin_gtr _ _) ?_; refine oN ?_
        refine Ok.cond rfl (fun h4 => ?_) (fun h4 => ?_)
        · refine kS ?_
          refine kR ?_; refine oV rfl rfl rfl rfl rfl (rfl) ?_; refine oA rfl rfl ?_; refine oN ?_
          refine Ok.ret ⟨.inr rfl, ?_⟩
          exact back_flat rfl rfl rfl (by rw [← hW]; exact g6)
        · have hl8 : TT[i][j].length ≤ 8 := by (have h9 : ¬ (8 : Int) < (TT[i][j].length : Int) := by simpa using h4); omega
          refine Ok.skip ?_; refine kR ?_; refine oM rfl rfl ?_; refine OkO.bin rfl rfl rfl (bin_add (by omega) (by omega)) ?_; refine oA rfl rfl ?_; refine oN ?_
          refine ⟨TT[i].length - (j + 1), by omega, j + 1, rfl, by omega, fun l hl => ?_, Has.of (by kernel_rfl), rfl, rfl⟩
          rw [List.take_succ_eq_append_getElem hlt2, List.mem_append, List.mem_singleton] at hl
          rcases hl with hl | hl
          · exact hOKj l hl
          · rw [hl]; exact hl8
      · have hge2 : j = TT[i].length := by (have h9 : ¬ j < TT[i].length := by simpa using h3); omega
        rw [hge2, List.take_length] at hOKj
        have hOKl := hOKj
        refine Ok.exit ?_; refine kR ?_; refine oM rfl rfl ?_; refine OkO.bin rfl rfl rfl (bin_add (by omega) (by omega)) ?_; refine oA rfl rfl ?_; refine oN ?_
        refine ⟨TT.length - (i + 1), by omega, i + 1, rfl, by omega, fun R hR => ?_, Has.of (by kernel_rfl), rfl, rfl⟩
        rw [List.take_succ_eq_append_getElem hlt, List.mem_append, List.mem_singleton] at hR
        rcases hR with hR | hR
        · exact hOK R hR
        · rw [hR]; exact ⟨hl15, hOKl⟩
  · have hge : i = TT.length := by (have h9 : ¬ i < TT.length := by simpa using h1); omega
    rw [hge, List.take_length] at hOK
    refine Ok.exit ?_; refine kS ?_; refine kR ?_; refine oL rfl rfl (qlg7 2) ?_; refine oE rfl rfl rfl rfl rfl (c19 (m + 210) cv cols (L : Int) _ (hM.ext (hE _ (by (try dsimp only); repeat (first | exact g6 | apply Grow.new | (refine Grow.put ?_ _ (by first | omega | (simp only [hNw, hPt]; omega))))))) hth) ?_
    rintro _ Ha1 ⟨cv1, rfl, qa1, fa1⟩
    have n1 := qa1.ext.next
    try simp only [hNw, hPt] at n1
    have gg1 : Grow W Ha1 := Grow.ret (by (try dsimp only); repeat (first | exact g6 | apply Grow.new | (refine Grow.put ?_ _ (by first | omega | (simp only [hNw, hPt]; omega))))) qa1
    have a1 : (Ha1.get (W.next)).bind AObj.cs = some [cv, I (L : Int)] := by rw [qa1.ext.get _ (by first | omega | (simp only [hNw, hPt]; omega))]; first | assumption | (rw [gn0]; rfl) | (rw [get_put_eq] <;> rfl) | (simp (disch := first | omega | (simp only [hNw, hPt]; omega)) only [gN] <;> first | rfl | assumption | (rw [get_put_eq] <;> rfl))
    have ma1 := fa1.now (Nat.le_refl _)
    refine oM rfl rfl ?_; refine oE rfl rfl rfl rfl rfl (c36 (m + 1) cv1 cols fa L _ ma1 hv hf hre) ?_
    rintro _ Ht ⟨tv9, rfl, qt, ht9⟩
    have n2 := qt.ext.next
    try simp only [hNw, hPt] at n2
    have gg2 : Grow W Ht := Grow.ret (by (try dsimp only); repeat (first | exact gg1 | apply Grow.new | (refine Grow.put ?_ _ (by first | omega | (simp only [hNw, hPt]; omega))))) qt
    have a2 : (Ht.get (W.next)).bind AObj.cs = some [cv, I (L : Int)] := by rw [qt.ext.get _ (by first | omega | (simp only [hNw, hPt]; omega))]; first | assumption | (rw [gn0]; rfl) | (rw [get_put_eq] <;> rfl) | (simp (disch := first | omega | (simp only [hNw, hPt]; omega)) only [gN] <;> first | rfl | assumption | (rw [get_put_eq] <;> rfl))
    have lt9 := ht9.len
    have pt9 : tv9.plain = true := lpl lt9
    refine oM rfl rfl ?_; refine OkO.extract rfl rfl rfl ?_; refine OkO.extract rfl rfl rfl ?_; refine oA rfl rfl ?_; refine oA rfl rfl ?_; refine oN ?_; refine kS ?_; refine kR ?_; refine oL rfl rfl (qlg7 2) ?_; refine oV rfl rfl rfl rfl rfl ((c23 (m + 210) cv cols (L : Int) _ (hM.ext (hE _ (by (try dsimp only); repeat (first | exact gg2 | apply Grow.new | (refine Grow.put ?_ _ (by first | omega | (simp only [hNw, hPt]; omega)))))))).trans (by rw [hv])) ?_; refine oM rfl rfl ?_; refine oM rfl rfl ?_; refine oV rfl rfl rfl rfl rfl ((c37 (m + 211) fa 0 10000 _).trans (by rw [hin])) ?_; refine OkO.pick (b := true) rfl rfl (fun _ => rfl) nofun ?_; refine oA rfl rfl ?_; refine oN ?_; refine kS ?_; refine kS ?_; refine kR ?_; refine oM rfl rfl ?_; refine OkO.un rfl rfl rfl ?_; refine oN ?_; refine Ok.condF rfl ?_; refine Ok.skip ?_; refine kS ?_; refine kS ?_; refine Ok.drawn [(0, true, []), (1, true, []), (2, true, []), (3, true, []), (4, true, []), (5, true, []), (6, true, []), (7, true, []), (8, true, []), (9, true, []), (10, true, []), (11, true, []), (12, true, []), (13, false, [7]), (14, true, []), (15, true, []), (16, true, []), (17, true, []), (18, true, []), (20, true, []), (19, false, [17, 12, 7]), (21, false, [18, 12, 7]), (22, true, []), (23, true, []), (24, true, [])] (by kernel_rfl) ?_; refine pS ?_; refine oM rfl rfl ?_; refine oN ⟨rfl, ?_⟩; refine pS ?_; refine OkO.bin rfl rfl rfl ((bin_neq _ _).trans (congrArg (fun b => some (AV.bool b)) (show _ = false from (by rfl)))) ?_; refine oN ⟨rfl, ?_⟩; refine pS ?_; refine oM rfl rfl ?_; refine oN ⟨rfl, ?_⟩; refine pS ?_; refine oK rfl ?_; refine oN ⟨rfl, ?_⟩; refine pS ?_; refine oK rfl ?_; refine oN ⟨rfl, ?_⟩; refine pS ?_; refine oK rfl ?_; refine oN ⟨rfl, ?_⟩; refine pS ?_; refine oK rfl ?_; refine oN ⟨rfl, ?_⟩; refine pS ?_; refine oK rfl ?_; refine oN ⟨rfl, ?_⟩; refine pS ?_; refine oK rfl ?_; refine oN ⟨rfl, ?_⟩; refine pS ?_; refine oK rfl ?_; refine oN ⟨rfl, ?_⟩; refine pS ?_; refine OkO.pick (b := false) rfl rfl nofun (fun _ => rfl) ?_; refine oN ⟨rfl, ?_⟩; refine pS ?_; refine oM rfl rfl ?_; refine oN ⟨rfl, ?_⟩; refine pS ?_; refine oL rfl rfl (qlg7 2) ?_; refine oN ⟨rfl, ?_⟩; refine pS ?_; refine oV rfl rfl rfl rfl rfl ((c30 (m + 208) cv cols (L : Int) _ (hM.ext (hE _ (by (try dsimp only); repeat (first | exact gg2 | apply Grow.new | (refine Grow.put ?_ _ (by first | omega | (simp only [hNw, hPt]; omega)))))))).trans (by rw [hfew])) ?_
    refine oN ⟨(sco (ssk rfl) rfl), ?_⟩; refine pS ?_; refine oM rfl rfl ?_; refine oN ⟨rfl, ?_⟩; refine pS ?_; refine oK rfl ?_; refine oN ⟨rfl, ?_⟩; refine pS ?_; refine oK rfl ?_; refine oN ⟨rfl, ?_⟩; refine pS ?_; refine oK rfl ?_; refine oN ⟨rfl, ?_⟩; refine pS ?_; refine oK rfl ?_; refine oN ⟨rfl, ?_⟩; refine pS ?_; refine oK rfl ?_; refine oN ⟨rfl, ?_⟩; refine pS ?_; refine oK rfl ?_
    refine oN ⟨(sco (ssk rfl) (sco (qsg6 2 rfl rfl rfl) (sco (ssk rfl) rfl))), ?_⟩; refine pS ?_; refine oK rfl ?_
    refine oN ⟨(sco (ssk rfl) (sco (qsg6 2 rfl rfl rfl) (sco (ssk rfl) rfl))), ?_⟩; refine pS ?_; refine oK rfl ?_; refine oN ⟨rfl, ?_⟩; refine pS ?_; refine OkO.pick (b := false) rfl rfl nofun (fun _ => rfl) ?_; refine oN ⟨rfl, ?_⟩; refine pS ?_; refine OkO.pick (b := false) rfl rfl nofun (fun _ => rfl) ?_; refine oN ⟨rfl, ?_⟩; refine OkP.nil ?_; refine Ok.condF rfl ?_; refine Ok.skip ?_; refine kS ?_; refine kS ?_; refine kR ?_; refine oM rfl rfl ?_; refine OkO.bin rfl rfl rfl ((bin_eql _ _).trans (congrArg (fun b => some (AV.bool b)) (show _ = true from (by rfl)))) ?_; refine oN ?_; refine Ok.condT rfl ?_; refine kS ?_; refine kS ?_; refine Ok.drawn [(0, true, []), (1, true, []), (2, true, []), (3, false, [0]), (4, false, []), (5, true, [])] (by kernel_rfl) ?_; refine pS ?_; refine oL rfl rfl (qlg7 2) ?_; refine oN ⟨rfl, ?_⟩; refine pS ?_; refine oM rfl rfl ?_; refine oN ⟨rfl, ?_⟩; refine pS ?_; refine oM rfl rfl ?_; refine oN ⟨rfl, ?_⟩; refine pS ?_; refine oE rfl rfl rfl rfl rfl (c39 (m + 210) tv9 _ _ (ht9.ext (by (try dsimp only); repeat (first | exact Ext.refl _ | exact Ext.refl _ | apply Ext.new | (refine Ext.put ?_ _ (by first | omega | (simp only [hNw, hPt]; omega)))))) (by simp [tabL]; omega) (fun R hR => by (have h9 := (tabL_len R hR).1); omega) (fun R hR l hl => by (have h9 := (tabL_len R hR).2 l hl); omega)) ?_
    rintro tx Hx ⟨qx, htx⟩
    have n3 := qx.ext.next
    try simp only [hNw, hPt] at n3
    have gg3 : Grow W Hx := Grow.ret (by (try dsimp only); repeat (first | exact gg2 | apply Grow.new | (refine Grow.put ?_ _ (by first | omega | (simp only [hNw, hPt]; omega))))) qx
    have a3 : (Hx.get (W.next)).bind AObj.cs = some [cv, I (L : Int)] := by rw [qx.ext.get _ (by first | omega | (simp only [hNw, hPt]; omega))]; first | assumption | (rw [gn0]; rfl) | (rw [get_put_eq] <;> rfl) | (simp (disch := first | omega | (simp only [hNw, hPt]; omega)) only [gN] <;> first | rfl | assumption | (rw [get_put_eq] <;> rfl))
    have ltx := htx.len
    have ptx : tx.plain = true := lpl ltx
    refine oN ⟨(sco (qsg6 2 rfl rfl rfl) rfl), ?_⟩; refine pS ?_; refine oV rfl rfl rfl rfl rfl (c41G (m + 209) cv tx cols fa L _ (hM.ext (hE _ (by (try dsimp only); repeat (first | exact gg3 | apply Grow.new | (refine Grow.put ?_ _ (by first | omega | (simp only [hNw, hPt]; omega))))))) hv hf hb9 (htx.ext (by (try dsimp only); repeat (first | exact Ext.refl _ | exact Ext.refl _ | apply Ext.new | (refine Ext.put ?_ _ (by first | omega | (simp only [hNw, hPt]; omega))))))) ?_; refine oN ⟨rfl, ?_⟩; refine pS ?_; refine OkO.un rfl rfl rfl ?_; refine oN ⟨rfl, ?_⟩; refine OkP.nil ?_; refine Ok.condF rfl ?_; refine Ok.skip ?_; refine kS ?_; refine kR ?_; refine oM rfl rfl ?_; refine oN ?_; refine Ok.condF rfl ?_; refine Ok.skip ?_; refine kS ?_; refine Ok.drawn [(0, true, []), (2, true, []), (3, true, []), (6, true, []), (7, true, []), (8, true, []), (1, false, [6]), (4, false, [6, 0]), (5, false, [6, 0]), (9, false, [0]), (10, true, []), (11, true, []), (12, false, [6, 0]), (13, true, []), (14, true, [])] (by kernel_rfl) ?_; refine pS ?_; refine oL rfl rfl (qlg7 2) ?_; refine oN ⟨rfl, ?_⟩; refine pS ?_; refine oM rfl rfl ?_; refine oN ⟨rfl, ?_⟩; refine pS ?_; refine oM rfl rfl ?_; refine oN ⟨rfl, ?_⟩; refine pS ?_; refine oL rfl rfl (qlg7 2) ?_; refine oN ⟨rfl, ?_⟩; refine pS ?_; refine oM rfl rfl ?_; refine oN ⟨rfl, ?_⟩; refine pS ?_; refine oM rfl rfl ?_; refine oN ⟨rfl, ?_⟩; refine pS ?_; refine oE rfl rfl rfl rfl rfl (c19 (m + 210) cv cols (L : Int) _ (hM.ext (hE _ (by (try dsimp only); repeat (first | exact gg3 | apply Grow.new | (refine Grow.put ?_ _ (by first | omega | (simp only [hNw, hPt]; omega))))))) hth) ?_
    rintro _ Ha2 ⟨cv2, rfl, qa2, fa2⟩
    have n4 := qa2.ext.next
    try simp only [hNw, hPt] at n4
    have gg4 : Grow W Ha2 := Grow.ret (by (try dsimp only); repeat (first | exact gg3 | apply Grow.new | (refine Grow.put ?_ _ (by first | omega | (simp only [hNw, hPt]; omega))))) qa2
    have a4 : (Ha2.get (W.next)).bind AObj.cs = some [cv, I (L : Int)] := by rw [qa2.ext.get _ (by first | omega | (simp only [hNw, hPt]; omega))]; first | assumption | (rw [gn0]; rfl) | (rw [get_put_eq] <;> rfl) | (simp (disch := first | omega | (simp only [hNw, hPt]; omega)) only [gN] <;> first | rfl | assumption | (rw [get_put_eq] <;> rfl))
    have ma2 := fa2.now (Nat.le_refl _)
    refine oN ⟨(sco (qsg6 2 rfl rfl rfl) rfl), ?_⟩; refine pS ?_; refine oE rfl rfl rfl rfl rfl (c39 (m + 210) tv TT _ (hT.ext (hE _ (by (try dsimp only); repeat (first | exact gg4 | apply Grow.new | (refine Grow.put ?_ _ (by first | omega | (simp only [hNw, hPt]; omega))))))) (by omega) (fun R hR => by (have h9 := (hOK R hR).1); omega) (fun R hR l hl => by (have h9 := (hOK R hR).2 l hl); omega)) ?_
    rintro tc Hc ⟨qc, htc⟩
    have n5 := qc.ext.next
    try simp only [hNw, hPt] at n5
    have gg5 : Grow W Hc := Grow.ret (by (try dsimp only); repeat (first | exact gg4 | apply Grow.new | (refine Grow.put ?_ _ (by first | omega | (simp only [hNw, hPt]; omega))))) qc
    have a5 : (Hc.get (W.next)).bind AObj.cs = some [cv, I (L : Int)] := by rw [qc.ext.get _ (by first | omega | (simp only [hNw, hPt]; omega))]; first | assumption | (rw [gn0]; rfl) | (rw [get_put_eq] <;> rfl) | (simp (disch := first | omega | (simp only [hNw, hPt]; omega)) only [gN] <;> first | rfl | assumption | (rw [get_put_eq] <;> rfl))
    have exHa25 : Ext Ha2 Hc := Ext.trans (by (try dsimp only); repeat (first | exact Ext.refl _ | exact Ext.refl _ | apply Ext.new | (refine Ext.put ?_ _ (by first | omega | (simp only [hNw, hPt]; omega))))) qc.ext
    have lct := htc.len
    have pct : tc.plain = true := lpl lct
    refine oN ⟨(sco (qsg6 2 rfl rfl rfl) (sco (qsg6 2 rfl rfl rfl) rfl)), ?_⟩; refine pS ?_; refine oE rfl rfl rfl rfl rfl (c38X (m + 202) cv2 tc cols fa L TT _ (ma2.ext (by (try dsimp only); repeat (first | exact exHa25 | exact Ext.refl _ | apply Ext.new | (refine Ext.put ?_ _ (by first | omega | (simp only [hNw, hPt]; omega)))))) (htc.ext (by (try dsimp only); repeat (first | exact Ext.refl _ | exact Ext.refl _ | apply Ext.new | (refine Ext.put ?_ _ (by first | omega | (simp only [hNw, hPt]; omega)))))) (by omega) (fun R hR => by (have h9 := (hOK R hR).1); omega) (fun R hR l hl => by (have h9 := (hOK R hR).2 l hl); omega) hv hf) ?_
    rintro _ H38 ⟨bb, rfl, rfl, hbb⟩
    refine oN ⟨(sco (qsg6 2 rfl rfl rfl) (sco (qsg6 2 rfl rfl rfl) rfl)), ?_⟩; refine pS ?_; refine oE rfl rfl rfl rfl rfl (c41X (m + 209) cv tv cols fa L TT _ (hM.ext (hE _ (by (try dsimp only); repeat (first | exact gg5 | apply Grow.new | (refine Grow.put ?_ _ (by first | omega | (simp only [hNw, hPt]; omega))))))) (hT.ext (hE _ (by (try dsimp only); repeat (first | exact gg5 | apply Grow.new | (refine Grow.put ?_ _ (by first | omega | (simp only [hNw, hPt]; omega))))))) hv hf) ?_
    rintro _ H41 ⟨b2, rfl, rfl, hb2⟩
    have hbe : b2 = bb := by (rw [Bool.eq_iff_iff]; exact hb2.trans hbb.symm)
    subst hbe
    refine oN ⟨(sco (qsg6 2 rfl rfl rfl) rfl), ?_⟩; refine pS ?_; refine OkO.binT rfl rfl rfl ((bin4e _ _).trans (congrArg (fun b => some (AV.bool b)) (show _ = true from (by exact beq_self_eq_true _)))) ?_; refine oN ⟨rfl, ?_⟩; refine pS ?_; refine oM rfl rfl ?_; refine oN ⟨rfl, ?_⟩; refine pS ?_; refine oV rfl rfl rfl rfl rfl (rfl) ?_
    refine oN ⟨(sco (qsg6 2 rfl rfl rfl) (sco (qsg6 2 rfl rfl rfl) rfl)), ?_⟩; refine pS ?_; refine OkO.pick (b := true) rfl rfl (fun _ => rfl) nofun ?_; refine oN ⟨rfl, ?_⟩; refine pS ?_; refine oA rfl rfl ?_; refine oN ⟨rfl, ?_⟩; refine OkP.nil ?_
    refine Ok.ret ⟨.inr rfl, ?_⟩
    exact back_flat rfl rfl rfl (by rw [← hW]; exact (by (try dsimp only); repeat (first | exact gg5 | apply Grow.new | (refine Grow.put ?_ _ (by first | omega | (simp only [hNw, hPt]; omega))))))
set_option maxHeartbeats 2000000 in
theorem c6PF (m : Nat) (cv tv : AV) (cols : List (List Bed)) (L : Nat) (fa : Int) (TT : List (List (List Int))) (own : Bool) (rw9 cn9 bd9 by9 : Int) (H : Heap) (hM : Mat H cv cols) (hT : Tab H tv TT) (hth : thinB cols = true) (hT5 : TT.length ≤ 5) (hv : slOk cols (L : Int) = true) (hin : inB fa 0 10000 = true) (hf : 0 ≤ fa ∧ fa ≤ 10000) (hfew : fewB cols (L : Int) = true) (hq : ((cols.headD []).length + 1) ^ (cols.length + 1) ≤ 20000) (hre : reachE cols (L : Int) fa = 0) (hb9 : belowB cols.length (cols.headD []).length (L : Int) (prC cols fa) = false) (hown : own = false) : RR (m + 213) (.fn 6 [.agg [cv, I (L : Int)], I fa, tv, .bool own, U8 rw9, U8 cn9, U8 bd9, .int .i8 by9]) H = some (.bool true, H) := by
  refine (R_fn _ _ _ _ _).trans ?_; refine fn_ok Try.func6 rfl rfl (by kernel_rfl) (by kernel_rfl) ?_
  obtain ⟨W, hW, hg, hN, hE, hG⟩ := wOf H
  rw [← hW]
  have pc : cv.plain = true := by obtain ⟨vs, hR, _, _⟩ := hM; exact lpl hR.len
  have hlT := hT.len
  have ptv : tv.plain = true := lpl hlT
  have hsf := slOk_facts hv
  subst hown
  refine kS ?_; refine kR ?_; refine OkO.box rfl rfl ?_; refine oA rfl rfl ?_; refine oN ?_; refine kS ?_; refine kS ?_; refine kR ?_; refine oL rfl rfl (qlg7 2) ?_; refine oV rfl rfl rfl rfl rfl ((c16 (m + 211) cv cols (L : Int) _ (hM.ext (hE _ (by (try dsimp only); repeat (first | exact hG | apply Grow.new | (refine Grow.put ?_ _ (by first | omega | (simp only [hNw, hPt]; omega)))))))).trans (by rw [hth])) ?_; refine OkO.un rfl rfl rfl ?_; refine oM rfl rfl ?_; refine oM rfl rfl ?_; refine oB rfl rfl rfl qbl ?_; refine OkO.bin rfl rfl rfl ((bin_gtr _ _).trans (congrArg (fun b => some (AV.bool b)) (show _ = false from (by rw [decide_eq_false_iff_not]; omega)))) ?_; refine OkO.pick (b := false) rfl rfl nofun (fun _ => rfl) ?_; refine oN ?_; refine Ok.condF rfl ?_; refine Ok.skip ?_; refine kS ?_; refine kS ?_; refine kR ?_; refine oA rfl rfl ?_; refine oN ?_; refine Ok.block ?_
  obtain ⟨G6, hG6⟩ : ∃ G6, G6 = W.new (.cells [cv, I (L : Int)] 24) := ⟨_, rfl⟩
  have e6 : (G6.get W.next).bind AObj.cs = some [cv, I (L : Int)] := by rw [hG6, gn0]; rfl
  have g6 : Grow W G6 := by rw [hG6]; exact hG.new _
  have n6 : W.next + 1 ≤ G6.next := by rw [hG6]; simp
  refine Ok.loop (fun n9 s_ => ∃ i : Nat, n9 = TT.length - i ∧ i ≤ TT.length ∧ (∀ R ∈ TT.take i, (R.length ≤ 15 ∧ ∀ l ∈ R, l.length ≤ 8)) ∧ Has 8 [(1, I fa), (2, tv), (3, .bool false), (4, U8 rw9), (5, U8 cn9), (6, U8 bd9), (7, .int .i8 by9), (8, .ptr W.next 0), (17, I (i : Int))] s_.T ∧ s_.D = [] ∧ G6 = s_.H) (TT.length) (by unfold loopFuel; omega)
    ⟨0, rfl, Nat.zero_le _, (fun R h => absurd h (by simp)), Has.of (by kernel_rfl), rfl, hG6⟩ ?_
  rintro nn_ ⟨T, D, G⟩ ⟨i, hn9_, hi, hOK, ⟨f_, hTT⟩, hD, hgE⟩
  dsimp only at *
  subst hTT hD
  skip
  subst hgE
  refine kS ?_; refine kS ?_; refine kR ?_; refine oM rfl rfl ?_; refine oM rfl rfl ?_; refine oB rfl rfl rfl qbl ?_; refine OkO.bin rfl rfl rfl (bin_lss _ _) ?_; refine oN ?_
  refine Ok.cond rfl (fun h1 => ?_) (fun h1 => ?_)
  · have hlt : i < TT.length := by simpa using h1
    obtain ⟨xr, rb, ro, rcs, t1, t2, t3, t4, t5⟩ := (hT.ext (hE _ g6)).get i hlt
    have lq := t5.len
    have pxr : xr.plain = true := lpl lq
    refine Ok.skip ?_; refine kS ?_; refine Ok.block ?_; refine kS ?_; refine kS ?_; refine kR ?_; refine oM rfl rfl ?_; refine oM rfl rfl ?_; refine qX (sz := 1) (n := i) rfl rfl rfl ?_; refine oL rfl rfl (qla0 1) ?_; refine oB rfl rfl rfl qbl ?_; refine OkO.bin rfl rfl rfl (bin_gtr _ _) ?_; refine oN ?_
    refine Ok.cond rfl (fun h2 => ?_) (fun h2 => ?_)
    · refine kS ?_
      refine kR ?_; refine oV rfl rfl rfl rfl rfl (rfl) ?_; refine oA rfl rfl ?_; refine oN ?_
      refine Ok.ret ⟨.inr rfl, ?_⟩
      exact back_flat rfl rfl rfl (by rw [← hW]; exact g6)
    · have hl15 : TT[i].length ≤ 15 := by (have h9 : ¬ (15 : Int) < (TT[i].length : Int) := by simpa using h2); omega
      refine Ok.skip ?_; refine kS ?_; refine kR ?_; refine oA rfl rfl ?_; refine oN ?_; refine Ok.block ?_
      refine Ok.loop (fun n8 s_ => ∃ j : Nat, n8 = TT[i].length - j ∧ j ≤ TT[i].length ∧ (∀ l ∈ TT[i].take j, l.length ≤ 8) ∧ Has 8 [(1, I fa), (2, tv), (3, .bool false), (4, U8 rw9), (5, U8 cn9), (6, U8 bd9), (7, .int .i8 by9), (8, .ptr W.next 0), (17, I (i : Int)), (18, I (j : Int))] s_.T ∧ s_.D = [] ∧ G6 = s_.H) (TT[i].length) (by unfold loopFuel; omega)
        ⟨0, rfl, Nat.zero_le _, (fun l h => absurd h (by simp)), Has.of (by kernel_rfl), rfl, rfl⟩ ?_
      rintro nn_ ⟨T, D, G⟩ ⟨j, hn8_, hj, hOKj, ⟨f2_, hTT⟩, hD, hgE⟩
      dsimp only at *
      subst hTT hD
      skip
      subst hgE
      refine kS ?_; refine kS ?_; refine kR ?_; refine oM rfl rfl ?_; refine oM rfl rfl ?_; refine oM rfl rfl ?_; refine qX (sz := 1) (n := i) rfl rfl rfl ?_; refine oL rfl rfl (qla0 1) ?_; refine oB rfl rfl rfl qbl ?_; refine OkO.bin rfl rfl rfl (bin_lss _ _) ?_; refine oN ?_
      refine Ok.cond rfl (fun h3 => ?_) (fun h3 => ?_)
      · have hlt2 : j < TT[i].length := by simpa using h3
        obtain ⟨xl, cb, co, ccs, s1, s2, s3, s4, s5⟩ := t5.get j hlt2
        have lq2 := Row.len s5
        rw [List.length_map] at lq2
        have pxl : xl.plain = true := lpl lq2
        refine Ok.skip ?_; refine kS ?_; refine Ok.block ?_; refine kS ?_; refine kR ?_; refine oM rfl rfl ?_; refine oM rfl rfl ?_; refine qX (sz := 1) (n := i) rfl rfl rfl ?_; refine oL rfl rfl (qla0 1) ?_; refine oM rfl rfl ?_; refine qX (sz := 1) (n := j) rfl rfl rfl ?_; refine oL rfl rfl (qla0 1) ?_; refine oB rfl rfl rfl qbl ?_; refine OkO.bin rfl rfl rfl (bin_gtr _ _) ?_; refine oN ?_
        refine Ok.cond rfl (fun h4 => ?_) (fun h4 => ?_)
        · refine kS ?_
          refine kR ?_; refine oV rfl rfl rfl rfl rfl (rfl) ?_; refine oA rfl rfl ?_; refine oN ?_
          refine Ok.ret ⟨.inr rfl, ?_⟩
          exact back_flat rfl rfl rfl (by rw [← hW]; exact g6)
        · have hl8 : TT[i][j].length ≤ 8 := by (have h9 : ¬ (8 : Int) < (TT[i][j].length : Int) := by simpa using h4); omega
          refine Ok.skip ?_; refine kR ?_; refine oM rfl rfl ?_; refine OkO.bin rfl rfl rfl (bin_add (by omega) (by omega)) ?_; refine oA rfl rfl ?_; refine oN ?_
          refine ⟨TT[i].length - (j + 1), by omega, j + 1, rfl, by omega, fun l hl => ?_, Has.of (by kernel_rfl), rfl, rfl⟩
          rw [List.take_succ_eq_append_getElem hlt2, List.mem_append, List.mem_singleton] at hl
          rcases hl with hl | hl
          · exact hOKj l hl
          · rw [hl]; exact hl8
      · have hge2 : j = TT[i].length := by (have h9 : ¬ j < TT[i].length := by simpa using h3); omega
        rw [hge2, List.take_length] at hOKj
        have hOKl := hOKj
        refine Ok.exit ?_; refine kR ?_; refine oM rfl rfl ?_; refine OkO.bin rfl rfl rfl (bin_add (by omega) (by omega)) ?_; refine oA rfl rfl ?_; refine oN ?_
        refine ⟨TT.length - (i + 1), by omega, i + 1, rfl, by omega, fun R hR => ?_, Has.of (by kernel_rfl), rfl, rfl⟩
        rw [List.take_succ_eq_append_getElem hlt, List.mem_append, List.mem_singleton] at hR
        rcases hR with hR | hR
        · exact hOK R hR
        · rw [hR]; exact ⟨hl15, hOKl⟩
  · have hge : i = TT.length := by (have h9 : ¬ i < TT.length := by simpa using h1); omega
    rw [hge, List.take_length] at hOK
    refine Ok.exit ?_; refine kS ?_; refine kR ?_; refine oL rfl rfl (qlg7 2) ?_; refine oE rfl rfl rfl rfl rfl (c19 (m + 210) cv cols (L : Int) _ (hM.ext (hE _ (by (try dsimp only); repeat (first | exact g6 | apply Grow.new | (refine Grow.put ?_ _ (by first | omega | (simp only [hNw, hPt]; omega))))))) hth) ?_
    rintro _ Ha1 ⟨cv1, rfl, qa1, fa1⟩
    have n1 := qa1.ext.next
    try simp only [hNw, hPt] at n1
    have gg1 : Grow W Ha1 := Grow.ret (by (try dsimp only); repeat (first | exact g6 | apply Grow.new | (refine Grow.put ?_ _ (by first | omega | (simp only [hNw, hPt]; omega))))) qa1
    have a1 : (Ha1.get (W.next)).bind AObj.cs = some [cv, I (L : Int)] := by rw [qa1.ext.get _ (by first | omega | (simp only [hNw, hPt]; omega))]; first | assumption | (rw [gn0]; rfl) | (rw [get_put_eq] <;> rfl) | (simp (disch := first | omega | (simp only [hNw, hPt]; omega)) only [gN] <;> first | rfl | assumption | (rw [get_put_eq] <;> rfl))
    have ma1 := fa1.now (Nat.le_refl _)
    refine oM rfl rfl ?_; refine oE rfl rfl rfl rfl rfl (c36 (m + 1) cv1 cols fa L _ ma1 hv hf hre) ?_
    rintro _ Ht ⟨tv9, rfl, qt, ht9⟩
    have n2 := qt.ext.next
    try simp only [hNw, hPt] at n2
    have gg2 : Grow W Ht := Grow.ret (by (try dsimp only); repeat (first | exact gg1 | apply Grow.new | (refine Grow.put ?_ _ (by first | omega | (simp only [hNw, hPt]; omega))))) qt
    have a2 : (Ht.get (W.next)).bind AObj.cs = some [cv, I (L : Int)] := by rw [qt.ext.get _ (by first | omega | (simp only [hNw, hPt]; omega))]; first | assumption | (rw [gn0]; rfl) | (rw [get_put_eq] <;> rfl) | (simp (disch := first | omega | (simp only [hNw, hPt]; omega)) only [gN] <;> first | rfl | assumption | (rw [get_put_eq] <;> rfl))
    have lt9 := ht9.len
    have pt9 : tv9.plain = true := lpl lt9
    refine oM rfl rfl ?_; refine OkO.extract rfl rfl rfl ?_; refine OkO.extract rfl rfl rfl ?_; refine oA rfl rfl ?_; refine oA rfl rfl ?_; refine oN ?_; refine kS ?_; refine kR ?_; refine oL rfl rfl (qlg7 2) ?_; refine oV rfl rfl rfl rfl rfl ((c23 (m + 210) cv cols (L : Int) _ (hM.ext (hE _ (by (try dsimp only); repeat (first | exact gg2 | apply Grow.new | (refine Grow.put ?_ _ (by first | omega | (simp only [hNw, hPt]; omega)))))))).trans (by rw [hv])) ?_; refine oM rfl rfl ?_; refine oM rfl rfl ?_; refine oV rfl rfl rfl rfl rfl ((c37 (m + 211) fa 0 10000 _).trans (by rw [hin])) ?_; refine OkO.pick (b := true) rfl rfl (fun _ => rfl) nofun ?_; refine oA rfl rfl ?_; refine oN ?_; refine kS ?_; refine kS ?_; refine kR ?_; refine oM rfl rfl ?_; refine OkO.un rfl rfl rfl ?_; refine oN ?_; refine Ok.condF rfl ?_; refine Ok.skip ?_; refine kS ?_; refine kS ?_; refine Ok.drawn [(0, true, []), (1, true, []), (2, true, []), (3, true, []), (4, true, []), (5, true, []), (6, true, []), (7, true, []), (8, true, []), (9, true, []), (10, true, []), (11, true, []), (12, true, []), (13, false, [7]), (14, true, []), (15, true, []), (16, true, []), (17, true, []), (18, true, []), (20, true, []), (19, false, [17, 12, 7]), (21, false, [18, 12, 7]), (22, true, []), (23, true, []), (24, true, [])] (by kernel_rfl) ?_; refine pS ?_; refine oM rfl rfl ?_; refine oN ⟨rfl, ?_⟩; refine pS ?_; refine OkO.bin rfl rfl rfl ((bin_neq _ _).trans (congrArg (fun b => some (AV.bool b)) (show _ = false from (by rfl)))) ?_; refine oN ⟨rfl, ?_⟩; refine pS ?_; refine oM rfl rfl ?_; refine oN ⟨rfl, ?_⟩; refine pS ?_; refine oK rfl ?_; refine oN ⟨rfl, ?_⟩; refine pS ?_; refine oK rfl ?_; refine oN ⟨rfl, ?_⟩; refine pS ?_; refine oK rfl ?_; refine oN ⟨rfl, ?_⟩; refine pS ?_; refine oK rfl ?_; refine oN ⟨rfl, ?_⟩; refine pS ?_; refine oK rfl ?_; refine oN ⟨rfl, ?_⟩; refine pS ?_; refine oK rfl ?_; refine oN ⟨rfl, ?_⟩; refine pS ?_; refine oK rfl ?_; refine oN ⟨rfl, ?_⟩; refine pS ?_; refine OkO.pick (b := false) rfl rfl nofun (fun _ => rfl) ?_; refine oN ⟨rfl, ?_⟩; refine pS ?_; refine oM rfl rfl ?_; refine oN ⟨rfl, ?_⟩; refine pS ?_; refine oL rfl rfl (qlg7 2) ?_; refine oN ⟨rfl, ?_⟩; refine pS ?_; refine oV rfl rfl rfl rfl rfl ((c30 (m + 208) cv cols (L : Int) _ (hM.ext (hE _ (by (try dsimp only); repeat (first | exact gg2 | apply Grow.new | (refine Grow.put ?_ _ (by first | omega | (simp only [hNw, hPt]; omega)))))))).trans (by rw [hfew])) ?_
    refine oN ⟨(sco (ssk rfl) rfl), ?_⟩; refine pS ?_; refine oM rfl rfl ?_; refine oN ⟨rfl, ?_⟩; refine pS ?_; refine oM rfl rfl ?_; refine oN ⟨rfl, ?_⟩; refine pS ?_; refine OkO.bin rfl rfl rfl ((bin_eql _ _).trans (congrArg (fun b => some (AV.bool b)) (show _ = true from (by rfl)))) ?_; refine oN ⟨rfl, ?_⟩; refine pS ?_; refine oL rfl rfl (qlg7 2) ?_; refine oN ⟨rfl, ?_⟩; refine pS ?_; refine oL rfl rfl (qlg7 2) ?_; refine oN ⟨rfl, ?_⟩; refine pS ?_; refine oM rfl rfl ?_; refine oN ⟨rfl, ?_⟩; refine pS ?_; refine oE rfl rfl rfl rfl rfl (c33 (m + 196) cv cols (L : Int) _ (hM.ext (hE _ (by (try dsimp only); repeat (first | exact gg2 | apply Grow.new | (refine Grow.put ?_ _ (by first | omega | (simp only [hNw, hPt]; omega))))))) hv hq) ?_
    rintro v33 H33 ⟨Q, q33, hA33, hS33, hl33⟩
    have n3 := q33.ext.next
    try simp only [hNw, hPt] at n3
    have gg3 : Grow W H33 := Grow.ret (by (try dsimp only); repeat (first | exact gg2 | apply Grow.new | (refine Grow.put ?_ _ (by first | omega | (simp only [hNw, hPt]; omega))))) q33
    have a3 : (H33.get (W.next)).bind AObj.cs = some [cv, I (L : Int)] := by rw [q33.ext.get _ (by first | omega | (simp only [hNw, hPt]; omega))]; first | assumption | (rw [gn0]; rfl) | (rw [get_put_eq] <;> rfl) | (simp (disch := first | omega | (simp only [hNw, hPt]; omega)) only [gN] <;> first | rfl | assumption | (rw [get_put_eq] <;> rfl))
    have exHt3 : Ext Ht H33 := Ext.trans (by (try dsimp only); repeat (first | exact Ext.refl _ | exact Ext.refl _ | apply Ext.new | (refine Ext.put ?_ _ (by first | omega | (simp only [hNw, hPt]; omega))))) q33.ext
    have pv33 := lpl hA33.elems.2
    have v33o := hA33.1.one
    refine oN ⟨(sco (qsg6 2 rfl rfl rfl) (sco (qsg6 2 rfl rfl rfl) (sco (ssk rfl) rfl))), ?_⟩; refine pS ?_; refine oV rfl rfl rfl rfl rfl ((c40 (m + 207) cv v33 cols (L : Int) fa Q _ (hM.ext (hE _ (by (try dsimp only); repeat (first | exact gg3 | apply Grow.new | (refine Grow.put ?_ _ (by first | omega | (simp only [hNw, hPt]; omega))))))) hv (hA33.low (Nat.zero_le _)) hS33 hl33 hf).trans (by rw [hb9])) ?_
    refine oN ⟨(sco (qsg6 2 rfl rfl rfl) (sco (qsg6 2 rfl rfl rfl) (sco (ssk rfl) rfl))), ?_⟩; refine pS ?_; refine OkO.binT rfl rfl rfl ((bin4n' _ _).trans (congrArg (fun b => some (AV.bool b)) (show _ = false from (by rfl)))) ?_; refine oN ⟨rfl, ?_⟩; refine pS ?_; refine OkO.pick (b := true) rfl rfl (fun _ => rfl) nofun ?_; refine oN ⟨rfl, ?_⟩; refine pS ?_; refine OkO.pick (b := false) rfl rfl nofun (fun _ => rfl) ?_; refine oN ⟨rfl, ?_⟩; refine OkP.nil ?_; refine Ok.condF rfl ?_; refine Ok.skip ?_; refine kS ?_; refine kS ?_; refine kR ?_; refine oM rfl rfl ?_; refine OkO.bin rfl rfl rfl ((bin_eql _ _).trans (congrArg (fun b => some (AV.bool b)) (show _ = true from (by rfl)))) ?_; refine oN ?_; refine Ok.condT rfl ?_; refine kS ?_; refine kS ?_; refine Ok.drawn [(0, true, []), (1, true, []), (2, true, []), (3, false, [0]), (4, false, []), (5, true, [])] (by kernel_rfl) ?_; refine pS ?_; refine oL rfl rfl (qlg7 2) ?_; refine oN ⟨rfl, ?_⟩; refine pS ?_; refine oM rfl rfl ?_; refine oN ⟨rfl, ?_⟩; refine pS ?_; refine oM rfl rfl ?_; refine oN ⟨rfl, ?_⟩; refine pS ?_; refine oE rfl rfl rfl rfl rfl (c39 (m + 210) tv9 _ _ (ht9.ext (by (try dsimp only); repeat (first | exact exHt3 | exact Ext.refl _ | apply Ext.new | (refine Ext.put ?_ _ (by first | omega | (simp only [hNw, hPt]; omega)))))) (by simp [tabL]; omega) (fun R hR => by (have h9 := (tabL_len R hR).1); omega) (fun R hR l hl => by (have h9 := (tabL_len R hR).2 l hl); omega)) ?_
    rintro tx Hx ⟨qx, htx⟩
    have n4 := qx.ext.next
    try simp only [hNw, hPt] at n4
    have gg4 : Grow W Hx := Grow.ret (by (try dsimp only); repeat (first | exact gg3 | apply Grow.new | (refine Grow.put ?_ _ (by first | omega | (simp only [hNw, hPt]; omega))))) qx
    have a4 : (Hx.get (W.next)).bind AObj.cs = some [cv, I (L : Int)] := by rw [qx.ext.get _ (by first | omega | (simp only [hNw, hPt]; omega))]; first | assumption | (rw [gn0]; rfl) | (rw [get_put_eq] <;> rfl) | (simp (disch := first | omega | (simp only [hNw, hPt]; omega)) only [gN] <;> first | rfl | assumption | (rw [get_put_eq] <;> rfl))
    have ltx := htx.len
    have ptx : tx.plain = true := lpl ltx
    refine oN ⟨(sco (qsg6 2 rfl rfl rfl) rfl), ?_⟩; refine pS ?_; refine oV rfl rfl rfl rfl rfl (c41G (m + 209) cv tx cols fa L _ (hM.ext (hE _ (by (try dsimp only); repeat (first | exact gg4 | apply Grow.new | (refine Grow.put ?_ _ (by first | omega | (simp only [hNw, hPt]; omega))))))) hv hf hb9 (htx.ext (by (try dsimp only); repeat (first | exact Ext.refl _ | exact Ext.refl _ | apply Ext.new | (refine Ext.put ?_ _ (by first | omega | (simp only [hNw, hPt]; omega))))))) ?_; refine oN ⟨rfl, ?_⟩; refine pS ?_; refine OkO.un rfl rfl rfl ?_; refine oN ⟨rfl, ?_⟩; refine OkP.nil ?_; refine Ok.condF rfl ?_; refine Ok.skip ?_; refine kS ?_; refine kR ?_; refine oM rfl rfl ?_; refine oN ?_; refine Ok.condF rfl ?_; refine Ok.skip ?_; refine kS ?_; refine Ok.drawn [(0, true, []), (2, true, []), (3, true, []), (6, true, []), (7, true, []), (8, true, []), (1, false, [6]), (4, false, [6, 0]), (5, false, [6, 0]), (9, false, [0]), (10, true, []), (11, true, []), (12, false, [6, 0]), (13, true, []), (14, true, [])] (by kernel_rfl) ?_; refine pS ?_; refine oL rfl rfl (qlg7 2) ?_; refine oN ⟨rfl, ?_⟩; refine pS ?_; refine oM rfl rfl ?_; refine oN ⟨rfl, ?_⟩; refine pS ?_; refine oM rfl rfl ?_; refine oN ⟨rfl, ?_⟩; refine pS ?_; refine oL rfl rfl (qlg7 2) ?_; refine oN ⟨rfl, ?_⟩; refine pS ?_; refine oM rfl rfl ?_; refine oN ⟨rfl, ?_⟩; refine pS ?_; refine oM rfl rfl ?_; refine oN ⟨rfl, ?_⟩; refine pS ?_; refine oE rfl rfl rfl rfl rfl (c19 (m + 210) cv cols (L : Int) _ (hM.ext (hE _ (by (try dsimp only); repeat (first | exact gg4 | apply Grow.new | (refine Grow.put ?_ _ (by first | omega | (simp only [hNw, hPt]; omega))))))) hth) ?_
    rintro _ Ha2 ⟨cv2, rfl, qa2, fa2⟩
    have n5 := qa2.ext.next
    try simp only [hNw, hPt] at n5
    have gg5 : Grow W Ha2 := Grow.ret (by (try dsimp only); repeat (first | exact gg4 | apply Grow.new | (refine Grow.put ?_ _ (by first | omega | (simp only [hNw, hPt]; omega))))) qa2
    have a5 : (Ha2.get (W.next)).bind AObj.cs = some [cv, I (L : Int)] := by rw [qa2.ext.get _ (by first | omega | (simp only [hNw, hPt]; omega))]; first | assumption | (rw [gn0]; rfl) | (rw [get_put_eq] <;> rfl) | (simp (disch := first | omega | (simp only [hNw, hPt]; omega)) only [gN] <;> first | rfl | assumption | (rw [get_put_eq] <;> rfl))
    have ma2 := fa2.now (Nat.le_refl _)
    refine oN ⟨(sco (qsg6 2 rfl rfl rfl) rfl), ?_⟩; refine pS ?_; refine oE rfl rfl rfl rfl rfl (c39 (m + 210) tv TT _ (hT.ext (hE _ (by (try dsimp only); repeat (first | exact gg5 | apply Grow.new | (refine Grow.put ?_ _ (by first | omega | (simp only [hNw, hPt]; omega))))))) (by omega) (fun R hR => by (have h9 := (hOK R hR).1); omega) (fun R hR l hl => by (have h9 := (hOK R hR).2 l hl); omega)) ?_
    rintro tc Hc ⟨qc, htc⟩
    have n6 := qc.ext.next
    try simp only [hNw, hPt] at n6
    have gg6 : Grow W Hc := Grow.ret (by (try dsimp only); repeat (first | exact gg5 | apply Grow.new | (refine Grow.put ?_ _ (by first | omega | (simp only [hNw, hPt]; omega))))) qc
    have a6 : (Hc.get (W.next)).bind AObj.cs = some [cv, I (L : Int)] := by rw [qc.ext.get _ (by first | omega | (simp only [hNw, hPt]; omega))]; first | assumption | (rw [gn0]; rfl) | (rw [get_put_eq] <;> rfl) | (simp (disch := first | omega | (simp only [hNw, hPt]; omega)) only [gN] <;> first | rfl | assumption | (rw [get_put_eq] <;> rfl))
    have exHa26 : Ext Ha2 Hc := Ext.trans (by (try dsimp only); repeat (first | exact Ext.refl _ | exact Ext.refl _ | apply Ext.new | (refine Ext.put ?_ _ (by first | omega | (simp only [hNw, hPt]; omega))))) qc.ext
    have lct := htc.len
    have pct : tc.plain = true := lpl lct
    refine oN ⟨(sco (qsg6 2 rfl rfl rfl) (sco (qsg6 2 rfl rfl rfl) rfl)), ?_⟩; refine pS ?_; refine oE rfl rfl rfl rfl rfl (c38X (m + 202) cv2 tc cols fa L TT _ (ma2.ext (by (try dsimp only); repeat (first | exact exHa26 | exact Ext.refl _ | apply Ext.new | (refine Ext.put ?_ _ (by first | omega | (simp only [hNw, hPt]; omega)))))) (htc.ext (by (try dsimp only); repeat (first | exact Ext.refl _ | exact Ext.refl _ | apply Ext.new | (refine Ext.put ?_ _ (by first | omega | (simp only [hNw, hPt]; omega)))))) (by omega) (fun R hR => by (have h9 := (hOK R hR).1); omega) (fun R hR l hl => by (have h9 := (hOK R hR).2 l hl); omega) hv hf) ?_
    rintro _ H38 ⟨bb, rfl, rfl, hbb⟩
    refine oN ⟨(sco (qsg6 2 rfl rfl rfl) (sco (qsg6 2 rfl rfl rfl) rfl)), ?_⟩; refine pS ?_; refine oE rfl rfl rfl rfl rfl (c41X (m + 209) cv tv cols fa L TT _ (hM.ext (hE _ (by (try dsimp only); repeat (first | exact gg6 | apply Grow.new | (refine Grow.put ?_ _ (by first | omega | (simp only [hNw, hPt]; omega))))))) (hT.ext (hE _ (by (try dsimp only); repeat (first | exact gg6 | apply Grow.new | (refine Grow.put ?_ _ (by first | omega | (simp only [hNw, hPt]; omega))))))) hv hf) ?_
    rintro _ H41 ⟨b2, rfl, rfl, hb2⟩
    have hbe : b2 = bb := by (rw [Bool.eq_iff_iff]; exact hb2.trans hbb.symm)
    subst hbe
    refine oN ⟨(sco (qsg6 2 rfl rfl rfl) rfl), ?_⟩; refine pS ?_; refine OkO.binT rfl rfl rfl ((bin4e _ _).trans (congrArg (fun b => some (AV.bool b)) (show _ = true from (by exact beq_self_eq_true _)))) ?_; refine oN ⟨rfl, ?_⟩; refine pS ?_; refine oM rfl rfl ?_; refine oN ⟨rfl, ?_⟩; refine pS ?_; refine oV rfl rfl rfl rfl rfl (rfl) ?_
    refine oN ⟨(sco (qsg6 2 rfl rfl rfl) (sco (qsg6 2 rfl rfl rfl) rfl)), ?_⟩; refine pS ?_; refine OkO.pick (b := true) rfl rfl (fun _ => rfl) nofun ?_; refine oN ⟨rfl, ?_⟩; refine pS ?_; refine oA rfl rfl ?_; refine oN ⟨rfl, ?_⟩; refine OkP.nil ?_
    refine Ok.ret ⟨.inr rfl, ?_⟩
    exact back_flat rfl rfl rfl (by rw [← hW]; exact (by (try dsimp only); repeat (first | exact gg6 | apply Grow.new | (refine Grow.put ?_ _ (by first | omega | (simp only [hNw, hPt]; omega))))))
end
end Go.Ev

set_option maxRecDepth 100000
set_option linter.unusedSimpArgs false
set_option linter.unusedVariables false
namespace Go.Ev
open Go Go.Proofs
noncomputable section
/-- A list that was made, of things that lie in blocks of their own, one behind the other. -/
def FrM {β : Type} (S : β → AV → Heap → Prop) (k0 : Nat) (G : Heap) (lv : AV) (e : TypeId) (L : List β) : Prop :=
  ∃ (xs : List AV) (ks es : Nat → Nat), xs.length = L.length ∧ Mine k0 G lv e 1 xs ∧ (∀ i j, i < j → j < xs.length → es i ≤ ks j) ∧ ∀ (j : Nat) (x : AV) (r : β), xs[j]? = some x → L[j]? = some r → k0 ≤ ks j ∧ es j ≤ G.next ∧ Fr (ks j) (es j) G (S r x) ∧ ∀ b m, lv = .opn b m → es j ≤ b
theorem FrM.nil {β : Type} (S : β → AV → Heap → Prop) (k0 : Nat) (G : Heap) (e : TypeId) : FrM S k0 G .nils e [] := ⟨[], fun _ => 0, fun _ => 0, rfl, Mine.nil _ _ _ _, fun i j _ h => by simp at h, fun j x r h _ => by simp at h⟩
theorem FrM.snoc {β : Type} {S : β → AV → Heap → Prop} {k0 : Nat} {G0 G : Heap} {lv x : AV} {e : TypeId} {L : List β} {r : β} (h : FrM S k0 G0 lv e L) (g : Ext G0 G) (hk : k0 ≤ G0.next) (hx : Fr G0.next G.next G (S r x)) : ∃ xs, Mine k0 G lv e 1 xs ∧ xs.length = L.length ∧ ∀ v2 G2 m, Mine k0 G2 v2 e 1 (xs ++ [x]) → v2 = .opn (G.next + 1) m → G2.next = G.next + 2 → (∀ j, j < G.next → (∀ m, lv ≠ .opn j m) → G2.get j = G.get j) → FrM S k0 G2 v2 e (L ++ [r]) := by
  obtain ⟨xs, ks, es, h1, h2, h0, h3⟩ := h
  have hgn := g.next
  refine ⟨xs, h2.to g, h1, fun v2 G2 m k1 k2 k3 k4 => ⟨xs ++ [x], (fun j => if j < xs.length then ks j else G0.next), (fun j => if j < xs.length then es j else G.next), by simp [h1], k1, fun i j hij hj => ?_, fun j y s a c => ?_⟩⟩
  · have hj9 : j < xs.length + 1 := by simpa using hj
    have hi : i < xs.length := by omega
    simp only [hi, if_true]
    by_cases hj2 : j < xs.length
    · simp only [hj2, if_true]; exact h0 i j hij hj2
    · simp only [hj2, if_false]
      exact (h3 i xs[i] (L[i]'(by omega)) (List.getElem?_eq_getElem hi) (List.getElem?_eq_getElem (by omega))).2.1
  have hlv : ∀ b m, lv = .opn b m → b < G0.next := fun b m e => by
    rcases h2 with ⟨h, _⟩ | ⟨b', n, a1, _, _, _, a5⟩
    · rw [h] at e; cases e
    · rw [a1] at e; cases e; exact a5
  by_cases hj : j < xs.length
  · rw [List.getElem?_append_left hj] at a
    rw [List.getElem?_append_left (by omega)] at c
    obtain ⟨a1, a2, a3, a4⟩ := h3 j y s a c
    simp only [hj, if_true]
    refine ⟨a1, by omega, a3.to fun q q1 q2 => ?_, fun b m e => by rw [k2] at e; cases e; omega⟩
    rw [k4 q (by omega) (fun m e => by have := a4 _ _ e; omega)]
    exact g.get q (by omega)
  · simp only [hj, if_false]
    by_cases hj2 : j = xs.length
    · subst hj2
      rw [List.getElem?_append_right (Nat.le_refl _)] at a
      rw [List.getElem?_append_right (by omega), h1] at c
      simp at a c
      subst a c
      exact ⟨hk, by omega, hx.to fun q q1 q2 => k4 q q2 (fun m e => by have := hlv _ _ e; omega), fun b m e => by rw [k2] at e; cases e; omega⟩
    · rw [List.getElem?_eq_none (by simp; omega)] at a; cases a
theorem FrM.one {β : Type} {S : β → AV → Heap → Prop} {k0 : Nat} {G : Heap} {lv : AV} {e : TypeId} {L : List β} (h : FrM S k0 G lv e L) : lv.cells = [lv] ∧ lv.atom = true := by
  obtain ⟨xs, _, _, _, h2, _⟩ := h
  exact h2.one
/-- A list of things, each of which can be changed without the others. -/
def DN {β : Type} (S : β → AV → Heap → Prop) (L : List β) (lv : AV) (X : Heap) : Prop :=
  ∃ xs : List AV, Row X lv 1 (xs.map fun x => [x]) ∧ xs.length = L.length ∧ (∀ (j : Nat) x r, xs[j]? = some x → L[j]? = some r → S r x X) ∧ ∀ (j : Nat) x r, xs[j]? = some x → L[j]? = some r → ∀ b, (∃ bad, ¬ S r x (X.put b bad)) → ∀ o', Row (X.put b o') lv 1 (xs.map fun x => [x]) ∧ ∀ (i : Nat) y s, i ≠ j → xs[i]? = some y → L[i]? = some s → S s y (X.put b o')
theorem FrM.done {β : Type} {S : β → AV → Heap → Prop} {k0 : Nat} {G : Heap} {lv : AV} {e : TypeId} {L : List β} (h : FrM S k0 G lv e L) : Fr k0 G.next G (DN S L lv) := by
  obtain ⟨xs, ks, es, h1, h2, h0, h3⟩ := h
  intro X x1 x2
  have hrow : Row X lv 1 (xs.map fun x => [x]) := Mine.row (e := e) (by rw [flat_sing]; exact h2.fr X x1 x2) (fun x hx => by obtain ⟨y, _, rfl⟩ := List.mem_map.1 hx; rfl) (by omega)
  refine ⟨xs, hrow, h1, fun j x r a c => ?_, fun j x r a c b hbad o' => ?_⟩
  · obtain ⟨a1, a2, a3, _⟩ := h3 j x r a c
    exact a3 X (by omega) fun n n1 n2 => x2 n (by omega) (by omega)
  obtain ⟨bad, hbad⟩ := hbad
  obtain ⟨a1, a2, a3, a4⟩ := h3 j x r a c
  have hjl := (List.getElem?_eq_some_iff.1 a).1
  have hb : ks j ≤ b ∧ b < es j := by
    by_cases q : ks j ≤ b ∧ b < es j
    · exact q
    · exact absurd (a3 (X.put b bad) (by rw [hPt]; omega) (fun n n1 n2 => by rw [gpo _ _ _ _ (by omega)]; exact x2 n (by omega) (by omega))) hbad
  refine ⟨⟨hrow.len, fun i x k => ?_⟩, fun i y s hij u v => ?_⟩
  · obtain ⟨b', off, cs, i1, i2, i3, i4⟩ := hrow.at_ i x k
    have hne : b' ≠ b := by
      rcases h2 with ⟨e1, e2⟩ | ⟨b9, n9, e1, _⟩
      · rw [e1] at i1; cases i1
      · have h9 := a4 _ _ e1
        rw [e1] at i1
        unfold slAt at i1
        dsimp only at i1
        split at i1
        · cases i1; omega
        · cases i1
    exact ⟨b', off, cs, i1, by rw [gpo _ _ _ _ hne]; exact i2, i3, by rw [hPt]; exact i4⟩
  · obtain ⟨d1, d2, d3, d4⟩ := h3 i y s u v
    have hil := (List.getElem?_eq_some_iff.1 u).1
    refine d3 (X.put b o') (by rw [hPt]; omega) (fun n n1 n2 => ?_)
    have hne : n ≠ b := by
      rcases Nat.lt_or_gt_of_ne hij with h | h
      · have := h0 i j h hjl; omega
      · have := h0 j i h hil; omega
    rw [gpo _ _ _ _ hne]
    exact x2 n (by omega) (by omega)
def LI (l : List Int) (x : AV) (X : Heap) : Prop := ∃ b, x = .opn b l.length ∧ X.get b = some (.opn (l.map fun y => I y) 3 1) ∧ b < X.next ∧ 0 < l.length
theorem LI.row {l : List Int} {x : AV} {X : Heap} (h : LI l x X) : Row X x 1 (l.map fun y => [I y]) := by
  obtain ⟨b, rfl, h1, h2, _⟩ := h
  refine ⟨by simp [lenOf], fun i y k => ?_⟩
  rw [List.getElem?_map, Option.map_eq_some_iff] at k
  obtain ⟨z, k1, rfl⟩ := k
  have hi := (List.getElem?_eq_some_iff.1 k1).1
  exact ⟨b, i * 1, _, slAt_opn hi, by rw [h1]; rfl, seg_cell (by rw [Nat.mul_one, List.getElem?_map, k1]; rfl), h2⟩
theorem DN.cols {R : List (List Int)} {x : AV} {X : Heap} (h : DN LI R x X) : Cols X x R := by
  obtain ⟨xs, h1, h2, h3, _⟩ := h
  exact ⟨xs, h1, h2, fun i y l a c => (h3 i y l a c).row⟩
def RI (R : List (List Int)) (x : AV) (X : Heap) : Prop := DN LI R x X
theorem DN.tab {T : List (List (List Int))} {x : AV} {X : Heap} (h : DN RI T x X) : Tab X x T := by
  obtain ⟨xs, h1, h2, h3, _⟩ := h
  exact ⟨xs, h1, h2, fun i y R a c => (h3 i y R a c).cols⟩
theorem DN.write {T : List (List (List Int))} {tv : AV} {X : Heap} (h : DN RI T tv X) {r c k : Nat} (hr : r < T.length) (hc : c < T[r].length) (hk : k < T[r][c].length) : ∃ rv lv b1 o1 c1 b2 o2 c2 b, slAt tv 1 r = some (b1, o1) ∧ (X.get b1).bind AObj.cs = some c1 ∧ c1[o1]? = some rv ∧ b1 < X.next ∧ lenOf rv = some T[r].length ∧ slAt rv 1 c = some (b2, o2) ∧ (X.get b2).bind AObj.cs = some c2 ∧ c2[o2]? = some lv ∧ b2 < X.next ∧ lv = .opn b T[r][c].length ∧ X.get b = some (.opn (T[r][c].map fun y => I y) 3 1) ∧ b < X.next ∧ ∀ z, Tab (X.put b (.opn ((T[r][c].set k z).map fun y => I y) 3 1)) tv (T.set r (T[r].set c (T[r][c].set k z))) := by
  obtain ⟨xs, h1, h2, h3, h4⟩ := h
  have hx : r < xs.length := by omega
  obtain ⟨b1, o1, c1, i1, i2, i3, i4⟩ := h1.at_ r [xs[r]] (by simp [hx])
  have hR := h3 r xs[r] T[r] (List.getElem?_eq_getElem hx) (List.getElem?_eq_getElem hr)
  obtain ⟨ys, g1, g2, g3, g4⟩ := id hR
  have hy : c < ys.length := by omega
  obtain ⟨b2, o2, c2, j1, j2, j3, j4⟩ := g1.at_ c [ys[c]] (by simp [hy])
  have hL := g3 c ys[c] T[r][c] (List.getElem?_eq_getElem hy) (List.getElem?_eq_getElem hc)
  obtain ⟨b, l1, l2, l3, l4⟩ := id hL
  have badL : ¬ LI T[r][c] ys[c] (X.put b (.cells [] 0)) := fun h9 => by
    obtain ⟨b9, e1, e2, _, _⟩ := h9
    rw [l1] at e1; cases e1
    rw [gp0] at e2; cases e2
  have badR : ¬ RI T[r] xs[r] (X.put b (.cells [] 0)) := fun h9 => by
    obtain ⟨zs, e1, e2, e3, _⟩ := h9
    have hz : c < zs.length := by omega
    obtain ⟨b3, o3, c3, f1, f2, f3, f4⟩ := e1.at_ c [zs[c]] (by simp [hz])
    rw [j1] at f1; cases f1
    by_cases hbb : b2 = b
    · subst hbb
      rw [gp0] at f2
      cases f2
      have := seg_one f3
      simp at this
    · rw [gpo _ _ _ _ hbb, j2] at f2
      cases f2
      have f5 := seg_one f3
      rw [seg_one j3] at f5
      have f6 := Option.some.inj f5
      exact badL (by
        have h8 := e3 c zs[c] T[r][c] (List.getElem?_eq_getElem hz) (List.getElem?_eq_getElem hc)
        rwa [← f6] at h8)
  refine ⟨xs[r], ys[c], b1, o1, c1, b2, o2, c2, b, i1, i2, seg_one i3, i4, by have := g1.len; simp only [List.length_map] at this; rw [this, g2], j1, j2, seg_one j3, j4, l1, l2, l3, fun z => ?_⟩
  obtain ⟨p1, p2⟩ := h4 r xs[r] T[r] (List.getElem?_eq_getElem hx) (List.getElem?_eq_getElem hr) b ⟨_, badR⟩ (.opn ((T[r][c].set k z).map fun y => I y) 3 1)
  obtain ⟨q1, q2⟩ := g4 c ys[c] T[r][c] (List.getElem?_eq_getElem hy) (List.getElem?_eq_getElem hc) b ⟨_, badL⟩ (.opn ((T[r][c].set k z).map fun y => I y) 3 1)
  refine ⟨xs, p1, by simpa using h2, fun i y R a d => ?_⟩
  by_cases e : i = r
  · subst e
    rw [List.getElem?_eq_getElem hx] at a; cases a
    rw [List.getElem?_set_self hr] at d; cases d
    refine ⟨ys, q1, by simpa using g2, fun i2 y2 l a2 d2 => ?_⟩
    by_cases e2 : i2 = c
    · subst e2
      rw [List.getElem?_eq_getElem hy] at a2; cases a2
      rw [List.getElem?_set_self hc] at d2; cases d2
      exact LI.row ⟨b, by simpa using l1, gp0 _ _ _, by rw [hPt]; exact l3, by simpa using l4⟩
    · rw [List.getElem?_set_ne (by omega)] at d2
      exact (q2 i2 y2 l e2 a2 d2).row
  · rw [List.getElem?_set_ne (by omega)] at d
    exact (p2 i y R e a d).cols
theorem c34L (m : Nat) (bv : AV) (us : List Int) (H : Heap) (hU : Ints H bv us) (hl : us.length ≤ 1000) (hl0 : 0 < us.length) : ∃ v H', RR (m + 1) (.fn 34 [bv]) H = some (v, H') ∧ Ret H H' ∧ Fr H.next H'.next H' (LI us v) := by
  show ∃ v H', evFn Try.prog (RR (m + 0)) 34 [bv] H = some (v, H') ∧ Ret H H' ∧ Fr H.next H'.next H' (LI us v)
  refine fn_okE Try.func34 rfl rfl (by kernel_rfl) (by kernel_rfl) ?_
  obtain ⟨W, hW, hg, hN, hE, hG⟩ := wOf H
  rw [← hW]
  refine kS ?_; refine kR ?_; refine oA rfl rfl ?_; refine oN ?_; refine kS ?_; refine kR ?_; refine OkO.buildSlice (el := 3) (sz := 1) (z := [.int .i64 0]) rfl (by kernel_rfl) (by decide) rfl rfl ?_; refine oM rfl rfl ?_
  have hap := app_lit2 (P := Try.prog) (G := W) (t := 25) (u := 25) (e := 3) (el := 3) (sz := 1) (by_ := 8) (x := bv) (rows := us.map fun n => [I n]) (by kernel_rfl) (by kernel_rfl) ((hU.ext (hE _ hG)).ext (Grow.toNew _ _)) (fun y hy => by simp only [List.mem_map] at hy; obtain ⟨q, _, rfl⟩ := hy; rfl) (by simp; omega) (by omega) (by rw [ints_flat]; exact atoms_ints us) (by simpa using hl0)
  rw [List.length_map, ints_flat] at hap
  have hap2 : ∃ (v9 : AV) (G9 : Heap), builtinF Try.prog (W.new (.cells [] 3)) .append [25, 25] [.slice W.next 0 0 0, bv] = some (.val v9 G9) ∧ (v9 = .opn (W.next + 1) us.length ∧ G9 = (W.new (.cells [] 3)).new (.opn (us.map I) 3 1)) := ⟨_, _, hap, rfl, rfl⟩
  refine OkO.builtinE rfl rfl rfl (hap2) ?_
  rintro _ _ ⟨rfl, rfl⟩
  refine oA rfl rfl ?_; refine oN ?_
  refine Ok.ret ⟨.inr rfl, ?_⟩
  refine back_newQ (resV_tmp rfl resV_nil) rfl (by rw [← hW]; exact (hG.new _).new _) rfl (fun H9 q1 q2 q3 => ⟨q1, fun X x1 x2 => ⟨W.next + 1, rfl, ?_, ?_, hl0⟩⟩)
  · rw [x2 (W.next + 1) (by omega) (by rw [q3]; simp only [hNw]; omega), q2]
    exact gn0 (W.new (.cells [] 3)) _
  · (have h9 := q3); simp only [hNw] at h9; omega
theorem c39L (m : Nat) (tv : AV) (TT : List (List (List Int))) (H : Heap) (hT : Tab H tv TT) (hTl : TT.length ≤ 100) (hT15 : ∀ R ∈ TT, R.length ≤ 100) (hT8 : ∀ R ∈ TT, ∀ l ∈ R, 0 < l.length ∧ l.length ≤ 100) (hT0 : 0 < TT.length) : ∃ v H', RR (m + 2) (.fn 39 [tv]) H = some (v, H') ∧ Ret H H' ∧ Fr H.next H'.next H' (DN RI TT v) := by
  show ∃ v H', evFn Try.prog (RR (m + 1)) 39 [tv] H = some (v, H') ∧ Ret H H' ∧ Fr H.next H'.next H' (DN RI TT v)
  refine fn_okE Try.func39 rfl rfl (by kernel_rfl) (by kernel_rfl) ?_
  obtain ⟨W, hW, hg, hN, hE, hG⟩ := wOf H
  rw [← hW]
  have hlen := hT.len
  refine kS ?_; refine kR ?_; refine oA rfl rfl ?_; refine oN ?_; refine kS ?_; refine kR ?_; refine oA rfl rfl ?_; refine oN ?_; refine kS ?_; refine kS ?_; refine kR ?_; refine oA rfl rfl ?_; refine oN ?_; refine Ok.block ?_
  refine Ok.loop (fun n9 s_ => ∃ (i : Nat) (ov : AV), n9 = TT.length - i ∧ i ≤ TT.length ∧ FrM RI W.next s_.H ov 62 (TT.take i) ∧ Has 6 [(0, tv), (3, ov), (4, I (i : Int))] s_.T ∧ s_.D = [] ∧ Grow W s_.H) (TT.length) (by unfold loopFuel; omega)
    ⟨0, .nils, rfl, Nat.zero_le _, FrM.nil _ _ _ _, Has.of (by kernel_rfl), rfl, hG⟩ ?_
  rintro nn_ ⟨T, D, G⟩ ⟨i, ov, hn9_, hi, hFO, ⟨f_, hTT⟩, hD, hg⟩
  dsimp only at *
  subst hTT hD
  skip
  obtain ⟨GA, hGA⟩ : ∃ GA : Heap, GA = G := ⟨_, rfl⟩
  subst hGA
  have hgan := hg.next
  refine kS ?_; refine kS ?_; refine kR ?_; refine oM rfl rfl ?_; refine oM rfl rfl ?_; refine oB rfl rfl rfl qbl ?_; refine OkO.bin rfl rfl rfl (bin_lss _ _) ?_; refine oN ?_
  refine Ok.cond rfl (fun h1 => ?_) (fun h1 => ?_)
  · have hlt : i < TT.length := by simpa using h1
    obtain ⟨xr, rb, ro, rcs, t1, t2, t3, t4, t5⟩ := hT.get i hlt
    have lq := t5.len
    have pxr : xr.plain = true := lpl lq
    have hRl := hT15 TT[i] (List.getElem_mem hlt)
    refine Ok.skip ?_; refine kS ?_; refine Ok.block ?_; refine kS ?_; refine kR ?_; refine oA rfl rfl ?_; refine oN ?_; refine kS ?_; refine kS ?_; refine kR ?_; refine oA rfl rfl ?_; refine oN ?_; refine Ok.block ?_
    refine Ok.loop (fun n8 s_ => ∃ (i2 : Nat) (lv : AV), n8 = TT[i].length - i2 ∧ i2 ≤ TT[i].length ∧ FrM LI GA.next s_.H lv 25 (TT[i].take i2) ∧ Ext GA s_.H ∧ Has 6 [(0, tv), (3, ov), (4, I (i : Int)), (5, lv), (6, I (i2 : Int))] s_.T ∧ s_.D = [] ∧ Grow W s_.H) (TT[i].length) (by unfold loopFuel; omega)
      ⟨0, .nils, rfl, Nat.zero_le _, FrM.nil _ _ _ _, Ext.refl _, Has.of (by kernel_rfl), rfl, hg⟩ ?_
    rintro nn_ ⟨T, D, G⟩ ⟨i2, lv, hn8_, hi2, hFL, hx6, ⟨f6_, hTT⟩, hD, hgi⟩
    dsimp only at *
    subst hTT hD
    skip
    have hx6n := hx6.next
    have hgin := hgi.next
    have t2G : (G.get rb).bind AObj.cs = some rcs := by rw [(hE _ hgi).get _ t4]; exact t2
    have t4G : rb < G.next := by omega
    refine kS ?_; refine kS ?_; refine kR ?_; refine oM rfl rfl ?_; refine oM rfl rfl ?_; refine oM rfl rfl ?_; refine qX (sz := 1) (n := i) rfl rfl rfl ?_; refine oL rfl rfl (qla0 1) ?_; refine oB rfl rfl rfl qbl ?_; refine OkO.bin rfl rfl rfl (bin_lss _ _) ?_; refine oN ?_
    refine Ok.cond rfl (fun h2 => ?_) (fun h2 => ?_)
    · have hlt2 : i2 < TT[i].length := by simpa using h2
      obtain ⟨xl, cb, co, ccs, s1, s2, s3, s4, s5⟩ := t5.get i2 hlt2
      have s2G : (G.get cb).bind AObj.cs = some ccs := by rw [(hE _ hgi).get _ s4]; exact s2
      have hll8 := hT8 TT[i] (List.getElem_mem hlt) TT[i][i2] (List.getElem_mem hlt2)
      refine Ok.skip ?_; refine kS ?_; refine Ok.block ?_; refine kR ?_; refine oM rfl rfl ?_; refine oM rfl rfl ?_; refine oM rfl rfl ?_; refine qX (sz := 1) (n := i) rfl rfl rfl ?_; refine oL rfl rfl (qla0 1) ?_; refine oM rfl rfl ?_; refine qX (sz := 1) (n := i2) rfl rfl rfl ?_; refine oL rfl rfl (qla0 1) ?_; refine oE rfl rfl rfl rfl rfl (c34L (m + 0) xl TT[i][i2] _ (s5.ext (hE _ hgi)) (by omega) (by omega)) ?_
      rintro x' H34 ⟨q34, f34⟩
      have o34 : x'.cells = [x'] ∧ x'.atom = true := by (obtain ⟨b9, e9, _⟩ := f34.now (Nat.le_refl _); rw [e9]; exact ⟨rfl, rfl⟩)
      have g34 : Grow W H34 := Grow.ret hgi q34
      have n34 := q34.ext.next
      obtain ⟨xs8, hm8, hcl8, hsn8⟩ := FrM.snoc (r := TT[i][i2]) hFL q34.ext (by omega) f34
      refine OkO.buildSlice (el := 25) (sz := 1) (z := [.nils]) (cs := [x']) rfl (by kernel_rfl) (by decide) rfl (by show fillS (fun i => some (i * 1, 1)) [AV.nils] [(0, x')] = some [x']; simp [fillS, spl, o34.1]) ?_; refine OkO.builtinE rfl rfl rfl (Mine.app2 (W := W) (k0 := GA.next) (t := 62) (u := 62) (sz := 1) (by_ := 24) (e := 25) (n := 1) (new := [x']) (hm8.to (Grow.toNew _ _)) (g34.new _) (by omega) (by simp; omega) (by kernel_rfl) (by kernel_rfl) (elems_new (n := 1) (sz := 1) rfl) rfl rfl (by rw [hcl8, List.length_take]; omega) (by omega) (by omega) (by simp [atoms, o34.2])) ?_
      rintro l2 G2 ⟨r1, r2, r3, r4, r5, r6⟩
      obtain ⟨mm, r6⟩ := r6
      simp only [hNw] at r5 r6
      have keep : ∀ j, j < H34.next → (∀ m, lv ≠ .opn j m) → G2.get j = H34.get j := fun j hj hne => by rw [r4 j (by simp; omega) hne]; exact gno _ _ _ (by omega)
      have hnew := hsn8 l2 G2 mm r1 r6 (by omega) keep
      have hx2 : Ext GA G2 := ⟨by omega, fun j hj => by rw [r3.get j hj (by simp; omega), gno _ _ _ (by omega), q34.ext.get j (by omega)]; exact hx6.get j hj⟩
      refine oA rfl rfl ?_; refine oN ?_; refine kR ?_; refine oM rfl rfl ?_; refine OkO.bin rfl rfl rfl (bin_add (by omega) (by omega)) ?_; refine oA rfl rfl ?_; refine oN ?_
      refine ⟨TT[i].length - (i2 + 1), by omega, i2 + 1, l2, rfl, by omega, ?_, hx2, Has.of (by kernel_rfl), rfl, r2⟩
      rw [List.take_succ_eq_append_getElem hlt2]
      exact hnew
    · have hge2 : i2 = TT[i].length := by (have h9 : ¬ i2 < TT[i].length := by simpa using h2); omega
      subst hge2
      rw [List.take_length] at hFL
      obtain ⟨xs9, hm9, hcl9, hsn⟩ := FrM.snoc (r := TT[i]) hFO hx6 hgan (Fr.mono hFL.done (fun X h => h))
      have hone := hFL.one
      refine Ok.exit ?_; refine kR ?_; refine oM rfl rfl ?_; refine oM rfl rfl ?_; refine OkO.buildSlice (el := 62) (sz := 1) (z := [.nils]) (cs := [lv]) rfl (by kernel_rfl) (by decide) rfl (by show fillS (fun i => some (i * 1, 1)) [AV.nils] [(0, lv)] = some [lv]; simp [fillS, spl, hone.1]) ?_; refine OkO.builtinE rfl rfl rfl (Mine.app2 (W := W) (k0 := W.next) (t := 60) (u := 60) (sz := 1) (by_ := 24) (e := 62) (n := 1) (new := [lv]) (hm9.to (Grow.toNew _ _)) (hgi.new _) (Nat.le_refl _) (by simp; omega) (by kernel_rfl) (by kernel_rfl) (elems_new (n := 1) (sz := 1) rfl) rfl rfl (by rw [hcl9, List.length_take]; omega) (by omega) (by omega) (by simp [atoms, hone.2])) ?_
      rintro o2 G2 ⟨r1, r2, r3, r4, r5, r6⟩
      obtain ⟨mm, r6⟩ := r6
      simp only [hNw] at r5 r6
      have keep : ∀ j, j < G.next → (∀ m, ov ≠ .opn j m) → G2.get j = G.get j := fun j hj hne => by rw [r4 j (by simp; omega) hne]; exact gno _ _ _ (by omega)
      have hnew := hsn o2 G2 mm r1 r6 (by omega) keep
      refine oA rfl rfl ?_; refine oN ?_; refine kR ?_; refine oM rfl rfl ?_; refine OkO.bin rfl rfl rfl (bin_add (by omega) (by omega)) ?_; refine oA rfl rfl ?_; refine oN ?_
      refine ⟨TT.length - (i + 1), by omega, i + 1, o2, rfl, by omega, ?_, Has.of (by kernel_rfl), rfl, r2⟩
      rw [List.take_succ_eq_append_getElem hlt]
      exact hnew
  · have hge : i = TT.length := by (have h9 : ¬ i < TT.length := by simpa using h1); omega
    subst hge
    rw [List.take_length] at hFO
    refine Ok.exit ?_; refine kS ?_; refine kR ?_; refine oM rfl rfl ?_; refine oA rfl rfl ?_; refine oN ?_
    refine Ok.ret ⟨.inr rfl, ?_⟩
    refine back_newA (resV_tmp rfl resV_nil) rfl (by rw [← hW]; exact hg) (fun H9 p1 p2 => ⟨p1, ?_⟩)
    rcases p2 with ⟨hh, hf⟩ | ⟨p2, p3⟩
    · obtain ⟨xs, ks, es, a1, a2, a3⟩ := hFO
      rcases a2 with ⟨e1, e2⟩ | ⟨b9, n9, e1, _⟩
      · subst e2; simp at a1; omega
      · rw [e1] at hf; cases hf
    · (have h9 := hFO.done); rw [p3, ← hN]; exact Fr.to h9 (fun n _ _ => p2 n)
end
end Go.Ev

set_option maxRecDepth 100000
set_option linter.unusedSimpArgs false
set_option linter.unusedVariables false
namespace Go.Ev
open Go Go.Proofs
noncomputable section
theorem DN.write2 {T : List (List (List Int))} {tv : AV} {k0 : Nat} {X : Heap} (h0 : Fr k0 X.next X (DN RI T tv)) {r c k : Nat} (hr : r < T.length) (hc : c < T[r].length) (hk : k < T[r][c].length) : ∃ rv b1 o1 c1 b2 o2 c2 b, slAt tv 1 r = some (b1, o1) ∧ (X.get b1).bind AObj.cs = some c1 ∧ c1[o1]? = some rv ∧ b1 < X.next ∧ lenOf rv = some T[r].length ∧ slAt rv 1 c = some (b2, o2) ∧ (X.get b2).bind AObj.cs = some c2 ∧ c2[o2]? = some (.opn b T[r][c].length) ∧ b2 < X.next ∧ X.get b = some (.opn (T[r][c].map fun y => I y) 3 1) ∧ k0 ≤ b ∧ b < X.next ∧ ∀ z, Tab (X.put b (.opn ((T[r][c].map fun y => I y).set (k * 1) (I z)) 3 1)) tv (T.set r (T[r].set c (T[r][c].set k z))) := by
  obtain ⟨rv, lv, b1, o1, c1, b2, o2, c2, b, i1, i2, i3, i4, i5, i6, i7, i8, i9, i10, i11, i12, i13⟩ := (h0.now (Nat.le_refl _)).write hr hc hk
  subst i10
  refine ⟨rv, b1, o1, c1, b2, o2, c2, b, i1, i2, i3, i4, i5, i6, i7, i8, i9, i11, ?_, i12, fun z => ?_⟩
  · by_cases q : k0 ≤ b
    · exact q
    · exfalso
      have h9 := h0 (X.put b (.cells [] 0)) (by rw [hPt]; exact Nat.le_refl _) (fun n n1 _ => gpo _ _ _ _ (by omega))
      obtain ⟨rv', lv', b1', o1', c1', b2', o2', c2', b', j1, j2, j3, j4, j5, j6, j7, j8, j9, j10, j11, j12, j13⟩ := h9.write hr hc hk
      rw [i1] at j1; cases j1
      by_cases e1 : b1 = b
      · rw [e1, gp0] at j2; cases j2; simp at j3
      · rw [gpo _ _ _ _ e1, i2] at j2; cases j2
        rw [i3] at j3; cases j3
        rw [i6] at j6; cases j6
        by_cases e2 : b2 = b
        · rw [e2, gp0] at j7; cases j7; simp at j8
        · rw [gpo _ _ _ _ e2, i7] at j7; cases j7
          rw [i8] at j8
          rw [j10] at j8
          cases j8
          rw [gp0] at j11; cases j11
  · have h9 := i13 z
    rw [List.map_set] at h9
    rw [Nat.mul_one]
    exact h9
theorem set_lens {T : List (List (List Int))} {N n r c k : Nat} {z : Int} (h : ∀ R ∈ T, R.length = N ∧ ∀ l ∈ R, l.length = n) (hr : r < T.length) (hc : c < T[r].length) : ∀ R ∈ T.set r (T[r].set c (T[r][c].set k z)), R.length = N ∧ ∀ l ∈ R, l.length = n := fun R hR => by
  have h1 := h _ (List.getElem_mem hr)
  rcases List.mem_or_eq_of_mem_set hR with h9 | h9
  · exact h R h9
  · subst h9
    refine ⟨by rw [List.length_set]; exact h1.1, fun l hl => ?_⟩
    rcases List.mem_or_eq_of_mem_set hl with h8 | h8
    · exact h1.2 l h8
    · subst h8
      rw [List.length_set]; exact h1.2 _ (List.getElem_mem hc)
set_option maxHeartbeats 2000000 in
theorem c6TM (m : Nat) (cv tv : AV) (cols : List (List Bed)) (L : Nat) (fa : Int) (TT : List (List (List Int))) (own : Bool) (rw9 cn9 bd9 by9 : Int) (H : Heap) (hM : Mat H cv cols) (hT : Tab H tv TT) (hth : thinB cols = true) (hT5 : TT.length ≤ 5) (hv : slOk cols (L : Int) = true) (hin : inB fa 0 10000 = true) (hf : 0 ≤ fa ∧ fa ≤ 10000) (hfew : fewB cols (L : Int) = false) (hre : reachE cols (L : Int) fa = 0) (hb9 : belowB cols.length (cols.headD []).length (L : Int) (prC cols fa) = false) (hown : own = true) (hu1 : 0 ≤ rw9 ∧ rw9 ≤ 255) (hu2 : 0 ≤ cn9 ∧ cn9 ≤ 255) (hu3 : 0 ≤ bd9 ∧ bd9 ≤ 255) (hu4 : -128 ≤ by9 ∧ by9 ≤ 127) : RR (m + 213) (.fn 6 [.agg [cv, I (L : Int)], I fa, tv, .bool own, U8 rw9, U8 cn9, U8 bd9, .int .i8 by9]) H = some (.bool true, H) := by
  refine (R_fn _ _ _ _ _).trans ?_; refine fn_ok Try.func6 rfl rfl (by kernel_rfl) (by kernel_rfl) ?_
  obtain ⟨W, hW, hg, hN, hE, hG⟩ := wOf H
  rw [← hW]
  have pc : cv.plain = true := by obtain ⟨vs, hR, _, _⟩ := hM; exact lpl hR.len
  have hlT := hT.len
  have ptv : tv.plain = true := lpl hlT
  have hsf := slOk_facts hv
  subst hown
  have hBB := prC_bd (bedsOk_of hv) hf
  have hlen : lenOf cv = some cols.length := by (obtain ⟨vs9, hR9, hvl9, _⟩ := id hM); rw [← hvl9]; simpa using hR9.len
  refine kS ?_; refine kR ?_; refine OkO.box rfl rfl ?_; refine oA rfl rfl ?_; refine oN ?_; refine kS ?_; refine kS ?_; refine kR ?_; refine oL rfl rfl (qlg7 2) ?_; refine oV rfl rfl rfl rfl rfl ((c16 (m + 211) cv cols (L : Int) _ (hM.ext (hE _ (by (try dsimp only); repeat (first | exact hG | apply Grow.new | (refine Grow.put ?_ _ (by first | omega | (simp only [hNw, hPt]; omega)))))))).trans (by rw [hth])) ?_; refine OkO.un rfl rfl rfl ?_; refine oM rfl rfl ?_; refine oM rfl rfl ?_; refine oB rfl rfl rfl qbl ?_; refine OkO.bin rfl rfl rfl ((bin_gtr _ _).trans (congrArg (fun b => some (AV.bool b)) (show _ = false from (by rw [decide_eq_false_iff_not]; omega)))) ?_; refine OkO.pick (b := false) rfl rfl nofun (fun _ => rfl) ?_; refine oN ?_; refine Ok.condF rfl ?_; refine Ok.skip ?_; refine kS ?_; refine kS ?_; refine kR ?_; refine oA rfl rfl ?_; refine oN ?_; refine Ok.block ?_
  obtain ⟨G6, hG6⟩ : ∃ G6, G6 = W.new (.cells [cv, I (L : Int)] 24) := ⟨_, rfl⟩
  have e6 : (G6.get W.next).bind AObj.cs = some [cv, I (L : Int)] := by rw [hG6, gn0]; rfl
  have g6 : Grow W G6 := by rw [hG6]; exact hG.new _
  have n6 : W.next + 1 ≤ G6.next := by rw [hG6]; simp
  refine Ok.loop (fun n9 s_ => ∃ i : Nat, n9 = TT.length - i ∧ i ≤ TT.length ∧ (∀ R ∈ TT.take i, (R.length ≤ 15 ∧ ∀ l ∈ R, l.length ≤ 8)) ∧ Has 8 [(1, I fa), (2, tv), (3, .bool true), (4, U8 rw9), (5, U8 cn9), (6, U8 bd9), (7, .int .i8 by9), (8, .ptr W.next 0), (17, I (i : Int))] s_.T ∧ s_.D = [] ∧ G6 = s_.H) (TT.length) (by unfold loopFuel; omega)
    ⟨0, rfl, Nat.zero_le _, (fun R h => absurd h (by simp)), Has.of (by kernel_rfl), rfl, hG6⟩ ?_
  rintro nn_ ⟨T, D, G⟩ ⟨i, hn9_, hi, hOK, ⟨f_, hTT⟩, hD, hgE⟩
  dsimp only at *
  subst hTT hD
  skip
  subst hgE
  refine kS ?_; refine kS ?_; refine kR ?_; refine oM rfl rfl ?_; refine oM rfl rfl ?_; refine oB rfl rfl rfl qbl ?_; refine OkO.bin rfl rfl rfl (bin_lss _ _) ?_; refine oN ?_
  refine Ok.cond rfl (fun h1 => ?_) (fun h1 => ?_)
  · have hlt : i < TT.length := by simpa using h1
    obtain ⟨xr, rb, ro, rcs, t1, t2, t3, t4, t5⟩ := (hT.ext (hE _ g6)).get i hlt
    have lq := t5.len
    have pxr : xr.plain = true := lpl lq
    refine Ok.skip ?_; refine kS ?_; refine Ok.block ?_; refine kS ?_; refine kS ?_; refine kR ?_; refine oM rfl rfl ?_; refine oM rfl rfl ?_; refine qX (sz := 1) (n := i) rfl rfl rfl ?_; refine oL rfl rfl (qla0 1) ?_; refine oB rfl rfl rfl qbl ?_; refine OkO.bin rfl rfl rfl (bin_gtr _ _) ?_; refine oN ?_
    refine Ok.cond rfl (fun h2 => ?_) (fun h2 => ?_)
    · refine kS ?_
      refine kR ?_; refine oV rfl rfl rfl rfl rfl (rfl) ?_; refine oA rfl rfl ?_; refine oN ?_
      refine Ok.ret ⟨.inr rfl, ?_⟩
      exact back_flat rfl rfl rfl (by rw [← hW]; exact g6)
    · have hl15 : TT[i].length ≤ 15 := by (have h9 : ¬ (15 : Int) < (TT[i].length : Int) := by simpa using h2); omega
      refine Ok.skip ?_; refine kS ?_; refine kR ?_; refine oA rfl rfl ?_; refine oN ?_; refine Ok.block ?_
      refine Ok.loop (fun n8 s_ => ∃ j : Nat, n8 = TT[i].length - j ∧ j ≤ TT[i].length ∧ (∀ l ∈ TT[i].take j, l.length ≤ 8) ∧ Has 8 [(1, I fa), (2, tv), (3, .bool true), (4, U8 rw9), (5, U8 cn9), (6, U8 bd9), (7, .int .i8 by9), (8, .ptr W.next 0), (17, I (i : Int)), (18, I (j : Int))] s_.T ∧ s_.D = [] ∧ G6 = s_.H) (TT[i].length) (by unfold loopFuel; omega)
        ⟨0, rfl, Nat.zero_le _, (fun l h => absurd h (by simp)), Has.of (by kernel_rfl), rfl, rfl⟩ ?_
      rintro nn_ ⟨T, D, G⟩ ⟨j, hn8_, hj, hOKj, ⟨f2_, hTT⟩, hD, hgE⟩
      dsimp only at *
      subst hTT hD
      skip
      subst hgE
      refine kS ?_; refine kS ?_; refine kR ?_; refine oM rfl rfl ?_; refine oM rfl rfl ?_; refine oM rfl rfl ?_; refine qX (sz := 1) (n := i) rfl rfl rfl ?_; refine oL rfl rfl (qla0 1) ?_; refine oB rfl rfl rfl qbl ?_; refine OkO.bin rfl rfl rfl (bin_lss _ _) ?_; refine oN ?_
      refine Ok.cond rfl (fun h3 => ?_) (fun h3 => ?_)
      · have hlt2 : j < TT[i].length := by simpa using h3
        obtain ⟨xl, cb, co, ccs, s1, s2, s3, s4, s5⟩ := t5.get j hlt2
        have lq2 := Row.len s5
        rw [List.length_map] at lq2
        have pxl : xl.plain = true := lpl lq2
        refine Ok.skip ?_; refine kS ?_; refine Ok.block ?_; refine kS ?_; refine kR ?_; refine oM rfl rfl ?_; refine oM rfl rfl ?_; refine qX (sz := 1) (n := i) rfl rfl rfl ?_; refine oL rfl rfl (qla0 1) ?_; refine oM rfl rfl ?_; refine qX (sz := 1) (n := j) rfl rfl rfl ?_; refine oL rfl rfl (qla0 1) ?_; refine oB rfl rfl rfl qbl ?_; refine OkO.bin rfl rfl rfl (bin_gtr _ _) ?_; refine oN ?_
        refine Ok.cond rfl (fun h4 => ?_) (fun h4 => ?_)
        · refine kS ?_
          refine kR ?_; refine oV rfl rfl rfl rfl rfl (rfl) ?_; refine oA rfl rfl ?_; refine oN ?_
          refine Ok.ret ⟨.inr rfl, ?_⟩
          exact back_flat rfl rfl rfl (by rw [← hW]; exact g6)
        · have hl8 : TT[i][j].length ≤ 8 := by (have h9 : ¬ (8 : Int) < (TT[i][j].length : Int) := by simpa using h4); omega
          refine Ok.skip ?_; refine kR ?_; refine oM rfl rfl ?_; refine OkO.bin rfl rfl rfl (bin_add (by omega) (by omega)) ?_; refine oA rfl rfl ?_; refine oN ?_
          refine ⟨TT[i].length - (j + 1), by omega, j + 1, rfl, by omega, fun l hl => ?_, Has.of (by kernel_rfl), rfl, rfl⟩
          rw [List.take_succ_eq_append_getElem hlt2, List.mem_append, List.mem_singleton] at hl
          rcases hl with hl | hl
          · exact hOKj l hl
          · rw [hl]; exact hl8
      · have hge2 : j = TT[i].length := by (have h9 : ¬ j < TT[i].length := by simpa using h3); omega
        rw [hge2, List.take_length] at hOKj
        have hOKl := hOKj
        refine Ok.exit ?_; refine kR ?_; refine oM rfl rfl ?_; refine OkO.bin rfl rfl rfl (bin_add (by omega) (by omega)) ?_; refine oA rfl rfl ?_; refine oN ?_
        refine ⟨TT.length - (i + 1), by omega, i + 1, rfl, by omega, fun R hR => ?_, Has.of (by kernel_rfl), rfl, rfl⟩
        rw [List.take_succ_eq_append_getElem hlt, List.mem_append, List.mem_singleton] at hR
        rcases hR with hR | hR
        · exact hOK R hR
        · rw [hR]; exact ⟨hl15, hOKl⟩
  · have hge : i = TT.length := by (have h9 : ¬ i < TT.length := by simpa using h1); omega
    rw [hge, List.take_length] at hOK
    refine Ok.exit ?_; refine kS ?_; refine kR ?_; refine oL rfl rfl (qlg7 2) ?_; refine oE rfl rfl rfl rfl rfl (c19 (m + 210) cv cols (L : Int) _ (hM.ext (hE _ (by (try dsimp only); repeat (first | exact g6 | apply Grow.new | (refine Grow.put ?_ _ (by first | omega | (simp only [hNw, hPt]; omega))))))) hth) ?_
    rintro _ Ha1 ⟨cv1, rfl, qa1, fa1⟩
    have n1 := qa1.ext.next
    try simp only [hNw, hPt] at n1
    have gg1 : Grow W Ha1 := Grow.ret (by (try dsimp only); repeat (first | exact g6 | apply Grow.new | (refine Grow.put ?_ _ (by first | omega | (simp only [hNw, hPt]; omega))))) qa1
    have a1 : (Ha1.get (W.next)).bind AObj.cs = some [cv, I (L : Int)] := by rw [qa1.ext.get _ (by first | omega | (simp only [hNw, hPt]; omega))]; first | assumption | (rw [gn0]; rfl) | (rw [get_put_eq] <;> rfl) | (simp (disch := first | omega | (simp only [hNw, hPt]; omega)) only [gN] <;> first | rfl | assumption | (rw [get_put_eq] <;> rfl))
    have ma1 := fa1.now (Nat.le_refl _)
    refine oM rfl rfl ?_; refine oE rfl rfl rfl rfl rfl (c36 (m + 1) cv1 cols fa L _ ma1 hv hf hre) ?_
    rintro _ Ht ⟨tv9, rfl, qt, ht9⟩
    have n2 := qt.ext.next
    try simp only [hNw, hPt] at n2
    have gg2 : Grow W Ht := Grow.ret (by (try dsimp only); repeat (first | exact gg1 | apply Grow.new | (refine Grow.put ?_ _ (by first | omega | (simp only [hNw, hPt]; omega))))) qt
    have a2 : (Ht.get (W.next)).bind AObj.cs = some [cv, I (L : Int)] := by rw [qt.ext.get _ (by first | omega | (simp only [hNw, hPt]; omega))]; first | assumption | (rw [gn0]; rfl) | (rw [get_put_eq] <;> rfl) | (simp (disch := first | omega | (simp only [hNw, hPt]; omega)) only [gN] <;> first | rfl | assumption | (rw [get_put_eq] <;> rfl))
    have lt9 := ht9.len
    have pt9 : tv9.plain = true := lpl lt9
    refine oM rfl rfl ?_; refine OkO.extract rfl rfl rfl ?_; refine OkO.extract rfl rfl rfl ?_; refine oA rfl rfl ?_; refine oA rfl rfl ?_; refine oN ?_; refine kS ?_; refine kR ?_; refine oL rfl rfl (qlg7 2) ?_; refine oV rfl rfl rfl rfl rfl ((c23 (m + 210) cv cols (L : Int) _ (hM.ext (hE _ (by (try dsimp only); repeat (first | exact gg2 | apply Grow.new | (refine Grow.put ?_ _ (by first | omega | (simp only [hNw, hPt]; omega)))))))).trans (by rw [hv])) ?_; refine oM rfl rfl ?_; refine oM rfl rfl ?_; refine oV rfl rfl rfl rfl rfl ((c37 (m + 211) fa 0 10000 _).trans (by rw [hin])) ?_; refine OkO.pick (b := true) rfl rfl (fun _ => rfl) nofun ?_; refine oA rfl rfl ?_; refine oN ?_; refine kS ?_; refine kS ?_; refine kR ?_; refine oM rfl rfl ?_; refine OkO.un rfl rfl rfl ?_; refine oN ?_; refine Ok.condF rfl ?_; refine Ok.skip ?_; refine kS ?_; refine kS ?_; refine Ok.drawn [(0, true, []), (1, true, []), (2, true, []), (3, true, []), (4, true, []), (5, true, []), (6, true, []), (7, true, []), (8, true, []), (9, true, []), (10, true, []), (11, true, []), (12, true, []), (13, false, [7]), (14, true, []), (15, true, []), (16, true, []), (17, true, []), (18, true, []), (20, true, []), (19, false, [17, 12, 7]), (21, false, [18, 12, 7]), (22, true, []), (23, true, []), (24, true, [])] (by kernel_rfl) ?_; refine pS ?_; refine oM rfl rfl ?_; refine oN ⟨rfl, ?_⟩; refine pS ?_; refine OkO.bin rfl rfl rfl ((bin_neq _ _).trans (congrArg (fun b => some (AV.bool b)) (show _ = false from (by rfl)))) ?_; refine oN ⟨rfl, ?_⟩; refine pS ?_; refine oM rfl rfl ?_; refine oN ⟨rfl, ?_⟩; refine pS ?_; refine oK rfl ?_; refine oN ⟨rfl, ?_⟩; refine pS ?_; refine oK rfl ?_; refine oN ⟨rfl, ?_⟩; refine pS ?_; refine oK rfl ?_; refine oN ⟨rfl, ?_⟩; refine pS ?_; refine oK rfl ?_; refine oN ⟨rfl, ?_⟩; refine pS ?_; refine oK rfl ?_; refine oN ⟨rfl, ?_⟩; refine pS ?_; refine oK rfl ?_; refine oN ⟨rfl, ?_⟩; refine pS ?_; refine oK rfl ?_; refine oN ⟨rfl, ?_⟩; refine pS ?_; refine OkO.pick (b := false) rfl rfl nofun (fun _ => rfl) ?_; refine oN ⟨rfl, ?_⟩; refine pS ?_; refine oM rfl rfl ?_; refine oN ⟨rfl, ?_⟩; refine pS ?_; refine oL rfl rfl (qlg7 2) ?_; refine oN ⟨rfl, ?_⟩; refine pS ?_; refine oV rfl rfl rfl rfl rfl ((c30 (m + 208) cv cols (L : Int) _ (hM.ext (hE _ (by (try dsimp only); repeat (first | exact gg2 | apply Grow.new | (refine Grow.put ?_ _ (by first | omega | (simp only [hNw, hPt]; omega)))))))).trans (by rw [hfew])) ?_
    refine oN ⟨(sco (ssk rfl) rfl), ?_⟩; refine pS ?_; refine oM rfl rfl ?_; refine oN ⟨rfl, ?_⟩; refine pS ?_; refine oK rfl ?_; refine oN ⟨rfl, ?_⟩; refine pS ?_; refine oK rfl ?_; refine oN ⟨rfl, ?_⟩; refine pS ?_; refine oK rfl ?_; refine oN ⟨rfl, ?_⟩; refine pS ?_; refine oK rfl ?_; refine oN ⟨rfl, ?_⟩; refine pS ?_; refine oK rfl ?_; refine oN ⟨rfl, ?_⟩; refine pS ?_; refine oK rfl ?_
    refine oN ⟨(sco (ssk rfl) (sco (qsg6 2 rfl rfl rfl) (sco (ssk rfl) rfl))), ?_⟩; refine pS ?_; refine oK rfl ?_
    refine oN ⟨(sco (ssk rfl) (sco (qsg6 2 rfl rfl rfl) (sco (ssk rfl) rfl))), ?_⟩; refine pS ?_; refine oK rfl ?_; refine oN ⟨rfl, ?_⟩; refine pS ?_; refine OkO.pick (b := false) rfl rfl nofun (fun _ => rfl) ?_; refine oN ⟨rfl, ?_⟩; refine pS ?_; refine OkO.pick (b := false) rfl rfl nofun (fun _ => rfl) ?_; refine oN ⟨rfl, ?_⟩; refine OkP.nil ?_; refine Ok.condF rfl ?_; refine Ok.skip ?_; refine kS ?_; refine kS ?_; refine kR ?_; refine oM rfl rfl ?_; refine OkO.bin rfl rfl rfl ((bin_eql _ _).trans (congrArg (fun b => some (AV.bool b)) (show _ = true from (by rfl)))) ?_; refine oN ?_; refine Ok.condT rfl ?_; refine kS ?_; refine kS ?_; refine Ok.drawn [(0, true, []), (1, true, []), (2, true, []), (3, false, [0]), (4, false, []), (5, true, [])] (by kernel_rfl) ?_; refine pS ?_; refine oL rfl rfl (qlg7 2) ?_; refine oN ⟨rfl, ?_⟩; refine pS ?_; refine oM rfl rfl ?_; refine oN ⟨rfl, ?_⟩; refine pS ?_; refine oM rfl rfl ?_; refine oN ⟨rfl, ?_⟩; refine pS ?_; refine oE rfl rfl rfl rfl rfl (c39 (m + 210) tv9 _ _ (ht9.ext (by (try dsimp only); repeat (first | exact Ext.refl _ | exact Ext.refl _ | apply Ext.new | (refine Ext.put ?_ _ (by first | omega | (simp only [hNw, hPt]; omega)))))) (by simp [tabL]; omega) (fun R hR => by (have h9 := (tabL_len R hR).1); omega) (fun R hR l hl => by (have h9 := (tabL_len R hR).2 l hl); omega)) ?_
    rintro tx Hx ⟨qx, htx⟩
    have n3 := qx.ext.next
    try simp only [hNw, hPt] at n3
    have gg3 : Grow W Hx := Grow.ret (by (try dsimp only); repeat (first | exact gg2 | apply Grow.new | (refine Grow.put ?_ _ (by first | omega | (simp only [hNw, hPt]; omega))))) qx
    have a3 : (Hx.get (W.next)).bind AObj.cs = some [cv, I (L : Int)] := by rw [qx.ext.get _ (by first | omega | (simp only [hNw, hPt]; omega))]; first | assumption | (rw [gn0]; rfl) | (rw [get_put_eq] <;> rfl) | (simp (disch := first | omega | (simp only [hNw, hPt]; omega)) only [gN] <;> first | rfl | assumption | (rw [get_put_eq] <;> rfl))
    have exHt3 : Ext Ht Hx := Ext.trans (by (try dsimp only); repeat (first | exact Ext.refl _ | exact Ext.refl _ | apply Ext.new | (refine Ext.put ?_ _ (by first | omega | (simp only [hNw, hPt]; omega))))) qx.ext
    have ltx := htx.len
    have ptx : tx.plain = true := lpl ltx
    refine oN ⟨(sco (qsg6 2 rfl rfl rfl) rfl), ?_⟩; refine pS ?_; refine oV rfl rfl rfl rfl rfl (c41G (m + 209) cv tx cols fa L _ (hM.ext (hE _ (by (try dsimp only); repeat (first | exact gg3 | apply Grow.new | (refine Grow.put ?_ _ (by first | omega | (simp only [hNw, hPt]; omega))))))) hv hf hb9 (htx.ext (by (try dsimp only); repeat (first | exact Ext.refl _ | exact Ext.refl _ | apply Ext.new | (refine Ext.put ?_ _ (by first | omega | (simp only [hNw, hPt]; omega))))))) ?_; refine oN ⟨rfl, ?_⟩; refine pS ?_; refine OkO.un rfl rfl rfl ?_; refine oN ⟨rfl, ?_⟩; refine OkP.nil ?_; refine Ok.condF rfl ?_; refine Ok.skip ?_; refine kS ?_; refine kR ?_; refine oM rfl rfl ?_; refine oN ?_; refine Ok.condT rfl ?_; refine kS ?_; refine kR ?_; refine oM rfl rfl ?_; refine oE rfl rfl rfl rfl rfl (c39L (m + 210) tv9 _ _ (ht9.ext (by (try dsimp only); repeat (first | exact exHt3 | exact Ext.refl _ | apply Ext.new | (refine Ext.put ?_ _ (by first | omega | (simp only [hNw, hPt]; omega)))))) (by simp [tabL]; omega) (fun R hR => by (have h9 := (tabL_len R hR).1); omega) (fun R hR l hl => by (have h9 := (tabL_len R hR).2 l hl); omega) (by simp [tabL]; omega)) ?_
    rintro ty Hy ⟨qy, fy⟩
    have n4 := qy.ext.next
    try simp only [hNw, hPt] at n4
    have gg4 : Grow W Hy := Grow.ret (by (try dsimp only); repeat (first | exact gg3 | apply Grow.new | (refine Grow.put ?_ _ (by first | omega | (simp only [hNw, hPt]; omega))))) qy
    have a4 : (Hy.get (W.next)).bind AObj.cs = some [cv, I (L : Int)] := by rw [qy.ext.get _ (by first | omega | (simp only [hNw, hPt]; omega))]; first | assumption | (rw [gn0]; rfl) | (rw [get_put_eq] <;> rfl) | (simp (disch := first | omega | (simp only [hNw, hPt]; omega)) only [gN] <;> first | rfl | assumption | (rw [get_put_eq] <;> rfl))
    obtain ⟨TL, hTL⟩ : ∃ TL, TL = tabL (prC cols fa) cols.length (cols.headD []).length L := ⟨_, rfl⟩
    rw [← hTL] at fy
    have hsh : shapeB cols.length (cols.headD []).length (L : Int) TL = true := by rw [hTL]; exact tabL_shape hBB (by omega)
    obtain ⟨hTn, hTr⟩ := shape_iff.1 hsh
    obtain ⟨r9, hr9⟩ : ∃ r9 : Nat, rw9 % ((L : Nat) : Int) = (r9 : Int) := ⟨(rw9 % ((L : Nat) : Int)).toNat, (Int.toNat_of_nonneg (Int.emod_nonneg _ (by omega))).symm⟩
    have lr9 : r9 < L := by (have h9 := Int.emod_lt_of_pos rw9 (b := ((L : Nat) : Int)) (by omega)); omega
    obtain ⟨c9, hc9⟩ : ∃ c9 : Nat, cn9 % ((cols.length : Nat) : Int) = (c9 : Int) := ⟨(cn9 % ((cols.length : Nat) : Int)).toNat, (Int.toNat_of_nonneg (Int.emod_nonneg _ (by omega))).symm⟩
    have lc9 : c9 < cols.length := by (have h9 := Int.emod_lt_of_pos cn9 (b := ((cols.length : Nat) : Int)) (by omega)); omega
    obtain ⟨k9, hk9⟩ : ∃ k9 : Nat, bd9 % (((cols.headD []).length : Nat) : Int) = (k9 : Int) := ⟨(bd9 % (((cols.headD []).length : Nat) : Int)).toNat, (Int.toNat_of_nonneg (Int.emod_nonneg _ (by omega))).symm⟩
    have lk9 : k9 < (cols.headD []).length := by (have h9 := Int.emod_lt_of_pos bd9 (b := (((cols.headD []).length : Nat) : Int)) (by omega)); omega
    have hrT : r9 < TL.length := by omega
    have hRN := hTr _ (List.getElem_mem hrT)
    have hcT : c9 < TL[r9].length := by rw [hRN.1]; exact lc9
    have hLN := hRN.2 _ (List.getElem_mem hcT)
    have hkT : k9 < TL[r9][c9].length := by rw [hLN.1]; exact lk9
    have hbd := hLN.2 _ (List.getElem_mem hkT)
    unfold bd15 at hbd
    have lty : lenOf ty = some L := by rw [(fy.now (Nat.le_refl _)).tab.len, hTn]
    have pty : ty.plain = true := lpl lty
    obtain ⟨rv, b1, o1, c1, b2, o2, c2, bw, w1, w2, w3, w4, w5, w6, w7, w8, w9, w10, w11, w12, w13⟩ := DN.write2 fy hrT hcT hkT
    rw [hRN.1] at w5
    have prv : rv.plain = true := lpl w5
    rw [hLN.1] at w8
    have w10b : (Hy.get bw).bind AObj.cs = some (TL[r9][c9].map fun y => I y) := by rw [w10]; rfl
    have w14 : (TL[r9][c9].map fun y => I y)[k9 * 1]? = some (I TL[r9][c9][k9]) := by rw [Nat.mul_one, List.getElem?_map, List.getElem?_eq_getElem hkT]; rfl
    have hw := w13 (TL[r9][c9][k9] + by9)
    have hlens := set_lens (k := k9) (z := (TL[r9][c9][k9] + by9)) (fun R hR => ⟨(hTr R hR).1, fun l hl => ((hTr R hR).2 l hl).1⟩) hrT hcT
    obtain ⟨TN, hTN⟩ : ∃ TN, TN = TL.set r9 (TL[r9].set c9 (TL[r9][c9].set k9 (TL[r9][c9][k9] + by9))) := ⟨_, rfl⟩
    rw [← hTN] at hw hlens
    have hTNl : TN.length = L := by rw [hTN, List.length_set]; exact hTn
    have hlt9 : k9 * 1 < (TL[r9][c9].map fun y => I y).length := by rw [List.length_map, Nat.mul_one]; exact hkT
    refine oA rfl rfl ?_; refine oN ?_; refine kS ?_; refine Ok.drawn [(0, true, []), (1, true, []), (2, true, []), (3, true, []), (4, true, []), (5, true, []), (6, true, []), (7, true, []), (8, true, []), (9, true, []), (10, true, []), (11, true, []), (12, true, []), (13, true, []), (14, true, []), (15, true, []), (16, true, [])] (by kernel_rfl) ?_; refine pS ?_; refine oM rfl rfl ?_; refine oN ⟨rfl, ?_⟩; refine pS ?_; refine oM rfl rfl ?_; refine oN ⟨rfl, ?_⟩; refine pS ?_; refine OkO.convert (k := .i64) rfl (by kernel_rfl) rfl (wrapF_i64 (by omega) (by omega)) ?_; refine oN ⟨rfl, ?_⟩; refine pS ?_; refine oM rfl rfl ?_; refine oN ⟨rfl, ?_⟩; refine pS ?_; refine oB rfl rfl rfl qbl ?_; refine oN ⟨rfl, ?_⟩; refine pS ?_; refine OkO.bin rfl rfl rfl (bin_rem (by omega) (by omega)) ?_; refine oN ⟨rfl, ?_⟩; refine pS ?_; refine qX (sz := 1) (n := r9) rfl rfl (congrArg (fun z => some (I z)) hr9) ?_; refine oN ⟨rfl, ?_⟩; refine pS ?_; refine oL rfl rfl (qla0 1) ?_; refine oN ⟨rfl, ?_⟩; refine pS ?_; refine oM rfl rfl ?_; refine oN ⟨rfl, ?_⟩; refine pS ?_; refine OkO.convert (k := .i64) rfl (by kernel_rfl) rfl (wrapF_i64 (by omega) (by omega)) ?_; refine oN ⟨rfl, ?_⟩; refine pS ?_; refine oF (o := 0) rfl (by kernel_rfl) rfl ?_; refine oN ⟨rfl, ?_⟩; refine pS ?_; refine oL rfl rfl (qla0 1) ?_; refine oN ⟨rfl, ?_⟩; refine pS ?_; refine oB rfl rfl rfl qbl ?_; refine oN ⟨rfl, ?_⟩; refine pS ?_; refine OkO.bin rfl rfl rfl (bin_rem (by omega) (by omega)) ?_; refine oN ⟨rfl, ?_⟩; refine pS ?_; refine qX (sz := 1) (n := c9) rfl rfl (congrArg (fun z => some (I z)) hc9) ?_; refine oN ⟨rfl, ?_⟩; refine pS ?_; refine oL rfl rfl (qla0 1) ?_; refine oN ⟨rfl, ?_⟩; refine pS ?_; refine oA rfl rfl ?_; refine oN ⟨rfl, ?_⟩; refine OkP.nil ?_; refine kR ?_; refine oM rfl rfl ?_; refine oM rfl rfl ?_; refine OkO.convert (k := .i64) rfl (by kernel_rfl) rfl (wrapF_i64 (by omega) (by omega)) ?_; refine oM rfl rfl ?_; refine oB rfl rfl rfl qbl ?_; refine OkO.bin rfl rfl rfl (bin_rem (by omega) (by omega)) ?_; refine qX (sz := 1) (n := k9) rfl rfl (congrArg (fun z => some (I z)) hk9) ?_; refine oL rfl rfl (qla0 1) ?_; refine oM rfl rfl ?_; refine OkO.convert (k := .i64) rfl (by kernel_rfl) rfl (wrapF_i64 (by omega) (by omega)) ?_; refine OkO.bin rfl rfl rfl (bin_add (by omega) (by omega)) ?_; refine qX (sz := 1) (n := k9) rfl rfl (congrArg (fun z => some (I z)) hk9) ?_; refine oT rfl rfl rfl (storeAt_opn (n := 1) (ag := false) (by kernel_rfl) w10 rfl rfl (spl_at1 hlt9)) ?_; refine oN ?_; refine kS ?_; refine Ok.drawn [(0, true, []), (2, true, []), (3, true, []), (6, true, []), (7, true, []), (8, true, []), (1, false, [6]), (4, false, [6, 0]), (5, false, [6, 0]), (9, false, [0]), (10, true, []), (11, true, []), (12, false, [6, 0]), (13, true, []), (14, true, [])] (by kernel_rfl) ?_; refine pS ?_; refine oL rfl rfl (qlg7 2) ?_; refine oN ⟨rfl, ?_⟩; refine pS ?_; refine oM rfl rfl ?_; refine oN ⟨rfl, ?_⟩; refine pS ?_; refine oM rfl rfl ?_; refine oN ⟨rfl, ?_⟩; refine pS ?_; refine oL rfl rfl (qlg7 2) ?_; refine oN ⟨rfl, ?_⟩; refine pS ?_; refine oM rfl rfl ?_; refine oN ⟨rfl, ?_⟩; refine pS ?_; refine oM rfl rfl ?_; refine oN ⟨rfl, ?_⟩; refine pS ?_; refine oE rfl rfl rfl rfl rfl (c19 (m + 210) cv cols (L : Int) _ (hM.ext (hE _ (by (try dsimp only); repeat (first | exact gg4 | apply Grow.new | (refine Grow.put ?_ _ (by first | omega | (simp only [hNw, hPt]; omega))))))) hth) ?_
    rintro _ Ha2 ⟨cv2, rfl, qa2, fa2⟩
    have n5 := qa2.ext.next
    try simp only [hNw, hPt] at n5
    have gg5 : Grow W Ha2 := Grow.ret (by (try dsimp only); repeat (first | exact gg4 | apply Grow.new | (refine Grow.put ?_ _ (by first | omega | (simp only [hNw, hPt]; omega))))) qa2
    have a5 : (Ha2.get (W.next)).bind AObj.cs = some [cv, I (L : Int)] := by rw [qa2.ext.get _ (by first | omega | (simp only [hNw, hPt]; omega))]; first | assumption | (rw [gn0]; rfl) | (rw [get_put_eq] <;> rfl) | (simp (disch := first | omega | (simp only [hNw, hPt]; omega)) only [gN] <;> first | rfl | assumption | (rw [get_put_eq] <;> rfl))
    have ma2 := fa2.now (Nat.le_refl _)
    refine oN ⟨(sco (qsg6 2 rfl rfl rfl) rfl), ?_⟩; refine pS ?_; refine oE rfl rfl rfl rfl rfl (c39 (m + 210) ty TN _ (hw.ext qa2.ext) (by omega) (fun R hR => by (have h9 := (hlens R hR).1); omega) (fun R hR l hl => by (have h9 := (hlens R hR).2 l hl); omega)) ?_
    rintro tc Hc ⟨qc, htc⟩
    have n6 := qc.ext.next
    try simp only [hNw, hPt] at n6
    have gg6 : Grow W Hc := Grow.ret (by (try dsimp only); repeat (first | exact gg5 | apply Grow.new | (refine Grow.put ?_ _ (by first | omega | (simp only [hNw, hPt]; omega))))) qc
    have a6 : (Hc.get (W.next)).bind AObj.cs = some [cv, I (L : Int)] := by rw [qc.ext.get _ (by first | omega | (simp only [hNw, hPt]; omega))]; first | assumption | (rw [gn0]; rfl) | (rw [get_put_eq] <;> rfl) | (simp (disch := first | omega | (simp only [hNw, hPt]; omega)) only [gN] <;> first | rfl | assumption | (rw [get_put_eq] <;> rfl))
    have exHa26 : Ext Ha2 Hc := Ext.trans (by (try dsimp only); repeat (first | exact Ext.refl _ | exact Ext.refl _ | apply Ext.new | (refine Ext.put ?_ _ (by first | omega | (simp only [hNw, hPt]; omega))))) qc.ext
    have lct := htc.len
    have pct : tc.plain = true := lpl lct
    refine oN ⟨(sco (qsg6 2 rfl rfl rfl) (sco (qsg6 2 rfl rfl rfl) rfl)), ?_⟩; refine pS ?_; refine oE rfl rfl rfl rfl rfl (c38X (m + 202) cv2 tc cols fa L TN _ (ma2.ext (by (try dsimp only); repeat (first | exact exHa26 | exact Ext.refl _ | apply Ext.new | (refine Ext.put ?_ _ (by first | omega | (simp only [hNw, hPt]; omega)))))) (htc.ext (by (try dsimp only); repeat (first | exact Ext.refl _ | exact Ext.refl _ | apply Ext.new | (refine Ext.put ?_ _ (by first | omega | (simp only [hNw, hPt]; omega)))))) (by omega) (fun R hR => by (have h9 := (hlens R hR).1); omega) (fun R hR l hl => by (have h9 := (hlens R hR).2 l hl); omega) hv hf) ?_
    rintro _ H38 ⟨bb, rfl, rfl, hbb⟩
    refine oN ⟨(sco (qsg6 2 rfl rfl rfl) (sco (qsg6 2 rfl rfl rfl) rfl)), ?_⟩; refine pS ?_; refine oE rfl rfl rfl rfl rfl (c41X (m + 209) cv ty cols fa L TN _ (hM.ext (hE _ (by (try dsimp only); repeat (first | exact gg6 | apply Grow.new | (refine Grow.put ?_ _ (by first | omega | (simp only [hNw, hPt]; omega))))))) ((hw.ext qa2.ext).ext qc.ext) hv hf) ?_
    rintro _ H41 ⟨b2, rfl, rfl, hb2⟩
    have hbe : b2 = bb := by (rw [Bool.eq_iff_iff]; exact hb2.trans hbb.symm)
    subst hbe
    refine oN ⟨(sco (qsg6 2 rfl rfl rfl) rfl), ?_⟩; refine pS ?_; refine OkO.binT rfl rfl rfl ((bin4e _ _).trans (congrArg (fun b => some (AV.bool b)) (show _ = true from (by exact beq_self_eq_true _)))) ?_; refine oN ⟨rfl, ?_⟩; refine pS ?_; refine oM rfl rfl ?_; refine oN ⟨rfl, ?_⟩; refine pS ?_; refine oV rfl rfl rfl rfl rfl (rfl) ?_
    refine oN ⟨(sco (qsg6 2 rfl rfl rfl) (sco (qsg6 2 rfl rfl rfl) rfl)), ?_⟩; refine pS ?_; refine OkO.pick (b := true) rfl rfl (fun _ => rfl) nofun ?_; refine oN ⟨rfl, ?_⟩; refine pS ?_; refine oA rfl rfl ?_; refine oN ⟨rfl, ?_⟩; refine OkP.nil ?_
    refine Ok.ret ⟨.inr rfl, ?_⟩
    exact back_flat rfl rfl rfl (by rw [← hW]; exact (by (try dsimp only); repeat (first | exact gg6 | apply Grow.new | (refine Grow.put ?_ _ (by first | omega | (simp only [hNw, hPt]; omega))))))
set_option maxHeartbeats 2000000 in
theorem c6TF (m : Nat) (cv tv : AV) (cols : List (List Bed)) (L : Nat) (fa : Int) (TT : List (List (List Int))) (own : Bool) (rw9 cn9 bd9 by9 : Int) (H : Heap) (hM : Mat H cv cols) (hT : Tab H tv TT) (hth : thinB cols = true) (hT5 : TT.length ≤ 5) (hv : slOk cols (L : Int) = true) (hin : inB fa 0 10000 = true) (hf : 0 ≤ fa ∧ fa ≤ 10000) (hfew : fewB cols (L : Int) = true) (hq : ((cols.headD []).length + 1) ^ (cols.length + 1) ≤ 20000) (hre : reachE cols (L : Int) fa = 0) (hb9 : belowB cols.length (cols.headD []).length (L : Int) (prC cols fa) = false) (hown : own = true) (hu1 : 0 ≤ rw9 ∧ rw9 ≤ 255) (hu2 : 0 ≤ cn9 ∧ cn9 ≤ 255) (hu3 : 0 ≤ bd9 ∧ bd9 ≤ 255) (hu4 : -128 ≤ by9 ∧ by9 ≤ 127) : RR (m + 213) (.fn 6 [.agg [cv, I (L : Int)], I fa, tv, .bool own, U8 rw9, U8 cn9, U8 bd9, .int .i8 by9]) H = some (.bool true, H) := by
  refine (R_fn _ _ _ _ _).trans ?_; refine fn_ok Try.func6 rfl rfl (by kernel_rfl) (by kernel_rfl) ?_
  obtain ⟨W, hW, hg, hN, hE, hG⟩ := wOf H
  rw [← hW]
  have pc : cv.plain = true := by obtain ⟨vs, hR, _, _⟩ := hM; exact lpl hR.len
  have hlT := hT.len
  have ptv : tv.plain = true := lpl hlT
  have hsf := slOk_facts hv
  subst hown
  have hBB := prC_bd (bedsOk_of hv) hf
  have hlen : lenOf cv = some cols.length := by (obtain ⟨vs9, hR9, hvl9, _⟩ := id hM); rw [← hvl9]; simpa using hR9.len
  refine kS ?_; refine kR ?_; refine OkO.box rfl rfl ?_; refine oA rfl rfl ?_; refine oN ?_; refine kS ?_; refine kS ?_; refine kR ?_; refine oL rfl rfl (qlg7 2) ?_; refine oV rfl rfl rfl rfl rfl ((c16 (m + 211) cv cols (L : Int) _ (hM.ext (hE _ (by (try dsimp only); repeat (first | exact hG | apply Grow.new | (refine Grow.put ?_ _ (by first | omega | (simp only [hNw, hPt]; omega)))))))).trans (by rw [hth])) ?_; refine OkO.un rfl rfl rfl ?_; refine oM rfl rfl ?_; refine oM rfl rfl ?_; refine oB rfl rfl rfl qbl ?_; refine OkO.bin rfl rfl rfl ((bin_gtr _ _).trans (congrArg (fun b => some (AV.bool b)) (show _ = false from (by rw [decide_eq_false_iff_not]; omega)))) ?_; refine OkO.pick (b := false) rfl rfl nofun (fun _ => rfl) ?_; refine oN ?_; refine Ok.condF rfl ?_; refine Ok.skip ?_; refine kS ?_; refine kS ?_; refine kR ?_; refine oA rfl rfl ?_; refine oN ?_; refine Ok.block ?_
  obtain ⟨G6, hG6⟩ : ∃ G6, G6 = W.new (.cells [cv, I (L : Int)] 24) := ⟨_, rfl⟩
  have e6 : (G6.get W.next).bind AObj.cs = some [cv, I (L : Int)] := by rw [hG6, gn0]; rfl
  have g6 : Grow W G6 := by rw [hG6]; exact hG.new _
  have n6 : W.next + 1 ≤ G6.next := by rw [hG6]; simp
  refine Ok.loop (fun n9 s_ => ∃ i : Nat, n9 = TT.length - i ∧ i ≤ TT.length ∧ (∀ R ∈ TT.take i, (R.length ≤ 15 ∧ ∀ l ∈ R, l.length ≤ 8)) ∧ Has 8 [(1, I fa), (2, tv), (3, .bool true), (4, U8 rw9), (5, U8 cn9), (6, U8 bd9), (7, .int .i8 by9), (8, .ptr W.next 0), (17, I (i : Int))] s_.T ∧ s_.D = [] ∧ G6 = s_.H) (TT.length) (by unfold loopFuel; omega)
    ⟨0, rfl, Nat.zero_le _, (fun R h => absurd h (by simp)), Has.of (by kernel_rfl), rfl, hG6⟩ ?_
  rintro nn_ ⟨T, D, G⟩ ⟨i, hn9_, hi, hOK, ⟨f_, hTT⟩, hD, hgE⟩
  dsimp only at *
  subst hTT hD
  skip
  subst hgE
  refine kS ?_; refine kS ?_; refine kR ?_; refine oM rfl rfl ?_; refine oM rfl rfl ?_; refine oB rfl rfl rfl qbl ?_; refine OkO.bin rfl rfl rfl (bin_lss _ _) ?_; refine oN ?_
  refine Ok.cond rfl (fun h1 => ?_) (fun h1 => ?_)
  · have hlt : i < TT.length := by simpa using h1
    obtain ⟨xr, rb, ro, rcs, t1, t2, t3, t4, t5⟩ := (hT.ext (hE _ g6)).get i hlt
    have lq := t5.len
    have pxr : xr.plain = true := lpl lq
    refine Ok.skip ?_; refine kS ?_; refine Ok.block ?_; refine kS ?_; refine kS ?_; refine kR ?_; refine oM rfl rfl ?_; refine oM rfl rfl ?_; refine qX (sz := 1) (n := i) rfl rfl rfl ?_; refine oL rfl rfl (qla0 1) ?_; refine oB rfl rfl rfl qbl ?_; refine OkO.bin rfl rfl rfl (bin_gtr _ _) ?_; refine oN ?_
    refine Ok.cond rfl (fun h2 => ?_) (fun h2 => ?_)
    · refine kS ?_
      refine kR ?_; refine oV rfl rfl rfl rfl rfl (rfl) ?_; refine oA rfl rfl ?_; refine oN ?_
      refine Ok.ret ⟨.inr rfl, ?_⟩
      exact back_flat rfl rfl rfl (by rw [← hW]; exact g6)
    · have hl15 : TT[i].length ≤ 15 := by (have h9 : ¬ (15 : Int) < (TT[i].length : Int) := by simpa using h2); omega
      refine Ok.skip ?_; refine kS ?_; refine kR ?_; refine oA rfl rfl ?_; refine oN ?_; refine Ok.block ?_
      refine Ok.loop (fun n8 s_ => ∃ j : Nat, n8 = TT[i].length - j ∧ j ≤ TT[i].length ∧ (∀ l ∈ TT[i].take j, l.length ≤ 8) ∧ Has 8 [(1, I fa), (2, tv), (3, .bool true), (4, U8 rw9), (5, U8 cn9), (6, U8 bd9), (7, .int .i8 by9), (8, .ptr W.next 0), (17, I (i : Int)), (18, I (j : Int))] s_.T ∧ s_.D = [] ∧ G6 = s_.H) (TT[i].length) (by unfold loopFuel; omega)
        ⟨0, rfl, Nat.zero_le _, (fun l h => absurd h (by simp)), Has.of (by kernel_rfl), rfl, rfl⟩ ?_
      rintro nn_ ⟨T, D, G⟩ ⟨j, hn8_, hj, hOKj, ⟨f2_, hTT⟩, hD, hgE⟩
      dsimp only at *
      subst hTT hD
      skip
      subst hgE
      refine kS ?_; refine kS ?_; refine kR ?_; refine oM rfl rfl ?_; refine oM rfl rfl ?_; refine oM rfl rfl ?_; refine qX (sz := 1) (n := i) rfl rfl rfl ?_; refine oL rfl rfl (qla0 1) ?_; refine oB rfl rfl rfl qbl ?_; refine OkO.bin rfl rfl rfl (bin_lss _ _) ?_; refine oN ?_
      refine Ok.cond rfl (fun h3 => ?_) (fun h3 => ?_)
      · have hlt2 : j < TT[i].length := by simpa using h3
        obtain ⟨xl, cb, co, ccs, s1, s2, s3, s4, s5⟩ := t5.get j hlt2
        have lq2 := Row.len s5
        rw [List.length_map] at lq2
        have pxl : xl.plain = true := lpl lq2
        refine Ok.skip ?_; refine kS ?_; refine Ok.block ?_; refine kS ?_; refine kR ?_; refine oM rfl rfl ?_; refine oM rfl rfl ?_; refine qX (sz := 1) (n := i) rfl rfl rfl ?_; refine oL rfl rfl (qla0 1) ?_; refine oM rfl rfl ?_; refine qX (sz := 1) (n := j) rfl rfl rfl ?_; refine oL rfl rfl (qla0 1) ?_; refine oB rfl rfl rfl qbl ?_; refine OkO.bin rfl rfl rfl (bin_gtr _ _) ?_; refine oN ?_
        refine Ok.cond rfl (fun h4 => ?_) (fun h4 => ?_)
        · refine kS ?_
          refine kR ?_; refine oV rfl rfl rfl rfl rfl (rfl) ?_; refine oA rfl rfl ?_; refine oN ?_
          refine Ok.ret ⟨.inr rfl, ?_⟩
          exact back_flat rfl rfl rfl (by rw [← hW]; exact g6)
        · have hl8 : TT[i][j].length ≤ 8 := by (have h9 : ¬ (8 : Int) < (TT[i][j].length : Int) := by simpa using h4); omega
          refine Ok.skip ?_; refine kR ?_; refine oM rfl rfl ?_; refine OkO.bin rfl rfl rfl (bin_add (by omega) (by omega)) ?_; refine oA rfl rfl ?_; refine oN ?_
          refine ⟨TT[i].length - (j + 1), by omega, j + 1, rfl, by omega, fun l hl => ?_, Has.of (by kernel_rfl), rfl, rfl⟩
          rw [List.take_succ_eq_append_getElem hlt2, List.mem_append, List.mem_singleton] at hl
          rcases hl with hl | hl
          · exact hOKj l hl
          · rw [hl]; exact hl8
      · have hge2 : j = TT[i].length := by (have h9 : ¬ j < TT[i].length := by simpa using h3); omega
        rw [hge2, List.take_length] at hOKj
        have hOKl := hOKj
        refine Ok.exit ?_; refine kR ?_; refine oM rfl rfl ?_; refine OkO.bin rfl rfl rfl (bin_add (by omega) (by omega)) ?_; refine oA rfl rfl ?_; refine oN ?_
        refine ⟨TT.length - (i + 1), by omega, i + 1, rfl, by omega, fun R hR => ?_, Has.of (by kernel_rfl), rfl, rfl⟩
        rw [List.take_succ_eq_append_getElem hlt, List.mem_append, List.mem_singleton] at hR
        rcases hR with hR | hR
        · exact hOK R hR
        · rw [hR]; exact ⟨hl15, hOKl⟩
  · have hge : i = TT.length := by (have h9 : ¬ i < TT.length := by simpa using h1); omega
    rw [hge, List.take_length] at hOK
    refine Ok.exit ?_; refine kS ?_; refine kR ?_; refine oL rfl rfl (qlg7 2) ?_; refine oE rfl rfl rfl rfl rfl (c19 (m + 210) cv cols (L : Int) _ (hM.ext (hE _ (by (try dsimp only); repeat (first | exact g6 | apply Grow.new | (refine Grow.put ?_ _ (by first | omega | (simp only [hNw, hPt]; omega))))))) hth) ?_
    rintro _ Ha1 ⟨cv1, rfl, qa1, fa1⟩
    have n1 := qa1.ext.next
    try simp only [hNw, hPt] at n1
    have gg1 : Grow W Ha1 := Grow.ret (by (try dsimp only); repeat (first | exact g6 | apply Grow.new | (refine Grow.put ?_ _ (by first | omega | (simp only [hNw, hPt]; omega))))) qa1
    have a1 : (Ha1.get (W.next)).bind AObj.cs = some [cv, I (L : Int)] := by rw [qa1.ext.get _ (by first | omega | (simp only [hNw, hPt]; omega))]; first | assumption | (rw [gn0]; rfl) | (rw [get_put_eq] <;> rfl) | (simp (disch := first | omega | (simp only [hNw, hPt]; omega)) only [gN] <;> first | rfl | assumption | (rw [get_put_eq] <;> rfl))
    have ma1 := fa1.now (Nat.le_refl _)
    refine oM rfl rfl ?_; refine oE rfl rfl rfl rfl rfl (c36 (m + 1) cv1 cols fa L _ ma1 hv hf hre) ?_
    rintro _ Ht ⟨tv9, rfl, qt, ht9⟩
    have n2 := qt.ext.next
    try simp only [hNw, hPt] at n2
    have gg2 : Grow W Ht := Grow.ret (by (try dsimp only); repeat (first | exact gg1 | apply Grow.new | (refine Grow.put ?_ _ (by first | omega | (simp only [hNw, hPt]; omega))))) qt
    have a2 : (Ht.get (W.next)).bind AObj.cs = some [cv, I (L : Int)] := by rw [qt.ext.get _ (by first | omega | (simp only [hNw, hPt]; omega))]; first | assumption | (rw [gn0]; rfl) | (rw [get_put_eq] <;> rfl) | (simp (disch := first | omega | (simp only [hNw, hPt]; omega)) only [gN] <;> first | rfl | assumption | (rw [get_put_eq] <;> rfl))
    have lt9 := ht9.len
    have pt9 : tv9.plain = true := lpl lt9
    refine oM rfl rfl ?_; refine OkO.extract rfl rfl rfl ?_; refine OkO.extract rfl rfl rfl ?_; refine oA rfl rfl ?_; refine oA rfl rfl ?_; refine oN ?_; refine kS ?_; refine kR ?_; refine oL rfl rfl (qlg7 2) ?_; refine oV rfl rfl rfl rfl rfl ((c23 (m + 210) cv cols (L : Int) _ (hM.ext (hE _ (by (try dsimp only); repeat (first | exact gg2 | apply Grow.new | (refine Grow.put ?_ _ (by first | omega | (simp only [hNw, hPt]; omega)))))))).trans (by rw [hv])) ?_; refine oM rfl rfl ?_; refine oM rfl rfl ?_; refine oV rfl rfl rfl rfl rfl ((c37 (m + 211) fa 0 10000 _).trans (by rw [hin])) ?_; refine OkO.pick (b := true) rfl rfl (fun _ => rfl) nofun ?_; refine oA rfl rfl ?_; refine oN ?_; refine kS ?_; refine kS ?_; refine kR ?_; refine oM rfl rfl ?_; refine OkO.un rfl rfl rfl ?_; refine oN ?_; refine Ok.condF rfl ?_; refine Ok.skip ?_; refine kS ?_; refine kS ?_; refine Ok.drawn [(0, true, []), (1, true, []), (2, true, []), (3, true, []), (4, true, []), (5, true, []), (6, true, []), (7, true, []), (8, true, []), (9, true, []), (10, true, []), (11, true, []), (12, true, []), (13, false, [7]), (14, true, []), (15, true, []), (16, true, []), (17, true, []), (18, true, []), (20, true, []), (19, false, [17, 12, 7]), (21, false, [18, 12, 7]), (22, true, []), (23, true, []), (24, true, [])] (by kernel_rfl) ?_; refine pS ?_; refine oM rfl rfl ?_; refine oN ⟨rfl, ?_⟩; refine pS ?_; refine OkO.bin rfl rfl rfl ((bin_neq _ _).trans (congrArg (fun b => some (AV.bool b)) (show _ = false from (by rfl)))) ?_; refine oN ⟨rfl, ?_⟩; refine pS ?_; refine oM rfl rfl ?_; refine oN ⟨rfl, ?_⟩; refine pS ?_; refine oK rfl ?_; refine oN ⟨rfl, ?_⟩; refine pS ?_; refine oK rfl ?_; refine oN ⟨rfl, ?_⟩; refine pS ?_; refine oK rfl ?_; refine oN ⟨rfl, ?_⟩; refine pS ?_; refine oK rfl ?_; refine oN ⟨rfl, ?_⟩; refine pS ?_; refine oK rfl ?_; refine oN ⟨rfl, ?_⟩; refine pS ?_; refine oK rfl ?_; refine oN ⟨rfl, ?_⟩; refine pS ?_; refine oK rfl ?_; refine oN ⟨rfl, ?_⟩; refine pS ?_; refine OkO.pick (b := false) rfl rfl nofun (fun _ => rfl) ?_; refine oN ⟨rfl, ?_⟩; refine pS ?_; refine oM rfl rfl ?_; refine oN ⟨rfl, ?_⟩; refine pS ?_; refine oL rfl rfl (qlg7 2) ?_; refine oN ⟨rfl, ?_⟩; refine pS ?_; refine oV rfl rfl rfl rfl rfl ((c30 (m + 208) cv cols (L : Int) _ (hM.ext (hE _ (by (try dsimp only); repeat (first | exact gg2 | apply Grow.new | (refine Grow.put ?_ _ (by first | omega | (simp only [hNw, hPt]; omega)))))))).trans (by rw [hfew])) ?_
    refine oN ⟨(sco (ssk rfl) rfl), ?_⟩; refine pS ?_; refine oM rfl rfl ?_; refine oN ⟨rfl, ?_⟩; refine pS ?_; refine oM rfl rfl ?_; refine oN ⟨rfl, ?_⟩; refine pS ?_; refine OkO.bin rfl rfl rfl ((bin_eql _ _).trans (congrArg (fun b => some (AV.bool b)) (show _ = true from (by rfl)))) ?_; refine oN ⟨rfl, ?_⟩; refine pS ?_; refine oL rfl rfl (qlg7 2) ?_; refine oN ⟨rfl, ?_⟩; refine pS ?_; refine oL rfl rfl (qlg7 2) ?_; refine oN ⟨rfl, ?_⟩; refine pS ?_; refine oM rfl rfl ?_; refine oN ⟨rfl, ?_⟩; refine pS ?_; refine oE rfl rfl rfl rfl rfl (c33 (m + 196) cv cols (L : Int) _ (hM.ext (hE _ (by (try dsimp only); repeat (first | exact gg2 | apply Grow.new | (refine Grow.put ?_ _ (by first | omega | (simp only [hNw, hPt]; omega))))))) hv hq) ?_
    rintro v33 H33 ⟨Q, q33, hA33, hS33, hl33⟩
    have n3 := q33.ext.next
    try simp only [hNw, hPt] at n3
    have gg3 : Grow W H33 := Grow.ret (by (try dsimp only); repeat (first | exact gg2 | apply Grow.new | (refine Grow.put ?_ _ (by first | omega | (simp only [hNw, hPt]; omega))))) q33
    have a3 : (H33.get (W.next)).bind AObj.cs = some [cv, I (L : Int)] := by rw [q33.ext.get _ (by first | omega | (simp only [hNw, hPt]; omega))]; first | assumption | (rw [gn0]; rfl) | (rw [get_put_eq] <;> rfl) | (simp (disch := first | omega | (simp only [hNw, hPt]; omega)) only [gN] <;> first | rfl | assumption | (rw [get_put_eq] <;> rfl))
    have exHt3 : Ext Ht H33 := Ext.trans (by (try dsimp only); repeat (first | exact Ext.refl _ | exact Ext.refl _ | apply Ext.new | (refine Ext.put ?_ _ (by first | omega | (simp only [hNw, hPt]; omega))))) q33.ext
    have pv33 := lpl hA33.elems.2
    have v33o := hA33.1.one
    refine oN ⟨(sco (qsg6 2 rfl rfl rfl) (sco (qsg6 2 rfl rfl rfl) (sco (ssk rfl) rfl))), ?_⟩; refine pS ?_; refine oV rfl rfl rfl rfl rfl ((c40 (m + 207) cv v33 cols (L : Int) fa Q _ (hM.ext (hE _ (by (try dsimp only); repeat (first | exact gg3 | apply Grow.new | (refine Grow.put ?_ _ (by first | omega | (simp only [hNw, hPt]; omega))))))) hv (hA33.low (Nat.zero_le _)) hS33 hl33 hf).trans (by rw [hb9])) ?_
    refine oN ⟨(sco (qsg6 2 rfl rfl rfl) (sco (qsg6 2 rfl rfl rfl) (sco (ssk rfl) rfl))), ?_⟩; refine pS ?_; refine OkO.binT rfl rfl rfl ((bin4n' _ _).trans (congrArg (fun b => some (AV.bool b)) (show _ = false from (by rfl)))) ?_; refine oN ⟨rfl, ?_⟩; refine pS ?_; refine OkO.pick (b := true) rfl rfl (fun _ => rfl) nofun ?_; refine oN ⟨rfl, ?_⟩; refine pS ?_; refine OkO.pick (b := false) rfl rfl nofun (fun _ => rfl) ?_; refine oN ⟨rfl, ?_⟩; refine OkP.nil ?_; refine Ok.condF rfl ?_; refine Ok.skip ?_; refine kS ?_; refine kS ?_; refine kR ?_; refine oM rfl rfl ?_; refine OkO.bin rfl rfl rfl ((bin_eql _ _).trans (congrArg (fun b => some (AV.bool b)) (show _ = true from (by rfl)))) ?_; refine oN ?_; refine Ok.condT rfl ?_; refine kS ?_; refine kS ?_; refine Ok.drawn [(0, true, []), (1, true, []), (2, true, []), (3, false, [0]), (4, false, []), (5, true, [])] (by kernel_rfl) ?_; refine pS ?_; refine oL rfl rfl (qlg7 2) ?_; refine oN ⟨rfl, ?_⟩; refine pS ?_; refine oM rfl rfl ?_; refine oN ⟨rfl, ?_⟩; refine pS ?_; refine oM rfl rfl ?_; refine oN ⟨rfl, ?_⟩; refine pS ?_; refine oE rfl rfl rfl rfl rfl (c39 (m + 210) tv9 _ _ (ht9.ext (by (try dsimp only); repeat (first | exact exHt3 | exact Ext.refl _ | apply Ext.new | (refine Ext.put ?_ _ (by first | omega | (simp only [hNw, hPt]; omega)))))) (by simp [tabL]; omega) (fun R hR => by (have h9 := (tabL_len R hR).1); omega) (fun R hR l hl => by (have h9 := (tabL_len R hR).2 l hl); omega)) ?_
    rintro tx Hx ⟨qx, htx⟩
    have n4 := qx.ext.next
    try simp only [hNw, hPt] at n4
    have gg4 : Grow W Hx := Grow.ret (by (try dsimp only); repeat (first | exact gg3 | apply Grow.new | (refine Grow.put ?_ _ (by first | omega | (simp only [hNw, hPt]; omega))))) qx
    have a4 : (Hx.get (W.next)).bind AObj.cs = some [cv, I (L : Int)] := by rw [qx.ext.get _ (by first | omega | (simp only [hNw, hPt]; omega))]; first | assumption | (rw [gn0]; rfl) | (rw [get_put_eq] <;> rfl) | (simp (disch := first | omega | (simp only [hNw, hPt]; omega)) only [gN] <;> first | rfl | assumption | (rw [get_put_eq] <;> rfl))
    have exHt4 : Ext Ht Hx := Ext.trans (by (try dsimp only); repeat (first | exact exHt3 | exact Ext.refl _ | apply Ext.new | (refine Ext.put ?_ _ (by first | omega | (simp only [hNw, hPt]; omega))))) qx.ext
    have ltx := htx.len
    have ptx : tx.plain = true := lpl ltx
    refine oN ⟨(sco (qsg6 2 rfl rfl rfl) rfl), ?_⟩; refine pS ?_; refine oV rfl rfl rfl rfl rfl (c41G (m + 209) cv tx cols fa L _ (hM.ext (hE _ (by (try dsimp only); repeat (first | exact gg4 | apply Grow.new | (refine Grow.put ?_ _ (by first | omega | (simp only [hNw, hPt]; omega))))))) hv hf hb9 (htx.ext (by (try dsimp only); repeat (first | exact Ext.refl _ | exact Ext.refl _ | apply Ext.new | (refine Ext.put ?_ _ (by first | omega | (simp only [hNw, hPt]; omega))))))) ?_; refine oN ⟨rfl, ?_⟩; refine pS ?_; refine OkO.un rfl rfl rfl ?_; refine oN ⟨rfl, ?_⟩; refine OkP.nil ?_; refine Ok.condF rfl ?_; refine Ok.skip ?_; refine kS ?_; refine kR ?_; refine oM rfl rfl ?_; refine oN ?_; refine Ok.condT rfl ?_; refine kS ?_; refine kR ?_; refine oM rfl rfl ?_; refine oE rfl rfl rfl rfl rfl (c39L (m + 210) tv9 _ _ (ht9.ext (by (try dsimp only); repeat (first | exact exHt4 | exact Ext.refl _ | apply Ext.new | (refine Ext.put ?_ _ (by first | omega | (simp only [hNw, hPt]; omega)))))) (by simp [tabL]; omega) (fun R hR => by (have h9 := (tabL_len R hR).1); omega) (fun R hR l hl => by (have h9 := (tabL_len R hR).2 l hl); omega) (by simp [tabL]; omega)) ?_
    rintro ty Hy ⟨qy, fy⟩
    have n5 := qy.ext.next
    try simp only [hNw, hPt] at n5
    have gg5 : Grow W Hy := Grow.ret (by (try dsimp only); repeat (first | exact gg4 | apply Grow.new | (refine Grow.put ?_ _ (by first | omega | (simp only [hNw, hPt]; omega))))) qy
    have a5 : (Hy.get (W.next)).bind AObj.cs = some [cv, I (L : Int)] := by rw [qy.ext.get _ (by first | omega | (simp only [hNw, hPt]; omega))]; first | assumption | (rw [gn0]; rfl) | (rw [get_put_eq] <;> rfl) | (simp (disch := first | omega | (simp only [hNw, hPt]; omega)) only [gN] <;> first | rfl | assumption | (rw [get_put_eq] <;> rfl))
    obtain ⟨TL, hTL⟩ : ∃ TL, TL = tabL (prC cols fa) cols.length (cols.headD []).length L := ⟨_, rfl⟩
    rw [← hTL] at fy
    have hsh : shapeB cols.length (cols.headD []).length (L : Int) TL = true := by rw [hTL]; exact tabL_shape hBB (by omega)
    obtain ⟨hTn, hTr⟩ := shape_iff.1 hsh
    obtain ⟨r9, hr9⟩ : ∃ r9 : Nat, rw9 % ((L : Nat) : Int) = (r9 : Int) := ⟨(rw9 % ((L : Nat) : Int)).toNat, (Int.toNat_of_nonneg (Int.emod_nonneg _ (by omega))).symm⟩
    have lr9 : r9 < L := by (have h9 := Int.emod_lt_of_pos rw9 (b := ((L : Nat) : Int)) (by omega)); omega
    obtain ⟨c9, hc9⟩ : ∃ c9 : Nat, cn9 % ((cols.length : Nat) : Int) = (c9 : Int) := ⟨(cn9 % ((cols.length : Nat) : Int)).toNat, (Int.toNat_of_nonneg (Int.emod_nonneg _ (by omega))).symm⟩
    have lc9 : c9 < cols.length := by (have h9 := Int.emod_lt_of_pos cn9 (b := ((cols.length : Nat) : Int)) (by omega)); omega
    obtain ⟨k9, hk9⟩ : ∃ k9 : Nat, bd9 % (((cols.headD []).length : Nat) : Int) = (k9 : Int) := ⟨(bd9 % (((cols.headD []).length : Nat) : Int)).toNat, (Int.toNat_of_nonneg (Int.emod_nonneg _ (by omega))).symm⟩
    have lk9 : k9 < (cols.headD []).length := by (have h9 := Int.emod_lt_of_pos bd9 (b := (((cols.headD []).length : Nat) : Int)) (by omega)); omega
    have hrT : r9 < TL.length := by omega
    have hRN := hTr _ (List.getElem_mem hrT)
    have hcT : c9 < TL[r9].length := by rw [hRN.1]; exact lc9
    have hLN := hRN.2 _ (List.getElem_mem hcT)
    have hkT : k9 < TL[r9][c9].length := by rw [hLN.1]; exact lk9
    have hbd := hLN.2 _ (List.getElem_mem hkT)
    unfold bd15 at hbd
    have lty : lenOf ty = some L := by rw [(fy.now (Nat.le_refl _)).tab.len, hTn]
    have pty : ty.plain = true := lpl lty
    obtain ⟨rv, b1, o1, c1, b2, o2, c2, bw, w1, w2, w3, w4, w5, w6, w7, w8, w9, w10, w11, w12, w13⟩ := DN.write2 fy hrT hcT hkT
    rw [hRN.1] at w5
    have prv : rv.plain = true := lpl w5
    rw [hLN.1] at w8
    have w10b : (Hy.get bw).bind AObj.cs = some (TL[r9][c9].map fun y => I y) := by rw [w10]; rfl
    have w14 : (TL[r9][c9].map fun y => I y)[k9 * 1]? = some (I TL[r9][c9][k9]) := by rw [Nat.mul_one, List.getElem?_map, List.getElem?_eq_getElem hkT]; rfl
    have hw := w13 (TL[r9][c9][k9] + by9)
    have hlens := set_lens (k := k9) (z := (TL[r9][c9][k9] + by9)) (fun R hR => ⟨(hTr R hR).1, fun l hl => ((hTr R hR).2 l hl).1⟩) hrT hcT
    obtain ⟨TN, hTN⟩ : ∃ TN, TN = TL.set r9 (TL[r9].set c9 (TL[r9][c9].set k9 (TL[r9][c9][k9] + by9))) := ⟨_, rfl⟩
    rw [← hTN] at hw hlens
    have hTNl : TN.length = L := by rw [hTN, List.length_set]; exact hTn
    have hlt9 : k9 * 1 < (TL[r9][c9].map fun y => I y).length := by rw [List.length_map, Nat.mul_one]; exact hkT
    refine oA rfl rfl ?_; refine oN ?_; refine kS ?_; refine Ok.drawn [(0, true, []), (1, true, []), (2, true, []), (3, true, []), (4, true, []), (5, true, []), (6, true, []), (7, true, []), (8, true, []), (9, true, []), (10, true, []), (11, true, []), (12, true, []), (13, true, []), (14, true, []), (15, true, []), (16, true, [])] (by kernel_rfl) ?_; refine pS ?_; refine oM rfl rfl ?_; refine oN ⟨rfl, ?_⟩; refine pS ?_; refine oM rfl rfl ?_; refine oN ⟨rfl, ?_⟩; refine pS ?_; refine OkO.convert (k := .i64) rfl (by kernel_rfl) rfl (wrapF_i64 (by omega) (by omega)) ?_; refine oN ⟨rfl, ?_⟩; refine pS ?_; refine oM rfl rfl ?_; refine oN ⟨rfl, ?_⟩; refine pS ?_; refine oB rfl rfl rfl qbl ?_; refine oN ⟨rfl, ?_⟩; refine pS ?_; refine OkO.bin rfl rfl rfl (bin_rem (by omega) (by omega)) ?_; refine oN ⟨rfl, ?_⟩; refine pS ?_; refine qX (sz := 1) (n := r9) rfl rfl (congrArg (fun z => some (I z)) hr9) ?_; refine oN ⟨rfl, ?_⟩; refine pS ?_; refine oL rfl rfl (qla0 1) ?_; refine oN ⟨rfl, ?_⟩; refine pS ?_; refine oM rfl rfl ?_; refine oN ⟨rfl, ?_⟩; refine pS ?_; refine OkO.convert (k := .i64) rfl (by kernel_rfl) rfl (wrapF_i64 (by omega) (by omega)) ?_; refine oN ⟨rfl, ?_⟩; refine pS ?_; refine oF (o := 0) rfl (by kernel_rfl) rfl ?_; refine oN ⟨rfl, ?_⟩; refine pS ?_; refine oL rfl rfl (qla0 1) ?_; refine oN ⟨rfl, ?_⟩; refine pS ?_; refine oB rfl rfl rfl qbl ?_; refine oN ⟨rfl, ?_⟩; refine pS ?_; refine OkO.bin rfl rfl rfl (bin_rem (by omega) (by omega)) ?_; refine oN ⟨rfl, ?_⟩; refine pS ?_; refine qX (sz := 1) (n := c9) rfl rfl (congrArg (fun z => some (I z)) hc9) ?_; refine oN ⟨rfl, ?_⟩; refine pS ?_; refine oL rfl rfl (qla0 1) ?_; refine oN ⟨rfl, ?_⟩; refine pS ?_; refine oA rfl rfl ?_; refine oN ⟨rfl, ?_⟩; refine OkP.nil ?_; refine kR ?_; refine oM rfl rfl ?_; refine oM rfl rfl ?_; refine OkO.convert (k := .i64) rfl (by kernel_rfl) rfl (wrapF_i64 (by omega) (by omega)) ?_; refine oM rfl rfl ?_; refine oB rfl rfl rfl qbl ?_; refine OkO.bin rfl rfl rfl (bin_rem (by omega) (by omega)) ?_; refine qX (sz := 1) (n := k9) rfl rfl (congrArg (fun z => some (I z)) hk9) ?_; refine oL rfl rfl (qla0 1) ?_; refine oM rfl rfl ?_; refine OkO.convert (k := .i64) rfl (by kernel_rfl) rfl (wrapF_i64 (by omega) (by omega)) ?_; refine OkO.bin rfl rfl rfl (bin_add (by omega) (by omega)) ?_; refine qX (sz := 1) (n := k9) rfl rfl (congrArg (fun z => some (I z)) hk9) ?_; refine oT rfl rfl rfl (storeAt_opn (n := 1) (ag := false) (by kernel_rfl) w10 rfl rfl (spl_at1 hlt9)) ?_; refine oN ?_; refine kS ?_; refine Ok.drawn [(0, true, []), (2, true, []), (3, true, []), (6, true, []), (7, true, []), (8, true, []), (1, false, [6]), (4, false, [6, 0]), (5, false, [6, 0]), (9, false, [0]), (10, true, []), (11, true, []), (12, false, [6, 0]), (13, true, []), (14, true, [])] (by kernel_rfl) ?_; refine pS ?_; refine oL rfl rfl (qlg7 2) ?_; refine oN ⟨rfl, ?_⟩; refine pS ?_; refine oM rfl rfl ?_; refine oN ⟨rfl, ?_⟩; refine pS ?_; refine oM rfl rfl ?_; refine oN ⟨rfl, ?_⟩; refine pS ?_; refine oL rfl rfl (qlg7 2) ?_; refine oN ⟨rfl, ?_⟩; refine pS ?_; refine oM rfl rfl ?_; refine oN ⟨rfl, ?_⟩; refine pS ?_; refine oM rfl rfl ?_; refine oN ⟨rfl, ?_⟩; refine pS ?_; refine oE rfl rfl rfl rfl rfl (c19 (m + 210) cv cols (L : Int) _ (hM.ext (hE _ (by (try dsimp only); repeat (first | exact gg5 | apply Grow.new | (refine Grow.put ?_ _ (by first | omega | (simp only [hNw, hPt]; omega))))))) hth) ?_
    rintro _ Ha2 ⟨cv2, rfl, qa2, fa2⟩
    have n6 := qa2.ext.next
    try simp only [hNw, hPt] at n6
    have gg6 : Grow W Ha2 := Grow.ret (by (try dsimp only); repeat (first | exact gg5 | apply Grow.new | (refine Grow.put ?_ _ (by first | omega | (simp only [hNw, hPt]; omega))))) qa2
    have a6 : (Ha2.get (W.next)).bind AObj.cs = some [cv, I (L : Int)] := by rw [qa2.ext.get _ (by first | omega | (simp only [hNw, hPt]; omega))]; first | assumption | (rw [gn0]; rfl) | (rw [get_put_eq] <;> rfl) | (simp (disch := first | omega | (simp only [hNw, hPt]; omega)) only [gN] <;> first | rfl | assumption | (rw [get_put_eq] <;> rfl))
    have ma2 := fa2.now (Nat.le_refl _)
    refine oN ⟨(sco (qsg6 2 rfl rfl rfl) rfl), ?_⟩; refine pS ?_; refine oE rfl rfl rfl rfl rfl (c39 (m + 210) ty TN _ (hw.ext qa2.ext) (by omega) (fun R hR => by (have h9 := (hlens R hR).1); omega) (fun R hR l hl => by (have h9 := (hlens R hR).2 l hl); omega)) ?_
    rintro tc Hc ⟨qc, htc⟩
    have n7 := qc.ext.next
    try simp only [hNw, hPt] at n7
    have gg7 : Grow W Hc := Grow.ret (by (try dsimp only); repeat (first | exact gg6 | apply Grow.new | (refine Grow.put ?_ _ (by first | omega | (simp only [hNw, hPt]; omega))))) qc
    have a7 : (Hc.get (W.next)).bind AObj.cs = some [cv, I (L : Int)] := by rw [qc.ext.get _ (by first | omega | (simp only [hNw, hPt]; omega))]; first | assumption | (rw [gn0]; rfl) | (rw [get_put_eq] <;> rfl) | (simp (disch := first | omega | (simp only [hNw, hPt]; omega)) only [gN] <;> first | rfl | assumption | (rw [get_put_eq] <;> rfl))
    have exHa27 : Ext Ha2 Hc := Ext.trans (by (try dsimp only); repeat (first | exact Ext.refl _ | exact Ext.refl _ | apply Ext.new | (refine Ext.put ?_ _ (by first | omega | (simp only [hNw, hPt]; omega))))) qc.ext
    have lct := htc.len
    have pct : tc.plain = true := lpl lct
    refine oN ⟨(sco (qsg6 2 rfl rfl rfl) (sco (qsg6 2 rfl rfl rfl) rfl)), ?_⟩; refine pS ?_; refine oE rfl rfl rfl rfl rfl (c38X (m + 202) cv2 tc cols fa L TN _ (ma2.ext (by (try dsimp only); repeat (first | exact exHa27 | exact Ext.refl _ | apply Ext.new | (refine Ext.put ?_ _ (by first | omega | (simp only [hNw, hPt]; omega)))))) (htc.ext (by (try dsimp only); repeat (first | exact Ext.refl _ | exact Ext.refl _ | apply Ext.new | (refine Ext.put ?_ _ (by first | omega | (simp only [hNw, hPt]; omega)))))) (by omega) (fun R hR => by (have h9 := (hlens R hR).1); omega) (fun R hR l hl => by (have h9 := (hlens R hR).2 l hl); omega) hv hf) ?_
    rintro _ H38 ⟨bb, rfl, rfl, hbb⟩
    refine oN ⟨(sco (qsg6 2 rfl rfl rfl) (sco (qsg6 2 rfl rfl rfl) rfl)), ?_⟩; refine pS ?_; refine oE rfl rfl rfl rfl rfl (c41X (m + 209) cv ty cols fa L TN _ (hM.ext (hE _ (by (try dsimp only); repeat (first | exact gg7 | apply Grow.new | (refine Grow.put ?_ _ (by first | omega | (simp only [hNw, hPt]; omega))))))) ((hw.ext qa2.ext).ext qc.ext) hv hf) ?_
    rintro _ H41 ⟨b2, rfl, rfl, hb2⟩
    have hbe : b2 = bb := by (rw [Bool.eq_iff_iff]; exact hb2.trans hbb.symm)
    subst hbe
    refine oN ⟨(sco (qsg6 2 rfl rfl rfl) rfl), ?_⟩; refine pS ?_; refine OkO.binT rfl rfl rfl ((bin4e _ _).trans (congrArg (fun b => some (AV.bool b)) (show _ = true from (by exact beq_self_eq_true _)))) ?_; refine oN ⟨rfl, ?_⟩; refine pS ?_; refine oM rfl rfl ?_; refine oN ⟨rfl, ?_⟩; refine pS ?_; refine oV rfl rfl rfl rfl rfl (rfl) ?_
    refine oN ⟨(sco (qsg6 2 rfl rfl rfl) (sco (qsg6 2 rfl rfl rfl) rfl)), ?_⟩; refine pS ?_; refine OkO.pick (b := true) rfl rfl (fun _ => rfl) nofun ?_; refine oN ⟨rfl, ?_⟩; refine pS ?_; refine oA rfl rfl ?_; refine oN ⟨rfl, ?_⟩; refine OkP.nil ?_
    refine Ok.ret ⟨.inr rfl, ?_⟩
    exact back_flat rfl rfl rfl (by rw [← hW]; exact (by (try dsimp only); repeat (first | exact gg7 | apply Grow.new | (refine Grow.put ?_ _ (by first | omega | (simp only [hNw, hPt]; omega))))))
end
end Go.Ev

set_option maxRecDepth 100000
set_option linter.unusedSimpArgs false
set_option linter.unusedVariables false
namespace Go.Ev
open Go Go.Proofs
noncomputable section
theorem c6 (m : Nat) (cv tv : AV) (cols : List (List Bed)) (least fa : Int) (TT : List (List (List Int))) (own : Bool) (rw9 cn9 bd9 by9 : Int) (H : Heap) (hM : Mat H cv cols) (hT : Tab H tv TT) (hu1 : 0 ≤ rw9 ∧ rw9 ≤ 255) (hu2 : 0 ≤ cn9 ∧ cn9 ≤ 255) (hu3 : 0 ≤ bd9 ∧ bd9 ≤ 255) (hu4 : -128 ≤ by9 ∧ by9 ≤ 127) : RR (m + 213) (.fn 6 [.agg [cv, I least], I fa, tv, .bool own, U8 rw9, U8 cn9, U8 bd9, .int .i8 by9]) H = some (.bool true, H) := by
  cases hth : thinB cols with
  | false => exact c6W m cv tv cols least fa TT own rw9 cn9 bd9 by9 H hM hT hth
  | true =>
  by_cases hT5 : TT.length ≤ 5
  · cases hv : slOk cols least with
    | false => exact c6N1 m cv tv cols least fa TT own rw9 cn9 bd9 by9 H hM hT hth hT5 hv (by unfold reachE; simp [hv]) (by simp [hv])
    | true =>
    cases hin : inB fa 0 10000 with
    | false => exact c6N2 m cv tv cols least fa TT own rw9 cn9 bd9 by9 H hM hT hth hT5 hv hin (by unfold reachE; simp [hv, hin]) (by simp [hv, hin])
    | true =>
    have hf : 0 ≤ fa ∧ fa ≤ 10000 := by simpa [inB] using hin
    have hsf := slOk_facts hv
    obtain ⟨L, rfl⟩ : ∃ L : Nat, least = (L : Int) := ⟨least.toNat, (Int.toNat_of_nonneg (by omega)).symm⟩
    cases hb : belowB cols.length (cols.headD []).length (L : Int) (prC cols fa) with
    | true =>
      have hre : reachE cols (L : Int) fa = 10 := by unfold reachE; rw [if_pos hv, if_pos hin, if_pos hb]
      cases hfew : fewB cols (L : Int) with
      | false => exact c6QM m cv tv cols L fa TT own rw9 cn9 bd9 by9 H hM hT hth hT5 hv hin hf hfew hre hb
      | true => exact c6QF m cv tv cols L fa TT own rw9 cn9 bd9 by9 H hM hT hth hT5 hv hin hf hfew ((few_facts hfew).2 hv) hre hb
    | false =>
      have hre : reachE cols (L : Int) fa = 0 := by unfold reachE; rw [if_pos hv, if_pos hin, if_neg (by rw [hb]; simp)]
      cases hown : own with
      | false =>
        cases hfew : fewB cols (L : Int) with
        | false => exact c6PM m cv tv cols L fa TT _ rw9 cn9 bd9 by9 H hM hT hth hT5 hv hin hf hfew hre hb rfl
        | true => exact c6PF m cv tv cols L fa TT _ rw9 cn9 bd9 by9 H hM hT hth hT5 hv hin hf hfew ((few_facts hfew).2 hv) hre hb rfl
      | true =>
        cases hfew : fewB cols (L : Int) with
        | false => exact c6TM m cv tv cols L fa TT _ rw9 cn9 bd9 by9 H hM hT hth hT5 hv hin hf hfew hre hb rfl hu1 hu2 hu3 hu4
        | true => exact c6TF m cv tv cols L fa TT _ rw9 cn9 bd9 by9 H hM hT hth hT5 hv hin hf hfew ((few_facts hfew).2 hv) hre hb rfl hu1 hu2 hu3 hu4
  · exact c6V m cv tv cols least fa TT own rw9 cn9 bd9 by9 H hM hT hth (by omega)
end
end Go.Ev

set_option linter.unusedVariables false
namespace Go.Ev
open Go Go.Proofs Go.ChangeShapes Go.WideShapes Go.RowKit
section
variable {H : Type} {enc : TypeId × Value → H} {P : Program} {w : World} {base : Nat} {spare : Nat → Bool} {held : Bool}
/-- Eight parameters, each read for itself. -/
theorem trodAll_eight {t0 t1 t2 t3 t4 t5 t6 t7 : TypeId} {args : Array Value} {ds : List (DataW H)} {ps : List MemPlace} (h : DataW.TrodAll enc P w base spare held [t0, t1, t2, t3, t4, t5, t6, t7] args.toList ds ps) :
    ∃ v0 v1 v2 v3 v4 v5 v6 v7 d0 d1 d2 d3 d4 d5 d6 d7 p0 p1 p2 p3 p4 p5 p6 p7, args = #[v0, v1, v2, v3, v4, v5, v6, v7] ∧ ds = [d0, d1, d2, d3, d4, d5, d6, d7] ∧ ps = p0 ++ (p1 ++ (p2 ++ (p3 ++ (p4 ++ (p5 ++ (p6 ++ p7)))))) ∧ DataW.Trod enc P w base spare held t0 v0 d0 p0 ∧ DataW.Trod enc P w base spare held t1 v1 d1 p1 ∧ DataW.Trod enc P w base spare held t2 v2 d2 p2 ∧ DataW.Trod enc P w base spare held t3 v3 d3 p3 ∧ DataW.Trod enc P w base spare held t4 v4 d4 p4 ∧ DataW.Trod enc P w base spare held t5 v5 d5 p5 ∧ DataW.Trod enc P w base spare held t6 v6 d6 p6 ∧ DataW.Trod enc P w base spare held t7 v7 d7 p7 := by
  obtain ⟨v0, r0, d0, s0, p0, q0, hargs, rfl, rfl, h0, k0⟩ := trodAll_cons h
  obtain ⟨v1, r1, d1, s1, p1, q1, e1, rfl, rfl, h1, k1⟩ := trodAll_cons k0
  obtain ⟨v2, r2, d2, s2, p2, q2, e2, rfl, rfl, h2, k2⟩ := trodAll_cons k1
  obtain ⟨v3, r3, d3, s3, p3, q3, e3, rfl, rfl, h3, k3⟩ := trodAll_cons k2
  obtain ⟨v4, r4, d4, s4, p4, q4, e4, rfl, rfl, h4, k4⟩ := trodAll_cons k3
  obtain ⟨v5, r5, d5, s5, p5, q5, e5, rfl, rfl, h5, k5⟩ := trodAll_cons k4
  obtain ⟨v6, r6, d6, s6, p6, q6, e6, rfl, rfl, h6, k6⟩ := trodAll_cons k5
  obtain ⟨v7, r7, d7, s7, p7, q7, e7, rfl, rfl, h7, k7⟩ := trodAll_cons k6
  obtain ⟨e8, rfl, rfl⟩ := trodAll_nil k7
  subst e8
  subst e7
  subst e6
  subst e5
  subst e4
  subst e3
  subst e2
  subst e1
  exact ⟨v0, v1, v2, v3, v4, v5, v6, v7, d0, d1, d2, d3, d4, d5, d6, d7, p0, p1, p2, p3, p4, p5, p6, p7, by cases args; simp_all, rfl, by simp, h0, h1, h2, h3, h4, h5, h6, h7⟩
theorem trodAll_mk8 {t0 t1 t2 t3 t4 t5 t6 t7 : TypeId} {v0 v1 v2 v3 v4 v5 v6 v7 : Value} {d0 d1 d2 d3 d4 d5 d6 d7 : DataW H} {p0 p1 p2 p3 p4 p5 p6 p7 : List MemPlace} (h0 : DataW.Trod enc P w base spare held t0 v0 d0 p0) (h1 : DataW.Trod enc P w base spare held t1 v1 d1 p1) (h2 : DataW.Trod enc P w base spare held t2 v2 d2 p2) (h3 : DataW.Trod enc P w base spare held t3 v3 d3 p3) (h4 : DataW.Trod enc P w base spare held t4 v4 d4 p4) (h5 : DataW.Trod enc P w base spare held t5 v5 d5 p5) (h6 : DataW.Trod enc P w base spare held t6 v6 d6 p6) (h7 : DataW.Trod enc P w base spare held t7 v7 d7 p7) :
    DataW.TrodAll enc P w base spare held [t0, t1, t2, t3, t4, t5, t6, t7] [v0, v1, v2, v3, v4, v5, v6, v7] [d0, d1, d2, d3, d4, d5, d6, d7] (p0 ++ (p1 ++ (p2 ++ (p3 ++ (p4 ++ (p5 ++ (p6 ++ p7))))))) :=
  ⟨p0, _, h0, ⟨p1, _, h1, trodAll_mk6 h2 h3 h4 h5 h6 h7, rfl⟩, rfl⟩
end
section
variable {H0 : Type} {enc : TypeId × Value → H0} {w : World} {base n : Nat} {sp : Nat → Bool} {hd : Bool}
theorem i8_arg {H : Heap} (hs : Snap w H) {v : Value} {d : DataW H0} {p : List MemPlace} (hv : ∃ n, v = .int .i8 n) (h : DataW.Trod enc Try.prog w base sp hd 61 v d p) : ∃ x : Int, argAV w.heap.size v = .int .i8 x ∧ -128 ≤ x ∧ x ≤ 127 := by
  obtain ⟨n, rfl⟩ := hv
  obtain ⟨fuel, h⟩ := h
  obtain ⟨x, h1, _, hw⟩ := DataW.trod_int Try.underlying61 h
  have h2 : (decide (IntKind.min .i8 ≤ x) && decide (x ≤ IntKind.max .i8)) = true := hw
  rw [Bool.and_eq_true] at h2
  have h3 := of_decide_eq_true h2.1
  have h4 := of_decide_eq_true h2.2
  have e1 : IntKind.min .i8 = -128 := by decide
  have e2 : IntKind.max .i8 = 127 := by decide
  have h1' : ([Value.int .i8 n] : List Value) = [.int .i8 x] := h1
  have e0 : n = x := by simpa using h1'
  subst e0
  exact ⟨n, rfl, by omega⟩
theorem bool_arg {H : Heap} (hs : Snap w H) {v : Value} {d : DataW H0} {p : List MemPlace} (hv : ∃ b, v = .bool b) (h : DataW.Trod enc Try.prog w base sp hd 4 v d p) : ∃ x : Bool, argAV w.heap.size v = .bool x := by
  obtain ⟨b, rfl⟩ := hv
  exact ⟨b, rfl⟩
end
end Go.Ev

