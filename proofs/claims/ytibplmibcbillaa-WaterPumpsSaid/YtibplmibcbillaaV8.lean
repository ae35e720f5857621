/-
  Functions of the program, reckoned by the evaluator: what each answers, and that it leaves what came in as it was (part 8).
-/
import Derived.Test.YtibplmibcbillaaV7
set_option maxRecDepth 100000
set_option linter.unusedSimpArgs false
set_option linter.unusedVariables false
namespace Go.Ev
open Go Go.Proofs
noncomputable section
noncomputable def as54 : Code := match Try.f54.body.bind rangeOf with | some r => r.1 | none => .skip
noncomputable def bd54 : Code := match Try.f54.body.bind rangeOf with | some r => r.2 | none => .skip
/-- What a run has made when some days have passed. -/
structure RunJ (W : Heap) (N : Nat) (fc : List AV) (T0 : Tr AV) (lev : Nat → List Int) (ev : Nat → List AV) (i : Nat) (G : Heap) : Prop where
  ext : Ext W G
  n : N + 6 ≤ G.next
  b0 : G.get N = some (.cells fc 110)
  b1 : G.get (N + 1) = some (.cells ((lev i).map I) 113)
  b2 : ∃ v, G.get (N + 2) = some (.cells [v] 108) ∧ Mine (N + 6) G v 115 10 ((List.range i).map ev).flatten
  b3 : G.get (N + 3) = some (.cells fc 110)
  b4 : G.get (N + 4) = some .defd
  b5 : G.get (N + 5) = some (.loop .ready none T0 [15, 16] as54 bd54 (N + 4))
theorem RunJ.to {W : Heap} {N : Nat} {fc : List AV} {T0 : Tr AV} {lev : Nat → List Int} {ev : Nat → List AV} {i : Nat} {G G' : Heap} (h : RunJ W N fc T0 lev ev i G) (g : Ext G G') : RunJ W N fc T0 lev ev i G' := by
  have hn := h.n
  obtain ⟨v, h2, h3⟩ := h.b2
  exact ⟨h.ext.trans g, Nat.le_trans hn g.next, by rw [g.get _ (by omega)]; exact h.b0, by rw [g.get _ (by omega)]; exact h.b1, ⟨v, by rw [g.get _ (by omega)]; exact h2, h3.to g⟩, by rw [g.get _ (by omega)]; exact h.b3, by rw [g.get _ (by omega)]; exact h.b4, by rw [g.get _ (by omega)]; exact h.b5⟩
/-- The levels after some days, and what left on one. -/
def levP (cs : List Cell) (g : Gr) (ds : List Day) (t : Tru) (lvs rain : List Int) : Nat → List Int
  | 0 => lvs ++ List.replicate (8 - lvs.length) 0
  | i + 1 => dayL cs (levP cs g ds t lvs rain i) (downP g.melt ds rain t.snow i) t.soak
def leftD (cs : List Cell) (g : Gr) (ds : List Day) (t : Tru) (lvs rain : List Int) (i : Nat) : Int := dayO cs (levP cs g ds t lvs rain i) (downP g.melt ds rain t.snow i) t.soak
def evC (cs : List Cell) (g : Gr) (ds : List Day) (t : Tru) (lvs rain : List Int) (i : Nat) : List AV := (levP cs g ds t lvs rain (i + 1)).map I ++ [I (leftD cs g ds t lvs rain i), I (snowP g.melt ds rain t.snow (i + 1))]
/-- A truth that a run can take. -/
structure Fit (cs : List Cell) (g : Gr) (ds : List Day) (t : Tru) (lvs rain : List Int) : Prop where
  n8 : 1 ≤ cs.length ∧ cs.length ≤ 8
  lim : ∀ x ∈ cs, x.lim
  to_ : toOk (cs.length : Int) 0 cs = true
  melt : 0 ≤ g.melt ∧ g.melt ≤ 50
  d30 : ds.length ≤ 30
  dlim : ∀ x ∈ ds, x.lim
  ll : lvs.length = cs.length
  lb : ∀ (i : Nat) x n, cs[i]? = some x → lvs[i]? = some n → 0 ≤ n ∧ n ≤ x.cap
  rl : rain.length = ds.length
  rb : Upto 1000 rain
  snow : 0 ≤ t.snow ∧ t.snow ≤ 100000
  soak : 0 ≤ t.soak ∧ t.soak ≤ 1000
theorem cut_cap {cs : List Cell} {a : List Int} {k : Int} (hc : ∀ x ∈ cs, x.lim) (h : Upto k a) (hk : 0 ≤ k) (ha : a.length = 8) (hn : cs.length ≤ 8) : ∀ i, i ≤ cs.length → (∀ j, j < i → (cutP cs a i).getD j 0 ≤ (cs.getD j default).cap ∧ (cutP cs a i).getD j 0 = min (a.getD j 0) (cs.getD j default).cap) ∧ ∀ j, i ≤ j → (cutP cs a i).getD j 0 = a.getD j 0
  | 0, _ => ⟨nofun, fun _ _ => rfl⟩
  | i + 1, hi => by
    obtain ⟨h1, h2⟩ := cut_cap hc h hk ha hn i (by omega)
    have hlen := cut_len cs a i
    have e : ∀ j, (cutP cs a (i + 1)).getD j 0 = if i = j then (cutP cs a i).getD i 0 - max ((cutP cs a i).getD i 0 - (cs.getD i default).cap) 0 else (cutP cs a i).getD j 0 := by
      intro j
      rw [cutP, List.getD_eq_getElem?_getD, List.getElem?_set]
      split
      · rename_i hij
        rw [if_pos (by omega)]
        rfl
      · rw [← List.getD_eq_getElem?_getD]
    refine ⟨fun j hj => ?_, fun j hj => ?_⟩
    · rw [e j]
      split
      · rename_i hij
        subst hij
        rw [h2 i (Nat.le_refl _)]
        omega
      · exact h1 j (by omega)
    · rw [e j, if_neg (by omega)]
      exact h2 j (by omega)
theorem upto_lev {a : List Int} (h : ∀ j, 0 ≤ a.getD j 0 ∧ a.getD j 0 ≤ 100000) : Upto 100000 a := fun z hz => by
  obtain ⟨j, hj, rfl⟩ := List.mem_iff_getElem.1 hz
  have := h j
  rwa [List.getD_eq_getElem?_getD, List.getElem?_eq_getElem hj] at this
/-- What is in the places of an array that no cell has. -/
def Zed (n : Nat) (a : List Int) : Prop := ∀ j, n ≤ j → a.getD j 0 = 0
theorem aft_zed {cs : List Cell} {bef : List Int} {so : Int} (ht : toOk (cs.length : Int) 0 cs = true) : ∀ i, i ≤ cs.length → Zed cs.length (aftP cs bef so i)
  | 0, _ => fun j _ => by
    rw [aftP, List.getD_eq_getElem?_getD]
    match j with
    | 0 | 1 | 2 | 3 | 4 | 5 | 6 | 7 => rfl
    | j + 8 => rfl
  | i + 1, hi => by
    have h := aft_zed (so := so) (bef := bef) ht i (by omega)
    have hx : cs.getD i default = cs[i]'(by omega) := by simp [show i < cs.length from by omega]
    have hto := (toOk_iff _ _ _).1 ht i (cs[i]'(by omega)) (List.getElem?_eq_getElem (by omega))
    have hz : ∀ (a : List Int) (k : Nat) (z : Int), k < cs.length → Zed cs.length a → Zed cs.length (a.set k z) := by
      intro a k z hk ha j hj
      rw [List.getD_eq_getElem?_getD, List.getElem?_set, if_neg (by omega), ← List.getD_eq_getElem?_getD]
      exact ha j hj
    rw [aftP, stepA, hx]
    refine hz _ _ _ (by omega) ?_
    split
    · exact h
    · rename_i hne
      refine hz _ _ _ ?_ h
      have := hto.1
      simp [inB] at this
      omega
theorem day_facts {cs : List Cell} {bef : List Int} {down soak : Int} (hc : ∀ x ∈ cs, x.lim) (ht : toOk (cs.length : Int) 0 cs = true) (hn : cs.length ≤ 8) (hb : Upto 100000 bef) (hd : 0 ≤ down ∧ down ≤ 4000) (hs : 0 ≤ soak ∧ soak ≤ 1000) :
    (dayL cs bef down soak).length = 8 ∧ Upto 100000 (dayL cs bef down soak) ∧ (∀ j, j < cs.length → (dayL cs bef down soak).getD j 0 = min ((aftP cs bef (down * soak / 1000) cs.length).getD j 0) (cs.getD j default).cap) ∧ Zed cs.length (dayL cs bef down soak) := by
  have hmb := mul_bd (a := down) (b := soak) (p := 4000) (q := 1000) hd hs
  have hA := aft_bd (so := down * soak / 1000) hc hb (by omega) cs.length (Nat.le_refl _)
  have hl := aft_len cs bef (down * soak / 1000) cs.length
  obtain ⟨h1, h2⟩ := cut_cap hc hA (by omega) hl hn cs.length (Nat.le_refl _)
  have hz := aft_zed (so := down * soak / 1000) (bef := bef) ht cs.length (Nat.le_refl _)
  have hcut := cut_bd hc hA (by omega) cs.length (Nat.le_refl _)
  refine ⟨by unfold dayL; rw [cut_len, hl], upto_lev fun j => ?_, fun j hj => (h1 j hj).2, fun j hj => by unfold dayL; rw [h2 j hj]; exact hz j hj⟩
  unfold dayL
  have h0 := hcut.getD (by omega) j
  by_cases hj : j < cs.length
  · have h3 := (h1 j hj).1
    have hx : cs.getD j default = cs[j] := by simp [hj]
    have h4 := hc (cs.getD j default) (by rw [hx]; exact List.getElem_mem _)
    unfold Cell.lim at h4
    omega
  · rw [h2 j (by omega), hz j (by omega)]; omega
theorem lev_facts {cs : List Cell} {g : Gr} {ds : List Day} {t : Tru} {lvs rain : List Int} (h : Fit cs g ds t lvs rain) : ∀ i, i ≤ ds.length → (levP cs g ds t lvs rain i).length = 8 ∧ Upto 100000 (levP cs g ds t lvs rain i)
  | 0, _ => by
    have hn := h.n8
    have hl := h.ll
    refine ⟨by simp [levP]; omega, fun z hz => ?_⟩
    rw [levP] at hz
    rcases List.mem_append.1 hz with hz | hz
    · obtain ⟨j, hj, rfl⟩ := List.mem_iff_getElem.1 hz
      have h1 := h.lb j (cs[j]'(by omega)) lvs[j] (List.getElem?_eq_getElem (by omega)) (List.getElem?_eq_getElem hj)
      have h2 := h.lim _ (List.getElem_mem (show j < cs.length by omega))
      unfold Cell.lim at h2
      omega
    · have := (List.mem_replicate.1 hz).2; omega
  | i + 1, hi => by
    have h1 := lev_facts h i (by omega)
    have h2 := day_facts (down := downP g.melt ds rain t.snow i) (soak := t.soak) h.lim h.to_ h.n8.2 h1.2 (down_bd h.melt h.dlim h.rb h.snow i (by omega)) h.soak
    rw [levP]
    exact ⟨h2.1, h2.2.1⟩
theorem Mine.newPut {k0 : Nat} {G : Heap} {v : AV} {e : TypeId} {sz : Nat} {cs : List AV} (h : Mine k0 G v e sz cs) {n : Nat} (o : AObj) (hn : G.next ≤ n) : Mine k0 (G.put n o) v e sz cs := by
  rcases h with h | ⟨b, m, h1, h2, h3, h4, h5⟩
  · exact .inl h
  · exact .inr ⟨b, m, h1, by rw [gpo _ _ _ _ (by omega)]; exact h2, h3, h4, by simpa using h5⟩
theorem r54 (m N i : Nat) (cv dv lv rv : AV) (cs : List Cell) (g : Gr) (ds : List Day) (t : Tru) (lvs rain : List Int) (T0 : Tr AV) (W G : Heap) (hR : Row W cv 7 (cs.map Cell.c)) (hF : Fit cs g ds t lvs rain) (hN : W.next = N) (hi : i < ds.length) (hH : Has 5 [(1, .ptr N 0), (3, .ptr (N + 1) 0), (4, .ptr (N + 2) 0)] T0) (hJ : RunJ W N [cv, I g.slo, I g.shi, I g.klo, I g.khi, I g.melt, dv, I t.snow, I t.soak, lv, rv] T0 (levP cs g ds t lvs rain) (evC cs g ds t lvs rain) i G) (hlo : N ≤ G.lo) :
    ∃ v H', RR (m + 3) (.round (N + 5) [I (downP g.melt ds rain t.snow i), I (snowP g.melt ds rain t.snow (i + 1))]) G = some (v, H') ∧ v = .bool true ∧ RunJ W N [cv, I g.slo, I g.shi, I g.klo, I g.khi, I g.melt, dv, I t.snow, I t.soak, lv, rv] T0 (levP cs g ds t lvs rain) (evC cs g ds t lvs rain) (i + 1) H' ∧ N ≤ H'.lo ∧ H'.lo ≤ N + 5 ∧ G.next ≤ H'.next := by
  show ∃ v H', evRound Try.prog (RR (m + 2)) (N + 5) [I (downP g.melt ds rain t.snow i), I (snowP g.melt ds rain t.snow (i + 1))] G = some (v, H') ∧ v = .bool true ∧ RunJ W N [cv, I g.slo, I g.shi, I g.klo, I g.khi, I g.melt, dv, I t.snow, I t.soak, lv, rv] T0 (levP cs g ds t lvs rain) (evC cs g ds t lvs rain) (i + 1) H' ∧ N ≤ H'.lo ∧ H'.lo ≤ N + 5 ∧ G.next ≤ H'.next
  subst hN
  obtain ⟨f, hT⟩ := hH
  subst hT
  obtain ⟨N, hN⟩ : ∃ N, N = W.next := ⟨_, rfl⟩
  rw [← hN] at hJ hlo ⊢
  have hg : Grow W G := ⟨hJ.ext.next, hJ.ext.get, by omega⟩
  have hn6 := hJ.n
  have f0 := hJ.b0
  have f1 := hJ.b1
  obtain ⟨v0, f2, hmv⟩ := hJ.b2
  have hmv2 : ∀ o, Mine (N + 6) (G.put (N + 5) o) v0 115 10 _ := fun o => hmv.put o (by omega)
  have f3 := hJ.b3
  have f4 := hJ.b4
  have f5 := hJ.b5
  have hlf := lev_facts hF i (by omega)
  have hdb := down_bd hF.melt hF.dlim hF.rb hF.snow i hi
  have hdf := day_facts (down := (downP g.melt ds rain t.snow i)) (soak := t.soak) hF.lim hF.to_ hF.n8.2 hlf.2 hdb hF.soak
  obtain ⟨a0, a1, a2, a3, a4, a5, a6, a7, hA⟩ := list8 hdf.1
  obtain ⟨p0, p1, p2, p3, p4, p5, p6, p7, hP⟩ := list8 hlf.1
  have hL1 : levP cs g ds t lvs rain (i + 1) = [a0, a1, a2, a3, a4, a5, a6, a7] := hA
  have hE1 : (List.map (evC cs g ds t lvs rain) [i]).flatten = [I a0, I a1, I a2, I a3, I a4, I a5, I a6, I a7, I (leftD cs g ds t lvs rain i), I (snowP g.melt ds rain t.snow (i + 1))] := by simp [evC, hL1]
  have hc82 : ∀ G', Ext W G' → RR (m + 2) (.fn 82 [.agg [cv, I g.slo, I g.shi, I g.klo, I g.khi, I g.melt, dv, I t.snow, I t.soak, lv, rv], .agg ([p0, p1, p2, p3, p4, p5, p6, p7].map I), I (downP g.melt ds rain t.snow i)]) G' = some (.agg [I a0, I a1, I a2, I a3, I a4, I a5, I a6, I a7, I (leftD cs g ds t lvs rain i), I 0], G') := fun G' hx => by
    have q := c82 m cv dv lv rv cs g t (levP cs g ds t lvs rain i) (downP g.melt ds rain t.snow i) G' (hR.ext hx) hF.n8.2 hF.lim hF.to_ hlf.1 hlf.2 hdb hF.soak
    rw [hA, hP] at q
    rw [show leftD cs g ds t lvs rain i = dayO cs [p0, p1, p2, p3, p4, p5, p6, p7] (downP g.melt ds rain t.snow i) t.soak from by rw [← hP]; rfl]
    exact q
  rw [hP] at f1
  have hml : ((List.range i).map (evC cs g ds t lvs rain)).flatten.length = i * 10 := by
    rw [flat_len _ 10 (fun x hx => by simp only [List.mem_map, List.mem_range] at hx; obtain ⟨y, hy, rfl⟩ := hx; have := lev_facts hF (y + 1) (by omega); simp [evC, this.1])]; simp
  have hi30 := hF.d30
  have e0 : (G.get N).bind AObj.cs = some [cv, I g.slo, I g.shi, I g.klo, I g.khi, I g.melt, dv, I t.snow, I t.soak, lv, rv] := by rw [f0]; rfl
  have e1 : (G.get (N + 1)).bind AObj.cs = some ([p0, p1, p2, p3, p4, p5, p6, p7].map I) := by rw [f1]; rfl
  have e2 : (G.get (N + 2)).bind AObj.cs = some [v0] := by rw [f2]; rfl
  refine round_ok f5 rfl ?_
  refine Ok.seq ?_
  refine Ok.region ?_
  refine OkO.assign rfl rfl ?_
  refine OkO.nil ?_
  refine Ok.region ?_
  refine OkO.assign rfl rfl ?_
  refine OkO.nil ?_
  refine ⟨rfl, _, _, _, _, _, _, hJ.b5, ?_⟩
  refine Ok.block ?_
  refine Ok.seq ?_
  refine Ok.region ?_
  refine OkO.load rfl rfl (ldg (n := 11) (by kernel_rfl) (by first | assumption | (simp (disch := first | omega | (simp only [hNw, hPt]; omega)) only [gn0, gn1, gn2, gn3, gn4, gn5, gp0, gno, gpo] <;> first | rfl | assumption)) (by first | rfl | assumption)) ?_
  refine OkO.load rfl rfl (ldg (n := 8) (by kernel_rfl) (by first | assumption | (simp (disch := first | omega | (simp only [hNw, hPt]; omega)) only [gn0, gn1, gn2, gn3, gn4, gn5, gp0, gno, gpo] <;> first | rfl | assumption)) (by first | rfl | assumption)) ?_
  refine OkO.move rfl rfl ?_
  refine OkO.callV rfl rfl rfl rfl rfl (hc82 _ (Grow.ext (W := W) (by (try dsimp only); repeat (first | exact q2 | exact hg | apply Grow.new | (refine Grow.put ?_ _ (by first | omega | (simp only [hNw, hPt]; omega))))))) ?_ -- "(sackung/water.flow).day"
  refine OkO.alloc (z := [.int .i64 0, .int .i64 0, .int .i64 0, .int .i64 0, .int .i64 0, .int .i64 0, .int .i64 0, .int .i64 0, .int .i64 0, .int .i64 0]) rfl (by kernel_rfl) ?_
  refine OkO.store rfl rfl rfl (stc (n := 10) (ag := true) (by kernel_rfl) (by first | assumption | (simp (disch := first | omega | (simp only [hNw, hPt]; omega)) only [gn0, gn1, gn2, gn3, gn4, gn5, gp0, gno, gpo] <;> first | rfl | assumption)) rfl rfl (by first | rfl | exact spl_set _ _ _ (by first | assumption | (simp; omega)))) ?_
  refine OkO.nil ?_
  refine Ok.seq ?_
  refine Ok.region ?_
  refine OkO.move rfl rfl ?_
  refine OkO.fieldAddr (o := 9) rfl (by kernel_rfl) rfl ?_
  refine OkO.store rfl rfl rfl (stc (n := 1) (ag := false) (by kernel_rfl) (by first | assumption | (simp (disch := first | omega | (simp only [hNw, hPt]; omega)) only [gn0, gn1, gn2, gn3, gn4, gn5, gp0, gno, gpo] <;> first | rfl | assumption)) rfl rfl (by first | rfl | exact spl_set _ _ _ (by first | assumption | (simp; omega)))) ?_
  refine OkO.nil ?_
  refine Ok.seq ?_
  refine Ok.region ?_
  refine OkO.fieldAddr (o := 0) rfl (by kernel_rfl) rfl ?_
  refine OkO.load rfl rfl (ldg (n := 8) (by kernel_rfl) (by first | assumption | (simp (disch := first | omega | (simp only [hNw, hPt]; omega)) only [gn0, gn1, gn2, gn3, gn4, gn5, gp0, gno, gpo] <;> first | rfl | assumption)) (by first | rfl | assumption)) ?_
  refine OkO.store rfl rfl rfl (stc (n := 8) (ag := true) (by kernel_rfl) (by first | assumption | (simp (disch := first | omega | (simp only [hNw, hPt]; omega)) only [gn0, gn1, gn2, gn3, gn4, gn5, gp0, gno, gpo] <;> first | rfl | assumption)) rfl rfl (by first | rfl | exact spl_set _ _ _ (by first | assumption | (simp; omega)))) ?_
  refine OkO.nil ?_
  refine Ok.region ?_
  refine OkO.load rfl rfl (lda (n := 1) (by kernel_rfl) (by first | assumption | (simp (disch := first | omega | (simp only [hNw, hPt]; omega)) only [gn0, gn1, gn2, gn3, gn4, gn5, gp0, gno, gpo] <;> first | rfl | assumption)) (by first | rfl | assumption)) ?_
  refine OkO.load rfl rfl (ldg (n := 10) (by kernel_rfl) (by first | assumption | (simp (disch := first | omega | (simp only [hNw, hPt]; omega)) only [gn0, gn1, gn2, gn3, gn4, gn5, gp0, gno, gpo] <;> first | rfl | assumption)) (by first | rfl | assumption)) ?_
  refine OkO.buildSlice (el := 115) (sz := 10) (z := [.int .i64 0, .int .i64 0, .int .i64 0, .int .i64 0, .int .i64 0, .int .i64 0, .int .i64 0, .int .i64 0, .int .i64 0, .int .i64 0]) rfl (by kernel_rfl) (by decide) rfl rfl ?_
  -- append
  refine OkO.builtinE rfl rfl rfl (Mine.app2 (W := W) (k0 := N + 6) (sz := 10) (by_ := 80) (e := 115) (n := 1) (new := [I a0, I a1, I a2, I a3, I a4, I a5, I a6, I a7, I (leftD cs g ds t lvs rain i), I (snowP g.melt ds rain t.snow (i + 1))]) (by dsimp only; exact Mine.to (Mine.put (Mine.to (hmv2 (.loop .busy none (mkT 5 0 1 (upd f [(1, .ptr N 0), (3, .ptr (N + 1) 0), (4, .ptr (N + 2) 0)])) [15, 16] as54 bd54 (N + 4))) (by (try dsimp only); repeat (first | exact Ext.refl _ | assumption | apply Ext.new | (refine Ext.put ?_ _ (by first | omega | (simp only [hNw, hPt]; omega)))))) _ (by omega)) (Grow.toNew _ _)) (by (try dsimp only); repeat (first | exact q2 | exact hg | apply Grow.new | (refine Grow.put ?_ _ (by first | omega | (simp only [hNw, hPt]; omega))))) (by omega) (by first | omega | (simp only [hNw, hPt]; omega)) (by kernel_rfl) (by kernel_rfl) (elems_new (n := 1) (sz := 10) rfl) rfl rfl (by rw [hml]; omega) (by omega) (by omega) rfl) ?_
  rintro v2 G2 ⟨q1, q2, q3, q4, q5, q6⟩
  simp only [hNw, hPt] at q5
  have z0 : G2.get N = some (.cells [cv, I g.slo, I g.shi, I g.klo, I g.khi, I g.melt, dv, I t.snow, I t.soak, lv, rv] 110) := by rw [q3.get _ (by omega) (by first | omega | (simp only [hNw, hPt]; omega))]; simp (disch := first | omega | (simp only [hNw, hPt]; omega)) only [gn0, gn1, gn2, gn3, gn4, gn5, gp0, gno, gpo] <;> first | rfl | assumption
  have z1 : G2.get (N + 1) = some (.cells [I a0, I a1, I a2, I a3, I a4, I a5, I a6, I a7] 113) := by rw [q3.get _ (by omega) (by first | omega | (simp only [hNw, hPt]; omega))]; simp (disch := first | omega | (simp only [hNw, hPt]; omega)) only [gn0, gn1, gn2, gn3, gn4, gn5, gp0, gno, gpo] <;> first | rfl | assumption
  have z2 : G2.get (N + 2) = some (.cells [v0] 108) := by rw [q3.get _ (by omega) (by first | omega | (simp only [hNw, hPt]; omega))]; simp (disch := first | omega | (simp only [hNw, hPt]; omega)) only [gn0, gn1, gn2, gn3, gn4, gn5, gp0, gno, gpo] <;> first | rfl | assumption
  have z3 : G2.get (N + 3) = some (.cells [cv, I g.slo, I g.shi, I g.klo, I g.khi, I g.melt, dv, I t.snow, I t.soak, lv, rv] 110) := by rw [q3.get _ (by omega) (by first | omega | (simp only [hNw, hPt]; omega))]; simp (disch := first | omega | (simp only [hNw, hPt]; omega)) only [gn0, gn1, gn2, gn3, gn4, gn5, gp0, gno, gpo] <;> first | rfl | assumption
  have z4 : G2.get (N + 4) = some .defd := by rw [q3.get _ (by omega) (by first | omega | (simp only [hNw, hPt]; omega))]; simp (disch := first | omega | (simp only [hNw, hPt]; omega)) only [gn0, gn1, gn2, gn3, gn4, gn5, gp0, gno, gpo] <;> first | rfl | assumption
  have z5 : G2.get (N + 5) = some (.loop .busy none (mkT 5 0 1 (upd f [(1, .ptr N 0), (3, .ptr (N + 1) 0), (4, .ptr (N + 2) 0)])) [15, 16] as54 bd54 (N + 4)) := by rw [q3.get _ (by omega) (by first | omega | (simp only [hNw, hPt]; omega))]; simp (disch := first | omega | (simp only [hNw, hPt]; omega)) only [gn0, gn1, gn2, gn3, gn4, gn5, gp0, gno, gpo] <;> first | rfl | assumption
  obtain ⟨bb2, mm, hv2⟩ : ∃ b m, v2 = .opn b m := (let ⟨m, h⟩ := q6; ⟨_, m, h⟩)
  subst hv2
  refine OkO.store rfl rfl rfl (stc (n := 1) (ag := false) (by kernel_rfl) (by first | assumption | (simp (disch := first | omega | (simp only [hNw, hPt]; omega)) only [gn0, gn1, gn2, gn3, gn4, gn5, gp0, gno, gpo] <;> first | rfl | assumption)) rfl rfl (by first | rfl | exact spl_set _ _ _ (by first | assumption | (simp; omega)))) ?_
  refine OkO.nil ?_
  have hgg : Grow W ((G2.put (N + 2) (.cells [.opn bb2 mm] 108)).put (N + 5) (.loop .ready none (mkT 5 0 1 (upd f [(1, .ptr N 0), (3, .ptr (N + 1) 0), (4, .ptr (N + 2) 0)])) [15, 16] as54 bd54 (N + 4))) := (q2.put _ (by omega)).put _ (by omega)
  refine ⟨rfl, _, _, _, _, _, _, _, (by rw [gpo _ _ _ _ (by omega)]; exact z5), rfl, ?_, ?_, ?_, ?_⟩
  · refine ⟨hgg.ext, by simp only [hPt]; omega, ?_, ?_, ⟨.opn bb2 mm, ?_, ?_⟩, ?_, ?_, ?_⟩
    · (simp (disch := first | omega | (simp only [hNw, hPt]; omega)) only [gn0, gn1, gn2, gn3, gn4, gn5, gp0, gno, gpo] <;> first | rfl | assumption)
    · rw [hL1]; (simp (disch := first | omega | (simp only [hNw, hPt]; omega)) only [gn0, gn1, gn2, gn3, gn4, gn5, gp0, gno, gpo] <;> first | rfl | assumption)
    · (simp (disch := first | omega | (simp only [hNw, hPt]; omega)) only [gn0, gn1, gn2, gn3, gn4, gn5, gp0, gno, gpo] <;> first | rfl | assumption)
    · rw [List.range_succ, List.map_append, List.flatten_append]; refine Mine.put (Mine.put ?_ _ (by omega)) _ (by omega); rw [hE1]; exact q1
    · (simp (disch := first | omega | (simp only [hNw, hPt]; omega)) only [gn0, gn1, gn2, gn3, gn4, gn5, gp0, gno, gpo] <;> first | rfl | assumption)
    · (simp (disch := first | omega | (simp only [hNw, hPt]; omega)) only [gn0, gn1, gn2, gn3, gn4, gn5, gp0, gno, gpo] <;> first | rfl | assumption)
    · (simp (disch := first | omega | (simp only [hNw, hPt]; omega)) only [gn0, gn1, gn2, gn3, gn4, gn5, gp0, gno, gpo] <;> first | rfl | assumption)
  · have := hgg.lo; rw [← hN] at this; exact this
  · rw [Heap.lo_put]; omega
  · simp only [hPt]; omega
end
end Go.Ev
