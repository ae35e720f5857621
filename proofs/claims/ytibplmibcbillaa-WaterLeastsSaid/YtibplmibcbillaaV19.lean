/-
  Functions of the program, reckoned by the evaluator: what each answers, and that it leaves what came in as it was (part 19).
-/
import Derived.Test.YtibplmibcbillaaV18
set_option maxRecDepth 100000
set_option linter.unusedSimpArgs false
set_option linter.unusedVariables false
namespace Go.Ev
open Go Go.Proofs
noncomputable section
/-- Lists of ranges, each in a block of its own, none of them that of either slice. -/
def RowsR (G : Heap) (v6 v7 : AV) (vs : List AV) (rows : List (List Rg)) : Prop := vs.length = rows.length ∧ ∀ (j : Nat) x r, vs[j]? = some x → rows[j]? = some r → ∃ b, x = .opn b r.length ∧ G.get b = some (.opn ((r.map Rg.c).flatten) 36 2) ∧ b < G.next ∧ (∀ m, v6 ≠ .opn b m) ∧ (∀ m, v7 ≠ .opn b m)
theorem RowsR.keep {G G' : Heap} {v6 v7 w6 w7 : AV} {vs : List AV} {rows : List (List Rg)} (h : RowsR G v6 v7 vs rows) (hk : ∀ j, j < G.next → (∀ m, v6 ≠ .opn j m) → (∀ m, v7 ≠ .opn j m) → G'.get j = G.get j) (hn : G.next ≤ G'.next)
    (h6 : ∀ b m, w6 = .opn b m → G.next ≤ b ∨ v6 = w6) (h7 : ∀ b m, w7 = .opn b m → G.next ≤ b ∨ v7 = w7) : RowsR G' w6 w7 vs rows := by
  refine ⟨h.1, fun j x r k1 k2 => ?_⟩
  obtain ⟨b, a1, a2, a3, a4, a5⟩ := h.2 j x r k1 k2
  refine ⟨b, a1, by rw [hk b a3 a4 a5]; exact a2, by omega, fun m hm => ?_, fun m hm => ?_⟩
  · rcases h6 b m hm with h | h
    · omega
    · exact a4 m (h.trans hm)
  · rcases h7 b m hm with h | h
    · omega
    · exact a5 m (h.trans hm)
theorem RowsR.snoc {G : Heap} {v6 v7 : AV} {vs : List AV} {rows : List (List Rg)} (h : RowsR G v6 v7 vs rows) {b : Nat} {r : List Rg} (h1 : G.get b = some (.opn ((r.map Rg.c).flatten) 36 2)) (h2 : b < G.next) (h3 : ∀ m, v6 ≠ .opn b m) (h4 : ∀ m, v7 ≠ .opn b m) : RowsR G v6 v7 (vs ++ [.opn b r.length]) (rows ++ [r]) := by
  refine ⟨by simp [h.1], fun j x q k1 k2 => ?_⟩
  have hl := h.1
  by_cases hj : j < vs.length
  · rw [List.getElem?_append_left hj] at k1
    rw [List.getElem?_append_left (by omega)] at k2
    exact h.2 j x q k1 k2
  · have hj2 : j = vs.length := by
      have := (List.getElem?_eq_some_iff.1 k1).1
      simp at this; omega
    subst hj2
    simp at k1
    rw [hl] at k2
    simp at k2
    subst k1 k2
    exact ⟨b, rfl, h1, h2, h3, h4⟩
/-- A slice of lists of ranges. -/
def ListsR (G : Heap) (v : AV) (rows : List (List Rg)) : Prop := ∃ vs : List AV, Row G v 1 (vs.map fun x => [x]) ∧ vs.length = rows.length ∧ ∀ (j : Nat) x r, vs[j]? = some x → rows[j]? = some r → Row G x 2 (r.map Rg.c)
theorem ListsR.ext {H G : Heap} {v : AV} {rows : List (List Rg)} (h : ListsR H v rows) (g : Ext H G) : ListsR G v rows := let ⟨vs, h1, h2, h3⟩ := h; ⟨vs, h1.ext g, h2, fun j x r k1 k2 => (h3 j x r k1 k2).ext g⟩
theorem RowsR.lists {G G' : Heap} {v6 v7 : AV} {vs : List AV} {rows : List (List Rg)} (h : RowsR G v6 v7 vs rows) (hr : Row G' v6 1 (vs.map fun x => [x])) (hg : vs = [] ∨ ((∀ n, G'.get n = G.get n) ∧ G'.next = G.next)) : ListsR G' v6 rows := by
  refine ⟨vs, hr, h.1, fun j x r k1 k2 => ?_⟩
  rcases hg with rfl | ⟨g1, g2⟩
  · simp at k1
  · obtain ⟨b, rfl, a2, a3, _, _⟩ := h.2 j x r k1 k2
    have : Mine 0 G (.opn b r.length) 36 2 ((r.map Rg.c).flatten) := .inr ⟨b, r.length, rfl, a2, by rw [flat_len _ 2 (fun x hx => by simp only [List.mem_map] at hx; obtain ⟨y, _, rfl⟩ := hx; rfl)]; simp, by omega, a3⟩
    exact (this.row (fun x hx => by simp only [List.mem_map] at hx; obtain ⟨y, _, rfl⟩ := hx; rfl) (by omega)).same g1 g2
theorem backRow {H G H' : Heap} {v : AV} {sz : Nat} {l : List (List AV)} (hc : Cut G v sz) (hr : Row G v sz l) (r : (H' = H ∧ v.flat = true) ∨ ((∀ n, H'.get n = G.get n) ∧ H'.next = G.next)) : Row H' v sz l := by
  rcases r with ⟨_, hf⟩ | ⟨h1, h2⟩
  · rcases hc with ⟨b, off, len, cap, rfl, _⟩ | ⟨b, len, cs, e, rfl, _⟩ | rfl
    · cases hf
    · cases hf
    · have hl : l = [] := by
        have := hr.len
        cases l with
        | nil => rfl
        | cons a b => simp [lenOf] at this
      subst hl
      exact Row.nil _ _
  · exact hr.same h1 h2
theorem evC_get {cs : List Cell} {g : Gr} {ds : List Day} {t : Tru} {lvs rain : List Int} {i k : Nat} (h : (levP cs g ds t lvs rain (i + 1)).length = 8) (hk : k < 8) : (evC cs g ds t lvs rain i)[k]? = some (I ((levP cs g ds t lvs rain (i + 1)).getD k 0)) := by
  rw [evC, List.getElem?_append_left (by simp; omega), List.getElem?_map, List.getElem?_eq_getElem (by omega), getD_lt (by omega)]; rfl
theorem evC_snow {cs : List Cell} {g : Gr} {ds : List Day} {t : Tru} {lvs rain : List Int} {i : Nat} (h : (levP cs g ds t lvs rain (i + 1)).length = 8) : (evC cs g ds t lvs rain i)[9]? = some (I (snowP g.melt ds rain t.snow (i + 1))) := by
  rw [evC, List.getElem?_append_right (by simp; omega)]
  simp [h]
/-- The range of a level, of all on a day, of the snow. -/
def lvR (cs : List Cell) (g : Gr) (ds : List Day) (i k : Nat) : Rg := ⟨(levP cs g ds (lowT g) (lowL cs) (lowR ds) (i + 1)).getD k 0, (levP cs g ds (highT g) (highL cs) (highR ds) (i + 1)).getD k 0⟩
def rowG (cs : List Cell) (g : Gr) (ds : List Day) (i k : Nat) : List Rg := (List.range k).map (lvR cs g ds i)
def rowsG (cs : List Cell) (g : Gr) (ds : List Day) (n : Nat) : List (List Rg) := (List.range n).map fun i => rowG cs g ds i cs.length
def snG (cs : List Cell) (g : Gr) (ds : List Day) (n : Nat) : List Rg := (List.range n).map fun i => ⟨snowP g.melt ds (lowR ds) (lowT g).snow (i + 1), snowP g.melt ds (highR ds) (highT g).snow (i + 1)⟩
theorem rowG_succ (cs : List Cell) (g : Gr) (ds : List Day) (i k : Nat) : ((rowG cs g ds i (k + 1)).map Rg.c).flatten = ((rowG cs g ds i k).map Rg.c).flatten ++ (lvR cs g ds i k).c := by simp [rowG, List.range_succ]
theorem rowsG_succ (cs : List Cell) (g : Gr) (ds : List Day) (n : Nat) : rowsG cs g ds (n + 1) = rowsG cs g ds n ++ [rowG cs g ds n cs.length] := by simp [rowsG, List.range_succ]
theorem snG_succ (cs : List Cell) (g : Gr) (ds : List Day) (n : Nat) : ((snG cs g ds (n + 1)).map Rg.c).flatten = ((snG cs g ds n).map Rg.c).flatten ++ [I (snowP g.melt ds (lowR ds) (lowT g).snow (n + 1)), I (snowP g.melt ds (highR ds) (highT g).snow (n + 1))] := by simp [snG, List.range_succ, Rg.c]
theorem c86l (m : Nat) (cv dv : AV) (cs : List Cell) (g : Gr) (ds : List Day) (H : Heap) (hR : Row H cv 7 (cs.map Cell.c)) (hY : Row H dv 3 (ds.map Day.c)) (hca : cv.atom = true) (hda : dv.atom = true) (hd0 : daysErr cs g ds = 0) : ∃ v H', RR (m + 6) (.fn 86 [.agg [.fn 85 [] []], .agg [cv, I g.slo, I g.shi, I g.klo, I g.khi, I g.melt], dv]) H = some (v, H') ∧ Ret H H' ∧ Row H' v 10 ((List.range ds.length).map (evC cs g ds (lowT g) (lowL cs) (lowR ds))) := by
  show ∃ v H', evFn Try.prog (RR (m + 5)) 86 [.agg [.fn 85 [] []], .agg [cv, I g.slo, I g.shi, I g.klo, I g.khi, I g.melt], dv] H = some (v, H') ∧ Ret H H' ∧ Row H' v 10 ((List.range ds.length).map (evC cs g ds (lowT g) (lowL cs) (lowR ds)))
  refine fn_okE Try.func86 rfl rfl (by kernel_rfl) (by kernel_rfl) ?_
  obtain ⟨W, hW⟩ : ∃ W : Heap, W = ⟨H.t, H.next, H.next⟩ := ⟨_, rfl⟩
  have hg : ∀ n, W.get n = H.get n := fun n => by rw [hW]; rfl
  have hN : W.next = H.next := by rw [hW]
  have hE : ∀ G, Grow W G → Ext H G := fun G g => ⟨by rw [← hN]; exact g.next, fun n k => by rw [g.get n (by rw [hN]; exact k), hg]⟩
  have hG : Grow W W := Grow.refl (by rw [hW]; exact Nat.le_refl _)
  rw [← hW]
  have hlc : lenOf cv = some cs.length := by simpa using hR.len
  have pc := lpl hlc
  have hld : lenOf dv = some ds.length := by simpa using hY.len
  have hF := fit_of (low_ok hd0)
  have hn8 := hF.n8
  have hd30 := hF.d30
  refine Ok.seq ?_
  refine Ok.region ?_
  refine OkO.box rfl rfl ?_
  refine OkO.box rfl rfl ?_
  refine OkO.assign rfl rfl ?_
  refine OkO.nil ?_
  refine Ok.seq ?_
  refine Ok.region ?_
  refine OkO.load rfl rfl (ldg (n := 1) (by kernel_rfl) (by first | assumption | (simp (disch := first | omega | (simp only [hNw, hPt]; omega)) only [gn0, gn1, gn2, gn3, gn4, gn5, gp0, gno, gpo] <;> first | rfl | assumption)) (by first | rfl | assumption)) ?_
  refine OkO.load rfl rfl (ldg (n := 6) (by kernel_rfl) (by first | assumption | (simp (disch := first | omega | (simp only [hNw, hPt]; omega)) only [gn0, gn1, gn2, gn3, gn4, gn5, gp0, gno, gpo] <;> first | rfl | assumption)) (by first | rfl | assumption)) ?_
  refine OkO.move rfl rfl ?_
  refine OkO.callE rfl rfl rfl rfl rfl (c93l (m + 2) cv dv cs g ds _ (hR.ext (hE _ (by (try dsimp only); repeat (first | exact hG | apply Grow.new | (refine Grow.put ?_ _ (by first | omega | (simp only [hNw, hPt]; omega))))))) (by omega) (hY.ext (hE _ (by (try dsimp only); repeat (first | exact hG | apply Grow.new | (refine Grow.put ?_ _ (by first | omega | (simp only [hNw, hPt]; omega))))))) (by omega) hca hda (by omega)) ?_ -- "(sackung/water.choice).flow"
  rintro v93 H93 ⟨lv, rv, rfl, q93, l93, r93⟩
  have g93 : Grow W H93 := Grow.ret (by (try dsimp only); repeat (first | exact hG | apply Grow.new | (refine Grow.put ?_ _ (by first | omega | (simp only [hNw, hPt]; omega))))) q93
  refine OkO.callE rfl rfl rfl rfl rfl (c54 m cv dv lv rv cs g ds (lowT g) (lowL cs) (lowR ds) _ (hR.ext (hE _ g93)) (hY.ext (hE _ g93)) l93 r93 hF) ?_ -- "(sackung/water.flow).run"
  rintro v54 H54 ⟨q54, r54, c54⟩
  have g54 : Grow W H54 := Grow.ret g93 q54
  refine OkO.assign rfl rfl ?_
  refine OkO.nil ?_
  refine Ok.ret ⟨.inr rfl, ?_⟩
  exact back_newA (resV_tmp rfl resV_nil) rfl (by rw [← hW]; exact g54) (fun H2 p1 p2 => ⟨p1, backRow c54 r54 p2⟩)
theorem c86h (m : Nat) (cv dv : AV) (cs : List Cell) (g : Gr) (ds : List Day) (H : Heap) (hR : Row H cv 7 (cs.map Cell.c)) (hY : Row H dv 3 (ds.map Day.c)) (hca : cv.atom = true) (hda : dv.atom = true) (hd0 : daysErr cs g ds = 0) : ∃ v H', RR (m + 6) (.fn 86 [.agg [.fn 87 [] []], .agg [cv, I g.slo, I g.shi, I g.klo, I g.khi, I g.melt], dv]) H = some (v, H') ∧ Ret H H' ∧ Row H' v 10 ((List.range ds.length).map (evC cs g ds (highT g) (highL cs) (highR ds))) := by
  show ∃ v H', evFn Try.prog (RR (m + 5)) 86 [.agg [.fn 87 [] []], .agg [cv, I g.slo, I g.shi, I g.klo, I g.khi, I g.melt], dv] H = some (v, H') ∧ Ret H H' ∧ Row H' v 10 ((List.range ds.length).map (evC cs g ds (highT g) (highL cs) (highR ds)))
  refine fn_okE Try.func86 rfl rfl (by kernel_rfl) (by kernel_rfl) ?_
  obtain ⟨W, hW⟩ : ∃ W : Heap, W = ⟨H.t, H.next, H.next⟩ := ⟨_, rfl⟩
  have hg : ∀ n, W.get n = H.get n := fun n => by rw [hW]; rfl
  have hN : W.next = H.next := by rw [hW]
  have hE : ∀ G, Grow W G → Ext H G := fun G g => ⟨by rw [← hN]; exact g.next, fun n k => by rw [g.get n (by rw [hN]; exact k), hg]⟩
  have hG : Grow W W := Grow.refl (by rw [hW]; exact Nat.le_refl _)
  rw [← hW]
  have hlc : lenOf cv = some cs.length := by simpa using hR.len
  have pc := lpl hlc
  have hld : lenOf dv = some ds.length := by simpa using hY.len
  have hF := fit_of (high_ok hd0)
  have hn8 := hF.n8
  have hd30 := hF.d30
  refine Ok.seq ?_
  refine Ok.region ?_
  refine OkO.box rfl rfl ?_
  refine OkO.box rfl rfl ?_
  refine OkO.assign rfl rfl ?_
  refine OkO.nil ?_
  refine Ok.seq ?_
  refine Ok.region ?_
  refine OkO.load rfl rfl (ldg (n := 1) (by kernel_rfl) (by first | assumption | (simp (disch := first | omega | (simp only [hNw, hPt]; omega)) only [gn0, gn1, gn2, gn3, gn4, gn5, gp0, gno, gpo] <;> first | rfl | assumption)) (by first | rfl | assumption)) ?_
  refine OkO.load rfl rfl (ldg (n := 6) (by kernel_rfl) (by first | assumption | (simp (disch := first | omega | (simp only [hNw, hPt]; omega)) only [gn0, gn1, gn2, gn3, gn4, gn5, gp0, gno, gpo] <;> first | rfl | assumption)) (by first | rfl | assumption)) ?_
  refine OkO.move rfl rfl ?_
  refine OkO.callE rfl rfl rfl rfl rfl (c93h (m + 2) cv dv cs g ds _ (hR.ext (hE _ (by (try dsimp only); repeat (first | exact hG | apply Grow.new | (refine Grow.put ?_ _ (by first | omega | (simp only [hNw, hPt]; omega))))))) (by omega) (hY.ext (hE _ (by (try dsimp only); repeat (first | exact hG | apply Grow.new | (refine Grow.put ?_ _ (by first | omega | (simp only [hNw, hPt]; omega))))))) (by omega) hca hda (by omega)) ?_ -- "(sackung/water.choice).flow"
  rintro v93 H93 ⟨lv, rv, rfl, q93, l93, r93⟩
  have g93 : Grow W H93 := Grow.ret (by (try dsimp only); repeat (first | exact hG | apply Grow.new | (refine Grow.put ?_ _ (by first | omega | (simp only [hNw, hPt]; omega))))) q93
  refine OkO.callE rfl rfl rfl rfl rfl (c54 m cv dv lv rv cs g ds (highT g) (highL cs) (highR ds) _ (hR.ext (hE _ g93)) (hY.ext (hE _ g93)) l93 r93 hF) ?_ -- "(sackung/water.flow).run"
  rintro v54 H54 ⟨q54, r54, c54⟩
  have g54 : Grow W H54 := Grow.ret g93 q54
  refine OkO.assign rfl rfl ?_
  refine OkO.nil ?_
  refine Ok.ret ⟨.inr rfl, ?_⟩
  exact back_newA (resV_tmp rfl resV_nil) rfl (by rw [← hW]; exact g54) (fun H2 p1 p2 => ⟨p1, backRow c54 r54 p2⟩)
theorem flatT {a b : AV} (h : (AV.tup [a, b]).flat = true) : a.flat = true ∧ b.flat = true := by
  simp only [AV.flat, AV.flats] at h
  cases ha : a.flat with
  | false => rw [ha] at h; cases h
  | true =>
    rw [ha] at h
    cases hb : b.flat with
    | false => rw [hb] at h; cases h
    | true => exact ⟨rfl, rfl⟩
theorem flatT3 {a b : AV} {x : Int} (h : (AV.tup [a, b, I x]).flat = true) : a.flat = true ∧ b.flat = true := by
  simp only [AV.flat, AV.flats] at h
  cases ha : a.flat with
  | false => rw [ha] at h; cases h
  | true =>
    rw [ha] at h
    cases hb : b.flat with
    | false => rw [hb] at h; cases h
    | true => exact ⟨rfl, rfl⟩
theorem c61 (m : Nat) (cv dv : AV) (cs : List Cell) (g : Gr) (ds : List Day) (H : Heap) (hR : Row H cv 7 (cs.map Cell.c)) (hY : Row H dv 3 (ds.map Day.c)) (hca : cv.atom = true) (hda : dv.atom = true) (hd0 : daysErr cs g ds = 0) : ∃ v H', RR (m + 7) (.fn 61 [.agg [cv, I g.slo, I g.shi, I g.klo, I g.khi, I g.melt], dv]) H = some (v, H') ∧ ∃ v4 v5, v = .tup [v4, v5] ∧ Ret H H' ∧ ListsR H' v4 (rowsG cs g ds ds.length) ∧ Row H' v5 2 ((snG cs g ds ds.length).map Rg.c) := by
  show ∃ v H', evFn Try.prog (RR (m + 6)) 61 [.agg [cv, I g.slo, I g.shi, I g.klo, I g.khi, I g.melt], dv] H = some (v, H') ∧ ∃ v4 v5, v = .tup [v4, v5] ∧ Ret H H' ∧ ListsR H' v4 (rowsG cs g ds ds.length) ∧ Row H' v5 2 ((snG cs g ds ds.length).map Rg.c)
  refine fn_okE Try.func61 rfl rfl (by kernel_rfl) (by kernel_rfl) ?_
  obtain ⟨W, hW⟩ : ∃ W : Heap, W = ⟨H.t, H.next, H.next⟩ := ⟨_, rfl⟩
  have hg : ∀ n, W.get n = H.get n := fun n => by rw [hW]; rfl
  have hN : W.next = H.next := by rw [hW]
  have hE : ∀ G, Grow W G → Ext H G := fun G g => ⟨by rw [← hN]; exact g.next, fun n k => by rw [g.get n (by rw [hN]; exact k), hg]⟩
  have hG : Grow W W := Grow.refl (by rw [hW]; exact Nat.le_refl _)
  rw [← hW]
  have hlc : lenOf cv = some cs.length := by simpa using hR.len
  have pc := lpl hlc
  have hld : lenOf dv = some ds.length := by simpa using hY.len
  have hFl := fit_of (low_ok hd0)
  have hFh := fit_of (high_ok hd0)
  have hn8 := hFl.n8
  have hd30 := hFl.d30
  refine Ok.seq ?_
  refine Ok.region ?_
  refine OkO.box rfl rfl ?_
  refine OkO.assign rfl rfl ?_
  refine OkO.assign rfl rfl ?_
  refine OkO.nil ?_
  refine Ok.seq ?_
  refine Ok.drawn [(0, true, []), (1, true, []), (2, true, []), (4, true, []), (5, true, []), (6, true, []), (3, false, [5]), (7, false, [1]), (8, true, []), (9, true, [])] (by kernel_rfl) ?_
  refine OkP.step ?_
  refine OkO.build (z := [.nilf]) (pl := [(0, 1)]) rfl (by kernel_rfl) rfl rfl ?_
  refine OkO.nil ⟨rfl, ?_⟩
  refine OkP.step ?_
  refine OkO.load rfl rfl (ldg (n := 6) (by kernel_rfl) (by first | assumption | (simp (disch := first | omega | (simp only [hNw, hPt]; omega)) only [gn0, gn1, gn2, gn3, gn4, gn5, gp0, gno, gpo] <;> first | rfl | assumption)) (by first | rfl | assumption)) ?_
  refine OkO.nil ⟨rfl, ?_⟩
  refine OkP.step ?_
  refine OkO.move rfl rfl ?_
  refine OkO.nil ⟨rfl, ?_⟩
  refine OkP.step ?_
  refine OkO.build (z := [.nilf]) (pl := [(0, 1)]) rfl (by kernel_rfl) rfl rfl ?_
  refine OkO.nil ⟨rfl, ?_⟩
  refine OkP.step ?_
  refine OkO.load rfl rfl (ldg (n := 6) (by kernel_rfl) (by first | assumption | (simp (disch := first | omega | (simp only [hNw, hPt]; omega)) only [gn0, gn1, gn2, gn3, gn4, gn5, gp0, gno, gpo] <;> first | rfl | assumption)) (by first | rfl | assumption)) ?_
  refine OkO.nil ⟨rfl, ?_⟩
  refine OkP.step ?_
  refine OkO.move rfl rfl ?_
  refine OkO.nil ⟨rfl, ?_⟩
  refine OkP.step ?_
  refine OkO.callE rfl rfl rfl rfl rfl (c86l m cv dv cs g ds _ (hR.ext (hE _ (by (try dsimp only); repeat (first | exact hG | apply Grow.new | (refine Grow.put ?_ _ (by first | omega | (simp only [hNw, hPt]; omega))))))) (hY.ext (hE _ (by (try dsimp only); repeat (first | exact hG | apply Grow.new | (refine Grow.put ?_ _ (by first | omega | (simp only [hNw, hPt]; omega))))))) hca hda hd0) ?_ -- "(sackung/water.choice).run"
  rintro vl HA ⟨qA, rA⟩
  have gA : Grow W HA := Grow.ret (by (try dsimp only); repeat (first | exact hG | apply Grow.new | (refine Grow.put ?_ _ (by first | omega | (simp only [hNw, hPt]; omega))))) qA
  have nA : W.next + 1 ≤ HA.next := by have := qA.ext.next; first | omega | (simp only [hNw] at this; omega)
  have aA : (HA.get W.next).bind AObj.cs = some [cv, I g.slo, I g.shi, I g.klo, I g.khi, I g.melt] := by rw [qA.ext.get _ (by first | omega | (simp only [hNw]; omega))]; first | assumption | (simp (disch := first | omega | (simp only [hNw, hPt]; omega)) only [gn0, gn1, gn2, gn3, gn4, gn5, gp0, gno, gpo] <;> first | rfl | assumption)
  refine OkO.nil ⟨(sco (sld rfl rfl (ldg (n := 6) (by kernel_rfl) (by first | assumption | (simp (disch := first | omega | (simp only [hNw, hPt]; omega)) only [gn0, gn1, gn2, gn3, gn4, gn5, gp0, gno, gpo] <;> first | rfl | assumption)) (by first | rfl | assumption)) rfl (eqr _ (by first | rfl | exact lpl (by assumption) | (simp [AV.plain, AV.plains, AV.cells, pc])))) rfl), ?_⟩
  refine OkP.step ?_
  refine OkO.callE rfl rfl rfl rfl rfl (c86h m cv dv cs g ds _ (hR.ext (hE _ gA)) (hY.ext (hE _ gA)) hca hda hd0) ?_ -- "(sackung/water.choice).run"
  rintro vh HB ⟨qB, rh⟩
  have gB : Grow W HB := Grow.ret gA qB
  have nB : W.next + 1 ≤ HB.next := by have := qB.ext.next; first | omega | (simp only [hNw] at this; omega)
  have aB : (HB.get W.next).bind AObj.cs = some [cv, I g.slo, I g.shi, I g.klo, I g.khi, I g.melt] := by rw [qB.ext.get _ (by first | omega | (simp only [hNw]; omega))]; first | assumption | (simp (disch := first | omega | (simp only [hNw, hPt]; omega)) only [gn0, gn1, gn2, gn3, gn4, gn5, gp0, gno, gpo] <;> first | rfl | assumption)
  have rl := rA.ext qB.ext
  have llv : lenOf vl = some ds.length := by simpa using rl.len
  have llh : lenOf vh = some ds.length := by simpa using rh.len
  refine OkO.nil ⟨(sco (sld rfl rfl (ldg (n := 6) (by kernel_rfl) (by first | assumption | (simp (disch := first | omega | (simp only [hNw, hPt]; omega)) only [gn0, gn1, gn2, gn3, gn4, gn5, gp0, gno, gpo] <;> first | rfl | assumption)) (by first | rfl | assumption)) rfl (eqr _ (by first | rfl | exact lpl (by assumption) | (simp [AV.plain, AV.plains, AV.cells, pc])))) rfl), ?_⟩
  refine OkP.step ?_
  refine OkO.assign rfl rfl ?_
  refine OkO.nil ⟨rfl, ?_⟩
  refine OkP.step ?_
  refine OkO.assign rfl rfl ?_
  refine OkO.nil ⟨rfl, ?_⟩
  refine OkP.nil ?_
  refine Ok.seq ?_
  refine Ok.seq ?_
  refine Ok.region ?_
  refine OkO.move rfl rfl ?_
  refine OkO.builtin rfl rfl rfl (bln (by kernel_rfl) (by first | assumption | rfl)) ?_
  refine OkO.move rfl rfl ?_
  refine OkO.nil ?_
  refine Ok.block ?_
  refine Ok.loop (fun n s => ∃ (i : Nat) (v4 v5 : AV) (vs : List AV), n = ds.length - i ∧ i ≤ ds.length ∧ Mine HB.next s.H v4 54 1 vs ∧ Mine HB.next s.H v5 36 2 ((snG cs g ds i).map Rg.c).flatten ∧ RowsR s.H v4 v5 vs (rowsG cs g ds i) ∧ (∀ b m m', v4 = .opn b m → v5 ≠ .opn b m') ∧ Has 7 [(2, .ptr W.next 0), (4, v4), (5, v5), (6, vl), (7, vh), (20, I ds.length), (21, I (i : Int))] s.T ∧ s.D = [] ∧ Grow W s.H ∧ Ext HB s.H) (ds.length) (by unfold loopFuel; omega)
    ⟨0, .nils, .nils, [], rfl, Nat.zero_le _, Mine.nil _ _ _ _, Mine.nil _ _ _ _, ⟨rfl, nofun⟩, nofun, Has.of (by kernel_rfl), rfl, gB, Ext.refl _⟩ ?_
  rintro n ⟨T, D, G⟩ ⟨i, v4, v5, vs, hn, hi, hm4, hm5, hrows, hsep, ⟨f, hT⟩, hD, hg, hx⟩
  dsimp only at *
  subst hT hD
  have hgn := hg.next
  have hxn := hx.next
  refine Ok.seq ?_
  refine Ok.region ?_
  refine OkO.bin rfl rfl rfl (bin_lss _ _) ?_
  refine OkO.nil ?_
  refine Ok.seq ?_
  refine Ok.cond rfl (fun h1 => ?_) (fun h1 => ?_)
  · -- yes h1
    have hlt : i < ds.length := by simpa using h1
    obtain ⟨G1, hG1⟩ : ∃ G1, G1 = G := ⟨_, rfl⟩
    subst hG1
    have hg1 := hg
    have hvl : vs.length = i := by have := hrows.1; simpa [rowsG] using this
    have hb2 : (G1.get W.next).bind AObj.cs = some [cv, I g.slo, I g.shi, I g.klo, I g.khi, I g.melt] := by rw [hx.get _ (by omega)]; exact aB
    have hll := lev_facts hFl (i + 1) (by omega)
    have hlh := lev_facts hFh (i + 1) (by omega)
    obtain ⟨bl, ol, el, xl1, xl2w, xl3, xl4⟩ := rl.at_ i _ (by rw [List.getElem?_map, List.getElem?_range hlt]; rfl)
    obtain ⟨bh, oh, eh, xh1, xh2w, xh3, xh4⟩ := rh.at_ i _ (by rw [List.getElem?_map, List.getElem?_range hlt]; rfl)
    have hlen5 : ((snG cs g ds i).map Rg.c).flatten.length = i * 2 := by rw [flat_len _ 2 (fun x hx => by simp only [List.mem_map] at hx; obtain ⟨y, _, rfl⟩ := hx; rfl)]; simp [snG]
    obtain ⟨l4, hl4, _⟩ := hm4.len
    obtain ⟨l5, hl5, _⟩ := hm5.len
    refine Ok.skip ?_
    refine Ok.seq ?_
    refine Ok.block ?_
    refine Ok.seq ?_
    refine Ok.region ?_
    refine OkO.move rfl rfl ?_
    refine OkO.assign rfl rfl ?_
    refine OkO.nil ?_
    refine Ok.seq ?_
    refine Ok.region ?_
    refine OkO.assign rfl rfl ?_
    refine OkO.nil ?_
    refine Ok.seq ?_
    refine Ok.seq ?_
    refine Ok.region ?_
    refine OkO.fieldAddr (o := 0) rfl (by kernel_rfl) rfl ?_
    refine OkO.load rfl rfl (lda (n := 1) (by kernel_rfl) (by first | assumption | (simp (disch := first | omega | (simp only [hNw, hPt]; omega)) only [gn0, gn1, gn2, gn3, gn4, gn5, gp0, gno, gpo] <;> first | rfl | assumption)) (by first | rfl | assumption)) ?_
    refine OkO.builtin rfl rfl rfl (bln (by kernel_rfl) (by first | assumption | rfl)) ?_
    refine OkO.move rfl rfl ?_
    refine OkO.nil ?_
    refine Ok.block ?_
    refine Ok.loop (fun n s => ∃ (k : Nat) (v9 : AV), n = cs.length - k ∧ k ≤ cs.length ∧ Mine G1.next s.H v9 36 2 ((rowG cs g ds i k).map Rg.c).flatten ∧ Has 7 [(2, .ptr W.next 0), (4, v4), (5, v5), (6, vl), (7, vh), (8, I (i : Int)), (9, v9), (20, I ds.length), (21, I (i : Int)), (26, I cs.length), (27, I (k : Int))] s.T ∧ s.D = [] ∧ Grow W s.H ∧ Ext G1 s.H) (cs.length) (by unfold loopFuel; omega)
      ⟨0, .nils, rfl, Nat.zero_le _, Mine.nil _ _ _ _, Has.of (by kernel_rfl), rfl, hg1, Ext.refl _⟩ ?_
    rintro n ⟨T, D, G⟩ ⟨k, v9, hn9, hk, hm9, ⟨f9, hT⟩, hD, hg, hy⟩
    dsimp only at *
    subst hT hD
    have hgn := hg.next
    have hyn := hy.next
    have hxy := hx.trans hy
    obtain ⟨l9, hl9, _⟩ := hm9.len
    refine Ok.seq ?_
    refine Ok.region ?_
    refine OkO.bin rfl rfl rfl (bin_lss _ _) ?_
    refine OkO.nil ?_
    refine Ok.seq ?_
    refine Ok.cond rfl (fun h2 => ?_) (fun h2 => ?_)
    · -- yes h2
      have hltk : k < cs.length := by simpa using h2
      have xl2 : (G.get bl).bind AObj.cs = some el := by rw [hxy.get _ xl4]; exact xl2w
      have xh2 : (G.get bh).bind AObj.cs = some eh := by rw [hxy.get _ xh4]; exact xh2w
      have yl : el[ol + 0 + k * 1]? = some (I ((levP cs g ds (lowT g) (lowL cs) (lowR ds) (i + 1)).getD k 0)) := by rw [show ol + 0 + k * 1 = ol + k from by omega, seg_get xl3 k (by omega)]; exact evC_get hll.1 (by omega)
      have yh : eh[oh + 0 + k * 1]? = some (I ((levP cs g ds (highT g) (highL cs) (highR ds) (i + 1)).getD k 0)) := by rw [show oh + 0 + k * 1 = oh + k from by omega, seg_get xh3 k (by omega)]; exact evC_get hlh.1 (by omega)
      have hlen9 : ((rowG cs g ds i k).map Rg.c).flatten.length = k * 2 := by rw [flat_len _ 2 (fun x hx => by simp only [List.mem_map] at hx; obtain ⟨y, _, rfl⟩ := hx; rfl)]; simp [rowG]
      refine Ok.skip ?_
      refine Ok.seq ?_
      refine Ok.block ?_
      refine Ok.seq ?_
      refine Ok.region ?_
      refine OkO.move rfl rfl ?_
      refine OkO.assign rfl rfl ?_
      refine OkO.nil ?_
      refine Ok.drawn [(0, true, []), (1, true, []), (2, true, []), (3, true, []), (4, true, []), (5, true, []), (6, true, []), (7, true, []), (8, true, []), (9, true, []), (10, true, []), (11, true, []), (12, true, []), (13, true, []), (14, true, []), (15, true, []), (16, true, [14, 7]), (17, false, [14, 7]), (18, false, [])] (by kernel_rfl) ?_
      refine OkP.step ?_
      refine OkO.move rfl rfl ?_
      refine OkO.nil ⟨rfl, ?_⟩
      refine OkP.step ?_
      refine OkO.move rfl rfl ?_
      refine OkO.nil ⟨rfl, ?_⟩
      refine OkP.step ?_
      refine OkO.move rfl rfl ?_
      refine OkO.nil ⟨rfl, ?_⟩
      refine OkP.step ?_
      refine OkO.move rfl rfl ?_
      refine OkO.nil ⟨rfl, ?_⟩
      refine OkP.step ?_
      refine OkO.index (sz := 10) (n := i) rfl rfl rfl (by kernel_rfl) (by first | assumption | rfl | exact slAt_slice (by omega)) ?_ -- index ('Go.Operand.tmp', 31) ('Go.Operand.tmp', 32)
      refine OkO.nil ⟨rfl, ?_⟩
      refine OkP.step ?_
      refine OkO.fieldAddr (o := 0) rfl (by kernel_rfl) rfl ?_
      refine OkO.nil ⟨rfl, ?_⟩
      refine OkP.step ?_
      refine OkO.indexArr (len := 8) (sz := 1) (n := k) rfl rfl rfl (by kernel_rfl) (by omega) ?_
      refine OkO.nil ⟨rfl, ?_⟩
      refine OkP.step ?_
      refine OkO.load rfl rfl (lda (n := 1) (by kernel_rfl) (by first | assumption | (simp (disch := first | omega | (simp only [hNw, hPt]; omega)) only [gn0, gn1, gn2, gn3, gn4, gn5, gp0, gno, gpo] <;> first | rfl | assumption)) (by first | rfl | assumption)) ?_
      refine OkO.nil ⟨rfl, ?_⟩
      refine OkP.step ?_
      refine OkO.move rfl rfl ?_
      refine OkO.nil ⟨rfl, ?_⟩
      refine OkP.step ?_
      refine OkO.move rfl rfl ?_
      refine OkO.nil ⟨rfl, ?_⟩
      refine OkP.step ?_
      refine OkO.move rfl rfl ?_
      refine OkO.nil ⟨rfl, ?_⟩
      refine OkP.step ?_
      refine OkO.index (sz := 10) (n := i) rfl rfl rfl (by kernel_rfl) (by first | assumption | rfl | exact slAt_slice (by omega)) ?_ -- index ('Go.Operand.tmp', 38) ('Go.Operand.tmp', 39)
      refine OkO.nil ⟨rfl, ?_⟩
      refine OkP.step ?_
      refine OkO.fieldAddr (o := 0) rfl (by kernel_rfl) rfl ?_
      refine OkO.nil ⟨rfl, ?_⟩
      refine OkP.step ?_
      refine OkO.indexArr (len := 8) (sz := 1) (n := k) rfl rfl rfl (by kernel_rfl) (by omega) ?_
      refine OkO.nil ⟨rfl, ?_⟩
      refine OkP.step ?_
      refine OkO.load rfl rfl (lda (n := 1) (by kernel_rfl) (by first | assumption | (simp (disch := first | omega | (simp only [hNw, hPt]; omega)) only [gn0, gn1, gn2, gn3, gn4, gn5, gp0, gno, gpo] <;> first | rfl | assumption)) (by first | rfl | assumption)) ?_
      refine OkO.nil ⟨rfl, ?_⟩
      refine OkP.step ?_
      refine OkO.build (z := [.int .i64 0, .int .i64 0]) (pl := [(0, 1), (1, 1)]) rfl (by kernel_rfl) rfl rfl ?_
      refine OkO.nil ⟨rfl, ?_⟩
      refine OkP.step ?_
      refine OkO.buildSlice (el := 36) (sz := 2) (z := [.int .i64 0, .int .i64 0]) rfl (by kernel_rfl) (by decide) rfl rfl ?_
      refine OkO.nil ⟨(sco (sld rfl rfl (lda (n := 1) (by kernel_rfl) (by first | assumption | (simp (disch := first | omega | (simp only [hNw, hPt]; omega)) only [gn0, gn1, gn2, gn3, gn4, gn5, gp0, gno, gpo] <;> first | rfl | assumption)) (by first | rfl | assumption)) rfl (eqr _ (by first | rfl | exact lpl (by assumption) | (simp [AV.plain, AV.plains, AV.cells, pc])))) (sco (sld rfl rfl (lda (n := 1) (by kernel_rfl) (by first | assumption | (simp (disch := first | omega | (simp only [hNw, hPt]; omega)) only [gn0, gn1, gn2, gn3, gn4, gn5, gp0, gno, gpo] <;> first | rfl | assumption)) (by first | rfl | assumption)) rfl (eqr _ (by first | rfl | exact lpl (by assumption) | (simp [AV.plain, AV.plains, AV.cells, pc])))) rfl)), ?_⟩
      refine OkP.step ?_
      refine OkO.builtinE rfl rfl rfl (Mine.app2 (W := W) (k0 := G1.next) (sz := 2) (by_ := 16) (e := 36) (n := 1) (new := (lvR cs g ds i k).c) (hm9.to (Grow.toNew G _)) (hg.new _) (by omega) (by simp only [hNw]; omega) (by kernel_rfl) (by kernel_rfl) (elems_new (n := 1) (sz := 2) rfl) rfl rfl (by rw [hlen9]; omega) (by omega) (by omega) rfl) ?_
      rintro v2 G2 ⟨q1, q2, q3, q4, q5, q6⟩
      simp only [hNw] at q5
      have zl2 : (G2.get bl).bind AObj.cs = some el := by rw [q3.get _ (by omega) (by simp only [hNw]; omega), gno _ _ _ (by omega)]; exact xl2
      have zh2 : (G2.get bh).bind AObj.cs = some eh := by rw [q3.get _ (by omega) (by simp only [hNw]; omega), gno _ _ _ (by omega)]; exact xh2
      refine OkO.nil ⟨(sco (sld rfl rfl (lda (n := 1) (by kernel_rfl) (by first | assumption | (simp (disch := first | omega | (simp only [hNw, hPt]; omega)) only [gn0, gn1, gn2, gn3, gn4, gn5, gp0, gno, gpo] <;> first | rfl | assumption)) (by first | rfl | assumption)) rfl (eqr _ (by first | rfl | exact lpl (by assumption) | (simp [AV.plain, AV.plains, AV.cells, pc])))) (sco (sld rfl rfl (lda (n := 1) (by kernel_rfl) (by first | assumption | (simp (disch := first | omega | (simp only [hNw, hPt]; omega)) only [gn0, gn1, gn2, gn3, gn4, gn5, gp0, gno, gpo] <;> first | rfl | assumption)) (by first | rfl | assumption)) rfl (eqr _ (by first | rfl | exact lpl (by assumption) | (simp [AV.plain, AV.plains, AV.cells, pc])))) rfl)), ?_⟩
      refine OkP.step ?_
      refine OkO.assign rfl rfl ?_
      refine OkO.nil ⟨rfl, ?_⟩
      refine OkP.nil ?_
      refine Ok.region ?_
      refine OkO.bin rfl rfl rfl (bin_add (by omega) (by omega)) ?_
      refine OkO.move rfl rfl ?_
      refine OkO.nil ?_
      refine ⟨cs.length - (k + 1), by omega, k + 1, v2, rfl, hltk, by rw [rowG_succ]; exact q1, Has.of (by kernel_rfl), rfl, q2, ⟨show G1.next ≤ G2.next by omega, fun j hj => by rw [q3.get j hj (by simp only [hNw]; omega), gno _ _ _ (by omega)]; exact hy.get j hj⟩⟩
    · -- no h2
      have hgek : k = cs.length := by simp at h2; omega
      subst hgek
      have hlen9 : ((rowG cs g ds i cs.length).map Rg.c).flatten.length = cs.length * 2 := by rw [flat_len _ 2 (fun x hx => by simp only [List.mem_map] at hx; obtain ⟨y, _, rfl⟩ := hx; rfl)]; simp [rowG]
      obtain ⟨b9, hv9, g9, lo9, hi9⟩ : ∃ b9, v9 = .opn b9 cs.length ∧ G.get b9 = some (.opn ((rowG cs g ds i cs.length).map Rg.c).flatten 36 2) ∧ G1.next ≤ b9 ∧ b9 < G.next := by
        rcases hm9 with ⟨_, h⟩ | ⟨b9, n9, h1, h2, h3, h4, h5⟩
        · rw [h] at hlen9; simp at hlen9; omega
        · exact ⟨b9, by rw [h1]; congr 1; omega, h2, h4, h5⟩
      subst hv9
      refine Ok.exit ?_
      refine Ok.seq ?_
      refine Ok.region ?_
      refine OkO.move rfl rfl ?_
      refine OkO.move rfl rfl ?_
      refine OkO.buildSlice (el := 54) (sz := 1) (z := [.nils]) rfl (by kernel_rfl) (by decide) rfl rfl ?_
      refine OkO.builtinE rfl rfl rfl (Mine.app2 (W := W) (k0 := HB.next) (sz := 1) (by_ := 24) (e := 54) (n := 1) (new := [.opn b9 cs.length]) (hm4.to (hy.new _)) (hg.new _) (by omega) (by simp only [hNw]; omega) (by kernel_rfl) (by kernel_rfl) (elems_new (n := 1) (sz := 1) rfl) rfl rfl (by rw [hvl]; omega) (by omega) (by omega) rfl) ?_
      rintro v4n G6 ⟨q1, q2, q3, q4, q5, q6⟩
      simp only [hNw] at q5 q6 q4
      obtain ⟨m6, hv6⟩ := q6
      have x6 : Ext HB G6 := ⟨by omega, fun j hj => by rw [q3.get j hj (by simp only [hNw]; omega), gno _ _ _ (by omega)]; exact hxy.get j hj⟩
      have xl2 : (G6.get bl).bind AObj.cs = some el := by rw [x6.get _ xl4]; exact xl2w
      have xh2 : (G6.get bh).bind AObj.cs = some eh := by rw [x6.get _ xh4]; exact xh2w
      have yl : el[ol + 9]? = some (I (snowP g.melt ds (lowR ds) (lowT g).snow (i + 1))) := by rw [seg_get xl3 9 (by omega)]; exact evC_snow hll.1
      have yh : eh[oh + 9]? = some (I (snowP g.melt ds (highR ds) (highT g).snow (i + 1))) := by rw [seg_get xh3 9 (by omega)]; exact evC_snow hlh.1
      have hm5a : Mine HB.next G6 v5 36 2 _ := (hm5.to (hy.new _)).keep (w := v4) (fun j h1 h2 => q4 j (by simpa using h1) h2) (fun b m m' h1 h2 => hsep b m' m h2 h1) (by simp only [hNw]; omega)
      refine OkO.assign rfl rfl ?_
      refine OkO.nil ?_
      refine Ok.drawn [(0, true, []), (1, true, []), (2, true, []), (3, true, []), (4, true, []), (5, true, []), (6, true, []), (7, true, []), (8, true, []), (9, true, []), (10, true, []), (11, true, []), (12, true, [10, 5]), (13, false, [10, 5]), (14, false, [])] (by kernel_rfl) ?_
      refine OkP.step ?_
      refine OkO.move rfl rfl ?_
      refine OkO.nil ⟨rfl, ?_⟩
      refine OkP.step ?_
      refine OkO.move rfl rfl ?_
      refine OkO.nil ⟨rfl, ?_⟩
      refine OkP.step ?_
      refine OkO.move rfl rfl ?_
      refine OkO.nil ⟨rfl, ?_⟩
      refine OkP.step ?_
      refine OkO.index (sz := 10) (n := i) rfl rfl rfl (by kernel_rfl) (by first | assumption | rfl | exact slAt_slice (by omega)) ?_ -- index ('Go.Operand.tmp', 54) ('Go.Operand.tmp', 55)
      refine OkO.nil ⟨rfl, ?_⟩
      refine OkP.step ?_
      refine OkO.fieldAddr (o := 9) rfl (by kernel_rfl) rfl ?_
      refine OkO.nil ⟨rfl, ?_⟩
      refine OkP.step ?_
      refine OkO.load rfl rfl (lda (n := 1) (by kernel_rfl) (by first | assumption | (simp (disch := first | omega | (simp only [hNw, hPt]; omega)) only [gn0, gn1, gn2, gn3, gn4, gn5, gp0, gno, gpo] <;> first | rfl | assumption)) (by first | rfl | assumption)) ?_
      refine OkO.nil ⟨rfl, ?_⟩
      refine OkP.step ?_
      refine OkO.move rfl rfl ?_
      refine OkO.nil ⟨rfl, ?_⟩
      refine OkP.step ?_
      refine OkO.move rfl rfl ?_
      refine OkO.nil ⟨rfl, ?_⟩
      refine OkP.step ?_
      refine OkO.index (sz := 10) (n := i) rfl rfl rfl (by kernel_rfl) (by first | assumption | rfl | exact slAt_slice (by omega)) ?_ -- index ('Go.Operand.tmp', 59) ('Go.Operand.tmp', 60)
      refine OkO.nil ⟨rfl, ?_⟩
      refine OkP.step ?_
      refine OkO.fieldAddr (o := 9) rfl (by kernel_rfl) rfl ?_
      refine OkO.nil ⟨rfl, ?_⟩
      refine OkP.step ?_
      refine OkO.load rfl rfl (lda (n := 1) (by kernel_rfl) (by first | assumption | (simp (disch := first | omega | (simp only [hNw, hPt]; omega)) only [gn0, gn1, gn2, gn3, gn4, gn5, gp0, gno, gpo] <;> first | rfl | assumption)) (by first | rfl | assumption)) ?_
      refine OkO.nil ⟨rfl, ?_⟩
      refine OkP.step ?_
      refine OkO.build (z := [.int .i64 0, .int .i64 0]) (pl := [(0, 1), (1, 1)]) rfl (by kernel_rfl) rfl rfl ?_
      refine OkO.nil ⟨rfl, ?_⟩
      refine OkP.step ?_
      refine OkO.buildSlice (el := 36) (sz := 2) (z := [.int .i64 0, .int .i64 0]) rfl (by kernel_rfl) (by decide) rfl rfl ?_
      refine OkO.nil ⟨(sco (sld rfl rfl (lda (n := 1) (by kernel_rfl) (by first | assumption | (simp (disch := first | omega | (simp only [hNw, hPt]; omega)) only [gn0, gn1, gn2, gn3, gn4, gn5, gp0, gno, gpo] <;> first | rfl | assumption)) (by first | rfl | assumption)) rfl (eqr _ (by first | rfl | exact lpl (by assumption) | (simp [AV.plain, AV.plains, AV.cells, pc])))) (sco (sld rfl rfl (lda (n := 1) (by kernel_rfl) (by first | assumption | (simp (disch := first | omega | (simp only [hNw, hPt]; omega)) only [gn0, gn1, gn2, gn3, gn4, gn5, gp0, gno, gpo] <;> first | rfl | assumption)) (by first | rfl | assumption)) rfl (eqr _ (by first | rfl | exact lpl (by assumption) | (simp [AV.plain, AV.plains, AV.cells, pc])))) rfl)), ?_⟩
      refine OkP.step ?_
      refine OkO.builtinE rfl rfl rfl (Mine.app2 (W := W) (k0 := HB.next) (sz := 2) (by_ := 16) (e := 36) (n := 1) (new := [I (snowP g.melt ds (lowR ds) (lowT g).snow (i + 1)), I (snowP g.melt ds (highR ds) (highT g).snow (i + 1))]) (hm5a.to (Grow.toNew _ _)) (q2.new _) (by omega) (by simp only [hNw]; omega) (by kernel_rfl) (by kernel_rfl) (elems_new (n := 1) (sz := 2) rfl) rfl rfl (by rw [hlen5]; omega) (by omega) (by omega) rfl) ?_
      rintro v5n G7 ⟨s1, s2, s3, s4, s5, s6⟩
      simp only [hNw] at s5 s6 s4
      obtain ⟨m7, hv7⟩ := s6
      have x7 : Ext HB G7 := ⟨by omega, fun j hj => by rw [s3.get j hj (by simp only [hNw]; omega), gno _ _ _ (by omega)]; exact x6.get j hj⟩
      have xl7 : (G7.get bl).bind AObj.cs = some el := by rw [x7.get _ xl4]; exact xl2w
      have xh7 : (G7.get bh).bind AObj.cs = some eh := by rw [x7.get _ xh4]; exact xh2w
      refine OkO.nil ⟨(sco (sld rfl rfl (lda (n := 1) (by kernel_rfl) (by first | assumption | (simp (disch := first | omega | (simp only [hNw, hPt]; omega)) only [gn0, gn1, gn2, gn3, gn4, gn5, gp0, gno, gpo] <;> first | rfl | assumption)) (by first | rfl | assumption)) rfl (eqr _ (by first | rfl | exact lpl (by assumption) | (simp [AV.plain, AV.plains, AV.cells, pc])))) (sco (sld rfl rfl (lda (n := 1) (by kernel_rfl) (by first | assumption | (simp (disch := first | omega | (simp only [hNw, hPt]; omega)) only [gn0, gn1, gn2, gn3, gn4, gn5, gp0, gno, gpo] <;> first | rfl | assumption)) (by first | rfl | assumption)) rfl (eqr _ (by first | rfl | exact lpl (by assumption) | (simp [AV.plain, AV.plains, AV.cells, pc])))) rfl)), ?_⟩
      refine OkP.step ?_
      refine OkO.assign rfl rfl ?_
      refine OkO.nil ⟨rfl, ?_⟩
      refine OkP.nil ?_
      refine Ok.region ?_
      refine OkO.bin rfl rfl rfl (bin_add (by omega) (by omega)) ?_
      refine OkO.move rfl rfl ?_
      refine OkO.nil ?_
      refine ⟨ds.length - (i + 1), by omega, i + 1, v4n, v5n, vs ++ [.opn b9 cs.length], rfl, hlt, ?_, ?_, ?_, ?_, Has.of (by kernel_rfl), rfl, s2, x7⟩
      · refine (q1.to (Grow.toNew _ _)).keep (w := v5) (fun j h1 h2 => s4 j (by simpa using h1) h2) (fun b m m' h1 h2 => by rw [hv6] at h1; have e1 := (AV.opn.inj h1).1; have := hm5.lt h2; omega) (by simp only [hNw]; omega)
      · rw [snG_succ]; exact s1
      · rw [rowsG_succ]
        have kk : RowsR G7 v4n v5n vs (rowsG cs g ds i) := hrows.keep (fun j h1 h2 h3 => by rw [s4 j (by omega) h3, gno _ _ _ (by omega), q4 j (by omega) h2, gno _ _ _ (by omega), hy.get j h1]) (by omega) (fun b m h => by rw [hv6] at h; have := (AV.opn.inj h).1; left; omega) (fun b m h => by rw [hv7] at h; have := (AV.opn.inj h).1; left; omega)
        have := kk.snoc (b := b9) (r := rowG cs g ds i cs.length) (by rw [s4 _ (by omega) (fun m hm => by have := hm5.lt hm; omega), gno _ _ _ (by omega), q4 _ (by omega) (fun m hm => by have := hm4.lt hm; omega), gno _ _ _ (by omega)]; exact g9) (by omega) (fun m h => by rw [hv6] at h; have := (AV.opn.inj h).1; omega) (fun m h => by rw [hv7] at h; have := (AV.opn.inj h).1; omega)
        rw [show (rowG cs g ds i cs.length).length = cs.length from by simp [rowG]] at this; exact this
      · intro b m m' h1 h2; rw [hv6] at h1; rw [hv7] at h2; have e1 := (AV.opn.inj h1).1; have e2 := (AV.opn.inj h2).1; omega
  · -- no h1
    have hge : i = ds.length := by simp at h1; omega
    subst hge
    refine Ok.exit ?_
    refine Ok.seq ?_
    refine Ok.region ?_
    refine OkO.move rfl rfl ?_
    refine OkO.move rfl rfl ?_
    refine OkO.assign rfl rfl ?_
    refine OkO.assign rfl rfl ?_
    refine OkO.nil ?_
    refine Ok.ret ⟨.inr rfl, ?_⟩
    refine back_newA (resV_tmp rfl (resV_tmp rfl resV_nil)) rfl (by rw [← hW]; exact hg) (fun H2 r2 r3 => ⟨v4, v5, rfl, r2, ?_, ?_⟩)
    · have hB := Mine.back (l := vs.map fun x => [x]) (H := H) (H' := H2) (by rw [singles]; exact hm4) (fun x hx => by simp only [List.mem_map] at hx; obtain ⟨y, _, rfl⟩ := hx; rfl) (by omega) (r3.imp (fun h => ⟨h.1, (flatT h.2).1⟩) id)
      refine hrows.lists hB.1 (r3.imp (fun h => ?_) id)
      have h6 := (flatT h.2).1
      rcases hm4 with ⟨_, h2⟩ | ⟨b, m, h1, _⟩
      · exact h2
      · rw [h1] at h6; cases h6
    · exact (Mine.back (H := H) hm5 (fun x hx => by simp only [List.mem_map] at hx; obtain ⟨y, _, rfl⟩ := hx; rfl) (by omega) (r3.imp (fun h => ⟨h.1, (flatT h.2).2⟩) id)).1
end
end Go.Ev
