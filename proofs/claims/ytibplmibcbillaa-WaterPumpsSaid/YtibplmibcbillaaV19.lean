/-
  Functions of the program, reckoned by the evaluator: what each answers, and that it leaves what came in as it was (part 19).
-/
import Derived.Test.YtibplmibcbillaaV18
set_option maxRecDepth 100000
set_option linter.unusedSimpArgs false
set_option linter.unusedVariables false
namespace Go.Ev
open Go Go.Proofs
noncomputable section
/-- Lists of ranges, each in a block of its own, none of them that of either slice. -/
def RowsR (G : Heap) (v6 v7 : AV) (vs : List AV) (rows : List (List Rg)) : Prop := vs.length = rows.length ∧ ∀ (j : Nat) x r, vs[j]? = some x → rows[j]? = some r → ∃ b, x = .opn b r.length ∧ G.get b = some (.opn ((r.map Rg.c).flatten) 36 2) ∧ b < G.next ∧ (∀ m, v6 ≠ .opn b m) ∧ (∀ m, v7 ≠ .opn b m)
theorem RowsR.keep {G G' : Heap} {v6 v7 w6 w7 : AV} {vs : List AV} {rows : List (List Rg)} (h : RowsR G v6 v7 vs rows) (hk : ∀ j, j < G.next → (∀ m, v6 ≠ .opn j m) → (∀ m, v7 ≠ .opn j m) → G'.get j = G.get j) (hn : G.next ≤ G'.next)
    (h6 : ∀ b m, w6 = .opn b m → G.next ≤ b ∨ v6 = w6) (h7 : ∀ b m, w7 = .opn b m → G.next ≤ b ∨ v7 = w7) : RowsR G' w6 w7 vs rows := by
  refine ⟨h.1, fun j x r k1 k2 => ?_⟩
  obtain ⟨b, a1, a2, a3, a4, a5⟩ := h.2 j x r k1 k2
  refine ⟨b, a1, by rw [hk b a3 a4 a5]; exact a2, by omega, fun m hm => ?_, fun m hm => ?_⟩
  · rcases h6 b m hm with h | h
    · omega
    · exact a4 m (h.trans hm)
  · rcases h7 b m hm with h | h
    · omega
    · exact a5 m (h.trans hm)
theorem RowsR.snoc {G : Heap} {v6 v7 : AV} {vs : List AV} {rows : List (List Rg)} (h : RowsR G v6 v7 vs rows) {b : Nat} {r : List Rg} (h1 : G.get b = some (.opn ((r.map Rg.c).flatten) 36 2)) (h2 : b < G.next) (h3 : ∀ m, v6 ≠ .opn b m) (h4 : ∀ m, v7 ≠ .opn b m) : RowsR G v6 v7 (vs ++ [.opn b r.length]) (rows ++ [r]) := by
  refine ⟨by simp [h.1], fun j x q k1 k2 => ?_⟩
  have hl := h.1
  by_cases hj : j < vs.length
  · rw [List.getElem?_append_left hj] at k1
    rw [List.getElem?_append_left (by omega)] at k2
    exact h.2 j x q k1 k2
  · have hj2 : j = vs.length := by
      have := (List.getElem?_eq_some_iff.1 k1).1
      simp at this; omega
    subst hj2
    simp at k1
    rw [hl] at k2
    simp at k2
    subst k1 k2
    exact ⟨b, rfl, h1, h2, h3, h4⟩
/-- A slice of lists of ranges. -/
def ListsR (G : Heap) (v : AV) (rows : List (List Rg)) : Prop := ∃ vs : List AV, Row G v 1 (vs.map fun x => [x]) ∧ vs.length = rows.length ∧ ∀ (j : Nat) x r, vs[j]? = some x → rows[j]? = some r → Row G x 2 (r.map Rg.c)
theorem ListsR.ext {H G : Heap} {v : AV} {rows : List (List Rg)} (h : ListsR H v rows) (g : Ext H G) : ListsR G v rows := let ⟨vs, h1, h2, h3⟩ := h; ⟨vs, h1.ext g, h2, fun j x r k1 k2 => (h3 j x r k1 k2).ext g⟩
theorem RowsR.lists {G G' : Heap} {v6 v7 : AV} {vs : List AV} {rows : List (List Rg)} (h : RowsR G v6 v7 vs rows) (hr : Row G' v6 1 (vs.map fun x => [x])) (hg : vs = [] ∨ ((∀ n, G'.get n = G.get n) ∧ G'.next = G.next)) : ListsR G' v6 rows := by
  refine ⟨vs, hr, h.1, fun j x r k1 k2 => ?_⟩
  rcases hg with rfl | ⟨g1, g2⟩
  · simp at k1
  · obtain ⟨b, rfl, a2, a3, _, _⟩ := h.2 j x r k1 k2
    have : Mine 0 G (.opn b r.length) 36 2 ((r.map Rg.c).flatten) := .inr ⟨b, r.length, rfl, a2, by rw [flat_len _ 2 (fun x hx => by simp only [List.mem_map] at hx; obtain ⟨y, _, rfl⟩ := hx; rfl)]; simp, by omega, a3⟩
    exact (this.row (fun x hx => by simp only [List.mem_map] at hx; obtain ⟨y, _, rfl⟩ := hx; rfl) (by omega)).same g1 g2
theorem backRow {H G H' : Heap} {v : AV} {sz : Nat} {l : List (List AV)} (hc : Cut G v sz) (hr : Row G v sz l) (r : (H' = H ∧ v.flat = true) ∨ ((∀ n, H'.get n = G.get n) ∧ H'.next = G.next)) : Row H' v sz l := by
  rcases r with ⟨_, hf⟩ | ⟨h1, h2⟩
  · rcases hc with ⟨b, off, len, cap, rfl, _⟩ | ⟨b, len, cs, e, rfl, _⟩ | rfl
    · cases hf
    · cases hf
    · have hl : l = [] := by
        have := hr.len
        cases l with
        | nil => rfl
        | cons a b => simp [lenOf] at this
      subst hl
      exact Row.nil _ _
  · exact hr.same h1 h2
theorem evC_get {cs : List Cell} {g : Gr} {ds : List Day} {t : Tru} {lvs rain : List Int} {i k : Nat} (h : (levP cs g ds t lvs rain (i + 1)).length = 8) (hk : k < 8) : (evC cs g ds t lvs rain i)[k]? = some (I ((levP cs g ds t lvs rain (i + 1)).getD k 0)) := by
  rw [evC, List.getElem?_append_left (by simp; omega), List.getElem?_map, List.getElem?_eq_getElem (by omega), getD_lt (by omega)]; rfl
theorem evC_snow {cs : List Cell} {g : Gr} {ds : List Day} {t : Tru} {lvs rain : List Int} {i : Nat} (h : (levP cs g ds t lvs rain (i + 1)).length = 8) : (evC cs g ds t lvs rain i)[9]? = some (I (snowP g.melt ds rain t.snow (i + 1))) := by
  rw [evC, List.getElem?_append_right (by simp; omega)]
  simp [h]
/-- The range of a level, of all on a day, of the snow. -/
def lvR (cs : List Cell) (g : Gr) (ds : List Day) (i k : Nat) : Rg := ⟨(levP cs g ds (lowT g) (lowL cs) (lowR ds) (i + 1)).getD k 0, (levP cs g ds (highT g) (highL cs) (highR ds) (i + 1)).getD k 0⟩
def rowG (cs : List Cell) (g : Gr) (ds : List Day) (i k : Nat) : List Rg := (List.range k).map (lvR cs g ds i)
def rowsG (cs : List Cell) (g : Gr) (ds : List Day) (n : Nat) : List (List Rg) := (List.range n).map fun i => rowG cs g ds i cs.length
def snG (cs : List Cell) (g : Gr) (ds : List Day) (n : Nat) : List Rg := (List.range n).map fun i => ⟨snowP g.melt ds (lowR ds) (lowT g).snow (i + 1), snowP g.melt ds (highR ds) (highT g).snow (i + 1)⟩
theorem rowG_succ (cs : List Cell) (g : Gr) (ds : List Day) (i k : Nat) : ((rowG cs g ds i (k + 1)).map Rg.c).flatten = ((rowG cs g ds i k).map Rg.c).flatten ++ (lvR cs g ds i k).c := by simp [rowG, List.range_succ]
theorem rowsG_succ (cs : List Cell) (g : Gr) (ds : List Day) (n : Nat) : rowsG cs g ds (n + 1) = rowsG cs g ds n ++ [rowG cs g ds n cs.length] := by simp [rowsG, List.range_succ]
theorem snG_succ (cs : List Cell) (g : Gr) (ds : List Day) (n : Nat) : ((snG cs g ds (n + 1)).map Rg.c).flatten = ((snG cs g ds n).map Rg.c).flatten ++ [I (snowP g.melt ds (lowR ds) (lowT g).snow (n + 1)), I (snowP g.melt ds (highR ds) (highT g).snow (n + 1))] := by simp [snG, List.range_succ, Rg.c]
theorem c86l (m : Nat) (cv dv : AV) (cs : List Cell) (g : Gr) (ds : List Day) (H : Heap) (hR : Row H cv 7 (cs.map Cell.c)) (hY : Row H dv 3 (ds.map Day.c)) (hca : cv.atom = true) (hda : dv.atom = true) (hd0 : daysErr cs g ds = 0) : ∃ v H', RR (m + 6) (.fn 86 [.agg [.fn 85 [] []], .agg [cv, I g.slo, I g.shi, I g.klo, I g.khi, I g.melt], dv]) H = some (v, H') ∧ Ret H H' ∧ Row H' v 10 ((List.range ds.length).map (evC cs g ds (lowT g) (lowL cs) (lowR ds))) := by
  show ∃ v H', evFn Try.prog (RR (m + 5)) 86 [.agg [.fn 85 [] []], .agg [cv, I g.slo, I g.shi, I g.klo, I g.khi, I g.melt], dv] H = some (v, H') ∧ Ret H H' ∧ Row H' v 10 ((List.range ds.length).map (evC cs g ds (lowT g) (lowL cs) (lowR ds)))
  refine fn_okE Try.func86 rfl rfl (by kernel_rfl) (by kernel_rfl) ?_
  obtain ⟨W, hW⟩ : ∃ W : Heap, W = ⟨H.t, H.next, H.next⟩ := ⟨_, rfl⟩
  have hg : ∀ n, W.get n = H.get n := fun n => by rw [hW]; rfl
  have hN : W.next = H.next := by rw [hW]
  have hE : ∀ G, Grow W G → Ext H G := fun G g => ⟨by rw [← hN]; exact g.next, fun n k => by rw [g.get n (by rw [hN]; exact k), hg]⟩
  have hG : Grow W W := Grow.refl (by rw [hW]; exact Nat.le_refl _)
  rw [← hW]
  have hlc : lenOf cv = some cs.length := by simpa using hR.len
  have pc := lpl hlc
  have hld : lenOf dv = some ds.length := by simpa using hY.len
  have hF := fit_of (low_ok hd0)
  have hn8 := hF.n8
  have hd30 := hF.d30
  refine Ok.seq ?_
  refine Ok.region ?_
  refine OkO.box rfl rfl ?_
  refine OkO.box rfl rfl ?_
  refine OkO.assign rfl rfl ?_
  refine OkO.nil ?_
  refine Ok.seq ?_
  refine Ok.region ?_
  refine OkO.load rfl rfl (ldg (n := 1) (by kernel_rfl) (by first | assumption | (simp (disch := first | omega | (simp only [hNw, hPt]; omega)) only [gn0, gn1, gn2, gn3, gn4, gn5, gp0, gno, gpo] <;> first | rfl | assumption)) (by first | rfl | assumption)) ?_
  refine OkO.load rfl rfl (ldg (n := 6) (by kernel_rfl) (by first | assumption | (simp (disch := first | omega | (simp only [hNw, hPt]; omega)) only [gn0, gn1, gn2, gn3, gn4, gn5, gp0, gno, gpo] <;> first | rfl | assumption)) (by first | rfl | assumption)) ?_
  refine OkO.move rfl rfl ?_
  refine OkO.callE rfl rfl rfl rfl rfl (c93l (m + 2) cv dv cs g ds _ (hR.ext (hE _ (by (try dsimp only); repeat (first | exact hG | apply Grow.new | (refine Grow.put ?_ _ (by first | omega | (simp only [hNw, hPt]; omega))))))) (by omega) (hY.ext (hE _ (by (try dsimp only); repeat (first | exact hG | apply Grow.new | (refine Grow.put ?_ _ (by first | omega | (simp only [hNw, hPt]; omega))))))) (by omega) hca hda (by omega)) ?_ -- "(sackung/water.choice).flow"
  rintro v93 H93 ⟨lv, rv, rfl, q93, l93, r93⟩
  have g93 : Grow W H93 := Grow.ret (by (try dsimp only); repeat (first | exact hG | apply Grow.new | (refine Grow.put ?_ _ (by first | omega | (simp only [hNw, hPt]; omega))))) q93
  refine OkO.callE rfl rfl rfl rfl rfl (c54 m cv dv lv rv cs g ds (lowT g) (lowL cs) (lowR ds) _ (hR.ext (hE _ g93)) (hY.ext (hE _ g93)) l93 r93 hF) ?_ -- "(sackung/water.flow).run"
  rintro v54 H54 ⟨q54, r54, c54⟩
  have g54 : Grow W H54 := Grow.ret g93 q54
  refine OkO.assign rfl rfl ?_
  refine OkO.nil ?_
  refine Ok.ret ⟨.inr rfl, ?_⟩
  exact back_newA (resV_tmp rfl resV_nil) rfl (by rw [← hW]; exact g54) (fun H2 p1 p2 => ⟨p1, backRow c54 r54 p2⟩)
theorem c86h (m : Nat) (cv dv : AV) (cs : List Cell) (g : Gr) (ds : List Day) (H : Heap) (hR : Row H cv 7 (cs.map Cell.c)) (hY : Row H dv 3 (ds.map Day.c)) (hca : cv.atom = true) (hda : dv.atom = true) (hd0 : daysErr cs g ds = 0) : ∃ v H', RR (m + 6) (.fn 86 [.agg [.fn 87 [] []], .agg [cv, I g.slo, I g.shi, I g.klo, I g.khi, I g.melt], dv]) H = some (v, H') ∧ Ret H H' ∧ Row H' v 10 ((List.range ds.length).map (evC cs g ds (highT g) (highL cs) (highR ds))) := by
  show ∃ v H', evFn Try.prog (RR (m + 5)) 86 [.agg [.fn 87 [] []], .agg [cv, I g.slo, I g.shi, I g.klo, I g.khi, I g.melt], dv] H = some (v, H') ∧ Ret H H' ∧ Row H' v 10 ((List.range ds.length).map (evC cs g ds (highT g) (highL cs) (highR ds)))
  refine fn_okE Try.func86 rfl rfl (by kernel_rfl) (by kernel_rfl) ?_
  obtain ⟨W, hW⟩ : ∃ W : Heap, W = ⟨H.t, H.next, H.next⟩ := ⟨_, rfl⟩
  have hg : ∀ n, W.get n = H.get n := fun n => by rw [hW]; rfl
  have hN : W.next = H.next := by rw [hW]
  have hE : ∀ G, Grow W G → Ext H G := fun G g => ⟨by rw [← hN]; exact g.next, fun n k => by rw [g.get n (by rw [hN]; exact k), hg]⟩
  have hG : Grow W W := Grow.refl (by rw [hW]; exact Nat.le_refl _)
  rw [← hW]
  have hlc : lenOf cv = some cs.length := by simpa using hR.len
  have pc := lpl hlc
  have hld : lenOf dv = some ds.length := by simpa using hY.len
  have hF := fit_of (high_ok hd0)
  have hn8 := hF.n8
  have hd30 := hF.d30
  refine Ok.seq ?_
  refine Ok.region ?_
  refine OkO.box rfl rfl ?_
  refine OkO.box rfl rfl ?_
  refine OkO.assign rfl rfl ?_
  refine OkO.nil ?_
  refine Ok.seq ?_
  refine Ok.region ?_
  refine OkO.load rfl rfl (ldg (n := 1) (by kernel_rfl) (by first | assumption | (simp (disch := first | omega | (simp only [hNw, hPt]; omega)) only [gn0, gn1, gn2, gn3, gn4, gn5, gp0, gno, gpo] <;> first | rfl | assumption)) (by first | rfl | assumption)) ?_
  refine OkO.load rfl rfl (ldg (n := 6) (by kernel_rfl) (by first | assumption | (simp (disch := first | omega | (simp only [hNw, hPt]; omega)) only [gn0, gn1, gn2, gn3, gn4, gn5, gp0, gno, gpo] <;> first | rfl | assumption)) (by first | rfl | assumption)) ?_
  refine OkO.move rfl rfl ?_
  refine OkO.callE rfl rfl rfl rfl rfl (c93h (m + 2) cv dv cs g ds _ (hR.ext (hE _ (by (try dsimp only); repeat (first | exact hG | apply Grow.new | (refine Grow.put ?_ _ (by first | omega | (simp only [hNw, hPt]; omega))))))) (by omega) (hY.ext (hE _ (by (try dsimp only); repeat (first | exact hG | apply Grow.new | (refine Grow.put ?_ _ (by first | omega | (simp only [hNw, hPt]; omega))))))) (by omega) hca hda (by omega)) ?_ -- "(sackung/water.choice).flow"
  rintro v93 H93 ⟨lv, rv, rfl, q93, l93, r93⟩
  have g93 : Grow W H93 := Grow.ret (by (try dsimp only); repeat (first | exact hG | apply Grow.new | (refine Grow.put ?_ _ (by first | omega | (simp only [hNw, hPt]; omega))))) q93
  refine OkO.callE rfl rfl rfl rfl rfl (c54 m cv dv lv rv cs g ds (highT g) (highL cs) (highR ds) _ (hR.ext (hE _ g93)) (hY.ext (hE _ g93)) l93 r93 hF) ?_ -- "(sackung/water.flow).run"
  rintro v54 H54 ⟨q54, r54, c54⟩
  have g54 : Grow W H54 := Grow.ret g93 q54
  refine OkO.assign rfl rfl ?_
  refine OkO.nil ?_
  refine Ok.ret ⟨.inr rfl, ?_⟩
  exact back_newA (resV_tmp rfl resV_nil) rfl (by rw [← hW]; exact g54) (fun H2 p1 p2 => ⟨p1, backRow c54 r54 p2⟩)
theorem flatT {a b : AV} (h : (AV.tup [a, b]).flat = true) : a.flat = true ∧ b.flat = true := by
  simp only [AV.flat, AV.flats] at h
  cases ha : a.flat with
  | false => rw [ha] at h; cases h
  | true =>
    rw [ha] at h
    cases hb : b.flat with
    | false => rw [hb] at h; cases h
    | true => exact ⟨rfl, rfl⟩
theorem flatT3 {a b : AV} {x : Int} (h : (AV.tup [a, b, I x]).flat = true) : a.flat = true ∧ b.flat = true := by
  simp only [AV.flat, AV.flats] at h
  cases ha : a.flat with
  | false => rw [ha] at h; cases h
  | true =>
    rw [ha] at h
    cases hb : b.flat with
    | false => rw [hb] at h; cases h
    | true => exact ⟨rfl, rfl⟩
end
end Go.Ev
