/-
  Functions of the program, reckoned by the evaluator: what each answers, and that it leaves what came in as it was.
-/
import Derived.Test.YtfhomicfhgiidaaPt28
import Derived.Test.YtfhomicfhgiidaaPt27
set_option maxRecDepth 100000
set_option linter.unusedSimpArgs false
set_option linter.unusedVariables false
namespace Go.Ev
open Go Go.Proofs
noncomputable section
theorem c103 (m : Nat) (v good : AV) (xs : List AV) (ps : List Bool) (H : Heap) (hR : Row H v 1 (xs.map fun x => [x])) (hl : xs.length ≤ 1000000) (hp : ps.length = xs.length) (hgood : ∀ (i : Nat) x b, xs[i]? = some x → ps[i]? = some b → CallB m good [x] H b) : RR (m + 1) (.fn 103 [v, good]) H = some (.bool (ps.all id), H) := by
  refine (R_fn _ _ _ _ _).trans ?_; refine fn_ok Try.func103 rfl rfl (by kernel_rfl) (by kernel_rfl) ?_
  obtain ⟨W, hW, hg, hN, hE, hG⟩ := wOf H
  rw [← hW]
  have hlen : lenOf v = some xs.length := by simpa using hR.len
  refine kS ?_; refine kR ?_; refine oA rfl rfl ?_; refine oN ?_; refine kS ?_; refine kS ?_; refine kR ?_; refine oM rfl rfl ?_; refine oB rfl rfl rfl qbl ?_; refine oM rfl rfl ?_; refine oN ?_; refine Ok.block ?_
  refine Ok.loop (fun n s => ∃ i : Nat, n = xs.length - i ∧ i ≤ xs.length ∧ (∀ j, j < i → ps[j]? = some true) ∧ Has 5 [(1, good), (4, .bool false), (7, v), (8, I xs.length), (9, I (i : Int))] s.T ∧ s.D = [] ∧ Grow W s.H) (xs.length) (by unfold loopFuel; omega)
    ⟨0, rfl, Nat.zero_le _, nofun, Has.of (by kernel_rfl), rfl, hG⟩ ?_
  rintro n ⟨T, D, G⟩ ⟨i, hn, hi, hall, ⟨f, hT⟩, hD, hg⟩
  dsimp only at *
  subst hT hD
  have hgn := hg.next
  refine kS ?_; refine kR ?_; refine OkO.bin rfl rfl rfl (bin_lss _ _) ?_; refine oN ?_; refine kS ?_
  refine Ok.cond rfl (fun h1 => ?_) (fun h1 => ?_)
  · have hlt : i < xs.length := by simpa using h1
    obtain ⟨b, hb⟩ : ∃ b, ps[i]? = some b := ⟨_, List.getElem?_eq_getElem (by omega)⟩
    obtain ⟨bb, off, cs, i1, i2, i3, i4⟩ := (hR.ext (hE _ hg)).at_ i [xs[i]] (by simp [hlt])
    have hne : bb ≠ G.next := by omega
    have i5 := seg_one i3
    refine Ok.skip ?_; refine kS ?_; refine Ok.block ?_; refine kS ?_; refine kR ?_; refine qX (sz := 1) rfl rfl rfl ?_; refine oL rfl rfl (qla0 1) ?_; refine oA rfl rfl ?_; refine oN ?_; refine kS ?_; refine kR ?_; refine oM rfl rfl ?_; refine oM rfl rfl ?_
    obtain ⟨gf, gas, hc1, hc2⟩ := hgood i xs[i] b (by simp [hlt]) hb
    refine oV rfl rfl rfl rfl hc1 (hc2 _ (hE _ (by (try dsimp only); repeat (first | (first | exact hg | exact hG) | apply Grow.new | (refine Grow.put ?_ _ (by first | omega | (simp only [hNw, hPt]; omega))))))) ?_; refine OkO.un rfl rfl rfl ?_; refine oN ?_
    refine Ok.cond rfl (fun h2 => ?_) (fun h2 => ?_)
    · refine kS ?_
      refine kR ?_; refine oA rfl rfl ?_; refine oN ?_
      refine Ok.ret ⟨.inr rfl, ?_⟩
      exact back_flat rfl (congrArg AV.bool (by symm; rw [List.all_eq_false]; exact ⟨false, List.mem_of_getElem? (by rw [hb]; congr 1; simpa using h2), by simp⟩)) rfl (by rw [← hW]; exact (by (try dsimp only); repeat (first | (first | exact hg | exact hG) | apply Grow.new | (refine Grow.put ?_ _ (by first | omega | (simp only [hNw, hPt]; omega))))))
    · refine Ok.skip ?_
      refine kR ?_; refine OkO.bin rfl rfl rfl (bin_add (by omega) (by omega)) ?_; refine oM rfl rfl ?_; refine oN ?_
      refine ⟨xs.length - (i + 1), by omega, i + 1, rfl, hlt, fun j hj => ?_, Has.of (by kernel_rfl), rfl, (by (try dsimp only); repeat (first | (first | exact hg | exact hG) | apply Grow.new | (refine Grow.put ?_ _ (by first | omega | (simp only [hNw, hPt]; omega)))))⟩
      by_cases e : j = i
      · subst e; rw [hb]; simpa using h2
      · exact hall j (by omega)
  · have hge : i = xs.length := by simp at h1; omega
    refine Ok.exit ?_; refine kS ?_; refine kR ?_; refine oA rfl rfl ?_; refine oN ?_
    refine Ok.ret ⟨.inr rfl, ?_⟩
    exact back_flat rfl (congrArg AV.bool (by symm; rw [List.all_eq_true]; intro x hx; obtain ⟨j, hj, rfl⟩ := List.mem_iff_getElem.1 hx; have := hall j (by omega); rw [List.getElem?_eq_getElem hj] at this; simpa using this)) rfl (by rw [← hW]; exact (by (try dsimp only); repeat (first | (first | exact hg | exact hG) | apply Grow.new | (refine Grow.put ?_ _ (by first | omega | (simp only [hNw, hPt]; omega))))))
theorem c101 (m : Nat) (v good : AV) (xs : List AV) (ps : List Bool) (H : Heap) (hR : Row H v 1 (xs.map fun x => [x])) (hl : xs.length ≤ 1000000) (hp : ps.length = xs.length) (hgood : ∀ (i : Nat) x b, xs[i]? = some x → ps[i]? = some b → CallB m good [x] H b) : RR (m + 1) (.fn 101 [v, good]) H = some (.bool (ps.all id), H) := by
  refine (R_fn _ _ _ _ _).trans ?_; refine fn_ok Try.func101 rfl rfl (by kernel_rfl) (by kernel_rfl) ?_
  obtain ⟨W, hW, hg, hN, hE, hG⟩ := wOf H
  rw [← hW]
  have hlen : lenOf v = some xs.length := by simpa using hR.len
  refine kS ?_; refine kR ?_; refine oA rfl rfl ?_; refine oN ?_; refine kS ?_; refine kS ?_; refine kR ?_; refine oM rfl rfl ?_; refine oB rfl rfl rfl qbl ?_; refine oM rfl rfl ?_; refine oN ?_; refine Ok.block ?_
  refine Ok.loop (fun n s => ∃ i : Nat, n = xs.length - i ∧ i ≤ xs.length ∧ (∀ j, j < i → ps[j]? = some true) ∧ Has 5 [(1, good), (4, .bool false), (7, v), (8, I xs.length), (9, I (i : Int))] s.T ∧ s.D = [] ∧ Grow W s.H) (xs.length) (by unfold loopFuel; omega)
    ⟨0, rfl, Nat.zero_le _, nofun, Has.of (by kernel_rfl), rfl, hG⟩ ?_
  rintro n ⟨T, D, G⟩ ⟨i, hn, hi, hall, ⟨f, hT⟩, hD, hg⟩
  dsimp only at *
  subst hT hD
  have hgn := hg.next
  refine kS ?_; refine kR ?_; refine OkO.bin rfl rfl rfl (bin_lss _ _) ?_; refine oN ?_; refine kS ?_
  refine Ok.cond rfl (fun h1 => ?_) (fun h1 => ?_)
  · have hlt : i < xs.length := by simpa using h1
    obtain ⟨b, hb⟩ : ∃ b, ps[i]? = some b := ⟨_, List.getElem?_eq_getElem (by omega)⟩
    obtain ⟨bb, off, cs, i1, i2, i3, i4⟩ := (hR.ext (hE _ hg)).at_ i [xs[i]] (by simp [hlt])
    have hne : bb ≠ G.next := by omega
    have i5 := seg_one i3
    refine Ok.skip ?_; refine kS ?_; refine Ok.block ?_; refine kS ?_; refine kR ?_; refine qX (sz := 1) rfl rfl rfl ?_; refine oL rfl rfl (qla0 1) ?_; refine oA rfl rfl ?_; refine oN ?_; refine kS ?_; refine kR ?_; refine oM rfl rfl ?_; refine oM rfl rfl ?_
    obtain ⟨gf, gas, hc1, hc2⟩ := hgood i xs[i] b (by simp [hlt]) hb
    refine oV rfl rfl rfl rfl hc1 (hc2 _ (hE _ (by (try dsimp only); repeat (first | (first | exact hg | exact hG) | apply Grow.new | (refine Grow.put ?_ _ (by first | omega | (simp only [hNw, hPt]; omega))))))) ?_; refine OkO.un rfl rfl rfl ?_; refine oN ?_
    refine Ok.cond rfl (fun h2 => ?_) (fun h2 => ?_)
    · refine kS ?_
      refine kR ?_; refine oA rfl rfl ?_; refine oN ?_
      refine Ok.ret ⟨.inr rfl, ?_⟩
      exact back_flat rfl (congrArg AV.bool (by symm; rw [List.all_eq_false]; exact ⟨false, List.mem_of_getElem? (by rw [hb]; congr 1; simpa using h2), by simp⟩)) rfl (by rw [← hW]; exact (by (try dsimp only); repeat (first | (first | exact hg | exact hG) | apply Grow.new | (refine Grow.put ?_ _ (by first | omega | (simp only [hNw, hPt]; omega))))))
    · refine Ok.skip ?_
      refine kR ?_; refine OkO.bin rfl rfl rfl (bin_add (by omega) (by omega)) ?_; refine oM rfl rfl ?_; refine oN ?_
      refine ⟨xs.length - (i + 1), by omega, i + 1, rfl, hlt, fun j hj => ?_, Has.of (by kernel_rfl), rfl, (by (try dsimp only); repeat (first | (first | exact hg | exact hG) | apply Grow.new | (refine Grow.put ?_ _ (by first | omega | (simp only [hNw, hPt]; omega)))))⟩
      by_cases e : j = i
      · subst e; rw [hb]; simpa using h2
      · exact hall j (by omega)
  · have hge : i = xs.length := by simp at h1; omega
    refine Ok.exit ?_; refine kS ?_; refine kR ?_; refine oA rfl rfl ?_; refine oN ?_
    refine Ok.ret ⟨.inr rfl, ?_⟩
    exact back_flat rfl (congrArg AV.bool (by symm; rw [List.all_eq_true]; intro x hx; obtain ⟨j, hj, rfl⟩ := List.mem_iff_getElem.1 hx; have := hall j (by omega); rw [List.getElem?_eq_getElem hj] at this; simpa using this)) rfl (by rw [← hW]; exact (by (try dsimp only); repeat (first | (first | exact hg | exact hG) | apply Grow.new | (refine Grow.put ?_ _ (by first | omega | (simp only [hNw, hPt]; omega))))))
/-- A row of a table, as it reads. -/
def Cols (H : Heap) (v : AV) (R : List (List Int)) : Prop := ∃ cvs : List AV, Row H v 1 (cvs.map fun x => [x]) ∧ cvs.length = R.length ∧ ∀ (i : Nat) x l, cvs[i]? = some x → R[i]? = some l → Row H x 1 (l.map fun y => [I y])
/-- A table, as it reads. -/
def Tab (H : Heap) (v : AV) (T : List (List (List Int))) : Prop := ∃ rvs : List AV, Row H v 1 (rvs.map fun x => [x]) ∧ rvs.length = T.length ∧ ∀ (i : Nat) x R, rvs[i]? = some x → T[i]? = some R → Cols H x R
theorem Cols.ext {H G : Heap} {v : AV} {R : List (List Int)} (h : Cols H v R) (g : Ext H G) : Cols G v R := let ⟨cvs, h1, h2, h3⟩ := h; ⟨cvs, h1.ext g, h2, fun i x l a c => (h3 i x l a c).ext g⟩
theorem Tab.ext {H G : Heap} {v : AV} {T : List (List (List Int))} (h : Tab H v T) (g : Ext H G) : Tab G v T := let ⟨rvs, h1, h2, h3⟩ := h; ⟨rvs, h1.ext g, h2, fun i x R a c => (h3 i x R a c).ext g⟩
theorem Tab.at_ {H : Heap} {v : AV} {T : List (List (List Int))} {R : List (List Int)} {l : List Int} {r c : Nat} (h : Tab H v T) (h1 : T[r]? = some R) (h2 : R[c]? = some l) : TabAt H v r c l := by
  obtain ⟨rvs, a1, a2, a3⟩ := h
  have hr : r < rvs.length := by rw [a2]; exact (List.getElem?_eq_some_iff.1 h1).1
  obtain ⟨cvs, b1, b2, b3⟩ := a3 r rvs[r] R (List.getElem?_eq_getElem hr) h1
  have hc : c < cvs.length := by rw [b2]; exact (List.getElem?_eq_some_iff.1 h2).1
  exact ⟨rvs, rvs[r], cvs, cvs[c], a1, List.getElem?_eq_getElem hr, b1, List.getElem?_eq_getElem hc, b3 c cvs[c] l (List.getElem?_eq_getElem hc) h2⟩
def numsB (n : Nat) (l : List Int) : Bool := decide ((l.length : Int) = (n : Int)) && l.all fun x => inB x (-1000000000000000) 1000000000000000
def rowB (N n : Nat) (R : List (List Int)) : Bool := decide ((R.length : Int) = (N : Int)) && R.all (numsB n)
def shapeB (N n : Nat) (least : Int) (T : List (List (List Int))) : Bool := decide ((T.length : Int) = least) && T.all (rowB N n)
theorem c104 (m : Nat) (n b1 b2 : Nat) (cv lv : AV) (cols : List (List Bed)) (least : Int) (l : List Int) (H : Heap) (hM : Mat H cv cols) (hcl : ∀ c ∈ cols, c.length = n) (hN9 : 1 ≤ cols.length ∧ cols.length ≤ 100) (hn9 : n ≤ 1000) (h1 : (H.get b1).bind AObj.cs = some [cv, I least]) (h2 : (H.get b2).bind AObj.cs = some [I (-1000000000000000), I 1000000000000000]) (l1 : b1 < H.next) (l2 : b2 < H.next) (hL : Row H lv 1 (l.map fun x => [I x])) (hl9 : l.length ≤ 1000) : RR (m + 3) (.fn 104 [lv, .ptr b1 0, .ptr b2 0]) H = some (.bool (numsB n l), H) := by
  refine (R_fn _ _ _ _ _).trans ?_; refine fn_ok Try.func104 rfl rfl (by kernel_rfl) (by kernel_rfl) ?_
  obtain ⟨W, hW, hg, hN, hE, hG⟩ := wOf H
  rw [← hW]
  obtain ⟨vs, hR, hvl, hv⟩ := id hM
  have hlen : lenOf cv = some cols.length := by rw [← hvl]; simpa using hR.len
  have pc : cv.plain = true := lpl hlen
  have hg0 : ∀ j, W.get j = H.get j := hg
  obtain ⟨cb, co, ccs, j1, j20, j3, j4⟩ := hR.at_ 0 [vs[0]'(by omega)] (by simp [show 0 < vs.length by omega])
  have j5 := seg_one j3
  obtain ⟨col, hcol⟩ : ∃ col, cols[0]? = some col := ⟨_, List.getElem?_eq_getElem (by omega)⟩
  have hcn : col.length = n := hcl col (List.mem_of_getElem? hcol)
  have hlcol : lenOf (vs[0]'(by omega)) = some n := by rw [← hcn]; simpa using (hv 0 _ col (List.getElem?_eq_getElem (by omega)) hcol).len
  have j2 : (W.get cb).bind AObj.cs = some ccs := by rw [hg]; exact j20
  have w1 : (W.get b1).bind AObj.cs = some [cv, I least] := by rw [hg]; exact h1
  have w2 : (W.get b2).bind AObj.cs = some [I (-1000000000000000), I 1000000000000000] := by rw [hg]; exact h2
  have hll : lenOf lv = some l.length := by simpa using hL.len
  refine kS ?_; refine kR ?_; refine oA rfl rfl ?_; refine oN ?_; refine kS ?_; refine kR ?_; refine oM rfl rfl ?_; refine oB rfl rfl rfl qbl ?_; refine oF (o := 0) rfl (by kernel_rfl) rfl ?_; refine oL rfl rfl (qla0 1) ?_; refine qX (sz := 1) (n := 0) rfl rfl rfl ?_; refine oL rfl rfl (qla0 1) ?_; refine oB rfl rfl rfl qbl ?_; refine OkO.bin rfl rfl rfl (bin_eql _ _) ?_; refine oM rfl rfl ?_
  refine OkO.split (d := 13) rfl (fun g1 => ?_) (fun g1 => ?_)
  · refine oM rfl rfl ?_
    refine oL rfl rfl (qlg7 2) ?_; refine OkO.makeFunc rfl rfl rfl ?_; refine oV rfl rfl rfl rfl rfl (c105 (m + 1) lv _ (l.map I) (l.map fun x => inB x (-1000000000000000) 1000000000000000) _ (by rw [List.map_map]; exact hL.ext (hE _ (by (try dsimp only); repeat (first | exact hG | apply Grow.new | (refine Grow.put ?_ _ (by first | omega | (simp only [hNw, hPt]; omega))))))) (by simp; omega) (by simp) ?hgood) ?_
    · intro i x b q1 q2
      rw [List.getElem?_map, Option.map_eq_some_iff] at q1 q2
      obtain ⟨u, hu, rfl⟩ := q1
      obtain ⟨u2, hu2, rfl⟩ := q2
      rw [hu] at hu2; cases hu2
      exact ⟨88, [.agg [I (-1000000000000000), I 1000000000000000], I u], rfl, fun G _ => c88 (m + 0) _ _ _ G⟩
    refine OkO.pick (b := true) rfl rfl (fun _ => rfl) nofun ?_; refine oA rfl rfl ?_; refine oN ?_
    refine Ok.ret ⟨.inr rfl, ?_⟩
    exact back_flat rfl (congrArg AV.bool (by unfold numsB; rw [show decide ((l.length : Int) = (n : Int)) = true from g1, Bool.true_and, List.all_map]; rfl)) rfl (by rw [← hW]; exact (by (try dsimp only); repeat (first | exact hG | apply Grow.new | (refine Grow.put ?_ _ (by first | omega | (simp only [hNw, hPt]; omega))))))
  · refine oK rfl ?_
    refine oK rfl ?_; refine oK rfl ?_; refine oK rfl ?_; refine OkO.pick (b := false) rfl rfl nofun (fun _ => rfl) ?_; refine oA rfl rfl ?_; refine oN ?_
    refine Ok.ret ⟨.inr rfl, ?_⟩
    exact back_flat rfl (congrArg AV.bool (by unfold numsB; rw [show decide ((l.length : Int) = (n : Int)) = false from g1]; rfl)) rfl (by rw [← hW]; exact (by (try dsimp only); repeat (first | exact hG | apply Grow.new | (refine Grow.put ?_ _ (by first | omega | (simp only [hNw, hPt]; omega))))))
theorem c102 (m : Nat) (n b1 b2 : Nat) (cv rv : AV) (cols : List (List Bed)) (least : Int) (R : List (List Int)) (H : Heap) (hM : Mat H cv cols) (hcl : ∀ c ∈ cols, c.length = n) (hN9 : 1 ≤ cols.length ∧ cols.length ≤ 100) (hn9 : n ≤ 1000) (h1 : (H.get b1).bind AObj.cs = some [cv, I least]) (h2 : (H.get b2).bind AObj.cs = some [I (-1000000000000000), I 1000000000000000]) (l1 : b1 < H.next) (l2 : b2 < H.next) (hC : Cols H rv R) (hRl : R.length ≤ 1000) (hll : ∀ l ∈ R, l.length ≤ 1000) : RR (m + 5) (.fn 102 [rv, .ptr b1 0, .ptr b2 0]) H = some (.bool (rowB cols.length n R), H) := by
  refine (R_fn _ _ _ _ _).trans ?_; refine fn_ok Try.func102 rfl rfl (by kernel_rfl) (by kernel_rfl) ?_
  obtain ⟨W, hW, hg, hN, hE, hG⟩ := wOf H
  rw [← hW]
  obtain ⟨vs, hR, hvl, hv⟩ := id hM
  have hlen : lenOf cv = some cols.length := by rw [← hvl]; simpa using hR.len
  have pc : cv.plain = true := lpl hlen
  have hg0 : ∀ j, W.get j = H.get j := hg
  have w1 : (W.get b1).bind AObj.cs = some [cv, I least] := by rw [hg]; exact h1
  have w2 : (W.get b2).bind AObj.cs = some [I (-1000000000000000), I 1000000000000000] := by rw [hg]; exact h2
  obtain ⟨cvs, hC1, hC2, hC3⟩ := id hC
  have hrl : lenOf rv = some R.length := by rw [← hC2]; simpa using hC1.len
  refine kS ?_; refine kR ?_; refine oA rfl rfl ?_; refine oN ?_; refine kS ?_; refine kR ?_; refine oM rfl rfl ?_; refine oB rfl rfl rfl qbl ?_; refine oF (o := 0) rfl (by kernel_rfl) rfl ?_; refine oL rfl rfl (qla0 1) ?_; refine oB rfl rfl rfl qbl ?_; refine OkO.bin rfl rfl rfl (bin_eql _ _) ?_; refine oM rfl rfl ?_
  refine OkO.split (d := 11) rfl (fun g1 => ?_) (fun g1 => ?_)
  · refine oM rfl rfl ?_
    refine OkO.makeFunc rfl rfl rfl ?_; refine oV rfl rfl rfl rfl rfl (c103 (m + 3) rv _ cvs (R.map (numsB n)) _ (hC1.ext (hE _ (by (try dsimp only); repeat (first | exact hG | apply Grow.new | (refine Grow.put ?_ _ (by first | omega | (simp only [hNw, hPt]; omega))))))) (by omega) (by simp; omega) ?hgood) ?_
    · intro i x b q1 q2
      rw [List.getElem?_map, Option.map_eq_some_iff] at q2
      obtain ⟨u, hu, rfl⟩ := q2
      exact ⟨104, _, rfl, fun G hX => c104 m n b1 b2 cv x cols least u G (hM.ext ((hE _ (by (try dsimp only); repeat (first | exact hG | apply Grow.new | (refine Grow.put ?_ _ (by first | omega | (simp only [hNw, hPt]; omega)))))).trans hX)) hcl hN9 hn9 (by rw [hX.get _ (by omega)]; exact w1) (by rw [hX.get _ (by omega)]; exact w2) (by have := hX.next; omega) (by have := hX.next; omega) ((hC3 i x u q1 hu).ext ((hE _ (by (try dsimp only); repeat (first | exact hG | apply Grow.new | (refine Grow.put ?_ _ (by first | omega | (simp only [hNw, hPt]; omega)))))).trans hX)) (hll u (List.mem_of_getElem? hu))⟩
    refine OkO.pick (b := true) rfl rfl (fun _ => rfl) nofun ?_; refine oA rfl rfl ?_; refine oN ?_
    refine Ok.ret ⟨.inr rfl, ?_⟩
    exact back_flat rfl (congrArg AV.bool (by unfold rowB; rw [show decide ((R.length : Int) = (cols.length : Int)) = true from g1, Bool.true_and, List.all_map]; rfl)) rfl (by rw [← hW]; exact (by (try dsimp only); repeat (first | exact hG | apply Grow.new | (refine Grow.put ?_ _ (by first | omega | (simp only [hNw, hPt]; omega))))))
  · refine oK rfl ?_
    refine oK rfl ?_; refine oK rfl ?_; refine OkO.pick (b := false) rfl rfl nofun (fun _ => rfl) ?_; refine oA rfl rfl ?_; refine oN ?_
    refine Ok.ret ⟨.inr rfl, ?_⟩
    exact back_flat rfl (congrArg AV.bool (by unfold rowB; rw [show decide ((R.length : Int) = (cols.length : Int)) = false from g1]; rfl)) rfl (by rw [← hW]; exact (by (try dsimp only); repeat (first | exact hG | apply Grow.new | (refine Grow.put ?_ _ (by first | omega | (simp only [hNw, hPt]; omega))))))
theorem c77 (m : Nat) (n : Nat) (cv tv : AV) (cols : List (List Bed)) (least : Int) (T : List (List (List Int))) (H : Heap) (hM : Mat H cv cols) (hcl : ∀ c ∈ cols, c.length = n) (hN9 : 1 ≤ cols.length ∧ cols.length ≤ 100) (hn9 : n ≤ 1000) (hT : Tab H tv T) (hTl : T.length ≤ 1000) (hRl : ∀ R ∈ T, R.length ≤ 1000) (hll : ∀ R ∈ T, ∀ l ∈ R, l.length ≤ 1000) : RR (m + 7) (.fn 77 [.agg [cv, I least], tv]) H = some (.bool (shapeB cols.length n least T), H) := by
  refine (R_fn _ _ _ _ _).trans ?_; refine fn_ok Try.func77 rfl rfl (by kernel_rfl) (by kernel_rfl) ?_
  obtain ⟨W, hW, hg, hN, hE, hG⟩ := wOf H
  rw [← hW]
  obtain ⟨vs, hR, hvl, hv⟩ := id hM
  have hlen : lenOf cv = some cols.length := by rw [← hvl]; simpa using hR.len
  have pc : cv.plain = true := lpl hlen
  have hg0 : ∀ j, W.get j = H.get j := hg
  obtain ⟨rvs, hC1, hC2, hC3⟩ := id hT
  have htl : lenOf tv = some T.length := by rw [← hC2]; simpa using hC1.len
  refine kS ?_; refine kR ?_; refine OkO.box rfl rfl ?_; refine oA rfl rfl ?_; refine oN ?_; refine kS ?_; refine kR ?_; refine OkO.build (z := [.int .i64 0, .int .i64 0]) (pl := [(0, 1), (1, 1)]) rfl (by kernel_rfl) rfl rfl ?_; refine OkO.alloc (z := [.int .i64 0, .int .i64 0]) rfl (by kernel_rfl) ?_; refine oT rfl rfl rfl (sAc (n := 2) (ag := true) (by kernel_rfl) (by first | assumption | (simp (disch := first | omega | (simp only [hNw, hPt]; omega)) only [gN] <;> first | rfl | assumption | exact gp0 _ _ _ | exact gn0 _ _)) rfl (by first | rfl | assumption) (by first | rfl | exact spl_set _ _ _ (by first | assumption | omega | (simp; omega)))) ?_; refine oN ?_; refine kS ?_; refine kR ?_; refine oM rfl rfl ?_; refine oB rfl rfl rfl qbl ?_; refine oF (o := 1) rfl (by kernel_rfl) rfl ?_; refine oL rfl rfl (qla0 1) ?_; refine OkO.bin rfl rfl rfl (bin_eql _ _) ?_; refine oM rfl rfl ?_
  refine OkO.split (d := 12) rfl (fun g1 => ?_) (fun g1 => ?_)
  · refine oM rfl rfl ?_
    refine OkO.makeFunc rfl rfl rfl ?_; refine oV rfl rfl rfl rfl rfl (c101 (m + 5) tv _ rvs (T.map (rowB cols.length n)) _ (hC1.ext (hE _ (by (try dsimp only); repeat (first | exact hG | apply Grow.new | (refine Grow.put ?_ _ (by first | omega | (simp only [hNw, hPt]; omega))))))) (by omega) (by simp; omega) ?hgood) ?_
    · intro i x b q1 q2
      rw [List.getElem?_map, Option.map_eq_some_iff] at q2
      obtain ⟨u, hu, rfl⟩ := q2
      exact ⟨102, _, rfl, fun G hX => c102 m n W.next (W.next + 1) cv x cols least u G (hM.ext ((hE _ (by (try dsimp only); repeat (first | exact hG | apply Grow.new | (refine Grow.put ?_ _ (by first | omega | (simp only [hNw, hPt]; omega)))))).trans hX)) hcl hN9 hn9 (by rw [hX.get _ (by first | omega | (simp only [hNw, hPt]; omega))]; simp (disch := first | omega | (simp only [hNw, hPt]; omega)) only [gN] <;> rfl) (by rw [hX.get _ (by first | omega | (simp only [hNw, hPt]; omega))]; exact (congrArg (fun o => Option.bind o AObj.cs) (gp0 _ _ _)).trans rfl) (by have := hX.next; simp only [hNw, hPt] at this; omega) (by have := hX.next; simp only [hNw, hPt] at this; omega) ((hC3 i x u q1 hu).ext ((hE _ (by (try dsimp only); repeat (first | exact hG | apply Grow.new | (refine Grow.put ?_ _ (by first | omega | (simp only [hNw, hPt]; omega)))))).trans hX)) (hRl u (List.mem_of_getElem? hu)) (hll u (List.mem_of_getElem? hu))⟩
    refine OkO.pick (b := true) rfl rfl (fun _ => rfl) nofun ?_; refine oA rfl rfl ?_; refine oN ?_
    refine Ok.ret ⟨.inr rfl, ?_⟩
    exact back_flat rfl (congrArg AV.bool (by unfold shapeB; rw [show decide ((T.length : Int) = least) = true from g1, Bool.true_and, List.all_map]; rfl)) rfl (by rw [← hW]; exact (by (try dsimp only); repeat (first | exact hG | apply Grow.new | (refine Grow.put ?_ _ (by first | omega | (simp only [hNw, hPt]; omega))))))
  · refine oK rfl ?_
    refine oK rfl ?_; refine oK rfl ?_; refine OkO.pick (b := false) rfl rfl nofun (fun _ => rfl) ?_; refine oA rfl rfl ?_; refine oN ?_
    refine Ok.ret ⟨.inr rfl, ?_⟩
    exact back_flat rfl (congrArg AV.bool (by unfold shapeB; rw [show decide ((T.length : Int) = least) = false from g1]; rfl)) rfl (by rw [← hW]; exact (by (try dsimp only); repeat (first | exact hG | apply Grow.new | (refine Grow.put ?_ _ (by first | omega | (simp only [hNw, hPt]; omega))))))
end
end Go.Ev

set_option maxRecDepth 100000
set_option linter.unusedSimpArgs false
set_option linter.unusedVariables false
namespace Go.Ev
open Go Go.Proofs
noncomputable section
/-- A number of a table. -/
def tabF (T : List (List (List Int))) (r c k : Nat) : Int := ((T.getD r []).getD c []).getD k 0
theorem shape_at {N n L : Nat} {T : List (List (List Int))} (h : shapeB N n (L : Int) T = true) {r c : Nat} (hr : r < L) (hc : c < N) : ∃ R l, T[r]? = some R ∧ R[c]? = some l ∧ l.length = n ∧ (∀ i, i < n → l[i]? = some (tabF T r c i)) ∧ ∀ x ∈ l, -1000000000000000 ≤ x ∧ x ≤ 1000000000000000 := by
  unfold shapeB at h
  simp only [Bool.and_eq_true, decide_eq_true_eq, List.all_eq_true] at h
  obtain ⟨h1, h2⟩ := h
  have hr' : r < T.length := by omega
  have h3 := h2 T[r] (List.getElem_mem hr')
  unfold rowB at h3
  simp only [Bool.and_eq_true, decide_eq_true_eq, List.all_eq_true] at h3
  have hc' : c < (T[r]).length := by omega
  have h4 := h3.2 (T[r])[c] (List.getElem_mem hc')
  unfold numsB at h4
  simp only [Bool.and_eq_true, decide_eq_true_eq, List.all_eq_true, inB] at h4
  refine ⟨T[r], (T[r])[c], List.getElem?_eq_getElem hr', List.getElem?_eq_getElem hc', by omega, fun i hi => ?_, fun x hx => h4.2 x hx⟩
  unfold tabF
  simp only [List.getD_eq_getElem?_getD, List.getElem?_eq_getElem hr', Option.getD_some, List.getElem?_eq_getElem hc']
  rw [List.getElem?_eq_getElem (show i < (T[r])[c].length by omega)]
  rfl
theorem tabF_bd {N n L : Nat} {T : List (List (List Int))} (h : shapeB N n (L : Int) T = true) {r c k : Nat} (hr : r < L) (hc : c < N) (hk : k < n) : -1000000000000000 ≤ tabF T r c k ∧ tabF T r c k ≤ 1000000000000000 := by
  obtain ⟨R, l, _, _, h3, h4, h5⟩ := shape_at h hr hc
  exact h5 _ (List.mem_of_getElem? (h4 k hk))
/-- What a proof asks of one place. -/
def PlaceP (pr : Nat → Nat → Int) (t : Nat → Nat → Nat → Int) (L n r c k : Nat) : Prop :=
  (r = 0 → t r c k ≤ pr c k) ∧ (0 < c → ∀ i, Nxt n k i → (0 < r → t r c k ≤ pr c k + t (r - 1) (c - 1) i) ∧ (r + 1 = L → t r c k ≤ pr c k + t r (c - 1) i)) ∧ (r + 1 = L → L ≤ c + 1 → 0 ≤ t r c k)
theorem place_yes {pr : Nat → Nat → Int} {t : Nat → Nat → Nat → Int} {L n r c k : Nat} {x : Int} (h : MostIs (pr c k) (t (r - 1) (c - 1)) (t r (c - 1)) r L c k n x) (hx : t r c k ≤ x) (hw : r + 1 = L → L ≤ c + 1 → 0 ≤ t r c k) : PlaceP pr t L n r c k :=
  ⟨fun hr => by have := h.2.1 hr; omega, fun hc i hi => ⟨fun hr => by have := (h.2.2.1 hc i hi).1 hr; omega, fun hr => by have := (h.2.2.1 hc i hi).2 hr; omega⟩, hw⟩
theorem place_no {pr : Nat → Nat → Int} {t : Nat → Nat → Nat → Int} {L n r c k : Nat} {x : Int} (h : MostIs (pr c k) (t (r - 1) (c - 1)) (t r (c - 1)) r L c k n x) (hM : t r c k ≤ 1000000000000000) (hx : x < t r c k) : ¬ PlaceP pr t L n r c k := fun hp => by
  rcases h.2.2.2 with e | ⟨hr, e⟩ | ⟨hc, i, hi, ⟨hr, e⟩ | ⟨hr, e⟩⟩
  · omega
  · have := hp.1 hr; omega
  · have := (hp.2.1 hc i hi).1 hr; omega
  · have := (hp.2.1 hc i hi).2 hr; omega
def TabP (pr : Nat → Nat → Int) (t : Nat → Nat → Nat → Int) (N n L : Nat) : Prop := ∀ r c k, r < L → c < N → k < n → PlaceP pr t L n r c k
theorem tab_reads {H : Heap} {tv : AV} {N n L : Nat} {T : List (List (List Int))} (hT : Tab H tv T) (h : shapeB N n (L : Int) T = true) {r c : Nat} (hr : r < L) (hc : c < N) : ∃ tl, TabAt H tv r c tl ∧ ∀ i, i < n → tl[i]? = some (tabF T r c i) := by
  obtain ⟨R, l, h1, h2, _, h4, _⟩ := shape_at h hr hc
  exact ⟨l, hT.at_ h1 h2, h4⟩
theorem tabF_any {N n L : Nat} {T : List (List (List Int))} (h : shapeB N n (L : Int) T = true) (r c k : Nat) : -10000000000000000 ≤ tabF T r c k ∧ tabF T r c k ≤ 10000000000000000 := by
  have h0 := h
  unfold shapeB at h0
  simp only [Bool.and_eq_true, decide_eq_true_eq, List.all_eq_true] at h0
  by_cases hr : r < L
  · have h1 := h0.2 _ (List.getElem_mem (show r < T.length by omega))
    unfold rowB at h1
    simp only [Bool.and_eq_true, decide_eq_true_eq, List.all_eq_true] at h1
    by_cases hc : c < N
    · obtain ⟨R, l, e1, e2, e3, e4, e5⟩ := shape_at h hr hc
      by_cases hk : k < n
      · have := e5 _ (List.mem_of_getElem? (e4 k hk))
        omega
      · have e : tabF T r c k = 0 := by
          unfold tabF
          simp only [List.getD_eq_getElem?_getD, e1, e2, Option.getD_some]
          rw [List.getElem?_eq_none (by omega)]
          rfl
        omega
    · have e : tabF T r c k = 0 := by
        unfold tabF
        simp only [List.getD_eq_getElem?_getD, List.getElem?_eq_getElem (show r < T.length by omega), Option.getD_some]
        rw [List.getElem?_eq_none (show (T[r]'(by omega)).length ≤ c by omega)]
        simp
      omega
  · have e : tabF T r c k = 0 := by
      unfold tabF
      simp only [List.getD_eq_getElem?_getD]
      rw [List.getElem?_eq_none (show T.length ≤ r by omega)]
      simp
    omega
theorem c78 (m : Nat) (cv tv : AV) (cols : List (List Bed)) (fa : Int) (L n : Nat) (T : List (List (List Int))) (H : Heap) (hM : Mat H cv cols) (hcl : ∀ c ∈ cols, c.length = n) (hok : BedsOk cols) (hf : 0 ≤ fa ∧ fa ≤ 10000) (hN9 : 1 ≤ cols.length ∧ cols.length ≤ 100) (hn9 : n ≤ 100) (hL9 : 1 ≤ L ∧ L ≤ 100) (hTb : Tab H tv T) (hsh : shapeB cols.length n (L : Int) T = true) : ∃ v H', RR (m + 6) (.fn 78 [.agg [cv, I (L : Int), I fa, .fn 66 [] []], tv]) H = some (v, H') ∧ ∃ b : Bool, v = .bool b ∧ H' = H ∧ (b = true ↔ TabP (prC cols fa) (tabF T) cols.length n L) := by
  show ∃ v H', evFn Try.prog (RR (m + 5)) 78 [.agg [cv, I (L : Int), I fa, .fn 66 [] []], tv] H = some (v, H') ∧ ∃ b : Bool, v = .bool b ∧ H' = H ∧ (b = true ↔ TabP (prC cols fa) (tabF T) cols.length n L)
  refine fn_okE Try.func78 rfl rfl (by kernel_rfl) (by kernel_rfl) ?_
  obtain ⟨W, hW, hg, hN, hE, hG⟩ := wOf H
  rw [← hW]
  obtain ⟨vs, hR, hvl, hv⟩ := id hM
  have hlen : lenOf cv = some cols.length := by rw [← hvl]; simpa using hR.len
  have pc : cv.plain = true := lpl hlen
  have htl : lenOf tv = some T.length := by obtain ⟨rvs, h1, h2, _⟩ := hTb; rw [← h2]; simpa using h1.len
  have hTW : Tab W tv T := hTb.ext ⟨by omega, fun j _ => hg j⟩
  refine kS ?_; refine kR ?_; refine OkO.box rfl rfl ?_; refine oA rfl rfl ?_; refine oN ?_; refine kS ?_; refine kS ?_; refine kR ?_; refine oF (o := 0) rfl (by kernel_rfl) rfl ?_; refine oF (o := 1) rfl (by kernel_rfl) rfl ?_; refine oL rfl rfl (qla0 1) ?_; refine oM rfl rfl ?_; refine oN ?_; refine Ok.block ?_
  refine Ok.loop (fun n9 s_ => ∃ r : Nat, n9 = L - r ∧ r ≤ L ∧ (∀ r1 c k, r1 < r → c < cols.length → k < n → PlaceP (prC cols fa) (tabF T) L n r1 c k) ∧ Has 7 [(1, tv), (2, .ptr W.next 0), (12, I (L : Int)), (13, I (r : Int))] s_.T ∧ s_.D = [] ∧ Grow W s_.H ∧ s_.H.get W.next = some (.cells [cv, I (L : Int), I fa, .fn 66 [] []] 119)) (L) (by unfold loopFuel; omega)
    ⟨0, rfl, Nat.zero_le _, fun _ _ _ h => by omega, Has.of (by kernel_rfl), rfl, (by (try dsimp only); repeat (first | exact hG | apply Grow.new | (refine Grow.put ?_ _ (by first | omega | (simp only [hNw, hPt]; omega))))), (by first | assumption | (simp (disch := first | omega | (simp only [hNw, hPt]; omega)) only [gN] <;> first | rfl | assumption | exact gp0 _ _ _ | exact gn0 _ _))⟩ ?_
  rintro n9 ⟨T9, D, G⟩ ⟨r, hn9, hr, hpr, ⟨f, hT⟩, hD, hg, f0⟩
  dsimp only at *
  subst hT hD
  have hgn := hg.next
  have e0 : (G.get W.next).bind AObj.cs = some [cv, I (L : Int), I fa, .fn 66 [] []] := by rw [f0]; rfl
  refine kS ?_; refine kR ?_; refine OkO.bin rfl rfl rfl (bin_lss _ _) ?_; refine oN ?_; refine kS ?_
  refine Ok.cond rfl (fun h1 => ?_) (fun h1 => ?_)
  · have hrL : r < L := by simpa using h1
    refine Ok.skip ?_; refine kS ?_; refine Ok.block ?_; refine kS ?_; refine kR ?_; refine oM rfl rfl ?_; refine oA rfl rfl ?_; refine oN ?_; refine kS ?_; refine kR ?_; refine oF (o := 0) rfl (by kernel_rfl) rfl ?_; refine oF (o := 0) rfl (by kernel_rfl) rfl ?_; refine oL rfl rfl (qla0 1) ?_; refine oB rfl rfl rfl qbl ?_; refine oM rfl rfl ?_; refine oN ?_; refine Ok.block ?_
    refine Ok.loop (fun n8 s_ => ∃ c : Nat, n8 = cols.length - c ∧ c ≤ cols.length ∧ (∀ c1 k, c1 < c → k < n → PlaceP (prC cols fa) (tabF T) L n r c1 k) ∧ Has 7 [(1, tv), (2, .ptr W.next 0), (12, I (L : Int)), (13, I (r : Int)), (5, I (r : Int)), (19, I (cols.length : Int)), (20, I (c : Int))] s_.T ∧ s_.D = [] ∧ Grow W s_.H ∧ s_.H.get W.next = some (.cells [cv, I (L : Int), I fa, .fn 66 [] []] 119)) (cols.length) (by unfold loopFuel; omega)
      ⟨0, rfl, Nat.zero_le _, fun _ _ h => by omega, Has.of (by kernel_rfl), rfl, hg, f0⟩ ?_
    rintro n8 ⟨T9, D, G⟩ ⟨c, hn8, hc, hpc, ⟨f, hT⟩, hD, hg, f0⟩
    dsimp only at *
    subst hT hD
    have hgn := hg.next
    have e0 : (G.get W.next).bind AObj.cs = some [cv, I (L : Int), I fa, .fn 66 [] []] := by rw [f0]; rfl
    refine kS ?_; refine kR ?_; refine OkO.bin rfl rfl rfl (bin_lss _ _) ?_; refine oN ?_; refine kS ?_
    refine Ok.cond rfl (fun h2 => ?_) (fun h2 => ?_)
    · have hcn : c < cols.length := by simpa using h2
      refine Ok.skip ?_; refine kS ?_; refine Ok.block ?_; refine kS ?_; refine kR ?_; refine oM rfl rfl ?_; refine oA rfl rfl ?_; refine oN ?_; refine kS ?_; refine kR ?_; refine oM rfl rfl ?_; refine oF (o := 0) rfl (by kernel_rfl) rfl ?_; refine oF (o := 1) rfl (by kernel_rfl) rfl ?_; refine oL rfl rfl (qla0 1) ?_; refine OkO.bin rfl rfl rfl (bin_sub (by omega) (by omega)) ?_; refine OkO.bin rfl rfl rfl (bin_eql _ _) ?_; refine oM rfl rfl ?_
      refine OkO.split (d := 29) rfl (fun g3 => ?_) (fun g3 => ?_)
      · have hrl9 : r + 1 = L := by (have h9 : (r : Int) = (L : Int) - 1 := by simpa using g3); omega
        obtain ⟨R, l, hR1, hl1, hll, hlt, _⟩ := shape_at hsh hrL hcn
        obtain ⟨rvs, a1, a2, a3⟩ := id hTW
        have hrl : r < rvs.length := by rw [a2]; exact (List.getElem?_eq_some_iff.1 hR1).1
        obtain ⟨cvs, b1, b2, b3⟩ := a3 r rvs[r] R (List.getElem?_eq_getElem hrl) hR1
        have hcl9 : c < cvs.length := by rw [b2]; exact (List.getElem?_eq_some_iff.1 hl1).1
        have hlR := b3 c cvs[c] l (List.getElem?_eq_getElem hcl9) hl1
        obtain ⟨rv, hrv⟩ : ∃ rv, rv = rvs[r] := ⟨_, rfl⟩
        obtain ⟨lv, hlv⟩ : ∃ lv, lv = cvs[c] := ⟨_, rfl⟩
        rw [← hlv] at hlR
        rw [← hrv] at b1
        obtain ⟨ab, ao, acs, p1, p2, p3, p4⟩ := a1.at_ r [rv] (by simp [hrl, hrv])
        have p5 := seg_one p3
        obtain ⟨ib, io, ics, i1, i2, i3, i4⟩ := b1.at_ c [lv] (by simp [hcl9, hlv])
        have i5 := seg_one i3
        have hlvl : lenOf lv = some n := by rw [← hll]; simpa using hlR.len
        have p6 : (G.get ab).bind AObj.cs = some acs := by rw [hg.get _ p4]; exact p2
        have i6 : (G.get ib).bind AObj.cs = some ics := by rw [hg.get _ i4]; exact i2
        refine oM rfl rfl ?_; refine oF (o := 0) rfl (by kernel_rfl) rfl ?_; refine oF (o := 1) rfl (by kernel_rfl) rfl ?_; refine oL rfl rfl (qla0 1) ?_; refine OkO.bin rfl rfl rfl (bin_sub (by omega) (by omega)) ?_; refine OkO.bin rfl rfl rfl (bin_geq _ _) ?_; refine OkO.pick (b := true) rfl rfl (fun _ => rfl) nofun ?_; refine oA rfl rfl ?_; refine oN ?_; refine kS ?_; refine kR ?_; refine oM rfl rfl ?_; refine oM rfl rfl ?_; refine qX (sz := 1) (n := r) rfl rfl rfl ?_; refine oL rfl rfl (qla0 1) ?_; refine oM rfl rfl ?_; refine qX (sz := 1) (n := c) rfl rfl rfl ?_; refine oL rfl rfl (qla0 1) ?_; refine oB rfl rfl rfl qbl ?_; refine oM rfl rfl ?_; refine oN ?_; refine Ok.block ?_
        refine Ok.loop (fun n7 s_ => ∃ k : Nat, n7 = n - k ∧ k ≤ n ∧ (∀ k1, k1 < k → PlaceP (prC cols fa) (tabF T) L n r c k1) ∧ Has 7 [(1, tv), (2, .ptr W.next 0), (12, I (L : Int)), (13, I (r : Int)), (5, I (r : Int)), (19, I (cols.length : Int)), (20, I (c : Int)), (6, I (c : Int)), (7, .bool (decide (((L : Int) - 1) ≤ (c : Int)))), (43, lv), (44, I (n : Int)), (45, I (k : Int))] s_.T ∧ s_.D = [] ∧ Grow W s_.H ∧ s_.H.get W.next = some (.cells [cv, I (L : Int), I fa, .fn 66 [] []] 119)) (n) (by unfold loopFuel; omega)
          ⟨0, rfl, Nat.zero_le _, fun _ h => by omega, Has.of (by kernel_rfl), rfl, hg, f0⟩ ?_
        rintro n7 ⟨T9, D, G⟩ ⟨k, hn7, hk, hpk, ⟨f, hT⟩, hD, hg, f0⟩
        dsimp only at *
        subst hT hD
        have hgn := hg.next
        have e0 : (G.get W.next).bind AObj.cs = some [cv, I (L : Int), I fa, .fn 66 [] []] := by rw [f0]; rfl
        refine kS ?_; refine kR ?_; refine OkO.bin rfl rfl rfl (bin_lss _ _) ?_; refine oN ?_; refine kS ?_
        refine Ok.cond rfl (fun h4 => ?_) (fun h4 => ?_)
        · have hkn : k < n := by simpa using h4
          obtain ⟨kb, ko, kcs, k1, k2, k3, k4⟩ := hlR.at_ k [I (tabF T r c k)] (by rw [List.getElem?_map, hlt k hkn]; rfl)
          have k5 := seg_one k3
          have k6 : (G.get kb).bind AObj.cs = some kcs := by rw [hg.get _ k4]; exact k2
          have htb9 := tabF_bd hsh hrL hcn hkn
          refine Ok.skip ?_; refine kS ?_; refine Ok.block ?_; refine kS ?_; refine kR ?_; refine oM rfl rfl ?_; refine qX (sz := 1) (n := k) rfl rfl rfl ?_; refine oL rfl rfl (qla0 1) ?_; refine oA rfl rfl ?_; refine oA rfl rfl ?_; refine oN ?_; refine kS ?_; refine kR ?_; refine oM rfl rfl ?_; refine oL rfl rfl (qlg7 4) ?_; refine oM rfl rfl ?_; refine oM rfl rfl ?_; refine oM rfl rfl ?_; refine oM rfl rfl ?_; refine OkO.build (z := [.int .i64 0, .int .i64 0]) (pl := [(0, 1), (1, 1)]) rfl (by kernel_rfl) rfl rfl ?_; refine oE rfl rfl rfl rfl rfl (c100 m cv tv cols fa (tabF T (r - 1) (c - 1)) (tabF T r (c - 1)) r L c k n _ (hM.ext (hE _ hg)) hcl hok hf hcn hkn (by omega) (by omega) (by omega) (by omega) (fun h1 h2 => tab_reads (hTb.ext (hE _ hg)) hsh (by omega) (by omega)) (fun h1 h2 => tab_reads (hTb.ext (hE _ hg)) hsh (by omega) (by omega)) (fun i => tabF_any hsh _ _ i) (fun i => tabF_any hsh _ _ i) ⟨_, htl⟩) ?_
          rintro _ H100 ⟨x, rfl, rfl, hmx⟩
          refine OkO.bin rfl rfl rfl (bin_gtr _ _) ?_; refine oM rfl rfl ?_
          refine OkO.split (d := 59) rfl (fun g5 => ?_) (fun g5 => ?_)
          · refine oK rfl ?_
            refine oK rfl ?_; refine oK rfl ?_; refine oK rfl ?_; refine oK rfl ?_; refine OkO.pick (b := true) rfl rfl (fun _ => rfl) nofun ?_; refine oN ?_; refine Ok.condT rfl ?_; refine kS ?_; refine kR ?_; refine oA rfl rfl ?_; refine oN ?_
            refine Ok.ret ⟨.inr rfl, ?_⟩
            refine ⟨_, _, back_flat rfl rfl rfl (by rw [← hW]; exact hg), false, rfl, rfl, ?_⟩
            simp only [Bool.false_eq_true, false_iff]
            exact fun h9 => place_no hmx htb9.2 (by simpa using g5) (h9 r c k hrL hcn hkn)
          · have hle : tabF T r c k ≤ x := by simpa using g5
            refine oM rfl rfl ?_; refine oM rfl rfl ?_
            refine OkO.split (d := 61) rfl (fun g6 => ?_) (fun g6 => ?_)
            · refine oM rfl rfl ?_
              refine OkO.bin rfl rfl rfl (bin_lss _ _) ?_; refine OkO.pick (b := true) rfl rfl (fun _ => rfl) nofun ?_; refine OkO.pick (b := false) rfl rfl nofun (fun _ => rfl) ?_; refine oN ?_
              refine Ok.cond rfl (fun h7 => ?_) (fun h7 => ?_)
              · refine kS ?_
                refine kR ?_; refine oA rfl rfl ?_; refine oN ?_
                refine Ok.ret ⟨.inr rfl, ?_⟩
                refine ⟨_, _, back_flat rfl rfl rfl (by rw [← hW]; exact hg), false, rfl, rfl, ?_⟩
                simp only [Bool.false_eq_true, false_iff]
                exact fun h9 => by (have h8 := (h9 r c k hrL hcn hkn).2.2 hrl9 (by (have h5 : (L : Int) - 1 ≤ (c : Int) := by simpa using g6); omega)); (have h6 : tabF T r c k < 0 := by simpa using h7); omega
              · have hwh : r + 1 = L → L ≤ c + 1 → 0 ≤ tabF T r c k := fun _ _ => by simpa using h7
                refine Ok.skip ?_; refine kR ?_; refine OkO.bin rfl rfl rfl (bin_add (by omega) (by omega)) ?_; refine oM rfl rfl ?_; refine oN ?_
                exact ⟨n - (k + 1), by omega, k + 1, rfl, by omega, fun k9 h1 => by (by_cases h4 : k9 = k; (· subst h4; exact place_yes hmx hle hwh); (· exact hpk k9 (by omega))), Has.of (by kernel_rfl), rfl, hg, f0⟩
            · have hwh : r + 1 = L → L ≤ c + 1 → 0 ≤ tabF T r c k := fun _ h9 => by (have h8 : ¬ (L : Int) - 1 ≤ (c : Int) := by simpa using g6); omega
              refine oK rfl ?_; refine oK rfl ?_; refine OkO.pick (b := false) rfl rfl nofun (fun _ => rfl) ?_; refine OkO.pick (b := false) rfl rfl nofun (fun _ => rfl) ?_; refine oN ?_; refine Ok.condF rfl ?_; refine Ok.skip ?_; refine kR ?_; refine OkO.bin rfl rfl rfl (bin_add (by omega) (by omega)) ?_; refine oM rfl rfl ?_; refine oN ?_
              exact ⟨n - (k + 1), by omega, k + 1, rfl, by omega, fun k9 h1 => by (by_cases h4 : k9 = k; (· subst h4; exact place_yes hmx hle hwh); (· exact hpk k9 (by omega))), Has.of (by kernel_rfl), rfl, hg, f0⟩
        · have hkn : k = n := by (have : ¬ k < n := by simpa using h4); omega
          refine Ok.exit ?_; refine kR ?_; refine OkO.bin rfl rfl rfl (bin_add (by omega) (by omega)) ?_; refine oM rfl rfl ?_; refine oN ?_
          exact ⟨cols.length - (c + 1), by omega, c + 1, rfl, by omega, fun c9 k9 h1 h3 => by (by_cases h4 : c9 = c; (· subst h4; exact hpk k9 (by omega)); (· exact hpc c9 k9 (by omega) h3)), Has.of (by kernel_rfl), rfl, hg, f0⟩
      · have hrl9 : ¬ r + 1 = L := by (have h9 : ¬ (r : Int) = (L : Int) - 1 := by simpa using g3); omega
        obtain ⟨R, l, hR1, hl1, hll, hlt, _⟩ := shape_at hsh hrL hcn
        obtain ⟨rvs, a1, a2, a3⟩ := id hTW
        have hrl : r < rvs.length := by rw [a2]; exact (List.getElem?_eq_some_iff.1 hR1).1
        obtain ⟨cvs, b1, b2, b3⟩ := a3 r rvs[r] R (List.getElem?_eq_getElem hrl) hR1
        have hcl9 : c < cvs.length := by rw [b2]; exact (List.getElem?_eq_some_iff.1 hl1).1
        have hlR := b3 c cvs[c] l (List.getElem?_eq_getElem hcl9) hl1
        obtain ⟨rv, hrv⟩ : ∃ rv, rv = rvs[r] := ⟨_, rfl⟩
        obtain ⟨lv, hlv⟩ : ∃ lv, lv = cvs[c] := ⟨_, rfl⟩
        rw [← hlv] at hlR
        rw [← hrv] at b1
        obtain ⟨ab, ao, acs, p1, p2, p3, p4⟩ := a1.at_ r [rv] (by simp [hrl, hrv])
        have p5 := seg_one p3
        obtain ⟨ib, io, ics, i1, i2, i3, i4⟩ := b1.at_ c [lv] (by simp [hcl9, hlv])
        have i5 := seg_one i3
        have hlvl : lenOf lv = some n := by rw [← hll]; simpa using hlR.len
        have p6 : (G.get ab).bind AObj.cs = some acs := by rw [hg.get _ p4]; exact p2
        have i6 : (G.get ib).bind AObj.cs = some ics := by rw [hg.get _ i4]; exact i2
        refine oK rfl ?_; refine oK rfl ?_; refine oK rfl ?_; refine oK rfl ?_; refine oK rfl ?_; refine oK rfl ?_; refine OkO.pick (b := false) rfl rfl nofun (fun _ => rfl) ?_; refine oA rfl rfl ?_; refine oN ?_; refine kS ?_; refine kR ?_; refine oM rfl rfl ?_; refine oM rfl rfl ?_; refine qX (sz := 1) (n := r) rfl rfl rfl ?_; refine oL rfl rfl (qla0 1) ?_; refine oM rfl rfl ?_; refine qX (sz := 1) (n := c) rfl rfl rfl ?_; refine oL rfl rfl (qla0 1) ?_; refine oB rfl rfl rfl qbl ?_; refine oM rfl rfl ?_; refine oN ?_; refine Ok.block ?_
        refine Ok.loop (fun n7 s_ => ∃ k : Nat, n7 = n - k ∧ k ≤ n ∧ (∀ k1, k1 < k → PlaceP (prC cols fa) (tabF T) L n r c k1) ∧ Has 7 [(1, tv), (2, .ptr W.next 0), (12, I (L : Int)), (13, I (r : Int)), (5, I (r : Int)), (19, I (cols.length : Int)), (20, I (c : Int)), (6, I (c : Int)), (7, .bool false), (43, lv), (44, I (n : Int)), (45, I (k : Int))] s_.T ∧ s_.D = [] ∧ Grow W s_.H ∧ s_.H.get W.next = some (.cells [cv, I (L : Int), I fa, .fn 66 [] []] 119)) (n) (by unfold loopFuel; omega)
          ⟨0, rfl, Nat.zero_le _, fun _ h => by omega, Has.of (by kernel_rfl), rfl, hg, f0⟩ ?_
        rintro n7 ⟨T9, D, G⟩ ⟨k, hn7, hk, hpk, ⟨f, hT⟩, hD, hg, f0⟩
        dsimp only at *
        subst hT hD
        have hgn := hg.next
        have e0 : (G.get W.next).bind AObj.cs = some [cv, I (L : Int), I fa, .fn 66 [] []] := by rw [f0]; rfl
        refine kS ?_; refine kR ?_; refine OkO.bin rfl rfl rfl (bin_lss _ _) ?_; refine oN ?_; refine kS ?_
        refine Ok.cond rfl (fun h8 => ?_) (fun h8 => ?_)
        · have hkn : k < n := by simpa using h8
          obtain ⟨kb, ko, kcs, k1, k2, k3, k4⟩ := hlR.at_ k [I (tabF T r c k)] (by rw [List.getElem?_map, hlt k hkn]; rfl)
          have k5 := seg_one k3
          have k6 : (G.get kb).bind AObj.cs = some kcs := by rw [hg.get _ k4]; exact k2
          have htb9 := tabF_bd hsh hrL hcn hkn
          refine Ok.skip ?_; refine kS ?_; refine Ok.block ?_; refine kS ?_; refine kR ?_; refine oM rfl rfl ?_; refine qX (sz := 1) (n := k) rfl rfl rfl ?_; refine oL rfl rfl (qla0 1) ?_; refine oA rfl rfl ?_; refine oA rfl rfl ?_; refine oN ?_; refine kS ?_; refine kR ?_; refine oM rfl rfl ?_; refine oL rfl rfl (qlg7 4) ?_; refine oM rfl rfl ?_; refine oM rfl rfl ?_; refine oM rfl rfl ?_; refine oM rfl rfl ?_; refine OkO.build (z := [.int .i64 0, .int .i64 0]) (pl := [(0, 1), (1, 1)]) rfl (by kernel_rfl) rfl rfl ?_; refine oE rfl rfl rfl rfl rfl (c100 m cv tv cols fa (tabF T (r - 1) (c - 1)) (tabF T r (c - 1)) r L c k n _ (hM.ext (hE _ hg)) hcl hok hf hcn hkn (by omega) (by omega) (by omega) (by omega) (fun h1 h2 => tab_reads (hTb.ext (hE _ hg)) hsh (by omega) (by omega)) (fun h1 h2 => tab_reads (hTb.ext (hE _ hg)) hsh (by omega) (by omega)) (fun i => tabF_any hsh _ _ i) (fun i => tabF_any hsh _ _ i) ⟨_, htl⟩) ?_
          rintro _ H100 ⟨x, rfl, rfl, hmx⟩
          refine OkO.bin rfl rfl rfl (bin_gtr _ _) ?_; refine oM rfl rfl ?_
          refine OkO.split (d := 59) rfl (fun g9 => ?_) (fun g9 => ?_)
          · refine oK rfl ?_
            refine oK rfl ?_; refine oK rfl ?_; refine oK rfl ?_; refine oK rfl ?_; refine OkO.pick (b := true) rfl rfl (fun _ => rfl) nofun ?_; refine oN ?_; refine Ok.condT rfl ?_; refine kS ?_; refine kR ?_; refine oA rfl rfl ?_; refine oN ?_
            refine Ok.ret ⟨.inr rfl, ?_⟩
            refine ⟨_, _, back_flat rfl rfl rfl (by rw [← hW]; exact hg), false, rfl, rfl, ?_⟩
            simp only [Bool.false_eq_true, false_iff]
            exact fun h9 => place_no hmx htb9.2 (by simpa using g9) (h9 r c k hrL hcn hkn)
          · have hle : tabF T r c k ≤ x := by simpa using g9
            refine oM rfl rfl ?_; refine oM rfl rfl ?_
            refine OkO.split (d := 61) rfl (fun g10 => ?_) (fun g10 => ?_)
            · exact absurd g10 (by simp)
            · have hwh : r + 1 = L → L ≤ c + 1 → 0 ≤ tabF T r c k := fun h9 _ => absurd h9 hrl9
              refine oK rfl ?_; refine oK rfl ?_; refine OkO.pick (b := false) rfl rfl nofun (fun _ => rfl) ?_; refine OkO.pick (b := false) rfl rfl nofun (fun _ => rfl) ?_; refine oN ?_; refine Ok.condF rfl ?_; refine Ok.skip ?_; refine kR ?_; refine OkO.bin rfl rfl rfl (bin_add (by omega) (by omega)) ?_; refine oM rfl rfl ?_; refine oN ?_
              exact ⟨n - (k + 1), by omega, k + 1, rfl, by omega, fun k9 h1 => by (by_cases h4 : k9 = k; (· subst h4; exact place_yes hmx hle hwh); (· exact hpk k9 (by omega))), Has.of (by kernel_rfl), rfl, hg, f0⟩
        · have hkn : k = n := by (have : ¬ k < n := by simpa using h8); omega
          refine Ok.exit ?_; refine kR ?_; refine OkO.bin rfl rfl rfl (bin_add (by omega) (by omega)) ?_; refine oM rfl rfl ?_; refine oN ?_
          exact ⟨cols.length - (c + 1), by omega, c + 1, rfl, by omega, fun c9 k9 h1 h3 => by (by_cases h4 : c9 = c; (· subst h4; exact hpk k9 (by omega)); (· exact hpc c9 k9 (by omega) h3)), Has.of (by kernel_rfl), rfl, hg, f0⟩
    · have hcn : c = cols.length := by (have : ¬ c < cols.length := by simpa using h2); omega
      refine Ok.exit ?_; refine kR ?_; refine OkO.bin rfl rfl rfl (bin_add (by omega) (by omega)) ?_; refine oM rfl rfl ?_; refine oN ?_
      exact ⟨L - (r + 1), by omega, r + 1, rfl, by omega, fun r1 c9 k9 h1 h2 h3 => by (by_cases h4 : r1 = r; (· subst h4; exact hpc c9 k9 (by omega) h3); (· exact hpr r1 c9 k9 (by omega) h2 h3)), Has.of (by kernel_rfl), rfl, hg, f0⟩
  · have hrL : r = L := by (have : ¬ r < L := by simpa using h1); omega
    refine Ok.exit ?_; refine kS ?_; refine kR ?_; refine oA rfl rfl ?_; refine oN ?_
    refine Ok.ret ⟨.inr rfl, ?_⟩
    exact ⟨_, _, back_flat rfl rfl rfl (by rw [← hW]; exact hg), true, rfl, rfl, ⟨fun _ r9 c9 k9 h1 h2 h3 => hpr r9 c9 k9 (by omega) h2 h3, fun _ => rfl⟩⟩
end
end Go.Ev

set_option maxRecDepth 100000
set_option linter.unusedSimpArgs false
set_option linter.unusedVariables false
namespace Go.Ev
open Go Go.Proofs
noncomputable section
theorem c38E (m : Nat) (cv tv : AV) (cols : List (List Bed)) (least fa : Int) (H : Heap) (hM : Mat H cv cols) (he : (if slOk cols least = true then (if inB fa 0 10000 = true then (0 : Int) else 2) else 1) ≠ 0) : RR (m + 10) (.fn 38 [.agg [cv, I least], I fa, tv]) H = some (.bool false, H) := by
  refine (R_fn _ _ _ _ _).trans ?_; refine fn_ok Try.func38 rfl rfl (by kernel_rfl) (by kernel_rfl) ?_
  obtain ⟨W, hW, hg, hN, hE, hG⟩ := wOf H
  rw [← hW]
  have pc : cv.plain = true := by obtain ⟨vs, hR, _, _⟩ := hM; exact lpl hR.len
  refine kS ?_; refine kR ?_; refine OkO.box rfl rfl ?_; refine oA rfl rfl ?_; refine oN ?_; refine kS ?_; refine kS ?_; refine kR ?_; refine oL rfl rfl (qlg7 2) ?_; refine oM rfl rfl ?_; refine oV rfl rfl rfl rfl rfl (c76 m cv cols least fa _ (hM.ext (hE _ (by (try dsimp only); repeat (first | exact hG | apply Grow.new | (refine Grow.put ?_ _ (by first | omega | (simp only [hNw, hPt]; omega)))))))) ?_; refine OkO.bin rfl rfl rfl (bin_neq _ _) ?_; refine oM rfl rfl ?_
  refine OkO.split (d := 11) rfl (fun g1 => ?_) (fun g1 => ?_)
  · refine oK rfl ?_
    refine oK rfl ?_; refine oK rfl ?_; refine oK rfl ?_; refine OkO.pick (b := true) rfl rfl (fun _ => rfl) nofun ?_; refine oN ?_; refine Ok.condT rfl ?_; refine kS ?_; refine kR ?_; refine oA rfl rfl ?_; refine oN ?_
    refine Ok.ret ⟨.inr rfl, ?_⟩
    exact back_flat rfl rfl rfl (by rw [← hW]; exact (by (try dsimp only); repeat (first | exact hG | apply Grow.new | (refine Grow.put ?_ _ (by first | omega | (simp only [hNw, hPt]; omega))))))
  · exact absurd g1 (by simp [he])
theorem c38S (m : Nat) (cv tv : AV) (cols : List (List Bed)) (fa : Int) (L : Nat) (T : List (List (List Int))) (H : Heap) (hM : Mat H cv cols) (hT : Tab H tv T) (hTl : T.length ≤ 1000) (hRl : ∀ R ∈ T, R.length ≤ 1000) (hll : ∀ R ∈ T, ∀ l ∈ R, l.length ≤ 1000) (hv : slOk cols (L : Int) = true) (hf : 0 ≤ fa ∧ fa ≤ 10000) (hsh : shapeB cols.length (cols.headD []).length (L : Int) T = false) : RR (m + 10) (.fn 38 [.agg [cv, I (L : Int)], I fa, tv]) H = some (.bool false, H) := by
  refine (R_fn _ _ _ _ _).trans ?_; refine fn_ok Try.func38 rfl rfl (by kernel_rfl) (by kernel_rfl) ?_
  obtain ⟨W, hW, hg, hN, hE, hG⟩ := wOf H
  rw [← hW]
  have pc : cv.plain = true := by obtain ⟨vs, hR, _, _⟩ := hM; exact lpl hR.len
  have hsf := slOk_facts hv
  refine kS ?_; refine kR ?_; refine OkO.box rfl rfl ?_; refine oA rfl rfl ?_; refine oN ?_; refine kS ?_; refine kS ?_; refine kR ?_; refine oL rfl rfl (qlg7 2) ?_; refine oM rfl rfl ?_; refine oV rfl rfl rfl rfl rfl ((c76 m cv cols (L : Int) fa _ (hM.ext (hE _ (by (try dsimp only); repeat (first | exact hG | apply Grow.new | (refine Grow.put ?_ _ (by first | omega | (simp only [hNw, hPt]; omega)))))))).trans (by rw [if_pos hv, if_pos (show inB fa 0 10000 = true by simp [inB]; omega)])) ?_; refine OkO.bin rfl rfl rfl (bin_neq _ _) ?_; refine oM rfl rfl ?_
  refine OkO.split (d := 11) rfl (fun g1 => ?_) (fun g1 => ?_)
  · exact absurd g1 (by simp)
  · refine oL rfl rfl (qlg7 2) ?_
    refine oM rfl rfl ?_; refine oV rfl rfl rfl rfl rfl ((c77 (m + 2) (cols.headD []).length cv tv cols (L : Int) T _ (hM.ext (hE _ (by (try dsimp only); repeat (first | exact hG | apply Grow.new | (refine Grow.put ?_ _ (by first | omega | (simp only [hNw, hPt]; omega))))))) (lens_of hv) (by omega) (by omega) (hT.ext (hE _ (by (try dsimp only); repeat (first | exact hG | apply Grow.new | (refine Grow.put ?_ _ (by first | omega | (simp only [hNw, hPt]; omega))))))) hTl hRl hll).trans (by rw [hsh])) ?_; refine OkO.un rfl rfl rfl ?_; refine OkO.pick (b := false) rfl rfl nofun (fun _ => rfl) ?_; refine oN ?_
    refine Ok.cond rfl (fun h2 => ?_) (fun h2 => ?_)
    · refine kS ?_
      refine kR ?_; refine oA rfl rfl ?_; refine oN ?_
      refine Ok.ret ⟨.inr rfl, ?_⟩
      exact back_flat rfl rfl rfl (by rw [← hW]; exact (by (try dsimp only); repeat (first | exact hG | apply Grow.new | (refine Grow.put ?_ _ (by first | omega | (simp only [hNw, hPt]; omega))))))
    · exact absurd h2 (by simp)
theorem c38 (m : Nat) (cv tv : AV) (cols : List (List Bed)) (fa : Int) (L : Nat) (T : List (List (List Int))) (H : Heap) (hM : Mat H cv cols) (hT : Tab H tv T) (hTl : T.length ≤ 1000) (hRl : ∀ R ∈ T, R.length ≤ 1000) (hll : ∀ R ∈ T, ∀ l ∈ R, l.length ≤ 1000) (hv : slOk cols (L : Int) = true) (hf : 0 ≤ fa ∧ fa ≤ 10000) (hsh : shapeB cols.length (cols.headD []).length (L : Int) T = true) : ∃ v H', RR (m + 10) (.fn 38 [.agg [cv, I (L : Int)], I fa, tv]) H = some (v, H') ∧ ∃ b : Bool, v = .bool b ∧ H' = H ∧ (b = true ↔ TabP (prC cols fa) (tabF T) cols.length (cols.headD []).length L) := by
  show ∃ v H', evFn Try.prog (RR (m + 9)) 38 [.agg [cv, I (L : Int)], I fa, tv] H = some (v, H') ∧ ∃ b : Bool, v = .bool b ∧ H' = H ∧ (b = true ↔ TabP (prC cols fa) (tabF T) cols.length (cols.headD []).length L)
  refine fn_okE Try.func38 rfl rfl (by kernel_rfl) (by kernel_rfl) ?_
  obtain ⟨W, hW, hg, hN, hE, hG⟩ := wOf H
  rw [← hW]
  have pc : cv.plain = true := by obtain ⟨vs, hR, _, _⟩ := hM; exact lpl hR.len
  have hsf := slOk_facts hv
  refine kS ?_; refine kR ?_; refine OkO.box rfl rfl ?_; refine oA rfl rfl ?_; refine oN ?_; refine kS ?_; refine kS ?_; refine kR ?_; refine oL rfl rfl (qlg7 2) ?_; refine oM rfl rfl ?_; refine oV rfl rfl rfl rfl rfl ((c76 m cv cols (L : Int) fa _ (hM.ext (hE _ (by (try dsimp only); repeat (first | exact hG | apply Grow.new | (refine Grow.put ?_ _ (by first | omega | (simp only [hNw, hPt]; omega)))))))).trans (by rw [if_pos hv, if_pos (show inB fa 0 10000 = true by simp [inB]; omega)])) ?_; refine OkO.bin rfl rfl rfl (bin_neq _ _) ?_; refine oM rfl rfl ?_
  refine OkO.split (d := 11) rfl (fun g1 => ?_) (fun g1 => ?_)
  · exact absurd g1 (by simp)
  · refine oL rfl rfl (qlg7 2) ?_
    refine oM rfl rfl ?_; refine oV rfl rfl rfl rfl rfl ((c77 (m + 2) (cols.headD []).length cv tv cols (L : Int) T _ (hM.ext (hE _ (by (try dsimp only); repeat (first | exact hG | apply Grow.new | (refine Grow.put ?_ _ (by first | omega | (simp only [hNw, hPt]; omega))))))) (lens_of hv) (by omega) (by omega) (hT.ext (hE _ (by (try dsimp only); repeat (first | exact hG | apply Grow.new | (refine Grow.put ?_ _ (by first | omega | (simp only [hNw, hPt]; omega))))))) hTl hRl hll).trans (by rw [hsh])) ?_; refine OkO.un rfl rfl rfl ?_; refine OkO.pick (b := false) rfl rfl nofun (fun _ => rfl) ?_; refine oN ?_
    refine Ok.cond rfl (fun h2 => ?_) (fun h2 => ?_)
    · exact absurd h2 (by simp)
    · refine Ok.skip ?_
      refine kS ?_; refine kR ?_; refine oL rfl rfl (qlg7 2) ?_; refine oM rfl rfl ?_; refine OkO.build (z := [.nils, .int .i64 0, .int .i64 0, .nilf]) (pl := [(0, 2), (2, 1), (3, 1)]) rfl (by kernel_rfl) rfl rfl ?_; refine oM rfl rfl ?_; refine oE rfl rfl rfl rfl rfl (c78 (m + 3) cv tv cols fa L (cols.headD []).length T _ (hM.ext (hE _ (by (try dsimp only); repeat (first | exact hG | apply Grow.new | (refine Grow.put ?_ _ (by first | omega | (simp only [hNw, hPt]; omega))))))) (lens_of hv) (bedsOk_of hv) hf (by omega) (by omega) (by omega) (hT.ext (hE _ (by (try dsimp only); repeat (first | exact hG | apply Grow.new | (refine Grow.put ?_ _ (by first | omega | (simp only [hNw, hPt]; omega))))))) hsh) ?_
      rintro _ H78 ⟨bb, rfl, rfl, hbb⟩
      refine oA rfl rfl ?_; refine oN ?_
      refine Ok.ret ⟨.inr rfl, ?_⟩
      exact ⟨_, _, back_flat rfl rfl rfl (by rw [← hW]; exact (by (try dsimp only); repeat (first | exact hG | apply Grow.new | (refine Grow.put ?_ _ (by first | omega | (simp only [hNw, hPt]; omega)))))), bb, rfl, rfl, hbb⟩
end
end Go.Ev

set_option maxRecDepth 100000
set_option linter.unusedSimpArgs false
set_option linter.unusedVariables false
namespace Go.Ev
open Go Go.Proofs
noncomputable section
/-- The limits of a place of a table, in a list. -/
def limL (cost : Int) (A B : Nat → Int) (r L c k n : Nat) : List Int :=
  (if r = 0 then [cost] else []) ++ (if 0 < c then ((List.range n).filter fun i => decide (i ≤ k + 1) && decide (k ≤ i + 1)).flatMap (fun i => (if 0 < r then [cost + A i] else []) ++ (if r + 1 = L then [cost + B i] else [])) else [])
def mostV (cost : Int) (A B : Nat → Int) (r L c k n : Nat) : Int := minL 1000000000000000 (limL cost A B r L c k n)
theorem lim_mem {cost : Int} {A B : Nat → Int} {r L c k n : Nat} {x : Int} : x ∈ limL cost A B r L c k n ↔ (r = 0 ∧ x = cost) ∨ (0 < c ∧ ∃ i, Nxt n k i ∧ ((0 < r ∧ x = cost + A i) ∨ (r + 1 = L ∧ x = cost + B i))) := by
  unfold limL
  rw [List.mem_append]
  have e1 : x ∈ (if r = 0 then [cost] else []) ↔ (r = 0 ∧ x = cost) := by
    by_cases h : r = 0
    · rw [if_pos h]; simp [h]
    · rw [if_neg h]; simp [h]
  have e2 : x ∈ (if 0 < c then ((List.range n).filter fun i => decide (i ≤ k + 1) && decide (k ≤ i + 1)).flatMap (fun i => (if 0 < r then [cost + A i] else []) ++ (if r + 1 = L then [cost + B i] else [])) else []) ↔ (0 < c ∧ ∃ i, Nxt n k i ∧ ((0 < r ∧ x = cost + A i) ∨ (r + 1 = L ∧ x = cost + B i))) := by
    by_cases h : 0 < c
    · rw [if_pos h]
      have e3 : ∀ i, x ∈ ((if 0 < r then [cost + A i] else []) ++ (if r + 1 = L then [cost + B i] else [])) ↔ ((0 < r ∧ x = cost + A i) ∨ (r + 1 = L ∧ x = cost + B i)) := fun i => by
        rw [List.mem_append]
        by_cases h1 : 0 < r <;> by_cases h2 : r + 1 = L <;> simp [h1, h2]
      rw [List.mem_flatMap]
      constructor
      · rintro ⟨i, hi, hx⟩
        rw [List.mem_filter, List.mem_range, Bool.and_eq_true, decide_eq_true_eq, decide_eq_true_eq] at hi
        exact ⟨h, i, ⟨hi.1, hi.2.1, hi.2.2⟩, (e3 i).1 hx⟩
      · rintro ⟨_, i, ⟨h1, h2, h3⟩, hx⟩
        exact ⟨i, by rw [List.mem_filter, List.mem_range, Bool.and_eq_true, decide_eq_true_eq, decide_eq_true_eq]; exact ⟨h1, h2, h3⟩, (e3 i).2 hx⟩
    · rw [if_neg h]
      exact ⟨fun h9 => absurd h9 List.not_mem_nil, fun h9 => absurd h9.1 h⟩
  rw [e1, e2]
theorem mostV_is (cost : Int) (A B : Nat → Int) (r L c k n : Nat) : MostIs cost A B r L c k n (mostV cost A B r L c k n) := by
  have hm := minL_le (limL cost A B r L c k n) 1000000000000000
  refine ⟨hm.1, fun hr => hm.2 _ (lim_mem.2 (.inl ⟨hr, rfl⟩)), fun hc i hi => ⟨fun hr => hm.2 _ (lim_mem.2 (.inr ⟨hc, i, hi, .inl ⟨hr, rfl⟩⟩)), fun hr => hm.2 _ (lim_mem.2 (.inr ⟨hc, i, hi, .inr ⟨hr, rfl⟩⟩))⟩, ?_⟩
  rcases minL_or (limL cost A B r L c k n) 1000000000000000 with h | h
  · exact .inl h
  · exact .inr (lim_mem.1 h)
theorem MostIs.le {cost : Int} {A B : Nat → Int} {r L c k n : Nat} {x y : Int} (hx : MostIs cost A B r L c k n x) (hy : MostIs cost A B r L c k n y) : x ≤ y := by
  obtain ⟨x1, x2, x3, _⟩ := hx
  obtain ⟨_, _, _, y4⟩ := hy
  rcases y4 with h | ⟨h, h2⟩ | ⟨hc, i, hi, h | h⟩
  · rw [h]; exact x1
  · rw [h2]; exact x2 h
  · rw [h.2]; exact (x3 hc i hi).1 h.1
  · rw [h.2]; exact (x3 hc i hi).2 h.1
theorem MostIs.uniq {cost : Int} {A B : Nat → Int} {r L c k n : Nat} {x y : Int} (hx : MostIs cost A B r L c k n x) (hy : MostIs cost A B r L c k n y) : x = y := Int.le_antisymm (hx.le hy) (hy.le hx)
theorem MostIs.zero {cost : Int} {A B A' B' : Nat → Int} {r L k n : Nat} {x : Int} (h : MostIs cost A B r L 0 k n x) : MostIs cost A' B' r L 0 k n x := by
  obtain ⟨h1, h2, _, h4⟩ := h
  refine ⟨h1, h2, fun h => absurd h (Nat.lt_irrefl 0), ?_⟩
  rcases h4 with h | h | h
  · exact .inl h
  · exact .inr (.inl h)
  · exact absurd h.1 (Nat.lt_irrefl 0)
/-- The numbers of the greatest table. -/
def tF (pr : Nat → Nat → Int) (n L : Nat) : Nat → Nat → Nat → Int
  | 0, r, k => mostV (pr 0 k) (fun _ => 0) (fun _ => 0) r L 0 k n
  | c + 1, r, k => mostV (pr (c + 1) k) (fun i => tF pr n L c (r - 1) i) (fun i => tF pr n L c r i) r L (c + 1) k n
theorem tF_most (pr : Nat → Nat → Int) (n L : Nat) : ∀ (c r k : Nat), MostIs (pr c k) (fun i => tF pr n L (c - 1) (r - 1) i) (fun i => tF pr n L (c - 1) r i) r L c k n (tF pr n L c r k)
  | 0, r, k => (mostV_is (pr 0 k) (fun _ => 0) (fun _ => 0) r L 0 k n).zero
  | c + 1, r, k => mostV_is (pr (c + 1) k) (fun i => tF pr n L c (r - 1) i) (fun i => tF pr n L c r i) r L (c + 1) k n
theorem tF_bd {pr : Nat → Nat → Int} (hB : PrB pr) (n L : Nat) : ∀ (c r k : Nat), -10000000000 * (c + 1 : Int) ≤ tF pr n L c r k ∧ tF pr n L c r k ≤ 1000000000000000
  | 0, r, k => by
    obtain ⟨h1, _, _, h4⟩ := tF_most pr n L 0 r k
    refine ⟨?_, h1⟩
    have hb := hB 0 k
    rcases h4 with h | ⟨_, h⟩ | ⟨h, _⟩
    · omega
    · omega
    · omega
  | c + 1, r, k => by
    obtain ⟨h1, _, _, h4⟩ := tF_most pr n L (c + 1) r k
    refine ⟨?_, h1⟩
    have hb := hB (c + 1) k
    rcases h4 with h | ⟨_, h⟩ | ⟨_, i, _, h | h⟩
    · omega
    · omega
    · have := (tF_bd hB n L c (r - 1) i).1
      have h2 := h.2
      simp only [Nat.add_sub_cancel] at h2
      omega
    · have := (tF_bd hB n L c r i).1
      have h2 := h.2
      simp only [Nat.add_sub_cancel] at h2
      omega
theorem Nxt.symm' {n k i : Nat} (h : Nxt n k i) (hk : k < n) : Nxt n i k := ⟨hk, h.2.2, h.2.1⟩
theorem tF_from {pr : Nat → Nat → Int} (hB : PrB pr) {n L : Nat} : ∀ (c r k : Nat), r ≤ L - 1 → k < n → FromW pr n L 1000000000000000 r c k (tF pr n L c r k)
  | 0, r, k, hr, hk => by
    obtain ⟨_, _, _, h4⟩ := tF_most pr n L 0 r k
    rcases h4 with h | ⟨h0, h⟩ | ⟨h, _⟩
    · rw [h]; exact FromW.top
    · rw [h, h0]; exact FromW.first hk
    · exact absurd h (Nat.lt_irrefl 0)
  | c + 1, r, k, hr, hk => by
    obtain ⟨_, _, _, h4⟩ := tF_most pr n L (c + 1) r k
    rcases h4 with h | ⟨h0, h⟩ | ⟨_, i, hi, h | h⟩
    · rw [h]; exact FromW.top
    · rw [h, h0]; exact FromW.first hk
    · rw [h.2]
      simp only [Nat.add_sub_cancel]
      exact FromW.step hB (tF_from hB c (r - 1) i (by omega) hi.1) (hi.symm' hk) (.inl (by omega)) hr
    · rw [h.2]
      simp only [Nat.add_sub_cancel]
      exact FromW.step hB (tF_from hB c r i hr hi.1) (hi.symm' hk) (.inr ⟨rfl, by omega⟩) hr
/-- The greatest table proves the factor, where no surface is below. -/
theorem tF_proved {pr : Nat → Nat → Int} (hB : PrB pr) {N n L : Nat} (hL : 1 ≤ L) (hN : N ≤ 100) (hb : belowB N n (L : Int) pr = false) : ProvedT pr N n L (fun r c k => tF pr n L c r k) where
  first := fun c k _ _ => (tF_most pr n L c 0 k).2.1 rfl
  up := fun r c k j _ _ hk hj => by
    have h := ((tF_most pr n L (c + 1) (r + 1) j).2.2.1 (Nat.succ_pos c) k (hj.symm' hk)).1 (Nat.succ_pos r)
    simpa using h
  on := fun c k j _ hk hj => by
    have h := ((tF_most pr n L (c + 1) (L - 1) j).2.2.1 (Nat.succ_pos c) k (hj.symm' hk)).2 (by omega)
    simpa using h
  whole := fun c k hc _ hk => FromW.whole (tF_from hB c (L - 1) k (Nat.le_refl _) hk) hL hc hN (by omega) hb
theorem tF_tab {pr : Nat → Nat → Int} (hB : PrB pr) {N n L : Nat} (hL : 1 ≤ L) (hN : N ≤ 100) (hb : belowB N n (L : Int) pr = false) {t : Nat → Nat → Nat → Int} (ht : ∀ r c k, r < L → c < N → k < n → t r c k = tF pr n L c r k) : TabP pr t N n L := fun r c k hr hc hk => by
  have hx := tF_most pr n L c r k
  refine place_yes (x := t r c k) ?_ (Int.le_refl _) (fun h1 h2 => ?_)
  · rw [ht r c k hr hc hk]
    obtain ⟨a1, a2, a3, a4⟩ := hx
    have hA : ∀ i, i < n → 0 < c → t (r - 1) (c - 1) i = tF pr n L (c - 1) (r - 1) i := fun i hi _ => ht _ _ _ (by omega) (by omega) hi
    have hBb : ∀ i, i < n → 0 < c → t r (c - 1) i = tF pr n L (c - 1) r i := fun i hi _ => ht _ _ _ hr (by omega) hi
    refine ⟨a1, a2, fun h i hi => ⟨fun h2 => ?_, fun h2 => ?_⟩, ?_⟩
    · rw [hA i hi.1 h]; exact (a3 h i hi).1 h2
    · rw [hBb i hi.1 h]; exact (a3 h i hi).2 h2
    · rcases a4 with h | h | ⟨h, i, hi, h2 | h2⟩
      · exact .inl h
      · exact .inr (.inl h)
      · exact .inr (.inr ⟨h, i, hi, .inl ⟨h2.1, by rw [hA i hi.1 h]; exact h2.2⟩⟩)
      · exact .inr (.inr ⟨h, i, hi, .inr ⟨h2.1, by rw [hBb i hi.1 h]; exact h2.2⟩⟩)
  · rw [ht r c k hr hc hk]
    have := (tF_proved hB hL hN hb).whole c k hc (by omega) hk
    have e : L - 1 = r := by omega
    rw [e] at this
    exact this
def colL (pr : Nat → Nat → Int) (n L r c : Nat) : List Int := (List.range n).map fun k => tF pr n L c r k
def rowL (pr : Nat → Nat → Int) (N n L r : Nat) : List (List Int) := (List.range N).map fun c => colL pr n L r c
def tabL (pr : Nat → Nat → Int) (N n L : Nat) : List (List (List Int)) := (List.range L).map fun r => rowL pr N n L r
theorem tabL_at {pr : Nat → Nat → Int} {N n L r c k : Nat} (hr : r < L) (hc : c < N) (hk : k < n) : tabF (tabL pr N n L) r c k = tF pr n L c r k := by
  simp [tabF, tabL, rowL, colL, List.getD, hr, hc, hk]
theorem tabL_shape {pr : Nat → Nat → Int} (hB : PrB pr) {N n L : Nat} (hN : N ≤ 100) : shapeB N n (L : Int) (tabL pr N n L) = true := by
  unfold shapeB
  rw [Bool.and_eq_true, decide_eq_true_eq, List.all_eq_true]
  refine ⟨by simp [tabL], fun R hR => ?_⟩
  obtain ⟨r, _, rfl⟩ := List.mem_map.1 hR
  unfold rowB
  rw [Bool.and_eq_true, decide_eq_true_eq, List.all_eq_true]
  refine ⟨by simp [rowL], fun l hl => ?_⟩
  obtain ⟨c, hc, rfl⟩ := List.mem_map.1 hl
  have hc2 := List.mem_range.1 hc
  unfold numsB
  rw [Bool.and_eq_true, decide_eq_true_eq, List.all_eq_true]
  refine ⟨by simp [colL], fun x hx => ?_⟩
  obtain ⟨k, _, rfl⟩ := List.mem_map.1 hx
  have := tF_bd hB n L c r k
  unfold inB
  simp
  omega
/-- Where the rows of a table lie. -/
def rbA (K N r : Nat) : Nat := K + r * (N + 1)
theorem rbA_zero (K N : Nat) : rbA K N 0 = K := by simp [rbA]
theorem rbA_succ (K N r : Nat) : rbA K N (r + 1) = rbA K N r + N + 1 := by
  unfold rbA
  rw [Nat.succ_mul]
  omega
theorem rbA_le (K N : Nat) : ∀ {i j : Nat}, i < j → rbA K N i + N + 1 ≤ rbA K N j
  | i, 0, h => absurd h (Nat.not_lt_zero i)
  | i, j + 1, h => by
    rw [rbA_succ]
    by_cases e : i = j
    · subst e; omega
    · have := rbA_le K N (i := i) (j := j) (by omega)
      omega
theorem rbA_ge (K N r : Nat) : K ≤ rbA K N r := Nat.le_add_right _ _
def topC (K N L r : Nat) : List AV := (List.range L).map fun i => if i < r then .slice (rbA K N i) 0 N N else .nils
def rowC (b N n c : Nat) : List AV := (List.range N).map fun j => if j < c then .slice (b + 1 + j) 0 n n else .nils
def colC (g : Nat → Int) (n k : Nat) : List AV := (List.range n).map fun i => if i < k then I (g i) else I 0
theorem set_rng {N i : Nat} {f : Nat → AV} {x : AV} {f' : Nat → AV} (h : f' i = x) (h2 : ∀ j, j ≠ i → f' j = f j) : ((List.range N).map f).set i x = (List.range N).map f' := by
  refine List.ext_getElem (by simp) fun j h1 h3 => ?_
  rw [List.length_set, List.length_map, List.length_range] at h1
  by_cases e : j = i
  · subst e
    rw [List.getElem_set_self, List.getElem_map, List.getElem_range, h]
  · rw [List.getElem_set_ne (fun h => e h.symm), List.getElem_map, List.getElem_map, List.getElem_range, h2 j e]
theorem topC_set (K N L r : Nat) : (topC K N L r).set r (.slice (rbA K N r) 0 N N) = topC K N L (r + 1) := set_rng (by rw [if_pos (Nat.lt_succ_self r)]) fun j hj => by
  by_cases h : j < r
  · rw [if_pos h, if_pos (by omega)]
  · rw [if_neg h, if_neg (by omega)]
theorem rowC_set (b N n c : Nat) : (rowC b N n c).set c (.slice (b + 1 + c) 0 n n) = rowC b N n (c + 1) := set_rng (by rw [if_pos (Nat.lt_succ_self c)]) fun j hj => by
  by_cases h : j < c
  · rw [if_pos h, if_pos (by omega)]
  · rw [if_neg h, if_neg (by omega)]
theorem colC_set (g : Nat → Int) (n k : Nat) : (colC g n k).set k (I (g k)) = colC g n (k + 1) := set_rng (by rw [if_pos (Nat.lt_succ_self k)]) fun j hj => by
  by_cases h : j < k
  · rw [if_pos h, if_pos (by omega)]
  · rw [if_neg h, if_neg (by omega)]
theorem rep_rng (x : AV) : ∀ n : Nat, rep [x] n = (List.range n).map fun _ => x
  | 0 => rfl
  | n + 1 => by
    show [x] ++ rep [x] n = _
    rw [rep_rng x n, List.range_succ_eq_map, List.map_cons, List.map_map]
    rfl
theorem topC_zero (K N L : Nat) : rep [.nils] L = topC K N L 0 := by rw [rep_rng]; exact List.map_congr_left fun i _ => by rw [if_neg (Nat.not_lt_zero i)]
theorem rowC_zero (b N n : Nat) : rep [.nils] N = rowC b N n 0 := by rw [rep_rng]; exact List.map_congr_left fun i _ => by rw [if_neg (Nat.not_lt_zero i)]
theorem colC_zero (g : Nat → Int) (n : Nat) : rep [I 0] n = colC g n 0 := by rw [rep_rng]; exact List.map_congr_left fun i _ => by rw [if_neg (Nat.not_lt_zero i)]
theorem topC_len (K N L r : Nat) : (topC K N L r).length = L := by simp [topC]
theorem rowC_len (b N n c : Nat) : (rowC b N n c).length = N := by simp [rowC]
theorem colC_len (g : Nat → Int) (n k : Nat) : (colC g n k).length = n := by simp [colC]
theorem topC_at {K N L r i : Nat} (hi : i < r) (hL : i < L) : (topC K N L r)[i]? = some (.slice (rbA K N i) 0 N N) := by simp [topC, hi, hL]
theorem rowC_at {b N n c j : Nat} (hj : j < c) (hN : j < N) : (rowC b N n c)[j]? = some (.slice (b + 1 + j) 0 n n) := by simp [rowC, hj, hN]
theorem colC_full (g : Nat → Int) (n : Nat) : colC g n n = ((List.range n).map g).map I := by
  unfold colC
  rw [List.map_map]
  exact List.map_congr_left fun i hi => by rw [if_pos (List.mem_range.1 hi)]; rfl
theorem seg_cell {cs : List AV} {k : Nat} {x : AV} (h : cs[k]? = some x) : seg cs k 1 = some [x] := by
  obtain ⟨hk, hx⟩ := List.getElem?_eq_some_iff.1 h
  have e : (cs.drop k).take 1 = [x] := by rw [List.drop_eq_getElem_cons hk, hx]; rfl
  unfold seg
  dsimp only
  rw [e]
  rfl
theorem row_cells {H : Heap} {b n : Nat} {vs : List AV} (h : (H.get b).bind AObj.cs = some vs) (hb : b < H.next) (hn : vs.length = n) : Row H (.slice b 0 n n) 1 (vs.map fun x => [x]) := ⟨by simp [lenOf, hn], fun i x hx => by
  have hi : i < vs.length := by (have h9 := (List.getElem?_eq_some_iff.1 hx).1); simpa using h9
  have hx2 : x = [vs[i]] := by (rw [List.getElem?_map, List.getElem?_eq_getElem hi] at hx); exact (Option.some.inj hx).symm
  subst hx2
  refine ⟨b, 0 + i * 1, vs, slAt_slice (by omega), h, ?_, hb⟩
  have e : vs[0 + i * 1]? = some vs[i] := by simp [hi]
  exact seg_cell e⟩
/-- The rows of a table that are done. -/
structure PT (K N n : Nat) (g : Nat → Nat → Nat → Int) (e2 e3 : TypeId) (H : Heap) (r : Nat) : Prop where
  rows : ∀ i, i < r → H.get (rbA K N i) = some (.cells (rowC (rbA K N i) N n N) e2)
  cols : ∀ i j, i < r → j < N → H.get (rbA K N i + 1 + j) = some (.cells (colC (g i j) n n) e3)
theorem PT.zero (K N n : Nat) (g : Nat → Nat → Nat → Int) (e2 e3 : TypeId) (H : Heap) : PT K N n g e2 e3 H 0 := ⟨fun i h => absurd h (Nat.not_lt_zero i), fun i _ h => absurd h (Nat.not_lt_zero i)⟩
theorem PT.keep {K N n : Nat} {g : Nat → Nat → Nat → Int} {e2 e3 : TypeId} {H H' : Heap} {r : Nat} (h : PT K N n g e2 e3 H r) (hk : ∀ b, K ≤ b → b < rbA K N r → H'.get b = H.get b) : PT K N n g e2 e3 H' r := ⟨fun i hi => by
    have := rbA_le K N hi
    rw [hk _ (rbA_ge K N i) (by omega)]
    exact h.rows i hi, fun i j hi hj => by
    have := rbA_le K N hi
    have := rbA_ge K N i
    rw [hk _ (by omega) (by omega)]
    exact h.cols i j hi hj⟩
/-- The columns of its row at hand that are done. -/
structure PR (b N n : Nat) (g : Nat → Nat → Int) (e2 e3 : TypeId) (H : Heap) (c : Nat) : Prop where
  row : H.get b = some (.cells (rowC b N n c) e2)
  cols : ∀ j, j < c → H.get (b + 1 + j) = some (.cells (colC (g j) n n) e3)
theorem PT.succ {K N n : Nat} {g : Nat → Nat → Nat → Int} {e2 e3 : TypeId} {H : Heap} {r : Nat} (h : PT K N n g e2 e3 H r) (h2 : PR (rbA K N r) N n (g r) e2 e3 H N) : PT K N n g e2 e3 H (r + 1) := ⟨fun i hi => by
    by_cases e : i = r
    · subst e; exact h2.row
    · exact h.rows i (by omega), fun i j hi hj => by
    by_cases e : i = r
    · subst e; exact h2.cols j hj
    · exact h.cols i j (by omega) hj⟩
theorem tab_at_mk {H : Heap} {tb n N L r c R C : Nat} {g : Nat → Int} {e1 e2 e3 : TypeId} {K : Nat} (h1 : H.get tb = some (.cells (topC K N L R) e1)) (h2 : H.get (rbA K N r) = some (.cells (rowC (rbA K N r) N n C) e2)) (h3 : H.get (rbA K N r + 1 + c) = some (.cells (colC g n n) e3)) (hr : r < R) (hL : r < L) (hc : c < C) (hN : c < N) (b1 : tb < H.next) (b2 : rbA K N r + 1 + c < H.next) : TabAt H (.slice tb 0 L L) r c ((List.range n).map g) :=
  ⟨topC K N L R, _, rowC (rbA K N r) N n C, _, row_cells (by rw [h1]; rfl) b1 (topC_len _ _ _ _), topC_at hr hL, row_cells (by rw [h2]; rfl) (by omega) (rowC_len _ _ _ _), rowC_at hc hN, by
    have := row_cells (H := H) (b := rbA K N r + 1 + c) (n := n) (vs := colC g n n) (by rw [h3]; rfl) b2 (colC_len _ _ _)
    rw [colC_full, List.map_map] at this
    exact this⟩
theorem spl_at1 {cs : List AV} {off : Nat} {x : AV} (h : off < cs.length) : spl cs off [x] = some (cs.set off x) := by
  have e : spl cs off [x] = (match Nat.ble (off + 1) cs.length with | true => some (cs.take off ++ ([x] ++ cs.drop (off + 1))) | false => none) := rfl
  rw [e, show Nat.ble (off + 1) cs.length = true from by simp; omega]
  simp [List.set_eq_take_append_cons_drop, h]
theorem tab_done {H : Heap} {tb K N n L : Nat} {g : Nat → Nat → Nat → Int} {e1 e2 e3 : TypeId} (h1 : H.get tb = some (.cells (topC K N L L) e1)) (h : PT K N n g e2 e3 H L) (b1 : tb < H.next) (b2 : rbA K N L ≤ H.next) : Tab H (.slice tb 0 L L) ((List.range L).map fun r => (List.range N).map fun c => (List.range n).map (g r c)) := by
  refine ⟨topC K N L L, row_cells (by rw [h1]; rfl) b1 (topC_len _ _ _ _), by simp [topC_len], fun r x R hx hR => ?_⟩
  have hr : r < L := by
    have := (List.getElem?_eq_some_iff.1 hx).1
    rw [topC_len] at this
    exact this
  rw [topC_at hr hr] at hx
  cases hx
  rw [List.getElem?_map, List.getElem?_range hr] at hR
  cases hR
  have hb := rbA_le K N hr
  refine ⟨rowC (rbA K N r) N n N, row_cells (by rw [h.rows r hr]; rfl) (by omega) (rowC_len _ _ _ _), by simp [rowC_len], fun c y l hy hl => ?_⟩
  have hc : c < N := by
    have := (List.getElem?_eq_some_iff.1 hy).1
    rw [rowC_len] at this
    exact this
  rw [rowC_at hc hc] at hy
  cases hy
  rw [List.getElem?_map, List.getElem?_range hc] at hl
  cases hl
  have := row_cells (H := H) (b := rbA K N r + 1 + c) (n := n) (vs := colC (g r c) n n) (by rw [h.cols r c hr hc]; rfl) (by omega) (colC_len _ _ _)
  rw [colC_full, List.map_map] at this
  exact this
end
end Go.Ev

set_option maxRecDepth 100000
set_option linter.unusedSimpArgs false
set_option linter.unusedVariables false
namespace Go.Ev
open Go Go.Proofs
noncomputable section
theorem c75 (m : Nat) (cv : AV) (cols : List (List Bed)) (fa : Int) (L n : Nat) (H : Heap) (hM : Mat H cv cols) (hcl : ∀ c ∈ cols, c.length = n) (hok : BedsOk cols) (hf : 0 ≤ fa ∧ fa ≤ 10000) (hN9 : 1 ≤ cols.length ∧ cols.length ≤ 100) (hn9 : n ≤ 100) (hL9 : 1 ≤ L ∧ L ≤ 100) : ∃ v H', RR (m + 6) (.fn 75 [.agg [cv, I (L : Int), I fa, .fn 66 [] []]]) H = some (v, H') ∧ Ret H H' ∧ Tab H' v (tabL (prC cols fa) cols.length n L) ∧ v.flat = false := by
  show ∃ v H', evFn Try.prog (RR (m + 5)) 75 [.agg [cv, I (L : Int), I fa, .fn 66 [] []]] H = some (v, H') ∧ Ret H H' ∧ Tab H' v (tabL (prC cols fa) cols.length n L) ∧ v.flat = false
  refine fn_okE Try.func75 rfl rfl (by kernel_rfl) (by kernel_rfl) ?_
  obtain ⟨W, hW, hg, hN, hE, hG⟩ := wOf H
  rw [← hW]
  obtain ⟨vs, hR, hvl, hv⟩ := id hM
  have hlen : lenOf cv = some cols.length := by rw [← hvl]; simpa using hR.len
  have pc : cv.plain = true := lpl hlen
  have hBB := prC_bd hok hf
  refine kS ?_; refine kR ?_; refine OkO.box rfl rfl ?_; refine oA rfl rfl ?_; refine oN ?_; refine kS ?_; refine kR ?_; refine oF (o := 0) rfl (by kernel_rfl) rfl ?_; refine oF (o := 1) rfl (by kernel_rfl) rfl ?_; refine oL rfl rfl (qla0 1) ?_; refine OkO.makeSlice (el := 62) (sz := 1) (z := [.nils]) (n := L) (by_ := 24) rfl (by kernel_rfl) (by kernel_rfl) (by omega) rfl rfl (by omega) ?_; refine oA rfl rfl ?_; refine oN ?_; refine kS ?_; refine kS ?_; refine kR ?_; refine oF (o := 0) rfl (by kernel_rfl) rfl ?_; refine oF (o := 1) rfl (by kernel_rfl) rfl ?_; refine oL rfl rfl (qla0 1) ?_; refine oM rfl rfl ?_; refine oN ?_; refine Ok.block ?_
  refine Ok.loop (fun n9 s_ => ∃ r : Nat, n9 = L - r ∧ r ≤ L ∧ PT (W.next + 2) cols.length n (fun i j => tF (prC cols fa) n L j i) 25 3 s_.H r ∧ s_.H.get (W.next + 1) = some (.cells (topC (W.next + 2) cols.length L r) 62) ∧ s_.H.next = (rbA (W.next + 2) cols.length r) ∧ s_.H.get W.next = some (.cells [cv, I (L : Int), I fa, .fn 66 [] []] 119) ∧ Has 7 [(1, .ptr W.next 0), (3, .slice (W.next + 1) 0 L L), (13, I (L : Int)), (14, I (r : Int))] s_.T ∧ s_.D = [] ∧ Grow W s_.H) (L) (by unfold loopFuel; omega)
    ⟨0, rfl, Nat.zero_le _, PT.zero _ _ _ _ _ _ _, (by rw [gn1, topC_zero (W.next + 2) cols.length L]), (by simp [rbA_zero]), (by first | assumption | (simp (disch := first | omega | (simp only [hNw, hPt]; omega)) only [gN] <;> first | rfl | assumption | exact gp0 _ _ _ | exact gn0 _ _)), Has.of (by kernel_rfl), rfl, (by (try dsimp only); repeat (first | exact hG | apply Grow.new | (refine Grow.put ?_ _ (by first | omega | (simp only [hNw, hPt]; omega)))))⟩ ?_
  rintro nn_ ⟨T, D, G⟩ ⟨r, hn9_, hr, hPT, hTop, hnx, f0, ⟨f_, hT⟩, hD, hg⟩
  dsimp only at *
  subst hT hD
  have hgn := hg.next
  have e0 : (G.get W.next).bind AObj.cs = some [cv, I (L : Int), I fa, .fn 66 [] []] := by rw [f0]; rfl
  have et : (G.get (W.next + 1)).bind AObj.cs = some (topC (W.next + 2) cols.length L r) := by rw [hTop]; rfl
  have hrb0 := rbA_ge (W.next + 2) cols.length r
  have hrbs := rbA_succ (W.next + 2) cols.length r
  refine kS ?_; refine kR ?_; refine OkO.bin rfl rfl rfl (bin_lss _ _) ?_; refine oN ?_; refine kS ?_
  refine Ok.cond rfl (fun h1 => ?_) (fun h1 => ?_)
  · have hrL : r < L := by simpa using h1
    refine Ok.skip ?_; refine kS ?_; refine Ok.block ?_; refine kS ?_; refine kR ?_; refine oM rfl rfl ?_; refine oA rfl rfl ?_; refine oN ?_; refine kS ?_; refine kR ?_; refine oM rfl rfl ?_; refine oM rfl rfl ?_; refine oF (o := 0) rfl (by kernel_rfl) rfl ?_; refine oF (o := 0) rfl (by kernel_rfl) rfl ?_; refine oL rfl rfl (qla0 1) ?_; refine oB rfl rfl rfl qbl ?_; refine OkO.makeSlice (el := 25) (sz := 1) (z := [.nils]) (n := cols.length) (by_ := 24) rfl (by kernel_rfl) (by kernel_rfl) (by omega) rfl rfl (by omega) ?_; refine qX (sz := 1) (n := r) rfl rfl rfl ?_; refine oT rfl rfl rfl (sAc (n := 1) (ag := false) (l := topC (W.next + 2) cols.length L (r + 1)) (by kernel_rfl) (by rw [gno _ _ _ (by omega)]; exact hTop) rfl rfl (by rw [show 0 + r * 1 = r from by omega]; exact (spl_at1 (by rw [topC_len]; omega)).trans (congrArg some (by rw [hnx]; exact topC_set _ _ _ _)))) ?_; refine oN ?_; refine kS ?_; refine kR ?_; refine oF (o := 0) rfl (by kernel_rfl) rfl ?_; refine oF (o := 0) rfl (by kernel_rfl) rfl ?_; refine oL rfl rfl (qla0 1) ?_; refine oB rfl rfl rfl qbl ?_; refine oM rfl rfl ?_; refine oN ?_; refine Ok.block ?_
    refine Ok.loop (fun n8 s_ => ∃ c : Nat, n8 = cols.length - c ∧ c ≤ cols.length ∧ PT (W.next + 2) cols.length n (fun i j => tF (prC cols fa) n L j i) 25 3 s_.H r ∧ s_.H.get (W.next + 1) = some (.cells (topC (W.next + 2) cols.length L (r + 1)) 62) ∧ PR (rbA (W.next + 2) cols.length r) cols.length n ((fun i j => tF (prC cols fa) n L j i) r) 25 3 s_.H c ∧ s_.H.next = (rbA (W.next + 2) cols.length r) + 1 + c ∧ s_.H.get W.next = some (.cells [cv, I (L : Int), I fa, .fn 66 [] []] 119) ∧ Has 7 [(1, .ptr W.next 0), (3, .slice (W.next + 1) 0 L L), (13, I (L : Int)), (14, I (r : Int)), (4, I (r : Int)), (28, I (cols.length : Int)), (29, I (c : Int))] s_.T ∧ s_.D = [] ∧ Grow W s_.H) (cols.length) (by unfold loopFuel; omega)
      ⟨0, rfl, Nat.zero_le _, hPT.keep (fun b h1_ h2_ => by rw [gpo _ _ _ _ (by omega), gno _ _ _ (by omega)]), gp0 _ _ _, ⟨(by rw [gpo _ _ _ _ (by omega), ← hnx, gn0, rowC_zero G.next cols.length n]), fun j hj => absurd hj (Nat.not_lt_zero j)⟩, (by simp; omega), (by rw [gpo _ _ _ _ (by omega), gno _ _ _ (by omega)]; exact f0), Has.of (by kernel_rfl), rfl, (by (try dsimp only); repeat (first | exact hg | exact hG | apply Grow.new | (refine Grow.put ?_ _ (by first | omega | (simp only [hNw, hPt]; omega)))))⟩ ?_
    rintro nn_ ⟨T, D, G⟩ ⟨c, hn8, hc, hPT, hTop, hPR, hnx, f0, ⟨f2_, hT⟩, hD, hg⟩
    dsimp only at *
    subst hT hD
    have hgn := hg.next
    have e0 : (G.get W.next).bind AObj.cs = some [cv, I (L : Int), I fa, .fn 66 [] []] := by rw [f0]; rfl
    have et : (G.get (W.next + 1)).bind AObj.cs = some (topC (W.next + 2) cols.length L (r + 1)) := by rw [hTop]; rfl
    have hrb0 := rbA_ge (W.next + 2) cols.length r
    have hrbs := rbA_succ (W.next + 2) cols.length r
    have er : (G.get (rbA (W.next + 2) cols.length r)).bind AObj.cs = some (rowC (rbA (W.next + 2) cols.length r) cols.length n c) := by rw [hPR.row]; rfl
    refine kS ?_; refine kR ?_; refine OkO.bin rfl rfl rfl (bin_lss _ _) ?_; refine oN ?_; refine kS ?_
    refine Ok.cond rfl (fun h2 => ?_) (fun h2 => ?_)
    · have hcn : c < cols.length := by simpa using h2
      have tat : (topC (W.next + 2) cols.length L (r + 1))[0 + r * 1]? = some (.slice (rbA (W.next + 2) cols.length r) 0 cols.length cols.length) := by simpa using topC_at (K := W.next + 2) (N := cols.length) (L := L) (i := r) (Nat.lt_succ_self r) hrL
      have hcl2 : c < vs.length := by omega
      obtain ⟨cb, co, ccs, j1, j20, j3, j4⟩ := hR.at_ c [vs[c]] (by simp [hcl2])
      have j5 := seg_one j3
      have j2 : (G.get cb).bind AObj.cs = some ccs := by rw [(hE _ hg).get _ j4]; exact j20
      have hcol : ∃ col, cols[c]? = some col := ⟨_, List.getElem?_eq_getElem hcn⟩
      obtain ⟨col, hp1⟩ := hcol
      have hcln : col.length = n := hcl col (List.mem_of_getElem? hp1)
      have hlcol : lenOf vs[c] = some n := by rw [← hcln]; simpa using (hv c vs[c] col (by simp [hcl2]) hp1).len
      have hcbW : cb < W.next := by omega
      have j4G : cb < G.next := by omega
      refine Ok.skip ?_; refine kS ?_; refine Ok.block ?_; refine kS ?_; refine kR ?_; refine oM rfl rfl ?_; refine oA rfl rfl ?_; refine oN ?_; refine kS ?_; refine Ok.drawn [(0, true, []), (1, true, []), (2, true, []), (3, true, []), (4, true, []), (5, true, []), (6, true, []), (7, true, []), (8, true, []), (9, true, []), (10, true, []), (11, true, []), (12, true, [11, 10, 7, 3]), (13, true, []), (14, false, [])] (by kernel_rfl) ?_; refine pS ?_; refine oM rfl rfl ?_; refine oN ⟨rfl, ?_⟩; refine pS ?_; refine oM rfl rfl ?_; refine oN ⟨rfl, ?_⟩; refine pS ?_; refine qX (sz := 1) (n := r) rfl rfl rfl ?_; refine oN ⟨rfl, ?_⟩; refine pS ?_; refine oL rfl rfl (qla0 1) ?_; refine oN ⟨rfl, ?_⟩; refine pS ?_; refine oM rfl rfl ?_; refine oN ⟨rfl, ?_⟩; refine pS ?_; refine oF (o := 0) rfl (by kernel_rfl) rfl ?_; refine oN ⟨rfl, ?_⟩; refine pS ?_; refine oF (o := 0) rfl (by kernel_rfl) rfl ?_; refine oN ⟨rfl, ?_⟩; refine pS ?_; refine oL rfl rfl (qla0 1) ?_; refine oN ⟨rfl, ?_⟩; refine pS ?_; refine oM rfl rfl ?_; refine oN ⟨rfl, ?_⟩; refine pS ?_; refine qX (sz := 1) (n := c) rfl rfl rfl ?_; refine oN ⟨rfl, ?_⟩; refine pS ?_; refine oL rfl rfl (qla0 1) ?_; refine oN ⟨rfl, ?_⟩; refine pS ?_; refine oB rfl rfl rfl qbl ?_; refine oN ⟨rfl, ?_⟩; refine pS ?_; refine OkO.makeSlice (el := 3) (sz := 1) (z := [.int .i64 0]) (n := n) (by_ := 8) rfl (by kernel_rfl) (by kernel_rfl) (by omega) rfl rfl (by omega) ?_
      refine oN ⟨(sco (svl rfl (ecb rfl rfl qbl) rfl (eqr _ rfl)) (sco (qsa5 1 rfl rfl rfl) (sco (qsa5 1 rfl rfl rfl) (sco (qsa5 1 rfl rfl rfl) rfl)))), ?_⟩; refine pS ?_; refine qX (sz := 1) (n := c) rfl rfl rfl ?_; refine oN ⟨rfl, ?_⟩; refine pS ?_; refine oT rfl rfl rfl (sAc (n := 1) (ag := false) (l := rowC (rbA (W.next + 2) cols.length r) cols.length n (c + 1)) (by kernel_rfl) (by rw [gno _ _ _ (by omega)]; exact hPR.row) rfl rfl (by rw [show 0 + c * 1 = c from by omega]; exact (spl_at1 (by rw [rowC_len]; omega)).trans (congrArg some (by rw [hnx]; exact rowC_set _ _ _ _)))) ?_; refine oN ⟨rfl, ?_⟩; refine OkP.nil ?_; refine kS ?_; refine kR ?_; refine oF (o := 0) rfl (by kernel_rfl) rfl ?_; refine oF (o := 0) rfl (by kernel_rfl) rfl ?_; refine oL rfl rfl (qla0 1) ?_; refine oM rfl rfl ?_; refine qX (sz := 1) (n := c) rfl rfl rfl ?_; refine oL rfl rfl (qla0 1) ?_; refine oB rfl rfl rfl qbl ?_; refine oM rfl rfl ?_; refine oN ?_; refine Ok.block ?_
      refine Ok.loop (fun n7 s_ => ∃ k : Nat, n7 = n - k ∧ k ≤ n ∧ PT (W.next + 2) cols.length n (fun i j => tF (prC cols fa) n L j i) 25 3 s_.H r ∧ s_.H.get (W.next + 1) = some (.cells (topC (W.next + 2) cols.length L (r + 1)) 62) ∧ s_.H.get (rbA (W.next + 2) cols.length r) = some (.cells (rowC (rbA (W.next + 2) cols.length r) cols.length n (c + 1)) 25) ∧ (∀ j, j < c → s_.H.get ((rbA (W.next + 2) cols.length r) + 1 + j) = some (.cells (colC ((fun i j => tF (prC cols fa) n L j i) r j) n n) 3)) ∧ s_.H.get ((rbA (W.next + 2) cols.length r) + 1 + c) = some (.cells (colC ((fun i j => tF (prC cols fa) n L j i) r c) n k) 3) ∧ s_.H.next = (rbA (W.next + 2) cols.length r) + 1 + c + 1 ∧ s_.H.get W.next = some (.cells [cv, I (L : Int), I fa, .fn 66 [] []] 119) ∧ Has 7 [(1, .ptr W.next 0), (3, .slice (W.next + 1) 0 L L), (13, I (L : Int)), (14, I (r : Int)), (4, I (r : Int)), (28, I (cols.length : Int)), (29, I (c : Int)), (5, I (c : Int)), (52, I (n : Int)), (53, I (k : Int))] s_.T ∧ s_.D = [] ∧ Grow W s_.H) (n) (by unfold loopFuel; omega)
        ⟨0, rfl, Nat.zero_le _, hPT.keep (fun b h1_ h2_ => by rw [gpo _ _ _ _ (by omega), gno _ _ _ (by omega)]), (by rw [gpo _ _ _ _ (by omega), gno _ _ _ (by omega)]; exact hTop), gp0 _ _ _, (fun j hj => by rw [gpo _ _ _ _ (by omega), gno _ _ _ (by omega)]; exact hPR.cols j hj), (by rw [gpo _ _ _ _ (by omega), ← hnx, gn0, colC_zero ((fun i j => tF (prC cols fa) n L j i) r c) n]), (by simp; omega), (by rw [gpo _ _ _ _ (by omega), gno _ _ _ (by omega)]; exact f0), Has.of (by kernel_rfl), rfl, (by (try dsimp only); repeat (first | exact hg | exact hG | apply Grow.new | (refine Grow.put ?_ _ (by first | omega | (simp only [hNw, hPt]; omega)))))⟩ ?_
      rintro nn_ ⟨T, D, G⟩ ⟨k, hn7, hk, hPT, hTop, hRow, hCols, hCol, hnx, f0, ⟨f3_, hT⟩, hD, hg⟩
      dsimp only at *
      subst hT hD
      have hgn := hg.next
      have e0 : (G.get W.next).bind AObj.cs = some [cv, I (L : Int), I fa, .fn 66 [] []] := by rw [f0]; rfl
      have et : (G.get (W.next + 1)).bind AObj.cs = some (topC (W.next + 2) cols.length L (r + 1)) := by rw [hTop]; rfl
      have hrb0 := rbA_ge (W.next + 2) cols.length r
      have hrbs := rbA_succ (W.next + 2) cols.length r
      have er : (G.get (rbA (W.next + 2) cols.length r)).bind AObj.cs = some (rowC (rbA (W.next + 2) cols.length r) cols.length n (c + 1)) := by rw [hRow]; rfl
      have ec : (G.get (rbA (W.next + 2) cols.length r + 1 + c)).bind AObj.cs = some (colC ((fun i j => tF (prC cols fa) n L j i) r c) n k) := by rw [hCol]; rfl
      refine kS ?_; refine kR ?_; refine OkO.bin rfl rfl rfl (bin_lss _ _) ?_; refine oN ?_; refine kS ?_
      refine Ok.cond rfl (fun h3 => ?_) (fun h3 => ?_)
      · have hkn : k < n := by simpa using h3
        have tat : (topC (W.next + 2) cols.length L (r + 1))[0 + r * 1]? = some (.slice (rbA (W.next + 2) cols.length r) 0 cols.length cols.length) := by simpa using topC_at (K := W.next + 2) (N := cols.length) (L := L) (i := r) (Nat.lt_succ_self r) hrL
        have rat : (rowC (rbA (W.next + 2) cols.length r) cols.length n (c + 1))[0 + c * 1]? = some (.slice (rbA (W.next + 2) cols.length r + 1 + c) 0 n n) := by simpa using rowC_at (b := rbA (W.next + 2) cols.length r) (N := cols.length) (n := n) (j := c) (Nat.lt_succ_self c) hcn
        refine Ok.skip ?_; refine kS ?_; refine Ok.block ?_; refine kS ?_; refine kR ?_; refine oM rfl rfl ?_; refine oA rfl rfl ?_; refine oN ?_; refine Ok.drawn [(0, true, []), (1, true, []), (2, true, []), (3, true, []), (4, true, []), (5, true, []), (6, true, []), (7, true, []), (8, true, []), (9, true, []), (10, true, []), (11, true, []), (12, true, []), (13, true, []), (14, false, [6, 3]), (15, true, []), (16, false, [])] (by kernel_rfl) ?_; refine pS ?_; refine oM rfl rfl ?_; refine oN ⟨rfl, ?_⟩; refine pS ?_; refine oM rfl rfl ?_; refine oN ⟨rfl, ?_⟩; refine pS ?_; refine qX (sz := 1) (n := r) rfl rfl rfl ?_; refine oN ⟨rfl, ?_⟩; refine pS ?_; refine oL rfl rfl (qla0 1) ?_; refine oN ⟨rfl, ?_⟩; refine pS ?_; refine oM rfl rfl ?_; refine oN ⟨rfl, ?_⟩; refine pS ?_; refine qX (sz := 1) (n := c) rfl rfl rfl ?_; refine oN ⟨rfl, ?_⟩; refine pS ?_; refine oL rfl rfl (qla0 1) ?_; refine oN ⟨rfl, ?_⟩; refine pS ?_; refine oM rfl rfl ?_; refine oN ⟨rfl, ?_⟩; refine pS ?_; refine oL rfl rfl (qlg7 4) ?_; refine oN ⟨rfl, ?_⟩; refine pS ?_; refine oM rfl rfl ?_; refine oN ⟨rfl, ?_⟩; refine pS ?_; refine oM rfl rfl ?_; refine oN ⟨rfl, ?_⟩; refine pS ?_; refine oM rfl rfl ?_; refine oN ⟨rfl, ?_⟩; refine pS ?_; refine oM rfl rfl ?_; refine oN ⟨rfl, ?_⟩; refine pS ?_; refine OkO.build (z := [.int .i64 0, .int .i64 0]) (pl := [(0, 1), (1, 1)]) rfl (by kernel_rfl) rfl rfl ?_; refine oN ⟨rfl, ?_⟩; refine pS ?_; refine oE rfl rfl rfl rfl rfl (c100 m cv (.slice (W.next + 1) 0 L L) cols fa (fun i => tF (prC cols fa) n L (c - 1) (r - 1) i) (fun i => tF (prC cols fa) n L (c - 1) r i) r L c k n _ (hM.ext (hE _ hg)) hcl hok hf hcn hkn (by omega) (by omega) (by omega) (by omega) (fun h1_ h2_ => ⟨_, tab_at_mk hTop (hPT.rows (r - 1) (by omega)) (hPT.cols (r - 1) (c - 1) (by omega) (by omega)) (by omega) (by omega) (by omega) (by omega) (by omega) (by (have h9 := rbA_le (W.next + 2) cols.length (show r - 1 < r by omega)); omega), fun i hi => by simp [hi]⟩) (fun h1_ h2_ => ⟨_, tab_at_mk hTop hRow (hCols (c - 1) (by omega)) (by omega) hrL (by omega) (by omega) (by omega) (by omega), fun i hi => by simp [hi]⟩) (fun i => by (have h9 := tF_bd hBB n L (c - 1) (r - 1) i); omega) (fun i => by (have h9 := tF_bd hBB n L (c - 1) r i); omega) ⟨_, rfl⟩) ?_
        rintro _ H100 ⟨x, rfl, rfl, hmx⟩
        have hx := hmx.uniq (tF_most (prC cols fa) n L c r k)
        subst hx
        refine oN ⟨(sco (qsa5 1 rfl rfl rfl) (sco (qsa5 1 rfl rfl rfl) rfl)), ?_⟩; refine pS ?_; refine qX (sz := 1) (n := k) rfl rfl rfl ?_; refine oN ⟨rfl, ?_⟩; refine pS ?_; refine oT rfl rfl rfl (sAc (n := 1) (ag := false) (l := colC ((fun i j => tF (prC cols fa) n L j i) r c) n (k + 1)) (by kernel_rfl) hCol rfl rfl (by rw [show 0 + k * 1 = k from by omega]; exact (spl_at1 (by rw [colC_len]; omega)).trans (congrArg some (colC_set ((fun i j => tF (prC cols fa) n L j i) r c) n k)))) ?_; refine oN ⟨rfl, ?_⟩; refine OkP.nil ?_; refine kR ?_; refine OkO.bin rfl rfl rfl (bin_add (by omega) (by omega)) ?_; refine oM rfl rfl ?_; refine oN ?_
        refine ⟨n - (k + 1), by omega, k + 1, rfl, by omega, hPT.keep (fun b h1_ h2_ => by rw [gpo _ _ _ _ (by omega)]), (by rw [gpo _ _ _ _ (by omega)]; exact hTop), (by rw [gpo _ _ _ _ (by omega)]; exact hRow), (fun j hj => by rw [gpo _ _ _ _ (by omega)]; exact hCols j hj), gp0 _ _ _, (by simp; omega), (by rw [gpo _ _ _ _ (by omega)]; exact f0), Has.of (by kernel_rfl), rfl, hg.put _ (by omega)⟩
      · have hge3 : k = n := by (have h9 : ¬ k < n := by simpa using h3); omega
        rw [hge3] at hCol
        refine Ok.exit ?_; refine kR ?_; refine OkO.bin rfl rfl rfl (bin_add (by omega) (by omega)) ?_; refine oM rfl rfl ?_; refine oN ?_
        refine ⟨cols.length - (c + 1), by omega, c + 1, rfl, by omega, hPT, hTop, ⟨hRow, fun j hj => ?_⟩, (by show G.next = _; omega), f0, Has.of (by kernel_rfl), rfl, hg⟩
        by_cases e : j = c
        · rw [e]; exact hCol
        · exact hCols j (by omega)
    · have hge2 : c = cols.length := by (have h9 : ¬ c < cols.length := by simpa using h2); omega
      rw [hge2] at hPR
      refine Ok.exit ?_; refine kR ?_; refine OkO.bin rfl rfl rfl (bin_add (by omega) (by omega)) ?_; refine oM rfl rfl ?_; refine oN ?_
      refine ⟨L - (r + 1), by omega, r + 1, rfl, by omega, hPT.succ hPR, hTop, (by show G.next = _; omega), f0, Has.of (by kernel_rfl), rfl, hg⟩
  · have hge : r = L := by (have h9 : ¬ r < L := by simpa using h1); omega
    rw [hge] at hPT hTop hnx
    refine Ok.exit ?_; refine kS ?_; refine kR ?_; refine oM rfl rfl ?_; refine oA rfl rfl ?_; refine oN ?_
    refine Ok.ret ⟨.inr rfl, ?_⟩
    refine back_newQ rfl rfl (by rw [← hW]; exact hg) rfl (fun H9 p1 p2 p3 => ⟨p1, ?_, rfl⟩)
    have hrbL := rbA_ge (W.next + 2) cols.length L
    refine Tab.ext (tab_done hTop hPT (by omega) (by omega)) ⟨Nat.le_of_eq p3.symm, fun n _ => p2 n⟩
end
end Go.Ev

set_option maxRecDepth 100000
set_option linter.unusedSimpArgs false
set_option linter.unusedVariables false
namespace Go.Ev
open Go Go.Proofs
noncomputable section
/-- A list that was made, of things that lie in blocks of their own. -/
def FrL {β : Type} (S : β → AV → Heap → Prop) (k0 : Nat) (G : Heap) (lv : AV) (e : TypeId) (L : List β) : Prop :=
  ∃ xs : List AV, xs.length = L.length ∧ Mine k0 G lv e 1 xs ∧ ∀ (j : Nat) (x : AV) (r : β), xs[j]? = some x → L[j]? = some r → ∃ k e', k0 ≤ k ∧ e' ≤ G.next ∧ Fr k e' G (S r x) ∧ ∀ b m, lv = .opn b m → e' ≤ b
theorem FrL.nil {β : Type} (S : β → AV → Heap → Prop) (k0 : Nat) (G : Heap) (e : TypeId) : FrL S k0 G .nils e [] := ⟨[], rfl, Mine.nil _ _ _ _, fun j x r h _ => by simp at h⟩
theorem FrL.to {β : Type} {S : β → AV → Heap → Prop} {k0 : Nat} {G G' : Heap} {lv : AV} {e : TypeId} {L : List β} (h : FrL S k0 G lv e L) (g : Ext G G') : FrL S k0 G' lv e L := by
  obtain ⟨xs, h1, h2, h3⟩ := h
  refine ⟨xs, h1, h2.to g, fun j x r a c => ?_⟩
  obtain ⟨k, e', a1, a2, a3, a4⟩ := h3 j x r a c
  exact ⟨k, e', a1, Nat.le_trans a2 g.next, a3.to fun n _ h => g.get n (Nat.lt_of_lt_of_le h a2), a4⟩
theorem FrL.snoc {β : Type} {S : β → AV → Heap → Prop} {k0 : Nat} {G0 G : Heap} {lv x : AV} {e : TypeId} {L : List β} {r : β} (h : FrL S k0 G0 lv e L) (g : Ext G0 G) (hk : k0 ≤ G0.next) (hx : Fr G0.next G.next G (S r x)) : ∃ xs, Mine k0 G lv e 1 xs ∧ xs.length = L.length ∧ ∀ v2 G2 m, Mine k0 G2 v2 e 1 (xs ++ [x]) → v2 = .opn (G.next + 1) m → G2.next = G.next + 2 → (∀ j, j < G.next → (∀ m, lv ≠ .opn j m) → G2.get j = G.get j) → FrL S k0 G2 v2 e (L ++ [r]) := by
  obtain ⟨xs, h1, h2, h3⟩ := h
  have hgn := g.next
  refine ⟨xs, h2.to g, h1, fun v2 G2 m k1 k2 k3 k4 => ⟨xs ++ [x], by simp [h1], k1, fun j y s a c => ?_⟩⟩
  have hlv : ∀ b m, lv = .opn b m → b < G0.next := fun b m e => by
    rcases h2 with ⟨h, _⟩ | ⟨b', n, a1, _, _, _, a5⟩
    · rw [h] at e; cases e
    · rw [a1] at e; cases e; exact a5
  by_cases hj : j < xs.length
  · rw [List.getElem?_append_left hj] at a
    rw [List.getElem?_append_left (by omega)] at c
    obtain ⟨k, e', a1, a2, a3, a4⟩ := h3 j y s a c
    refine ⟨k, e', a1, by omega, a3.to fun q q1 q2 => ?_, fun b m e => by rw [k2] at e; cases e; omega⟩
    rw [k4 q (by omega) (fun m e => by have := a4 _ _ e; omega)]
    exact g.get q (by omega)
  · by_cases hj2 : j = xs.length
    · subst hj2
      rw [List.getElem?_append_right (Nat.le_refl _)] at a
      rw [List.getElem?_append_right (by omega), h1] at c
      simp at a c
      subst a c
      exact ⟨G0.next, G.next, hk, by omega, hx.to fun q q1 q2 => k4 q q2 (fun m e => by have := hlv _ _ e; omega), fun b m e => by rw [k2] at e; cases e; omega⟩
    · rw [List.getElem?_eq_none (by simp; omega)] at a; cases a
theorem flat_sing : ∀ vs : List AV, (vs.map fun x => [x]).flatten = vs
  | [] => rfl
  | a :: l => by rw [List.map_cons, List.flatten_cons, flat_sing l]; rfl
theorem FrL.done {β : Type} {S : β → AV → Heap → Prop} {k0 : Nat} {G : Heap} {lv : AV} {e : TypeId} {L : List β} (h : FrL S k0 G lv e L) : Fr k0 G.next G fun X => ∃ xs : List AV, Row X lv 1 (xs.map fun x => [x]) ∧ xs.length = L.length ∧ ∀ (j : Nat) x r, xs[j]? = some x → L[j]? = some r → S r x X := by
  obtain ⟨xs, h1, h2, h3⟩ := h
  intro X x1 x2
  refine ⟨xs, Mine.row (e := e) (by rw [flat_sing]; exact h2.fr X x1 x2) (fun x hx => by obtain ⟨y, _, rfl⟩ := List.mem_map.1 hx; rfl) (by omega), h1, fun j x r a c => ?_⟩
  obtain ⟨k, e', a1, a2, a3, _⟩ := h3 j x r a c
  exact a3 X (by omega) fun n n1 n2 => x2 n (by omega) (by omega)
theorem FrL.one {β : Type} {S : β → AV → Heap → Prop} {k0 : Nat} {G : Heap} {lv : AV} {e : TypeId} {L : List β} (h : FrL S k0 G lv e L) : lv.cells = [lv] ∧ lv.atom = true := by
  obtain ⟨xs, _, h2, _⟩ := h
  exact h2.one
def SI (l : List Int) (x : AV) (X : Heap) : Prop := Row X x 1 (l.map fun y => [I y])
def SC (R : List (List Int)) (x : AV) (X : Heap) : Prop := Cols X x R
theorem Cols.len {H : Heap} {v : AV} {R : List (List Int)} (h : Cols H v R) : lenOf v = some R.length := by
  obtain ⟨cvs, h1, h2, _⟩ := h
  rw [h1.len]; simp [h2]
theorem Tab.len {H : Heap} {v : AV} {T : List (List (List Int))} (h : Tab H v T) : lenOf v = some T.length := by
  obtain ⟨rvs, h1, h2, _⟩ := h
  rw [h1.len]; simp [h2]
theorem Tab.get {H : Heap} {v : AV} {T : List (List (List Int))} (h : Tab H v T) (i : Nat) (hi : i < T.length) : ∃ x b off cs, slAt v 1 i = some (b, off) ∧ (H.get b).bind AObj.cs = some cs ∧ cs[off]? = some x ∧ b < H.next ∧ Cols H x T[i] := by
  obtain ⟨rvs, h1, h2, h3⟩ := h
  have hv : i < rvs.length := by omega
  obtain ⟨b, off, cs, i1, i2, i3, i4⟩ := h1.at_ i [rvs[i]] (by simp [hv])
  exact ⟨rvs[i], b, off, cs, i1, i2, seg_one i3, i4, h3 i _ _ (List.getElem?_eq_getElem hv) (List.getElem?_eq_getElem hi)⟩
theorem Cols.get {H : Heap} {v : AV} {R : List (List Int)} (h : Cols H v R) (i : Nat) (hi : i < R.length) : ∃ x b off cs, slAt v 1 i = some (b, off) ∧ (H.get b).bind AObj.cs = some cs ∧ cs[off]? = some x ∧ b < H.next ∧ SI R[i] x H := by
  obtain ⟨rvs, h1, h2, h3⟩ := h
  have hv : i < rvs.length := by omega
  obtain ⟨b, off, cs, i1, i2, i3, i4⟩ := h1.at_ i [rvs[i]] (by simp [hv])
  exact ⟨rvs[i], b, off, cs, i1, i2, seg_one i3, i4, h3 i _ _ (List.getElem?_eq_getElem hv) (List.getElem?_eq_getElem hi)⟩
theorem c39 (m : Nat) (tv : AV) (TT : List (List (List Int))) (H : Heap) (hT : Tab H tv TT) (hTl : TT.length ≤ 100) (hT15 : ∀ R ∈ TT, R.length ≤ 100) (hT8 : ∀ R ∈ TT, ∀ l ∈ R, l.length ≤ 100) : ∃ v H', RR (m + 2) (.fn 39 [tv]) H = some (v, H') ∧ Ret H H' ∧ Tab H' v TT := by
  show ∃ v H', evFn Try.prog (RR (m + 1)) 39 [tv] H = some (v, H') ∧ Ret H H' ∧ Tab H' v TT
  refine fn_okE Try.func39 rfl rfl (by kernel_rfl) (by kernel_rfl) ?_
  obtain ⟨W, hW, hg, hN, hE, hG⟩ := wOf H
  rw [← hW]
  have hlen := hT.len
  refine kS ?_; refine kR ?_; refine oA rfl rfl ?_; refine oN ?_; refine kS ?_; refine kR ?_; refine oA rfl rfl ?_; refine oN ?_; refine kS ?_; refine kS ?_; refine kR ?_; refine oA rfl rfl ?_; refine oN ?_; refine Ok.block ?_
  refine Ok.loop (fun n9 s_ => ∃ (i : Nat) (ov : AV), n9 = TT.length - i ∧ i ≤ TT.length ∧ FrL SC W.next s_.H ov 62 (TT.take i) ∧ Has 6 [(0, tv), (3, ov), (4, I (i : Int))] s_.T ∧ s_.D = [] ∧ Grow W s_.H) (TT.length) (by unfold loopFuel; omega)
    ⟨0, .nils, rfl, Nat.zero_le _, FrL.nil _ _ _ _, Has.of (by kernel_rfl), rfl, hG⟩ ?_
  rintro nn_ ⟨T, D, G⟩ ⟨i, ov, hn9_, hi, hFO, ⟨f_, hTT⟩, hD, hg⟩
  dsimp only at *
  subst hTT hD
  skip
  obtain ⟨GA, hGA⟩ : ∃ GA : Heap, GA = G := ⟨_, rfl⟩
  subst hGA
  have hgan := hg.next
  refine kS ?_; refine kS ?_; refine kR ?_; refine oM rfl rfl ?_; refine oM rfl rfl ?_; refine oB rfl rfl rfl qbl ?_; refine OkO.bin rfl rfl rfl (bin_lss _ _) ?_; refine oN ?_
  refine Ok.cond rfl (fun h1 => ?_) (fun h1 => ?_)
  · have hlt : i < TT.length := by simpa using h1
    obtain ⟨xr, rb, ro, rcs, t1, t2, t3, t4, t5⟩ := hT.get i hlt
    have lq := t5.len
    have pxr : xr.plain = true := lpl lq
    have hRl := hT15 TT[i] (List.getElem_mem hlt)
    refine Ok.skip ?_; refine kS ?_; refine Ok.block ?_; refine kS ?_; refine kR ?_; refine oA rfl rfl ?_; refine oN ?_; refine kS ?_; refine kS ?_; refine kR ?_; refine oA rfl rfl ?_; refine oN ?_; refine Ok.block ?_
    refine Ok.loop (fun n8 s_ => ∃ (i2 : Nat) (lv : AV), n8 = TT[i].length - i2 ∧ i2 ≤ TT[i].length ∧ FrL SI GA.next s_.H lv 25 (TT[i].take i2) ∧ Ext GA s_.H ∧ Has 6 [(0, tv), (3, ov), (4, I (i : Int)), (5, lv), (6, I (i2 : Int))] s_.T ∧ s_.D = [] ∧ Grow W s_.H) (TT[i].length) (by unfold loopFuel; omega)
      ⟨0, .nils, rfl, Nat.zero_le _, FrL.nil _ _ _ _, Ext.refl _, Has.of (by kernel_rfl), rfl, hg⟩ ?_
    rintro nn_ ⟨T, D, G⟩ ⟨i2, lv, hn8_, hi2, hFL, hx6, ⟨f6_, hTT⟩, hD, hgi⟩
    dsimp only at *
    subst hTT hD
    skip
    have hx6n := hx6.next
    have hgin := hgi.next
    have t2G : (G.get rb).bind AObj.cs = some rcs := by rw [(hE _ hgi).get _ t4]; exact t2
    have t4G : rb < G.next := by omega
    refine kS ?_; refine kS ?_; refine kR ?_; refine oM rfl rfl ?_; refine oM rfl rfl ?_; refine oM rfl rfl ?_; refine qX (sz := 1) (n := i) rfl rfl rfl ?_; refine oL rfl rfl (qla0 1) ?_; refine oB rfl rfl rfl qbl ?_; refine OkO.bin rfl rfl rfl (bin_lss _ _) ?_; refine oN ?_
    refine Ok.cond rfl (fun h2 => ?_) (fun h2 => ?_)
    · have hlt2 : i2 < TT[i].length := by simpa using h2
      obtain ⟨xl, cb, co, ccs, s1, s2, s3, s4, s5⟩ := t5.get i2 hlt2
      have s2G : (G.get cb).bind AObj.cs = some ccs := by rw [(hE _ hgi).get _ s4]; exact s2
      have hll8 := hT8 TT[i] (List.getElem_mem hlt) TT[i][i2] (List.getElem_mem hlt2)
      refine Ok.skip ?_; refine kS ?_; refine Ok.block ?_; refine kR ?_; refine oM rfl rfl ?_; refine oM rfl rfl ?_; refine oM rfl rfl ?_; refine qX (sz := 1) (n := i) rfl rfl rfl ?_; refine oL rfl rfl (qla0 1) ?_; refine oM rfl rfl ?_; refine qX (sz := 1) (n := i2) rfl rfl rfl ?_; refine oL rfl rfl (qla0 1) ?_; refine oE rfl rfl rfl rfl rfl (c34 (m + 0) xl TT[i][i2] _ (s5.ext (hE _ hgi)) (by omega)) ?_
      rintro x' H34 ⟨q34, f34, o34⟩
      have g34 : Grow W H34 := Grow.ret hgi q34
      have n34 := q34.ext.next
      obtain ⟨xs8, hm8, hcl8, hsn8⟩ := FrL.snoc (r := TT[i][i2]) hFL q34.ext (by omega) (Fr.mono f34 (fun X h => h.1))
      refine OkO.buildSlice (el := 25) (sz := 1) (z := [.nils]) (cs := [x']) rfl (by kernel_rfl) (by decide) rfl (by show fillS (fun i => some (i * 1, 1)) [AV.nils] [(0, x')] = some [x']; simp [fillS, spl, o34.1]) ?_; refine OkO.builtinE rfl rfl rfl (Mine.app2 (W := W) (k0 := GA.next) (t := 62) (u := 62) (sz := 1) (by_ := 24) (e := 25) (n := 1) (new := [x']) (hm8.to (Grow.toNew _ _)) (g34.new _) (by omega) (by simp; omega) (by kernel_rfl) (by kernel_rfl) (elems_new (n := 1) (sz := 1) rfl) rfl rfl (by rw [hcl8, List.length_take]; omega) (by omega) (by omega) (by simp [atoms, o34.2.1])) ?_
      rintro l2 G2 ⟨r1, r2, r3, r4, r5, r6⟩
      obtain ⟨mm, r6⟩ := r6
      simp only [hNw] at r5 r6
      have keep : ∀ j, j < H34.next → (∀ m, lv ≠ .opn j m) → G2.get j = H34.get j := fun j hj hne => by rw [r4 j (by simp; omega) hne]; exact gno _ _ _ (by omega)
      have hnew := hsn8 l2 G2 mm r1 r6 (by omega) keep
      have hx2 : Ext GA G2 := ⟨by omega, fun j hj => by rw [r3.get j hj (by simp; omega), gno _ _ _ (by omega), q34.ext.get j (by omega)]; exact hx6.get j hj⟩
      refine oA rfl rfl ?_; refine oN ?_; refine kR ?_; refine oM rfl rfl ?_; refine OkO.bin rfl rfl rfl (bin_add (by omega) (by omega)) ?_; refine oA rfl rfl ?_; refine oN ?_
      refine ⟨TT[i].length - (i2 + 1), by omega, i2 + 1, l2, rfl, by omega, ?_, hx2, Has.of (by kernel_rfl), rfl, r2⟩
      rw [List.take_succ_eq_append_getElem hlt2]
      exact hnew
    · have hge2 : i2 = TT[i].length := by (have h9 : ¬ i2 < TT[i].length := by simpa using h2); omega
      subst hge2
      rw [List.take_length] at hFL
      obtain ⟨xs9, hm9, hcl9, hsn⟩ := FrL.snoc (r := TT[i]) hFO hx6 hgan (Fr.mono hFL.done (fun X h => h))
      have hone := hFL.one
      refine Ok.exit ?_; refine kR ?_; refine oM rfl rfl ?_; refine oM rfl rfl ?_; refine OkO.buildSlice (el := 62) (sz := 1) (z := [.nils]) (cs := [lv]) rfl (by kernel_rfl) (by decide) rfl (by show fillS (fun i => some (i * 1, 1)) [AV.nils] [(0, lv)] = some [lv]; simp [fillS, spl, hone.1]) ?_; refine OkO.builtinE rfl rfl rfl (Mine.app2 (W := W) (k0 := W.next) (t := 60) (u := 60) (sz := 1) (by_ := 24) (e := 62) (n := 1) (new := [lv]) (hm9.to (Grow.toNew _ _)) (hgi.new _) (Nat.le_refl _) (by simp; omega) (by kernel_rfl) (by kernel_rfl) (elems_new (n := 1) (sz := 1) rfl) rfl rfl (by rw [hcl9, List.length_take]; omega) (by omega) (by omega) (by simp [atoms, hone.2])) ?_
      rintro o2 G2 ⟨r1, r2, r3, r4, r5, r6⟩
      obtain ⟨mm, r6⟩ := r6
      simp only [hNw] at r5 r6
      have keep : ∀ j, j < G.next → (∀ m, ov ≠ .opn j m) → G2.get j = G.get j := fun j hj hne => by rw [r4 j (by simp; omega) hne]; exact gno _ _ _ (by omega)
      have hnew := hsn o2 G2 mm r1 r6 (by omega) keep
      refine oA rfl rfl ?_; refine oN ?_; refine kR ?_; refine oM rfl rfl ?_; refine OkO.bin rfl rfl rfl (bin_add (by omega) (by omega)) ?_; refine oA rfl rfl ?_; refine oN ?_
      refine ⟨TT.length - (i + 1), by omega, i + 1, o2, rfl, by omega, ?_, Has.of (by kernel_rfl), rfl, r2⟩
      rw [List.take_succ_eq_append_getElem hlt]
      exact hnew
  · have hge : i = TT.length := by (have h9 : ¬ i < TT.length := by simpa using h1); omega
    subst hge
    rw [List.take_length] at hFO
    refine Ok.exit ?_; refine kS ?_; refine kR ?_; refine oM rfl rfl ?_; refine oA rfl rfl ?_; refine oN ?_
    refine Ok.ret ⟨.inr rfl, ?_⟩
    refine back_newA (resV_tmp rfl resV_nil) rfl (by rw [← hW]; exact hg) (fun H9 p1 p2 => ⟨p1, ?_⟩)
    rcases p2 with ⟨hh, hf⟩ | ⟨p2, p3⟩
    · obtain ⟨xs, a1, a2, a3⟩ := hFO
      rcases a2 with ⟨e1, e2⟩ | ⟨b9, n9, e1, _⟩
      · subst e1 e2
        have hnil : TT = [] := List.eq_nil_of_length_eq_zero a1.symm
        rw [hnil]
        exact ⟨[], ⟨rfl, fun i x h => by simp at h⟩, rfl, fun i x R h _ => by simp at h⟩
      · rw [e1] at hf; cases hf
    · exact hFO.done H9 (Nat.le_of_eq p3.symm) (fun n _ _ => p2 n)
theorem c36E (m : Nat) (cv : AV) (cols : List (List Bed)) (least fa : Int) (H : Heap) (hM : Mat H cv cols) (he : reachE cols least fa ≠ 0) : RR (m + 211) (.fn 36 [.agg [cv, I least], I fa]) H = some (.tup [.nils, I (reachE cols least fa)], H) := by
  refine (R_fn _ _ _ _ _).trans ?_; refine fn_ok Try.func36 rfl rfl (by kernel_rfl) (by kernel_rfl) ?_
  obtain ⟨W, hW, hg, hN, hE, hG⟩ := wOf H
  rw [← hW]
  have pc : cv.plain = true := by obtain ⟨vs, hR, _, _⟩ := hM; exact lpl hR.len
  refine kS ?_; refine kR ?_; refine OkO.box rfl rfl ?_; refine oA rfl rfl ?_; refine oA rfl rfl ?_; refine oN ?_; refine kS ?_; refine kS ?_; refine kR ?_; refine oL rfl rfl (qlg7 2) ?_; refine oM rfl rfl ?_; refine oV rfl rfl rfl rfl rfl (c74 (m + 0) cv cols least fa _ (hM.ext (hE _ (by (try dsimp only); repeat (first | exact hG | apply Grow.new | (refine Grow.put ?_ _ (by first | omega | (simp only [hNw, hPt]; omega)))))))) ?_; refine oA rfl rfl ?_; refine oN ?_; refine kS ?_; refine kR ?_; refine oM rfl rfl ?_; refine OkO.bin rfl rfl rfl ((bin_neq _ _).trans (congrArg (fun b => some (AV.bool b)) (show _ = true from (by simpa using he)))) ?_; refine oN ?_; refine Ok.condT rfl ?_; refine kS ?_; refine kR ?_; refine oM rfl rfl ?_; refine oA rfl rfl ?_; refine oA rfl rfl ?_; refine oN ?_
  refine Ok.ret ⟨.inr rfl, ?_⟩
  exact back_flat rfl rfl rfl (by rw [← hW]; exact (by (try dsimp only); repeat (first | exact hG | apply Grow.new | (refine Grow.put ?_ _ (by first | omega | (simp only [hNw, hPt]; omega))))))
theorem c36 (m : Nat) (cv : AV) (cols : List (List Bed)) (fa : Int) (L : Nat) (H : Heap) (hM : Mat H cv cols) (hv : slOk cols (L : Int) = true) (hf : 0 ≤ fa ∧ fa ≤ 10000) (he : reachE cols (L : Int) fa = 0) : ∃ v H', RR (m + 211) (.fn 36 [.agg [cv, I (L : Int)], I fa]) H = some (v, H') ∧ ∃ tv, v = .tup [tv, I 0] ∧ Ret H H' ∧ Tab H' tv (tabL (prC cols fa) cols.length (cols.headD []).length L) := by
  show ∃ v H', evFn Try.prog (RR (m + 210)) 36 [.agg [cv, I (L : Int)], I fa] H = some (v, H') ∧ ∃ tv, v = .tup [tv, I 0] ∧ Ret H H' ∧ Tab H' tv (tabL (prC cols fa) cols.length (cols.headD []).length L)
  refine fn_okE Try.func36 rfl rfl (by kernel_rfl) (by kernel_rfl) ?_
  obtain ⟨W, hW, hg, hN, hE, hG⟩ := wOf H
  rw [← hW]
  have pc : cv.plain = true := by obtain ⟨vs, hR, _, _⟩ := hM; exact lpl hR.len
  have hsf := slOk_facts hv
  refine kS ?_; refine kR ?_; refine OkO.box rfl rfl ?_; refine oA rfl rfl ?_; refine oA rfl rfl ?_; refine oN ?_; refine kS ?_; refine kS ?_; refine kR ?_; refine oL rfl rfl (qlg7 2) ?_; refine oM rfl rfl ?_; refine oV rfl rfl rfl rfl rfl ((c74 (m + 0) cv cols (L : Int) fa _ (hM.ext (hE _ (by (try dsimp only); repeat (first | exact hG | apply Grow.new | (refine Grow.put ?_ _ (by first | omega | (simp only [hNw, hPt]; omega)))))))).trans (by rw [he])) ?_; refine oA rfl rfl ?_; refine oN ?_; refine kS ?_; refine kR ?_; refine oM rfl rfl ?_; refine OkO.bin rfl rfl rfl ((bin_neq _ _).trans (congrArg (fun b => some (AV.bool b)) (show _ = false from (by rfl)))) ?_; refine oN ?_; refine Ok.condF rfl ?_; refine Ok.skip ?_; refine kS ?_; refine kR ?_; refine oL rfl rfl (qlg7 2) ?_; refine oM rfl rfl ?_; refine OkO.build (z := [.nils, .int .i64 0, .int .i64 0, .nilf]) (pl := [(0, 2), (2, 1), (3, 1)]) rfl (by kernel_rfl) rfl rfl ?_; refine oE rfl rfl rfl rfl rfl (c75 (m + 204) cv cols fa L (cols.headD []).length _ (hM.ext (hE _ (by (try dsimp only); repeat (first | exact hG | apply Grow.new | (refine Grow.put ?_ _ (by first | omega | (simp only [hNw, hPt]; omega))))))) (lens_of hv) (bedsOk_of hv) hf (by omega) (by omega) (by omega)) ?_
  rintro tv9 Ht9 ⟨q9, t9, fl9⟩
  have n1 := q9.ext.next
  try simp only [hNw, hPt] at n1
  have gg1 : Grow W Ht9 := Grow.ret (by (try dsimp only); repeat (first | exact hG | apply Grow.new | (refine Grow.put ?_ _ (by first | omega | (simp only [hNw, hPt]; omega))))) q9
  refine oA rfl rfl ?_; refine oA rfl rfl ?_; refine oN ?_
  refine Ok.ret ⟨.inr rfl, ?_⟩
  refine back_newQ rfl rfl (by rw [← hW]; exact (by (try dsimp only); repeat (first | exact gg1 | apply Grow.new | (refine Grow.put ?_ _ (by first | omega | (simp only [hNw, hPt]; omega)))))) (by show AV.flats [tv9, I 0] = false; unfold AV.flats; rw [fl9]) (fun H9 p1 p2 p3 => ⟨tv9, rfl, p1, t9.ext ⟨Nat.le_of_eq p3.symm, fun n _ => p2 n⟩⟩)
end
end Go.Ev

set_option maxRecDepth 100000
set_option linter.unusedSimpArgs false
set_option linter.unusedVariables false
namespace Go.Ev
open Go Go.Proofs
noncomputable section
end
end Go.Ev

set_option maxRecDepth 100000
set_option linter.unusedSimpArgs false
set_option linter.unusedVariables false
namespace Go.Ev
open Go Go.Proofs
noncomputable section
section
variable {H0 : Type} {enc : TypeId × Value → H0} {w : World} {base n : Nat} {sp : Nat → Bool} {hd : Bool}
theorem cells3' : Try.prog.cellsOf 3 = 1 := by kernel_rfl
theorem cells25' : Try.prog.cellsOf 25 = 1 := by kernel_rfl
theorem cells62' : Try.prog.cellsOf 62 = 1 := by kernel_rfl
theorem ints25_open {H : Heap} (hs : Snap w H) {v : Value} {y} (h : DataW.trod enc Try.prog w base sp hd n 25 [v] = some y) : ∃ us : List Int, SI us (toAV w.heap.size v) H := by
  obtain ⟨l, hR, _, hl⟩ := hs.slice Try.underlying25 cells3' (by decide) h
  obtain ⟨us, hus, hr⟩ := choose_list (R := fun c (x : Int) => c = [.int .i64 x]) l fun c hc => by
    obtain ⟨_, n', y', hy⟩ := hl c hc
    obtain ⟨x, h1, _, _⟩ := DataW.trod_int Try.underlying3 hy
    exact ⟨x, h1⟩
  refine ⟨us, ?_⟩
  have : l.map (toAVs w.heap.size) = us.map fun n => [I n] := map_of_get (by simp [hus]) fun i x z h1 h2 => by
    rw [List.getElem?_map, Option.map_eq_some_iff] at h2
    obtain ⟨b, h3, rfl⟩ := h2
    rw [hr i x b h1 h3]
    rfl
  rwa [this] at hR
theorem cols62_open {H : Heap} (hs : Snap w H) {v : Value} {y} (h : DataW.trod enc Try.prog w base sp hd n 62 [v] = some y) : ∃ R : List (List Int), Cols H (toAV w.heap.size v) R := by
  obtain ⟨l, hR, _, hl⟩ := hs.slice Try.underlying62 cells25' (by decide) h
  obtain ⟨us, hus, hr⟩ := choose_list (R := fun c (x : AV × List Int) => toAVs w.heap.size c = [x.1] ∧ SI x.2 x.1 H) l fun c hc => by
    obtain ⟨h1, n', y', hy⟩ := hl c hc
    match c, h1 with
    | [c0], _ =>
      obtain ⟨r, hr⟩ := ints25_open hs (v := c0) hy
      exact ⟨(_, r), rfl, hr⟩
  have : l.map (toAVs w.heap.size) = (us.map (·.1)).map fun n => [n] := map_of_get (by simp [hus]) fun i x z h1 h2 => by
    rw [List.map_map, List.getElem?_map, Option.map_eq_some_iff] at h2
    obtain ⟨b, h3, rfl⟩ := h2
    exact (hr i x b h1 h3).1
  rw [this] at hR
  refine ⟨us.map (·.2), us.map (·.1), hR, by simp, fun i x r h1 h2 => ?_⟩
  rw [List.getElem?_map, Option.map_eq_some_iff] at h1 h2
  obtain ⟨b, h3, rfl⟩ := h1
  obtain ⟨b', h4, rfl⟩ := h2
  rw [h3] at h4; cases h4
  have hi : i < us.length := (List.getElem?_eq_some_iff.1 h3).1
  exact (hr i (l[i]'(by omega)) b (List.getElem?_eq_getElem (by omega)) h3).2
theorem tab60_arg {H : Heap} (hs : Snap w H) {v : Value} {d : DataW H0} {p : List MemPlace} (hv : ∃ a len cap, v = .slice a len cap) (h : DataW.Trod enc Try.prog w base sp hd 60 v d p) : ∃ (tv : AV) (TT : List (List (List Int))), argAV w.heap.size v = tv ∧ Tab H tv TT := by
  obtain ⟨a, len, cap, rfl⟩ := hv
  obtain ⟨fuel, h⟩ := h
  obtain ⟨l, hR, _, hl⟩ := hs.slice (v := .slice a len cap) Try.underlying60 cells62' (by decide) h
  obtain ⟨us, hus, hr⟩ := choose_list (R := fun c (x : AV × List (List Int)) => toAVs w.heap.size c = [x.1] ∧ Cols H x.1 x.2) l fun c hc => by
    obtain ⟨h1, n', y', hy⟩ := hl c hc
    match c, h1 with
    | [c0], _ =>
      obtain ⟨r, hr⟩ := cols62_open hs (v := c0) hy
      exact ⟨(_, r), rfl, hr⟩
  have : l.map (toAVs w.heap.size) = (us.map (·.1)).map fun n => [n] := map_of_get (by simp [hus]) fun i x z h1 h2 => by
    rw [List.map_map, List.getElem?_map, Option.map_eq_some_iff] at h2
    obtain ⟨b, h3, rfl⟩ := h2
    exact (hr i x b h1 h3).1
  rw [this] at hR
  refine ⟨toAV w.heap.size (.slice a len cap), us.map (fun z => z.2), rfl, us.map (fun z => z.1), hR, by simp, fun i x r h1 h2 => ?_⟩
  rw [List.getElem?_map, Option.map_eq_some_iff] at h1 h2
  obtain ⟨b, h3, rfl⟩ := h1
  obtain ⟨b', h4, rfl⟩ := h2
  rw [h3] at h4; cases h4
  have hi : i < us.length := (List.getElem?_eq_some_iff.1 h3).1
  exact (hr i (l[i]'(by omega)) b (List.getElem?_eq_getElem (by omega)) h3).2
end
end
end Go.Ev

set_option maxRecDepth 100000
set_option linter.unusedSimpArgs false
set_option linter.unusedVariables false
namespace Go.Ev
open Go Go.Proofs
noncomputable section
def bd15 (x : Int) : Prop := -1000000000000000 ≤ x ∧ x ≤ 1000000000000000
def colP (n : Nat) (l : List Int) : Prop := l.length = n ∧ ∀ x ∈ l, bd15 x
def rowP (N n : Nat) (R : List (List Int)) : Prop := R.length = N ∧ ∀ l ∈ R, colP n l
theorem shape_iff {N n L : Nat} {T : List (List (List Int))} : shapeB N n (L : Int) T = true ↔ T.length = L ∧ ∀ R ∈ T, rowP N n R := by
  unfold shapeB rowB numsB inB rowP colP bd15
  simp only [Bool.and_eq_true, decide_eq_true_eq, List.all_eq_true]
  constructor
  · rintro ⟨h1, h2⟩
    exact ⟨by omega, fun R hR => ⟨by have := (h2 R hR).1; omega, fun l hl => ⟨by have := ((h2 R hR).2 l hl).1; omega, fun x hx => ((h2 R hR).2 l hl).2 x hx⟩⟩⟩
  · rintro ⟨h1, h2⟩
    exact ⟨by omega, fun R hR => ⟨by have := (h2 R hR).1; omega, fun l hl => ⟨by have := ((h2 R hR).2 l hl).1; omega, fun x hx => ((h2 R hR).2 l hl).2 x hx⟩⟩⟩
theorem tab_cell {H : Heap} {tv : AV} {N n L r c : Nat} {T : List (List (List Int))} (hT : Tab H tv T) (h : shapeB N n (L : Int) T = true) (hr : r < L) (hc : c < N) : ∃ rv lv b1 o1 c1 b2 o2 c2, slAt tv 1 r = some (b1, o1) ∧ (H.get b1).bind AObj.cs = some c1 ∧ c1[o1]? = some rv ∧ b1 < H.next ∧ lenOf rv = some N ∧ slAt rv 1 c = some (b2, o2) ∧ (H.get b2).bind AObj.cs = some c2 ∧ c2[o2]? = some lv ∧ b2 < H.next ∧ lenOf lv = some n ∧ ∀ k, k < n → ∃ b3 o3 c3, slAt lv 1 k = some (b3, o3) ∧ (H.get b3).bind AObj.cs = some c3 ∧ c3[o3]? = some (I (tabF T r c k)) ∧ b3 < H.next := by
  obtain ⟨R, l, h1, h2, h3, h4, _⟩ := shape_at h hr hc
  obtain ⟨hrl, hR⟩ := List.getElem?_eq_some_iff.1 h1
  obtain ⟨hcl, hl⟩ := List.getElem?_eq_some_iff.1 h2
  obtain ⟨rv, b1, o1, c1, a1, a2, a3, a4, a5⟩ := hT.get r hrl
  rw [hR] at a5
  obtain ⟨lv, b2, o2, c2, e1, e2, e3, e4, e5⟩ := a5.get c hcl
  rw [hl] at e5
  have hRN : R.length = N := by
    have := (shape_iff.1 h).2 R (List.mem_of_getElem? h1)
    exact this.1
  refine ⟨rv, lv, b1, o1, c1, b2, o2, c2, a1, a2, a3, a4, by rw [a5.len, hRN], e1, e2, e3, e4, by have := Row.len e5; rw [List.length_map, h3] at this; exact this, fun k hk => ?_⟩
  obtain ⟨b3, o3, c3, i1, i2, i3, i4⟩ := Row.at_ e5 k [I (tabF T r c k)] (by rw [List.getElem?_map, h4 k hk]; rfl)
  exact ⟨b3, o3, c3, i1, i2, seg_one i3, i4⟩
theorem holdsR_weak (b : Bed) : holdsR b (endT false b) = weak b := rfl
theorem c79 (m : Nat) (b : Bed) (fa : Int) (H : Heap) (hok : b.ok = true) (hf : 0 ≤ fa ∧ fa ≤ 10000) : RR (m + 2) (.fn 79 [.agg b.c, I fa]) H = some (I (costOf fa b), H) := by
  refine (R_fn _ _ _ _ _).trans ?_; refine fn_ok Try.func79 rfl rfl (by kernel_rfl) (by kernel_rfl) ?_
  obtain ⟨W, hW, hg, hN, hE, hG⟩ := wOf H
  rw [← hW]
  have hwk := weak_bd hok
  have hbl := Bed.ok_lim hok
  unfold Bed.lim at hbl
  have hmb := mul_bd hf ⟨hbl.1.1, hbl.1.2⟩
  have hre := holdsR_weak b
  refine kS ?_; refine kR ?_; refine OkO.box rfl rfl ?_; refine oA rfl rfl ?_; refine oN ?_; refine kS ?_; refine Ok.drawn [(0, true, []), (1, true, []), (5, true, []), (6, true, []), (7, true, []), (8, true, []), (2, false, [7, 0]), (3, false, [7, 1]), (4, true, []), (9, true, []), (10, true, [])] (by kernel_rfl) ?_; refine pS ?_; refine oL rfl rfl (qlg7 8) ?_; refine oN ⟨rfl, ?_⟩; refine pS ?_; refine oL rfl rfl (qlg7 8) ?_; refine oN ⟨rfl, ?_⟩; refine pS ?_; refine oM rfl rfl ?_; refine oN ⟨rfl, ?_⟩; refine pS ?_; refine oF (o := 0) rfl (by kernel_rfl) rfl ?_; refine oN ⟨rfl, ?_⟩; refine pS ?_; refine oL rfl rfl (qla0 1) ?_; refine oN ⟨rfl, ?_⟩; refine pS ?_; refine OkO.bin rfl rfl rfl (bin_mul (by omega) (by omega)) ?_; refine oN ⟨rfl, ?_⟩; refine pS ?_; refine oV rfl rfl rfl rfl rfl (c87 (m + 0) b _) ?_
  refine oN ⟨(sco (qsa10 1 rfl rfl rfl) (sco (qsg11 8 rfl rfl rfl) rfl)), ?_⟩; refine pS ?_; refine oV rfl rfl rfl rfl rfl (c65 (m + 0) b (endT false b) _ (by omega) (endT_lim false hok)) ?_
  refine oN ⟨(sco (qsa10 1 rfl rfl rfl) (sco (qsg11 8 rfl rfl rfl) rfl)), ?_⟩; refine pS ?_; refine OkO.bin rfl rfl rfl (bin_mul (by omega) (by omega)) ?_; refine oN ⟨rfl, ?_⟩; refine pS ?_; refine OkO.bin rfl rfl rfl (bin_sub (by omega) (by omega)) ?_; refine oN ⟨rfl, ?_⟩; refine pS ?_; refine oA rfl rfl ?_; refine oN ⟨rfl, ?_⟩; refine OkP.nil ?_
  refine Ok.ret ⟨.inr rfl, ?_⟩
  exact back_flat rfl (by rw [holdsR_weak]; rfl) rfl (by rw [← hW]; exact (by (try dsimp only); repeat (first | exact hG | apply Grow.new | (refine Grow.put ?_ _ (by first | omega | (simp only [hNw, hPt]; omega))))))
set_option maxHeartbeats 2000000 in
theorem c41 (m : Nat) (cv tv : AV) (cols : List (List Bed)) (fa : Int) (L n : Nat) (TT : List (List (List Int))) (H : Heap) (hM : Mat H cv cols) (hcl : ∀ c ∈ cols, c.length = n) (hok : BedsOk cols) (hf : 0 ≤ fa ∧ fa ≤ 10000) (hN9 : 1 ≤ cols.length ∧ cols.length ≤ 100) (hn9 : n ≤ 100) (hL9 : 1 ≤ L ∧ L ≤ 100) (hT : Tab H tv TT) : ∃ v H', RR (m + 3) (.fn 41 [.agg [cv, I (L : Int)], I fa, tv]) H = some (v, H') ∧ ∃ bb : Bool, v = .bool bb ∧ H' = H ∧ (bb = true ↔ shapeB cols.length n (L : Int) TT = true ∧ TabP (prC cols fa) (tabF TT) cols.length n L) := by
  show ∃ v H', evFn Try.prog (RR (m + 2)) 41 [.agg [cv, I (L : Int)], I fa, tv] H = some (v, H') ∧ ∃ bb : Bool, v = .bool bb ∧ H' = H ∧ (bb = true ↔ shapeB cols.length n (L : Int) TT = true ∧ TabP (prC cols fa) (tabF TT) cols.length n L)
  refine fn_okE Try.func41 rfl rfl (by kernel_rfl) (by kernel_rfl) ?_
  obtain ⟨W, hW, hg, hN, hE, hG⟩ := wOf H
  rw [← hW]
  obtain ⟨vs, hR, hvl, hv⟩ := id hM
  have hlen : lenOf cv = some cols.length := by rw [← hvl]; simpa using hR.len
  have pc : cv.plain = true := lpl hlen
  have hlT := hT.len
  have ptv : tv.plain = true := lpl hlT
  have hBB := prC_bd hok hf
  refine kS ?_; refine kR ?_; refine OkO.box rfl rfl ?_; refine oA rfl rfl ?_; refine oN ?_; refine kS ?_; refine kS ?_; refine kR ?_; refine oM rfl rfl ?_; refine oB rfl rfl rfl qbl ?_; refine oF (o := 1) rfl (by kernel_rfl) rfl ?_; refine oL rfl rfl (qla0 1) ?_; refine OkO.bin rfl rfl rfl (bin_neq _ _) ?_; refine oN ?_
  refine Ok.cond rfl (fun h1 => ?_) (fun h1 => ?_)
  · have f1x : (TT.length : Int) ≠ (L : Int) := by simpa using h1
    refine kS ?_; refine kR ?_; refine oA rfl rfl ?_; refine oN ?_
    refine Ok.ret ⟨.inr rfl, ?_⟩
    exact ⟨_, _, back_flat rfl rfl rfl (by rw [← hW]; exact (by (try dsimp only); repeat (first | exact hG | apply Grow.new | (refine Grow.put ?_ _ (by first | omega | (simp only [hNw, hPt]; omega)))))), false, rfl, rfl, ⟨(fun h => absurd h (by decide)), (fun h => False.elim (by (have h9 := (shape_iff.1 h.1).1; omega)))⟩⟩
  · have f1x : (TT.length : Int) = (L : Int) := by simpa using h1
    have hTL : TT.length = L := by omega
    have hv0 : 0 < vs.length := by omega
    obtain ⟨cb0, co0, ccs0, j01, j02, j03, j04⟩ := hR.at_ 0 [vs[0]] (by simp [hv0])
    have j05 := seg_one j03
    have j0W : (W.get cb0).bind AObj.cs = some ccs0 := by rw [hg]; exact j02
    have j0n : cb0 < W.next := by omega
    have hc0_ : 0 < cols.length := by omega
    have hl0 : lenOf vs[0] = some n := by (have h9 := (hv 0 vs[0] cols[0] (by simp [hv0]) (by simp [hc0_])).len); rw [List.length_map, hcl cols[0] (List.getElem_mem hc0_)] at h9; exact h9
    refine Ok.skip ?_; refine kS ?_; refine kR ?_; refine oF (o := 0) rfl (by kernel_rfl) rfl ?_; refine oL rfl rfl (qla0 1) ?_; refine qX (sz := 1) rfl rfl rfl ?_; refine oL rfl rfl (qla0 1) ?_; refine oB rfl rfl rfl qbl ?_; refine oA rfl rfl ?_; refine oN ?_; refine kS ?_; refine kS ?_; refine kR ?_; refine oA rfl rfl ?_; refine oN ?_; refine Ok.block ?_
    obtain ⟨G6, hG6⟩ : ∃ G6, G6 = W.new (.cells [cv, I (L : Int)] 24) := ⟨_, rfl⟩
    have e6 : (G6.get W.next).bind AObj.cs = some [cv, I (L : Int)] := by rw [hG6, gn0]; rfl
    have g6 : Grow W G6 := by rw [hG6]; exact hG.new _
    have hT6 := hT.ext (hE _ g6)
    refine Ok.loop (fun n9 s_ => ∃ i : Nat, n9 = L - i ∧ i ≤ L ∧ (∀ R ∈ TT.take i, rowP cols.length n R) ∧ Has 8 [(1, I fa), (2, tv), (3, .ptr W.next 0), (7, I (n : Int)), (8, I (i : Int))] s_.T ∧ s_.D = [] ∧ G6 = s_.H) (L) (by unfold loopFuel; omega)
      ⟨0, rfl, Nat.zero_le _, (fun R h => absurd h (by simp)), Has.of (by kernel_rfl), rfl, hG6⟩ ?_
    rintro nn_ ⟨T, D, G⟩ ⟨i, hn0_, hi, hOK, ⟨f0_, hTT⟩, hD, hgE⟩
    dsimp only at *
    subst hTT hD
    skip
    subst hgE
    refine kS ?_; refine kS ?_; refine kR ?_; refine oM rfl rfl ?_; refine oF (o := 1) rfl (by kernel_rfl) rfl ?_; refine oL rfl rfl (qla0 1) ?_; refine OkO.bin rfl rfl rfl (bin_lss _ _) ?_; refine oN ?_
    refine Ok.cond rfl (fun h2 => ?_) (fun h2 => ?_)
    · have f2x : i < L := by simpa using h2
      have hlt : i < TT.length := by omega
      obtain ⟨xr, rb, ro, rcs, t1, t2, t3, t4, t5⟩ := hT6.get i hlt
      have lq := t5.len
      have pxr : xr.plain = true := lpl lq
      refine Ok.skip ?_; refine kS ?_; refine Ok.block ?_; refine kS ?_; refine kS ?_; refine Ok.drawn [(0, true, []), (1, true, []), (2, true, []), (3, true, []), (4, true, []), (5, true, []), (6, true, []), (7, true, []), (8, true, [])] (by kernel_rfl) ?_; refine pS ?_; refine oM rfl rfl ?_; refine oN ⟨rfl, ?_⟩; refine pS ?_; refine oM rfl rfl ?_; refine oN ⟨rfl, ?_⟩; refine pS ?_; refine qX (sz := 1) (n := i) rfl rfl rfl ?_; refine oN ⟨rfl, ?_⟩; refine pS ?_; refine oL rfl rfl (qla0 1) ?_; refine oN ⟨rfl, ?_⟩; refine pS ?_; refine oB rfl rfl rfl qbl ?_; refine oN ⟨rfl, ?_⟩; refine pS ?_; refine oF (o := 0) rfl (by kernel_rfl) rfl ?_; refine oN ⟨rfl, ?_⟩; refine pS ?_; refine oL rfl rfl (qla0 1) ?_; refine oN ⟨rfl, ?_⟩; refine pS ?_; refine oB rfl rfl rfl qbl ?_; refine oN ⟨rfl, ?_⟩; refine pS ?_; refine OkO.bin rfl rfl rfl (bin_neq _ _) ?_; refine oN ⟨rfl, ?_⟩; refine OkP.nil ?_
      refine Ok.cond rfl (fun h3 => ?_) (fun h3 => ?_)
      · have f3x : ((TT[i].length : Nat) : Int) ≠ (cols.length : Int) := by simpa using h3
        refine kS ?_; refine kR ?_; refine oA rfl rfl ?_; refine oN ?_
        refine Ok.ret ⟨.inr rfl, ?_⟩
        exact ⟨_, _, back_flat rfl rfl rfl (by rw [← hW]; exact g6), false, rfl, rfl, ⟨(fun h => absurd h (by decide)), (fun h => False.elim (by (have h9 := ((shape_iff.1 h.1).2 TT[i] (List.getElem_mem hlt)).1; omega)))⟩⟩
      · have f3x : ((TT[i].length : Nat) : Int) = (cols.length : Int) := by simpa using h3
        have hRl : TT[i].length = cols.length := by omega
        refine Ok.skip ?_; refine kS ?_; refine kR ?_; refine oA rfl rfl ?_; refine oN ?_; refine Ok.block ?_
        refine Ok.loop (fun n9 s_ => ∃ j : Nat, n9 = cols.length - j ∧ j ≤ cols.length ∧ (∀ l ∈ (TT[i]'hlt).take j, colP n l) ∧ Has 8 [(1, I fa), (2, tv), (3, .ptr W.next 0), (7, I (n : Int)), (8, I (i : Int)), (9, I (j : Int))] s_.T ∧ s_.D = [] ∧ G6 = s_.H) (cols.length) (by unfold loopFuel; omega)
          ⟨0, rfl, Nat.zero_le _, (fun l h => absurd h (by simp)), Has.of (by kernel_rfl), rfl, rfl⟩ ?_
        rintro nn_ ⟨T, D, G⟩ ⟨j, hn2_, hj, hOKj, ⟨f2_, hTT⟩, hD, hgE⟩
        dsimp only at *
        subst hTT hD
        skip
        subst hgE
        refine kS ?_; refine kS ?_; refine kR ?_; refine oM rfl rfl ?_; refine oF (o := 0) rfl (by kernel_rfl) rfl ?_; refine oL rfl rfl (qla0 1) ?_; refine oB rfl rfl rfl qbl ?_; refine OkO.bin rfl rfl rfl (bin_lss _ _) ?_; refine oN ?_
        refine Ok.cond rfl (fun h4 => ?_) (fun h4 => ?_)
        · have f4x : j < cols.length := by simpa using h4
          have hlt2 : j < TT[i].length := by omega
          obtain ⟨xl, cb, co, ccs, s1, s2, s3, s4, s5⟩ := t5.get j hlt2
          have lq2 := Row.len s5
          rw [List.length_map] at lq2
          have pxl : xl.plain = true := lpl lq2
          refine Ok.skip ?_; refine kS ?_; refine Ok.block ?_; refine kS ?_; refine kS ?_; refine kR ?_; refine oM rfl rfl ?_; refine oM rfl rfl ?_; refine qX (sz := 1) (n := i) rfl rfl rfl ?_; refine oL rfl rfl (qla0 1) ?_; refine oM rfl rfl ?_; refine qX (sz := 1) (n := j) rfl rfl rfl ?_; refine oL rfl rfl (qla0 1) ?_; refine oB rfl rfl rfl qbl ?_; refine oM rfl rfl ?_; refine OkO.bin rfl rfl rfl (bin_neq _ _) ?_; refine oN ?_
          refine Ok.cond rfl (fun h5 => ?_) (fun h5 => ?_)
          · have f5x : ((TT[i][j].length : Nat) : Int) ≠ (n : Int) := by simpa using h5
            refine kS ?_; refine kR ?_; refine oA rfl rfl ?_; refine oN ?_
            refine Ok.ret ⟨.inr rfl, ?_⟩
            exact ⟨_, _, back_flat rfl rfl rfl (by rw [← hW]; exact g6), false, rfl, rfl, ⟨(fun h => absurd h (by decide)), (fun h => False.elim (by (have h9 := (((shape_iff.1 h.1).2 TT[i] (List.getElem_mem hlt)).2 TT[i][j] (List.getElem_mem hlt2)).1; omega)))⟩⟩
          · have f5x : ((TT[i][j].length : Nat) : Int) = (n : Int) := by simpa using h5
            have hll : TT[i][j].length = n := by omega
            refine Ok.skip ?_; refine kS ?_; refine kR ?_; refine oA rfl rfl ?_; refine oN ?_; refine Ok.block ?_
            refine Ok.loop (fun n9 s_ => ∃ k : Nat, n9 = n - k ∧ k ≤ n ∧ (∀ x ∈ ((TT[i]'hlt)[j]'hlt2).take k, bd15 x) ∧ Has 8 [(1, I fa), (2, tv), (3, .ptr W.next 0), (7, I (n : Int)), (8, I (i : Int)), (9, I (j : Int)), (10, I (k : Int))] s_.T ∧ s_.D = [] ∧ G6 = s_.H) (n) (by unfold loopFuel; omega)
              ⟨0, rfl, Nat.zero_le _, (fun x h => absurd h (by simp)), Has.of (by kernel_rfl), rfl, rfl⟩ ?_
            rintro nn_ ⟨T, D, G⟩ ⟨k, hn4_, hk, hOKk, ⟨f4_, hTT⟩, hD, hgE⟩
            dsimp only at *
            subst hTT hD
            skip
            subst hgE
            refine kS ?_; refine kS ?_; refine kR ?_; refine oM rfl rfl ?_; refine oM rfl rfl ?_; refine OkO.bin rfl rfl rfl (bin_lss _ _) ?_; refine oN ?_
            refine Ok.cond rfl (fun h6 => ?_) (fun h6 => ?_)
            · have f6x : k < n := by simpa using h6
              have hlt4 : k < TT[i][j].length := by omega
              obtain ⟨eb, eo, ecs, u1, u2, u3, u4⟩ := Row.at_ s5 k [I TT[i][j][k]] (by simp [hlt4])
              have u5 := seg_one u3
              refine Ok.skip ?_; refine kS ?_; refine Ok.block ?_; refine kS ?_; refine kR ?_; refine oM rfl rfl ?_; refine oM rfl rfl ?_; refine qX (sz := 1) (n := i) rfl rfl rfl ?_; refine oL rfl rfl (qla0 1) ?_; refine oM rfl rfl ?_; refine qX (sz := 1) (n := j) rfl rfl rfl ?_; refine oL rfl rfl (qla0 1) ?_; refine oM rfl rfl ?_; refine qX (sz := 1) (n := k) rfl rfl rfl ?_; refine oL rfl rfl (qla0 1) ?_; refine oV rfl rfl rfl rfl rfl (c37 (m + 1) _ _ _ _) ?_; refine OkO.un rfl rfl rfl ?_; refine oN ?_
              refine Ok.cond rfl (fun h7 => ?_) (fun h7 => ?_)
              · have f7x : inB TT[i][j][k] (-1000000000000000) 1000000000000000 = false := by simpa using h7
                have f7y : ¬ (-1000000000000000 ≤ TT[i][j][k] ∧ TT[i][j][k] ≤ 1000000000000000) := fun h9 => by rw [show inB TT[i][j][k] (-1000000000000000) 1000000000000000 = true from by simp [inB]; exact h9] at f7x; cases f7x
                refine kS ?_; refine kR ?_; refine oA rfl rfl ?_; refine oN ?_
                refine Ok.ret ⟨.inr rfl, ?_⟩
                exact ⟨_, _, back_flat rfl rfl rfl (by rw [← hW]; exact g6), false, rfl, rfl, ⟨(fun h => absurd h (by decide)), (fun h => False.elim (by (exact f7y ((((shape_iff.1 h.1).2 TT[i] (List.getElem_mem hlt)).2 TT[i][j] (List.getElem_mem hlt2)).2 _ (List.getElem_mem hlt4)))))⟩⟩
              · have f7x : inB TT[i][j][k] (-1000000000000000) 1000000000000000 = true := by simpa using h7
                have hbd : bd15 TT[i][j][k] := by (unfold bd15; unfold inB at f7x; rw [Bool.and_eq_true, decide_eq_true_eq, decide_eq_true_eq] at f7x; exact f7x)
                refine Ok.skip ?_; refine kR ?_; refine oM rfl rfl ?_; refine OkO.bin rfl rfl rfl (bin_add (by omega) (by omega)) ?_; refine oA rfl rfl ?_; refine oN ?_
                refine ⟨n - (k + 1), by omega, k + 1, rfl, by omega, fun x hx => ?_, Has.of (by kernel_rfl), rfl, rfl⟩
                rw [List.take_succ_eq_append_getElem hlt4, List.mem_append, List.mem_singleton] at hx
                rcases hx with hx | hx
                · exact hOKk x hx
                · rw [hx]; exact hbd
            · have f6x : ¬ (k < n) := by simpa using h6
              have hkn9 : k = TT[i][j].length := by omega
              rw [hkn9, List.take_length] at hOKk
              refine Ok.exit ?_; refine kR ?_; refine oM rfl rfl ?_; refine OkO.bin rfl rfl rfl (bin_add (by omega) (by omega)) ?_; refine oA rfl rfl ?_; refine oN ?_
              refine ⟨cols.length - (j + 1), by omega, j + 1, rfl, by omega, fun l hl => ?_, Has.of (by kernel_rfl), rfl, rfl⟩
              rw [List.take_succ_eq_append_getElem hlt2, List.mem_append, List.mem_singleton] at hl
              rcases hl with hl | hl
              · exact hOKj l hl
              · rw [hl]; exact ⟨hll, hOKk⟩
        · have f4x : ¬ (j < cols.length) := by simpa using h4
          have hjN : j = TT[i].length := by omega
          rw [hjN, List.take_length] at hOKj
          refine Ok.exit ?_; refine kR ?_; refine oM rfl rfl ?_; refine OkO.bin rfl rfl rfl (bin_add (by omega) (by omega)) ?_; refine oA rfl rfl ?_; refine oN ?_
          refine ⟨L - (i + 1), by omega, i + 1, rfl, by omega, fun R hR => ?_, Has.of (by kernel_rfl), rfl, rfl⟩
          rw [List.take_succ_eq_append_getElem hlt, List.mem_append, List.mem_singleton] at hR
          rcases hR with hR | hR
          · exact hOK R hR
          · rw [hR]; exact ⟨hRl, hOKj⟩
    · have f2x : ¬ (i < L) := by simpa using h2
      have hiL : i = TT.length := by omega
      rw [hiL, List.take_length] at hOK
      have hsh : shapeB cols.length n (L : Int) TT = true := shape_iff.2 ⟨hTL, hOK⟩
      refine Ok.exit ?_; refine kS ?_; refine kS ?_; refine kR ?_; refine oA rfl rfl ?_; refine oN ?_; refine Ok.block ?_
      refine Ok.loop (fun n9 s_ => ∃ r : Nat, n9 = L - r ∧ r ≤ L ∧ (∀ r1 c k, r1 < r → c < cols.length → k < n → PlaceP (prC cols fa) (tabF TT) L n r1 c k) ∧ Has 8 [(1, I fa), (2, tv), (3, .ptr W.next 0), (7, I (n : Int)), (11, I (r : Int))] s_.T ∧ s_.D = [] ∧ G6 = s_.H) (L) (by unfold loopFuel; omega)
        ⟨0, rfl, Nat.zero_le _, (fun r1 _ _ h => absurd h (Nat.not_lt_zero r1)), Has.of (by kernel_rfl), rfl, rfl⟩ ?_
      rintro nn_ ⟨T, D, G⟩ ⟨r, hn6_, hr, hPr, ⟨f6_, hTT⟩, hD, hgE⟩
      dsimp only at *
      subst hTT hD
      skip
      subst hgE
      refine kS ?_; refine kS ?_; refine kR ?_; refine oM rfl rfl ?_; refine oF (o := 1) rfl (by kernel_rfl) rfl ?_; refine oL rfl rfl (qla0 1) ?_; refine OkO.bin rfl rfl rfl (bin_lss _ _) ?_; refine oN ?_
      refine Ok.cond rfl (fun h8 => ?_) (fun h8 => ?_)
      · have f8x : r < L := by simpa using h8
        refine Ok.skip ?_; refine kS ?_; refine Ok.block ?_; refine kS ?_; refine kR ?_; refine oA rfl rfl ?_; refine oN ?_; refine Ok.block ?_
        refine Ok.loop (fun n9 s_ => ∃ c : Nat, n9 = cols.length - c ∧ c ≤ cols.length ∧ (∀ c1 k, c1 < c → k < n → PlaceP (prC cols fa) (tabF TT) L n r c1 k) ∧ Has 8 [(1, I fa), (2, tv), (3, .ptr W.next 0), (7, I (n : Int)), (11, I (r : Int)), (12, I (c : Int))] s_.T ∧ s_.D = [] ∧ G6 = s_.H) (cols.length) (by unfold loopFuel; omega)
          ⟨0, rfl, Nat.zero_le _, (fun c1 _ h => absurd h (Nat.not_lt_zero c1)), Has.of (by kernel_rfl), rfl, rfl⟩ ?_
        rintro nn_ ⟨T, D, G⟩ ⟨c, hn8_, hc, hPc, ⟨f8_, hTT⟩, hD, hgE⟩
        dsimp only at *
        subst hTT hD
        skip
        subst hgE
        refine kS ?_; refine kS ?_; refine kR ?_; refine oM rfl rfl ?_; refine oF (o := 0) rfl (by kernel_rfl) rfl ?_; refine oL rfl rfl (qla0 1) ?_; refine oB rfl rfl rfl qbl ?_; refine OkO.bin rfl rfl rfl (bin_lss _ _) ?_; refine oN ?_
        refine Ok.cond rfl (fun h9 => ?_) (fun h9 => ?_)
        · have f9x : c < cols.length := by simpa using h9
          refine Ok.skip ?_; refine kS ?_; refine Ok.block ?_; refine kS ?_; refine kR ?_; refine oA rfl rfl ?_; refine oN ?_; refine Ok.block ?_
          refine Ok.loop (fun n9 s_ => ∃ k : Nat, n9 = n - k ∧ k ≤ n ∧ (∀ k1, k1 < k → PlaceP (prC cols fa) (tabF TT) L n r c k1) ∧ Has 8 [(1, I fa), (2, tv), (3, .ptr W.next 0), (7, I (n : Int)), (11, I (r : Int)), (12, I (c : Int)), (13, I (k : Int))] s_.T ∧ s_.D = [] ∧ G6 = s_.H) (n) (by unfold loopFuel; omega)
            ⟨0, rfl, Nat.zero_le _, (fun k1 h => absurd h (Nat.not_lt_zero k1)), Has.of (by kernel_rfl), rfl, rfl⟩ ?_
          rintro nn_ ⟨T, D, G⟩ ⟨k, hn10_, hk, hPk, ⟨f10_, hTT⟩, hD, hgE⟩
          dsimp only at *
          subst hTT hD
          skip
          subst hgE
          refine kS ?_; refine kS ?_; refine kR ?_; refine oM rfl rfl ?_; refine oM rfl rfl ?_; refine OkO.bin rfl rfl rfl (bin_lss _ _) ?_; refine oN ?_
          refine Ok.cond rfl (fun h10 => ?_) (fun h10 => ?_)
          · have f10x : k < n := by simpa using h10
            obtain ⟨rv, lv, b1, o1, c1, b2, o2, c2, a1, a2, a3, a4, a5, d1, d2, d3, d4, d5, hcell⟩ := tab_cell hT6 hsh f8x f9x
            obtain ⟨b3, o3, c3, i1, i2_, i3, i4⟩ := hcell k f10x
            have hcl2 : c < vs.length := by omega
            obtain ⟨kb, ko, kcs, j1, j20, j3, j4⟩ := hR.at_ c [vs[c]] (by simp [hcl2])
            have j5 := seg_one j3
            have j2 : (G6.get kb).bind AObj.cs = some kcs := by rw [(hE _ g6).get _ j4]; exact j20
            obtain ⟨col, hp1, hp2⟩ := bedAt_get hcl f9x f10x
            have lvc := (hv c vs[c] col (by simp [hcl2]) hp1).len
            obtain ⟨mb, mo, mcs, m1, m20, m3, m4⟩ := (hv c vs[c] col (by simp [hcl2]) hp1).at_ k (bedAt cols c k).c (by rw [List.getElem?_map, hp2]; rfl)
            have m2 : (G6.get mb).bind AObj.cs = some mcs := by rw [(hE _ g6).get _ m4]; exact m20
            have htb := tabF_bd hsh f8x f9x f10x
            have hcb := hBB c k
            refine Ok.skip ?_; refine kS ?_; refine Ok.block ?_; refine kS ?_; refine Ok.drawn [(0, true, []), (1, true, []), (2, true, []), (3, true, []), (4, true, []), (5, true, []), (6, true, []), (7, true, []), (8, true, []), (9, true, []), (10, true, []), (11, true, []), (12, true, []), (13, true, []), (14, true, []), (15, true, []), (16, true, []), (17, true, []), (18, true, []), (19, false, [14, 11, 9, 6, 3]), (20, true, []), (21, true, [])] (by kernel_rfl) ?_; refine pS ?_; refine oM rfl rfl ?_; refine oN ⟨rfl, ?_⟩; refine pS ?_; refine oM rfl rfl ?_; refine oN ⟨rfl, ?_⟩; refine pS ?_; refine qX (sz := 1) (n := r) rfl rfl rfl ?_; refine oN ⟨rfl, ?_⟩; refine pS ?_; refine oL rfl rfl (qla0 1) ?_; refine oN ⟨rfl, ?_⟩; refine pS ?_; refine oM rfl rfl ?_; refine oN ⟨rfl, ?_⟩; refine pS ?_; refine qX (sz := 1) (n := c) rfl rfl rfl ?_; refine oN ⟨rfl, ?_⟩; refine pS ?_; refine oL rfl rfl (qla0 1) ?_; refine oN ⟨rfl, ?_⟩; refine pS ?_; refine oM rfl rfl ?_; refine oN ⟨rfl, ?_⟩; refine pS ?_; refine qX (sz := 1) (n := k) rfl rfl rfl ?_; refine oN ⟨rfl, ?_⟩; refine pS ?_; refine oL rfl rfl (qla0 1) ?_; refine oN ⟨rfl, ?_⟩; refine pS ?_; refine oF (o := 0) rfl (by kernel_rfl) rfl ?_; refine oN ⟨rfl, ?_⟩; refine pS ?_; refine oL rfl rfl (qla0 1) ?_; refine oN ⟨rfl, ?_⟩; refine pS ?_; refine oM rfl rfl ?_; refine oN ⟨rfl, ?_⟩; refine pS ?_; refine qX (sz := 1) (n := c) rfl rfl rfl ?_; refine oN ⟨rfl, ?_⟩; refine pS ?_; refine oL rfl rfl (qla0 1) ?_; refine oN ⟨rfl, ?_⟩; refine pS ?_; refine oM rfl rfl ?_; refine oN ⟨rfl, ?_⟩; refine pS ?_; refine qX (sz := 8) (n := k) rfl rfl rfl ?_; refine oN ⟨rfl, ?_⟩; refine pS ?_; refine oL rfl rfl (qlg7 8) ?_; refine oN ⟨rfl, ?_⟩; refine pS ?_; refine oM rfl rfl ?_; refine oN ⟨rfl, ?_⟩; refine pS ?_; refine oV rfl rfl rfl rfl rfl (c79 (m + 0) (bedAt cols c k) fa _ (bedAt_ok hok c k) hf) ?_
            refine oN ⟨(sco (qsa12 1 rfl rfl rfl) (sco (qsa12 1 rfl rfl rfl) (sco (qsa12 1 rfl rfl rfl) (sco (qsa12 1 rfl rfl rfl) (sco (qsa12 1 rfl rfl rfl) rfl))))), ?_⟩; refine pS ?_; refine oA rfl rfl ?_; refine oN ⟨rfl, ?_⟩; refine pS ?_; refine oA rfl rfl ?_; refine oN ⟨rfl, ?_⟩; refine OkP.nil ?_; refine kS ?_; refine Ok.join (fun s => ∃ bb : Bool, (bb = true ↔ ((r = 0 ∧ prC cols fa c k < tabF TT r c k) ∨ (r + 1 = L ∧ L ≤ c + 1 ∧ tabF TT r c k < 0))) ∧ Has 8 [(1, I fa), (2, tv), (3, .ptr W.next 0), (7, I (n : Int)), (11, I (r : Int)), (12, I (c : Int)), (13, I (k : Int)), (14, I (tabF TT r c k)), (15, I (prC cols fa c k)), (138, .bool bb)] s.T ∧ s.D = [] ∧ G6 = s.H) ?_ ?_
            · refine kR ?_
              refine oM rfl rfl ?_; refine OkO.bin rfl rfl rfl (bin_eql _ _) ?_; refine oM rfl rfl ?_
              refine OkO.split (d := 116) rfl (fun g11 => ?_) (fun g11 => ?_)
              · have f11x : (r : Int) = 0 := of_decide_eq_true g11
                refine oM rfl rfl ?_; refine oM rfl rfl ?_; refine OkO.bin rfl rfl rfl (bin_gtr _ _) ?_; refine OkO.pick (b := true) rfl rfl (fun _ => rfl) nofun ?_; refine oM rfl rfl ?_
                refine OkO.split (d := 121) rfl (fun g12 => ?_) (fun g12 => ?_)
                · have f12x : prC cols fa c k < tabF TT r c k := of_decide_eq_true g12
                  refine oK rfl ?_; refine oK rfl ?_; refine oK rfl ?_; refine oK rfl ?_; refine oK rfl ?_; refine oK rfl ?_; refine oK rfl ?_; refine oK rfl ?_; refine oK rfl ?_; refine oK rfl ?_; refine oK rfl ?_; refine oK rfl ?_; refine oK rfl ?_; refine oK rfl ?_; refine oK rfl ?_; refine oK rfl ?_; refine OkO.pick (b := true) rfl rfl (fun _ => rfl) nofun ?_; refine oN ?_
                  refine ⟨rfl, true, ?_, Has.of (by kernel_rfl), rfl, rfl⟩
                  exact ⟨fun _ => by omega, fun _ => rfl⟩
                · have f12x : ¬ (prC cols fa c k < tabF TT r c k) := of_decide_eq_false g12
                  refine oM rfl rfl ?_; refine oF (o := 1) rfl (by kernel_rfl) rfl ?_; refine oL rfl rfl (qla0 1) ?_; refine OkO.bin rfl rfl rfl (bin_sub (by omega) (by omega)) ?_; refine OkO.bin rfl rfl rfl (bin_eql _ _) ?_; refine oM rfl rfl ?_
                  refine OkO.split (d := 127) rfl (fun g13 => ?_) (fun g13 => ?_)
                  · have f13x : (r : Int) = (L : Int) - 1 := of_decide_eq_true g13
                    refine oM rfl rfl ?_; refine oF (o := 1) rfl (by kernel_rfl) rfl ?_; refine oL rfl rfl (qla0 1) ?_; refine OkO.bin rfl rfl rfl (bin_sub (by omega) (by omega)) ?_; refine OkO.bin rfl rfl rfl (bin_geq _ _) ?_; refine OkO.pick (b := true) rfl rfl (fun _ => rfl) nofun ?_; refine oM rfl rfl ?_
                    refine OkO.split (d := 134) rfl (fun g14 => ?_) (fun g14 => ?_)
                    · have f14x : (L : Int) - 1 ≤ (c : Int) := of_decide_eq_true g14
                      refine oM rfl rfl ?_; refine OkO.bin rfl rfl rfl (bin_lss _ _) ?_; refine OkO.pick (b := true) rfl rfl (fun _ => rfl) nofun ?_; refine OkO.pick (b := false) rfl rfl nofun (fun _ => rfl) ?_; refine oN ?_
                      refine ⟨rfl, (decide (tabF TT r c k < 0)), ?_, Has.of (by kernel_rfl), rfl, rfl⟩
                      rw [decide_eq_true_eq]; constructor <;> intro h9_ <;> omega
                    · have f14x : ¬ ((L : Int) - 1 ≤ (c : Int)) := of_decide_eq_false g14
                      refine oK rfl ?_; refine oK rfl ?_; refine OkO.pick (b := false) rfl rfl nofun (fun _ => rfl) ?_; refine OkO.pick (b := false) rfl rfl nofun (fun _ => rfl) ?_; refine oN ?_
                      refine ⟨rfl, false, ?_, Has.of (by kernel_rfl), rfl, rfl⟩
                      exact ⟨fun h9_ => absurd h9_ (by decide), fun h9_ => by omega⟩
                  · have f13x : ¬ ((r : Int) = (L : Int) - 1) := of_decide_eq_false g13
                    refine oK rfl ?_; refine oK rfl ?_; refine oK rfl ?_; refine oK rfl ?_; refine oK rfl ?_; refine OkO.pick (b := false) rfl rfl nofun (fun _ => rfl) ?_; refine oM rfl rfl ?_; refine oK rfl ?_; refine oK rfl ?_; refine OkO.pick (b := false) rfl rfl nofun (fun _ => rfl) ?_; refine OkO.pick (b := false) rfl rfl nofun (fun _ => rfl) ?_; refine oN ?_
                    refine ⟨rfl, false, ?_, Has.of (by kernel_rfl), rfl, rfl⟩
                    exact ⟨fun h9_ => absurd h9_ (by decide), fun h9_ => by omega⟩
              · have f11x : ¬ ((r : Int) = 0) := of_decide_eq_false g11
                refine oK rfl ?_; refine oK rfl ?_; refine oK rfl ?_; refine OkO.pick (b := false) rfl rfl nofun (fun _ => rfl) ?_; refine oM rfl rfl ?_; refine oM rfl rfl ?_; refine oF (o := 1) rfl (by kernel_rfl) rfl ?_; refine oL rfl rfl (qla0 1) ?_; refine OkO.bin rfl rfl rfl (bin_sub (by omega) (by omega)) ?_; refine OkO.bin rfl rfl rfl (bin_eql _ _) ?_; refine oM rfl rfl ?_
                refine OkO.split (d := 127) rfl (fun g15 => ?_) (fun g15 => ?_)
                · have f15x : (r : Int) = (L : Int) - 1 := of_decide_eq_true g15
                  refine oM rfl rfl ?_; refine oF (o := 1) rfl (by kernel_rfl) rfl ?_; refine oL rfl rfl (qla0 1) ?_; refine OkO.bin rfl rfl rfl (bin_sub (by omega) (by omega)) ?_; refine OkO.bin rfl rfl rfl (bin_geq _ _) ?_; refine OkO.pick (b := true) rfl rfl (fun _ => rfl) nofun ?_; refine oM rfl rfl ?_
                  refine OkO.split (d := 134) rfl (fun g16 => ?_) (fun g16 => ?_)
                  · have f16x : (L : Int) - 1 ≤ (c : Int) := of_decide_eq_true g16
                    refine oM rfl rfl ?_; refine OkO.bin rfl rfl rfl (bin_lss _ _) ?_; refine OkO.pick (b := true) rfl rfl (fun _ => rfl) nofun ?_; refine OkO.pick (b := false) rfl rfl nofun (fun _ => rfl) ?_; refine oN ?_
                    refine ⟨rfl, (decide (tabF TT r c k < 0)), ?_, Has.of (by kernel_rfl), rfl, rfl⟩
                    rw [decide_eq_true_eq]; constructor <;> intro h9_ <;> omega
                  · have f16x : ¬ ((L : Int) - 1 ≤ (c : Int)) := of_decide_eq_false g16
                    refine oK rfl ?_; refine oK rfl ?_; refine OkO.pick (b := false) rfl rfl nofun (fun _ => rfl) ?_; refine OkO.pick (b := false) rfl rfl nofun (fun _ => rfl) ?_; refine oN ?_
                    refine ⟨rfl, false, ?_, Has.of (by kernel_rfl), rfl, rfl⟩
                    exact ⟨fun h9_ => absurd h9_ (by decide), fun h9_ => by omega⟩
                · have f15x : ¬ ((r : Int) = (L : Int) - 1) := of_decide_eq_false g15
                  refine oK rfl ?_; refine oK rfl ?_; refine oK rfl ?_; refine oK rfl ?_; refine oK rfl ?_; refine OkO.pick (b := false) rfl rfl nofun (fun _ => rfl) ?_; refine oM rfl rfl ?_; refine oK rfl ?_; refine oK rfl ?_; refine OkO.pick (b := false) rfl rfl nofun (fun _ => rfl) ?_; refine OkO.pick (b := false) rfl rfl nofun (fun _ => rfl) ?_; refine oN ?_
                  refine ⟨rfl, false, ?_, Has.of (by kernel_rfl), rfl, rfl⟩
                  exact ⟨fun h9_ => absurd h9_ (by decide), fun h9_ => by omega⟩
            · rintro ⟨T, D, G⟩ ⟨bb, hbad, ⟨f13_, hTT⟩, hD, hgE⟩
              dsimp only at *
              subst hTT hD
              subst hgE
              refine Ok.cond rfl (fun h17 => ?_) (fun h17 => ?_)
              · have f17x := hbad.1 h17
                refine kS ?_; refine kR ?_; refine oA rfl rfl ?_; refine oN ?_
                refine Ok.ret ⟨.inr rfl, ?_⟩
                exact ⟨_, _, back_flat rfl rfl rfl (by rw [← hW]; exact g6), false, rfl, rfl, ⟨(fun h => absurd h (by decide)), (fun h => False.elim (by (have hp := h.2 r c k f8x f9x f10x; (rcases hbad.1 h17 with h8 | h8); (· have h9 := hp.1 h8.1; omega); (· have h9 := hp.2.2 h8.1 h8.2.1; omega))))⟩⟩
              · have hF1 : (r = 0 → tabF TT r c k ≤ prC cols fa c k) ∧ (r + 1 = L → L ≤ c + 1 → 0 ≤ tabF TT r c k) := by (have h9 : ¬ ((r = 0 ∧ prC cols fa c k < tabF TT r c k) ∨ (r + 1 = L ∧ L ≤ c + 1 ∧ tabF TT r c k < 0)) := fun h8 => by (rw [hbad.2 h8] at h17; cases h17)); omega
                refine Ok.skip ?_; refine kS ?_; refine kR ?_; refine oA rfl rfl ?_; refine oN ?_; refine Ok.block ?_
                refine Ok.loop (fun n9 s_ => ∃ i : Nat, n9 = n - i ∧ i ≤ n ∧ (∀ i1, i1 < i → 0 < c → Nxt n k i1 → (0 < r → tabF TT r c k ≤ prC cols fa c k + tabF TT (r - 1) (c - 1) i1) ∧ (r + 1 = L → tabF TT r c k ≤ prC cols fa c k + tabF TT r (c - 1) i1)) ∧ Has 8 [(1, I fa), (2, tv), (3, .ptr W.next 0), (7, I (n : Int)), (11, I (r : Int)), (12, I (c : Int)), (13, I (k : Int)), (14, I (tabF TT r c k)), (15, I (prC cols fa c k)), (16, I (i : Int))] s_.T ∧ s_.D = [] ∧ G6 = s_.H) (n) (by unfold loopFuel; omega)
                  ⟨0, rfl, Nat.zero_le _, (fun i1 h => absurd h (Nat.not_lt_zero i1)), Has.of (by kernel_rfl), rfl, rfl⟩ ?_
                rintro nn_ ⟨T, D, G⟩ ⟨i, hn12_, hi, hPi, ⟨f12_, hTT⟩, hD, hgE⟩
                dsimp only at *
                subst hTT hD
                skip
                subst hgE
                refine kS ?_; refine kS ?_; refine kR ?_; refine oM rfl rfl ?_; refine oM rfl rfl ?_; refine OkO.bin rfl rfl rfl (bin_lss _ _) ?_; refine oN ?_
                refine Ok.cond rfl (fun h18 => ?_) (fun h18 => ?_)
                · have f18x : (i : Int) < (n : Int) := of_decide_eq_true h18
                  refine Ok.skip ?_; refine kS ?_; refine Ok.block ?_; refine kS ?_; refine kS ?_; refine kR ?_; refine oM rfl rfl ?_; refine OkO.bin rfl rfl rfl (bin_eql _ _) ?_; refine oM rfl rfl ?_
                  refine OkO.split (d := 146) rfl (fun g19 => ?_) (fun g19 => ?_)
                  · have f19x : (c : Int) = 0 := of_decide_eq_true g19
                    refine oK rfl ?_; refine oK rfl ?_; refine oK rfl ?_; refine oK rfl ?_; refine oK rfl ?_; refine OkO.pick (b := true) rfl rfl (fun _ => rfl) nofun ?_; refine oN ?_; refine Ok.condT rfl ?_; refine Ok.exit ?_; refine kR ?_; refine oM rfl rfl ?_; refine OkO.bin rfl rfl rfl (bin_add (by omega) (by omega)) ?_; refine oA rfl rfl ?_; refine oN ?_
                    refine ⟨n - (i + 1), by omega, i + 1, rfl, by omega, fun i1 h1_ h2_ h3_ => ?_, Has.of (by kernel_rfl), rfl, rfl⟩
                    by_cases e : i1 = i
                    · rw [e] at h3_ ⊢
                      exfalso; omega
                    · exact hPi i1 (by omega) h2_ h3_
                  · have f19x : ¬ ((c : Int) = 0) := of_decide_eq_false g19
                    refine oM rfl rfl ?_; refine oM rfl rfl ?_; refine OkO.bin rfl rfl rfl (bin_sub (by omega) (by omega)) ?_; refine oV rfl rfl rfl rfl rfl (c37 (m + 1) _ _ _ _) ?_; refine OkO.un rfl rfl rfl ?_; refine OkO.pick (b := false) rfl rfl nofun (fun _ => rfl) ?_; refine oN ?_
                    refine Ok.cond rfl (fun h20 => ?_) (fun h20 => ?_)
                    · have f20y : inB ((k : Int) - (i : Int)) (-1) 1 = false := by simpa using h20
                      have f20x : ¬ (-1 ≤ (k : Int) - (i : Int) ∧ (k : Int) - (i : Int) ≤ 1) := fun h9 => by rw [show inB ((k : Int) - (i : Int)) (-1) 1 = true from by simp [inB]; omega] at f20y; cases f20y
                      refine Ok.exit ?_; refine kR ?_; refine oM rfl rfl ?_; refine OkO.bin rfl rfl rfl (bin_add (by omega) (by omega)) ?_; refine oA rfl rfl ?_; refine oN ?_
                      refine ⟨n - (i + 1), by omega, i + 1, rfl, by omega, fun i1 h1_ h2_ h3_ => ?_, Has.of (by kernel_rfl), rfl, rfl⟩
                      by_cases e : i1 = i
                      · rw [e] at h3_ ⊢
                        exfalso; unfold Nxt at h3_; omega
                      · exact hPi i1 (by omega) h2_ h3_
                    · have f20y : inB ((k : Int) - (i : Int)) (-1) 1 = true := by simpa using h20
                      have f20x : -1 ≤ (k : Int) - (i : Int) ∧ (k : Int) - (i : Int) ≤ 1 := by (unfold inB at f20y; rw [Bool.and_eq_true, decide_eq_true_eq, decide_eq_true_eq] at f20y; exact f20y)
                      have hc1 : 0 < c := by omega
                      have hnx9 : Nxt n k i := ⟨by omega, by omega, by omega⟩
                      refine Ok.skip ?_; refine Ok.join (fun s => ∃ bb : Bool, (bb = true ↔ ((0 < r ∧ prC cols fa c k + tabF TT (r - 1) (c - 1) i < tabF TT r c k) ∨ (r + 1 = L ∧ prC cols fa c k + tabF TT r (c - 1) i < tabF TT r c k))) ∧ Has 8 [(1, I fa), (2, tv), (3, .ptr W.next 0), (7, I (n : Int)), (11, I (r : Int)), (12, I (c : Int)), (13, I (k : Int)), (14, I (tabF TT r c k)), (15, I (prC cols fa c k)), (16, I (i : Int)), (196, .bool bb)] s.T ∧ s.D = [] ∧ G6 = s.H) ?_ ?_
                      · refine kR ?_
                        refine oM rfl rfl ?_; refine OkO.bin rfl rfl rfl (bin_gtr _ _) ?_; refine oM rfl rfl ?_
                        refine OkO.split (d := 155) rfl (fun g21 => ?_) (fun g21 => ?_)
                        · have f21x : (0 : Int) < (r : Int) := of_decide_eq_true g21
                          obtain ⟨rvp, lvp, b1p, o1p, c1p, b2p, o2p, c2p, a1p, a2p, a3p, a4p, a5p, d1p, d2p, d3p, d4p, d5p, hcellp⟩ := tab_cell hT6 hsh (r := r - 1) (c := c - 1) (by omega) (by omega)
                          obtain ⟨b3p, o3p, c3p, i1p, i2p, i3p, i4p⟩ := hcellp i (by omega)
                          have htbp := tabF_bd hsh (r := r - 1) (c := c - 1) (k := i) (by omega) (by omega) (by omega)
                          refine oM rfl rfl ?_; refine oM rfl rfl ?_; refine oM rfl rfl ?_; refine oM rfl rfl ?_; refine OkO.bin rfl rfl rfl (bin_sub (by omega) (by omega)) ?_; refine qX (sz := 1) (n := (r - 1)) rfl rfl (congrArg (fun z => some (I z)) (by omega)) ?_; refine oL rfl rfl (qla0 1) ?_; refine oM rfl rfl ?_; refine OkO.bin rfl rfl rfl (bin_sub (by omega) (by omega)) ?_; refine qX (sz := 1) (n := (c - 1)) rfl rfl (congrArg (fun z => some (I z)) (by omega)) ?_; refine oL rfl rfl (qla0 1) ?_; refine oM rfl rfl ?_; refine qX (sz := 1) (n := i) rfl rfl rfl ?_; refine oL rfl rfl (qla0 1) ?_; refine OkO.bin rfl rfl rfl (bin_add (by omega) (by omega)) ?_; refine OkO.bin rfl rfl rfl (bin_gtr _ _) ?_; refine OkO.pick (b := true) rfl rfl (fun _ => rfl) nofun ?_; refine oM rfl rfl ?_
                          refine OkO.split (d := 173) rfl (fun g22 => ?_) (fun g22 => ?_)
                          · have f22x : prC cols fa c k + tabF TT (r - 1) (c - 1) i < tabF TT r c k := of_decide_eq_true g22
                            refine oK rfl ?_; refine oK rfl ?_; refine oK rfl ?_; refine oK rfl ?_; refine oK rfl ?_; refine oK rfl ?_; refine oK rfl ?_; refine oK rfl ?_; refine oK rfl ?_; refine oK rfl ?_; refine oK rfl ?_; refine oK rfl ?_; refine oK rfl ?_; refine oK rfl ?_; refine oK rfl ?_; refine oK rfl ?_; refine oK rfl ?_; refine oK rfl ?_; refine oK rfl ?_; refine oK rfl ?_; refine oK rfl ?_; refine oK rfl ?_; refine OkO.pick (b := true) rfl rfl (fun _ => rfl) nofun ?_; refine oN ?_
                            refine ⟨rfl, true, ?_, Has.of (by kernel_rfl), rfl, rfl⟩
                            exact ⟨fun _ => by omega, fun _ => rfl⟩
                          · have f22x : ¬ (prC cols fa c k + tabF TT (r - 1) (c - 1) i < tabF TT r c k) := of_decide_eq_false g22
                            refine oM rfl rfl ?_; refine oF (o := 1) rfl (by kernel_rfl) rfl ?_; refine oL rfl rfl (qla0 1) ?_; refine OkO.bin rfl rfl rfl (bin_sub (by omega) (by omega)) ?_; refine OkO.bin rfl rfl rfl (bin_eql _ _) ?_; refine oM rfl rfl ?_
                            refine OkO.split (d := 179) rfl (fun g23 => ?_) (fun g23 => ?_)
                            · have f23x : (r : Int) = (L : Int) - 1 := of_decide_eq_true g23
                              obtain ⟨rvq, lvq, b1q, o1q, c1q, b2q, o2q, c2q, a1q, a2q, a3q, a4q, a5q, d1q, d2q, d3q, d4q, d5q, hcellq⟩ := tab_cell hT6 hsh (r := r) (c := c - 1) (by omega) (by omega)
                              obtain ⟨b3q, o3q, c3q, i1q, i2q, i3q, i4q⟩ := hcellq i (by omega)
                              have htbq := tabF_bd hsh (r := r) (c := c - 1) (k := i) (by omega) (by omega) (by omega)
                              refine oM rfl rfl ?_; refine oM rfl rfl ?_; refine oM rfl rfl ?_; refine oM rfl rfl ?_; refine qX (sz := 1) (n := r) rfl rfl rfl ?_; refine oL rfl rfl (qla0 1) ?_; refine oM rfl rfl ?_; refine OkO.bin rfl rfl rfl (bin_sub (by omega) (by omega)) ?_; refine qX (sz := 1) (n := (c - 1)) rfl rfl (congrArg (fun z => some (I z)) (by omega)) ?_; refine oL rfl rfl (qla0 1) ?_; refine oM rfl rfl ?_; refine qX (sz := 1) (n := i) rfl rfl rfl ?_; refine oL rfl rfl (qla0 1) ?_; refine OkO.bin rfl rfl rfl (bin_add (by omega) (by omega)) ?_; refine OkO.bin rfl rfl rfl (bin_gtr _ _) ?_; refine OkO.pick (b := true) rfl rfl (fun _ => rfl) nofun ?_; refine OkO.pick (b := false) rfl rfl nofun (fun _ => rfl) ?_; refine oN ?_
                              refine ⟨rfl, (decide (prC cols fa c k + tabF TT r (c - 1) i < tabF TT r c k)), ?_, Has.of (by kernel_rfl), rfl, rfl⟩
                              rw [decide_eq_true_eq]; constructor <;> intro h9_ <;> omega
                            · have f23x : ¬ ((r : Int) = (L : Int) - 1) := of_decide_eq_false g23
                              refine oK rfl ?_; refine oK rfl ?_; refine oK rfl ?_; refine oK rfl ?_; refine oK rfl ?_; refine oK rfl ?_; refine oK rfl ?_; refine oK rfl ?_; refine oK rfl ?_; refine oK rfl ?_; refine oK rfl ?_; refine oK rfl ?_; refine oK rfl ?_; refine oK rfl ?_; refine oK rfl ?_; refine OkO.pick (b := false) rfl rfl nofun (fun _ => rfl) ?_; refine OkO.pick (b := false) rfl rfl nofun (fun _ => rfl) ?_; refine oN ?_
                              refine ⟨rfl, false, ?_, Has.of (by kernel_rfl), rfl, rfl⟩
                              exact ⟨fun h9_ => absurd h9_ (by decide), fun h9_ => by omega⟩
                        · have f21x : ¬ ((0 : Int) < (r : Int)) := of_decide_eq_false g21
                          refine oK rfl ?_; refine oK rfl ?_; refine oK rfl ?_; refine oK rfl ?_; refine oK rfl ?_; refine oK rfl ?_; refine oK rfl ?_; refine oK rfl ?_; refine oK rfl ?_; refine oK rfl ?_; refine oK rfl ?_; refine oK rfl ?_; refine oK rfl ?_; refine oK rfl ?_; refine oK rfl ?_; refine oK rfl ?_; refine OkO.pick (b := false) rfl rfl nofun (fun _ => rfl) ?_; refine oM rfl rfl ?_; refine oM rfl rfl ?_; refine oF (o := 1) rfl (by kernel_rfl) rfl ?_; refine oL rfl rfl (qla0 1) ?_; refine OkO.bin rfl rfl rfl (bin_sub (by omega) (by omega)) ?_; refine OkO.bin rfl rfl rfl (bin_eql _ _) ?_; refine oM rfl rfl ?_
                          refine OkO.split (d := 179) rfl (fun g24 => ?_) (fun g24 => ?_)
                          · have f24x : (r : Int) = (L : Int) - 1 := of_decide_eq_true g24
                            obtain ⟨rvq, lvq, b1q, o1q, c1q, b2q, o2q, c2q, a1q, a2q, a3q, a4q, a5q, d1q, d2q, d3q, d4q, d5q, hcellq⟩ := tab_cell hT6 hsh (r := r) (c := c - 1) (by omega) (by omega)
                            obtain ⟨b3q, o3q, c3q, i1q, i2q, i3q, i4q⟩ := hcellq i (by omega)
                            have htbq := tabF_bd hsh (r := r) (c := c - 1) (k := i) (by omega) (by omega) (by omega)
                            refine oM rfl rfl ?_; refine oM rfl rfl ?_; refine oM rfl rfl ?_; refine oM rfl rfl ?_; refine qX (sz := 1) (n := r) rfl rfl rfl ?_; refine oL rfl rfl (qla0 1) ?_; refine oM rfl rfl ?_; refine OkO.bin rfl rfl rfl (bin_sub (by omega) (by omega)) ?_; refine qX (sz := 1) (n := (c - 1)) rfl rfl (congrArg (fun z => some (I z)) (by omega)) ?_; refine oL rfl rfl (qla0 1) ?_; refine oM rfl rfl ?_; refine qX (sz := 1) (n := i) rfl rfl rfl ?_; refine oL rfl rfl (qla0 1) ?_; refine OkO.bin rfl rfl rfl (bin_add (by omega) (by omega)) ?_; refine OkO.bin rfl rfl rfl (bin_gtr _ _) ?_; refine OkO.pick (b := true) rfl rfl (fun _ => rfl) nofun ?_; refine OkO.pick (b := false) rfl rfl nofun (fun _ => rfl) ?_; refine oN ?_
                            refine ⟨rfl, (decide (prC cols fa c k + tabF TT r (c - 1) i < tabF TT r c k)), ?_, Has.of (by kernel_rfl), rfl, rfl⟩
                            rw [decide_eq_true_eq]; constructor <;> intro h9_ <;> omega
                          · have f24x : ¬ ((r : Int) = (L : Int) - 1) := of_decide_eq_false g24
                            refine oK rfl ?_; refine oK rfl ?_; refine oK rfl ?_; refine oK rfl ?_; refine oK rfl ?_; refine oK rfl ?_; refine oK rfl ?_; refine oK rfl ?_; refine oK rfl ?_; refine oK rfl ?_; refine oK rfl ?_; refine oK rfl ?_; refine oK rfl ?_; refine oK rfl ?_; refine oK rfl ?_; refine OkO.pick (b := false) rfl rfl nofun (fun _ => rfl) ?_; refine OkO.pick (b := false) rfl rfl nofun (fun _ => rfl) ?_; refine oN ?_
                            refine ⟨rfl, false, ?_, Has.of (by kernel_rfl), rfl, rfl⟩
                            exact ⟨fun h9_ => absurd h9_ (by decide), fun h9_ => by omega⟩
                      · rintro ⟨T, D, G⟩ ⟨bb, hbad2, ⟨f14_, hTT⟩, hD, hgE⟩
                        dsimp only at *
                        subst hTT hD
                        subst hgE
                        refine Ok.cond rfl (fun h25 => ?_) (fun h25 => ?_)
                        · have f25x := hbad2.1 h25
                          refine kS ?_; refine kR ?_; refine oA rfl rfl ?_; refine oN ?_
                          refine Ok.ret ⟨.inr rfl, ?_⟩
                          exact ⟨_, _, back_flat rfl rfl rfl (by rw [← hW]; exact g6), false, rfl, rfl, ⟨(fun h => absurd h (by decide)), (fun h => False.elim (by (have hp := (h.2 r c k f8x f9x f10x).2.1 hc1 i hnx9; (rcases hbad2.1 h25 with h8 | h8); (· have h9 := hp.1 h8.1; omega); (· have h9 := hp.2 h8.1; omega))))⟩⟩
                        · have f25y : bb = false := by simpa using h25
                          refine Ok.skip ?_; refine kR ?_; refine oM rfl rfl ?_; refine OkO.bin rfl rfl rfl (bin_add (by omega) (by omega)) ?_; refine oA rfl rfl ?_; refine oN ?_
                          refine ⟨n - (i + 1), by omega, i + 1, rfl, by omega, fun i1 h1_ h2_ h3_ => ?_, Has.of (by kernel_rfl), rfl, rfl⟩
                          by_cases e : i1 = i
                          · rw [e] at h3_ ⊢
                            exact ⟨fun h4_ => by (have h9 : ¬ ((0 < r ∧ prC cols fa c k + tabF TT (r - 1) (c - 1) i < tabF TT r c k) ∨ (r + 1 = L ∧ prC cols fa c k + tabF TT r (c - 1) i < tabF TT r c k)) := fun h8 => by (rw [hbad2.2 h8] at f25y; cases f25y)); omega, fun h4_ => by (have h9 : ¬ ((0 < r ∧ prC cols fa c k + tabF TT (r - 1) (c - 1) i < tabF TT r c k) ∨ (r + 1 = L ∧ prC cols fa c k + tabF TT r (c - 1) i < tabF TT r c k)) := fun h8 => by (rw [hbad2.2 h8] at f25y; cases f25y)); omega⟩
                          · exact hPi i1 (by omega) h2_ h3_
                · have f18x : ¬ ((i : Int) < (n : Int)) := of_decide_eq_false h18
                  have hiN : i = n := by omega
                  rw [hiN] at hPi
                  refine Ok.exit ?_; refine kR ?_; refine oM rfl rfl ?_; refine OkO.bin rfl rfl rfl (bin_add (by omega) (by omega)) ?_; refine oA rfl rfl ?_; refine oN ?_
                  refine ⟨n - (k + 1), by omega, k + 1, rfl, by omega, fun k1 h1_ => ?_, Has.of (by kernel_rfl), rfl, rfl⟩
                  by_cases e : k1 = k
                  · rw [e]; exact ⟨hF1.1, fun h0_ i1 hi1 => hPi i1 (by (have h9 := hi1.1); omega) h0_ hi1, hF1.2⟩
                  · exact hPk k1 (by omega)
          · have f10x : ¬ (k < n) := by simpa using h10
            have hkN : k = n := by omega
            rw [hkN] at hPk
            refine Ok.exit ?_; refine kR ?_; refine oM rfl rfl ?_; refine OkO.bin rfl rfl rfl (bin_add (by omega) (by omega)) ?_; refine oA rfl rfl ?_; refine oN ?_
            refine ⟨cols.length - (c + 1), by omega, c + 1, rfl, by omega, fun c1 k1 h1_ h2_ => ?_, Has.of (by kernel_rfl), rfl, rfl⟩
            by_cases e : c1 = c
            · rw [e]; exact hPk k1 (by omega)
            · exact hPc c1 k1 (by omega) h2_
        · have f9x : ¬ (c < cols.length) := by simpa using h9
          have hcN : c = cols.length := by omega
          rw [hcN] at hPc
          refine Ok.exit ?_; refine kR ?_; refine oM rfl rfl ?_; refine OkO.bin rfl rfl rfl (bin_add (by omega) (by omega)) ?_; refine oA rfl rfl ?_; refine oN ?_
          refine ⟨L - (r + 1), by omega, r + 1, rfl, by omega, fun r1 c1 k1 h1_ h2_ h3_ => ?_, Has.of (by kernel_rfl), rfl, rfl⟩
          by_cases e : r1 = r
          · rw [e]; exact hPc c1 k1 (by omega) h3_
          · exact hPr r1 c1 k1 (by omega) h2_ h3_
      · have f8x : ¬ (r < L) := by simpa using h8
        have hrL : r = L := by omega
        refine Ok.exit ?_; refine kS ?_; refine kR ?_; refine oA rfl rfl ?_; refine oN ?_
        refine Ok.ret ⟨.inr rfl, ?_⟩
        exact ⟨_, _, back_flat rfl rfl rfl (by rw [← hW]; exact g6), true, rfl, rfl, ⟨fun _ => ⟨hsh, fun r1 c1 k1 h1_ h2_ h3_ => hPr r1 c1 k1 (by omega) h2_ h3_⟩, fun _ => rfl⟩⟩
end
end Go.Ev

set_option maxRecDepth 100000
set_option linter.unusedSimpArgs false
set_option linter.unusedVariables false
namespace Go.Ev
open Go Go.Proofs
noncomputable section
theorem c6W (m : Nat) (cv tv : AV) (cols : List (List Bed)) (least fa : Int) (TT : List (List (List Int))) (own : Bool) (rw9 cn9 bd9 by9 : Int) (H : Heap) (hM : Mat H cv cols) (hT : Tab H tv TT) (hth : thinB cols = false) : RR (m + 213) (.fn 6 [.agg [cv, I least], I fa, tv, .bool own, U8 rw9, U8 cn9, U8 bd9, .int .i8 by9]) H = some (.bool true, H) := by
  refine (R_fn _ _ _ _ _).trans ?_; refine fn_ok Try.func6 rfl rfl (by kernel_rfl) (by kernel_rfl) ?_
  obtain ⟨W, hW, hg, hN, hE, hG⟩ := wOf H
  rw [← hW]
  have pc : cv.plain = true := by obtain ⟨vs, hR, _, _⟩ := hM; exact lpl hR.len
  have hlT := hT.len
  have ptv : tv.plain = true := lpl hlT
  refine kS ?_; refine kR ?_; refine OkO.box rfl rfl ?_; refine oA rfl rfl ?_; refine oN ?_; refine kS ?_; refine kS ?_; refine kR ?_; refine oL rfl rfl (qlg7 2) ?_; refine oV rfl rfl rfl rfl rfl ((c16 (m + 211) cv cols least _ (hM.ext (hE _ (by (try dsimp only); repeat (first | exact hG | apply Grow.new | (refine Grow.put ?_ _ (by first | omega | (simp only [hNw, hPt]; omega)))))))).trans (by rw [hth])) ?_; refine OkO.un rfl rfl rfl ?_; refine oM rfl rfl ?_; refine oK rfl ?_; refine oK rfl ?_; refine oK rfl ?_; refine OkO.pick (b := true) rfl rfl (fun _ => rfl) nofun ?_; refine oN ?_; refine Ok.condT rfl ?_; refine kS ?_; refine kR ?_; refine oV rfl rfl rfl rfl rfl (rfl) ?_; refine oA rfl rfl ?_; refine oN ?_
  refine Ok.ret ⟨.inr rfl, ?_⟩
  exact back_flat rfl rfl rfl (by rw [← hW]; exact (by (try dsimp only); repeat (first | exact hG | apply Grow.new | (refine Grow.put ?_ _ (by first | omega | (simp only [hNw, hPt]; omega))))))
theorem c6V (m : Nat) (cv tv : AV) (cols : List (List Bed)) (least fa : Int) (TT : List (List (List Int))) (own : Bool) (rw9 cn9 bd9 by9 : Int) (H : Heap) (hM : Mat H cv cols) (hT : Tab H tv TT) (hth : thinB cols = true) (hT5 : 5 < TT.length) : RR (m + 213) (.fn 6 [.agg [cv, I least], I fa, tv, .bool own, U8 rw9, U8 cn9, U8 bd9, .int .i8 by9]) H = some (.bool true, H) := by
  refine (R_fn _ _ _ _ _).trans ?_; refine fn_ok Try.func6 rfl rfl (by kernel_rfl) (by kernel_rfl) ?_
  obtain ⟨W, hW, hg, hN, hE, hG⟩ := wOf H
  rw [← hW]
  have pc : cv.plain = true := by obtain ⟨vs, hR, _, _⟩ := hM; exact lpl hR.len
  have hlT := hT.len
  have ptv : tv.plain = true := lpl hlT
  refine kS ?_; refine kR ?_; refine OkO.box rfl rfl ?_; refine oA rfl rfl ?_; refine oN ?_; refine kS ?_; refine kS ?_; refine kR ?_; refine oL rfl rfl (qlg7 2) ?_; refine oV rfl rfl rfl rfl rfl ((c16 (m + 211) cv cols least _ (hM.ext (hE _ (by (try dsimp only); repeat (first | exact hG | apply Grow.new | (refine Grow.put ?_ _ (by first | omega | (simp only [hNw, hPt]; omega)))))))).trans (by rw [hth])) ?_; refine OkO.un rfl rfl rfl ?_; refine oM rfl rfl ?_; refine oM rfl rfl ?_; refine oB rfl rfl rfl qbl ?_; refine OkO.bin rfl rfl rfl ((bin_gtr _ _).trans (congrArg (fun b => some (AV.bool b)) (show _ = true from (by rw [decide_eq_true_eq]; omega)))) ?_; refine OkO.pick (b := false) rfl rfl nofun (fun _ => rfl) ?_; refine oN ?_; refine Ok.condT rfl ?_; refine kS ?_; refine kR ?_; refine oV rfl rfl rfl rfl rfl (rfl) ?_; refine oA rfl rfl ?_; refine oN ?_
  refine Ok.ret ⟨.inr rfl, ?_⟩
  exact back_flat rfl rfl rfl (by rw [← hW]; exact (by (try dsimp only); repeat (first | exact hG | apply Grow.new | (refine Grow.put ?_ _ (by first | omega | (simp only [hNw, hPt]; omega))))))
set_option maxHeartbeats 2000000 in
theorem c6N1 (m : Nat) (cv tv : AV) (cols : List (List Bed)) (least fa : Int) (TT : List (List (List Int))) (own : Bool) (rw9 cn9 bd9 by9 : Int) (H : Heap) (hM : Mat H cv cols) (hT : Tab H tv TT) (hth : thinB cols = true) (hT5 : TT.length ≤ 5) (hsl : slOk cols least = false) (hre : reachE cols least fa = 1) (hask : (if slOk cols least = true then (if inB fa 0 10000 = true then (0 : Int) else 2) else 1) = 1) : RR (m + 213) (.fn 6 [.agg [cv, I least], I fa, tv, .bool own, U8 rw9, U8 cn9, U8 bd9, .int .i8 by9]) H = some (.bool true, H) := by
  refine (R_fn _ _ _ _ _).trans ?_; refine fn_ok Try.func6 rfl rfl (by kernel_rfl) (by kernel_rfl) ?_
  obtain ⟨W, hW, hg, hN, hE, hG⟩ := wOf H
  rw [← hW]
  have pc : cv.plain = true := by obtain ⟨vs, hR, _, _⟩ := hM; exact lpl hR.len
  have hlT := hT.len
  have ptv : tv.plain = true := lpl hlT
  refine kS ?_; refine kR ?_; refine OkO.box rfl rfl ?_; refine oA rfl rfl ?_; refine oN ?_; refine kS ?_; refine kS ?_; refine kR ?_; refine oL rfl rfl (qlg7 2) ?_; refine oV rfl rfl rfl rfl rfl ((c16 (m + 211) cv cols least _ (hM.ext (hE _ (by (try dsimp only); repeat (first | exact hG | apply Grow.new | (refine Grow.put ?_ _ (by first | omega | (simp only [hNw, hPt]; omega)))))))).trans (by rw [hth])) ?_; refine OkO.un rfl rfl rfl ?_; refine oM rfl rfl ?_; refine oM rfl rfl ?_; refine oB rfl rfl rfl qbl ?_; refine OkO.bin rfl rfl rfl ((bin_gtr _ _).trans (congrArg (fun b => some (AV.bool b)) (show _ = false from (by rw [decide_eq_false_iff_not]; omega)))) ?_; refine OkO.pick (b := false) rfl rfl nofun (fun _ => rfl) ?_; refine oN ?_; refine Ok.condF rfl ?_; refine Ok.skip ?_; refine kS ?_; refine kS ?_; refine kR ?_; refine oA rfl rfl ?_; refine oN ?_; refine Ok.block ?_
  obtain ⟨G6, hG6⟩ : ∃ G6, G6 = W.new (.cells [cv, I least] 24) := ⟨_, rfl⟩
  have e6 : (G6.get W.next).bind AObj.cs = some [cv, I least] := by rw [hG6, gn0]; rfl
  have g6 : Grow W G6 := by rw [hG6]; exact hG.new _
  have n6 : W.next + 1 ≤ G6.next := by rw [hG6]; simp
  refine Ok.loop (fun n9 s_ => ∃ i : Nat, n9 = TT.length - i ∧ i ≤ TT.length ∧ (∀ R ∈ TT.take i, (R.length ≤ 15 ∧ ∀ l ∈ R, l.length ≤ 8)) ∧ Has 8 [(1, I fa), (2, tv), (3, .bool own), (4, U8 rw9), (5, U8 cn9), (6, U8 bd9), (7, .int .i8 by9), (8, .ptr W.next 0), (17, I (i : Int))] s_.T ∧ s_.D = [] ∧ G6 = s_.H) (TT.length) (by unfold loopFuel; omega)
    ⟨0, rfl, Nat.zero_le _, (fun R h => absurd h (by simp)), Has.of (by kernel_rfl), rfl, hG6⟩ ?_
  rintro nn_ ⟨T, D, G⟩ ⟨i, hn9_, hi, hOK, ⟨f_, hTT⟩, hD, hgE⟩
  dsimp only at *
  subst hTT hD
  skip
  subst hgE
  refine kS ?_; refine kS ?_; refine kR ?_; refine oM rfl rfl ?_; refine oM rfl rfl ?_; refine oB rfl rfl rfl qbl ?_; refine OkO.bin rfl rfl rfl (bin_lss _ _) ?_; refine oN ?_
  refine Ok.cond rfl (fun h1 => ?_) (fun h1 => ?_)
  · have hlt : i < TT.length := by simpa using h1
    obtain ⟨xr, rb, ro, rcs, t1, t2, t3, t4, t5⟩ := (hT.ext (hE _ g6)).get i hlt
    have lq := t5.len
    have pxr : xr.plain = true := lpl lq
    refine Ok.skip ?_; refine kS ?_; refine Ok.block ?_; refine kS ?_; refine kS ?_; refine kR ?_; refine oM rfl rfl ?_; refine oM rfl rfl ?_; refine qX (sz := 1) (n := i) rfl rfl rfl ?_; refine oL rfl rfl (qla0 1) ?_; refine oB rfl rfl rfl qbl ?_; refine OkO.bin rfl rfl rfl (bin_gtr _ _) ?_; refine oN ?_
    refine Ok.cond rfl (fun h2 => ?_) (fun h2 => ?_)
    · refine kS ?_
      refine kR ?_; refine oV rfl rfl rfl rfl rfl (rfl) ?_; refine oA rfl rfl ?_; refine oN ?_
      refine Ok.ret ⟨.inr rfl, ?_⟩
      exact back_flat rfl rfl rfl (by rw [← hW]; exact g6)
    · have hl15 : TT[i].length ≤ 15 := by (have h9 : ¬ (15 : Int) < (TT[i].length : Int) := by simpa using h2); omega
      refine Ok.skip ?_; refine kS ?_; refine kR ?_; refine oA rfl rfl ?_; refine oN ?_; refine Ok.block ?_
      refine Ok.loop (fun n8 s_ => ∃ j : Nat, n8 = TT[i].length - j ∧ j ≤ TT[i].length ∧ (∀ l ∈ TT[i].take j, l.length ≤ 8) ∧ Has 8 [(1, I fa), (2, tv), (3, .bool own), (4, U8 rw9), (5, U8 cn9), (6, U8 bd9), (7, .int .i8 by9), (8, .ptr W.next 0), (17, I (i : Int)), (18, I (j : Int))] s_.T ∧ s_.D = [] ∧ G6 = s_.H) (TT[i].length) (by unfold loopFuel; omega)
        ⟨0, rfl, Nat.zero_le _, (fun l h => absurd h (by simp)), Has.of (by kernel_rfl), rfl, rfl⟩ ?_
      rintro nn_ ⟨T, D, G⟩ ⟨j, hn8_, hj, hOKj, ⟨f2_, hTT⟩, hD, hgE⟩
      dsimp only at *
      subst hTT hD
      skip
      subst hgE
      refine kS ?_; refine kS ?_; refine kR ?_; refine oM rfl rfl ?_; refine oM rfl rfl ?_; refine oM rfl rfl ?_; refine qX (sz := 1) (n := i) rfl rfl rfl ?_; refine oL rfl rfl (qla0 1) ?_; refine oB rfl rfl rfl qbl ?_; refine OkO.bin rfl rfl rfl (bin_lss _ _) ?_; refine oN ?_
      refine Ok.cond rfl (fun h3 => ?_) (fun h3 => ?_)
      · have hlt2 : j < TT[i].length := by simpa using h3
        obtain ⟨xl, cb, co, ccs, s1, s2, s3, s4, s5⟩ := t5.get j hlt2
        have lq2 := Row.len s5
        rw [List.length_map] at lq2
        have pxl : xl.plain = true := lpl lq2
        refine Ok.skip ?_; refine kS ?_; refine Ok.block ?_; refine kS ?_; refine kR ?_; refine oM rfl rfl ?_; refine oM rfl rfl ?_; refine qX (sz := 1) (n := i) rfl rfl rfl ?_; refine oL rfl rfl (qla0 1) ?_; refine oM rfl rfl ?_; refine qX (sz := 1) (n := j) rfl rfl rfl ?_; refine oL rfl rfl (qla0 1) ?_; refine oB rfl rfl rfl qbl ?_; refine OkO.bin rfl rfl rfl (bin_gtr _ _) ?_; refine oN ?_
        refine Ok.cond rfl (fun h4 => ?_) (fun h4 => ?_)
        · refine kS ?_
          refine kR ?_; refine oV rfl rfl rfl rfl rfl (rfl) ?_; refine oA rfl rfl ?_; refine oN ?_
          refine Ok.ret ⟨.inr rfl, ?_⟩
          exact back_flat rfl rfl rfl (by rw [← hW]; exact g6)
        · have hl8 : TT[i][j].length ≤ 8 := by (have h9 : ¬ (8 : Int) < (TT[i][j].length : Int) := by simpa using h4); omega
          refine Ok.skip ?_; refine kR ?_; refine oM rfl rfl ?_; refine OkO.bin rfl rfl rfl (bin_add (by omega) (by omega)) ?_; refine oA rfl rfl ?_; refine oN ?_
          refine ⟨TT[i].length - (j + 1), by omega, j + 1, rfl, by omega, fun l hl => ?_, Has.of (by kernel_rfl), rfl, rfl⟩
          rw [List.take_succ_eq_append_getElem hlt2, List.mem_append, List.mem_singleton] at hl
          rcases hl with hl | hl
          · exact hOKj l hl
          · rw [hl]; exact hl8
      · have hge2 : j = TT[i].length := by (have h9 : ¬ j < TT[i].length := by simpa using h3); omega
        rw [hge2, List.take_length] at hOKj
        have hOKl := hOKj
        refine Ok.exit ?_; refine kR ?_; refine oM rfl rfl ?_; refine OkO.bin rfl rfl rfl (bin_add (by omega) (by omega)) ?_; refine oA rfl rfl ?_; refine oN ?_
        refine ⟨TT.length - (i + 1), by omega, i + 1, rfl, by omega, fun R hR => ?_, Has.of (by kernel_rfl), rfl, rfl⟩
        rw [List.take_succ_eq_append_getElem hlt, List.mem_append, List.mem_singleton] at hR
        rcases hR with hR | hR
        · exact hOK R hR
        · rw [hR]; exact ⟨hl15, hOKl⟩
  · have hge : i = TT.length := by (have h9 : ¬ i < TT.length := by simpa using h1); omega
    rw [hge, List.take_length] at hOK
    refine Ok.exit ?_; refine kS ?_; refine kR ?_; refine oL rfl rfl (qlg7 2) ?_; refine oE rfl rfl rfl rfl rfl (c19 (m + 210) cv cols least _ (hM.ext (hE _ (by (try dsimp only); repeat (first | exact g6 | apply Grow.new | (refine Grow.put ?_ _ (by first | omega | (simp only [hNw, hPt]; omega))))))) hth) ?_
    rintro _ Ha1 ⟨cv1, rfl, qa1, fa1⟩
    have n1 := qa1.ext.next
    try simp only [hNw, hPt] at n1
    have gg1 : Grow W Ha1 := Grow.ret (by (try dsimp only); repeat (first | exact g6 | apply Grow.new | (refine Grow.put ?_ _ (by first | omega | (simp only [hNw, hPt]; omega))))) qa1
    have a1 : (Ha1.get (W.next)).bind AObj.cs = some [cv, I least] := by rw [qa1.ext.get _ (by first | omega | (simp only [hNw, hPt]; omega))]; first | assumption | (rw [gn0]; rfl) | (rw [get_put_eq] <;> rfl) | (simp (disch := first | omega | (simp only [hNw, hPt]; omega)) only [gN] <;> first | rfl | assumption | (rw [get_put_eq] <;> rfl))
    have ma1 := fa1.now (Nat.le_refl _)
    have pc1 : cv1.plain = true := by obtain ⟨vs, hR, _, _⟩ := ma1; exact lpl hR.len
    refine oM rfl rfl ?_; refine oV rfl rfl rfl rfl rfl ((c36E (m + 1) cv1 cols least fa _ ma1 (by rw [hre]; decide)).trans (by rw [hre])) ?_; refine oM rfl rfl ?_; refine OkO.extract rfl rfl rfl ?_; refine OkO.extract rfl rfl rfl ?_; refine oA rfl rfl ?_; refine oA rfl rfl ?_; refine oN ?_; refine kS ?_; refine kR ?_; refine oL rfl rfl (qlg7 2) ?_; refine oV rfl rfl rfl rfl rfl ((c23 (m + 210) cv cols least _ (hM.ext (hE _ (by (try dsimp only); repeat (first | exact gg1 | apply Grow.new | (refine Grow.put ?_ _ (by first | omega | (simp only [hNw, hPt]; omega)))))))).trans (by rw [hsl])) ?_; refine oM rfl rfl ?_; refine oK rfl ?_; refine oK rfl ?_; refine OkO.pick (b := false) rfl rfl nofun (fun _ => rfl) ?_; refine oA rfl rfl ?_; refine oN ?_; refine kS ?_; refine kS ?_; refine kR ?_; refine oM rfl rfl ?_; refine OkO.un rfl rfl rfl ?_; refine oN ?_; refine Ok.condT rfl ?_; refine kS ?_; refine kR ?_; refine oA rfl rfl ?_; refine oN ?_; refine kS ?_; refine kS ?_; refine kR ?_; refine oL rfl rfl (qlg7 2) ?_; refine oV rfl rfl rfl rfl rfl ((c23 (m + 210) cv cols least _ (hM.ext (hE _ (by (try dsimp only); repeat (first | exact gg1 | apply Grow.new | (refine Grow.put ?_ _ (by first | omega | (simp only [hNw, hPt]; omega)))))))).trans (by rw [hsl])) ?_; refine OkO.un rfl rfl rfl ?_; refine oN ?_; refine Ok.condT rfl ?_; refine kR ?_; refine oA rfl rfl ?_; refine oN ?_; refine kS ?_; refine kR ?_; refine oM rfl rfl ?_; refine oM rfl rfl ?_; refine OkO.bin rfl rfl rfl ((bin_eql _ _).trans (congrArg (fun b => some (AV.bool b)) (show _ = true from (by rfl)))) ?_; refine oM rfl rfl ?_; refine oM rfl rfl ?_; refine oB rfl rfl rfl qbl ?_; refine OkO.bin rfl rfl rfl ((bin_eql _ _).trans (congrArg (fun b => some (AV.bool b)) (show _ = true from (by rfl)))) ?_; refine OkO.pick (b := true) rfl rfl (fun _ => rfl) nofun ?_; refine oM rfl rfl ?_; refine oL rfl rfl (qlg7 2) ?_; refine oE rfl rfl rfl rfl rfl (c19 (m + 210) cv cols least _ (hM.ext (hE _ (by (try dsimp only); repeat (first | exact gg1 | apply Grow.new | (refine Grow.put ?_ _ (by first | omega | (simp only [hNw, hPt]; omega))))))) hth) ?_
    rintro _ Ha2 ⟨cv2, rfl, qa2, fa2⟩
    have n2 := qa2.ext.next
    try simp only [hNw, hPt] at n2
    have gg2 : Grow W Ha2 := Grow.ret (by (try dsimp only); repeat (first | exact gg1 | apply Grow.new | (refine Grow.put ?_ _ (by first | omega | (simp only [hNw, hPt]; omega))))) qa2
    have a2 : (Ha2.get (W.next)).bind AObj.cs = some [cv, I least] := by rw [qa2.ext.get _ (by first | omega | (simp only [hNw, hPt]; omega))]; first | assumption | (rw [gn0]; rfl) | (rw [get_put_eq] <;> rfl) | (simp (disch := first | omega | (simp only [hNw, hPt]; omega)) only [gN] <;> first | rfl | assumption | (rw [get_put_eq] <;> rfl))
    have exHa12 : Ext Ha1 Ha2 := Ext.trans (by (try dsimp only); repeat (first | exact Ext.refl _ | exact Ext.refl _ | apply Ext.new | (refine Ext.put ?_ _ (by first | omega | (simp only [hNw, hPt]; omega))))) qa2.ext
    have ma2 := fa2.now (Nat.le_refl _)
    have pc2 : cv2.plain = true := by obtain ⟨vs, hR, _, _⟩ := ma2; exact lpl hR.len
    refine oM rfl rfl ?_; refine oM rfl rfl ?_; refine oE rfl rfl rfl rfl rfl (c39 (m + 210) tv TT _ (hT.ext (hE _ (by (try dsimp only); repeat (first | exact gg2 | apply Grow.new | (refine Grow.put ?_ _ (by first | omega | (simp only [hNw, hPt]; omega))))))) (by omega) (fun R hR => by (have h9 := (hOK R hR).1); omega) (fun R hR l hl => by (have h9 := (hOK R hR).2 l hl); omega)) ?_
    rintro tc Hc ⟨qc, htc⟩
    have n3 := qc.ext.next
    try simp only [hNw, hPt] at n3
    have gg3 : Grow W Hc := Grow.ret (by (try dsimp only); repeat (first | exact gg2 | apply Grow.new | (refine Grow.put ?_ _ (by first | omega | (simp only [hNw, hPt]; omega))))) qc
    have a3 : (Hc.get (W.next)).bind AObj.cs = some [cv, I least] := by rw [qc.ext.get _ (by first | omega | (simp only [hNw, hPt]; omega))]; first | assumption | (rw [gn0]; rfl) | (rw [get_put_eq] <;> rfl) | (simp (disch := first | omega | (simp only [hNw, hPt]; omega)) only [gN] <;> first | rfl | assumption | (rw [get_put_eq] <;> rfl))
    have exHa13 : Ext Ha1 Hc := Ext.trans (by (try dsimp only); repeat (first | exact exHa12 | exact Ext.refl _ | apply Ext.new | (refine Ext.put ?_ _ (by first | omega | (simp only [hNw, hPt]; omega))))) qc.ext
    have exHa23 : Ext Ha2 Hc := Ext.trans (by (try dsimp only); repeat (first | exact Ext.refl _ | exact Ext.refl _ | apply Ext.new | (refine Ext.put ?_ _ (by first | omega | (simp only [hNw, hPt]; omega))))) qc.ext
    have lct := htc.len
    have pct : tc.plain = true := lpl lct
    refine oV rfl rfl rfl rfl rfl (c38E (m + 202) cv2 tc cols least fa _ (ma2.ext (by (try dsimp only); repeat (first | exact exHa23 | exact Ext.refl _ | apply Ext.new | (refine Ext.put ?_ _ (by first | omega | (simp only [hNw, hPt]; omega)))))) (by rw [hask]; decide)) ?_; refine OkO.un rfl rfl rfl ?_; refine OkO.pick (b := true) rfl rfl (fun _ => rfl) nofun ?_; refine oM rfl rfl ?_; refine oV rfl rfl rfl rfl rfl (rfl) ?_; refine OkO.pick (b := true) rfl rfl (fun _ => rfl) nofun ?_; refine oA rfl rfl ?_; refine oN ?_
    refine Ok.ret ⟨.inr rfl, ?_⟩
    exact back_flat rfl rfl rfl (by rw [← hW]; exact (by (try dsimp only); repeat (first | exact gg3 | apply Grow.new | (refine Grow.put ?_ _ (by first | omega | (simp only [hNw, hPt]; omega))))))
set_option maxHeartbeats 2000000 in
theorem c6N2 (m : Nat) (cv tv : AV) (cols : List (List Bed)) (least fa : Int) (TT : List (List (List Int))) (own : Bool) (rw9 cn9 bd9 by9 : Int) (H : Heap) (hM : Mat H cv cols) (hT : Tab H tv TT) (hth : thinB cols = true) (hT5 : TT.length ≤ 5) (hsl : slOk cols least = true) (hin : inB fa 0 10000 = false) (hre : reachE cols least fa = 2) (hask : (if slOk cols least = true then (if inB fa 0 10000 = true then (0 : Int) else 2) else 1) = 2) : RR (m + 213) (.fn 6 [.agg [cv, I least], I fa, tv, .bool own, U8 rw9, U8 cn9, U8 bd9, .int .i8 by9]) H = some (.bool true, H) := by
  refine (R_fn _ _ _ _ _).trans ?_; refine fn_ok Try.func6 rfl rfl (by kernel_rfl) (by kernel_rfl) ?_
  obtain ⟨W, hW, hg, hN, hE, hG⟩ := wOf H
  rw [← hW]
  have pc : cv.plain = true := by obtain ⟨vs, hR, _, _⟩ := hM; exact lpl hR.len
  have hlT := hT.len
  have ptv : tv.plain = true := lpl hlT
  refine kS ?_; refine kR ?_; refine OkO.box rfl rfl ?_; refine oA rfl rfl ?_; refine oN ?_; refine kS ?_; refine kS ?_; refine kR ?_; refine oL rfl rfl (qlg7 2) ?_; refine oV rfl rfl rfl rfl rfl ((c16 (m + 211) cv cols least _ (hM.ext (hE _ (by (try dsimp only); repeat (first | exact hG | apply Grow.new | (refine Grow.put ?_ _ (by first | omega | (simp only [hNw, hPt]; omega)))))))).trans (by rw [hth])) ?_; refine OkO.un rfl rfl rfl ?_; refine oM rfl rfl ?_; refine oM rfl rfl ?_; refine oB rfl rfl rfl qbl ?_; refine OkO.bin rfl rfl rfl ((bin_gtr _ _).trans (congrArg (fun b => some (AV.bool b)) (show _ = false from (by rw [decide_eq_false_iff_not]; omega)))) ?_; refine OkO.pick (b := false) rfl rfl nofun (fun _ => rfl) ?_; refine oN ?_; refine Ok.condF rfl ?_; refine Ok.skip ?_; refine kS ?_; refine kS ?_; refine kR ?_; refine oA rfl rfl ?_; refine oN ?_; refine Ok.block ?_
  obtain ⟨G6, hG6⟩ : ∃ G6, G6 = W.new (.cells [cv, I least] 24) := ⟨_, rfl⟩
  have e6 : (G6.get W.next).bind AObj.cs = some [cv, I least] := by rw [hG6, gn0]; rfl
  have g6 : Grow W G6 := by rw [hG6]; exact hG.new _
  have n6 : W.next + 1 ≤ G6.next := by rw [hG6]; simp
  refine Ok.loop (fun n9 s_ => ∃ i : Nat, n9 = TT.length - i ∧ i ≤ TT.length ∧ (∀ R ∈ TT.take i, (R.length ≤ 15 ∧ ∀ l ∈ R, l.length ≤ 8)) ∧ Has 8 [(1, I fa), (2, tv), (3, .bool own), (4, U8 rw9), (5, U8 cn9), (6, U8 bd9), (7, .int .i8 by9), (8, .ptr W.next 0), (17, I (i : Int))] s_.T ∧ s_.D = [] ∧ G6 = s_.H) (TT.length) (by unfold loopFuel; omega)
    ⟨0, rfl, Nat.zero_le _, (fun R h => absurd h (by simp)), Has.of (by kernel_rfl), rfl, hG6⟩ ?_
  rintro nn_ ⟨T, D, G⟩ ⟨i, hn9_, hi, hOK, ⟨f_, hTT⟩, hD, hgE⟩
  dsimp only at *
  subst hTT hD
  skip
  subst hgE
  refine kS ?_; refine kS ?_; refine kR ?_; refine oM rfl rfl ?_; refine oM rfl rfl ?_; refine oB rfl rfl rfl qbl ?_; refine OkO.bin rfl rfl rfl (bin_lss _ _) ?_; refine oN ?_
  refine Ok.cond rfl (fun h1 => ?_) (fun h1 => ?_)
  · have hlt : i < TT.length := by simpa using h1
    obtain ⟨xr, rb, ro, rcs, t1, t2, t3, t4, t5⟩ := (hT.ext (hE _ g6)).get i hlt
    have lq := t5.len
    have pxr : xr.plain = true := lpl lq
    refine Ok.skip ?_; refine kS ?_; refine Ok.block ?_; refine kS ?_; refine kS ?_; refine kR ?_; refine oM rfl rfl ?_; refine oM rfl rfl ?_; refine qX (sz := 1) (n := i) rfl rfl rfl ?_; refine oL rfl rfl (qla0 1) ?_; refine oB rfl rfl rfl qbl ?_; refine OkO.bin rfl rfl rfl (bin_gtr _ _) ?_; refine oN ?_
    refine Ok.cond rfl (fun h2 => ?_) (fun h2 => ?_)
    · refine kS ?_
      refine kR ?_; refine oV rfl rfl rfl rfl rfl (rfl) ?_; refine oA rfl rfl ?_; refine oN ?_
      refine Ok.ret ⟨.inr rfl, ?_⟩
      exact back_flat rfl rfl rfl (by rw [← hW]; exact g6)
    · have hl15 : TT[i].length ≤ 15 := by (have h9 : ¬ (15 : Int) < (TT[i].length : Int) := by simpa using h2); omega
      refine Ok.skip ?_; refine kS ?_; refine kR ?_; refine oA rfl rfl ?_; refine oN ?_; refine Ok.block ?_
      refine Ok.loop (fun n8 s_ => ∃ j : Nat, n8 = TT[i].length - j ∧ j ≤ TT[i].length ∧ (∀ l ∈ TT[i].take j, l.length ≤ 8) ∧ Has 8 [(1, I fa), (2, tv), (3, .bool own), (4, U8 rw9), (5, U8 cn9), (6, U8 bd9), (7, .int .i8 by9), (8, .ptr W.next 0), (17, I (i : Int)), (18, I (j : Int))] s_.T ∧ s_.D = [] ∧ G6 = s_.H) (TT[i].length) (by unfold loopFuel; omega)
        ⟨0, rfl, Nat.zero_le _, (fun l h => absurd h (by simp)), Has.of (by kernel_rfl), rfl, rfl⟩ ?_
      rintro nn_ ⟨T, D, G⟩ ⟨j, hn8_, hj, hOKj, ⟨f2_, hTT⟩, hD, hgE⟩
      dsimp only at *
      subst hTT hD
      skip
      subst hgE
      refine kS ?_; refine kS ?_; refine kR ?_; refine oM rfl rfl ?_; refine oM rfl rfl ?_; refine oM rfl rfl ?_; refine qX (sz := 1) (n := i) rfl rfl rfl ?_; refine oL rfl rfl (qla0 1) ?_; refine oB rfl rfl rfl qbl ?_; refine OkO.bin rfl rfl rfl (bin_lss _ _) ?_; refine oN ?_
      refine Ok.cond rfl (fun h3 => ?_) (fun h3 => ?_)
      · have hlt2 : j < TT[i].length := by simpa using h3
        obtain ⟨xl, cb, co, ccs, s1, s2, s3, s4, s5⟩ := t5.get j hlt2
        have lq2 := Row.len s5
        rw [List.length_map] at lq2
        have pxl : xl.plain = true := lpl lq2
        refine Ok.skip ?_; refine kS ?_; refine Ok.block ?_; refine kS ?_; refine kR ?_; refine oM rfl rfl ?_; refine oM rfl rfl ?_; refine qX (sz := 1) (n := i) rfl rfl rfl ?_; refine oL rfl rfl (qla0 1) ?_; refine oM rfl rfl ?_; refine qX (sz := 1) (n := j) rfl rfl rfl ?_; refine oL rfl rfl (qla0 1) ?_; refine oB rfl rfl rfl qbl ?_; refine OkO.bin rfl rfl rfl (bin_gtr _ _) ?_; refine oN ?_
        refine Ok.cond rfl (fun h4 => ?_) (fun h4 => ?_)
        · refine kS ?_
          refine kR ?_; refine oV rfl rfl rfl rfl rfl (rfl) ?_; refine oA rfl rfl ?_; refine oN ?_
          refine Ok.ret ⟨.inr rfl, ?_⟩
          exact back_flat rfl rfl rfl (by rw [← hW]; exact g6)
        · have hl8 : TT[i][j].length ≤ 8 := by (have h9 : ¬ (8 : Int) < (TT[i][j].length : Int) := by simpa using h4); omega
          refine Ok.skip ?_; refine kR ?_; refine oM rfl rfl ?_; refine OkO.bin rfl rfl rfl (bin_add (by omega) (by omega)) ?_; refine oA rfl rfl ?_; refine oN ?_
          refine ⟨TT[i].length - (j + 1), by omega, j + 1, rfl, by omega, fun l hl => ?_, Has.of (by kernel_rfl), rfl, rfl⟩
          rw [List.take_succ_eq_append_getElem hlt2, List.mem_append, List.mem_singleton] at hl
          rcases hl with hl | hl
          · exact hOKj l hl
          · rw [hl]; exact hl8
      · have hge2 : j = TT[i].length := by (have h9 : ¬ j < TT[i].length := by simpa using h3); omega
        rw [hge2, List.take_length] at hOKj
        have hOKl := hOKj
        refine Ok.exit ?_; refine kR ?_; refine oM rfl rfl ?_; refine OkO.bin rfl rfl rfl (bin_add (by omega) (by omega)) ?_; refine oA rfl rfl ?_; refine oN ?_
        refine ⟨TT.length - (i + 1), by omega, i + 1, rfl, by omega, fun R hR => ?_, Has.of (by kernel_rfl), rfl, rfl⟩
        rw [List.take_succ_eq_append_getElem hlt, List.mem_append, List.mem_singleton] at hR
        rcases hR with hR | hR
        · exact hOK R hR
        · rw [hR]; exact ⟨hl15, hOKl⟩
  · have hge : i = TT.length := by (have h9 : ¬ i < TT.length := by simpa using h1); omega
    rw [hge, List.take_length] at hOK
    refine Ok.exit ?_; refine kS ?_; refine kR ?_; refine oL rfl rfl (qlg7 2) ?_; refine oE rfl rfl rfl rfl rfl (c19 (m + 210) cv cols least _ (hM.ext (hE _ (by (try dsimp only); repeat (first | exact g6 | apply Grow.new | (refine Grow.put ?_ _ (by first | omega | (simp only [hNw, hPt]; omega))))))) hth) ?_
    rintro _ Ha1 ⟨cv1, rfl, qa1, fa1⟩
    have n1 := qa1.ext.next
    try simp only [hNw, hPt] at n1
    have gg1 : Grow W Ha1 := Grow.ret (by (try dsimp only); repeat (first | exact g6 | apply Grow.new | (refine Grow.put ?_ _ (by first | omega | (simp only [hNw, hPt]; omega))))) qa1
    have a1 : (Ha1.get (W.next)).bind AObj.cs = some [cv, I least] := by rw [qa1.ext.get _ (by first | omega | (simp only [hNw, hPt]; omega))]; first | assumption | (rw [gn0]; rfl) | (rw [get_put_eq] <;> rfl) | (simp (disch := first | omega | (simp only [hNw, hPt]; omega)) only [gN] <;> first | rfl | assumption | (rw [get_put_eq] <;> rfl))
    have ma1 := fa1.now (Nat.le_refl _)
    have pc1 : cv1.plain = true := by obtain ⟨vs, hR, _, _⟩ := ma1; exact lpl hR.len
    refine oM rfl rfl ?_; refine oV rfl rfl rfl rfl rfl ((c36E (m + 1) cv1 cols least fa _ ma1 (by rw [hre]; decide)).trans (by rw [hre])) ?_; refine oM rfl rfl ?_; refine OkO.extract rfl rfl rfl ?_; refine OkO.extract rfl rfl rfl ?_; refine oA rfl rfl ?_; refine oA rfl rfl ?_; refine oN ?_; refine kS ?_; refine kR ?_; refine oL rfl rfl (qlg7 2) ?_; refine oV rfl rfl rfl rfl rfl ((c23 (m + 210) cv cols least _ (hM.ext (hE _ (by (try dsimp only); repeat (first | exact gg1 | apply Grow.new | (refine Grow.put ?_ _ (by first | omega | (simp only [hNw, hPt]; omega)))))))).trans (by rw [hsl])) ?_; refine oM rfl rfl ?_; refine oM rfl rfl ?_; refine oV rfl rfl rfl rfl rfl ((c37 (m + 211) fa 0 10000 _).trans (by rw [hin])) ?_; refine OkO.pick (b := true) rfl rfl (fun _ => rfl) nofun ?_; refine oA rfl rfl ?_; refine oN ?_; refine kS ?_; refine kS ?_; refine kR ?_; refine oM rfl rfl ?_; refine OkO.un rfl rfl rfl ?_; refine oN ?_; refine Ok.condT rfl ?_; refine kS ?_; refine kR ?_; refine oA rfl rfl ?_; refine oN ?_; refine kS ?_; refine kS ?_; refine kR ?_; refine oL rfl rfl (qlg7 2) ?_; refine oV rfl rfl rfl rfl rfl ((c23 (m + 210) cv cols least _ (hM.ext (hE _ (by (try dsimp only); repeat (first | exact gg1 | apply Grow.new | (refine Grow.put ?_ _ (by first | omega | (simp only [hNw, hPt]; omega)))))))).trans (by rw [hsl])) ?_; refine OkO.un rfl rfl rfl ?_; refine oN ?_; refine Ok.condF rfl ?_; refine Ok.skip ?_; refine kS ?_; refine kR ?_; refine oM rfl rfl ?_; refine oM rfl rfl ?_; refine OkO.bin rfl rfl rfl ((bin_eql _ _).trans (congrArg (fun b => some (AV.bool b)) (show _ = true from (by rfl)))) ?_; refine oM rfl rfl ?_; refine oM rfl rfl ?_; refine oB rfl rfl rfl qbl ?_; refine OkO.bin rfl rfl rfl ((bin_eql _ _).trans (congrArg (fun b => some (AV.bool b)) (show _ = true from (by rfl)))) ?_; refine OkO.pick (b := true) rfl rfl (fun _ => rfl) nofun ?_; refine oM rfl rfl ?_; refine oL rfl rfl (qlg7 2) ?_; refine oE rfl rfl rfl rfl rfl (c19 (m + 210) cv cols least _ (hM.ext (hE _ (by (try dsimp only); repeat (first | exact gg1 | apply Grow.new | (refine Grow.put ?_ _ (by first | omega | (simp only [hNw, hPt]; omega))))))) hth) ?_
    rintro _ Ha2 ⟨cv2, rfl, qa2, fa2⟩
    have n2 := qa2.ext.next
    try simp only [hNw, hPt] at n2
    have gg2 : Grow W Ha2 := Grow.ret (by (try dsimp only); repeat (first | exact gg1 | apply Grow.new | (refine Grow.put ?_ _ (by first | omega | (simp only [hNw, hPt]; omega))))) qa2
    have a2 : (Ha2.get (W.next)).bind AObj.cs = some [cv, I least] := by rw [qa2.ext.get _ (by first | omega | (simp only [hNw, hPt]; omega))]; first | assumption | (rw [gn0]; rfl) | (rw [get_put_eq] <;> rfl) | (simp (disch := first | omega | (simp only [hNw, hPt]; omega)) only [gN] <;> first | rfl | assumption | (rw [get_put_eq] <;> rfl))
    have exHa12 : Ext Ha1 Ha2 := Ext.trans (by (try dsimp only); repeat (first | exact Ext.refl _ | exact Ext.refl _ | apply Ext.new | (refine Ext.put ?_ _ (by first | omega | (simp only [hNw, hPt]; omega))))) qa2.ext
    have ma2 := fa2.now (Nat.le_refl _)
    have pc2 : cv2.plain = true := by obtain ⟨vs, hR, _, _⟩ := ma2; exact lpl hR.len
    refine oM rfl rfl ?_; refine oM rfl rfl ?_; refine oE rfl rfl rfl rfl rfl (c39 (m + 210) tv TT _ (hT.ext (hE _ (by (try dsimp only); repeat (first | exact gg2 | apply Grow.new | (refine Grow.put ?_ _ (by first | omega | (simp only [hNw, hPt]; omega))))))) (by omega) (fun R hR => by (have h9 := (hOK R hR).1); omega) (fun R hR l hl => by (have h9 := (hOK R hR).2 l hl); omega)) ?_
    rintro tc Hc ⟨qc, htc⟩
    have n3 := qc.ext.next
    try simp only [hNw, hPt] at n3
    have gg3 : Grow W Hc := Grow.ret (by (try dsimp only); repeat (first | exact gg2 | apply Grow.new | (refine Grow.put ?_ _ (by first | omega | (simp only [hNw, hPt]; omega))))) qc
    have a3 : (Hc.get (W.next)).bind AObj.cs = some [cv, I least] := by rw [qc.ext.get _ (by first | omega | (simp only [hNw, hPt]; omega))]; first | assumption | (rw [gn0]; rfl) | (rw [get_put_eq] <;> rfl) | (simp (disch := first | omega | (simp only [hNw, hPt]; omega)) only [gN] <;> first | rfl | assumption | (rw [get_put_eq] <;> rfl))
    have exHa13 : Ext Ha1 Hc := Ext.trans (by (try dsimp only); repeat (first | exact exHa12 | exact Ext.refl _ | apply Ext.new | (refine Ext.put ?_ _ (by first | omega | (simp only [hNw, hPt]; omega))))) qc.ext
    have exHa23 : Ext Ha2 Hc := Ext.trans (by (try dsimp only); repeat (first | exact Ext.refl _ | exact Ext.refl _ | apply Ext.new | (refine Ext.put ?_ _ (by first | omega | (simp only [hNw, hPt]; omega))))) qc.ext
    have lct := htc.len
    have pct : tc.plain = true := lpl lct
    refine oV rfl rfl rfl rfl rfl (c38E (m + 202) cv2 tc cols least fa _ (ma2.ext (by (try dsimp only); repeat (first | exact exHa23 | exact Ext.refl _ | apply Ext.new | (refine Ext.put ?_ _ (by first | omega | (simp only [hNw, hPt]; omega)))))) (by rw [hask]; decide)) ?_; refine OkO.un rfl rfl rfl ?_; refine OkO.pick (b := true) rfl rfl (fun _ => rfl) nofun ?_; refine oM rfl rfl ?_; refine oV rfl rfl rfl rfl rfl (rfl) ?_; refine OkO.pick (b := true) rfl rfl (fun _ => rfl) nofun ?_; refine oA rfl rfl ?_; refine oN ?_
    refine Ok.ret ⟨.inr rfl, ?_⟩
    exact back_flat rfl rfl rfl (by rw [← hW]; exact (by (try dsimp only); repeat (first | exact gg3 | apply Grow.new | (refine Grow.put ?_ _ (by first | omega | (simp only [hNw, hPt]; omega))))))
end
end Go.Ev

