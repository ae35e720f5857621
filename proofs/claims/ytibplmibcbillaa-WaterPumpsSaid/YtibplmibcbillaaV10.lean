/-
  Functions of the program, reckoned by the evaluator: what each answers, and that it leaves what came in as it was (part 10).
-/
import Derived.Test.YtibplmibcbillaaV9
set_option maxRecDepth 100000
set_option linter.unusedSimpArgs false
set_option linter.unusedVariables false
namespace Go.Ev
open Go Go.Proofs
noncomputable section
/-- What is appended to an empty slice that was just made, if it is anything. -/
theorem app_lit2 {P : Program} {G : Heap} {t u e el : TypeId} {sz by_ : Nat} {x : AV} {rows : List (List AV)} (hu : isSlice P u = true) (ht : elemTI P t = some (e, sz, by_)) (hr : Row (G.new (.cells [] el)) x sz rows) (hs : ∀ y ∈ rows, y.length = sz)
    (hb : rows.length * (by_ + 1) ≤ 4294967296) (hz : 0 < sz) (ha : atoms rows.flatten = true) (hn : 0 < rows.length) :
    builtinF P (G.new (.cells [] el)) .append [t, u] [.slice G.next 0 0 0, x] = some (.val (.opn (G.next + 1) rows.length) ((G.new (.cells [] el)).new (.opn rows.flatten e sz))) := by
  have he := hr.elems hs
  have hl := hr.len
  have e1 : builtinF P (G.new (.cells [] el)) .append [t, u] [.slice G.next 0 0 0, x] = (append P (G.new (.cells [] el)) t (.slice G.next 0 0 0) x).map fun (v, H) => .val v H := by
    show (appendT P _ t u _ x).map _ = _
    unfold appendT
    unfold isSlice at hu
    split at hu
    · rename_i e; rw [e]
    · cases hu
  have e2 := append_go (s := .slice G.next 0 0 0) ht he hl rfl (by simpa using hb) hz ha
  rw [e1, e2]
  unfold append.appendGo
  dsimp only
  rw [show Nat.ble (0 + rows.length) 0 = false from by cases h : Nat.ble (0 + rows.length) 0 with | false => rfl | true => (have := Nat.le_of_ble_eq_true h; omega)]
  dsimp only
  rw [show elems (G.new (.cells [] el)) (.slice G.next 0 0 0) sz = some [] from rfl]
  simp
theorem ints_of_cells {G : Heap} {b n cap : Nat} {a : List Int} {rest : List AV} {o : AObj} (h : G.get b = some o) (ho : o.cs = some (a.map I ++ rest)) (hn : n ≤ a.length) (hb : b < G.next) : Ints G (.slice b 0 n cap) (a.take n) := by
  refine ⟨by simp [lenOf, hn], fun i x k => ?_⟩
  rw [List.getElem?_map, Option.map_eq_some_iff] at k
  obtain ⟨z, k1, rfl⟩ := k
  have hi := (List.getElem?_eq_some_iff.1 k1).1
  simp only [List.length_take] at hi
  have hia : i < a.length := by omega
  refine ⟨b, 0 + i * 1, a.map I ++ rest, by simp only [slAt]; rw [if_pos (by omega)], by rw [h]; exact ho, ?_, hb⟩
  rw [List.getElem?_take, if_pos (by omega), List.getElem?_eq_getElem hia] at k1
  cases k1
  unfold seg
  rw [Nat.zero_add, Nat.mul_one, List.drop_append_of_le_length (by simp; omega), List.drop_eq_getElem_cons (by simpa using hia)]
  simp
theorem Mine.keep {k0 : Nat} {G G' : Heap} {v w : AV} {e : TypeId} {sz : Nat} {cs : List AV} (h : Mine k0 G v e sz cs) (hk : ∀ j, j < G.next → (∀ m, w ≠ .opn j m) → G'.get j = G.get j) (hsep : ∀ b m m', v = .opn b m → w ≠ .opn b m') (hn : G.next ≤ G'.next) : Mine k0 G' v e sz cs := by
  rcases h with h | ⟨b, m, h1, h2, h3, h4, h5⟩
  · exact .inl h
  · exact .inr ⟨b, m, h1, by rw [hk b h5 (fun m' => hsep b m m' h1)]; exact h2, h3, h4, Nat.lt_of_lt_of_le h5 hn⟩
theorem Mine.lt {k0 : Nat} {G : Heap} {v : AV} {e : TypeId} {sz : Nat} {cs : List AV} (h : Mine k0 G v e sz cs) {b m : Nat} (hv : v = .opn b m) : b < G.next := by
  rcases h with ⟨h, _⟩ | ⟨b', m', h1, _, _, _, h5⟩
  · rw [h] at hv; cases hv
  · rw [h1] at hv; cases hv; exact h5
/-- Lists of numbers, each in a block of its own, none of them that of either slice. -/
def RowsAt (G : Heap) (v6 v7 : AV) (vs : List AV) (rows : List (List Int)) : Prop := vs.length = rows.length ∧ ∀ (j : Nat) x r, vs[j]? = some x → rows[j]? = some r → ∃ b, x = .opn b r.length ∧ G.get b = some (.opn (r.map I) 3 1) ∧ b < G.next ∧ (∀ m, v6 ≠ .opn b m) ∧ (∀ m, v7 ≠ .opn b m)
theorem RowsAt.keep {G G' : Heap} {v6 v7 w6 w7 : AV} {vs : List AV} {rows : List (List Int)} (h : RowsAt G v6 v7 vs rows) (hk : ∀ j, j < G.next → (∀ m, v6 ≠ .opn j m) → (∀ m, v7 ≠ .opn j m) → G'.get j = G.get j) (hn : G.next ≤ G'.next)
    (h6 : ∀ b m, w6 = .opn b m → G.next ≤ b ∨ v6 = w6) (h7 : ∀ b m, w7 = .opn b m → G.next ≤ b ∨ v7 = w7) : RowsAt G' w6 w7 vs rows := by
  refine ⟨h.1, fun j x r k1 k2 => ?_⟩
  obtain ⟨b, a1, a2, a3, a4, a5⟩ := h.2 j x r k1 k2
  refine ⟨b, a1, by rw [hk b a3 a4 a5]; exact a2, by omega, fun m hm => ?_, fun m hm => ?_⟩
  · rcases h6 b m hm with h | h
    · omega
    · exact a4 m (h.trans hm)
  · rcases h7 b m hm with h | h
    · omega
    · exact a5 m (h.trans hm)
theorem RowsAt.snoc {G : Heap} {v6 v7 : AV} {vs : List AV} {rows : List (List Int)} (h : RowsAt G v6 v7 vs rows) {b : Nat} {r : List Int} (h1 : G.get b = some (.opn (r.map I) 3 1)) (h2 : b < G.next) (h3 : ∀ m, v6 ≠ .opn b m) (h4 : ∀ m, v7 ≠ .opn b m) : RowsAt G v6 v7 (vs ++ [.opn b r.length]) (rows ++ [r]) := by
  refine ⟨by simp [h.1], fun j x q k1 k2 => ?_⟩
  have hl := h.1
  by_cases hj : j < vs.length
  · rw [List.getElem?_append_left hj] at k1
    rw [List.getElem?_append_left (by omega)] at k2
    exact h.2 j x q k1 k2
  · have hj2 : j = vs.length := by
      have := (List.getElem?_eq_some_iff.1 k1).1
      simp at this; omega
    subst hj2
    simp at k1
    rw [hl] at k2
    simp at k2
    subst k1 k2
    exact ⟨b, rfl, h1, h2, h3, h4⟩
/-- A slice of lists of numbers. -/
def Lists (G : Heap) (v : AV) (rows : List (List Int)) : Prop := ∃ vs : List AV, Row G v 1 (vs.map fun x => [x]) ∧ vs.length = rows.length ∧ ∀ (j : Nat) x r, vs[j]? = some x → rows[j]? = some r → Ints G x r
theorem Lists.ext {H G : Heap} {v : AV} {rows : List (List Int)} (h : Lists H v rows) (g : Ext H G) : Lists G v rows := let ⟨vs, h1, h2, h3⟩ := h; ⟨vs, h1.ext g, h2, fun j x r k1 k2 => (h3 j x r k1 k2).ext g⟩
theorem RowsAt.lists {G G' : Heap} {v6 v7 : AV} {vs : List AV} {rows : List (List Int)} (h : RowsAt G v6 v7 vs rows) (hr : Row G' v6 1 (vs.map fun x => [x])) (hg : vs = [] ∨ ((∀ n, G'.get n = G.get n) ∧ G'.next = G.next)) : Lists G' v6 rows := by
  refine ⟨vs, hr, h.1, fun j x r k1 k2 => ?_⟩
  rcases hg with rfl | ⟨g1, g2⟩
  · simp at k1
  · obtain ⟨b, rfl, a2, a3, _, _⟩ := h.2 j x r k1 k2
    have : Mine 0 G (.opn b r.length) 3 1 ((r.map fun n => [I n]).flatten) := .inr ⟨b, r.length, rfl, by rw [ints_flat]; exact a2, by rw [ints_flat]; simp, by omega, a3⟩
    exact (this.row (fun x hx => by simp only [List.mem_map] at hx; obtain ⟨y, _, rfl⟩ := hx; rfl) (by omega)).same g1 g2
theorem singles {vs : List AV} : (vs.map fun x => [x]).flatten = vs := by induction vs with | nil => rfl | cons a l ih => simp [ih]
theorem c55 (m : Nat) (bb n cap : Nat) (us : List Int) (H : Heap) (hU : Ints H (.slice bb 0 n cap) us) (hl : us.length ≤ 1000) (h0 : 0 < us.length) : ∃ v H', RR (m + 1) (.fn 55 [.slice bb 0 n cap]) H = some (v, H') ∧ v = .opn (H.next + 1) us.length ∧ Ret H H' ∧ H'.get (H.next + 1) = some (.opn (us.map I) 3 1) ∧ H'.next = H.next + 2 := by
  show ∃ v H', evFn Try.prog (RR (m + 0)) 55 [.slice bb 0 n cap] H = some (v, H') ∧ v = .opn (H.next + 1) us.length ∧ Ret H H' ∧ H'.get (H.next + 1) = some (.opn (us.map I) 3 1) ∧ H'.next = H.next + 2
  refine fn_okE Try.func55 rfl rfl (by kernel_rfl) (by kernel_rfl) ?_
  obtain ⟨W, hW⟩ : ∃ W : Heap, W = ⟨H.t, H.next, H.next⟩ := ⟨_, rfl⟩
  have hg : ∀ n, W.get n = H.get n := fun n => by rw [hW]; rfl
  have hN : W.next = H.next := by rw [hW]
  have hE : ∀ G, Grow W G → Ext H G := fun G g => ⟨by rw [← hN]; exact g.next, fun n k => by rw [g.get n (by rw [hN]; exact k), hg]⟩
  have hG : Grow W W := Grow.refl (by rw [hW]; exact Nat.le_refl _)
  rw [← hW]
  refine Ok.seq ?_
  refine Ok.region ?_
  refine OkO.assign rfl rfl ?_
  refine OkO.nil ?_
  refine Ok.seq ?_
  refine Ok.seq ?_
  refine Ok.region ?_
  refine OkO.move rfl rfl ?_
  refine OkO.binT rfl rfl rfl (by rfl) ?_
  refine OkO.nil ?_
  refine Ok.cond rfl (fun h1 => ?_) (fun h1 => ?_)
  · -- yes h1
    refine Ok.seq ?_
    refine Ok.region ?_
    refine OkO.assign rfl rfl ?_
    refine OkO.nil ?_
    refine Ok.ret ⟨.inr rfl, ?_⟩
    exact absurd h1 (by simp)
  · -- no h1
    refine Ok.skip ?_
    refine Ok.seq ?_
    refine Ok.region ?_
    refine OkO.buildSlice (el := 3) (sz := 1) (z := [.int .i64 0]) rfl (by kernel_rfl) (by decide) rfl rfl ?_
    refine OkO.move rfl rfl ?_
    -- append
    refine OkO.builtin rfl rfl rfl (app_lit2 (el := 3) (sz := 1) (by_ := 8) (e := 3) (rows := us.map fun n => [I n]) (by kernel_rfl) (by kernel_rfl) ((hU.ext (hE _ hG)).ext (Grow.toNew _ _)) (fun x hx => by simp only [List.mem_map] at hx; obtain ⟨y, _, rfl⟩ := hx; rfl) (by simp; omega) (by omega) (by rw [ints_flat]; exact atoms_ints us) (by simpa using h0)) ?_
    refine OkO.assign rfl rfl ?_
    refine OkO.nil ?_
    refine Ok.ret ⟨.inr rfl, ?_⟩
    exact back_newQ (resV_tmp rfl resV_nil) (by rw [List.length_map, hN]; rfl) (by rw [← hW]; exact (by (try dsimp only); repeat (first | exact hG | apply Grow.new | (refine Grow.put ?_ _ (by first | omega | (simp only [hNw, hPt]; omega)))))) rfl (fun H' q1 q2 q3 => ⟨rfl, q1, by rw [q2, ← hN]; rw [ints_flat]; exact gn1 _ _ _, by rw [q3, ← hN]; rfl⟩)
end
end Go.Ev
