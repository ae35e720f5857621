/-
  Functions of the program, reckoned by the evaluator: what each answers, and that it leaves what came in as it was (part 17).
-/
import Derived.Test.YtibplmibcbillaaV15
import Derived.Test.YtibplmibcbillaaEvY
import Derived.WideShapes
set_option maxRecDepth 100000
set_option linter.unusedSimpArgs false
set_option linter.unusedVariables false
namespace Go.Ev
open Go Go.Proofs Go.RowKit
noncomputable section
theorem cells3 : Try.prog.cellsOf 3 = 1 := by kernel_rfl
theorem cells24 : Try.prog.cellsOf 24 = 2 := by kernel_rfl
theorem cells91 : Try.prog.cellsOf 91 = 7 := by kernel_rfl
theorem cells118 : Try.prog.cellsOf 118 = 3 := by kernel_rfl
theorem cells22 : Try.prog.cellsOf 22 = 1 := by kernel_rfl
theorem cells27 : Try.prog.cellsOf 27 = 1 := by kernel_rfl
theorem cells26 : Try.prog.cellsOf 26 = 6 := by kernel_rfl
theorem cells64 : Try.prog.cellsOf 64 = 1 := by kernel_rfl
theorem cells28 : Try.prog.cellsOf 28 = 1 := by kernel_rfl
theorem cells30 : Try.prog.cellsOf 30 = 4 := by kernel_rfl
variable {H0 : Type} {enc : TypeId × Value → H0} {w : World} {base : Nat} {sp : Nat → Bool} {hd : Bool} {n : Nat}
theorem int_open {c : List Value} {y} (h : DataW.trod enc Try.prog w base sp hd n 3 c = some y) : ∃ x : Int, c = [.int .i64 x] := by
  obtain ⟨x, h1, _, _⟩ := DataW.trod_int Try.underlying3 h
  exact ⟨x, h1⟩
theorem u16_open {c : List Value} {y} (h : DataW.trod enc Try.prog w base sp hd n 64 c = some y) : ∃ x : Int, c = [.int .u16 x] ∧ 0 ≤ x ∧ x ≤ 65535 := by
  obtain ⟨x, h1, _, hw⟩ := DataW.trod_int Try.underlying64 h
  refine ⟨x, h1, ?_⟩
  have h2 : (decide (IntKind.min .u16 ≤ x) && decide (x ≤ IntKind.max .u16)) = true := hw
  rw [Bool.and_eq_true] at h2
  have h3 := of_decide_eq_true h2.1
  have h4 := of_decide_eq_true h2.2
  have e1 : IntKind.min .u16 = 0 := by decide
  have e2 : IntKind.max .u16 = 65535 := by decide
  omega
theorem pair_open {c : List Value} {y} (h : DataW.trod enc Try.prog w base sp hd n 24 c = some y) : ∃ a b : Int, c = [.int .i64 a, .int .i64 b] := by
  obtain ⟨xs, k, _, _, hl, hx, hf⟩ := DataW.trod_struct Try.underlying24 h
  rw [cells24] at hl
  match c, hl with
  | [p, q], _ =>
    have h0 : DataW.trod enc Try.prog w base sp hd k 3 (([p, q].drop 0).take (Try.prog.cellsOf 3)) = xs[0]? := hf 0 _ rfl
    have h1 : DataW.trod enc Try.prog w base sp hd k 3 (([p, q].drop 1).take (Try.prog.cellsOf 3)) = xs[1]? := hf 1 _ rfl
    rw [cells3] at h0 h1
    match xs, hx with
    | [x0, x1], _ =>
      obtain ⟨a, ha⟩ := int_open h0
      obtain ⟨b, hb⟩ := int_open h1
      simp at ha hb
      exact ⟨a, b, by rw [ha, hb]⟩
theorem cell_open {c : List Value} {y} (h : DataW.trod enc Try.prog w base sp hd n 91 c = some y) : ∃ b : Cell, ∀ k, toAVs k c = b.c := by
  obtain ⟨xs, k, _, _, hl, hx, hf⟩ := DataW.trod_struct Try.underlying91 h
  rw [cells91] at hl
  match c, hl with
  | [c0, c1, c2, c3, c4, c5, c6], _ =>
    have h0 : DataW.trod enc Try.prog w base sp hd k 24 (([c0, c1, c2, c3, c4, c5, c6].drop 0).take (Try.prog.cellsOf 24)) = xs[0]? := hf 0 _ rfl
    rw [cells24] at h0
    have h1 : DataW.trod enc Try.prog w base sp hd k 3 (([c0, c1, c2, c3, c4, c5, c6].drop 2).take (Try.prog.cellsOf 3)) = xs[1]? := hf 1 _ rfl
    rw [cells3] at h1
    have h2 : DataW.trod enc Try.prog w base sp hd k 3 (([c0, c1, c2, c3, c4, c5, c6].drop 3).take (Try.prog.cellsOf 3)) = xs[2]? := hf 2 _ rfl
    rw [cells3] at h2
    have h3 : DataW.trod enc Try.prog w base sp hd k 3 (([c0, c1, c2, c3, c4, c5, c6].drop 4).take (Try.prog.cellsOf 3)) = xs[3]? := hf 3 _ rfl
    rw [cells3] at h3
    have h4 : DataW.trod enc Try.prog w base sp hd k 3 (([c0, c1, c2, c3, c4, c5, c6].drop 5).take (Try.prog.cellsOf 3)) = xs[4]? := hf 4 _ rfl
    rw [cells3] at h4
    have h5 : DataW.trod enc Try.prog w base sp hd k 3 (([c0, c1, c2, c3, c4, c5, c6].drop 6).take (Try.prog.cellsOf 3)) = xs[5]? := hf 5 _ rfl
    rw [cells3] at h5
    match xs, hx with
    | [x0, x1, x2, x3, x4, x5], _ =>
      obtain ⟨a0_0, a0_1, e0⟩ := pair_open h0
      obtain ⟨a1_0, e1⟩ := int_open h1
      obtain ⟨a2_0, e2⟩ := int_open h2
      obtain ⟨a3_0, e3⟩ := int_open h3
      obtain ⟨a4_0, e4⟩ := int_open h4
      obtain ⟨a5_0, e5⟩ := int_open h5
      simp at e0 e1 e2 e3 e4 e5
      refine ⟨⟨a0_0, a0_1, a1_0, a2_0, a3_0, a4_0, a5_0⟩, fun k => ?_⟩
      rw [e0.1, e0.2, e1, e2, e3, e4, e5]
      rfl
theorem day_open {c : List Value} {y} (h : DataW.trod enc Try.prog w base sp hd n 118 c = some y) : ∃ b : Day, ∀ k, toAVs k c = b.c := by
  obtain ⟨xs, k, _, _, hl, hx, hf⟩ := DataW.trod_struct Try.underlying118 h
  rw [cells118] at hl
  match c, hl with
  | [c0, c1, c2], _ =>
    have h0 : DataW.trod enc Try.prog w base sp hd k 24 (([c0, c1, c2].drop 0).take (Try.prog.cellsOf 24)) = xs[0]? := hf 0 _ rfl
    rw [cells24] at h0
    have h1 : DataW.trod enc Try.prog w base sp hd k 3 (([c0, c1, c2].drop 2).take (Try.prog.cellsOf 3)) = xs[1]? := hf 1 _ rfl
    rw [cells3] at h1
    match xs, hx with
    | [x0, x1], _ =>
      obtain ⟨a0_0, a0_1, e0⟩ := pair_open h0
      obtain ⟨a1_0, e1⟩ := int_open h1
      simp at e0 e1
      refine ⟨⟨a0_0, a0_1, a1_0⟩, fun k => ?_⟩
      rw [e0.1, e0.2, e1]
      rfl
/-- One of each, chosen: a list of what each element has. -/
theorem choose_list {α β : Type} {R : α → β → Prop} : ∀ l : List α, (∀ x ∈ l, ∃ y, R x y) → ∃ m : List β, m.length = l.length ∧ ∀ (i : Nat) x y, l[i]? = some x → m[i]? = some y → R x y := by
  intro l
  induction l with
  | nil => exact fun _ => ⟨[], rfl, fun i x y h => by simp at h⟩
  | cons a t ih =>
    intro h
    obtain ⟨y, hy⟩ := h a (by simp)
    obtain ⟨m, hm, hr⟩ := ih fun x hx => h x (by simp [hx])
    refine ⟨y :: m, by simp [hm], fun i x z h1 h2 => ?_⟩
    cases i with
    | zero => simp at h1 h2; subst h1; subst h2; exact hy
    | succ i => exact hr i x z (by simpa using h1) (by simpa using h2)
theorem map_of_get {α β : Type} {f : α → β} {l : List α} {m : List β} (hl : m.length = l.length) (h : ∀ (i : Nat) x y, l[i]? = some x → m[i]? = some y → f x = y) : l.map f = m := by
  apply List.ext_getElem (by simp [hl])
  intro i h1 h2
  have hi : i < l.length := by simpa using h1
  rw [List.getElem_map]
  exact h i _ _ (List.getElem?_eq_getElem hi) (List.getElem?_eq_getElem h2)
theorem cells_open {H : Heap} (hs : Snap w H) {v : Value} {y} (h : DataW.trod enc Try.prog w base sp hd n 22 [v] = some y) : ∃ l : List Cell, Row H (toAV w.heap.size v) 7 (l.map Cell.c) := by
  obtain ⟨l, hR, _, hl⟩ := hs.slice Try.underlying22 cells91 (by decide) h
  obtain ⟨m, hm, hr⟩ := choose_list (R := fun c (b : Cell) => ∀ k, toAVs k c = b.c) l fun c hc => by
    obtain ⟨_, n', y', hy⟩ := hl c hc
    exact cell_open hy
  refine ⟨m, ?_⟩
  have : l.map (toAVs w.heap.size) = m.map Cell.c := map_of_get (by simp [hm]) fun i x z h1 h2 => by
    rw [List.getElem?_map, Option.map_eq_some_iff] at h2
    obtain ⟨b, h3, rfl⟩ := h2
    exact hr i x b h1 h3 _
  rwa [this] at hR
theorem days_open {H : Heap} (hs : Snap w H) {v : Value} {y} (h : DataW.trod enc Try.prog w base sp hd n 27 [v] = some y) : ∃ l : List Day, Row H (toAV w.heap.size v) 3 (l.map Day.c) := by
  obtain ⟨l, hR, _, hl⟩ := hs.slice Try.underlying27 cells118 (by decide) h
  obtain ⟨m, hm, hr⟩ := choose_list (R := fun c (b : Day) => ∀ k, toAVs k c = b.c) l fun c hc => by
    obtain ⟨_, n', y', hy⟩ := hl c hc
    exact day_open hy
  refine ⟨m, ?_⟩
  have : l.map (toAVs w.heap.size) = m.map Day.c := map_of_get (by simp [hm]) fun i x z h1 h2 => by
    rw [List.getElem?_map, Option.map_eq_some_iff] at h2
    obtain ⟨b, h3, rfl⟩ := h2
    exact hr i x b h1 h3 _
  rwa [this] at hR
theorem words_open {H : Heap} (hs : Snap w H) {v : Value} {y} (h : DataW.trod enc Try.prog w base sp hd n 85 [v] = some y) : ∃ us : List Int, Row H (toAV w.heap.size v) 1 (us.map fun n => [U n]) ∧ Upto 65535 us := by
  obtain ⟨l, hR, _, hl⟩ := hs.slice Try.underlying85 cells64 (by decide) h
  obtain ⟨us, hus, hr⟩ := choose_list (R := fun c (x : Int) => c = [.int .u16 x] ∧ 0 ≤ x ∧ x ≤ 65535) l fun c hc => by
    obtain ⟨_, n', y', hy⟩ := hl c hc
    exact u16_open hy
  refine ⟨us, ?_, fun z hz => ?_⟩
  · have : l.map (toAVs w.heap.size) = us.map fun n => [U n] := map_of_get (by simp [hus]) fun i x z h1 h2 => by
      rw [List.getElem?_map, Option.map_eq_some_iff] at h2
      obtain ⟨b, h3, rfl⟩ := h2
      rw [(hr i x b h1 h3).1]
      rfl
    rwa [this] at hR
  · obtain ⟨i, hi, rfl⟩ := List.mem_iff_getElem.1 hz
    exact (hr i (l[i]'(by omega)) us[i] (List.getElem?_eq_getElem (by omega)) (List.getElem?_eq_getElem hi)).2
theorem ints_open {H : Heap} (hs : Snap w H) {v : Value} {y} (h : DataW.trod enc Try.prog w base sp hd n 28 [v] = some y) : ∃ us : List Int, Ints H (toAV w.heap.size v) us := by
  obtain ⟨l, hR, _, hl⟩ := hs.slice Try.underlying28 cells3 (by decide) h
  obtain ⟨us, hus, hr⟩ := choose_list (R := fun c (x : Int) => c = [.int .i64 x]) l fun c hc => by
    obtain ⟨_, n', y', hy⟩ := hl c hc
    exact int_open hy
  refine ⟨us, ?_⟩
  have : l.map (toAVs w.heap.size) = us.map fun n => [I n] := map_of_get (by simp [hus]) fun i x z h1 h2 => by
    rw [List.getElem?_map, Option.map_eq_some_iff] at h2
    obtain ⟨b, h3, rfl⟩ := h2
    rw [hr i x b h1 h3]
    rfl
  unfold Ints
  rwa [this] at hR
/-- A ground at hand. -/
theorem ground_arg {H : Heap} (hs : Snap w H) {v : Value} {d : DataW H0} {p : List MemPlace} (hv : ∃ cs, v = .agg cs ∧ cs.size = Try.prog.cellsOf 26) (h : DataW.Trod enc Try.prog w base sp hd 26 v d p) :
    ∃ (cv : AV) (cs : List Cell) (g : Gr), argAV w.heap.size v = .agg [cv, I g.slo, I g.shi, I g.klo, I g.khi, I g.melt] ∧ Row H cv 7 (cs.map Cell.c) := by
  obtain ⟨cs, rfl, hsz⟩ := hv
  obtain ⟨fuel, h⟩ := h
  obtain ⟨xs, k, _, _, hl, hx, hf⟩ := DataW.trod_struct Try.underlying26 h
  rw [cells26] at hsz
  obtain ⟨cl⟩ := cs
  match cl, hsz with
  | [c0, c1, c2, c3, c4, c5], _ =>
    have h0 : DataW.trod enc Try.prog w base sp hd k 22 (([c0, c1, c2, c3, c4, c5].drop 0).take (Try.prog.cellsOf 22)) = xs[0]? := hf 0 _ rfl
    have h1 : DataW.trod enc Try.prog w base sp hd k 24 (([c0, c1, c2, c3, c4, c5].drop 1).take (Try.prog.cellsOf 24)) = xs[1]? := hf 1 _ rfl
    have h2 : DataW.trod enc Try.prog w base sp hd k 24 (([c0, c1, c2, c3, c4, c5].drop 3).take (Try.prog.cellsOf 24)) = xs[2]? := hf 2 _ rfl
    have h3 : DataW.trod enc Try.prog w base sp hd k 3 (([c0, c1, c2, c3, c4, c5].drop 5).take (Try.prog.cellsOf 3)) = xs[3]? := hf 3 _ rfl
    rw [cells22] at h0
    rw [cells24] at h1 h2
    rw [cells3] at h3
    match xs, hx with
    | [x0, x1, x2, x3], _ =>
      obtain ⟨cs, hc⟩ := cells_open hs (v := c0) h0
      obtain ⟨a, b, e1⟩ := pair_open h1
      obtain ⟨e, f, e2⟩ := pair_open h2
      obtain ⟨z, e3⟩ := int_open h3
      simp at e1 e2 e3
      refine ⟨_, cs, ⟨a, b, e, f, z⟩, ?_, hc⟩
      rw [e1.1, e1.2, e2.1, e2.2, e3]
      rfl
theorem days_arg {H : Heap} (hs : Snap w H) {v : Value} {d : DataW H0} {p : List MemPlace} (hv : ∃ a len cap, v = .slice a len cap) (h : DataW.Trod enc Try.prog w base sp hd 27 v d p) :
    ∃ (dv : AV) (ds : List Day), argAV w.heap.size v = dv ∧ Row H dv 3 (ds.map Day.c) := by
  obtain ⟨a, len, cap, rfl⟩ := hv
  obtain ⟨fuel, h⟩ := h
  obtain ⟨ds, hR⟩ := days_open hs (v := .slice a len cap) h
  exact ⟨_, ds, rfl, hR⟩
theorem words_arg {H : Heap} (hs : Snap w H) {v : Value} {d : DataW H0} {p : List MemPlace} (hv : ∃ a len cap, v = .slice a len cap) (h : DataW.Trod enc Try.prog w base sp hd 85 v d p) :
    ∃ (wv : AV) (ws : List Int), argAV w.heap.size v = wv ∧ Row H wv 1 (ws.map fun n => [U n]) ∧ Upto 65535 ws := by
  obtain ⟨a, len, cap, rfl⟩ := hv
  obtain ⟨fuel, h⟩ := h
  obtain ⟨ws, hR, hb⟩ := words_open hs (v := .slice a len cap) h
  exact ⟨_, ws, rfl, hR, hb⟩
end
end Go.Ev
