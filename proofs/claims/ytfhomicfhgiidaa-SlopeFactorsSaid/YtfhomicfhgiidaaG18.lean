/-
  Functions of the program, reckoned by the evaluator: what each answers, in the document's words, and that it leaves what came in as it was (part 18).
-/
import Derived.Test.YtfhomicfhgiidaaG17
import Derived.Test.YtfhomicfhgiidaaEvY
import Derived.WideShapes
set_option maxRecDepth 100000
set_option linter.unusedSimpArgs false
set_option linter.unusedVariables false
namespace Go.Ev
open Go Go.Proofs Go.RowKit
noncomputable section
theorem c4 (m : Nat) (cv bv : AV) (cols : List (List Bed)) (least fr : Int) (us : List Int) (H : Heap) (hM : Mat H cv cols) (hU : Ints H bv us) : RR (m + 10) (.fn 4 [.agg [cv, I least], .agg [I fr, bv]]) H = some (.bool true, H) := by
  by_cases hw : thinB cols = true ∧ us.length ≤ 20
  · by_cases h0 : surfErr cols least fr us = 0
    · by_cases hd : drive (bedsOf cols fr us) < 1
      · exact c4B m cv bv cols least fr us H hM hU hw.1 hw.2 h0 hd
      · exact c4C m cv bv cols least fr us H hM hU hw.1 hw.2 h0 hd
    · exact c4A m cv bv cols least fr us H hM hU hw.1 hw.2 h0
  · exact c4W m cv bv cols least fr us H hM hU hw

theorem cells3 : Try.prog.cellsOf 3 = 1 := by kernel_rfl
theorem cells50 : Try.prog.cellsOf 50 = 2 := by kernel_rfl
theorem cells100 : Try.prog.cellsOf 100 = 8 := by kernel_rfl
theorem cells97 : Try.prog.cellsOf 97 = 1 := by kernel_rfl
theorem cells22 : Try.prog.cellsOf 22 = 1 := by kernel_rfl
theorem cells25 : Try.prog.cellsOf 25 = 1 := by kernel_rfl
theorem cells24 : Try.prog.cellsOf 24 = 2 := by kernel_rfl
theorem cells27 : Try.prog.cellsOf 27 = 2 := by kernel_rfl

variable {H0 : Type} {enc : TypeId × Value → H0} {w : World} {base : Nat} {sp : Nat → Bool} {hd : Bool} {n : Nat}

theorem int_open {c : List Value} {y} (h : DataW.trod enc Try.prog w base sp hd n 3 c = some y) : ∃ x : Int, c = [.int .i64 x] := by
  obtain ⟨x, h1, _, _⟩ := DataW.trod_int Try.underlying3 h
  exact ⟨x, h1⟩
theorem pair_open {c : List Value} {y} (h : DataW.trod enc Try.prog w base sp hd n 50 c = some y) : ∃ a b : Int, c = [.int .i64 a, .int .i64 b] := by
  obtain ⟨xs, k, _, _, hl, hx, hf⟩ := DataW.trod_struct Try.underlying50 h
  rw [cells50] at hl
  match c, hl with
  | [p, q], _ =>
    have h0 : DataW.trod enc Try.prog w base sp hd k 3 (([p, q].drop 0).take (Try.prog.cellsOf 3)) = xs[0]? := hf 0 _ rfl
    have h1 : DataW.trod enc Try.prog w base sp hd k 3 (([p, q].drop 1).take (Try.prog.cellsOf 3)) = xs[1]? := hf 1 _ rfl
    rw [cells3] at h0 h1
    match xs, hx with
    | [x0, x1], _ =>
      obtain ⟨a, ha⟩ := int_open h0
      obtain ⟨b, hb⟩ := int_open h1
      simp at ha hb
      exact ⟨a, b, by rw [ha, hb]⟩
theorem bed_open {c : List Value} {y} (h : DataW.trod enc Try.prog w base sp hd n 100 c = some y) : ∃ b : Bed, ∀ k, toAVs k c = b.c := by
  obtain ⟨xs, k, _, _, hl, hx, hf⟩ := DataW.trod_struct Try.underlying100 h
  rw [cells100] at hl
  match c, hl with
  | [c0, c1, c2, c3, c4, c5, c6, c7], _ =>
    have h0 : DataW.trod enc Try.prog w base sp hd k 3 (([c0, c1, c2, c3, c4, c5, c6, c7].drop 0).take (Try.prog.cellsOf 3)) = xs[0]? := hf 0 _ rfl
    have h1 : DataW.trod enc Try.prog w base sp hd k 3 (([c0, c1, c2, c3, c4, c5, c6, c7].drop 1).take (Try.prog.cellsOf 3)) = xs[1]? := hf 1 _ rfl
    have h2 : DataW.trod enc Try.prog w base sp hd k 50 (([c0, c1, c2, c3, c4, c5, c6, c7].drop 2).take (Try.prog.cellsOf 50)) = xs[2]? := hf 2 _ rfl
    have h3 : DataW.trod enc Try.prog w base sp hd k 50 (([c0, c1, c2, c3, c4, c5, c6, c7].drop 4).take (Try.prog.cellsOf 50)) = xs[3]? := hf 3 _ rfl
    have h4 : DataW.trod enc Try.prog w base sp hd k 50 (([c0, c1, c2, c3, c4, c5, c6, c7].drop 6).take (Try.prog.cellsOf 50)) = xs[4]? := hf 4 _ rfl
    rw [cells3] at h0 h1
    rw [cells50] at h2 h3 h4
    match xs, hx with
    | [x0, x1, x2, x3, x4], _ =>
      obtain ⟨a, ha⟩ := int_open h0
      obtain ⟨b, hb⟩ := int_open h1
      obtain ⟨e, f, he⟩ := pair_open h2
      obtain ⟨g, i, hg⟩ := pair_open h3
      obtain ⟨j, l, hj⟩ := pair_open h4
      simp at ha hb he hg hj
      refine ⟨⟨a, b, e, f, g, i, j, l⟩, fun k => ?_⟩
      rw [ha, hb, he.1, he.2, hg.1, hg.2, hj.1, hj.2]
      rfl

/-- One of each, chosen: a list of what each element has. -/
theorem choose_list {α β : Type} {R : α → β → Prop} : ∀ l : List α, (∀ x ∈ l, ∃ y, R x y) → ∃ m : List β, m.length = l.length ∧ ∀ (i : Nat) x y, l[i]? = some x → m[i]? = some y → R x y := by
  intro l
  induction l with
  | nil => exact fun _ => ⟨[], rfl, fun i x y h => by simp at h⟩
  | cons a t ih =>
    intro h
    obtain ⟨y, hy⟩ := h a (by simp)
    obtain ⟨m, hm, hr⟩ := ih fun x hx => h x (by simp [hx])
    refine ⟨y :: m, by simp [hm], fun i x z h1 h2 => ?_⟩
    cases i with
    | zero => simp at h1 h2; subst h1; subst h2; exact hy
    | succ i => exact hr i x z (by simpa using h1) (by simpa using h2)

theorem map_of_get {α β : Type} {f : α → β} {l : List α} {m : List β} (hl : m.length = l.length) (h : ∀ (i : Nat) x y, l[i]? = some x → m[i]? = some y → f x = y) : l.map f = m := by
  apply List.ext_getElem (by simp [hl])
  intro i h1 h2
  have hi : i < l.length := by simpa using h1
  rw [List.getElem_map]
  exact h i _ _ (List.getElem?_eq_getElem hi) (List.getElem?_eq_getElem h2)

theorem beds_open {H : Heap} (hs : Snap w H) {v : Value} {y} (h : DataW.trod enc Try.prog w base sp hd n 97 [v] = some y) : ∃ l : List Bed, Row H (toAV w.heap.size v) 8 (l.map Bed.c) := by
  obtain ⟨l, hR, _, hl⟩ := hs.slice Try.underlying97 cells100 (by decide) h
  obtain ⟨m, hm, hr⟩ := choose_list (R := fun c (b : Bed) => ∀ k, toAVs k c = b.c) l fun c hc => by
    obtain ⟨_, n', y', hy⟩ := hl c hc
    exact bed_open hy
  refine ⟨m, ?_⟩
  have : l.map (toAVs w.heap.size) = m.map Bed.c := map_of_get (by simp [hm]) fun i x z h1 h2 => by
    rw [List.getElem?_map, Option.map_eq_some_iff] at h2
    obtain ⟨b, h3, rfl⟩ := h2
    exact hr i x b h1 h3 _
  rwa [this] at hR

theorem cols_open {H : Heap} (hs : Snap w H) {v : Value} {y} (h : DataW.trod enc Try.prog w base sp hd n 22 [v] = some y) : ∃ cols : List (List Bed), Mat H (toAV w.heap.size v) cols := by
  obtain ⟨l, hR, _, hl⟩ := hs.slice Try.underlying22 cells97 (by decide) h
  obtain ⟨vs, hvs, hr⟩ := choose_list (R := fun c (x : AV) => toAVs w.heap.size c = [x] ∧ ∃ b : List Bed, Row H x 8 (b.map Bed.c)) l fun c hc => by
    obtain ⟨h1, n', y', hy⟩ := hl c hc
    match c, h1 with
    | [u], _ =>
      obtain ⟨b, hb⟩ := beds_open hs hy
      exact ⟨_, rfl, b, hb⟩
  obtain ⟨cols, hc, hcr⟩ := choose_list (R := fun x (b : List Bed) => Row H x 8 (b.map Bed.c)) vs fun x hx => by
    obtain ⟨i, hi, rfl⟩ := List.mem_iff_getElem.1 hx
    exact (hr i l[i] vs[i] (List.getElem?_eq_getElem (by omega)) (List.getElem?_eq_getElem hi)).2
  refine ⟨cols, vs, ?_, hc.symm, fun i x b h1 h2 => hcr i x b h1 h2⟩
  have : l.map (toAVs w.heap.size) = vs.map fun x => [x] := map_of_get (by simp [hvs]) fun i x z h1 h2 => by
    rw [List.getElem?_map, Option.map_eq_some_iff] at h2
    obtain ⟨b, h3, rfl⟩ := h2
    exact (hr i x b h1 h3).1
  rwa [this] at hR

theorem ints_open {H : Heap} (hs : Snap w H) {v : Value} {y} (h : DataW.trod enc Try.prog w base sp hd n 25 [v] = some y) : ∃ us : List Int, Ints H (toAV w.heap.size v) us := by
  obtain ⟨l, hR, _, hl⟩ := hs.slice Try.underlying25 cells3 (by decide) h
  obtain ⟨us, hus, hr⟩ := choose_list (R := fun c (x : Int) => c = [.int .i64 x]) l fun c hc => by
    obtain ⟨_, n', y', hy⟩ := hl c hc
    exact int_open hy
  refine ⟨us, ?_⟩
  have : l.map (toAVs w.heap.size) = us.map fun n => [I n] := map_of_get (by simp [hus]) fun i x z h1 h2 => by
    rw [List.getElem?_map, Option.map_eq_some_iff] at h2
    obtain ⟨b, h3, rfl⟩ := h2
    rw [hr i x b h1 h3]
    rfl
  unfold Ints
  rwa [this] at hR

theorem slope_open {H : Heap} (hs : Snap w H) {v : Value} {d : DataW H0} {p : List MemPlace} (hv : ∃ cs, v = .agg cs ∧ cs.size = Try.prog.cellsOf 24) (h : DataW.Trod enc Try.prog w base sp hd 24 v d p) :
    ∃ cv cols least, argAV w.heap.size v = .agg [cv, I least] ∧ Mat H cv cols := by
  obtain ⟨cs, rfl, hsz⟩ := hv
  obtain ⟨fuel, h⟩ := h
  obtain ⟨xs, k, _, _, hl, hx, hf⟩ := DataW.trod_struct Try.underlying24 h
  rw [cells24] at hsz
  obtain ⟨cl⟩ := cs
  match cl, hsz with
  | [a, b], _ =>
    have h0 : DataW.trod enc Try.prog w base sp hd k 22 (([a, b].drop 0).take (Try.prog.cellsOf 22)) = xs[0]? := hf 0 _ rfl
    have h1 : DataW.trod enc Try.prog w base sp hd k 3 (([a, b].drop 1).take (Try.prog.cellsOf 3)) = xs[1]? := hf 1 _ rfl
    rw [cells22] at h0
    rw [cells3] at h1
    match xs, hx with
    | [x0, x1], _ =>
      obtain ⟨cols, hc⟩ := cols_open hs (v := a) h0
      obtain ⟨z, hz⟩ := int_open h1
      have hz' : b = .int .i64 z := by simpa [Value.cells] using hz
      subst hz'
      exact ⟨_, cols, z, rfl, hc⟩

theorem surface_open {H : Heap} (hs : Snap w H) {v : Value} {d : DataW H0} {p : List MemPlace} (hv : ∃ cs, v = .agg cs ∧ cs.size = Try.prog.cellsOf 27) (h : DataW.Trod enc Try.prog w base sp hd 27 v d p) :
    ∃ bv us fr, argAV w.heap.size v = .agg [I fr, bv] ∧ Ints H bv us := by
  obtain ⟨cs, rfl, hsz⟩ := hv
  obtain ⟨fuel, h⟩ := h
  obtain ⟨xs, k, _, _, hl, hx, hf⟩ := DataW.trod_struct Try.underlying27 h
  rw [cells27] at hsz
  obtain ⟨cl⟩ := cs
  match cl, hsz with
  | [a, b], _ =>
    have h0 : DataW.trod enc Try.prog w base sp hd k 3 (([a, b].drop 0).take (Try.prog.cellsOf 3)) = xs[0]? := hf 0 _ rfl
    have h1 : DataW.trod enc Try.prog w base sp hd k 25 (([a, b].drop 1).take (Try.prog.cellsOf 25)) = xs[1]? := hf 1 _ rfl
    rw [cells3] at h0
    rw [cells25] at h1
    match xs, hx with
    | [x0, x1], _ =>
      obtain ⟨us, hc⟩ := ints_open hs (v := b) h1
      obtain ⟨z, hz⟩ := int_open h0
      have hz' : a = .int .i64 z := by simpa [Value.cells] using hz
      subst hz'
      exact ⟨_, us, z, rfl, hc⟩
end
end Go.Ev
