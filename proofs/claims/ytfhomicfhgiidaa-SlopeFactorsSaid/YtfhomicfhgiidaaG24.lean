/-
  Functions of the program, reckoned by the evaluator: what each answers, in the document's words, and that it leaves what came in as it was (part 24).
-/
import Derived.Test.YtfhomicfhgiidaaG23
set_option maxRecDepth 100000
set_option linter.unusedSimpArgs false
set_option linter.unusedVariables false
namespace Go.Ev
open Go Go.Proofs Go.RowKit
noncomputable section
theorem cells112 : Try.prog.cellsOf 112 = 3 := by kernel_rfl
variable {H0 : Type} {enc : TypeId × Value → H0} {w : World} {base : Nat} {sp : Nat → Bool} {hd : Bool} {n : Nat}
theorem real_open {c : List Value} {y} (h : DataW.trod enc Try.prog w base sp hd n 112 c = some y) : ∃ r : Rl, ∀ k, toAVs k c = rl r := by
  obtain ⟨xs, k, _, _, hl, hx, hf⟩ := DataW.trod_struct Try.underlying112 h
  rw [cells112] at hl
  match c, hl with
  | [c0, c1, c2], _ =>
    have h0 : DataW.trod enc Try.prog w base sp hd k 3 (([c0, c1, c2].drop 0).take (Try.prog.cellsOf 3)) = xs[0]? := hf 0 _ rfl
    have h1 : DataW.trod enc Try.prog w base sp hd k 3 (([c0, c1, c2].drop 1).take (Try.prog.cellsOf 3)) = xs[1]? := hf 1 _ rfl
    have h2 : DataW.trod enc Try.prog w base sp hd k 3 (([c0, c1, c2].drop 2).take (Try.prog.cellsOf 3)) = xs[2]? := hf 2 _ rfl
    rw [cells3] at h0 h1 h2
    match xs, hx with
    | [x0, x1, x2], _ =>
      obtain ⟨a, ha⟩ := int_open h0
      obtain ⟨b, hb⟩ := int_open h1
      obtain ⟨e, he⟩ := int_open h2
      simp at ha hb he
      refine ⟨(a, b, e), fun k => ?_⟩
      rw [ha, hb, he]
      rfl
theorem reals_open {H : Heap} (hs : Snap w H) {v : Value} {y} (h : DataW.trod enc Try.prog w base sp hd n 28 [v] = some y) : ∃ R : List Rl, Row H (toAV w.heap.size v) 3 (R.map rl) := by
  obtain ⟨l, hR, _, hl⟩ := hs.slice Try.underlying28 cells112 (by decide) h
  obtain ⟨m, hm, hr⟩ := choose_list (R := fun c (b : Rl) => ∀ k, toAVs k c = rl b) l fun c hc => by
    obtain ⟨_, n', y', hy⟩ := hl c hc
    exact real_open hy
  refine ⟨m, ?_⟩
  have : l.map (toAVs w.heap.size) = m.map rl := map_of_get (by simp [hm]) fun i x z h1 h2 => by
    rw [List.getElem?_map, Option.map_eq_some_iff] at h2
    obtain ⟨b, h3, rfl⟩ := h2
    exact hr i x b h1 h3 _
  rwa [this] at hR
theorem truth_open {H : Heap} (hs : Snap w H) {v : Value} {d : DataW H0} {p : List MemPlace} (hv : ∃ a len cap, v = .slice a len cap) (h : DataW.Trod enc Try.prog w base sp hd 28 v d p) :
    ∃ (tv : AV) (R : List Rl), argAV w.heap.size v = tv ∧ Row H tv 3 (R.map rl) := by
  obtain ⟨a, len, cap, rfl⟩ := hv
  obtain ⟨fuel, h⟩ := h
  obtain ⟨R, hR⟩ := reals_open hs (v := .slice a len cap) h
  exact ⟨_, R, rfl, hR⟩
end
end Go.Ev
