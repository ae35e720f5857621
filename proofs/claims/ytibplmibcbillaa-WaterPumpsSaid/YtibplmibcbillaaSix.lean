/-
  Rules of the evaluator, more of them.
-/
import Derived.Test.YtibplmibcbillaaV17
import Derived.Carry
set_option linter.unusedVariables false
namespace Go.Ev
open Go Go.Proofs Go.ChangeShapes Go.WideShapes Go.RowKit
variable {H : Type} {enc : TypeId × Value → H} {P : Program} {w : World} {base : Nat} {spare : Nat → Bool} {held : Bool}
/-- Six parameters, each read for itself. -/
theorem trodAll_six {t0 t1 t2 t3 t4 t5 : TypeId} {args : Array Value} {ds : List (DataW H)} {ps : List MemPlace} (h : DataW.TrodAll enc P w base spare held [t0, t1, t2, t3, t4, t5] args.toList ds ps) :
    ∃ v0 v1 v2 v3 v4 v5 d0 d1 d2 d3 d4 d5 p0 p1 p2 p3 p4 p5, args = #[v0, v1, v2, v3, v4, v5] ∧ ds = [d0, d1, d2, d3, d4, d5] ∧ ps = p0 ++ p1 ++ p2 ++ p3 ++ p4 ++ p5 ∧ DataW.Trod enc P w base spare held t0 v0 d0 p0 ∧ DataW.Trod enc P w base spare held t1 v1 d1 p1 ∧ DataW.Trod enc P w base spare held t2 v2 d2 p2 ∧ DataW.Trod enc P w base spare held t3 v3 d3 p3 ∧ DataW.Trod enc P w base spare held t4 v4 d4 p4 ∧ DataW.Trod enc P w base spare held t5 v5 d5 p5 := by
  obtain ⟨v0, r0, d0, s0, p0, q0, hargs, rfl, rfl, h0, k0⟩ := trodAll_cons h
  obtain ⟨v1, r1, d1, s1, p1, q1, rfl, rfl, rfl, h1, k1⟩ := trodAll_cons k0
  obtain ⟨v2, r2, d2, s2, p2, q2, rfl, rfl, rfl, h2, k2⟩ := trodAll_cons k1
  obtain ⟨v3, r3, d3, s3, p3, q3, rfl, rfl, rfl, h3, k3⟩ := trodAll_cons k2
  obtain ⟨v4, v5, d4, d5, p4, p5, q4, q5, e1, rfl, rfl, h4, h5⟩ : ∃ v4 v5 d4 d5 p4 p5, ∃ (_ _ : Unit), r3 = [v4, v5] ∧ s3 = [d4, d5] ∧ q3 = p4 ++ p5 ∧ DataW.Trod enc P w base spare held t4 v4 d4 p4 ∧ DataW.Trod enc P w base spare held t5 v5 d5 p5 := by
    obtain ⟨v4, r4, d4, s4, p4, q4, rfl, rfl, rfl, h4, k4⟩ := trodAll_cons k3
    obtain ⟨v5, r5, d5, s5, p5, q5, rfl, rfl, rfl, h5, k5⟩ := trodAll_cons k4
    obtain ⟨rfl, rfl, rfl⟩ := trodAll_nil k5
    exact ⟨v4, v5, d4, d5, p4, p5, (), (), rfl, rfl, by simp, h4, h5⟩
  subst e1
  exact ⟨v0, v1, v2, v3, v4, v5, d0, d1, d2, d3, d4, d5, p0, p1, p2, p3, p4, p5, by cases args; simp_all, rfl, by simp, h0, h1, h2, h3, h4, h5⟩
theorem trodAll_mk6 {t0 t1 t2 t3 t4 t5 : TypeId} {v0 v1 v2 v3 v4 v5 : Value} {d0 d1 d2 d3 d4 d5 : DataW H} {p0 p1 p2 p3 p4 p5 : List MemPlace} (h0 : DataW.Trod enc P w base spare held t0 v0 d0 p0) (h1 : DataW.Trod enc P w base spare held t1 v1 d1 p1)
    (h2 : DataW.Trod enc P w base spare held t2 v2 d2 p2) (h3 : DataW.Trod enc P w base spare held t3 v3 d3 p3) (h4 : DataW.Trod enc P w base spare held t4 v4 d4 p4) (h5 : DataW.Trod enc P w base spare held t5 v5 d5 p5) :
    DataW.TrodAll enc P w base spare held [t0, t1, t2, t3, t4, t5] [v0, v1, v2, v3, v4, v5] [d0, d1, d2, d3, d4, d5] (p0 ++ (p1 ++ (p2 ++ (p3 ++ (p4 ++ p5))))) :=
  ⟨p0, p1 ++ (p2 ++ (p3 ++ (p4 ++ p5))), h0, ⟨p1, p2 ++ (p3 ++ (p4 ++ p5)), h1, trodAll_mk4 h2 h3 h4 h5, rfl⟩, rfl⟩
/-- A small number at hand. -/
theorem u8_argS {H0 : Type} {enc : TypeId × Value → H0} {w : World} {base : Nat} {sp : Nat → Bool} {hd : Bool} {H : Heap} (hs : Snap w H) {v : Value} {d : DataW H0} {p : List MemPlace} (hv : ∃ n, v = .int .u8 n) (h : DataW.Trod enc Try.prog w base sp hd 5 v d p) : ∃ x : Int, argAV w.heap.size v = .int .u8 x ∧ 0 ≤ x ∧ x ≤ 255 := by
  obtain ⟨n, rfl⟩ := hv
  obtain ⟨fuel, h⟩ := h
  obtain ⟨x, h1, _, hw⟩ := DataW.trod_int Try.underlying5 h
  have h1' : ([Value.int .u8 n] : List Value) = [.int .u8 x] := h1
  have e0 : n = x := by simpa using h1'
  subst e0
  refine ⟨n, rfl, ?_⟩
  have h2 : (decide (IntKind.min .u8 ≤ n) && decide (n ≤ IntKind.max .u8)) = true := hw
  rw [Bool.and_eq_true] at h2
  have h3 := of_decide_eq_true h2.1
  have h4 := of_decide_eq_true h2.2
  have e1 : IntKind.min .u8 = 0 := by decide
  have e2 : IntKind.max .u8 = 255 := by decide
  omega
/-- A word at hand. -/
theorem u16_argS {H0 : Type} {enc : TypeId × Value → H0} {w : World} {base : Nat} {sp : Nat → Bool} {hd : Bool} {H : Heap} (hs : Snap w H) {v : Value} {d : DataW H0} {p : List MemPlace} (hv : ∃ n, v = .int .u16 n) (h : DataW.Trod enc Try.prog w base sp hd 64 v d p) : ∃ x : Int, argAV w.heap.size v = .int .u16 x ∧ 0 ≤ x ∧ x ≤ 65535 := by
  obtain ⟨n, rfl⟩ := hv
  obtain ⟨fuel, h⟩ := h
  obtain ⟨x, h1, h2⟩ := u16_open h
  have h1' : ([Value.int .u16 n] : List Value) = [.int .u16 x] := h1
  have e0 : n = x := by simpa using h1'
  subst e0
  exact ⟨n, rfl, h2⟩
end Go.Ev
