/-
  Plans: what 'planOf' says of a region.
-/
import Derived.Test.YtibplmibcbillaaEvO
namespace Go.Ev
open Go.RowKit

theorem bit_testBit (m i : Nat) : bit m i = m.testBit i := by
  rw [Nat.testBit_eq_decide_div_mod_eq]
  show Nat.beq (m / 2 ^ i % 2) 1 = _
  cases h : Nat.beq (m / 2 ^ i % 2) 1 with
  | true => have := Nat.eq_of_beq_eq_true h; simp [this]
  | false => have := Nat.ne_of_beq_eq_false h; simp only [Bool.false_eq, decide_eq_false_iff_not]; exact this

theorem bit_addBit (m i j : Nat) : bit (addBit m i) j = (bit m j || Nat.beq j i) := by
  have hb : Nat.beq j i = decide (j = i) := by
    cases h : Nat.beq j i with
    | true => have := Nat.eq_of_beq_eq_true h; simp [this]
    | false => have := Nat.ne_of_beq_eq_false h; simp [this]
  rw [hb]
  unfold addBit
  cases h : bit m i with
  | true =>
    simp only [if_true]
    by_cases e : j = i
    · subst e; simp [h]
    · simp [e]
  | false =>
    simp only [Bool.false_eq_true, if_false]
    show bit (m + 2 ^ i) j = _
    rw [bit_testBit, bit_testBit]
    rw [bit_testBit] at h
    rw [Nat.add_comm]
    rcases Nat.lt_trichotomy j i with q | q | q
    · rw [Nat.testBit_two_pow_add_gt q]
      have : j ≠ i := by omega
      simp [this]
    · subst q
      rw [Nat.testBit_two_pow_add_eq, h]; simp
    · have hne : j ≠ i := by omega
      simp only [hne, decide_false, Bool.or_false]
      rw [Nat.testBit_eq_decide_div_mod_eq] at h
      simp only [decide_eq_false_iff_not] at h
      rw [Nat.testBit_eq_decide_div_mod_eq, Nat.testBit_eq_decide_div_mod_eq]
      obtain ⟨k, rfl⟩ : ∃ k, j = i + (1 + k) := ⟨j - i - 1, by omega⟩
      have e1 : (2 ^ i + m) / 2 ^ (i + (1 + k)) = m / 2 ^ (i + (1 + k)) := by
        rw [Nat.pow_add, ← Nat.div_div_eq_div_mul, ← Nat.div_div_eq_div_mul, Nat.add_div_left m (Nat.two_pow_pos i), Nat.pow_add, ← Nat.div_div_eq_div_mul, ← Nat.div_div_eq_div_mul]
        congr 1
        have : m / 2 ^ i % 2 = 0 := by omega
        rw [Nat.pow_one]
        omega
      rw [e1]

theorem predsIn_iff {done : Nat} {o : Oper} : predsIn done o = true ↔ ∀ e ∈ o.after, Region.binds .any e = true → bit done e.on = true := by
  unfold predsIn
  rw [List.all_eq_true]
  constructor
  · intro h e he hb
    have := h e (by simpa using he)
    rw [hb] at this
    simpa using this
  · intro h e he
    cases hb : Region.binds .any e with
    | false => rfl
    | true => simpa using h e (by simpa using he) hb

theorem isPred_iff {o : Oper} {i : Nat} : isPred o i = true ↔ ∃ e ∈ o.after, Region.binds .any e = true ∧ e.on = i := by
  unfold isPred
  rw [List.any_eq_true]
  constructor
  · rintro ⟨e, he, h⟩
    simp only [Bool.and_eq_true] at h
    exact ⟨e, by simpa using he, h.1, Nat.eq_of_beq_eq_true h.2⟩
  · rintro ⟨e, he, h1, rfl⟩
    exact ⟨e, by simpa using he, by simp [h1]⟩

variable {ops : Array Oper}

theorem withReads_get : ∀ (os : List Oper) (k j : Nat), (withReads ops os k)[j]? = (os[j]?).map fun o => (k + j, o, readsOf ops o) := by
  intro os
  induction os with
  | nil => intro k j; simp [withReads]
  | cons o os ih =>
    intro k j
    cases j with
    | zero => simp [withReads]
    | succ j => simp only [withReads, List.getElem?_cons_succ, ih, Nat.add_assoc, Nat.add_comm 1 j]

abbrev rows (ops : Array Oper) : List (Nat × Oper × List Tmp) := withReads ops ops.toList 0

theorem rows_get (j : Nat) : (rows ops)[j]? = (ops[j]?).map fun o => (j, o, readsOf ops o) := by
  rw [withReads_get]; simp

theorem mem_rows {p : Nat × Oper × List Tmp} : p ∈ rows ops ↔ ops[p.1]? = some p.2.1 ∧ p.2.2 = readsOf ops p.2.1 := by
  obtain ⟨i, o, r⟩ := p
  rw [List.mem_iff_getElem?]
  constructor
  · rintro ⟨j, h⟩
    rw [rows_get] at h
    simp only [Option.map_eq_some_iff] at h
    obtain ⟨o', h1, h2⟩ := h
    cases h2
    exact ⟨h1, rfl⟩
  · rintro ⟨h1, h2⟩
    dsimp only at h1 h2
    exact ⟨i, by rw [rows_get, h1, h2]; rfl⟩

/-- What is known of a plan's entry, and of those before it. -/
def EntryOk (ops : Array Oper) (prev : List Entry) (e : Entry) : Prop :=
  ops[e.i]? = some e.o ∧
  (e.stable = true → stableAt ops (rows ops) (e.i, e.o, readsOf ops e.o) = true ∧ (newOp e.o.op = true → ∀ p ∈ prev, p.stable = true → readOp p.o.op = true → p.o ∈ e.check)) ∧
  (e.stable = false → ∀ p ∈ prev, p.stable = true → readOp p.o.op = true → isPred e.o p.i = false → p.o ∈ e.check)

def AllOk (ops : Array Oper) : List Entry → Prop
  | [] => True
  | e :: es => EntryOk ops es e ∧ AllOk ops es

theorem AllOk.drop {ops : Array Oper} : ∀ {l l' : List Entry}, AllOk ops (l ++ l') → AllOk ops l' := by
  intro l
  induction l with
  | nil => intro l' h; exact h
  | cons e l ih => intro l' h; exact ih h.2

theorem takeStable_ok : ∀ (ps : List (Nat × Oper × List Tmp)) (done : Nat) (acc : List Entry), (∀ p ∈ ps, p ∈ rows ops) → AllOk ops acc → AllOk ops (takeStable ops (rows ops) ps done acc).2 := by
  intro ps
  induction ps with
  | nil => intro done acc _ h; exact h
  | cons p ps ih =>
    intro done acc hp h
    unfold takeStable
    have hps : ∀ q ∈ ps, q ∈ rows ops := fun q hq => hp q (by simp [hq])
    split
    · rename_i hc
      simp only [Bool.and_eq_true] at hc
      obtain ⟨m1, m2⟩ := mem_rows.1 (hp p (by simp))
      obtain ⟨i, o, r⟩ := p
      dsimp only at m1 m2
      subst m2
      refine ih _ _ hps ⟨⟨m1, fun _ => ⟨hc.2, fun hn q hq s1 s2 => ?_⟩, fun e => by cases e⟩, h⟩
      dsimp only at hn ⊢
      rw [hn]
      simp only [if_true, List.mem_map, List.mem_filter, Bool.and_eq_true]
      exact ⟨q, ⟨hq, s1, s2⟩, rfl⟩
    · exact ih _ _ hps h

theorem takeOne_ok : ∀ (ps : List (Nat × Oper × List Tmp)) (done : Nat) (acc : List Entry), (∀ p ∈ ps, p ∈ rows ops) → AllOk ops acc → AllOk ops (takeOne (rows ops) ps done acc).2 := by
  intro ps
  induction ps with
  | nil => intro done acc _ h; exact h
  | cons p ps ih =>
    intro done acc hp h
    unfold takeOne
    have hps : ∀ q ∈ ps, q ∈ rows ops := fun q hq => hp q (by simp [hq])
    split
    · obtain ⟨m1, m2⟩ := mem_rows.1 (hp p (by simp))
      refine ⟨⟨m1, (fun e => by cases e), fun _ q hq s1 s2 s3 => ?_⟩, h⟩
      dsimp only at s3 ⊢
      simp only [List.mem_map, List.mem_filter, Bool.and_eq_true]
      exact ⟨q, ⟨hq, ⟨s1, s2⟩, by simp [s3]⟩, rfl⟩
    · exact ih _ _ hps h

theorem planGo_ok : ∀ (f done : Nat) (acc : List Entry), AllOk ops acc → AllOk ops (planGo ops (rows ops) f done acc).reverse := by
  intro f
  induction f with
  | zero => intro done acc h; simpa [planGo] using h
  | succ f ih =>
    intro done acc h
    exact ih _ _ (takeOne_ok _ _ _ (fun p hp => hp) (takeStable_ok _ _ _ (fun p hp => hp) h))

theorem noTwice_spec : ∀ {xs : List (Option Tmp)}, noTwice xs = true → ∀ {i j : Nat} {d : Tmp}, xs[i]? = some (some d) → xs[j]? = some (some d) → i = j := by
  intro xs
  induction xs with
  | nil => intro _ i j d h; simp at h
  | cons x xs ih =>
    intro h i j d hi hj
    have key : x = some d → some d ∈ xs → False := by
      rintro rfl m
      simp only [noTwice, Bool.and_eq_true] at h
      have := h.1
      simp only [Bool.not_eq_true', List.contains_eq_mem, decide_eq_false_iff_not] at this
      exact this m
    have h' : noTwice xs = true := by
      cases x with
      | none => exact h
      | some y => simp only [noTwice, Bool.and_eq_true] at h; exact h.2
    cases i with
    | zero =>
      cases j with
      | zero => rfl
      | succ j =>
        simp only [List.getElem?_cons_zero, Option.some.injEq, List.getElem?_cons_succ] at hi hj
        exact (key hi (List.mem_of_getElem? hj)).elim
    | succ i =>
      cases j with
      | zero =>
        simp only [List.getElem?_cons_zero, Option.some.injEq, List.getElem?_cons_succ] at hi hj
        exact (key hj (List.mem_of_getElem? hi)).elim
      | succ j =>
        simp only [List.getElem?_cons_succ] at hi hj
        rw [ih h' hi hj]

/-- What a plan's check says of the region. -/
structure PlanFacts (ops : Array Oper) : Prop where
  once : ∀ (i j : Nat) (o o' : Oper) (d : Tmp), ops[i]? = some o → ops[j]? = some o' → o.dst = some d → o'.dst = some d → i = j
  apart : ∀ (i j : Nat) (o o' : Oper) (d : Tmp), ops[i]? = some o → ops[j]? = some o' → o.dst = some d → d ∈ readsOf ops o' → i ≠ j ∧ (isPred o' i = true ∨ isPred o j = true)

theorem planOf_spec {pl : List Entry} (h : planOf ops = some pl) : AllOk ops pl.reverse ∧ planOk ops (rows ops) pl 0 = true ∧ PlanFacts ops := by
  unfold planOf at h
  dsimp only at h
  split at h
  · rename_i hc
    simp only [Bool.and_eq_true] at hc
    cases h
    refine ⟨planGo_ok _ _ _ trivial, hc.1, ?_, ?_⟩
    · intro i j o o' d h1 h2 h3 h4
      have hn := (Bool.and_eq_true _ _ ▸ hc.2 : _ ∧ _).1
      refine noTwice_spec hn (d := d) ?_ ?_
      · rw [List.getElem?_map, rows_get, h1]; simp [h3]
      · rw [List.getElem?_map, rows_get, h2]; simp [h4]
    · intro i j o o' d h1 h2 h3 h4
      have hn := (Bool.and_eq_true _ _ ▸ hc.2 : _ ∧ _).2
      have := List.all_eq_true.1 (List.all_eq_true.1 hn (i, o, readsOf ops o) (mem_rows.2 ⟨h1, rfl⟩)) (j, o', readsOf ops o') (mem_rows.2 ⟨h2, rfl⟩)
      dsimp only at this
      rw [h3] at this
      dsimp only at this
      have hm : (readsOf ops o').contains d = true := by simpa using h4
      rw [hm] at this
      simp only [Bool.not_true, Bool.false_or, Bool.and_eq_true, Bool.not_eq_true', Bool.or_eq_true] at this
      exact ⟨fun e => by rw [e] at this; exact absurd this.1 (by simp), this.2⟩
  · cases h

theorem planOk_cons {e : Entry} {es : List Entry} {done : Nat} (h : planOk ops (rows ops) (e :: es) done = true) :
    bit done e.i = false ∧ predsIn done e.o = true ∧ (e.stable = false → ∀ (i : Nat) (o : Oper), ops[i]? = some o → bit done i = true ∨ i = e.i ∨ predsIn done o = false) ∧ planOk ops (rows ops) es (addBit done e.i) = true := by
  unfold planOk at h
  simp only [Bool.and_eq_true, Bool.not_eq_true'] at h
  obtain ⟨⟨⟨⟨_, h1⟩, h2⟩, h3⟩, h4⟩ := h
  refine ⟨h1, h2, fun hs i o ho => ?_, h4⟩
  rw [hs] at h3
  dsimp only at h3
  have := List.all_eq_true.1 h3 (i, o, readsOf ops o) (mem_rows.2 ⟨ho, rfl⟩)
  simp only [Bool.or_eq_true, Bool.not_eq_true'] at this
  rcases this with (k | k) | k
  · exact .inl k
  · exact .inr (.inl (Nat.eq_of_beq_eq_true k))
  · exact .inr (.inr k)

theorem stableAt_spec {i : Nat} {o : Oper} (h : stableAt ops (rows ops) (i, o, readsOf ops o) = true) :
    ((pureOp o.op || readOp o.op) = true ∨ newOp o.op = true) ∧ ∃ d, o.dst = some d ∧ ∀ (j : Nat) (o' : Oper), ops[j]? = some o' → d ∈ readsOf ops o' → isPred o' i = true := by
  unfold stableAt at h
  simp only [Bool.and_eq_true] at h
  obtain ⟨h1, h2⟩ := h
  refine ⟨by simpa [Bool.or_eq_true] using h1, ?_⟩
  split at h2
  · rename_i d hd
    refine ⟨d, hd, fun j o' ho' hm => ?_⟩
    unfold quietDst at h2
    have := List.all_eq_true.1 h2 (j, o', readsOf ops o') (mem_rows.2 ⟨ho', rfl⟩)
    dsimp only at this
    have hc : (readsOf ops o').contains d = true := by simpa using hm
    rw [hc] at this
    simpa using this
  · cases h2
end Go.Ev

