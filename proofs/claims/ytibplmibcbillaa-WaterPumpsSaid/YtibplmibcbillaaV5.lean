/-
  Functions of the program, reckoned by the evaluator: what each answers, and that it leaves what came in as it was (part 5).
-/
import Derived.Test.YtibplmibcbillaaV4
set_option maxRecDepth 100000
set_option linter.unusedSimpArgs false
set_option linter.unusedVariables false
namespace Go.Ev
open Go Go.Proofs
noncomputable section
instance : Inhabited Cell := ⟨⟨0, 0, 0, 0, 0, 0, 0⟩⟩
instance : Inhabited Day := ⟨⟨0, 0, 0⟩⟩
/-- What one cell adds to what will be there: what passes to another one, and what stays. -/
def stepA (x : Cell) (i : Nat) (n so : Int) (a : List Int) : List Int :=
  (if x.to = -1 then a else a.set x.to.toNat (a.getD x.to.toNat 0 + passd x n)).set i ((if x.to = -1 then a else a.set x.to.toNat (a.getD x.to.toNat 0 + passd x n)).getD i 0 + (n - pumpd x n - passd x n + so))
def aftP (cs : List Cell) (bef : List Int) (so : Int) : Nat → List Int
  | 0 => [0, 0, 0, 0, 0, 0, 0, 0]
  | i + 1 => stepA (cs.getD i default) i (bef.getD i 0) so (aftP cs bef so i)
def leftP (cs : List Cell) (bef : List Int) (down so : Int) : Nat → List Int
  | 0 => []
  | i + 1 => (leftP cs bef down so i ++ [down - so, pumpd (cs.getD i default) (bef.getD i 0)]) ++ (if (cs.getD i default).to = -1 then [passd (cs.getD i default) (bef.getD i 0)] else [])
def cutP (cs : List Cell) (a : List Int) : Nat → List Int
  | 0 => a
  | i + 1 => (cutP cs a i).set i ((cutP cs a i).getD i 0 - max ((cutP cs a i).getD i 0 - (cs.getD i default).cap) 0)
def overP (cs : List Cell) (a l : List Int) : Nat → List Int
  | 0 => l
  | i + 1 => overP cs a l i ++ [max ((cutP cs a i).getD i 0 - (cs.getD i default).cap) 0]
/-- What a day leaves in the cells, and what left on it. -/
def dayL (cs : List Cell) (bef : List Int) (down soak : Int) : List Int := cutP cs (aftP cs bef (down * soak / 1000) cs.length) cs.length
def dayO (cs : List Cell) (bef : List Int) (down soak : Int) : Int := (overP cs (aftP cs bef (down * soak / 1000) cs.length) (leftP cs bef down (down * soak / 1000) cs.length) cs.length).sum
theorem stepA_len (x : Cell) (i : Nat) (n so : Int) (a : List Int) : (stepA x i n so a).length = a.length := by unfold stepA; split <;> simp
theorem aft_len (cs : List Cell) (bef : List Int) (so : Int) : ∀ i, (aftP cs bef so i).length = 8
  | 0 => rfl
  | i + 1 => by rw [aftP, stepA_len]; exact aft_len cs bef so i
theorem cut_len (cs : List Cell) (a : List Int) : ∀ i, (cutP cs a i).length = a.length
  | 0 => rfl
  | i + 1 => by rw [cutP, List.length_set]; exact cut_len cs a i
/-- All are from 0 to some number. -/
def Upto (k : Int) (a : List Int) : Prop := ∀ z ∈ a, 0 ≤ z ∧ z ≤ k
theorem Upto.getD {k : Int} {a : List Int} (h : Upto k a) (hk : 0 ≤ k) (i : Nat) : 0 ≤ a.getD i 0 ∧ a.getD i 0 ≤ k := by
  rw [List.getD_eq_getElem?_getD]
  cases hi : a[i]? with
  | none => simp; exact hk
  | some z => exact h z (List.mem_of_getElem? hi)
theorem Upto.set {k : Int} {a : List Int} (h : Upto k a) {z : Int} (hz : 0 ≤ z ∧ z ≤ k) (i : Nat) : Upto k (a.set i z) := fun y hy => by
  rcases List.mem_or_eq_of_mem_set hy with h1 | h1
  · exact h y h1
  · rw [h1]; exact hz
theorem Upto.mono {k k' : Int} {a : List Int} (h : Upto k a) (hk : k ≤ k') : Upto k' a := fun z hz => by have := h z hz; omega
theorem stepA_bd {x : Cell} (hx : x.lim) {n so k : Int} (hn : 0 ≤ n ∧ n ≤ 100000) (hs : 0 ≤ so ∧ so ≤ 4000) (hk : 0 ≤ k) {a : List Int} (h : Upto k a) (i : Nat) : Upto (k + 300000) (stepA x i n so a) := by
  have hg := give_bd hx hn
  have h1 : Upto (k + 100000) (if x.to = -1 then a else a.set x.to.toNat (a.getD x.to.toNat 0 + passd x n)) := by
    split
    · exact h.mono (by omega)
    · have := h.getD hk x.to.toNat
      exact (h.mono (by omega)).set (by omega) _
  have h2 := h1.getD (by omega) i
  exact (h1.mono (by omega)).set (by omega) _
theorem aft_bd {cs : List Cell} {bef : List Int} {so : Int} (hc : ∀ x ∈ cs, x.lim) (hb : Upto 100000 bef) (hs : 0 ≤ so ∧ so ≤ 4000) : ∀ i, i ≤ cs.length → Upto (300000 * i) (aftP cs bef so i)
  | 0, _ => fun z hz => by simp [aftP] at hz; omega
  | i + 1, hi => by
    have h := aft_bd hc hb hs i (by omega)
    have hx : cs.getD i default = cs[i]'(by omega) := by simp [show i < cs.length from by omega]
    have := stepA_bd (x := cs.getD i default) (by rw [hx]; exact hc _ (List.getElem_mem _)) (hb.getD (by omega) i) hs (by omega) h i
    rw [aftP]
    push_cast
    rw [show (300000 : Int) * (i + 1) = 300000 * i + 300000 from by omega]
    exact this
theorem cut_bd {cs : List Cell} {a : List Int} {k : Int} (hc : ∀ x ∈ cs, x.lim) (h : Upto k a) (hk : 0 ≤ k) : ∀ i, i ≤ cs.length → Upto k (cutP cs a i)
  | 0, _ => h
  | i + 1, hi => by
    have h1 := cut_bd hc h hk i (by omega)
    have h2 := h1.getD hk i
    have hx : cs.getD i default = cs[i]'(by omega) := by simp [show i < cs.length from by omega]
    have h3 := hc (cs.getD i default) (by rw [hx]; exact List.getElem_mem _)
    unfold Cell.lim at h3
    rw [cutP]
    exact h1.set (by omega) _
theorem left_bd {cs : List Cell} {bef : List Int} {down so : Int} (hc : ∀ x ∈ cs, x.lim) (hb : Upto 100000 bef) (hd : 0 ≤ down ∧ down ≤ 4000) (hs : 0 ≤ so ∧ so ≤ down) : ∀ i, i ≤ cs.length → Upto 100000 (leftP cs bef down so i) ∧ (leftP cs bef down so i).length ≤ 3 * i
  | 0, _ => ⟨nofun, by simp [leftP]⟩
  | i + 1, hi => by
    obtain ⟨h, hl⟩ := left_bd hc hb hd hs i (by omega)
    have hx : cs.getD i default = cs[i]'(by omega) := by simp [show i < cs.length from by omega]
    have hg := give_bd (x := cs.getD i default) (by rw [hx]; exact hc _ (List.getElem_mem _)) (hb.getD (by omega) i)
    have hb1 := hb.getD (by omega) i
    rw [leftP]
    constructor
    · intro z hz
      simp only [List.mem_append] at hz
      rcases hz with (hz | hz) | hz
      · exact h z hz
      · simp only [List.mem_cons, List.mem_singleton, List.not_mem_nil, or_false] at hz
        rcases hz with rfl | rfl <;> omega
      · split at hz
        · simp only [List.mem_singleton] at hz; omega
        · simp at hz
    · simp only [List.length_append, List.length_cons, List.length_nil]
      split <;> simp <;> omega
theorem over_bd {cs : List Cell} {a l : List Int} {k : Int} (hc : ∀ x ∈ cs, x.lim) (h : Upto k a) (hk : 0 ≤ k) (hl : Upto k l) : ∀ i, i ≤ cs.length → Upto k (overP cs a l i) ∧ (overP cs a l i).length = l.length + i
  | 0, _ => ⟨hl, rfl⟩
  | i + 1, hi => by
    obtain ⟨h1, h2⟩ := over_bd hc h hk hl i (by omega)
    have h3 := (cut_bd hc h hk i (by omega)).getD hk i
    have hx : cs.getD i default = cs[i]'(by omega) := by simp [show i < cs.length from by omega]
    have h4 := hc (cs.getD i default) (by rw [hx]; exact List.getElem_mem _)
    unfold Cell.lim at h4
    rw [overP]
    refine ⟨fun z hz => ?_, by simp [h2]; omega⟩
    rcases List.mem_append.1 hz with hz | hz
    · exact h1 z hz
    · simp only [List.mem_singleton] at hz; omega
theorem list8 {a : List Int} (h : a.length = 8) : ∃ a0 a1 a2 a3 a4 a5 a6 a7, a = [a0, a1, a2, a3, a4, a5, a6, a7] := by
  match a, h with
  | [a0, a1, a2, a3, a4, a5, a6, a7], _ => exact ⟨a0, a1, a2, a3, a4, a5, a6, a7, rfl⟩
theorem arr_get (a : List Int) (k : Nat) (h : k < a.length) : (a.map I)[0 + k * 1]? = some (I (a.getD k 0)) := by
  rw [Nat.zero_add, Nat.mul_one, List.getElem?_map, List.getElem?_eq_getElem h, List.getD_eq_getElem?_getD, List.getElem?_eq_getElem h]; rfl
theorem spl_set (a : List Int) (k : Nat) (z : Int) (h : k < a.length) : spl (a.map I) (0 + k * 1) (I z).cells = some ((a.set k z).map I) := by
  have e : spl (a.map I) (0 + k * 1) (I z).cells = (match Nat.ble (0 + k * 1 + 1) (a.map I).length with
    | true => some ((a.map I).take (0 + k * 1) ++ ([I z] ++ (a.map I).drop (0 + k * 1 + 1)))
    | false => none) := rfl
  rw [e, Nat.zero_add, Nat.mul_one, Nat.ble_eq_true_of_le (by simp; omega)]
  simp only
  rw [List.map_set, List.set_eq_take_append_cons_drop, if_pos (by simpa using h)]
  rfl
end
end Go.Ev
