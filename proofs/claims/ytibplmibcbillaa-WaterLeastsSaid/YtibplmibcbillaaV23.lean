/-
  Functions of the program, reckoned by the evaluator: what each answers, and that it leaves what came in as it was (part 23).
-/
import Derived.Test.YtibplmibcbillaaV15
set_option maxRecDepth 100000
set_option linter.unusedSimpArgs false
set_option linter.unusedVariables false
namespace Go.Ev
open Go Go.Proofs
noncomputable section
theorem getD_setx (a : List Int) (k j : Nat) (z : Int) (hk : k < a.length) : (a.set k z).getD j 0 = if k = j then z else a.getD j 0 := by
  rw [List.getD_eq_getElem?_getD, List.getElem?_set]
  split
  · first | rfl | (rw [if_pos (by omega)]; rfl)
  · rw [List.getD_eq_getElem?_getD]
def stayI (cs : List Cell) (bef : List Int) (i : Nat) : Int := bef.getD i 0 - pumpd (cs.getD i default) (bef.getD i 0) - passd (cs.getD i default) (bef.getD i 0)
def passI (cs : List Cell) (bef : List Int) (i : Nat) : Int := passd (cs.getD i default) (bef.getD i 0)
def inflI (cs : List Cell) (bef : List Int) : Nat → Nat → Int
  | 0, _ => 0
  | k + 1, j => inflI cs bef k j + if (cs.getD k default).to = (j : Int) then passI cs bef k else 0
def lvlI (cs : List Cell) (bef : List Int) (so : Int) (j : Nat) : Int := stayI cs bef j + so + inflI cs bef cs.length j
def lAI (cs : List Cell) (bef : List Int) (dn so : Int) : Nat → Int
  | 0 => cs.length * (dn - so)
  | m + 1 => lAI cs bef dn so m + pumpd (cs.getD m default) (bef.getD m 0) + (if (cs.getD m default).to < 0 then passI cs bef m else 0)
def lBI (cs : List Cell) (bef : List Int) (dn so : Int) : Nat → Int
  | 0 => lAI cs bef dn so cs.length
  | m + 1 => lBI cs bef dn so m + (if (cs.getD m default).cap < lvlI cs bef so m then lvlI cs bef so m - (cs.getD m default).cap else 0)
theorem aft_closed {cs : List Cell} {bef : List Int} {so : Int} (ht : toOk (cs.length : Int) 0 cs = true) (hn : cs.length ≤ 8) : ∀ m, m ≤ cs.length → ∀ j, j < 8 → (aftP cs bef so m).getD j 0 = (if j < m then stayI cs bef j + so else 0) + inflI cs bef m j
  | 0, _, j, hj => by
    rw [aftP, if_neg (by omega), inflI]
    match j, hj with
    | 0, _ | 1, _ | 2, _ | 3, _ | 4, _ | 5, _ | 6, _ | 7, _ => rfl
  | m + 1, hm, j, hj => by
    have ih := aft_closed (so := so) (bef := bef) ht hn m (by omega)
    have hx : cs.getD m default = cs[m]'(by omega) := by simp [show m < cs.length from by omega]
    have hto := (toOk_iff _ _ _).1 ht m (cs[m]'(by omega)) (List.getElem?_eq_getElem (by omega))
    have hl := aft_len cs bef so m
    rw [aftP, stepA, inflI]
    have ht2 := hto.1
    have ht3 := hto.2
    rw [← hx] at ht2 ht3
    simp only [inB, Bool.and_eq_true, decide_eq_true_eq] at ht2
    have e0 : passd (cs.getD m default) (bef.getD m 0) = passI cs bef m := rfl
    have e1 : bef.getD m 0 - pumpd (cs.getD m default) (bef.getD m 0) - passI cs bef m + so = stayI cs bef m + so := rfl
    rw [e0, e1]
    generalize passI cs bef m = pa
    by_cases hm1 : (cs.getD m default).to = -1
    · simp only [if_pos hm1]
      rw [getD_setx _ _ _ _ (by omega), if_neg (by omega : ¬ (cs.getD m default).to = (j : Int)), ih m (by omega), ih j hj]
      by_cases e : m = j
      · subst e; (repeat' split) <;> omega
      · (repeat' split) <;> omega
    · simp only [if_neg hm1]
      have hk : (cs.getD m default).to = (((cs.getD m default).to.toNat : Nat) : Int) := by omega
      have hk8 : (cs.getD m default).to.toNat < 8 := by omega
      rw [getD_setx _ _ _ _ (by rw [List.length_set]; omega), getD_setx _ _ _ _ (by omega), getD_setx _ _ _ _ (by omega), ih m (by omega), ih j hj, ih _ hk8]
      by_cases e : m = j
      · subst e; (repeat' split) <;> omega
      · by_cases h3 : (cs.getD m default).to.toNat = j
        · rw [h3]; (repeat' split) <;> omega
        · (repeat' split) <;> omega
theorem left_closed {cs : List Cell} {bef : List Int} {dn so : Int} (ht : toOk (cs.length : Int) 0 cs = true) : ∀ m, m ≤ cs.length → (leftP cs bef dn so m).sum + cs.length * (dn - so) = lAI cs bef dn so m + m * (dn - so)
  | 0, _ => by simp [leftP, lAI]
  | m + 1, hm => by
    have ih := left_closed (bef := bef) (dn := dn) (so := so) ht m (by omega)
    have hx : cs.getD m default = cs[m]'(by omega) := by simp [show m < cs.length from by omega]
    have ht2 := ((toOk_iff _ _ _).1 ht m (cs[m]'(by omega)) (List.getElem?_eq_getElem (by omega))).1
    rw [← hx] at ht2
    simp only [inB, Bool.and_eq_true, decide_eq_true_eq] at ht2
    rw [leftP, lAI, List.sum_append, List.sum_append]
    simp only [List.sum_cons, List.sum_nil]
    push_cast
    rw [Int.add_mul]
    by_cases hm1 : (cs.getD m default).to = -1
    · rw [if_pos hm1, if_pos (by omega)]
      simp only [List.sum_cons, List.sum_nil, passI]
      omega
    · rw [if_neg hm1, if_neg (by omega)]
      simp only [List.sum_nil]
      omega
theorem over_closed {cs : List Cell} {bef : List Int} {dn so : Int} (ht : toOk (cs.length : Int) 0 cs = true) (hn : cs.length ≤ 8) (hlim : ∀ x ∈ cs, x.lim) {k : Int} (hk : 0 ≤ k) (hA : Upto k (aftP cs bef so cs.length)) : ∀ m, m ≤ cs.length → (overP cs (aftP cs bef so cs.length) (leftP cs bef dn so cs.length) m).sum = lBI cs bef dn so m
  | 0, _ => by
    have := left_closed (bef := bef) (dn := dn) (so := so) ht cs.length (Nat.le_refl _)
    rw [overP, lBI]; omega
  | m + 1, hm => by
    have ih := over_closed (dn := dn) ht hn hlim hk hA m (by omega)
    have h2 := (cut_cap hlim hA hk (aft_len _ _ _ _) hn m (by omega)).2 m (Nat.le_refl _)
    have h3 := aft_closed (so := so) (bef := bef) ht hn cs.length (Nat.le_refl _) m (by omega)
    rw [if_pos (by omega)] at h3
    rw [overP, lBI, List.sum_append, ih, h2, h3]
    simp only [List.sum_cons, List.sum_nil]
    unfold lvlI
    split <;> omega
theorem day_closed {cs : List Cell} {bef : List Int} {down soak : Int} (hc : ∀ x ∈ cs, x.lim) (ht : toOk (cs.length : Int) 0 cs = true) (hn : cs.length ≤ 8) (hb : Upto 100000 bef) (hd : 0 ≤ down ∧ down ≤ 4000) (hs : 0 ≤ soak ∧ soak ≤ 1000) :
    dayO cs bef down soak = lBI cs bef down (down * soak / 1000) cs.length ∧ ∀ j, j < cs.length → (dayL cs bef down soak).getD j 0 = min (lvlI cs bef (down * soak / 1000) j) (cs.getD j default).cap := by
  have hmb := mul_bd (a := down) (b := soak) (p := 4000) (q := 1000) hd hs
  have hA := aft_bd (so := down * soak / 1000) hc hb (by omega) cs.length (Nat.le_refl _)
  refine ⟨over_closed ht hn hc (by omega) hA cs.length (Nat.le_refl _), fun j hj => ?_⟩
  have h1 := (day_facts hc ht hn hb hd hs).2.2.1 j hj
  have h3 := aft_closed (so := down * soak / 1000) (bef := bef) ht hn cs.length (Nat.le_refl _) j (by omega)
  rw [if_pos hj] at h3
  rw [h1, h3]; rfl
theorem gets_bd {cs : List Cell} {bef : List Int} (hc : ∀ x ∈ cs, x.lim) (hb : Upto 100000 bef) (i : Nat) (hi : i < cs.length) : (0 ≤ pumpd (cs.getD i default) (bef.getD i 0) ∧ pumpd (cs.getD i default) (bef.getD i 0) ≤ bef.getD i 0) ∧ (0 ≤ passI cs bef i ∧ passI cs bef i ≤ 100000) ∧ (0 ≤ stayI cs bef i ∧ stayI cs bef i ≤ 100000) ∧ (0 ≤ bef.getD i 0 ∧ bef.getD i 0 ≤ 100000) := by
  have hx : cs.getD i default = cs[i] := by simp [hi]
  have hbi := hb.getD (by omega) i
  have hg := give_bd (x := cs.getD i default) (by rw [hx]; exact hc _ (List.getElem_mem hi)) hbi
  unfold passI stayI
  omega
theorem infl_bd {cs : List Cell} {bef : List Int} (hc : ∀ x ∈ cs, x.lim) (hb : Upto 100000 bef) (j : Nat) : ∀ k, k ≤ cs.length → 0 ≤ inflI cs bef k j ∧ inflI cs bef k j ≤ 100000 * k
  | 0, _ => by simp [inflI]
  | k + 1, hk => by
    have ih := infl_bd hc hb j k (by omega)
    have hg := gets_bd hc hb k (by omega)
    rw [inflI]
    push_cast
    split <;> omega
theorem lA_bd {cs : List Cell} {bef : List Int} {dn so : Int} (hc : ∀ x ∈ cs, x.lim) (hb : Upto 100000 bef) (hn : cs.length ≤ 8) (hd : 0 ≤ so ∧ so ≤ dn ∧ dn ≤ 4000) : ∀ m, m ≤ cs.length → 0 ≤ lAI cs bef dn so m ∧ lAI cs bef dn so m ≤ 100000 + 200000 * m
  | 0, _ => by
    have := mul_bd (a := (cs.length : Int)) (b := dn - so) (p := 8) (q := 4000) (by omega) (by omega)
    rw [lAI]; omega
  | m + 1, hm => by
    have ih := lA_bd hc hb hn hd m (by omega)
    have hg := gets_bd hc hb m (by omega)
    rw [lAI]
    push_cast
    split <;> omega
theorem lB_bd {cs : List Cell} {bef : List Int} {dn so : Int} (hc : ∀ x ∈ cs, x.lim) (hb : Upto 100000 bef) (hn : cs.length ≤ 8) (hd : 0 ≤ so ∧ so ≤ dn ∧ dn ≤ 4000) : ∀ m, m ≤ cs.length → 0 ≤ lBI cs bef dn so m ∧ lBI cs bef dn so m ≤ 2000000 + 1000000 * m
  | 0, _ => by
    have := lA_bd hc hb hn hd cs.length (Nat.le_refl _)
    rw [lBI]; omega
  | m + 1, hm => by
    have ih := lB_bd hc hb hn hd m (by omega)
    have hg := gets_bd hc hb m (by omega)
    have hi := infl_bd hc hb m cs.length (Nat.le_refl _)
    have hx : cs.getD m default = cs[m]'(by omega) := by simp [show m < cs.length from by omega]
    have hl := hc (cs.getD m default) (by rw [hx]; exact List.getElem_mem _)
    unfold Cell.lim at hl
    rw [lBI]
    unfold lvlI
    push_cast
    split <;> omega
def fillI (f : Nat → Int) (n i : Nat) : List Int := (List.range n).map fun j => if j < i then f j else 0
theorem fillI_len (f : Nat → Int) (n i : Nat) : (fillI f n i).length = n := by simp [fillI]
theorem fillI_getD (f : Nat → Int) {n i j : Nat} (h : j < n) : (fillI f n i).getD j 0 = if j < i then f j else 0 := by rw [List.getD_eq_getElem?_getD]; simp [fillI, h]
theorem fillI_set (f : Nat → Int) {n i : Nat} (h : i < n) : (fillI f n i).set i (f i) = fillI f n (i + 1) := by
  apply List.ext_getElem?
  intro j
  rw [List.getElem?_set]
  by_cases e : i = j
  · subst e
    rw [if_pos rfl, if_pos (by rw [fillI_len]; exact h)]
    simp [fillI, h]
  · rw [if_neg e]
    by_cases hj : j < n
    · simp only [fillI, List.getElem?_map, List.getElem?_range hj, Option.map_some]
      by_cases h2 : j < i
      · rw [if_pos h2, if_pos (by omega)]
      · rw [if_neg h2, if_neg (by omega)]
    · rw [List.getElem?_eq_none (by simp [fillI]; omega), List.getElem?_eq_none (by simp [fillI]; omega)]
theorem fillI_zero (f : Nat → Int) {n i : Nat} (h : i < n) (hf : f i = 0) : fillI f n i = fillI f n (i + 1) := by
  rw [← fillI_set f h, hf]
  apply List.ext_getElem?
  intro j
  rw [List.getElem?_set]
  by_cases e : i = j
  · subst e
    rw [if_pos rfl, if_pos (by rw [fillI_len]; exact h)]
    simp [fillI, h]
  · rw [if_neg e]
theorem rep_zero (f : Nat → Int) : ∀ n, rep [I 0] n = (fillI f n 0).map I
  | 0 => rfl
  | n + 1 => by
    show [I 0] ++ rep [I 0] n = _
    rw [rep_zero f n]
    simp [fillI, List.range_succ_eq_map, Function.comp_def]
def outI (cs : List Cell) (bef : List Int) (so : Int) (k : Nat) : List Int := (List.range k).map fun j => min (lvlI cs bef so j) (cs.getD j default).cap
theorem outI_succ (cs : List Cell) (bef : List Int) (so : Int) (k : Nat) : (outI cs bef so (k + 1)).map I = (outI cs bef so k).map I ++ [I (min (lvlI cs bef so k) (cs.getD k default).cap)] := by simp [outI, List.range_succ]
theorem outI_take {cs : List Cell} {bef : List Int} {down soak : Int} (hc : ∀ x ∈ cs, x.lim) (ht : toOk (cs.length : Int) 0 cs = true) (hn : cs.length ≤ 8) (hb : Upto 100000 bef) (hd : 0 ≤ down ∧ down ≤ 4000) (hs : 0 ≤ soak ∧ soak ≤ 1000) : outI cs bef (down * soak / 1000) cs.length = (dayL cs bef down soak).take cs.length := by
  have hf := (day_facts hc ht hn hb hd hs).1
  have hd := (day_closed hc ht hn hb hd hs).2
  apply List.ext_getElem?
  intro j
  by_cases hj : j < cs.length
  · rw [outI, List.getElem?_map, List.getElem?_range hj, List.getElem?_take, if_pos hj, List.getElem?_eq_getElem (by omega), ← getD_lt (by omega), hd j hj]; rfl
  · rw [List.getElem?_eq_none (by simp [outI]; omega), List.getElem?_eq_none (by simp; omega)]
end
end Go.Ev
