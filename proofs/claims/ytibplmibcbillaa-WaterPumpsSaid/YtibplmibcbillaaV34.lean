/-
  Functions of the program, reckoned by the evaluator: what each answers, and that it leaves what came in as it was (part 34).
-/
import Derived.Test.YtibplmibcbillaaV21
import Derived.Test.YtibplmibcbillaaV33
set_option maxRecDepth 100000
set_option linter.unusedSimpArgs false
set_option linter.unusedVariables false
namespace Go.Ev
open Go Go.Proofs
noncomputable section
def maxL (a b : List Int) : List Int := List.zipWith max a b
theorem maxL_len {a b : List Int} (h : a.length = b.length) : (maxL a b).length = a.length := by simp [maxL, h]
theorem maxL_get {a b : List Int} {i : Nat} (h : i < a.length) (h' : i < b.length) : (maxL a b)[i]? = some (max a[i] b[i]) := by
  simp [maxL, List.getElem?_zipWith, h, h']
theorem maxL_take {a b : List Int} {i : Nat} (h : i < a.length) (h' : i < b.length) : ((maxL a b).take (i + 1)).map I = ((maxL a b).take i).map I ++ [I (max a[i] b[i])] := by
  have hl : i < (maxL a b).length := by simp [maxL]; omega
  have e := maxL_get h h'
  rw [List.getElem?_eq_getElem hl] at e
  rw [List.take_succ_eq_append_getElem hl, List.map_append, Option.some.inj e]
  rfl
theorem maxL_le {a b : List Int} (h : a.length = b.length) : LeL a (maxL a b) := fun j => by
  rcases Nat.lt_or_ge j a.length with k | k
  · rw [List.getD_eq_getElem?_getD, List.getD_eq_getElem?_getD, maxL_get k (by omega), List.getElem?_eq_getElem k]
    simp only [Option.getD_some]
    omega
  · rw [List.getD_eq_getElem?_getD, List.getD_eq_getElem?_getD, List.getElem?_eq_none k, List.getElem?_eq_none (by rw [maxL_len h]; exact k)]
    exact Int.le_refl _
theorem fits_max {a b : List Int} {rs : List Rg} (ha : fitsB a rs = true) (hb : fitsB b rs = true) : fitsB (maxL a b) rs = true := by
  obtain ⟨l1, h1⟩ := (fits_iff _ _).1 ha
  obtain ⟨l2, h2⟩ := (fits_iff _ _).1 hb
  refine (fits_iff _ _).2 ⟨by rw [maxL_len (by omega)]; exact l1, fun i u r hu hr => ?_⟩
  have hi := (List.getElem?_eq_some_iff.1 hr).1
  rw [maxL_get (by omega) (by omega)] at hu
  have k1 := h1 i _ r (List.getElem?_eq_getElem (by omega)) hr
  have k2 := h2 i _ r (List.getElem?_eq_getElem (by omega)) hr
  have e := Option.some.inj hu
  subst e
  simp only [inB, Bool.and_eq_true, decide_eq_true_eq] at k1 k2 ⊢
  omega
def maxT (t o : Tru) : Tru := ⟨max t.snow o.snow, max t.soak o.soak⟩
theorem max_ok {cs : List Cell} {g : Gr} {ds : List Day} {t o : Tru} {lvs rain lvs2 rain2 : List Int} (h : truthErr cs g ds t lvs rain = 0) (h2 : truthErr cs g ds o lvs2 rain2 = 0) : truthErr cs g ds (maxT t o) (maxL lvs lvs2) (maxL rain rain2) = 0 := by
  unfold truthErr at h h2 ⊢
  split at h
  · rename_i h0
    rw [if_pos h0] at h2 ⊢
    split at h
    · rename_i k1
      split at h2
      · rename_i k2
        simp only [Bool.and_eq_true] at k1 k2
        obtain ⟨⟨⟨a1, a2⟩, a3⟩, a4⟩ := k1
        obtain ⟨⟨⟨c1, c2⟩, c3⟩, c4⟩ := k2
        rw [if_pos]
        simp only [Bool.and_eq_true]
        refine ⟨⟨⟨?_, ?_⟩, fits_max a3 c3⟩, fits_max a4 c4⟩
        · simp only [inB, Bool.and_eq_true, decide_eq_true_eq] at a1 c1 ⊢; show g.slo ≤ max t.snow o.snow ∧ max t.snow o.snow ≤ g.shi; omega
        · simp only [inB, Bool.and_eq_true, decide_eq_true_eq] at a2 c2 ⊢; show g.klo ≤ max t.soak o.soak ∧ max t.soak o.soak ≤ g.khi; omega
      · omega
    · omega
  · exact absurd h (by assumption)
theorem setP_get {cs : List Cell} {k : Nat} {p : Int} {i : Nat} (hi : i < cs.length) : (setP cs k p)[i]? = some (if k = i then { cs[i] with pump := p } else cs[i]) := by
  unfold setP
  rw [List.getElem?_set]
  split
  · rename_i e; subst e; rw [if_pos hi, show cs.getD k default = cs[k] from by simp [hi]]
  · rw [List.getElem?_eq_getElem hi]
theorem setP_lv {cs : List Cell} {k : Nat} {p : Int} : (setP cs k p).map Cell.lv = cs.map Cell.lv := by
  apply List.ext_getElem?
  intro i
  rw [List.getElem?_map, List.getElem?_map]
  rcases Nat.lt_or_ge i cs.length with h | h
  · rw [setP_get h, List.getElem?_eq_getElem h]
    split <;> rfl
  · rw [List.getElem?_eq_none h, List.getElem?_eq_none (by rw [setP_len]; exact h)]
theorem setP_gOk {cs : List Cell} {g : Gr} {k : Nat} {p : Int} (h : gOk cs g = true) (hp : 0 ≤ p ∧ p ≤ 100000) : gOk (setP cs k p) g = true := by
  unfold gOk at h ⊢
  rw [setP_len]
  simp only [Bool.and_eq_true] at h ⊢
  obtain ⟨⟨⟨⟨⟨h1, h2⟩, h3⟩, h4⟩, h5⟩, h6⟩ := h
  refine ⟨⟨⟨⟨⟨h1, ?_⟩, ?_⟩, h4⟩, h5⟩, h6⟩
  · rw [List.all_eq_true] at h2 ⊢
    intro x hx
    obtain ⟨i, hi, rfl⟩ := List.mem_iff_getElem.1 hx
    have hi' : i < cs.length := by rw [setP_len] at hi; exact hi
    have e := setP_get (k := k) (p := p) hi'
    rw [List.getElem?_eq_getElem hi] at e
    have e2 := Option.some.inj e
    have hc := h2 cs[i] (List.getElem_mem hi')
    rw [e2]
    split
    · unfold Cell.ok at hc ⊢
      simp only [Bool.and_eq_true] at hc ⊢
      refine ⟨hc.1, ?_⟩
      simp only [inB, Bool.and_eq_true, decide_eq_true_eq]
      exact hp
    · exact hc
  · refine (toOk_iff _ _ _).2 fun i c hc => ?_
    have hi : i < cs.length := by have := (List.getElem?_eq_some_iff.1 hc).1; rw [setP_len] at this; exact this
    have k1 := (toOk_iff _ _ _).1 h3 i cs[i] (List.getElem?_eq_getElem hi)
    rw [setP_get hi] at hc
    have e2 := Option.some.inj hc
    subst e2
    split <;> exact k1
theorem setP_days {cs : List Cell} {g : Gr} {ds : List Day} {k : Nat} {p : Int} (h : daysErr cs g ds = 0) (hp : 0 ≤ p ∧ p ≤ 100000) : daysErr (setP cs k p) g ds = 0 := by
  unfold daysErr at h ⊢
  split at h
  · rename_i h1
    rw [if_pos (setP_gOk h1 hp)]
    exact h
  · omega
theorem setP_truth {cs : List Cell} {g : Gr} {ds : List Day} {t : Tru} {lvs rain : List Int} {k : Nat} {p : Int} (h : truthErr cs g ds t lvs rain = 0) (hp : 0 ≤ p ∧ p ≤ 100000) : truthErr (setP cs k p) g ds t lvs rain = 0 := by
  unfold truthErr at h ⊢
  split at h
  · rename_i h1
    rw [if_pos (setP_days h1 hp), setP_lv]
    exact h
  · exact absurd h (by assumption)
theorem setP_le {cs : List Cell} {k : Nat} {p : Int} (hk : k < cs.length) (hp : cs[k].pump ≤ p) : ∀ i, i < cs.length → LeC ((setP cs k p).getD i default) (cs.getD i default) := fun i hi => by
  rw [List.getD_eq_getElem?_getD, List.getD_eq_getElem?_getD, setP_get hi, List.getElem?_eq_getElem hi]
  simp only [Option.getD_some]
  split
  · rename_i e; subst e; exact ⟨rfl, rfl, rfl, rfl, hp⟩
  · exact LeC.refl _
end
end Go.Ev
