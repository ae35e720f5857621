/-
  Functions of the program, reckoned by the evaluator: what each answers, and that it leaves what came in as it was (part 15).
-/
import Derived.Test.YtibplmibcbillaaV14
set_option maxRecDepth 100000
set_option linter.unusedSimpArgs false
set_option linter.unusedVariables false
namespace Go.Ev
open Go Go.Proofs
noncomputable section
theorem set_sum : ∀ (a : List Int) (k : Nat) (z : Int), k < a.length → (a.set k z).sum = a.sum - a.getD k 0 + z
  | [], k, z, h => by simp at h
  | x :: a, 0, z, _ => by simp; omega
  | x :: a, k + 1, z, h => by
    have := set_sum a k z (by simpa using h)
    simp only [List.set_cons_succ, List.sum_cons, List.getD_cons_succ]
    omega
theorem getD_lt {a : List Int} {i : Nat} (h : i < a.length) : a.getD i 0 = a[i] := by rw [List.getD_eq_getElem?_getD, List.getElem?_eq_getElem h]; rfl
theorem aft_sum {cs : List Cell} {bef : List Int} {down so : Int} (ht : toOk (cs.length : Int) 0 cs = true) (hn : cs.length ≤ 8) (hb : bef.length = 8) : ∀ i, i ≤ cs.length → (aftP cs bef so i).sum + (leftP cs bef down so i).sum = (bef.take i).sum + i * down
  | 0, _ => by simp [aftP, leftP]
  | i + 1, hi => by
    have h := aft_sum (down := down) (so := so) ht hn hb i (by omega)
    have hx : cs.getD i default = cs[i]'(by omega) := by simp [show i < cs.length from by omega]
    have hto := ((toOk_iff _ _ _).1 ht i (cs[i]'(by omega)) (List.getElem?_eq_getElem (by omega))).1
    have hl := aft_len cs bef so i
    have hbi := getD_lt (a := bef) (i := i) (by omega)
    rw [sum_take bef i (by omega), ← hbi, aftP, leftP, stepA, hx]
    generalize hA : aftP cs bef so i = A at *
    generalize bef.getD i 0 = n0 at *
    generalize cs[i]'(by omega) = x at *
    simp only [inB, Bool.and_eq_true, decide_eq_true_eq] at hto
    by_cases hm : x.to = -1
    · simp only [if_pos hm]
      rw [set_sum _ _ _ (by omega)]
      simp only [List.sum_append, List.sum_cons, List.sum_nil]
      push_cast
      rw [Int.add_mul]
      omega
    · simp only [if_neg hm]
      rw [set_sum _ _ _ (by rw [List.length_set]; omega), set_sum _ _ _ (by omega)]
      simp only [List.sum_append, List.sum_cons, List.sum_nil]
      push_cast
      rw [Int.add_mul]
      omega
theorem cut_sum {cs : List Cell} {a l : List Int} (hn : cs.length ≤ a.length) : ∀ i, i ≤ cs.length → (cutP cs a i).sum + (overP cs a l i).sum = a.sum + l.sum
  | 0, _ => rfl
  | i + 1, hi => by
    have h := cut_sum (l := l) hn i (by omega)
    rw [cutP, overP, set_sum _ _ _ (by rw [cut_len]; omega)]
    simp only [List.sum_append, List.sum_cons, List.sum_nil]
    omega
theorem zed_sum : ∀ (n : Nat) (a : List Int), Zed n a → a.sum = (a.take n).sum
  | 0, [], _ => rfl
  | 0, x :: a, h => by
    have h0 := h 0 (Nat.le_refl _)
    simp at h0
    have := zed_sum 0 a (fun j _ => by have := h (j + 1) (by omega); simpa using this)
    simp at this
    simp [h0, this]
  | n + 1, [], _ => by simp
  | n + 1, x :: a, h => by
    have := zed_sum n a (fun j hj => by have := h (j + 1) (by omega); simpa using this)
    simp [this]
theorem day_sum {cs : List Cell} {bef : List Int} {down soak : Int} (hc : ∀ x ∈ cs, x.lim) (ht : toOk (cs.length : Int) 0 cs = true) (hn : cs.length ≤ 8) (hbl : bef.length = 8) (hb : Upto 100000 bef) (hd : 0 ≤ down ∧ down ≤ 4000) (hs : 0 ≤ soak ∧ soak ≤ 1000) :
    ((dayL cs bef down soak).take cs.length).sum + dayO cs bef down soak = (bef.take cs.length).sum + cs.length * down := by
  have h1 := aft_sum (bef := bef) (down := down) (so := down * soak / 1000) ht hn hbl cs.length (Nat.le_refl _)
  have h2 := cut_sum (cs := cs) (a := aftP cs bef (down * soak / 1000) cs.length) (l := leftP cs bef down (down * soak / 1000) cs.length) (by rw [aft_len]; omega) cs.length (Nat.le_refl _)
  have h3 := zed_sum _ _ (day_facts hc ht hn hb hd hs).2.2.2
  have e1 : (dayL cs bef down soak).sum = (cutP cs (aftP cs bef (down * soak / 1000) cs.length) cs.length).sum := rfl
  have e2 : dayO cs bef down soak = (overP cs (aftP cs bef (down * soak / 1000) cs.length) (leftP cs bef down (down * soak / 1000) cs.length) cs.length).sum := rfl
  omega
theorem snow_step (melt : Int) (ds : List Day) (rain : List Int) (s0 : Int) (i : Nat) : snowP melt ds rain s0 i + rain.getD i 0 = snowP melt ds rain s0 (i + 1) + downP melt ds rain s0 i := by
  rw [snowP, downP]
  split <;> omega
theorem run_sum {cs : List Cell} {g : Gr} {ds : List Day} {t : Tru} {lvs rain : List Int} (h : Fit cs g ds t lvs rain) : ∀ i, i ≤ ds.length → ((levP cs g ds t lvs rain i).take cs.length).sum + cs.length * snowP g.melt ds rain t.snow i + (leftsR cs g ds t lvs rain i).sum = lvs.sum + cs.length * t.snow + cs.length * (rain.take i).sum
  | 0, _ => by
    have hl := h.ll
    have e : (levP cs g ds t lvs rain 0).take cs.length = lvs := by rw [levP, ← hl]; simp
    rw [e]
    simp [snowP, leftsR]
  | i + 1, hi => by
    have ih := run_sum h i (by omega)
    have hf := lev_facts h i (by omega)
    have hdb := down_bd h.melt h.dlim h.rb h.snow i (by omega)
    have hd := day_sum (bef := levP cs g ds t lvs rain i) h.lim h.to_ h.n8.2 hf.1 hf.2 hdb h.soak
    have hs := snow_step g.melt ds rain t.snow i
    have hr := h.rl
    have e1 : levP cs g ds t lvs rain (i + 1) = dayL cs (levP cs g ds t lvs rain i) (downP g.melt ds rain t.snow i) t.soak := rfl
    have e2 : leftD cs g ds t lvs rain i = dayO cs (levP cs g ds t lvs rain i) (downP g.melt ds rain t.snow i) t.soak := rfl
    rw [leftsR_succ, List.sum_append, sum_take rain i (by omega), e1]
    rw [← e2] at hd
    have hg := getD_lt (a := rain) (i := i) (by omega)
    simp only [List.sum_cons, List.sum_nil]
    have hm : (cs.length : Int) * snowP g.melt ds rain t.snow i + cs.length * rain.getD i 0 = cs.length * snowP g.melt ds rain t.snow (i + 1) + cs.length * downP g.melt ds rain t.snow i := by rw [← Int.mul_add, hs, Int.mul_add]
    rw [Int.mul_add (cs.length : Int) (rain.take i).sum, ← hg]
    omega
theorem left_pos {cs : List Cell} {g : Gr} {ds : List Day} {t : Tru} {lvs rain : List Int} (h : Fit cs g ds t lvs rain) (i : Nat) (hi : i < ds.length) : 0 ≤ leftD cs g ds t lvs rain i ∧ leftD cs g ds t lvs rain i ≤ 100000000 := by
  have hf := lev_facts h i (by omega)
  have hdb := down_bd h.melt h.dlim h.rb h.snow i hi
  have hsk := h.soak
  have hmb := mul_bd (a := downP g.melt ds rain t.snow i) (b := t.soak) (p := 4000) (q := 1000) hdb hsk
  have hms := Int.mul_le_mul_of_nonneg_left hsk.2 hdb.1
  have hA := aft_bd (so := downP g.melt ds rain t.snow i * t.soak / 1000) h.lim hf.2 (by omega) cs.length (Nat.le_refl _)
  have hn8 := h.n8
  have hL := left_bd (so := downP g.melt ds rain t.snow i * t.soak / 1000) h.lim hf.2 hdb (by omega) cs.length (Nat.le_refl _)
  have hO := over_bd (k := 3000000) h.lim (hA.mono (by omega)) (by omega) (hL.1.mono (by omega)) cs.length (Nat.le_refl _)
  have e2 : leftD cs g ds t lvs rain i = (overP cs (aftP cs (levP cs g ds t lvs rain i) (downP g.melt ds rain t.snow i * t.soak / 1000) cs.length) (leftP cs (levP cs g ds t lvs rain i) (downP g.melt ds rain t.snow i) (downP g.melt ds rain t.snow i * t.soak / 1000) cs.length) cs.length).sum := rfl
  rw [e2]
  generalize overP cs _ _ cs.length = O at hO
  have hlen : O.length ≤ 32 := by omega
  have hO1 := hO.1
  clear hO e2
  have : ∀ (l : List Int), Upto 3000000 l → 0 ≤ l.sum ∧ l.sum ≤ 3000000 * l.length := by
    intro l
    induction l with
    | nil => intro _; simp
    | cons a l ih =>
      intro h
      have h1 := h a (by simp)
      have h2 := ih (fun z hz => h z (by simp [hz]))
      simp only [List.sum_cons, List.length_cons]
      push_cast
      omega
  have := this O hO1
  omega
/-- A truth by words is one of the ground's. -/
theorem pick_ok {cs : List Cell} {g : Gr} {ds : List Day} (ws : List Int) (h : daysErr cs g ds = 0) : truthErr cs g ds (pickT g ws) (pickL cs ws cs.length) (pickR cs ds ws ds.length) = 0 := by
  have h0 := h
  unfold daysErr at h0
  split at h0
  · rename_i h6
    split at h0
    · simp at h0
    · split at h0
      · rename_i h8
        simp only [gOk, Bool.and_eq_true] at h6
        obtain ⟨⟨⟨⟨⟨k1, k2⟩, k3⟩, k4⟩, k5⟩, k6⟩ := h6
        rw [List.all_eq_true] at k2 h8
        simp only [okR, Bool.and_eq_true, decide_eq_true_eq] at k4 k5
        have a1 := pick_in (w := nextW ws 0) k4.1.2
        have a2 := pick_in (w := nextW ws 1) k5.1.2
        have e1 : inB (pickT g ws).snow g.slo g.shi = true := by simp only [inB, Bool.and_eq_true, decide_eq_true_eq]; exact a1
        have e2 : inB (pickT g ws).soak g.klo g.khi = true := by simp only [inB, Bool.and_eq_true, decide_eq_true_eq]; exact a2
        have e3 : fitsB (pickL cs ws cs.length) (cs.map Cell.lv) = true := (fits_iff _ _).2 ⟨by simp [pickL], fun i u r q1 q2 => by
          simp only [pickL, List.getElem?_map, Option.map_eq_some_iff] at q1 q2
          obtain ⟨j, q3, rfl⟩ := q1
          obtain ⟨x, q4, rfl⟩ := q2
          have hi := (List.getElem?_eq_some_iff.1 q4).1
          rw [List.getElem?_range hi] at q3
          cases q3
          have hx : cs.getD i default = x := by rw [List.getD_eq_getElem?_getD, q4]; rfl
          have hl := Cell.ok_lim (k2 x (List.mem_of_getElem? q4))
          unfold Cell.lim at hl
          rw [hx]
          have := pick_in (w := nextW ws (2 + i)) hl.2.1.2.1
          simp only [inB, Bool.and_eq_true, decide_eq_true_eq]
          exact this⟩
        have e4 : fitsB (pickR cs ds ws ds.length) (ds.map Day.rn) = true := (fits_iff _ _).2 ⟨by simp [pickR], fun i u r q1 q2 => by
          simp only [pickR, List.getElem?_map, Option.map_eq_some_iff] at q1 q2
          obtain ⟨j, q3, rfl⟩ := q1
          obtain ⟨x, q4, rfl⟩ := q2
          have hi := (List.getElem?_eq_some_iff.1 q4).1
          rw [List.getElem?_range hi] at q3
          cases q3
          have hx : ds.getD i default = x := by rw [List.getD_eq_getElem?_getD, q4]; rfl
          have hl := Day.ok_lim (h8 x (List.mem_of_getElem? q4))
          unfold Day.lim at hl
          rw [hx]
          have := pick_in (w := nextW ws (2 + cs.length + i)) hl.1.2.1
          simp only [inB, Bool.and_eq_true, decide_eq_true_eq]
          exact this⟩
        unfold truthErr
        rw [if_pos h, e1, e2, e3, e4]
        rfl
      · simp at h0
  · simp at h0
/-- What a valid ground with days is. -/
structure GF (cs : List Cell) (g : Gr) (ds : List Day) : Prop where
  n8 : 1 ≤ cs.length ∧ cs.length ≤ 8
  lim : ∀ x ∈ cs, x.lim
  dlim : ∀ x ∈ ds, x.lim
  d30 : ds.length ≤ 30
  snow : 0 ≤ g.slo ∧ g.slo ≤ g.shi ∧ g.shi ≤ 100000
  soak : 0 ≤ g.klo ∧ g.klo ≤ g.khi ∧ g.khi ≤ 1000
theorem gf_of {cs : List Cell} {g : Gr} {ds : List Day} (h : daysErr cs g ds = 0) : GF cs g ds := by
  unfold daysErr at h
  split at h
  · rename_i h6
    split at h
    · simp at h
    · rename_i h7
      split at h
      · rename_i h8
        simp only [gOk, Bool.and_eq_true] at h6
        obtain ⟨⟨⟨⟨⟨k1, k2⟩, k3⟩, k4⟩, k5⟩, k6⟩ := h6
        rw [List.all_eq_true] at k2 h8
        simp only [inB, okR, Bool.and_eq_true, decide_eq_true_eq] at k1 k4 k5
        exact ⟨by omega, fun x hx => Cell.ok_lim (k2 x hx), fun x hx => Day.ok_lim (h8 x hx), by omega, by omega, by omega⟩
      · simp at h
  · simp at h
theorem ready_ok {cs : List Cell} {g : Gr} {ds : List Day} (h : readyB cs g ds = true) : daysErr cs g ds = 0 := by
  simp only [readyB, Bool.and_eq_true, decide_eq_true_eq] at h; exact h.2
theorem lev_cap {cs : List Cell} {g : Gr} {ds : List Day} {t : Tru} {lvs rain : List Int} (h : Fit cs g ds t lvs rain) (i : Nat) (hi : i < ds.length) (j : Nat) (hj : j < cs.length) : (levP cs g ds t lvs rain (i + 1)).getD j 0 ≤ cs[j].cap := by
  have hf := lev_facts h i (by omega)
  have hd := day_facts (bef := levP cs g ds t lvs rain i) h.lim h.to_ h.n8.2 hf.2 (down_bd h.melt h.dlim h.rb h.snow i hi) h.soak
  have := hd.2.2.1 j hj
  rw [levP, this]
  simp [hj]
  omega
end
end Go.Ev
