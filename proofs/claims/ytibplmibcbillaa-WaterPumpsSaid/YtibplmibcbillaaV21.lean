/-
  Functions of the program, reckoned by the evaluator: what each answers, and that it leaves what came in as it was (part 21).
-/
import Derived.Test.YtibplmibcbillaaV20
set_option maxRecDepth 100000
set_option linter.unusedSimpArgs false
set_option linter.unusedVariables false
namespace Go.Ev
open Go Go.Proofs
noncomputable section
/-- None is greater. -/
def LeL (a b : List Int) : Prop := ∀ j, a.getD j 0 ≤ b.getD j 0
theorem getD_set (a : List Int) (k j : Nat) (z : Int) (hk : k < a.length) : (a.set k z).getD j 0 = if k = j then z else a.getD j 0 := by
  rw [List.getD_eq_getElem?_getD, List.getElem?_set]
  split
  · first | rfl | (rw [if_pos (by omega)]; rfl)
  · rw [List.getD_eq_getElem?_getD]
theorem LeL.set {a b : List Int} (h : LeL a b) {k : Nat} {y z : Int} (hz : y ≤ z) (ha : k < a.length) (hb : k < b.length) : LeL (a.set k y) (b.set k z) := fun j => by
  rw [getD_set _ _ _ _ ha, getD_set _ _ _ _ hb]
  split
  · exact hz
  · exact h j
theorem LeL.refl (a : List Int) : LeL a a := fun _ => Int.le_refl _
/-- The same cell, with a pump that is not less. -/
structure LeC (x' x : Cell) : Prop where
  cap : x'.cap = x.cap
  keep : x'.keep = x.keep
  pass : x'.pass = x.pass
  to_ : x'.to = x.to
  pump : x.pump ≤ x'.pump
theorem LeC.refl (x : Cell) : LeC x x := ⟨rfl, rfl, rfl, rfl, Int.le_refl _⟩
theorem give_mono {x x' : Cell} (h : LeC x' x) (hx : x.lim) (hx' : x'.lim) {n' n : Int} (hn : n' ≤ n) : passd x' n' ≤ passd x n ∧ n' - pumpd x' n' - passd x' n' ≤ n - pumpd x n - passd x n := by
  have h1 := h.pump
  unfold Cell.lim at hx hx'
  have hr : n' - pumpd x' n' ≤ n - pumpd x n := by unfold pumpd; omega
  have he : max (n' - pumpd x' n' - x'.keep) 0 ≤ max (n - pumpd x n - x.keep) 0 := by rw [h.keep]; omega
  have hd : max (n - pumpd x n - x.keep) 0 - max (n' - pumpd x' n' - x'.keep) 0 ≤ (n - pumpd x n) - (n' - pumpd x' n') := by rw [h.keep]; omega
  unfold passd
  rw [h.pass]
  generalize n - pumpd x n = r at *
  generalize n' - pumpd x' n' = r' at *
  generalize max (r - x.keep) 0 = e at *
  generalize max (r' - x'.keep) 0 = e' at *
  have hp : 0 ≤ x.pass ∧ x.pass ≤ 1000 := hx.2.2.2.1
  have m1 := Int.mul_le_mul_of_nonneg_right he hp.1
  have m2 : e * x.pass ≤ e' * x.pass + (e - e') * 1000 := by
    have m3 := Int.mul_le_mul_of_nonneg_left hp.2 (show 0 ≤ e - e' by omega)
    have m4 : e * x.pass = e' * x.pass + (e - e') * x.pass := by rw [← Int.add_mul]; congr 1; omega
    omega
  constructor
  · exact Int.ediv_le_ediv (by omega) m1
  · omega
theorem stepA_mono {x x' : Cell} (h : LeC x' x) (hx : x.lim) (hx' : x'.lim) {i : Nat} {n' n so' so : Int} (hn : n' ≤ n) (hs : so' ≤ so) {a' a : List Int} (ha : LeL a' a) (hl' : a'.length = 8) (hl : a.length = 8) (hi : i < 8) (hto : x.to = -1 ∨ 0 ≤ x.to ∧ x.to < 8) : LeL (stepA x' i n' so' a') (stepA x i n so a) := by
  have hg := give_mono h hx hx' hn
  unfold stepA
  rw [h.to_]
  by_cases hm : x.to = -1
  · simp only [if_pos hm]
    exact ha.set (by have := ha i; omega) (by omega) (by omega)
  · simp only [if_neg hm]
    have h1 : LeL (a'.set x.to.toNat (a'.getD x.to.toNat 0 + passd x' n')) (a.set x.to.toNat (a.getD x.to.toNat 0 + passd x n)) := ha.set (by have := ha x.to.toNat; omega) (by omega) (by omega)
    exact h1.set (by have := h1 i; omega) (by rw [List.length_set]; omega) (by rw [List.length_set]; omega)
theorem aft_mono {cs cs' : List Cell} (hlen : cs'.length = cs.length) (hn : cs.length ≤ 8) (hc : ∀ i, i < cs.length → LeC (cs'.getD i default) (cs.getD i default)) (hlim : ∀ x ∈ cs, x.lim) (hlim' : ∀ x ∈ cs', x.lim) (ht : toOk (cs.length : Int) 0 cs = true) {bef' bef : List Int} (hb : LeL bef' bef) {so' so : Int} (hs : so' ≤ so) :
    ∀ i, i ≤ cs.length → LeL (aftP cs' bef' so' i) (aftP cs bef so i)
  | 0, _ => LeL.refl _
  | i + 1, hi => by
    have h := aft_mono hlen hn hc hlim hlim' ht hb hs i (by omega)
    have hx : cs.getD i default = cs[i]'(by omega) := by simp [show i < cs.length from by omega]
    have hx' : cs'.getD i default = cs'[i]'(by omega) := by simp [show i < cs'.length from by omega]
    have hto := ((toOk_iff _ _ _).1 ht i (cs[i]'(by omega)) (List.getElem?_eq_getElem (by omega))).1
    simp only [inB, Bool.and_eq_true, decide_eq_true_eq] at hto
    rw [aftP, aftP]
    exact stepA_mono (hc i (by omega)) (by rw [hx]; exact hlim _ (List.getElem_mem _)) (by rw [hx']; exact hlim' _ (List.getElem_mem _)) (hb i) hs h (aft_len _ _ _ _) (aft_len _ _ _ _) (by omega) (by rw [hx]; omega)
theorem cut_mono {cs cs' : List Cell} (hlen : cs'.length = cs.length) (hc : ∀ i, i < cs.length → LeC (cs'.getD i default) (cs.getD i default)) {a' a : List Int} (ha : LeL a' a) (hl' : a'.length = 8) (hl : a.length = 8) (hn : cs.length ≤ 8) : ∀ i, i ≤ cs.length → LeL (cutP cs' a' i) (cutP cs a i)
  | 0, _ => ha
  | i + 1, hi => by
    have h := cut_mono hlen hc ha hl' hl hn i (by omega)
    have hcap := (hc i (by omega)).cap
    rw [cutP, cutP, hcap]
    exact h.set (by have := h i; omega) (by rw [cut_len]; omega) (by rw [cut_len]; omega)
theorem day_mono {cs cs' : List Cell} (hlen : cs'.length = cs.length) (hn : cs.length ≤ 8) (hc : ∀ i, i < cs.length → LeC (cs'.getD i default) (cs.getD i default)) (hlim : ∀ x ∈ cs, x.lim) (hlim' : ∀ x ∈ cs', x.lim) (ht : toOk (cs.length : Int) 0 cs = true) {bef' bef : List Int} (hb : LeL bef' bef) {d' d s' s : Int}
    (hd : 0 ≤ d' ∧ d' ≤ d) (hs : 0 ≤ s' ∧ s' ≤ s) : LeL (dayL cs' bef' d' s') (dayL cs bef d s) := by
  have m : d' * s' / 1000 ≤ d * s / 1000 := Int.ediv_le_ediv (by omega) (Int.mul_le_mul hd.2 hs.2 hs.1 (by omega))
  unfold dayL
  rw [hlen]
  exact cut_mono hlen hc (aft_mono hlen hn hc hlim hlim' ht hb m cs.length (Nat.le_refl _)) (aft_len _ _ _ _) (aft_len _ _ _ _) hn cs.length (Nat.le_refl _)
theorem sd_mono {melt : Int} {ds : List Day} {rain' rain : List Int} {s' s : Int} (hr : LeL rain' rain) (hs : s' ≤ s) : ∀ i, snowP melt ds rain' s' i ≤ snowP melt ds rain s i ∧ downP melt ds rain' s' i ≤ downP melt ds rain s i
  | 0 => by
    have := hr 0
    refine ⟨by rw [snowP, snowP]; exact hs, ?_⟩
    rw [downP, downP, snowP, snowP]
    split <;> omega
  | i + 1 => by
    have h := sd_mono (melt := melt) (ds := ds) hr hs i
    have h0 := hr i
    have h1 := hr (i + 1)
    have e : snowP melt ds rain' s' (i + 1) ≤ snowP melt ds rain s (i + 1) := by
      rw [snowP, snowP]
      split <;> omega
    refine ⟨e, ?_⟩
    rw [downP, downP]
    split <;> omega
theorem app_zero (l : List Int) (k j : Nat) : (l ++ List.replicate k 0).getD j 0 = l.getD j 0 := by
  rw [List.getD_eq_getElem?_getD, List.getD_eq_getElem?_getD]
  by_cases h : j < l.length
  · rw [List.getElem?_append_left h]
  · rw [List.getElem?_append_right (by omega), List.getElem?_eq_none (by omega : l.length ≤ j), List.getElem?_replicate]
    split <;> rfl
theorem lev_mono {cs cs' : List Cell} {g g' : Gr} {ds : List Day} {t t' : Tru} {lvs lvs' rain rain' : List Int} (h : Fit cs g ds t lvs rain) (h' : Fit cs' g' ds t' lvs' rain') (hlen : cs'.length = cs.length) (hc : ∀ i, i < cs.length → LeC (cs'.getD i default) (cs.getD i default)) (hm : g'.melt = g.melt)
    (hs : t'.snow ≤ t.snow) (hk : t'.soak ≤ t.soak) (hl : LeL lvs' lvs) (hr : LeL rain' rain) : ∀ i, i ≤ ds.length → LeL (levP cs' g' ds t' lvs' rain' i) (levP cs g ds t lvs rain i)
  | 0, _ => fun j => by rw [levP, levP, app_zero, app_zero]; exact hl j
  | i + 1, hi => by
    have ih := lev_mono h h' hlen hc hm hs hk hl hr i (by omega)
    have hsd := sd_mono (melt := g.melt) (ds := ds) hr hs i
    have hdb := down_bd h'.melt h'.dlim h'.rb h'.snow i (by omega)
    have hsk := h'.soak
    rw [levP, levP, hm]
    rw [hm] at hdb
    exact day_mono hlen h.n8.2 hc h.lim h'.lim h.to_ ih ⟨hdb.1, hsd.2⟩ ⟨hsk.1, hk⟩
/-- A truth lies between the ends. -/
structure Betw (cs : List Cell) (g : Gr) (ds : List Day) (t : Tru) (lvs rain : List Int) : Prop where
  snow : g.slo ≤ t.snow ∧ t.snow ≤ g.shi
  soak : g.klo ≤ t.soak ∧ t.soak ≤ g.khi
  l1 : LeL (lowL cs) lvs
  l2 : LeL lvs (highL cs)
  r1 : LeL (lowR ds) rain
  r2 : LeL rain (highR ds)
theorem LeL.of {a b : List Int} (hl : a.length = b.length) (h : ∀ (j : Nat) x y, a[j]? = some x → b[j]? = some y → x ≤ y) : LeL a b := fun j => by
  by_cases hj : j < a.length
  · rw [getD_lt hj, getD_lt (by omega)]
    exact h j _ _ (List.getElem?_eq_getElem hj) (List.getElem?_eq_getElem (by omega))
  · rw [List.getD_eq_getElem?_getD, List.getD_eq_getElem?_getD, List.getElem?_eq_none (by omega), List.getElem?_eq_none (by omega)]
    exact Int.le_refl _
theorem betw_of {cs : List Cell} {g : Gr} {ds : List Day} {t : Tru} {lvs rain : List Int} (h : truthErr cs g ds t lvs rain = 0) : Betw cs g ds t lvs rain := by
  unfold truthErr at h
  split at h
  · split at h
    · rename_i h1
      simp only [Bool.and_eq_true] at h1
      obtain ⟨⟨⟨h2, h3⟩, h4⟩, h5⟩ := h1
      obtain ⟨l1, l2⟩ := (fits_iff _ _).1 h4
      obtain ⟨r1, r2⟩ := (fits_iff _ _).1 h5
      simp only [inB, Bool.and_eq_true, decide_eq_true_eq] at h2 h3
      rw [List.length_map] at l1 r1
      have q : ∀ (i : Nat) u x, lvs[i]? = some u → cs[i]? = some x → x.lo ≤ u ∧ u ≤ x.hi := fun i u x a b => by
        have := l2 i u x.lv a (by rw [List.getElem?_map, b]; rfl)
        simp only [inB, Bool.and_eq_true] at this
        exact ⟨of_decide_eq_true this.1, of_decide_eq_true this.2⟩
      have p : ∀ (i : Nat) u x, rain[i]? = some u → ds[i]? = some x → x.lo ≤ u ∧ u ≤ x.hi := fun i u x a b => by
        have := r2 i u x.rn a (by rw [List.getElem?_map, b]; rfl)
        simp only [inB, Bool.and_eq_true] at this
        exact ⟨of_decide_eq_true this.1, of_decide_eq_true this.2⟩
      refine ⟨h2, h3, LeL.of (by simp [lowL, l1]) fun j x y a b => ?_, LeL.of (by simp [highL, l1]) fun j x y a b => ?_, LeL.of (by simp [lowR, r1]) fun j x y a b => ?_, LeL.of (by simp [highR, r1]) fun j x y a b => ?_⟩
      · simp only [lowL, List.getElem?_map, Option.map_eq_some_iff] at a
        obtain ⟨c, e, rfl⟩ := a
        exact (q j y c b e).1
      · simp only [highL, List.getElem?_map, Option.map_eq_some_iff] at b
        obtain ⟨c, e, rfl⟩ := b
        exact (q j x c a e).2
      · simp only [lowR, List.getElem?_map, Option.map_eq_some_iff] at a
        obtain ⟨c, e, rfl⟩ := a
        exact (p j y c b e).1
      · simp only [highR, List.getElem?_map, Option.map_eq_some_iff] at b
        obtain ⟨c, e, rfl⟩ := b
        exact (p j x c a e).2
    · simp at h
  · rename_i h0; exact absurd h h0
theorem betw_lev {cs : List Cell} {g : Gr} {ds : List Day} {t : Tru} {lvs rain : List Int} (hd : daysErr cs g ds = 0) (h : truthErr cs g ds t lvs rain = 0) (i : Nat) (hi : i ≤ ds.length) (j : Nat) :
    (levP cs g ds (lowT g) (lowL cs) (lowR ds) i).getD j 0 ≤ (levP cs g ds t lvs rain i).getD j 0 ∧ (levP cs g ds t lvs rain i).getD j 0 ≤ (levP cs g ds (highT g) (highL cs) (highR ds) i).getD j 0 := by
  have hb := betw_of h
  exact ⟨lev_mono (fit_of h) (fit_of (low_ok hd)) rfl (fun i _ => LeC.refl _) rfl hb.snow.1 hb.soak.1 hb.l1 hb.r1 i hi j, lev_mono (fit_of (high_ok hd)) (fit_of h) rfl (fun i _ => LeC.refl _) rfl hb.snow.2 hb.soak.2 hb.l2 hb.r2 i hi j⟩
theorem betw_snow {cs : List Cell} {g : Gr} {ds : List Day} {t : Tru} {lvs rain : List Int} (h : truthErr cs g ds t lvs rain = 0) (i : Nat) :
    snowP g.melt ds (lowR ds) (lowT g).snow i ≤ snowP g.melt ds rain t.snow i ∧ snowP g.melt ds rain t.snow i ≤ snowP g.melt ds (highR ds) (highT g).snow i := by
  have hb := betw_of h
  exact ⟨(sd_mono hb.r1 hb.snow.1 i).1, (sd_mono hb.r2 hb.snow.2 i).1⟩
theorem rows_same {cs : List Cell} {g g' : Gr} {ds : List Day} {t t' : Tru} {lvs lvs' rain rain' : List Int} {cs' : List Cell} (h : Fit cs g ds t lvs rain) (h' : Fit cs' g' ds t' lvs' rain') (hl : cs'.length = cs.length) : Same (rowsR cs g ds t lvs rain ds.length) (rowsR cs' g' ds t' lvs' rain' ds.length) := by
  refine ⟨by simp [rowsR], fun i x y a b => ?_⟩
  simp only [rowsR, List.getElem?_map, Option.map_eq_some_iff] at a b
  obtain ⟨k, e1, rfl⟩ := a
  obtain ⟨k', e2, rfl⟩ := b
  have hk : k < ds.length := by have := List.mem_of_getElem? e1; simpa using this
  have hk' : k' < ds.length := by have := List.mem_of_getElem? e2; simpa using this
  have f1 := lev_facts h (k + 1) (by omega)
  have f2 := lev_facts h' (k' + 1) (by omega)
  rw [List.length_take, List.length_take, f1.1, f2.1, hl]
end
end Go.Ev
