/-
  Functions of the program, reckoned by the evaluator: what each answers, and that it leaves what came in as it was.
-/
import Derived.Test.YtibplmibcbillaaEvNe
import Derived.IntWalk
import Derived.Test.YtibplmibcbillaaPt33
set_option maxRecDepth 100000
set_option linter.unusedSimpArgs false
set_option linter.unusedVariables false
namespace Go.Ev
open Go
noncomputable section
theorem wrapF_u64 {n : Int} (h1 : 0 ≤ n) (h2 : n < 9223372036854775808) : wrapF .u64 n = n := by
  rw [wrapF_eq]
  exact IntWalk.u64_in _ (by omega)
/-- A reading: where, when, and from where to where. -/
structure Rd where
  cell : Int
  day : Int
  lo : Int
  hi : Int
abbrev Rd.k (x : Rd) : Int × Int := (x.cell, x.day)
def encW (k : Int × Int) : AV := .agg [.int .i64 k.1, .int .i64 k.2]
def encR2 (r : Int × Int) : AV := .agg [.int .i64 r.1, .int .i64 r.2]
def Rd.c (x : Rd) : List AV := [.int .i64 x.cell, .int .i64 x.day, .int .i64 x.lo, .int .i64 x.hi]
/-- One reading more. -/
def wst (f : Int × Int → Option (Int × Int)) (x : Rd) : Int × Int → Option (Int × Int) := fun k =>
  if k = x.k then some (match f k with | some r => (max r.1 x.lo, min r.2 x.hi) | none => (x.lo, x.hi)) else f k
def wf (rs : List Rd) : Int × Int → Option (Int × Int) := rs.foldl wst fun _ => none
theorem wf_snoc (rs : List Rd) (x : Rd) : wf (rs ++ [x]) = wst (wf rs) x := by unfold wf; rw [List.foldl_append]; rfl
def mapV (f : Int × Int → Option (Int × Int)) : Int × Int → Option AV := fun k => (f k).map encR2
def wv (f : Int × Int → Option (Int × Int)) (x : Rd) : Int × Int := match f x.k with | some r => (max r.1 x.lo, min r.2 x.hi) | none => (x.lo, x.hi)
theorem mapV_upd (f : Int × Int → Option (Int × Int)) (x : Rd) : updK (mapV f) x.k (encR2 (wv f x)) = mapV (wst f x) := by
  funext k
  unfold updK mapV wst wv
  by_cases h : k = x.k
  · subst h; simp
  · simp [h]
def WfOk (rs : List Rd) (k : Int × Int) : Option (Int × Int) → Prop
  | none => ∀ x ∈ rs, x.k ≠ k
  | some r => (∃ x ∈ rs, x.k = k) ∧ (∀ n, n < r.1 ↔ ∃ x ∈ rs, x.k = k ∧ n < x.lo) ∧ ∀ n, r.2 < n ↔ ∃ x ∈ rs, x.k = k ∧ x.hi < n
theorem wf_rev : ∀ (l : List Rd) (k : Int × Int), WfOk l k (wf l.reverse k)
  | [], k => by show ∀ x ∈ ([] : List Rd), _; intro x h; cases h
  | y :: l, k => by
    rw [List.reverse_cons, wf_snoc]
    have ih := wf_rev l k
    unfold wst
    by_cases h : k = y.k
    · rw [if_pos h]
      cases hw : wf l.reverse k with
      | none =>
        rw [hw] at ih
        refine ⟨⟨y, by simp, h.symm⟩, fun n => ⟨fun q => ⟨y, by simp, h.symm, q⟩, ?_⟩, fun n => ⟨fun q => ⟨y, by simp, h.symm, q⟩, ?_⟩⟩
        all_goals
          rintro ⟨x, hx, hk, q⟩
          rcases List.mem_cons.1 hx with rfl | hx
          · exact q
          · exact absurd hk (ih x hx)
      | some r =>
        rw [hw] at ih
        obtain ⟨_, h2, h3⟩ := ih
        refine ⟨⟨y, by simp, h.symm⟩, fun n => ⟨fun q => ?_, ?_⟩, fun n => ⟨fun q => ?_, ?_⟩⟩
        · dsimp only at q
          by_cases q1 : n < r.1
          · obtain ⟨x, hx, hk, hl⟩ := (h2 n).1 q1; exact ⟨x, by simp [hx], hk, hl⟩
          · exact ⟨y, by simp, h.symm, by omega⟩
        · rintro ⟨x, hx, hk, q⟩
          dsimp only
          rcases List.mem_cons.1 hx with rfl | hx
          · omega
          · have := (h2 n).2 ⟨x, hx, hk, q⟩; omega
        · dsimp only at q
          by_cases q1 : r.2 < n
          · obtain ⟨x, hx, hk, hl⟩ := (h3 n).1 q1; exact ⟨x, by simp [hx], hk, hl⟩
          · exact ⟨y, by simp, h.symm, by omega⟩
        · rintro ⟨x, hx, hk, q⟩
          dsimp only
          rcases List.mem_cons.1 hx with rfl | hx
          · omega
          · have := (h3 n).2 ⟨x, hx, hk, q⟩; omega
    · rw [if_neg h]
      cases hw : wf l.reverse k with
      | none =>
        rw [hw] at ih
        intro x hx
        rcases List.mem_cons.1 hx with rfl | hx
        · exact fun e => h e.symm
        · exact ih x hx
      | some r =>
        rw [hw] at ih
        obtain ⟨⟨x0, h0, k0⟩, h2, h3⟩ := ih
        refine ⟨⟨x0, by simp [h0], k0⟩, fun n => (h2 n).trans ⟨fun ⟨x, a, b⟩ => ⟨x, by simp [a], b⟩, ?_⟩, fun n => (h3 n).trans ⟨fun ⟨x, a, b⟩ => ⟨x, by simp [a], b⟩, ?_⟩⟩
        all_goals
          rintro ⟨x, hx, hk, q⟩
          rcases List.mem_cons.1 hx with rfl | hx
          · exact absurd hk.symm h
          · exact ⟨x, hx, hk, q⟩
theorem wf_spec (rs : List Rd) (k : Int × Int) : WfOk rs k (wf rs k) := by
  have h := wf_rev rs.reverse k
  rw [List.reverse_reverse] at h
  revert h
  cases wf rs k with
  | none => intro h x hx; exact h x (by simpa using hx)
  | some r =>
    rintro ⟨⟨x, a, b⟩, h2, h3⟩
    refine ⟨⟨x, by simpa using a, b⟩, fun n => (h2 n).trans ?_, fun n => (h3 n).trans ?_⟩ <;> simp

/-- What a map's key, or its range, says. -/
def dec2 : AV → Int × Int
  | .agg [.int _ a, .int _ b] => (a, b)
  | _ => (0, 0)
def tLow (lv : Int → Int → Int) (e : AV × AV × Nat) : Bool := decide (lv (dec2 e.1).2 (dec2 e.1).1 < (dec2 e.2.1).1)
def tHigh (lv : Int → Int → Int) (e : AV × AV × Nat) : Bool := decide ((dec2 e.2.1).2 < lv (dec2 e.1).2 (dec2 e.1).1)

theorem lookE_mem {l : List ((Int × Int) × AV × Nat)} (h : (l.map (·.1)).Nodup) {e : (Int × Int) × AV × Nat} (he : e ∈ l) : lookE l e.1 = some e.2.1 := by
  induction l with
  | nil => cases he
  | cons y l ih =>
    rw [List.map_cons, List.nodup_cons] at h
    rw [lookE]
    rcases List.mem_cons.1 he with rfl | he
    · rw [if_pos rfl]
    · rw [if_neg (fun q => h.1 (by rw [← q]; exact List.mem_map_of_mem he))]; exact ih h.2 he
theorem mem_lookE {l : List ((Int × Int) × AV × Nat)} {k : Int × Int} {v : AV} (h : lookE l k = some v) : ∃ n, (k, v, n) ∈ l := by
  induction l with
  | nil => cases h
  | cons y l ih =>
    rw [lookE] at h
    by_cases q : k = y.1
    · rw [if_pos q] at h
      cases h
      exact ⟨y.2.2, by rw [q]; simp⟩
    · rw [if_neg q] at h
      obtain ⟨n, hn⟩ := ih h
      exact ⟨n, by simp [hn]⟩

theorem len_le2 : ∀ (a b : List (Int × Int)), a.Nodup → (∀ x ∈ a, x ∈ b) → a.length ≤ b.length
  | [], _, _, _ => Nat.zero_le _
  | x :: a, b, hn, hs => by
    rw [List.nodup_cons] at hn
    have hx := hs x (by simp)
    have := len_le2 a (b.erase x) hn.2 fun y hy => (List.mem_erase_of_ne (fun q => hn.1 (by rw [← q]; exact hy))).2 (hs y (by simp [hy]))
    rw [List.length_erase_of_mem hx] at this
    have := List.length_pos_of_mem hx
    simp only [List.length_cons]
    omega
/-- The entries of the readings' map. -/
theorem map_entry {o : AObj} {rs : List Rd} (h : MapO o encW (mapV (wf rs))) : ∃ es c, o = .map es c ∧ es.length ≤ rs.length ∧ (∀ e ∈ es, e.2.2 < c) ∧ (es.map (·.2.2)).Nodup ∧
    (∀ e ∈ es, ∃ x ∈ rs, ∃ lo hi, e.1 = encW x.k ∧ e.2.1 = encR2 (lo, hi) ∧ wf rs x.k = some (lo, hi)) ∧
    ∀ x ∈ rs, ∃ lo hi n, (encW x.k, encR2 (lo, hi), n) ∈ es ∧ wf rs x.k = some (lo, hi) := by
  obtain ⟨l, c, rfl, h1, h2, h3, h4⟩ := h
  refine ⟨_, c, rfl, ?_, fun e he => ?_, ?_, fun e he => ?_, fun x hx => ?_⟩
  · have := len_le2 (l.map (·.1)) (rs.map Rd.k) h1 fun k hk => by
      obtain ⟨p, hp, rfl⟩ := List.mem_map.1 hk
      have q := lookE_mem h1 hp
      rw [h4] at q
      unfold mapV at q
      have hs := wf_spec rs p.1
      cases hw : wf rs p.1 with
      | none => rw [hw] at q; cases q
      | some r =>
        rw [hw] at hs
        obtain ⟨⟨x, hx, hk⟩, _⟩ := hs
        exact List.mem_map.2 ⟨x, hx, hk⟩
    simpa [entries] using this
  · unfold entries at he
    obtain ⟨p, hp, rfl⟩ := List.mem_map.1 he
    exact h3 p hp
  · unfold entries
    rw [List.map_map]
    exact h2
  · unfold entries at he
    obtain ⟨p, hp, rfl⟩ := List.mem_map.1 he
    have q := lookE_mem h1 hp
    rw [h4] at q
    unfold mapV at q
    have hs := wf_spec rs p.1
    cases hw : wf rs p.1 with
    | none => rw [hw] at q; cases q
    | some r =>
      rw [hw] at q hs
      obtain ⟨⟨x, hx, hk⟩, _⟩ := hs
      exact ⟨x, hx, r.1, r.2, by rw [hk], (Option.some.inj q).symm, by rw [hk]; exact hw⟩
  · have hs := wf_spec rs x.k
    cases hw : wf rs x.k with
    | none => rw [hw] at hs; exact absurd rfl (hs x hx)
    | some r =>
      have q : lookE l x.k = some (encR2 r) := by rw [h4]; unfold mapV; rw [hw]; rfl
      obtain ⟨n, hn⟩ := mem_lookE q
      exact ⟨r.1, r.2, n, List.mem_map.2 ⟨_, hn, rfl⟩, rfl⟩

theorem any_low {rs : List Rd} {es : List (AV × AV × Nat)} (lv : Int → Int → Int) (h1 : ∀ e ∈ es, ∃ x ∈ rs, ∃ lo hi, e.1 = encW x.k ∧ e.2.1 = encR2 (lo, hi) ∧ wf rs x.k = some (lo, hi))
    (h2 : ∀ x ∈ rs, ∃ lo hi n, (encW x.k, encR2 (lo, hi), n) ∈ es ∧ wf rs x.k = some (lo, hi)) : es.any (tLow lv) = rs.any fun x => decide (lv x.day x.cell < x.lo) := by
  rw [Bool.eq_iff_iff, List.any_eq_true, List.any_eq_true]
  constructor
  · rintro ⟨e, he, ht⟩
    obtain ⟨x, hx, lo, hi, e1, e2, hw⟩ := h1 e he
    have hs := wf_spec rs x.k
    rw [hw] at hs
    unfold tLow at ht
    rw [e1, e2] at ht
    obtain ⟨y, hy, hk, hl⟩ := (hs.2.1 _).1 (of_decide_eq_true ht)
    have hk1 : y.cell = x.cell := congrArg Prod.fst hk
    have hk2 : y.day = x.day := congrArg Prod.snd hk
    exact ⟨y, hy, by rw [hk1, hk2]; exact decide_eq_true hl⟩
  · rintro ⟨x, hx, ht⟩
    obtain ⟨lo, hi, n, he, hw⟩ := h2 x hx
    have hs := wf_spec rs x.k
    rw [hw] at hs
    exact ⟨_, he, decide_eq_true ((hs.2.1 _).2 ⟨x, hx, rfl, of_decide_eq_true ht⟩)⟩
theorem any_high {rs : List Rd} {es : List (AV × AV × Nat)} (lv : Int → Int → Int) (h1 : ∀ e ∈ es, ∃ x ∈ rs, ∃ lo hi, e.1 = encW x.k ∧ e.2.1 = encR2 (lo, hi) ∧ wf rs x.k = some (lo, hi))
    (h2 : ∀ x ∈ rs, ∃ lo hi n, (encW x.k, encR2 (lo, hi), n) ∈ es ∧ wf rs x.k = some (lo, hi)) : es.any (tHigh lv) = rs.any fun x => decide (x.hi < lv x.day x.cell) := by
  rw [Bool.eq_iff_iff, List.any_eq_true, List.any_eq_true]
  constructor
  · rintro ⟨e, he, ht⟩
    obtain ⟨x, hx, lo, hi, e1, e2, hw⟩ := h1 e he
    have hs := wf_spec rs x.k
    rw [hw] at hs
    unfold tHigh at ht
    rw [e1, e2] at ht
    obtain ⟨y, hy, hk, hl⟩ := (hs.2.2 _).1 (of_decide_eq_true ht)
    have hk1 : y.cell = x.cell := congrArg Prod.fst hk
    have hk2 : y.day = x.day := congrArg Prod.snd hk
    exact ⟨y, hy, by rw [hk1, hk2]; exact decide_eq_true hl⟩
  · rintro ⟨x, hx, ht⟩
    obtain ⟨lo, hi, n, he, hw⟩ := h2 x hx
    have hs := wf_spec rs x.k
    rw [hw] at hs
    exact ⟨_, he, decide_eq_true ((hs.2.2 _).2 ⟨x, hx, rfl, of_decide_eq_true ht⟩)⟩
theorem any_perm {α : Type} {a b : List α} (h : a.Perm b) (f : α → Bool) : a.any f = b.any f := by
  rw [Bool.eq_iff_iff, List.any_eq_true, List.any_eq_true]
  exact ⟨fun ⟨x, hx, q⟩ => ⟨x, h.mem_iff.1 hx, q⟩, fun ⟨x, hx, q⟩ => ⟨x, h.mem_iff.2 hx, q⟩⟩
end
end Go.Ev

set_option maxRecDepth 100000
set_option linter.unusedSimpArgs false
set_option linter.unusedVariables false
namespace Go.Ev
open Go Go.Proofs
noncomputable section
def Rd.ok (cs : List Cell) (ds : List Day) (x : Rd) : Bool := (inB x.cell 0 ((cs.length : Int) - 1) && inB x.day 0 ((ds.length : Int) - 1)) && okR x.lo x.hi 100000
/-- Is all but the soak known? -/
def knownB (cs : List Cell) (g : Gr) (ds : List Day) : Bool := (decide (g.slo = g.shi) && cs.all fun x => decide (x.lo = x.hi)) && ds.all fun x => decide (x.lo = x.hi)
/-- The error of readings. -/
def learnErr (cs : List Cell) (g : Gr) (ds : List Day) (rs : List Rd) : Int :=
  if (30 : Int) < (rs.length : Int) then 3 else if (rs.all fun x => x.ok cs ds) = true then (if knownB cs g ds = true then 0 else 8) else 2
def readErr (cs : List Cell) (g : Gr) (ds : List Day) (rs : List Rd) : Int := if daysErr cs g ds = 0 then learnErr cs g ds rs else daysErr cs g ds
theorem c34 (m : Nat) (rv : AV) (rs : List Rd) (H : Heap) (hZ : Row H rv 4 (rs.map Rd.c)) (hbig : rs.length ≤ 1000) : ∃ v H', RR (m + 2) (.fn 34 [rv]) H = some (v, H') ∧ Ret H H' ∧ Row H' v 4 (rs.map Rd.c) ∧ v.atom = true := by
  show ∃ v H', evFn Try.prog (RR (m + 1)) 34 [rv] H = some (v, H') ∧ Ret H H' ∧ Row H' v 4 (rs.map Rd.c) ∧ v.atom = true
  refine fn_okE Try.func34 rfl rfl (by kernel_rfl) (by kernel_rfl) ?_
  obtain ⟨W, hW, hg, hN, hE, hG⟩ := wOf H
  rw [← hW]
  have hld : lenOf rv = some rs.length := by simpa using hZ.len
  refine kS ?_; refine kR ?_; refine oA rfl rfl ?_; refine oN ?_; refine kS ?_; refine kR ?_; refine oA rfl rfl ?_; refine oN ?_; refine kS ?_; refine kS ?_; refine kR ?_; refine oA rfl rfl ?_; refine oN ?_; refine Ok.block ?_
  refine Ok.loop (fun n s => ∃ (i : Nat) (v3 : AV), n = rs.length - i ∧ i ≤ rs.length ∧ Mine W.next s.H v3 84 4 ((rs.take i).map Rd.c).flatten ∧ Has 6 [(0, rv), (2, .nils), (3, v3), (4, I (i : Int))] s.T ∧ s.D = [] ∧ Grow W s.H) (rs.length) (by unfold loopFuel; omega)
    ⟨0, .nils, rfl, Nat.zero_le _, Mine.nil _ _ _ _, Has.of (by kernel_rfl), rfl, hG⟩ ?_
  rintro n ⟨T, D, G⟩ ⟨i, v3, hn, hi, hm, ⟨f, hT⟩, hD, hg⟩
  dsimp only at *
  subst hT hD
  have hgn := hg.next
  refine kS ?_; refine kS ?_; refine kR ?_; refine oM rfl rfl ?_; refine oM rfl rfl ?_; refine oB rfl rfl rfl qbl ?_; refine OkO.bin rfl rfl rfl (bin_lss _ _) ?_; refine oN ?_
  refine Ok.cond rfl (fun h1 => ?_) (fun h1 => ?_)
  · have hlt : i < rs.length := by simpa using h1
    obtain ⟨bb, off, ccs, i1, i2w, i3, i4⟩ := (hZ.ext (hE W hG)).at_ i rs[i].c (by simp [hlt])
    have i2 : (G.get bb).bind AObj.cs = some ccs := by rw [hg.get _ i4]; exact i2w
    have i4g : bb < G.next := by omega
    have i5 : seg ccs (off + 2) 2 = some [I rs[i].lo, I rs[i].hi] := seg_sub i3 2 2 (by omega) (by omega)
    have i6 : ccs[off + 0]? = some (I rs[i].cell) := seg_get i3 0 (by omega)
    have i7 : ccs[off + 1]? = some (I rs[i].day) := seg_get i3 1 (by omega)
    have hml : ((rs.take i).map Rd.c).flatten.length = i * 4 := by rw [flat_len _ 4 (fun x hx => by simp only [List.mem_map] at hx; obtain ⟨y, _, rfl⟩ := hx; rfl)]; simp; omega
    refine Ok.skip ?_; refine kS ?_; refine Ok.block ?_; refine Ok.drawn [(0, true, []), (1, true, []), (2, true, []), (3, true, []), (4, true, []), (5, true, []), (6, true, []), (7, true, []), (8, true, []), (9, true, []), (10, true, []), (11, true, []), (12, true, []), (13, true, []), (14, true, []), (15, true, []), (16, false, [10, 5]), (17, true, []), (18, true, [15, 10, 5]), (19, false, [15, 10, 5]), (20, false, [])] (by kernel_rfl) ?_; refine pS ?_; refine oM rfl rfl ?_; refine oN ⟨rfl, ?_⟩; refine pS ?_; refine oM rfl rfl ?_; refine oN ⟨rfl, ?_⟩; refine pS ?_; refine oM rfl rfl ?_; refine oN ⟨rfl, ?_⟩; refine pS ?_; refine qX (sz := 4) (n := i) rfl rfl rfl ?_; refine oN ⟨rfl, ?_⟩; refine pS ?_; refine oF (o := 0) rfl (by kernel_rfl) rfl ?_; refine oN ⟨rfl, ?_⟩; refine pS ?_; refine oL rfl rfl (qla7 1) ?_; refine oN ⟨rfl, ?_⟩; refine pS ?_; refine oM rfl rfl ?_; refine oN ⟨rfl, ?_⟩; refine pS ?_; refine oM rfl rfl ?_; refine oN ⟨rfl, ?_⟩; refine pS ?_; refine qX (sz := 4) (n := i) rfl rfl rfl ?_; refine oN ⟨rfl, ?_⟩; refine pS ?_; refine oF (o := 1) rfl (by kernel_rfl) rfl ?_; refine oN ⟨rfl, ?_⟩; refine pS ?_; refine oL rfl rfl (qla7 1) ?_; refine oN ⟨rfl, ?_⟩; refine pS ?_; refine oM rfl rfl ?_; refine oN ⟨rfl, ?_⟩; refine pS ?_; refine oM rfl rfl ?_; refine oN ⟨rfl, ?_⟩; refine pS ?_; refine qX (sz := 4) (n := i) rfl rfl rfl ?_; refine oN ⟨rfl, ?_⟩; refine pS ?_; refine oF (o := 2) rfl (by kernel_rfl) rfl ?_; refine oN ⟨rfl, ?_⟩; refine pS ?_; refine oL rfl rfl (qlg8 2) ?_; refine oN ⟨rfl, ?_⟩; refine pS ?_; refine oV rfl rfl rfl rfl rfl (c52 _ _ _ _) ?_
    refine oN ⟨(sco (qsa0 1 rfl rfl rfl) (sco (qsa0 1 rfl rfl rfl) rfl)), ?_⟩; refine pS ?_; refine OkO.build (z := [.int .i64 0, .int .i64 0, .int .i64 0, .int .i64 0]) (pl := [(0, 1), (1, 1), (2, 2)]) rfl (by kernel_rfl) rfl rfl ?_; refine oN ⟨rfl, ?_⟩; refine pS ?_; refine OkO.buildSlice (el := 84) (sz := 4) (z := [.int .i64 0, .int .i64 0, .int .i64 0, .int .i64 0]) rfl (by kernel_rfl) (by decide) rfl rfl ?_
    refine oN ⟨(sco (qsg1 2 rfl rfl rfl) (sco (qsa0 1 rfl rfl rfl) (sco (qsa0 1 rfl rfl rfl) rfl))), ?_⟩; refine pS ?_; refine OkO.builtinE rfl rfl rfl (Mine.app (k0 := W.next) (sz := 4) (by_ := 32) (e := 84) (n := 1) (new := rs[i].c) (hm.to (by (try dsimp only); repeat (first | exact Ext.refl _ | assumption | apply Ext.new | (refine Ext.put ?_ _ (by first | omega | (simp only [hNw, hPt]; omega)))))) (by (try dsimp only); repeat (first | (first | exact hg | exact hG) | apply Grow.new | (refine Grow.put ?_ _ (by first | omega | (simp only [hNw, hPt]; omega))))) (Nat.le_refl _) (by have := hg.next; simp only [hNw]; omega) (by kernel_rfl) (by kernel_rfl) (elems_new (n := 1) (sz := 4) rfl) rfl rfl (by rw [hml]; omega) (by omega) (by omega) rfl) ?_
    rintro v2 G2 ⟨q1, q2, q3⟩
    have i8 : (G2.get bb).bind AObj.cs = some ccs := by rw [q2.get _ i4]; exact i2w
    refine oN ⟨(sco (qsg1 2 rfl rfl rfl) (sco (qsa0 1 rfl rfl rfl) (sco (qsa0 1 rfl rfl rfl) rfl))), ?_⟩; refine pS ?_; refine oA rfl rfl ?_; refine oN ⟨rfl, ?_⟩; refine OkP.nil ?_; refine kR ?_; refine oM rfl rfl ?_; refine OkO.bin rfl rfl rfl (bin_add (by omega) (by omega)) ?_; refine oA rfl rfl ?_; refine oN ?_
    refine ⟨rs.length - (i + 1), by omega, i + 1, v2, rfl, hlt, ?_, Has.of (by kernel_rfl), rfl, q2⟩
    rw [flat_take _ _ _ hlt]; exact q1
  · have hge : i = rs.length := by simp at h1; omega
    subst hge
    refine Ok.exit ?_; refine kS ?_; refine kR ?_; refine oM rfl rfl ?_; refine oA rfl rfl ?_; refine oN ?_
    refine Ok.ret ⟨.inr rfl, ?_⟩
    exact back_newA (resV_tmp rfl resV_nil) rfl (by rw [← hW]; exact hg) (fun H2 r2 r3 => ⟨r2, (Mine.back (by rw [List.take_length] at hm; exact hm) (fun x hx => by simp only [List.mem_map] at hx; obtain ⟨y, _, rfl⟩ := hx; rfl) (by omega) r3).1, hm.one.2⟩)
theorem c88 (m : Nat) (cv dv : AV) (cs : List Cell) (g : Gr) (ds : List Day) (x : Rd) (b1 b2 : Nat) (H : Heap) (h1b : (H.get b1).bind AObj.cs = some [cv, I g.slo, I g.shi, I g.klo, I g.khi, I g.melt]) (h2b : (H.get b2).bind AObj.cs = some [dv]) (l1b : b1 < H.next) (l2b : b2 < H.next) (hlc : lenOf cv = some cs.length) (hld : lenOf dv = some ds.length) (hbc : cs.length ≤ 1000000) (hbd : ds.length ≤ 1000000) : RR (m + 2) (.fn 88 [.agg x.c, .ptr b1 0, .ptr b2 0]) H = some (.bool (x.ok cs ds), H) := by
  refine (R_fn _ _ _ _ _).trans ?_; refine fn_ok Try.func88 rfl rfl (by kernel_rfl) (by kernel_rfl) ?_
  obtain ⟨W, hW, hg, hN, hE, hG⟩ := wOf H
  rw [← hW]
  have hb1W : (W.get b1).bind AObj.cs = some [cv, I g.slo, I g.shi, I g.klo, I g.khi, I g.melt] := by rw [hg]; exact h1b
  have hb2W : (W.get b2).bind AObj.cs = some [dv] := by rw [hg]; exact h2b
  have pd := lpl hld
  have pc := lpl hlc
  refine kS ?_; refine kR ?_; refine OkO.box rfl rfl ?_; refine oA rfl rfl ?_; refine oN ?_; refine kS ?_; refine Ok.drawn [(0, true, []), (1, true, []), (3, true, []), (4, true, []), (2, false, [4]), (5, false, [1]), (6, true, []), (7, true, []), (9, true, []), (10, true, []), (8, false, [10, 4, 1]), (11, false, [7, 4, 1]), (12, true, []), (13, true, []), (14, true, []), (15, true, []), (16, false, [10, 7, 4, 1]), (17, true, []), (18, true, [])] (by kernel_rfl) ?_; refine pS ?_; refine oF (o := 0) rfl (by kernel_rfl) rfl ?_; refine oN ⟨rfl, ?_⟩; refine pS ?_; refine oL rfl rfl (qla7 1) ?_; refine oN ⟨rfl, ?_⟩; refine pS ?_; refine oF (o := 0) rfl (by kernel_rfl) rfl ?_; refine oN ⟨rfl, ?_⟩; refine pS ?_; refine oL rfl rfl (qla7 1) ?_; refine oN ⟨rfl, ?_⟩; refine pS ?_; refine oV rfl rfl rfl rfl rfl (c74 _ cv cs.length _ hlc (by omega)) ?_
  refine oN ⟨(sco (qsa2 1 rfl rfl rfl) rfl), ?_⟩; refine pS ?_; refine oV rfl rfl rfl rfl rfl (c71 _ _ _ _ _) ?_
  refine oN ⟨(sco (qsa2 1 rfl rfl rfl) rfl), ?_⟩; refine pS ?_; refine oM rfl rfl ?_; refine oN ⟨rfl, ?_⟩
  refine OkP.split (d := 11) rfl (fun g1 => ?_) (fun g1 => ?_)
  · have e1 : inB x.cell 0 ((cs.length : Int) - 1) = true := by simpa using g1
    refine pS ?_; refine oL rfl rfl (qla7 1) ?_; refine oN ⟨rfl, ?_⟩; refine pS ?_; refine oF (o := 1) rfl (by kernel_rfl) rfl ?_; refine oN ⟨rfl, ?_⟩; refine pS ?_; refine oL rfl rfl (qla7 1) ?_; refine oN ⟨rfl, ?_⟩; refine pS ?_; refine oV rfl rfl rfl rfl rfl (c89 _ dv ds.length _ hld (by omega)) ?_
    refine oN ⟨(sco (qsa2 1 rfl rfl rfl) (sco (qsa2 1 rfl rfl rfl) (sco (qsa2 1 rfl rfl rfl) rfl))), ?_⟩; refine pS ?_; refine oV rfl rfl rfl rfl rfl (c71 _ _ _ _ _) ?_
    refine oN ⟨(sco (qsa2 1 rfl rfl rfl) (sco (qsa2 1 rfl rfl rfl) (sco (qsa2 1 rfl rfl rfl) rfl))), ?_⟩; refine pS ?_; refine OkO.pick (b := true) rfl rfl (fun _ => rfl) nofun ?_; refine oN ⟨rfl, ?_⟩; refine pS ?_; refine oM rfl rfl ?_; refine oN ⟨rfl, ?_⟩
    refine OkP.split (d := 18) rfl (fun g2 => ?_) (fun g2 => ?_)
    · have e2 : inB x.day 0 ((ds.length : Int) - 1) = true := by simpa using g2
      refine pS ?_; refine oF (o := 2) rfl (by kernel_rfl) rfl ?_; refine oN ⟨rfl, ?_⟩; refine pS ?_; refine oL rfl rfl (qlg8 2) ?_; refine oN ⟨rfl, ?_⟩; refine pS ?_; refine oV rfl rfl rfl rfl rfl (c75 _ _ _ _ _) ?_
      refine oN ⟨(sco (qsa2 1 rfl rfl rfl) (sco (qsa2 1 rfl rfl rfl) (sco (qsa2 1 rfl rfl rfl) (sco (qsa2 1 rfl rfl rfl) rfl)))), ?_⟩; refine pS ?_; refine OkO.pick (b := true) rfl rfl (fun _ => rfl) nofun ?_; refine oN ⟨rfl, ?_⟩; refine pS ?_; refine oA rfl rfl ?_; refine oN ⟨rfl, ?_⟩; refine OkP.nil ?_
      refine Ok.ret ⟨.inr rfl, ?_⟩
      exact back_flat rfl (congrArg AV.bool (by unfold Rd.ok; rw [e1, e2]; rfl)) rfl (by rw [← hW]; exact (by (try dsimp only); repeat (first | exact hG | apply Grow.new | (refine Grow.put ?_ _ (by first | omega | (simp only [hNw, hPt]; omega))))))
    · have e2 : inB x.day 0 ((ds.length : Int) - 1) = false := by simpa using g2
      refine pS ?_; refine oK rfl ?_; refine oN ⟨rfl, ?_⟩; refine pS ?_; refine oK rfl ?_; refine oN ⟨rfl, ?_⟩; refine pS ?_; refine oK rfl ?_
      refine oN ⟨(sco (qsa2 1 rfl rfl rfl) (sco (qsa2 1 rfl rfl rfl) (sco (qsa2 1 rfl rfl rfl) (sco (qsa2 1 rfl rfl rfl) rfl)))), ?_⟩; refine pS ?_; refine OkO.pick (b := false) rfl rfl nofun (fun _ => rfl) ?_; refine oN ⟨rfl, ?_⟩; refine pS ?_; refine oA rfl rfl ?_; refine oN ⟨rfl, ?_⟩; refine OkP.nil ?_
      refine Ok.ret ⟨.inr rfl, ?_⟩
      exact back_flat rfl (congrArg AV.bool (by unfold Rd.ok; rw [e1, e2]; rfl)) rfl (by rw [← hW]; exact (by (try dsimp only); repeat (first | exact hG | apply Grow.new | (refine Grow.put ?_ _ (by first | omega | (simp only [hNw, hPt]; omega))))))
  · have e1 : inB x.cell 0 ((cs.length : Int) - 1) = false := by simpa using g1
    refine pS ?_; refine oK rfl ?_; refine oN ⟨rfl, ?_⟩; refine pS ?_; refine oK rfl ?_; refine oN ⟨rfl, ?_⟩; refine pS ?_; refine oK rfl ?_; refine oN ⟨rfl, ?_⟩; refine pS ?_; refine oK rfl ?_
    refine oN ⟨(sco (ssk rfl) (sco (qsa2 1 rfl rfl rfl) (sco (qsa2 1 rfl rfl rfl) rfl))), ?_⟩; refine pS ?_; refine oK rfl ?_
    refine oN ⟨(sco (ssk rfl) (sco (qsa2 1 rfl rfl rfl) (sco (qsa2 1 rfl rfl rfl) rfl))), ?_⟩; refine pS ?_; refine OkO.pick (b := false) rfl rfl nofun (fun _ => rfl) ?_; refine oN ⟨rfl, ?_⟩; refine pS ?_; refine oM rfl rfl ?_; refine oN ⟨rfl, ?_⟩; refine pS ?_; refine oK rfl ?_; refine oN ⟨rfl, ?_⟩; refine pS ?_; refine oK rfl ?_; refine oN ⟨rfl, ?_⟩; refine pS ?_; refine oK rfl ?_
    refine oN ⟨(sco (ssk rfl) (sco (ssk rfl) (sco (qsa2 1 rfl rfl rfl) (sco (qsa2 1 rfl rfl rfl) rfl)))), ?_⟩; refine pS ?_; refine OkO.pick (b := false) rfl rfl nofun (fun _ => rfl) ?_; refine oN ⟨rfl, ?_⟩; refine pS ?_; refine oA rfl rfl ?_; refine oN ⟨rfl, ?_⟩; refine OkP.nil ?_
    refine Ok.ret ⟨.inr rfl, ?_⟩
    exact back_flat rfl (congrArg AV.bool (by unfold Rd.ok; rw [e1]; rfl)) rfl (by rw [← hW]; exact (by (try dsimp only); repeat (first | exact hG | apply Grow.new | (refine Grow.put ?_ _ (by first | omega | (simp only [hNw, hPt]; omega))))))
theorem c90 (m : Nat) (v : AV) (xs : List Rd) (cv dv : AV) (cs : List Cell) (g : Gr) (ds : List Day) (b1 b2 : Nat) (H : Heap) (hR : Row H v 4 (xs.map Rd.c)) (hl : xs.length ≤ 1000000) (h1b : (H.get b1).bind AObj.cs = some [cv, I g.slo, I g.shi, I g.klo, I g.khi, I g.melt]) (h2b : (H.get b2).bind AObj.cs = some [dv]) (l1b : b1 < H.next) (l2b : b2 < H.next) (hlc : lenOf cv = some cs.length) (hld : lenOf dv = some ds.length) (hbc : cs.length ≤ 1000000) (hbd : ds.length ≤ 1000000) : RR (m + 4) (.fn 90 [v, .fn 88 [] [.ptr b1 0, .ptr b2 0]]) H = some (.bool (xs.all fun x => x.ok cs ds), H) := by
  refine (R_fn _ _ _ _ _).trans ?_; refine fn_ok Try.func90 rfl rfl (by kernel_rfl) (by kernel_rfl) ?_
  obtain ⟨W, hW, hg, hN, hE, hG⟩ := wOf H
  rw [← hW]
  have hlen : lenOf v = some xs.length := by simpa using hR.len
  refine kS ?_; refine kR ?_; refine oA rfl rfl ?_; refine oN ?_; refine kS ?_; refine kS ?_; refine kR ?_; refine oM rfl rfl ?_; refine oB rfl rfl rfl qbl ?_; refine oM rfl rfl ?_; refine oN ?_; refine Ok.block ?_
  refine Ok.loop (fun n s => ∃ i : Nat, n = xs.length - i ∧ i ≤ xs.length ∧ (∀ j, j < i → ∀ x, xs[j]? = some x → x.ok cs ds = true) ∧ Has 5 [(1, .fn 88 [] [.ptr b1 0, .ptr b2 0]), (4, .bool false), (7, v), (8, I xs.length), (9, I (i : Int))] s.T ∧ s.D = [] ∧ Grow W s.H) (xs.length) (by unfold loopFuel; omega)
    ⟨0, rfl, Nat.zero_le _, nofun, Has.of (by kernel_rfl), rfl, hG⟩ ?_
  rintro n ⟨T, D, G⟩ ⟨i, hn, hi, hall, ⟨f, hT⟩, hD, hg⟩
  dsimp only at *
  subst hT hD
  have hgn := hg.next
  refine kS ?_; refine kR ?_; refine OkO.bin rfl rfl rfl (bin_lss _ _) ?_; refine oN ?_; refine kS ?_
  refine Ok.cond rfl (fun h1 => ?_) (fun h1 => ?_)
  · have hlt : i < xs.length := by simpa using h1
    obtain ⟨bb, off, ccs, i1, i2, i3, i4⟩ := (hR.ext (hE _ hg)).at_ i xs[i].c (by simp [hlt])
    have hne : bb ≠ G.next := by omega
    have hb1G : (G.get b1).bind AObj.cs = some [cv, I g.slo, I g.shi, I g.klo, I g.khi, I g.melt] := by rw [(hE _ hg).get _ l1b]; exact h1b
    have hb2G : (G.get b2).bind AObj.cs = some [dv] := by rw [(hE _ hg).get _ l2b]; exact h2b
    have hgx : H.next ≤ G.next := (hE _ hg).next
    refine Ok.skip ?_; refine kS ?_; refine Ok.block ?_; refine kS ?_; refine kR ?_; refine qX (sz := 4) rfl rfl rfl ?_; refine oL rfl rfl (qlg8 4) ?_; refine OkO.alloc (z := [.int .i64 0, .int .i64 0, .int .i64 0, .int .i64 0]) rfl (by kernel_rfl) ?_; refine oT rfl rfl rfl (sAc (n := 4) (ag := true) (by kernel_rfl) (by first | assumption | (simp (disch := first | omega | (simp only [hNw, hPt]; omega)) only [gN] <;> first | rfl | assumption | exact gp0 _ _ _ | exact gn0 _ _)) rfl (by first | rfl | assumption) (by first | rfl | exact spl_set _ _ _ (by first | assumption | omega | (simp; omega)))) ?_; refine oN ?_; refine kS ?_; refine kR ?_; refine oM rfl rfl ?_; refine oL rfl rfl (qlg8 4) ?_; refine oV rfl rfl rfl rfl rfl (c88 (m + 1) cv dv cs g ds xs[i] b1 b2 _ (by first | assumption | simp (disch := first | omega | (simp only [hNw, hPt]; omega)) only [gN] <;> first | rfl | assumption) (by first | assumption | simp (disch := first | omega | (simp only [hNw, hPt]; omega)) only [gN] <;> first | rfl | assumption) (by simp only [hNw, hPt]; omega) (by simp only [hNw, hPt]; omega) hlc hld hbc hbd) ?_; refine OkO.un rfl rfl rfl ?_; refine oN ?_
    refine Ok.cond rfl (fun h2 => ?_) (fun h2 => ?_)
    · refine kS ?_
      refine kR ?_; refine oA rfl rfl ?_; refine oN ?_
      refine Ok.ret ⟨.inr rfl, ?_⟩
      exact back_flat rfl (congrArg AV.bool (by symm; rw [List.all_eq_false]; exact ⟨xs[i], List.getElem_mem hlt, by simpa using h2⟩)) rfl (by rw [← hW]; exact (by (try dsimp only); repeat (first | (first | exact hg | exact hG) | apply Grow.new | (refine Grow.put ?_ _ (by first | omega | (simp only [hNw, hPt]; omega))))))
    · refine Ok.skip ?_
      refine kR ?_; refine OkO.bin rfl rfl rfl (bin_add (by omega) (by omega)) ?_; refine oM rfl rfl ?_; refine oN ?_
      refine ⟨xs.length - (i + 1), by omega, i + 1, rfl, hlt, fun j hj x hx => ?_, Has.of (by kernel_rfl), rfl, (by (try dsimp only); repeat (first | (first | exact hg | exact hG) | apply Grow.new | (refine Grow.put ?_ _ (by first | omega | (simp only [hNw, hPt]; omega)))))⟩
      by_cases e : j = i
      · subst e; rw [List.getElem?_eq_getElem hlt] at hx; cases hx; simpa using h2
      · exact hall j (by omega) x hx
  · have hge : i = xs.length := by simp at h1; omega
    refine Ok.exit ?_; refine kS ?_; refine kR ?_; refine oA rfl rfl ?_; refine oN ?_
    refine Ok.ret ⟨.inr rfl, ?_⟩
    exact back_flat rfl (congrArg AV.bool (by symm; rw [List.all_eq_true]; intro x hx; obtain ⟨j, hj, rfl⟩ := List.mem_iff_getElem.1 hx; exact hall j (by omega) _ (List.getElem?_eq_getElem hj))) rfl (by rw [← hW]; exact (by (try dsimp only); repeat (first | (first | exact hg | exact hG) | apply Grow.new | (refine Grow.put ?_ _ (by first | omega | (simp only [hNw, hPt]; omega))))))
end
end Go.Ev

set_option maxRecDepth 100000
set_option linter.unusedSimpArgs false
set_option linter.unusedVariables false
namespace Go.Ev
open Go Go.Proofs
noncomputable section
theorem keysW : Keys Try.prog 166 encW where
  eq := fun a c => by
    have e : eqT Try.prog 8 166 (encW a) (encW c) = (match eqI a.1 c.1 with | true => (match eqI a.2 c.2 with | true => some true | false => some false) | false => some false) := by kernel_rfl
    have q : ∀ x y : Int, (x == y) = decide (x = y) := fun x y => by by_cases h : x = y <;> simp [h]
    rw [e, eqI_eq, eqI_eq, q, q]
    obtain ⟨a1, a2⟩ := a
    obtain ⟨c1, c2⟩ := c
    by_cases h1 : a1 = c1 <;> by_cases h2 : a2 = c2 <;> simp [h1, h2]
  chk := fun a => by kernel_rfl
  same := fun a => by
    show sameAtoms [.int .i64 a.1, .int .i64 a.2] [.int .i64 a.1, .int .i64 a.2] = true
    simp [sameAtoms, sameAtom, sameKind, eqI_eq]
theorem look_w (f : Int × Int → Option (Int × Int)) (k : Int × Int) : ∃ (r0 : Int × Int) (kn : Bool), (match mapV f k with | some v => AV.tup [v, .bool true] | none => .tup [.agg [I 0, I 0], .bool false]) = .tup [.agg [I r0.1, I r0.2], .bool kn] ∧ ((kn = true ∧ f k = some r0) ∨ (kn = false ∧ f k = none)) := by
  unfold mapV
  cases f k with
  | none => exact ⟨(0, 0), false, rfl, .inr ⟨rfl, rfl⟩⟩
  | some r => exact ⟨r, true, rfl, .inl ⟨rfl, rfl⟩⟩
theorem mapT130 : mapTy Try.prog 130 = some (166, .agg [I 0, I 0]) := by kernel_rfl
theorem c66 (m : Nat) (rv : AV) (rs : List Rd) (H : Heap) (hZ : Row H rv 4 (rs.map Rd.c)) (hbig : rs.length ≤ 1000) : ∃ v H', RR (m + 1) (.fn 66 [rv]) H = some (v, H') ∧ ∃ mb o, v = .map mb ∧ Ret H H' ∧ H.next ≤ mb ∧ mb < H'.next ∧ H'.get mb = some o ∧ MapO o encW (mapV (wf rs)) := by
  show ∃ v H', evFn Try.prog (RR (m + 0)) 66 [rv] H = some (v, H') ∧ ∃ mb o, v = .map mb ∧ Ret H H' ∧ H.next ≤ mb ∧ mb < H'.next ∧ H'.get mb = some o ∧ MapO o encW (mapV (wf rs))
  refine fn_okE Try.func66 rfl rfl (by kernel_rfl) (by kernel_rfl) ?_
  obtain ⟨W, hW, hg, hN, hE, hG⟩ := wOf H
  rw [← hW]
  have hld : lenOf rv = some rs.length := by simpa using hZ.len
  refine kS ?_; refine kR ?_; refine oA rfl rfl ?_; refine oN ?_; refine kS ?_; refine kR ?_; refine OkO.makeMap rfl ?_; refine oA rfl rfl ?_; refine oN ?_; refine kS ?_; refine kS ?_; refine kR ?_; refine oM rfl rfl ?_; refine oB rfl rfl rfl qbl ?_; refine oM rfl rfl ?_; refine oN ?_; refine Ok.block ?_
  refine Ok.loop (fun n s => ∃ (i : Nat) (o9 : AObj), n = rs.length - i ∧ i ≤ rs.length ∧ Has 6 [(2, .nilm), (3, .map W.next), (10, rv), (11, I rs.length), (12, I (i : Int))] s.T ∧ s.D = [] ∧ Grow W s.H ∧ s.H.get W.next = some o9 ∧ W.next < s.H.next ∧ MapO o9 encW (mapV (wf (rs.take i)))) (rs.length) (by unfold loopFuel; omega)
    ⟨0, .map [] 0, rfl, Nat.zero_le _, Has.of (by kernel_rfl), rfl, (by (try dsimp only); repeat (first | exact hG | apply Grow.new | (refine Grow.put ?_ _ (by first | omega | (simp only [hNw, hPt]; omega))))), gn0 _ _, by simp, MapO.nil.congr fun k => rfl⟩ ?_
  rintro n ⟨T, D, G⟩ ⟨i, o9, hn, hi, ⟨f, hT⟩, hD, hg, ho9, hlt9, hmo⟩
  dsimp only at *
  subst hT hD
  have hgn := hg.next
  refine kS ?_; refine kR ?_; refine OkO.bin rfl rfl rfl (bin_lss _ _) ?_; refine oN ?_; refine kS ?_
  refine Ok.cond rfl (fun h1 => ?_) (fun h1 => ?_)
  · have hlt : i < rs.length := by simpa using h1
    obtain ⟨bb, off, ccs, i1, i2, i3, i4⟩ := (hZ.ext (hE _ hg)).at_ i rs[i].c (by simp [hlt])
    have hne : bb ≠ G.next := by omega
    refine Ok.skip ?_; refine kS ?_; refine Ok.block ?_; refine kS ?_; refine kR ?_; refine qX (sz := 4) (n := i) rfl rfl rfl ?_; refine oL rfl rfl (qlg8 4) ?_; refine OkO.alloc (z := [.int .i64 0, .int .i64 0, .int .i64 0, .int .i64 0]) rfl (by kernel_rfl) ?_; refine oT rfl rfl rfl (sAc (n := 4) (ag := true) (by kernel_rfl) (by first | assumption | (simp (disch := first | omega | (simp only [hNw, hPt]; omega)) only [gN] <;> first | rfl | assumption | exact gp0 _ _ _ | exact gn0 _ _)) rfl (by first | rfl | assumption) (by first | rfl | exact spl_set _ _ _ (by first | assumption | omega | (simp; omega)))) ?_; refine oN ?_; refine kS ?_; refine kR ?_; refine oF (o := 0) rfl (by kernel_rfl) rfl ?_; refine oL rfl rfl (qla7 1) ?_; refine oF (o := 1) rfl (by kernel_rfl) rfl ?_; refine oL rfl rfl (qla7 1) ?_; refine OkO.build (z := [.int .i64 0, .int .i64 0]) (pl := [(0, 1), (1, 1)]) rfl (by kernel_rfl) rfl rfl ?_; refine OkO.alloc (z := [.int .i64 0, .int .i64 0]) rfl (by kernel_rfl) ?_; refine oT rfl rfl rfl (sAc (n := 2) (ag := true) (by kernel_rfl) (by first | assumption | (simp (disch := first | omega | (simp only [hNw, hPt]; omega)) only [gN] <;> first | rfl | assumption | exact gp0 _ _ _ | exact gn0 _ _)) rfl (by first | rfl | assumption) (by first | rfl | exact spl_set _ _ _ (by first | assumption | omega | (simp; omega)))) ?_; refine oN ?_; refine kS ?_; refine kR ?_; refine oM rfl rfl ?_; refine oL rfl rfl (qlg8 2) ?_
    obtain ⟨r0, kn, hr0, hkn⟩ := look_w (wf (rs.take i)) rs[i].k
    refine OkO.lookup (rs[i].k) (.tup [.agg [I r0.1, I r0.2], .bool kn]) rfl mapT130 keysW rfl rfl (by first | assumption | (simp (disch := first | omega | (simp only [hNw, hPt]; omega)) only [gN] <;> first | rfl | assumption)) hmo hr0 ?_; refine oM rfl rfl ?_; refine OkO.extract rfl rfl rfl ?_; refine OkO.extract rfl rfl rfl ?_; refine OkO.alloc (z := [.int .i64 0, .int .i64 0]) rfl (by kernel_rfl) ?_; refine oT rfl rfl rfl (sAc (n := 2) (ag := true) (by kernel_rfl) (by first | assumption | (simp (disch := first | omega | (simp only [hNw, hPt]; omega)) only [gN] <;> first | rfl | assumption | exact gp0 _ _ _ | exact gn0 _ _)) rfl (by first | rfl | assumption) (by first | rfl | exact spl_set _ _ _ (by first | assumption | omega | (simp; omega)))) ?_; refine oA rfl rfl ?_; refine oN ?_; refine kS ?_; refine kS ?_; refine kR ?_; refine oM rfl rfl ?_; refine OkO.un rfl rfl rfl ?_; refine oN ?_
    refine Ok.cond rfl (fun h2 => ?_) (fun h2 => ?_)
    · have hk8 : kn = false := by simpa using h2
      have e8 : wf (rs.take i) rs[i].k = none := by rcases hkn with q | q; (rw [hk8] at q; cases q.1); exact q.2
      have hw9 : AV.agg [I (max rs[i].lo rs[i].lo), I (min rs[i].hi rs[i].hi)] = encR2 (wv (wf (rs.take i)) rs[i]) := by unfold wv; rw [e8]; simp [encR2]
      refine kR ?_; refine oF (o := 2) rfl (by kernel_rfl) rfl ?_; refine oL rfl rfl (qlg8 2) ?_; refine oT rfl rfl rfl (sAc (n := 2) (ag := true) (by kernel_rfl) (by first | assumption | (simp (disch := first | omega | (simp only [hNw, hPt]; omega)) only [gN] <;> first | rfl | assumption | exact gp0 _ _ _ | exact gn0 _ _)) rfl (by first | rfl | assumption) (by first | rfl | exact spl_set _ _ _ (by first | assumption | omega | (simp; omega)))) ?_; refine oN ?_; refine kR ?_; refine oM rfl rfl ?_; refine oL rfl rfl (qlg8 2) ?_; refine oF (o := 0) rfl (by kernel_rfl) rfl ?_; refine oL rfl rfl (qla7 1) ?_; refine oF (o := 2) rfl (by kernel_rfl) rfl ?_; refine oF (o := 0) rfl (by kernel_rfl) rfl ?_; refine oL rfl rfl (qla7 1) ?_; refine oB rfl rfl rfl (builtin_max2 _ _) ?_; refine oF (o := 1) rfl (by kernel_rfl) rfl ?_; refine oL rfl rfl (qla7 1) ?_; refine oF (o := 2) rfl (by kernel_rfl) rfl ?_; refine oF (o := 1) rfl (by kernel_rfl) rfl ?_; refine oL rfl rfl (qla7 1) ?_; refine oB rfl rfl rfl (builtin_min2 _ _) ?_; refine OkO.build (z := [.int .i64 0, .int .i64 0]) (pl := [(0, 1), (1, 1)]) rfl (by kernel_rfl) rfl rfl ?_
      refine OkO.mapUpdate (rs[i].k) rfl mapT130 keysW rfl rfl rfl (by first | assumption | (simp (disch := first | omega | (simp only [hNw, hPt]; omega)) only [gN] <;> first | rfl | assumption)) hmo (fun o8 hm8 => ?_)
      refine oN ?_; refine kR ?_; refine OkO.bin rfl rfl rfl (bin_add (by omega) (by omega)) ?_; refine oM rfl rfl ?_; refine oN ?_
      refine ⟨rs.length - (i + 1), by omega, i + 1, o8, rfl, hlt, Has.of (by kernel_rfl), rfl, (by (try dsimp only); repeat (first | (first | exact hg | exact hG) | apply Grow.new | (refine Grow.put ?_ _ (by first | omega | (simp only [hNw, hPt]; omega))))), gp0 _ _ _, by simp only [hPt, hNw]; omega, ?_⟩
      rw [List.take_succ_eq_append_getElem hlt, wf_snoc, ← mapV_upd, ← hw9]
      exact hm8
    · have hk8 : kn = true := by simpa using h2
      have e8 : wf (rs.take i) rs[i].k = some r0 := by rcases hkn with q | q; exact q.2; (rw [hk8] at q; cases q.1)
      have hw9 : AV.agg [I (max r0.1 rs[i].lo), I (min r0.2 rs[i].hi)] = encR2 (wv (wf (rs.take i)) rs[i]) := by unfold wv; rw [e8]; rfl
      refine Ok.skip ?_; refine kR ?_; refine oM rfl rfl ?_; refine oL rfl rfl (qlg8 2) ?_; refine oF (o := 0) rfl (by kernel_rfl) rfl ?_; refine oL rfl rfl (qla7 1) ?_; refine oF (o := 2) rfl (by kernel_rfl) rfl ?_; refine oF (o := 0) rfl (by kernel_rfl) rfl ?_; refine oL rfl rfl (qla7 1) ?_; refine oB rfl rfl rfl (builtin_max2 _ _) ?_; refine oF (o := 1) rfl (by kernel_rfl) rfl ?_; refine oL rfl rfl (qla7 1) ?_; refine oF (o := 2) rfl (by kernel_rfl) rfl ?_; refine oF (o := 1) rfl (by kernel_rfl) rfl ?_; refine oL rfl rfl (qla7 1) ?_; refine oB rfl rfl rfl (builtin_min2 _ _) ?_; refine OkO.build (z := [.int .i64 0, .int .i64 0]) (pl := [(0, 1), (1, 1)]) rfl (by kernel_rfl) rfl rfl ?_
      refine OkO.mapUpdate (rs[i].k) rfl mapT130 keysW rfl rfl rfl (by first | assumption | (simp (disch := first | omega | (simp only [hNw, hPt]; omega)) only [gN] <;> first | rfl | assumption)) hmo (fun o8 hm8 => ?_)
      refine oN ?_; refine kR ?_; refine OkO.bin rfl rfl rfl (bin_add (by omega) (by omega)) ?_; refine oM rfl rfl ?_; refine oN ?_
      refine ⟨rs.length - (i + 1), by omega, i + 1, o8, rfl, hlt, Has.of (by kernel_rfl), rfl, (by (try dsimp only); repeat (first | (first | exact hg | exact hG) | apply Grow.new | (refine Grow.put ?_ _ (by first | omega | (simp only [hNw, hPt]; omega))))), gp0 _ _ _, by simp only [hPt, hNw]; omega, ?_⟩
      rw [List.take_succ_eq_append_getElem hlt, wf_snoc, ← mapV_upd, ← hw9]
      exact hm8
  · have hge : i = rs.length := by simp at h1; omega
    subst hge
    refine Ok.exit ?_; refine kS ?_; refine kR ?_; refine oM rfl rfl ?_; refine oA rfl rfl ?_; refine oN ?_
    refine Ok.ret ⟨.inr rfl, ?_⟩
    rw [List.take_length] at hmo
    exact back_newA (resV_tmp rfl resV_nil) rfl (by rw [← hW]; exact hg) (fun H2 r2 r3 => by
      rcases r3 with ⟨_, r3⟩ | ⟨r3, r4⟩
      · simp [AV.flat, resOf] at r3
      · exact ⟨W.next, o9, rfl, r2, by omega, by rw [r4]; exact hlt9, by rw [r3]; exact ho9, hmo⟩)
end
end Go.Ev

set_option maxRecDepth 100000
set_option linter.unusedSimpArgs false
set_option linter.unusedVariables false
namespace Go.EvN
open Go Go.Proofs Go.Ev
noncomputable section
theorem c96 (m : Nat) (ev : AV) (n9 mb : Nat) (eL : Nat → List Int) (o9 s9 : Nat → Int) (rs : List Rd) (o : AObj) (H : Heap) (hm : H.get mb = some o) (hmb : mb < H.next) (ho : MapO o encW (mapV (wf rs))) (hbig : rs.length ≤ 1000) (hR : Row H ev 10 ((List.range n9).map fun i9 => (eL i9).map I ++ [I (o9 i9), I (s9 i9)])) (hlen8 : ∀ i, i < n9 → (eL i).length = 8) (hrs : ∀ x ∈ rs, 0 ≤ x.day ∧ x.day < n9 ∧ 0 ≤ x.cell ∧ x.cell < 8) : FnN Try.prog (RR m) 96 [.map mb, ev] H fun v H' => v = .tup [.bool (rs.any fun x => decide ((eL x.day.toNat).getD x.cell.toNat 0 < x.lo)), .bool (rs.any fun x => decide (x.hi < (eL x.day.toNat).getD x.cell.toNat 0))] ∧ H' = H := by
  refine fn_okE Try.func96 rfl rfl (by kernel_rfl) (by kernel_rfl) ?_
  obtain ⟨W, hW, hg, hN, hE, hG⟩ := wOf H
  rw [← hW]
  obtain ⟨es, c9, rfl, hle9, hlt9, hnd9, hent, hall9⟩ := map_entry ho
  have hmW : W.get mb = some (.map es c9) := by rw [hg]; exact hm
  have hmN : mb < W.next := by rw [hN]; exact hmb
  have plv := lpl hR.len
  refine kS ?_; refine kR ?_; refine oA rfl rfl ?_; refine oA rfl rfl ?_; refine oN ?_; refine kS ?_; refine kS ?_; refine kR ?_; refine oM rfl rfl ?_; refine OkO.rangeM rfl (by kernel_rfl) rfl hmW ?_; refine oN ?_; refine Ok.block ?_
  refine Ok.loop (fun n s => ∃ done, n = es.length - done.length ∧ It s.H W.next mb es c9 done ∧ Has 6 [(1, ev), (4, .bool (done.any (tLow (fun d c => (eL d.toNat).getD c.toNat 0)))), (5, .bool (done.any (tHigh (fun d c => (eL d.toNat).getD c.toNat 0)))), (10, .ptr W.next 0)] s.T ∧ s.D = [] ∧ Grow W s.H ∧ W.next < s.H.next) (es.length) (by unfold loopFuel; omega)
    ⟨[], rfl, ⟨gn0 _ _, (by rw [gno _ _ _ (by omega)]; exact hmW), hlt9, hnd9, .nil, nofun⟩, Has.of (by kernel_rfl), rfl, (by (try dsimp only); repeat (first | exact hG | apply Grow.new | (refine Grow.put ?_ _ (by first | omega | (simp only [hNw, hPt]; omega))))), by simp⟩ ?_
  rintro n ⟨T, D, G⟩ ⟨done, hn, hI, ⟨f, hT⟩, hD, hg, hbn⟩
  dsimp only at *
  subst hT hD
  have hgn := hg.next
  refine kS ?_; refine kR ?_
  refine OkO.nextM rfl rfl hI (fun hl9 => ?_) (fun e9 he9 => ?_)
  · have hperm := hI.perm hl9
    refine OkO.extract rfl rfl rfl ?_; refine oN ?_; refine kS ?_; refine Ok.condF rfl ?_; refine Ok.exit ?_; refine kS ?_; refine kR ?_; refine oM rfl rfl ?_; refine oM rfl rfl ?_; refine oA rfl rfl ?_; refine oA rfl rfl ?_; refine oN ?_
    refine Ok.ret ⟨.inr rfl, ?_⟩
    have q1 := (any_perm hperm (tLow (fun d c => (eL d.toNat).getD c.toNat 0))).trans (any_low (fun d c => (eL d.toNat).getD c.toNat 0) hent hall9)
    have q2 := (any_perm hperm (tHigh (fun d c => (eL d.toNat).getD c.toNat 0))).trans (any_high (fun d c => (eL d.toNat).getD c.toNat 0) hent hall9)
    exact ⟨_, _, back_flat (resV_tmp rfl (resV_tmp rfl resV_nil)) (by rw [q1, q2]; rfl) rfl (by rw [← hW]; exact hg), rfl, rfl⟩
  · have hin := (mem_leftE.1 he9).1
    obtain ⟨x, hx, lo9, hi9, k1, k2, kw⟩ := hent e9 hin
    obtain ⟨hx1, hx2, hx3, hx4⟩ := hrs x hx
    obtain ⟨dd, hdd⟩ : ∃ dd : Nat, x.day = dd := ⟨x.day.toNat, by omega⟩
    obtain ⟨cc, hcc⟩ : ∃ cc : Nat, x.cell = cc := ⟨x.cell.toNat, by omega⟩
    have hI2 := hI.step (G := G.put W.next (.iter (some mb) c9 (done.map (·.2.2) ++ [e9.2.2]) c9)) he9 (gp0 _ _ _) (by rw [gpo _ _ _ _ (by omega)]; exact hI.mp)
    have hgQ : Grow W (G.put W.next (.iter (some mb) c9 (done.map (·.2.2) ++ [e9.2.2]) c9)) := hg.put _ (Nat.le_refl _)
    have hQn : (G.put W.next (.iter (some mb) c9 (done.map (·.2.2) ++ [e9.2.2]) c9)).next = G.next := by simp
    generalize G.put W.next (.iter (some mb) c9 (done.map (·.2.2) ++ [e9.2.2]) c9) = Q at hI2 hgQ hQn ⊢
    have eq1 : e9.1 = .agg [I (cc : Int), I (dd : Int)] := by rw [k1]; show AV.agg [I x.cell, I x.day] = _; rw [hcc, hdd]
    have eq2 : e9.2.1 = .agg [I lo9, I hi9] := by rw [k2]; rfl
    rw [eq1, eq2]
    have hdn : dd < n9 := by omega
    obtain ⟨bb, off, ccs, i1, i2, i3, i4⟩ := (hR.ext (hE _ hgQ)).at_ dd ((eL dd).map I ++ [I (o9 dd), I (s9 dd)]) (by rw [List.getElem?_map, List.getElem?_range hdn]; rfl)
    have hl8 := hlen8 dd hdn
    have i5 : ccs[off + 0 + cc * 1]? = some (I ((eL dd).getD cc 0)) := by rw [Nat.add_zero, Nat.mul_one, seg_get i3 cc (by omega), List.getElem?_append_left (by simp; omega), List.getElem?_map, List.getElem?_eq_getElem (by omega), List.getD_eq_getElem?_getD, List.getElem?_eq_getElem (by omega)]; rfl
    have eL1 : tLow (fun d c => (eL d.toNat).getD c.toNat 0) e9 = decide ((eL dd).getD cc 0 < lo9) := by unfold tLow; rw [eq1, eq2]; simp [dec2]
    have eL2 : tHigh (fun d c => (eL d.toNat).getD c.toNat 0) e9 = decide (hi9 < (eL dd).getD cc 0) := by unfold tHigh; rw [eq1, eq2]; simp [dec2]
    have hne1 : bb ≠ Q.next := by omega
    have hne2 : bb ≠ Q.next + 1 := by omega
    refine OkO.extract rfl rfl rfl ?_; refine oN ?_; refine kS ?_; refine Ok.condT rfl ?_; refine Ok.skip ?_; refine Ok.block ?_; refine kS ?_; refine kR ?_
    refine OkO.entryM rfl rfl hI2 ?_; rw [eq1, eq2]
    refine OkO.extract rfl rfl rfl ?_; refine OkO.extract rfl rfl rfl ?_; refine OkO.alloc (z := [.int .i64 0, .int .i64 0]) rfl (by kernel_rfl) ?_; refine OkO.alloc (z := [.int .i64 0, .int .i64 0]) rfl (by kernel_rfl) ?_; refine oT rfl rfl rfl (sAc (n := 2) (ag := true) (by kernel_rfl) (by first | assumption | (simp (disch := first | omega | (simp only [hNw, hPt]; omega)) only [gN] <;> first | rfl | assumption | exact gp0 _ _ _ | exact gn0 _ _)) rfl (by first | rfl | assumption) (by first | rfl | exact spl_set _ _ _ (by first | assumption | omega | (simp; omega)))) ?_; refine oT rfl rfl rfl (sAc (n := 2) (ag := true) (by kernel_rfl) (by first | assumption | (simp (disch := first | omega | (simp only [hNw, hPt]; omega)) only [gN] <;> first | rfl | assumption | exact gp0 _ _ _ | exact gn0 _ _)) rfl (by first | rfl | assumption) (by first | rfl | exact spl_set _ _ _ (by first | assumption | omega | (simp; omega)))) ?_; refine oN ?_; refine kS ?_; refine Ok.drawn [(0, true, []), (1, true, []), (2, true, []), (3, true, []), (4, true, []), (5, true, []), (6, true, []), (7, true, []), (8, true, []), (9, true, [])] (by kernel_rfl) ?_; refine pS ?_; refine oM rfl rfl ?_; refine oN ⟨rfl, ?_⟩; refine pS ?_; refine oF (o := 1) rfl (by kernel_rfl) rfl ?_; refine oN ⟨rfl, ?_⟩; refine pS ?_; refine oL rfl rfl (qla7 1) ?_; refine oN ⟨rfl, ?_⟩; refine pS ?_; refine oF (o := 0) rfl (by kernel_rfl) rfl ?_; refine oN ⟨rfl, ?_⟩; refine pS ?_; refine oL rfl rfl (qla7 1) ?_; refine oN ⟨rfl, ?_⟩; refine pS ?_; refine qX (sz := 10) (n := dd) rfl rfl rfl ?_; refine oN ⟨rfl, ?_⟩; refine pS ?_; refine oF (o := 0) rfl (by kernel_rfl) rfl ?_; refine oN ⟨rfl, ?_⟩; refine pS ?_; refine OkO.indexArr (len := 8) (sz := 1) (n := cc) rfl rfl rfl (by kernel_rfl) (by omega) ?_; refine oN ⟨rfl, ?_⟩; refine pS ?_; refine oL rfl rfl (qla7 1) ?_; refine oN ⟨rfl, ?_⟩; refine pS ?_; refine oA rfl rfl ?_; refine oN ⟨rfl, ?_⟩; refine OkP.nil ?_; refine kS ?_; refine kR ?_; refine oM rfl rfl ?_; refine oM rfl rfl ?_
    refine OkO.split (d := 26) rfl (fun g1 => ?_) (fun g1 => ?_)
    · refine oK rfl ?_
      refine oK rfl ?_; refine oK rfl ?_; refine oK rfl ?_; refine OkO.pick (b := true) rfl rfl (fun _ => rfl) nofun ?_; refine oA rfl rfl ?_; refine oN ?_; refine kR ?_; refine oM rfl rfl ?_; refine oM rfl rfl ?_
      refine OkO.split (d := 33) rfl (fun g2 => ?_) (fun g2 => ?_)
      · refine oK rfl ?_
        refine oK rfl ?_; refine oK rfl ?_; refine oK rfl ?_; refine OkO.pick (b := true) rfl rfl (fun _ => rfl) nofun ?_; refine oA rfl rfl ?_; refine oN ?_
        refine ⟨es.length - (done ++ [e9]).length, by have := hI.lt_len he9; simp only [List.length_append, List.length_singleton]; omega, done ++ [e9], rfl, hI2.to (by simp (disch := first | omega | (simp only [hNw, hPt]; omega)) only [gN]) (by simp (disch := first | omega | (simp only [hNw, hPt]; omega)) only [gN]), ?_, rfl, (by (try dsimp only); repeat (first | (first | exact hgQ | exact hG) | apply Grow.new | (refine Grow.put ?_ _ (by first | omega | (simp only [hNw, hPt]; omega))))), by simp only [hNw, hPt]; omega⟩
        rw [List.any_append, List.any_append, List.any_cons, List.any_cons, List.any_nil, List.any_nil, Bool.or_false, Bool.or_false, eL1, eL2]
        first | (rw [g1, g2, Bool.true_or, Bool.true_or]; exact Has.of (by kernel_rfl)) | (rw [g1, g2, Bool.true_or, Bool.false_or]; exact Has.of (by kernel_rfl)) | (rw [g1, g2, Bool.false_or, Bool.true_or]; exact Has.of (by kernel_rfl)) | (rw [g1, g2, Bool.false_or, Bool.false_or]; exact Has.of (by kernel_rfl)) | (rw [g1, g3, Bool.true_or, Bool.true_or]; exact Has.of (by kernel_rfl)) | (rw [g1, g3, Bool.true_or, Bool.false_or]; exact Has.of (by kernel_rfl)) | (rw [g1, g3, Bool.false_or, Bool.true_or]; exact Has.of (by kernel_rfl)) | (rw [g1, g3, Bool.false_or, Bool.false_or]; exact Has.of (by kernel_rfl))
      · refine oM rfl rfl ?_
        refine oF (o := 1) rfl (by kernel_rfl) rfl ?_; refine oL rfl rfl (qla7 1) ?_; refine OkO.bin rfl rfl rfl (bin_gtr _ _) ?_; refine OkO.pick (b := false) rfl rfl nofun (fun _ => rfl) ?_; refine oA rfl rfl ?_; refine oN ?_
        refine ⟨es.length - (done ++ [e9]).length, by have := hI.lt_len he9; simp only [List.length_append, List.length_singleton]; omega, done ++ [e9], rfl, hI2.to (by simp (disch := first | omega | (simp only [hNw, hPt]; omega)) only [gN]) (by simp (disch := first | omega | (simp only [hNw, hPt]; omega)) only [gN]), ?_, rfl, (by (try dsimp only); repeat (first | (first | exact hgQ | exact hG) | apply Grow.new | (refine Grow.put ?_ _ (by first | omega | (simp only [hNw, hPt]; omega))))), by simp only [hNw, hPt]; omega⟩
        rw [List.any_append, List.any_append, List.any_cons, List.any_cons, List.any_nil, List.any_nil, Bool.or_false, Bool.or_false, eL1, eL2]
        first | (rw [g1, g2, Bool.true_or, Bool.true_or]; exact Has.of (by kernel_rfl)) | (rw [g1, g2, Bool.true_or, Bool.false_or]; exact Has.of (by kernel_rfl)) | (rw [g1, g2, Bool.false_or, Bool.true_or]; exact Has.of (by kernel_rfl)) | (rw [g1, g2, Bool.false_or, Bool.false_or]; exact Has.of (by kernel_rfl)) | (rw [g1, g3, Bool.true_or, Bool.true_or]; exact Has.of (by kernel_rfl)) | (rw [g1, g3, Bool.true_or, Bool.false_or]; exact Has.of (by kernel_rfl)) | (rw [g1, g3, Bool.false_or, Bool.true_or]; exact Has.of (by kernel_rfl)) | (rw [g1, g3, Bool.false_or, Bool.false_or]; exact Has.of (by kernel_rfl))
    · refine oM rfl rfl ?_
      refine oF (o := 0) rfl (by kernel_rfl) rfl ?_; refine oL rfl rfl (qla7 1) ?_; refine OkO.bin rfl rfl rfl (bin_lss _ _) ?_; refine OkO.pick (b := false) rfl rfl nofun (fun _ => rfl) ?_; refine oA rfl rfl ?_; refine oN ?_; refine kR ?_; refine oM rfl rfl ?_; refine oM rfl rfl ?_
      refine OkO.split (d := 33) rfl (fun g3 => ?_) (fun g3 => ?_)
      · refine oK rfl ?_
        refine oK rfl ?_; refine oK rfl ?_; refine oK rfl ?_; refine OkO.pick (b := true) rfl rfl (fun _ => rfl) nofun ?_; refine oA rfl rfl ?_; refine oN ?_
        refine ⟨es.length - (done ++ [e9]).length, by have := hI.lt_len he9; simp only [List.length_append, List.length_singleton]; omega, done ++ [e9], rfl, hI2.to (by simp (disch := first | omega | (simp only [hNw, hPt]; omega)) only [gN]) (by simp (disch := first | omega | (simp only [hNw, hPt]; omega)) only [gN]), ?_, rfl, (by (try dsimp only); repeat (first | (first | exact hgQ | exact hG) | apply Grow.new | (refine Grow.put ?_ _ (by first | omega | (simp only [hNw, hPt]; omega))))), by simp only [hNw, hPt]; omega⟩
        rw [List.any_append, List.any_append, List.any_cons, List.any_cons, List.any_nil, List.any_nil, Bool.or_false, Bool.or_false, eL1, eL2]
        first | (rw [g1, g2, Bool.true_or, Bool.true_or]; exact Has.of (by kernel_rfl)) | (rw [g1, g2, Bool.true_or, Bool.false_or]; exact Has.of (by kernel_rfl)) | (rw [g1, g2, Bool.false_or, Bool.true_or]; exact Has.of (by kernel_rfl)) | (rw [g1, g2, Bool.false_or, Bool.false_or]; exact Has.of (by kernel_rfl)) | (rw [g1, g3, Bool.true_or, Bool.true_or]; exact Has.of (by kernel_rfl)) | (rw [g1, g3, Bool.true_or, Bool.false_or]; exact Has.of (by kernel_rfl)) | (rw [g1, g3, Bool.false_or, Bool.true_or]; exact Has.of (by kernel_rfl)) | (rw [g1, g3, Bool.false_or, Bool.false_or]; exact Has.of (by kernel_rfl))
      · refine oM rfl rfl ?_
        refine oF (o := 1) rfl (by kernel_rfl) rfl ?_; refine oL rfl rfl (qla7 1) ?_; refine OkO.bin rfl rfl rfl (bin_gtr _ _) ?_; refine OkO.pick (b := false) rfl rfl nofun (fun _ => rfl) ?_; refine oA rfl rfl ?_; refine oN ?_
        refine ⟨es.length - (done ++ [e9]).length, by have := hI.lt_len he9; simp only [List.length_append, List.length_singleton]; omega, done ++ [e9], rfl, hI2.to (by simp (disch := first | omega | (simp only [hNw, hPt]; omega)) only [gN]) (by simp (disch := first | omega | (simp only [hNw, hPt]; omega)) only [gN]), ?_, rfl, (by (try dsimp only); repeat (first | (first | exact hgQ | exact hG) | apply Grow.new | (refine Grow.put ?_ _ (by first | omega | (simp only [hNw, hPt]; omega))))), by simp only [hNw, hPt]; omega⟩
        rw [List.any_append, List.any_append, List.any_cons, List.any_cons, List.any_nil, List.any_nil, Bool.or_false, Bool.or_false, eL1, eL2]
        first | (rw [g1, g2, Bool.true_or, Bool.true_or]; exact Has.of (by kernel_rfl)) | (rw [g1, g2, Bool.true_or, Bool.false_or]; exact Has.of (by kernel_rfl)) | (rw [g1, g2, Bool.false_or, Bool.true_or]; exact Has.of (by kernel_rfl)) | (rw [g1, g2, Bool.false_or, Bool.false_or]; exact Has.of (by kernel_rfl)) | (rw [g1, g3, Bool.true_or, Bool.true_or]; exact Has.of (by kernel_rfl)) | (rw [g1, g3, Bool.true_or, Bool.false_or]; exact Has.of (by kernel_rfl)) | (rw [g1, g3, Bool.false_or, Bool.true_or]; exact Has.of (by kernel_rfl)) | (rw [g1, g3, Bool.false_or, Bool.false_or]; exact Has.of (by kernel_rfl))
end
end Go.EvN

set_option maxRecDepth 100000
set_option linter.unusedSimpArgs false
set_option linter.unusedVariables false
namespace Go.Ev
open Go Go.Proofs
noncomputable section
/-- A level, by a soak. -/
def lvS (cs : List Cell) (g : Gr) (ds : List Day) (s d c : Int) : Int := (levP cs g ds ⟨g.slo, s⟩ (lowL cs) (lowR ds) (d.toNat + 1)).getD c.toNat 0
def belowB (cs : List Cell) (g : Gr) (ds : List Day) (rs : List Rd) (s : Int) : Bool := rs.any fun x => decide (lvS cs g ds s x.day x.cell < x.lo)
def aboveB (cs : List Cell) (g : Gr) (ds : List Day) (rs : List Rd) (s : Int) : Bool := rs.any fun x => decide (x.hi < lvS cs g ds s x.day x.cell)
theorem c94 (m : Nat) (cv dv lv rv : AV) (cs : List Cell) (g : Gr) (ds : List Day) (t : Tru) (s : Int) (lvs rain : List Int) (H : Heap) (hR : Row H cv 7 (cs.map Cell.c)) (hD : Row H dv 3 (ds.map Day.c)) (hL : Ints H lv lvs) (hA : Ints H rv rain) (hF : Fit cs g ds ⟨t.snow, s⟩ lvs rain) : ∃ v H', RR (m + 6) (.fn 94 [.agg [cv, I g.slo, I g.shi, I g.klo, I g.khi, I g.melt, dv, I t.snow, I t.soak, lv, rv], I s]) H = some (v, H') ∧ Ret H H' ∧ Row H' v 10 ((List.range ds.length).map (evC cs g ds ⟨t.snow, s⟩ lvs rain)) := by
  show ∃ v H', evFn Try.prog (RR (m + 5)) 94 [.agg [cv, I g.slo, I g.shi, I g.klo, I g.khi, I g.melt, dv, I t.snow, I t.soak, lv, rv], I s] H = some (v, H') ∧ Ret H H' ∧ Row H' v 10 ((List.range ds.length).map (evC cs g ds ⟨t.snow, s⟩ lvs rain))
  refine fn_okE Try.func94 rfl rfl (by kernel_rfl) (by kernel_rfl) ?_
  obtain ⟨W, hW, hg, hN, hE, hG⟩ := wOf H
  rw [← hW]
  have hlc : lenOf cv = some cs.length := by simpa using hR.len
  have pc := lpl hlc
  have hld : lenOf dv = some ds.length := by simpa using hD.len
  have pd := lpl hld
  have plv := lpl hL.len
  have prv := lpl hA.len
  refine kS ?_; refine kR ?_; refine OkO.box rfl rfl ?_; refine oA rfl rfl ?_; refine oN ?_; refine kS ?_; refine kR ?_; refine oM rfl rfl ?_; refine oF (o := 7) rfl (by kernel_rfl) rfl ?_; refine oF (o := 1) rfl (by kernel_rfl) rfl ?_; refine oT rfl rfl rfl (sAc (n := 1) (ag := false) (by kernel_rfl) (by first | assumption | (simp (disch := first | omega | (simp only [hNw, hPt]; omega)) only [gN] <;> first | rfl | assumption | exact gp0 _ _ _ | exact gn0 _ _)) rfl (by first | rfl | assumption) (by first | rfl | exact spl_set _ _ _ (by first | assumption | omega | (simp; omega)))) ?_; refine oN ?_; refine kS ?_; refine kR ?_; refine oL rfl rfl (qlg8 11) ?_; refine oE rfl rfl rfl rfl rfl (c54 m cv dv lv rv cs g ds ⟨t.snow, s⟩ lvs rain _ (hR.ext (hE _ (by (try dsimp only); repeat (first | exact hG | apply Grow.new | (refine Grow.put ?_ _ (by first | omega | (simp only [hNw, hPt]; omega))))))) (hD.ext (hE _ (by (try dsimp only); repeat (first | exact hG | apply Grow.new | (refine Grow.put ?_ _ (by first | omega | (simp only [hNw, hPt]; omega))))))) (hL.ext (hE _ (by (try dsimp only); repeat (first | exact hG | apply Grow.new | (refine Grow.put ?_ _ (by first | omega | (simp only [hNw, hPt]; omega))))))) (hA.ext (hE _ (by (try dsimp only); repeat (first | exact hG | apply Grow.new | (refine Grow.put ?_ _ (by first | omega | (simp only [hNw, hPt]; omega))))))) hF) ?_
  rintro v54 H54 ⟨q54, r54, c54⟩
  have g54 : Grow W H54 := Grow.ret (by (try dsimp only); repeat (first | exact hG | apply Grow.new | (refine Grow.put ?_ _ (by first | omega | (simp only [hNw, hPt]; omega))))) q54
  refine oA rfl rfl ?_; refine oN ?_
  refine Ok.ret ⟨.inr rfl, ?_⟩
  exact back_newA (resV_tmp rfl resV_nil) rfl (by rw [← hW]; exact g54) (fun H2 p1 p2 => ⟨p1, backRow c54 r54 p2⟩)
theorem fit_soak {cs : List Cell} {g : Gr} {ds : List Day} {s : Int} (hd0 : daysErr cs g ds = 0) (hs : g.klo ≤ s ∧ s ≤ g.khi) : Fit cs g ds ⟨g.slo, s⟩ (lowL cs) (lowR ds) := by
  have hg := gf_of hd0
  have h1 := hg.snow
  have h2 := hg.soak
  refine fit_of (any_ok hd0 (by dsimp only; omega) (by dsimp only; omega) (by simp [lowL]) (by simp [lowR]) (fun i x n a1 a2 => ?_) (fun i x n a1 a2 => ?_))
  · simp only [lowL, List.getElem?_map, a1, Option.map_some, Option.some.injEq] at a2
    have := hg.lim x (List.mem_of_getElem? a1); unfold Cell.lim at this; omega
  · simp only [lowR, List.getElem?_map, a1, Option.map_some, Option.some.injEq] at a2
    have := hg.dlim x (List.mem_of_getElem? a1); unfold Day.lim at this; omega
theorem rd_in {cs : List Cell} {ds : List Day} {x : Rd} (h : x.ok cs ds = true) (h8 : cs.length ≤ 8) : 0 ≤ x.day ∧ x.day < ds.length ∧ 0 ≤ x.cell ∧ x.cell < 8 := by
  simp [Rd.ok, inB] at h
  omega
end
end Go.Ev

set_option maxRecDepth 100000
set_option linter.unusedSimpArgs false
set_option linter.unusedVariables false
namespace Go.EvN
open Go Go.Proofs Go.Ev
noncomputable section
theorem c95 (m : Nat) (cv dv lv rv : AV) (cs : List Cell) (g : Gr) (ds : List Day) (rs : List Rd) (s : Int) (b1 b2 mb : Nat) (o : AObj) (H : Heap) (hR : Row H cv 7 (cs.map Cell.c)) (hD : Row H dv 3 (ds.map Day.c)) (hL : Ints H lv (lowL cs)) (hA : Ints H rv (lowR ds)) (hd0 : daysErr cs g ds = 0) (hs : g.klo ≤ s ∧ s ≤ g.khi) (hm : H.get mb = some o) (hmb : mb < H.next) (ho : MapO o encW (mapV (wf rs))) (hbig : rs.length ≤ 1000) (hrs : ∀ x ∈ rs, x.ok cs ds = true) (h1 : (H.get b1).bind AObj.cs = some [.map mb]) (h2 : (H.get b2).bind AObj.cs = some [.fn 94 [.agg [cv, I g.slo, I g.shi, I g.klo, I g.khi, I g.melt, dv, I g.slo, I g.klo, lv, rv]] []]) (l1 : b1 < H.next) (l2 : b2 < H.next) : FnN Try.prog (RR (m + 16)) 95 [I s, .ptr b1 0, .ptr b2 0] H fun v H' => v = .bool (!belowB cs g ds rs s) ∧ H' = H := by
  refine fn_okE Try.func95 rfl rfl (by kernel_rfl) (by kernel_rfl) ?_
  obtain ⟨W, hW, hg, hN, hE, hG⟩ := wOf H
  rw [← hW]
  have hlc : lenOf cv = some cs.length := by simpa using hR.len
  have pc := lpl hlc
  have hld : lenOf dv = some ds.length := by simpa using hD.len
  have pd := lpl hld
  have plv := lpl hL.len
  have prv := lpl hA.len
  have hF := fit_soak hd0 hs
  have hFn : cs.length ≤ 8 := hF.n8.2
  have b1W : (W.get b1).bind AObj.cs = some [.map mb] := by rw [hg]; exact h1
  have b2W : (W.get b2).bind AObj.cs = some [.fn 94 [.agg [cv, I g.slo, I g.shi, I g.klo, I g.khi, I g.melt, dv, I g.slo, I g.klo, lv, rv]] []] := by rw [hg]; exact h2
  refine kS ?_; refine kR ?_; refine oA rfl rfl ?_; refine oN ?_; refine kS ?_; refine Ok.drawn [(0, true, []), (1, true, []), (2, true, []), (3, false, [0]), (4, false, [1]), (5, true, []), (6, true, []), (7, true, []), (8, true, []), (9, true, [])] (by kernel_rfl) ?_; refine pS ?_; refine oL rfl rfl (qla7 1) ?_; refine oN ⟨rfl, ?_⟩; refine pS ?_; refine oL rfl rfl (qla7 1) ?_; refine oN ⟨rfl, ?_⟩; refine pS ?_; refine oM rfl rfl ?_; refine oN ⟨rfl, ?_⟩; refine pS ?_; refine oE rfl rfl rfl rfl rfl (c94 (m + 10) cv dv lv rv cs g ds ⟨g.slo, g.klo⟩ s (lowL cs) (lowR ds) _ (hR.ext (hE _ (by (try dsimp only); repeat (first | exact hG | apply Grow.new | (refine Grow.put ?_ _ (by first | omega | (simp only [hNw, hPt]; omega))))))) (hD.ext (hE _ (by (try dsimp only); repeat (first | exact hG | apply Grow.new | (refine Grow.put ?_ _ (by first | omega | (simp only [hNw, hPt]; omega))))))) (hL.ext (hE _ (by (try dsimp only); repeat (first | exact hG | apply Grow.new | (refine Grow.put ?_ _ (by first | omega | (simp only [hNw, hPt]; omega))))))) (hA.ext (hE _ (by (try dsimp only); repeat (first | exact hG | apply Grow.new | (refine Grow.put ?_ _ (by first | omega | (simp only [hNw, hPt]; omega))))))) hF) ?_
  rintro vE HE9 ⟨qE, rE⟩
  have gE : Grow W HE9 := Grow.ret (by (try dsimp only); repeat (first | exact hG | apply Grow.new | (refine Grow.put ?_ _ (by first | omega | (simp only [hNw, hPt]; omega))))) qE
  have pvE := lpl rE.len
  have mE : HE9.get mb = some o := by rw [(hE _ gE).get _ hmb]; exact hm
  have b1E : (HE9.get b1).bind AObj.cs = some [.map mb] := by rw [(hE _ gE).get _ l1]; exact h1
  have b2E : (HE9.get b2).bind AObj.cs = some [.fn 94 [.agg [cv, I g.slo, I g.shi, I g.klo, I g.khi, I g.melt, dv, I g.slo, I g.klo, lv, rv]] []] := by rw [(hE _ gE).get _ l2]; exact h2
  refine oN ⟨(sco (qsa3 1 rfl rfl rfl) rfl), ?_⟩; refine pS ?_; refine OkO.callN rfl rfl rfl rfl rfl (c96 (m + 16) vE ds.length mb (fun i => levP cs g ds ⟨g.slo, s⟩ (lowL cs) (lowR ds) (i + 1)) (fun i => leftD cs g ds ⟨g.slo, s⟩ (lowL cs) (lowR ds) i) (fun i => snowP g.melt ds (lowR ds) g.slo (i + 1)) rs o _ mE (Nat.lt_of_lt_of_le hmb (hE _ gE).next) ho hbig rE (fun i hi => (lev_facts hF (i + 1) (by omega)).1) (fun x hx => rd_in (hrs x hx) hFn)) ?_
  rintro v96 H96 ⟨rfl, rfl⟩
  refine oN ⟨(sco (qsa3 1 rfl rfl rfl) rfl), ?_⟩; refine pS ?_; refine oM rfl rfl ?_; refine oN ⟨rfl, ?_⟩; refine pS ?_; refine OkO.extract rfl rfl rfl ?_; refine oN ⟨rfl, ?_⟩; refine pS ?_; refine OkO.extract rfl rfl rfl ?_; refine oN ⟨rfl, ?_⟩; refine pS ?_; refine oA rfl rfl ?_; refine oN ⟨rfl, ?_⟩; refine pS ?_; refine oA rfl rfl ?_; refine oN ⟨rfl, ?_⟩; refine OkP.nil ?_; refine kS ?_; refine kR ?_; refine oM rfl rfl ?_; refine OkO.un rfl rfl rfl ?_; refine oA rfl rfl ?_; refine oN ?_
  refine Ok.ret ⟨.inr rfl, ?_⟩
  exact ⟨_, _, back_flat rfl rfl rfl (by rw [← hW]; exact gE), rfl, rfl⟩
theorem c97 (m : Nat) (cv dv lv rv : AV) (cs : List Cell) (g : Gr) (ds : List Day) (rs : List Rd) (s : Int) (b1 b2 mb : Nat) (o : AObj) (H : Heap) (hR : Row H cv 7 (cs.map Cell.c)) (hD : Row H dv 3 (ds.map Day.c)) (hL : Ints H lv (lowL cs)) (hA : Ints H rv (lowR ds)) (hd0 : daysErr cs g ds = 0) (hs : g.klo ≤ s ∧ s ≤ g.khi) (hm : H.get mb = some o) (hmb : mb < H.next) (ho : MapO o encW (mapV (wf rs))) (hbig : rs.length ≤ 1000) (hrs : ∀ x ∈ rs, x.ok cs ds = true) (h1 : (H.get b1).bind AObj.cs = some [.map mb]) (h2 : (H.get b2).bind AObj.cs = some [.fn 94 [.agg [cv, I g.slo, I g.shi, I g.klo, I g.khi, I g.melt, dv, I g.slo, I g.klo, lv, rv]] []]) (l1 : b1 < H.next) (l2 : b2 < H.next) : FnN Try.prog (RR (m + 16)) 97 [I s, .ptr b1 0, .ptr b2 0] H fun v H' => v = .bool (aboveB cs g ds rs s) ∧ H' = H := by
  refine fn_okE Try.func97 rfl rfl (by kernel_rfl) (by kernel_rfl) ?_
  obtain ⟨W, hW, hg, hN, hE, hG⟩ := wOf H
  rw [← hW]
  have hlc : lenOf cv = some cs.length := by simpa using hR.len
  have pc := lpl hlc
  have hld : lenOf dv = some ds.length := by simpa using hD.len
  have pd := lpl hld
  have plv := lpl hL.len
  have prv := lpl hA.len
  have hF := fit_soak hd0 hs
  have hFn : cs.length ≤ 8 := hF.n8.2
  have b1W : (W.get b1).bind AObj.cs = some [.map mb] := by rw [hg]; exact h1
  have b2W : (W.get b2).bind AObj.cs = some [.fn 94 [.agg [cv, I g.slo, I g.shi, I g.klo, I g.khi, I g.melt, dv, I g.slo, I g.klo, lv, rv]] []] := by rw [hg]; exact h2
  refine kS ?_; refine kR ?_; refine oA rfl rfl ?_; refine oN ?_; refine kS ?_; refine Ok.drawn [(0, true, []), (1, true, []), (2, true, []), (3, false, [0]), (4, false, [1]), (5, true, []), (6, true, []), (7, true, []), (8, true, []), (9, true, [])] (by kernel_rfl) ?_; refine pS ?_; refine oL rfl rfl (qla7 1) ?_; refine oN ⟨rfl, ?_⟩; refine pS ?_; refine oL rfl rfl (qla7 1) ?_; refine oN ⟨rfl, ?_⟩; refine pS ?_; refine oM rfl rfl ?_; refine oN ⟨rfl, ?_⟩; refine pS ?_; refine oE rfl rfl rfl rfl rfl (c94 (m + 10) cv dv lv rv cs g ds ⟨g.slo, g.klo⟩ s (lowL cs) (lowR ds) _ (hR.ext (hE _ (by (try dsimp only); repeat (first | exact hG | apply Grow.new | (refine Grow.put ?_ _ (by first | omega | (simp only [hNw, hPt]; omega))))))) (hD.ext (hE _ (by (try dsimp only); repeat (first | exact hG | apply Grow.new | (refine Grow.put ?_ _ (by first | omega | (simp only [hNw, hPt]; omega))))))) (hL.ext (hE _ (by (try dsimp only); repeat (first | exact hG | apply Grow.new | (refine Grow.put ?_ _ (by first | omega | (simp only [hNw, hPt]; omega))))))) (hA.ext (hE _ (by (try dsimp only); repeat (first | exact hG | apply Grow.new | (refine Grow.put ?_ _ (by first | omega | (simp only [hNw, hPt]; omega))))))) hF) ?_
  rintro vE HE9 ⟨qE, rE⟩
  have gE : Grow W HE9 := Grow.ret (by (try dsimp only); repeat (first | exact hG | apply Grow.new | (refine Grow.put ?_ _ (by first | omega | (simp only [hNw, hPt]; omega))))) qE
  have pvE := lpl rE.len
  have mE : HE9.get mb = some o := by rw [(hE _ gE).get _ hmb]; exact hm
  have b1E : (HE9.get b1).bind AObj.cs = some [.map mb] := by rw [(hE _ gE).get _ l1]; exact h1
  have b2E : (HE9.get b2).bind AObj.cs = some [.fn 94 [.agg [cv, I g.slo, I g.shi, I g.klo, I g.khi, I g.melt, dv, I g.slo, I g.klo, lv, rv]] []] := by rw [(hE _ gE).get _ l2]; exact h2
  refine oN ⟨(sco (qsa3 1 rfl rfl rfl) rfl), ?_⟩; refine pS ?_; refine OkO.callN rfl rfl rfl rfl rfl (c96 (m + 16) vE ds.length mb (fun i => levP cs g ds ⟨g.slo, s⟩ (lowL cs) (lowR ds) (i + 1)) (fun i => leftD cs g ds ⟨g.slo, s⟩ (lowL cs) (lowR ds) i) (fun i => snowP g.melt ds (lowR ds) g.slo (i + 1)) rs o _ mE (Nat.lt_of_lt_of_le hmb (hE _ gE).next) ho hbig rE (fun i hi => (lev_facts hF (i + 1) (by omega)).1) (fun x hx => rd_in (hrs x hx) hFn)) ?_
  rintro v96 H96 ⟨rfl, rfl⟩
  refine oN ⟨(sco (qsa3 1 rfl rfl rfl) rfl), ?_⟩; refine pS ?_; refine oM rfl rfl ?_; refine oN ⟨rfl, ?_⟩; refine pS ?_; refine OkO.extract rfl rfl rfl ?_; refine oN ⟨rfl, ?_⟩; refine pS ?_; refine OkO.extract rfl rfl rfl ?_; refine oN ⟨rfl, ?_⟩; refine pS ?_; refine oA rfl rfl ?_; refine oN ⟨rfl, ?_⟩; refine pS ?_; refine oA rfl rfl ?_; refine oN ⟨rfl, ?_⟩; refine OkP.nil ?_; refine kS ?_; refine kR ?_; refine oM rfl rfl ?_; refine oA rfl rfl ?_; refine oN ?_
  refine Ok.ret ⟨.inr rfl, ?_⟩
  exact ⟨_, _, back_flat rfl rfl rfl (by rw [← hW]; exact gE), rfl, rfl⟩
end
end Go.EvN

set_option maxRecDepth 100000
set_option linter.unusedSimpArgs false
set_option linter.unusedVariables false
namespace Go.EvN
open Go Go.Proofs Go.Ev
noncomputable section
theorem c98 (m : Nat) (n : Nat) (b1 b2 : Nat) (Pd : Nat → Bool) (H : Heap) (hn : n ≤ 1000000) (hcall : ∀ i : Nat, i < n → ∀ G, Ext H G → FnN Try.prog (RR m) 99 [I (i : Int), .ptr b1 0, .ptr b2 0] G fun v H' => v = .bool (Pd i) ∧ H' = G) : FnN Try.prog (RR m) 98 [I (n : Int), .fn 99 [] [.ptr b1 0, .ptr b2 0]] H fun v H' => ∃ r : Nat, v = I (r : Int) ∧ H' = H ∧ r ≤ n ∧ (r = 0 ∨ Pd (r - 1) = false) ∧ (r = n ∨ Pd r = true) := by
  refine fn_okE Try.func98 rfl rfl (by kernel_rfl) (by kernel_rfl) ?_
  obtain ⟨W, hW, hg, hN, hE, hG⟩ := wOf H
  rw [← hW]
  refine kS ?_; refine kR ?_; refine oA rfl rfl ?_; refine oN ?_; refine kS ?_; refine kR ?_; refine oM rfl rfl ?_; refine oA rfl rfl ?_; refine oA rfl rfl ?_; refine oN ?_; refine kS ?_; refine Ok.block ?_
  refine Ok.loop (fun n9 s_ => ∃ lo hi : Nat, n9 = hi - lo ∧ lo ≤ hi ∧ hi ≤ n ∧ (lo = 0 ∨ Pd (lo - 1) = false) ∧ (hi = n ∨ Pd hi = true) ∧ Has 5 [(1, .fn 99 [] [.ptr b1 0, .ptr b2 0]), (5, I (lo : Int)), (6, I (hi : Int))] s_.T ∧ s_.D = [] ∧ Grow W s_.H) (n) (by unfold loopFuel; omega)
    ⟨0, n, rfl, Nat.zero_le _, Nat.le_refl _, .inl rfl, .inl rfl, Has.of (by kernel_rfl), rfl, hG⟩ ?_
  rintro n9 ⟨T, D, G⟩ ⟨lo, hi, hn9, hlh, hhn, hlo, hhi, ⟨f, hT⟩, hD, hg⟩
  dsimp only at *
  subst hT hD
  have hgn := hg.next
  refine kS ?_; refine kS ?_; refine kR ?_; refine oM rfl rfl ?_; refine oM rfl rfl ?_; refine OkO.bin rfl rfl rfl (bin_lss _ _) ?_; refine oN ?_
  refine Ok.cond rfl (fun h1 => ?_) (fun h1 => ?_)
  · have hlt : lo < hi := by simpa using h1
    have hmid : ((lo + hi) / 2) < n := by omega
    refine Ok.skip ?_; refine Ok.block ?_; refine kS ?_; refine kR ?_; refine oM rfl rfl ?_; refine oM rfl rfl ?_; refine OkO.bin rfl rfl rfl (bin_add (by omega) (by omega)) ?_; refine OkO.convert (k := .u64) rfl (by kernel_rfl) rfl (by first | exact wrapF_u64 (by omega) (by omega) | exact wrapF_i64 (by omega) (by omega)) ?_; refine OkO.bin rfl rfl rfl (bin_shr1 (lo + hi)) ?_; refine OkO.convert (k := .i64) rfl (by kernel_rfl) rfl (by first | exact wrapF_u64 (by omega) (by omega) | exact wrapF_i64 (by omega) (by omega)) ?_; refine oA rfl rfl ?_; refine oN ?_; refine kS ?_; refine kR ?_; refine oM rfl rfl ?_; refine oM rfl rfl ?_; refine OkO.callN rfl rfl rfl rfl rfl (hcall ((lo + hi) / 2) hmid _ (hE _ hg)) ?_
    rintro v20 H20 ⟨rfl, rfl⟩
    refine OkO.un rfl rfl rfl ?_; refine oN ?_
    refine Ok.cond rfl (fun h2 => ?_) (fun h2 => ?_)
    · have hpf : Pd (((lo + hi) / 2) + 1 - 1) = false := by simpa using h2
      refine kR ?_; refine oM rfl rfl ?_; refine OkO.bin rfl rfl rfl (bin_add (by omega) (by omega)) ?_; refine oA rfl rfl ?_; refine oN ?_
      first | exact ⟨hi - (((lo + hi) / 2) + 1), by omega, ((lo + hi) / 2) + 1, hi, rfl, by omega, hhn, .inr hpf, hhi, Has.of (by kernel_rfl), rfl, hg⟩ | exact ⟨((lo + hi) / 2) - lo, by omega, lo, ((lo + hi) / 2), rfl, by omega, by omega, hlo, .inr hpt, Has.of (by kernel_rfl), rfl, hg⟩
    · have hpt : Pd ((lo + hi) / 2) = true := by simpa using h2
      refine kR ?_; refine oM rfl rfl ?_; refine oA rfl rfl ?_; refine oN ?_
      first | exact ⟨hi - (((lo + hi) / 2) + 1), by omega, ((lo + hi) / 2) + 1, hi, rfl, by omega, hhn, .inr hpf, hhi, Has.of (by kernel_rfl), rfl, hg⟩ | exact ⟨((lo + hi) / 2) - lo, by omega, lo, ((lo + hi) / 2), rfl, by omega, by omega, hlo, .inr hpt, Has.of (by kernel_rfl), rfl, hg⟩
  · have hge : lo = hi := by simp at h1; omega
    subst hge
    refine Ok.exit ?_; refine kS ?_; refine kR ?_; refine oM rfl rfl ?_; refine oA rfl rfl ?_; refine oN ?_
    refine Ok.ret ⟨.inr rfl, ?_⟩
    exact ⟨_, _, back_flat rfl rfl rfl (by rw [← hW]; exact hg), lo, rfl, rfl, hhn, hlo, hhi⟩
theorem c99 (m : Nat) (fF : FuncId) (i lo hi : Int) (b1 b2 c1 c2 : Nat) (bv : Bool) (H : Heap) (h1 : (H.get b1).bind AObj.cs = some [.fn fF [] [.ptr c1 0, .ptr c2 0]]) (h2 : (H.get b2).bind AObj.cs = some [I lo, I hi]) (hlo : 0 ≤ lo ∧ lo ≤ 1000000) (hi9 : 0 ≤ i ∧ i ≤ 1000000) (hcall : ∀ G, Ext H G → FnN Try.prog (RR m) fF [I (lo + i), .ptr c1 0, .ptr c2 0] G fun v H' => v = .bool bv ∧ H' = G) : FnN Try.prog (RR m) 99 [I i, .ptr b1 0, .ptr b2 0] H fun v H' => v = .bool bv ∧ H' = H := by
  refine fn_okE Try.func99 rfl rfl (by kernel_rfl) (by kernel_rfl) ?_
  obtain ⟨W, hW, hg, hN, hE, hG⟩ := wOf H
  rw [← hW]
  have w1 : (W.get b1).bind AObj.cs = some [.fn fF [] [.ptr c1 0, .ptr c2 0]] := by rw [hg]; exact h1
  have w2 : (W.get b2).bind AObj.cs = some [I lo, I hi] := by rw [hg]; exact h2
  refine kS ?_; refine kR ?_; refine oA rfl rfl ?_; refine oN ?_; refine kS ?_; refine kR ?_; refine oL rfl rfl (qla7 1) ?_; refine oF (o := 0) rfl (by kernel_rfl) rfl ?_; refine oL rfl rfl (qla7 1) ?_; refine oM rfl rfl ?_; refine OkO.bin rfl rfl rfl (bin_add (by omega) (by omega)) ?_; refine OkO.callN rfl rfl rfl rfl rfl (hcall _ (hE _ hG)) ?_
  rintro v9 H9 ⟨rfl, rfl⟩
  refine oA rfl rfl ?_; refine oN ?_
  refine Ok.ret ⟨.inr rfl, ?_⟩
  exact ⟨_, _, back_flat rfl rfl rfl (by rw [← hW]; first | exact hG | exact (by (try dsimp only); repeat (first | exact hG | apply Grow.new | (refine Grow.put ?_ _ (by first | omega | (simp only [hNw, hPt]; omega)))))), rfl, rfl⟩
theorem c67 (m : Nat) (fF : FuncId) (lo hi9 : Int) (n c1 c2 : Nat) (Pd : Nat → Bool) (H : Heap) (hlo : 0 ≤ lo ∧ lo ≤ 1000000) (hn9 : hi9 = lo + (n : Int) - 1) (hn6 : n ≤ 1000000) (hcall : ∀ i : Nat, i < n → ∀ G, Ext H G → FnN Try.prog (RR m) fF [I (lo + (i : Int)), .ptr c1 0, .ptr c2 0] G fun v H' => v = .bool (Pd i) ∧ H' = G) : FnN Try.prog (RR m) 67 [.agg [I lo, I hi9], .fn fF [] [.ptr c1 0, .ptr c2 0]] H fun v H' => ∃ r : Nat, v = I (lo + (r : Int)) ∧ H' = H ∧ r ≤ n ∧ (r = 0 ∨ Pd (r - 1) = false) ∧ (r = n ∨ Pd r = true) := by
  refine fn_okE Try.func67 rfl rfl (by kernel_rfl) (by kernel_rfl) ?_
  obtain ⟨W, hW, hg, hN, hE, hG⟩ := wOf H
  rw [← hW]
  have hcount : hi9 - lo + 1 = ((n : Nat) : Int) := by omega
  have hXX : ∀ G, Ext ((W.new (.cells [I lo, I hi9] 36)).new (.cells [.fn fF [] [.ptr c1 0, .ptr c2 0]] 135)) G → Ext H G := fun G g => (hE _ ((hG.new _).new _)).trans g
  refine kS ?_; refine kR ?_; refine OkO.box rfl rfl ?_; refine OkO.box rfl rfl ?_; refine oA rfl rfl ?_; refine oN ?_; refine kS ?_; refine Ok.drawn [(0, true, []), (1, true, []), (2, true, []), (3, true, []), (4, true, []), (5, true, []), (6, true, []), (7, true, []), (8, true, []), (9, false, [5, 3, 1]), (10, true, []), (11, true, [])] (by kernel_rfl) ?_; refine pS ?_; refine oF (o := 0) rfl (by kernel_rfl) rfl ?_; refine oN ⟨rfl, ?_⟩; refine pS ?_; refine oL rfl rfl (qla7 1) ?_; refine oN ⟨rfl, ?_⟩; refine pS ?_; refine oF (o := 1) rfl (by kernel_rfl) rfl ?_; refine oN ⟨rfl, ?_⟩; refine pS ?_; refine oL rfl rfl (qla7 1) ?_; refine oN ⟨rfl, ?_⟩; refine pS ?_; refine oF (o := 0) rfl (by kernel_rfl) rfl ?_; refine oN ⟨rfl, ?_⟩; refine pS ?_; refine oL rfl rfl (qla7 1) ?_; refine oN ⟨rfl, ?_⟩; refine pS ?_; refine OkO.bin rfl rfl rfl (bin_sub (by omega) (by omega)) ?_; refine oN ⟨rfl, ?_⟩; refine pS ?_; refine OkO.bin rfl rfl rfl (bin_add (by omega) (by omega)) ?_; refine oN ⟨rfl, ?_⟩; refine pS ?_; refine OkO.makeFunc rfl rfl rfl ?_; refine oN ⟨rfl, ?_⟩; refine pS ?_; refine OkO.callN rfl rfl rfl rfl rfl ((by rw [hcount]; exact c98 m n (W.next + 1) W.next Pd _ hn6 (fun i hi G hG9 => c99 m fF (i : Int) lo hi9 (W.next + 1) W.next c1 c2 _ G (by rw [hG9.get _ (by simp only [hNw]; omega)]; first | (rw [gn0]; rfl) | (simp (disch := first | omega | (simp only [hNw, hPt]; omega)) only [gN] <;> first | rfl | assumption)) (by rw [hG9.get _ (by simp only [hNw]; omega)]; first | (rw [gn1]; rfl) | (simp (disch := first | omega | (simp only [hNw, hPt]; omega)) only [gN] <;> first | rfl | assumption)) hlo (by omega) (fun G3 hG3 => hcall i hi G3 ((hXX G hG9).trans hG3))))) ?_
  rintro v98 H98 ⟨r, rfl, rfl, r1, r2, r3⟩
  refine oN ⟨(sco (qsa0 1 rfl rfl rfl) (sco (qsa0 1 rfl rfl rfl) (sco (qsa0 1 rfl rfl rfl) rfl))), ?_⟩; refine pS ?_; refine OkO.bin rfl rfl rfl (bin_add (by omega) (by omega)) ?_; refine oN ⟨rfl, ?_⟩; refine pS ?_; refine oA rfl rfl ?_; refine oN ⟨rfl, ?_⟩; refine OkP.nil ?_
  refine Ok.ret ⟨.inr rfl, ?_⟩
  exact ⟨_, _, back_flat rfl rfl rfl (by rw [← hW]; exact (by (try dsimp only); repeat (first | exact hG | apply Grow.new | (refine Grow.put ?_ _ (by first | omega | (simp only [hNw, hPt]; omega)))))), r, rfl, rfl, r1, r2, r3⟩
end
end Go.EvN

set_option maxRecDepth 100000
set_option linter.unusedSimpArgs false
set_option linter.unusedVariables false
namespace Go.Ev
open Go Go.Proofs
noncomputable section
theorem c64 (m : Nat) (cv dv rv : AV) (cs : List Cell) (g : Gr) (ds : List Day) (rs : List Rd) (H : Heap) (hR : Row H cv 7 (cs.map Cell.c)) (hbig : cs.length ≤ 1000) (hY : Row H dv 3 (ds.map Day.c)) (hbd : ds.length ≤ 1000) (hZ : Row H rv 4 (rs.map Rd.c)) (hbr : rs.length ≤ 1000) : RR (m + 11) (.fn 64 [.agg [cv, I g.slo, I g.shi, I g.klo, I g.khi, I g.melt], dv, rv]) H = some (I (readErr cs g ds rs), H) := by
  refine (R_fn _ _ _ _ _).trans ?_; refine fn_ok Try.func64 rfl rfl (by kernel_rfl) (by kernel_rfl) ?_
  obtain ⟨W, hW, hg, hN, hE, hG⟩ := wOf H
  rw [← hW]
  have hlc : lenOf cv = some cs.length := by simpa using hR.len
  have hld : lenOf dv = some ds.length := by simpa using hY.len
  have hlr : lenOf rv = some rs.length := by simpa using hZ.len
  have pc := lpl hlc
  have pd := lpl hld
  have hdc : dv.cells = [dv] := (len_one hld).1
  have hdc0 : dv.cells[0]? = some dv := by rw [hdc]; rfl
  refine kS ?_; refine kR ?_; refine OkO.box rfl rfl ?_; refine OkO.box rfl rfl ?_; refine oA rfl rfl ?_; refine oN ?_; refine kS ?_; refine kS ?_; refine kR ?_; refine oL rfl rfl (qlg8 6) ?_; refine oL rfl rfl (qla7 1) ?_; refine oV rfl rfl rfl rfl rfl (c60 (m + 4) cv dv cs g ds _ (hR.ext (hE _ (by (try dsimp only); repeat (first | exact hG | apply Grow.new | (refine Grow.put ?_ _ (by first | omega | (simp only [hNw, hPt]; omega))))))) (by omega) (hY.ext (hE _ (by (try dsimp only); repeat (first | exact hG | apply Grow.new | (refine Grow.put ?_ _ (by first | omega | (simp only [hNw, hPt]; omega))))))) (by omega)) ?_; refine oA rfl rfl ?_; refine oN ?_; refine kS ?_; refine kR ?_; refine oM rfl rfl ?_; refine OkO.bin rfl rfl rfl (bin_neq _ _) ?_; refine oN ?_
  refine Ok.cond rfl (fun h1 => ?_) (fun h1 => ?_)
  · have hde : ¬daysErr cs g ds = 0 := by simpa using h1
    refine kS ?_; refine kR ?_; refine oM rfl rfl ?_; refine oA rfl rfl ?_; refine oN ?_
    refine Ok.ret ⟨.inr rfl, ?_⟩
    exact back_flat rfl (by unfold readErr; rw [if_neg hde]; rfl) rfl (by rw [← hW]; exact (by (try dsimp only); repeat (first | exact hG | apply Grow.new | (refine Grow.put ?_ _ (by first | omega | (simp only [hNw, hPt]; omega))))))
  · have hde : daysErr cs g ds = 0 := by simpa using h1
    refine Ok.skip ?_; refine kS ?_; refine kS ?_; refine kR ?_; refine oM rfl rfl ?_; refine oB rfl rfl rfl qbl ?_; refine OkO.bin rfl rfl rfl (bin_gtr _ _) ?_; refine oN ?_
    refine Ok.cond rfl (fun h2 => ?_) (fun h2 => ?_)
    · have h30 : (30 : Int) < (rs.length : Int) := by simpa using h2
      refine kS ?_; refine kR ?_; refine oA rfl rfl ?_; refine oN ?_
      refine Ok.ret ⟨.inr rfl, ?_⟩
      exact back_flat rfl (by unfold readErr learnErr; rw [if_pos hde, if_pos h30]; rfl) rfl (by rw [← hW]; exact (by (try dsimp only); repeat (first | exact hG | apply Grow.new | (refine Grow.put ?_ _ (by first | omega | (simp only [hNw, hPt]; omega))))))
    · have h30 : ¬(30 : Int) < (rs.length : Int) := by simpa using h2
      refine Ok.skip ?_; refine kS ?_; refine kR ?_; refine OkO.makeFunc rfl rfl rfl ?_; refine oA rfl rfl ?_; refine oN ?_; refine kS ?_; refine kS ?_; refine kR ?_; refine oM rfl rfl ?_; refine oM rfl rfl ?_; refine oV rfl rfl rfl rfl rfl (c90 (m + 6) rv rs cv dv cs g ds W.next (W.next + 1) _ (hZ.ext (hE _ (by (try dsimp only); repeat (first | exact hG | apply Grow.new | (refine Grow.put ?_ _ (by first | omega | (simp only [hNw, hPt]; omega))))))) (by omega) (by first | (rw [gn0]; rfl) | (rw [gn0]; exact congrArg some hdc) | (simp (disch := first | omega | (simp only [hNw, hPt]; omega)) only [gN] <;> first | rfl | assumption | exact congrArg some hdc)) (by first | (rw [gn0]; rfl) | (rw [gn0]; exact congrArg some hdc) | (simp (disch := first | omega | (simp only [hNw, hPt]; omega)) only [gN] <;> first | rfl | assumption | exact congrArg some hdc)) (by simp only [hNw]; omega) (by simp only [hNw]; omega) hlc hld (by omega) (by omega)) ?_; refine OkO.un rfl rfl rfl ?_; refine oN ?_
      refine Ok.cond rfl (fun h3 => ?_) (fun h3 => ?_)
      · have hal : (rs.all fun x => x.ok cs ds) = false := by simpa using h3
        refine kS ?_; refine kR ?_; refine oA rfl rfl ?_; refine oN ?_
        refine Ok.ret ⟨.inr rfl, ?_⟩
        exact back_flat rfl (by unfold readErr learnErr; rw [if_pos hde, if_neg h30, hal]; rfl) rfl (by rw [← hW]; exact (by (try dsimp only); repeat (first | exact hG | apply Grow.new | (refine Grow.put ?_ _ (by first | omega | (simp only [hNw, hPt]; omega))))))
      · have hal : (rs.all fun x => x.ok cs ds) = true := by simpa using h3
        refine Ok.skip ?_; refine kS ?_; refine kS ?_; refine kR ?_; refine oF (o := 1) rfl (by kernel_rfl) rfl ?_; refine oL rfl rfl (qlg8 2) ?_; refine oV rfl rfl rfl rfl rfl (c91 (m + 9) g.slo g.shi _) ?_; refine OkO.un rfl rfl rfl ?_; refine oM rfl rfl ?_
        refine OkO.split (d := 27) rfl (fun g4 => ?_) (fun g4 => ?_)
        · have k1 : decide (g.slo = g.shi) = false := by simpa using g4
          refine oK rfl ?_; refine oK rfl ?_; refine oK rfl ?_; refine oK rfl ?_; refine oK rfl ?_; refine OkO.pick (b := true) rfl rfl (fun _ => rfl) nofun ?_; refine oM rfl rfl ?_; refine oK rfl ?_; refine oK rfl ?_; refine oK rfl ?_; refine oK rfl ?_; refine OkO.pick (b := true) rfl rfl (fun _ => rfl) nofun ?_; refine oN ?_; refine Ok.condT rfl ?_; refine kS ?_; refine kR ?_; refine oA rfl rfl ?_; refine oN ?_
          refine Ok.ret ⟨.inr rfl, ?_⟩
          exact back_flat rfl (by unfold readErr learnErr; rw [if_pos hde, if_neg h30, hal, if_pos rfl]; unfold knownB; rw [k1]; rfl) rfl (by rw [← hW]; exact (by (try dsimp only); repeat (first | exact hG | apply Grow.new | (refine Grow.put ?_ _ (by first | omega | (simp only [hNw, hPt]; omega))))))
        · have k1 : decide (g.slo = g.shi) = true := by simpa using g4
          refine oF (o := 0) rfl (by kernel_rfl) rfl ?_; refine oL rfl rfl (qla7 1) ?_; refine oE rfl rfl rfl rfl rfl (c77 (m + 8) cv cs _ (hR.ext (hE _ (by (try dsimp only); repeat (first | exact hG | apply Grow.new | (refine Grow.put ?_ _ (by first | omega | (simp only [hNw, hPt]; omega))))))) hbig) ?_
          rintro vA HA ⟨qA, rA, cA, fA⟩
          have gA : Grow W HA := Grow.ret (by (try dsimp only); repeat (first | exact hG | apply Grow.new | (refine Grow.put ?_ _ (by first | omega | (simp only [hNw, hPt]; omega))))) qA
          have nA : W.next + 2 ≤ HA.next := by have := qA.ext.next; first | omega | (simp only [hNw] at this; omega)
          have b0HA : (HA.get W.next).bind AObj.cs = some [cv, I g.slo, I g.shi, I g.klo, I g.khi, I g.melt] := by rw [qA.ext.get _ (by first | omega | (simp only [hNw]; omega))]; first | assumption | (simp (disch := first | omega | (simp only [hNw, hPt]; omega)) only [gN] <;> first | rfl | assumption)
          have b1HA : (HA.get (W.next + 1)).bind AObj.cs = some dv.cells := by rw [qA.ext.get _ (by first | omega | (simp only [hNw]; omega))]; first | assumption | (simp (disch := first | omega | (simp only [hNw, hPt]; omega)) only [gN] <;> first | rfl | assumption)
          have rA2 : Row HA vA 2 ((cs.map Cell.lv).map Rg.c) := by rw [List.map_map]; exact rA
          refine oV rfl rfl rfl rfl rfl (c92 (m + 7) vA (cs.map Cell.lv) _ rA2 (by simp; omega)) ?_; refine OkO.un rfl rfl rfl ?_; refine OkO.pick (b := false) rfl rfl nofun (fun _ => rfl) ?_; refine oM rfl rfl ?_
          refine OkO.split (d := 34) rfl (fun g5 => ?_) (fun g5 => ?_)
          · have k2 : (cs.all fun x => decide (x.lo = x.hi)) = false := by (have q : ((cs.map Cell.lv).all fun x => decide (x.lo = x.hi)) = false := by simpa using g5); rw [List.all_map] at q; exact q
            refine oK rfl ?_; refine oK rfl ?_; refine oK rfl ?_; refine oK rfl ?_; refine OkO.pick (b := true) rfl rfl (fun _ => rfl) nofun ?_; refine oN ?_; refine Ok.condT rfl ?_; refine kS ?_; refine kR ?_; refine oA rfl rfl ?_; refine oN ?_
            refine Ok.ret ⟨.inr rfl, ?_⟩
            exact back_flat rfl (by unfold readErr learnErr; rw [if_pos hde, if_neg h30, hal, if_pos rfl]; unfold knownB; rw [k1, k2]; rfl) rfl (by rw [← hW]; exact gA)
          · have k2 : (cs.all fun x => decide (x.lo = x.hi)) = true := by (have q : ((cs.map Cell.lv).all fun x => decide (x.lo = x.hi)) = true := by simpa using g5); rw [List.all_map] at q; exact q
            refine oL rfl rfl (qla7 1) ?_; refine oE rfl rfl rfl rfl rfl (c79 (m + 8) dv ds _ (hY.ext (hE _ gA)) hbd) ?_
            rintro vB HB ⟨qB, rB, cB, fB⟩
            have gB : Grow W HB := Grow.ret gA qB
            have b0HB : (HB.get W.next).bind AObj.cs = some [cv, I g.slo, I g.shi, I g.klo, I g.khi, I g.melt] := by rw [qB.ext.get _ (by first | omega | (simp only [hNw]; omega))]; first | assumption | (simp (disch := first | omega | (simp only [hNw, hPt]; omega)) only [gN] <;> first | rfl | assumption)
            have b1HB : (HB.get (W.next + 1)).bind AObj.cs = some dv.cells := by rw [qB.ext.get _ (by first | omega | (simp only [hNw]; omega))]; first | assumption | (simp (disch := first | omega | (simp only [hNw, hPt]; omega)) only [gN] <;> first | rfl | assumption)
            have rB2 : Row HB vB 2 ((ds.map Day.rn).map Rg.c) := by rw [List.map_map]; exact rB
            refine oV rfl rfl rfl rfl rfl (c92 (m + 7) vB (ds.map Day.rn) _ rB2 (by simp; omega)) ?_; refine OkO.un rfl rfl rfl ?_; refine OkO.pick (b := false) rfl rfl nofun (fun _ => rfl) ?_; refine oN ?_
            refine Ok.cond rfl (fun h6 => ?_) (fun h6 => ?_)
            · have k3 : (ds.all fun x => decide (x.lo = x.hi)) = false := by (have q : ((ds.map Day.rn).all fun x => decide (x.lo = x.hi)) = false := by simpa using h6); rw [List.all_map] at q; exact q
              refine kS ?_; refine kR ?_; refine oA rfl rfl ?_; refine oN ?_
              refine Ok.ret ⟨.inr rfl, ?_⟩
              exact back_flat rfl (by unfold readErr learnErr; rw [if_pos hde, if_neg h30, hal, if_pos rfl]; unfold knownB; rw [k1, k2, k3]; rfl) rfl (by rw [← hW]; exact gB)
            · have k3 : (ds.all fun x => decide (x.lo = x.hi)) = true := by (have q : ((ds.map Day.rn).all fun x => decide (x.lo = x.hi)) = true := by simpa using h6); rw [List.all_map] at q; exact q
              refine Ok.skip ?_; refine kS ?_; refine kR ?_; refine oA rfl rfl ?_; refine oN ?_
              refine Ok.ret ⟨.inr rfl, ?_⟩
              exact back_flat rfl (by unfold readErr learnErr; rw [if_pos hde, if_neg h30, hal, if_pos rfl]; unfold knownB; rw [k1, k2, k3]; rfl) rfl (by rw [← hW]; exact gB)
end
end Go.Ev

set_option maxRecDepth 100000
set_option linter.unusedSimpArgs false
set_option linter.unusedVariables false
namespace Go.Ev
open Go Go.Proofs
noncomputable section
def agreesB (cs : List Cell) (g : Gr) (ds : List Day) (rs : List Rd) (s : Int) : Bool := rs.all fun x => inB (lvS cs g ds s x.day x.cell) x.lo x.hi
theorem agrees_eq (cs : List Cell) (g : Gr) (ds : List Day) (rs : List Rd) (s : Int) : agreesB cs g ds rs s = (!belowB cs g ds rs s && !aboveB cs g ds rs s) := by
  unfold agreesB belowB aboveB
  rw [Bool.eq_iff_iff]
  simp only [List.all_eq_true, Bool.and_eq_true, Bool.not_eq_true', List.any_eq_false, decide_eq_true_eq, inB]
  exact ⟨fun h => ⟨fun x hx => by have := h x hx; omega, fun x hx => by have := h x hx; omega⟩, fun ⟨h1, h2⟩ x hx => ⟨by have := h1 x hx; omega, by have := h2 x hx; omega⟩⟩
theorem lvS_mono {cs : List Cell} {g : Gr} {ds : List Day} {rs : List Rd} (hd0 : daysErr cs g ds = 0) {s s' : Int} (h1 : g.klo ≤ s) (h2 : s ≤ s') (h3 : s' ≤ g.khi) {d c : Int} (hd : 0 ≤ d ∧ d < ds.length) : lvS cs g ds s d c ≤ lvS cs g ds s' d c :=
  lev_mono (t' := ⟨g.slo, s⟩) (t := ⟨g.slo, s'⟩) (fit_soak hd0 ⟨by omega, h3⟩) (fit_soak hd0 ⟨h1, by omega⟩) rfl (fun i _ => LeC.refl _) rfl (Int.le_refl _) h2 (LeL.refl _) (LeL.refl _) (d.toNat + 1) (by omega) _
theorem rd_in2 {cs : List Cell} {ds : List Day} {x : Rd} (h : x.ok cs ds = true) : 0 ≤ x.day ∧ x.day < ds.length ∧ 0 ≤ x.cell ∧ x.cell < cs.length := by
  simp [Rd.ok, inB] at h
  omega
theorem below_mono {cs : List Cell} {g : Gr} {ds : List Day} {rs : List Rd} (hd0 : daysErr cs g ds = 0) (hrs : ∀ x ∈ rs, x.ok cs ds = true) {s s' : Int} (h1 : g.klo ≤ s) (h2 : s ≤ s') (h3 : s' ≤ g.khi) (h : belowB cs g ds rs s' = true) : belowB cs g ds rs s = true := by
  unfold belowB at h ⊢
  rw [List.any_eq_true] at h ⊢
  obtain ⟨x, hx, hl⟩ := h
  have := lvS_mono (rs := rs) hd0 h1 h2 h3 (c := x.cell) (by have := rd_in2 (hrs x hx); omega : 0 ≤ x.day ∧ x.day < ds.length)
  refine ⟨x, hx, ?_⟩
  simp only [decide_eq_true_eq] at hl ⊢
  omega
theorem above_mono {cs : List Cell} {g : Gr} {ds : List Day} {rs : List Rd} (hd0 : daysErr cs g ds = 0) (hrs : ∀ x ∈ rs, x.ok cs ds = true) {s s' : Int} (h1 : g.klo ≤ s) (h2 : s ≤ s') (h3 : s' ≤ g.khi) (h : aboveB cs g ds rs s = true) : aboveB cs g ds rs s' = true := by
  unfold aboveB at h ⊢
  rw [List.any_eq_true] at h ⊢
  obtain ⟨x, hx, hl⟩ := h
  have := lvS_mono (rs := rs) hd0 h1 h2 h3 (c := x.cell) (by have := rd_in2 (hrs x hx); omega : 0 ≤ x.day ∧ x.day < ds.length)
  refine ⟨x, hx, ?_⟩
  simp only [decide_eq_true_eq] at hl ⊢
  omega
/-- The soaks that agree are a range. -/
theorem agree_range {cs : List Cell} {g : Gr} {ds : List Day} {rs : List Rd} (hd0 : daysErr cs g ds = 0) (hrs : ∀ x ∈ rs, x.ok cs ds = true) {n r1 r2 : Nat} (hn : g.khi = g.klo + (n : Int) - 1)
    (a1 : r1 ≤ n) (a2 : r1 = 0 ∨ (!belowB cs g ds rs (g.klo + ((r1 - 1 : Nat) : Int))) = false) (a3 : r1 = n ∨ (!belowB cs g ds rs (g.klo + (r1 : Int))) = true)
    (b1 : r2 ≤ n) (b2 : r2 = 0 ∨ aboveB cs g ds rs (g.klo + ((r2 - 1 : Nat) : Int)) = false) (b3 : r2 = n ∨ aboveB cs g ds rs (g.klo + (r2 : Int)) = true) :
    ∀ s, g.klo ≤ s → s ≤ g.khi → (agreesB cs g ds rs s = true ↔ g.klo + (r1 : Int) ≤ s ∧ s ≤ g.klo + (r2 : Int) - 1) := by
  intro s h1 h2
  rw [agrees_eq, Bool.and_eq_true]
  constructor
  · rintro ⟨q1, q2⟩
    constructor
    · rcases a2 with a2 | a2
      · omega
      · refine Int.not_lt.1 fun hlt => ?_
        have : belowB cs g ds rs s = true := below_mono hd0 hrs h1 (by omega : s ≤ g.klo + ((r1 - 1 : Nat) : Int)) (by omega) (by simpa using a2)
        rw [this] at q1; cases q1
    · rcases b3 with b3 | b3
      · omega
      · refine Int.not_lt.1 fun hlt => ?_
        have : aboveB cs g ds rs s = true := above_mono hd0 hrs (by omega) (by omega : g.klo + (r2 : Int) ≤ s) h2 b3
        rw [this] at q2; cases q2
  · rintro ⟨q1, q2⟩
    constructor
    · cases hb : belowB cs g ds rs s with
      | false => rfl
      | true =>
        rcases a3 with a3 | a3
        · omega
        · have := below_mono hd0 hrs (by omega) q1 h2 hb
          rw [this] at a3; cases a3
    · cases hb : aboveB cs g ds rs s with
      | false => rfl
      | true =>
        rcases b2 with b2 | b2
        · omega
        · have := above_mono hd0 hrs h1 (by omega : s ≤ g.klo + ((r2 - 1 : Nat) : Int)) (by omega) hb
          rw [this] at b2; cases b2
end
end Go.Ev

set_option maxRecDepth 100000
set_option linter.unusedSimpArgs false
set_option linter.unusedVariables false
namespace Go.EvN
open Go Go.Proofs Go.Ev
noncomputable section
theorem c65 (m : Nat) (cv dv : AV) (cs : List Cell) (g : Gr) (ds : List Day) (rs : List Rd) (n mb : Nat) (o : AObj) (H : Heap) (hR : Row H cv 7 (cs.map Cell.c)) (hbig : cs.length ≤ 1000) (hY : Row H dv 3 (ds.map Day.c)) (hbd : ds.length ≤ 1000) (hbr : rs.length ≤ 1000) (hm : H.get mb = some o) (hmb : mb < H.next) (ho : MapO o encW (mapV (wf rs))) (hrs : ∀ x ∈ rs, x.ok cs ds = true) (hd0 : daysErr cs g ds = 0) (hn9 : g.khi = g.klo + (n : Int) - 1) : FnN Try.prog (RR (m + 26)) 65 [.agg [cv, I g.slo, I g.shi, I g.klo, I g.khi, I g.melt], dv, .map mb] H fun v H' => ∃ r1 r2 : Nat, v = .agg [I (g.klo + (r1 : Int)), I (g.klo + (r2 : Int) - 1)] ∧ H' = H ∧ r1 ≤ n ∧ (r1 = 0 ∨ (!belowB cs g ds rs (g.klo + ((r1 - 1 : Nat) : Int))) = false) ∧ (r1 = n ∨ (!belowB cs g ds rs (g.klo + (r1 : Int))) = true) ∧ r2 ≤ n ∧ (r2 = 0 ∨ aboveB cs g ds rs (g.klo + ((r2 - 1 : Nat) : Int)) = false) ∧ (r2 = n ∨ aboveB cs g ds rs (g.klo + (r2 : Int)) = true) := by
  refine fn_okE Try.func65 rfl rfl (by kernel_rfl) (by kernel_rfl) ?_
  obtain ⟨W, hW, hg, hN, hE, hG⟩ := wOf H
  rw [← hW]
  have hlc : lenOf cv = some cs.length := by simpa using hR.len
  have hld : lenOf dv = some ds.length := by simpa using hY.len
  have pc := lpl hlc
  have pd := lpl hld
  have hdc : dv.cells = [dv] := (len_one hld).1
  have hdc0 : dv.cells[0]? = some dv := by rw [hdc]; rfl
  have hF := fit_of (low_ok hd0)
  have hn8 := hF.n8
  have hk9 := (gf_of hd0).soak
  have hc1 : cv.atom = true := (len_one hlc).2
  have hd1 : dv.atom = true := (len_one hld).2
  refine kS ?_; refine kR ?_; refine OkO.box rfl rfl ?_; refine OkO.box rfl rfl ?_; refine OkO.alloc (z := [.int .i64 0, .int .i64 0]) rfl (by kernel_rfl) ?_; refine oN ?_; refine kS ?_; refine kR ?_; refine OkO.build (z := [.nilf]) (pl := [(0, 1)]) rfl (by kernel_rfl) rfl rfl ?_; refine oL rfl rfl (qlg8 6) ?_; refine oM rfl rfl ?_; refine oE rfl rfl rfl rfl rfl (c93l (m + 23) cv dv cs g ds _ (hR.ext (hE _ (by (try dsimp only); repeat (first | exact hG | apply Grow.new | (refine Grow.put ?_ _ (by first | omega | (simp only [hNw, hPt]; omega))))))) hbig (hY.ext (hE _ (by (try dsimp only); repeat (first | exact hG | apply Grow.new | (refine Grow.put ?_ _ (by first | omega | (simp only [hNw, hPt]; omega))))))) hbd hc1 hd1 (by omega)) ?_
  rintro v93 H93 ⟨lv, rv, rfl, q93, l93, r93⟩
  have g93 : Grow W H93 := Grow.ret (by (try dsimp only); repeat (first | exact hG | apply Grow.new | (refine Grow.put ?_ _ (by first | omega | (simp only [hNw, hPt]; omega))))) q93
  have n93 : W.next + 3 ≤ H93.next := by have := q93.ext.next; simp only [hNw] at this; omega
  have plv := lpl l93.len
  have prv := lpl r93.len
  have b0E : (H93.get W.next).bind AObj.cs = some [cv, I g.slo, I g.shi, I g.klo, I g.khi, I g.melt] := by rw [q93.ext.get _ (by simp only [hNw]; omega)]; first | assumption | (simp (disch := first | omega | (simp only [hNw, hPt]; omega)) only [gN] <;> first | rfl | assumption)
  have b1E : (H93.get (W.next + 1)).bind AObj.cs = some [.map mb] := by rw [q93.ext.get _ (by simp only [hNw]; omega)]; first | assumption | (simp (disch := first | omega | (simp only [hNw, hPt]; omega)) only [gN] <;> first | rfl | assumption)
  have b2E : H93.get (W.next + 2) = some (.cells [I 0, I 0] 36) := by rw [q93.ext.get _ (by simp only [hNw]; omega)]; first | assumption | exact gn0 _ _ | (simp (disch := first | omega | (simp only [hNw, hPt]; omega)) only [gN] <;> first | rfl | assumption)
  refine OkO.makeFunc rfl rfl rfl ?_; refine OkO.alloc (z := [.nilf]) rfl (by kernel_rfl) ?_; refine oT rfl rfl rfl (sAc (n := 1) (ag := false) (l := [.fn 94 [.agg [cv, I g.slo, I g.shi, I g.klo, I g.khi, I g.melt, dv, I g.slo, I g.klo, lv, rv]] []]) (by kernel_rfl) (gn0 _ _) rfl rfl rfl) ?_; refine oN ?_
  have hXE : Ext H93 ((H93.new (.cells [.nilf] 161)).put H93.next (.cells [.fn 94 [.agg [cv, I g.slo, I g.shi, I g.klo, I g.khi, I g.melt, dv, I g.slo, I g.klo, lv, rv]] []] 161)) := (Ext.refl _).new _ |>.put _ (Nat.le_refl _)
  have gX : Grow W ((H93.new (.cells [.nilf] 161)).put H93.next (.cells [.fn 94 [.agg [cv, I g.slo, I g.shi, I g.klo, I g.khi, I g.melt, dv, I g.slo, I g.klo, lv, rv]] []] 161)) := (g93.new _).put _ (by omega)
  have hcap : (((H93.new (.cells [.nilf] 161)).put H93.next (.cells [.fn 94 [.agg [cv, I g.slo, I g.shi, I g.klo, I g.khi, I g.melt, dv, I g.slo, I g.klo, lv, rv]] []] 161)).get H93.next).bind AObj.cs = some [.fn 94 [.agg [cv, I g.slo, I g.shi, I g.klo, I g.khi, I g.melt, dv, I g.slo, I g.klo, lv, rv]] []] := by rw [gp0]; rfl
  have hcN : H93.next < ((H93.new (.cells [.nilf] 161)).put H93.next (.cells [.fn 94 [.agg [cv, I g.slo, I g.shi, I g.klo, I g.khi, I g.melt, dv, I g.slo, I g.klo, lv, rv]] []] 161)).next := by simp
  have b0X : (((H93.new (.cells [.nilf] 161)).put H93.next (.cells [.fn 94 [.agg [cv, I g.slo, I g.shi, I g.klo, I g.khi, I g.melt, dv, I g.slo, I g.klo, lv, rv]] []] 161)).get W.next).bind AObj.cs = some [cv, I g.slo, I g.shi, I g.klo, I g.khi, I g.melt] := by rw [hXE.get _ (by omega)]; exact b0E
  have b2X : ((H93.new (.cells [.nilf] 161)).put H93.next (.cells [.fn 94 [.agg [cv, I g.slo, I g.shi, I g.klo, I g.khi, I g.melt, dv, I g.slo, I g.klo, lv, rv]] []] 161)).get (W.next + 2) = some (.cells [I 0, I 0] 36) := by rw [hXE.get _ (by omega)]; exact b2E
  generalize ((H93.new (.cells [.nilf] 161)).put H93.next (.cells [.fn 94 [.agg [cv, I g.slo, I g.shi, I g.klo, I g.khi, I g.melt, dv, I g.slo, I g.klo, lv, rv]] []] 161)) = X at hXE gX hcap hcN b0X b2X ⊢
  refine kS ?_; refine kR ?_; refine OkO.makeFunc rfl rfl rfl ?_; refine oA rfl rfl ?_; refine oN ?_; refine kS ?_; refine kR ?_; refine OkO.makeFunc rfl rfl rfl ?_; refine oA rfl rfl ?_; refine oN ?_; refine kS ?_; refine Ok.drawn [(0, true, []), (1, true, []), (2, true, []), (4, true, []), (5, true, []), (6, true, []), (3, false, [5]), (7, false, [1]), (8, true, []), (9, true, []), (10, false, [])] (by kernel_rfl) ?_; refine pS ?_; refine oF (o := 3) rfl (by kernel_rfl) rfl ?_; refine oN ⟨rfl, ?_⟩; refine pS ?_; refine oL rfl rfl (qlg8 2) ?_; refine oN ⟨rfl, ?_⟩; refine pS ?_; refine oM rfl rfl ?_; refine oN ⟨rfl, ?_⟩; refine pS ?_; refine oF (o := 3) rfl (by kernel_rfl) rfl ?_; refine oN ⟨rfl, ?_⟩; refine pS ?_; refine oL rfl rfl (qlg8 2) ?_; refine oN ⟨rfl, ?_⟩; refine pS ?_; refine oM rfl rfl ?_; refine oN ⟨rfl, ?_⟩; refine pS ?_; refine OkO.callN rfl rfl rfl rfl rfl (c67 (m + 26) 95 g.klo g.khi n (W.next + 1) H93.next (fun i => !belowB cs g ds rs (g.klo + (i : Int))) _ (by omega) hn9 (by omega) (fun i hi G3 hG3 => c95 (m + 10) cv dv lv rv cs g ds rs (g.klo + (i : Int)) (W.next + 1) H93.next mb o G3 (hR.ext ((hE _ g93).trans (hXE.trans hG3))) (hY.ext ((hE _ g93).trans (hXE.trans hG3))) (l93.ext (hXE.trans hG3)) (r93.ext (hXE.trans hG3)) hd0 (by omega) (by rw [((hE _ g93).trans (hXE.trans hG3)).get _ hmb]; exact hm) (Nat.lt_of_lt_of_le hmb ((hE _ g93).trans (hXE.trans hG3)).next) ho hbr hrs (by rw [(hXE.trans hG3).get _ (by omega)]; exact b1E) (by rw [hG3.get _ hcN]; exact hcap) (Nat.lt_of_lt_of_le (by omega) (hXE.trans hG3).next) (Nat.lt_of_lt_of_le hcN hG3.next))) ?_
  rintro vA HA ⟨r1, rfl, rfl, p1, p2, p3⟩
  refine oN ⟨(sco (qsg4 2 rfl rfl rfl) rfl), ?_⟩; refine pS ?_; refine OkO.callN rfl rfl rfl rfl rfl (c67 (m + 26) 97 g.klo g.khi n (W.next + 1) H93.next (fun i => aboveB cs g ds rs (g.klo + (i : Int))) _ (by omega) hn9 (by omega) (fun i hi G3 hG3 => c97 (m + 10) cv dv lv rv cs g ds rs (g.klo + (i : Int)) (W.next + 1) H93.next mb o G3 (hR.ext ((hE _ g93).trans (hXE.trans hG3))) (hY.ext ((hE _ g93).trans (hXE.trans hG3))) (l93.ext (hXE.trans hG3)) (r93.ext (hXE.trans hG3)) hd0 (by omega) (by rw [((hE _ g93).trans (hXE.trans hG3)).get _ hmb]; exact hm) (Nat.lt_of_lt_of_le hmb ((hE _ g93).trans (hXE.trans hG3)).next) ho hbr hrs (by rw [(hXE.trans hG3).get _ (by omega)]; exact b1E) (by rw [hG3.get _ hcN]; exact hcap) (Nat.lt_of_lt_of_le (by omega) (hXE.trans hG3).next) (Nat.lt_of_lt_of_le hcN hG3.next))) ?_
  rintro vB HB ⟨r2, rfl, rfl, p4, p5, p6⟩
  refine oN ⟨(sco (qsg4 2 rfl rfl rfl) rfl), ?_⟩; refine pS ?_; refine OkO.bin rfl rfl rfl (bin_sub (by omega) (by omega)) ?_; refine oN ⟨rfl, ?_⟩; refine pS ?_; refine OkO.build (z := [.int .i64 0, .int .i64 0]) (pl := [(0, 1), (1, 1)]) rfl (by kernel_rfl) rfl rfl ?_; refine oN ⟨rfl, ?_⟩; refine pS ?_; refine oT rfl rfl rfl (sAc (n := 2) (ag := true) (l := [I (g.klo + (r1 : Int)), I (g.klo + (r2 : Int) - 1)]) (by kernel_rfl) b2X rfl rfl rfl) ?_; refine oN ⟨rfl, ?_⟩; refine OkP.nil ?_
  refine Ok.ret ⟨.inr rfl, ?_⟩
  exact ⟨_, _, back_flat (resV_cell (b := W.next + 2) (off := 0) rfl (ldg (n := 2) (by kernel_rfl) (show ((HB.put (W.next + 2) (.cells [I (g.klo + (r1 : Int)), I (g.klo + (r2 : Int) - 1)] 36)).get (W.next + 2)).bind AObj.cs = some [I (g.klo + (r1 : Int)), I (g.klo + (r2 : Int) - 1)] by rw [gp0]; rfl) rfl) resV_nil) rfl rfl (by rw [← hW]; exact gX.put _ (by first | omega | (simp only [hNw]; omega))), r1, r2, rfl, rfl, p1, p2, p3, p4, p5, p6⟩
end
end Go.EvN

set_option maxRecDepth 100000
set_option linter.unusedSimpArgs false
set_option linter.unusedVariables false
namespace Go.Ev
open Go Go.Proofs
noncomputable section
theorem read_ok {cs : List Cell} {g : Gr} {ds : List Day} {rs : List Rd} (h : readErr cs g ds rs = 0) : daysErr cs g ds = 0 ∧ rs.length ≤ 30 ∧ (∀ x ∈ rs, x.ok cs ds = true) ∧ knownB cs g ds = true := by
  unfold readErr at h
  split at h
  · rename_i h0
    unfold learnErr at h
    split at h
    · cases h
    · rename_i h1
      split at h
      · rename_i h2
        split at h
        · rename_i h3
          exact ⟨h0, by omega, fun x hx => List.all_eq_true.1 h2 x hx, h3⟩
        · cases h
      · cases h
  · rename_i h0; exact absurd h h0
theorem c64w (m : Nat) (cv dv rv : AV) (cs : List Cell) (g : Gr) (ds : List Day) (rs : List Rd) (H : Heap) (hR : Row H cv 7 (cs.map Cell.c)) (hbig : cs.length ≤ 1000) (hY : Row H dv 3 (ds.map Day.c)) (hbd : ds.length ≤ 1000) (hZ : Row H rv 4 (rs.map Rd.c)) (hbr : rs.length ≤ 1000) {e : Int} (hke : readErr cs g ds rs = e) : RR (m + 11) (.fn 64 [.agg [cv, I g.slo, I g.shi, I g.klo, I g.khi, I g.melt], dv, rv]) H = some (I e, H) := by
  rw [← hke]; exact c64 m cv dv rv cs g ds rs H hR hbig hY hbd hZ hbr
end
end Go.Ev

set_option maxRecDepth 100000
set_option linter.unusedSimpArgs false
set_option linter.unusedVariables false
namespace Go.EvN
open Go Go.Proofs Go.Ev
noncomputable section
theorem c33K (m : Nat) (cv dv rv : AV) (cs : List Cell) (g : Gr) (ds : List Day) (rs : List Rd) (H : Heap) (hR : Row H cv 7 (cs.map Cell.c)) (hbig : cs.length ≤ 1000) (hY : Row H dv 3 (ds.map Day.c)) (hbd : ds.length ≤ 1000) (hZ : Row H rv 4 (rs.map Rd.c)) (hbr : rs.length ≤ 1000) (hke : readErr cs g ds rs = 0) : FnN Try.prog (RR (m + 41)) 33 [.agg [cv, I g.slo, I g.shi, I g.klo, I g.khi, I g.melt], dv, rv] H fun v H' => ∃ a b : Int, g.klo ≤ a ∧ a ≤ g.khi + 1 ∧ g.klo - 1 ≤ b ∧ b ≤ g.khi ∧ (∀ s, g.klo ≤ s → s ≤ g.khi → (agreesB cs g ds rs s = true ↔ a ≤ s ∧ s ≤ b)) ∧ H' = H ∧ ((b < a ∧ v = .tup [.agg [I 0, I 0], I 7]) ∨ (a ≤ b ∧ v = .tup [.agg [I a, I b], I 0])) := by
  refine fn_okE Try.func33 rfl rfl (by kernel_rfl) (by kernel_rfl) ?_
  obtain ⟨W, hW, hg, hN, hE, hG⟩ := wOf H
  rw [← hW]
  have hlc : lenOf cv = some cs.length := by simpa using hR.len
  have hld : lenOf dv = some ds.length := by simpa using hY.len
  have hlr : lenOf rv = some rs.length := by simpa using hZ.len
  have pc := lpl hlc
  have pd := lpl hld
  have hdc : dv.cells = [dv] := (len_one hld).1
  have hdc0 : dv.cells[0]? = some dv := by rw [hdc]; rfl
  obtain ⟨hd0, hl30, hrs, hkn⟩ := read_ok hke
  have hk9 := (gf_of hd0).soak
  obtain ⟨n, hn9⟩ : ∃ n : Nat, g.khi = g.klo + (n : Int) - 1 := ⟨(g.khi - g.klo + 1).toNat, by omega⟩
  refine kS ?_; refine kR ?_; refine OkO.box rfl rfl ?_; refine OkO.alloc (z := [.int .i64 0, .int .i64 0]) rfl (by kernel_rfl) ?_; refine oA rfl rfl ?_; refine oN ?_; refine kS ?_; refine kS ?_; refine kR ?_; refine oL rfl rfl (qlg8 6) ?_; refine oM rfl rfl ?_; refine oM rfl rfl ?_; refine oV rfl rfl rfl rfl rfl (c64w (m + 30) cv dv rv cs g ds rs _ (hR.ext (hE _ (by (try dsimp only); repeat (first | exact hG | apply Grow.new | (refine Grow.put ?_ _ (by first | omega | (simp only [hNw, hPt]; omega))))))) hbig (hY.ext (hE _ (by (try dsimp only); repeat (first | exact hG | apply Grow.new | (refine Grow.put ?_ _ (by first | omega | (simp only [hNw, hPt]; omega))))))) hbd (hZ.ext (hE _ (by (try dsimp only); repeat (first | exact hG | apply Grow.new | (refine Grow.put ?_ _ (by first | omega | (simp only [hNw, hPt]; omega))))))) hbr hke) ?_; refine oA rfl rfl ?_; refine oN ?_; refine kS ?_; refine kR ?_; refine oM rfl rfl ?_; refine OkO.bin rfl rfl rfl (bin_neq _ _) ?_; refine oN ?_
  refine Ok.cond rfl (fun h1 => ?_) (fun h1 => ?_)
  · exact absurd h1 (by simp)
  · refine Ok.skip ?_
    refine kS ?_; refine Ok.drawn [(0, true, []), (1, true, []), (2, true, []), (5, true, [0]), (3, false, [0]), (4, false, []), (6, false, [])] (by kernel_rfl) ?_; refine pS ?_; refine oL rfl rfl (qlg8 6) ?_; refine oN ⟨rfl, ?_⟩; refine pS ?_; refine oM rfl rfl ?_; refine oN ⟨rfl, ?_⟩; refine pS ?_; refine oM rfl rfl ?_; refine oN ⟨rfl, ?_⟩; refine pS ?_; refine OkO.alloc (z := [.int .i64 0, .int .i64 0]) rfl (by kernel_rfl) ?_
    refine oN ⟨(sco (qsg4 6 rfl rfl rfl) rfl), ?_⟩; refine pS ?_; refine oE rfl rfl rfl rfl rfl (c66 (m + 40) rv rs _ (hZ.ext (hE _ (by (try dsimp only); repeat (first | exact hG | apply Grow.new | (refine Grow.put ?_ _ (by first | omega | (simp only [hNw, hPt]; omega))))))) hbr) ?_
    rintro v66 HM ⟨mb, om, rfl, qM, m1, m2, m3, m4⟩
    have gM : Grow W HM := Grow.ret (by (try dsimp only); repeat (first | exact hG | apply Grow.new | (refine Grow.put ?_ _ (by first | omega | (simp only [hNw, hPt]; omega))))) qM
    have b0M : (HM.get W.next).bind AObj.cs = some [cv, I g.slo, I g.shi, I g.klo, I g.khi, I g.melt] := by rw [qM.ext.get _ (by simp only [hNw]; omega)]; first | assumption | (simp (disch := first | omega | (simp only [hNw, hPt]; omega)) only [gN] <;> first | rfl | assumption)
    have b1M : HM.get (W.next + 1) = some (.cells [I 0, I 0] 36) := by rw [qM.ext.get _ (by simp only [hNw]; omega)]; first | assumption | exact gn1 _ _ _ | (simp (disch := first | omega | (simp only [hNw, hPt]; omega)) only [gN] <;> first | rfl | assumption)
    have b2M : HM.get (W.next + 2) = some (.cells [I 0, I 0] 36) := by rw [qM.ext.get _ (by simp only [hNw]; omega)]; first | assumption | exact gn2 _ _ _ _ | (simp (disch := first | omega | (simp only [hNw, hPt]; omega)) only [gN] <;> first | rfl | assumption)
    refine oN ⟨(sco (qsg4 6 rfl rfl rfl) rfl), ?_⟩; refine pS ?_; refine OkO.callN rfl rfl rfl rfl rfl (c65 (m + 15) cv dv cs g ds rs n mb om _ (hR.ext (hE _ gM)) hbig (hY.ext (hE _ gM)) hbd hbr m3 m2 m4 hrs hd0 hn9) ?_
    rintro v65 H65 ⟨r1, r2, rfl, rfl, p1, p2, p3, p4, p5, p6⟩
    have hrange := agree_range hd0 hrs hn9 p1 p2 p3 p4 p5 p6
    refine oN ⟨rfl, ?_⟩; refine pS ?_; refine oT rfl rfl rfl (sAc (n := 2) (ag := true) (by kernel_rfl) (by first | assumption | (simp (disch := first | omega | (simp only [hNw, hPt]; omega)) only [gN] <;> first | rfl | assumption | exact gp0 _ _ _ | exact gn0 _ _)) rfl (by first | rfl | assumption) (by first | rfl | exact spl_set _ _ _ (by first | assumption | omega | (simp; omega)))) ?_; refine oN ⟨rfl, ?_⟩; refine OkP.nil ?_; refine kS ?_; refine kS ?_; refine kR ?_; refine oF (o := 0) rfl (by kernel_rfl) rfl ?_; refine oL rfl rfl (qla7 1) ?_; refine oF (o := 1) rfl (by kernel_rfl) rfl ?_; refine oL rfl rfl (qla7 1) ?_; refine OkO.bin rfl rfl rfl (bin_gtr _ _) ?_; refine oN ?_
    refine Ok.cond rfl (fun h2 => ?_) (fun h2 => ?_)
    · have hba : g.klo + (r2 : Int) - 1 < g.klo + (r1 : Int) := of_decide_eq_true h2
      refine kS ?_; refine kR ?_; refine OkO.build (z := [.int .i64 0, .int .i64 0]) (pl := [(0, 1), (1, 1)]) rfl (by kernel_rfl) rfl rfl ?_; refine oT rfl rfl rfl (sAc (n := 2) (ag := true) (by kernel_rfl) (by first | assumption | (simp (disch := first | omega | (simp only [hNw, hPt]; omega)) only [gN] <;> first | rfl | assumption | exact gp0 _ _ _ | exact gn0 _ _)) rfl (by first | rfl | assumption) (by first | rfl | exact spl_set _ _ _ (by first | assumption | omega | (simp; omega)))) ?_; refine oA rfl rfl ?_; refine oN ?_
      refine Ok.ret ⟨.inr rfl, ?_⟩
      refine ⟨_, _, back_flat (resV_cell (b := W.next + 1) (off := 0) rfl (ldg (n := 2) (by kernel_rfl) (by first | exact congrArg (fun z => z.bind AObj.cs) (gp0 _ _ _) | (rw [gp0]; rfl)) rfl) (resV_tmp rfl resV_nil)) rfl rfl (by rw [← hW]; exact (by (try dsimp only); repeat (first | exact gM | apply Grow.new | (refine Grow.put ?_ _ (by first | omega | (simp only [hNw, hPt]; omega)))))), g.klo + (r1 : Int), g.klo + (r2 : Int) - 1, by omega, by omega, by omega, by omega, hrange, rfl, .inl ⟨hba, rfl⟩⟩
    · have hab : g.klo + (r1 : Int) ≤ g.klo + (r2 : Int) - 1 := by (have := of_decide_eq_false h2); omega
      refine Ok.skip ?_; refine kS ?_; refine kR ?_; refine oL rfl rfl (qlg8 2) ?_; refine oT rfl rfl rfl (sAc (n := 2) (ag := true) (by kernel_rfl) (by first | assumption | (simp (disch := first | omega | (simp only [hNw, hPt]; omega)) only [gN] <;> first | rfl | assumption | exact gp0 _ _ _ | exact gn0 _ _)) rfl (by first | rfl | assumption) (by first | rfl | exact spl_set _ _ _ (by first | assumption | omega | (simp; omega)))) ?_; refine oA rfl rfl ?_; refine oN ?_
      refine Ok.ret ⟨.inr rfl, ?_⟩
      refine ⟨_, _, back_flat (resV_cell (b := W.next + 1) (off := 0) rfl (ldg (n := 2) (by kernel_rfl) (by first | exact congrArg (fun z => z.bind AObj.cs) (gp0 _ _ _) | (rw [gp0]; rfl)) rfl) (resV_tmp rfl resV_nil)) rfl rfl (by rw [← hW]; exact (by (try dsimp only); repeat (first | exact gM | apply Grow.new | (refine Grow.put ?_ _ (by first | omega | (simp only [hNw, hPt]; omega)))))), g.klo + (r1 : Int), g.klo + (r2 : Int) - 1, by omega, by omega, by omega, by omega, hrange, rfl, .inr ⟨hab, rfl⟩⟩
theorem c33T (m : Nat) (cv dv rv : AV) (cs : List Cell) (g : Gr) (ds : List Day) (rs : List Rd) (H : Heap) (hR : Row H cv 7 (cs.map Cell.c)) (hbig : cs.length ≤ 1000) (hY : Row H dv 3 (ds.map Day.c)) (hbd : ds.length ≤ 1000) (hZ : Row H rv 4 (rs.map Rd.c)) (hbr : rs.length ≤ 1000) (hke : readErr cs g ds rs = 0) (hK : ∃ s, g.klo ≤ s ∧ s ≤ g.khi ∧ agreesB cs g ds rs s = true) : FnN Try.prog (RR (m + 41)) 33 [.agg [cv, I g.slo, I g.shi, I g.klo, I g.khi, I g.melt], dv, rv] H fun v H' => ∃ a b : Int, g.klo ≤ a ∧ a ≤ b ∧ b ≤ g.khi ∧ (∀ s, g.klo ≤ s → s ≤ g.khi → (agreesB cs g ds rs s = true ↔ a ≤ s ∧ s ≤ b)) ∧ H' = H ∧ v = .tup [.agg [I a, I b], I 0] :=
  FnN.mono (c33K m cv dv rv cs g ds rs H hR hbig hY hbd hZ hbr hke) fun v H' ⟨a, b, h1, h2, h3, h4, h5, h6, h7⟩ => by
    obtain ⟨s, k1, k2, k3⟩ := hK
    have := (h5 s k1 k2).1 k3
    rcases h7 with h7 | h7
    · exact absurd h7.1 (by omega)
    · exact ⟨a, b, h1, h7.1, h4, h5, h6, h7.2⟩
end
end Go.EvN

set_option maxRecDepth 100000
set_option linter.unusedSimpArgs false
set_option linter.unusedVariables false
namespace Go.Ev
open Go Go.Proofs
noncomputable section
end
end Go.Ev

set_option maxRecDepth 100000
set_option linter.unusedSimpArgs false
set_option linter.unusedVariables false
namespace Go.EvN
open Go Go.Proofs Go.Ev
noncomputable section
end
end Go.EvN

set_option maxRecDepth 100000
set_option linter.unusedSimpArgs false
set_option linter.unusedVariables false
namespace Go.Ev
open Go Go.Proofs Go.RowKit
noncomputable section
section
variable {H0 : Type} {enc : TypeId × Value → H0} {w : World} {base : Nat} {sp : Nat → Bool} {hd : Bool} {n : Nat}
end
end
end Go.Ev

set_option maxRecDepth 100000
set_option linter.unusedSimpArgs false
set_option linter.unusedVariables false
namespace Go.Ev
open Go Go.Proofs
noncomputable section
/-- Do a slice's cells read so? -/
def rowsB (H : Heap) (v : AV) (sz : Nat) (l : List (List AV)) : Bool :=
  match v with
  | .slice b off len _ => match Nat.beq len l.length, Nat.blt b H.next, (H.get b).bind AObj.cs with
    | true, true, some cs => match seg cs off (len * sz) with
      | some x => AV.eqvs x l.flatten
      | none => false
    | _, _, _ => false
  | .opn b len => match Nat.beq len l.length, Nat.blt b H.next, (H.get b).bind AObj.cs with
    | true, true, some cs => match seg cs 0 (len * sz) with
      | some x => AV.eqvs x l.flatten
      | none => false
    | _, _, _ => false
  | _ => false
def nCs : List Cell := [⟨100, 100, 400, 50, 200, 1, 0⟩, ⟨60, 60, 150, 0, 500, -1, 10⟩]
def nG : Gr := ⟨20, 20, 500, 600, 4⟩
def nDs : List Day := [⟨10, 10, 5⟩]
def nR1 : List Rd := [⟨0, 0, 106, 106⟩]
def nR2 : List Rd := [⟨0, 0, 109, 120⟩]
/-- What Learn says of the examples' readings. -/
def nmL : Rec := fun j H => match j with
  | .fn 33 [.agg (cv :: gs), dv, rv] => match AV.eqvs gs [I 20, I 20, I 500, I 600, I 4], rowsB H cv 7 (nCs.map Cell.c), rowsB H dv 3 (nDs.map Day.c) with
    | true, true, true => match rowsB H rv 4 (nR1.map Rd.c) with
      | true => some (.tup [.agg [I 534, I 566], I 0], H)
      | false => match rowsB H rv 4 (nR2.map Rd.c) with
        | true => some (.tup [.agg [I 0, I 0], I 7], H)
        | false => none
    | _, _, _ => none
  | _ => none
def nmO : Rec := withO nmL (closedO 17 (.bool true))
end
end Go.Ev
namespace Go.EvN
open Go Go.Proofs Go.Ev
noncomputable section
end
end Go.EvN

set_option maxRecDepth 100000
set_option linter.unusedSimpArgs false
set_option linter.unusedVariables false
namespace Go.Ev
open Go Go.Proofs
noncomputable section
theorem app_lit4 {P : Program} {G : Heap} {t u e : TypeId} {sz by_ b : Nat} {x : AV} {rows : List (List AV)} (hu : isSlice P u = true) (ht : elemTI P t = some (e, sz, by_)) (hr : Row G x sz rows) (hs : ∀ y ∈ rows, y.length = sz)
    (hb : rows.length * (by_ + 1) ≤ 4294967296) (hz : 0 < sz) (ha : atoms rows.flatten = true) (hn : 0 < rows.length) {N : Nat} (hN : G.next = N) :
    ∃ v' G', builtinF P G .append [t, u] [.slice b 0 0 0, x] = some (.val v' G') ∧ v' = .opn N rows.length ∧ G'.get N = some (.opn rows.flatten e sz) ∧ G'.next = N + 1 ∧ (∀ j, j < N → G'.get j = G.get j) ∧ ∀ W, Grow W G → Grow W G' := by
  subst hN
  have he := hr.elems hs
  have hl := hr.len
  have e1 : builtinF P G .append [t, u] [.slice b 0 0 0, x] = (append P G t (.slice b 0 0 0) x).map fun (v, H) => .val v H := by
    show (appendT P _ t u _ x).map _ = _
    unfold appendT
    unfold isSlice at hu
    split at hu
    · rename_i e; rw [e]
    · cases hu
  have e2 := append_go (s := .slice b 0 0 0) ht he hl rfl (by simpa using hb) hz ha
  have e3 : append.appendGo G e sz (.slice b 0 0 0) rows.flatten rows.length = some (.opn G.next rows.length, G.new (.opn rows.flatten e sz)) := by
    unfold append.appendGo
    dsimp only
    rw [show Nat.ble (0 + rows.length) 0 = false from by cases hq : Nat.ble (0 + rows.length) 0 with | false => rfl | true => (have := Nat.le_of_ble_eq_true hq; omega)]
    dsimp only
    rw [show elems G (.slice b 0 0 0) sz = some [] from rfl]
    simp
  rw [e1, e2, e3]
  exact ⟨_, _, rfl, rfl, gn0 _ _, rfl, fun j hj => gno _ _ _ (by omega), fun W h => h.new _⟩
def setL (cs : List Cell) (i : Nat) (n : Int) : List Cell := cs.set i { cs.getD i default with lo := n, hi := n }
theorem setL_len {cs : List Cell} {i : Nat} {n : Int} : (setL cs i n).length = cs.length := by simp [setL]
/-- A ground whose first levels are known. -/
def knP (cs : List Cell) (lvs : List Int) : Nat → List Cell
  | 0 => cs
  | i + 1 => setL (knP cs lvs i) i (lvs.getD i 0)
theorem knP_len (cs : List Cell) (lvs : List Int) : ∀ i, (knP cs lvs i).length = cs.length
  | 0 => rfl
  | i + 1 => by rw [knP, setL_len, knP_len cs lvs i]
theorem spl_pair (A C : List AV) (x y x' y' : AV) (off : Nat) (ho : off = A.length) : spl (A ++ ([x, y] ++ C)) off [x', y'] = some (A ++ ([x', y'] ++ C)) := by
  subst ho
  unfold spl
  rw [Nat.ble_eq_true_of_le (by simp)]
  dsimp only
  congr 1
  rw [List.take_left' rfl, show A ++ ([x, y] ++ C) = (A ++ [x, y]) ++ C by simp, List.drop_left' (by simp)]
theorem spl_lvl (cs : List Cell) (k : Nat) (n : Int) (h : k < cs.length) : spl ((cs.map Cell.c).flatten) (k * 7 + 0) [I n, I n] = some (((setL cs k n).map Cell.c).flatten) := by
  have hl : ((cs.take k).map Cell.c).flatten.length = k * 7 := by rw [flat_len _ 7 (fun x hx => by simp only [List.mem_map] at hx; obtain ⟨y, _, rfl⟩ := hx; rfl)]; simp; omega
  have e1 : (cs.map Cell.c).flatten = ((cs.take k).map Cell.c).flatten ++ ([I cs[k].lo, I cs[k].hi] ++ ([I cs[k].cap, I cs[k].keep, I cs[k].pass, I cs[k].to, I cs[k].pump] ++ ((cs.drop (k + 1)).map Cell.c).flatten)) := by
    conv => lhs; rw [← List.take_append_drop k cs, List.drop_eq_getElem_cons h, List.map_append, List.flatten_append, List.map_cons, List.flatten_cons]
    rfl
  have e2 : ((setL cs k n).map Cell.c).flatten = ((cs.take k).map Cell.c).flatten ++ ([I n, I n] ++ ([I cs[k].cap, I cs[k].keep, I cs[k].pass, I cs[k].to, I cs[k].pump] ++ ((cs.drop (k + 1)).map Cell.c).flatten)) := by
    unfold setL
    rw [List.set_eq_take_append_cons_drop, if_pos h, List.map_append, List.flatten_append, List.map_cons, List.flatten_cons]
    rw [show cs.getD k default = cs[k] from by simp [h]]
    rfl
  rw [e1, e2]
  exact spl_pair _ _ _ _ _ _ _ (by rw [hl]; rfl)
def knD (ds : List Day) (rain : List Int) (k : Nat) : List Day := (List.range k).map fun i => ⟨rain.getD i 0, rain.getD i 0, (ds.getD i default).warm⟩
theorem knD_succ (ds : List Day) (rain : List Int) (k : Nat) : knD ds rain (k + 1) = knD ds rain k ++ [⟨rain.getD k 0, rain.getD k 0, (ds.getD k default).warm⟩] := by simp [knD, List.range_succ]
theorem flatU1 {a b : AV} (h : (AV.tup [a, b]).flat = true) : a.flat = true := by
  rw [AV.flat, AV.flats] at h
  cases hq : a.flat with
  | true => rfl
  | false => rw [hq] at h; cases h
theorem flatU2 {a b : AV} (h : (AV.tup [a, b]).flat = true) : b.flat = true := by
  rw [AV.flat, AV.flats] at h
  cases hq : a.flat with
  | false => rw [hq] at h; cases h
  | true =>
    rw [hq] at h
    dsimp only at h
    rw [AV.flats] at h
    cases hb : b.flat with
    | true => rfl
    | false => rw [hb] at h; cases h
theorem atoms_cells2 : ∀ cs : List Cell, atoms ((cs.map Cell.c).flatten) = true
  | [] => rfl
  | c :: cs => by rw [List.map_cons, List.flatten_cons]; exact atoms_app _ _ rfl (atoms_cells2 cs)
theorem c48 (m : Nat) (cv dv lv rv : AV) (cs : List Cell) (g : Gr) (ds : List Day) (t : Tru) (lvs rain : List Int) (H : Heap) (hR : Row H cv 7 (cs.map Cell.c)) (hY : Row H dv 3 (ds.map Day.c)) (hL : Ints H lv lvs) (hA : Ints H rv rain) (hn8 : 1 ≤ cs.length ∧ cs.length ≤ 8) (hd30 : ds.length ≤ 30) (hll : lvs.length = cs.length) (hrl : rain.length = ds.length) : ∃ v H', RR (m + 1) (.fn 48 [.agg [cv, I g.slo, I g.shi, I g.klo, I g.khi, I g.melt], dv, .agg [I t.snow, I t.soak, lv, rv]]) H = some (v, H') ∧ ∃ cv' dv', v = .tup [.agg [cv', I t.snow, I t.snow, I g.klo, I g.khi, I g.melt], dv'] ∧ Ret H H' ∧ Row H' cv' 7 ((knP cs lvs cs.length).map Cell.c) ∧ Row H' dv' 3 ((knD ds rain ds.length).map Day.c) ∧ cv'.atom = true ∧ dv'.atom = true := by
  show ∃ v H', evFn Try.prog (RR (m + 0)) 48 [.agg [cv, I g.slo, I g.shi, I g.klo, I g.khi, I g.melt], dv, .agg [I t.snow, I t.soak, lv, rv]] H = some (v, H') ∧ ∃ cv' dv', v = .tup [.agg [cv', I t.snow, I t.snow, I g.klo, I g.khi, I g.melt], dv'] ∧ Ret H H' ∧ Row H' cv' 7 ((knP cs lvs cs.length).map Cell.c) ∧ Row H' dv' 3 ((knD ds rain ds.length).map Day.c) ∧ cv'.atom = true ∧ dv'.atom = true
  refine fn_okE Try.func48 rfl rfl (by kernel_rfl) (by kernel_rfl) ?_
  obtain ⟨W, hW, hg, hN, hE, hG⟩ := wOf H
  rw [← hW]
  have hlc : lenOf cv = some cs.length := by simpa using hR.len
  have hld : lenOf dv = some ds.length := by simpa using hY.len
  have pc := lpl hlc
  have pd := lpl hld
  have pl := lpl hL.len
  have pr := lpl hA.len
  have ol := len_one hL.len
  have or_ := len_one hA.len
  refine kS ?_; refine kR ?_; refine OkO.box rfl rfl ?_; refine OkO.box rfl rfl ?_; refine OkO.alloc (z := [.nils, .int .i64 0, .int .i64 0, .int .i64 0, .int .i64 0, .int .i64 0]) rfl (by kernel_rfl) ?_; refine oA rfl rfl ?_; refine oN ?_; refine kS ?_; refine Ok.drawn [(0, true, []), (1, true, []), (2, true, []), (3, true, []), (4, true, []), (5, true, []), (6, true, []), (7, true, []), (8, true, []), (9, true, [8, 6, 3, 1]), (10, true, []), (11, true, []), (14, true, [11, 8, 6, 3, 1]), (12, false, [8, 6, 3, 1]), (13, true, []), (15, false, [])] (by kernel_rfl) ?_; refine pS ?_; refine oF (o := 0) rfl (by kernel_rfl) rfl ?_; refine oN ⟨rfl, ?_⟩; refine pS ?_; refine oL rfl rfl (qla7 1) ?_; refine oN ⟨rfl, ?_⟩; refine pS ?_; refine oF (o := 0) rfl (by kernel_rfl) rfl ?_; refine oN ⟨rfl, ?_⟩; refine pS ?_; refine oL rfl rfl (qla7 1) ?_; refine oN ⟨rfl, ?_⟩; refine pS ?_; refine OkO.build (z := [.int .i64 0, .int .i64 0]) (pl := [(0, 1), (1, 1)]) rfl (by kernel_rfl) rfl rfl ?_; refine oN ⟨rfl, ?_⟩; refine pS ?_; refine oF (o := 3) rfl (by kernel_rfl) rfl ?_; refine oN ⟨rfl, ?_⟩; refine pS ?_; refine oL rfl rfl (qlg8 2) ?_; refine oN ⟨rfl, ?_⟩; refine pS ?_; refine oF (o := 5) rfl (by kernel_rfl) rfl ?_; refine oN ⟨rfl, ?_⟩; refine pS ?_; refine oL rfl rfl (qla7 1) ?_; refine oN ⟨rfl, ?_⟩; refine pS ?_; refine OkO.buildSlice (el := 91) (sz := 7) (z := [.int .i64 0, .int .i64 0, .int .i64 0, .int .i64 0, .int .i64 0, .int .i64 0, .int .i64 0]) rfl (by kernel_rfl) (by decide) rfl rfl ?_
  refine oN ⟨(sco (qsa5 1 rfl rfl rfl) (sco (qsg6 2 rfl rfl rfl) (sco (qsa5 1 rfl rfl rfl) (sco (qsa5 1 rfl rfl rfl) rfl)))), ?_⟩; refine pS ?_; refine oF (o := 0) rfl (by kernel_rfl) rfl ?_; refine oN ⟨rfl, ?_⟩; refine pS ?_; refine oL rfl rfl (qla7 1) ?_; refine oN ⟨rfl, ?_⟩; refine pS ?_; refine OkO.alloc (z := [.nils, .int .i64 0, .int .i64 0, .int .i64 0, .int .i64 0, .int .i64 0]) rfl (by kernel_rfl) ?_
  refine oN ⟨(sco (qsa5 1 rfl rfl rfl) (sco (qsa5 1 rfl rfl rfl) (sco (qsg6 2 rfl rfl rfl) (sco (qsa5 1 rfl rfl rfl) (sco (qsa5 1 rfl rfl rfl) rfl))))), ?_⟩; refine pS ?_; refine OkO.builtinE rfl rfl rfl (app_lit4 (e := 91) (sz := 7) (by_ := 56) (rows := cs.map Cell.c) (N := W.next + 5) (by kernel_rfl) (by kernel_rfl) (hR.ext (hE _ (by (try dsimp only); repeat (first | exact hG | apply Grow.new | (refine Grow.put ?_ _ (by first | omega | (simp only [hNw, hPt]; omega))))))) (fun x hx => by simp only [List.mem_map] at hx; obtain ⟨y, _, rfl⟩ := hx; rfl) (by simp; omega) (by omega) (atoms_cells2 cs) (by simpa using (by omega : 0 < cs.length)) (by simp only [hNw])) ?_
  rintro v2 G2 ⟨rfl, f1, f2, f3, f4⟩
  have gG2 : Grow W G2 := f4 W (by (try dsimp only); repeat (first | exact hG | apply Grow.new | (refine Grow.put ?_ _ (by first | omega | (simp only [hNw, hPt]; omega)))))
  have y0 : G2.get W.next = some (.cells [cv, I g.slo, I g.shi, I g.klo, I g.khi, I g.melt] 26) := by rw [f3 _ (by omega)]; (simp (disch := first | omega | (simp only [hNw, hPt]; omega)) only [gN] <;> first | rfl | assumption)
  have y1 : G2.get (W.next + 1) = some (.cells [I t.snow, I t.soak, lv, rv] 30) := by rw [f3 _ (by omega)]; (simp (disch := first | omega | (simp only [hNw, hPt]; omega)) only [gN] <;> first | rfl | assumption)
  have y2 : G2.get (W.next + 2) = some (.cells [.nils, I 0, I 0, I 0, I 0, I 0] 26) := by rw [f3 _ (by omega)]; (simp (disch := first | omega | (simp only [hNw, hPt]; omega)) only [gN] <;> first | rfl | assumption)
  have y4 : G2.get (W.next + 4) = some (.cells [.nils, I 0, I 0, I 0, I 0, I 0] 26) := by rw [f3 _ (by omega)]; (simp (disch := first | omega | (simp only [hNw, hPt]; omega)) only [gN] <;> first | rfl | assumption)
  have w0 : (G2.get W.next).bind AObj.cs = some [cv, I g.slo, I g.shi, I g.klo, I g.khi, I g.melt] := by rw [y0]; rfl
  have w1 : (G2.get (W.next + 1)).bind AObj.cs = some [I t.snow, I t.soak, lv, rv] := by rw [y1]; rfl
  simp only [List.length_map]
  refine oN ⟨(sco (qsa5 1 rfl rfl rfl) (sco (qsg6 2 rfl rfl rfl) (sco (qsa5 1 rfl rfl rfl) (sco (qsa5 1 rfl rfl rfl) rfl)))), ?_⟩; refine pS ?_; refine OkO.build (z := [.nils, .int .i64 0, .int .i64 0, .int .i64 0, .int .i64 0, .int .i64 0]) (pl := [(0, 1), (1, 2), (3, 2), (5, 1)]) rfl (by kernel_rfl) rfl rfl ?_; refine oN ⟨rfl, ?_⟩; refine pS ?_; refine oT (b := W.next + 4) (off := 0) rfl rfl rfl (sAc (n := 6) (ag := true) (l := [.opn (W.next + 5) cs.length, I t.snow, I t.snow, I g.klo, I g.khi, I g.melt]) (by kernel_rfl) y4 rfl rfl rfl) ?_; refine oN ⟨rfl, ?_⟩; refine OkP.nil ?_; refine kS ?_; refine kS ?_; refine kR ?_; refine oA rfl rfl ?_; refine oN ?_; refine Ok.block ?_
  refine Ok.loop (fun n s => ∃ i : Nat, n = cs.length - i ∧ i ≤ cs.length ∧ Has 7 [(1, dv), (3, .ptr W.next 0), (5, .ptr (W.next + 1) 0), (6, .ptr (W.next + 2) 0), (7, .nils), (8, .ptr (W.next + 4) 0), (9, I (i : Int))] s.T ∧ s.D = [] ∧ Grow W s.H ∧ s.H.get (W.next + 1) = some (.cells [I t.snow, I t.soak, lv, rv] 30) ∧ s.H.get (W.next + 2) = some (.cells [.nils, I 0, I 0, I 0, I 0, I 0] 26) ∧ s.H.get (W.next + 4) = some (.cells [.opn (W.next + 5) cs.length, I t.snow, I t.snow, I g.klo, I g.khi, I g.melt] 26) ∧ s.H.get (W.next + 5) = some (.opn ((knP cs lvs i).map Cell.c).flatten 91 7) ∧ W.next + 6 ≤ s.H.next) (cs.length) (by unfold loopFuel; omega)
    ⟨0, rfl, Nat.zero_le _, Has.of (by kernel_rfl), rfl, gG2.put _ (by omega), by rw [gpo _ _ _ _ (by omega)]; exact y1, by rw [gpo _ _ _ _ (by omega)]; exact y2, gp0 _ _ _, by rw [gpo _ _ _ _ (by omega)]; exact f1, by simp only [hPt]; omega⟩ ?_
  rintro n ⟨T, D, G⟩ ⟨i, hn, hi, ⟨f, hT⟩, hD, hg, z1, z2, z4, hz5, hnx⟩
  dsimp only at *
  subst hT hD
  have hgn := hg.next
  have e1 : (G.get (W.next + 1)).bind AObj.cs = some [I t.snow, I t.soak, lv, rv] := by rw [z1]; rfl
  have e4 : (G.get (W.next + 4)).bind AObj.cs = some [.opn (W.next + 5) cs.length, I t.snow, I t.snow, I g.klo, I g.khi, I g.melt] := by rw [z4]; rfl
  refine kS ?_; refine kS ?_; refine kR ?_; refine oM rfl rfl ?_; refine oF (o := 0) rfl (by kernel_rfl) rfl ?_; refine oL rfl rfl (qla7 1) ?_; refine oB rfl rfl rfl qbl ?_; refine OkO.bin rfl rfl rfl (bin_lss _ _) ?_; refine oN ?_
  refine Ok.cond rfl (fun h1 => ?_) (fun h1 => ?_)
  · have hlt : i < cs.length := by simpa using h1
    have hll2 : i < lvs.length := by omega
    obtain ⟨xb, xo, xcs, x1, x2, x3, x4⟩ := (hL.ext (hE _ hg)).at_ i [I lvs[i]] (by simp [hll2])
    have x5 := seg_one x3
    have hsa : slAt (.opn (W.next + 5) cs.length) 7 i = some (W.next + 5, i * 7) := by (unfold slAt; dsimp only; rw [if_pos hlt])
    have spp := spl_lvl (knP cs lvs i) i lvs[i] (by rw [knP_len]; exact hlt)
    rw [show setL (knP cs lvs i) i lvs[i] = knP cs lvs (i + 1) by rw [knP]; simp [hll2]] at spp
    refine Ok.skip ?_; refine kS ?_; refine Ok.block ?_; refine Ok.drawn [(0, true, []), (1, true, []), (2, true, []), (3, true, []), (4, true, []), (5, true, []), (6, true, []), (7, true, []), (8, true, []), (9, true, []), (10, true, []), (11, true, []), (12, true, []), (13, true, []), (14, true, []), (15, true, []), (16, false, [])] (by kernel_rfl) ?_; refine pS ?_; refine oF (o := 0) rfl (by kernel_rfl) rfl ?_; refine oN ⟨rfl, ?_⟩; refine pS ?_; refine oL rfl rfl (qla7 1) ?_; refine oN ⟨rfl, ?_⟩; refine pS ?_; refine oM rfl rfl ?_; refine oN ⟨rfl, ?_⟩; refine pS ?_; refine oF (o := 2) rfl (by kernel_rfl) rfl ?_; refine oN ⟨rfl, ?_⟩; refine pS ?_; refine oL rfl rfl (qla7 1) ?_; refine oN ⟨rfl, ?_⟩; refine pS ?_; refine oM rfl rfl ?_; refine oN ⟨rfl, ?_⟩; refine pS ?_; refine qX (sz := 1) (n := i) rfl rfl rfl ?_; refine oN ⟨rfl, ?_⟩; refine pS ?_; refine oL rfl rfl (qla7 1) ?_; refine oN ⟨rfl, ?_⟩; refine pS ?_; refine oF (o := 2) rfl (by kernel_rfl) rfl ?_; refine oN ⟨rfl, ?_⟩; refine pS ?_; refine oL rfl rfl (qla7 1) ?_; refine oN ⟨rfl, ?_⟩; refine pS ?_; refine oM rfl rfl ?_; refine oN ⟨rfl, ?_⟩; refine pS ?_; refine qX (sz := 1) (n := i) rfl rfl rfl ?_; refine oN ⟨rfl, ?_⟩; refine pS ?_; refine oL rfl rfl (qla7 1) ?_; refine oN ⟨rfl, ?_⟩; refine pS ?_; refine OkO.build (z := [.int .i64 0, .int .i64 0]) (pl := [(0, 1), (1, 1)]) rfl (by kernel_rfl) rfl rfl ?_; refine oN ⟨rfl, ?_⟩; refine pS ?_; refine qX (sz := 7) (n := i) rfl rfl rfl ?_; refine oN ⟨rfl, ?_⟩; refine pS ?_; refine oF (o := 0) rfl (by kernel_rfl) rfl ?_; refine oN ⟨rfl, ?_⟩; refine pS ?_; refine oT (b := W.next + 5) (off := i * 7 + 0) rfl rfl rfl (storeAt_opn (n := 2) (ag := true) (e := 91) (sz := 7) (by kernel_rfl) hz5 rfl rfl spp) ?_; refine oN ⟨rfl, ?_⟩; refine OkP.nil ?_; refine kR ?_; refine oM rfl rfl ?_; refine OkO.bin rfl rfl rfl (bin_add (by omega) (by omega)) ?_; refine oA rfl rfl ?_; refine oN ?_
    exact ⟨cs.length - (i + 1), by omega, i + 1, rfl, hlt, Has.of (by kernel_rfl), rfl, hg.put _ (by omega), by rw [gpo _ _ _ _ (by omega)]; exact z1, by rw [gpo _ _ _ _ (by omega)]; exact z2, by rw [gpo _ _ _ _ (by omega)]; exact z4, gp0 _ _ _, by simp only [hPt]; omega⟩
  · have hge : i = cs.length := by simp at h1; omega
    subst hge
    refine Ok.exit ?_; refine kS ?_; refine kR ?_; refine oA rfl rfl ?_; refine oN ?_; refine kS ?_; refine kS ?_; refine kR ?_; refine oA rfl rfl ?_; refine oN ?_; refine Ok.block ?_
    refine Ok.loop (fun n s => ∃ (i : Nat) (v3 : AV), n = ds.length - i ∧ i ≤ ds.length ∧ Mine (W.next + 6) s.H v3 118 3 ((knD ds rain i).map Day.c).flatten ∧ Has 7 [(1, dv), (5, .ptr (W.next + 1) 0), (6, .ptr (W.next + 2) 0), (8, .ptr (W.next + 4) 0), (10, v3), (11, I (i : Int))] s.T ∧ s.D = [] ∧ Grow W s.H ∧ s.H.get (W.next + 1) = some (.cells [I t.snow, I t.soak, lv, rv] 30) ∧ s.H.get (W.next + 2) = some (.cells [.nils, I 0, I 0, I 0, I 0, I 0] 26) ∧ s.H.get (W.next + 4) = some (.cells [.opn (W.next + 5) cs.length, I t.snow, I t.snow, I g.klo, I g.khi, I g.melt] 26) ∧ s.H.get (W.next + 5) = some (.opn ((knP cs lvs cs.length).map Cell.c).flatten 91 7) ∧ W.next + 6 ≤ s.H.next) (ds.length) (by unfold loopFuel; omega)
      ⟨0, .nils, rfl, Nat.zero_le _, Mine.nil _ _ _ _, Has.of (by kernel_rfl), rfl, hg, z1, z2, z4, hz5, hnx⟩ ?_
    rintro n ⟨T, D, G⟩ ⟨i, v3, hn, hi, hm, ⟨f, hT⟩, hD, hg, z1, z2, z4, hz5, hnx⟩
    dsimp only at *
    subst hT hD
    have hgn := hg.next
    have e1 : (G.get (W.next + 1)).bind AObj.cs = some [I t.snow, I t.soak, lv, rv] := by rw [z1]; rfl
    have e4 : (G.get (W.next + 4)).bind AObj.cs = some [.opn (W.next + 5) cs.length, I t.snow, I t.snow, I g.klo, I g.khi, I g.melt] := by rw [z4]; rfl
    refine kS ?_; refine kS ?_; refine kR ?_; refine oM rfl rfl ?_; refine oM rfl rfl ?_; refine oB rfl rfl rfl qbl ?_; refine OkO.bin rfl rfl rfl (bin_lss _ _) ?_; refine oN ?_
    refine Ok.cond rfl (fun h2 => ?_) (fun h2 => ?_)
    · have hlt : i < ds.length := by simpa using h2
      have hlr2 : i < rain.length := by omega
      obtain ⟨xb, xo, xcs, x1, x2w, x3, x4⟩ := (hA.ext (hE W hG)).at_ i [I rain[i]] (by simp [hlr2])
      have x5 := seg_one x3
      have x2 : (G.get xb).bind AObj.cs = some xcs := by rw [hg.get _ x4]; exact x2w
      obtain ⟨bb, off, ccs, i1, i2w, i3, i4⟩ := (hY.ext (hE W hG)).at_ i ds[i].c (by simp [hlt])
      have i2 : (G.get bb).bind AObj.cs = some ccs := by rw [hg.get _ i4]; exact i2w
      have i6 : ccs[off + 2]? = some (I ds[i].warm) := seg_get i3 2 (by omega)
      have hml : ((knD ds rain i).map Day.c).flatten.length = i * 3 := by rw [flat_len _ 3 (fun x hx => by simp only [List.mem_map] at hx; obtain ⟨y, _, rfl⟩ := hx; rfl)]; simp [knD]
      refine Ok.skip ?_; refine kS ?_; refine Ok.block ?_; refine Ok.drawn [(0, true, []), (1, true, []), (2, true, []), (3, true, []), (4, true, []), (5, true, []), (6, true, []), (7, true, []), (8, true, []), (9, true, []), (10, true, []), (11, true, []), (12, true, []), (13, true, []), (14, true, []), (15, true, []), (16, true, []), (17, true, []), (18, true, [16, 10, 7, 5, 2]), (19, false, [16, 10, 7, 5, 2]), (20, false, [])] (by kernel_rfl) ?_; refine pS ?_; refine oM rfl rfl ?_; refine oN ⟨rfl, ?_⟩; refine pS ?_; refine oF (o := 3) rfl (by kernel_rfl) rfl ?_; refine oN ⟨rfl, ?_⟩; refine pS ?_; refine oL rfl rfl (qla7 1) ?_; refine oN ⟨rfl, ?_⟩; refine pS ?_; refine oM rfl rfl ?_; refine oN ⟨rfl, ?_⟩; refine pS ?_; refine qX (sz := 1) (n := i) rfl rfl rfl ?_; refine oN ⟨rfl, ?_⟩; refine pS ?_; refine oL rfl rfl (qla7 1) ?_; refine oN ⟨rfl, ?_⟩; refine pS ?_; refine oF (o := 3) rfl (by kernel_rfl) rfl ?_; refine oN ⟨rfl, ?_⟩; refine pS ?_; refine oL rfl rfl (qla7 1) ?_; refine oN ⟨rfl, ?_⟩; refine pS ?_; refine oM rfl rfl ?_; refine oN ⟨rfl, ?_⟩; refine pS ?_; refine qX (sz := 1) (n := i) rfl rfl rfl ?_; refine oN ⟨rfl, ?_⟩; refine pS ?_; refine oL rfl rfl (qla7 1) ?_; refine oN ⟨rfl, ?_⟩; refine pS ?_; refine OkO.build (z := [.int .i64 0, .int .i64 0]) (pl := [(0, 1), (1, 1)]) rfl (by kernel_rfl) rfl rfl ?_; refine oN ⟨rfl, ?_⟩; refine pS ?_; refine oM rfl rfl ?_; refine oN ⟨rfl, ?_⟩; refine pS ?_; refine oM rfl rfl ?_; refine oN ⟨rfl, ?_⟩; refine pS ?_; refine qX (sz := 3) (n := i) rfl rfl rfl ?_; refine oN ⟨rfl, ?_⟩; refine pS ?_; refine oF (o := 2) rfl (by kernel_rfl) rfl ?_; refine oN ⟨rfl, ?_⟩; refine pS ?_; refine oL rfl rfl (qla7 1) ?_; refine oN ⟨rfl, ?_⟩; refine pS ?_; refine OkO.build (z := [.int .i64 0, .int .i64 0, .int .i64 0]) (pl := [(0, 2), (2, 1)]) rfl (by kernel_rfl) rfl rfl ?_; refine oN ⟨rfl, ?_⟩; refine pS ?_; refine OkO.buildSlice (el := 118) (sz := 3) (z := [.int .i64 0, .int .i64 0, .int .i64 0]) rfl (by kernel_rfl) (by decide) rfl rfl ?_
      refine oN ⟨(sco (qsa5 1 rfl rfl rfl) (sco (qsa5 1 rfl rfl rfl) (sco (qsa5 1 rfl rfl rfl) (sco (qsa5 1 rfl rfl rfl) (sco (qsa5 1 rfl rfl rfl) rfl))))), ?_⟩; refine pS ?_; refine OkO.builtinE rfl rfl rfl (Mine.app2 (k0 := W.next + 6) (sz := 3) (by_ := 24) (e := 118) (n := 1) (new := [I rain[i], I rain[i], I ds[i].warm]) (hm.to (by (try dsimp only); repeat (first | exact Ext.refl _ | assumption | apply Ext.new | (refine Ext.put ?_ _ (by first | omega | (simp only [hNw, hPt]; omega)))))) (by (try dsimp only); repeat (first | (first | exact hg | exact hG) | apply Grow.new | (refine Grow.put ?_ _ (by first | omega | (simp only [hNw, hPt]; omega))))) (by omega) (by first | omega | (simp only [hNw, hPt]; omega)) (by kernel_rfl) (by kernel_rfl) (elems_new (n := 1) (sz := 3) rfl) rfl rfl (by rw [hml]; omega) (by omega) (by omega) rfl) ?_
      rintro v2 G2 ⟨q1, q2, q3, q4, q5, q6⟩
      have kk := fun j (hj : j < W.next + 6) => q4 j (by first | omega | (simp only [hNw]; omega)) (fun m hm2 => by have := hm.far hj m; exact absurd hm2 this)
      have gn : ∀ j, j < W.next + 6 → G2.get j = G.get j := fun j hj => by rw [kk j hj]; exact gno _ _ _ (by omega)
      have e1G : (G2.get (W.next + 1)).bind AObj.cs = some [I t.snow, I t.soak, lv, rv] := by rw [gn _ (by omega)]; exact e1
      have x2G : (G2.get xb).bind AObj.cs = some xcs := by rw [q2.get _ x4]; exact x2w
      have i2G : (G2.get bb).bind AObj.cs = some ccs := by rw [q2.get _ i4]; exact i2w
      refine oN ⟨(sco (qsa5 1 rfl rfl rfl) (sco (qsa5 1 rfl rfl rfl) (sco (qsa5 1 rfl rfl rfl) (sco (qsa5 1 rfl rfl rfl) (sco (qsa5 1 rfl rfl rfl) rfl))))), ?_⟩; refine pS ?_; refine oA rfl rfl ?_; refine oN ⟨rfl, ?_⟩; refine OkP.nil ?_; refine kR ?_; refine oM rfl rfl ?_; refine OkO.bin rfl rfl rfl (bin_add (by omega) (by omega)) ?_; refine oA rfl rfl ?_; refine oN ?_
      refine ⟨ds.length - (i + 1), by omega, i + 1, v2, rfl, hlt, ?_, Has.of (by kernel_rfl), rfl, q2, by rw [gn _ (by omega)]; exact z1, by rw [gn _ (by omega)]; exact z2, by rw [gn _ (by omega)]; exact z4, by rw [gn _ (by omega)]; exact hz5, (show W.next + 6 ≤ G2.next by simp only [hNw] at q5; omega)⟩
      have e9 : ((knD ds rain (i + 1)).map Day.c).flatten = ((knD ds rain i).map Day.c).flatten ++ [I rain[i], I rain[i], I ds[i].warm] := by rw [knD_succ, List.map_append, List.flatten_append]; simp [Day.c, hlr2, hlt]
      rw [e9]; exact q1
    · have hge : i = ds.length := by simp at h2; omega
      subst hge
      refine Ok.exit ?_; refine kS ?_; refine kR ?_; refine oL rfl rfl (qlg8 6) ?_; refine oM rfl rfl ?_; refine oT (b := W.next + 2) (off := 0) rfl rfl rfl (sAc (n := 6) (ag := true) (l := [.opn (W.next + 5) cs.length, I t.snow, I t.snow, I g.klo, I g.khi, I g.melt]) (by kernel_rfl) z2 rfl rfl rfl) ?_; refine oA rfl rfl ?_; refine oN ?_
      refine Ok.ret ⟨.inr rfl, ?_⟩
      obtain ⟨a1, a2⟩ := hm.one
      have hm1 : Mine W.next (G.put (W.next + 2) (.cells [.opn (W.next + 5) cs.length, I t.snow, I t.snow, I g.klo, I g.khi, I g.melt] 26)) (.opn (W.next + 5) cs.length) 91 7 ((knP cs lvs cs.length).map Cell.c).flatten := .inr ⟨W.next + 5, cs.length, rfl, by rw [gpo _ _ _ _ (by omega)]; exact hz5, by rw [flat_len _ 7 (fun x hx => by simp only [List.mem_map] at hx; obtain ⟨y, _, rfl⟩ := hx; rfl)]; simp [knP_len], by omega, by simp only [hPt]; omega⟩
      have hm2 := (hm.put (n := W.next + 2) (.cells [.opn (W.next + 5) cs.length, I t.snow, I t.snow, I g.klo, I g.khi, I g.melt] 26) (by omega)).low (show W.next ≤ W.next + 6 by omega)
      refine back_newA (resV_cell (b := W.next + 2) (off := 0) rfl (ldg (n := 6) (by kernel_rfl) (by first | exact congrArg (fun z => z.bind AObj.cs) (gp0 _ _ _) | (rw [gp0]; rfl)) rfl) (resV_tmp rfl resV_nil)) rfl (by rw [← hW]; exact hg.put _ (by omega)) (fun H2 r2 r3 => ⟨.opn (W.next + 5) cs.length, v3, rfl, r2, ?_, ?_, rfl, a2⟩)
      · exact (Mine.back (H := H) hm1 (fun x hx => by simp only [List.mem_map] at hx; obtain ⟨y, _, rfl⟩ := hx; rfl) (by omega) (r3.imp (fun h => ⟨h.1, flatA (flatU1 h.2)⟩) id)).1
      · exact (Mine.back (H := H) hm2 (fun x hx => by simp only [List.mem_map] at hx; obtain ⟨y, _, rfl⟩ := hx; rfl) (by omega) (r3.imp (fun h => ⟨h.1, flatU2 h.2⟩) id)).1
end
end Go.Ev

set_option maxRecDepth 100000
set_option linter.unusedSimpArgs false
set_option linter.unusedVariables false
namespace Go.Ev
open Go Go.Proofs
noncomputable section
def knC (cs : List Cell) (lvs : List Int) (j : Nat) : Cell := { cs.getD j default with lo := lvs.getD j 0, hi := lvs.getD j 0 }
theorem knP_get (cs : List Cell) (lvs : List Int) : ∀ (i j : Nat), j < cs.length → (knP cs lvs i)[j]? = some (if j < i then knC cs lvs j else cs.getD j default)
  | 0, j, h => by simp [knP, h]
  | i + 1, j, h => by
    rw [knP]
    unfold setL
    have ih := knP_get cs lvs i
    by_cases e : i = j
    · subst e
      have hl : i < (knP cs lvs i).length := by rw [knP_len]; exact h
      rw [List.getElem?_set_self hl, if_pos (by omega)]
      have h2 := ih i h
      rw [if_neg (by omega)] at h2
      rw [List.getD_eq_getElem?_getD, h2]
      rfl
    · rw [List.getElem?_set_ne e, ih j h]
      by_cases q : j < i
      · rw [if_pos q, if_pos (by omega)]
      · rw [if_neg q, if_neg (by omega)]
theorem knP_eq (cs : List Cell) (lvs : List Int) : knP cs lvs cs.length = (List.range cs.length).map (knC cs lvs) := by
  apply List.ext_getElem?
  intro j
  rcases Nat.lt_or_ge j cs.length with h | h
  · rw [knP_get cs lvs _ j h, if_pos h, List.getElem?_map, List.getElem?_range h]; rfl
  · rw [List.getElem?_eq_none (by rw [knP_len]; exact h), List.getElem?_eq_none (by simpa using h)]
abbrev knG (g : Gr) (t : Tru) : Gr := ⟨t.snow, t.snow, g.klo, g.khi, g.melt⟩
section
variable {cs : List Cell} {g : Gr} {ds : List Day} {t : Tru} {lvs rain : List Int}
theorem kn_lowL (h : lvs.length = cs.length) : lowL (knP cs lvs cs.length) = lvs := by
  unfold lowL
  rw [knP_eq, List.map_map]
  apply List.ext_getElem?
  intro j
  rcases Nat.lt_or_ge j cs.length with q | q
  · rw [List.getElem?_map, List.getElem?_range q]
    simp [knC, show j < lvs.length by omega]
  · rw [List.getElem?_eq_none (by simpa using q), List.getElem?_eq_none (by omega)]
theorem kn_lowR (h : rain.length = ds.length) : lowR (knD ds rain ds.length) = rain := by
  unfold lowR knD
  rw [List.map_map]
  apply List.ext_getElem?
  intro j
  rcases Nat.lt_or_ge j ds.length with q | q
  · rw [List.getElem?_map, List.getElem?_range q]
    simp [show j < rain.length by omega]
  · rw [List.getElem?_eq_none (by simpa using q), List.getElem?_eq_none (by omega)]
theorem kn_len : (knP cs lvs cs.length).length = cs.length := knP_len _ _ _
theorem kn_dlen : (knD ds rain ds.length).length = ds.length := by simp [knD]
theorem kn_known : knownB (knP cs lvs cs.length) (knG g t) (knD ds rain ds.length) = true := by
  unfold knownB
  rw [knP_eq]
  simp [knC, knD]
theorem kn_days (hte : truthErr cs g ds t lvs rain = 0) : daysErr (knP cs lvs cs.length) (knG g t) (knD ds rain ds.length) = 0 := by
  have hF := fit_of hte
  have hd0 : daysErr cs g ds = 0 := by
    unfold truthErr at hte
    split at hte
    · assumption
    · rename_i h; exact absurd hte h
  have hgf := gf_of hd0
  have hk := hgf.soak
  have hn8 := hF.n8
  have hd30 := hF.d30
  have hsn := hF.snow
  have hml := hF.melt
  have hg : gOk (knP cs lvs cs.length) (knG g t) = true := by
    unfold gOk
    rw [kn_len]
    have a1 : inB (cs.length : Int) 1 8 = true := by simp [inB]; omega
    have a2 : ((knP cs lvs cs.length).all fun x => x.ok) = true := by
      rw [knP_eq, List.all_map, List.all_eq_true]
      intro j hj
      have hj := List.mem_range.1 hj
      have hx := hF.lim cs[j] (List.getElem_mem hj)
      have hl := hF.ll
      have hjl : j < lvs.length := by omega
      have hb := hF.lb j cs[j] lvs[j] (List.getElem?_eq_getElem hj) (List.getElem?_eq_getElem hjl)
      unfold Cell.lim at hx
      have e1 : cs.getD j default = cs[j] := by simp [hj]
      have e2 : lvs.getD j 0 = lvs[j] := by simp [hjl]
      show (knC cs lvs j).ok = true
      unfold knC Cell.ok
      dsimp only
      rw [e1, e2]
      simp only [inB, okR, Bool.and_eq_true, decide_eq_true_eq]
      omega
    have a3 : toOk (cs.length : Int) 0 (knP cs lvs cs.length) = true := by
      rw [toOk_iff]
      intro i c hi
      rw [knP_eq, List.getElem?_map, Option.map_eq_some_iff] at hi
      obtain ⟨j, hj, rfl⟩ := hi
      rw [List.getElem?_eq_some_iff] at hj
      obtain ⟨hj, rfl⟩ := hj
      simp at hj ⊢
      have := (toOk_iff _ _ _).1 hF.to_ i cs[i] (List.getElem?_eq_getElem hj)
      have e1 : cs.getD i default = cs[i] := by simp [hj]
      unfold knC
      dsimp only
      rw [e1]
      simpa using this
    have a4 : okR (knG g t).slo (knG g t).shi 100000 = true := by simp [okR]; omega
    have a5 : okR (knG g t).klo (knG g t).khi 1000 = true := by simp [okR]; omega
    have a6 : inB (knG g t).melt 0 50 = true := by simp [inB]; omega
    rw [a1, a2, a3, a4, a5, a6]
    rfl
  have hd : ((knD ds rain ds.length).all fun x => x.ok) = true := by
    unfold knD
    rw [List.all_map, List.all_eq_true]
    intro j hj
    have hj := List.mem_range.1 hj
    have hrl := hF.rl
    have hx := hF.dlim ds[j] (List.getElem_mem hj)
    have hjr : j < rain.length := by omega
    have hb := hF.rb rain[j] (List.getElem_mem hjr)
    unfold Day.lim at hx
    have e1 : ds.getD j default = ds[j] := by simp [hj]
    have e2 : rain.getD j 0 = rain[j] := by simp [hjr]
    show Day.ok _ = true
    unfold Day.ok
    dsimp only
    rw [e1, e2]
    simp only [inB, okR, Bool.and_eq_true, decide_eq_true_eq]
    omega
  unfold daysErr
  rw [if_pos hg, kn_dlen, if_neg (by omega), if_pos hd]
theorem kn_truth (hte : truthErr cs g ds t lvs rain = 0) {s : Int} (hs : g.klo ≤ s ∧ s ≤ g.khi) : truthErr (knP cs lvs cs.length) (knG g t) (knD ds rain ds.length) ⟨t.snow, s⟩ lvs rain = 0 := by
  have hF := fit_of hte
  have hll := hF.ll
  have hrl := hF.rl
  refine any_ok (kn_days hte) ⟨Int.le_refl _, Int.le_refl _⟩ hs (by rw [kn_len]; exact hll) (by rw [kn_dlen]; exact hrl) (fun i x n a1 a2 => ?_) (fun i x n a1 a2 => ?_)
  · rw [knP_eq, List.getElem?_map, Option.map_eq_some_iff] at a1
    obtain ⟨j, hj, rfl⟩ := a1
    rw [List.getElem?_eq_some_iff] at hj
    obtain ⟨hj, rfl⟩ := hj
    simp at hj ⊢
    simp [knC, a2]
  · unfold knD at a1
    rw [List.getElem?_map, Option.map_eq_some_iff] at a1
    obtain ⟨j, hj, rfl⟩ := a1
    rw [List.getElem?_eq_some_iff] at hj
    obtain ⟨hj, rfl⟩ := hj
    simp at hj ⊢
    simp [a2]
end
end
end Go.Ev

set_option maxRecDepth 100000
set_option linter.unusedSimpArgs false
set_option linter.unusedVariables false
namespace Go.Ev
open Go Go.Proofs
noncomputable section
/-- A reading by a word: the level that a run gave, between two bounds. -/
def rdOf (kc : List Cell) (kg : Gr) (kd : List Day) (s : Int) (n nd : Nat) (w : Int) : Rd :=
  ⟨w % (n : Int), w / 8 % (nd : Int), max 0 (lvS kc kg kd s (w / 8 % (nd : Int)) (w % (n : Int)) - w / 256 % 4), min 100000 (lvS kc kg kd s (w / 8 % (nd : Int)) (w % (n : Int)) + w / 1024 % 4)⟩
theorem lvS_bd {kc : List Cell} {kg : Gr} {kd : List Day} {s : Int} (hF : Fit kc kg kd ⟨kg.slo, s⟩ (lowL kc) (lowR kd)) {d c : Int} (hd : 0 ≤ d ∧ d < kd.length) : 0 ≤ lvS kc kg kd s d c ∧ lvS kc kg kd s d c ≤ 100000 :=
  (lev_facts hF (d.toNat + 1) (by omega)).2.getD (by omega) _
theorem rdOf_ok {kc : List Cell} {kg : Gr} {kd : List Day} {s : Int} {n nd : Nat} {w : Int} (hF : Fit kc kg kd ⟨kg.slo, s⟩ (lowL kc) (lowR kd)) (hn : n = kc.length) (hnd : nd = kd.length) (h1 : 0 < n) (h2 : 0 < nd) (hw : 0 ≤ w) : (rdOf kc kg kd s n nd w).ok kc kd = true ∧ inB (lvS kc kg kd s (rdOf kc kg kd s n nd w).day (rdOf kc kg kd s n nd w).cell) (rdOf kc kg kd s n nd w).lo (rdOf kc kg kd s n nd w).hi = true := by
  have c1 := Int.emod_nonneg w (b := (n : Int)) (by omega)
  have c2 := Int.emod_lt_of_pos w (b := (n : Int)) (by omega)
  have d1 := Int.emod_nonneg (w / 8) (b := (nd : Int)) (by omega)
  have d2 := Int.emod_lt_of_pos (w / 8) (b := (nd : Int)) (by omega)
  have hb := lvS_bd hF (d := w / 8 % (nd : Int)) (c := w % (n : Int)) (by omega)
  unfold rdOf
  generalize lvS kc kg kd s (w / 8 % (nd : Int)) (w % (n : Int)) = L at *
  generalize w / 8 % (nd : Int) = d at *
  generalize w % (n : Int) = c at *
  constructor
  · unfold Rd.ok
    simp only [inB, okR, Bool.and_eq_true, decide_eq_true_eq]
    omega
  · simp only [inB, Bool.and_eq_true, decide_eq_true_eq]
    omega
theorem rds_ok {kc : List Cell} {kg : Gr} {kd : List Day} {s : Int} {n nd : Nat} {ws : List Int} (hF : Fit kc kg kd ⟨kg.slo, s⟩ (lowL kc) (lowR kd)) (hn : n = kc.length) (hnd : nd = kd.length) (h1 : 0 < n) (h2 : 0 < nd) (hw : Upto 65535 ws) : (∀ x ∈ ws.map (rdOf kc kg kd s n nd), x.ok kc kd = true) ∧ agreesB kc kg kd (ws.map (rdOf kc kg kd s n nd)) s = true := by
  constructor
  · intro x hx
    obtain ⟨w, hw1, rfl⟩ := List.mem_map.1 hx
    exact (rdOf_ok hF hn hnd h1 h2 (hw w hw1).1).1
  · unfold agreesB
    rw [List.all_eq_true]
    intro x hx
    obtain ⟨w, hw1, rfl⟩ := List.mem_map.1 hx
    exact (rdOf_ok hF hn hnd h1 h2 (hw w hw1).1).2
theorem read_okI {kc : List Cell} {kg : Gr} {kd : List Day} {rs : List Rd} (h0 : daysErr kc kg kd = 0) (hk : knownB kc kg kd = true) (hl : rs.length ≤ 30) (hr : ∀ x ∈ rs, x.ok kc kd = true) : readErr kc kg kd rs = 0 := by
  unfold readErr learnErr
  rw [if_pos h0, if_neg (by omega), if_pos (by rw [List.all_eq_true]; exact hr), if_pos hk]
theorem agrees_drop {kc : List Cell} {kg : Gr} {kd : List Day} {rs : List Rd} {s : Int} (h : agreesB kc kg kd rs s = true) : agreesB kc kg kd (rs.drop 1) s = true := by
  unfold agreesB at *
  rw [List.all_eq_true] at *
  exact fun x hx => h x (List.mem_of_mem_drop hx)
theorem same_rows {kc : List Cell} {kg : Gr} {kd : List Day} {t t' : Tru} {lvs rain lvs' rain' : List Int} (hF : Fit kc kg kd t lvs rain) (hF' : Fit kc kg kd t' lvs' rain') : Same (rowsR kc kg kd t lvs rain kd.length) (rowsR kc kg kd t' lvs' rain' kd.length) := by
  refine ⟨by simp [rowsR], fun i x y hx hy => ?_⟩
  rw [rowsR, List.getElem?_map, Option.map_eq_some_iff] at hx hy
  obtain ⟨i1, a1, rfl⟩ := hx
  obtain ⟨i2, a2, rfl⟩ := hy
  rw [List.getElem?_eq_some_iff] at a1 a2
  obtain ⟨a1, rfl⟩ := a1
  obtain ⟨a2, rfl⟩ := a2
  simp at a1 a2 ⊢
  rw [(lev_facts hF (i + 1) (by omega)).1, (lev_facts hF' (i + 1) (by omega)).1]
theorem slice_cut {H : Heap} {v : AV} {sz k : Nat} {l : List (List AV)} (hc : Cut H v sz) (hr : Row H v sz l) (hk : k ≤ l.length) (hz : 0 < sz) : ∃ v', (∀ X, Ext H X → sliceOf X sz v (some (.int .i64 (k : Int))) none = some v') ∧ ∀ H0, Row H0 v sz l → Row H0 v' sz (l.drop k) := by
  obtain ⟨v', h1, h2⟩ := sliceOf_cut (kk := .i64) hc hr hk hz
  refine ⟨v', fun X hx => ?_, h2⟩
  rcases hc with ⟨b, off, len, cap, rfl, _⟩ | ⟨b, len, cs, e, rfl, _, _, h4⟩ | rfl
  · exact h1
  · unfold sliceOf at h1 ⊢
    dsimp only at h1 ⊢
    rw [hx.get b h4]
    exact h1
  · exact h1
theorem evSlice_from {P : Program} {T : Tr AV} {H : Heap} {ty : TypeId} {x lo : Operand} {u v' : AV} {sz k : Nat} (ht : elemSz P ty = some sz) (hx : opd T x = some u) (hlo : opd T lo = some (.int .i64 (k : Int)))
    (hs : sliceOf H sz u (some (.int .i64 (k : Int))) none = some v') : evSlice P T H ty x (some lo) none = some (.val v' H) := by
  unfold elemSz at ht
  unfold evSlice
  rw [hx]
  simp only [optd, hlo, Option.map_some]
  split at ht
  · rename_i e1; rw [e1]
    simp only [Option.map_eq_some_iff] at ht
    obtain ⟨ei, e2, e3⟩ := ht
    dsimp only
    rw [e2]
    dsimp only
    rw [e3, hs]
    rfl
  · cases ht
theorem still_sliceF {P : Program} {ops : Array Oper} {d : Tmp} {t : TypeId} {ps : String} {e : Array Edge} {g : Option (Nat × Bool)} {T : Tr AV} {H : Heap} {ty : TypeId} {x lo : Operand} {u v' : AV} {sz k : Nat} (hg : wantedA ops g T = some true) (ht : elemSz P ty = some sz) (hx : opd T x = some u) (hlo : opd T lo = some (.int .i64 (k : Int)))
    (hs : sliceOf H sz u (some (.int .i64 (k : Int))) none = some v') (hd : T.get d = some v') (he : AV.eqv v' v' = true) : still P ops T H ⟨some d, .slice ty x (some lo) none none, t, ps, e, g⟩ = true :=
  svl hg (evSlice_from ht hx hlo hs : evSlice P T H ty x (some lo) none = some (.val v' H)) hd he
theorem bin_eqlB (p q : Bool) : binT Try.prog .eql 4 (.bool p) (.bool q) = some (.bool (p == q)) := by
  cases p <;> cases q <;> kernel_rfl
end
end Go.Ev

set_option maxRecDepth 100000
set_option linter.unusedSimpArgs false
set_option linter.unusedVariables false
namespace Go.EvN
open Go Go.Proofs Go.Ev
noncomputable section
theorem OkO.sliceF {P : Program} {rec : Rec} {ops : Array Oper} {d : Option Tmp} {t : TypeId} {ps : String} {e : Array Edge} {g : Option (Nat × Bool)} {l : List Oper} {T : Tr AV} {H : Heap} {K : Tr AV → Heap → Prop} {ty : TypeId} {x lo : Operand} {u v' : AV} {sz k : Nat} (hg : wantedA ops g T = some true) (ht : elemSz P ty = some sz) (hx : opd T x = some u) (hlo : opd T lo = some (.int .i64 (k : Int)))
    (hs : sliceOf H sz u (some (.int .i64 (k : Int))) none = some v') (h : OkO P rec ops l (putD T d v') H K) : OkO P rec ops (⟨d, .slice ty x (some lo) none none, t, ps, e, g⟩ :: l) T H K :=
  OkO.val hg (evSlice_from ht hx hlo hs : evSlice P T H ty x (some lo) none = some (.val v' H)) h
theorem c13W (m : Nat) (cv dv wv uv : AV) (cs : List Cell) (g : Gr) (ds : List Day) (ws us : List Int) (w : Int) (H : Heap) (hR : Row H cv 7 (cs.map Cell.c)) (hY : Row H dv 3 (ds.map Day.c)) (hWs : Row H wv 1 (ws.map fun w => [U w])) (hws : Upto 65535 ws) (hW3 : Row H uv 1 (us.map fun w => [U w])) (hus : Upto 65535 us) (hw : 0 ≤ w ∧ w ≤ 65535) (hno : ¬(readyB cs g ds = true ∧ ds.length ≠ 0 ∧ us.length ≤ 30)) : FnN Try.prog (RR (m + 41)) 13 [.agg [cv, I g.slo, I g.shi, I g.klo, I g.khi, I g.melt], dv, wv, uv, U w] H fun v H' => v = .bool true := by
  refine fn_okE Try.func13 rfl rfl (by kernel_rfl) (by kernel_rfl) ?_
  obtain ⟨W, hW, hg, hN, hE, hG⟩ := wOf H
  rw [← hW]
  have hlc : lenOf cv = some cs.length := by simpa using hR.len
  have pc := lpl hlc
  have hld : lenOf dv = some ds.length := by simpa using hY.len
  have pd := lpl hld
  have hlw : lenOf wv = some ws.length := by simpa using hWs.len
  have hlu : lenOf uv = some us.length := by simpa using hW3.len
  refine kS ?_; refine kR ?_; refine OkO.box rfl rfl ?_; refine oA rfl rfl ?_; refine oN ?_; refine kS ?_; refine kS ?_; refine kR ?_; refine oL rfl rfl (qlg8 6) ?_; refine oM rfl rfl ?_; refine oV rfl rfl rfl rfl rfl (c43 (m + 36) cv dv cs g ds _ (hR.ext (hE _ (by (try dsimp only); repeat (first | exact hG | apply Grow.new | (refine Grow.put ?_ _ (by first | omega | (simp only [hNw, hPt]; omega))))))) (hY.ext (hE _ (by (try dsimp only); repeat (first | exact hG | apply Grow.new | (refine Grow.put ?_ _ (by first | omega | (simp only [hNw, hPt]; omega)))))))) ?_; refine OkO.un rfl rfl rfl ?_; refine oM rfl rfl ?_
  refine OkO.split (d := 39) rfl (fun g1 => ?_) (fun g1 => ?_)
  · refine oK rfl ?_
    refine oK rfl ?_; refine oK rfl ?_; refine OkO.pick (b := true) rfl rfl (fun _ => rfl) nofun ?_; refine oM rfl rfl ?_; refine oK rfl ?_; refine oK rfl ?_; refine oK rfl ?_; refine OkO.pick (b := true) rfl rfl (fun _ => rfl) nofun ?_; refine oN ?_; refine Ok.condT rfl ?_; refine kS ?_; refine kR ?_; refine oV rfl rfl rfl rfl rfl (rfl) ?_; refine oA rfl rfl ?_; refine oN ?_
    refine Ok.ret ⟨.inr rfl, ?_⟩
    exact ⟨_, _, back_flat rfl rfl rfl (by rw [← hW]; exact (by (try dsimp only); repeat (first | exact hG | apply Grow.new | (refine Grow.put ?_ _ (by first | omega | (simp only [hNw, hPt]; omega)))))), rfl⟩
  · refine oM rfl rfl ?_
    refine oB rfl rfl rfl qbl ?_; refine OkO.bin rfl rfl rfl (bin_eql _ _) ?_; refine OkO.pick (b := false) rfl rfl nofun (fun _ => rfl) ?_; refine oM rfl rfl ?_
    refine OkO.split (d := 44) rfl (fun g2 => ?_) (fun g2 => ?_)
    · refine oK rfl ?_
      refine oK rfl ?_; refine oK rfl ?_; refine OkO.pick (b := true) rfl rfl (fun _ => rfl) nofun ?_; refine oN ?_; refine Ok.condT rfl ?_; refine kS ?_; refine kR ?_; refine oV rfl rfl rfl rfl rfl (rfl) ?_; refine oA rfl rfl ?_; refine oN ?_
      refine Ok.ret ⟨.inr rfl, ?_⟩
      exact ⟨_, _, back_flat rfl rfl rfl (by rw [← hW]; exact (by (try dsimp only); repeat (first | exact hG | apply Grow.new | (refine Grow.put ?_ _ (by first | omega | (simp only [hNw, hPt]; omega)))))), rfl⟩
    · refine oM rfl rfl ?_
      refine oB rfl rfl rfl qbl ?_; refine OkO.bin rfl rfl rfl (bin_gtr _ _) ?_; refine OkO.pick (b := false) rfl rfl nofun (fun _ => rfl) ?_; refine oN ?_
      refine Ok.cond rfl (fun h3 => ?_) (fun h3 => ?_)
      · refine kS ?_
        refine kR ?_; refine oV rfl rfl rfl rfl rfl (rfl) ?_; refine oA rfl rfl ?_; refine oN ?_
        refine Ok.ret ⟨.inr rfl, ?_⟩
        exact ⟨_, _, back_flat rfl rfl rfl (by rw [← hW]; exact (by (try dsimp only); repeat (first | exact hG | apply Grow.new | (refine Grow.put ?_ _ (by first | omega | (simp only [hNw, hPt]; omega)))))), rfl⟩
      · exact absurd ⟨by simpa using g1, by have := of_decide_eq_false g2; omega, by have := of_decide_eq_false h3; omega⟩ hno
end
end Go.EvN

