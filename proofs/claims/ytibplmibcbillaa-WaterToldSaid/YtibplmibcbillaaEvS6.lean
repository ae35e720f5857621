/-
  The operations, one by one: slices of slices, append, the builtins, calls.
-/
import Derived.Test.YtibplmibcbillaaEvS5
namespace Go.Ev
open Go.RowKit

variable {P : Program} {w : World}

section
variable {a : Act} {B : Nat} {D : Nat → Prop} {ρ : Ren} {H : Heap} {T : Tr AV}

theorem bound_none {x : Option AV} {d n : Nat} (h : bounds x d = some n) : (x = none ∧ n = d) ∨ ∃ k, x = some (.int k (.ofNat n)) := by
  unfold bounds at h
  split at h
  · cases h; exact .inl ⟨rfl, rfl⟩
  · cases h; exact .inr ⟨_, rfl⟩
  · cases h

theorem run_bound (k : IntKind) (n y : Nat) (h : n ≤ y) (c : BoundsCode) : (Instr.sliceBound (.int k (n : Int)) y c).run P w = .ok n w := by
  have : (0 : Int) ≤ (n : Int) ∧ (n : Int) ≤ (y : Int) := by
    omega
  simp only [Instr.sliceBound, asIntOf, Sem.run_bind, Sem.run_pure, Result.andThen_ok, if_pos this, Sem.run_ite]
  rfl

theorem run_sliceBounds (ρ : Ren) {lo hi : Option AV} {len cap l h : Nat} (h1 : bounds lo 0 = some l) (h2 : bounds hi len = some h) (h3 : l ≤ h) (h4 : h ≤ cap) :
    (Instr.sliceBounds true len cap (lo.map (conc ρ)) (hi.map (conc ρ)) none).run P w = .ok (l, h, cap) w := by
  unfold Instr.sliceBounds
  rcases bound_none h1 with ⟨rfl, rfl⟩ | ⟨k1, rfl⟩ <;> rcases bound_none h2 with ⟨rfl, rfl⟩ | ⟨k2, rfl⟩
  · simp
  · simp [conc, run_bound k2 _ _ h4]
  · simp [conc, run_bound k1 _ _ h3]
  · simp [conc, run_bound k2 _ _ h4, run_bound k1 _ _ h3]

theorem optd_sound (hT : TR D ρ T a.tmps) {x : Option Operand} {v : Option AV} (h : optd T x = some v) : x.map a.eval = v.map (conc ρ) := by
  cases x with
  | none => cases h; rfl
  | some x =>
    simp only [optd, Option.map_eq_some_iff] at h
    obtain ⟨u, hu, rfl⟩ := h
    simp [(opd_sound hT hu).1]

theorem slice_sound {o : Oper} {t : TypeId} {x : Operand} {lo hi : Option Operand} {out : Out} (ho : o.op = .slice t x lo hi none) (hs : Sim B D ρ H w) (hT : TR D ρ T a.tmps) (he : evSlice P T H t x lo hi = some out) :
    OpOK P a o B D ρ H w out := by
  unfold evSlice at he
  split at he
  · rename_i ag0 sz0 by0 z0 e s l h ht hx hlo hhi
    split at he
    · rename_i ei hei
      simp only [Option.map_eq_some_iff] at he
      obtain ⟨v, hv, rfl⟩ := he
      obtain ⟨ex, kx⟩ := opd_sound hT hx
      have el := optd_sound hT hlo
      have eh := optd_sound hT hhi
      have hu := under_slice ht rfl
      have red : ∀ r, (Instr.slice t (conc ρ s) (l.map (conc ρ)) (h.map (conc ρ)) none).run P w = .ok r w → (execOp a.eval o).run P w = .ok (.value r) w := by
        intro r hr
        simp only [execOp, ho, ex, el, eh, Instr.sliceAt, Sem.run_bind, run_under hu, Result.andThen_ok, Option.map_none]
        rw [hr]
        rfl
      unfold sliceOf at hv
      split at hv
      · rename_i b off len cap
        split at hv
        · rename_i n m hn hm
          have go : n ≤ m → m ≤ cap → (Instr.slice t (conc ρ (.slice b off len cap)) (l.map (conc ρ)) (h.map (conc ρ)) none).run P w =
              .ok (.slice (if cap = n then some ⟨(ρ b).1, off, none⟩ else some ⟨(ρ b).1, off + n * ei.size, none⟩) (m - n) (cap - n)) w := by
            intro h1 h2
            simp only [conc, Instr.slice, Sem.run_bind, run_under hu, Result.andThen_ok, run_sliceBounds ρ hn hm h1 h2, run_sizeOf hei, Sem.run_pure, Option.map_some, Addr.add_plain]
          split at hv
          · rename_i h1 h2 h3
            cases hv
            have := Nat.eq_of_beq_eq_true h3
            refine ok_pure hs (red _ ?_) kx
            rw [go (Nat.le_of_ble_eq_true h1) (Nat.le_of_ble_eq_true h2), if_pos this]
            rfl
          · rename_i h1 h2 h3
            cases hv
            have := Nat.ne_of_beq_eq_false h3
            refine ok_pure hs (red _ ?_) kx
            rw [go (Nat.le_of_ble_eq_true h1) (Nat.le_of_ble_eq_true h2), if_neg this]
            rfl
          · cases hv
        · cases hv
      · split at hv
        · rename_i hn hm
          cases hv
          refine ok_pure hs (red _ ?_) trivial
          simp only [conc, Instr.slice, Sem.run_bind, run_under hu, Result.andThen_ok, run_sliceBounds ρ hn hm (Nat.le_refl _) (Nat.le_refl _), run_sizeOf hei, Sem.run_pure]
          simp
        · cases hv
      · rename_i b len
        split at hv
        · rename_i cs el' sz' n m hg hn hm
          split at hv
          · rename_i h1 h2 h3 h4 h5
            have h1 := Nat.eq_of_beq_eq_true h1
            have h2 : 0 < ei.size := by simpa [Nat.blt_eq] using h2
            have h3 := Nat.le_of_ble_eq_true h3
            have h4 := Nat.le_of_ble_eq_true h4
            have h5 := Nat.le_of_ble_eq_true h5
            subst h1
            obtain ⟨o0, g0, l0⟩ := hs.live b kx
            rw [hg] at g0; cases g0
            have hcap : len ≤ (ρ b).2 := by
              rcases l0 with l0 | ⟨_, o2, _, rest, _, hc, _⟩
              · cases l0
              · have : len * ei.size ≤ (ρ b).2 * ei.size := by omega
                exact Nat.le_of_mul_le_mul_right this h2
            have go : (Instr.slice t (conc ρ (.opn b len)) (l.map (conc ρ)) (h.map (conc ρ)) none).run P w =
                .ok (.slice (if (ρ b).2 = n then some ⟨(ρ b).1, 0, none⟩ else some ⟨(ρ b).1, 0 + n * ei.size, none⟩) (m - n) ((ρ b).2 - n)) w := by
              simp only [conc, Instr.slice, Sem.run_bind, run_under hu, Result.andThen_ok, run_sliceBounds ρ hn hm h4 (Nat.le_trans h5 hcap), run_sizeOf hei, Sem.run_pure, Option.map_some, Addr.add_plain]
            split at hv
            · cases hv
              refine ok_pure hs (red _ ?_) kx
              rw [go]
              simp [conc]
            · cases hv
              refine ok_pure hs (red _ ?_) kx
              rw [go]
              have e : (if (ρ b).2 = n then some (⟨(ρ b).1, 0, none⟩ : Addr) else some ⟨(ρ b).1, 0 + n * ei.size, none⟩) = some ⟨(ρ b).1, if m - n = 0 ∧ (ρ b).2 = n then 0 else n * ei.size, none⟩ := by
                by_cases hc : (ρ b).2 = n
                · rw [if_pos hc, if_pos ⟨by omega, hc⟩]
                · rw [if_neg hc, if_neg (fun k => hc k.2), Nat.zero_add]
              rw [e]
              simp [conc]
          · cases hv
        · cases hv
      · rename_i a0 len cap
        split at hv
        · rename_i hn hm
          cases hv
          refine ok_pure hs (red _ ?_) trivial
          simp only [conc, Instr.slice, Sem.run_bind, run_under hu, Result.andThen_ok, run_sliceBounds ρ hn hm (Nat.le_refl _) (Nat.zero_le _), run_sizeOf hei, Sem.run_pure, Nat.zero_mul]
          cases cap with
          | zero => rfl
          | succ k => rfl
        · cases hv
      · cases hv
    · cases he
  · rename_i ag0 sz0 by0 z0 n e b off h ht hx hlo hhi
    split at he
    · rename_i m ei hm hei
      split at he
      · rename_i hmn
        cases he
        obtain ⟨ex, kx⟩ := opd_sound hT hx
        have el := optd_sound (ρ := ρ) hT hlo
        have eh := optd_sound hT hhi
        have hu := under_array ht rfl
        have hmn := Nat.le_of_ble_eq_true hmn
        refine ok_pure hs ?_ kx
        have hb : (Instr.sliceBounds false n n (Option.map (conc ρ) none) (h.map (conc ρ)) none).run P w = .ok (0, m, n) w := by
          unfold Instr.sliceBounds
          rcases bound_none hm with ⟨rfl, rfl⟩ | ⟨k2, rfl⟩
          · simp
          · simp [conc, run_bound k2 _ _ hmn]
        simp only [execOp, ho, ex, el, eh, Instr.sliceAt, Sem.run_bind, run_under hu, Result.andThen_ok, Option.map_none, conc, Instr.sureAddr, Sem.run_pure]
        simp only [Option.map_none] at hb
        rw [hb]
        simp [run_sizeOf hei, Addr.add_plain]
      · cases he
    · cases he
  · cases he

/-! ### append -/
theorem elemsGo_sound (hs : Sim B D ρ H w) {v : AV} {sz n : Nat} {l : List AV} (hv : v.within D) (he : elemsGo H v sz = some l) (hn : lenOf v = some n) :
    (Builtin.firstCells sz n (conc ρ v)).run P w = .ok (concs ρ l).toArray w ∧ AV.withins D l ∧ l.length = n * sz := by
  have row : ∀ b off, D b → (match (H.get b).bind AObj.cs with | some cs => seg cs off (n * sz) | none => none) = some l →
      (loadCells ⟨(ρ b).1, off, none⟩ (n * sz)).run P w = .ok (concs ρ l).toArray w ∧ AV.withins D l ∧ l.length = n * sz := by
    intro b off hb he
    split at he
    · rename_i cs hc
      obtain ⟨rest, e, fr, hw, hd⟩ := hs.cells hb hc
      refine ⟨?_, seg_within he hd, ?_⟩
      · rcases seg_spec he with ⟨hl, hle⟩ | ⟨hz, rfl⟩
        · rw [loadCells, run_loadCellsFrom hw _ _ _ (by simp; omega)]
          simp only [Nat.add_zero]
          rw [conc_seg ρ rest hl hle]
          simp
        · rw [hz]; simp [loadCells, loadCellsFrom, concs]
      · rcases seg_spec he with ⟨hl, hle⟩ | ⟨hz, rfl⟩
        · rw [hl]; simp; omega
        · simp [hz]
    · cases he
  have rawC : ∀ u, v = .raw u → (Builtin.firstCells sz n (conc ρ v)).run P w = .ok (concs ρ l).toArray w ∧ AV.withins D l ∧ l.length = n * sz := by
    rintro u rfl
    cases u <;> simp only [lenOf, reduceCtorEq, Option.some.injEq] at hn
    subst hn
    simp only [elemsGo] at he
    split at he
    · rename_i q
      obtain ⟨rfl, rfl, rfl⟩ := by simpa using q
      cases he
      refine ⟨?_, trivial, by simp⟩
      rename_i a _ c
      cases a <;> simp [conc, Builtin.firstCells, concs, loadCells, loadCellsFrom]
    · cases he
  cases v <;> try exact rawC _ rfl
  all_goals (simp only [lenOf, Option.some.injEq, reduceCtorEq] at hn)
  all_goals (subst hn; simp only [elemsGo] at he)
  · exact row _ _ hv he
  · exact row _ _ hv he
  · rename_i b i off len
    by_cases h0 : len = 0
    · subst h0
      split at he
      · rename_i cs hc
        rcases seg_spec he with ⟨hl, _⟩ | ⟨_, hl⟩
        all_goals
          have hl : l = [] := by rw [hl]; try simp
          subst hl
          exact ⟨by simp [conc, Builtin.firstCells, concs, loadCells, loadCellsFrom], trivial, by simp⟩
      · cases he
    · have := row b off hv he
      have e : conc ρ (.tail b i off len) = .slice (some ⟨(ρ b).1, off, none⟩) len ((ρ b).2 - i) := by simp [conc, h0]
      rw [e]; exact this
  · cases he; exact ⟨by simp [conc, Builtin.firstCells, concs], trivial, by simp⟩

theorem elems_sound (hs : Sim B D ρ H w) {v : AV} {sz n : Nat} {l : List AV} (hv : v.within D) (he : elems H v sz = some l) (hn : lenOf v = some n) :
    (Builtin.firstCells sz n (conc ρ v)).run P w = .ok (concs ρ l).toArray w ∧ AV.withins D l ∧ l.length = n * sz := by
  unfold elems at he
  split at he
  · rename_i h0
    rw [hn] at h0
    cases h0
    cases he
    refine ⟨?_, trivial, by simp⟩
    cases v with
    | raw u => cases u <;> simp only [lenOf, reduceCtorEq, Option.some.injEq] at hn; rename_i a _ _; cases a <;> simp [conc, Builtin.firstCells, concs, loadCells, loadCellsFrom]
    | _ => simp only [lenOf, reduceCtorEq, Option.some.injEq] at hn <;> (try subst hn) <;> simp [conc, Builtin.firstCells, concs, loadCells, loadCellsFrom]
  · exact elemsGo_sound (P := P) hs hv he hn

theorem nextcap_le (need cap : Nat) (h : cap < need) : Builtin.nextslicecap need cap ≤ 4 * need + 2048 := by
  unfold Builtin.nextslicecap
  split
  · omega
  · split
    · omega
    · have step : ∀ r c : Nat, Builtin.growBy need r c ≤ max c (need + need / 4 + 192) := by
        intro r
        induction r with
        | zero => intro c; simp [Builtin.growBy]; omega
        | succ r ih =>
          intro c
          unfold Builtin.growBy
          split
          · omega
          · rename_i hc
            have := ih (c + (c + 768) / 4)
            omega
      have := step 4 cap
      omega

theorem zeroCells_size (z : Array Value) (n : Nat) : (Builtin.zeroCells z n).size = n * z.size := by simp [Builtin.zeroCells]

/-- A name is given up. -/
theorem post_kill (hs : Sim B D ρ H w) (b : Nat) (hb : D b) : Post B D ρ H w D ρ (H.put b .dead) w := by
  refine ⟨⟨?_, ?_, hs.base, hs.fresh⟩, fun n k => k, fun _ _ => rfl, fun n k => .inl k, fun n _ k => ?_, Nat.le_refl _, ?_, fun n _ k => ?_, Below.refl _ _⟩
  · intro n k
    by_cases e : n = b
    · exact ⟨.dead, by rw [Heap.get_put, if_pos e], .inl rfl⟩
    · obtain ⟨o, h1, h2⟩ := hs.live n k
      exact ⟨o, by rw [Heap.get_put, if_neg e]; exact h1, h2⟩
  · intro n m k k' d d' e
    have dd : ∀ n, Own ((H.put b .dead).get n) → Own (H.get n) := fun n q => by
      by_cases e : n = b
      · exact absurd (by rw [Heap.get_put, if_pos e]) q.1
      · rwa [Heap.get_put, if_neg e] at q
    exact hs.inj n m k k' (dd n d) (dd m d') e
  · rw [Heap.get_put, if_neg (fun e : n = b => k (e ▸ hb))]
  · rw [Heap.lo_put]; omega
  · rw [Heap.lo_put] at k; rw [Heap.get_put, if_neg (by omega)]

/-- A name takes over another's block, which gets other contents. -/
theorem post_move (hs : Sim B D ρ H w) (b : Nat) (hb : D b) (hlive : Own (H.get b)) (o : AObj) (o' : Obj) (ho : ORel D ρ (ρ b).2 o o') (hown : Own (some o)) :
    Post B D ρ H w (fun n => D n ∨ n = H.next) (fun n => if n = H.next then ρ b else ρ n) ((H.put b .dead).new o) { w with heap := w.heap.setIfInBounds (ρ b).1 o' } := by
  have hN : ¬ D H.next := fun k => absurd (hs.fresh _ k) (Nat.lt_irrefl _)
  have hne : ∀ n, D n → n ≠ H.next := fun n k e => hN (e ▸ k)
  have hren : ∀ n, D n → (fun n => if n = H.next then ρ b else ρ n) n = ρ n := fun n k => by simp [hne n k]
  have hg : ∀ n, ((H.put b .dead).new o).get n = if n = H.next then some o else if n = b then some .dead else H.get n := fun n => by
    rw [Heap.get_new, Heap.get_put]; rfl
  obtain ⟨o0, g0, l0⟩ := hs.live b hb
  have l1 : B ≤ (ρ b).1 ∧ (ρ b).1 < w.heap.size := by
    rcases l0 with rfl | ⟨h1, o2, h2, _⟩
    · exact absurd g0 hlive.1
    · exact ⟨(Side.own (g0 ▸ hlive)).1 h1, (Array.getElem?_eq_some_iff.1 h2).1⟩
  refine ⟨⟨?_, ?_, by simpa using hs.base, ?_⟩, fun n k => .inl k, fun n k => by simp [hne n k], fun n k => k.imp id (fun e => by omega), fun n k d => ?_, by simp, ?_, fun n k l => ?_, ⟨rfl, rfl, rfl, by simp, fun k hk => ?_⟩⟩
  · rintro n (k | rfl)
    · by_cases e : n = b
      · exact ⟨.dead, by rw [hg, if_neg (hne n k), if_pos e], .inl rfl⟩
      · obtain ⟨o1, h1, h2⟩ := hs.live n k
        refine ⟨o1, by rw [hg, if_neg (hne n k), if_neg e]; exact h1, ?_⟩
        rcases h2 with h2 | ⟨hb', o2, h2, h3⟩
        · exact .inl h2
        · by_cases ed : o1 = .dead
          · exact .inl ed
          · refine .inr ⟨by simpa [hne n k] using hb', o2, ?_, ?_⟩
            · simp only [hne n k, if_false]
              rw [Array.getElem?_setIfInBounds, if_neg]
              · exact h2
              · intro eq
                by_cases ex : ∃ cs, o1 = .ext cs
                · obtain ⟨cs, rfl⟩ := ex
                  have := l1.1
                  rw [eq] at this
                  exact absurd hb' (Nat.not_lt.2 this)
                · exact e (hs.inj n b k hb (by rw [h1]; exact ⟨by simpa using ed, fun cs q => ex ⟨cs, by simpa using q⟩⟩) hlive eq.symm)
            · simp only [hne n k, if_false]
              exact h3.mono (fun n k => .inl k) hren
    · refine ⟨o, by rw [hg, if_pos rfl], .inr ⟨(Side.own hown).2 (by simpa using l1.1), o', ?_, ?_⟩⟩
      · simp [l1.2]
      · simpa using ho.mono (fun n k => .inl k) hren
  · have dd : ∀ n, D n → Own (((H.put b .dead).new o).get n) → Own (H.get n) ∧ n ≠ b := fun n k q => by
      rw [hg, if_neg (hne n k)] at q
      by_cases e : n = b
      · exact absurd (by rw [if_pos e]) q.1
      · rw [if_neg e] at q; exact ⟨q, e⟩
    rintro n m (k | rfl) (k' | rfl) d d' e
    · simp only [hne n k, hne m k', if_false] at e
      exact hs.inj n m k k' (dd n k d).1 (dd m k' d').1 e
    · simp only [hne n k, if_false, if_true] at e
      exact absurd (hs.inj n b k hb (dd n k d).1 hlive e) (dd n k d).2
    · simp only [hne m k', if_false, if_true] at e
      exact absurd (hs.inj m b k' hb (dd m k' d').1 hlive e.symm) (dd m k' d').2
    · rfl
  · rintro n (k | rfl)
    · have := hs.fresh n k; simp; omega
    · simp
  · rw [hg, if_neg (by omega), if_neg (fun e : n = b => d (e ▸ hb))]
  · simp only [Heap.lo_new, Heap.lo_put]; omega
  · simp only [Heap.lo_new, Heap.lo_put] at l
    rw [hg, if_neg (by omega), if_neg (by omega)]
  · rw [Array.getElem?_setIfInBounds, if_neg (by omega)]
theorem append_sound {ts : Array TypeId} {ty : TypeId} {t u : TypeId} {s x v : AV} {H' : Heap} (hts : ts.toList = [t, u]) (hs : Sim B D ρ H w) (ks : s.within D) (kx : x.within D)
    (he : appendT P H t u s x = some (v, H')) :
    ∃ D' ρ' w', (Builtin.append_ ts ty #[conc ρ s, conc ρ x]).run P w = .ok (conc ρ' v) w' ∧ Post B D ρ H w D' ρ' H' w' ∧ v.within D' := by
  have h0 : ts[0]? = some t := by rw [← Array.getElem?_toList, hts]; rfl
  have h1 : ts[1]? = some u := by rw [← Array.getElem?_toList, hts]; rfl
  unfold appendT at he
  split at he
  · rename_i ag0 sz0 by0 z0 eu hu
    have hu' := under_slice hu rfl
    unfold append at he
    split at he
    · rename_i ag1 sz1 by1 z1 e ht
      have ht' := under_slice ht rfl
      split at he
      · rename_i ei hei
        split at he
        · rename_i new n m hnew hn hm
          split at he
          · rename_i zl c1 c2 c3 c4
            split at he
            · cases he
            · rename_i c5
              have c1 := Nat.le_of_ble_eq_true c1
              have c2 : 0 < ei.size := by simpa [Nat.blt_eq] using c2
              have c5 := Nat.eq_of_beq_eq_true c5
              simp only [Option.map_eq_some_iff] at c3
              obtain ⟨z, hz, rfl⟩ := c3
              obtain ⟨i, d, ti⟩ := mkTI_spec hei
              have hb : i.bytes = ei.bytes := ti.bytes.symm
              have hsl : ∃ base cap, conc ρ s = .slice base m cap := by
                cases s with
                | raw u => cases u <;> simp only [lenOf, Option.some.injEq, reduceCtorEq] at hm <;> subst hm <;> exact ⟨_, _, rfl⟩
                | _ => simp only [lenOf, Option.some.injEq, reduceCtorEq] at hm <;> subst hm <;> exact ⟨_, _, rfl⟩
              obtain ⟨base, cap, hsl⟩ := hsl
              have hlx : (Builtin.lenOf (conc ρ x)).run P w = .ok n w := by
                cases x with
                | raw u => cases u <;> simp only [lenOf, Option.some.injEq, reduceCtorEq] at hn <;> subst hn <;> simp [conc, Builtin.lenOf]
                | _ => simp only [lenOf, Option.some.injEq, reduceCtorEq] at hn <;> subst hn <;> simp [conc, Builtin.lenOf]
              obtain ⟨fx, wx, lx⟩ := elems_sound (P := P) hs kx hnew hn
              -- in place
              have inplace : m + n ≤ cap → ∀ w', (match base with | some ad => (storeCells (ad.add (m * ei.size)) (concs ρ new)).run P w = .ok () w' | none => w' = w) →
                  (Builtin.append_ ts ty #[conc ρ s, conc ρ x]).run P w = .ok (.slice base (m + n) cap) w' := by
                intro hle w' hst
                simp only [Builtin.append_, h0, h1, List.getElem?_toArray, List.getElem?_cons_zero, List.getElem?_cons_succ, Sem.run_bind, run_under ht', Result.andThen_ok, hsl, run_sizeOf hei, run_under hu', Sem.run_pure]
                simp only [Bool.false_eq_true, if_false, hlx, Result.andThen_ok, hle, if_true, Sem.run_bind, Bool.not_false, fx]
                cases base with
                | none => simp only at hst; subst hst; simp
                | some ad => simp only at hst; simp [hst]
              -- grown
              have grown : cap < m + n → ∀ (H0 : Heap), Post B D ρ H w D ρ H0 w → ∀ old : List AV, elems H s ei.size = some old →
                  ∃ D' ρ' w', (Builtin.append_ ts ty #[conc ρ s, conc ρ x]).run P w = .ok (conc ρ' (.opn H0.next (m + n))) w' ∧ Post B D ρ H w D' ρ' (H0.new (.opn (old ++ new) e ei.size)) w' ∧ (AV.opn H0.next (m + n)).within D' := by
                intro hlt H0 hp0 old hold
                obtain ⟨_, wo, lo⟩ := elems_sound (P := P) hs ks hold hm
                obtain ⟨zv, hr, hc, hw, _⟩ := run_zero (w := w) ρ D hei hz
                let q : Question := .appendCap (m + n) cap e
                let newCap := q.cut (w.tape w.drawn q)
                have hcap : m + n ≤ newCap := by show m + n ≤ (m + n) + _; omega
                let w1 : World := { w with drawn := w.drawn + 1 }
                have hs1 : Sim B D ρ H w1 := hs.draw rfl
                have hs01 : Sim B D ρ H0 w1 := hp0.sim.draw rfl
                have hzs : zv.cells.size = ei.size := by
                  rw [← Array.length_toList, hc, concs_length, c5]
                have rel : ORel D ρ newCap (.opn (old ++ new) e ei.size) (.cells ((concs ρ old).toArray ++ (concs ρ new).toArray ++ Builtin.zeroCells zv.cells (newCap - (m + n))) e (0, 0)) := by
                  refine ⟨(Builtin.zeroCells zv.cells (newCap - (m + n))).toList, ?_, ?_, ?_⟩
                  · rw [concs_append]
                    congr 1
                    apply Array.toList_inj.1
                    simp
                  · simp only [Array.length_toList, zeroCells_size, List.length_append]
                    rw [hzs, lo, lx, ← Nat.add_mul, ← Nat.add_mul]
                    congr 1
                    omega
                  · exact withins_iff.2 fun v hv => (List.mem_append.1 hv).elim (fun hv => withins_iff.1 wo v hv) (fun hv => withins_iff.1 wx v hv)
                refine ⟨_, _, _, ?_, hp0.trans ((Post.draw hp0.sim (w.drawn + 1)).trans (post_new hs01 newCap _ _ rel)), .inr rfl⟩
                have hbig : Builtin.nextslicecap (m + n) cap * ei.bytes ≤ 2 ^ 48 := by
                  have a1 := nextcap_le (m + n) cap hlt
                  have a2 : Builtin.nextslicecap (m + n) cap * ei.bytes ≤ (4 * (m + n) + 2048) * ei.bytes := Nat.mul_le_mul_right _ a1
                  have a3 : (m + n) * (ei.bytes + 1) = (m + n) * ei.bytes + (m + n) := by rw [Nat.mul_add, Nat.mul_one]
                  have a4 : (4 * (m + n) + 2048) * ei.bytes = 4 * ((m + n) * ei.bytes) + 2048 * ei.bytes := by rw [Nat.add_mul, Nat.mul_assoc]
                  have a5 : ei.bytes ≤ 4294967296 := by
                    have : 1 * (ei.bytes + 1) ≤ (m + n) * (ei.bytes + 1) := Nat.mul_le_mul_right _ (by omega)
                    omega
                  omega
                have hmax : ¬ (((m + n : Nat) : Int) > IntKind.i64.max ∧ (False ∨ i.bytes = 0)) := by
                  rintro ⟨h, _⟩
                  have a3 : (m + n) * 1 ≤ (m + n) * (ei.bytes + 1) := Nat.mul_le_mul_left _ (by omega)
                  have : IntKind.i64.max = 9223372036854775807 := rfl
                  omega
                have hch : (choose q).run P w = .ok newCap w1 := by
                  simp [choose, Sem.run, q, Question.forced, newCap, w1]
                have hroom : ∀ k, (askRoom k).run P w1 = .ok () w1 := by
                  intro k
                  unfold askRoom
                  split <;> rfl
                have fx1 : (Builtin.firstCells ei.size n (conc ρ x)).run P w1 = .ok (concs ρ new).toArray w1 := (elems_sound (P := P) hs1 kx hnew hn).1
                have fo1 : (Builtin.firstCells ei.size m (conc ρ s)).run P w1 = .ok (concs ρ old).toArray w1 := (elems_sound (P := P) hs1 ks hold hm).1
                have hr1 : (zeroValue e).run P w1 = .ok zv w1 := by
                  obtain ⟨zv', hr', hc', _, i', hi', hz'⟩ := run_zero (w := w1) ρ D hei hz
                  obtain ⟨zv2, hr2, hc2, _, i2, hi2, hz2⟩ := run_zero (w := w) ρ D hei hz
                  rw [hr] at hr2; cases hr2
                  rw [hi'] at hi2; cases hi2
                  rw [hz'] at hz2; cases hz2
                  exact hr'
                rw [hsl] at fo1 ⊢
                simp only [Builtin.append_, h0, h1, List.getElem?_toArray, List.getElem?_cons_zero, List.getElem?_cons_succ, Sem.run_bind, run_under ht', Result.andThen_ok, run_sizeOf hei, run_under hu', Sem.run_pure]
                simp only [Bool.false_eq_true, if_false, hlx, Result.andThen_ok, Sem.run_bind]
                rw [if_neg (by omega)]
                simp only [Sem.run_bind, run_info ti.info, Result.andThen_ok]
                rw [if_neg hmax]
                simp only [Sem.run_bind, run_info ti.info, Result.andThen_ok, hb]
                rw [if_neg (by omega)]
                have hch' : (choose (.appendCap (m + n) cap e)).run P w = .ok newCap w1 := hch
                simp only [Sem.run_bind, hch', Result.andThen_ok, run_info ti.info, hroom, fo1, Bool.not_false, if_true, fx1, hr1, newRow, newObj, Sem.run, Sem.run_pure, conc]
              unfold append.appendGo at he
              split at he
              · -- nil
                simp only [lenOf, Option.some.injEq] at hm
                subst hm
                simp only [conc, Value.slice.injEq] at hsl
                obtain ⟨rfl, _, rfl⟩ := hsl
                split at he
                · cases he
                  exact ⟨D, ρ, w, inplace (Nat.le_refl _) w rfl, Post.refl hs, trivial⟩
                · rename_i hne
                  have hne : n ≠ 0 := hne
                  cases he
                  obtain ⟨D', ρ', w', g1, g2, g3⟩ := grown (by omega) H (Post.refl hs) [] rfl
                  rw [Nat.zero_add] at g1 g3
                  exact ⟨D', ρ', w', g1, g2, g3⟩
              · rename_i b off len cp
                simp only [lenOf, Option.some.injEq] at hm
                subst hm
                simp only [conc, Value.slice.injEq] at hsl
                obtain ⟨rfl, _, rfl⟩ := hsl
                split at he
                · rename_i hle
                  have hle := Nat.le_of_ble_eq_true hle
                  split at he
                  · rename_i cs el hg
                    simp only [Option.map_eq_some_iff, Prod.mk.injEq] at he
                    obtain ⟨l, hl, rfl, rfl⟩ := he
                    obtain ⟨w', hr, hp⟩ := write_part (P := P) hs ks hg rfl nofun hl wx c4
                    refine ⟨D, ρ, w', ?_, hp, ks⟩
                    exact inplace hle w' (by simp only [Addr.add_plain]; exact hr)
                  · cases he
                · rename_i hle
                  have hle : ¬ len + n ≤ cp := fun h => by rw [Nat.ble_eq_true_of_le h] at hle; cases hle
                  split at he
                  · rename_i old hold
                    cases he
                    exact grown (by omega) H (Post.refl hs) old hold
                  · cases he
              · rename_i b len
                simp only [lenOf, Option.some.injEq] at hm
                subst hm
                simp only [conc, Value.slice.injEq] at hsl
                obtain ⟨rfl, _, rfl⟩ := hsl
                split at he
                · rename_i cs el sz hg
                  obtain ⟨o0, g0, l0⟩ := hs.live b ks
                  rw [hg] at g0; cases g0
                  rcases l0 with l0 | ⟨hB, o2, ho2, rest, rfl, hcap, hwd⟩
                  · cases l0
                  have hlive : Own (H.get b) := by rw [hg]; exact ⟨nofun, nofun⟩
                  split at he
                  · rename_i d1 d2 d3
                    have d1 := Nat.eq_of_beq_eq_true d1
                    have d2 := Nat.eq_of_beq_eq_true d2
                    have d3 := Nat.eq_of_beq_eq_true d3
                    subst d1 d2
                    split at he
                    · cases he
                      have hle : len + 0 ≤ (ρ b).2 := by
                        have : len * ei.size ≤ (ρ b).2 * ei.size := by omega
                        exact Nat.le_of_mul_le_mul_right this c2
                      have hnil : new = [] := List.length_eq_zero_iff.1 (by rw [lx]; simp)
                      refine ⟨D, ρ, w, ?_, Post.refl hs, ks⟩
                      exact inplace hle w (by rw [hnil]; rfl)
                    · rename_i n' hne
                      cases he
                      by_cases hle : len + n ≤ (ρ b).2
                      · have hfit : new.length ≤ rest.length := by
                          have : (len + n) * ei.size ≤ (ρ b).2 * ei.size := Nat.mul_le_mul_right _ hle
                          rw [Nat.add_mul] at this
                          omega
                        have hst := run_storeCells (P := P) (concs ρ new) 0 (concs ρ cs ++ rest) w (off := len * ei.size) ho2 (by simp; omega) (atoms_spec ρ new c4)
                        have hsp : (concs ρ cs ++ rest).take (len * ei.size + 0) ++ (concs ρ new ++ (concs ρ cs ++ rest).drop (len * ei.size + 0 + (concs ρ new).length)) = concs ρ (cs ++ new) ++ rest.drop new.length := by
                          rw [concs_append, Nat.add_zero, List.take_append_of_le_length (by simp; omega), List.take_of_length_le (by simp; omega), List.drop_append, List.drop_of_length_le (by simp; omega)]
                          simp only [List.nil_append, List.append_assoc, concs_length]
                          congr 3
                          omega
                        rw [hsp] at hst
                        refine ⟨_, _, _, ?_, post_move hs b ks hlive (.opn (cs ++ new) el ei.size) _ ⟨rest.drop new.length, rfl, ?_, ?_⟩ ⟨nofun, nofun⟩, .inr rfl⟩
                        · have := inplace hle _ (by simp only [Addr.add_plain, Nat.zero_add]; exact hst)
                          rw [this]
                          simp [conc]
                        · simp only [List.length_append, List.length_drop]; omega
                        · exact withins_iff.2 fun v hv => (List.mem_append.1 hv).elim (fun hv => withins_iff.1 hwd v hv) (fun hv => withins_iff.1 wx v hv)
                      · have hold : elems H (.opn b len) ei.size = some cs := by
                          cases len with
                          | zero =>
                            have : cs = [] := List.eq_nil_of_length_eq_zero (by omega)
                            rw [this]; rfl
                          | succ len =>
                            show elemsGo H (.opn b (len + 1)) ei.size = some cs
                            simp only [elemsGo, hg, Option.bind_some, AObj.cs, seg]
                            have : ((cs.drop 0).take ((len + 1) * ei.size)) = cs := by rw [List.drop_zero, ← d3, List.take_length]
                            rw [this, d3, Nat.beq_refl]
                        exact grown (by omega) (H.put b .dead) (post_kill hs b ks) cs hold
                  · rename_i d1 d2 d3
                    have d1 := Nat.eq_of_beq_eq_true d1
                    subst d1
                    simp only [Option.map_eq_some_iff, Prod.mk.injEq] at he
                    obtain ⟨l, hl, rfl, rfl⟩ := he
                    obtain ⟨w', hr, hp⟩ := write_part (P := P) hs ks hg rfl nofun hl wx c4
                    have hle : len + n ≤ (ρ b).2 := by
                      have h1 := (spl_spec hl).2
                      have : (len + n) * ei.size ≤ (ρ b).2 * ei.size := by rw [Nat.add_mul]; omega
                      exact Nat.le_of_mul_le_mul_right this c2
                    refine ⟨D, ρ, w', ?_, hp, ks⟩
                    exact inplace hle w' (by simp only [Addr.add_plain, Nat.zero_add]; exact hr)
                  · cases he
                · cases he
              · cases he
          · cases he
        · cases he
      · cases he
    · cases he
  · cases he
end
end Go.Ev

