/-
  Types, loads and stores: what the model does is what the evaluator does.
-/
import Derived.Test.YtibplmibcbillaaEvS1
namespace Go.Ev
open Go.RowKit

variable {P : Program} {w : World}

theorem avs_spec (ρ : Ren) (D : Nat → Prop) : ∀ (vs : List Value) (acc : Option (List AV)) (l : List AV), avs vs acc = some l →
    ∃ a, acc = some a ∧ ∃ l', l = a.reverse ++ l' ∧ concs ρ l' = vs ∧ AV.withins D l' := by
  intro vs
  induction vs with
  | nil =>
    intro acc l h
    cases acc with
    | none => simp [avs] at h
    | some a => exact ⟨a, rfl, [], by simpa [avs] using h.symm, rfl, trivial⟩
  | cons v vs ih =>
    intro acc l h
    unfold avs at h
    obtain ⟨a, ha, l', hl, hc, hw⟩ := ih _ _ h
    cases acc with
    | none => exfalso; revert ha; cases v <;> simp
    | some a0 =>
      split at ha <;> first
        | cases ha; done
        | skip
      all_goals
        rename_i e
        obtain rfl := Option.some.inj e
        obtain rfl := Option.some.inj ha
        rw [List.reverse_cons, List.append_assoc] at hl
        exact ⟨a0, rfl, _, hl, by show _ :: concs ρ l' = _; rw [hc]; rfl, ⟨trivial, hw⟩⟩

theorem av_spec (ρ : Ren) (D : Nat → Prop) {v : Value} {x : AV} (h : av v = some x) : conc ρ x = v ∧ x.within D := by
  have one : ∀ v x, (match avs [v] (some []) with | some [x] => some x | _ => none) = some x → conc ρ x = v ∧ x.within D := by
    intro v x h
    split at h
    · rename_i y hy
      cases h
      obtain ⟨a, ha, l', hl, hc, hw⟩ := avs_spec ρ D _ _ _ hy
      cases ha
      simp at hl
      subst hl
      simp only [concs, List.cons.injEq, and_true] at hc
      exact ⟨hc, hw.1⟩
    · cases h
  cases v <;> first
    | exact one _ _ h
    | skip
  rename_i cs
  simp only [av, Option.map_eq_some_iff] at h
  obtain ⟨l, hl, rfl⟩ := h
  obtain ⟨a, ha, l', hl', hc, hw⟩ := avs_spec ρ D _ _ _ hl
  cases ha
  simp at hl'
  subst hl'
  exact ⟨by simp [conc, hc], hw⟩

/-! ### Types -/
structure TIs (P : Program) (t : TypeId) (ti : TI) (i : TypeInfo) (d : TypeDesc) : Prop where
  info : P.info? t = some i
  under : P.underlying t = some d
  agg : ti.agg = aggOf d
  size : ti.size = i.size
  bytes : ti.bytes = i.bytes
  zero : ti.zero = i.zero.bind fun v => avs v.cells.toList (some [])
  d : ti.d = tdOf d

theorem mkTI_spec {t : TypeId} {ti : TI} (h : mkTI P t = some ti) : ∃ i d, TIs P t ti i d := by
  unfold mkTI at h
  split at h
  · rename_i i d hi hd
    cases h
    exact ⟨i, d, hi, hd, rfl, rfl, rfl, rfl, rfl⟩
  · cases h

theorem run_info {t : TypeId} {i : TypeInfo} (h : P.info? t = some i) : (typeInfo t).run P w = .ok i w := by
  simp [typeInfo, program, Sem.run, h]

theorem run_under {t : TypeId} {d : TypeDesc} (h : P.underlying t = some d) : (underlying t).run P w = .ok d w := by
  simp [underlying, program, Sem.run, h]

theorem run_isAgg {t : TypeId} {ti : TI} (h : mkTI P t = some ti) : (isAgg t).run P w = .ok ti.agg w := by
  obtain ⟨i, d, s⟩ := mkTI_spec h
  rw [s.agg]
  simp only [isAgg, Sem.run_bind, run_under s.under, Result.andThen_ok]
  cases d <;> rfl

theorem run_sizeOf {t : TypeId} {ti : TI} (h : mkTI P t = some ti) : (sizeOf t).run P w = .ok ti.size w := by
  obtain ⟨i, d, s⟩ := mkTI_spec h
  simp [sizeOf, run_info s.info, s.size]

theorem run_zero (ρ : Ren) (D : Nat → Prop) {t : TypeId} {ti : TI} {z : List AV} (h : mkTI P t = some ti) (hz : ti.zero = some z) :
    ∃ v, (zeroValue t).run P w = .ok v w ∧ v.cells.toList = concs ρ z ∧ AV.withins D z ∧ ∃ i, P.info? t = some i ∧ i.zero = some v := by
  obtain ⟨i, d, s⟩ := mkTI_spec h
  rw [s.zero] at hz
  cases hv : i.zero with
  | none => simp [hv] at hz
  | some v =>
    simp only [hv, Option.bind_some] at hz
    obtain ⟨a, ha, l', hl, hc, hw⟩ := avs_spec ρ D _ _ _ hz
    cases ha
    simp at hl
    subst hl
    exact ⟨v, by simp [zeroValue, run_info s.info, hv], hc.symm, hw, i, s.info, hv⟩

theorem under_slice {t e : TypeId} {ti : TI} (h : mkTI P t = some ti) (hd : ti.d = .slice e) : P.underlying t = some (.slice e) := by
  obtain ⟨i, d, s⟩ := mkTI_spec h
  rw [s.d] at hd
  cases d <;> simp_all [s.under, tdOf]

theorem under_array {t e : TypeId} {n : Nat} {ti : TI} (h : mkTI P t = some ti) (hd : ti.d = .array n e) : P.underlying t = some (.array n e) := by
  obtain ⟨i, d, s⟩ := mkTI_spec h
  rw [s.d] at hd
  cases d <;> simp_all [s.under, tdOf]

theorem under_map {t k e : TypeId} {ti : TI} (h : mkTI P t = some ti) (hd : ti.d = .map k e) : P.underlying t = some (.map k e) := by
  obtain ⟨i, d, s⟩ := mkTI_spec h
  rw [s.d] at hd
  cases d <;> simp_all [s.under, tdOf]

theorem under_int {t : TypeId} {k : IntKind} {ti : TI} (h : mkTI P t = some ti) (hd : ti.d = .int k) : P.underlying t = some (.int k) := by
  obtain ⟨i, d, s⟩ := mkTI_spec h
  rw [s.d] at hd
  cases d <;> simp_all [s.under, tdOf]

theorem under_struct {t : TypeId} {fs : List Field} {ti : TI} (h : mkTI P t = some ti) (hd : ti.d = .struct fs) : ∃ a : Array Field, P.underlying t = some (.struct a) ∧ a.toList = fs := by
  obtain ⟨i, d, s⟩ := mkTI_spec h
  rw [s.d] at hd
  cases d <;> simp_all [s.under, tdOf]

/-! ### A row of cells -/
theorem Addr.add_plain (b off n : Nat) : (⟨b, off, none⟩ : Addr).add n = ⟨b, off + n, none⟩ := by
  unfold Addr.add
  split
  · rename_i h; subst h; rfl
  · rfl

theorem cell_of {b off : Nat} {l : List Value} {e : TypeId} {fr : Nat × Nat} (h : w.heap[b]? = some (.cells l.toArray e fr)) : w.cell? ⟨b, off, none⟩ = l[off]? := by
  simp [World.cell?, h]

theorem frozen_of {b off : Nat} {c : Array Value} {e : TypeId} (h : w.heap[b]? = some (.cells c e (0, 0))) : w.frozen? ⟨b, off, none⟩ = false := by
  simp [World.frozen?, h]

theorem run_loadCellsFrom {b off : Nat} {l : List Value} {e : TypeId} {fr : Nat × Nat} (h : w.heap[b]? = some (.cells l.toArray e fr)) :
    ∀ (n i : Nat) (acc : Array Value), off + i + n ≤ l.length → (loadCellsFrom ⟨b, off, none⟩ i n acc).run P w = .ok (acc ++ ((l.drop (off + i)).take n).toArray) w := by
  intro n
  induction n with
  | zero => intro i acc _; simp [loadCellsFrom]
  | succ n ih =>
    intro i acc hle
    have hlt : off + i < l.length := by omega
    simp only [loadCellsFrom, Sem.run_bind, Addr.add_plain, run_load, cell_of h, List.getElem?_eq_getElem hlt, Result.andThen_ok]
    rw [ih (i + 1) _ (by omega)]
    congr 1
    rw [List.drop_eq_getElem_cons hlt, List.take_succ_cons]
    simp [Nat.add_assoc]

theorem run_loadVar {t : TypeId} {ti : TI} (ht : mkTI P t = some ti) {b off : Nat} {l : List Value} {e : TypeId} {fr : Nat × Nat} (h : w.heap[b]? = some (.cells l.toArray e fr)) :
    (loadVar t ⟨b, off, none⟩).run P w = if ti.agg then (if off + ti.size ≤ l.length then .ok (.agg ((l.drop off).take ti.size).toArray) w else (loadVar t ⟨b, off, none⟩).run P w)
      else (match l[off]? with | some v => .ok v w | none => (loadVar t ⟨b, off, none⟩).run P w) := by
  simp only [loadVar, Sem.run_bind, run_isAgg ht, Result.andThen_ok]
  cases ha : ti.agg with
  | true =>
    simp only [if_true, Sem.run_bind, run_sizeOf ht, Result.andThen_ok]
    split
    · rename_i hle
      rw [loadCells, run_loadCellsFrom h _ _ _ (by simpa using hle)]
      simp
    · rfl
  | false =>
    simp only [Bool.false_eq_true, if_false, run_load, cell_of h]
    cases l[off]? <;> rfl

theorem seg_spec {cs l : List AV} {off n : Nat} (h : seg cs off n = some l) : l = (cs.drop off).take n ∧ off + n ≤ cs.length ∨ (n = 0 ∧ l = []) := by
  unfold seg at h
  dsimp only at h
  split at h
  · rename_i hb
    cases h
    have := Nat.eq_of_beq_eq_true hb
    simp at this
    by_cases hn : n = 0
    · right; subst hn; simp
    · left; exact ⟨rfl, by omega⟩
  · cases h

theorem withins_sub {D : Nat → Prop} {cs l : List AV} (h : AV.withins D cs) (hl : ∀ v ∈ l, v ∈ cs) : AV.withins D l :=
  withins_iff.2 fun v hv => withins_iff.1 h v (hl v hv)

theorem seg_within {D : Nat → Prop} {cs l : List AV} {off n : Nat} (hs : seg cs off n = some l) (h : AV.withins D cs) : AV.withins D l := by
  rcases seg_spec hs with ⟨rfl, _⟩ | ⟨_, rfl⟩
  · exact withins_sub h fun v hv => List.mem_of_mem_drop (List.mem_of_mem_take hv)
  · trivial

/-- The block of a name, as far as its cells are known. -/
theorem Sim.cells {B : Nat} {D : Nat → Prop} {ρ : Ren} {H : Heap} (h : Sim B D ρ H w) {b : Nat} (hb : D b) {cs : List AV} (hc : (H.get b).bind AObj.cs = some cs) :
    ∃ rest e fr, w.heap[(ρ b).1]? = some (.cells (concs ρ cs ++ rest).toArray e fr) ∧ AV.withins D cs := by
  obtain ⟨o, hg, hl⟩ := h.live b hb
  rw [hg] at hc
  cases o <;> simp only [AObj.cs, Option.bind_some, Option.some.injEq, reduceCtorEq] at hc
  · subst hc
    rcases hl with hl | ⟨_, o', hw, hr⟩
    · cases hl
    · obtain ⟨rfl, hd⟩ := hr
      exact ⟨[], _, _, by simpa using hw, hd⟩
  · subst hc
    rcases hl with hl | ⟨_, o', hw, hr⟩
    · cases hl
    · obtain ⟨e, fr, rfl, hd⟩ := hr
      exact ⟨[], e, fr, by simpa using hw, hd⟩
  · subst hc
    rcases hl with hl | ⟨_, o', hw, hr⟩
    · cases hl
    · obtain ⟨rest, rfl, _, hd⟩ := hr
      exact ⟨rest, _, _, hw, hd⟩

theorem conc_getElem (ρ : Ren) (cs : List AV) (i : Nat) (rest : List Value) (v : AV) (h : cs[i]? = some v) : (concs ρ cs ++ rest)[i]? = some (conc ρ v) := by
  obtain ⟨hi, rfl⟩ := List.getElem?_eq_some_iff.1 h
  rw [List.getElem?_append_left (by simpa using hi), concs_map]
  simp [hi]

theorem conc_seg (ρ : Ren) {cs l : List AV} {off n : Nat} (rest : List Value) (h : l = (cs.drop off).take n) (hle : off + n ≤ cs.length) :
    ((concs ρ cs ++ rest).drop off).take n = concs ρ l := by
  subst h
  rw [concs_take, concs_drop, List.drop_append_of_le_length (by simp; omega), List.take_append_of_le_length (by simp; omega)]

theorem load_sound {B : Nat} {D : Nat → Prop} {ρ : Ren} {H : Heap} (h : Sim B D ρ H w) {t : TypeId} {b off : Nat} {v : AV} (hb : D b) (he : loadAt P H t b off = some v) :
    (Instr.loadAt t (conc ρ (.ptr b off))).run P w = .ok (conc ρ v) w ∧ v.within D := by
  unfold loadAt at he
  split at he
  · rename_i ti cs ht hc
    obtain ⟨rest, e, fr, hw, hd⟩ := h.cells hb hc
    simp only [conc, Instr.loadAt, Instr.sureAddr, Sem.run_bind, Sem.run_pure, Result.andThen_ok]
    rw [run_loadVar ht hw]
    cases ha : ti.agg with
    | true =>
      simp only [ha, Option.map_eq_some_iff] at he
      obtain ⟨l, hs, rfl⟩ := he
      have hwl := seg_within hs hd
      rcases seg_spec hs with ⟨hl, hle⟩ | ⟨hz, rfl⟩
      · rw [if_pos rfl, if_pos (by simp; omega), conc_seg ρ rest hl hle]
        exact ⟨by simp [conc], hwl⟩
      · rw [if_pos rfl]
        refine ⟨?_, trivial⟩
        split
        · simp [hz, conc, concs]
        · simp [loadVar, run_isAgg ht, ha, run_sizeOf ht, hz, loadCells, loadCellsFrom, conc, concs]
    | false =>
      simp only [ha] at he
      rw [if_neg (by simp), conc_getElem ρ cs off rest v he]
      exact ⟨rfl, withins_iff.1 hd v (List.mem_of_getElem? he)⟩
  · cases he

/-! ### Stores -/
theorem run_store_row {b off : Nat} {l : List Value} {e : TypeId} (h : w.heap[b]? = some (.cells l.toArray e (0, 0))) (hlt : off < l.length) (v : Value)
    (hv : ∀ x, v ≠ .agg x) (hv' : ∀ x, v ≠ .tuple x) :
    (store ⟨b, off, none⟩ v).run P w = .ok () { w with heap := w.heap.setIfInBounds b (.cells (l.set off v).toArray e (0, 0)) } := by
  have e1 : (store ⟨b, off, none⟩ v).run P w = .ok () (w.setCell ⟨b, off, none⟩ v) := by
    cases v <;> first
      | exact absurd rfl (hv _)
      | exact absurd rfl (hv' _)
      | simp [store, Sem.run, cell_of h, List.getElem?_eq_getElem hlt, frozen_of h]
  rw [e1]
  congr 1
  unfold World.setCell
  congr 1
  apply Array.ext_getElem?
  intro k
  rw [Array.getElem?_modify, Array.getElem?_setIfInBounds]
  have hb : b < w.heap.size := (Array.getElem?_eq_some_iff.1 h).1
  by_cases hk : b = k
  · subst hk
    simp [hb, (Array.getElem?_eq_some_iff.1 h).2]
  · simp [hk]

theorem setSame {α : Type} (a : Array α) (i : Nat) (x : α) (h : a[i]? = some x) : a.setIfInBounds i x = a := by
  apply Array.ext_getElem?
  intro k
  rw [Array.getElem?_setIfInBounds]
  split
  · rename_i hk; subst hk; simp only [(Array.getElem?_eq_some_iff.1 h).1, if_true]; exact h.symm
  · rfl

def Value.atom : Value → Bool
  | .agg _ | .tuple _ => false
  | _ => true

theorem run_storeCells {b off : Nat} {e : TypeId} : ∀ (vs : List Value) (i : Nat) (l : List Value) (w : World), w.heap[b]? = some (.cells l.toArray e (0, 0)) →
    off + i + vs.length ≤ l.length → (∀ v ∈ vs, Value.atom v = true) →
    (storeCells ⟨b, off, none⟩ vs i).run P w = .ok () { w with heap := w.heap.setIfInBounds b (.cells (l.take (off + i) ++ (vs ++ l.drop (off + i + vs.length))).toArray e (0, 0)) } := by
  intro vs
  induction vs with
  | nil =>
    intro i l w h hle _
    simp only [storeCells, Sem.run_pure, List.nil_append, List.length_nil, Nat.add_zero, List.take_append_drop]
    rw [setSame _ _ _ h]
  | cons v vs ih =>
    intro i l w h hle ha
    have hlt : off + i < l.length := by simp at hle; omega
    have hv := ha v (by simp)
    simp only [storeCells, Sem.run_bind, Addr.add_plain]
    rw [run_store_row h hlt v (fun x e => by rw [e] at hv; cases hv) (fun x e => by rw [e] at hv; cases hv)]
    simp only [Result.andThen_ok]
    have hb : b < w.heap.size := (Array.getElem?_eq_some_iff.1 h).1
    rw [ih (i + 1) (l.set (off + i) v) _ (by simp [hb]) (by simp at hle ⊢; omega) (fun x hx => ha x (by simp [hx]))]
    congr 1
    simp only [Array.setIfInBounds_setIfInBounds]
    congr 3
    have e1 : off + (i + 1) = off + i + 1 := by omega
    rw [e1, List.take_set, List.drop_set_of_lt (by omega), List.set_eq_take_append_cons_drop]
    have : (l.take (off + i + 1)).length = off + i + 1 := by simp; omega
    rw [if_pos (by omega)]
    simp [List.take_take, Nat.add_assoc, Nat.add_comm 1]
end Go.Ev

