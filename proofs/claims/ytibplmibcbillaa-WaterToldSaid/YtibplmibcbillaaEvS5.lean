/-
  The operations, one by one: structs, arrays and slices that are made.
-/
import Derived.Test.YtibplmibcbillaaEvS4
set_option linter.unusedSimpArgs false
set_option linter.unusedVariables false
namespace Go.Ev
open Go.RowKit

variable {P : Program} {w : World}

theorem fold_set (off : Nat) : ∀ (l : List Value) (k : Nat) (xs : List Value), off + k + l.length ≤ xs.length →
    (l.zipIdx k).foldl (fun (cs : Array Value) (p : Value × Nat) => cs.setIfInBounds (off + p.2) p.1) xs.toArray = (xs.take (off + k) ++ (l ++ xs.drop (off + k + l.length))).toArray := by
  intro l
  induction l with
  | nil => intro k xs h; simp
  | cons v l ih =>
    intro k xs h
    simp only [List.zipIdx_cons, List.foldl_cons, List.setIfInBounds_toArray]
    rw [ih (k + 1) (xs.set (off + k) v) (by simp at h ⊢; omega)]
    congr 1
    have e1 : off + (k + 1) = off + k + 1 := by omega
    have hlt : off + k < xs.length := by simp at h; omega
    rw [e1, List.take_set, List.drop_set_of_lt (by omega), List.set_eq_take_append_cons_drop]
    have : (xs.take (off + k + 1)).length = off + k + 1 := by simp; omega
    rw [if_pos (by omega)]
    simp [List.take_take, Nat.add_assoc, Nat.add_comm 1]

theorem fill_sound (ρ : Ren) (D : Nat → Prop) (place : Nat → Option (Nat × Nat)) : ∀ (vs : List (Nat × AV)) (z cs : List AV), fillS place z vs = some cs → AV.withins D z → (∀ p ∈ vs, p.2.within D) →
    Instr.fill place (concs ρ z).toArray (vs.map fun p => (p.1, conc ρ p.2)) = some (concs ρ cs).toArray ∧ AV.withins D cs := by
  intro vs
  induction vs with
  | nil => intro z cs h hz _; cases h; exact ⟨rfl, hz⟩
  | cons p vs ih =>
    intro z cs h hz hv
    obtain ⟨i, v⟩ := p
    unfold fillS at h
    split at h
    · cases h
    · rename_i off size hp
      split at h
      · rename_i hb
        have hb := Nat.eq_of_beq_eq_true hb
        split at h
        · rename_i l hl
          have hvw := cells_within (hv (i, v) (by simp))
          obtain ⟨h1, h2⟩ := ih l cs h (spl_within hl hz hvw) (fun p hp => hv p (by simp [hp]))
          refine ⟨?_, h2⟩
          have hle := (spl_spec hl).2
          simp only [List.map_cons, Instr.fill, hp, conc_cells, List.size_toArray, concs_length]
          rw [if_neg (by simp [hb]; omega)]
          rw [← h1]
          congr 1
          have := fold_set off (concs ρ v.cells) 0 (concs ρ z) (by simpa using hle)
          have sc := splice_conc ρ [] hl
          simp only [List.append_nil] at sc
          rw [Nat.add_zero, sc] at this
          rw [← this, ← Array.foldl_toList]
          simp
        · cases h
      · cases h

theorem parts_sound {D : Nat → Prop} {ρ : Ren} {T : Tr AV} {a : Act} (hT : TR D ρ T a.tmps) : ∀ (xs : List (Nat × Operand)) (vs : List (Nat × AV)), parts T xs = some vs →
    xs.map (fun p => (p.1, a.eval p.2)) = vs.map (fun p => (p.1, conc ρ p.2)) ∧ ∀ p ∈ vs, p.2.within D := by
  intro xs
  induction xs with
  | nil => intro vs h; cases h; exact ⟨rfl, fun p hp => by cases hp⟩
  | cons x xs ih =>
    intro vs h
    obtain ⟨i, x⟩ := x
    unfold parts at h
    split at h
    · rename_i v l hv hl
      cases h
      obtain ⟨e, k⟩ := opd_sound hT hv
      obtain ⟨e2, k2⟩ := ih l hl
      refine ⟨by simp [e, e2], fun p hp => ?_⟩
      simp only [List.mem_cons] at hp
      rcases hp with rfl | hp
      · exact k
      · exact k2 p hp
    · cases h

theorem places_run : ∀ (fs : List Field) (pl : List (Nat × Nat)), placesOf P fs = some pl →
    (fs.mapM (m := Sem) fun f => do pure (f.offset, ← sizeOf f.type)).run P w = .ok pl w := by
  intro fs
  induction fs with
  | nil => intro pl h; cases h; rfl
  | cons f fs ih =>
    intro pl h
    unfold placesOf at h
    split at h
    · rename_i ti l ht hl
      cases h
      simp only [List.mapM_cons, Sem.run_bind, run_sizeOf ht, Result.andThen_ok, Sem.run_pure, ih l hl]
    · cases h

section
variable {a : Act} {B : Nat} {D : Nat → Prop} {ρ : Ren} {H : Heap} {T : Tr AV}

theorem build_sound {o : Oper} {t : TypeId} {ps : Array (Nat × Operand)} {out : Out} (ho : o.op = .build t ps) (hs : Sim B D ρ H w) (hT : TR D ρ T a.tmps) (he : evBuild P T H t ps = some out) :
    OpOK P a o B D ρ H w out := by
  unfold evBuild at he
  split at he
  · rename_i ti vs ht hvs
    obtain ⟨e, k⟩ := parts_sound hT _ _ hvs
    have e' : ((ps.map fun (i, x) => (i, a.eval x)) : Array (Nat × Value)).toList = vs.map (fun p => (p.1, conc ρ p.2)) := by
      rw [← e]; simp
    split at he
    · rename_i z fs hz hd
      obtain ⟨v, hr, hc, hw, _⟩ := run_zero (w := w) ρ D ht hz
      obtain ⟨arr, hu, ha⟩ := under_struct ht hd
      split at he
      · rename_i pl hpl
        simp only [Option.map_eq_some_iff] at he
        obtain ⟨cs, hcs, rfl⟩ := he
        obtain ⟨f1, f2⟩ := fill_sound ρ D _ vs z cs hcs hw k
        refine ok_pure hs ?_ f2
        have hcells : v.cells = (concs ρ z).toArray := by rw [← hc]
        have hpl' : ((arr.mapM (m := Sem) fun f => do pure (f.offset, ← sizeOf f.type))).run P w = .ok pl.toArray w := by
          rw [Array.mapM_eq_mapM_toList, Sem.run_map, ha, places_run fs pl hpl]
          rfl
        have hpe : (fun i : Nat => pl.toArray[i]?) = fun i => pl[i]? := by funext i; simp
        simp only [execOp, ho, Instr.build, Sem.run_bind, hr, Result.andThen_ok, run_under hu, hpl', e', hcells, hpe, f1, Sem.run_pure, conc]
      · cases he
    · rename_i z n el hz hd
      obtain ⟨v, hr, hc, hw, _⟩ := run_zero (w := w) ρ D ht hz
      have hu := under_array ht hd
      split at he
      · rename_i ei hei
        simp only [Option.map_eq_some_iff] at he
        obtain ⟨cs, hcs, rfl⟩ := he
        obtain ⟨f1, f2⟩ := fill_sound ρ D _ vs z cs hcs hw k
        refine ok_pure hs ?_ f2
        have hcells : v.cells = (concs ρ z).toArray := by rw [← hc]
        simp only [execOp, ho, Instr.build, Sem.run_bind, hr, Result.andThen_ok, run_under hu, run_sizeOf hei, e', hcells, f1, Sem.run_pure, conc]
      · cases he
    · cases he
  · cases he

theorem rep_length (z : List AV) (n : Nat) : (rep z n).length = n * z.length := by
  induction n with
  | zero => simp [rep]
  | succ n ih => simp [rep, ih, Nat.succ_mul, Nat.add_comm]

theorem rep_get (z : List AV) (n i : Nat) (h : i < n * z.length) : (rep z n)[i]? = z[i % z.length]? := by
  induction n generalizing i with
  | zero => omega
  | succ n ih =>
    rw [rep]
    by_cases hi : i < z.length
    · rw [List.getElem?_append_left hi, Nat.mod_eq_of_lt hi]
    · have h' : (n + 1) * z.length = n * z.length + z.length := Nat.succ_mul _ _
      rw [List.getElem?_append_right (by omega), ih (i - z.length) (by omega)]
      rw [← Nat.mod_eq_sub_mod (by omega)]

theorem rep_within {z : List AV} (h : AV.withins D z) (n : Nat) : AV.withins D (rep z n) := by
  induction n with
  | zero => trivial
  | succ n ih =>
    refine withins_iff.2 fun v hv => ?_
    simp only [rep, List.mem_append] at hv
    exact hv.elim (fun hv => withins_iff.1 h v hv) (fun hv => withins_iff.1 ih v hv)

theorem rep_cells (ρ : Ren) (z : List AV) (n sz : Nat) (hz : z.length = sz) :
    (Array.range (n * sz)).map (fun i => (concs ρ z).toArray[i % (concs ρ z).toArray.size]!) = (concs ρ (rep z n)).toArray := by
  subst hz
  apply Array.ext_getElem?
  intro i
  by_cases hi : i < n * z.length
  · have hz : 0 < z.length := by
      rcases Nat.eq_zero_or_pos z.length with h | h
      · rw [h] at hi; omega
      · exact h
    have hm : i % z.length < z.length := Nat.mod_lt _ hz
    rw [Array.getElem?_map]
    simp only [Array.getElem?_range, hi, if_true, Option.map_some, List.size_toArray, List.getElem?_toArray, concs_map, List.getElem?_map, rep_get z n i hi]
    rw [List.getElem?_eq_getElem hm]
    simp [hm]
  · rw [Array.getElem?_eq_none (by simp; omega), Array.getElem?_eq_none (by simp [rep_length]; omega)]

theorem buildSlice_sound {o : Oper} {t : TypeId} {len : Nat} {ps : Array (Nat × Operand)} {out : Out} (ho : o.op = .buildSlice t len ps) (hs : Sim B D ρ H w) (hT : TR D ρ T a.tmps)
    (he : evBuildSlice P T H t len ps = some out) : OpOK P a o B D ρ H w out := by
  unfold evBuildSlice at he
  split at he
  · rename_i ag sz0 by0 z0 e vs ht hvs
    obtain ⟨ep, k⟩ := parts_sound hT _ _ hvs
    have e' : ((ps.map fun (i, x) => (i, a.eval x)) : Array (Nat × Value)).toList = vs.map (fun p => (p.1, conc ρ p.2)) := by
      rw [← ep]; simp
    have hu := under_slice ht rfl
    split at he
    · rename_i ag1 sz by1 z d1 hei
      split at he
      · rename_i h1 h2
        have h1 := Nat.le_of_ble_eq_true h1
        have h2 := Nat.eq_of_beq_eq_true h2
        simp only [Option.map_eq_some_iff] at he
        obtain ⟨cs, hcs, rfl⟩ := he
        obtain ⟨v, hr, hc, hw, _⟩ := run_zero (w := w) ρ D hei rfl
        obtain ⟨f1, f2⟩ := fill_sound ρ D _ vs _ cs hcs (rep_within hw len) k
        refine ⟨_, _, _, ?_, post_new hs 0 (.cells cs e) (.cells (concs ρ cs).toArray e (0, 0)) ⟨rfl, f2⟩, .inr rfl⟩
        have hcells : v.cells = (concs ρ z).toArray := by rw [← hc]
        have hrow := rep_cells ρ z len sz h2
        simp only [execOp, ho, Instr.buildSlice, Sem.run_bind, run_under hu, Result.andThen_ok, run_sizeOf hei]
        rw [if_neg (by omega)]
        by_cases hz : len * sz = 0
        · have : (concs ρ (rep z len)).toArray = #[] := by rw [← hrow, hz]; simp
          rw [this] at f1
          have e3 : (Array.map (fun x : Nat => (#[] : Array Value)[x % (#[] : Array Value).size]!) (Array.range 0)) = #[] := by simp
          simp only [hz, if_true, Sem.run_bind, Sem.run_pure, Result.andThen_ok, e', e3, f1]
          simp [newRow, newObj, Sem.run, conc]
        · rw [if_neg hz]
          simp only [Sem.run_bind, hr, Result.andThen_ok, Sem.run_pure, hcells, hrow, e', f1]
          simp [newRow, newObj, Sem.run, conc]
      · cases he
    · cases he
  · cases he

theorem makeSlice_sound {o : Oper} {t : TypeId} {l c : Operand} {out : Out} (ho : o.op = .makeSlice t l c) (hs : Sim B D ρ H w) (hT : TR D ρ T a.tmps) (he : evMakeSlice P T H t l c = some out) :
    OpOK P a o B D ρ H w out := by
  unfold evMakeSlice at he
  split at he
  · rename_i ag0 sz0 by0 z0 e n m ht hl hc
    have hu := under_slice ht rfl
    obtain ⟨el, kl⟩ := opd_sound hT hl
    obtain ⟨ec, kc⟩ := opd_sound hT hc
    split at he
    · rename_i ag1 sz by1 z d1 hei
      split at he
      · rename_i h1 h2 h3 h4
        have h1 := Nat.le_of_ble_eq_true h1
        have h2 := Nat.le_of_ble_eq_true h2
        have h3 := Nat.le_of_ble_eq_true h3
        have h4 := Nat.eq_of_beq_eq_true h4
        cases he
        obtain ⟨v, hr, hcz, hw, _⟩ := run_zero (w := w) ρ D hei rfl
        obtain ⟨i, d, s⟩ := mkTI_spec hei
        have hb : i.bytes = by1 := s.bytes.symm
        refine ⟨_, _, _, ?_, post_new hs 0 (.cells (rep z m) e) (.cells (concs ρ (rep z m)).toArray e (0, 0)) ⟨rfl, rep_within hw m⟩, .inr rfl⟩
        have hcells : v.cells = (concs ρ z).toArray := by rw [← hcz]
        have hrow := rep_cells ρ z m sz h4
        have on : Int.ofNat n = (n : Int) := rfl
        have om : Int.ofNat m = (m : Int) := rfl
        have wl : IntKind.i64.wrap (n : Int) = n := IntWalk.i64_in _ (by omega)
        have wc : IntKind.i64.wrap (m : Int) = m := IntWalk.i64_in _ (by omega)
        have hbig : (by1 : Int) * (m : Int) ≤ 1000000000000 := by
          have h5 : by1 * m ≤ 1000000 * 1000000 := Nat.mul_le_mul h3 h2
          have h6 : ((by1 * m : Nat) : Int) = (by1 : Int) * (m : Int) := Int.natCast_mul _ _
          omega
        have htl : ¬ ((by1 : Int) * (m : Int) > 2 ^ 48) := by
          have : (2 : Int) ^ 48 = 281474976710656 := by decide
          omega
        simp only [execOp, ho, el, ec, conc, Instr.makeSlice, Sem.run_bind, run_under hu, Result.andThen_ok, asInt, asIntOf, Sem.run_pure, run_info s.info, hb, on, om, wl, wc]
        have hcond : ((decide ((m : Int) < 0) || decide ((by1 : Int) * (m : Int) > 2 ^ 48)) || decide ((n : Int) < 0) || decide ((n : Int) > (m : Int))) = false := by
          rw [decide_eq_false (p := (m : Int) < 0) (by omega), decide_eq_false htl, decide_eq_false (p := (n : Int) < 0) (by omega), decide_eq_false (p := (n : Int) > (m : Int)) (by omega)]
          rfl
        have hroom : (askRoom (m * by1)).run P w = .ok () w := by
          unfold askRoom
          split <;> rfl
        rw [hcond]
        simp only [Bool.false_eq_true, if_false, Sem.run_bind, Sem.run_pure, Result.andThen_ok, Int.toNat_natCast, run_sizeOf hei, hroom]
        by_cases hz : m * sz = 0
        · have : (concs ρ (rep z m)).toArray = #[] := by rw [← hrow, hz]; simp
          have e3 : (Array.map (fun x : Nat => (#[] : Array Value)[x % (#[] : Array Value).size]!) (Array.range 0)) = #[] := by simp
          simp only [hz, if_true, Sem.run_bind, Sem.run_pure, Result.andThen_ok, e3, this]
          simp [newRow, newObj, Sem.run]
        · rw [if_neg hz]
          simp only [Sem.run_bind, hr, Result.andThen_ok, Sem.run_pure, hcells, hrow]
          simp [newRow, newObj, Sem.run]
      · cases he
    · cases he
  · cases he
end
end Go.Ev

