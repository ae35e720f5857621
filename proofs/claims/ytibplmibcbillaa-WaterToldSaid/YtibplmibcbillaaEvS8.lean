/-
  The operations, one by one: maps that are written; and all operations together.
-/
import Derived.Test.YtibplmibcbillaaEvS7
namespace Go.Ev
open Go.RowKit

variable {P : Program} {w : World}

section
variable {a : Act} {B : Nat} {D : Nat → Prop} {ρ : Ren} {H : Heap} {T : Tr AV}

theorem stays {es : List (AV × AV × Nat)} {i : Nat} {k : AV} (h : keyAt es i k = true) :
    (Instr.keyThatStays ((((es.map (entry ρ)).toArray[i]?).map (·.key)).getD (conc ρ k)) (conc ρ k)).run P w = .ok (conc ρ k) w := by
  unfold keyAt at h
  split at h
  · rename_i e he
    have : (es.map (entry ρ)).toArray[i]? = some (entry ρ e) := by simp [he]
    rw [this]
    simp [Instr.keyThatStays, entry, sameKey_bits ρ h]
  · cases h

theorem modify_set {es : List (AV × AV × Nat)} {i : Nat} {k v : AV} :
    ((es.map (entry ρ)).toArray.modify i fun e => { e with key := conc ρ k, val := conc ρ v }) = ((setV es i k v).map (entry ρ)).toArray := by
  rw [← map_setV]
  simp

theorem mapUpdate_sound {o : Oper} {t : TypeId} {m k x : Operand} {out : Out} (ho : o.op = .mapUpdate t m k x) (hs : Sim B D ρ H w) (hT : TR D ρ T a.tmps) (he : evMapUpdate P T H t m k x = some out) :
    OpOK P a o B D ρ H w out := by
  unfold evMapUpdate at he
  split at he
  · rename_i ag sz by_ zz kt e b key v ht hm hk hx
    obtain ⟨em, km⟩ := opd_sound hT hm
    obtain ⟨ek, kk⟩ := opd_sound hT hk
    obtain ⟨ex, kx⟩ := opd_sound hT hx
    have hu := under_map ht rfl
    split at he
    · rename_i es clock hg hc
      obtain ⟨h1, h2, h3⟩ := mapOf_live hs km hg
      obtain ⟨d, hd⟩ := chk_under hc
      have chk := chk_run (P := P) (w := w) ρ false 8 kt key hc 9992
      simp only [Nat.reduceAdd] at chk
      have nc : ∀ c e f, (Obj.map (es.map (entry ρ)).toArray clock) ≠ .cells c e f := fun _ _ _ h => by cases h
      split at he
      · rename_i i v0 born hf
        split at he
        · rename_i hq
          cases he
          have key' := findKey_run (P := P) (w := w) ρ hd hf
          refine ⟨_, ?_, post_write hs b km h3 (.map (setV es i key v) clock) (.map ((setV es i key v).map (entry ρ)).toArray clock) ⟨rfl, setV_within h2 kk kx i⟩ ⟨nofun, nofun⟩⟩
          simp only [execOp, ho, em, ek, ex, conc, Instr.mapUpdate, Sem.run_bind, run_under hu, Result.andThen_ok, Sem.run_pure, run_getObj h1 nc, chk, key', Option.map_some, stays hq, run_setObj h1 nc, modify_set]
        · cases he
      · rename_i hf
        cases he
        have key' := findKey_run (P := P) (w := w) ρ hd hf
        refine ⟨_, ?_, post_write hs b km h3 (.map (es ++ [(key, v, clock)]) (clock + 1)) (.map ((es ++ [(key, v, clock)]).map (entry ρ)).toArray (clock + 1)) ⟨rfl, ?_⟩ ⟨nofun, nofun⟩⟩
        · simp only [execOp, ho, em, ek, ex, conc, Instr.mapUpdate, Sem.run_bind, run_under hu, Result.andThen_ok, Sem.run_pure, run_getObj h1 nc, chk, key', Option.map_none, run_setObj h1 nc]
          simp [entry]
        · intro e he
          rcases List.mem_append.1 he with he | he
          · exact h2 e he
          · simp only [List.mem_singleton] at he; subst he; exact ⟨kk, kx⟩
      · cases he
    · cases he
  · cases he

theorem getV_map {es : List (AV × AV × Nat)} {i : Nat} {k' v : AV} {born : Nat} (h : es[i]? = some (k', v, born)) : ((Option.map (fun x : MapEntry => (x.born : Int)) ((es.map (entry ρ)).toArray[i]?)).getD 0) = (born : Int) := by
  simp [h, entry]

theorem setV_same {es : List (AV × AV × Nat)} {i : Nat} {k k' v : AV} {born : Nat} (h : es[i]? = some (k', v, born)) :
    ((es.map (entry ρ)).toArray.modify i fun e => { e with key := conc ρ k }) = ((setV es i k v).map (entry ρ)).toArray := by
  have : ∀ (es : List (AV × AV × Nat)) (i : Nat), es[i]? = some (k', v, born) → (es.map (entry ρ)).modify i (fun e => { e with key := conc ρ k }) = (setV es i k v).map (entry ρ) := by
    intro es
    induction es with
    | nil => intro i h; cases h
    | cons e es ih =>
      intro i h
      obtain ⟨k2, v2, b2⟩ := e
      cases i with
      | zero => simp only [List.getElem?_cons_zero, Option.some.injEq, Prod.mk.injEq] at h; obtain ⟨rfl, rfl, rfl⟩ := h; rfl
      | succ i => simp only [List.map_cons, List.modify_succ_cons, setV, ih i (by simpa using h)]
  rw [← this es i h]
  simp

theorem mapEntry_sound {o : Oper} {t : TypeId} {m k : Operand} {out : Out} (ho : o.op = .mapEntry t m k) (hs : Sim B D ρ H w) (hT : TR D ρ T a.tmps) (he : evMapEntry P T H t m k = some out) :
    OpOK P a o B D ρ H w out := by
  unfold evMapEntry at he
  split at he
  · rename_i ag sz by_ zz kt e b key ht hm hk
    obtain ⟨em, km⟩ := opd_sound hT hm
    obtain ⟨ek, kk⟩ := opd_sound hT hk
    have hu := under_map ht rfl
    split at he
    · rename_i es clock z hg hz hc
      obtain ⟨h1, h2, h3⟩ := mapOf_live hs km hg
      obtain ⟨z1, z2⟩ := zeroV_run (P := P) (w := w) ρ D hz
      obtain ⟨d, hd⟩ := chk_under hc
      have chk := chk_run (P := P) (w := w) ρ false 8 kt key hc 9992
      simp only [Nat.reduceAdd] at chk
      have nc : ∀ c e f, (Obj.map (es.map (entry ρ)).toArray clock) ≠ .cells c e f := fun _ _ _ h => by cases h
      split at he
      · rename_i i v0 born hf
        split at he
        · rename_i hq
          cases he
          have key' := findKey_run (P := P) (w := w) ρ hd hf
          obtain ⟨_, k', hmem⟩ := findK_mem es 0 i v0 born hf
          simp only [Nat.sub_zero] at hmem
          have wv := (h2 _ (List.mem_of_getElem? hmem)).2
          refine ⟨D, ρ, _, ?_, post_write hs b km h3 (.map (setV es i key v0) clock) (.map ((setV es i key v0).map (entry ρ)).toArray clock) ⟨rfl, setV_within h2 kk wv i⟩ ⟨nofun, nofun⟩, ⟨wv, trivial, trivial⟩⟩
          simp only [execOp, ho, em, ek, conc, Instr.mapEntry, Sem.run_bind, run_under hu, Result.andThen_ok, Sem.run_pure, run_getObj h1 nc, chk, key', Option.map_some, stays hq, run_setObj h1 nc, setV_same hmem, getV_map hmem, concs, goInt]
        · cases he
      · rename_i hf
        cases he
        have key' := findKey_run (P := P) (w := w) ρ hd hf
        refine ⟨D, ρ, _, ?_, post_write hs b km h3 (.map (es ++ [(key, z, clock)]) (clock + 1)) (.map ((es ++ [(key, z, clock)]).map (entry ρ)).toArray (clock + 1)) ⟨rfl, ?_⟩ ⟨nofun, nofun⟩, ⟨z2, trivial, trivial⟩⟩
        · simp only [execOp, ho, em, ek, conc, Instr.mapEntry, Sem.run_bind, run_under hu, Result.andThen_ok, Sem.run_pure, run_getObj h1 nc, chk, key', Option.map_none, z1, run_setObj h1 nc, concs, goInt]
          simp [entry]
        · intro e he
          rcases List.mem_append.1 he with he | he
          · exact h2 e he
          · simp only [List.mem_singleton] at he; subst he; exact ⟨kk, z2⟩
      · cases he
    · cases he
  · cases he

theorem bornAt_run : ∀ (es es' : List (AV × AV × Nat)) (n : Nat) (v : AV), bornAt es n v = some es' →
    (∃ i, (es.map (entry ρ)).findIdx? (fun e => (e.born : Int) == (n : Int)) = some i ∧ (es.map (entry ρ)).modify i (fun e => { e with val := conc ρ v }) = es'.map (entry ρ)) ∧
    ((∀ e ∈ es, e.1.within D ∧ e.2.1.within D) → v.within D → ∀ e ∈ es', e.1.within D ∧ e.2.1.within D) := by
  intro es
  induction es with
  | nil => intro es' n v h; cases h
  | cons e es ih =>
    intro es' n v h
    obtain ⟨k, x, b⟩ := e
    unfold bornAt at h
    split at h
    · rename_i hb
      have hb := Nat.eq_of_beq_eq_true hb
      cases h
      subst hb
      refine ⟨⟨0, by simp [entry, List.findIdx?_cons], rfl⟩, fun hd hv e he => ?_⟩
      simp only [List.mem_cons] at he
      rcases he with rfl | he
      · exact ⟨(hd (k, x, b) (by simp)).1, hv⟩
      · exact hd e (by simp [he])
    · rename_i hb
      have hb := Nat.ne_of_beq_eq_false hb
      simp only [Option.map_eq_some_iff] at h
      obtain ⟨l, hl, rfl⟩ := h
      obtain ⟨⟨i, h1, h2⟩, h3⟩ := ih l n v hl
      refine ⟨⟨i + 1, ?_, ?_⟩, fun hd hv e he => ?_⟩
      · have : ((b : Int) == (n : Int)) = false := by simp; omega
        simp only [List.map_cons, List.findIdx?_cons, entry, this, Bool.false_eq_true, if_false]
        rw [h1]
        rfl
      · simp only [List.map_cons, List.modify_succ_cons, h2]
      · simp only [List.mem_cons] at he
        rcases he with rfl | he
        · exact hd _ (by simp)
        · exact h3 (fun e he => hd e (by simp [he])) hv e he

theorem entryStore_sound {o : Oper} {t : TypeId} {m s x : Operand} {out : Out} (ho : o.op = .entryStore t m s x) (hs : Sim B D ρ H w) (hT : TR D ρ T a.tmps) (he : evEntryStore T H m s x = some out) :
    OpOK P a o B D ρ H w out := by
  unfold evEntryStore at he
  split at he
  · rename_i b k n v hm hst hx
    obtain ⟨em, km⟩ := opd_sound hT hm
    obtain ⟨es', ks⟩ := opd_sound hT hst
    obtain ⟨ex, kx⟩ := opd_sound hT hx
    split at he
    · rename_i es clock hg
      obtain ⟨h1, h2, h3⟩ := mapOf_live hs km hg
      simp only [Option.map_eq_some_iff] at he
      obtain ⟨l, hl, rfl⟩ := he
      obtain ⟨⟨i, g1, g2⟩, g3⟩ := bornAt_run (ρ := ρ) (D := D) es l n v hl
      have nc : ∀ c e f, (Obj.map (es.map (entry ρ)).toArray clock) ≠ .cells c e f := fun _ _ _ h => by cases h
      have g1' : (es.map (entry ρ)).toArray.findIdx? (fun e => (e.born : Int) == Int.ofNat n) = some i := by
        rw [← g1]; simp
      refine ⟨_, ?_, post_write hs b km h3 (.map l clock) (.map (l.map (entry ρ)).toArray clock) ⟨rfl, g3 h2 kx⟩ ⟨nofun, nofun⟩⟩
      have g2' : ((es.map (entry ρ)).toArray.modify i fun e => { e with val := conc ρ v }) = (l.map (entry ρ)).toArray := by rw [← g2]; simp
      simp only [execOp, ho, em, es', ex, conc, Instr.entryStore, Sem.run_bind, Result.andThen_ok, Sem.run_pure, run_getObj h1 nc, asInt, asIntOf, g1', run_setObj h1 nc, g2']
    · cases he
  · cases he

/-- **An operation by the evaluator is the operation by the model.** -/
theorem evOp_sound {o : Oper} {out : Out} (hs : Sim B D ρ H w) (hT : TR D ρ T a.tmps) (he : evOp P T H o.op = some out) : OpOK P a o B D ρ H w out := by
  cases ho : o.op with
  | move x => rw [ho] at he; exact move_sound (.inl ho) hs hT he
  | assign x => rw [ho] at he; exact move_sound (.inr ho) hs hT he
  | pick c x y => rw [ho] at he; exact pick_sound ho hs hT he
  | alloc e => rw [ho] at he; exact alloc_sound ho hs he
  | box e x => rw [ho] at he; exact box_sound ho hs hT he
  | build t ps => rw [ho] at he; exact build_sound ho hs hT he
  | buildSlice t len ps => rw [ho] at he; exact buildSlice_sound ho hs hT he
  | load t x => rw [ho] at he; exact loadOp_sound ho hs hT he
  | store t x y => rw [ho] at he; exact store_sound ho hs hT he
  | nilCheck x => rw [ho] at he; exact nil_sound ho hs hT he
  | binOp op t x y u => rw [ho] at he; exact binOp_sound ho hs hT he
  | unOp op t x => rw [ho] at he; exact unOp_sound ho hs hT he
  | convert s d x => rw [ho] at he; exact conv_sound ho hs hT he
  | makeFunc fn first cap => rw [ho] at he; exact makeFunc_sound ho hs hT he
  | makeSlice t l c => rw [ho] at he; exact makeSlice_sound ho hs hT he
  | fieldAddr s x f => rw [ho] at he; exact fieldAddr_sound ho hs hT he
  | field s x f => rw [ho] at he; exact field_sound ho hs hT he
  | indexAddr t x i => rw [ho] at he; exact indexAddr_sound ho hs hT he
  | lookup t x k ok => rw [ho] at he; exact lookup_sound ho hs hT he
  | mapUpdate t m k x => rw [ho] at he; exact mapUpdate_sound ho hs hT he
  | mapEntry t m k => rw [ho] at he; exact mapEntry_sound ho hs hT he
  | entryStore t m s x => rw [ho] at he; exact entryStore_sound ho hs hT he
  | extract x i => rw [ho] at he; exact extract_sound ho hs hT he
  | call c => rw [ho] at he; exact call_sound ho hs hT he
  | makeMap t r =>
    rw [ho] at he
    cases r with
    | none => exact makeMap_sound ho hs he
    | some r => cases he
  | slice t x lo hi mx =>
    rw [ho] at he
    cases mx with
    | none => exact slice_sound ho hs hT he
    | some m => cases he
  | _ => rw [ho] at he; cases he
end
end Go.Ev

