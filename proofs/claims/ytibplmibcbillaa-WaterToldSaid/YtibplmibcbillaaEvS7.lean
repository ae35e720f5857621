/-
  The operations, one by one: builtins, calls, maps.
-/
import Derived.Test.YtibplmibcbillaaEvS6
namespace Go.Ev
open Go.RowKit

variable {P : Program} {w : World}

section
variable {a : Act} {B : Nat} {D : Nat → Prop} {ρ : Ren} {H : Heap} {T : Tr AV}

theorem minmax_run (ρ : Ren) (mx : Bool) (k : IntKind) : ∀ (l : List AV) (x : Int) (v : AV), minmax mx k x l = some v →
    ((concs ρ l).foldlM (if mx then Builtin.max2 else Builtin.min2) (.int k x)).run P w = .ok (conc ρ v) w ∧ ∀ D : Nat → Prop, v.within D := by
  intro l
  induction l with
  | nil => intro x v h; cases h; exact ⟨rfl, fun _ => trivial⟩
  | cons y l ih =>
    intro x v h
    cases y <;> simp only [minmax, reduceCtorEq] at h
    rename_i k' y
    obtain ⟨h1, h2⟩ := ih _ _ h
    refine ⟨?_, h2⟩
    simp only [concs, conc, List.foldlM_cons, Sem.run_bind]
    cases mx with
    | true =>
      simp only [if_true, Builtin.max2, Sem.run_pure, Result.andThen_ok] at h1 ⊢
      rw [← h1]
      simp [ltI_eq]
    | false =>
      simp only [Bool.false_eq_true, if_false, Builtin.min2, Sem.run_pure, Result.andThen_ok] at h1 ⊢
      rw [← h1]
      simp [ltI_eq]

theorem len_run (hs : Sim B D ρ H w) {ts : Array TypeId} {ty t : TypeId} {x : AV} {n : Nat} (hts : ts.toList = [t]) (kx : x.within D) (he : lenF P H t x = some n) :
    (Builtin.len_ ts ty #[conc ρ x]).run P w = .ok (.int .i64 n) w := by
  have h0 : ts[0]? = some t := by rw [← Array.getElem?_toList, hts]; rfl
  unfold lenF at he
  split at he
  · rename_i ag sz by_ z e ht
    have hu := under_slice ht rfl
    cases x with
    | raw u => cases u <;> simp only [lenOf, Option.some.injEq, reduceCtorEq] at he <;> subst he <;> simp [Builtin.len_, h0, run_under hu, conc, goInt]
    | _ => simp only [lenOf, Option.some.injEq, reduceCtorEq] at he <;> subst he <;> simp [Builtin.len_, h0, run_under hu, conc, goInt]
  · rename_i ag sz by_ z m e ht
    have hu := under_array ht rfl
    cases he
    simp [Builtin.len_, h0, run_under hu, goInt]
  · rename_i ag sz by_ z ht
    obtain ⟨i, d, s⟩ := mkTI_spec ht
    have hd := s.d
    have hu : P.underlying t = some .string := by
      rw [s.under]
      cases d <;> simp [tdOf] at hd ⊢
    split at he
    · cases he; simp [Builtin.len_, h0, run_under hu, conc, goInt]
    · cases he
  · rename_i ag sz by_ z k e ht
    have hu := under_map ht rfl
    split at he
    · cases he; simp [Builtin.len_, h0, run_under hu, conc, goInt]
    · rename_i b
      split at he
      · rename_i es clock hg
        cases he
        obtain ⟨o, g, l⟩ := hs.live b kx
        rw [hg] at g; cases g
        rcases l with l | ⟨_, o', hw, rfl, _⟩
        · cases l
        · simp [Builtin.len_, h0, run_under hu, conc, goInt, getObj, Sem.run, hw]
      · cases he
    · cases he
  · cases he

theorem call_sound {o : Oper} {c : Call} {out : Out} (ho : o.op = .call c) (hs : Sim B D ρ H w) (hT : TR D ρ T a.tmps) (he : evCall P T H c = some out) : OpOK P a o B D ρ H w out := by
  unfold evCall at he
  split at he
  · rename_i args hargs
    obtain ⟨ea, ka⟩ := opds_sound hT _ _ hargs
    have ea' : c.args.map a.eval = (concs ρ args).toArray := Array.toList_inj.1 (by simpa using ea)
    split at he
    · rename_i f hc
      split at he
      · rename_i fv hf
        obtain ⟨ef, kf⟩ := opd_sound hT hf
        unfold callV at he
        split at he
        · rename_i g first cap
          cases he
          refine ⟨?_, ?_⟩
          · simp only [execOp, ho, resolve, hc, ef, conc, Deferred.ofValue, Sem.run_bind, Sem.run_pure, Result.andThen_ok, invoke, ea', concs_append]
            congr 2
            apply Array.toList_inj.1
            simp
          · refine withins_iff.2 fun v hv => ?_
            simp only [List.mem_append] at hv
            rcases hv with hv | hv | hv
            · exact withins_iff.1 kf.1 v hv
            · exact withins_iff.1 ka v hv
            · exact withins_iff.1 kf.2 v hv
        · cases he
          refine ⟨?_, kf, ka⟩
          simp [execOp, ho, resolve, hc, ef, conc, Deferred.ofValue, invoke, ea']
        · cases he
      · cases he
    · rename_i b hc
      have red : ∀ (r : Value) (w' : World) (s : Sem Value), (∀ ty cs, builtin b c.argTypes ty cs (concs ρ args).toArray = (do pure (.value (← s)) : Sem Next)) → s.run P w = .ok r w' → (execOp a.eval o).run P w = .ok (.value r) w' := by
        intro r w' s h1 h2
        simp only [execOp, ho, resolve, hc, ea', Sem.run_bind, Sem.run_pure, Result.andThen_ok, invoke, h1, h2]
      unfold builtinF at he
      split at he
      · rename_i t x hty
        simp only [Option.map_eq_some_iff] at he
        obtain ⟨n, hn, rfl⟩ := he
        refine ok_pure hs ?_ trivial
        exact red _ _ (Builtin.len_ c.argTypes 0 #[conc ρ x]) (fun ty cs => rfl) (len_run hs hty ka.1 hn)
      · rename_i t u s x hty
        simp only [Option.map_eq_some_iff] at he
        obtain ⟨⟨v, H'⟩, hv, rfl⟩ := he
        obtain ⟨D', ρ', w', h1, h2, h3⟩ := append_sound (ty := 0) hty hs ka.1 ka.2.1 hv
        exact ⟨D', ρ', w', red _ _ (Builtin.append_ c.argTypes 0 #[conc ρ s, conc ρ x]) (fun ty cs => rfl) h1, h2, h3⟩
      · rename_i t u b off len cap s hty
        have h0 : c.argTypes[0]? = some t := by rw [← Array.getElem?_toList, hty]; rfl
        unfold copyAt at he
        split at he
        · rename_i ag0 sz0 by0 z0 e ht
          split at he
          · rename_i ei hei
            split at he
            · rename_i new n cs el hnew hn hb
              split at he
              · rename_i h1 h2
                simp only [Option.map_eq_some_iff] at he
                obtain ⟨l, hl, rfl⟩ := he
                obtain ⟨e1, e2, e3⟩ := elems_sound (P := P) hs ka.2.1 hnew hn
                obtain ⟨w', hr, hp⟩ := write_part (P := P) (o := .cells cs el) (l := l) hs ka.1 hb rfl nofun hl e2 h2
                refine ⟨D, ρ, w', ?_, hp, trivial⟩
                have h1 := Nat.le_of_ble_eq_true h1
                have hlen : (Builtin.lenOf (conc ρ s)).run P w = .ok n w := by
                  cases s with
                  | raw u => cases u <;> simp only [lenOf, reduceCtorEq, Option.some.injEq] at hn; subst hn; rfl
                  | _ => simp only [lenOf, reduceCtorEq, Option.some.injEq] at hn <;> (try subst hn) <;> rfl
                have hmin : Nat.min n len = n := Nat.min_eq_left h1
                refine red _ w' (Builtin.copy_ c.argTypes 0 #[conc ρ (.slice b off len cap), conc ρ s]) (fun ty cs => rfl) ?_
                simp only [Builtin.copy_, h0, List.getElem?_toArray, List.getElem?_cons_zero, List.getElem?_cons_succ, Sem.run_bind, run_under (under_slice ht rfl), Result.andThen_ok]
                simp only [conc, Sem.run_bind, Sem.run_pure, hlen, Result.andThen_ok, run_sizeOf hei, hmin, e1, hr, goInt]
              · cases he
            · cases he
          · cases he
        · cases he
      · rename_i k x rest
        simp only [Option.map_eq_some_iff] at he
        obtain ⟨v, hv, rfl⟩ := he
        obtain ⟨h1, h2⟩ := minmax_run (P := P) (w := w) ρ true k rest x v hv
        exact ok_pure hs (red _ _ _ (fun ty cs => rfl) h1) (h2 D)
      · rename_i k x rest
        simp only [Option.map_eq_some_iff] at he
        obtain ⟨v, hv, rfl⟩ := he
        obtain ⟨h1, h2⟩ := minmax_run (P := P) (w := w) ρ false k rest x v hv
        exact ok_pure hs (red _ _ _ (fun ty cs => rfl) h1) (h2 D)
      · cases he
    · cases he
  · cases he
/-! ### Maps -/
theorem run_getObj {r : Nat} {o : Obj} (h : w.heap[r]? = some o) (hc : ∀ c e f, o ≠ .cells c e f) : (getObj r).run P w = .ok o w := by
  cases o <;> first | exact absurd rfl (hc _ _ _) | simp [getObj, Sem.run, h]

theorem run_setObj {r : Nat} {o o' : Obj} (h : w.heap[r]? = some o) (hc : ∀ c e f, o ≠ .cells c e f) : (setObj r o').run P w = .ok () { w with heap := w.heap.setIfInBounds r o' } := by
  cases o <;> first | exact absurd rfl (hc _ _ _) | simp [setObj, Sem.run, h]

theorem mapOf_live (hs : Sim B D ρ H w) {b : Nat} {es : List (AV × AV × Nat)} {clock : Nat} (hb : D b) (hg : H.get b = some (.map es clock)) :
    w.heap[(ρ b).1]? = some (.map (es.map (entry ρ)).toArray clock) ∧ (∀ e ∈ es, e.1.within D ∧ e.2.1.within D) ∧ Own (H.get b) := by
  obtain ⟨o, g, l⟩ := hs.live b hb
  rw [hg] at g; cases g
  rcases l with l | ⟨_, o', hw, rfl, hd⟩
  · cases l
  · exact ⟨hw, hd, by rw [hg]; exact ⟨nofun, nofun⟩⟩

theorem zeroV_run (ρ : Ren) (D : Nat → Prop) {t : TypeId} {z : AV} (h : zeroV P t = some z) : (zeroValue t).run P w = .ok (conc ρ z) w ∧ z.within D := by
  unfold zeroV at h
  split at h
  · rename_i i hi
    split at h
    · rename_i v hv
      obtain ⟨h1, h2⟩ := av_spec ρ D h
      exact ⟨by simp [zeroValue, run_info hi, hv, h1], h2⟩
    · cases h
  · cases h

theorem chk_run (ρ : Ren) (emp : Bool) : ∀ (d : Nat) (t : TypeId) (x : AV), chkT P d t x = true → ∀ n, (Instr.checkKey emp (n + d) t (conc ρ x)).run P w = .ok () w := by
  intro d
  induction d with
  | zero => intro t x h; cases h
  | succ d ih =>
    intro t x h n
    unfold chkT at h
    rw [← Nat.add_assoc]
    split at h
    · rename_i hu; simp [Instr.checkKey, run_under hu]
    · rename_i hu; simp [Instr.checkKey, run_under hu]
    · rename_i hu; simp [Instr.checkKey, run_under hu]
    · rename_i fs xs hu
      simp only [Instr.checkKey, Sem.run_bind, run_under hu, Result.andThen_ok, conc]
      rw [← Array.forIn_toList]
      generalize fs.toList = l at h
      clear hu
      induction l with
      | nil => simp
      | cons f fs ihf =>
        unfold chkT.chkFs at h
        split at h
        · rename_i v hv hn
          have hn' : f.name ≠ "_" := by simpa using hn
          split at h
          · rename_i hr
            simp only [List.forIn_cons, Sem.run_bind, if_pos hn', (run_part ρ (fun _ => True) hv (withins_true _)).1, Result.andThen_ok, ih _ _ hr n, Sem.run_pure]
            exact ihf h
          · cases h
        · cases h
    · rename_i len e xs hu
      split at h
      · rename_i ei he
        simp only [Instr.checkKey, Sem.run_bind, run_under hu, Result.andThen_ok, conc]
        simp only [Std.Legacy.Range.forIn_eq_forIn_range', Std.Legacy.Range.size, Nat.sub_zero, Nat.add_one_sub_one, Nat.div_one]
        clear hu
        generalize 0 = j at h ⊢
        induction len generalizing j with
        | zero => simp
        | succ len ihl =>
          unfold chkT.chkAs at h
          split at h
          · rename_i v hv
            split at h
            · rename_i hr
              simp only [List.range'_succ, List.forIn_cons, Sem.run_bind, run_sizeOf he, (run_part ρ (fun _ => True) hv (withins_true _)).1, Result.andThen_ok, ih _ _ hr n, Sem.run_pure]
              exact ihl _ h
            · cases h
          · cases h
      · cases h
    · cases h

/-- Keys that are one by the evaluator are one by the model. -/
theorem findAsking_run (ρ : Ren) (t : TypeId) (k : AV) : ∀ (es : List (AV × AV × Nat)) (i : Nat) (r : Option (Nat × AV × Nat)), findK P t k es i = some r →
    (Instr.findAsking t (conc ρ k) (es.map (entry ρ)) i).run P w = .ok (r.map fun x => (x.1, conc ρ x.2.1)) w := by
  intro es
  induction es with
  | nil => intro i r h; cases h; rfl
  | cons e es ih =>
    intro i r h
    obtain ⟨k', v, born⟩ := e
    unfold findK at h
    have hq : ∀ b, eqT P 8 t k k' = some b → (Op.equal t (conc ρ k) (conc ρ k')).run P w = .ok b w := fun b hb => by
      have := eqT_run (P := P) (w := w) ρ 8 t _ _ b hb 9992
      simpa [Op.equal, Op.maxDepth] using this
    split at h
    · rename_i hb
      cases h
      simp [Instr.findAsking, entry, hq _ hb]
    · rename_i hb
      simp only [List.map_cons, Instr.findAsking, entry, Sem.run_bind, hq _ hb, Result.andThen_ok, Bool.false_eq_true, if_false]
      exact ih _ _ h
    · cases h

theorem sameNow_eqT (w : World) {t : TypeId} {d : TypeDesc} (hu : P.underlying t = some d) {x y : AV} {b b' : Bool} (h1 : Instr.sameNow d (conc ρ x) (conc ρ y) = some b') (h2 : eqT P 8 t x y = some b) : b = b' := by
  have := eqT_run (P := P) (w := w) ρ 8 t _ _ b h2 0
  generalize conc ρ x = u at *
  generalize conc ρ y = v at *
  rw [show 0 + 8 = 7 + 1 from rfl] at this
  unfold Instr.sameNow at h1
  split at h1
  · rename_i k a k' c
    split at h1
    · rename_i hk
      cases h1
      subst hk
      rw [run_equalIn_int w 7 t _ _ _ _ hu] at this
      cases this; rfl
    · cases h1
  · cases h1
    rw [Op.equalIn] at this
    simp only [Sem.run_bind, run_under hu, Result.andThen_ok, Sem.run_pure, Result.ok.injEq, and_true] at this
    exact this.symm
  · cases h1
    rw [Op.equalIn] at this
    simp only [Sem.run_bind, run_under hu, Result.andThen_ok, Sem.run_pure, Result.ok.injEq, and_true] at this
    exact this.symm
  · cases h1

theorem findNow_eq (ρ : Ren) {t : TypeId} {d : TypeDesc} (hu : P.underlying t = some d) (k : AV) : ∀ (es : List (AV × AV × Nat)) (i : Nat) (r : Option (Nat × AV × Nat)) (r' : Option (Nat × Value)),
    findK P t k es i = some r → Instr.findNow d (conc ρ k) (es.map (entry ρ)) i = some r' → r' = r.map fun x => (x.1, conc ρ x.2.1) := by
  intro es
  induction es with
  | nil => intro i r r' h h'; cases h; cases h'; rfl
  | cons e es ih =>
    intro i r r' h h'
    obtain ⟨k', v, born⟩ := e
    unfold findK at h
    simp only [List.map_cons, Instr.findNow, entry] at h'
    cases hq : eqT P 8 t k k' with
    | none => rw [hq] at h; cases h
    | some b =>
      rw [hq] at h
      cases hs : Instr.sameNow d (conc ρ k) (conc ρ k') with
      | none => rw [hs] at h'; cases h'
      | some b' =>
        rw [hs] at h'
        have := sameNow_eqT default hu hs hq
        subst this
        cases b with
        | true => cases h; cases h'; rfl
        | false => exact ih _ _ _ h h'

theorem findKey_run (ρ : Ren) {t : TypeId} {k : AV} {es : List (AV × AV × Nat)} {r : Option (Nat × AV × Nat)} {d : TypeDesc} (hu : P.underlying t = some d) (h : findK P t k es 0 = some r) :
    (Instr.findKey t (conc ρ k) (es.map (entry ρ))).run P w = .ok (r.map fun x => (x.1, conc ρ x.2.1)) w := by
  simp only [Instr.findKey, Sem.run_bind, run_under hu, Result.andThen_ok]
  split
  · rename_i r' hr
    rw [findNow_eq ρ hu k es 0 r r' h hr]
    rfl
  · exact findAsking_run ρ t k es 0 r h

theorem chk_under {t : TypeId} {x : AV} {d : Nat} (h : chkT P d t x = true) : ∃ d, P.underlying t = some d := by
  cases d with
  | zero => cases h
  | succ d =>
    unfold chkT at h
    split at h <;> first | exact ⟨_, by assumption⟩ | cases h

theorem findK_mem {t : TypeId} {k : AV} : ∀ (es : List (AV × AV × Nat)) (i j : Nat) (v : AV) (born : Nat), findK P t k es i = some (some (j, v, born)) →
    i ≤ j ∧ ∃ k', es[j - i]? = some (k', v, born) := by
  intro es
  induction es with
  | nil => intro i j v born h; cases h
  | cons e es ih =>
    intro i j v born h
    obtain ⟨k', v', born'⟩ := e
    unfold findK at h
    split at h
    · cases h; exact ⟨Nat.le_refl _, k', by simp⟩
    · obtain ⟨h1, k2, h2⟩ := ih _ _ _ _ h
      refine ⟨by omega, k2, ?_⟩
      have : j - i = (j - (i + 1)) + 1 := by omega
      rw [this]; simpa using h2
    · cases h

theorem lookup_sound {o : Oper} {t : TypeId} {x k : Operand} {ok : Bool} {out : Out} (ho : o.op = .lookup t x k ok) (hs : Sim B D ρ H w) (hT : TR D ρ T a.tmps) (he : evLookup P T H t x k ok = some out) :
    OpOK P a o B D ρ H w out := by
  unfold evLookup at he
  split at he
  · rename_i ag sz by_ zz kt e m key ht hm hk
    obtain ⟨em, km⟩ := opd_sound hT hm
    obtain ⟨ek, kk⟩ := opd_sound hT hk
    have hu := under_map ht rfl
    split at he
    · rename_i es z hes hz hc
      obtain ⟨z1, z2⟩ := zeroV_run (P := P) (w := w) ρ D hz
      obtain ⟨d, hd⟩ := chk_under hc
      have hget : (m = .nilm ∧ es = []) ∨ ∃ b clock, m = .map b ∧ w.heap[(ρ b).1]? = some (.map (es.map (entry ρ)).toArray clock) ∧ ∀ e ∈ es, e.1.within D ∧ e.2.1.within D := by
        unfold mapOf at hes
        split at hes
        · cases hes; exact .inl ⟨rfl, rfl⟩
        · rename_i b
          split at hes
          · rename_i es' clock hg
            cases hes
            obtain ⟨h1, h2, _⟩ := mapOf_live hs km hg
            exact .inr ⟨b, clock, rfl, h1, h2⟩
          · cases hes
        · cases hes
      have hmem2 : ∀ e ∈ es, e.2.1.within D := by
        rcases hget with ⟨_, rfl⟩ | ⟨_, _, _, _, h2⟩
        · intro e he; cases he
        · exact fun e he => (h2 e he).2
      have chk := fun emp => chk_run (P := P) (w := w) ρ emp 8 kt key hc 9992
      simp only [Nat.reduceAdd] at chk
      have red : ∀ (f : Option (Nat × AV × Nat)) (v : Value) (b : Bool), findK P kt key es 0 = some f → (f.map (fun x => conc ρ x.2.1) = some v ∧ b = true ∨ f = none ∧ (zeroValue e).run P w = .ok v w ∧ b = false) →
          (execOp a.eval o).run P w = .ok (.value (if ok then .tuple #[v, .bool b] else v)) w := by
        intro f v b hf hv
        have key := findKey_run (P := P) (w := w) ρ hd hf
        rcases hget with ⟨rfl, rfl⟩ | ⟨b', clock, rfl, h1, _⟩
        · simp only [List.map_nil] at key
          rcases hv with ⟨hv, rfl⟩ | ⟨rfl, hv, rfl⟩
          · cases hf; cases hv
          · simp only [execOp, ho, em, ek, conc, Instr.lookup, Sem.run_bind, run_under hu, Result.andThen_ok, Sem.run_pure, chk, key, Option.map_none, hv]
        · rcases hv with ⟨hv, rfl⟩ | ⟨rfl, hv, rfl⟩
          · cases f with
            | none => cases hv
            | some f =>
              simp only [Option.map_some, Option.some.injEq] at hv
              subst hv
              simp only [execOp, ho, em, ek, conc, Instr.lookup, Sem.run_bind, run_under hu, Result.andThen_ok, Sem.run_pure, run_getObj h1 (fun _ _ _ h => by cases h), chk, key, Option.map_some]
          · simp only [execOp, ho, em, ek, conc, Instr.lookup, Sem.run_bind, run_under hu, Result.andThen_ok, Sem.run_pure, run_getObj h1 (fun _ _ _ h => by cases h), chk, key, Option.map_none, hv]
      split at he
      · rename_i i v born hf
        cases he
        obtain ⟨_, k', hmem⟩ := findK_mem es 0 i v born hf
        have wv := hmem2 _ (List.mem_of_getElem? hmem)
        have := red _ (conc ρ v) true hf (.inl ⟨rfl, rfl⟩)
        cases ok
        · exact ok_pure hs (by rw [this]; rfl) wv
        · exact ok_pure hs (by rw [this]; simp [conc, concs]) ⟨wv, trivial, trivial⟩
      · rename_i hf
        cases he
        have := red _ (conc ρ z) false hf (.inr ⟨rfl, z1, rfl⟩)
        cases ok
        · exact ok_pure hs (by rw [this]; rfl) z2
        · exact ok_pure hs (by rw [this]; simp [conc, concs]) ⟨z2, trivial, trivial⟩
      · cases he
    · cases he
  · cases he

theorem sameKey_bits (ρ : Ren) {x y : AV} (h : sameKey x y = true) : Instr.sameBits 10000 (conc ρ x) (conc ρ y) = true := by
  have atom : ∀ n x y, sameAtom x y = true → Instr.sameBits n (conc ρ x) (conc ρ y) = true := by
    intro n x y h
    unfold sameAtom at h
    split at h
    · simp only [Bool.and_eq_true] at h
      cases sameKind_eq h.1
      rw [eqI_eq] at h
      cases n <;> simpa [conc, Instr.sameBits] using h.2
    · cases n <;> simpa [conc, Instr.sameBits] using h
    · cases n <;> simpa [conc, Instr.sameBits] using h
    · cases h
  unfold sameKey at h
  split at h
  · rename_i xs ys
    have list : ∀ xs ys : List AV, sameAtoms xs ys = true → xs.length = ys.length ∧ ((concs ρ xs).zip (concs ρ ys)).all (fun (x, y) => Instr.sameBits 9999 x y) = true := by
      intro xs
      induction xs with
      | nil => intro ys h; cases ys <;> simp [sameAtoms] at h ⊢ <;> simp [concs]
      | cons x xs ih =>
        intro ys h
        cases ys with
        | nil => simp [sameAtoms] at h
        | cons y ys =>
          unfold sameAtoms at h
          split at h
          · rename_i hq
            obtain ⟨h1, h2⟩ := ih ys h
            refine ⟨by simp [h1], ?_⟩
            simp only [concs, List.zip_cons_cons, List.all_cons, atom 9999 x y hq, Bool.true_and]
            exact h2
          · cases h
    obtain ⟨h1, h2⟩ := list xs ys h
    show Instr.sameBits (9999 + 1) (.agg _) (.agg _) = true
    simp only [Instr.sameBits, List.size_toArray, concs_length, h1, beq_self_eq_true, Bool.true_and]
    exact h2
  · exact atom _ _ _ h

theorem map_setV (ρ : Ren) (k v : AV) : ∀ (es : List (AV × AV × Nat)) (i : Nat),
    (es.map (entry ρ)).modify i (fun e => { e with key := conc ρ k, val := conc ρ v }) = (setV es i k v).map (entry ρ) := by
  intro es
  induction es with
  | nil => intro i; cases i <;> rfl
  | cons e es ih =>
    intro i
    obtain ⟨k', v', b⟩ := e
    cases i with
    | zero => rfl
    | succ i => simp only [List.map_cons, List.modify_succ_cons, setV, ih]

theorem setV_within {es : List (AV × AV × Nat)} {k v : AV} (h : ∀ e ∈ es, e.1.within D ∧ e.2.1.within D) (hk : k.within D) (hv : v.within D) : ∀ i, ∀ e ∈ setV es i k v, e.1.within D ∧ e.2.1.within D := by
  induction es with
  | nil => intro i e he; cases i <;> cases he
  | cons x es ih =>
    intro i e he
    obtain ⟨k', v', b⟩ := x
    cases i with
    | zero =>
      simp only [setV, List.mem_cons] at he
      rcases he with rfl | he
      · exact ⟨hk, hv⟩
      · exact h e (by simp [he])
    | succ i =>
      simp only [setV, List.mem_cons] at he
      rcases he with rfl | he
      · exact h _ (by simp)
      · exact ih (fun e he => h e (by simp [he])) i e he
end
end Go.Ev

