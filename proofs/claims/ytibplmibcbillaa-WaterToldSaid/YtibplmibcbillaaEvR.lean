/-
  A step of a region; a region in the order of its text.
-/
import Derived.Test.YtibplmibcbillaaEvS8
import Derived.OrdersIn
namespace Go.Ev
open Go.RowKit

variable {P : Program} {w : World}

abbrev WF (ro : Option Nat) : Fence := { Fence.wide with round := ro }

def RetOK (B : Nat) (D : Nat → Prop) (ρ : Ren) (H : Heap) (w : World) (v : AV) (H' : Heap) : Ending → World → Prop :=
  fun e w' => ∃ D' ρ', e = .returned (conc ρ' v) ∧ Post B D ρ H w D' ρ' H' w' ∧ v.within D'

/-- What is known of a call by the evaluator. -/
def Good (P : Program) (rec : Rec) : Prop := ∀ j H v H', rec j H = some (v, H') → match j with
  | .fn f args => (∃ fn c, P.funcs[f]? = some fn ∧ fn.body = some c ∧ (fn.name == "runtime.NumGoroutine") = false) ∧
      ∀ B D ρ w n, Sim B D ρ H w → AV.withins D args → CallsIn Fence.wide n P f (concs ρ args).toArray w (RetOK B D ρ H w v H')
  | .round l args => ∀ B D ρ w n, Sim B D ρ H w → D l → AV.withins D args → ∃ r : Loop, w.heap[(ρ l).1]? = some (.loop r) ∧ args.length = r.params.size ∧
      RoundIn Fence.wide n P (ρ l).1 r.fn ((r.params.zip (concs ρ args).toArray).foldl (fun tmps (t, a) => tmps.setIfInBounds t a) r.tmps) r.assign r.body w (RetOK B D ρ H w v H')

noncomputable def stepR (P : Program) (rec : Rec) (ops : Array Oper) (o : Oper) (T : Tr AV) (H : Heap) : Option (AV × Heap) :=
  match wantedA ops o.guard T with
  | none => none
  | some false => some (undefA, H)
  | some true => match evOp P T H o.op with
    | none => none
    | some (.val v H) => some (v, H)
    | some (.unit H) => some (undefA, H)
    | some (.fn f args) => rec (.fn f args) H
    | some (.round l args) => rec (.round l args) H

theorem evStep_eq (rec : Rec) (ops : Array Oper) (o : Oper) (k : Tr AV → Heap → Option (Tr AV × Heap)) (T : Tr AV) (H : Heap) :
    evStep P rec ops o k T H = (stepR P rec ops o T H).bind fun r => k (putD T o.dst r.1) r.2 := by
  unfold stepR
  have e1 : evStep P rec ops o k T H = @Option.rec Bool (fun _ => Option (Tr AV × Heap)) none (fun b =>
      @Bool.rec (fun _ => Option (Tr AV × Heap)) (k (putD T o.dst undefA) H) (outOf rec T o.dst k H (evOp P T H o.op)) b) (wantedA ops o.guard T) := by
    cases o; rfl
  rw [e1]
  cases wantedA ops o.guard T with
  | none => rfl
  | some b =>
    cases b with
    | false => rfl
    | true =>
      cases he : evOp P T H o.op with
      | none => rfl
      | some out =>
        cases out with
        | val v H => rfl
        | unit H => rfl
        | fn f args =>
          show retOf (rec (.fn f args) H) T o.dst k = (rec (.fn f args) H).bind fun r => k (putD T o.dst r.1) r.2
          cases rec (.fn f args) H <;> rfl
        | round l args =>
          show retOf (rec (.round l args) H) T o.dst k = (rec (.round l args) H).bind fun r => k (putD T o.dst r.1) r.2
          cases rec (.round l args) H <;> rfl

theorem wanted_sound {D : Nat → Prop} {ρ : Ren} {T : Tr AV} {tm : Array Value} (hT : TR D ρ T tm) {ops : Array Oper} {o : Oper} {b : Bool} (h : wantedA ops o.guard T = some b) :
    Region.wanted o (yielded ops tm) = b := by
  unfold Region.wanted
  cases hg : o.guard with
  | none => rw [hg] at h; cases h; rfl
  | some g =>
    obtain ⟨j, want⟩ := g
    rw [hg] at h
    change (match (ops[j]?).bind (·.dst) with
      | some d => match T.get d with
        | some (.bool b) => some (b == want)
        | some (.raw _) => none
        | some _ => some false
        | none => none
      | none => some false) = some b at h
    simp only [yielded]
    cases hd : (ops[j]?).bind (·.dst) with
    | none => rw [hd] at h; cases h; simp
    | some d =>
      rw [hd] at h
      simp only at h
      cases hv : T.get d with
      | none => rw [hv] at h; cases h
      | some v =>
        rw [hv] at h
        obtain ⟨h1, h2, h3⟩ := hT d v hv
        have e : tm[d]? = some (conc ρ v) := by
          rw [Array.getElem?_eq_getElem h1, ← h2]
          simp [h1]
        simp only [Option.bind_some, e]
        cases v <;> simp only [Option.some.injEq, reduceCtorEq] at h <;> subst h <;> simp [conc]

theorem put_size (a : Act) (d : Option Tmp) (v : Value) : (a.put d v).tmps.size = a.tmps.size := by
  cases d <;> simp [Act.put]

theorem put_defers (a : Act) (d : Option Tmp) (v : Value) : (a.put d v).defers = a.defers := by
  cases d <;> simp [Act.put]

theorem TR.put {D : Nat → Prop} {ρ : Ren} {T : Tr AV} {a : Act} (hT : TR D ρ T a.tmps) {d : Option Tmp} (hd : ∀ t, d = some t → t < a.tmps.size) {v : AV} (hv : v.within D) :
    TR D ρ (putD T d v) (a.put d (conc ρ v)).tmps := by
  cases d with
  | none => exact hT
  | some d =>
    intro t u h
    change (T.set d v).get t = some u at h
    rw [get_set] at h
    have hs := hd d rfl
    simp only [Act.put]
    by_cases e : t = d
    · subst e
      simp only [if_true, Option.some.injEq] at h
      subst h
      refine ⟨by simpa using hs, ?_, hv⟩
      simp [Array.getD_eq_getD_getElem?, hs]
    · rw [if_neg e] at h
      obtain ⟨h1, h2, h3⟩ := hT t u h
      refine ⟨by simpa using h1, ?_, h3⟩
      rw [← h2]
      simp [Array.getD_eq_getD_getElem?, Ne.symm e]

section
variable {a : Act} {B : Nat} {D : Nat → Prop} {ρ : Ren} {H : Heap} {T : Tr AV} {rec : Rec}

theorem callFunc_enter {f : FuncId} {args : Array Value} {fn : Func} {c : Code} (h1 : P.funcs[f]? = some fn) (h2 : fn.body = some c) (h3 : (fn.name == "runtime.NumGoroutine") = false) :
    (callFunc f args).run P w = .ok (.enter f args) w := by
  simp only [callFunc, program, Sem.run_bind, Sem.run, Result.andThen_ok, h1, h3, Bool.false_eq_true, if_false, h2, Option.isNone_some, Sem.run_pure]

theorem yield_round {l : Nat} {args : Array Value} {r : Loop} (h1 : w.heap[l]? = some (.loop r)) (h2 : args.size = r.params.size) :
    (Instr.yield l args).run P w = .ok (.round l r.fn ((r.params.zip args).foldl (fun tmps (t, a) => tmps.setIfInBounds t a) r.tmps) r.assign r.body) w := by
  have hg : (Instr.getLoop l).run P w = .ok r w := by
    simp only [Instr.getLoop, Sem.run_bind, run_getObj h1 (fun _ _ _ h => by cases h), Result.andThen_ok, Sem.run_pure]
  simp only [Instr.yield, Sem.run_bind, hg, Result.andThen_ok]
  rw [if_neg (by simp [h2])]
  simp

theorem noDefer {o : Oper} {out : Out} (h : evOp P T H o.op = some out) : ∀ c, o.op ≠ .defer c := by
  intro c e
  rw [e] at h
  cases h

/-- **A step by the evaluator is a step by the model.** -/
theorem step_sound (hg : Good P rec) {ops : Array Oper} {o : Oper} {v : AV} {H1 : Heap} (hr : stepR P rec ops o T H = some (v, H1)) {i : Nat} (hi : ops[i]? = some o)
    (hs : Sim B D ρ H w) (hT : TR D ρ T a.tmps) {ro : Option Nat} {n : Nat} {Q : Exit → Act → World → Prop} {K : Act → World → Prop}
    (hK : ∀ D' ρ' w', Post B D ρ H w D' ρ' H1 w' → v.within D' → K (a.put o.dst (conc ρ' v)) w') : wpOpIn (WF ro) n P ops Q i K a w := by
  unfold wpOpIn
  rw [hi]
  simp only
  unfold stepR at hr
  split at hr
  · cases hr
  · rename_i hw
    cases hr
    rw [wanted_sound hT hw]
    simp only [Bool.false_eq_true, if_false]
    exact ⟨fun _ _ => trivial, hK D ρ w (Post.refl hs) trivial⟩
  · rename_i hw
    rw [wanted_sound hT hw]
    simp only [if_true]
    refine ⟨fun _ _ => trivial, ?_⟩
    split at hr
    · cases hr
    · rename_i u H2 he
      cases hr
      rw [Oper.semAt_eq _ _ _ (noDefer he)]
      obtain ⟨D', ρ', w', h1, h2, h3⟩ := evOp_sound hs hT he
      rw [h1]
      exact hK D' ρ' w' h2 h3
    · rename_i H2 he
      cases hr
      rw [Oper.semAt_eq _ _ _ (noDefer he)]
      obtain ⟨w', h1, h2⟩ := evOp_sound hs hT he
      rw [h1]
      exact hK D ρ w' h2 trivial
    · rename_i f args he
      rw [Oper.semAt_eq _ _ _ (noDefer he)]
      obtain ⟨h1, h2⟩ := evOp_sound hs hT he
      obtain ⟨⟨fn, c, q1, q2, q3⟩, hc⟩ := hg _ _ _ _ hr
      rw [h1, callFunc_enter q1 q2 q3]
      refine ⟨(fun h => by cases h), ?_⟩
      refine CallsIn.mono (hc B D ρ w (n - 1) hs h2) ?_
      rintro e w' ⟨D', ρ', rfl, hp, hv⟩
      exact hK D' ρ' w' hp hv
    · rename_i l args he
      rw [Oper.semAt_eq _ _ _ (noDefer he)]
      obtain ⟨h1, h2, h3⟩ := evOp_sound hs hT he
      obtain ⟨r, q1, q2, hc⟩ := hg _ _ _ _ hr B D ρ w (n - 1) hs h2 h3
      rw [h1, yield_round q1 (by simpa using q2)]
      refine ⟨(fun h => by cases h), ?_⟩
      refine RoundIn.mono hc ?_
      rintro e w' ⟨D', ρ', rfl, hp, hv⟩
      exact hK D' ρ' w' hp hv

/-- A region in the order of its text. -/
theorem ops_sound (hg : Good P rec) {ops : Array Oper} {ro : Option Nat} {n : Nat} {Q : Exit → Act → World → Prop} : ∀ (l : List Oper) (k : Nat), (∀ j, ops[k + j]? = l[j]?) →
    ∀ (T : Tr AV) (H : Heap) (T' : Tr AV) (H' : Heap) (D : Nat → Prop) (ρ : Ren) (a : Act) (w : World), evOps P rec ops l T H = some (T', H') → Sim B D ρ H w → TR D ρ T a.tmps →
    (∀ o ∈ l, ∀ d, o.dst = some d → d < a.tmps.size) →
    (∀ D' ρ' a' w', Post B D ρ H w D' ρ' H' w' → TR D' ρ' T' a'.tmps → a'.tmps.size = a.tmps.size → a'.defers = a.defers → Q .normal a' w') →
    wpOpsIn (WF ro) n P ops Q (List.range' k l.length) a w := by
  intro l
  induction l with
  | nil =>
    intro k _ T H T' H' D ρ a w he hs hT _ hQ
    cases he
    exact hQ D ρ a w (Post.refl hs) hT rfl rfl
  | cons o l ih =>
    intro k hk T H T' H' D ρ a w he hs hT hd hQ
    have hk0 : ops[k]? = some o := by have := hk 0; simpa using this
    change evStep P rec ops o (fun T H => evOps P rec ops l T H) T H = some (T', H') at he
    rw [evStep_eq] at he
    simp only [Option.bind_eq_some_iff] at he
    obtain ⟨⟨v, H1⟩, h1, h2⟩ := he
    simp only [List.length_cons, List.range'_succ]
    rw [wpOpsIn_cons]
    refine step_sound hg h1 hk0 hs hT ?_
    intro D1 ρ1 w1 hp hv
    have hT1 := (hT.mono hp.ext hp.ren).put (hd o (by simp)) hv
    refine ih (k + 1) (fun j => by have := hk (j + 1); rw [← Nat.add_assoc] at this; rw [Nat.add_right_comm]; simpa using this) _ _ _ _ _ _ _ _ h2 hp.sim hT1 (fun o' ho' d hd' => by rw [put_size]; exact hd o' (by simp [ho']) d hd') ?_
    intro D2 ρ2 a2 w2 hp2 hT2 hz hdf
    exact hQ D2 ρ2 a2 w2 (hp.trans hp2) hT2 (by rw [hz, put_size]) (by rw [hdf, put_defers])
end
end Go.Ev

