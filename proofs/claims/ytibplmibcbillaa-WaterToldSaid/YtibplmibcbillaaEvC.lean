/-
  Code, calls and rounds: what the evaluator says of a call is so.
-/
import Derived.Test.YtibplmibcbillaaEvP
import Derived.Scope
import Derived.LoopNIn
namespace Go.Ev
open Go.RowKit

variable {P : Program}

def exOf : Ex → Exit
  | .norm => .normal
  | .exit id => .exit id
  | .ret => .ret

def Marks (D : Nat → Prop) (ρ : Ren) (ds : List Nat) (l : List Deferred) : Prop :=
  l = ds.map (fun d => { target := .collected (ρ d).1, args := #[] }) ∧ ∀ d ∈ ds, D d

theorem Marks.mono {D D' : Nat → Prop} {ρ ρ' : Ren} {ds : List Nat} {l : List Deferred} (hD : ∀ n, D n → D' n) (hρ : ∀ n, D n → ρ' n = ρ n) (h : Marks D ρ ds l) : Marks D' ρ' ds l :=
  ⟨by rw [h.1]; exact List.map_congr_left fun d hd => by rw [hρ d (h.2 d hd)], fun d hd => hD d (h.2 d hd)⟩

def CodeOK (P : Program) (ro : Option Nat) (c : Code) (s s' : St) (x : Ex) : Prop :=
  ∀ (B : Nat) (D : Nat → Prop) (ρ : Ren) (w : World) (a : Act) (n : Nat) (Q : Exit → Act → World → Prop), Sim B D ρ s.H w → TR D ρ s.T a.tmps → codeOk a.tmps.size c = true → Marks D ρ s.D a.defers → (∀ l, ro = some l → D l) →
    (∀ D' ρ' a' w', Post B D ρ s.H w D' ρ' s'.H w' → TR D' ρ' s'.T a'.tmps → a'.tmps.size = a.tmps.size → Marks D' ρ' s'.D a'.defers → Q (exOf x) a' w') →
    c.wpIn (WF (ro.map fun l => (ρ l).1)) n P Q a w

theorem wpIn_scope {F : Fence} {n : Nat} {c : Code} {Q : Exit → Act → World → Prop} {a : Act} {w : World} (h : c.wpIn F n P (Exit.noGoto Q) a w) : (Code.scope c).wpIn F n P Q a w := by
  intro b k cs hro hb hr
  have s1 : step P (lone (b.atR a (.code (.scope c) :: k)) cs w) = .next (lone (b.atR a (.code c :: .inScope c :: k)) cs w) := step_lone_go (by simp [stepG, stepG.exec, Frame.atR])
  have s2 : ∀ (a : Act) (w : World), step P (lone (b.atR a (.inScope c :: k)) cs w) = .next (lone (b.atR a k) cs w) := fun a w => step_lone_go (by simp [stepG, stepG.exec, Frame.atR])
  have h0 : (lone (b.atR a (.code (.scope c) :: k)) cs w).fenced P F := fenced_calm hb hr rfl
  obtain ⟨e, a₁, w₁, hq, harr⟩ := h b (.inScope c :: k) cs hro hb hr
  cases e with
  | normal => exact ⟨.normal, a₁, w₁, hq, .head h0 s1 (StepsIn.trans harr (.one (fenced_calm hb hr rfl) (s2 _ _)))⟩
  | exit id =>
    have hx : exitTo id (.inScope c :: k) = exitTo id k := by simp [exitTo]
    exact ⟨.exit id, a₁, w₁, hq, fun k' hk => .head h0 s1 (harr.1 k' (by rw [hx]; exact hk)),
      fun hr' hk => let ⟨k₁, h1, h2⟩ := harr.2 hr' (by rw [hx]; exact hk); ⟨k₁, h1, .head h0 s1 h2⟩⟩
  | goto l => exact hq.elim
  | ret => exact ⟨_, a₁, w₁, hq, .of_steps (.one h0 s1) harr⟩
  | panic ch => exact ⟨_, a₁, w₁, hq, .of_steps (.one h0 s1) harr⟩
  | outgrown => exact ⟨_, a₁, w₁, hq, .of_steps (.one h0 s1) harr⟩

theorem WF_eq {ρ ρ' : Ren} {D : Nat → Prop} {ro : Option Nat} (hl : ∀ l, ro = some l → D l) (hρ : ∀ n, D n → ρ' n = ρ n) : WF (ro.map fun l => (ρ' l).1) = WF (ro.map fun l => (ρ l).1) := by
  cases ro with
  | none => rfl
  | some l => simp only [Option.map_some]; rw [hρ l (hl l rfl)]

theorem CallsIn.toWF {ro : Option Nat} {n : Nat} {f : FuncId} {args : Array Value} {w : World} {R : Ending → World → Prop} (h : CallsIn Fence.wide n P f args w R) : CallsIn (WF ro) n P f args w R := h

theorem loop_live {B : Nat} {D : Nat → Prop} {ρ : Ren} {H : Heap} {w : World} (hs : Sim B D ρ H w) {l : Nat} (hl : D l) {st : LoopState} {pd : Option Code} {T : Tr AV} {ps : List Tmp} {as bd : Code} {d : Nat}
    (hg : H.get l = some (.loop st pd T ps as bd d)) : ∃ fn tm, w.heap[(ρ l).1]? = some (.loop { state := st, pending := pd, fn, tmps := tm, params := ps.toArray, assign := as, body := bd, defers := (ρ d).1 }) ∧
      TR D ρ T tm ∧ D d ∧ codeOk tm.size as = true ∧ codeOk tm.size bd = true ∧ (∀ p ∈ ps, p < tm.size) ∧ Own (H.get l) := by
  obtain ⟨o, g, k⟩ := hs.live l hl
  rw [hg] at g; cases g
  rcases k with k | ⟨_, o', hw, fn, tm, rfl, h1, h2, h3, h4, h5⟩
  · cases k
  · exact ⟨fn, tm, hw, h1, h2, h3, h4, h5, by rw [hg]; exact ⟨nofun, nofun⟩⟩

theorem run_getLoop {w : World} {l : Nat} {r : Loop} (h : w.heap[l]? = some (.loop r)) : (Instr.getLoop l).run P w = .ok r w := by
  simp only [Instr.getLoop, Sem.run_bind, run_getObj h (fun _ _ _ h => by cases h), Result.andThen_ok, Sem.run_pure]

theorem evLoop_cases {body : St → Option (Ex × St)} {n : Nat} {s : St} {r : Ex × St} (h : evLoop body (n + 1) s = some r) :
    (∃ s1, body s = some (.norm, s1) ∧ evLoop body n s1 = some r) ∨ (body s = some r ∧ ∀ s1, r ≠ (.norm, s1)) := by
  unfold evLoop at h
  split at h
  · rename_i s1 hb; exact .inl ⟨s1, hb, h⟩
  · rename_i hb
    refine .inr ⟨h, fun s1 e => hb s1 ?_⟩
    rw [h, e]

theorem range_sound {rec : Rec} (hg : Good P rec) {ro : Option Nat} {g : Operand} {ps : Array Tmp} {as bd : Code} {s s' : St} {x : Ex} (he : evRange rec ro g ps as bd s = some (x, s')) :
    CodeOK P ro (.rangeFunc g ps as bd) s s' x := by
  intro B D ρ w a n Q hs hT hok hm hro hQ
  unfold evRange at he
  split at he
  · rename_i gv d H1 marks hgv hst
    obtain ⟨eg, kg⟩ := opd_sound hT hgv
    simp only [codeOk, Bool.and_eq_true, List.all_eq_true] at hok
    obtain ⟨⟨ok1, ok2⟩, ok3⟩ := hok
    -- the block for the deferred calls
    have start : ∃ D1 ρ1 w1 mk, Post B D ρ s.H w D1 ρ1 H1 w1 ∧ D1 d ∧ Marks D1 ρ1 marks mk ∧ ∀ fn, (Instr.enterLoop fn a.tmps ps as bd (ro.map fun l => (ρ l).1)).run P w =
        .ok (w1.heap.size, mk) { w1 with heap := w1.heap.push (.loop { state := .ready, pending := none, fn, tmps := a.tmps, params := ps, assign := as, body := bd, defers := (ρ1 d).1 }) } := by
      unfold rangeStart at hst
      split at hst
      · cases hst
        refine ⟨_, _, _, [{ target := .collected w.heap.size, args := #[] }], post_new hs 0 .defd (.deferred (some [])) rfl, .inr rfl, ⟨by simp, fun d hd => by simp at hd; exact .inr hd⟩, fun fn => ?_⟩
        simp [Instr.enterLoop, newObj, Sem.run]
        rfl
      · rename_i l
        split at hst
        · rename_i st pd T2 ps2 as2 bd2 d2 hl
          cases hst
          obtain ⟨fn2, tm2, q1, _, q3, _⟩ := loop_live hs (hro l rfl) hl
          refine ⟨D, ρ, w, [], Post.refl hs, q3, ⟨rfl, fun d hd => by cases hd⟩, fun fn => ?_⟩
          simp [Instr.enterLoop, run_getLoop q1, newObj, Sem.run]
        · cases hst
    obtain ⟨D1, ρ1, w1, mk, p1, kd, hmk, hent⟩ := start
    unfold rangeGo at he
    split at he
    · rename_i f args hcv
      split at he
      · rename_i v H3 hrec
        have hT1 := hT.mono p1.ext p1.ren
        refine wpIn_rangeFunc fun fn _ => ?_
        have rel : ORel D1 ρ1 0 (.loop .ready none s.T ps.toList as bd d) (.loop { state := .ready, pending := none, fn, tmps := a.tmps, params := ps, assign := as, body := bd, defers := (ρ1 d).1 }) :=
          ⟨fn, a.tmps, by simp, hT1, kd, ok2, ok3, fun p hp => by have := ok1 p hp; simpa [Nat.blt_eq] using this⟩
        have p2 := post_new p1.sim 0 _ _ rel
        have p12 := p1.trans p2
        -- the call
        obtain ⟨⟨fn', c', f1, f2, f3⟩, hc⟩ := hg _ _ _ _ hrec
        have kl : (fun n => D1 n ∨ n = H1.next) H1.next := .inr rfl
        obtain ⟨first, cap, hgv', hargs⟩ : ∃ first cap, gv = .fn f first cap ∧ args = first ++ ([.yield H1.next] ++ cap) := by
          unfold callV at hcv
          split at hcv
          · cases hcv; exact ⟨_, _, rfl, rfl⟩
          · cases hcv
          · cases hcv
        subst hgv'
        have kargs : AV.withins (fun n => D1 n ∨ n = H1.next) args := by
          rw [hargs]
          refine withins_iff.2 fun v hv => ?_
          simp only [List.mem_append, List.mem_singleton] at hv
          rcases hv with hv | hv | hv
          · exact within_mono p12.ext v (withins_iff.1 kg.1 v hv)
          · subst hv; exact kl
          · exact within_mono p12.ext v (withins_iff.1 kg.2 v hv)
        have hcall := hc B _ _ _ (n - 1) p12.sim kargs
        have e1 : (fun n => if n = H1.next then (w1.heap.size, 0) else ρ1 n) H1.next = (w1.heap.size, 0) := by simp
        have ef : concs (fun n => if n = H1.next then (w1.heap.size, 0) else ρ1 n) args = concs ρ first ++ (.func (.yield w1.heap.size) #[] #[] :: concs ρ cap) := by
          rw [hargs, concs_append, concs_append, concs_congr (fun n k => p12.ren n k) first kg.1, concs_congr (fun n k => p12.ren n k) cap kg.2]
          simp [concs, conc]
        let W : World := { w1 with heap := w1.heap.push (.loop { state := .ready, pending := none, fn, tmps := a.tmps, params := ps, assign := as, body := bd, defers := (ρ1 d).1 }) }
        refine ⟨w1.heap.size, mk, W, { target := .fn (.func f) (concs ρ cap).toArray, args := (concs ρ first).toArray ++ #[.func (.yield w1.heap.size) #[] #[]] }, W, f, (concs ρ first ++ (.func (.yield w1.heap.size) #[] #[] :: concs ρ cap)).toArray, W, hent fn, ?_, fun _ _ => trivial, ?_, (fun h => by cases h), ?_⟩
        · have hmap : (#[Operand.const (.func (.yield w1.heap.size) #[] #[])] : Array Operand).map a.eval = #[.func (.yield w1.heap.size) #[] #[]] := by simp; rfl
          simp only [resolve, eg, conc, Deferred.ofValue, Sem.run_pure, hmap]
        · simp only [invoke]
          rw [callFunc_enter f1 f2 f3]
          congr 2
          apply Array.toList_inj.1
          simp
        · rw [ef] at hcall
          refine CallsIn.mono (CallsIn.toWF hcall) ?_
          rintro e w3 ⟨D3, ρ3, rfl, p3, kv⟩
          have p13 := p12.trans p3
          unfold rangeEnd at he
          split at he
          · rename_i st pd T2 ps2 as2 bd2 d2 hl3
            have hnb : st ≠ .busy := by intro e; subst e; cases he
            have hl3' : D3 H1.next := p3.ext _ kl
            obtain ⟨fn3, tm3, q1, q2, q3, q4, q5, q6, q7⟩ := loop_live p3.sim hl3' hl3
            have el : (ρ3 H1.next).1 = w1.heap.size := by rw [p3.ren _ kl]; simp
            have p4a := post_write p3.sim H1.next hl3' q7 (.loop .exhausted pd T2 ps2 as2 bd2 d2) _ ⟨fn3, tm3, rfl, q2, q3, q4, q5, q6⟩ ⟨nofun, nofun⟩
            have p4 := p4a.trans (post_kill p4a.sim H1.next hl3')
            have p14 := p13.trans p4
            have hend : (Instr.endLoop w1.heap.size).run P w3 = .ok pd { w3 with heap := w3.heap.setIfInBounds (ρ3 H1.next).1 (.loop { state := .exhausted, pending := pd, fn := fn3, tmps := tm3, params := ps2.toArray, assign := as2, body := bd2, defers := (ρ3 d2).1 }) } := by
              rw [el] at q1 ⊢
              simp only [Instr.endLoop, Sem.run_bind, run_getLoop q1, Result.andThen_ok]
              rw [if_neg (by simpa using hnb)]
              simp only [Sem.run_bind, run_setObj q1 (fun _ _ _ h => by cases h), Result.andThen_ok, Sem.run_pure]
            have hTe : TR D3 ρ3 s.T a.tmps := hT.mono p14.ext p14.ren
            have hMe : Marks D3 ρ3 (marks ++ s.D) (mk ++ a.defers) := by
              have m1 := hmk.mono (p2.trans p3).ext (p2.trans p3).ren
              have m2 := hm.mono p14.ext p14.ren
              refine ⟨by rw [m1.1, m2.1]; simp, fun d hd => ?_⟩
              exact (List.mem_append.1 hd).elim (m1.2 d) (m2.2 d)
            refine ⟨pd, _, hend, ?_⟩
            have fin : ∀ x', he = he → some (x', ({ T := s.T, D := marks ++ s.D, H := (H3.put H1.next (.loop .exhausted pd T2 ps2 as2 bd2 d2)).put H1.next .dead } : St)) = some (x, s') →
                Q (exOf x') { a with defers := mk ++ a.defers } { w3 with heap := w3.heap.setIfInBounds (ρ3 H1.next).1 (.loop { state := .exhausted, pending := pd, fn := fn3, tmps := tm3, params := ps2.toArray, assign := as2, body := bd2, defers := (ρ3 d2).1 }) } := by
              intro x' _ hx
              cases hx
              exact hQ D3 ρ3 _ _ p14 hTe rfl hMe
            cases st <;> first | exact absurd rfl hnb | skip
            all_goals
              dsimp only at he
              split at he
              · exact fin _ rfl he
              · exact wpIn_ret (fin _ rfl he)
              · exact wpIn_exit (fin _ rfl he)
              · cases he
          · cases he
      · cases he
    · cases he
  · cases he

/-- **Code by the evaluator is code by the model.** -/
theorem code_sound {rec : Rec} (hg : Good P rec) (hmix : P.follows .mixedOrders = true) (ro : Option Nat) : ∀ (c : Code) (s s' : St) (x : Ex), evCode P rec ro c s = some (x, s') → CodeOK P ro c s s' x := by
  intro c
  induction c with
  | skip =>
    intro s s' x he B D ρ w a n Q hs hT hok hm hro hQ
    cases he
    exact wpIn_skip (hQ D ρ a w (Post.refl hs) hT rfl hm)
  | region id ops draw =>
    intro s s' x he B D ρ w a n Q hs hT hok hm hro hQ
    unfold evCode at he
    split at he
    · rename_i T' H' hr
      cases he
      have hd : ∀ o ∈ ops.toList, ∀ d, o.dst = some d → d < a.tmps.size := by
        intro o ho d hd
        simp only [codeOk, List.all_eq_true] at hok
        have := hok o ho
        rw [hd] at this
        simpa [Nat.blt_eq] using this
      have fin : ∀ D' ρ' a' w', Post B D ρ s.H w D' ρ' H' w' → TR D' ρ' T' a'.tmps → a'.tmps.size = a.tmps.size → a'.defers = a.defers → Q .normal a' w' := by
        intro D' ρ' a' w' hp hT' hz hdf
        exact hQ D' ρ' a' w' hp hT' hz (by rw [hdf]; exact hm.mono hp.ext hp.ren)
      cases draw with
      | false =>
        refine wpIn_region ?_
        rw [List.range_eq_range']
        exact ops_sound hg ops.toList 0 (fun j => by simp) _ _ _ _ _ _ _ _ hr hs hT hd fin
      | true => exact draw_sound hg hmix hr hs hT hd fin
    · cases he
  | seq x y ihx ihy =>
    intro s s' e he B D ρ w a n Q hs hT hok hm hro hQ
    unfold evCode at he
    simp only [codeOk, Bool.and_eq_true] at hok
    cases hx : evCode P rec ro x s with
    | none => rw [hx] at he; cases he
    | some r =>
      obtain ⟨ex, s1⟩ := r
      rw [hx] at he
      refine wpIn_seq (ihx s s1 ex hx B D ρ w a n _ hs hT hok.1 hm hro ?_)
      intro D1 ρ1 a1 w1 p1 hT1 hz1 hm1
      cases ex with
      | norm =>
        show y.wpIn _ n P Q a1 w1
        have := ihy s1 s' e he B D1 ρ1 w1 a1 n Q p1.sim hT1 (by rw [hz1]; exact hok.2) hm1 (fun l hl => p1.ext l (hro l hl)) (fun D2 ρ2 a2 w2 p2 hT2 hz2 hm2 => hQ D2 ρ2 a2 w2 (p1.trans p2) hT2 (hz2.trans hz1) hm2)
        rwa [WF_eq hro p1.ren] at this
      | exit id => cases he; exact hQ D1 ρ1 a1 w1 p1 hT1 hz1 hm1
      | ret => cases he; exact hQ D1 ρ1 a1 w1 p1 hT1 hz1 hm1
  | cond c x y ihx ihy =>
    intro s s' e he B D ρ w a n Q hs hT hok hm hro hQ
    unfold evCode at he
    simp only [codeOk, Bool.and_eq_true] at hok
    split at he
    · rename_i hc
      exact wpIn_cond_true ((opd_sound hT hc).1) (ihx s s' e he B D ρ w a n Q hs hT hok.1 hm hro hQ)
    · rename_i hc
      exact wpIn_cond_false ((opd_sound hT hc).1) (ihy s s' e he B D ρ w a n Q hs hT hok.2 hm hro hQ)
    · cases he
  | block id c ih =>
    intro s s' e he B D ρ w a n Q hs hT hok hm hro hQ
    unfold evCode at he
    cases hx : evCode P rec ro c s with
    | none => rw [hx] at he; cases he
    | some r =>
      obtain ⟨ex, s1⟩ := r
      rw [hx] at he
      refine wpIn_block (ih s s1 ex hx B D ρ w a n _ hs hT hok hm hro ?_)
      intro D1 ρ1 a1 w1 p1 hT1 hz1 hm1
      cases ex with
      | norm => cases he; exact hQ D1 ρ1 a1 w1 p1 hT1 hz1 hm1
      | ret => cases he; exact hQ D1 ρ1 a1 w1 p1 hT1 hz1 hm1
      | exit id' =>
        dsimp only at he
        show if id' = id then Q .normal a1 w1 else Q (.exit id') a1 w1
        split at he
        · rename_i hb
          have hb := Nat.eq_of_beq_eq_true hb
          cases he
          rw [if_pos hb]
          exact hQ D1 ρ1 a1 w1 p1 hT1 hz1 hm1
        · rename_i hb
          have hb : id' ≠ id := fun e => hb (by rw [e]; exact Nat.beq_refl id)
          cases he
          rw [if_neg hb]
          exact hQ D1 ρ1 a1 w1 p1 hT1 hz1 hm1
  | loop c ih =>
    intro s s' e he B D ρ w a n Q hs hT hok hm hro hQ
    unfold evCode at he
    refine wpIn_loop_rounds loopFuel ?_
    generalize loopFuel = m at he ⊢
    induction m generalizing s D ρ w a with
    | zero => cases he
    | succ m ihm =>
      rw [roundsIn_succ]
      rcases evLoop_cases he with ⟨s1, h1, h2⟩ | ⟨h1, h2⟩
      · refine ih s s1 .norm h1 B D ρ w a n _ hs hT hok hm hro ?_
        intro D1 ρ1 a1 w1 p1 hT1 hz1 hm1
        show Code.roundsIn _ n P c Q m a1 w1
        have := ihm s1 D1 ρ1 w1 a1 p1.sim hT1 (by simp only [codeOk] at hok ⊢; rw [hz1]; exact hok) hm1 (fun l hl => p1.ext l (hro l hl)) (fun D2 ρ2 a2 w2 p2 hT2 hz2 hm2 => hQ D2 ρ2 a2 w2 (p1.trans p2) hT2 (hz2.trans hz1) hm2) h2
        rwa [WF_eq hro p1.ren] at this
      · refine ih s s' e h1 B D ρ w a n _ hs hT hok hm hro ?_
        intro D1 ρ1 a1 w1 p1 hT1 hz1 hm1
        have := hQ D1 ρ1 a1 w1 p1 hT1 hz1 hm1
        cases e with
        | norm => exact absurd rfl (h2 s')
        | exit id => exact this
        | ret => exact this
  | rangeFunc g ps as bd _ _ =>
    intro s s' e he
    exact range_sound hg he
  | exit id =>
    intro s s' x he B D ρ w a n Q hs hT hok hm hro hQ
    cases he
    exact wpIn_exit (hQ D ρ a w (Post.refl hs) hT rfl hm)
  | scope c ih =>
    intro s s' e he B D ρ w a n Q hs hT hok hm hro hQ
    unfold evCode at he
    refine wpIn_scope (ih s s' e he B D ρ w a n _ hs hT hok hm hro ?_)
    intro D1 ρ1 a1 w1 p1 hT1 hz1 hm1
    have := hQ D1 ρ1 a1 w1 p1 hT1 hz1 hm1
    cases e <;> exact this
  | label l =>
    intro s s' x he B D ρ w a n Q hs hT hok hm hro hQ
    cases he
    exact wpIn_label (hQ D ρ a w (Post.refl hs) hT rfl hm)
  | goto l => intro s s' x he; cases he
  | ret =>
    intro s s' x he B D ρ w a n Q hs hT hok hm hro hQ
    cases he
    exact wpIn_ret (hQ D ρ a w (Post.refl hs) hT rfl hm)
  | refuse why => intro s s' x he; cases he
end Go.Ev

