/-
  Rounds, and the whole: what 'run' says of a closed call is so.
-/
import Derived.Test.YtibplmibcbillaaEvD
set_option linter.unusedSimpArgs false
set_option linter.unusedVariables false
namespace Go.Ev
open Go.RowKit

variable {P : Program}

theorem setPs_TR {D : Nat → Prop} {ρ : Ren} : ∀ (ps : List Tmp) (vs : List AV) (T T' : Tr AV) (tm : Array Value), setPs T ps vs = some T' → TR D ρ T tm → AV.withins D vs → (∀ p ∈ ps, p < tm.size) →
    vs.length = ps.length ∧ TR D ρ T' ((ps.zip (concs ρ vs)).foldl (fun tmps (t, a) => tmps.setIfInBounds t a) tm) ∧ ((ps.zip (concs ρ vs)).foldl (fun tmps (t, a) => tmps.setIfInBounds t a) tm).size = tm.size := by
  intro ps
  induction ps with
  | nil =>
    intro vs T T' tm h hT _ _
    cases vs with
    | nil => cases h; exact ⟨rfl, hT, rfl⟩
    | cons v vs => cases h
  | cons p ps ih =>
    intro vs T T' tm h hT hv hp
    cases vs with
    | nil => cases h
    | cons v vs =>
      change setPs (T.set p v) ps vs = some T' at h
      have hb := hp p (by simp)
      obtain ⟨h1, h2, h3⟩ := ih vs (T.set p v) T' (tm.setIfInBounds p (conc ρ v)) h (by
        intro t u hu
        rw [get_set] at hu
        split at hu
        · rename_i e
          cases hu; subst e
          refine ⟨by simpa using hb, ?_, hv.1⟩
          rw [Array.getD_eq_getD_getElem?, Array.getElem?_setIfInBounds_self_of_lt hb]; rfl
        · rename_i e
          obtain ⟨q1, q2, q3⟩ := hT t u hu
          refine ⟨by simpa using q1, ?_, q3⟩
          rw [Array.getD_eq_getD_getElem?, Array.getElem?_setIfInBounds_ne (fun k => e k.symm), ← Array.getD_eq_getD_getElem?]
          exact q2) hv.2 (fun q hq => by simpa using hp q (by simp [hq]))
      refine ⟨by simp [h1], h2, ?_⟩
      rw [show ((p :: ps).zip (concs ρ (v :: vs))) = (p, conc ρ v) :: ps.zip (concs ρ vs) from rfl, List.foldl_cons]
      rw [h3]; simp

theorem endR_sound {B : Nat} {D : Nat → Prop} {ρ : Ren} {H H' : Heap} {w : World} {l : Nat} {jump : Option Code} {v : AV} (hs : Sim B D ρ H w) (hl : D l) (h : endR H l jump = some (v, H')) :
    ∃ w', (Instr.endRound (ρ l).1 jump).run P w = .ok (conc ρ v) w' ∧ Post B D ρ H w D ρ H' w' ∧ v.within D := by
  unfold endR at h
  split at h
  · rename_i st pd T ps as bd d hg
    cases h
    obtain ⟨fn, tm, q1, q2, q3, q4, q5, q6, q7⟩ := loop_live hs hl hg
    refine ⟨_, ?_, post_write hs l hl q7 _ _ ⟨fn, tm, rfl, q2, q3, q4, q5, q6⟩ ⟨nofun, nofun⟩, trivial⟩
    simp only [Instr.endRound, Sem.run_bind, run_getLoop q1, run_setObj q1 (fun _ _ _ h => by cases h), Result.andThen_ok, Sem.run_pure]
    rfl
  · cases h

theorem round_sound {rec : Rec} (hg : Good P rec) (hmix : P.follows .mixedOrders = true) {l : Nat} {args : List AV} {H H' : Heap} {v : AV} (he : evRound P rec l args H = some (v, H')) :
    ∀ B D ρ w n, Sim B D ρ H w → D l → AV.withins D args → ∃ r : Loop, w.heap[(ρ l).1]? = some (.loop r) ∧ args.length = r.params.size ∧
      RoundIn Fence.wide n P (ρ l).1 r.fn ((r.params.zip (concs ρ args).toArray).foldl (fun tmps (t, a) => tmps.setIfInBounds t a) r.tmps) r.assign r.body w (RetOK B D ρ H w v H') := by
  intro B D ρ w n hs hl ka
  unfold evRound at he
  split at he
  · rename_i st pd T ps assign body d hgl
    obtain ⟨fn, tm, q1, q2, q3, q4, q5, q6, q7⟩ := loop_live hs hl hgl
    split at he
    · rename_i T' hps
      obtain ⟨e1, e2, e3⟩ := setPs_TR ps args T T' tm hps q2 ka q6
      refine ⟨_, q1, by simp [e1], ?_⟩
      have ez : ((ps.toArray.zip (concs ρ args).toArray).foldl (fun tmps (t, a) => tmps.setIfInBounds t a) tm) = ((ps.zip (concs ρ args)).foldl (fun tmps (t, a) => tmps.setIfInBounds t a) tm) := by
        rw [List.zip_toArray, List.foldl_toArray]
      refine roundIn_of_wpIn trivial ?_
      dsimp only
      rw [ez]
      split at he
      · rename_i s1 hx1
        refine code_sound hg hmix (some l) assign _ s1 .norm hx1 B D ρ w _ n _ hs e2 (by dsimp only; rw [e3]; exact q4) ⟨rfl, fun d hd => by cases hd⟩ (fun l' hl' => by cases hl'; exact hl) ?_
        intro D1 ρ1 a1 w1 p1 hT1 hz1 hm1
        split at he
        · rename_i pd2 T2 ps2 as2 bd2 d2 hgl2
          have hl1 := p1.ext l hl
          have el : (ρ1 l).1 = (ρ l).1 := by rw [p1.ren l hl]
          obtain ⟨fn2, tm2, r1, r2, r3, r4, r5, r6, r7⟩ := loop_live p1.sim hl1 hgl2
          have p2 := post_write p1.sim l hl1 r7 (.loop .busy pd2 T2 ps2 as2 bd2 d2) _ ⟨fn2, tm2, rfl, r2, r3, r4, r5, r6⟩ ⟨nofun, nofun⟩
          have hbeg : (Instr.beginRound (ρ l).1).run P w1 = .ok () { w1 with heap := w1.heap.setIfInBounds (ρ1 l).1 (.loop { state := .busy, pending := pd2, fn := fn2, tmps := tm2, params := ps2.toArray, assign := as2, body := bd2, defers := (ρ1 d2).1 }) } := by
            simp only [Instr.beginRound, Sem.run_bind]
            rw [← el, run_getLoop r1]
            simp only [Result.andThen_ok, Sem.run_bind, run_setObj r1 (fun _ _ _ h => by cases h), Sem.run_pure]
          refine ⟨_, hbeg, ?_⟩
          have p12 := p1.trans p2
          generalize ({ w1 with heap := w1.heap.setIfInBounds (ρ1 l).1 (.loop { state := .busy, pending := pd2, fn := fn2, tmps := tm2, params := ps2.toArray, assign := as2, body := bd2, defers := (ρ1 d2).1 }) } : World) = wb at p2 p12 ⊢
          have fin : ∀ (x : Ex) (s2 : St) (jump : Option Code), evCode P rec (some l) body { s1 with H := s1.H.put l (.loop .busy pd2 T2 ps2 as2 bd2 d2) } = some (x, s2) → endR s2.H l jump = some (v, H') →
              (∀ a w', (∃ v' w2, (Instr.endRound (ρ l).1 jump).run P w' = .ok v' w2 ∧ RetOK B D ρ H w v H' (.returned v') w2) → roundPost P (ρ l).1 (RetOK B D ρ H w v H') (exOf x) a w') →
              body.wpIn (WF ((some l).map fun l => (ρ1 l).1)) n P (roundPost P (ρ l).1 (RetOK B D ρ H w v H')) a1 wb := by
            intro x s2 jump hx2 hend hpost
            refine code_sound hg hmix (some l) body _ s2 x hx2 B D1 ρ1 _ a1 n _ p2.sim hT1 (by rw [hz1]; dsimp only; rw [e3]; exact q5) hm1 (fun l' hl' => by cases hl'; exact hl1) ?_
            intro D3 ρ3 a3 w3 p3 hT3 hz3 _
            refine hpost a3 w3 ?_
            have hl3 := p3.ext l hl1
            have el3 : (ρ3 l).1 = (ρ l).1 := by rw [p3.ren l hl1, el]
            obtain ⟨w4, t1, t2, t3⟩ := endR_sound (P := P) p3.sim hl3 hend
            rw [el3] at t1
            exact ⟨_, w4, t1, D3, ρ3, rfl, (p12.trans p3).trans t2, t3⟩
          have efence : (WF ((some l).map fun l => (ρ1 l).1)) = Fence.wide.inRound (ρ l).1 := by simp [Fence.inRound, el]
          rw [← efence]
          split at he
          · rename_i s2 hx2
            exact fin .norm s2 none hx2 he (fun _ _ h => h)
          · rename_i s2 hx2
            exact fin .ret s2 (some .ret) hx2 he (fun _ _ h => h)
          · rename_i id s2 hx2
            exact fin (.exit id) s2 (some (.exit id)) hx2 he (fun _ _ h => h)
          · cases he
        · cases he
      · cases he
    · cases he
  · cases he

theorem run_good (hmix : P.follows .mixedOrders = true) : ∀ n, Good P (run P n) := by
  intro n
  induction n with
  | zero => intro j H v H' h; cases h
  | succ n ih =>
    intro j H v H' h
    cases j with
    | fn f args => exact fn_sound ih hmix h
    | round l args => exact round_sound ih hmix h

/-- **A CLOSED CALL, EVALUATED, IS SO**: in whatever world. -/
theorem closed (hmix : P.follows .mixedOrders = true) {m : Nat} {f : FuncId} {v : AV} {H' : Heap} (h : run P m (.fn f []) ⟨.nil, 0, 0⟩ = some (v, H')) (hv : v.flat = true) (ρ : Ren) (w : World) :
    Calls P f #[] w fun e w' => e = .returned (conc ρ v) ∧ Below w.heap.size w w' := by
  have h0 := (run_good hmix m (.fn f []) ⟨.nil, 0, 0⟩ v H' h).2 w.heap.size (fun _ => False) ρ w 0 ⟨fun _ k => k.elim, fun _ _ k => k.elim, Nat.le_refl _, fun _ k => k.elim⟩ trivial
  refine callsIn_wide.1 (CallsIn.mono h0 ?_)
  rintro e w' ⟨D', ρ', rfl, hp, _⟩
  exact ⟨by rw [flat_conc v hv], hp.keep⟩
end Go.Ev

