/-
  Calls: what 'run' says of a call is so, in whatever world.
-/
import Derived.Test.YtibplmibcbillaaEvC
namespace Go.Ev
open Go.RowKit

variable {P : Program}

theorem Sim.lo {B : Nat} {D : Nat → Prop} {ρ : Ren} {H H' : Heap} {w : World} (h : Sim B D ρ H w) (ht : H'.t = H.t) (hn : H'.next = H.next) : Sim B D ρ H' w := by
  have hg : ∀ n, H'.get n = H.get n := fun n => by show H'.t.look _ = H.t.look _; rw [ht]
  exact ⟨fun n k => by rw [hg]; exact h.live n k, fun n m k k' d d' => h.inj n m k k' (by rwa [hg] at d) (by rwa [hg] at d'), h.base, fun n k => by rw [hn]; exact h.fresh n k⟩

theorem blankD_look : ∀ (d : Nat) (p : Pos), (blankD d).look p = none := by
  intro d
  induction d with
  | zero => intro p; rfl
  | succ d ih =>
    intro p
    cases p with
    | here => rfl
    | left p => exact ih p
    | right p => exact ih p

theorem blank_get (n t : Nat) : (blank n).get t = none := blankD_look _ _

theorem setArgs_TR {D : Nat → Prop} {ρ : Ren} : ∀ (vs : List AV) (i : Nat) (T : Tr AV) (tm : Array Value), TR D ρ T tm → AV.withins D vs → (∀ j v, vs[j]? = some v → i + j < tm.size ∧ tm.getD (i + j) undef = conc ρ v) →
    TR D ρ (setArgs T i vs) tm := by
  intro vs
  induction vs with
  | nil => intro i T tm h _ _; exact h
  | cons v vs ih =>
    intro i T tm h hw hv
    refine ih (i + 1) _ tm ?_ hw.2 (fun j u hu => by have := hv (j + 1) u (by simpa using hu); rw [← Nat.add_assoc] at this; rwa [Nat.add_right_comm])
    intro t u hu
    rw [get_set] at hu
    split at hu
    · rename_i e
      cases hu
      obtain ⟨h1, h2⟩ := hv 0 v (by simp)
      rw [e]
      exact ⟨by simpa using h1, by simpa using h2, hw.1⟩
    · exact h t u hu

mutual
theorem flat_conc {ρ ρ' : Ren} : ∀ v : AV, v.flat = true → conc ρ' v = conc ρ v
  | .int _ _, _ | .bool _, _ | .str _, _ | .nilp, _ | .nils, _ | .nilm, _ | .nilf, _ | .nili, _ => by simp [conc]
  | .agg vs, h => by simp only [conc]; rw [flats_conc (ρ := ρ) (ρ' := ρ') vs h]
  | .tup vs, h => by simp only [conc]; rw [flats_conc (ρ := ρ) (ρ' := ρ') vs h]
  | .ptr _ _, h | .slice _ _ _ _, h | .opn _ _, h | .tail _ _ _ _, h | .map _, h | .fn _ _ _, h | .yield _, h | .iface _ _, h => by simp [AV.flat] at h
theorem flats_conc {ρ ρ' : Ren} : ∀ l : List AV, AV.flats l = true → concs ρ' l = concs ρ l
  | [], _ => rfl
  | v :: vs, h => by
    unfold AV.flats at h
    split at h
    · rename_i hv
      simp only [concs]
      rw [flat_conc (ρ := ρ) (ρ' := ρ') v hv, flats_conc (ρ := ρ) (ρ' := ρ') vs h]
    · cases h
end

mutual
theorem flat_within {D : Nat → Prop} : ∀ v : AV, v.flat = true → v.within D
  | .int _ _, _ | .bool _, _ | .str _, _ | .nilp, _ | .nils, _ | .nilm, _ | .nilf, _ | .nili, _ => trivial
  | .agg vs, h => flats_within vs h
  | .tup vs, h => flats_within vs h
  | .ptr _ _, h | .slice _ _ _ _, h | .opn _ _, h | .tail _ _ _ _, h | .map _, h | .fn _ _ _, h | .yield _, h | .iface _ _, h => by simp [AV.flat] at h
theorem flats_within {D : Nat → Prop} : ∀ l : List AV, AV.flats l = true → AV.withins D l
  | [], _ => trivial
  | v :: vs, h => by
    unfold AV.flats at h
    split at h
    · rename_i hv
      exact ⟨flat_within v hv, flats_within vs h⟩
    · cases h
end

/-- What is said of a name's block with more names at hand, was said without them. -/
theorem ORel.back {D D2 : Nat → Prop} {ρ ρ2 : Ren} {cap : Nat} {o : AObj} {o1 o2 : Obj} (h1 : ORel D ρ cap o o1) (hρ : ∀ n, D n → ρ2 n = ρ n) (h2 : ORel D2 ρ2 cap o o2) : ORel D ρ cap o o2 := by
  cases o with
  | cells cs e => exact ⟨by rw [← concs_congr hρ cs h1.2]; exact h2.1, h1.2⟩
  | ext cs => obtain ⟨e1, fr1, _, c⟩ := h1; obtain ⟨e, fr, a, _⟩ := h2; exact ⟨e, fr, by rw [← concs_congr hρ cs c]; exact a, c⟩
  | opn cs e sz => obtain ⟨_, _, _, c⟩ := h1; obtain ⟨rest, a, b, _⟩ := h2; exact ⟨rest, by rw [← concs_congr hρ cs c]; exact a, b, c⟩
  | map es clock =>
    refine ⟨?_, h1.2⟩
    rw [h2.1]
    congr 2
    exact List.map_congr_left fun e he => by simp [entry, conc_congr hρ _ (h1.2 e he).1, conc_congr hρ _ (h1.2 e he).2]
  | loop st pd T ps as bd d =>
    obtain ⟨_, _, _, b, c, _⟩ := h1
    obtain ⟨fn, tm, a, b2, _, k⟩ := h2
    refine ⟨fn, tm, by rw [← hρ d c]; exact a, fun t v hv => ?_, c, k⟩
    obtain ⟨_, _, w1⟩ := b t v hv
    obtain ⟨q1, q2, _⟩ := b2 t v hv
    exact ⟨q1, q2.trans (conc_congr hρ v w1), w1⟩
  | defd => exact h2
  | shut => exact h2
  | dead => trivial
  | iter m since seen last =>
    refine ⟨?_, h1.2⟩
    rw [h2.1]
    cases m with
    | none => rfl
    | some k => simp [hρ k (h1.2 k rfl)]

theorem run_results {w : World} {B : Nat} {D : Nat → Prop} {ρ : Ren} {H : Heap} {T : Tr AV} {tm : Array Value} (hs : Sim B D ρ H w) (hT : TR D ρ T tm) : ∀ (rs : List ResultVar) (vs : List AV), resV P T H rs = some vs →
    (rs.mapM (m := Sem) fun
      | .tmp t => pure (tm.getD t undef)
      | .cell a t => do loadVar t (← asAddr (tm.getD a undef))).run P w = .ok (concs ρ vs) w ∧ AV.withins D vs := by
  intro rs
  induction rs with
  | nil => intro vs h; cases h; exact ⟨rfl, trivial⟩
  | cons r rs ih =>
    intro vs h
    cases r with
    | tmp t =>
      unfold resV at h
      split at h
      · rename_i v l hv hl
        cases h
        obtain ⟨_, h2, h3⟩ := hT t v hv
        obtain ⟨g1, g2⟩ := ih l hl
        refine ⟨?_, h3, g2⟩
        simp only [List.mapM_cons, Sem.run_bind, Sem.run_pure, Result.andThen_ok, g1, h2, concs]
      · cases h
    | cell a t =>
      unfold resV at h
      split at h
      · rename_i b off hv
        split at h
        · rename_i v l hl1 hl
          cases h
          obtain ⟨_, h2, h3⟩ := hT a _ hv
          obtain ⟨g1, g2⟩ := ih l hl
          obtain ⟨q1, q2⟩ := load_sound (P := P) hs h3 hl1
          refine ⟨?_, q2, g2⟩
          simp only [conc, Instr.loadAt, Instr.sureAddr, Sem.run_bind, Sem.run_pure, Result.andThen_ok] at q1
          have e : asAddr (tm.getD a undef) = pure { block := (ρ b).fst, off := off } := by rw [h2]; rfl
          simp only [List.mapM_cons, Sem.run_bind, Sem.run_pure, Result.andThen_ok, e, q1]
          rw [g1]
          rfl
        · cases h
      · cases h

theorem results_run {w : World} {B : Nat} {D : Nat → Prop} {ρ : Ren} {H : Heap} {T : Tr AV} {tm : Array Value} {fn : Func} (hs : Sim B D ρ H w) (hT : TR D ρ T tm) {vs : List AV} (h : resV P T H fn.results.toList = some vs) :
    (results fn tm).run P w = .ok (conc ρ (resOf vs)) w ∧ (resOf vs).within D := by
  obtain ⟨h1, h2⟩ := run_results (P := P) hs hT _ _ h
  refine ⟨?_, ?_⟩
  · simp only [results, Sem.run_bind]
    rw [Array.mapM_eq_mapM_toList, Sem.run_map]
    refine (congrArg (fun r : Result (List Value) => (r.andThen _).andThen _) h1).trans ?_
    simp only [Result.andThen_ok, Sem.run_pure]
    congr 1
    cases vs with
    | nil => simp [concs, resOf, conc]
    | cons v vs =>
      cases vs with
      | nil => simp [concs, resOf]
      | cons u vs => simp [concs, resOf, conc]
  · cases vs with
    | nil => trivial
    | cons v vs =>
      cases vs with
      | nil => exact h2.1
      | cons u vs => exact h2

/-- The marks of the loops: their blocks hold no calls. -/
theorem shuts_run {fn : Func} {tm : Array Value} {n : Nat} {R : Ending → World → Prop} {B : Nat} {D : Nat → Prop} {ρ : Ren} : ∀ (ds : List Nat) (H H' : Heap) (w : World), shuts ds H = some H' → Sim B D ρ H w → (∀ d ∈ ds, D d) →
    (∀ w', Post B D ρ H w D ρ H' w' → ∃ v, (results fn tm).run P w' = .ok v w' ∧ R (.returned v) w') →
    LeavesInM Fence.wide n P fn tm R (ds.map fun d => { target := .collected (ρ d).1, args := #[] }) .returning w := by
  intro ds
  induction ds with
  | nil =>
    intro H H' w h hs _ hR
    cases h
    exact hR w (Post.refl hs)
  | cons d ds ih =>
    intro H H' w h hs hd hR
    unfold shuts at h
    split at h
    · rename_i hg
      have kd := hd d (by simp)
      obtain ⟨o, g, l⟩ := hs.live d kd
      rw [hg] at g; cases g
      rcases l with l | ⟨_, o', hw, rfl⟩
      · cases l
      have hp := post_write hs d kd (by rw [hg]; exact ⟨nofun, nofun⟩) .shut (.deferred none) rfl ⟨nofun, nofun⟩
      refine ⟨(by intro e; cases e), .inl ⟨(ρ d).1, _, rfl, ?_, ih _ H' _ h hp.sim (fun d' h' => hd d' (by simp [h'])) (fun w' p => hR w' (hp.trans p))⟩⟩
      simp only [Instr.takeDeferred, Sem.run_bind, run_getObj hw (fun _ _ _ h => by cases h), run_setObj hw (fun _ _ _ h => by cases h), Result.andThen_ok, Sem.run_pure]
    · cases h

theorem fn_sound {rec : Rec} (hg : Good P rec) (hmix : P.follows .mixedOrders = true) {f : FuncId} {args : List AV} {H H' : Heap} {v : AV} (he : evFn P rec f args H = some (v, H')) :
    (∃ fn c, P.funcs[f]? = some fn ∧ fn.body = some c ∧ (fn.name == "runtime.NumGoroutine") = false) ∧
      ∀ B D ρ w n, Sim B D ρ H w → AV.withins D args → CallsIn Fence.wide n P f (concs ρ args).toArray w (RetOK B D ρ H w v H') := by
  unfold evFn at he
  split at he
  · rename_i fn hf
    split at he
    · rename_i c hb hname hok
      refine ⟨⟨fn, c, hf, hb, hname⟩, ?_⟩
      intro B D ρ w n hs ka
      split at he
      · cases he
      · rename_i hlen
        have hlen := Nat.le_of_ble_eq_true hlen
        have hcode : codeOk fn.ntmps c = true := by simpa [frameOk, hb] using hok
        refine callsIn_of_wp_marks hf hb trivial ?_
        let H0 : Heap := ⟨H.t, H.next, H.next⟩
        have hs0 : Sim B D ρ H0 w := hs.lo rfl rfl
        let tm : Array Value := (concs ρ args).toArray ++ Array.replicate (fn.ntmps - (concs ρ args).toArray.size) undef
        have hsz : tm.size = fn.ntmps := by simp [tm]; omega
        have hT : TR D ρ (setArgs (blank fn.ntmps) 0 args) tm := by
          refine setArgs_TR args 0 _ tm (fun t v h => by rw [blank_get] at h; cases h) ka ?_
          intro j u hu
          obtain ⟨hj, rfl⟩ := List.getElem?_eq_some_iff.1 hu
          refine ⟨by rw [hsz]; omega, ?_⟩
          simp only [tm, Nat.zero_add, Array.getD_eq_getD_getElem?]
          rw [Array.getElem?_append_left (by simpa using hj)]
          simp [concs_map, hj]
        -- behind the body
        have fin : ∀ (s : St), evBack P fn H s = some (v, H') → ∀ D' ρ' (a' : Act) w', Post B D ρ H0 w D' ρ' s.H w' → TR D' ρ' s.T a'.tmps → Marks D' ρ' s.D a'.defers →
            LeavesInM Fence.wide n P fn a'.tmps (RetOK B D ρ H w v H') a'.defers .returning w' := by
          intro s hback D' ρ' a' w' hp hT' hm
          unfold evBack at hback
          split at hback
          · rename_i H2 hsh
            split at hback
            · rename_i vs hvs
              rw [hm.1]
              refine shuts_run s.D s.H H2 w' hsh hp.sim hm.2 ?_
              intro w2 hp2
              have hp3 := hp.trans hp2
              obtain ⟨r1, r2⟩ := results_run (P := P) hp2.sim hT' hvs
              refine ⟨_, r1, ?_⟩
              simp only [Option.some.injEq] at hback
              unfold leave at hback
              split at hback
              · rename_i c1 c2
                have c1 := Nat.le_of_ble_eq_true c1
                cases hback
                refine ⟨D, ρ, by rw [flat_conc _ c2], ⟨⟨?_, ?_, ?_, hs.fresh⟩, fun n k => k, fun _ _ => rfl, fun n k => .inl k, fun _ _ _ => rfl, Nat.le_refl _, Nat.le_refl _, fun _ _ _ => rfl, hp3.keep⟩, flat_within _ c2⟩
                · intro n k
                  obtain ⟨o, g1, g2⟩ := hs.live n k
                  obtain ⟨o3, q1, q2⟩ := hp3.sim.live n (hp3.ext n k)
                  have hn := hs.fresh n k
                  have : H2.get n = H.get n := hp3.low n hn (Nat.lt_of_lt_of_le hn c1)
                  rw [this, g1] at q1
                  cases q1
                  refine ⟨o, g1, ?_⟩
                  rcases g2 with g2 | ⟨g2, o1, g3, g4⟩
                  · exact .inl g2
                  · rcases q2 with q2 | ⟨q2, o2, q3, q4⟩
                    · exact .inl q2
                    · rw [hp3.ren n k] at q2 q3 q4
                      exact .inr ⟨q2, o2, q3, g4.back hp3.ren q4⟩
                · exact hs.inj
                · exact Nat.le_trans hs.base hp3.keep.size
              · cases hback
                refine ⟨_, _, rfl, ⟨hp3.sim.lo rfl rfl, hp3.ext, hp3.ren, hp3.new, ?_, hp3.next, ?_, ?_, hp3.keep⟩, r2⟩
                · exact fun n k d => hp3.frame n k d
                · show @Bool.rec (fun _ => Nat) H2.lo H.lo (Nat.ble H.lo H2.lo) ≤ H.lo
                  cases hb : Nat.ble H.lo H2.lo with
                  | true => exact Nat.le_refl _
                  | false =>
                    have : ¬ H.lo ≤ H2.lo := fun e => by rw [Nat.ble_eq_true_of_le e] at hb; cases hb
                    show H2.lo ≤ H.lo
                    omega
                · intro n k l
                  refine hp3.low n k ?_
                  change n < @Bool.rec (fun _ => Nat) H2.lo H.lo (Nat.ble H.lo H2.lo) at l
                  cases hb : Nat.ble H.lo H2.lo with
                  | true => rw [hb] at l; have := Nat.le_of_ble_eq_true hb; exact Nat.lt_of_lt_of_le l this
                  | false => rw [hb] at l; exact l
            · cases hback
          · cases hback
        have body : ∀ (x : Ex) (s : St), evCode P rec none c { T := setArgs (blank fn.ntmps) 0 args, D := [], H := H0 } = some (x, s) → evBack P fn H s = some (v, H') → (x = .norm ∨ x = .ret) →
            c.wpIn Fence.wide n P (bodyPostM Fence.wide n P fn (RetOK B D ρ H w v H')) { tmps := tm, defers := [] } w := by
          intro x s hx hback hxx
          have := code_sound hg hmix none c _ s x hx B D ρ w { tmps := tm, defers := [] } n (bodyPostM Fence.wide n P fn (RetOK B D ρ H w v H')) hs0 hT (by rw [hsz]; exact hcode) ⟨rfl, fun d hd => by cases hd⟩ (fun l hl => by cases hl)
            (fun D' ρ' a' w' hp hT' _ hm => by
              rcases hxx with rfl | rfl
              · exact fin s hback D' ρ' a' w' hp hT' hm
              · exact fin s hback D' ρ' a' w' hp hT' hm)
          exact this
        split at he
        · rename_i s hx
          exact body .norm s hx he (.inl rfl)
        · rename_i s hx
          exact body .ret s hx he (.inr rfl)
        · cases he
    · cases he
  · cases he
end Go.Ev

