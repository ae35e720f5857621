/-
  A region whose order is drawn, where a call may come to one of some outcomes.
-/
import Derived.Test.YtibplmibcbillaaEvNa
namespace Go.EvN
open Go.Ev Go.RowKit
variable {P : Program} {w : World}

/-- A plan, with all that may come of it. -/
def PlanS (P : Program) (ops : Array Oper) : List Entry → Tr AV → Heap → (Tr AV → Heap → Prop) → Prop
  | [], T, H, K => K T H
  | e :: es, T, H, K => StepS P ops e.o T H fun v H1 => stills P ops (putD T e.o.dst v) H1 e.check = true ∧ PlanS P ops es (putD T e.o.dst v) H1 K

def OpsS (P : Program) (ops : Array Oper) : List Oper → Tr AV → Heap → (Tr AV → Heap → Prop) → Prop
  | [], T, H, K => K T H
  | o :: l, T, H, K => StepS P ops o T H fun v H1 => OpsS P ops l (putD T o.dst v) H1 K

section
variable {a : Act} {B : Nat} {D : Nat → Prop} {ρ : Ren} {H : Heap} {T : Tr AV}
theorem step_soundS {ops : Array Oper} {o : Oper} {KK : AV → Heap → Prop} (hr : StepS P ops o T H KK) {i : Nat} (hi : ops[i]? = some o)
    (hs : Sim B D ρ H w) (hT : TR D ρ T a.tmps) {ro : Option Nat} {n : Nat} {Q : Exit → Act → World → Prop} {K : Act → World → Prop}
    (hK : ∀ v H1 D' ρ' w', KK v H1 → Post B D ρ H w D' ρ' H1 w' → v.within D' → K (a.put o.dst (conc ρ' v)) w') : wpOpIn (WF ro) n P ops Q i K a w := by
  unfold wpOpIn
  rw [hi]
  simp only
  unfold StepS at hr
  split at hr
  · exact hr.elim
  · rename_i hw
    rw [wanted_sound hT hw]
    simp only [Bool.false_eq_true, if_false]
    exact ⟨fun _ _ => trivial, hK _ _ D ρ w hr (Post.refl hs) trivial⟩
  · rename_i hw
    rw [wanted_sound hT hw]
    simp only [if_true]
    refine ⟨fun _ _ => trivial, ?_⟩
    split at hr
    · obtain ⟨q0, v, H', D', ρ', w', q1, q2, q3, q4⟩ := mapS_sound hr hs hT
      rw [Oper.semAt_eq _ _ _ q0, q2]
      exact hK _ _ _ _ _ q1 q3 q4
    · rename_i u H2 he
      rw [Oper.semAt_eq _ _ _ (noDefer he)]
      obtain ⟨D', ρ', w', h1, h2, h3⟩ := evOp_sound hs hT he
      rw [h1]
      exact hK _ _ D' ρ' w' hr h2 h3
    · rename_i H2 he
      rw [Oper.semAt_eq _ _ _ (noDefer he)]
      obtain ⟨w', h1, h2⟩ := evOp_sound hs hT he
      rw [h1]
      exact hK _ _ D ρ w' hr h2 trivial
    · rename_i f args he
      rw [Oper.semAt_eq _ _ _ (noDefer he)]
      obtain ⟨h1, h2⟩ := evOp_sound hs hT he
      obtain ⟨⟨fn, c, q1, q2, q3⟩, hc⟩ := hr
      rw [h1, callFunc_enter q1 q2 q3]
      refine ⟨(fun h => by cases h), ?_⟩
      refine CallsIn.mono (hc B D ρ w (n - 1) hs h2) ?_
      rintro e w' ⟨v, H', D', ρ', kk, rfl, hp, hv⟩
      exact hK v H' D' ρ' w' kk hp hv
    · rename_i l args he
      rw [Oper.semAt_eq _ _ _ (noDefer he)]
      obtain ⟨h1, h2, h3⟩ := evOp_sound hs hT he
      obtain ⟨r, q1, q2, hc⟩ := hr B D ρ w (n - 1) hs h2 h3
      rw [h1, yield_round q1 (by simpa using q2)]
      refine ⟨(fun h => by cases h), ?_⟩
      refine RoundIn.mono hc ?_
      rintro e w' ⟨v, H', D', ρ', kk, rfl, hp, hv⟩
      exact hK v H' D' ρ' w' kk hp hv

theorem ops_soundS {ops : Array Oper} {ro : Option Nat} {n : Nat} {Q : Exit → Act → World → Prop} {KK : Tr AV → Heap → Prop} : ∀ (l : List Oper) (k : Nat), (∀ j, ops[k + j]? = l[j]?) →
    ∀ (T : Tr AV) (H : Heap) (D : Nat → Prop) (ρ : Ren) (a : Act) (w : World), OpsS P ops l T H KK → Sim B D ρ H w → TR D ρ T a.tmps →
    (∀ o ∈ l, ∀ d, o.dst = some d → d < a.tmps.size) →
    (∀ T' H' D' ρ' a' w', KK T' H' → Post B D ρ H w D' ρ' H' w' → TR D' ρ' T' a'.tmps → a'.tmps.size = a.tmps.size → a'.defers = a.defers → Q .normal a' w') →
    wpOpsIn (WF ro) n P ops Q (List.range' k l.length) a w := by
  intro l
  induction l with
  | nil =>
    intro k _ T H D ρ a w he hs hT _ hQ
    exact hQ T H D ρ a w he (Post.refl hs) hT rfl rfl
  | cons o l ih =>
    intro k hk T H D ρ a w he hs hT hd hQ
    have hk0 : ops[k]? = some o := by have := hk 0; simpa using this
    simp only [List.length_cons, List.range'_succ]
    rw [wpOpsIn_cons]
    refine step_soundS he hk0 hs hT ?_
    intro v H1 D1 ρ1 w1 h2 hp hv
    have hT1 := (hT.mono hp.ext hp.ren).put (hd o (by simp)) hv
    refine ih (k + 1) (fun j => by have := hk (j + 1); rw [← Nat.add_assoc] at this; rw [Nat.add_right_comm]; simpa using this) _ _ _ _ _ _ h2 hp.sim hT1 (fun o' ho' d hd' => by rw [put_size]; exact hd o' (by simp [ho']) d hd') ?_
    intro T' H' D2 ρ2 a2 w2 kk hp2 hT2 hz hdf
    exact hQ T' H' D2 ρ2 a2 w2 kk (hp.trans hp2) hT2 (by rw [hz, put_size]) (by rw [hdf, put_defers])
end

section
variable (P) (ops : Array Oper) (KP : Tr AV → Heap → Prop) (B : Nat) (D0 : Nat → Prop) (ρ0 : Ren) (H0 : Heap) (w0 : World) (a0 : Act)

structure Inv (prev es : List Entry) (T : Tr AV) (H : Heap) (done : Nat) (L : Array Bool) (own : Nat → Nat) (D : Nat → Prop) (ρ : Ren) (a : Act) (w : World) : Prop where
  ok : AllOk ops (es.reverse ++ prev)
  plan : planOk ops (rows ops) es done = true
  run : PlanS P ops es T H KP
  doneIff : ∀ i, bit done i = true ↔ ∃ e ∈ prev, e.i = i
  closed : ClosedL prev
  size : L.size = ops.size
  sub : ∀ i, L.getD i false = true → bit done i = true
  wait : ∀ e ∈ prev, L.getD e.i false = false → e.stable = true ∧ ∃ d, e.o.dst = some d ∧ Waits P ops T H D H0.next own e.i e.o d
  tr : ∀ t v, T.get t = some v → (∀ e ∈ prev, L.getD e.i false = false → e.o.dst ≠ some t) → t < a.tmps.size ∧ a.tmps.getD t undef = conc ρ v ∧ v.within D
  post : Post B D0 ρ0 H0 w0 D ρ H w
  asz : a.tmps.size = a0.tmps.size
  adf : a.defers = a0.defers
end

section
variable {ops : Array Oper} {KP : Tr AV → Heap → Prop} {B : Nat} {D0 : Nat → Prop} {ρ0 : Ren} {H0 : Heap} {w0 : World} {a0 : Act}
variable {prev es : List Entry} {T : Tr AV} {H : Heap} {done : Nat} {L : Array Bool} {own : Nat → Nat} {D : Nat → Prop} {ρ : Ren} {a : Act} {w : World}

theorem Inv.entry (h : Inv P ops KP B D0 ρ0 H0 w0 a0 prev es T H done L own D ρ a w) {e : Entry} (he : e ∈ prev) :
    ops[e.i]? = some e.o ∧ (e.stable = true → ((pureOp e.o.op || readOp e.o.op) = true ∨ newOp e.o.op = true) ∧ ∃ d, e.o.dst = some d ∧ ∀ (j : Nat) (o' : Oper), ops[j]? = some o' → d ∈ readsOf ops o' → isPred o' e.i = true) := by
  obtain ⟨r, h1, h2, _⟩ := (AllOk.drop h.ok).mem e he
  exact ⟨h1, fun s => stableAt_spec (h2 s).1⟩

/-- The operands of what can be taken are known to the machine. -/
theorem Inv.reads (h : Inv P ops KP B D0 ρ0 H0 w0 a0 prev es T H done L own D ρ a w) {i : Nat} {o : Oper} (hi : ops[i]? = some o)
    (hp : ∀ e ∈ o.after, Region.binds .any e = true → L.getD e.on false = true) : TR D ρ (restr T (readsOf ops o)) a.tmps := by
  intro t v hv
  obtain ⟨h1, h2⟩ := (restr_get T (readsOf ops o) t).2 v hv
  refine h.tr t v h2 fun e he hu hd => ?_
  obtain ⟨hs, _⟩ := h.wait e he hu
  obtain ⟨_, h3⟩ := h.entry he
  obtain ⟨_, d, hd', hq⟩ := h3 hs
  rw [hd] at hd'; cases hd'
  obtain ⟨x, hx, hb, hon⟩ := isPred_iff.1 (hq i o hi h1)
  have := hp x hx hb
  rw [hon, hu] at this
  cases this

theorem run_det {e : Entry} (h : PlanS P ops (e :: es) T H KP) (hk : (pureOp e.o.op || readOp e.o.op) = true ∨ newOp e.o.op = true) :
    ∃ v H1, stepR P (fun _ _ => none) ops e.o T H = some (v, H1) ∧ stills P ops (putD T e.o.dst v) H1 e.check = true ∧ PlanS P ops es (putD T e.o.dst v) H1 KP :=
  StepS.det (show StepS P ops e.o T H _ from h) hk

theorem stills_mem {T : Tr AV} {H : Heap} : ∀ {l : List Oper}, stills P ops T H l = true → ∀ o ∈ l, still P ops T H o = true := by
  intro l
  induction l with
  | nil => intro _ o ho; cases ho
  | cons x l ih =>
    intro h o ho
    unfold stills at h
    split at h
    · rename_i hx
      rcases List.mem_cons.1 ho with rfl | ho
      · exact hx
      · exact ih h o ho
    · cases h

theorem get_putD {T : Tr AV} {d : Option Tmp} {v : AV} {t : Tmp} : (putD T d v).get t = if d = some t then some v else T.get t := by
  cases d with
  | none => simp [putD]
  | some d =>
    show (T.set d v).get t = _
    rw [get_set]
    by_cases e : t = d
    · subst e; simp
    · have : ¬ (some d = some t) := fun k => e (by cases k; rfl)
      simp only [e, this, if_false]

/-- A stable operation is done ahead. -/
theorem Inv.eager (hf : PlanFacts ops) {e : Entry} (hst : e.stable = true) (h : Inv P ops KP B D0 ρ0 H0 w0 a0 prev (e :: es) T H done L own D ρ a w) :
    ∃ own1 T1 H1, Inv P ops KP B D0 ρ0 H0 w0 a0 (e :: prev) es T1 H1 (addBit done e.i) L own1 D ρ a w := by
  obtain ⟨p1, p2, _, p4⟩ := planOk_cons h.plan
  have hok : AllOk ops (es.reverse ++ (e :: prev)) := by have := h.ok; simpa using this
  have heo : EntryOk ops prev e := (AllOk.drop hok).1
  obtain ⟨hi, hsp, _⟩ := heo
  obtain ⟨hsa, hchk⟩ := hsp hst
  obtain ⟨hkind, d, hd, hq⟩ := stableAt_spec hsa
  obtain ⟨v, H1, hs, hck, hrun⟩ := run_det h.run hkind
  have hun : L.getD e.i false = false := by
    cases hl : L.getD e.i false with
    | false => rfl
    | true => have := h.sub e.i hl; rw [p1] at this; cases this
  have hself : d ∉ readsOf ops e.o := fun m => (hf.apart e.i e.i e.o e.o d hi hi hd m).1 rfl
  have hreads : ∀ t ∈ readsOf ops e.o, (putD T e.o.dst v).get t = T.get t := fun t m => by
    rw [get_putD, if_neg]; rw [hd]; intro k; cases k; exact hself m
  have hdv : (putD T e.o.dst v).get d = some v := by rw [get_putD, if_pos hd]
  -- the new one waits; the heap is as it was, or has one block more
  have key : (H1 = H ∨ ∃ ob, H1 = H.new ob ∧ newOp e.o.op = true) ∧ Waits P ops (putD T e.o.dst v) H1 D H0.next (fun N => if N = H.next then e.i else own N) e.i e.o d := by
    unfold stepR at hs
    split at hs
    · cases hs
    · rename_i hw
      cases hs
      exact ⟨.inl rfl, .inl ⟨(wantedA_congr hreads).trans hw, hdv⟩⟩
    · rename_i hw
      have hw' := (wantedA_congr hreads).trans hw
      rcases hkind with hk | hk
      · cases he : evOp P T H e.o.op with
        | none => rw [he] at hs; cases hs
        | some out =>
          obtain ⟨u, rfl⟩ := pure_keep hk he
          rw [he] at hs
          cases hs
          refine ⟨.inl rfl, .inr ⟨hw', .inl ⟨hk, v, ?_, hdv⟩⟩⟩
          rw [evOper_congr (ops := ops) hreads]; exact he
      · cases he : evOp P T H e.o.op with
        | none => rw [he] at hs; cases hs
        | some out =>
          obtain ⟨r, hr, rfl⟩ := newV_of hk he
          rw [he] at hs
          cases hs
          refine ⟨.inr ⟨_, rfl, hk⟩, .inr ⟨hw', .inr ⟨hk, r, H.next, (newV_congr hreads).trans hr, hdv, by rw [Heap.get_new]; simp, fun k => absurd (h.post.sim.fresh _ k) (Nat.lt_irrefl _), by simp, h.post.next, by simp⟩⟩⟩
  obtain ⟨hheap, hnew⟩ := key
  have hnext : H.next ≤ H1.next := by
    rcases hheap with rfl | ⟨ob, rfl, _⟩
    · exact Nat.le_refl _
    · simp
  refine ⟨fun N => if N = H.next then e.i else own N, putD T e.o.dst v, H1, ⟨hok, p4, hrun, ?_, ?_, h.size, ?_, ?_, ?_, ?_, h.asz, h.adf⟩⟩
  · intro i
    rw [bit_addBit, Bool.or_eq_true, h.doneIff]
    constructor
    · rintro (⟨q, h1, h2⟩ | k)
      · exact ⟨q, by simp [h1], h2⟩
      · exact ⟨e, by simp, (Nat.eq_of_beq_eq_true k).symm⟩
    · rintro ⟨q, h1, h2⟩
      rcases List.mem_cons.1 h1 with rfl | h1
      · subst h2; exact .inr (Nat.beq_refl _)
      · exact .inl ⟨q, h1, h2⟩
  · refine ⟨fun x hx hb => (h.doneIff _).1 (predsIn_iff.1 p2 x hx hb), fun p hp k => ?_, h.closed⟩
    have := (h.doneIff e.i).2 ⟨p, hp, k⟩
    rw [p1] at this; cases this
  · intro i hl
    rw [bit_addBit, h.sub i hl]; rfl
  · intro p hp hu
    rcases List.mem_cons.1 hp with rfl | hp
    · exact ⟨hst, d, hd, hnew⟩
    · obtain ⟨w1, dp, w2, w3⟩ := h.wait p hp hu
      obtain ⟨e1, e2⟩ := h.entry hp
      have hne : p.i ≠ e.i := fun k => by
        have := (h.doneIff e.i).2 ⟨p, hp, k⟩
        rw [p1] at this; cases this
      refine ⟨w1, dp, w2, w3.keep w2 ?_ ?_ ?_ ?_ hnext⟩
      · intro t m
        rw [get_putD, if_neg]
        rw [hd]
        intro k; cases k
        obtain ⟨x, hx, hb, hon⟩ := isPred_iff.1 (hq p.i p.o e1 m)
        obtain ⟨q, hq1, hq2⟩ := h.closed.preds p hp x hx hb
        have := (h.doneIff e.i).2 ⟨q, hq1, hq2.trans hon⟩
        rw [p1] at this; cases this
      · rw [get_putD, if_neg]
        intro k
        exact hne (hf.once p.i e.i p.o e.o dp e1 hi w2 k)
      · intro hr
        rcases hheap with k | ⟨ob, _, k⟩
        · exact .inl k
        · exact .inr (stills_mem hck _ (hchk k p hp w1 hr))
      · intro N n1 n2 n3
        refine ⟨?_, n1, ?_⟩
        · rcases hheap with rfl | ⟨ob, rfl, _⟩
          · rfl
          · rw [Heap.get_new, if_neg (by omega)]
        · have : N ≠ H.next := by omega
          simp [this]
  · intro t u hu hc
    have hnt : e.o.dst ≠ some t := hc e (by simp) hun
    rw [get_putD, if_neg hnt] at hu
    exact h.tr t u hu fun p hp => hc p (by simp [hp])
  · rcases hheap with rfl | ⟨ob, rfl, _⟩
    · exact h.post
    · exact h.post.grow ob

theorem getD_set_self {L : Array Bool} {i : Nat} (h : i < L.size) : (L.setIfInBounds i true).getD i false = true := by
  simp [h]

theorem getD_set_cases {L : Array Bool} {i j : Nat} (h : (L.setIfInBounds i true).getD j false = true) : j = i ∨ L.getD j false = true := by
  by_cases e : i = j
  · exact .inl e.symm
  · rw [getD_set_ne false e] at h; exact .inr h

theorem put_tmps {a : Act} {d : Option Tmp} {v : Value} : (a.put d v).tmps.size = a.tmps.size ∧ (a.put d v).defers = a.defers ∧
    (∀ t, d = some t → t < a.tmps.size → (a.put d v).tmps.getD t undef = v) ∧ ∀ t, d ≠ some t → (a.put d v).tmps.getD t undef = a.tmps.getD t undef := by
  cases d with
  | none => exact ⟨rfl, rfl, fun t h => (by cases h), fun t _ => rfl⟩
  | some d =>
    refine ⟨by simp [Act.put], rfl, fun t h hl => ?_, fun t h => ?_⟩
    · cases h
      simp only [Act.put, Array.getD_eq_getD_getElem?]
      rw [Array.getElem?_setIfInBounds_self_of_lt hl]; rfl
    · have : d ≠ t := fun k => h (by rw [k])
      simp only [Act.put, Array.getD_eq_getD_getElem?]
      rw [Array.getElem?_setIfInBounds_ne this]

theorem rel_mono {D D1 : Nat → Prop} {ρ ρ1 : Ren} {v : AV} {x : Value} (hD : ∀ n, D n → D1 n) (hρ : ∀ n, D n → ρ1 n = ρ n) (h1 : x = conc ρ v) (h2 : v.within D) : x = conc ρ1 v ∧ v.within D1 :=
  ⟨h1.trans (conc_congr hρ v h2).symm, within_mono hD v h2⟩

/-- What waited is done by the machine. -/
theorem Inv.listed (hdst : ∀ o ∈ ops.toList, ∀ d, o.dst = some d → d < a0.tmps.size) (h : Inv P ops KP B D0 ρ0 H0 w0 a0 prev es T H done L own D ρ a w) {e : Entry} (he : e ∈ prev)
    {d : Tmp} (hd : e.o.dst = some d) {v : AV} (hv : T.get d = some v) {D1 : Nat → Prop} {ρ1 : Ren} {w1 : World} (hp : Post B D0 ρ0 H0 w0 D1 ρ1 H w1)
    (hD : ∀ n, D n → D1 n) (hρ : ∀ n, D n → ρ1 n = ρ n) (hvw : v.within D1) (hN : ∀ N, ¬ D N → N < H.next → own N ≠ e.i → ¬ D1 N) :
    Inv P ops KP B D0 ρ0 H0 w0 a0 prev es T H done (L.setIfInBounds e.i true) own D1 ρ1 (a.put e.o.dst (conc ρ1 v)) w1 := by
  obtain ⟨ei, _⟩ := h.entry he
  have hlt : e.i < L.size := by rw [h.size]; exact (Array.getElem?_eq_some_iff.1 ei).1
  have hne : ∀ p, (L.setIfInBounds e.i true).getD p false = false → p ≠ e.i ∧ L.getD p false = false := by
    intro p k
    by_cases q : e.i = p
    · subst q; rw [getD_set_self hlt] at k; cases k
    · rw [getD_set_ne false q] at k; exact ⟨fun r => q r.symm, k⟩
  obtain ⟨t1, t2, t3, t4⟩ := put_tmps (a := a) (d := e.o.dst) (v := conc ρ1 v)
  refine ⟨h.ok, h.plan, h.run, h.doneIff, h.closed, by simpa using h.size, ?_, ?_, ?_, hp, t1.trans h.asz, t2.trans h.adf⟩
  · intro i hl
    rcases getD_set_cases hl with rfl | hl
    · exact (h.doneIff _).2 ⟨e, he, rfl⟩
    · exact h.sub i hl
  · intro p hpp hu
    obtain ⟨q1, q2⟩ := hne _ hu
    obtain ⟨w1, dp, w2, w3⟩ := h.wait p hpp q2
    exact ⟨w1, dp, w2, w3.keep w2 (fun _ _ => rfl) rfl (fun _ => .inl rfl) (fun N n1 n2 n3 => ⟨rfl, hN N n1 n2 (by rw [n3]; exact q1), rfl⟩) (Nat.le_refl _)⟩
  · intro t u hu hc
    by_cases k : e.o.dst = some t
    · rw [hd] at k; cases k
      rw [hv] at hu; cases hu
      have hb : d < a.tmps.size := by rw [h.asz]; exact hdst e.o (Array.mem_toList_iff.2 (Array.mem_of_getElem? ei)) d hd
      exact ⟨by rw [t1]; exact hb, t3 d hd hb, hvw⟩
    · obtain ⟨g1, g2, g3⟩ := h.tr t u hu (fun p hpp hl hdp => by
        by_cases q : p.i = e.i
        · have := (h.entry hpp).1
          rw [q, ei] at this
          exact k (by rw [Option.some.inj this]; exact hdp)
        · exact hc p hpp (by rw [getD_set_ne false (fun r => q r.symm)]; exact hl) hdp)
      refine ⟨by rw [t1]; exact g1, ?_⟩
      rw [t4 t k]
      exact rel_mono hD hρ g2 g3

theorem mem_ready' {i : Nat} (h : Inv P ops KP B D0 ρ0 H0 w0 a0 prev es T H done L own D ρ a w) (hi : i ∈ Region.ready .any ops L) :
    L.getD i false = false ∧ ∃ o, ops[i]? = some o ∧ ∀ e ∈ o.after, Region.binds .any e = true → L.getD e.on false = true := by
  obtain ⟨h1, o, h2, h3⟩ := mem_ready.1 hi
  have hlt : i < L.size := by rw [h.size]; exact (Array.getElem?_eq_some_iff.1 h2).1
  refine ⟨?_, o, h2, h3⟩
  rw [Array.getD_eq_getD_getElem?, Array.getElem?_eq_getElem hlt] at h1 ⊢
  exact h1

theorem ready_of (h : Inv P ops KP B D0 ρ0 H0 w0 a0 prev es T H done L own D ρ a w) {i : Nat} {o : Oper} (ho : ops[i]? = some o) (hu : L.getD i false = false)
    (hp : ∀ e ∈ o.after, Region.binds .any e = true → L.getD e.on false = true) : i ∈ Region.ready .any ops L := by
  have hlt : i < L.size := by rw [h.size]; exact (Array.getElem?_eq_some_iff.1 ho).1
  refine mem_ready.2 ⟨?_, o, ho, hp⟩
  rw [Array.getD_eq_getD_getElem?, Array.getElem?_eq_getElem hlt] at hu ⊢
  exact hu

variable {ro : Option Nat} {n : Nat} {Q : Exit → Act → World → Prop} {K : Act → World → Prop}

/-- The machine takes what waits. -/
theorem Inv.take (hdst : ∀ o ∈ ops.toList, ∀ d, o.dst = some d → d < a0.tmps.size) (h : Inv P ops KP B D0 ρ0 H0 w0 a0 prev es T H done L own D ρ a w) {e : Entry} (he : e ∈ prev)
    (hu : L.getD e.i false = false) (hp : ∀ x ∈ e.o.after, Region.binds .any x = true → L.getD x.on false = true)
    (hK : ∀ D1 ρ1 a1 w1, Inv P ops KP B D0 ρ0 H0 w0 a0 prev es T H done (L.setIfInBounds e.i true) own D1 ρ1 a1 w1 → K a1 w1) : wpOpIn (WF ro) n P ops Q e.i K a w := by
  obtain ⟨ei, _⟩ := h.entry he
  have hTR := h.reads ei hp
  have hrd : ∀ t ∈ readsOf ops e.o, (restr T (readsOf ops e.o)).get t = T.get t := fun t m => (restr_get T _ t).1 m
  obtain ⟨_, d, hd, hw⟩ := h.wait e he hu
  have plain : ∀ v, T.get d = some v → stepR P (fun _ _ => none) ops e.o T H = some (v, H) → wpOpIn (WF ro) n P ops Q e.i K a w := by
    intro v hv hs
    rw [← stepR_congr hrd] at hs
    refine step_sound noR hs ei h.post.sim hTR fun D1 ρ1 w1 hp1 hvw => ?_
    refine hK _ _ _ _ (h.listed hdst he hd hv (h.post.trans hp1) hp1.ext hp1.ren hvw fun N n1 n2 _ k => ?_)
    rcases hp1.new N k with q | q
    · exact n1 q
    · omega
  rcases hw with ⟨h1, h2⟩ | ⟨h1, ⟨_, v, h3, h4⟩ | ⟨hk, r, N, h3, h4, h5, h6, h7, h8, h9⟩⟩
  · exact plain undefA h2 (by unfold stepR; rw [h1])
  · exact plain v h4 (by unfold stepR; rw [h1, h3])
  · rw [← newV_congr hrd] at h3
    obtain ⟨g1, g0, ob, g2, g3⟩ := newV_run (P := P) (w := w) hTR h3
    obtain ⟨g4, g5⟩ := g3 N
    unfold wpOpIn
    rw [ei]
    simp only
    rw [wanted_sound hTR ((wantedA_congr hrd).trans h1)]
    simp only [if_true]
    refine ⟨fun _ _ => trivial, ?_⟩
    rw [Oper.semAt_eq _ _ _ g1, g4]
    have hsim := h.post.sim.alloc (H' := H) (w' := { w with heap := w.heap.push ob }) N 0 r.2 ob h6 h7 (Nat.le_refl _) h5 (fun _ _ => rfl) g2 rfl g0
    have hne : ∀ n, D n → n ≠ N := fun n k e => h6 (e ▸ k)
    have hb := h.post.sim.base
    refine hK _ _ _ _ (h.listed hdst he hd h4 (D1 := fun n => D n ∨ n = N) (ρ1 := fun n => if n = N then (w.heap.size, 0) else ρ n) ⟨hsim, fun n k => .inl (h.post.ext n k), fun n k => ?_, ?_, h.post.frame, h.post.next, h.post.lo, h.post.low, ?_⟩
      (fun n k => .inl k) (fun n k => by simp [hne n k]) g5 fun M m1 m2 m3 k => ?_)
    · have := hne n (h.post.ext n k)
      simp only [this, if_false]
      exact h.post.ren n k
    · rintro m (k | rfl)
      · exact h.post.new m k
      · exact .inr h8
    · refine Below.trans h.post.keep ⟨rfl, rfl, rfl, by simp, fun k hk => ?_⟩
      exact Array.getElem?_push_lt (by omega) |>.trans (Array.getElem?_eq_getElem (by omega)).symm
    · rcases k with k | rfl
      · exact m1 k
      · exact m3 h9

/-- The machine takes the only one that the plan takes next. -/
theorem Inv.lock (hf : PlanFacts ops) (hdst : ∀ o ∈ ops.toList, ∀ d, o.dst = some d → d < a0.tmps.size) {e : Entry} (hst : e.stable = false)
    (h : Inv P ops KP B D0 ρ0 H0 w0 a0 prev (e :: es) T H done L own D ρ a w) (hp : ∀ x ∈ e.o.after, Region.binds .any x = true → L.getD x.on false = true)
    (hK : ∀ T1 H1 D1 ρ1 a1 w1, Inv P ops KP B D0 ρ0 H0 w0 a0 (e :: prev) es T1 H1 (addBit done e.i) (L.setIfInBounds e.i true) own D1 ρ1 a1 w1 → K a1 w1) : wpOpIn (WF ro) n P ops Q e.i K a w := by
  obtain ⟨p1, p2, _, p4⟩ := planOk_cons h.plan
  have hok : AllOk ops (es.reverse ++ (e :: prev)) := by have := h.ok; simpa using this
  obtain ⟨hi, _, hchk⟩ := (AllOk.drop hok).1
  have hchk := hchk hst
  have hTR := h.reads hi hp
  have hrd : ∀ t ∈ readsOf ops e.o, (restr T (readsOf ops e.o)).get t = T.get t := fun t m => (restr_get T _ t).1 m
  have hlt : e.i < L.size := by rw [h.size]; exact (Array.getElem?_eq_some_iff.1 hi).1
  refine step_soundS (StepS.congr hrd (show StepS P ops e.o T H _ from h.run)) hi h.post.sim hTR fun v H1 D1 ρ1 w1 hkk hp1 hvw => hK (putD T e.o.dst v) H1 D1 ρ1 _ w1 ?_
  obtain ⟨hck, hrun⟩ := hkk
  obtain ⟨t1, t2, t3, t4⟩ := put_tmps (a := a) (d := e.o.dst) (v := conc ρ1 v)
  have hne : ∀ p, (L.setIfInBounds e.i true).getD p false = false → p ≠ e.i ∧ L.getD p false = false := by
    intro p k
    by_cases q : e.i = p
    · subst q; rw [getD_set_self hlt] at k; cases k
    · rw [getD_set_ne false q] at k; exact ⟨fun r => q r.symm, k⟩
  have hnp : ∀ p ∈ prev, p.i ≠ e.i := fun p hpp k => by
    have := (h.doneIff e.i).2 ⟨p, hpp, k⟩
    rw [p1] at this; cases this
  refine ⟨hok, p4, hrun, ?_, ?_, by simpa using h.size, ?_, ?_, ?_, h.post.trans hp1, t1.trans h.asz, t2.trans h.adf⟩
  · intro i
    rw [bit_addBit, Bool.or_eq_true, h.doneIff]
    constructor
    · rintro (⟨q, h1, h2⟩ | k)
      · exact ⟨q, by simp [h1], h2⟩
      · exact ⟨e, by simp, (Nat.eq_of_beq_eq_true k).symm⟩
    · rintro ⟨q, h1, h2⟩
      rcases List.mem_cons.1 h1 with rfl | h1
      · subst h2; exact .inr (Nat.beq_refl _)
      · exact .inl ⟨q, h1, h2⟩
  · exact ⟨fun x hx hb => (h.doneIff _).1 (predsIn_iff.1 p2 x hx hb), hnp, h.closed⟩
  · intro i hl
    rw [bit_addBit]
    rcases getD_set_cases hl with rfl | hl
    · simp
    · rw [h.sub i hl]; rfl
  · intro p hpp hu
    obtain ⟨q1, q2⟩ := hne _ hu
    rcases List.mem_cons.1 hpp with rfl | hpp
    · exact absurd rfl q1
    obtain ⟨w1, dp, w2, w3⟩ := h.wait p hpp q2
    obtain ⟨e1, _⟩ := h.entry hpp
    have npred : isPred e.o p.i = false := by
      cases hc : isPred e.o p.i with
      | false => rfl
      | true =>
        obtain ⟨x, hx, hb, hon⟩ := isPred_iff.1 hc
        have := hp x hx hb
        rw [hon, q2] at this; cases this
    refine ⟨w1, dp, w2, w3.keep w2 ?_ ?_ ?_ ?_ hp1.next⟩
    · intro t m
      rw [get_putD, if_neg]
      intro k
      rcases (hf.apart e.i p.i e.o p.o t hi e1 k m).2 with c | c
      · obtain ⟨x, hx, hb, hon⟩ := isPred_iff.1 c
        obtain ⟨q, hq1, hq2⟩ := h.closed.preds p hpp x hx hb
        exact hnp q hq1 (hq2.trans hon)
      · rw [npred] at c; cases c
    · rw [get_putD, if_neg]
      intro k
      exact q1 (hf.once p.i e.i p.o e.o dp e1 hi w2 k)
    · intro hr
      exact .inr (stills_mem hck _ (hchk p hpp w1 hr npred))
    · intro N n1 n2 n3
      refine ⟨hp1.frame N n2 n1, fun k => ?_, rfl⟩
      rcases hp1.new N k with q | q
      · exact n1 q
      · omega
  · intro t u hu hc
    by_cases k : e.o.dst = some t
    · rw [get_putD, if_pos k] at hu
      cases hu
      have hb : t < a.tmps.size := by rw [h.asz]; exact hdst e.o (Array.mem_toList_iff.2 (Array.mem_of_getElem? hi)) t k
      exact ⟨by rw [t1]; exact hb, t3 t k hb, hvw⟩
    · rw [get_putD, if_neg k] at hu
      obtain ⟨g1, g2, g3⟩ := h.tr t u hu fun p hpp hl => hc p (by simp [hpp]) (by rw [getD_set_ne false (fun r => hnp p hpp r.symm)]; exact hl)
      refine ⟨by rw [t1]; exact g1, ?_⟩
      rw [t4 t k]
      exact rel_mono hp1.ext hp1.ren g2 g3

/-- As much ahead as can be. -/
theorem Inv.ahead (hf : PlanFacts ops) : ∀ (es : List Entry) {prev : List Entry} {T : Tr AV} {H : Heap} {done : Nat} {own : Nat → Nat}, Inv P ops KP B D0 ρ0 H0 w0 a0 prev es T H done L own D ρ a w →
    ∃ prev es T H done own, Inv P ops KP B D0 ρ0 H0 w0 a0 prev es T H done L own D ρ a w ∧ ∀ e es', es = e :: es' → e.stable = false := by
  intro es
  induction es with
  | nil => intro prev T H done own h; exact ⟨_, _, _, _, _, _, h, fun e es' k => (by cases k)⟩
  | cons e es ih =>
    intro prev T H done own h
    cases hs : e.stable with
    | false => exact ⟨_, _, _, _, _, _, h, fun e es' k => by cases k; exact hs⟩
    | true =>
      obtain ⟨own1, T1, H1, h1⟩ := h.eager hf hs
      exact ih h1

/-- At the end. -/
theorem Inv.fin (h : Inv P ops KP B D0 ρ0 H0 w0 a0 prev es T H done L own D ρ a w) (hr : Region.ready .any ops L = [])
    (hQ : ∀ T' H' D1 ρ1 a1 w1, KP T' H' → Post B D0 ρ0 H0 w0 D1 ρ1 H' w1 → TR D1 ρ1 T' a1.tmps → a1.tmps.size = a0.tmps.size → a1.defers = a0.defers → Q .normal a1 w1) : Q .normal a w := by
  have hall : ∀ p ∈ prev, L.getD p.i false = true := by
    intro p hp
    cases hl : L.getD p.i false with
    | true => rfl
    | false =>
      obtain ⟨q, h1, h2, h3⟩ := h.closed.oldest ⟨p, hp, hl⟩
      have := ready_of h (h.entry h1).1 h2 h3
      rw [hr] at this; cases this
  cases es with
  | nil =>
    exact hQ T H D ρ a w h.run h.post (fun t v hv => h.tr t v hv fun e he hu => by rw [hall e he] at hu; cases hu) h.asz h.adf
  | cons e es =>
    obtain ⟨p1, p2, _, _⟩ := planOk_cons h.plan
    have hok : AllOk ops (es.reverse ++ (e :: prev)) := by have := h.ok; simpa using this
    obtain ⟨hi, _⟩ := (AllOk.drop hok).1
    have hu : L.getD e.i false = false := by
      cases hl : L.getD e.i false with
      | false => rfl
      | true => have := h.sub e.i hl; rw [p1] at this; cases this
    have := ready_of h hi hu fun x hx hb => by
      obtain ⟨q, q1, q2⟩ := (h.doneIff _).1 (predsIn_iff.1 p2 x hx hb)
      rw [← q2]; exact hall q q1
    rw [hr] at this; cases this

def open_ (ops : Array Oper) (L : Array Bool) : Nat := (List.range ops.size).countP fun i => !L.getD i false

theorem countP_set (L : Array Bool) (i : Nat) (hi : i < L.size) (hu : L.getD i false = false) : ∀ k, (List.range k).countP (fun j => !(L.setIfInBounds i true).getD j false) + (if i < k then 1 else 0) = (List.range k).countP fun j => !L.getD j false := by
  intro k
  induction k with
  | zero => simp
  | succ k ih =>
    rw [List.range_succ, List.countP_append, List.countP_append, ← ih]
    by_cases e : i = k
    · subst e
      simp only [List.countP_cons, List.countP_nil, getD_set_self hi, hu]
      simp
    · simp only [List.countP_cons, List.countP_nil, getD_set_ne false e]
      by_cases q : i < k
      · have : i < k + 1 := by omega
        simp only [q, this, if_true]; omega
      · have : ¬ i < k + 1 := by omega
        simp only [q, this, if_false]; omega

theorem open_set (L : Array Bool) (i : Nat) (hs : L.size = ops.size) (hi : i < ops.size) (hu : L.getD i false = false) : open_ ops (L.setIfInBounds i true) + 1 = open_ ops L := by
  have := countP_set L i (by omega) hu ops.size
  rw [if_pos hi] at this
  exact this

theorem Inv.all (hf : PlanFacts ops) (hdst : ∀ o ∈ ops.toList, ∀ d, o.dst = some d → d < a0.tmps.size)
    (hQ : ∀ T' H' D1 ρ1 a1 w1, KP T' H' → Post B D0 ρ0 H0 w0 D1 ρ1 H' w1 → TR D1 ρ1 T' a1.tmps → a1.tmps.size = a0.tmps.size → a1.defers = a0.defers → Q .normal a1 w1) :
    ∀ (fuel : Nat) (prev es : List Entry) (T : Tr AV) (H : Heap) (done : Nat) (L : Array Bool) (own : Nat → Nat) (D : Nat → Prop) (ρ : Ren) (a : Act) (w : World),
      Inv P ops KP B D0 ρ0 H0 w0 a0 prev es T H done L own D ρ a w → open_ ops L ≤ fuel → wpAnyIn (WF ro) n P .any ops Q fuel L a w := by
  intro fuel
  induction fuel with
  | zero =>
    intro prev es T H done L own D ρ a w h hc
    have hr : Region.ready .any ops L = [] := by
      cases hr : Region.ready .any ops L with
      | nil => rfl
      | cons i rest =>
        obtain ⟨hu, o, ho, _⟩ := mem_ready' h (i := i) (by rw [hr]; simp)
        have := open_set L i h.size (Array.getElem?_eq_some_iff.1 ho).1 hu
        omega
    exact ⟨hr, h.fin hr hQ⟩
  | succ fuel ih =>
    intro prev es T H done L own D ρ a w h hc
    refine ⟨fun hr => h.fin hr hQ, fun i hi => ?_⟩
    obtain ⟨prev, es, T, H, done, own, h, hst⟩ := h.ahead hf
    obtain ⟨hu, o, ho, hp⟩ := mem_ready' h hi
    have hcnt := open_set L i h.size (Array.getElem?_eq_some_iff.1 ho).1 hu
    cases hb : bit done i with
    | true =>
      obtain ⟨e, he, rfl⟩ := (h.doneIff i).1 hb
      have eo := (h.entry he).1
      rw [ho] at eo
      rw [Option.some.inj eo] at hp
      exact h.take hdst he hu hp fun D1 ρ1 a1 w1 h1 => ih _ _ _ _ _ _ _ _ _ _ _ h1 (by omega)
    | false =>
      cases es with
      | nil =>
        have := h.plan
        unfold planOk at this
        have := List.all_eq_true.1 this (i, o, readsOf ops o) (mem_rows.2 ⟨ho, rfl⟩)
        rw [hb] at this; cases this
      | cons e es =>
        have hs := hst e es rfl
        obtain ⟨_, _, p3, _⟩ := planOk_cons h.plan
        rcases p3 hs i o ho with k | k | k
        · rw [hb] at k; cases k
        · subst k
          have hok : AllOk ops (es.reverse ++ (e :: prev)) := by have := h.ok; simpa using this
          obtain ⟨eo, _⟩ := (AllOk.drop hok).1
          rw [ho] at eo
          rw [Option.some.inj eo] at hp
          exact h.lock hf hdst hs hp fun T1 H1 D1 ρ1 a1 w1 h1 => ih _ _ _ _ _ _ _ _ _ _ _ h1 (by omega)
        · have : predsIn done o = true := predsIn_iff.2 fun x hx hbb => h.sub _ (hp x hx hbb)
          rw [k] at this; cases this
end

theorem draw_soundS (hmix : P.follows .mixedOrders = true) {id : Nat} {ops : Array Oper} {T : Tr AV} {H : Heap} {KP : Tr AV → Heap → Prop} {pl : List Entry} (hpl : planOf ops = some pl) (he : PlanS P ops pl T H KP)
    {B : Nat} {D : Nat → Prop} {ρ : Ren} {a : Act} {w : World} (hs : Sim B D ρ H w) (hT : TR D ρ T a.tmps) (hd : ∀ o ∈ ops.toList, ∀ d, o.dst = some d → d < a.tmps.size)
    {ro : Option Nat} {n : Nat} {Q : Exit → Act → World → Prop}
    (hQ : ∀ T' H' D' ρ' a' w', KP T' H' → Post B D ρ H w D' ρ' H' w' → TR D' ρ' T' a'.tmps → a'.tmps.size = a.tmps.size → a'.defers = a.defers → Q .normal a' w') :
    (Code.region id ops true).wpIn (WF ro) n P Q a w := by
  · skip
    obtain ⟨h1, h2, h3⟩ := planOf_spec hpl
    refine wpIn_region_any hmix ?_
    refine Inv.all (own := fun _ => 0) (prev := []) (es := pl) (T := T) (H := H) (done := 0) (D := D) (ρ := ρ) h3 hd hQ ops.size _ _ _ ⟨by simpa using h1, h2, he, ?_, trivial, by simp, ?_, fun e h => (by cases h), ?_, Post.draw hs _, rfl, rfl⟩ ?_
    · intro i
      refine ⟨fun k => ?_, fun ⟨e, k, _⟩ => (by cases k)⟩
      rw [bit_testBit] at k; simp at k
    · intro i k
      rw [Array.getD_eq_getD_getElem?, Array.getElem?_replicate] at k
      split at k <;> cases k
    · intro t v hv _
      exact hT t v hv
    · unfold open_
      exact Nat.le_trans List.countP_le_length (by simp)
end Go.EvN

