/-
  Code, calls and rounds, where a call may come to one of some outcomes.
-/
import Derived.Test.YtibplmibcbillaaEvNb
import Derived.Test.YtibplmibcbillaaEvZ
namespace Go.EvN
open Go.Ev Go.RowKit
variable {P : Program} {rec : Rec} {ro : Option Nat}

/-- What is known of the calls by the evaluator. -/
def Gd (P : Program) (rec : Rec) : Prop := Ev.Good P rec ∧ P.follows .mixedOrders = true

/-- Code comes to an end at which K holds, whatever is drawn. -/
def CodeS (P : Program) (ro : Option Nat) (c : Code) (s : St) (K : Ex → St → Prop) : Prop :=
  ∀ (B : Nat) (D : Nat → Prop) (ρ : Ren) (w : World) (a : Act) (n : Nat) (Q : Exit → Act → World → Prop), Sim B D ρ s.H w → TR D ρ s.T a.tmps → codeOk a.tmps.size c = true → Marks D ρ s.D a.defers → (∀ l, ro = some l → D l) →
    (∀ x s' D' ρ' a' w', K x s' → Post B D ρ s.H w D' ρ' s'.H w' → TR D' ρ' s'.T a'.tmps → a'.tmps.size = a.tmps.size → Marks D' ρ' s'.D a'.defers → Q (exOf x) a' w') →
    c.wpIn (WF (ro.map fun l => (ρ l).1)) n P Q a w

def Ok (P : Program) (rec : Rec) (ro : Option Nat) (c : Code) (s : St) (Q : Ex → St → Prop) : Prop := Gd P rec → CodeS P ro c s Q
def OkO (P : Program) (rec : Rec) (ops : Array Oper) (l : List Oper) (T : Tr AV) (H : Heap) (K : Tr AV → Heap → Prop) : Prop := Gd P rec → OpsS P ops l T H K
def OkP (P : Program) (rec : Rec) (ops : Array Oper) (l : List Entry) (T : Tr AV) (H : Heap) (K : Tr AV → Heap → Prop) : Prop := Gd P rec → PlanS P ops l T H K
/-- **What a call may come to.** -/
def FnN (P : Program) (rec : Rec) (f : FuncId) (args : List AV) (H : Heap) (K : AV → Heap → Prop) : Prop := Gd P rec → FnS P f args H K
def RndN (P : Program) (rec : Rec) (l : Nat) (args : List AV) (H : Heap) (K : AV → Heap → Prop) : Prop := Gd P rec → RndS P l args H K

theorem FnN.mono {f : FuncId} {args : List AV} {H : Heap} {K K' : AV → Heap → Prop} (h : FnN P rec f args H K) (k : ∀ v H', K v H' → K' v H') : FnN P rec f args H K' := fun g => FnS.mono (h g) k
theorem FnN.det {f : FuncId} {args : List AV} {H : Heap} {K : AV → Heap → Prop} (h : ∃ v H', rec (.fn f args) H = some (v, H') ∧ K v H') : FnN P rec f args H K := fun g =>
  let ⟨_, _, h1, h2⟩ := h; FnS.mono (fnS_of g.1 h1) fun _ _ ⟨a, b⟩ => by rw [a, b]; exact h2
theorem RndN.det {l : Nat} {args : List AV} {H : Heap} {K : AV → Heap → Prop} (h : ∃ v H', rec (.round l args) H = some (v, H') ∧ K v H') : RndN P rec l args H K := fun g =>
  let ⟨_, _, h1, h2⟩ := h; RndS.mono (rndS_of g.1 h1) fun _ _ ⟨a, b⟩ => by rw [a, b]; exact h2

theorem StepS.of {ops : Array Oper} {o : Oper} {T : Tr AV} {H H1 : Heap} {v : AV} {K : AV → Heap → Prop} (g : Gd P rec) (h : stepR P rec ops o T H = some (v, H1)) (k : K v H1) : StepS P ops o T H K := by
  unfold stepR at h
  unfold StepS
  split at h
  · cases h
  · rename_i hw; rw [hw]; cases h; exact k
  · rename_i hw
    rw [hw]
    dsimp only
    split at h
    · cases h
    · rename_i he; rw [he]; cases h; exact k
    · rename_i he; rw [he]; cases h; exact k
    · rename_i he; rw [he]; exact FnS.mono (fnS_of g.1 h) fun _ _ ⟨a, b⟩ => by rw [a, b]; exact k
    · rename_i he; rw [he]; exact RndS.mono (rndS_of g.1 h) fun _ _ ⟨a, b⟩ => by rw [a, b]; exact k

/-- What comes of code by the evaluator alone. -/
theorem Ok.det {c : Code} {s : St} {Q : Ex → St → Prop} (h : Ev.Ok P rec ro c s Q) : Ok P rec ro c s Q := fun g => by
  obtain ⟨x, s', h1, h2⟩ := h
  intro B D ρ w a n R hs hT hok hm hro hR
  exact code_sound g.1 g.2 ro c s s' x h1 B D ρ w a n R hs hT hok hm hro fun D' ρ' a' w' => hR x s' D' ρ' a' w' h2

theorem CodeS.mono {c : Code} {s : St} {K K' : Ex → St → Prop} (h : CodeS P ro c s K) (k : ∀ x s', K x s' → K' x s') : CodeS P ro c s K' :=
  fun B D ρ w a n Q hs hT hok hm hro hQ => h B D ρ w a n Q hs hT hok hm hro fun x s' D' ρ' a' w' hk => hQ x s' D' ρ' a' w' (k x s' hk)
theorem Ok.mono {c : Code} {s : St} {Q R : Ex → St → Prop} (h : Ok P rec ro c s Q) (k : ∀ x s, Q x s → R x s) : Ok P rec ro c s R := fun g => CodeS.mono (h g) k

/-! ### Operations -/
theorem oN {ops : Array Oper} {T : Tr AV} {H : Heap} {K : Tr AV → Heap → Prop} (h : K T H) : OkO P rec ops [] T H K := fun _ => h

section
variable {ops : Array Oper} {d : Option Tmp} {op : Op} {t : TypeId} {ps : String} {e : Array Edge} {g : Option (Nat × Bool)} {l : List Oper} {T : Tr AV} {H H' : Heap} {v : AV} {K : Tr AV → Heap → Prop}
theorem OkO.val (hg : wantedA ops g T = some true) (he : evOp P T H op = some (.val v H')) (h : OkO P rec ops l (putD T d v) H' K) : OkO P rec ops (⟨d, op, t, ps, e, g⟩ :: l) T H K := fun q => by
  show StepS P ops _ T H _
  unfold StepS
  dsimp only
  rw [hg, he]
  exact h q
theorem OkO.unit (hg : wantedA ops g T = some true) (he : evOp P T H op = some (.unit H')) (h : OkO P rec ops l (putD T d undefA) H' K) : OkO P rec ops (⟨d, op, t, ps, e, g⟩ :: l) T H K := fun q => by
  show StepS P ops _ T H _
  unfold StepS
  dsimp only
  rw [hg, he]
  exact h q
theorem oK (hg : wantedA ops g T = some false) (h : OkO P rec ops l (putD T d undefA) H K) : OkO P rec ops (⟨d, op, t, ps, e, g⟩ :: l) T H K := fun q => by
  show StepS P ops _ T H _
  unfold StepS
  dsimp only
  rw [hg]
  exact h q
theorem OkO.callK {f : FuncId} {args : List AV} {S : AV → Heap → Prop} (hg : wantedA ops g T = some true) (he : evOp P T H op = some (.fn f args)) (hr : FnN P rec f args H S) (h : ∀ v H', S v H' → OkO P rec ops l (putD T d v) H' K) :
    OkO P rec ops (⟨d, op, t, ps, e, g⟩ :: l) T H K := fun q => by
  show StepS P ops _ T H _
  unfold StepS
  dsimp only
  rw [hg, he]
  exact FnS.mono (hr q) fun v H' k => h v H' k q
theorem OkO.roundK {n : Nat} {args : List AV} {S : AV → Heap → Prop} (hg : wantedA ops g T = some true) (he : evOp P T H op = some (.round n args)) (hr : RndN P rec n args H S) (h : ∀ v H', S v H' → OkO P rec ops l (putD T d v) H' K) :
    OkO P rec ops (⟨d, op, t, ps, e, g⟩ :: l) T H K := fun q => by
  show StepS P ops _ T H _
  unfold StepS
  dsimp only
  rw [hg, he]
  exact RndS.mono (hr q) fun v H' k => h v H' k q
theorem OkO.call {f : FuncId} {args : List AV} (hg : wantedA ops g T = some true) (he : evOp P T H op = some (.fn f args)) (hr : rec (.fn f args) H = some (v, H')) (h : OkO P rec ops l (putD T d v) H' K) : OkO P rec ops (⟨d, op, t, ps, e, g⟩ :: l) T H K :=
  OkO.callK hg he (FnN.det ⟨v, H', hr, ⟨rfl, rfl⟩⟩) (S := fun v' H2 => v' = v ∧ H2 = H') fun _ _ ⟨a, b⟩ => by rw [a, b]; exact h
theorem OkO.round {n : Nat} {args : List AV} (hg : wantedA ops g T = some true) (he : evOp P T H op = some (.round n args)) (hr : rec (.round n args) H = some (v, H')) (h : OkO P rec ops l (putD T d v) H' K) : OkO P rec ops (⟨d, op, t, ps, e, g⟩ :: l) T H K :=
  OkO.roundK hg he (RndN.det ⟨v, H', hr, ⟨rfl, rfl⟩⟩) (S := fun v' H2 => v' = v ∧ H2 = H') fun _ _ ⟨a, b⟩ => by rw [a, b]; exact h
theorem OkO.mapK (hg : wantedA ops g T = some true) (he : evOp P T H op = none) (h : mapS P T H op fun v H' => OkO P rec ops l (putD T d v) H' K) : OkO P rec ops (⟨d, op, t, ps, e, g⟩ :: l) T H K := fun q => by
  show StepS P ops _ T H _
  unfold StepS
  dsimp only
  rw [hg, he]
  exact mapS_mono h fun v H' k => k q
theorem OkO.split {d : Tmp} {b : Bool} (hd : T.get d = some (.bool b)) (h1 : b = true → OkO P rec ops l (putD T (some d) (.bool true)) H K) (h2 : b = false → OkO P rec ops l (putD T (some d) (.bool false)) H K) : OkO P rec ops l T H K := by
  cases b with
  | true => rw [← lay_same T (pos d) _ hd]; exact h1 rfl
  | false => rw [← lay_same T (pos d) _ hd]; exact h2 rfl
theorem OkO.mono {K' : Tr AV → Heap → Prop} : ∀ {l : List Oper} {T : Tr AV} {H : Heap}, OkO P rec ops l T H K → (∀ T H, K T H → K' T H) → OkO P rec ops l T H K'
  | [], _, _, h, k => fun q => k _ _ (h q)
  | _ :: l, _, _, h, k => fun q => StepS.mono (h q) fun _ _ x => OkO.mono (l := l) (fun _ => x) k q
end

theorem OkP.nil {ops : Array Oper} {T : Tr AV} {H : Heap} {K : Tr AV → Heap → Prop} (h : K T H) : OkP P rec ops [] T H K := fun _ => h
theorem pS {ops : Array Oper} {e : Entry} {es : List Entry} {T : Tr AV} {H : Heap} {K : Tr AV → Heap → Prop} (h : OkO P rec ops [e.o] T H fun T' H' => stills P ops T' H' e.check = true ∧ OkP P rec ops es T' H' K) : OkP P rec ops (e :: es) T H K := fun q => by
  show StepS P ops e.o T H _
  exact StepS.mono (show StepS P ops e.o T H _ from h q) fun v H1 k => ⟨k.1, k.2 q⟩
theorem OkP.split {ops : Array Oper} {l : List Entry} {T : Tr AV} {H : Heap} {K : Tr AV → Heap → Prop} {d : Tmp} {b : Bool} (hd : T.get d = some (.bool b)) (h1 : b = true → OkP P rec ops l (putD T (some d) (.bool true)) H K) (h2 : b = false → OkP P rec ops l (putD T (some d) (.bool false)) H K) : OkP P rec ops l T H K := by
  cases b with
  | true => rw [← lay_same T (pos d) _ hd]; exact h1 rfl
  | false => rw [← lay_same T (pos d) _ hd]; exact h2 rfl

/-! ### Code -/
theorem regDst {n id : Nat} {ops : Array Oper} {draw : Bool} (hok : codeOk n (.region id ops draw) = true) : ∀ o ∈ ops.toList, ∀ d, o.dst = some d → d < n := by
  intro o ho d hd
  simp only [codeOk, List.all_eq_true] at hok
  have := hok o ho
  rw [hd] at this
  simpa [Nat.blt_eq] using this

theorem kR {id : Nat} {ops : Array Oper} {T : Tr AV} {D : List Nat} {H : Heap} {Q : Ex → St → Prop} (h : OkO P rec ops ops.toList T H fun T' H' => Q .norm ⟨T', D, H'⟩) :
    Ok P rec ro (.region id ops false) ⟨T, D, H⟩ Q := fun g => by
  intro B D' ρ w a n R hs hT hok hm hro hR
  refine wpIn_region ?_
  rw [List.range_eq_range']
  refine ops_soundS ops.toList 0 (fun j => by simp) _ _ _ _ _ _ (h g) hs hT (regDst hok) ?_
  intro T2 H2 D2 ρ2 a2 w2 kk hp hT2 hz hdf
  exact hR .norm ⟨T2, D, H2⟩ D2 ρ2 a2 w2 kk hp hT2 hz (by rw [hdf]; exact hm.mono hp.ext hp.ren)

theorem Ok.drawnS {id : Nat} {ops : Array Oper} {T : Tr AV} {D : List Nat} {H : Heap} {Q : Ex → St → Prop} {pl : List Entry} (hp : planOf ops = some pl) (h : OkP P rec ops pl T H fun T' H' => Q .norm ⟨T', D, H'⟩) :
    Ok P rec ro (.region id ops true) ⟨T, D, H⟩ Q := fun g => by
  intro B D' ρ w a n R hs hT hok hm hro hR
  refine draw_soundS g.2 hp (h g) hs hT (regDst hok) ?_
  intro T2 H2 D2 ρ2 a2 w2 kk hp hT2 hz hdf
  exact hR .norm ⟨T2, D, H2⟩ D2 ρ2 a2 w2 kk hp hT2 hz (by rw [hdf]; exact hm.mono hp.ext hp.ren)
theorem Ok.drawn {id : Nat} {ops : Array Oper} {T : Tr AV} {D : List Nat} {H : Heap} {Q : Ex → St → Prop} (order : List (Nat × Bool × List Nat)) (hp : planOf ops = some (mkPlan ops.toList order)) (h : OkP P rec ops (mkPlan ops.toList order) T H fun T' H' => Q .norm ⟨T', D, H'⟩) :
    Ok P rec ro (.region id ops true) ⟨T, D, H⟩ Q := Ok.drawnS hp h

def thenQ (P : Program) (rec : Rec) (ro : Option Nat) (c : Code) (Q : Ex → St → Prop) : Ex → St → Prop
  | .norm, s => Ok P rec ro c s Q
  | x, s => Q x s

theorem kS {x y : Code} {s : St} {Q : Ex → St → Prop} (h : Ok P rec ro x s (thenQ P rec ro y Q)) : Ok P rec ro (.seq x y) s Q := fun g => by
  intro B D ρ w a n R hs hT hok hm hro hR
  simp only [codeOk, Bool.and_eq_true] at hok
  refine wpIn_seq (h g B D ρ w a n _ hs hT hok.1 hm hro ?_)
  intro ex s1 D1 ρ1 a1 w1 kk p1 hT1 hz1 hm1
  cases ex with
  | norm =>
    show y.wpIn _ n P R a1 w1
    have := kk g B D1 ρ1 w1 a1 n R p1.sim hT1 (by rw [hz1]; exact hok.2) hm1 (fun l hl => p1.ext l (hro l hl)) (fun x2 s2 D2 ρ2 a2 w2 k2 p2 hT2 hz2 hm2 => hR x2 s2 D2 ρ2 a2 w2 k2 (p1.trans p2) hT2 (hz2.trans hz1) hm2)
    rwa [WF_eq hro p1.ren] at this
  | exit id => exact hR (.exit id) s1 D1 ρ1 a1 w1 kk p1 hT1 hz1 hm1
  | ret => exact hR .ret s1 D1 ρ1 a1 w1 kk p1 hT1 hz1 hm1

theorem Ok.cond {c : Operand} {x y : Code} {s : St} {b : Bool} {Q : Ex → St → Prop} (hc : opd s.T c = some (.bool b)) (h1 : b = true → Ok P rec ro x s Q) (h2 : b = false → Ok P rec ro y s Q) : Ok P rec ro (.cond c x y) s Q := fun g => by
  intro B D ρ w a n R hs hT hok hm hro hR
  simp only [codeOk, Bool.and_eq_true] at hok
  cases b with
  | true => exact wpIn_cond_true ((opd_sound hT hc).1) (h1 rfl g B D ρ w a n R hs hT hok.1 hm hro hR)
  | false => exact wpIn_cond_false ((opd_sound hT hc).1) (h2 rfl g B D ρ w a n R hs hT hok.2 hm hro hR)
theorem Ok.condT {c : Operand} {x y : Code} {s : St} {Q : Ex → St → Prop} (hc : opd s.T c = some (.bool true)) (h : Ok P rec ro x s Q) : Ok P rec ro (.cond c x y) s Q := Ok.cond hc (fun _ => h) nofun
theorem Ok.condF {c : Operand} {x y : Code} {s : St} {Q : Ex → St → Prop} (hc : opd s.T c = some (.bool false)) (h : Ok P rec ro y s Q) : Ok P rec ro (.cond c x y) s Q := Ok.cond hc nofun (fun _ => h)

theorem Ok.block {id : Nat} {c : Code} {s : St} {Q : Ex → St → Prop} (h : Ok P rec ro c s (blockQ id Q)) : Ok P rec ro (.block id c) s Q := fun g => by
  intro B D ρ w a n R hs hT hok hm hro hR
  refine wpIn_block (h g B D ρ w a n _ hs hT hok hm hro ?_)
  intro ex s1 D1 ρ1 a1 w1 kk p1 hT1 hz1 hm1
  cases ex with
  | norm => exact hR .norm s1 D1 ρ1 a1 w1 kk p1 hT1 hz1 hm1
  | ret => exact hR .ret s1 D1 ρ1 a1 w1 kk p1 hT1 hz1 hm1
  | exit id' =>
    show if id' = id then R .normal a1 w1 else R (.exit id') a1 w1
    replace kk : (match Nat.beq id' id with | true => Q .norm s1 | false => Q (.exit id') s1) := kk
    by_cases e : id' = id
    · rw [if_pos e]
      exact hR .norm s1 D1 ρ1 a1 w1 (by rw [e, Nat.beq_refl] at kk; exact kk) p1 hT1 hz1 hm1
    · rw [if_neg e]
      exact hR (.exit id') s1 D1 ρ1 a1 w1 (by rw [show Nat.beq id' id = false from by cases hb : Nat.beq id' id with | false => rfl | true => exact absurd (Nat.eq_of_beq_eq_true hb) e] at kk; exact kk) p1 hT1 hz1 hm1

theorem Ok.skip {s : St} {Q : Ex → St → Prop} (h : Q .norm s) : Ok P rec ro .skip s Q := Ok.det (Ev.Ok.skip h)
theorem Ok.label {l : Nat} {s : St} {Q : Ex → St → Prop} (h : Q .norm s) : Ok P rec ro (.label l) s Q := Ok.det (Ev.Ok.label h)
theorem Ok.exit {id : Nat} {s : St} {Q : Ex → St → Prop} (h : Q (.exit id) s) : Ok P rec ro (.exit id) s Q := Ok.det (Ev.Ok.exit h)
theorem Ok.ret {s : St} {Q : Ex → St → Prop} (h : Q .ret s) : Ok P rec ro .ret s Q := Ok.det (Ev.Ok.ret h)
theorem Ok.scope {c : Code} {s : St} {Q : Ex → St → Prop} (h : Ok P rec ro c s Q) : Ok P rec ro (.scope c) s Q := fun g => by
  intro B D ρ w a n R hs hT hok hm hro hR
  refine wpIn_scope (h g B D ρ w a n _ hs hT hok hm hro ?_)
  intro x s1 D1 ρ1 a1 w1 kk p1 hT1 hz1 hm1
  have := hR x s1 D1 ρ1 a1 w1 kk p1 hT1 hz1 hm1
  cases x <;> exact this

theorem Ok.loop {c : Code} {s : St} {Q : Ex → St → Prop} (I : Nat → St → Prop) (n : Nat) (hn : n < loopFuel) (hi : I n s) (h : ∀ n s, I n s → Ok P rec ro c s (roundQ I n Q)) : Ok P rec ro (.loop c) s Q := fun g => by
  intro B D ρ w a nn R hs hT hok hm hro hR
  refine wpIn_loop_rounds loopFuel ?_
  generalize loopFuel = m at hn ⊢
  induction m generalizing s D ρ w a n with
  | zero => omega
  | succ m ihm =>
    rw [roundsIn_succ]
    refine h n s hi g B D ρ w a nn _ hs hT hok hm hro ?_
    intro x s1 D1 ρ1 a1 w1 kk p1 hT1 hz1 hm1
    cases x with
    | norm =>
      obtain ⟨k, hk, hI⟩ := kk
      show Code.roundsIn _ nn P c R m a1 w1
      have := ihm (D := D1) (ρ := ρ1) (w := w1) (a := a1) k hI p1.sim hT1 (by simp only [codeOk] at hok ⊢; rw [hz1]; exact hok) hm1 (fun l hl => p1.ext l (hro l hl)) (fun x2 s2 D2 ρ2 a2 w2 k2 p2 hT2 hz2 hm2 => hR x2 s2 D2 ρ2 a2 w2 k2 (p1.trans p2) hT2 (hz2.trans hz1) hm2) (by omega)
      rwa [WF_eq hro p1.ren] at this
    | exit id => exact hR (.exit id) s1 D1 ρ1 a1 w1 kk p1 hT1 hz1 hm1
    | ret => exact hR .ret s1 D1 ρ1 a1 w1 kk p1 hT1 hz1 hm1

theorem Ok.join {x y : Code} {s : St} {Q : Ex → St → Prop} (J : St → Prop) (h1 : Ok P rec ro x s fun e s' => e = .norm ∧ J s') (h2 : ∀ s', J s' → Ok P rec ro y s' Q) : Ok P rec ro (.seq x y) s Q :=
  kS (Ok.mono h1 fun e s' ⟨q, k⟩ => by subst q; exact h2 s' k)

/-- A function by its body. -/
theorem fn_okE {f : FuncId} {fn : Func} {c : Code} {args : List AV} {H : Heap} {S : AV → Heap → Prop} (hf : P.funcs[f]? = some fn) (hc : fn.body = some c) (hn : (fn.name == "runtime.NumGoroutine") = false) (hk : frameOk fn = true)
    (hl : Nat.ble args.length fn.ntmps = true) (h : Ok P rec none c ⟨setArgs (Ev.blank fn.ntmps) 0 args, [], ⟨H.t, H.next, H.next⟩⟩ fun x s => (x = .norm ∨ x = .ret) ∧ ∃ v H', evBack P fn H s = some (v, H') ∧ S v H') : FnN P rec f args H S := fun g => by
  refine ⟨⟨fn, c, hf, hc, hn⟩, ?_⟩
  intro B D ρ w n hs ka
  have hlen := Nat.le_of_ble_eq_true hl
  have hcode : codeOk fn.ntmps c = true := by simpa [frameOk, hc] using hk
  refine callsIn_of_wp_marks hf hc trivial ?_
  let H0 : Heap := ⟨H.t, H.next, H.next⟩
  have hs0 : Sim B D ρ H0 w := hs.lo rfl rfl
  let tm : Array Value := (concs ρ args).toArray ++ Array.replicate (fn.ntmps - (concs ρ args).toArray.size) undef
  have hsz : tm.size = fn.ntmps := by simp [tm]; omega
  have hT : TR D ρ (setArgs (Ev.blank fn.ntmps) 0 args) tm := by
    refine setArgs_TR args 0 _ tm (fun t v h => by rw [blank_get] at h; cases h) ka ?_
    intro j u hu
    obtain ⟨hj, rfl⟩ := List.getElem?_eq_some_iff.1 hu
    refine ⟨by rw [hsz]; omega, ?_⟩
    simp only [tm, Nat.zero_add, Array.getD_eq_getD_getElem?]
    rw [Array.getElem?_append_left (by simpa using hj)]
    simp [concs_map, hj]
  -- behind the body
  have fin : ∀ (s : St) (v : AV) (H' : Heap), S v H' → evBack P fn H s = some (v, H') → ∀ D' ρ' (a' : Act) w', Post B D ρ H0 w D' ρ' s.H w' → TR D' ρ' s.T a'.tmps → Marks D' ρ' s.D a'.defers →
      LeavesInM Fence.wide n P fn a'.tmps (RetS B D ρ H w S) a'.defers .returning w' := by
    intro s v H' hSv hback D' ρ' a' w' hp hT' hm
    unfold evBack at hback
    split at hback
    · rename_i H2 hsh
      split at hback
      · rename_i vs hvs
        rw [hm.1]
        refine shuts_run s.D s.H H2 w' hsh hp.sim hm.2 ?_
        intro w2 hp2
        have hp3 := hp.trans hp2
        obtain ⟨r1, r2⟩ := results_run (P := P) hp2.sim hT' hvs
        refine ⟨_, r1, ?_⟩
        simp only [Option.some.injEq] at hback
        unfold leave at hback
        split at hback
        · rename_i c1 c2
          have c1 := Nat.le_of_ble_eq_true c1
          cases hback
          refine ⟨_, _, D, ρ, hSv, by rw [flat_conc _ c2], ⟨⟨?_, ?_, ?_, hs.fresh⟩, fun n k => k, fun _ _ => rfl, fun n k => .inl k, fun _ _ _ => rfl, Nat.le_refl _, Nat.le_refl _, fun _ _ _ => rfl, hp3.keep⟩, flat_within _ c2⟩
          · intro n k
            obtain ⟨o, g1, g2⟩ := hs.live n k
            obtain ⟨o3, q1, q2⟩ := hp3.sim.live n (hp3.ext n k)
            have hn := hs.fresh n k
            have : H2.get n = H.get n := hp3.low n hn (Nat.lt_of_lt_of_le hn c1)
            rw [this, g1] at q1
            cases q1
            refine ⟨o, g1, ?_⟩
            rcases g2 with g2 | ⟨g2, o1, g3, g4⟩
            · exact .inl g2
            · rcases q2 with q2 | ⟨q2, o2, q3, q4⟩
              · exact .inl q2
              · rw [hp3.ren n k] at q2 q3 q4
                exact .inr ⟨q2, o2, q3, g4.back hp3.ren q4⟩
          · exact hs.inj
          · exact Nat.le_trans hs.base hp3.keep.size
        · cases hback
          refine ⟨_, _, _, _, hSv, rfl, ⟨hp3.sim.lo rfl rfl, hp3.ext, hp3.ren, hp3.new, ?_, hp3.next, ?_, ?_, hp3.keep⟩, r2⟩
          · exact fun n k d => hp3.frame n k d
          · show @Bool.rec (fun _ => Nat) H2.lo H.lo (Nat.ble H.lo H2.lo) ≤ H.lo
            cases hb : Nat.ble H.lo H2.lo with
            | true => exact Nat.le_refl _
            | false =>
              have : ¬ H.lo ≤ H2.lo := fun e => by rw [Nat.ble_eq_true_of_le e] at hb; cases hb
              show H2.lo ≤ H.lo
              omega
          · intro n k l
            refine hp3.low n k ?_
            change n < @Bool.rec (fun _ => Nat) H2.lo H.lo (Nat.ble H.lo H2.lo) at l
            cases hb : Nat.ble H.lo H2.lo with
            | true => rw [hb] at l; have := Nat.le_of_ble_eq_true hb; exact Nat.lt_of_lt_of_le l this
            | false => rw [hb] at l; exact l
      · cases hback
    · cases hback
  refine h g B D ρ w { tmps := tm, defers := [] } n (bodyPostM Fence.wide n P fn (RetS B D ρ H w S)) hs0 hT (by rw [hsz]; exact hcode) ⟨rfl, fun d hd => by cases hd⟩ (fun l hl => by cases hl) ?_
  rintro x s D' ρ' a' w' ⟨hxx, v, H', hback, hSv⟩ hp hT' _ hm
  rcases hxx with rfl | rfl
  · exact fin s v H' hSv hback D' ρ' a' w' hp hT' hm
  · exact fin s v H' hSv hback D' ρ' a' w' hp hT' hm

end Go.EvN

