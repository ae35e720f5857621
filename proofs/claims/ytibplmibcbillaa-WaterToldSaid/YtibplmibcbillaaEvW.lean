/-
  Walking a text by the evaluator's steps: what a piece of code comes to, as goals.
-/
import Derived.Test.YtibplmibcbillaaEvH
namespace Go.Ev
open Go.RowKit
noncomputable section
variable {P : Program} {rec : Rec} {ro : Option Nat}

/-- A piece of code comes to an end at which Q holds. -/
def Ok (P : Program) (rec : Rec) (ro : Option Nat) (c : Code) (s : St) (Q : Ex → St → Prop) : Prop := ∃ x s', evCode P rec ro c s = some (x, s') ∧ Q x s'

def OkO (P : Program) (rec : Rec) (ops : Array Oper) (l : List Oper) (T : Tr AV) (H : Heap) (K : Tr AV → Heap → Prop) : Prop := ∃ T' H', evOps P rec ops l T H = some (T', H') ∧ K T' H'

theorem oN {ops : Array Oper} {T : Tr AV} {H : Heap} {K : Tr AV → Heap → Prop} (h : K T H) : OkO P rec ops [] T H K := ⟨T, H, rfl, h⟩

theorem OkO.val {ops : Array Oper} {d : Option Tmp} {op : Op} {t : TypeId} {ps : String} {e : Array Edge} {g : Option (Nat × Bool)} {l : List Oper} {T : Tr AV} {H H' : Heap} {v : AV} {K : Tr AV → Heap → Prop}
    (hg : wantedA ops g T = some true) (he : evOp P T H op = some (.val v H')) (h : OkO P rec ops l (putD T d v) H' K) : OkO P rec ops (⟨d, op, t, ps, e, g⟩ :: l) T H K := by
  obtain ⟨T', H2, h1, h2⟩ := h
  refine ⟨T', H2, ?_, h2⟩
  show evStep P rec ops ⟨d, op, t, ps, e, g⟩ (evOps P rec ops l) T H = _
  unfold evStep
  dsimp only
  rw [hg, he]
  exact h1

theorem OkO.unit {ops : Array Oper} {d : Option Tmp} {op : Op} {t : TypeId} {ps : String} {e : Array Edge} {g : Option (Nat × Bool)} {l : List Oper} {T : Tr AV} {H H' : Heap} {K : Tr AV → Heap → Prop}
    (hg : wantedA ops g T = some true) (he : evOp P T H op = some (.unit H')) (h : OkO P rec ops l (putD T d undefA) H' K) : OkO P rec ops (⟨d, op, t, ps, e, g⟩ :: l) T H K := by
  obtain ⟨T', H2, h1, h2⟩ := h
  refine ⟨T', H2, ?_, h2⟩
  show evStep P rec ops ⟨d, op, t, ps, e, g⟩ (evOps P rec ops l) T H = _
  unfold evStep
  dsimp only
  rw [hg, he]
  exact h1

theorem oK {ops : Array Oper} {d : Option Tmp} {op : Op} {t : TypeId} {ps : String} {e : Array Edge} {g : Option (Nat × Bool)} {l : List Oper} {T : Tr AV} {H : Heap} {K : Tr AV → Heap → Prop}
    (hg : wantedA ops g T = some false) (h : OkO P rec ops l (putD T d undefA) H K) : OkO P rec ops (⟨d, op, t, ps, e, g⟩ :: l) T H K := by
  obtain ⟨T', H2, h1, h2⟩ := h
  refine ⟨T', H2, ?_, h2⟩
  show evStep P rec ops ⟨d, op, t, ps, e, g⟩ (evOps P rec ops l) T H = _
  unfold evStep
  dsimp only
  rw [hg]
  exact h1

theorem OkO.call {ops : Array Oper} {d : Option Tmp} {op : Op} {t : TypeId} {ps : String} {e : Array Edge} {g : Option (Nat × Bool)} {l : List Oper} {T : Tr AV} {H H' : Heap} {f : FuncId} {args : List AV} {v : AV} {K : Tr AV → Heap → Prop}
    (hg : wantedA ops g T = some true) (he : evOp P T H op = some (.fn f args)) (hr : rec (.fn f args) H = some (v, H')) (h : OkO P rec ops l (putD T d v) H' K) : OkO P rec ops (⟨d, op, t, ps, e, g⟩ :: l) T H K := by
  obtain ⟨T', H2, h1, h2⟩ := h
  refine ⟨T', H2, ?_, h2⟩
  show evStep P rec ops ⟨d, op, t, ps, e, g⟩ (evOps P rec ops l) T H = _
  unfold evStep
  dsimp only
  rw [hg, he]
  show retOf (rec (.fn f args) H) T d (evOps P rec ops l) = _
  rw [hr]
  exact h1

theorem kR {id : Nat} {ops : Array Oper} {T : Tr AV} {D : List Nat} {H : Heap} {Q : Ex → St → Prop} (h : OkO P rec ops ops.toList T H fun T' H' => Q .norm ⟨T', D, H'⟩) :
    Ok P rec ro (.region id ops false) ⟨T, D, H⟩ Q := by
  obtain ⟨T', H', h1, h2⟩ := h
  refine ⟨.norm, ⟨T', D, H'⟩, ?_, h2⟩
  simp only [evCode, evRegion, h1]

theorem Ok.plan {id : Nat} {ops : Array Oper} {T : Tr AV} {D : List Nat} {H : Heap} {T' : Tr AV} {H' : Heap} {Q : Ex → St → Prop} (h1 : evRegion P rec ops true T H = some (T', H')) (h2 : Q .norm ⟨T', D, H'⟩) :
    Ok P rec ro (.region id ops true) ⟨T, D, H⟩ Q :=
  ⟨.norm, ⟨T', D, H'⟩, by simp only [evCode, h1], h2⟩

/-- Behind a piece that came to its end. -/
def thenQ (P : Program) (rec : Rec) (ro : Option Nat) (c : Code) (Q : Ex → St → Prop) : Ex → St → Prop
  | .norm, s => Ok P rec ro c s Q
  | x, s => Q x s

theorem kS {x y : Code} {s : St} {Q : Ex → St → Prop} (h : Ok P rec ro x s (thenQ P rec ro y Q)) : Ok P rec ro (.seq x y) s Q := by
  obtain ⟨e, s1, h1, h2⟩ := h
  cases e with
  | norm =>
    obtain ⟨e, s2, h3, h4⟩ := h2
    exact ⟨e, s2, by simp only [evCode, h1]; exact h3, h4⟩
  | exit id => exact ⟨_, s1, by simp only [evCode, h1], h2⟩
  | ret => exact ⟨_, s1, by simp only [evCode, h1], h2⟩

theorem Ok.cond {c : Operand} {x y : Code} {s : St} {b : Bool} {Q : Ex → St → Prop} (hc : opd s.T c = some (.bool b)) (h1 : b = true → Ok P rec ro x s Q) (h2 : b = false → Ok P rec ro y s Q) : Ok P rec ro (.cond c x y) s Q := by
  cases b with
  | true => obtain ⟨e, s1, h3, h4⟩ := h1 rfl; exact ⟨e, s1, by simp only [evCode, hc, h3], h4⟩
  | false => obtain ⟨e, s1, h3, h4⟩ := h2 rfl; exact ⟨e, s1, by simp only [evCode, hc, h3], h4⟩

def blockQ (id : Nat) (Q : Ex → St → Prop) : Ex → St → Prop
  | .exit id', s => match Nat.beq id' id with
    | true => Q .norm s
    | false => Q (.exit id') s
  | x, s => Q x s

theorem Ok.block {id : Nat} {c : Code} {s : St} {Q : Ex → St → Prop} (h : Ok P rec ro c s (blockQ id Q)) : Ok P rec ro (.block id c) s Q := by
  obtain ⟨e, s1, h1, h2⟩ := h
  cases e with
  | norm => exact ⟨_, s1, by simp only [evCode, h1], h2⟩
  | ret => exact ⟨_, s1, by simp only [evCode, h1], h2⟩
  | exit id' =>
    change (match Nat.beq id' id with
      | true => Q .norm s1
      | false => Q (.exit id') s1) at h2
    cases hb : Nat.beq id' id with
    | true => rw [hb] at h2; exact ⟨_, s1, by simp only [evCode, h1, hb, if_true], h2⟩
    | false => rw [hb] at h2; exact ⟨_, s1, by simp only [evCode, h1, hb, Bool.false_eq_true, if_false], h2⟩

theorem Ok.skip {s : St} {Q : Ex → St → Prop} (h : Q .norm s) : Ok P rec ro .skip s Q := ⟨_, _, rfl, h⟩
theorem Ok.label {l : Nat} {s : St} {Q : Ex → St → Prop} (h : Q .norm s) : Ok P rec ro (.label l) s Q := ⟨_, _, rfl, h⟩
theorem Ok.exit {id : Nat} {s : St} {Q : Ex → St → Prop} (h : Q (.exit id) s) : Ok P rec ro (.exit id) s Q := ⟨_, _, rfl, h⟩
theorem Ok.ret {s : St} {Q : Ex → St → Prop} (h : Q .ret s) : Ok P rec ro .ret s Q := ⟨_, _, rfl, h⟩
theorem Ok.scope {c : Code} {s : St} {Q : Ex → St → Prop} (h : Ok P rec ro c s Q) : Ok P rec ro (.scope c) s Q := h
theorem Ok.mono {c : Code} {s : St} {Q R : Ex → St → Prop} (h : Ok P rec ro c s Q) (k : ∀ x s, Q x s → R x s) : Ok P rec ro c s R := let ⟨e, s1, h1, h2⟩ := h; ⟨e, s1, h1, k _ _ h2⟩

/-- Behind a round: again, with a lower measure, or away. -/
def roundQ (I : Nat → St → Prop) (n : Nat) (Q : Ex → St → Prop) : Ex → St → Prop
  | .norm, s => ∃ m, m < n ∧ I m s
  | x, s => Q x s

theorem evLoop_ok {body : St → Option (Ex × St)} {I : Nat → St → Prop} {Q : Ex → St → Prop} (h : ∀ n s, I n s → ∃ x s', body s = some (x, s') ∧ roundQ I n Q x s') :
    ∀ fuel n s, n < fuel → I n s → ∃ x s', evLoop body fuel s = some (x, s') ∧ Q x s' := by
  intro fuel
  induction fuel with
  | zero => intro n s hn; omega
  | succ fuel ih =>
    intro n s hn hi
    obtain ⟨x, s1, h1, h2⟩ := h n s hi
    cases x with
    | norm =>
      obtain ⟨m, hm, hI⟩ := h2
      obtain ⟨x, s2, h3, h4⟩ := ih m s1 (by omega) hI
      exact ⟨x, s2, by unfold evLoop; rw [h1]; exact h3, h4⟩
    | exit id => exact ⟨_, s1, by unfold evLoop; rw [h1], h2⟩
    | ret => exact ⟨_, s1, by unfold evLoop; rw [h1], h2⟩

theorem Ok.loop {c : Code} {s : St} {Q : Ex → St → Prop} (I : Nat → St → Prop) (n : Nat) (hn : n < loopFuel) (hi : I n s) (h : ∀ n s, I n s → Ok P rec ro c s (roundQ I n Q)) : Ok P rec ro (.loop c) s Q := by
  obtain ⟨x, s1, h1, h2⟩ := evLoop_ok (body := evCode P rec ro c) h loopFuel n s hn hi
  exact ⟨x, s1, by simp only [evCode]; exact h1, h2⟩

/-! ### Types, as far as an operation asks -/
def fieldOff (P : Program) (s : TypeId) (f : Nat) : Option Nat := match mkTI P s with
  | some { d := .struct fs, .. } => match fs[f]? with
    | some fd => match mkTI P fd.type with
      | some fi => match fi.size with
        | 0 => none
        | _ => some fd.offset
      | none => none
    | none => none
  | _ => none

/-- Is it one with parts, and how many cells has it? -/
def shape (P : Program) (t : TypeId) : Option (Bool × Nat) := (mkTI P t).map fun ti => (ti.agg, ti.size)
def zeroOf (P : Program) (t : TypeId) : Option (List AV) := (mkTI P t).bind (·.zero)
/-- Of a slice's type: how many cells an element has. -/
def elemSz (P : Program) (t : TypeId) : Option Nat := match mkTI P t with
  | some { d := .slice e, .. } => (mkTI P e).map (·.size)
  | _ => none
def isSlice (P : Program) (t : TypeId) : Bool := match mkTI P t with
  | some { d := .slice _, .. } => true
  | _ => false

theorem evFieldAddr_of {T : Tr AV} {H : Heap} {s : TypeId} {x : Operand} {f o b off : Nat} (h : fieldOff P s f = some o) (hx : opd T x = some (.ptr b off)) : evFieldAddr P T H s x f = some (.val (.ptr b (off + o)) H) := by
  unfold fieldOff at h
  unfold evFieldAddr
  rw [hx]
  split at h
  · rename_i e; rw [e]
    dsimp only
    split at h
    · rename_i e; rw [e]
      dsimp only
      split at h
      · rename_i e; rw [e]
        dsimp only
        split at h
        · cases h
        · cases h
          split
          · contradiction
          · rfl
      · cases h
    · cases h
  · cases h

theorem lda {H : Heap} {t : TypeId} {b off n : Nat} {cs : List AV} {v : AV} (h : shape P t = some (false, n)) (hb : (H.get b).bind AObj.cs = some cs) (hv : cs[off]? = some v) : loadAt P H t b off = some v := by
  unfold shape at h
  simp only [Option.map_eq_some_iff, Prod.mk.injEq] at h
  obtain ⟨ti, h1, h2, h3⟩ := h
  unfold loadAt
  rw [h1, hb]
  dsimp only
  rw [h2]
  exact hv

theorem ldg {H : Heap} {t : TypeId} {b off n : Nat} {cs l : List AV} (h : shape P t = some (true, n)) (hb : (H.get b).bind AObj.cs = some cs) (hv : seg cs off n = some l) : loadAt P H t b off = some (.agg l) := by
  unfold shape at h
  simp only [Option.map_eq_some_iff, Prod.mk.injEq] at h
  obtain ⟨ti, h1, h2, h3⟩ := h
  unfold loadAt
  rw [h1, hb]
  dsimp only
  rw [h2, h3, hv]
  rfl

theorem evLoad_of {T : Tr AV} {H : Heap} {t : TypeId} {x : Operand} {b off : Nat} {v : AV} (hx : opd T x = some (.ptr b off)) (h : loadAt P H t b off = some v) : evLoad P T H t x = some (.val v H) := by
  unfold evLoad
  rw [hx]
  dsimp only
  rw [h]
  rfl

theorem evMove_of {T : Tr AV} {H : Heap} {x : Operand} {v : AV} (hx : opd T x = some v) : evMove T H x = some (.val v H) := by
  unfold evMove; rw [hx]; rfl

theorem evBin_int {T : Tr AV} {H : Heap} {op : BinOp} {t : TypeId} {x y : Operand} {k k' : IntKind} {a b : Int} {v : AV} (hx : opd T x = some (.int k a)) (hy : opd T y = some (.int k' b)) (hv : bin op k a k' b = some v) :
    evBin P T H op t x y = some (.val v H) := by
  unfold evBin binT
  rw [hx, hy]
  dsimp only
  rw [hv]
  rfl

theorem evPick_of {T : Tr AV} {H : Heap} {c x y : Operand} {b : Bool} {v : AV} (hc : opd T c = some (.bool b)) (hx : b = true → opd T x = some v) (hy : b = false → opd T y = some v) : evPick T H c x y = some (.val v H) := by
  unfold evPick
  rw [hc]
  cases b with
  | true => dsimp only; rw [hx rfl]; rfl
  | false => dsimp only; rw [hy rfl]; rfl

theorem evAlloc_of {H : Heap} {e : TypeId} {z : List AV} (h : zeroOf P e = some z) : evAlloc P H e = some (.val (.ptr H.next 0) (H.new (.cells z e))) := by
  unfold zeroOf at h
  unfold evAlloc
  cases ht : mkTI P e with
  | none => rw [ht] at h; cases h
  | some ti =>
    rw [ht] at h
    obtain ⟨a, b, c, zero, d⟩ := ti
    cases zero with
    | none => cases h
    | some z' => cases h; rfl

theorem evBox_of {T : Tr AV} {H : Heap} {e : TypeId} {x : Operand} {v : AV} (hx : opd T x = some v) : evBox T H e x = some (.val (.ptr H.next 0) (H.new (.cells v.cells e))) := by
  unfold evBox; rw [hx]; rfl

/-! ### Frames -/
/-- A call by its body. -/
theorem fn_ok {f : FuncId} {fn : Func} {c : Code} {args : List AV} {H : Heap} {v : AV} {H' : Heap} (hf : P.funcs[f]? = some fn) (hc : fn.body = some c) (hn : (fn.name == "runtime.NumGoroutine") = false) (hk : frameOk fn = true)
    (hl : Nat.ble args.length fn.ntmps = true) (h : Ok P rec none c ⟨setArgs (blank fn.ntmps) 0 args, [], ⟨H.t, H.next, H.next⟩⟩ fun x s => (x = .norm ∨ x = .ret) ∧ evBack P fn H s = some (v, H')) :
    evFn P rec f args H = some (v, H') := by
  obtain ⟨x, s, h1, hx, h2⟩ := h
  unfold evFn
  rw [hf]
  dsimp only
  rw [hc, hn, hk]
  dsimp only
  rw [hl]
  dsimp only
  rw [h1]
  rcases hx with rfl | rfl <;> exact h2
end
end Go.Ev

