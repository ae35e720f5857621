/-
  Calls whose answers are known beforehand, and closed calls in parts over them.
-/
import Derived.Test.YtibplmibcbillaaEvE
import Derived.Test.YtibplmibcbillaaEvF
import Derived.Test.YtibplmibcbillaaEvG
namespace Go.Ev
open Go.RowKit
noncomputable section

def withO (O rec : Rec) : Rec := fun j H => match O j H with
  | some r => some r
  | none => rec j H

/-- A call without arguments whose answer is known. -/
def closedO (f : FuncId) (v : AV) : Rec := fun j H => match j with
  | .fn g [] => match Nat.beq g f with
    | true => some (v, H)
    | false => none
  | _ => none

def runO (P : Program) (O : Rec) : Nat → Rec
  | 0 => O
  | n + 1 => withO O fun j H => match j with
    | .fn f args => evFn P (runO P O n) f args H
    | .round l args => evRound P (runO P O n) l args H

def runOF (P : Program) (O : Rec) (n : Nat) : Rec :=
  @Nat.rec (fun _ => Rec) O (fun _ r => withO O fun j => @Job.rec (fun _ => Heap → Option (AV × Heap)) (fun f args => fnF P r f args) (fun l args => roundF P r l args) j) n

theorem runOF_eq (P : Program) (O : Rec) : ∀ n, runOF P O n = runO P O n := by
  intro n
  induction n with
  | zero => rfl
  | succ n ih =>
    funext j H
    show withO O _ j H = withO O _ j H
    unfold withO
    cases O j H with
    | some r => rfl
    | none =>
      cases j with
      | fn f args => show fnF P (runOF P O n) f args H = evFn P (runO P O n) f args H; rw [ih, fn_eq]
      | round l args => show roundF P (runOF P O n) l args H = evRound P (runO P O n) l args H; rw [ih, round_eq]

variable {P : Program}

theorem withO_good {O rec : Rec} (hO : Good P O) (hr : Good P rec) : Good P (withO O rec) := by
  intro j H v H' h
  unfold withO at h
  cases e : O j H with
  | some r => rw [e] at h; cases h; exact hO j H v H' e
  | none => rw [e] at h; exact hr j H v H' h

theorem noneO_good : Good P (fun _ _ => none) := by intro j H v H' h; cases h

theorem runO_good (hmix : P.follows .mixedOrders = true) {O : Rec} (hO : Good P O) : ∀ n, Good P (runO P O n) := by
  intro n
  induction n with
  | zero => exact hO
  | succ n ih =>
    refine withO_good hO ?_
    intro j H v H' h
    cases j with
    | fn f args => exact fn_sound ih hmix h
    | round l args => exact round_sound ih hmix h

theorem post_below {B : Nat} {D : Nat → Prop} {ρ : Ren} {H : Heap} {w w' : World} (h : Sim B D ρ H w) (hb : Below w.heap.size w w') : Post B D ρ H w D ρ H w' := by
  have hk : ∀ k o, w.heap[k]? = some o → w'.heap[k]? = some o := fun k o e => by
    have := (Array.getElem?_eq_some_iff.1 e).1
    rw [hb.block k this]; exact e
  refine ⟨⟨?_, h.inj, Nat.le_trans h.base hb.size, h.fresh⟩, fun _ k => k, fun _ _ => rfl, fun _ k => .inl k, fun _ _ _ => rfl, Nat.le_refl _, Nat.le_refl _, fun _ _ _ => rfl, hb.mono h.base⟩
  intro n k
  obtain ⟨o, h1, h2⟩ := h.live n k
  refine ⟨o, h1, ?_⟩
  rcases h2 with h2 | ⟨b, o', h2, h3⟩
  · exact .inl h2
  · exact .inr ⟨b, o', hk _ _ h2, h3⟩

theorem closedO_good {f : FuncId} {v : AV} (hv : v.flat = true) (hf : ∃ fn c, P.funcs[f]? = some fn ∧ fn.body = some c ∧ (fn.name == "runtime.NumGoroutine") = false)
    (h : ∀ w, Calls P f #[] w fun e w' => e = .returned (conc (fun _ => (0, 0)) v) ∧ Below w.heap.size w w') : Good P (closedO f v) := by
  intro j H u H' e
  cases j with
  | round l args => cases e
  | fn g args =>
    cases args with
    | cons a l => cases e
    | nil =>
      simp only [closedO] at e
      cases hg : Nat.beq g f with
      | false => rw [hg] at e; cases e
      | true =>
        rw [hg] at e
        cases e
        obtain rfl := Nat.eq_of_beq_eq_true hg
        refine ⟨hf, ?_⟩
        intro B D ρ w n hs _
        refine CallsIn.mono (callsIn_wide.2 (h w)) ?_
        rintro e w' ⟨rfl, hb⟩
        exact ⟨D, ρ, by rw [flat_conc (ρ := ρ) (ρ' := fun _ => (0, 0)) v hv], post_below hs hb, flat_within v hv⟩

theorem At.next {rec : Rec} {f : FuncId} {i n : Nat} {H : Heap} {s s' : St} (h : At P rec f i H s) (hp : (partF P rec f i n).f s = some (.norm, s')) : At P rec f (i + n) H s' := by
  intro fn c hf hc
  unfold partF at hp
  rw [hf] at hp
  dsimp only at hp
  rw [hc] at hp
  dsimp only at hp
  rw [listF_eq] at hp
  rw [List.take_add, listC_append, h fn c hf hc]
  exact hp

theorem At.end {rec : Rec} {f : FuncId} {i : Nat} {H : Heap} {s : St} {r : AV × Heap} (h : At P rec f i H s) (hp : tailF P rec f i H s = some r) : evFn P rec f [] H = some r := by
  unfold tailF at hp
  unfold evFn
  cases hf : P.funcs[f]? with
  | none => rw [hf] at hp; cases hp
  | some fn =>
    rw [hf] at hp
    dsimp only at hp ⊢
    cases hb : fn.body with
    | none => rw [hb] at hp; cases hp
    | some c =>
      rw [hb] at hp
      cases hn : fn.name == "runtime.NumGoroutine" with
      | true => rw [hn] at hp; cases hp
      | false =>
        rw [hn] at hp
        cases hk : frameOk fn with
        | false => rw [hk] at hp; cases hp
        | true =>
          rw [hk] at hp
          dsimp only at hp
          rw [listF_eq] at hp
          have e : evCode P rec none c ⟨blank fn.ntmps, [], ⟨H.t, H.next, H.next⟩⟩ = listC P rec ((flat c).drop i) s := by
            rw [← flat_eq]
            have e1 : flat c = (flat c).take i ++ (flat c).drop i := (List.take_append_drop i _).symm
            rw [e1, listC_append, ← e1, h fn c hf hb]
          show (match Nat.ble 0 fn.ntmps with
            | false => none
            | true => match evCode P rec none c ⟨blank fn.ntmps, [], ⟨H.t, H.next, H.next⟩⟩ with
              | some (.norm, s) | some (.ret, s) => evBack P fn H s
              | _ => none) = some r
          rw [e]
          exact hp

/-- **A CLOSED CALL, EVALUATED IN PARTS, IS SO.** -/
theorem closed_parts (hmix : P.follows .mixedOrders = true) {O : Rec} (hO : Good P O) {m i : Nat} {f : FuncId} {v : AV} {H' : Heap} {s : St}
    (h : At P (runOF P O m) f i ⟨.nil, 0, 0⟩ s) (hp : tailF P (runOF P O m) f i ⟨.nil, 0, 0⟩ s = some (v, H')) (hv : v.flat = true) (w : World) :
    Calls P f #[] w fun e w' => e = .returned (conc (fun _ => (0, 0)) v) ∧ Below w.heap.size w w' := by
  have he := At.end h hp
  rw [runOF_eq] at he
  have h0 := (fn_sound (runO_good hmix hO m) hmix he).2 w.heap.size (fun _ => False) (fun _ => (0, 0)) w 0 ⟨fun _ k => k.elim, fun _ _ k => k.elim, Nat.le_refl _, fun _ k => k.elim⟩ trivial
  refine callsIn_wide.1 (CallsIn.mono h0 ?_)
  rintro e w' ⟨D', ρ', rfl, hp, _⟩
  exact ⟨by rw [flat_conc (ρ := fun _ => (0, 0)) (ρ' := ρ') v hv], hp.keep⟩
end
end Go.Ev

