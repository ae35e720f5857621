/-
  A closed call in parts: each part is reckoned on its own.
-/
import Derived.Test.YtibplmibcbillaaEvE
import Derived.Test.YtibplmibcbillaaEvF
namespace Go.Ev

def flat : Code → List Code
  | .seq x y => flat x ++ flat y
  | c => [c]

noncomputable def listC (P : Program) (rec : Rec) : List Code → St → Option (Ex × St)
  | [], s => some (.norm, s)
  | c :: cs, s => match evCode P rec none c s with
    | some (.norm, s) => listC P rec cs s
    | r => r

theorem listC_append (P : Program) (rec : Rec) : ∀ (l l' : List Code) (s : St), listC P rec (l ++ l') s = match listC P rec l s with | some (.norm, s) => listC P rec l' s | r => r := by
  intro l
  induction l with
  | nil => intro l' s; rfl
  | cons c l ih =>
    intro l' s
    simp only [List.cons_append, listC]
    cases evCode P rec none c s with
    | none => rfl
    | some r =>
      obtain ⟨x, s1⟩ := r
      cases x with
      | norm => exact ih l' s1
      | _ => rfl

theorem listC_one (P : Program) (rec : Rec) (c : Code) (s : St) : listC P rec [c] s = evCode P rec none c s := by
  simp only [listC]
  cases evCode P rec none c s with
  | none => rfl
  | some r =>
    obtain ⟨x, s1⟩ := r
    cases x <;> rfl

theorem flat_eq (P : Program) (rec : Rec) : ∀ (c : Code) (s : St), listC P rec (flat c) s = evCode P rec none c s := by
  intro c
  induction c with
  | seq x y ihx ihy =>
    intro s
    simp only [flat, listC_append, ihx, evCode]
    cases evCode P rec none x s with
    | none => rfl
    | some r =>
      obtain ⟨e, s1⟩ := r
      cases e with
      | norm => exact ihy s1
      | _ => rfl
  | _ => intros; exact listC_one P rec _ _

noncomputable section
def listF (P : Program) (rec : Rec) (l : List Code) : CK :=
  @List.rec Code (fun _ => CK) ⟨normK⟩ (fun c _ k => seqF (codeF P rec none c) k) l

theorem listF_eq (P : Program) (rec : Rec) : ∀ (l : List Code) (s : St), (listF P rec l).f s = listC P rec l s := by
  intro l
  induction l with
  | nil => intro s; rfl
  | cons c l ih =>
    intro s
    show exE ((codeF P rec none c).f s) (listF P rec l).f retK exitK = _
    rw [code_eq]
    simp only [listC]
    cases evCode P rec none c s with
    | none => rfl
    | some r =>
      obtain ⟨x, s1⟩ := r
      cases x with
      | norm => exact ih s1
      | _ => rfl

/-- The pieces i to i + n of a function's body. -/
def partF (P : Program) (rec : Rec) (f : FuncId) (i n : Nat) : CK := match P.funcs[f]? with
  | some fn => match fn.body with
    | some c => listF P rec (((flat c).drop i).take n)
    | none => ⟨fun _ => none⟩
  | none => ⟨fun _ => none⟩

/-- The pieces from i on, and the way back. -/
def tailF (P : Program) (rec : Rec) (f : FuncId) (i : Nat) : Heap → St → Option (AV × Heap) := match P.funcs[f]? with
  | some fn => match fn.body, fn.name == "runtime.NumGoroutine", frameOk fn with
    | some c, false, true => fun H s => backF P fn H ((listF P rec ((flat c).drop i)).f s)
    | _, _, _ => fun _ _ => none
  | none => fun _ _ => none

/-- A call without arguments is at s when it has done i pieces. -/
def At (P : Program) (rec : Rec) (f : FuncId) (i : Nat) (H : Heap) (s : St) : Prop :=
  ∀ fn c, P.funcs[f]? = some fn → fn.body = some c → listC P rec ((flat c).take i) ⟨blank fn.ntmps, [], ⟨H.t, H.next, H.next⟩⟩ = some (.norm, s)

theorem At.start (P : Program) (rec : Rec) (f : FuncId) (H : Heap) : At P rec f 0 H ⟨blank ((P.funcs[f]?).elim 0 (·.ntmps)), [], ⟨H.t, H.next, H.next⟩⟩ := by
  intro fn c hf _
  rw [hf]
  rw [List.take_zero]; rfl

theorem At.step {P : Program} {m : Nat} {f : FuncId} {i n : Nat} {H : Heap} {s s' : St} (h : At P (run P m) f i H s) (hp : (partF P (runF P m) f i n).f s = some (.norm, s')) : At P (run P m) f (i + n) H s' := by
  intro fn c hf hc
  rw [runF_eq] at hp
  unfold partF at hp
  rw [hf] at hp
  dsimp only at hp
  rw [hc] at hp
  dsimp only at hp
  rw [listF_eq] at hp
  rw [List.take_add, listC_append, h fn c hf hc]
  exact hp

theorem At.done {P : Program} {m : Nat} {f : FuncId} {i : Nat} {H : Heap} {s : St} {r : AV × Heap} (h : At P (run P m) f i H s) (hp : tailF P (runF P m) f i H s = some r) : run P (m + 1) (.fn f []) H = some r := by
  show evFn P (run P m) f [] H = some r
  rw [runF_eq] at hp
  unfold tailF at hp
  unfold evFn
  cases hf : P.funcs[f]? with
  | none => rw [hf] at hp; cases hp
  | some fn =>
    rw [hf] at hp
    dsimp only at hp ⊢
    cases hb : fn.body with
    | none => rw [hb] at hp; cases hp
    | some c =>
      rw [hb] at hp
      cases hn : fn.name == "runtime.NumGoroutine" with
      | true => rw [hn] at hp; cases hp
      | false =>
        rw [hn] at hp
        cases hk : frameOk fn with
        | false => rw [hk] at hp; cases hp
        | true =>
          rw [hk] at hp
          dsimp only at hp
          rw [listF_eq] at hp
          have e : evCode P (run P m) none c ⟨blank fn.ntmps, [], ⟨H.t, H.next, H.next⟩⟩ = listC P (run P m) ((flat c).drop i) s := by
            rw [← flat_eq]
            have e1 : flat c = (flat c).take i ++ (flat c).drop i := (List.take_append_drop i _).symm
            rw [e1, listC_append, ← e1, h fn c hf hb]
          show (match Nat.ble 0 fn.ntmps with
            | false => none
            | true => match evCode P (run P m) none c ⟨blank fn.ntmps, [], ⟨H.t, H.next, H.next⟩⟩ with
              | some (.norm, s) | some (.ret, s) => evBack P fn H s
              | _ => none) = some r
          rw [e]
          exact hp
end
end Go.Ev

