/-
  The fast evaluator is the evaluator.
-/
import Derived.Test.YtibplmibcbillaaEvB
import Derived.Test.YtibplmibcbillaaEvR
namespace Go.Ev

theorem opdK_eq (x : Operand) (T : Tr AV) : (opdK x).f T = opd T x := by cases x <;> rfl

theorem nthL_eq : ∀ (l : List AV) (n : Nat), nthL l n = l[n]? := by
  intro l
  induction l with
  | nil => intro n; simp [nthL]
  | cons v l ih =>
    intro n
    cases n with
    | zero => rfl
    | succ n =>
      show nthL l n = _
      rw [ih]; simp

theorem takeL_eq : ∀ (n : Nat) (l : List AV), takeL n l = if n ≤ l.length then some (l.take n) else none := by
  intro n
  induction n with
  | zero => intro l; show some [] = _; simp
  | succ n ih =>
    intro l
    cases l with
    | nil => simp [takeL]
    | cons v l =>
      show @Option.rec (List AV) (fun _ => Option (List AV)) none (fun t => some (v :: t)) (takeL n l) = _
      rw [ih]
      by_cases h : n ≤ l.length
      · simp [h]
      · simp [h]

theorem dropL_eq : ∀ (n : Nat) (l : List AV), dropL n l = l.drop n := by
  intro n
  induction n with
  | zero => intro l; rfl
  | succ n ih =>
    intro l
    cases l with
    | nil => simp [dropL]
    | cons v l => show dropL n l = _; rw [ih]; simp

theorem seg_eq (cs : List AV) (off n : Nat) : takeL n (dropL off cs) = seg cs off n := by
  rw [takeL_eq, dropL_eq]
  unfold seg
  by_cases h : n ≤ (cs.drop off).length
  · have e : ((cs.drop off).take n).length = n := by rw [List.length_take]; omega
    simp only [h, if_true, e, Nat.beq_refl]
  · have e : ((cs.drop off).take n).length ≠ n := by rw [List.length_take]; omega
    have : Nat.beq ((cs.drop off).take n).length n = false := by
      cases hb : Nat.beq ((cs.drop off).take n).length n with
      | false => rfl
      | true => exact absurd (Nat.eq_of_beq_eq_true hb) e
    simp only [h, if_false, this]

theorem load_eq (P : Program) (t : TypeId) (x : Operand) (T : Tr AV) (H : Heap) : loadF P t x T H = evLoad P T H t x := by
  unfold loadF evLoad
  cases ht : mkTI P t with
  | none =>
    show none = _
    split
    · unfold loadAt; rw [ht]; rfl
    · rfl
  | some ti =>
    show bind1 ((opdK x).f T) (fun v => ptrE v (fun b off => cellsE (H.t.look (pos b)) (loadGo ti.agg ti.size H off))) = _
    rw [opdK_eq]
    cases hx : opd T x with
    | none => rfl
    | some v =>
      cases v with
      | ptr b off =>
        show cellsE (H.get b) (loadGo ti.agg ti.size H off) = _
        simp only [loadAt, ht]
        cases hg : H.get b with
        | none => rfl
        | some o =>
          have go : ∀ cs, o.cs = some cs → cellsE (some o) (loadGo ti.agg ti.size H off) = loadGo ti.agg ti.size H off cs := by
            intro cs h
            cases o <;> simp only [AObj.cs] at h <;> first | (cases h; rfl) | cases h
          have no : o.cs = none → cellsE (some o) (loadGo ti.agg ti.size H off) = none := by
            intro h
            cases o <;> simp only [AObj.cs] at h <;> first | rfl | cases h
          cases hc : o.cs with
          | none => rw [no hc]; simp [hc]
          | some cs =>
            rw [go cs hc]
            simp only [Option.bind_some, hc]
            cases ha : ti.agg with
            | true =>
              show @Option.rec (List AV) (fun _ => Option Out) none (fun l => some (.val (.agg l) H)) (takeL ti.size (dropL off cs)) = _
              rw [seg_eq]
              cases seg cs off ti.size <;> rfl
            | false =>
              show bind1 (nthL cs off) (fun v => some (.val v H)) = _
              rw [nthL_eq]
              cases cs[off]? <;> rfl
      | _ => rfl

theorem move_eq (x : Operand) (T : Tr AV) (H : Heap) : moveF x T H = evMove T H x := by
  unfold moveF evMove
  rw [opdK_eq]
  cases opd T x <;> rfl

theorem opK_eq (P : Program) (o : Op) (T : Tr AV) (H : Heap) : (opK P o).f T H = evOp P T H o := by
  cases o with
  | move x => exact move_eq x T H
  | assign x => exact move_eq x T H
  | pick c a b =>
    show pickF c a b T H = evPick T H c a b
    unfold pickF evPick
    rw [opdK_eq]
    cases opd T c with
    | none => rfl
    | some v =>
      cases v with
      | bool t => cases t <;> exact move_eq _ T H
      | _ => rfl
  | box e x =>
    show boxF e x T H = evBox T H e x
    unfold boxF evBox
    rw [opdK_eq]
    cases opd T x <;> rfl
  | load t x => exact load_eq P t x T H
  | _ => rfl

theorem ret_eq (r : Option (AV × Heap)) (T : Tr AV) (d : Option Tmp) (k : Tr AV → Heap → R) : retE r (fun v H => k ((putK d).f T v) H) = retOf r T d k := by
  cases d <;> cases r <;> rfl

theorem step_eq (P : Program) (rec : Rec) (ops : Array Oper) (o : Oper) (k : FK) (T : Tr AV) (H : Heap) : (stepF P rec ops o k).f T H = evStep P rec ops o k.f T H := by
  obtain ⟨dst, op, ty, ps, af, guard⟩ := o
  have yes : ∀ T H, stepGo (opK P op) (putK dst) rec k T H = outOf rec T dst k.f H (evOp P T H op) := by
    intro T H
    unfold stepGo
    rw [opK_eq]
    cases hx : evOp P T H op with
    | none => rfl
    | some out =>
      cases out with
      | val v H1 => cases dst <;> rfl
      | unit H1 => cases dst <;> rfl
      | fn f args => exact ret_eq _ T dst k.f
      | round l args => exact ret_eq _ T dst k.f
  cases guard with
  | none => exact yes T H
  | some g =>
    show guardGo (wantedA ops (some g)) (putK dst) k ⟨stepGo (opK P op) (putK dst) rec k⟩ T H = @Option.rec Bool (fun _ => R) none (fun b => @Bool.rec (fun _ => R) (k.f (putD T dst undefA) H) (outOf rec T dst k.f H (evOp P T H op)) b) (wantedA ops (some g) T)
    unfold guardGo
    cases wantedA ops (some g) T with
    | none => rfl
    | some b =>
      cases b with
      | true => exact yes T H
      | false => cases dst <;> rfl

theorem ops_eq (P : Program) (rec : Rec) (ops : Array Oper) : ∀ (l : List Oper) (T : Tr AV) (H : Heap), (opsF P rec ops l).f T H = evOps P rec ops l T H := by
  intro l
  induction l with
  | nil => intro T H; rfl
  | cons o l ih =>
    intro T H
    show (stepF P rec ops o (opsF P rec ops l)).f T H = evStep P rec ops o (fun T H => evOps P rec ops l T H) T H
    rw [step_eq]
    congr 1
    funext T H
    exact ih T H

theorem plan_eq (P : Program) (rec : Rec) (ops : Array Oper) : ∀ (l : List Entry) (T : Tr AV) (H : Heap), (planGoF P rec ops l).f T H = evPlan P rec ops l T H := by
  intro l
  induction l with
  | nil => intro T H; rfl
  | cons e l ih =>
    intro T H
    show (stepF P rec ops e.o (checkF P ops e.check (planGoF P rec ops l))).f T H = _
    rw [step_eq]
    unfold evPlan
    congr 1
    funext T H
    cases e.check with
    | nil => simp only [checkF, stills]; exact ih T H
    | cons o os =>
      show (match stills P ops T H (o :: os) with | true => (planGoF P rec ops l).f T H | false => none) = _
      rw [ih]
      cases stills P ops T H (o :: os) <;> rfl

theorem region_eq (P : Program) (rec : Rec) (ops : Array Oper) (draw : Bool) (s : St) :
    (regionD P rec ops draw).f s = match evRegion P rec ops draw s.T s.H with | some (T, H) => some (.norm, { s with T, H }) | none => none := by
  have h : ∀ (f : FK) (r : R), f.f s.T s.H = r → (regionF f).f s = match r with | some (T, H) => some (.norm, { s with T, H }) | none => none := by
    intro f r e
    show @Option.rec (Tr AV × Heap) (fun _ => Option (Ex × St)) none (fun p => @Prod.rec _ _ (fun _ => Option (Ex × St)) (fun T H => some (.norm, ⟨T, s.D, H⟩)) p) (f.f s.T s.H) = _
    rw [e]
    cases r <;> rfl
  cases draw with
  | false => exact h _ _ (ops_eq P rec ops _ _ _)
  | true =>
    refine h (planK P rec ops) _ ?_
    unfold planK evRegion
    cases planOf ops with
    | none => rfl
    | some pl => exact plan_eq P rec ops pl _ _

theorem loop_eq (f : CK) (g : St → Option (Ex × St)) (h : ∀ s, f.f s = g s) : ∀ (n : Nat) (s : St), loopF f n s = evLoop g n s := by
  intro n
  induction n with
  | zero => intro s; rfl
  | succ n ih =>
    intro s
    show exE (f.f s) (loopF f n) retK exitK = _
    rw [h]
    unfold evLoop
    cases g s with
    | none => rfl
    | some r =>
      obtain ⟨x, s1⟩ := r
      cases x with
      | norm => exact ih s1
      | _ => rfl

theorem codeF_loop (P : Program) (rec : Rec) (ro : Option Nat) (c : Code) : codeF P rec ro (.loop c) = ⟨loopF (codeF P rec ro c) loopFuel⟩ := rfl

theorem code_eq (P : Program) (rec : Rec) (ro : Option Nat) : ∀ (c : Code) (s : St), (codeF P rec ro c).f s = evCode P rec ro c s := by
  intro c
  induction c with
  | skip => intro s; rfl
  | region id ops draw => intro s; exact region_eq P rec ops draw s
  | seq x y ihx ihy =>
    intro s
    show exE ((codeF P rec ro x).f s) (codeF P rec ro y).f retK exitK = _
    rw [ihx]
    simp only [evCode]
    cases evCode P rec ro x s with
    | none => rfl
    | some r =>
      obtain ⟨e, s1⟩ := r
      cases e with
      | norm => exact ihy s1
      | _ => rfl
  | cond v x y ihx ihy =>
    intro s
    show condE ((opdK v).f s.T) (codeF P rec ro x).f (codeF P rec ro y).f s = _
    rw [opdK_eq]
    simp only [evCode]
    cases opd s.T v with
    | none => rfl
    | some u =>
      cases u with
      | bool b =>
        cases b with
        | true => exact ihx s
        | false => exact ihy s
      | _ => rfl
  | block id c ih =>
    intro s
    show exE ((codeF P rec ro c).f s) normK retK (blockK id) = _
    rw [ih]
    simp only [evCode]
    cases evCode P rec ro c s with
    | none => rfl
    | some r =>
      obtain ⟨e, s1⟩ := r
      cases e with
      | exit id' =>
        show blockK id id' s1 = if Nat.beq id' id then some (.norm, s1) else some (.exit id', s1)
        unfold blockK
        cases Nat.beq id' id <;> rfl
      | _ => rfl
  | loop c ih =>
    intro s
    simp only [evCode, codeF_loop]
    exact loop_eq _ _ ih _ s
  | scope c ih => intro s; exact ih s
  | _ => intros; rfl

theorem fn_eq (P : Program) (rec : Rec) (f : FuncId) (args : List AV) (H : Heap) : fnF P rec f args H = evFn P rec f args H := by
  unfold fnF evFn
  cases P.funcs[f]? with
  | none => rfl
  | some fn =>
    dsimp only
    cases fn.body with
    | none => rfl
    | some c =>
      cases fn.name == "runtime.NumGoroutine" with
      | true => rfl
      | false =>
        cases frameOk fn with
        | false => rfl
        | true =>
          show callF P fn (codeF P rec none c) args H = _
          unfold callF callGo
          cases Nat.ble args.length fn.ntmps with
          | false => rfl
          | true =>
            show backF P fn H ((codeF P rec none c).f _) = _
            rw [code_eq]
            rfl

theorem round_eq (P : Program) (rec : Rec) (l : Nat) (args : List AV) (H : Heap) : roundF P rec l args H = evRound P rec l args H := by
  unfold roundF evRound
  simp only [code_eq]
  rfl

theorem runF_eq (P : Program) : ∀ n, runF P n = run P n := by
  intro n
  induction n with
  | zero => rfl
  | succ n ih =>
    funext j H
    cases j with
    | fn f args => show fnF P (runF P n) f args H = evFn P (run P n) f args H; rw [ih, fn_eq]
    | round l args => show roundF P (runF P n) l args H = evRound P (run P n) l args H; rw [ih, round_eq]
end Go.Ev

