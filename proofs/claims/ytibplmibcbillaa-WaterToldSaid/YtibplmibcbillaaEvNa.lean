/-
  What a call may come to, where it is open in what order a map's entries are met: a step of a region, and regions.
-/
import Derived.Test.YtibplmibcbillaaEvC
namespace Go.EvN
open Go.Ev Go.RowKit

variable {P : Program} {w : World}

/-- A call ends with one of the outcomes that K allows. -/
def RetS (B : Nat) (D : Nat → Prop) (ρ : Ren) (H : Heap) (w : World) (K : AV → Heap → Prop) : Ending → World → Prop :=
  fun e w' => ∃ v H' D' ρ', K v H' ∧ e = .returned (conc ρ' v) ∧ Post B D ρ H w D' ρ' H' w' ∧ v.within D'

def FnS (P : Program) (f : FuncId) (args : List AV) (H : Heap) (K : AV → Heap → Prop) : Prop :=
  (∃ fn c, P.funcs[f]? = some fn ∧ fn.body = some c ∧ (fn.name == "runtime.NumGoroutine") = false) ∧
    ∀ B D ρ w n, Sim B D ρ H w → AV.withins D args → CallsIn Fence.wide n P f (concs ρ args).toArray w (RetS B D ρ H w K)

def RndS (P : Program) (l : Nat) (args : List AV) (H : Heap) (K : AV → Heap → Prop) : Prop :=
  ∀ B D ρ w n, Sim B D ρ H w → D l → AV.withins D args → ∃ r : Loop, w.heap[(ρ l).1]? = some (.loop r) ∧ args.length = r.params.size ∧
      RoundIn Fence.wide n P (ρ l).1 r.fn ((r.params.zip (concs ρ args).toArray).foldl (fun tmps (t, a) => tmps.setIfInBounds t a) r.tmps) r.assign r.body w (RetS B D ρ H w K)

theorem FnS.mono {f : FuncId} {args : List AV} {H : Heap} {K K' : AV → Heap → Prop} (h : FnS P f args H K) (k : ∀ v H', K v H' → K' v H') : FnS P f args H K' :=
  ⟨h.1, fun B D ρ w n hs ha => CallsIn.mono (h.2 B D ρ w n hs ha) fun _ _ ⟨v, H', D', ρ', a, b⟩ => ⟨v, H', D', ρ', k v H' a, b⟩⟩
theorem RndS.mono {l : Nat} {args : List AV} {H : Heap} {K K' : AV → Heap → Prop} (h : RndS P l args H K) (k : ∀ v H', K v H' → K' v H') : RndS P l args H K' :=
  fun B D ρ w n hs hl ha => let ⟨r, q1, q2, q3⟩ := h B D ρ w n hs hl ha; ⟨r, q1, q2, RoundIn.mono q3 fun _ _ ⟨v, H', D', ρ', a, b⟩ => ⟨v, H', D', ρ', k v H' a, b⟩⟩

theorem fnS_of {rec : Rec} (hg : Ev.Good P rec) {f : FuncId} {args : List AV} {H H' : Heap} {v : AV} (h : rec (.fn f args) H = some (v, H')) : FnS P f args H fun v' H2 => v' = v ∧ H2 = H' := by
  obtain ⟨h1, h2⟩ := hg _ _ _ _ h
  exact ⟨h1, fun B D ρ w n hs ha => CallsIn.mono (h2 B D ρ w n hs ha) fun _ _ ⟨D', ρ', a, b, c⟩ => ⟨v, H', D', ρ', ⟨rfl, rfl⟩, a, b, c⟩⟩
theorem rndS_of {rec : Rec} (hg : Ev.Good P rec) {l : Nat} {args : List AV} {H H' : Heap} {v : AV} (h : rec (.round l args) H = some (v, H')) : RndS P l args H fun v' H2 => v' = v ∧ H2 = H' := by
  have h2 := hg _ _ _ _ h
  exact fun B D ρ w n hs hl ha => let ⟨r, q1, q2, q3⟩ := h2 B D ρ w n hs hl ha; ⟨r, q1, q2, RoundIn.mono q3 fun _ _ ⟨D', ρ', a, b, c⟩ => ⟨v, H', D', ρ', ⟨rfl, rfl⟩, a, b, c⟩⟩

/-- A range over a map begins. -/
def rangeS (P : Program) (T : Tr AV) (H : Heap) (t : TypeId) (x : Operand) (K : AV → Heap → Prop) : Prop :=
  (∃ k e, P.underlying t = some (.map k e)) ∧ match opd T x with
  | some .nilm => K (.ptr H.next 0) (H.new (.iter none 0 [] 0))
  | some (.map m) => ∃ (es : List (AV × AV × Nat)) (c : Nat), H.get m = some (.map es c) ∧ K (.ptr H.next 0) (H.new (.iter (some m) c [] c))
  | _ => False

/-- The entries that are still to come. -/
def leftE (es : List (AV × AV × Nat)) (seen : List Nat) : List (AV × AV × Nat) := es.filter fun e => !seen.contains e.2.2

/-- The next entry: any one that is left. -/
def nextS (T : Tr AV) (H : Heap) (x : Operand) (K : AV → Heap → Prop) : Prop :=
  match opd T x with
  | some (.ptr b 0) => (∃ (since : Nat) (seen : List Nat) (last : Nat), H.get b = some (.iter none since seen last) ∧ K (.tup [.bool false]) H) ∨
      ∃ (m c : Nat) (seen : List Nat) (es : List (AV × AV × Nat)), H.get b = some (.iter (some m) c seen c) ∧ H.get m = some (.map es c) ∧ (∀ e ∈ es, e.2.2 < c) ∧
        (leftE es seen = [] → K (.tup [.bool false]) H) ∧ ∀ e ∈ leftE es seen, K (.tup [.bool true, e.1, e.2.1]) (H.put b (.iter (some m) c (seen ++ [e.2.2]) c))
  | _ => False

/-- The entry that the last step met. -/
def entryS (T : Tr AV) (H : Heap) (x : Operand) (K : AV → Heap → Prop) : Prop :=
  match opd T x with
  | some (.ptr b 0) => ∃ (m since : Nat) (seen : List Nat) (c n : Nat) (es : List (AV × AV × Nat)) (e : AV × AV × Nat), H.get b = some (.iter (some m) since (seen ++ [n]) c) ∧ H.get m = some (.map es c) ∧ (es.find? fun e => e.2.2 == n) = some e ∧ K (.tup [e.1, e.2.1]) H
  | _ => False

def mapS (P : Program) (T : Tr AV) (H : Heap) (o : Op) (K : AV → Heap → Prop) : Prop := match o with
  | .range t x => rangeS P T H t x K
  | .next x false => nextS T H x K
  | .entry x => entryS T H x K
  | _ => False

def StepS (P : Program) (ops : Array Oper) (o : Oper) (T : Tr AV) (H : Heap) (K : AV → Heap → Prop) : Prop :=
  match wantedA ops o.guard T with
  | none => False
  | some false => K undefA H
  | some true => match evOp P T H o.op with
    | none => mapS P T H o.op K
    | some (.val v H) => K v H
    | some (.unit H) => K undefA H
    | some (.fn f args) => FnS P f args H K
    | some (.round l args) => RndS P l args H K

theorem noR : Ev.Good P (fun _ _ => none) := by intro j H v H' h; cases h

theorem StepS.det {ops : Array Oper} {o : Oper} {T : Tr AV} {H : Heap} {K : AV → Heap → Prop} (h : StepS P ops o T H K) (hk : (pureOp o.op || readOp o.op) = true ∨ newOp o.op = true) :
    ∃ v H1, stepR P (fun _ _ => none) ops o T H = some (v, H1) ∧ K v H1 := by
  unfold StepS at h
  unfold stepR
  split at h
  · exact h.elim
  · rename_i hw; rw [hw]; exact ⟨_, _, rfl, h⟩
  · rename_i hw
    rw [hw]
    dsimp only
    split at h
    · exfalso
      unfold mapS at h
      split at h
      · rename_i e; rw [e] at hk; simp [pureOp, readOp, newOp] at hk
      · rename_i e; rw [e] at hk; simp [pureOp, readOp, newOp] at hk
      · rename_i e; rw [e] at hk; simp [pureOp, readOp, newOp] at hk
      · exact h
    · rename_i he; rw [he]; exact ⟨_, _, rfl, h⟩
    · rename_i he; rw [he]; exact ⟨_, _, rfl, h⟩
    · rename_i f args he
      exfalso
      rcases hk with hk | hk
      · obtain ⟨v, hv⟩ := pure_keep hk he; cases hv
      · obtain ⟨r, _, hv⟩ := newV_of hk he; cases hv
    · rename_i l args he
      exfalso
      rcases hk with hk | hk
      · obtain ⟨v, hv⟩ := pure_keep hk he; cases hv
      · obtain ⟨r, _, hv⟩ := newV_of hk he; cases hv

theorem mapS_mono {o : Op} {T : Tr AV} {H : Heap} {K K' : AV → Heap → Prop} (h : mapS P T H o K) (k : ∀ v H', K v H' → K' v H') : mapS P T H o K' := by
  unfold mapS at h ⊢
  cases o <;> try exact h
  · rename_i t x
    dsimp only at h ⊢
    unfold rangeS at h ⊢
    obtain ⟨h0, h⟩ := h
    refine ⟨h0, ?_⟩
    split at h
    · exact k _ _ h
    · obtain ⟨es, c, h1, h2⟩ := h; exact ⟨es, c, h1, k _ _ h2⟩
    · exact h.elim
  · rename_i x isS
    cases isS
    · dsimp only at h ⊢
      unfold nextS at h ⊢
      split at h
      · rcases h with ⟨a, b, c, h1, h2⟩ | ⟨m, c, seen, es, h1, h2, h3, h4, h5⟩
        · exact .inl ⟨a, b, c, h1, k _ _ h2⟩
        · exact .inr ⟨m, c, seen, es, h1, h2, h3, fun q => k _ _ (h4 q), fun e he => k _ _ (h5 e he)⟩
      · exact h.elim
    · exact h
  · rename_i x
    dsimp only at h ⊢
    unfold entryS at h ⊢
    split at h
    · obtain ⟨m, since, seen, c, n, es, e, h1, h2, h3, h6⟩ := h
      exact ⟨m, since, seen, c, n, es, e, h1, h2, h3, k _ _ h6⟩
    · exact h.elim

theorem StepS.mono {ops : Array Oper} {o : Oper} {T : Tr AV} {H : Heap} {K K' : AV → Heap → Prop} (h : StepS P ops o T H K) (k : ∀ v H', K v H' → K' v H') : StepS P ops o T H K' := by
  unfold StepS at h ⊢
  cases hw : wantedA ops o.guard T with
  | none => rw [hw] at h; exact h.elim
  | some b =>
    rw [hw] at h
    cases b with
    | false => exact k _ _ h
    | true =>
      dsimp only at h ⊢
      cases he : evOp P T H o.op with
      | some out =>
        rw [he] at h
        cases out with
        | val v H => exact k _ _ h
        | unit H => exact k _ _ h
        | fn f args => exact FnS.mono h k
        | round l args => exact RndS.mono h k
      | none =>
        rw [he] at h
        exact mapS_mono h k

section
variable {a : Act} {B : Nat} {D : Nat → Prop} {ρ : Ren} {H : Heap} {T : Tr AV}

theorem StepS.congr {T' : Tr AV} {ops : Array Oper} {o : Oper} {K : AV → Heap → Prop} (hr : ∀ t ∈ readsOf ops o, T'.get t = T.get t) (h : StepS P ops o T H K) : StepS P ops o T' H K := by
  unfold StepS at h ⊢
  rw [wantedA_congr hr, evOper_congr (ops := ops) hr]
  have ho : ∀ x ∈ o.op.operands.toList, opd T' x = opd T x := fun x hx => opd_congr fun t e => hr t (by
    unfold readsOf
    refine List.mem_append.2 (.inr (mem_tmpsOf ?_))
    rw [← e]; exact hx)
  have hm : ∀ K, mapS P T H o.op K → mapS P T' H o.op K := by
    intro K h
    generalize o.op = op at h ho
    unfold mapS at h ⊢
    cases op <;> try exact h
    · rename_i t x
      have e := ho x (by simp [Op.operands])
      dsimp only at h ⊢
      unfold rangeS at h ⊢
      rw [e]
      exact h
    · rename_i x isS
      have e := ho x (by simp [Op.operands])
      cases isS
      · dsimp only at h ⊢
        unfold nextS at h ⊢
        rw [e]
        exact h
      · exact h
    · rename_i x
      have e := ho x (by simp [Op.operands])
      dsimp only at h ⊢
      unfold entryS at h ⊢
      rw [e]
      exact h
  cases hw : wantedA ops o.guard T with
  | none => rw [hw] at h; exact h.elim
  | some b =>
    rw [hw] at h
    cases b with
    | false => exact h
    | true =>
      dsimp only at h ⊢
      cases he : evOp P T H o.op with
      | some out => rw [he] at h; cases out <;> exact h
      | none => rw [he] at h; exact hm _ h

theorem choose_run (w : World) (n : Nat) (hn : 0 < n) : ∃ k d, k < n ∧ (choose (.mapNext n)).run P w = .ok k { w with drawn := d } := by
  by_cases h : n ≤ 1
  · exact ⟨0, w.drawn, hn, by simp [choose, Sem.run, Question.forced, h]⟩
  · exact ⟨(w.tape w.drawn (.mapNext n)) % n, w.drawn + 1, Nat.mod_lt _ hn, by simp [choose, Sem.run, Question.forced, Question.cut, h]⟩

theorem filter_entry (ρ : Ren) (es : List (AV × AV × Nat)) (seen : List Nat) : ((es.map (Ev.entry ρ)).toArray.filter fun e => !seen.toArray.contains e.born) = ((leftE es seen).map (Ev.entry ρ)).toArray := by
  unfold leftE
  apply Array.toList_inj.1
  simp only [Array.toList_filter, List.filter_map]
  congr 1
  refine List.filter_congr fun e _ => ?_
  simp only [Ev.entry, Function.comp, List.contains_toArray]

theorem next_end {ρ : Ren} {b m c : Nat} {es : List (AV × AV × Nat)} {seen : List Nat} (hb : w.heap[b]? = some (.mapIter (some m) c seen.toArray c)) (hm : w.heap[m]? = some (.map (es.map (Ev.entry ρ)).toArray c))
    (hborn : ∀ e ∈ es, e.2.2 < c) (hl : leftE es seen = []) (ty : TypeId) : (Instr.next (.pointer (some ⟨b, 0, none⟩)) false ty).run P w = .ok (.tuple #[.bool false]) w := by
  have hc : (!seen.toArray.isEmpty && !(es.map (Ev.entry ρ)).toArray.isEmpty && (es.map (Ev.entry ρ)).toArray.all (fun e => decide (e.born ≥ c))) = false := by
    cases es with
    | nil => simp
    | cons e es =>
      have := hborn e (by simp)
      simp [Ev.entry]
      intro _ h
      omega
  have hf := filter_entry ρ es seen
  rw [hl] at hf
  simp only [Instr.next, Sem.run_bind, run_getObj hb (fun _ _ _ h => by cases h), run_getObj hm (fun _ _ _ h => by cases h), Result.andThen_ok, hc, hf, Bool.false_eq_true, if_false]
  simp [choose, Sem.run, Question.forced]

theorem next_go {ρ : Ren} {b m c : Nat} {es : List (AV × AV × Nat)} {seen : List Nat} (hb : w.heap[b]? = some (.mapIter (some m) c seen.toArray c)) (hm : w.heap[m]? = some (.map (es.map (Ev.entry ρ)).toArray c))
    (hborn : ∀ e ∈ es, e.2.2 < c) (hl : leftE es seen ≠ []) (ty : TypeId) : ∃ e ∈ leftE es seen, ∃ d, (Instr.next (.pointer (some ⟨b, 0, none⟩)) false ty).run P w =
      .ok (.tuple #[.bool true, conc ρ e.1, conc ρ e.2.1]) { w with drawn := d, heap := w.heap.setIfInBounds b (.mapIter (some m) c (seen ++ [e.2.2]).toArray c) } := by
  have hc : (!seen.toArray.isEmpty && !(es.map (Ev.entry ρ)).toArray.isEmpty && (es.map (Ev.entry ρ)).toArray.all (fun e => decide (e.born ≥ c))) = false := by
    cases es with
    | nil => simp
    | cons e es =>
      have := hborn e (by simp)
      simp [Ev.entry]
      intro _ h
      omega
  have hf := filter_entry ρ es seen
  have hlen : 0 < (leftE es seen).length := List.length_pos_iff.2 hl
  have hold : (((leftE es seen).map (Ev.entry ρ)).toArray.filter fun e => decide (e.born < c)) = ((leftE es seen).map (Ev.entry ρ)).toArray := by
    apply Array.toList_inj.1
    rw [Array.toList_filter]
    refine List.filter_eq_self.2 fun x hx => ?_
    simp only [List.mem_map] at hx
    obtain ⟨e, he, rfl⟩ := hx
    have := hborn e ((List.mem_filter.1 he).1)
    simp only [Ev.entry]; exact decide_eq_true this
  have hnew : (((leftE es seen).map (Ev.entry ρ)).toArray.filter fun e => decide (e.born ≥ c)) = #[] := by
    apply Array.toList_inj.1
    rw [Array.toList_filter]
    refine List.filter_eq_nil_iff.2 fun x hx => ?_
    simp only [List.mem_map] at hx
    obtain ⟨e, he, rfl⟩ := hx
    have := hborn e ((List.mem_filter.1 he).1)
    simp [Ev.entry]
    omega
  obtain ⟨k, d, hk, hch⟩ := choose_run (P := P) w (leftE es seen).length hlen
  refine ⟨(leftE es seen)[k], List.getElem_mem _, d, ?_⟩
  have hne : ((leftE es seen).map (Ev.entry ρ)).toArray.isEmpty = false := by
    cases he : leftE es seen with
    | nil => exact absurd he hl
    | cons e es => simp
  have hb' : ({ w with drawn := d } : World).heap[b]? = some (.mapIter (some m) c seen.toArray c) := hb
  simp only [Instr.next, Sem.run_bind, run_getObj hb (fun _ _ _ h => by cases h), run_getObj hm (fun _ _ _ h => by cases h), Result.andThen_ok, hc, hf, hold, hnew, hne, Bool.false_eq_true, if_false]
  simp only [Array.append_empty, Array.empty_append, Array.size_map, List.size_toArray, List.length_map, hch, Result.andThen_ok]
  have hget : (Array.map some ((leftE es seen).map (Ev.entry ρ)).toArray : Array (Option MapEntry))[k]? = some (some (Ev.entry ρ (leftE es seen)[k])) := by
    simp [hk]
  rw [hget]
  have hb' : ({ w with drawn := d } : World).heap[b]? = some (.mapIter (some m) c seen.toArray c) := hb
  simp only [Sem.run_bind, run_setObj hb' (fun _ _ _ h => by cases h), Result.andThen_ok, Sem.run_pure]
  simp [Ev.entry]

theorem mapS_sound {o : Oper} {K : AV → Heap → Prop} (h : mapS P T H o.op K) (hs : Sim B D ρ H w) (hT : TR D ρ T a.tmps) :
    (∀ c, o.op ≠ .defer c) ∧ ∃ v H' D' ρ' w', K v H' ∧ (execOp a.eval o).run P w = .ok (.value (conc ρ' v)) w' ∧ Post B D ρ H w D' ρ' H' w' ∧ v.within D' := by
  unfold mapS at h
  split at h
  · rename_i t x ho
    refine ⟨fun c e => (by rw [ho] at e; cases e), ?_⟩
    obtain ⟨⟨kt, et, hu⟩, h⟩ := h
    split at h
    · rename_i hx
      obtain ⟨e1, _⟩ := opd_sound hT hx
      refine ⟨_, _, _, _, _, h, ?_, post_new hs 0 (.iter none 0 [] 0) (.mapIter none 0 #[] 0) ⟨rfl, nofun⟩, .inr rfl⟩
      simp only [execOp, ho, e1, conc, Instr.range, Sem.run_bind, run_under hu, Result.andThen_ok, Sem.run_pure, newObj, Sem.run]
      simp
    · rename_i m hx
      obtain ⟨es, c, hm, hK⟩ := h
      obtain ⟨e1, km⟩ := opd_sound hT hx
      obtain ⟨o1, g1, l1⟩ := hs.live m km
      rw [hm] at g1; cases g1
      rcases l1 with l1 | ⟨_, o', hw, rfl, hin⟩
      · cases l1
      refine ⟨_, _, _, _, _, hK, ?_, post_new hs 0 (.iter (some m) c [] c) (.mapIter (some (ρ m).1) c #[] c) ⟨rfl, fun k e => by cases e; exact km⟩, .inr rfl⟩
      simp only [execOp, ho, e1, conc, Instr.range, Sem.run_bind, run_under hu, Result.andThen_ok, Sem.run_pure, run_getObj hw (fun _ _ _ h => by cases h), newObj, Sem.run]
      simp
    · exact h.elim
  · rename_i x ty ho
    refine ⟨fun c e => (by rw [ho] at e; cases e), ?_⟩
    unfold nextS at h
    split at h
    · rename_i b hx
      obtain ⟨e1, kb⟩ := opd_sound hT hx
      rcases h with ⟨since, seen, last, hb, hK⟩ | ⟨m, c, seen, es, hb, hm, hborn, hend, hgo⟩
      · obtain ⟨o1, g1, l1⟩ := hs.live b kb
        rw [hb] at g1; cases g1
        rcases l1 with l1 | ⟨_, o', hw, rfl, _⟩
        · cases l1
        refine ⟨_, _, D, ρ, w, hK, ?_, Post.refl hs, ⟨trivial, trivial⟩⟩
        simp only [execOp, ho, e1, conc, concs, Instr.next, Sem.run_bind, Result.andThen_ok, Sem.run_pure, run_getObj hw (fun _ _ _ h => by cases h), Option.map_none]
      · obtain ⟨o1, g1, l1⟩ := hs.live b kb
        rw [hb] at g1; cases g1
        rcases l1 with l1 | ⟨_, o', hw, rfl, hin⟩
        · cases l1
        have km := hin m rfl
        obtain ⟨o2, g2, l2⟩ := hs.live m km
        rw [hm] at g2; cases g2
        rcases l2 with l2 | ⟨_, o3, hw2, rfl, hin2⟩
        · cases l2
        have hlive : Ev.Own (H.get b) := by rw [hb]; exact ⟨nofun, nofun⟩
        by_cases hl : leftE es seen = []
        · refine ⟨_, _, D, ρ, w, hend hl, ?_, Post.refl hs, ⟨trivial, trivial⟩⟩
          simp only [execOp, ho, e1, conc, Sem.run_bind, next_end hw hw2 hborn hl, Result.andThen_ok, Sem.run_pure, concs]
        · obtain ⟨e, he, d, hrun⟩ := next_go (P := P) hw hw2 hborn hl o.type
          have hk := hin2 e (List.mem_filter.1 he).1
          have p1 := Post.draw hs d
          have p2 := post_write p1.sim b kb hlive (.iter (some m) c (seen ++ [e.2.2]) c) (.mapIter (some (ρ m).1) c (seen ++ [e.2.2]).toArray c) ⟨rfl, fun k e => by cases e; exact km⟩ ⟨nofun, nofun⟩
          refine ⟨_, _, D, ρ, _, hgo e he, ?_, p1.trans p2, ⟨trivial, hk.1, hk.2, trivial⟩⟩
          simp only [execOp, ho, e1, conc, Sem.run_bind, hrun, Result.andThen_ok, Sem.run_pure, concs]
    · exact h.elim
  · rename_i x ho
    refine ⟨fun c e => (by rw [ho] at e; cases e), ?_⟩
    unfold entryS at h
    split at h
    · rename_i b hx
      obtain ⟨m, since, seen, c, n, es, e, hb, hm, hf, hK⟩ := h
      obtain ⟨e1, kb⟩ := opd_sound hT hx
      obtain ⟨o1, g1, l1⟩ := hs.live b kb
      rw [hb] at g1; cases g1
      rcases l1 with l1 | ⟨_, o', hw, rfl, hin⟩
      · cases l1
      have km := hin m rfl
      obtain ⟨o2, g2, l2⟩ := hs.live m km
      rw [hm] at g2; cases g2
      rcases l2 with l2 | ⟨_, o3, hw2, rfl, hin2⟩
      · cases l2
      have hk := hin2 e (List.mem_of_find?_eq_some hf)
      have hf' : (es.map (Ev.entry ρ)).toArray.find? (fun e => e.born == n) = some (Ev.entry ρ e) := by
        rw [List.find?_toArray, List.find?_map]
        show (es.find? fun e => e.2.2 == n).map _ = _
        rw [hf]
        rfl
      refine ⟨_, _, D, ρ, w, hK, ?_, Post.refl hs, ⟨hk.1, hk.2, trivial⟩⟩
      simp only [execOp, ho, e1, conc, Instr.entry, Sem.run_bind, run_getObj hw (fun _ _ _ h => by cases h), run_getObj hw2 (fun _ _ _ h => by cases h), Result.andThen_ok, Sem.run_pure, concs, hf', List.back?_toArray, List.getLast?_append, List.getLast?_singleton, Option.some_or, Option.map_some, bne_self_eq_false, Bool.false_eq_true, if_false]
      simp [Ev.entry]
    · exact h.elim
  · exact h.elim
end
end Go.EvN

