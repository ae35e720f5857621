/-
  The operations, one by one: what the model does is what the evaluator does. First those that reckon, load, store and make one block.
-/
import Derived.Test.YtibplmibcbillaaEvS2
namespace Go.Ev
open Go.RowKit

variable {P : Program} {w : World}

theorem opd_sound {D : Nat → Prop} {ρ : Ren} {T : Tr AV} {a : Act} (hT : TR D ρ T a.tmps) {x : Operand} {v : AV} (h : opd T x = some v) : a.eval x = conc ρ v ∧ v.within D := by
  cases x with
  | tmp t => obtain ⟨_, b, c⟩ := hT t v h; exact ⟨b, c⟩
  | const u => exact ⟨(av_spec ρ D h).1.symm, (av_spec ρ D h).2⟩
  | global g => cases h
  | func f => cases h; exact ⟨rfl, trivial, trivial⟩

theorem opds_sound {D : Nat → Prop} {ρ : Ren} {T : Tr AV} {a : Act} (hT : TR D ρ T a.tmps) : ∀ (xs : List Operand) (vs : List AV), opds T xs = some vs →
    xs.map a.eval = concs ρ vs ∧ AV.withins D vs := by
  intro xs
  induction xs with
  | nil => intro vs h; cases h; exact ⟨rfl, trivial⟩
  | cons x xs ih =>
    intro vs h
    change @Option.rec AV (fun _ => Option (List AV)) none (fun v => @Option.rec (List AV) (fun _ => Option (List AV)) none (fun vs => some (v :: vs)) (opds T xs)) (opd T x) = some vs at h
    cases hx : opd T x with
    | none => rw [hx] at h; cases h
    | some v =>
      cases hxs : opds T xs with
      | none => rw [hx, hxs] at h; cases h
      | some l =>
        rw [hx, hxs] at h; cases h
        obtain ⟨a1, b1⟩ := opd_sound hT hx
        obtain ⟨a2, b2⟩ := ih _ hxs
        exact ⟨by simp [concs, a1, a2], b1, b2⟩

/-- What an operation comes to. -/
def OpOK (P : Program) (a : Act) (o : Oper) (B : Nat) (D : Nat → Prop) (ρ : Ren) (H : Heap) (w : World) : Out → Prop
  | .val v H' => ∃ D' ρ' w', (execOp a.eval o).run P w = .ok (.value (conc ρ' v)) w' ∧ Post B D ρ H w D' ρ' H' w' ∧ v.within D'
  | .unit H' => ∃ w', (execOp a.eval o).run P w = .ok .skip w' ∧ Post B D ρ H w D ρ H' w'
  | .fn f args => (execOp a.eval o).run P w = (callFunc f (concs ρ args).toArray).run P w ∧ AV.withins D args
  | .round l args => (execOp a.eval o).run P w = (Instr.yield (ρ l).1 (concs ρ args).toArray).run P w ∧ D l ∧ AV.withins D args

section
variable {a : Act} {B : Nat} {D : Nat → Prop} {ρ : Ren} {H : Heap} {T : Tr AV}

theorem ok_pure {o : Oper} {v : AV} (hs : Sim B D ρ H w) (h : (execOp a.eval o).run P w = .ok (.value (conc ρ v)) w) (hv : v.within D) : OpOK P a o B D ρ H w (.val v H) :=
  ⟨D, ρ, w, h, Post.refl hs, hv⟩

theorem post_new (hs : Sim B D ρ H w) (cap : Nat) (o : AObj) (o' : Obj) (ho : ORel D ρ cap o o') (hown : Own (some o) := by exact ⟨nofun, nofun⟩) :
    Post B D ρ H w (fun n => D n ∨ n = H.next) (fun n => if n = H.next then (w.heap.size, cap) else ρ n) (H.new o) { w with heap := w.heap.push o' } := by
  have hN : ¬ D H.next := fun k => absurd (hs.fresh _ k) (Nat.lt_irrefl _)
  have hne : ∀ n, D n → n ≠ H.next := fun n k e => hN (e ▸ k)
  refine ⟨hs.alloc H.next cap o o' hN (by simp) (by simp) (by rw [Heap.get_new]; simp) (fun n k => by rw [Heap.get_new, if_neg (hne n k)]) ho rfl hown, fun n k => .inl k, fun n k => by simp [hne n k],
    fun n k => k.imp id (fun e => by omega), fun n k _ => by rw [Heap.get_new, if_neg (by omega)], by simp, by simp, fun n k _ => by rw [Heap.get_new, if_neg (by omega)], ⟨rfl, rfl, rfl, by simp, fun k hk => ?_⟩⟩
  have := hs.base
  exact Array.getElem?_push_lt (by omega) |>.trans (Array.getElem?_eq_getElem (by omega)).symm

theorem post_write (hs : Sim B D ρ H w) (b : Nat) (hb : D b) (hlive : Own (H.get b)) (o : AObj) (o' : Obj) (ho : ORel D ρ (ρ b).2 o o') (hd : Own (some o)) :
    Post B D ρ H w D ρ (H.put b o) { w with heap := w.heap.setIfInBounds (ρ b).1 o' } := by
  obtain ⟨o0, g0, l0⟩ := hs.live b hb
  have l1 : B ≤ (ρ b).1 ∧ (ρ b).1 < w.heap.size := by
    rcases l0 with rfl | ⟨h1, o2, h2, _⟩
    · exact absurd g0 hlive.1
    · exact ⟨(Side.own (g0 ▸ hlive)).1 h1, (Array.getElem?_eq_some_iff.1 h2).1⟩
  refine ⟨hs.write b hb hlive o o' (by rw [Heap.get_put]; simp) (fun n k => by rw [Heap.get_put, if_neg k]) rfl ho hd (fun k => ?_), fun n k => k, fun n _ => rfl,
    fun n k => .inl k, fun n _ k' => ?_, Nat.le_refl _, ?_, fun n _ k' => ?_, ⟨rfl, rfl, rfl, by simp, fun k hk => ?_⟩⟩
  · rw [Array.getElem?_setIfInBounds]
    by_cases e : (ρ b).1 = k
    · subst e; simp [l1.2]
    · rw [if_neg e, if_neg (fun q => e q.symm)]
  · rw [Heap.get_put, if_neg (fun e : n = b => k' (e ▸ hb))]
  · rw [Heap.lo_put]; omega
  · rw [Heap.lo_put] at k'; rw [Heap.get_put, if_neg (by omega)]
  · rw [Array.getElem?_setIfInBounds, if_neg (by omega)]

/-! ### The operations -/
theorem conc_cells (ρ : Ren) (v : AV) : (conc ρ v).cells = (concs ρ v.cells).toArray := by
  cases v <;> first
    | (simp [conc, concs, Value.cells, AV.cells]; done)
    | skip
  rename_i v
  show v.cells = (concs ρ (v.cells.toList.map .raw)).toArray
  rw [concs_map, List.map_map]
  have : (conc ρ ∘ AV.raw) = id := by funext x; simp [conc]
  rw [this]; simp

theorem cells_within {v : AV} (h : v.within D) : AV.withins D v.cells := by
  cases v <;> first | exact h | exact ⟨h, trivial⟩ | skip
  exact withins_iff.2 fun v hv => by
    simp only [AV.cells, List.mem_map] at hv
    obtain ⟨x, _, rfl⟩ := hv
    trivial

theorem move_sound {o : Oper} {x : Operand} {out : Out} (ho : o.op = .move x ∨ o.op = .assign x) (hs : Sim B D ρ H w) (hT : TR D ρ T a.tmps) (he : evMove T H x = some out) :
    OpOK P a o B D ρ H w out := by
  simp only [evMove, Option.map_eq_some_iff] at he
  obtain ⟨v, hv, rfl⟩ := he
  obtain ⟨e, k⟩ := opd_sound hT hv
  refine ok_pure hs ?_ k
  rcases ho with ho | ho <;> simp [execOp, ho, e]

theorem pick_sound {o : Oper} {c x y : Operand} {out : Out} (ho : o.op = .pick c x y) (hs : Sim B D ρ H w) (hT : TR D ρ T a.tmps) (he : evPick T H c x y = some out) :
    OpOK P a o B D ρ H w out := by
  unfold evPick at he
  split at he
  · rename_i hc
    simp only [Option.map_eq_some_iff] at he
    obtain ⟨v, hv, rfl⟩ := he
    obtain ⟨e, k⟩ := opd_sound hT hv
    obtain ⟨ec, _⟩ := opd_sound hT hc
    exact ok_pure hs (by simp [execOp, ho, e, ec, conc, asBool]) k
  · rename_i hc
    simp only [Option.map_eq_some_iff] at he
    obtain ⟨v, hv, rfl⟩ := he
    obtain ⟨e, k⟩ := opd_sound hT hv
    obtain ⟨ec, _⟩ := opd_sound hT hc
    exact ok_pure hs (by simp [execOp, ho, e, ec, conc, asBool]) k
  · cases he

theorem alloc_sound {o : Oper} {e : TypeId} {out : Out} (ho : o.op = .alloc e) (hs : Sim B D ρ H w) (he : evAlloc P H e = some out) : OpOK P a o B D ρ H w out := by
  unfold evAlloc at he
  cases ht : mkTI P e with
  | none => rw [ht] at he; cases he
  | some ti =>
    rw [ht] at he
    obtain ⟨ag, size, bytes, zero, d⟩ := ti
    cases zero with
    | none => cases he
    | some z =>
      cases he
      obtain ⟨v, hr, hc, hd, _⟩ := run_zero (w := w) ρ D ht rfl
      refine ⟨_, _, _, ?_, post_new hs 0 (.cells z e) (.cells (concs ρ z).toArray e (0, 0)) ⟨rfl, hd⟩, .inr rfl⟩
      simp only [execOp, ho, Instr.alloc, Sem.run_bind, hr, Result.andThen_ok, newVar, newRow, newObj, Sem.run, conc, if_true, Sem.run_pure]
      rw [← hc]

theorem box_sound {o : Oper} {e : TypeId} {x : Operand} {out : Out} (ho : o.op = .box e x) (hs : Sim B D ρ H w) (hT : TR D ρ T a.tmps) (he : evBox T H e x = some out) : OpOK P a o B D ρ H w out := by
  simp only [evBox, Option.map_eq_some_iff] at he
  obtain ⟨v, hv, rfl⟩ := he
  obtain ⟨ev, k⟩ := opd_sound hT hv
  refine ⟨_, _, _, ?_, post_new hs 0 (.cells v.cells e) (.cells (concs ρ v.cells).toArray e (0, 0)) ⟨rfl, cells_within k⟩, .inr rfl⟩
  simp [execOp, ho, Instr.box, ev, newVar, newRow, newObj, Sem.run, conc, conc_cells]

theorem loadOp_sound {o : Oper} {t : TypeId} {x : Operand} {out : Out} (ho : o.op = .load t x) (hs : Sim B D ρ H w) (hT : TR D ρ T a.tmps) (he : evLoad P T H t x = some out) :
    OpOK P a o B D ρ H w out := by
  unfold evLoad at he
  split at he
  · rename_i b off hx
    simp only [Option.map_eq_some_iff] at he
    obtain ⟨v, hv, rfl⟩ := he
    obtain ⟨e, k⟩ := opd_sound hT hx
    obtain ⟨h1, h2⟩ := load_sound hs k hv
    exact ok_pure hs (by simp [execOp, ho, e, h1]) h2
  · cases he

theorem spl_spec {cs new l : List AV} {off : Nat} (h : spl cs off new = some l) : l = cs.take off ++ (new ++ cs.drop (off + new.length)) ∧ off + new.length ≤ cs.length := by
  unfold spl at h
  split at h
  · rename_i hb; cases h; exact ⟨rfl, Nat.le_of_ble_eq_true hb⟩
  · cases h

theorem atoms_spec (ρ : Ren) : ∀ l : List AV, atoms l = true → ∀ v ∈ concs ρ l, Value.atom v = true := by
  intro l
  induction l with
  | nil => intro _ v hv; cases hv
  | cons x xs ih =>
    intro h v hv
    unfold atoms at h
    split at h
    · rename_i hx
      simp only [concs, List.mem_cons] at hv
      rcases hv with rfl | hv
      · cases x <;> first | rfl | cases hx | (rename_i v; cases v <;> first | rfl | cases hx)
      · exact ih h v hv
    · cases h

theorem splice_conc (ρ : Ren) {cs new l : List AV} {off : Nat} (rest : List Value) (h : spl cs off new = some l) :
    (concs ρ cs ++ rest).take off ++ (concs ρ new ++ (concs ρ cs ++ rest).drop (off + (concs ρ new).length)) = concs ρ l ++ rest := by
  obtain ⟨rfl, hle⟩ := spl_spec h
  rw [concs_append, concs_append, concs_take, concs_drop, concs_length, List.take_append_of_le_length (by simp; omega), List.drop_append_of_le_length (by simp; omega)]
  simp

theorem spl_within {cs new l : List AV} {off : Nat} (h : spl cs off new = some l) (h1 : AV.withins D cs) (h2 : AV.withins D new) : AV.withins D l := by
  obtain ⟨rfl, _⟩ := spl_spec h
  refine withins_iff.2 fun v hv => ?_
  simp only [List.mem_append] at hv
  rcases hv with hv | hv | hv
  · exact withins_iff.1 h1 v (List.mem_of_mem_take hv)
  · exact withins_iff.1 h2 v hv
  · exact withins_iff.1 h1 v (List.mem_of_mem_drop hv)

theorem spl_length {cs new l : List AV} {off : Nat} (h : spl cs off new = some l) : l.length = cs.length := by
  obtain ⟨rfl, hle⟩ := spl_spec h
  simp; omega

def _root_.Go.Ev.AObj.re : AObj → List AV → AObj
  | .cells _ e, l => .cells l e
  | .opn _ e sz, l => .opn l e sz
  | o, _ => o

/-- New cells in a part of a name's block. -/
theorem write_part (hs : Sim B D ρ H w) {b off : Nat} {cs l new : List AV} {o : AObj} (hb : D b) (hg : H.get b = some o) (hc : o.cs = some cs) (hne : ∀ cs, o ≠ .ext cs) (hsp : spl cs off new = some l) (hn : AV.withins D new) (ha : atoms new = true)
    : ∃ w', (storeCells ⟨(ρ b).1, off, none⟩ (concs ρ new)).run P w = .ok () w' ∧ Post B D ρ H w D ρ (H.put b (o.re l)) w' := by
  obtain ⟨o0, g0, l0⟩ := hs.live b hb
  rw [hg] at g0; cases g0
  have hlive : Own (H.get b) := by rw [hg]; refine ⟨?_, ?_⟩ <;> intro e <;> first | (intro q; cases q; exact hne _ rfl) | (cases e; cases hc)
  have hle := (spl_spec hsp).2
  cases o <;> simp only [AObj.cs, Option.some.injEq, reduceCtorEq] at hc
  · subst hc
    rcases l0 with l0 | ⟨_, o2, hw, rfl, hd⟩
    · cases l0
    · refine ⟨_, run_storeCells (concs ρ new) 0 (concs ρ _) w hw (by simpa using hle) (atoms_spec ρ new ha), ?_⟩
      have := splice_conc ρ [] hsp
      simp only [List.append_nil] at this
      simp only [Nat.add_zero]
      rw [this]
      exact post_write hs b hb hlive _ _ ⟨rfl, spl_within hsp hd hn⟩ ⟨nofun, nofun⟩
  · exact absurd rfl (hne _)
  · subst hc
    rcases l0 with l0 | ⟨_, o2, hw, rest, rfl, hcap, hd⟩
    · cases l0
    · refine ⟨_, run_storeCells (concs ρ new) 0 (concs ρ _ ++ rest) w hw (by simp; omega) (atoms_spec ρ new ha), ?_⟩
      simp only [Nat.add_zero]
      rw [splice_conc ρ rest hsp]
      exact post_write hs b hb hlive _ _ ⟨rest, rfl, by rw [spl_length hsp]; exact hcap, spl_within hsp hd hn⟩ ⟨nofun, nofun⟩

theorem store_sound {o : Oper} {t : TypeId} {x y : Operand} {out : Out} (ho : o.op = .store t x y) (hs : Sim B D ρ H w) (hT : TR D ρ T a.tmps) (he : evStore P T H t x y = some out) :
    OpOK P a o B D ρ H w out := by
  unfold evStore at he
  split at he
  · rename_i b off v hx hy
    simp only [Option.map_eq_some_iff] at he
    obtain ⟨H', hH, rfl⟩ := he
    obtain ⟨ex, kx⟩ := opd_sound hT hx
    obtain ⟨ey, ky⟩ := opd_sound hT hy
    have go : ∀ (ti : TI) (cs : List AV) (o1 : AObj) (o2 : List AV → AObj), mkTI P t = some ti → H.get b = some o1 → o1.cs = some cs → (∀ cs, o1 ≠ .ext cs) → (match Nat.beq v.cells.length ti.size, atoms v.cells with
        | true, true => (spl cs off v.cells).map fun cs' => H.put b (o2 cs') | _, _ => none) = some H' →
        (∀ l, o2 l = o1.re l) → OpOK P a o B D ρ H w (.unit H') := by
      intro ti cs o1 o2 ht hg hc hne hm ho2
      split at hm
      · rename_i h1 h2
        simp only [Option.map_eq_some_iff] at hm
        obtain ⟨l, hl, rfl⟩ := hm
        obtain ⟨w', hr, hp⟩ := write_part (P := P) hs kx hg hc hne hl (cells_within ky) h2
        refine ⟨w', ?_, by rw [ho2]; exact hp⟩
        have hsz := Nat.eq_of_beq_eq_true h1
        simp only [execOp, ho, ex, ey, conc, Instr.storeAt, Instr.sureAddr, Sem.run_bind, Sem.run_pure, Result.andThen_ok, storeVar, run_sizeOf ht, conc_cells]
        rw [if_neg (by simp [hsz])]
        rw [hr]; rfl
      · cases hm
    unfold storeAt at hH
    split at hH
    · rename_i ti cs e ht hg
      exact go ti cs _ (fun l => .cells l e) ht hg rfl nofun hH (fun _ => rfl)
    · rename_i ti cs e sz ht hg
      exact go ti cs _ (fun l => .opn l e sz) ht hg rfl nofun hH (fun _ => rfl)
    · cases hH
  · cases he
end
end Go.Ev

