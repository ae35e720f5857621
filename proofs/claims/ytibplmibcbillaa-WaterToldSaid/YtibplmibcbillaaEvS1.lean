/-
  What a heap of names says of a world: the relation, and that reading and writing keep it.
-/
import Derived.Test.YtibplmibcbillaaEvA
import Derived.Below
namespace Go.Ev
open Go.RowKit

theorem look_lay {α : Type} (x : α) (t : Tr α) : ∀ p q : Pos, (Tr.lay x t p).look q = if q = p then some x else t.look q := by
  have one : ∀ p q : Pos, (Tr.one x p).look q = if q = p then some x else none := by
    intro p
    induction p with
    | here => intro q; cases q <;> rfl
    | left p ih => intro q; cases q with
      | here => rfl
      | left q => show (Tr.one x p).look q = _; rw [ih]; by_cases h : q = p <;> simp [h]
      | right q => rfl
    | right p ih => intro q; cases q with
      | here => rfl
      | left q => rfl
      | right q => show (Tr.one x p).look q = _; rw [ih]; by_cases h : q = p <;> simp [h]
  induction t with
  | nil => intro p q; show (Tr.one x p).look q = _; rw [one]; rfl
  | node v l r ihl ihr =>
    intro p q
    cases p with
    | here => cases q <;> rfl
    | left p => cases q with
      | here => rfl
      | left q => show (Tr.lay x l p).look q = _; rw [ihl]; by_cases h : q = p <;> simp [h, Tr.look]
      | right q => rfl
    | right p => cases q with
      | here => rfl
      | left q => rfl
      | right q => show (Tr.lay x r p).look q = _; rw [ihr]; by_cases h : q = p <;> simp [h, Tr.look]

def Pos.val : Pos → Nat
  | .here => 1
  | .left p => 2 * p.val
  | .right p => 2 * p.val + 1

theorem posF_val : ∀ f n : Nat, 1 ≤ n → n ≤ f → (posF f n).val = n := by
  intro f
  induction f with
  | zero => intro n h1 h2; omega
  | succ f ih =>
    intro n h1 h2
    show (@Bool.rec (fun _ => Pos) (@Bool.rec (fun _ => Pos) (.right (posF f (Nat.div n 2))) (.left (posF f (Nat.div n 2))) (Nat.beq (Nat.mod n 2) 0)) .here (Nat.beq n 1)).val = n
    have hd : Nat.div n 2 = n / 2 := rfl
    have hm : Nat.mod n 2 = n % 2 := rfl
    cases h : Nat.beq n 1 with
    | true => have := Nat.eq_of_beq_eq_true h; subst this; rfl
    | false =>
      have hn := Nat.ne_of_beq_eq_false h
      cases h' : Nat.beq (Nat.mod n 2) 0 with
      | true =>
        have := Nat.eq_of_beq_eq_true h'
        show 2 * (posF f (Nat.div n 2)).val = n
        rw [ih _ (by rw [hd]; omega) (by rw [hd]; omega), hd]; omega
      | false =>
        have := Nat.ne_of_beq_eq_false h'
        show 2 * (posF f (Nat.div n 2)).val + 1 = n
        rw [ih _ (by rw [hd]; omega) (by rw [hd]; omega), hd]; omega

theorem pos_inj {n m : Nat} (h : pos n = pos m) : n = m := by
  have a := posF_val (n + 1) (n + 1) (by omega) (by omega)
  have b := posF_val (m + 1) (m + 1) (by omega) (by omega)
  have : (pos n).val = (pos m).val := by rw [h]
  unfold pos at this
  simp only [Nat.succ_eq_add_one] at this
  omega

theorem get_set {α : Type} (t : Tr α) (n m : Nat) (x : α) : (t.set n x).get m = if m = n then some x else t.get m := by
  unfold Tr.set Tr.get
  rw [look_lay]
  by_cases h : m = n
  · simp [h]
  · have : pos m ≠ pos n := fun e => h (pos_inj e)
    simp [h, this]

theorem Heap.get_put (H : Heap) (n m : Nat) (o : AObj) : (H.put n o).get m = if m = n then some o else H.get m := get_set H.t n m o
theorem Heap.get_new (H : Heap) (m : Nat) (o : AObj) : (H.new o).get m = if m = H.next then some o else H.get m := get_set H.t H.next m o
@[simp] theorem hPt (H : Heap) (n : Nat) (o : AObj) : (H.put n o).next = H.next := rfl
@[simp] theorem hNw (H : Heap) (o : AObj) : (H.new o).next = H.next + 1 := rfl
@[simp] theorem Heap.lo_new (H : Heap) (o : AObj) : (H.new o).lo = H.lo := rfl
theorem Heap.lo_put (H : Heap) (n : Nat) (o : AObj) : (H.put n o).lo = min H.lo n := by
  show @Bool.rec (fun _ => Nat) n H.lo (Nat.ble H.lo n) = _
  cases h : Nat.ble H.lo n with
  | true => have := Nat.le_of_ble_eq_true h; show H.lo = _; omega
  | false =>
    have : ¬ H.lo ≤ n := fun e => by rw [Nat.ble_eq_true_of_le e] at h; cases h
    show n = _; omega

/-- Where a name's block lies, and how many elements it bears. -/
abbrev Ren := Nat → Nat × Nat

mutual
def conc (ρ : Ren) : AV → Value
  | .int k n => .int k n
  | .bool b => .bool b
  | .str s => .string s
  | .ptr b off => .pointer (some ⟨(ρ b).1, off, none⟩)
  | .nilp => .pointer none
  | .slice b off len cap => .slice (some ⟨(ρ b).1, off, none⟩) len cap
  | .opn b len => .slice (some ⟨(ρ b).1, 0, none⟩) len (ρ b).2
  | .tail b i off len => .slice (some ⟨(ρ b).1, if len = 0 ∧ (ρ b).2 = i then 0 else off, none⟩) len ((ρ b).2 - i)
  | .nils => .slice none 0 0
  | .map b => .map (some (ρ b).1)
  | .nilm => .map none
  | .fn f a b => .func (.func f) (concs ρ a).toArray (concs ρ b).toArray
  | .yield b => .func (.yield (ρ b).1) #[] #[]
  | .nilf => .nilFunc
  | .iface t v => .iface t (conc ρ v)
  | .nili => .nilIface
  | .agg cs => .agg (concs ρ cs).toArray
  | .raw v => v
  | .tup vs => .tuple (concs ρ vs).toArray
def concs (ρ : Ren) : List AV → List Value
  | [] => []
  | v :: vs => conc ρ v :: concs ρ vs
end

theorem concs_map (ρ : Ren) (l : List AV) : concs ρ l = l.map (conc ρ) := by
  induction l with
  | nil => rfl
  | cons v vs ih => simp [concs, ih]

@[simp] theorem concs_length (ρ : Ren) (l : List AV) : (concs ρ l).length = l.length := by simp [concs_map]
theorem concs_append (ρ : Ren) (a b : List AV) : concs ρ (a ++ b) = concs ρ a ++ concs ρ b := by simp [concs_map]
theorem concs_take (ρ : Ren) (n : Nat) (l : List AV) : concs ρ (l.take n) = (concs ρ l).take n := by simp [concs_map]
theorem concs_drop (ρ : Ren) (n : Nat) (l : List AV) : concs ρ (l.drop n) = (concs ρ l).drop n := by simp [concs_map]

mutual
def AV.within (D : Nat → Prop) : AV → Prop
  | .ptr b _ | .slice b _ _ _ | .opn b _ | .tail b _ _ _ | .map b | .yield b => D b
  | .fn _ a b => AV.withins D a ∧ AV.withins D b
  | .iface _ v => AV.within D v
  | .agg cs | .tup cs => AV.withins D cs
  | _ => True
def AV.withins (D : Nat → Prop) : List AV → Prop
  | [] => True
  | v :: vs => AV.within D v ∧ AV.withins D vs
end

theorem withins_iff {D : Nat → Prop} {l : List AV} : AV.withins D l ↔ ∀ v ∈ l, v.within D := by
  induction l with
  | nil => simp [AV.withins]
  | cons v vs ih => simp [AV.withins, ih]

mutual
theorem within_mono {D D' : Nat → Prop} (h : ∀ n, D n → D' n) : ∀ v : AV, v.within D → v.within D'
  | .ptr _ _, k => h _ k
  | .slice _ _ _ _, k => h _ k
  | .opn _ _, k => h _ k
  | .tail _ _ _ _, k => h _ k
  | .map _, k => h _ k
  | .yield _, k => h _ k
  | .fn _ a b, k => ⟨withins_mono h a k.1, withins_mono h b k.2⟩
  | .iface _ v, k => within_mono h v k
  | .agg cs, k => withins_mono h cs k
  | .tup cs, k => withins_mono h cs k
  | .int _ _, _ | .bool _, _ | .str _, _ | .nilp, _ | .nils, _ | .nilm, _ | .nilf, _ | .nili, _ | .raw _, _ => trivial
theorem withins_mono {D D' : Nat → Prop} (h : ∀ n, D n → D' n) : ∀ l : List AV, AV.withins D l → AV.withins D' l
  | [], _ => trivial
  | v :: vs, k => ⟨within_mono h v k.1, withins_mono h vs k.2⟩
end

mutual
theorem conc_congr {D : Nat → Prop} {ρ ρ' : Ren} (h : ∀ n, D n → ρ' n = ρ n) : ∀ v : AV, v.within D → conc ρ' v = conc ρ v
  | .ptr b _, k => by simp [conc, h b k]
  | .slice b _ _ _, k => by simp [conc, h b k]
  | .opn b _, k => by simp [conc, h b k]
  | .tail b _ _ _, k => by simp [conc, h b k]
  | .map b, k => by simp [conc, h b k]
  | .yield b, k => by simp [conc, h b k]
  | .fn _ a b, k => by simp [conc, concs_congr h a k.1, concs_congr h b k.2]
  | .iface _ v, k => by simp [conc, conc_congr h v k]
  | .agg cs, k => by simp [conc, concs_congr h cs k]
  | .tup cs, k => by simp [conc, concs_congr h cs k]
  | .int _ _, _ | .bool _, _ | .str _, _ | .nilp, _ | .nils, _ | .nilm, _ | .nilf, _ | .nili, _ | .raw _, _ => by simp [conc]
theorem concs_congr {D : Nat → Prop} {ρ ρ' : Ren} (h : ∀ n, D n → ρ' n = ρ n) : ∀ l : List AV, AV.withins D l → concs ρ' l = concs ρ l
  | [], _ => rfl
  | v :: vs, k => by simp [concs, conc_congr h v k.1, concs_congr h vs k.2]
end

/-- The temporaries that are known. -/
def TR (D : Nat → Prop) (ρ : Ren) (T : Tr AV) (tm : Array Value) : Prop :=
  ∀ t v, T.get t = some v → t < tm.size ∧ tm.getD t undef = conc ρ v ∧ v.within D

def entry (ρ : Ren) (e : AV × AV × Nat) : MapEntry := { key := conc ρ e.1, val := conc ρ e.2.1, born := e.2.2 }

def ORel (D : Nat → Prop) (ρ : Ren) (cap : Nat) : AObj → Obj → Prop
  | .cells cs e, o => o = .cells (concs ρ cs).toArray e (0, 0) ∧ AV.withins D cs
  | .ext cs, o => ∃ e fr, o = .cells (concs ρ cs).toArray e fr ∧ AV.withins D cs
  | .opn cs e sz, o => ∃ rest : List Value, o = .cells (concs ρ cs ++ rest).toArray e (0, 0) ∧ cs.length + rest.length = cap * sz ∧ AV.withins D cs
  | .map es clock, o => o = .map (es.map (entry ρ)).toArray clock ∧ ∀ e ∈ es, e.1.within D ∧ e.2.1.within D
  | .loop st pd T ps as bd d, o => ∃ fn tm, o = .loop { state := st, pending := pd, fn, tmps := tm, params := ps.toArray, assign := as, body := bd, defers := (ρ d).1 } ∧ TR D ρ T tm ∧ D d ∧ codeOk tm.size as = true ∧ codeOk tm.size bd = true ∧ ∀ p ∈ ps, p < tm.size
  | .defd, o => o = .deferred (some [])
  | .shut, o => o = .deferred none
  | .dead, _ => True
  | .iter m since seen last, o => o = .mapIter (m.map fun k => (ρ k).1) since seen.toArray last ∧ ∀ k, m = some k → D k

theorem TR.mono {D D' : Nat → Prop} {ρ ρ' : Ren} {T : Tr AV} {tm : Array Value} (hD : ∀ n, D n → D' n) (hρ : ∀ n, D n → ρ' n = ρ n) (h : TR D ρ T tm) : TR D' ρ' T tm :=
  fun t v k => let ⟨a, b, c⟩ := h t v k; ⟨a, b.trans (conc_congr hρ v c).symm, within_mono hD v c⟩

theorem ORel.mono {D D' : Nat → Prop} {ρ ρ' : Ren} {cap : Nat} {o : AObj} {o' : Obj} (hD : ∀ n, D n → D' n) (hρ : ∀ n, D n → ρ' n = ρ n) (h : ORel D ρ cap o o') : ORel D' ρ' cap o o' := by
  cases o with
  | cells cs e => exact ⟨by rw [concs_congr hρ cs h.2]; exact h.1, withins_mono hD cs h.2⟩
  | ext cs => obtain ⟨e, fr, a, b⟩ := h; exact ⟨e, fr, by rw [concs_congr hρ cs b]; exact a, withins_mono hD cs b⟩
  | opn cs e sz => obtain ⟨rest, a, b, c⟩ := h; exact ⟨rest, by rw [concs_congr hρ cs c]; exact a, b, withins_mono hD cs c⟩
  | map es clock =>
    refine ⟨?_, fun e he => ⟨within_mono hD _ (h.2 e he).1, within_mono hD _ (h.2 e he).2⟩⟩
    rw [h.1]
    congr 2
    exact List.map_congr_left fun e he => by simp [entry, conc_congr hρ _ (h.2 e he).1, conc_congr hρ _ (h.2 e he).2]
  | loop st pd T ps as bd d => obtain ⟨fn, tm, a, b, c, k⟩ := h; exact ⟨fn, tm, by rw [hρ d c]; exact a, b.mono hD hρ, hD _ c, k⟩
  | defd => exact h
  | shut => exact h
  | dead => trivial
  | iter m since seen last =>
    refine ⟨?_, fun k e => hD k (h.2 k e)⟩
    cases m with
    | none => exact h.1
    | some k => rw [h.1]; simp [hρ k (h.2 k rfl)]

/-- A name of a block of the call's own. -/
def Own (o : Option AObj) : Prop := o ≠ some .dead ∧ ∀ cs, o ≠ some (.ext cs)
/-- What came in lies below the base, the call's own blocks from it on. -/
def Side (B k : Nat) : AObj → Prop
  | .ext _ => k < B
  | _ => B ≤ k

theorem Side.own {B k : Nat} {o : AObj} (h : Own (some o)) : Side B k o ↔ B ≤ k := by
  cases o <;> first
    | exact Iff.rfl
    | exact absurd rfl (h.2 _)

structure Sim (B : Nat) (D : Nat → Prop) (ρ : Ren) (H : Heap) (w : World) : Prop where
  live : ∀ n, D n → ∃ o, H.get n = some o ∧ (o = .dead ∨ (Side B (ρ n).1 o ∧ ∃ o', w.heap[(ρ n).1]? = some o' ∧ ORel D ρ (ρ n).2 o o'))
  inj : ∀ n m, D n → D m → Own (H.get n) → Own (H.get m) → (ρ n).1 = (ρ m).1 → n = m
  base : B ≤ w.heap.size
  fresh : ∀ n, D n → n < H.next

/-- What a step may do: the world's old blocks are kept, names are added, only blocks in D are written. -/
structure Post (B : Nat) (D : Nat → Prop) (ρ : Ren) (H : Heap) (w : World) (D' : Nat → Prop) (ρ' : Ren) (H' : Heap) (w' : World) : Prop where
  sim : Sim B D' ρ' H' w'
  ext : ∀ n, D n → D' n
  ren : ∀ n, D n → ρ' n = ρ n
  new : ∀ n, D' n → D n ∨ H.next ≤ n
  frame : ∀ n, n < H.next → ¬ D n → H'.get n = H.get n
  next : H.next ≤ H'.next
  lo : H'.lo ≤ H.lo
  low : ∀ n, n < H.next → n < H'.lo → H'.get n = H.get n
  keep : Below B w w'

theorem Post.refl {B : Nat} {D : Nat → Prop} {ρ : Ren} {H : Heap} {w : World} (h : Sim B D ρ H w) : Post B D ρ H w D ρ H w :=
  ⟨h, fun _ k => k, fun _ _ => rfl, fun _ k => .inl k, fun _ _ _ => rfl, Nat.le_refl _, Nat.le_refl _, fun _ _ _ => rfl, Below.refl _ _⟩

theorem Post.trans {B : Nat} {D D1 D2 : Nat → Prop} {ρ ρ1 ρ2 : Ren} {H H1 H2 : Heap} {w w1 w2 : World}
    (a : Post B D ρ H w D1 ρ1 H1 w1) (b : Post B D1 ρ1 H1 w1 D2 ρ2 H2 w2) : Post B D ρ H w D2 ρ2 H2 w2 where
  sim := b.sim
  ext n k := b.ext n (a.ext n k)
  ren n k := (b.ren n (a.ext n k)).trans (a.ren n k)
  new n k := (b.new n k).elim (fun k => a.new n k) (fun k => .inr (Nat.le_trans a.next k))
  frame n k d := (b.frame n (Nat.lt_of_lt_of_le k a.next) (fun k' => (a.new n k').elim d (fun k' => by omega))).trans (a.frame n k d)
  next := Nat.le_trans a.next b.next
  lo := Nat.le_trans b.lo a.lo
  low n k l := (b.low n (Nat.lt_of_lt_of_le k a.next) l).trans (a.low n k (Nat.lt_of_lt_of_le l b.lo))
  keep := a.keep.trans b.keep

/-- A draw turns nothing. -/
theorem Sim.draw {B : Nat} {D : Nat → Prop} {ρ : Ren} {H : Heap} {w w' : World} (h : Sim B D ρ H w) (e : w'.heap = w.heap) : Sim B D ρ H w' :=
  ⟨fun n k => by rw [e]; exact h.live n k, h.inj, by rw [e]; exact h.base, h.fresh⟩

theorem Post.draw {B : Nat} {D : Nat → Prop} {ρ : Ren} {H : Heap} {w : World} (h : Sim B D ρ H w) (k : Nat) : Post B D ρ H w D ρ H { w with drawn := k } :=
  ⟨h.draw rfl, fun _ k => k, fun _ _ => rfl, fun _ k => .inl k, fun _ _ _ => rfl, Nat.le_refl _, Nat.le_refl _, fun _ _ _ => rfl, ⟨rfl, rfl, rfl, Nat.le_refl _, fun _ _ => rfl⟩⟩

/-- A new block, under a name that is not in D. -/
theorem Sim.alloc {B : Nat} {D : Nat → Prop} {ρ : Ren} {H H' : Heap} {w w' : World} (h : Sim B D ρ H w) (N cap : Nat) (o : AObj) (o' : Obj)
    (hN : ¬ D N) (hn : N < H'.next) (hx : H.next ≤ H'.next) (hg : H'.get N = some o) (hk : ∀ n, D n → H'.get n = H.get n) (ho : ORel D ρ cap o o')
    (hw : w'.heap = w.heap.push o') (hown : Own (some o)) :
    Sim B (fun n => D n ∨ n = N) (fun n => if n = N then (w.heap.size, cap) else ρ n) H' w' := by
  have hne : ∀ n, D n → n ≠ N := fun n k e => hN (e ▸ k)
  have hren : ∀ n, D n → (fun n => if n = N then (w.heap.size, cap) else ρ n) n = ρ n := fun n k => by simp [hne n k]
  have hlt : ∀ n o, D n → H.get n = some o → o ≠ .dead → (ρ n).1 < w.heap.size := by
    intro n o k e d
    obtain ⟨o1, h1, h2⟩ := h.live n k
    rw [e] at h1; cases h1
    rcases h2 with h2 | ⟨_, o', h2, _⟩
    · exact absurd h2 d
    · exact (Array.getElem?_eq_some_iff.1 h2).1
  refine ⟨?_, ?_, ?_, ?_⟩
  · rintro n (k | rfl)
    · obtain ⟨o1, h1, h2⟩ := h.live n k
      refine ⟨o1, (hk n k).trans h1, ?_⟩
      rcases h2 with h2 | ⟨hb, o2, h2, h3⟩
      · exact .inl h2
      · refine .inr ⟨?_, o2, ?_, ?_⟩
        · simpa [hne n k] using hb
        · simp only [hne n k, if_false, hw]
          have := (Array.getElem?_eq_some_iff.1 h2).1
          rw [Array.getElem?_push_lt this]
          rw [← h2]; simp [this]
        · simp only [hne n k, if_false]
          exact h3.mono (fun n k => .inl k) hren
    · refine ⟨o, hg, .inr ⟨?_, o', ?_, ?_⟩⟩
      · rw [Side.own hown]; simpa using h.base
      · simp [hw]
      · simpa using ho.mono (fun n k => .inl k) hren
  · rintro n m (k | rfl) (k' | rfl) d d' e
    · simp only [hne n k, hne m k', if_false] at e
      exact h.inj n m k k' (by rw [← hk n k]; exact d) (by rw [← hk m k']; exact d') e
    · obtain ⟨o1, h1, _⟩ := h.live n k
      have := hlt n o1 k h1 (fun e => d.1 (by rw [hk n k, h1, e]))
      simp only [hne n k, if_false, if_true] at e
      omega
    · obtain ⟨o1, h1, _⟩ := h.live m k'
      have := hlt m o1 k' h1 (fun e => d'.1 (by rw [hk m k', h1, e]))
      simp only [hne m k', if_false, if_true] at e
      omega
    · rfl
  · rw [hw]; simp; exact Nat.le_succ_of_le h.base
  · rintro n (k | rfl)
    · exact Nat.lt_of_lt_of_le (h.fresh n k) hx
    · exact hn

/-- A block in D gets other contents. -/
theorem Sim.write {B : Nat} {D : Nat → Prop} {ρ : Ren} {H H' : Heap} {w w' : World} (h : Sim B D ρ H w) (b : Nat) (hb : D b) (hlive : Own (H.get b)) (o : AObj) (o' : Obj)
    (hg : H'.get b = some o) (hk : ∀ n, n ≠ b → H'.get n = H.get n) (hx : H'.next = H.next) (ho : ORel D ρ (ρ b).2 o o') (hd : Own (some o))
    (hw : ∀ k : Nat, w'.heap[k]? = if k = (ρ b).1 then some o' else w.heap[k]?) : Sim B D ρ H' w' := by
  obtain ⟨o0, g0, l0⟩ := h.live b hb
  have l1 : B ≤ (ρ b).1 ∧ ∃ o', w.heap[(ρ b).1]? = some o' ∧ ORel D ρ (ρ b).2 o0 o' := by
    rcases l0 with rfl | l
    · exact absurd g0 hlive.1
    · rw [g0] at hlive; rw [Side.own hlive] at l; exact l
  have hsz : w'.heap.size = w.heap.size := by
    have lt := (Array.getElem?_eq_some_iff.1 l1.2.choose_spec.1).1
    have a := hw w.heap.size
    have c := hw w'.heap.size
    rcases Nat.lt_trichotomy w'.heap.size w.heap.size with q | q | q
    · rw [Array.getElem?_eq_none (by omega)] at c
      by_cases e : w'.heap.size = (ρ b).1
      · simp [e] at c
      · simp only [e, if_false] at c
        rw [Array.getElem?_eq_getElem q] at c; cases c
    · exact q
    · rw [Array.getElem?_eq_getElem q] at a
      have : w.heap.size ≠ (ρ b).1 := by omega
      simp [this] at a
  refine ⟨?_, ?_, by rw [hsz]; exact h.base, fun n k => by rw [hx]; exact h.fresh n k⟩
  · intro n k
    by_cases e : n = b
    · subst e
      exact ⟨o, hg, .inr ⟨(Side.own hd).2 l1.1, o', by rw [hw]; simp, ho⟩⟩
    · obtain ⟨o1, h1, h2⟩ := h.live n k
      refine ⟨o1, (hk n e).trans h1, ?_⟩
      rcases h2 with h2 | ⟨hb', o2, h2, h3⟩
      · exact .inl h2
      · by_cases ed : o1 = .dead
        · exact .inl ed
        · refine .inr ⟨hb', o2, ?_, h3⟩
          rw [hw, if_neg, h2]
          intro eq
          by_cases ex : ∃ cs, o1 = .ext cs
          · obtain ⟨cs, rfl⟩ := ex
            have := l1.1
            rw [← eq] at this
            exact absurd hb' (Nat.not_lt.2 this)
          · exact e (h.inj n b k hb (by rw [h1]; exact ⟨by simpa using ed, fun cs q => ex ⟨cs, by simpa using q⟩⟩) hlive eq)
  · intro n m k k' d d' e
    have dd : ∀ n, Own (H'.get n) → Own (H.get n) := fun n q => by
      by_cases e : n = b
      · subst e; exact hlive
      · rwa [hk n e] at q
    exact h.inj n m k k' (dd n d) (dd m d') e
end Go.Ev

