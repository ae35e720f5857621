/-
  Maps whose keys are told apart by a type of their own, and ranges that a loop may leave.
-/
import Derived.Test.YtibplmibcbillaaEvX3
set_option linter.unusedSimpArgs false
set_option linter.unusedVariables false
namespace Go.Ev
open Go.RowKit
noncomputable section
variable {P : Program} {rec : Rec} {ro : Option Nat}

theorem storeAt_opn {H : Heap} {t : TypeId} {b off n sz : Nat} {v : AV} {ag : Bool} {cs l : List AV} {e : TypeId} (hs : shape P t = some (ag, n)) (hb : H.get b = some (.opn cs e sz)) (hn : Nat.beq v.cells.length n = true) (hat : atoms v.cells = true)
    (hl : spl cs off v.cells = some l) : storeAt P H t b off v = some (H.put b (.opn l e sz)) := by
  unfold shape at hs
  simp only [Option.map_eq_some_iff, Prod.mk.injEq] at hs
  obtain ⟨ti, h1, h2, h3⟩ := hs
  unfold storeAt
  rw [h1, hb]
  dsimp only
  rw [h3, hn, hat]
  dsimp only
  rw [hl]
  rfl
/-- Of a map's type: the key's type, and what stands where there is nothing. -/
def mapTy (P : Program) (t : TypeId) : Option (TypeId × AV) := match mkTI P t with
  | some { d := .map kt e, .. } => (zeroV P e).map fun z => (kt, z)
  | _ => none

theorem mapTy_eq {t kt : TypeId} {z : AV} (h : mapTy P t = some (kt, z)) : ∃ a s b zz e, mkTI P t = some ⟨a, s, b, zz, .map kt e⟩ ∧ zeroV P e = some z := by
  unfold mapTy at h
  split at h
  · rename_i a s b zz kt' e hm
    cases hz : zeroV P e with
    | none => rw [hz] at h; cases h
    | some z' => rw [hz] at h; cases h; exact ⟨a, s, b, zz, e, hm, hz⟩
  · cases h

/-- Keys that the model tells apart as a type does. -/
structure Keys (P : Program) (kt : TypeId) {κ : Type} [DecidableEq κ] (enc : κ → AV) : Prop where
  eq : ∀ a b, eqT P 8 kt (enc a) (enc b) = some (decide (a = b))
  chk : ∀ a, chkT P 8 kt (enc a) = true
  same : ∀ a, sameKey (enc a) (enc a) = true

section
variable {κ : Type} {enc : κ → AV}
def entries (enc : κ → AV) (l : List (κ × AV × Nat)) : List (AV × AV × Nat) := l.map fun e => (enc e.1, e.2.1, e.2.2)
theorem setV_at (k : κ) (v w : AV) (n : Nat) (l2 : List (κ × AV × Nat)) : ∀ l1 : List (κ × AV × Nat), setV (entries enc (l1 ++ (k, v, n) :: l2)) l1.length (enc k) w = entries enc (l1 ++ (k, w, n) :: l2)
  | [] => rfl
  | e :: l => by
    show (enc e.1, e.2.1, e.2.2) :: setV (entries enc (l ++ (k, v, n) :: l2)) l.length (enc k) w = _
    rw [setV_at k v w n l2 l]
    rfl
theorem bornAt_at (k : κ) (v w : AV) (n : Nat) (l2 : List (κ × AV × Nat)) : ∀ l1 : List (κ × AV × Nat), (∀ e ∈ l1, e.2.2 ≠ n) → bornAt (entries enc (l1 ++ (k, v, n) :: l2)) n w = some (entries enc (l1 ++ (k, w, n) :: l2))
  | [], _ => by
    show (match Nat.beq n n with
      | true => some ((enc k, w, n) :: entries enc l2)
      | false => _) = _
    rw [Nat.beq_refl]
    rfl
  | e :: l, h => by
    show (match Nat.beq e.2.2 n with
      | true => _
      | false => (bornAt (entries enc (l ++ (k, v, n) :: l2)) n w).map ((enc e.1, e.2.1, e.2.2) :: ·)) = _
    rw [show Nat.beq e.2.2 n = false from by
      cases hb : Nat.beq e.2.2 n with
      | false => rfl
      | true => exact absurd (Nat.eq_of_beq_eq_true hb) (h e (by simp)), bornAt_at k v w n l2 l fun e he => h e (by simp [he])]
    rfl
theorem before_ne {l1 l2 : List (κ × AV × Nat)} {k : κ} {v : AV} {n : Nat} (h : ((l1 ++ (k, v, n) :: l2).map (·.1)).Nodup) : ∀ e ∈ l1, e.1 ≠ k := by
  intro e he q
  rw [List.map_append, List.nodup_append] at h
  exact h.2.2 e.1 (List.mem_map_of_mem he) k (by simp) q
theorem before_born {l1 l2 : List (κ × AV × Nat)} {k : κ} {v : AV} {n : Nat} (h : ((l1 ++ (k, v, n) :: l2).map (·.2.2)).Nodup) : ∀ e ∈ l1, e.2.2 ≠ n := by
  intro e he q
  rw [List.map_append, List.nodup_append] at h
  exact h.2.2 e.2.2 (List.mem_map_of_mem (f := fun e : κ × AV × Nat => e.2.2) he) n (by simp) q
end

section
variable {κ : Type} [DecidableEq κ] {enc : κ → AV} {kt : TypeId}


def lookE : List (κ × AV × Nat) → κ → Option AV
  | [], _ => none
  | e :: l, k => if k = e.1 then some e.2.1 else lookE l k

theorem lookE_none {l : List (κ × AV × Nat)} {k : κ} (h : ∀ e ∈ l, e.1 ≠ k) : lookE l k = none := by
  induction l with
  | nil => rfl
  | cons e l ih => rw [lookE, if_neg (fun q => h e (by simp) q.symm)]; exact ih fun e he => h e (by simp [he])

theorem lookE_split {l : List (κ × AV × Nat)} {k : κ} : (∀ e ∈ l, e.1 ≠ k) ∨ ∃ l1 v n l2, l = l1 ++ (k, v, n) :: l2 ∧ ∀ e ∈ l1, e.1 ≠ k := by
  induction l with
  | nil => exact .inl nofun
  | cons e l ih =>
    by_cases he : e.1 = k
    · obtain ⟨a, v, n⟩ := e
      dsimp only at he
      subst he
      exact .inr ⟨[], v, n, l, rfl, nofun⟩
    · rcases ih with h | ⟨l1, v, n, l2, rfl, h⟩
      · refine .inl fun x hx => ?_
        rcases List.mem_cons.1 hx with rfl | hx
        · exact he
        · exact h x hx
      · refine .inr ⟨e :: l1, v, n, l2, rfl, fun x hx => ?_⟩
        rcases List.mem_cons.1 hx with rfl | hx
        · exact he
        · exact h x hx

theorem lookE_at {l1 l2 : List (κ × AV × Nat)} {k : κ} {v : AV} {n : Nat} (h : ∀ e ∈ l1, e.1 ≠ k) : lookE (l1 ++ (k, v, n) :: l2) k = some v := by
  induction l1 with
  | nil => rw [List.nil_append, lookE, if_pos rfl]
  | cons e l ih => rw [List.cons_append, lookE, if_neg (fun q => h e (by simp) q.symm)]; exact ih fun e he => h e (by simp [he])

theorem lookE_other {l1 l2 : List (κ × AV × Nat)} {k k' : κ} {v w : AV} {n : Nat} (hk : k' ≠ k) : lookE (l1 ++ (k, v, n) :: l2) k' = lookE (l1 ++ (k, w, n) :: l2) k' := by
  induction l1 with
  | nil => rw [List.nil_append, lookE, if_neg hk, List.nil_append, lookE, if_neg hk]
  | cons e l ih => rw [List.cons_append, lookE, ih, List.cons_append, lookE]

theorem lookE_snoc {l : List (κ × AV × Nat)} {k k' : κ} {v : AV} {n : Nat} (h : ∀ e ∈ l, e.1 ≠ k) : lookE (l ++ [(k, v, n)]) k' = if k' = k then some v else lookE l k' := by
  induction l with
  | nil => rfl
  | cons e l ih =>
    rw [List.cons_append, lookE, ih (fun e he => h e (by simp [he])), lookE]
    by_cases h1 : k' = e.1
    · rw [if_pos h1, if_neg (fun q => h e (by simp) (by rw [← h1, q])), if_pos h1]
    · rw [if_neg h1]
      by_cases h2 : k' = k
      · rw [if_pos h2, if_pos h2]
      · rw [if_neg h2, if_neg h2, if_neg h1]

theorem findK_none (hk : Keys P kt enc) {k : κ} : ∀ (l : List (κ × AV × Nat)) (i : Nat), (∀ e ∈ l, e.1 ≠ k) → findK P kt (enc k) (entries enc l) i = some none
  | [], _, _ => rfl
  | e :: l, i, h => by
    show (match eqT P 8 kt (enc k) (enc e.1) with
      | some true => _
      | some false => findK P kt (enc k) (entries enc l) (i + 1)
      | none => none) = _
    rw [hk.eq, decide_eq_false (fun q => h e (by simp) q.symm)]
    exact findK_none hk l (i + 1) fun e he => h e (by simp [he])

theorem findK_at (hk : Keys P kt enc) {k : κ} {v : AV} {n : Nat} {l2 : List (κ × AV × Nat)} : ∀ (l1 : List (κ × AV × Nat)) (i : Nat), (∀ e ∈ l1, e.1 ≠ k) → findK P kt (enc k) (entries enc (l1 ++ (k, v, n) :: l2)) i = some (some (i + l1.length, v, n))
  | [], i, _ => by
    show (match eqT P 8 kt (enc k) (enc k) with
      | some true => some (some (i, v, n))
      | some false => findK P kt (enc k) (entries enc l2) (i + 1)
      | none => none) = _
    rw [hk.eq, decide_eq_true rfl]
    rfl
  | e :: l, i, h => by
    show (match eqT P 8 kt (enc k) (enc e.1) with
      | some true => _
      | some false => findK P kt (enc k) (entries enc (l ++ (k, v, n) :: l2)) (i + 1)
      | none => none) = _
    rw [hk.eq, decide_eq_false (fun q => h e (by simp) q.symm)]
    dsimp only
    rw [findK_at hk l (i + 1) fun e he => h e (by simp [he])]
    congr 3
    simp only [List.length_cons]; omega

theorem keyAt_at (hk : Keys P kt enc) (k : κ) (v : AV) (n : Nat) (l2 l1 : List (κ × AV × Nat)) : keyAt (entries enc (l1 ++ (k, v, n) :: l2)) l1.length (enc k) = true := by
  unfold keyAt entries
  rw [List.map_append, List.getElem?_append_right (by simp)]
  simp [hk.same]

/-- What a map holds. -/
def MapO (o : AObj) (enc : κ → AV) (f : κ → Option AV) : Prop :=
  ∃ l c, o = .map (entries enc l) c ∧ (l.map (·.1)).Nodup ∧ (l.map (·.2.2)).Nodup ∧ (∀ e ∈ l, e.2.2 < c) ∧ ∀ k, lookE l k = f k

/-- A key's number in a map. -/
def SlotO (o : AObj) (enc : κ → AV) (f : κ → Option AV) (k : κ) (n : Nat) : Prop :=
  ∃ l1 v l2 c, o = .map (entries enc (l1 ++ (k, v, n) :: l2)) c ∧ ((l1 ++ (k, v, n) :: l2).map (·.1)).Nodup ∧ ((l1 ++ (k, v, n) :: l2).map (·.2.2)).Nodup ∧ (∀ e ∈ l1 ++ (k, v, n) :: l2, e.2.2 < c) ∧ ∀ k', lookE (l1 ++ (k, v, n) :: l2) k' = f k'

def updK (f : κ → Option AV) (k : κ) (v : AV) : κ → Option AV := fun k' => if k' = k then some v else f k'

theorem SlotO.map {o : AObj} {f : κ → Option AV} {k : κ} {n : Nat} (h : SlotO o enc f k n) : MapO o enc f := let ⟨l1, v, l2, c, h1, h2, h3, h4, h5⟩ := h; ⟨_, c, h1, h2, h3, h4, h5⟩

theorem MapO.nil : MapO (.map [] 0) enc (fun _ => none) := ⟨[], 0, rfl, .nil, .nil, nofun, fun _ => rfl⟩
theorem MapO.congr {o : AObj} {f g : κ → Option AV} (h : MapO o enc f) (e : ∀ k, f k = g k) : MapO o enc g := by rw [← funext e]; exact h

theorem SlotO.set {l1 l2 : List (κ × AV × Nat)} {k : κ} {v w : AV} {n c : Nat} {f : κ → Option AV} (h2 : ((l1 ++ (k, v, n) :: l2).map (·.1)).Nodup) (h3 : ((l1 ++ (k, v, n) :: l2).map (·.2.2)).Nodup) (h4 : ∀ e ∈ l1 ++ (k, v, n) :: l2, e.2.2 < c)
    (h5 : ∀ k', lookE (l1 ++ (k, v, n) :: l2) k' = f k') : SlotO (.map (entries enc (l1 ++ (k, w, n) :: l2)) c) enc (updK f k w) k n := by
  refine ⟨l1, w, l2, c, rfl, by simpa using h2, by simpa using h3, fun e he => ?_, fun k' => ?_⟩
  · rcases List.mem_append.1 he with he | he
    · exact h4 e (by simp [he])
    · rcases List.mem_cons.1 he with rfl | he
      · exact h4 (k, v, n) (by simp)
      · exact h4 e (by simp [he])
  · unfold updK
    by_cases hk : k' = k
    · subst hk; rw [if_pos rfl]; exact lookE_at (before_ne h2)
    · rw [if_neg hk, ← h5 k']; exact lookE_other hk

theorem SlotO.snoc {l : List (κ × AV × Nat)} {k : κ} {w : AV} {c : Nat} {f : κ → Option AV} (hn : ∀ e ∈ l, e.1 ≠ k) (h2 : (l.map (·.1)).Nodup) (h3 : (l.map (·.2.2)).Nodup) (h4 : ∀ e ∈ l, e.2.2 < c) (h5 : ∀ k', lookE l k' = f k') :
    SlotO (.map (entries enc l ++ [(enc k, w, c)]) (c + 1)) enc (updK f k w) k c := by
  refine ⟨l, w, [], c + 1, by unfold entries; rw [List.map_append]; rfl, ?_, ?_, fun e he => ?_, fun k' => ?_⟩
  · rw [List.map_append, List.nodup_append]
    refine ⟨h2, by simp, fun a ha b hb q => ?_⟩
    obtain ⟨e, he, rfl⟩ := List.mem_map.1 ha
    simp at hb
    exact hn e he (q.trans hb)
  · rw [List.map_append, List.nodup_append]
    refine ⟨h3, by simp, fun a ha b hb q => ?_⟩
    obtain ⟨e, he, rfl⟩ := List.mem_map.1 ha
    simp at hb
    have := h4 e he
    omega
  · rcases List.mem_append.1 he with he | he
    · have := h4 e he; omega
    · simp at he; subst he; exact Nat.lt_succ_self _
  · rw [lookE_snoc hn, h5]; rfl

/-! ### The operations -/
theorem evLookup_of {T : Tr AV} {H : Heap} {t : TypeId} {x y : Operand} {ok : Bool} {z : AV} {b : Nat} {o : AObj} {f : κ → Option AV} (key : κ) (ht : mapTy P t = some (kt, z)) (hk : Keys P kt enc) (hx : opd T x = some (.map b)) (hy : opd T y = some (enc key))
    (hb : H.get b = some o) (ho : MapO o enc f) : evLookup P T H t x y ok = some (.val (match f key with
      | some v => (match ok with | true => .tup [v, .bool true] | false => v)
      | none => (match ok with | true => .tup [z, .bool false] | false => z)) H) := by
  obtain ⟨a, s, by_, zz, e, h1, h2⟩ := mapTy_eq ht
  obtain ⟨l, c, rfl, hn, hbn, hc, hf⟩ := ho
  unfold evLookup
  rw [h1, hx, hy]
  dsimp only
  rw [show mapOf H (.map b) = some (entries enc l) from by (unfold mapOf; dsimp only; rw [hb]), h2, hk.chk]
  dsimp only
  rcases lookE_split (l := l) (k := key) with h | ⟨l1, v, n, l2, rfl, h⟩
  · rw [findK_none hk _ _ h, ← hf key, lookE_none h]
    cases ok <;> rfl
  · rw [findK_at hk _ _ h, ← hf key, lookE_at h]
    cases ok <;> rfl

theorem evLookup_val {T : Tr AV} {H : Heap} {t : TypeId} {x y : Operand} {ok : Bool} {z v : AV} {b : Nat} {o : AObj} {f : κ → Option AV} (key : κ) (ht : mapTy P t = some (kt, z)) (hk : Keys P kt enc) (hx : opd T x = some (.map b)) (hy : opd T y = some (enc key))
    (hb : H.get b = some o) (ho : MapO o enc f) (hv : (match f key with
      | some v => (match ok with | true => AV.tup [v, .bool true] | false => v)
      | none => (match ok with | true => .tup [z, .bool false] | false => z)) = v) : evLookup P T H t x y ok = some (.val v H) := by rw [evLookup_of key ht hk hx hy hb ho, hv]

theorem evMapUpdate_of {T : Tr AV} {H : Heap} {t : TypeId} {x y w : Operand} {z v : AV} {b : Nat} {o : AObj} {f : κ → Option AV} (key : κ) (ht : mapTy P t = some (kt, z)) (hk : Keys P kt enc) (hx : opd T x = some (.map b)) (hy : opd T y = some (enc key)) (hw : opd T w = some v)
    (hb : H.get b = some o) (ho : MapO o enc f) : ∃ o', evMapUpdate P T H t x y w = some (.unit (H.put b o')) ∧ MapO o' enc (updK f key v) := by
  obtain ⟨a, s, by_, zz, e, h1, h2⟩ := mapTy_eq ht
  obtain ⟨l, c, rfl, hn, hbn, hc, hf⟩ := ho
  unfold evMapUpdate
  rw [h1, hx, hy, hw]
  dsimp only
  rw [hb, hk.chk]
  dsimp only
  rcases lookE_split (l := l) (k := key) with h | ⟨l1, v0, n, l2, rfl, h⟩
  · rw [findK_none hk _ _ h]
    exact ⟨_, rfl, (SlotO.snoc h hn hbn hc hf).map⟩
  · rw [findK_at hk _ _ h]
    dsimp only
    rw [Nat.zero_add, keyAt_at hk]
    dsimp only
    rw [setV_at]
    exact ⟨_, rfl, (SlotO.set hn hbn hc hf).map⟩

theorem evMapEntry_of {T : Tr AV} {H : Heap} {t : TypeId} {x y : Operand} {z : AV} {b : Nat} {o : AObj} {f : κ → Option AV} (key : κ) (ht : mapTy P t = some (kt, z)) (hk : Keys P kt enc) (hx : opd T x = some (.map b)) (hy : opd T y = some (enc key))
    (hb : H.get b = some o) (ho : MapO o enc f) : ∃ o' n, evMapEntry P T H t x y = some (.val (.tup [(f key).getD z, .int .i64 (n : Nat)]) (H.put b o')) ∧ SlotO o' enc (updK f key ((f key).getD z)) key n := by
  obtain ⟨a, s, by_, zz, e, h1, h2⟩ := mapTy_eq ht
  obtain ⟨l, c, rfl, hn, hbn, hc, hf⟩ := ho
  unfold evMapEntry
  rw [h1, hx, hy]
  dsimp only
  rw [hb, h2, hk.chk]
  dsimp only
  rcases lookE_split (l := l) (k := key) with h | ⟨l1, v0, n, l2, rfl, h⟩
  · rw [findK_none hk _ _ h, show f key = none from by rw [← hf, lookE_none h]]
    exact ⟨_, c, rfl, SlotO.snoc h hn hbn hc hf⟩
  · rw [findK_at hk _ _ h, show f key = some v0 from by rw [← hf, lookE_at h]]
    dsimp only
    rw [Nat.zero_add, keyAt_at hk]
    dsimp only
    rw [setV_at]
    exact ⟨_, n, rfl, SlotO.set hn hbn hc hf⟩

theorem evEntryStore_of {T : Tr AV} {H : Heap} {x y w : Operand} {v : AV} {b n : Nat} {o : AObj} {f : κ → Option AV} {key : κ} {k : IntKind} (hx : opd T x = some (.map b)) (hy : opd T y = some (.int k (n : Nat))) (hw : opd T w = some v)
    (hb : H.get b = some o) (ho : SlotO o enc f key n) : ∃ o', evEntryStore T H x y w = some (.unit (H.put b o')) ∧ MapO o' enc (updK f key v) := by
  obtain ⟨l1, v0, l2, c, rfl, hn, hbn, hc, hf⟩ := ho
  unfold evEntryStore
  rw [hx, hy, hw]
  show ∃ o', (match H.get b with
    | some (.map es clock) => (bornAt es n v).map fun es' => Out.unit (H.put b (.map es' clock))
    | _ => none) = _ ∧ _
  rw [hb]
  dsimp only
  rw [bornAt_at _ _ _ _ _ _ (before_born hbn)]
  exact ⟨_, rfl, (SlotO.set hn hbn hc hf).map⟩

theorem OkO.makeMap {ops : Array Oper} {d : Option Tmp} {t : TypeId} {ps : String} {e : Array Edge} {g : Option (Nat × Bool)} {l : List Oper} {T : Tr AV} {H : Heap} {K : Tr AV → Heap → Prop} {ty : TypeId} (hg : wantedA ops g T = some true) (h : OkO P rec ops l (putD T d (.map H.next)) (H.new (.map [] 0)) K) :
    OkO P rec ops (⟨d, .makeMap ty none, t, ps, e, g⟩ :: l) T H K := OkO.val hg rfl h
theorem OkO.lookup {ops : Array Oper} {d : Option Tmp} {t : TypeId} {ps : String} {e : Array Edge} {g : Option (Nat × Bool)} {l : List Oper} {T : Tr AV} {H : Heap} {K : Tr AV → Heap → Prop} {ty : TypeId} {x y : Operand} {ok : Bool} {z : AV} {b : Nat} {o : AObj} {f : κ → Option AV} (key : κ) (v : AV) (hg : wantedA ops g T = some true)
    (ht : mapTy P ty = some (kt, z)) (hk : Keys P kt enc) (hx : opd T x = some (.map b)) (hy : opd T y = some (enc key)) (hb : H.get b = some o) (ho : MapO o enc f)
    (hv : (match f key with
      | some v => (match ok with | true => AV.tup [v, .bool true] | false => v)
      | none => (match ok with | true => .tup [z, .bool false] | false => z)) = v) (h : OkO P rec ops l (putD T d v) H K) : OkO P rec ops (⟨d, .lookup ty x y ok, t, ps, e, g⟩ :: l) T H K :=
  OkO.val hg (show evLookup P T H ty x y ok = _ by rw [evLookup_of key ht hk hx hy hb ho, hv]) h
theorem OkO.mapUpdate {ops : Array Oper} {d : Option Tmp} {t : TypeId} {ps : String} {e : Array Edge} {g : Option (Nat × Bool)} {l : List Oper} {T : Tr AV} {H : Heap} {K : Tr AV → Heap → Prop} {ty : TypeId} {x y w : Operand} {z v : AV} {b : Nat} {o : AObj} {f : κ → Option AV} (key : κ) (hg : wantedA ops g T = some true)
    (ht : mapTy P ty = some (kt, z)) (hk : Keys P kt enc) (hx : opd T x = some (.map b)) (hy : opd T y = some (enc key)) (hw : opd T w = some v) (hb : H.get b = some o) (ho : MapO o enc f)
    (h : ∀ o', MapO o' enc (updK f key v) → OkO P rec ops l (putD T d undefA) (H.put b o') K) : OkO P rec ops (⟨d, .mapUpdate ty x y w, t, ps, e, g⟩ :: l) T H K := by
  obtain ⟨o', h1, h2⟩ := evMapUpdate_of key ht hk hx hy hw hb ho
  exact OkO.unit hg (show evMapUpdate P T H ty x y w = _ from h1) (h o' h2)
theorem OkO.mapEntry {ops : Array Oper} {d : Option Tmp} {t : TypeId} {ps : String} {e : Array Edge} {g : Option (Nat × Bool)} {l : List Oper} {T : Tr AV} {H : Heap} {K : Tr AV → Heap → Prop} {ty : TypeId} {x y : Operand} {z : AV} {b : Nat} {o : AObj} {f : κ → Option AV} (key : κ) (hg : wantedA ops g T = some true)
    (ht : mapTy P ty = some (kt, z)) (hk : Keys P kt enc) (hx : opd T x = some (.map b)) (hy : opd T y = some (enc key)) (hb : H.get b = some o) (ho : MapO o enc f)
    (h : ∀ o' n, SlotO o' enc (updK f key ((f key).getD z)) key n → OkO P rec ops l (putD T d (.tup [(f key).getD z, .int .i64 (n : Nat)])) (H.put b o') K) : OkO P rec ops (⟨d, .mapEntry ty x y, t, ps, e, g⟩ :: l) T H K := by
  obtain ⟨o', n, h1, h2⟩ := evMapEntry_of key ht hk hx hy hb ho
  exact OkO.val hg (show evMapEntry P T H ty x y = _ from h1) (h o' n h2)
theorem OkO.entryStore {ops : Array Oper} {d : Option Tmp} {t : TypeId} {ps : String} {e : Array Edge} {g : Option (Nat × Bool)} {l : List Oper} {T : Tr AV} {H : Heap} {K : Tr AV → Heap → Prop} {ty : TypeId} {x y w : Operand} {v : AV} {b n : Nat} {o : AObj} {f : κ → Option AV} {key : κ} {k : IntKind} (hg : wantedA ops g T = some true)
    (hx : opd T x = some (.map b)) (hy : opd T y = some (.int k (n : Nat))) (hw : opd T w = some v) (hb : H.get b = some o) (ho : SlotO o enc f key n)
    (h : ∀ o', MapO o' enc (updK f key v) → OkO P rec ops l (putD T d undefA) (H.put b o') K) : OkO P rec ops (⟨d, .entryStore ty x y w, t, ps, e, g⟩ :: l) T H K := by
  obtain ⟨o', h1, h2⟩ := evEntryStore_of hx hy hw hb ho
  exact OkO.unit hg (show evEntryStore T H x y w = _ from h1) (h o' h2)
end

theorem OkO.nilCheck {ops : Array Oper} {d : Option Tmp} {t : TypeId} {ps : String} {e : Array Edge} {g : Option (Nat × Bool)} {l : List Oper} {T : Tr AV} {H : Heap} {K : Tr AV → Heap → Prop} {x : Operand} {b off : Nat} (hg : wantedA ops g T = some true) (hx : opd T x = some (.ptr b off)) (h : OkO P rec ops l (putD T d (.ptr b off)) H K) :
    OkO P rec ops (⟨d, .nilCheck x, t, ps, e, g⟩ :: l) T H K :=
  OkO.val hg (show evNil T H x = some (.val (.ptr b off) H) by unfold evNil; rw [hx]) h
/-! ### Ranges over functions that may be left -/
end
end Go.Ev

