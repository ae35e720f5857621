/-
  What lies in a world when a call begins, as a heap of names: each block by its own number, to be read.
-/
import Derived.Test.YtibplmibcbillaaEvX2
import Derived.ChangeArms
namespace Go.Ev
open Go.RowKit
noncomputable section

def toAV (n : Nat) : Value → AV
  | .int k m => .int k m
  | .bool b => .bool b
  | .string s => .str s
  | .pointer none => .nilp
  | .slice none 0 0 => .nils
  | .slice (some ⟨b, off, none⟩) len cap => if b < n then .slice b off len cap else .raw (.slice (some ⟨b, off, none⟩) len cap)
  | .map none => .nilm
  | .nilFunc => .nilf
  | .nilIface => .nili
  | v => .raw v

def idR : Ren := fun b => (b, 0)

theorem toAV_conc (n : Nat) (v : Value) : conc idR (toAV n v) = v := by
  unfold toAV
  split <;> (try split) <;> simp [conc, idR]

theorem toAV_within (n : Nat) (v : Value) : (toAV n v).within (fun b => b < n) := by
  unfold toAV
  split <;> (try split) <;> first
    | trivial
    | assumption

def toAVs (n : Nat) (vs : List Value) : List AV := vs.map (toAV n)
theorem toAVs_concs (n : Nat) (vs : List Value) : concs idR (toAVs n vs) = vs := by
  rw [concs_map, toAVs, List.map_map]
  have : (conc idR ∘ toAV n) = id := by funext v; exact toAV_conc n v
  rw [this]; simp
theorem toAVs_within (n : Nat) (vs : List Value) : AV.withins (fun b => b < n) (toAVs n vs) := withins_iff.2 fun v hv => by
  simp only [toAVs, List.mem_map] at hv
  obtain ⟨x, _, rfl⟩ := hv
  exact toAV_within n x

/-- An argument: a struct's cells one by one. -/
def argAV (n : Nat) : Value → AV
  | .agg cs => .agg (toAVs n cs.toList)
  | v => toAV n v

theorem argAV_conc (n : Nat) (v : Value) : conc idR (argAV n v) = v := by
  unfold argAV
  split
  · simp [conc, toAVs_concs]
  · exact toAV_conc n v

theorem argAV_within (n : Nat) (v : Value) : (argAV n v).within (fun b => b < n) := by
  unfold argAV
  split
  · exact toAVs_within n _
  · exact toAV_within n v

def snapO (w : World) (b : Nat) : AObj := match w.heap[b]? with
  | some (.cells c _ _) => .ext (toAVs w.heap.size c.toList)
  | _ => .dead

theorem treeOf (f : Nat → AObj) : ∀ n, ∃ t : Tr AObj, ∀ b, b < n → t.look (pos b) = some (f b) := by
  intro n
  induction n with
  | zero => exact ⟨.nil, fun b h => by omega⟩
  | succ n ih =>
    obtain ⟨t, ht⟩ := ih
    refine ⟨Tr.lay (f n) t (pos n), fun b h => ?_⟩
    rw [look_lay]
    by_cases e : b = n
    · subst e; simp
    · rw [if_neg (fun k => e (pos_inj k))]; exact ht b (by omega)

structure Snap (w : World) (H : Heap) : Prop where
  next : H.next = w.heap.size
  lo : H.lo = w.heap.size
  get : ∀ b, b < w.heap.size → H.get b = some (snapO w b)

theorem snap_exists (w : World) : ∃ H, Snap w H := by
  obtain ⟨t, ht⟩ := treeOf (snapO w) w.heap.size
  exact ⟨⟨t, w.heap.size, w.heap.size⟩, rfl, rfl, ht⟩

theorem Snap.sim {w : World} {H : Heap} (h : Snap w H) : Sim w.heap.size (fun b => b < w.heap.size) idR H w := by
  refine ⟨fun b hb => ⟨snapO w b, h.get b hb, ?_⟩, fun n m hn hm k _ _ => ?_, Nat.le_refl _, fun n hn => by rw [h.next]; exact hn⟩
  · cases ho : w.heap[b]? with
    | none =>
      rw [Array.getElem?_eq_getElem hb] at ho; cases ho
    | some o =>
      unfold snapO
      rw [ho]
      cases o with
      | cells c e fr => exact .inr ⟨hb, _, ho, e, fr, by rw [toAVs_concs], toAVs_within _ _⟩
      | _ => exact .inl rfl
  · rw [h.get n hn] at k
    unfold snapO at k
    split at k
    · exact absurd rfl (k.2 _)
    · exact absurd rfl k.1

/-- A run of cells of the world, at its name. -/
theorem Snap.cells {w : World} {H : Heap} (h : Snap w H) {base b off n : Nat} {l : List Value} (hc : w.cells? base ⟨b, off, none⟩ n = some l) (hn : 0 < n) :
    ∃ cs, (H.get b).bind AObj.cs = some cs ∧ seg cs off n = some (toAVs w.heap.size l) ∧ b < H.next := by
  unfold World.cells? at hc
  split at hc
  · have hlen : l.length = n := by have := mapM_some_length hc; simpa using this
    have hget : ∀ i, i < n → w.cell? ⟨b, off + i, none⟩ = l[i]? := fun i hi => by
      have := mapM_some_get hc i i (by simp [hi])
      rw [← this]
      congr 1
      unfold Addr.add
      split
      · rename_i e; subst e; rfl
      · rfl
    have h0 := hget 0 hn
    have : 0 < l.length := by omega
    rw [List.getElem?_eq_getElem this] at h0
    unfold World.cell? at h0
    cases ho : w.heap[b]? with
    | none => simp [ho] at h0
    | some o =>
      have hb : b < w.heap.size := (Array.getElem?_eq_some_iff.1 ho).1
      cases o with
      | cells c e fr =>
        refine ⟨toAVs w.heap.size c.toList, by rw [h.get b hb]; unfold snapO; rw [ho]; rfl, ?_, by rw [h.next]; exact hb⟩
        have hc' : ∀ i, i < n → c[off + i]? = l[i]? := fun i hi => by
          have := hget i hi
          simpa [World.cell?, ho] using this
        have hle : off + n ≤ c.size := by
          have := hc' (n - 1) (by omega)
          rw [List.getElem?_eq_getElem (by omega)] at this
          have := (Array.getElem?_eq_some_iff.1 this).1
          omega
        have e : l = (c.toList.drop off).take n := by
          apply List.ext_getElem?
          intro i
          by_cases hi : i < n
          · rw [← hc' i hi, List.getElem?_take, if_pos hi, List.getElem?_drop]; simp
          · rw [List.getElem?_eq_none (by omega), List.getElem?_eq_none (by simp; omega)]
        subst e
        unfold seg toAVs
        simp only [← List.map_drop, ← List.map_take]
        rw [show Nat.beq ((c.toList.drop off).take n |>.map (toAV w.heap.size)).length n = true from by simp; omega]
      | _ => simp [ho] at h0
  · cases hc

variable {H0 : Type} {enc : TypeId × Value → H0} {P : Program}

/-- A slice of what came in: its elements' cells, each read by its type. -/
theorem Snap.slice {w : World} {H : Heap} (h : Snap w H) {t e : TypeId} {base fuel : Nat} {sp : Nat → Bool} {hd : Bool} {v : Value} {x : DataW H0 × List MemPlace} {sz : Nat} (ht : P.underlying t = some (.slice e)) (hs : P.cellsOf e = sz) (hz : 0 < sz)
    (hx : DataW.trod enc P w base sp hd fuel t [v] = some x) :
    ∃ l : List (List Value), Row H (toAV w.heap.size v) sz (l.map (toAVs w.heap.size)) ∧ l.length ≤ maxLen ∧ ∀ c ∈ l, c.length = sz ∧ ∃ n y, DataW.trod enc P w base sp hd n e c = some y := by
  rcases DataW.trod_slice ht hx with ⟨hv, _⟩ | ⟨a, len, cap, elems, rest, n, _, hv, _, hb, hl, hm, hlen, hel, _, _⟩
  · obtain rfl := by simpa using hv
    exact ⟨[], ⟨rfl, fun i x k => by simp at k⟩, by simp, fun c hc => by simp at hc⟩
  · obtain rfl := by simpa using hv
    rw [hs] at hel
    have key : ∀ i, i < len → ∃ c y, w.cells? base (a.add (i * sz)) sz = some c ∧ DataW.trod enc P w base sp hd n e c = some y := fun i hi => by
      have := hel i hi
      rw [List.getElem?_eq_getElem (by omega), Option.bind_eq_some_iff] at this
      obtain ⟨c, h1, h2⟩ := this
      exact ⟨c, _, h1, h2⟩
    by_cases h0 : len = 0
    · subst h0
      refine ⟨[], ⟨?_, fun i x k => by simp at k⟩, by simp, fun c hc => by simp at hc⟩
      obtain ⟨b, off, spot⟩ := a
      cases spot with
      | none => unfold toAV; dsimp only; split <;> rfl
      | some k => rfl
    · have hspot : a.spot = none := by
        obtain ⟨c, y, h1, _⟩ := key 0 (by omega)
        unfold World.cells? at h1
        split at h1
        · have := mapM_some_get h1 0 0 (by simp [hz])
          have hl1 : 0 < c.length := by have := mapM_some_length h1; simp at this; omega
          rw [List.getElem?_eq_getElem hl1] at this
          simp only [Nat.zero_mul, Addr.add, if_true] at this
          unfold World.cell? at this
          split at this
          · cases hsp : a.spot with
            | none => rfl
            | some k => rw [hsp] at this; simp at this
          · cases this
        · cases h1
      obtain ⟨b, off, spot⟩ := a
      dsimp only at hspot
      subst hspot
      have hadd : ∀ i, (⟨b, off, none⟩ : Addr).add (i * sz) = ⟨b, off + i * sz, none⟩ := fun i => Addr.add_plain b off _
      let l : List (List Value) := (List.range len).map fun i => ((w.cells? base ⟨b, off + i * sz, none⟩ sz).getD [])
      have hlget : ∀ i, i < len → ∃ c y, l[i]? = some c ∧ w.cells? base ⟨b, off + i * sz, none⟩ sz = some c ∧ DataW.trod enc P w base sp hd n e c = some y := fun i hi => by
        obtain ⟨c, y, h1, h2⟩ := key i hi
        rw [hadd] at h1
        exact ⟨c, y, by simp [l, hi, h1], h1, h2⟩
      have hb1 : b < w.heap.size := by
        obtain ⟨c, y, _, h1, _⟩ := hlget 0 (by omega)
        obtain ⟨_, _, _, h3⟩ := h.cells h1 hz
        rwa [h.next] at h3
      refine ⟨l, ⟨?_, fun i x k => ?_⟩, by simp only [l, List.length_map, List.length_range]; omega, fun c hc => ?_⟩
      · unfold toAV; dsimp only; rw [if_pos hb1]; simp [lenOf, l]
      · have hi : i < len := by
          have := (List.getElem?_eq_some_iff.1 k).1
          simpa [l] using this
        obtain ⟨c, y, h1, h2, h3⟩ := hlget i hi
        obtain ⟨cs, g1, g2, g3⟩ := h.cells h2 hz
        refine ⟨b, off + i * sz, cs, ?_, g1, ?_, g3⟩
        · unfold toAV; dsimp only; rw [if_pos hb1]; simp [slAt, hi]
        · rw [List.getElem?_map, h1] at k
          cases k
          exact g2
      · obtain ⟨i, hi, rfl⟩ := List.mem_iff_getElem.1 hc
        have hi' : i < len := by simpa [l] using hi
        obtain ⟨c, y, h1, h2, h3⟩ := hlget i hi'
        rw [List.getElem?_eq_getElem hi] at h1
        cases h1
        refine ⟨?_, n, y, h3⟩
        unfold World.cells? at h2
        by_cases hbb : base ≤ b
        · rw [if_pos hbb] at h2
          have := mapM_some_length h2; simpa using this
        · rw [if_neg hbb] at h2; simp at h2

end
end Go.Ev

