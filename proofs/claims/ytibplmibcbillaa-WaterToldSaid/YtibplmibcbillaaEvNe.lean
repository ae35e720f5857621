/-
  Rules for a range over a map; calls that may come to one of some outcomes; and a call over what came in.
-/
import Derived.Test.YtibplmibcbillaaEvNd
import Derived.Test.YtibplmibcbillaaEvY
set_option linter.unusedSimpArgs false
set_option linter.unusedVariables false
namespace Go.EvN
open Go.Ev Go.RowKit
noncomputable section
variable {P : Program} {rec : Rec} {ro : Option Nat}

theorem qX {P : Program} {rec : Rec} {ops : Array Oper} {d : Option Tmp} {t : TypeId} {ps : String} {e : Array Edge} {g : Option (Nat × Bool)} {l : List Oper} {T : Tr AV} {H : Heap} {K : Tr AV → Heap → Prop} {x i : Operand} {ty : TypeId} {b off sz : Nat} {u : AV} {k : IntKind} {n : Nat} (hg : wantedA ops g T = some true) (hx : opd T x = some u) (hi : opd T i = some (.int k (n : Int))) (h : OkO P rec ops l (putD T d (.ptr b off)) H K) (ht : elemSz P ty = some sz := by kernel_rfl) (ha : slAt u sz n = some (b, off) := by first | assumption | rfl | exact slAt_slice (by omega) | exact slAt_opn (by omega)) : OkO P rec ops (⟨d, .indexAddr ty x i, t, ps, e, g⟩ :: l) T H K := oX hg hx hi ht ha h
theorem OkO.callN {ops : Array Oper} {d : Option Tmp} {t : TypeId} {ps : String} {e : Array Edge} {g : Option (Nat × Bool)} {l : List Oper} {T : Tr AV} {H : Heap} {K : Tr AV → Heap → Prop} {c : Call} {x : Operand} {fv : AV} {as args : List AV} {f : FuncId} {S : AV → Heap → Prop}
    (hg : wantedA ops g T = some true) (hc : c.callee = .value x) (hx : opd T x = some fv) (ha : opds T c.args.toList = some as) (hf : Go.Ev.callV fv as = some (.fn f args)) (hr : FnN P rec f args H S)
    (h : ∀ v H', S v H' → OkO P rec ops l (putD T d v) H' K) : OkO P rec ops (⟨d, .call c, t, ps, e, g⟩ :: l) T H K :=
  OkO.callK hg (show evCall P T H c = _ by unfold evCall; rw [ha]; dsimp only; rw [hc]; dsimp only; rw [hx]; exact hf) hr h

/-- An iterator over a map, some entries of which have been met. -/
structure It (H : Heap) (b m : Nat) (es : List (AV × AV × Nat)) (c : Nat) (done : List (AV × AV × Nat)) : Prop where
  it : H.get b = some (.iter (some m) c (done.map (·.2.2)) c)
  mp : H.get m = some (.map es c)
  lt : ∀ e ∈ es, e.2.2 < c
  nd : (es.map (·.2.2)).Nodup
  dn : (done.map (·.2.2)).Nodup
  sub : ∀ e ∈ done, e ∈ es

theorem born_inj {es : List (AV × AV × Nat)} (h : (es.map (·.2.2)).Nodup) : ∀ {x y : AV × AV × Nat}, x ∈ es → y ∈ es → x.2.2 = y.2.2 → x = y := by
  induction es with
  | nil => intro x y hx; cases hx
  | cons e es ih =>
    intro x y hx hy hq
    rw [List.map_cons, List.nodup_cons] at h
    rcases List.mem_cons.1 hx with hx | hx <;> rcases List.mem_cons.1 hy with hy | hy
    · rw [hx, hy]
    · exact absurd (List.mem_map.2 ⟨y, hy, by rw [← hq, hx]⟩) h.1
    · exact absurd (List.mem_map.2 ⟨x, hx, by rw [hq, hy]⟩) h.1
    · exact ih h.2 hx hy hq

theorem mem_leftE {es : List (AV × AV × Nat)} {seen : List Nat} {e : AV × AV × Nat} : e ∈ leftE es seen ↔ e ∈ es ∧ e.2.2 ∉ seen := by
  unfold leftE; simp

theorem nodup_of_map {l : List (AV × AV × Nat)} (h : (l.map (·.2.2)).Nodup) : l.Nodup := by
  induction l with
  | nil => exact .nil
  | cons e l ih =>
    rw [List.map_cons, List.nodup_cons] at h
    exact List.nodup_cons.2 ⟨fun hm => h.1 (List.mem_map.2 ⟨e, hm, rfl⟩), ih h.2⟩
theorem len_le : ∀ (a b : List Nat), a.Nodup → (∀ x ∈ a, x ∈ b) → a.length ≤ b.length
  | [], _, _, _ => Nat.zero_le _
  | x :: a, b, hn, hs => by
    rw [List.nodup_cons] at hn
    have hx := hs x (by simp)
    have := len_le a (b.erase x) hn.2 fun y hy => (List.mem_erase_of_ne (fun q => hn.1 (by rw [← q]; exact hy))).2 (hs y (by simp [hy]))
    rw [List.length_erase_of_mem hx] at this
    have := List.length_pos_of_mem hx
    simp only [List.length_cons]
    omega

theorem It.perm {H : Heap} {b m c : Nat} {es done : List (AV × AV × Nat)} (h : It H b m es c done) (h0 : leftE es (done.map (·.2.2)) = []) : done.Perm es := by
  have hsub : ∀ e ∈ es, e ∈ done := by
    intro e he
    by_cases hm : e.2.2 ∈ done.map (·.2.2)
    · obtain ⟨x, hx, hq⟩ := List.mem_map.1 hm
      rw [← born_inj h.nd (h.sub x hx) he hq]
      exact hx
    · have : e ∈ leftE es (done.map (·.2.2)) := mem_leftE.2 ⟨he, hm⟩
      rw [h0] at this; cases this
  exact (List.perm_ext_iff_of_nodup (nodup_of_map h.dn) (nodup_of_map h.nd)).2 fun e => ⟨h.sub e, hsub e⟩
theorem It.lt_len {H : Heap} {b m c : Nat} {es done : List (AV × AV × Nat)} (h : It H b m es c done) {e : AV × AV × Nat} (he : e ∈ leftE es (done.map (·.2.2))) : done.length < es.length := by
  obtain ⟨h1, h2⟩ := mem_leftE.1 he
  have := len_le (e.2.2 :: done.map (·.2.2)) (es.map (·.2.2)) (List.nodup_cons.2 ⟨h2, h.dn⟩) fun x hx => by
    rcases List.mem_cons.1 hx with rfl | hx
    · exact List.mem_map.2 ⟨e, h1, rfl⟩
    · obtain ⟨y, hy, rfl⟩ := List.mem_map.1 hx
      exact List.mem_map.2 ⟨y, h.sub y hy, rfl⟩
  simp at this
  omega

/-- The iterator's next step, in a heap that has what it needs. -/
theorem It.step {H G : Heap} {b m c : Nat} {es done : List (AV × AV × Nat)} (h : It H b m es c done) {e : AV × AV × Nat} (he : e ∈ leftE es (done.map (·.2.2)))
    (hb : G.get b = some (.iter (some m) c (done.map (·.2.2) ++ [e.2.2]) c)) (hm : G.get m = some (.map es c)) : It G b m es c (done ++ [e]) := by
  obtain ⟨h1, h2⟩ := mem_leftE.1 he
  refine ⟨by rw [hb]; simp, hm, h.lt, h.nd, ?_, fun x hx => ?_⟩
  · rw [List.map_append, List.nodup_append]
    refine ⟨h.dn, by simp, fun a ha b hb q => ?_⟩
    simp at hb
    subst hb
    exact h2 (q ▸ ha)
  · rcases List.mem_append.1 hx with hx | hx
    · exact h.sub x hx
    · simp at hx; subst hx; exact h1
theorem It.to {H G : Heap} {b m c : Nat} {es done : List (AV × AV × Nat)} (h : It H b m es c done) (hb : G.get b = H.get b) (hm : G.get m = H.get m) : It G b m es c done :=
  ⟨by rw [hb]; exact h.it, by rw [hm]; exact h.mp, h.lt, h.nd, h.dn, h.sub⟩

section
variable {ops : Array Oper} {d : Option Tmp} {t : TypeId} {ps : String} {e : Array Edge} {g : Option (Nat × Bool)} {l : List Oper} {T : Tr AV} {H : Heap} {K : Tr AV → Heap → Prop} {x : Operand}
def isMap (P : Program) (t : TypeId) : Bool := match P.underlying t with
  | some (.map _ _) => true
  | _ => false
theorem isMap_spec {t : TypeId} (h : isMap P t = true) : ∃ k e, P.underlying t = some (.map k e) := by
  unfold isMap at h
  split at h
  · exact ⟨_, _, by assumption⟩
  · cases h

theorem OkO.rangeM {ty : TypeId} {m c : Nat} {es : List (AV × AV × Nat)} (hg : wantedA ops g T = some true) (ht : isMap P ty = true) (hx : opd T x = some (.map m)) (hm : H.get m = some (.map es c))
    (h : OkO P rec ops l (putD T d (.ptr H.next 0)) (H.new (.iter (some m) c [] c)) K) : OkO P rec ops (⟨d, .range ty x, t, ps, e, g⟩ :: l) T H K :=
  OkO.mapK hg rfl ⟨isMap_spec ht, by rw [hx]; exact ⟨es, c, hm, h⟩⟩
theorem OkO.nextM {b m c : Nat} {es done : List (AV × AV × Nat)} (hg : wantedA ops g T = some true) (hx : opd T x = some (.ptr b 0)) (hi : It H b m es c done)
    (h0 : leftE es (done.map (·.2.2)) = [] → OkO P rec ops l (putD T d (.tup [.bool false])) H K)
    (h1 : ∀ e, e ∈ leftE es (done.map (·.2.2)) → OkO P rec ops l (putD T d (.tup [.bool true, e.1, e.2.1])) (H.put b (.iter (some m) c (done.map (·.2.2) ++ [e.2.2]) c)) K) : OkO P rec ops (⟨d, .next x false, t, ps, e, g⟩ :: l) T H K :=
  OkO.mapK hg rfl (by unfold mapS; dsimp only; unfold nextS; rw [hx]; exact .inr ⟨m, c, _, es, hi.it, hi.mp, hi.lt, h0, h1⟩)
theorem OkO.entryM {b m c : Nat} {es done : List (AV × AV × Nat)} {q : AV × AV × Nat} (hg : wantedA ops g T = some true) (hx : opd T x = some (.ptr b 0)) (hi : It H b m es c (done ++ [q]))
    (h : OkO P rec ops l (putD T d (.tup [q.1, q.2.1])) H K) : OkO P rec ops (⟨d, .entry x, t, ps, e, g⟩ :: l) T H K :=
  OkO.mapK hg rfl (by
    unfold mapS
    dsimp only
    unfold entryS
    rw [hx]
    refine ⟨m, c, done.map (·.2.2), c, q.2.2, es, q, by rw [hi.it]; simp, hi.mp, ?_, h⟩
    have hq := hi.sub q (by simp)
    cases hf : es.find? (fun e => e.2.2 == q.2.2) with
    | none => exact absurd (List.find?_eq_none.1 hf q hq) (by simp)
    | some y =>
      have h1 := List.find?_some hf
      have h2 := List.mem_of_find?_eq_some hf
      rw [born_inj hi.nd h2 hq (by simpa using h1)])
end

theorem overN {rec : Rec} (hg : Gd P rec) {f : FuncId} {args : Array Value} {w : World} {H : Heap} {v : AV} (h : Snap w H) (hv : v.flat = true)
    (he : FnN P rec f (args.toList.map (argAV w.heap.size)) H fun u _ => u = v) : Calls P f args w fun e w' => e = .returned (conc idR v) ∧ Below w.heap.size w w' := by
  have h0 := (he hg).2 w.heap.size (fun b => b < w.heap.size) idR w 0 h.sim (withins_iff.2 fun v hv => by
    simp only [List.mem_map] at hv
    obtain ⟨x, _, rfl⟩ := hv
    exact argAV_within _ x)
  have e : (concs idR (args.toList.map (argAV w.heap.size))).toArray = args := by
    rw [concs_map, List.map_map]
    have : (conc idR ∘ argAV w.heap.size) = id := by funext v; exact argAV_conc _ v
    rw [this]; simp
  rw [e] at h0
  refine callsIn_wide.1 (CallsIn.mono h0 ?_)
  rintro e w' ⟨u, H', D', ρ', rfl, rfl, hp, _⟩
  exact ⟨by rw [flat_conc (ρ := idR) (ρ' := ρ') _ hv], hp.keep⟩
end
end Go.EvN

