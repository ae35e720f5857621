/-
  What texts of several seats share: arrays that are built, slices of one's own, blocks that stay.
-/
import Derived.Test.YtibplmibcbillaaEvM
import Derived.Test.YtibplmibcbillaaEvY
import Derived.KernelRfl
set_option maxRecDepth 100000
set_option linter.unusedSimpArgs false
set_option linter.unusedVariables false
namespace Go.Ev
open Go
noncomputable section
theorem Mine.lt {k0 : Nat} {G : Heap} {v : AV} {e : TypeId} {sz : Nat} {cs : List AV} (h : Mine k0 G v e sz cs) {b m : Nat} (hv : v = .opn b m) : b < G.next := by
  rcases h with ⟨h, _⟩ | ⟨b', m', h1, _, _, _, h5⟩
  · rw [h] at hv; cases hv
  · rw [h1] at hv; cases hv; exact h5
theorem Mine.put {k0 : Nat} {G : Heap} {v : AV} {e : TypeId} {sz : Nat} {cs : List AV} (h : Mine k0 G v e sz cs) {n : Nat} (o : AObj) (hn : n < k0) : Mine k0 (G.put n o) v e sz cs := by
  rcases h with h | ⟨b, m, h1, h2, h3, h4, h5⟩
  · exact .inl h
  · exact .inr ⟨b, m, h1, by rw [gpo _ _ _ _ (by omega)]; exact h2, h3, h4, by simpa using h5⟩
theorem Mine.low {k0 k1 : Nat} {G : Heap} {v : AV} {e : TypeId} {sz : Nat} {cs : List AV} (h : Mine k1 G v e sz cs) (hk : k0 ≤ k1) : Mine k0 G v e sz cs := by
  rcases h with h | ⟨b, n, a1, a2, a3, a4, a5⟩
  · exact .inl h
  · exact .inr ⟨b, n, a1, a2, a3, by omega, a5⟩
theorem Mine.off {k0 : Nat} {G G' : Heap} {x v : AV} {e e' : TypeId} {sz sz' : Nat} {cs cs' : List AV} (h : Mine 0 G x e sz cs) (hv : Mine k0 G v e' sz' cs') (hne : sz ≠ sz') (hn : G.next ≤ G'.next) (hg : ∀ j, j < G.next → (∀ m, v ≠ .opn j m) → G'.get j = G.get j) : Mine 0 G' x e sz cs := by
  rcases h with h | ⟨b, n, a1, a2, a3, a4, a5⟩
  · exact .inl h
  · refine .inr ⟨b, n, a1, ?_, a3, a4, by omega⟩
    rw [hg b a5 ?_]
    · exact a2
    · intro m hm
      rcases hv with ⟨h, _⟩ | ⟨b2, n2, c1, c2, _⟩
      · rw [h] at hm; cases hm
      · rw [c1] at hm
        cases hm
        rw [a2] at c2
        cases c2
        exact hne rfl
theorem Mine.far {k0 : Nat} {G : Heap} {v : AV} {e : TypeId} {sz : Nat} {cs : List AV} (h : Mine k0 G v e sz cs) {j : Nat} (hj : j < k0) : ∀ m, v ≠ .opn j m := fun m hm => by
  rcases h with ⟨h, _⟩ | ⟨b, n, h, _, _, h4, _⟩
  · rw [h] at hm; cases hm
  · rw [h] at hm; cases hm; omega
theorem Row.keep {H G : Heap} {v : AV} {sz : Nat} {l : List (List AV)} (h : Row H v sz l) (hn : H.next ≤ G.next) (hg : ∀ j, j < H.next → G.get j = H.get j) : Row G v sz l := h.ext ⟨hn, hg⟩
theorem Row.atom {H : Heap} {v : AV} {sz : Nat} {l : List (List AV)} (h : Row H v sz l) (hl : 0 < l.length) : v.atom = true := by
  obtain ⟨b, off, cs, h1, _⟩ := h.at_ 0 l[0] (by simp [hl])
  cases v <;> first | rfl | (simp [slAt] at h1)
theorem Mine.keep {k0 : Nat} {G G' : Heap} {v w : AV} {e : TypeId} {sz : Nat} {cs : List AV} (h : Mine k0 G v e sz cs) (hk : ∀ j, j < G.next → (∀ m, w ≠ .opn j m) → G'.get j = G.get j) (hsep : ∀ b m m', v = .opn b m → w ≠ .opn b m') (hn : G.next ≤ G'.next) : Mine k0 G' v e sz cs := by
  rcases h with h | ⟨b, m, h1, h2, h3, h4, h5⟩
  · exact .inl h
  · exact .inr ⟨b, m, h1, by rw [hk b h5 (fun m' => hsep b m m' h1)]; exact h2, h3, h4, Nat.lt_of_lt_of_le h5 hn⟩
theorem bin_shr1 (a : Nat) : bin .shr .u64 (a : Int) .u64 1 = some (.int .u64 ((a / 2 : Nat) : Int)) := by
  show some (AV.int .u64 (.ofNat (Nat.shiftRight a 1))) = _
  rw [show Nat.shiftRight a 1 = a / 2 from Nat.shiftRight_succ a 0]
  rfl
theorem seg_sub {cs l : List AV} {off n : Nat} (h : seg cs off n = some l) (k m : Nat) (hk : k + m ≤ n) (hm : 0 < m) : seg cs (off + k) m = some ((l.drop k).take m) := by
  rcases seg_spec h with ⟨rfl, hle⟩ | ⟨rfl, _⟩
  · have e : ((cs.drop off).take n).drop k = (cs.drop (off + k)).take (n - k) := by rw [List.drop_take, List.drop_drop]
    rw [e, List.take_take, Nat.min_eq_left (by omega)]
    have e2 : Nat.beq ((cs.drop (off + k)).take m).length m = true := by simp; omega
    unfold seg
    dsimp only
    rw [e2]
  · omega
/-- Whatever has a length stands in one cell. -/
theorem len_one {v : AV} {n : Nat} (h : lenOf v = some n) : v.cells = [v] ∧ v.atom = true := by
  cases v with
  | raw v => cases v <;> first | exact ⟨rfl, rfl⟩ | cases h
  | _ => first | exact ⟨rfl, rfl⟩ | cases h
theorem atoms_app : ∀ (a c : List AV), atoms a = true → atoms c = true → atoms (a ++ c) = true
  | [], _, _, h => h
  | x :: l, c, h1, h2 => by
    rw [List.cons_append, atoms]
    rw [atoms] at h1
    cases hx : x.atom with
    | false => rw [hx] at h1; cases h1
    | true => rw [hx] at h1; exact atoms_app l c h1 h2
section
variable {P : Program} {rec : Rec} {ro : Option Nat}
end
theorem back_any {P : Program} {fn : Func} {H : Heap} {T : Tr AV} {G : Heap} {vs : List AV} {v : AV} (hr : resV P T G fn.results.toList = some vs) (hv : resOf vs = v) :
    ∃ H', evBack P fn H ⟨T, [], G⟩ = some (v, H') ∧ ((H' = H ∧ H.next ≤ G.lo) ∨ ((∀ n, H'.get n = G.get n) ∧ H'.next = G.next ∧ ∀ k, k ≤ H.lo → k ≤ G.lo → k ≤ H'.lo)) := by
  have e : evBack P fn H ⟨T, [], G⟩ = some (leave H v G) := by
    unfold evBack
    show (match some G with | some H' => (match resV P T H' fn.results.toList with | some vs => some (leave H (resOf vs) H') | none => none) | none => none) = _
    dsimp only
    rw [hr]
    dsimp only
    rw [hv]
  have hk : ∀ k, k ≤ H.lo → k ≤ G.lo → k ≤ @Bool.rec (fun _ => Nat) G.lo H.lo (Nat.ble H.lo G.lo) := fun k h1 h2 => by
    cases Nat.ble H.lo G.lo with
    | true => exact h1
    | false => exact h2
  unfold leave at e
  cases hb : Nat.ble H.next G.lo with
  | false => rw [hb] at e; exact ⟨_, e, .inr ⟨fun _ => rfl, rfl, hk⟩⟩
  | true =>
    cases hf : v.flat with
    | true => rw [hb, hf] at e; exact ⟨_, e, .inl ⟨rfl, Nat.le_of_ble_eq_true hb⟩⟩
    | false => rw [hb, hf] at e; exact ⟨_, e, .inr ⟨fun _ => rfl, rfl, hk⟩⟩
end
end Go.Ev

