/-
  Functions of the program, reckoned by the evaluator: what each answers, and that it leaves what came in as it was.
-/
import Derived.Test.YthcjhfddoaccnaaPt27
set_option maxRecDepth 100000
set_option linter.unusedSimpArgs false
set_option linter.unusedVariables false
namespace Go.Ev
open Go Go.Proofs
noncomputable section
theorem ruleOf_ok {t : Trm} {k : Nat} (ht : t.ok = true) (hk : k ≤ 1000) : (ruleOf t (k : Int)).ok = true := by
  have hf := Trm.ok_facts ht
  unfold Rul.ok ruleOf inB
  simp only [Bool.and_eq_true, decide_eq_true_eq]
  omega
def priceK (t : Trm) (l : List Sea) (k : Nat) : Int := sumP t (ruleOf t (k : Int)) l
def fineK (t : Trm) (l : List Sea) (k : Nat) : Bool := allT t (ruleOf t (k : Int)) l
/-- The best rule of those that have been tried. -/
def BS (t : Trm) (l : List Sea) (S : Nat → Prop) (q : Rul) (p : Int) (fd : Bool) : Prop :=
  (fd = false ∧ q = ⟨0, 0, 0⟩ ∧ p = 0 ∧ ∀ k, S k → fineK t l k = false) ∨
    (fd = true ∧ ∃ st : Nat, S st ∧ q = ruleOf t (st : Int) ∧ p = priceK t l st ∧ fineK t l st = true ∧ ∀ k, S k → fineK t l k = true → p < priceK t l k ∨ (p = priceK t l k ∧ k ≤ st))
theorem BS.new {t : Trm} {l : List Sea} {S S' : Nat → Prop} {q : Rul} {p : Int} {fd : Bool} {k : Nat} (h : BS t l S q p fd) (hS : ∀ j, S' j ↔ S j ∨ j = k) (hf : fineK t l k = true) (hc : fd = true → priceK t l k < p ∨ (priceK t l k = p ∧ ∀ j, S j → j ≤ k)) :
    BS t l S' (ruleOf t (k : Int)) (priceK t l k) true := by
  refine .inr ⟨rfl, k, (hS k).2 (.inr rfl), rfl, rfl, hf, fun j hj hfj => ?_⟩
  rcases (hS j).1 hj with hj | rfl
  · rcases h with ⟨h1, _, _, h4⟩ | ⟨h1, st, h2, h3, h4, h5, h6⟩
    · rw [h4 j hj] at hfj; cases hfj
    · rcases hc h1 with hc | ⟨hc, hk⟩
      · rcases h6 j hj hfj with h | ⟨h, _⟩ <;> exact .inl (by omega)
      · have := hk j hj
        rcases h6 j hj hfj with h | ⟨h, _⟩
        · exact .inl (by omega)
        · exact .inr ⟨by omega, this⟩
  · exact .inr ⟨rfl, Nat.le_refl _⟩
theorem BS.same {t : Trm} {l : List Sea} {S S' : Nat → Prop} {q : Rul} {p : Int} {fd : Bool} {k : Nat} (h : BS t l S q p fd) (hS : ∀ j, S' j ↔ S j ∨ j = k) (hc : fineK t l k = true → fd = true ∧ (p < priceK t l k ∨ (p = priceK t l k ∧ ∀ j, S j → k ≤ j))) : BS t l S' q p fd := by
  rcases h with ⟨h1, h2, h3, h4⟩ | ⟨h1, st, h2, h3, h4, h5, h6⟩
  · refine .inl ⟨h1, h2, h3, fun j hj => ?_⟩
    rcases (hS j).1 hj with hj | rfl
    · exact h4 j hj
    · cases hf : fineK t l j with
      | false => rfl
      | true => have := (hc hf).1; rw [h1] at this; cases this
  · refine .inr ⟨h1, st, (hS st).2 (.inl h2), h3, h4, h5, fun j hj hfj => ?_⟩
    rcases (hS j).1 hj with hj | rfl
    · exact h6 j hj hfj
    · rcases (hc hfj).2 with h | ⟨h, h'⟩
      · exact .inl h
      · exact .inr ⟨h, h' st h2⟩
theorem BS.uniq {t : Trm} {l : List Sea} {S S' : Nat → Prop} {q q' : Rul} {p p' : Int} {fd fd' : Bool} (h : BS t l S q p fd) (h' : BS t l S' q' p' fd') (hS : ∀ j, S' j ↔ S j) : q = q' ∧ p = p' ∧ fd = fd' := by
  rcases h with ⟨h1, h2, h3, h4⟩ | ⟨h1, st, h2, h3, h4, h5, h6⟩
  · rcases h' with ⟨k1, k2, k3, k4⟩ | ⟨k1, st', k2, k3, k4, k5, k6⟩
    · exact ⟨by rw [h2, k2], by rw [h3, k3], by rw [h1, k1]⟩
    · rw [h4 st' ((hS _).1 k2)] at k5; cases k5
  · rcases h' with ⟨k1, k2, k3, k4⟩ | ⟨k1, st', k2, k3, k4, k5, k6⟩
    · rw [k4 st ((hS _).2 h2)] at h5; cases h5
    · have a := h6 st' ((hS _).1 k2) k5
      have b := k6 st ((hS _).2 h2) h5
      have e : st = st' := by omega
      subst e
      exact ⟨by rw [h3, k3], by rw [h4, k4], by rw [h1, k1]⟩
theorem builtin_max2c {P : Program} {H : Heap} {tys : List TypeId} (a b : Int) : builtinF P H .max tys [.int .i64 a, .int .i64 b] = some (.val (.int .i64 (max b a)) H) := by rw [builtin_max2, Int.max_comm]
theorem c49E (m : Nat) (v : AV) (l : List Sea) (t : Trm) (H : Heap) (hS : SeasG H v l) (hl9 : l.length ≤ 100000) (hs9 : ∀ s ∈ l, s.sp.length ≤ 100000) (he : termErr l t ≠ 0) : RR (m + 10) (.fn 49 [v, .agg t.c]) H = some (.tup [.agg [I 0, I 0, I 0], I 0, I (termErr l t)], H) := by
  refine (R_fn _ _ _ _ _).trans ?_
  refine fn_ok Try.func49 rfl rfl (by kernel_rfl) (by kernel_rfl) ?_
  obtain ⟨W, hW⟩ : ∃ W : Heap, W = ⟨H.t, H.next, H.next⟩ := ⟨_, rfl⟩
  have hg : ∀ n, W.get n = H.get n := fun n => by rw [hW]; rfl
  have hN : W.next = H.next := by rw [hW]
  have hE : ∀ G, Grow W G → Ext H G := fun G g => ⟨by rw [← hN]; exact g.next, fun n k => by rw [g.get n (by rw [hN]; exact k), hg]⟩
  have hG : Grow W W := Grow.refl (by rw [hW]; exact Nat.le_refl _)
  rw [← hW]
  have hlen := hS.at.len
  refine Ok.seq ?_
  refine Ok.region ?_
  refine OkO.box rfl rfl ?_
  refine OkO.alloc (z := [.int .i64 0, .int .i64 0, .int .i64 0]) rfl (by kernel_rfl) ?_
  refine OkO.assign rfl rfl ?_
  refine OkO.assign rfl rfl ?_
  refine OkO.nil ?_
  refine Ok.seq ?_
  refine Ok.seq ?_
  refine Ok.region ?_
  refine OkO.move rfl rfl ?_
  refine OkO.load rfl rfl (ldg (n := 5) (by kernel_rfl) (by first | assumption | (simp (disch := first | omega | (simp only [hNw, hPt]; omega)) only [gn0, gn1, gn2, gn3, gn4, gn5, gp0, gno, gpo] <;> first | rfl | assumption | exact gp0 _ _ _ | exact gn0 _ _)) (by first | rfl | assumption)) ?_
  refine OkO.callV rfl rfl rfl rfl rfl (c77 (m + 2) v l t _ (hS.ext (hE _ (by (try dsimp only); repeat (first | exact hG | apply Grow.new | (refine Grow.put ?_ _ (by first | omega | (simp only [hNw, hPt]; omega))))))) (by omega) (fun s hs => by have := hs9 s hs; omega)) ?_ -- "sackung/alarm.checkTerms"
  refine OkO.assign rfl rfl ?_
  refine OkO.nil ?_
  refine Ok.seq ?_
  refine Ok.region ?_
  refine OkO.move rfl rfl ?_
  refine OkO.bin rfl rfl rfl (bin_neq _ _) ?_
  refine OkO.nil ?_
  refine Ok.cond rfl (fun h1 => ?_) (fun h1 => ?_)
  · -- yes h1
    refine Ok.seq ?_
    refine Ok.region ?_
    refine OkO.build (z := [.int .i64 0, .int .i64 0, .int .i64 0]) (pl := [(0, 1), (1, 1), (2, 1)]) rfl (by kernel_rfl) rfl rfl ?_
    refine OkO.move rfl rfl ?_
    refine OkO.store rfl rfl rfl (stc (n := 3) (ag := true) (by kernel_rfl) (by first | assumption | (simp (disch := first | omega | (simp only [hNw, hPt]; omega)) only [gn0, gn1, gn2, gn3, gn4, gn5, gp0, gno, gpo] <;> first | rfl | assumption | exact gp0 _ _ _ | exact gn0 _ _)) rfl (by first | rfl | assumption) (by first | rfl | exact spl_set _ _ _ (by first | assumption | omega | (simp; omega)))) ?_
    refine OkO.assign rfl rfl ?_
    refine OkO.assign rfl rfl ?_
    refine OkO.nil ?_
    refine Ok.ret ⟨.inr rfl, ?_⟩
    exact back_flat (resV_cell rfl (ldg (n := 3) (by kernel_rfl) (by first | assumption | (simp (disch := first | omega | (simp only [hNw, hPt]; omega)) only [gn0, gn1, gn2, gn3, gn4, gn5, gp0, gno, gpo] <;> first | rfl | assumption)) (by first | rfl | assumption)) (resV_tmp rfl (resV_tmp rfl resV_nil))) (rfl) rfl (by rw [← hW]; exact (by (try dsimp only); repeat (first | exact hG | apply Grow.new | (refine Grow.put ?_ _ (by first | omega | (simp only [hNw, hPt]; omega))))))
  · -- no h1
    exact absurd h1 (by simp; exact he)
theorem c49K (m : Nat) (v : AV) (l : List Sea) (t : Trm) (H : Heap) (hS : SeasG H v l) (he : termErr l t = 0) (hl9 : l.length ≤ 10) (hs9 : ∀ s ∈ l, s.sp.length ≤ 60) (ht : t.ok = true) : ∃ v' H', RR (m + 10) (.fn 49 [v, .agg t.c]) H = some (v', H') ∧ ∃ (q : Rul) (p : Int) (fd : Bool), v' = .tup [.agg q.c, I p, I (if fd = true then 0 else 11)] ∧ H' = H ∧ BS t l (fun j => j < 1001) q p fd := by
  show ∃ v' H', evFn Try.prog (RR (m + 9)) 49 [v, .agg t.c] H = some (v', H') ∧ ∃ (q : Rul) (p : Int) (fd : Bool), v' = .tup [.agg q.c, I p, I (if fd = true then 0 else 11)] ∧ H' = H ∧ BS t l (fun j => j < 1001) q p fd
  refine fn_okE Try.func49 rfl rfl (by kernel_rfl) (by kernel_rfl) ?_
  obtain ⟨W, hW⟩ : ∃ W : Heap, W = ⟨H.t, H.next, H.next⟩ := ⟨_, rfl⟩
  have hg : ∀ n, W.get n = H.get n := fun n => by rw [hW]; rfl
  have hN : W.next = H.next := by rw [hW]
  have hE : ∀ G, Grow W G → Ext H G := fun G g => ⟨by rw [← hN]; exact g.next, fun n k => by rw [g.get n (by rw [hN]; exact k), hg]⟩
  have hG : Grow W W := Grow.refl (by rw [hW]; exact Nat.le_refl _)
  rw [← hW]
  have hlen := hS.at.len
  have htf := Trm.ok_facts ht
  refine Ok.seq ?_
  refine Ok.region ?_
  refine OkO.box rfl rfl ?_
  refine OkO.alloc (z := [.int .i64 0, .int .i64 0, .int .i64 0]) rfl (by kernel_rfl) ?_
  refine OkO.assign rfl rfl ?_
  refine OkO.assign rfl rfl ?_
  refine OkO.nil ?_
  refine Ok.seq ?_
  refine Ok.seq ?_
  refine Ok.region ?_
  refine OkO.move rfl rfl ?_
  refine OkO.load rfl rfl (ldg (n := 5) (by kernel_rfl) (by first | assumption | (simp (disch := first | omega | (simp only [hNw, hPt]; omega)) only [gn0, gn1, gn2, gn3, gn4, gn5, gp0, gno, gpo] <;> first | rfl | assumption | exact gp0 _ _ _ | exact gn0 _ _)) (by first | rfl | assumption)) ?_
  refine OkO.callV rfl rfl rfl rfl rfl ((c77 (m + 2) v l t _ (hS.ext (hE _ (by (try dsimp only); repeat (first | exact hG | apply Grow.new | (refine Grow.put ?_ _ (by first | omega | (simp only [hNw, hPt]; omega))))))) (by omega) (fun s hs => by have := hs9 s hs; omega)).trans (by rw [he])) ?_ -- "sackung/alarm.checkTerms"
  refine OkO.assign rfl rfl ?_
  refine OkO.nil ?_
  refine Ok.seq ?_
  refine Ok.region ?_
  refine OkO.move rfl rfl ?_
  refine OkO.bin rfl rfl rfl (bin_neq _ _) ?_
  refine OkO.nil ?_
  refine Ok.condF rfl ?_
  refine Ok.skip ?_
  refine Ok.seq ?_
  refine Ok.region ?_
  refine OkO.assign rfl rfl ?_
  refine OkO.nil ?_
  refine Ok.seq ?_
  refine Ok.seq ?_
  refine Ok.region ?_
  refine OkO.assign rfl rfl ?_
  refine OkO.nil ?_
  refine Ok.block ?_
  refine Ok.loop (fun n s => ∃ (k : Nat) (q : Rul) (p : Int) (fd : Bool), n = 1001 - k ∧ k ≤ 1001 ∧ BS t l (fun j => j < k) q p fd ∧ Has 6 [(0, v), (3, .ptr W.next 0), (4, .ptr (W.next + 1) 0), (5, I p), (6, I (if fd = true then 0 else 11)), (8, I (k : Int))] s.T ∧ s.D = [] ∧ Grow W s.H ∧ s.H.get W.next = some (.cells t.c 86) ∧ s.H.get (W.next + 1) = some (.cells q.c 68) ∧ W.next + 2 ≤ s.H.next) (1001) (by unfold loopFuel; omega)
    ⟨0, ⟨0, 0, 0⟩, 0, false, rfl, Nat.zero_le _, .inl ⟨rfl, rfl, rfl, fun j hj => absurd hj (Nat.not_lt_zero j)⟩, Has.of (by kernel_rfl), rfl, (by (try dsimp only); repeat (first | exact hG | apply Grow.new | (refine Grow.put ?_ _ (by first | omega | (simp only [hNw, hPt]; omega))))), (by first | assumption | (simp (disch := first | omega | (simp only [hNw, hPt]; omega)) only [gn0, gn1, gn2, gn3, gn4, gn5, gp0, gno, gpo] <;> first | rfl | assumption | exact gp0 _ _ _ | exact gn0 _ _)), (by first | assumption | (simp (disch := first | omega | (simp only [hNw, hPt]; omega)) only [gn0, gn1, gn2, gn3, gn4, gn5, gp0, gno, gpo] <;> first | rfl | assumption | exact gp0 _ _ _ | exact gn0 _ _)), by simp⟩ ?_
  rintro n ⟨T, D, G⟩ ⟨k, q, p, fd, hn, hk, hbs, ⟨f, hT⟩, hD, hg, hb0, hb1, hn2p⟩
  dsimp only at *
  subst hT hD
  have hgn := hg.next
  have eb0 : (G.get W.next).bind AObj.cs = some t.c := by rw [hb0]; rfl
  have eb1 : (G.get (W.next + 1)).bind AObj.cs = some q.c := by rw [hb1]; rfl
  refine Ok.seq ?_
  refine Ok.seq ?_
  refine Ok.region ?_
  refine OkO.move rfl rfl ?_
  refine OkO.bin rfl rfl rfl (bin_leq _ _) ?_
  refine OkO.nil ?_
  refine Ok.cond rfl (fun h1 => ?_) (fun h1 => ?_)
  · -- yes h1
    have hk9 : k ≤ 1000 := by (have h9 : (k : Int) ≤ 1000 := by simpa using h1); omega
    refine Ok.skip ?_
    refine Ok.seq ?_
    refine Ok.block ?_
    refine Ok.seq ?_
    refine Ok.region ?_
    refine OkO.load rfl rfl (ldg (n := 5) (by kernel_rfl) (by first | assumption | (simp (disch := first | omega | (simp only [hNw, hPt]; omega)) only [gn0, gn1, gn2, gn3, gn4, gn5, gp0, gno, gpo] <;> first | rfl | assumption | exact gp0 _ _ _ | exact gn0 _ _)) (by first | rfl | assumption)) ?_
    refine OkO.move rfl rfl ?_
    refine OkO.callV rfl rfl rfl rfl rfl (c80 (m + 8) t (k : Int) _ (by omega) (by omega)) ?_ -- "(sackung/alarm.Terms).rule"
    refine OkO.alloc (z := [.int .i64 0, .int .i64 0, .int .i64 0]) rfl (by kernel_rfl) ?_
    refine OkO.store rfl rfl rfl (stc (n := 3) (ag := true) (by kernel_rfl) (by first | assumption | (simp (disch := first | omega | (simp only [hNw, hPt]; omega)) only [gn0, gn1, gn2, gn3, gn4, gn5, gp0, gno, gpo] <;> first | rfl | assumption | exact gp0 _ _ _ | exact gn0 _ _)) rfl (by first | rfl | assumption) (by first | rfl | exact spl_set _ _ _ (by first | assumption | omega | (simp; omega)))) ?_
    refine OkO.nil ?_
    refine Ok.seq ?_
    refine Ok.region ?_
    refine OkO.load rfl rfl (ldg (n := 5) (by kernel_rfl) (by first | assumption | (simp (disch := first | omega | (simp only [hNw, hPt]; omega)) only [gn0, gn1, gn2, gn3, gn4, gn5, gp0, gno, gpo] <;> first | rfl | assumption | exact gp0 _ _ _ | exact gn0 _ _)) (by first | rfl | assumption)) ?_
    refine OkO.move rfl rfl ?_
    refine OkO.load rfl rfl (ldg (n := 3) (by kernel_rfl) (by first | assumption | (simp (disch := first | omega | (simp only [hNw, hPt]; omega)) only [gn0, gn1, gn2, gn3, gn4, gn5, gp0, gno, gpo] <;> first | rfl | assumption | exact gp0 _ _ _ | exact gn0 _ _)) (by first | rfl | assumption)) ?_
    refine OkO.callV rfl rfl rfl rfl rfl ((c78 (m + 5) v l t (ruleOf t (k : Int)) _ (((hS.at.ext (hE _ hg))).ext (by (try dsimp only); repeat (first | exact Ext.refl _ | assumption | apply Ext.new | (refine Ext.put ?_ _ (by first | omega | (simp only [hNw, hPt]; omega)))))) hl9 hs9 ht (ruleOf_ok ht (by omega))).trans (show _ = some (AV.tup [I (priceK t l k), .bool (fineK t l k)], _) from rfl)) ?_ -- "(sackung/alarm.Terms).together"
    refine OkO.move rfl rfl ?_
    refine OkO.extract rfl rfl rfl ?_
    refine OkO.extract rfl rfl rfl ?_
    refine OkO.assign rfl rfl ?_
    refine OkO.assign rfl rfl ?_
    refine OkO.nil ?_
    refine Ok.seq ?_
    refine Ok.region ?_
    refine OkO.move rfl rfl ?_
    refine OkO.move rfl rfl ?_
    refine OkO.split (d := 34) rfl (fun g2 => ?_) (fun g2 => ?_)
    · -- true g2
      have hfk : fineK t l k = true := g2
      refine OkO.move rfl rfl ?_
      refine OkO.bin rfl rfl rfl (bin_neq _ _) ?_
      refine OkO.move rfl rfl ?_
      refine OkO.split (d := 37) rfl (fun g3 => ?_) (fun g3 => ?_)
      · -- true g3
        have hfd : fd = false := by (cases fd; (· rfl); (· simp at g3))
        refine OkO.skip rfl ?_
        refine OkO.skip rfl ?_
        refine OkO.skip rfl ?_
        refine OkO.pick (b := true) rfl rfl (fun _ => rfl) nofun ?_
        refine OkO.pick (b := true) rfl rfl (fun _ => rfl) nofun ?_
        refine OkO.nil ?_
        refine Ok.condT rfl ?_
        refine Ok.region ?_
        refine OkO.load rfl rfl (ldg (n := 3) (by kernel_rfl) (by first | assumption | (simp (disch := first | omega | (simp only [hNw, hPt]; omega)) only [gn0, gn1, gn2, gn3, gn4, gn5, gp0, gno, gpo] <;> first | rfl | assumption | exact gp0 _ _ _ | exact gn0 _ _)) (by first | rfl | assumption)) ?_
        refine OkO.move rfl rfl ?_
        refine OkO.store rfl rfl rfl (stc (n := 3) (ag := true) (by kernel_rfl) (by first | assumption | (simp (disch := first | omega | (simp only [hNw, hPt]; omega)) only [gn0, gn1, gn2, gn3, gn4, gn5, gp0, gno, gpo] <;> first | rfl | assumption | exact gp0 _ _ _ | exact gn0 _ _)) rfl (by first | rfl | assumption) (by first | rfl | exact spl_set _ _ _ (by first | assumption | omega | (simp; omega)))) ?_
        refine OkO.assign rfl rfl ?_
        refine OkO.assign rfl rfl ?_
        refine OkO.nil ?_
        refine Ok.region ?_
        refine OkO.move rfl rfl ?_
        refine OkO.bin rfl rfl rfl (bin_add (by omega) (by omega)) ?_
        refine OkO.assign rfl rfl ?_
        refine OkO.nil ?_
        refine ⟨1001 - (k + 1), by omega, k + 1, ruleOf t (k : Int), priceK t l k, true, rfl, by omega, hbs.new (k := k) (fun j => by omega) hfk (fun h9 => by rw [hfd] at h9; cases h9), Has.of (by kernel_rfl), rfl, (by (try dsimp only); repeat (first | exact hg | exact hG | apply Grow.new | (refine Grow.put ?_ _ (by first | omega | (simp only [hNw, hPt]; omega))))), (by first | assumption | (simp (disch := first | omega | (simp only [hNw, hPt]; omega)) only [gn0, gn1, gn2, gn3, gn4, gn5, gp0, gno, gpo] <;> first | rfl | assumption | exact gp0 _ _ _ | exact gn0 _ _)), (by first | assumption | (simp (disch := first | omega | (simp only [hNw, hPt]; omega)) only [gn0, gn1, gn2, gn3, gn4, gn5, gp0, gno, gpo] <;> first | rfl | assumption | exact gp0 _ _ _ | exact gn0 _ _)), by simp; omega⟩
      · -- false g3
        have hfd : fd = true := by (cases fd; (· simp at g3); (· rfl))
        refine OkO.move rfl rfl ?_
        refine OkO.move rfl rfl ?_
        refine OkO.bin rfl rfl rfl (bin_leq _ _) ?_
        refine OkO.pick (b := false) rfl rfl nofun (fun _ => rfl) ?_
        refine OkO.pick (b := true) rfl rfl (fun _ => rfl) nofun ?_
        refine OkO.nil ?_
        refine Ok.cond rfl (fun h4 => ?_) (fun h4 => ?_)
        · -- yes h4
          have hle : priceK t l k ≤ p := by simpa using h4
          refine Ok.region ?_
          refine OkO.load rfl rfl (ldg (n := 3) (by kernel_rfl) (by first | assumption | (simp (disch := first | omega | (simp only [hNw, hPt]; omega)) only [gn0, gn1, gn2, gn3, gn4, gn5, gp0, gno, gpo] <;> first | rfl | assumption | exact gp0 _ _ _ | exact gn0 _ _)) (by first | rfl | assumption)) ?_
          refine OkO.move rfl rfl ?_
          refine OkO.store rfl rfl rfl (stc (n := 3) (ag := true) (by kernel_rfl) (by first | assumption | (simp (disch := first | omega | (simp only [hNw, hPt]; omega)) only [gn0, gn1, gn2, gn3, gn4, gn5, gp0, gno, gpo] <;> first | rfl | assumption | exact gp0 _ _ _ | exact gn0 _ _)) rfl (by first | rfl | assumption) (by first | rfl | exact spl_set _ _ _ (by first | assumption | omega | (simp; omega)))) ?_
          refine OkO.assign rfl rfl ?_
          refine OkO.assign rfl rfl ?_
          refine OkO.nil ?_
          refine Ok.region ?_
          refine OkO.move rfl rfl ?_
          refine OkO.bin rfl rfl rfl (bin_add (by omega) (by omega)) ?_
          refine OkO.assign rfl rfl ?_
          refine OkO.nil ?_
          refine ⟨1001 - (k + 1), by omega, k + 1, ruleOf t (k : Int), priceK t l k, true, rfl, by omega, hbs.new (k := k) (fun j => by omega) hfk (fun _ => by rcases Int.lt_or_eq_of_le hle with h9 | h9; (· exact .inl h9); (· exact .inr ⟨h9, fun j hj => by omega⟩)), Has.of (by kernel_rfl), rfl, (by (try dsimp only); repeat (first | exact hg | exact hG | apply Grow.new | (refine Grow.put ?_ _ (by first | omega | (simp only [hNw, hPt]; omega))))), (by first | assumption | (simp (disch := first | omega | (simp only [hNw, hPt]; omega)) only [gn0, gn1, gn2, gn3, gn4, gn5, gp0, gno, gpo] <;> first | rfl | assumption | exact gp0 _ _ _ | exact gn0 _ _)), (by first | assumption | (simp (disch := first | omega | (simp only [hNw, hPt]; omega)) only [gn0, gn1, gn2, gn3, gn4, gn5, gp0, gno, gpo] <;> first | rfl | assumption | exact gp0 _ _ _ | exact gn0 _ _)), by simp; omega⟩
        · -- no h4
          have hle : ¬ priceK t l k ≤ p := by simpa using h4
          refine Ok.skip ?_
          refine Ok.region ?_
          refine OkO.move rfl rfl ?_
          refine OkO.bin rfl rfl rfl (bin_add (by omega) (by omega)) ?_
          refine OkO.assign rfl rfl ?_
          refine OkO.nil ?_
          refine ⟨1001 - (k + 1), by omega, k + 1, q, p, fd, rfl, by omega, hbs.same (k := k) (fun j => by omega) (fun _ => ⟨hfd, .inl (by omega)⟩), Has.of (by kernel_rfl), rfl, (by (try dsimp only); repeat (first | exact hg | exact hG | apply Grow.new | (refine Grow.put ?_ _ (by first | omega | (simp only [hNw, hPt]; omega))))), (by first | assumption | (simp (disch := first | omega | (simp only [hNw, hPt]; omega)) only [gn0, gn1, gn2, gn3, gn4, gn5, gp0, gno, gpo] <;> first | rfl | assumption | exact gp0 _ _ _ | exact gn0 _ _)), (by first | assumption | (simp (disch := first | omega | (simp only [hNw, hPt]; omega)) only [gn0, gn1, gn2, gn3, gn4, gn5, gp0, gno, gpo] <;> first | rfl | assumption | exact gp0 _ _ _ | exact gn0 _ _)), by simp; omega⟩
    · -- false g2
      have hfk : fineK t l k = false := g2
      refine OkO.skip rfl ?_
      refine OkO.skip rfl ?_
      refine OkO.skip rfl ?_
      refine OkO.skip rfl ?_
      refine OkO.skip rfl ?_
      refine OkO.skip rfl ?_
      refine OkO.skip rfl ?_
      refine OkO.pick (b := false) rfl rfl nofun (fun _ => rfl) ?_
      refine OkO.nil ?_
      refine Ok.condF rfl ?_
      refine Ok.skip ?_
      refine Ok.region ?_
      refine OkO.move rfl rfl ?_
      refine OkO.bin rfl rfl rfl (bin_add (by omega) (by omega)) ?_
      refine OkO.assign rfl rfl ?_
      refine OkO.nil ?_
      refine ⟨1001 - (k + 1), by omega, k + 1, q, p, fd, rfl, by omega, hbs.same (k := k) (fun j => by omega) (fun h9 => by rw [hfk] at h9; cases h9), Has.of (by kernel_rfl), rfl, (by (try dsimp only); repeat (first | exact hg | exact hG | apply Grow.new | (refine Grow.put ?_ _ (by first | omega | (simp only [hNw, hPt]; omega))))), (by first | assumption | (simp (disch := first | omega | (simp only [hNw, hPt]; omega)) only [gn0, gn1, gn2, gn3, gn4, gn5, gp0, gno, gpo] <;> first | rfl | assumption | exact gp0 _ _ _ | exact gn0 _ _)), (by first | assumption | (simp (disch := first | omega | (simp only [hNw, hPt]; omega)) only [gn0, gn1, gn2, gn3, gn4, gn5, gp0, gno, gpo] <;> first | rfl | assumption | exact gp0 _ _ _ | exact gn0 _ _)), by simp; omega⟩
  · -- no h1
    have hk9 : k = 1001 := by (have h9 : ¬ (k : Int) ≤ 1000 := by simpa using h1); omega
    subst hk9
    refine Ok.exit ?_
    refine Ok.seq ?_
    refine Ok.region ?_
    refine OkO.load rfl rfl (ldg (n := 3) (by kernel_rfl) (by first | assumption | (simp (disch := first | omega | (simp only [hNw, hPt]; omega)) only [gn0, gn1, gn2, gn3, gn4, gn5, gp0, gno, gpo] <;> first | rfl | assumption | exact gp0 _ _ _ | exact gn0 _ _)) (by first | rfl | assumption)) ?_
    refine OkO.move rfl rfl ?_
    refine OkO.move rfl rfl ?_
    refine OkO.store rfl rfl rfl (stc (n := 3) (ag := true) (by kernel_rfl) (by first | assumption | (simp (disch := first | omega | (simp only [hNw, hPt]; omega)) only [gn0, gn1, gn2, gn3, gn4, gn5, gp0, gno, gpo] <;> first | rfl | assumption | exact gp0 _ _ _ | exact gn0 _ _)) rfl (by first | rfl | assumption) (by first | rfl | exact spl_set _ _ _ (by first | assumption | omega | (simp; omega)))) ?_
    refine OkO.assign rfl rfl ?_
    refine OkO.assign rfl rfl ?_
    refine OkO.nil ?_
    refine Ok.ret ⟨.inr rfl, ?_⟩
    exact ⟨_, _, back_flat (resV_cell rfl (ldg (n := 3) (by kernel_rfl) (by first | assumption | (simp (disch := first | omega | (simp only [hNw, hPt]; omega)) only [gn0, gn1, gn2, gn3, gn4, gn5, gp0, gno, gpo] <;> first | rfl | assumption)) (by first | rfl | assumption)) (resV_tmp rfl (resV_tmp rfl resV_nil))) (rfl) rfl (by rw [← hW]; exact (by (try dsimp only); repeat (first | exact hg | exact hG | apply Grow.new | (refine Grow.put ?_ _ (by first | omega | (simp only [hNw, hPt]; omega)))))), q, p, fd, rfl, rfl, hbs⟩
theorem c50 (m : Nat) (v : AV) (l : List Sea) (t : Trm) (H : Heap) (hS : SeasAt H v l) (hl9 : l.length ≤ 10) (hs9 : ∀ s ∈ l, s.sp.length ≤ 60) (ht : t.ok = true) : ∃ v' H', RR (m + 3) (.fn 50 [v, .agg t.c]) H = some (v', H') ∧ ∃ (q : Rul) (p : Int) (fd : Bool), v' = .tup [.agg q.c, I p, .bool fd] ∧ H' = H ∧ BS t l (fun k => k ≤ 1000 ∧ 1000 < k + 1001) q p fd := by
  show ∃ v' H', evFn Try.prog (RR (m + 2)) 50 [v, .agg t.c] H = some (v', H') ∧ ∃ (q : Rul) (p : Int) (fd : Bool), v' = .tup [.agg q.c, I p, .bool fd] ∧ H' = H ∧ BS t l (fun k => k ≤ 1000 ∧ 1000 < k + 1001) q p fd
  refine fn_okE Try.func50 rfl rfl (by kernel_rfl) (by kernel_rfl) ?_
  obtain ⟨W, hW⟩ : ∃ W : Heap, W = ⟨H.t, H.next, H.next⟩ := ⟨_, rfl⟩
  have hg : ∀ n, W.get n = H.get n := fun n => by rw [hW]; rfl
  have hN : W.next = H.next := by rw [hW]
  have hE : ∀ G, Grow W G → Ext H G := fun G g => ⟨by rw [← hN]; exact g.next, fun n k => by rw [g.get n (by rw [hN]; exact k), hg]⟩
  have hG : Grow W W := Grow.refl (by rw [hW]; exact Nat.le_refl _)
  rw [← hW]
  have hlen := hS.len
  have htf := Trm.ok_facts ht
  refine Ok.seq ?_
  refine Ok.region ?_
  refine OkO.box rfl rfl ?_
  refine OkO.alloc (z := [.int .i64 0, .int .i64 0, .int .i64 0]) rfl (by kernel_rfl) ?_
  refine OkO.assign rfl rfl ?_
  refine OkO.assign rfl rfl ?_
  refine OkO.nil ?_
  refine Ok.seq ?_
  refine Ok.region ?_
  refine OkO.build (z := [.int .i64 0, .int .i64 0, .int .i64 0]) (pl := [(0, 1), (1, 1), (2, 1)]) rfl (by kernel_rfl) rfl rfl ?_
  refine OkO.alloc (z := [.int .i64 0, .int .i64 0, .int .i64 0]) rfl (by kernel_rfl) ?_
  refine OkO.store rfl rfl rfl (stc (n := 3) (ag := true) (by kernel_rfl) (by first | assumption | (simp (disch := first | omega | (simp only [hNw, hPt]; omega)) only [gn0, gn1, gn2, gn3, gn4, gn5, gp0, gno, gpo] <;> first | rfl | assumption | exact gp0 _ _ _ | exact gn0 _ _)) rfl (by first | rfl | assumption) (by first | rfl | exact spl_set _ _ _ (by first | assumption | omega | (simp; omega)))) ?_
  refine OkO.assign rfl rfl ?_
  refine OkO.assign rfl rfl ?_
  refine OkO.nil ?_
  refine Ok.seq ?_
  refine Ok.seq ?_
  refine Ok.region ?_
  refine OkO.assign rfl rfl ?_
  refine OkO.nil ?_
  refine Ok.block ?_
  refine Ok.loop (fun n s => ∃ (j : Nat) (q : Rul) (p : Int) (fd : Bool), n = 1001 - j ∧ j ≤ 1001 ∧ BS t l (fun k => k ≤ 1000 ∧ 1000 < k + j) q p fd ∧ Has 6 [(0, v), (3, .ptr W.next 0), (4, .ptr (W.next + 1) 0), (7, .ptr (W.next + 2) 0), (8, I p), (9, .bool fd), (10, I (1000 - (j : Int)))] s.T ∧ s.D = [] ∧ Grow W s.H ∧ s.H.get W.next = some (.cells t.c 80) ∧ s.H.get (W.next + 1) = some (.cells [I 0, I 0, I 0] 62) ∧ s.H.get (W.next + 2) = some (.cells q.c 62) ∧ W.next + 3 ≤ s.H.next) (1001) (by unfold loopFuel; omega)
    ⟨0, ⟨0, 0, 0⟩, 0, false, rfl, Nat.zero_le _, .inl ⟨rfl, rfl, rfl, fun k hk => by omega⟩, Has.of (by kernel_rfl), rfl, (by (try dsimp only); repeat (first | exact hG | apply Grow.new | (refine Grow.put ?_ _ (by first | omega | (simp only [hNw, hPt]; omega))))), (by first | assumption | (simp (disch := first | omega | (simp only [hNw, hPt]; omega)) only [gn0, gn1, gn2, gn3, gn4, gn5, gp0, gno, gpo] <;> first | rfl | assumption | exact gp0 _ _ _ | exact gn0 _ _)), (by first | assumption | (simp (disch := first | omega | (simp only [hNw, hPt]; omega)) only [gn0, gn1, gn2, gn3, gn4, gn5, gp0, gno, gpo] <;> first | rfl | assumption | exact gp0 _ _ _ | exact gn0 _ _)), (by first | assumption | (simp (disch := first | omega | (simp only [hNw, hPt]; omega)) only [gn0, gn1, gn2, gn3, gn4, gn5, gp0, gno, gpo] <;> first | rfl | assumption | exact gp0 _ _ _ | exact gn0 _ _)), by simp⟩ ?_
  rintro n ⟨T, D, G⟩ ⟨j, q, p, fd, hn, hj, hbs, ⟨f, hT⟩, hD, hg, hb0, hb1, hb2, hn2p⟩
  dsimp only at *
  subst hT hD
  have hgn := hg.next
  have eb0 : (G.get W.next).bind AObj.cs = some t.c := by rw [hb0]; rfl
  have eb2 : (G.get (W.next + 2)).bind AObj.cs = some q.c := by rw [hb2]; rfl
  refine Ok.seq ?_
  refine Ok.seq ?_
  refine Ok.region ?_
  refine OkO.move rfl rfl ?_
  refine OkO.bin rfl rfl rfl (bin_geq _ _) ?_
  refine OkO.nil ?_
  refine Ok.cond rfl (fun h1 => ?_) (fun h1 => ?_)
  · -- yes h1
    have hj9 : j ≤ 1000 := by (have h9 : (0 : Int) ≤ 1000 - (j : Int) := by simpa using h1); omega
    obtain ⟨k, hk⟩ : ∃ k, k = 1000 - j := ⟨_, rfl⟩
    have ek : (1000 : Int) - (j : Int) = (k : Int) := by omega
    rw [ek]
    refine Ok.skip ?_
    refine Ok.seq ?_
    refine Ok.block ?_
    refine Ok.seq ?_
    refine Ok.region ?_
    refine OkO.move rfl rfl ?_
    refine OkO.move rfl rfl ?_
    refine OkO.fieldAddr (o := 3) rfl (by kernel_rfl) rfl ?_
    refine OkO.load rfl rfl (lda (n := 1) (by kernel_rfl) (by first | assumption | (simp (disch := first | omega | (simp only [hNw, hPt]; omega)) only [gn0, gn1, gn2, gn3, gn4, gn5, gp0, gno, gpo] <;> first | rfl | assumption | exact gp0 _ _ _ | exact gn0 _ _)) (by first | rfl | assumption)) ?_
    refine OkO.bin rfl rfl rfl (bin_sub (by omega) (by omega)) ?_
    refine OkO.builtin rfl rfl rfl (builtin_max2c _ _) ?_
    refine OkO.fieldAddr (o := 4) rfl (by kernel_rfl) rfl ?_
    refine OkO.load rfl rfl (lda (n := 1) (by kernel_rfl) (by first | assumption | (simp (disch := first | omega | (simp only [hNw, hPt]; omega)) only [gn0, gn1, gn2, gn3, gn4, gn5, gp0, gno, gpo] <;> first | rfl | assumption | exact gp0 _ _ _ | exact gn0 _ _)) (by first | rfl | assumption)) ?_
    refine OkO.build (z := [.int .i64 0, .int .i64 0, .int .i64 0]) (pl := [(0, 1), (1, 1), (2, 1)]) rfl (by kernel_rfl) rfl rfl ?_
    refine OkO.alloc (z := [.int .i64 0, .int .i64 0, .int .i64 0]) rfl (by kernel_rfl) ?_
    refine OkO.store rfl rfl rfl (stc (n := 3) (ag := true) (by kernel_rfl) (by first | assumption | (simp (disch := first | omega | (simp only [hNw, hPt]; omega)) only [gn0, gn1, gn2, gn3, gn4, gn5, gp0, gno, gpo] <;> first | rfl | assumption | exact gp0 _ _ _ | exact gn0 _ _)) rfl (by first | rfl | assumption) (by first | rfl | exact spl_set _ _ _ (by first | assumption | omega | (simp; omega)))) ?_
    refine OkO.nil ?_
    refine Ok.seq ?_
    refine Ok.region ?_
    refine OkO.move rfl rfl ?_
    refine OkO.load rfl rfl (ldg (n := 5) (by kernel_rfl) (by first | assumption | (simp (disch := first | omega | (simp only [hNw, hPt]; omega)) only [gn0, gn1, gn2, gn3, gn4, gn5, gp0, gno, gpo] <;> first | rfl | assumption | exact gp0 _ _ _ | exact gn0 _ _)) (by first | rfl | assumption)) ?_
    refine OkO.load rfl rfl (ldg (n := 3) (by kernel_rfl) (by first | assumption | (simp (disch := first | omega | (simp only [hNw, hPt]; omega)) only [gn0, gn1, gn2, gn3, gn4, gn5, gp0, gno, gpo] <;> first | rfl | assumption | exact gp0 _ _ _ | exact gn0 _ _)) (by first | rfl | assumption)) ?_
    refine OkO.callV rfl rfl rfl rfl rfl ((c48 (m + 0) v l t (ruleOf t (k : Int)) _ (((hS.ext (hE _ hg))).ext (by (try dsimp only); repeat (first | exact Ext.refl _ | assumption | apply Ext.new | (refine Ext.put ?_ _ (by first | omega | (simp only [hNw, hPt]; omega)))))) hl9 hs9 ht (ruleOf_ok ht (by omega))).trans (show _ = some (AV.tup [I (priceK t l k), .bool (fineK t l k)], _) from rfl)) ?_ -- "sackung/sackungref04.Price"
    refine OkO.move rfl rfl ?_
    refine OkO.extract rfl rfl rfl ?_
    refine OkO.extract rfl rfl rfl ?_
    refine OkO.assign rfl rfl ?_
    refine OkO.assign rfl rfl ?_
    refine OkO.nil ?_
    refine Ok.seq ?_
    refine Ok.region ?_
    refine OkO.move rfl rfl ?_
    refine OkO.move rfl rfl ?_
    refine OkO.split (d := 36) rfl (fun g2 => ?_) (fun g2 => ?_)
    · -- true g2
      have hfk : fineK t l k = true := g2
      refine OkO.move rfl rfl ?_
      refine OkO.un rfl rfl rfl ?_
      refine OkO.move rfl rfl ?_
      refine OkO.split (d := 39) rfl (fun g3 => ?_) (fun g3 => ?_)
      · -- true g3
        have hfd : fd = false := by simpa using g3
        refine OkO.skip rfl ?_
        refine OkO.skip rfl ?_
        refine OkO.skip rfl ?_
        refine OkO.pick (b := true) rfl rfl (fun _ => rfl) nofun ?_
        refine OkO.pick (b := true) rfl rfl (fun _ => rfl) nofun ?_
        refine OkO.nil ?_
        refine Ok.condT rfl ?_
        refine Ok.region ?_
        refine OkO.load rfl rfl (ldg (n := 3) (by kernel_rfl) (by first | assumption | (simp (disch := first | omega | (simp only [hNw, hPt]; omega)) only [gn0, gn1, gn2, gn3, gn4, gn5, gp0, gno, gpo] <;> first | rfl | assumption | exact gp0 _ _ _ | exact gn0 _ _)) (by first | rfl | assumption)) ?_
        refine OkO.move rfl rfl ?_
        refine OkO.store rfl rfl rfl (stc (n := 3) (ag := true) (by kernel_rfl) (by first | assumption | (simp (disch := first | omega | (simp only [hNw, hPt]; omega)) only [gn0, gn1, gn2, gn3, gn4, gn5, gp0, gno, gpo] <;> first | rfl | assumption | exact gp0 _ _ _ | exact gn0 _ _)) rfl (by first | rfl | assumption) (by first | rfl | exact spl_set _ _ _ (by first | assumption | omega | (simp; omega)))) ?_
        refine OkO.assign rfl rfl ?_
        refine OkO.assign rfl rfl ?_
        refine OkO.nil ?_
        refine Ok.region ?_
        refine OkO.move rfl rfl ?_
        refine OkO.bin rfl rfl rfl (bin_sub (by omega) (by omega)) ?_
        refine OkO.assign rfl rfl ?_
        refine OkO.nil ?_
        skip
        rw [show (k : Int) - 1 = 1000 - ((j + 1 : Nat) : Int) from by omega]
        refine ⟨1001 - (j + 1), by omega, j + 1, ruleOf t (k : Int), priceK t l k, true, rfl, by omega, hbs.new (k := k) (fun i => by omega) hfk (fun h9 => by rw [hfd] at h9; cases h9), Has.of (by kernel_rfl), rfl, (by (try dsimp only); repeat (first | exact hg | exact hG | apply Grow.new | (refine Grow.put ?_ _ (by first | omega | (simp only [hNw, hPt]; omega))))), (by first | assumption | (simp (disch := first | omega | (simp only [hNw, hPt]; omega)) only [gn0, gn1, gn2, gn3, gn4, gn5, gp0, gno, gpo] <;> first | rfl | assumption | exact gp0 _ _ _ | exact gn0 _ _)), (by first | assumption | (simp (disch := first | omega | (simp only [hNw, hPt]; omega)) only [gn0, gn1, gn2, gn3, gn4, gn5, gp0, gno, gpo] <;> first | rfl | assumption | exact gp0 _ _ _ | exact gn0 _ _)), (by first | assumption | (simp (disch := first | omega | (simp only [hNw, hPt]; omega)) only [gn0, gn1, gn2, gn3, gn4, gn5, gp0, gno, gpo] <;> first | rfl | assumption | exact gp0 _ _ _ | exact gn0 _ _)), by simp; omega⟩
      · -- false g3
        have hfd : fd = true := by simpa using g3
        refine OkO.move rfl rfl ?_
        refine OkO.move rfl rfl ?_
        refine OkO.bin rfl rfl rfl (bin_lss _ _) ?_
        refine OkO.pick (b := false) rfl rfl nofun (fun _ => rfl) ?_
        refine OkO.pick (b := true) rfl rfl (fun _ => rfl) nofun ?_
        refine OkO.nil ?_
        refine Ok.cond rfl (fun h4 => ?_) (fun h4 => ?_)
        · -- yes h4
          have hle : priceK t l k < p := by simpa using h4
          refine Ok.region ?_
          refine OkO.load rfl rfl (ldg (n := 3) (by kernel_rfl) (by first | assumption | (simp (disch := first | omega | (simp only [hNw, hPt]; omega)) only [gn0, gn1, gn2, gn3, gn4, gn5, gp0, gno, gpo] <;> first | rfl | assumption | exact gp0 _ _ _ | exact gn0 _ _)) (by first | rfl | assumption)) ?_
          refine OkO.move rfl rfl ?_
          refine OkO.store rfl rfl rfl (stc (n := 3) (ag := true) (by kernel_rfl) (by first | assumption | (simp (disch := first | omega | (simp only [hNw, hPt]; omega)) only [gn0, gn1, gn2, gn3, gn4, gn5, gp0, gno, gpo] <;> first | rfl | assumption | exact gp0 _ _ _ | exact gn0 _ _)) rfl (by first | rfl | assumption) (by first | rfl | exact spl_set _ _ _ (by first | assumption | omega | (simp; omega)))) ?_
          refine OkO.assign rfl rfl ?_
          refine OkO.assign rfl rfl ?_
          refine OkO.nil ?_
          refine Ok.region ?_
          refine OkO.move rfl rfl ?_
          refine OkO.bin rfl rfl rfl (bin_sub (by omega) (by omega)) ?_
          refine OkO.assign rfl rfl ?_
          refine OkO.nil ?_
          skip
          rw [show (k : Int) - 1 = 1000 - ((j + 1 : Nat) : Int) from by omega]
          refine ⟨1001 - (j + 1), by omega, j + 1, ruleOf t (k : Int), priceK t l k, true, rfl, by omega, hbs.new (k := k) (fun i => by omega) hfk (fun _ => .inl hle), Has.of (by kernel_rfl), rfl, (by (try dsimp only); repeat (first | exact hg | exact hG | apply Grow.new | (refine Grow.put ?_ _ (by first | omega | (simp only [hNw, hPt]; omega))))), (by first | assumption | (simp (disch := first | omega | (simp only [hNw, hPt]; omega)) only [gn0, gn1, gn2, gn3, gn4, gn5, gp0, gno, gpo] <;> first | rfl | assumption | exact gp0 _ _ _ | exact gn0 _ _)), (by first | assumption | (simp (disch := first | omega | (simp only [hNw, hPt]; omega)) only [gn0, gn1, gn2, gn3, gn4, gn5, gp0, gno, gpo] <;> first | rfl | assumption | exact gp0 _ _ _ | exact gn0 _ _)), (by first | assumption | (simp (disch := first | omega | (simp only [hNw, hPt]; omega)) only [gn0, gn1, gn2, gn3, gn4, gn5, gp0, gno, gpo] <;> first | rfl | assumption | exact gp0 _ _ _ | exact gn0 _ _)), by simp; omega⟩
        · -- no h4
          have hle : ¬ priceK t l k < p := by simpa using h4
          refine Ok.skip ?_
          refine Ok.region ?_
          refine OkO.move rfl rfl ?_
          refine OkO.bin rfl rfl rfl (bin_sub (by omega) (by omega)) ?_
          refine OkO.assign rfl rfl ?_
          refine OkO.nil ?_
          skip
          rw [show (k : Int) - 1 = 1000 - ((j + 1 : Nat) : Int) from by omega]
          refine ⟨1001 - (j + 1), by omega, j + 1, q, p, fd, rfl, by omega, hbs.same (k := k) (fun i => by omega) (fun _ => ⟨hfd, by rcases Int.lt_or_eq_of_le (Int.not_lt.1 hle) with h9 | h9; (· exact .inl h9); (· exact .inr ⟨h9, fun i hi => by omega⟩)⟩), Has.of (by kernel_rfl), rfl, (by (try dsimp only); repeat (first | exact hg | exact hG | apply Grow.new | (refine Grow.put ?_ _ (by first | omega | (simp only [hNw, hPt]; omega))))), (by first | assumption | (simp (disch := first | omega | (simp only [hNw, hPt]; omega)) only [gn0, gn1, gn2, gn3, gn4, gn5, gp0, gno, gpo] <;> first | rfl | assumption | exact gp0 _ _ _ | exact gn0 _ _)), (by first | assumption | (simp (disch := first | omega | (simp only [hNw, hPt]; omega)) only [gn0, gn1, gn2, gn3, gn4, gn5, gp0, gno, gpo] <;> first | rfl | assumption | exact gp0 _ _ _ | exact gn0 _ _)), (by first | assumption | (simp (disch := first | omega | (simp only [hNw, hPt]; omega)) only [gn0, gn1, gn2, gn3, gn4, gn5, gp0, gno, gpo] <;> first | rfl | assumption | exact gp0 _ _ _ | exact gn0 _ _)), by simp; omega⟩
    · -- false g2
      have hfk : fineK t l k = false := g2
      refine OkO.skip rfl ?_
      refine OkO.skip rfl ?_
      refine OkO.skip rfl ?_
      refine OkO.skip rfl ?_
      refine OkO.skip rfl ?_
      refine OkO.skip rfl ?_
      refine OkO.skip rfl ?_
      refine OkO.pick (b := false) rfl rfl nofun (fun _ => rfl) ?_
      refine OkO.nil ?_
      refine Ok.condF rfl ?_
      refine Ok.skip ?_
      refine Ok.region ?_
      refine OkO.move rfl rfl ?_
      refine OkO.bin rfl rfl rfl (bin_sub (by omega) (by omega)) ?_
      refine OkO.assign rfl rfl ?_
      refine OkO.nil ?_
      skip
      rw [show (k : Int) - 1 = 1000 - ((j + 1 : Nat) : Int) from by omega]
      refine ⟨1001 - (j + 1), by omega, j + 1, q, p, fd, rfl, by omega, hbs.same (k := k) (fun i => by omega) (fun h9 => by rw [hfk] at h9; cases h9), Has.of (by kernel_rfl), rfl, (by (try dsimp only); repeat (first | exact hg | exact hG | apply Grow.new | (refine Grow.put ?_ _ (by first | omega | (simp only [hNw, hPt]; omega))))), (by first | assumption | (simp (disch := first | omega | (simp only [hNw, hPt]; omega)) only [gn0, gn1, gn2, gn3, gn4, gn5, gp0, gno, gpo] <;> first | rfl | assumption | exact gp0 _ _ _ | exact gn0 _ _)), (by first | assumption | (simp (disch := first | omega | (simp only [hNw, hPt]; omega)) only [gn0, gn1, gn2, gn3, gn4, gn5, gp0, gno, gpo] <;> first | rfl | assumption | exact gp0 _ _ _ | exact gn0 _ _)), (by first | assumption | (simp (disch := first | omega | (simp only [hNw, hPt]; omega)) only [gn0, gn1, gn2, gn3, gn4, gn5, gp0, gno, gpo] <;> first | rfl | assumption | exact gp0 _ _ _ | exact gn0 _ _)), by simp; omega⟩
  · -- no h1
    have hj9 : j = 1001 := by (have h9 : ¬ (0 : Int) ≤ 1000 - (j : Int) := by simpa using h1); omega
    subst hj9
    refine Ok.exit ?_
    refine Ok.seq ?_
    refine Ok.region ?_
    refine OkO.load rfl rfl (ldg (n := 3) (by kernel_rfl) (by first | assumption | (simp (disch := first | omega | (simp only [hNw, hPt]; omega)) only [gn0, gn1, gn2, gn3, gn4, gn5, gp0, gno, gpo] <;> first | rfl | assumption | exact gp0 _ _ _ | exact gn0 _ _)) (by first | rfl | assumption)) ?_
    refine OkO.move rfl rfl ?_
    refine OkO.move rfl rfl ?_
    refine OkO.store rfl rfl rfl (stc (n := 3) (ag := true) (by kernel_rfl) (by first | assumption | (simp (disch := first | omega | (simp only [hNw, hPt]; omega)) only [gn0, gn1, gn2, gn3, gn4, gn5, gp0, gno, gpo] <;> first | rfl | assumption | exact gp0 _ _ _ | exact gn0 _ _)) rfl (by first | rfl | assumption) (by first | rfl | exact spl_set _ _ _ (by first | assumption | omega | (simp; omega)))) ?_
    refine OkO.assign rfl rfl ?_
    refine OkO.assign rfl rfl ?_
    refine OkO.nil ?_
    refine Ok.ret ⟨.inr rfl, ?_⟩
    exact ⟨_, _, back_flat (resV_cell rfl (ldg (n := 3) (by kernel_rfl) (by first | assumption | (simp (disch := first | omega | (simp only [hNw, hPt]; omega)) only [gn0, gn1, gn2, gn3, gn4, gn5, gp0, gno, gpo] <;> first | rfl | assumption)) (by first | rfl | assumption)) (resV_tmp rfl (resV_tmp rfl resV_nil))) (rfl) rfl (by rw [← hW]; exact (by (try dsimp only); repeat (first | exact hg | exact hG | apply Grow.new | (refine Grow.put ?_ _ (by first | omega | (simp only [hNw, hPt]; omega)))))), q, p, fd, rfl, rfl, hbs⟩
end
end Go.Ev

set_option maxRecDepth 100000
set_option linter.unusedSimpArgs false
set_option linter.unusedVariables false
namespace Go.Ev
open Go Go.Proofs
noncomputable section
theorem BS_exists (t : Trm) (l : List Sea) : ∀ n : Nat, ∃ q p fd, BS t l (fun j => j < n) q p fd
  | 0 => ⟨_, _, _, .inl ⟨rfl, rfl, rfl, fun j hj => absurd hj (Nat.not_lt_zero j)⟩⟩
  | n + 1 => by
    obtain ⟨q, p, fd, h⟩ := BS_exists t l n
    have hS : ∀ j, j < n + 1 ↔ j < n ∨ j = n := fun j => by omega
    cases hf : fineK t l n with
    | false => exact ⟨_, _, _, h.same (k := n) hS fun h9 => by rw [hf] at h9; cases h9⟩
    | true =>
      cases hfd : fd with
      | false => exact ⟨_, _, _, h.new (k := n) hS hf fun h9 => by rw [hfd] at h9; cases h9⟩
      | true =>
        by_cases hle : priceK t l n ≤ p
        · refine ⟨_, _, _, h.new (k := n) hS hf fun _ => ?_⟩
          rcases Int.lt_or_eq_of_le hle with h9 | h9
          · exact .inl h9
          · exact .inr ⟨h9, fun j hj => by omega⟩
        · exact ⟨_, _, _, h.same (k := n) hS fun _ => ⟨hfd, .inl (by omega)⟩⟩
/-- The Start of the best rule. -/
def BestAt (t : Trm) (l : List Sea) (st : Nat) : Prop := st ≤ 1000 ∧ fineK t l st = true ∧ ∀ k, k ≤ 1000 → fineK t l k = true → priceK t l st < priceK t l k ∨ (priceK t l st = priceK t l k ∧ k ≤ st)
theorem best_or (t : Trm) (l : List Sea) : (∀ k, k ≤ 1000 → fineK t l k = false) ∨ ∃ st, BestAt t l st := by
  obtain ⟨q, p, fd, h⟩ := BS_exists t l 1001
  rcases h with ⟨_, _, _, h4⟩ | ⟨_, st, h2, _, h4, h5, h6⟩
  · exact .inl fun k hk => h4 k (by omega)
  · exact .inr ⟨st, by omega, h5, fun k hk hf => by rw [← h4]; exact h6 k (by omega) hf⟩
theorem BS.noneF {t : Trm} {l : List Sea} {S : Nat → Prop} {q : Rul} {p : Int} {fd : Bool} (h : BS t l S q p fd) (hn : ∀ k, k ≤ 1000 → fineK t l k = false) (hS : ∀ j, S j → j ≤ 1000) : q = ⟨0, 0, 0⟩ ∧ p = 0 ∧ fd = false := by
  rcases h with ⟨h1, h2, h3, _⟩ | ⟨_, st, h2, _, _, h5, _⟩
  · exact ⟨h2, h3, h1⟩
  · rw [hn st (hS st h2)] at h5; cases h5
theorem BS.bestT {t : Trm} {l : List Sea} {S : Nat → Prop} {q : Rul} {p : Int} {fd : Bool} {st : Nat} (h : BS t l S q p fd) (hb : BestAt t l st) (hS : ∀ j, S j ↔ j ≤ 1000) : q = ruleOf t (st : Int) ∧ p = priceK t l st ∧ fd = true :=
  BS.uniq h (.inr ⟨rfl, st, hb.1, rfl, rfl, hb.2.1, hb.2.2⟩ : BS t l (fun j => j ≤ 1000) (ruleOf t (st : Int)) (priceK t l st) true) (fun j => (hS j).symm)
theorem bin68 (a c d a' c' d' : Int) : binT Try.prog .eql 68 (.agg [I a, I c, I d]) (.agg [I a', I c', I d']) = some (.bool (decide (a = a') && (decide (c = c') && decide (d = d')))) := by
  have e : binT Try.prog .eql 68 (.agg [I a, I c, I d]) (.agg [I a', I c', I d']) = ((match eqI a a' with | true => (match eqI c c' with | true => (match eqI d d' with | true => some true | false => some false) | false => some false) | false => some false).map .bool) := by kernel_rfl
  rw [e, eqI_eq, eqI_eq, eqI_eq]
  have h1 : (a == a') = decide (a = a') := rfl
  have h2 : (c == c') = decide (c = c') := rfl
  have h3 : (d == d') = decide (d = d') := rfl
  rw [h1, h2, h3]
  cases decide (a = a') <;> cases decide (c = c') <;> cases decide (d = d') <;> rfl
theorem c49F (m : Nat) (v : AV) (l : List Sea) (t : Trm) (H : Heap) (hS : SeasG H v l) (he : termErr l t = 0) (hl9 : l.length ≤ 10) (hs9 : ∀ s ∈ l, s.sp.length ≤ 60) (ht : t.ok = true) (hn : ∀ k, k ≤ 1000 → fineK t l k = false) : RR (m + 10) (.fn 49 [v, .agg t.c]) H = some (.tup [.agg [I 0, I 0, I 0], I 0, I 11], H) := by
  obtain ⟨v', H', h1, q, p, fd, rfl, rfl, hbs⟩ := c49K m v l t H hS he hl9 hs9 ht
  obtain ⟨rfl, rfl, rfl⟩ := hbs.noneF hn (fun j hj => by omega)
  exact h1
theorem c49T (m : Nat) (v : AV) (l : List Sea) (t : Trm) (st : Nat) (H : Heap) (hS : SeasG H v l) (he : termErr l t = 0) (hl9 : l.length ≤ 10) (hs9 : ∀ s ∈ l, s.sp.length ≤ 60) (ht : t.ok = true) (hb : BestAt t l st) : RR (m + 10) (.fn 49 [v, .agg t.c]) H = some (.tup [.agg (ruleOf t (st : Int)).c, I (priceK t l st), I 0], H) := by
  obtain ⟨v', H', h1, q, p, fd, rfl, rfl, hbs⟩ := c49K m v l t H hS he hl9 hs9 ht
  obtain ⟨rfl, rfl, rfl⟩ := hbs.bestT hb (fun j => by omega)
  exact h1
theorem c50F (m : Nat) (v : AV) (l : List Sea) (t : Trm) (H : Heap) (hS : SeasAt H v l) (hl9 : l.length ≤ 10) (hs9 : ∀ s ∈ l, s.sp.length ≤ 60) (ht : t.ok = true) (hn : ∀ k, k ≤ 1000 → fineK t l k = false) : RR (m + 3) (.fn 50 [v, .agg t.c]) H = some (.tup [.agg [I 0, I 0, I 0], I 0, .bool false], H) := by
  obtain ⟨v', H', h1, q, p, fd, rfl, rfl, hbs⟩ := c50 m v l t H hS hl9 hs9 ht
  obtain ⟨rfl, rfl, rfl⟩ := hbs.noneF hn (fun j hj => hj.1)
  exact h1
theorem c50T (m : Nat) (v : AV) (l : List Sea) (t : Trm) (st : Nat) (H : Heap) (hS : SeasAt H v l) (hl9 : l.length ≤ 10) (hs9 : ∀ s ∈ l, s.sp.length ≤ 60) (ht : t.ok = true) (hb : BestAt t l st) : RR (m + 3) (.fn 50 [v, .agg t.c]) H = some (.tup [.agg (ruleOf t (st : Int)).c, I (priceK t l st), .bool true], H) := by
  obtain ⟨v', H', h1, q, p, fd, rfl, rfl, hbs⟩ := c50 m v l t H hS hl9 hs9 ht
  obtain ⟨rfl, rfl, rfl⟩ := hbs.bestT hb (fun j => by omega)
  exact h1
theorem c8E (m : Nat) (v : AV) (l : List Sea) (t : Trm) (H : Heap) (hS : SeasAt H v l) (hsh : shortL l = true) (he : termErr l t ≠ 0) : RR (m + 13) (.fn 8 [v, .agg t.c]) H = some (.bool true, H) := by
  refine (R_fn _ _ _ _ _).trans ?_
  refine fn_ok Try.func8 rfl rfl (by kernel_rfl) (by kernel_rfl) ?_
  obtain ⟨W, hW⟩ : ∃ W : Heap, W = ⟨H.t, H.next, H.next⟩ := ⟨_, rfl⟩
  have hg : ∀ n, W.get n = H.get n := fun n => by rw [hW]; rfl
  have hN : W.next = H.next := by rw [hW]
  have hE : ∀ G, Grow W G → Ext H G := fun G g => ⟨by rw [← hN]; exact g.next, fun n k => by rw [g.get n (by rw [hN]; exact k), hg]⟩
  have hG : Grow W W := Grow.refl (by rw [hW]; exact Nat.le_refl _)
  rw [← hW]
  have hlen := hS.len
  have pv := lpl hlen
  have hsf := shortL_facts hsh
  refine Ok.seq ?_
  refine Ok.region ?_
  refine OkO.box rfl rfl ?_
  refine OkO.assign rfl rfl ?_
  refine OkO.nil ?_
  refine Ok.seq ?_
  refine Ok.seq ?_
  refine Ok.region ?_
  refine OkO.move rfl rfl ?_
  refine OkO.callV rfl rfl rfl rfl rfl ((c43 (m + 11) v l _ (hS.ext (hE _ (by (try dsimp only); repeat (first | exact hG | apply Grow.new | (refine Grow.put ?_ _ (by first | omega | (simp only [hNw, hPt]; omega)))))))).trans (by rw [hsh])) ?_ -- "sackung/sackunglaw04.Short"
  refine OkO.un rfl rfl rfl ?_
  refine OkO.nil ?_
  refine Ok.condF rfl ?_
  refine Ok.skip ?_
  refine Ok.seq ?_
  refine Ok.drawn [(0, true, []), (2, true, []), (9, true, [2]), (1, false, [2]), (3, false, []), (4, false, [2]), (5, true, []), (6, true, []), (7, true, []), (8, true, []), (10, false, []), (11, true, []), (12, true, [])] (by kernel_rfl) ?_
  refine OkP.step ?_
  refine OkO.move rfl rfl ?_
  refine OkO.nil ⟨rfl, ?_⟩
  refine OkP.step ?_
  refine OkO.load rfl rfl (ldg (n := 5) (by kernel_rfl) (by first | assumption | (simp (disch := first | omega | (simp only [hNw, hPt]; omega)) only [gn0, gn1, gn2, gn3, gn4, gn5, gp0, gno, gpo] <;> first | rfl | assumption | exact gp0 _ _ _ | exact gn0 _ _)) (by first | rfl | assumption)) ?_
  refine OkO.nil ⟨rfl, ?_⟩
  refine OkP.step ?_
  refine OkO.alloc (z := [.int .i64 0, .int .i64 0, .int .i64 0]) rfl (by kernel_rfl) ?_
  refine OkO.nil ⟨(sco (sld rfl rfl (ldg (n := 5) (by kernel_rfl) (by first | assumption | (simp (disch := first | omega | (simp only [hNw, hPt]; omega)) only [gn0, gn1, gn2, gn3, gn4, gn5, gp0, gno, gpo] <;> first | rfl | assumption | exact gp0 _ _ _ | exact gn0 _ _)) (by first | rfl | assumption)) rfl (eqr _ (by first | rfl | exact ps | exact lpl (by assumption) | (simp [AV.plain, AV.plains, AV.cells, AV.plain])))) rfl), ?_⟩
  refine OkP.step ?_
  refine OkO.callE rfl rfl rfl rfl rfl (c45 (m + 9) v l _ (hS.ext (hE _ (by (try dsimp only); repeat (first | exact hG | apply Grow.new | (refine Grow.put ?_ _ (by first | omega | (simp only [hNw, hPt]; omega))))))) (by omega) (fun s hs => by have := hsf.2 s hs; omega)) ?_ -- "sackung/sackunglaw04.Seasons"
  rintro wv Ha ⟨qa, ma⟩
  have n1 := qa.ext.next
  try simp only [hNw, hPt] at n1
  have gg1 : Grow W Ha := Grow.ret (by (try dsimp only); repeat (first | exact hG | apply Grow.new | (refine Grow.put ?_ _ (by first | omega | (simp only [hNw, hPt]; omega))))) qa
  have a1 : (Ha.get (W.next)).bind AObj.cs = some t.c := by rw [qa.ext.get _ (by first | omega | (simp only [hNw, hPt]; omega))]; first | assumption | (rw [gn0]; rfl) | (rw [get_put_eq] <;> rfl) | (simp (disch := first | omega | (simp only [hNw, hPt]; omega)) only [gn0, gn1, gn2, gn3, gn4, gn5, gp0, gno, gpo] <;> first | rfl | assumption | (rw [get_put_eq] <;> rfl))
  have o1 : Ha.get (W.next + 1) = some (.cells [I 0, I 0, I 0] 68) := by rw [qa.ext.get _ (by first | omega | (simp only [hNw, hPt]; omega))]; first | assumption | exact gn0 _ _ | (simp (disch := first | omega | (simp only [hNw, hPt]; omega)) only [gn0, gn1, gn2, gn3, gn4, gn5, gp0, gno, gpo] <;> first | rfl | assumption | exact gp0 _ _ _ | exact gn0 _ _)
  have hg9 := ma.g
  refine OkO.nil ⟨(sco (sld rfl rfl (ldg (n := 5) (by kernel_rfl) (by first | assumption | (simp (disch := first | omega | (simp only [hNw, hPt]; omega)) only [gn0, gn1, gn2, gn3, gn4, gn5, gp0, gno, gpo] <;> first | rfl | assumption | exact gp0 _ _ _ | exact gn0 _ _)) (by first | rfl | assumption)) rfl (eqr _ (by first | rfl | exact ps | exact lpl (by assumption) | (simp [AV.plain, AV.plains, AV.cells, AV.plain])))) rfl), ?_⟩
  refine OkP.step ?_
  refine OkO.callV rfl rfl rfl rfl rfl (c46 (m + 11) t _) ?_ -- "sackung/sackunglaw04.Terms"
  refine OkO.nil ⟨rfl, ?_⟩
  refine OkP.step ?_
  refine OkO.callV rfl rfl rfl rfl rfl (c49E (m + 2) wv l t _ (hg9.ext (by (try dsimp only); repeat (first | exact Ext.refl _ | exact Ext.refl _ | apply Ext.new | (refine Ext.put ?_ _ (by first | omega | (simp only [hNw, hPt]; omega)))))) (by omega) (fun s hs => by have := hsf.2 s hs; omega) he) ?_ -- "sackung/alarm.Best"
  refine OkO.nil ⟨(sco (sld rfl rfl (ldg (n := 5) (by kernel_rfl) (by first | assumption | (simp (disch := first | omega | (simp only [hNw, hPt]; omega)) only [gn0, gn1, gn2, gn3, gn4, gn5, gp0, gno, gpo] <;> first | rfl | assumption | exact gp0 _ _ _ | exact gn0 _ _)) (by first | rfl | assumption)) rfl (eqr _ (by first | rfl | exact ps | exact lpl (by assumption) | (simp [AV.plain, AV.plains, AV.cells, AV.plain])))) rfl), ?_⟩
  refine OkP.step ?_
  refine OkO.move rfl rfl ?_
  refine OkO.nil ⟨rfl, ?_⟩
  refine OkP.step ?_
  refine OkO.extract rfl rfl rfl ?_
  refine OkO.nil ⟨rfl, ?_⟩
  refine OkP.step ?_
  refine OkO.extract rfl rfl rfl ?_
  refine OkO.nil ⟨rfl, ?_⟩
  refine OkP.step ?_
  refine OkO.extract rfl rfl rfl ?_
  refine OkO.nil ⟨rfl, ?_⟩
  refine OkP.step ?_
  refine OkO.store rfl rfl rfl (stc (n := 3) (ag := true) (by kernel_rfl) (by first | assumption | (simp (disch := first | omega | (simp only [hNw, hPt]; omega)) only [gn0, gn1, gn2, gn3, gn4, gn5, gp0, gno, gpo] <;> first | rfl | assumption | exact gp0 _ _ _ | exact gn0 _ _)) rfl (by first | rfl | assumption) (by first | rfl | exact spl_set _ _ _ (by first | assumption | omega | (simp; omega)))) ?_
  refine OkO.nil ⟨rfl, ?_⟩
  refine OkP.step ?_
  refine OkO.assign rfl rfl ?_
  refine OkO.nil ⟨rfl, ?_⟩
  refine OkP.step ?_
  refine OkO.assign rfl rfl ?_
  refine OkO.nil ⟨rfl, ?_⟩
  refine OkP.nil ?_
  refine Ok.seq ?_
  refine Ok.seq ?_
  refine Ok.region ?_
  refine OkO.move rfl rfl ?_
  refine OkO.load rfl rfl (ldg (n := 5) (by kernel_rfl) (by first | assumption | (simp (disch := first | omega | (simp only [hNw, hPt]; omega)) only [gn0, gn1, gn2, gn3, gn4, gn5, gp0, gno, gpo] <;> first | rfl | assumption | exact gp0 _ _ _ | exact gn0 _ _)) (by first | rfl | assumption)) ?_
  refine OkO.callV rfl rfl rfl rfl rfl ((c47 (m + 5) v l t _ (hS.ext (hE _ (by (try dsimp only); repeat (first | exact gg1 | apply Grow.new | (refine Grow.put ?_ _ (by first | omega | (simp only [hNw, hPt]; omega))))))) (by omega) (fun s hs => by have := hsf.2 s hs; omega))) ?_ -- "sackung/sackunglaw04.priced"
  refine OkO.assign rfl rfl ?_
  refine OkO.nil ?_
  refine Ok.seq ?_
  refine Ok.region ?_
  refine OkO.move rfl rfl ?_
  refine OkO.bin rfl rfl rfl ((bin_neq _ _).trans (congrArg (fun b => some (AV.bool b)) (show _ = true from (by simp; exact he)))) ?_
  refine OkO.nil ?_
  refine Ok.condT rfl ?_
  refine Ok.seq ?_
  refine Ok.region ?_
  refine OkO.move rfl rfl ?_
  refine OkO.move rfl rfl ?_
  refine OkO.bin rfl rfl rfl ((bin_eql _ _).trans (congrArg (fun b => some (AV.bool b)) (show _ = true from (by first | rfl | (simp; done) | (simp; omega) | (simp_all; done))))) ?_
  refine OkO.move rfl rfl ?_
  refine OkO.move rfl rfl ?_
  refine OkO.bin rfl rfl rfl ((bin_eql _ _).trans (congrArg (fun b => some (AV.bool b)) (show _ = true from (by first | rfl | (simp; done) | (simp; omega) | (simp_all; done))))) ?_
  refine OkO.pick (b := true) rfl rfl (fun _ => rfl) nofun ?_
  refine OkO.move rfl rfl ?_
  refine OkO.load rfl rfl (ldg (n := 3) (by kernel_rfl) (by first | assumption | (simp (disch := first | omega | (simp only [hNw, hPt]; omega)) only [gn0, gn1, gn2, gn3, gn4, gn5, gp0, gno, gpo] <;> first | rfl | assumption | exact gp0 _ _ _ | exact gn0 _ _)) (by first | rfl | assumption)) ?_
  refine OkO.build (z := [.int .i64 0, .int .i64 0, .int .i64 0]) (pl := [(0, 1), (1, 1), (2, 1)]) rfl (by kernel_rfl) rfl rfl ?_
  refine OkO.binT rfl rfl rfl ((bin68 _ _ _ _ _ _).trans (congrArg (fun b => some (AV.bool b)) (show _ = true from (by first | rfl | (simp; done) | (simp; omega) | (simp_all; done))))) ?_
  refine OkO.pick (b := true) rfl rfl (fun _ => rfl) nofun ?_
  refine OkO.move rfl rfl ?_
  refine OkO.callV rfl rfl rfl rfl rfl (rfl) ?_ -- "sackung/sackunglaw04.awake"
  refine OkO.pick (b := true) rfl rfl (fun _ => rfl) nofun ?_
  refine OkO.assign rfl rfl ?_
  refine OkO.nil ?_
  refine Ok.ret ⟨.inr rfl, ?_⟩
  exact back_flat rfl rfl rfl (by rw [← hW]; exact (by (try dsimp only); repeat (first | exact gg1 | apply Grow.new | (refine Grow.put ?_ _ (by first | omega | (simp only [hNw, hPt]; omega))))))
theorem c8F (m : Nat) (v : AV) (l : List Sea) (t : Trm) (H : Heap) (hS : SeasAt H v l) (hsh : shortL l = true) (he : termErr l t = 0) (hcase : ∀ k, k ≤ 1000 → fineK t l k = false) : RR (m + 13) (.fn 8 [v, .agg t.c]) H = some (.bool true, H) := by
  refine (R_fn _ _ _ _ _).trans ?_
  refine fn_ok Try.func8 rfl rfl (by kernel_rfl) (by kernel_rfl) ?_
  obtain ⟨W, hW⟩ : ∃ W : Heap, W = ⟨H.t, H.next, H.next⟩ := ⟨_, rfl⟩
  have hg : ∀ n, W.get n = H.get n := fun n => by rw [hW]; rfl
  have hN : W.next = H.next := by rw [hW]
  have hE : ∀ G, Grow W G → Ext H G := fun G g => ⟨by rw [← hN]; exact g.next, fun n k => by rw [g.get n (by rw [hN]; exact k), hg]⟩
  have hG : Grow W W := Grow.refl (by rw [hW]; exact Nat.le_refl _)
  rw [← hW]
  have hlen := hS.len
  have pv := lpl hlen
  have hsf := shortL_facts hsh
  have hf := termErr_facts he
  refine Ok.seq ?_
  refine Ok.region ?_
  refine OkO.box rfl rfl ?_
  refine OkO.assign rfl rfl ?_
  refine OkO.nil ?_
  refine Ok.seq ?_
  refine Ok.seq ?_
  refine Ok.region ?_
  refine OkO.move rfl rfl ?_
  refine OkO.callV rfl rfl rfl rfl rfl ((c43 (m + 11) v l _ (hS.ext (hE _ (by (try dsimp only); repeat (first | exact hG | apply Grow.new | (refine Grow.put ?_ _ (by first | omega | (simp only [hNw, hPt]; omega)))))))).trans (by rw [hsh])) ?_ -- "sackung/sackunglaw04.Short"
  refine OkO.un rfl rfl rfl ?_
  refine OkO.nil ?_
  refine Ok.condF rfl ?_
  refine Ok.skip ?_
  refine Ok.seq ?_
  refine Ok.drawn [(0, true, []), (2, true, []), (9, true, [2]), (1, false, [2]), (3, false, []), (4, false, [2]), (5, true, []), (6, true, []), (7, true, []), (8, true, []), (10, false, []), (11, true, []), (12, true, [])] (by kernel_rfl) ?_
  refine OkP.step ?_
  refine OkO.move rfl rfl ?_
  refine OkO.nil ⟨rfl, ?_⟩
  refine OkP.step ?_
  refine OkO.load rfl rfl (ldg (n := 5) (by kernel_rfl) (by first | assumption | (simp (disch := first | omega | (simp only [hNw, hPt]; omega)) only [gn0, gn1, gn2, gn3, gn4, gn5, gp0, gno, gpo] <;> first | rfl | assumption | exact gp0 _ _ _ | exact gn0 _ _)) (by first | rfl | assumption)) ?_
  refine OkO.nil ⟨rfl, ?_⟩
  refine OkP.step ?_
  refine OkO.alloc (z := [.int .i64 0, .int .i64 0, .int .i64 0]) rfl (by kernel_rfl) ?_
  refine OkO.nil ⟨(sco (sld rfl rfl (ldg (n := 5) (by kernel_rfl) (by first | assumption | (simp (disch := first | omega | (simp only [hNw, hPt]; omega)) only [gn0, gn1, gn2, gn3, gn4, gn5, gp0, gno, gpo] <;> first | rfl | assumption | exact gp0 _ _ _ | exact gn0 _ _)) (by first | rfl | assumption)) rfl (eqr _ (by first | rfl | exact ps | exact lpl (by assumption) | (simp [AV.plain, AV.plains, AV.cells, AV.plain])))) rfl), ?_⟩
  refine OkP.step ?_
  refine OkO.callE rfl rfl rfl rfl rfl (c45 (m + 9) v l _ (hS.ext (hE _ (by (try dsimp only); repeat (first | exact hG | apply Grow.new | (refine Grow.put ?_ _ (by first | omega | (simp only [hNw, hPt]; omega))))))) (by omega) (fun s hs => by have := hsf.2 s hs; omega)) ?_ -- "sackung/sackunglaw04.Seasons"
  rintro wv Ha ⟨qa, ma⟩
  have n1 := qa.ext.next
  try simp only [hNw, hPt] at n1
  have gg1 : Grow W Ha := Grow.ret (by (try dsimp only); repeat (first | exact hG | apply Grow.new | (refine Grow.put ?_ _ (by first | omega | (simp only [hNw, hPt]; omega))))) qa
  have a1 : (Ha.get (W.next)).bind AObj.cs = some t.c := by rw [qa.ext.get _ (by first | omega | (simp only [hNw, hPt]; omega))]; first | assumption | (rw [gn0]; rfl) | (rw [get_put_eq] <;> rfl) | (simp (disch := first | omega | (simp only [hNw, hPt]; omega)) only [gn0, gn1, gn2, gn3, gn4, gn5, gp0, gno, gpo] <;> first | rfl | assumption | (rw [get_put_eq] <;> rfl))
  have o1 : Ha.get (W.next + 1) = some (.cells [I 0, I 0, I 0] 68) := by rw [qa.ext.get _ (by first | omega | (simp only [hNw, hPt]; omega))]; first | assumption | exact gn0 _ _ | (simp (disch := first | omega | (simp only [hNw, hPt]; omega)) only [gn0, gn1, gn2, gn3, gn4, gn5, gp0, gno, gpo] <;> first | rfl | assumption | exact gp0 _ _ _ | exact gn0 _ _)
  have hg9 := ma.g
  refine OkO.nil ⟨(sco (sld rfl rfl (ldg (n := 5) (by kernel_rfl) (by first | assumption | (simp (disch := first | omega | (simp only [hNw, hPt]; omega)) only [gn0, gn1, gn2, gn3, gn4, gn5, gp0, gno, gpo] <;> first | rfl | assumption | exact gp0 _ _ _ | exact gn0 _ _)) (by first | rfl | assumption)) rfl (eqr _ (by first | rfl | exact ps | exact lpl (by assumption) | (simp [AV.plain, AV.plains, AV.cells, AV.plain])))) rfl), ?_⟩
  refine OkP.step ?_
  refine OkO.callV rfl rfl rfl rfl rfl (c46 (m + 11) t _) ?_ -- "sackung/sackunglaw04.Terms"
  refine OkO.nil ⟨rfl, ?_⟩
  refine OkP.step ?_
  refine OkO.callV rfl rfl rfl rfl rfl (c49F (m + 2) wv l t _ (hg9.ext (by (try dsimp only); repeat (first | exact Ext.refl _ | exact Ext.refl _ | apply Ext.new | (refine Ext.put ?_ _ (by first | omega | (simp only [hNw, hPt]; omega)))))) he hf.2.1 hf.2.2.1 hf.1 hcase) ?_ -- "sackung/alarm.Best"
  refine OkO.nil ⟨(sco (sld rfl rfl (ldg (n := 5) (by kernel_rfl) (by first | assumption | (simp (disch := first | omega | (simp only [hNw, hPt]; omega)) only [gn0, gn1, gn2, gn3, gn4, gn5, gp0, gno, gpo] <;> first | rfl | assumption | exact gp0 _ _ _ | exact gn0 _ _)) (by first | rfl | assumption)) rfl (eqr _ (by first | rfl | exact ps | exact lpl (by assumption) | (simp [AV.plain, AV.plains, AV.cells, AV.plain])))) rfl), ?_⟩
  refine OkP.step ?_
  refine OkO.move rfl rfl ?_
  refine OkO.nil ⟨rfl, ?_⟩
  refine OkP.step ?_
  refine OkO.extract rfl rfl rfl ?_
  refine OkO.nil ⟨rfl, ?_⟩
  refine OkP.step ?_
  refine OkO.extract rfl rfl rfl ?_
  refine OkO.nil ⟨rfl, ?_⟩
  refine OkP.step ?_
  refine OkO.extract rfl rfl rfl ?_
  refine OkO.nil ⟨rfl, ?_⟩
  refine OkP.step ?_
  refine OkO.store rfl rfl rfl (stc (n := 3) (ag := true) (by kernel_rfl) (by first | assumption | (simp (disch := first | omega | (simp only [hNw, hPt]; omega)) only [gn0, gn1, gn2, gn3, gn4, gn5, gp0, gno, gpo] <;> first | rfl | assumption | exact gp0 _ _ _ | exact gn0 _ _)) rfl (by first | rfl | assumption) (by first | rfl | exact spl_set _ _ _ (by first | assumption | omega | (simp; omega)))) ?_
  refine OkO.nil ⟨rfl, ?_⟩
  refine OkP.step ?_
  refine OkO.assign rfl rfl ?_
  refine OkO.nil ⟨rfl, ?_⟩
  refine OkP.step ?_
  refine OkO.assign rfl rfl ?_
  refine OkO.nil ⟨rfl, ?_⟩
  refine OkP.nil ?_
  refine Ok.seq ?_
  refine Ok.seq ?_
  refine Ok.region ?_
  refine OkO.move rfl rfl ?_
  refine OkO.load rfl rfl (ldg (n := 5) (by kernel_rfl) (by first | assumption | (simp (disch := first | omega | (simp only [hNw, hPt]; omega)) only [gn0, gn1, gn2, gn3, gn4, gn5, gp0, gno, gpo] <;> first | rfl | assumption | exact gp0 _ _ _ | exact gn0 _ _)) (by first | rfl | assumption)) ?_
  refine OkO.callV rfl rfl rfl rfl rfl ((c47 (m + 5) v l t _ (hS.ext (hE _ (by (try dsimp only); repeat (first | exact gg1 | apply Grow.new | (refine Grow.put ?_ _ (by first | omega | (simp only [hNw, hPt]; omega))))))) (by omega) (fun s hs => by have := hsf.2 s hs; omega)).trans (by rw [he])) ?_ -- "sackung/sackunglaw04.priced"
  refine OkO.assign rfl rfl ?_
  refine OkO.nil ?_
  refine Ok.seq ?_
  refine Ok.region ?_
  refine OkO.move rfl rfl ?_
  refine OkO.bin rfl rfl rfl (bin_neq _ _) ?_
  refine OkO.nil ?_
  refine Ok.condF rfl ?_
  refine Ok.skip ?_
  refine Ok.seq ?_
  refine Ok.region ?_
  refine OkO.move rfl rfl ?_
  refine OkO.load rfl rfl (ldg (n := 5) (by kernel_rfl) (by first | assumption | (simp (disch := first | omega | (simp only [hNw, hPt]; omega)) only [gn0, gn1, gn2, gn3, gn4, gn5, gp0, gno, gpo] <;> first | rfl | assumption | exact gp0 _ _ _ | exact gn0 _ _)) (by first | rfl | assumption)) ?_
  refine OkO.callV rfl rfl rfl rfl rfl (c50F (m + 9) v l t _ (hS.ext (hE _ (by (try dsimp only); repeat (first | exact gg1 | apply Grow.new | (refine Grow.put ?_ _ (by first | omega | (simp only [hNw, hPt]; omega))))))) hf.2.1 hf.2.2.1 hf.1 hcase) ?_ -- "sackung/sackungref04.Best"
  refine OkO.move rfl rfl ?_
  refine OkO.extract rfl rfl rfl ?_
  refine OkO.extract rfl rfl rfl ?_
  refine OkO.extract rfl rfl rfl ?_
  refine OkO.alloc (z := [.int .i64 0, .int .i64 0, .int .i64 0]) rfl (by kernel_rfl) ?_
  refine OkO.store rfl rfl rfl (stc (n := 3) (ag := true) (by kernel_rfl) (by first | assumption | (simp (disch := first | omega | (simp only [hNw, hPt]; omega)) only [gn0, gn1, gn2, gn3, gn4, gn5, gp0, gno, gpo] <;> first | rfl | assumption | exact gp0 _ _ _ | exact gn0 _ _)) rfl (by first | rfl | assumption) (by first | rfl | exact spl_set _ _ _ (by first | assumption | omega | (simp; omega)))) ?_
  refine OkO.assign rfl rfl ?_
  refine OkO.assign rfl rfl ?_
  refine OkO.nil ?_
  refine Ok.seq ?_
  refine Ok.seq ?_
  refine Ok.region ?_
  refine OkO.move rfl rfl ?_
  refine OkO.un rfl rfl rfl ?_
  refine OkO.nil ?_
  refine Ok.condT rfl ?_
  refine Ok.seq ?_
  refine Ok.region ?_
  refine OkO.move rfl rfl ?_
  refine OkO.bin rfl rfl rfl (bin_eql _ _) ?_
  refine OkO.move rfl rfl ?_
  refine OkO.move rfl rfl ?_
  refine OkO.bin rfl rfl rfl ((bin_eql _ _).trans (congrArg (fun b => some (AV.bool b)) (show _ = true from (by first | rfl | (simp; done) | (simp; omega) | (simp_all; done))))) ?_
  refine OkO.pick (b := true) rfl rfl (fun _ => rfl) nofun ?_
  refine OkO.move rfl rfl ?_
  refine OkO.load rfl rfl (ldg (n := 3) (by kernel_rfl) (by first | assumption | (simp (disch := first | omega | (simp only [hNw, hPt]; omega)) only [gn0, gn1, gn2, gn3, gn4, gn5, gp0, gno, gpo] <;> first | rfl | assumption | exact gp0 _ _ _ | exact gn0 _ _)) (by first | rfl | assumption)) ?_
  refine OkO.build (z := [.int .i64 0, .int .i64 0, .int .i64 0]) (pl := [(0, 1), (1, 1), (2, 1)]) rfl (by kernel_rfl) rfl rfl ?_
  refine OkO.binT rfl rfl rfl ((bin68 _ _ _ _ _ _).trans (congrArg (fun b => some (AV.bool b)) (show _ = true from (by first | rfl | (simp; done) | (simp; omega) | (simp_all; done))))) ?_
  refine OkO.pick (b := true) rfl rfl (fun _ => rfl) nofun ?_
  refine OkO.move rfl rfl ?_
  refine OkO.callV rfl rfl rfl rfl rfl (rfl) ?_ -- "sackung/sackunglaw04.awake"
  refine OkO.pick (b := true) rfl rfl (fun _ => rfl) nofun ?_
  refine OkO.assign rfl rfl ?_
  refine OkO.nil ?_
  refine Ok.ret ⟨.inr rfl, ?_⟩
  exact back_flat rfl rfl rfl (by rw [← hW]; exact (by (try dsimp only); repeat (first | exact gg1 | apply Grow.new | (refine Grow.put ?_ _ (by first | omega | (simp only [hNw, hPt]; omega))))))
theorem c8T (m : Nat) (v : AV) (l : List Sea) (t : Trm) (st : Nat) (H : Heap) (hS : SeasAt H v l) (hsh : shortL l = true) (he : termErr l t = 0) (hcase : BestAt t l st) : RR (m + 13) (.fn 8 [v, .agg t.c]) H = some (.bool true, H) := by
  refine (R_fn _ _ _ _ _).trans ?_
  refine fn_ok Try.func8 rfl rfl (by kernel_rfl) (by kernel_rfl) ?_
  obtain ⟨W, hW⟩ : ∃ W : Heap, W = ⟨H.t, H.next, H.next⟩ := ⟨_, rfl⟩
  have hg : ∀ n, W.get n = H.get n := fun n => by rw [hW]; rfl
  have hN : W.next = H.next := by rw [hW]
  have hE : ∀ G, Grow W G → Ext H G := fun G g => ⟨by rw [← hN]; exact g.next, fun n k => by rw [g.get n (by rw [hN]; exact k), hg]⟩
  have hG : Grow W W := Grow.refl (by rw [hW]; exact Nat.le_refl _)
  rw [← hW]
  have hlen := hS.len
  have pv := lpl hlen
  have hsf := shortL_facts hsh
  have hf := termErr_facts he
  refine Ok.seq ?_
  refine Ok.region ?_
  refine OkO.box rfl rfl ?_
  refine OkO.assign rfl rfl ?_
  refine OkO.nil ?_
  refine Ok.seq ?_
  refine Ok.seq ?_
  refine Ok.region ?_
  refine OkO.move rfl rfl ?_
  refine OkO.callV rfl rfl rfl rfl rfl ((c43 (m + 11) v l _ (hS.ext (hE _ (by (try dsimp only); repeat (first | exact hG | apply Grow.new | (refine Grow.put ?_ _ (by first | omega | (simp only [hNw, hPt]; omega)))))))).trans (by rw [hsh])) ?_ -- "sackung/sackunglaw04.Short"
  refine OkO.un rfl rfl rfl ?_
  refine OkO.nil ?_
  refine Ok.condF rfl ?_
  refine Ok.skip ?_
  refine Ok.seq ?_
  refine Ok.drawn [(0, true, []), (2, true, []), (9, true, [2]), (1, false, [2]), (3, false, []), (4, false, [2]), (5, true, []), (6, true, []), (7, true, []), (8, true, []), (10, false, []), (11, true, []), (12, true, [])] (by kernel_rfl) ?_
  refine OkP.step ?_
  refine OkO.move rfl rfl ?_
  refine OkO.nil ⟨rfl, ?_⟩
  refine OkP.step ?_
  refine OkO.load rfl rfl (ldg (n := 5) (by kernel_rfl) (by first | assumption | (simp (disch := first | omega | (simp only [hNw, hPt]; omega)) only [gn0, gn1, gn2, gn3, gn4, gn5, gp0, gno, gpo] <;> first | rfl | assumption | exact gp0 _ _ _ | exact gn0 _ _)) (by first | rfl | assumption)) ?_
  refine OkO.nil ⟨rfl, ?_⟩
  refine OkP.step ?_
  refine OkO.alloc (z := [.int .i64 0, .int .i64 0, .int .i64 0]) rfl (by kernel_rfl) ?_
  refine OkO.nil ⟨(sco (sld rfl rfl (ldg (n := 5) (by kernel_rfl) (by first | assumption | (simp (disch := first | omega | (simp only [hNw, hPt]; omega)) only [gn0, gn1, gn2, gn3, gn4, gn5, gp0, gno, gpo] <;> first | rfl | assumption | exact gp0 _ _ _ | exact gn0 _ _)) (by first | rfl | assumption)) rfl (eqr _ (by first | rfl | exact ps | exact lpl (by assumption) | (simp [AV.plain, AV.plains, AV.cells, AV.plain])))) rfl), ?_⟩
  refine OkP.step ?_
  refine OkO.callE rfl rfl rfl rfl rfl (c45 (m + 9) v l _ (hS.ext (hE _ (by (try dsimp only); repeat (first | exact hG | apply Grow.new | (refine Grow.put ?_ _ (by first | omega | (simp only [hNw, hPt]; omega))))))) (by omega) (fun s hs => by have := hsf.2 s hs; omega)) ?_ -- "sackung/sackunglaw04.Seasons"
  rintro wv Ha ⟨qa, ma⟩
  have n1 := qa.ext.next
  try simp only [hNw, hPt] at n1
  have gg1 : Grow W Ha := Grow.ret (by (try dsimp only); repeat (first | exact hG | apply Grow.new | (refine Grow.put ?_ _ (by first | omega | (simp only [hNw, hPt]; omega))))) qa
  have a1 : (Ha.get (W.next)).bind AObj.cs = some t.c := by rw [qa.ext.get _ (by first | omega | (simp only [hNw, hPt]; omega))]; first | assumption | (rw [gn0]; rfl) | (rw [get_put_eq] <;> rfl) | (simp (disch := first | omega | (simp only [hNw, hPt]; omega)) only [gn0, gn1, gn2, gn3, gn4, gn5, gp0, gno, gpo] <;> first | rfl | assumption | (rw [get_put_eq] <;> rfl))
  have o1 : Ha.get (W.next + 1) = some (.cells [I 0, I 0, I 0] 68) := by rw [qa.ext.get _ (by first | omega | (simp only [hNw, hPt]; omega))]; first | assumption | exact gn0 _ _ | (simp (disch := first | omega | (simp only [hNw, hPt]; omega)) only [gn0, gn1, gn2, gn3, gn4, gn5, gp0, gno, gpo] <;> first | rfl | assumption | exact gp0 _ _ _ | exact gn0 _ _)
  have hg9 := ma.g
  refine OkO.nil ⟨(sco (sld rfl rfl (ldg (n := 5) (by kernel_rfl) (by first | assumption | (simp (disch := first | omega | (simp only [hNw, hPt]; omega)) only [gn0, gn1, gn2, gn3, gn4, gn5, gp0, gno, gpo] <;> first | rfl | assumption | exact gp0 _ _ _ | exact gn0 _ _)) (by first | rfl | assumption)) rfl (eqr _ (by first | rfl | exact ps | exact lpl (by assumption) | (simp [AV.plain, AV.plains, AV.cells, AV.plain])))) rfl), ?_⟩
  refine OkP.step ?_
  refine OkO.callV rfl rfl rfl rfl rfl (c46 (m + 11) t _) ?_ -- "sackung/sackunglaw04.Terms"
  refine OkO.nil ⟨rfl, ?_⟩
  refine OkP.step ?_
  refine OkO.callV rfl rfl rfl rfl rfl (c49T (m + 2) wv l t st _ (hg9.ext (by (try dsimp only); repeat (first | exact Ext.refl _ | exact Ext.refl _ | apply Ext.new | (refine Ext.put ?_ _ (by first | omega | (simp only [hNw, hPt]; omega)))))) he hf.2.1 hf.2.2.1 hf.1 hcase) ?_ -- "sackung/alarm.Best"
  refine OkO.nil ⟨(sco (sld rfl rfl (ldg (n := 5) (by kernel_rfl) (by first | assumption | (simp (disch := first | omega | (simp only [hNw, hPt]; omega)) only [gn0, gn1, gn2, gn3, gn4, gn5, gp0, gno, gpo] <;> first | rfl | assumption | exact gp0 _ _ _ | exact gn0 _ _)) (by first | rfl | assumption)) rfl (eqr _ (by first | rfl | exact ps | exact lpl (by assumption) | (simp [AV.plain, AV.plains, AV.cells, AV.plain])))) rfl), ?_⟩
  refine OkP.step ?_
  refine OkO.move rfl rfl ?_
  refine OkO.nil ⟨rfl, ?_⟩
  refine OkP.step ?_
  refine OkO.extract rfl rfl rfl ?_
  refine OkO.nil ⟨rfl, ?_⟩
  refine OkP.step ?_
  refine OkO.extract rfl rfl rfl ?_
  refine OkO.nil ⟨rfl, ?_⟩
  refine OkP.step ?_
  refine OkO.extract rfl rfl rfl ?_
  refine OkO.nil ⟨rfl, ?_⟩
  refine OkP.step ?_
  refine OkO.store rfl rfl rfl (stc (n := 3) (ag := true) (by kernel_rfl) (by first | assumption | (simp (disch := first | omega | (simp only [hNw, hPt]; omega)) only [gn0, gn1, gn2, gn3, gn4, gn5, gp0, gno, gpo] <;> first | rfl | assumption | exact gp0 _ _ _ | exact gn0 _ _)) rfl (by first | rfl | assumption) (by first | rfl | exact spl_set _ _ _ (by first | assumption | omega | (simp; omega)))) ?_
  refine OkO.nil ⟨rfl, ?_⟩
  refine OkP.step ?_
  refine OkO.assign rfl rfl ?_
  refine OkO.nil ⟨rfl, ?_⟩
  refine OkP.step ?_
  refine OkO.assign rfl rfl ?_
  refine OkO.nil ⟨rfl, ?_⟩
  refine OkP.nil ?_
  refine Ok.seq ?_
  refine Ok.seq ?_
  refine Ok.region ?_
  refine OkO.move rfl rfl ?_
  refine OkO.load rfl rfl (ldg (n := 5) (by kernel_rfl) (by first | assumption | (simp (disch := first | omega | (simp only [hNw, hPt]; omega)) only [gn0, gn1, gn2, gn3, gn4, gn5, gp0, gno, gpo] <;> first | rfl | assumption | exact gp0 _ _ _ | exact gn0 _ _)) (by first | rfl | assumption)) ?_
  refine OkO.callV rfl rfl rfl rfl rfl ((c47 (m + 5) v l t _ (hS.ext (hE _ (by (try dsimp only); repeat (first | exact gg1 | apply Grow.new | (refine Grow.put ?_ _ (by first | omega | (simp only [hNw, hPt]; omega))))))) (by omega) (fun s hs => by have := hsf.2 s hs; omega)).trans (by rw [he])) ?_ -- "sackung/sackunglaw04.priced"
  refine OkO.assign rfl rfl ?_
  refine OkO.nil ?_
  refine Ok.seq ?_
  refine Ok.region ?_
  refine OkO.move rfl rfl ?_
  refine OkO.bin rfl rfl rfl (bin_neq _ _) ?_
  refine OkO.nil ?_
  refine Ok.condF rfl ?_
  refine Ok.skip ?_
  refine Ok.seq ?_
  refine Ok.region ?_
  refine OkO.move rfl rfl ?_
  refine OkO.load rfl rfl (ldg (n := 5) (by kernel_rfl) (by first | assumption | (simp (disch := first | omega | (simp only [hNw, hPt]; omega)) only [gn0, gn1, gn2, gn3, gn4, gn5, gp0, gno, gpo] <;> first | rfl | assumption | exact gp0 _ _ _ | exact gn0 _ _)) (by first | rfl | assumption)) ?_
  refine OkO.callV rfl rfl rfl rfl rfl (c50T (m + 9) v l t st _ (hS.ext (hE _ (by (try dsimp only); repeat (first | exact gg1 | apply Grow.new | (refine Grow.put ?_ _ (by first | omega | (simp only [hNw, hPt]; omega))))))) hf.2.1 hf.2.2.1 hf.1 hcase) ?_ -- "sackung/sackungref04.Best"
  refine OkO.move rfl rfl ?_
  refine OkO.extract rfl rfl rfl ?_
  refine OkO.extract rfl rfl rfl ?_
  refine OkO.extract rfl rfl rfl ?_
  refine OkO.alloc (z := [.int .i64 0, .int .i64 0, .int .i64 0]) rfl (by kernel_rfl) ?_
  refine OkO.store rfl rfl rfl (stc (n := 3) (ag := true) (by kernel_rfl) (by first | assumption | (simp (disch := first | omega | (simp only [hNw, hPt]; omega)) only [gn0, gn1, gn2, gn3, gn4, gn5, gp0, gno, gpo] <;> first | rfl | assumption | exact gp0 _ _ _ | exact gn0 _ _)) rfl (by first | rfl | assumption) (by first | rfl | exact spl_set _ _ _ (by first | assumption | omega | (simp; omega)))) ?_
  refine OkO.assign rfl rfl ?_
  refine OkO.assign rfl rfl ?_
  refine OkO.nil ?_
  refine Ok.seq ?_
  refine Ok.seq ?_
  refine Ok.region ?_
  refine OkO.move rfl rfl ?_
  refine OkO.un rfl rfl rfl ?_
  refine OkO.nil ?_
  refine Ok.condF rfl ?_
  refine Ok.skip ?_
  refine Ok.seq ?_
  refine Ok.drawn [(0, true, []), (1, true, []), (2, true, []), (3, true, []), (4, true, []), (5, false, [3]), (6, true, []), (7, true, []), (8, true, []), (9, true, []), (10, true, []), (11, true, []), (12, true, []), (13, true, []), (14, false, [4, 3]), (15, true, []), (16, true, [])] (by kernel_rfl) ?_
  refine OkP.step ?_
  refine OkO.move rfl rfl ?_
  refine OkO.nil ⟨rfl, ?_⟩
  refine OkP.step ?_
  refine OkO.bin rfl rfl rfl (bin_eql _ _) ?_
  refine OkO.nil ⟨rfl, ?_⟩
  refine OkP.step ?_
  refine OkO.move rfl rfl ?_
  refine OkO.nil ⟨rfl, ?_⟩
  refine OkP.step ?_
  refine OkO.load rfl rfl (ldg (n := 3) (by kernel_rfl) (by first | assumption | (simp (disch := first | omega | (simp only [hNw, hPt]; omega)) only [gn0, gn1, gn2, gn3, gn4, gn5, gp0, gno, gpo] <;> first | rfl | assumption | exact gp0 _ _ _ | exact gn0 _ _)) (by first | rfl | assumption)) ?_
  refine OkO.nil ⟨rfl, ?_⟩
  refine OkP.step ?_
  refine OkO.load rfl rfl (ldg (n := 3) (by kernel_rfl) (by first | assumption | (simp (disch := first | omega | (simp only [hNw, hPt]; omega)) only [gn0, gn1, gn2, gn3, gn4, gn5, gp0, gno, gpo] <;> first | rfl | assumption | exact gp0 _ _ _ | exact gn0 _ _)) (by first | rfl | assumption)) ?_
  refine OkO.nil ⟨rfl, ?_⟩
  refine OkP.step ?_
  refine OkO.callV rfl rfl rfl rfl rfl (c39 (m + 11) (ruleOf t (st : Int)) _) ?_ -- "sackung/sackunglaw04.Rule"
  refine OkO.nil ⟨(sco (sld rfl rfl (ldg (n := 3) (by kernel_rfl) (by first | assumption | (simp (disch := first | omega | (simp only [hNw, hPt]; omega)) only [gn0, gn1, gn2, gn3, gn4, gn5, gp0, gno, gpo] <;> first | rfl | assumption | exact gp0 _ _ _ | exact gn0 _ _)) (by first | rfl | assumption)) rfl (eqr _ (by first | rfl | exact ps | exact lpl (by assumption) | (simp [AV.plain, AV.plains, AV.cells, AV.plain])))) rfl), ?_⟩
  refine OkP.step ?_
  refine OkO.binT rfl rfl rfl ((bin68 _ _ _ _ _ _).trans (congrArg (fun b => some (AV.bool b)) (show _ = true from (by first | rfl | (simp; done) | (simp; omega) | (simp_all; done))))) ?_
  refine OkO.nil ⟨rfl, ?_⟩
  refine OkP.step ?_
  refine OkO.pick (b := true) rfl rfl (fun _ => rfl) nofun ?_
  refine OkO.nil ⟨rfl, ?_⟩
  refine OkP.step ?_
  refine OkO.move rfl rfl ?_
  refine OkO.nil ⟨rfl, ?_⟩
  refine OkP.step ?_
  refine OkO.move rfl rfl ?_
  refine OkO.nil ⟨rfl, ?_⟩
  refine OkP.step ?_
  refine OkO.move rfl rfl ?_
  refine OkO.nil ⟨rfl, ?_⟩
  refine OkP.step ?_
  refine OkO.bin rfl rfl rfl ((bin_eql _ _).trans (congrArg (fun b => some (AV.bool b)) (show _ = true from (by first | rfl | (simp; done) | (simp; omega) | (simp_all; done))))) ?_
  refine OkO.nil ⟨rfl, ?_⟩
  refine OkP.step ?_
  refine OkO.pick (b := true) rfl rfl (fun _ => rfl) nofun ?_
  refine OkO.nil ⟨rfl, ?_⟩
  refine OkP.step ?_
  refine OkO.move rfl rfl ?_
  refine OkO.nil ⟨rfl, ?_⟩
  refine OkP.step ?_
  refine OkO.callV rfl rfl rfl rfl rfl (rfl) ?_ -- "sackung/sackunglaw04.awake"
  refine OkO.nil ⟨(sco (sld rfl rfl (ldg (n := 3) (by kernel_rfl) (by first | assumption | (simp (disch := first | omega | (simp only [hNw, hPt]; omega)) only [gn0, gn1, gn2, gn3, gn4, gn5, gp0, gno, gpo] <;> first | rfl | assumption | exact gp0 _ _ _ | exact gn0 _ _)) (by first | rfl | assumption)) rfl (eqr _ (by first | rfl | exact ps | exact lpl (by assumption) | (simp [AV.plain, AV.plains, AV.cells, AV.plain])))) (sco (sld rfl rfl (ldg (n := 3) (by kernel_rfl) (by first | assumption | (simp (disch := first | omega | (simp only [hNw, hPt]; omega)) only [gn0, gn1, gn2, gn3, gn4, gn5, gp0, gno, gpo] <;> first | rfl | assumption | exact gp0 _ _ _ | exact gn0 _ _)) (by first | rfl | assumption)) rfl (eqr _ (by first | rfl | exact ps | exact lpl (by assumption) | (simp [AV.plain, AV.plains, AV.cells, AV.plain])))) rfl)), ?_⟩
  refine OkP.step ?_
  refine OkO.pick (b := true) rfl rfl (fun _ => rfl) nofun ?_
  refine OkO.nil ⟨rfl, ?_⟩
  refine OkP.step ?_
  refine OkO.assign rfl rfl ?_
  refine OkO.nil ⟨rfl, ?_⟩
  refine OkP.nil ?_
  refine Ok.ret ⟨.inr rfl, ?_⟩
  exact back_flat rfl rfl rfl (by rw [← hW]; exact (by (try dsimp only); repeat (first | exact gg1 | apply Grow.new | (refine Grow.put ?_ _ (by first | omega | (simp only [hNw, hPt]; omega))))))
theorem c8W (m : Nat) (v : AV) (l : List Sea) (t : Trm) (H : Heap) (hS : SeasAt H v l) (hsh : shortL l = false) : RR (m + 13) (.fn 8 [v, .agg t.c]) H = some (.bool true, H) := by
  refine (R_fn _ _ _ _ _).trans ?_
  refine fn_ok Try.func8 rfl rfl (by kernel_rfl) (by kernel_rfl) ?_
  obtain ⟨W, hW⟩ : ∃ W : Heap, W = ⟨H.t, H.next, H.next⟩ := ⟨_, rfl⟩
  have hg : ∀ n, W.get n = H.get n := fun n => by rw [hW]; rfl
  have hN : W.next = H.next := by rw [hW]
  have hE : ∀ G, Grow W G → Ext H G := fun G g => ⟨by rw [← hN]; exact g.next, fun n k => by rw [g.get n (by rw [hN]; exact k), hg]⟩
  have hG : Grow W W := Grow.refl (by rw [hW]; exact Nat.le_refl _)
  rw [← hW]
  refine Ok.seq ?_
  refine Ok.region ?_
  refine OkO.box rfl rfl ?_
  refine OkO.assign rfl rfl ?_
  refine OkO.nil ?_
  refine Ok.seq ?_
  refine Ok.seq ?_
  refine Ok.region ?_
  refine OkO.move rfl rfl ?_
  refine OkO.callV rfl rfl rfl rfl rfl ((c43 (m + 11) v l _ (hS.ext (hE _ (by (try dsimp only); repeat (first | exact hG | apply Grow.new | (refine Grow.put ?_ _ (by first | omega | (simp only [hNw, hPt]; omega)))))))).trans (by rw [hsh])) ?_ -- "sackung/sackunglaw04.Short"
  refine OkO.un rfl rfl rfl ?_
  refine OkO.nil ?_
  refine Ok.condT rfl ?_
  refine Ok.seq ?_
  refine Ok.region ?_
  refine OkO.callV rfl rfl rfl rfl rfl (rfl) ?_ -- "sackung/sackunglaw04.awake"
  refine OkO.assign rfl rfl ?_
  refine OkO.nil ?_
  refine Ok.ret ⟨.inr rfl, ?_⟩
  exact back_flat rfl rfl rfl (by rw [← hW]; exact (by (try dsimp only); repeat (first | exact hG | apply Grow.new | (refine Grow.put ?_ _ (by first | omega | (simp only [hNw, hPt]; omega))))))
theorem c8 (m : Nat) (v : AV) (l : List Sea) (t : Trm) (H : Heap) (hS : SeasAt H v l) : RR (m + 13) (.fn 8 [v, .agg t.c]) H = some (.bool true, H) := by
  cases hsh : shortL l with
  | false => exact c8W m v l t H hS hsh
  | true =>
    by_cases he : termErr l t = 0
    · rcases best_or t l with h | ⟨st, h⟩
      · exact c8F m v l t H hS hsh he h
      · exact c8T m v l t st H hS hsh he h
    · exact c8E m v l t H hS hsh he
end
end Go.Ev

set_option maxRecDepth 100000
set_option linter.unusedSimpArgs false
set_option linter.unusedVariables false
namespace Go.Ev
open Go Go.Proofs
noncomputable section
end
end Go.Ev

