/-
  Functions of the program, reckoned by the evaluator: what each answers, and that it leaves what came in as it was.
-/
import Derived.Test.YthcjhfddoaccnaaPt28
import Derived.Test.YthcjhfddoaccnaaPt27
import Derived.KernelRfl
set_option maxRecDepth 100000
set_option linter.unusedSimpArgs false
set_option linter.unusedVariables false
namespace Go.Ev
open Go Go.Proofs
noncomputable section
theorem flat_tup3 {a c d : AV} (h : (AV.tup [a, c, d]).flat = true) : c.flat = true := by
  have h1 : AV.flats [a, c, d] = true := h
  unfold AV.flats at h1
  cases ha : a.flat with
  | false => rw [ha] at h1; cases h1
  | true =>
    rw [ha] at h1
    have h2 : AV.flats [c, d] = true := h1
    unfold AV.flats at h2
    cases hc : c.flat with
    | false => rw [hc] at h2; cases h2
    | true => rfl
theorem c35R (m : Nat) (ev rv : AV) (p : Pst) (rows : List (List Int)) (z0 s0 : Int) (H : Heap) (hV : Ints H ev p.errs) (hRs : LstAt H rv rows) (hpl : p.errs.length ≤ 100000) (hrl : rows.length ≤ 100000) (hlens9 : ∀ r ∈ rows, r.length ≤ 100000) (hf : faultE p rows = 0) (hz : (inB z0 0 ((rows.length : Int) - 1) && inB s0 0 1000) = false) : RR (m + 80) (.fn 35 [.agg (p.c ev), rv, I z0, I s0]) H = some (.tup [I 0, .nils, I 2], H) := by
  refine (R_fn _ _ _ _ _).trans ?_
  refine fn_ok Try.func35 rfl rfl (by kernel_rfl) (by kernel_rfl) ?_
  obtain ⟨W, hW⟩ : ∃ W : Heap, W = ⟨H.t, H.next, H.next⟩ := ⟨_, rfl⟩
  have hg : ∀ n, W.get n = H.get n := fun n => by rw [hW]; rfl
  have hN : W.next = H.next := by rw [hW]
  have hE : ∀ G, Grow W G → Ext H G := fun G g => ⟨by rw [← hN]; exact g.next, fun n k => by rw [g.get n (by rw [hN]; exact k), hg]⟩
  have hG : Grow W W := Grow.refl (by rw [hW]; exact Nat.le_refl _)
  rw [← hW]
  have pev : ev.plain = true := lpl hV.len
  have hel := hV.len
  have hrlen := hRs.len
  have ats : ∀ mb, atoms [ev, I p.gain, I p.drop, I p.fall, I p.out, I p.ahead, .map mb] = true := fun mb => by rw [atoms, (len_one hel).2]; rfl
  refine Ok.seq ?_
  refine Ok.region ?_
  refine OkO.box rfl rfl ?_
  refine OkO.box rfl rfl ?_
  refine OkO.box rfl rfl ?_
  refine OkO.alloc (z := [.int .i64 0]) rfl (by kernel_rfl) ?_
  refine OkO.alloc (z := [.nils]) rfl (by kernel_rfl) ?_
  refine OkO.alloc (z := [.int .i64 0]) rfl (by kernel_rfl) ?_
  refine OkO.nil ?_
  refine Ok.seq ?_
  refine Ok.seq ?_
  refine Ok.region ?_
  refine OkO.load rfl rfl (ldg (n := 6) (by kernel_rfl) (by first | assumption | (simp (disch := first | omega | (simp only [hNw, hPt]; omega)) only [gn0, gn1, gn2, gn3, gn4, gn5, gp0, gno, gpo] <;> first | rfl | assumption | exact gp0 _ _ _ | exact gn0 _ _)) (by first | rfl | assumption)) ?_
  refine OkO.move rfl rfl ?_
  refine OkO.callV rfl rfl rfl rfl rfl ((c62 (m + 74) ev rv p rows _ (hV.ext (hE _ (by (try dsimp only); repeat (first | exact hG | apply Grow.new | (refine Grow.put ?_ _ (by first | omega | (simp only [hNw, hPt]; omega))))))) (hRs.ext (hE _ (by (try dsimp only); repeat (first | exact hG | apply Grow.new | (refine Grow.put ?_ _ (by first | omega | (simp only [hNw, hPt]; omega))))))) hpl hrl hlens9).trans (by rw [hf])) ?_ -- "sackung/alarm.checkReads"
  refine OkO.assign rfl rfl ?_
  refine OkO.nil ?_
  refine Ok.seq ?_
  refine Ok.region ?_
  refine OkO.move rfl rfl ?_
  refine OkO.bin rfl rfl rfl ((bin_neq _ _).trans (congrArg (fun b => some (AV.bool b)) (show _ = false from (by rfl)))) ?_
  refine OkO.nil ?_
  refine Ok.condF rfl ?_
  refine Ok.skip ?_
  refine Ok.seq ?_
  refine Ok.seq ?_
  refine Ok.drawn [(0, true, []), (2, true, []), (1, false, [2]), (3, false, []), (4, true, []), (5, true, []), (6, true, []), (7, true, []), (8, false, [2]), (9, true, []), (10, true, [])] (by kernel_rfl) ?_
  refine OkP.step ?_
  refine OkO.move rfl rfl ?_
  refine OkO.nil ⟨rfl, ?_⟩
  refine OkP.step ?_
  refine OkO.load rfl rfl (lda (n := 1) (by kernel_rfl) (by first | assumption | (simp (disch := first | omega | (simp only [hNw, hPt]; omega)) only [gn0, gn1, gn2, gn3, gn4, gn5, gp0, gno, gpo] <;> first | rfl | assumption | exact gp0 _ _ _ | exact gn0 _ _)) (by first | rfl | assumption)) ?_
  refine OkO.nil ⟨rfl, ?_⟩
  refine OkP.step ?_
  refine OkO.callV rfl rfl rfl rfl rfl (c72 (m + 78) rv rows _ hrlen hrl) ?_ -- "sackung/alarm.indexes[[]int]"
  refine OkO.nil ⟨(sco (sld rfl rfl (lda (n := 1) (by kernel_rfl) (by first | assumption | (simp (disch := first | omega | (simp only [hNw, hPt]; omega)) only [gn0, gn1, gn2, gn3, gn4, gn5, gp0, gno, gpo] <;> first | rfl | assumption | exact gp0 _ _ _ | exact gn0 _ _)) (by first | rfl | assumption)) rfl (eqr _ (by first | rfl | exact lpl (by assumption) | (simp [AV.plain, AV.plains, AV.cells, pev, Pst.c])))) rfl), ?_⟩
  refine OkP.step ?_
  refine OkO.callV rfl rfl rfl rfl rfl (c68 (m + 78) _ _ _ _) ?_ -- "(sackung/alarm.ends).has"
  refine OkO.nil ⟨rfl, ?_⟩
  refine OkP.step ?_
  refine OkO.un rfl rfl rfl ?_
  refine OkO.nil ⟨rfl, ?_⟩
  refine OkP.step ?_
  refine OkO.move rfl rfl ?_
  refine OkO.nil ⟨rfl, ?_⟩
  refine OkP.split (d := 25) rfl (fun g1 => ?_) (fun g1 => ?_)
  · -- true g1
    refine OkP.step ?_
    refine OkO.skip rfl ?_
    refine OkO.nil ⟨rfl, ?_⟩
    refine OkP.step ?_
    refine OkO.skip rfl ?_
    refine OkO.nil ⟨rfl, ?_⟩
    refine OkP.step ?_
    refine OkO.skip rfl ?_
    refine OkO.nil ⟨(sco (sld rfl rfl (lda (n := 1) (by kernel_rfl) (by first | assumption | (simp (disch := first | omega | (simp only [hNw, hPt]; omega)) only [gn0, gn1, gn2, gn3, gn4, gn5, gp0, gno, gpo] <;> first | rfl | assumption | exact gp0 _ _ _ | exact gn0 _ _)) (by first | rfl | assumption)) rfl (eqr _ (by first | rfl | exact lpl (by assumption) | (simp [AV.plain, AV.plains, AV.cells, pev, Pst.c])))) rfl), ?_⟩
    refine OkP.step ?_
    refine OkO.skip rfl ?_
    refine OkO.nil ⟨rfl, ?_⟩
    refine OkP.step ?_
    refine OkO.pick (b := true) rfl rfl (fun _ => rfl) nofun ?_
    refine OkO.nil ⟨rfl, ?_⟩
    refine OkP.nil ?_
    refine Ok.condT rfl ?_
    refine Ok.seq ?_
    refine Ok.region ?_
    refine OkO.store rfl rfl rfl (sAc (n := 1) (ag := false) (by kernel_rfl) (by first | assumption | (simp (disch := first | omega | (simp only [hNw, hPt]; omega)) only [gn0, gn1, gn2, gn3, gn4, gn5, gp0, gno, gpo] <;> first | rfl | assumption | exact gp0 _ _ _ | exact gn0 _ _)) rfl (by first | rfl | assumption) (by first | rfl | exact spl_set _ _ _ (by first | assumption | omega | (simp; omega)))) ?_
    refine OkO.store rfl rfl rfl (sAc (n := 1) (ag := false) (by kernel_rfl) (by first | assumption | (simp (disch := first | omega | (simp only [hNw, hPt]; omega)) only [gn0, gn1, gn2, gn3, gn4, gn5, gp0, gno, gpo] <;> first | rfl | assumption | exact gp0 _ _ _ | exact gn0 _ _)) rfl (by first | rfl | assumption) (by first | rfl | exact spl_set _ _ _ (by first | assumption | omega | (simp; omega)))) ?_
    refine OkO.store rfl rfl rfl (sAc (n := 1) (ag := false) (by kernel_rfl) (by first | assumption | (simp (disch := first | omega | (simp only [hNw, hPt]; omega)) only [gn0, gn1, gn2, gn3, gn4, gn5, gp0, gno, gpo] <;> first | rfl | assumption | exact gp0 _ _ _ | exact gn0 _ _)) rfl (by first | rfl | assumption) (by first | rfl | exact spl_set _ _ _ (by first | assumption | omega | (simp; omega)))) ?_
    refine OkO.nil ?_
    refine Ok.ret ⟨.inr rfl, ?_⟩
    exact back_flat (resV_cell rfl (lda (n := 1) (by kernel_rfl) (by first | assumption | (simp (disch := first | omega | (simp only [hNw, hPt]; omega)) only [gn0, gn1, gn2, gn3, gn4, gn5, gp0, gno, gpo] <;> first | rfl | assumption)) (by first | rfl | assumption)) (resV_cell rfl (lda (n := 1) (by kernel_rfl) (by first | assumption | (simp (disch := first | omega | (simp only [hNw, hPt]; omega)) only [gn0, gn1, gn2, gn3, gn4, gn5, gp0, gno, gpo] <;> first | rfl | assumption)) (by first | rfl | assumption)) (resV_cell rfl (lda (n := 1) (by kernel_rfl) (by first | assumption | (simp (disch := first | omega | (simp only [hNw, hPt]; omega)) only [gn0, gn1, gn2, gn3, gn4, gn5, gp0, gno, gpo] <;> first | rfl | assumption)) (by first | rfl | assumption)) resV_nil))) rfl rfl (by rw [← hW]; exact (by (try dsimp only); repeat (first | exact hG | apply Grow.new | (refine Grow.put ?_ _ (by first | omega | (simp only [hNw, hPt]; omega))))))
  · -- false g1
    refine OkP.step ?_
    refine OkO.buildArr (z := [.int .i64 0, .int .i64 0]) (sz := 1) rfl (by kernel_rfl) rfl rfl ?_
    refine OkO.nil ⟨rfl, ?_⟩
    refine OkP.step ?_
    refine OkO.load rfl rfl (lda (n := 1) (by kernel_rfl) (by first | assumption | (simp (disch := first | omega | (simp only [hNw, hPt]; omega)) only [gn0, gn1, gn2, gn3, gn4, gn5, gp0, gno, gpo] <;> first | rfl | assumption | exact gp0 _ _ _ | exact gn0 _ _)) (by first | rfl | assumption)) ?_
    refine OkO.nil ⟨rfl, ?_⟩
    refine OkP.step ?_
    refine OkO.callV rfl rfl rfl rfl rfl (c68 (m + 78) _ _ _ _) ?_ -- "(sackung/alarm.ends).has"
    refine OkO.nil ⟨(sco (sld rfl rfl (lda (n := 1) (by kernel_rfl) (by first | assumption | (simp (disch := first | omega | (simp only [hNw, hPt]; omega)) only [gn0, gn1, gn2, gn3, gn4, gn5, gp0, gno, gpo] <;> first | rfl | assumption | exact gp0 _ _ _ | exact gn0 _ _)) (by first | rfl | assumption)) rfl (eqr _ (by first | rfl | exact lpl (by assumption) | (simp [AV.plain, AV.plains, AV.cells, pev, Pst.c])))) rfl), ?_⟩
    refine OkP.step ?_
    refine OkO.un rfl rfl rfl ?_
    refine OkO.nil ⟨rfl, ?_⟩
    refine OkP.step ?_
    refine OkO.pick (b := false) rfl rfl nofun (fun _ => rfl) ?_
    refine OkO.nil ⟨rfl, ?_⟩
    refine OkP.nil ?_
    refine Ok.cond rfl (fun h2 => ?_) (fun h2 => ?_)
    · -- yes h2
      refine Ok.seq ?_
      refine Ok.region ?_
      refine OkO.store rfl rfl rfl (sAc (n := 1) (ag := false) (by kernel_rfl) (by first | assumption | (simp (disch := first | omega | (simp only [hNw, hPt]; omega)) only [gn0, gn1, gn2, gn3, gn4, gn5, gp0, gno, gpo] <;> first | rfl | assumption | exact gp0 _ _ _ | exact gn0 _ _)) rfl (by first | rfl | assumption) (by first | rfl | exact spl_set _ _ _ (by first | assumption | omega | (simp; omega)))) ?_
      refine OkO.store rfl rfl rfl (sAc (n := 1) (ag := false) (by kernel_rfl) (by first | assumption | (simp (disch := first | omega | (simp only [hNw, hPt]; omega)) only [gn0, gn1, gn2, gn3, gn4, gn5, gp0, gno, gpo] <;> first | rfl | assumption | exact gp0 _ _ _ | exact gn0 _ _)) rfl (by first | rfl | assumption) (by first | rfl | exact spl_set _ _ _ (by first | assumption | omega | (simp; omega)))) ?_
      refine OkO.store rfl rfl rfl (sAc (n := 1) (ag := false) (by kernel_rfl) (by first | assumption | (simp (disch := first | omega | (simp only [hNw, hPt]; omega)) only [gn0, gn1, gn2, gn3, gn4, gn5, gp0, gno, gpo] <;> first | rfl | assumption | exact gp0 _ _ _ | exact gn0 _ _)) rfl (by first | rfl | assumption) (by first | rfl | exact spl_set _ _ _ (by first | assumption | omega | (simp; omega)))) ?_
      refine OkO.nil ?_
      refine Ok.ret ⟨.inr rfl, ?_⟩
      exact back_flat (resV_cell rfl (lda (n := 1) (by kernel_rfl) (by first | assumption | (simp (disch := first | omega | (simp only [hNw, hPt]; omega)) only [gn0, gn1, gn2, gn3, gn4, gn5, gp0, gno, gpo] <;> first | rfl | assumption)) (by first | rfl | assumption)) (resV_cell rfl (lda (n := 1) (by kernel_rfl) (by first | assumption | (simp (disch := first | omega | (simp only [hNw, hPt]; omega)) only [gn0, gn1, gn2, gn3, gn4, gn5, gp0, gno, gpo] <;> first | rfl | assumption)) (by first | rfl | assumption)) (resV_cell rfl (lda (n := 1) (by kernel_rfl) (by first | assumption | (simp (disch := first | omega | (simp only [hNw, hPt]; omega)) only [gn0, gn1, gn2, gn3, gn4, gn5, gp0, gno, gpo] <;> first | rfl | assumption)) (by first | rfl | assumption)) resV_nil))) rfl rfl (by rw [← hW]; exact (by (try dsimp only); repeat (first | exact hG | apply Grow.new | (refine Grow.put ?_ _ (by first | omega | (simp only [hNw, hPt]; omega))))))
    · -- no h2
      exact absurd hz (by simp_all)
theorem c35Y (m : Nat) (ev rv : AV) (p : Pst) (rows : List (List Int)) (hr : Nat) (s0 : Int) (H : Heap) (hV : Ints H ev p.errs) (hRs : LstAt H rv rows) (hpl : p.errs.length ≤ 100000) (hrl : rows.length ≤ 100000) (hlens9 : ∀ r ∈ rows, r.length ≤ 100000) (hf : faultE p rows = 0) (hhr : hr < rows.length) (hs : 0 ≤ s0 ∧ s0 ≤ 1000) : ∃ v H', RR (m + 80) (.fn 35 [.agg (p.c ev), rv, I (hr : Int), I s0]) H = some (v, H') ∧ Ret H H' ∧ ((∃ (i : Nat) (l : AV), i ≤ p.errs.length ∧ HitP p rows hr s0 i ∧ (∀ j, j < i → ¬ HitP p rows hr s0 j) ∧ v = .tup [I ((i : Int) - 1), l, I 0] ∧ Lst H.next H' l (backL p (mayL p ((i : Int) - 1) rows) hr s0)) ∨ ((∀ j, j ≤ p.errs.length → ¬ HitP p rows hr s0 j) ∧ v = .tup [I 0, .nils, I 7])) := by
  show ∃ v H', evFn Try.prog (RR (m + 79)) 35 [.agg (p.c ev), rv, I (hr : Int), I s0] H = some (v, H') ∧ Ret H H' ∧ ((∃ (i : Nat) (l : AV), i ≤ p.errs.length ∧ HitP p rows hr s0 i ∧ (∀ j, j < i → ¬ HitP p rows hr s0 j) ∧ v = .tup [I ((i : Int) - 1), l, I 0] ∧ Lst H.next H' l (backL p (mayL p ((i : Int) - 1) rows) hr s0)) ∨ ((∀ j, j ≤ p.errs.length → ¬ HitP p rows hr s0 j) ∧ v = .tup [I 0, .nils, I 7]))
  refine fn_okE Try.func35 rfl rfl (by kernel_rfl) (by kernel_rfl) ?_
  obtain ⟨W, hW⟩ : ∃ W : Heap, W = ⟨H.t, H.next, H.next⟩ := ⟨_, rfl⟩
  have hg : ∀ n, W.get n = H.get n := fun n => by rw [hW]; rfl
  have hN : W.next = H.next := by rw [hW]
  have hE : ∀ G, Grow W G → Ext H G := fun G g => ⟨by rw [← hN]; exact g.next, fun n k => by rw [g.get n (by rw [hN]; exact k), hg]⟩
  have hG : Grow W W := Grow.refl (by rw [hW]; exact Nat.le_refl _)
  rw [← hW]
  have pev : ev.plain = true := lpl hV.len
  have hel := hV.len
  have hrlen := hRs.len
  have ats : ∀ mb, atoms [ev, I p.gain, I p.drop, I p.fall, I p.out, I p.ahead, .map mb] = true := fun mb => by rw [atoms, (len_one hel).2]; rfl
  obtain ⟨hok, hr60, hlens, hrbd⟩ := faultE_facts hf
  obtain ⟨⟨hp1, hp2⟩, hpe, hpg, hpd, hpf, hpo1, hpo2⟩ := Pst.ok_facts hok
  refine Ok.seq ?_
  refine Ok.region ?_
  refine OkO.box rfl rfl ?_
  refine OkO.box rfl rfl ?_
  refine OkO.box rfl rfl ?_
  refine OkO.alloc (z := [.int .i64 0]) rfl (by kernel_rfl) ?_
  refine OkO.alloc (z := [.nils]) rfl (by kernel_rfl) ?_
  refine OkO.alloc (z := [.int .i64 0]) rfl (by kernel_rfl) ?_
  refine OkO.nil ?_
  refine Ok.seq ?_
  refine Ok.seq ?_
  refine Ok.region ?_
  refine OkO.load rfl rfl (ldg (n := 6) (by kernel_rfl) (by first | assumption | (simp (disch := first | omega | (simp only [hNw, hPt]; omega)) only [gn0, gn1, gn2, gn3, gn4, gn5, gp0, gno, gpo] <;> first | rfl | assumption | exact gp0 _ _ _ | exact gn0 _ _)) (by first | rfl | assumption)) ?_
  refine OkO.move rfl rfl ?_
  refine OkO.callV rfl rfl rfl rfl rfl ((c62 (m + 74) ev rv p rows _ (hV.ext (hE _ (by (try dsimp only); repeat (first | exact hG | apply Grow.new | (refine Grow.put ?_ _ (by first | omega | (simp only [hNw, hPt]; omega))))))) (hRs.ext (hE _ (by (try dsimp only); repeat (first | exact hG | apply Grow.new | (refine Grow.put ?_ _ (by first | omega | (simp only [hNw, hPt]; omega))))))) hpl hrl hlens9).trans (by rw [hf])) ?_ -- "sackung/alarm.checkReads"
  refine OkO.assign rfl rfl ?_
  refine OkO.nil ?_
  refine Ok.seq ?_
  refine Ok.region ?_
  refine OkO.move rfl rfl ?_
  refine OkO.bin rfl rfl rfl ((bin_neq _ _).trans (congrArg (fun b => some (AV.bool b)) (show _ = false from (by rfl)))) ?_
  refine OkO.nil ?_
  refine Ok.condF rfl ?_
  refine Ok.skip ?_
  refine Ok.seq ?_
  refine Ok.seq ?_
  refine Ok.drawn [(0, true, []), (2, true, []), (1, false, [2]), (3, false, []), (4, true, []), (5, true, []), (6, true, []), (7, true, []), (8, false, [2]), (9, true, []), (10, true, [])] (by kernel_rfl) ?_
  refine OkP.step ?_
  refine OkO.move rfl rfl ?_
  refine OkO.nil ⟨rfl, ?_⟩
  refine OkP.step ?_
  refine OkO.load rfl rfl (lda (n := 1) (by kernel_rfl) (by first | assumption | (simp (disch := first | omega | (simp only [hNw, hPt]; omega)) only [gn0, gn1, gn2, gn3, gn4, gn5, gp0, gno, gpo] <;> first | rfl | assumption | exact gp0 _ _ _ | exact gn0 _ _)) (by first | rfl | assumption)) ?_
  refine OkO.nil ⟨rfl, ?_⟩
  refine OkP.step ?_
  refine OkO.callV rfl rfl rfl rfl rfl (c72 (m + 78) rv rows _ hrlen hrl) ?_ -- "sackung/alarm.indexes[[]int]"
  refine OkO.nil ⟨(sco (sld rfl rfl (lda (n := 1) (by kernel_rfl) (by first | assumption | (simp (disch := first | omega | (simp only [hNw, hPt]; omega)) only [gn0, gn1, gn2, gn3, gn4, gn5, gp0, gno, gpo] <;> first | rfl | assumption | exact gp0 _ _ _ | exact gn0 _ _)) (by first | rfl | assumption)) rfl (eqr _ (by first | rfl | exact lpl (by assumption) | (simp [AV.plain, AV.plains, AV.cells, pev, Pst.c, Pst.d])))) rfl), ?_⟩
  refine OkP.step ?_
  refine OkO.callV rfl rfl rfl rfl rfl ((c68 (m + 78) _ _ _ _).trans (by rw [show inB (hr : Int) 0 ((rows.length : Int) - 1) = true from by simp [inB]; omega])) ?_ -- "(sackung/alarm.ends).has"
  refine OkO.nil ⟨rfl, ?_⟩
  refine OkP.step ?_
  refine OkO.un rfl rfl rfl ?_
  refine OkO.nil ⟨rfl, ?_⟩
  refine OkP.step ?_
  refine OkO.move rfl rfl ?_
  refine OkO.nil ⟨rfl, ?_⟩
  refine OkP.step ?_
  refine OkO.buildArr (z := [.int .i64 0, .int .i64 0]) (sz := 1) rfl (by kernel_rfl) rfl rfl ?_
  refine OkO.nil ⟨rfl, ?_⟩
  refine OkP.step ?_
  refine OkO.load rfl rfl (lda (n := 1) (by kernel_rfl) (by first | assumption | (simp (disch := first | omega | (simp only [hNw, hPt]; omega)) only [gn0, gn1, gn2, gn3, gn4, gn5, gp0, gno, gpo] <;> first | rfl | assumption | exact gp0 _ _ _ | exact gn0 _ _)) (by first | rfl | assumption)) ?_
  refine OkO.nil ⟨rfl, ?_⟩
  refine OkP.step ?_
  refine OkO.callV rfl rfl rfl rfl rfl ((c68 (m + 78) _ _ _ _).trans (by rw [show inB s0 0 1000 = true from by simp [inB]; omega])) ?_ -- "(sackung/alarm.ends).has"
  refine OkO.nil ⟨(sco (sld rfl rfl (lda (n := 1) (by kernel_rfl) (by first | assumption | (simp (disch := first | omega | (simp only [hNw, hPt]; omega)) only [gn0, gn1, gn2, gn3, gn4, gn5, gp0, gno, gpo] <;> first | rfl | assumption | exact gp0 _ _ _ | exact gn0 _ _)) (by first | rfl | assumption)) rfl (eqr _ (by first | rfl | exact lpl (by assumption) | (simp [AV.plain, AV.plains, AV.cells, pev, Pst.c, Pst.d])))) rfl), ?_⟩
  refine OkP.step ?_
  refine OkO.un rfl rfl rfl ?_
  refine OkO.nil ⟨rfl, ?_⟩
  refine OkP.step ?_
  refine OkO.pick (b := false) rfl rfl nofun (fun _ => rfl) ?_
  refine OkO.nil ⟨rfl, ?_⟩
  refine OkP.nil ?_
  refine Ok.condF rfl ?_
  refine Ok.skip ?_
  refine Ok.seq ?_
  refine Ok.seq ?_
  refine Ok.drawn [(0, true, []), (1, true, []), (3, true, []), (4, true, []), (2, false, [3]), (5, false, [3, 0])] (by kernel_rfl) ?_
  refine OkP.step ?_
  refine OkO.load rfl rfl (ldg (n := 6) (by kernel_rfl) (by first | assumption | (simp (disch := first | omega | (simp only [hNw, hPt]; omega)) only [gn0, gn1, gn2, gn3, gn4, gn5, gp0, gno, gpo] <;> first | rfl | assumption | exact gp0 _ _ _ | exact gn0 _ _)) (by first | rfl | assumption)) ?_
  refine OkO.nil ⟨rfl, ?_⟩
  refine OkP.step ?_
  refine OkO.move rfl rfl ?_
  refine OkO.nil ⟨rfl, ?_⟩
  refine OkP.step ?_
  refine OkO.load rfl rfl (lda (n := 1) (by kernel_rfl) (by first | assumption | (simp (disch := first | omega | (simp only [hNw, hPt]; omega)) only [gn0, gn1, gn2, gn3, gn4, gn5, gp0, gno, gpo] <;> first | rfl | assumption | exact gp0 _ _ _ | exact gn0 _ _)) (by first | rfl | assumption)) ?_
  refine OkO.nil ⟨rfl, ?_⟩
  refine OkP.step ?_
  refine OkO.bin rfl rfl rfl (bin_add (by omega) (by omega)) ?_
  refine OkO.nil ⟨rfl, ?_⟩
  refine OkP.step ?_
  refine OkO.callE rfl rfl rfl rfl rfl (c63 (m + 74) ev rv p rows _ (hV.ext (hE _ (by (try dsimp only); repeat (first | exact hG | apply Grow.new | (refine Grow.put ?_ _ (by first | omega | (simp only [hNw, hPt]; omega))))))) (hRs.ext (hE _ (by (try dsimp only); repeat (first | exact hG | apply Grow.new | (refine Grow.put ?_ _ (by first | omega | (simp only [hNw, hPt]; omega))))))) ⟨hpg, hpd⟩ hpe (by omega) hlens hrbd (by omega)) ?_ -- "(sackung/alarm.Post).onDuty"
  rintro _ H63 ⟨mb, rfl, q63, dm63⟩
  have n1 := q63.ext.next
  try simp only [hNw, hPt] at n1
  have gg1 : Grow W H63 := Grow.ret (by (try dsimp only); repeat (first | exact hG | apply Grow.new | (refine Grow.put ?_ _ (by first | omega | (simp only [hNw, hPt]; omega))))) q63
  have db1 : (H63.get (W.next)).bind AObj.cs = some (p.c ev) := by rw [q63.ext.get _ (by first | omega | (simp only [hNw, hPt]; omega))]; first | assumption | (rw [gn0]; rfl) | (rw [get_put_eq] <;> rfl) | (simp (disch := first | omega | (simp only [hNw, hPt]; omega)) only [gn0, gn1, gn2, gn3, gn4, gn5, gp0, gno, gpo] <;> first | rfl | assumption | (rw [get_put_eq] <;> rfl))
  have hb1 : (H63.get (W.next + 1)).bind AObj.cs = some [I (hr : Int)] := by rw [q63.ext.get _ (by first | omega | (simp only [hNw, hPt]; omega))]; first | assumption | (rw [gn0]; rfl) | (rw [get_put_eq] <;> rfl) | (simp (disch := first | omega | (simp only [hNw, hPt]; omega)) only [gn0, gn1, gn2, gn3, gn4, gn5, gp0, gno, gpo] <;> first | rfl | assumption | (rw [get_put_eq] <;> rfl))
  have sb1 : (H63.get (W.next + 2)).bind AObj.cs = some [I s0] := by rw [q63.ext.get _ (by first | omega | (simp only [hNw, hPt]; omega))]; first | assumption | (rw [gn0]; rfl) | (rw [get_put_eq] <;> rfl) | (simp (disch := first | omega | (simp only [hNw, hPt]; omega)) only [gn0, gn1, gn2, gn3, gn4, gn5, gp0, gno, gpo] <;> first | rfl | assumption | (rw [get_put_eq] <;> rfl))
  have d1 : H63.get (W.next) = some (.cells (p.c ev) 30) := by rw [q63.ext.get _ (by first | omega | (simp only [hNw, hPt]; omega))]; first | assumption | exact gn0 _ _ | (simp (disch := first | omega | (simp only [hNw, hPt]; omega)) only [gn0, gn1, gn2, gn3, gn4, gn5, gp0, gno, gpo] <;> first | rfl | assumption | exact gp0 _ _ _ | exact gn0 _ _)
  have h1 : H63.get (W.next + 1) = some (.cells [I (hr : Int)] 3) := by rw [q63.ext.get _ (by first | omega | (simp only [hNw, hPt]; omega))]; first | assumption | exact gn0 _ _ | (simp (disch := first | omega | (simp only [hNw, hPt]; omega)) only [gn0, gn1, gn2, gn3, gn4, gn5, gp0, gno, gpo] <;> first | rfl | assumption | exact gp0 _ _ _ | exact gn0 _ _)
  have s1 : H63.get (W.next + 2) = some (.cells [I s0] 3) := by rw [q63.ext.get _ (by first | omega | (simp only [hNw, hPt]; omega))]; first | assumption | exact gn0 _ _ | (simp (disch := first | omega | (simp only [hNw, hPt]; omega)) only [gn0, gn1, gn2, gn3, gn4, gn5, gp0, gno, gpo] <;> first | rfl | assumption | exact gp0 _ _ _ | exact gn0 _ _)
  have e8_1 : H63.get (W.next + 3) = some (.cells [I 0] 3) := by rw [q63.ext.get _ (by first | omega | (simp only [hNw, hPt]; omega))]; first | assumption | exact gn0 _ _ | (simp (disch := first | omega | (simp only [hNw, hPt]; omega)) only [gn0, gn1, gn2, gn3, gn4, gn5, gp0, gno, gpo] <;> first | rfl | assumption | exact gp0 _ _ _ | exact gn0 _ _)
  have e9_1 : H63.get (W.next + 4) = some (.cells [.nils] 22) := by rw [q63.ext.get _ (by first | omega | (simp only [hNw, hPt]; omega))]; first | assumption | exact gn0 _ _ | (simp (disch := first | omega | (simp only [hNw, hPt]; omega)) only [gn0, gn1, gn2, gn3, gn4, gn5, gp0, gno, gpo] <;> first | rfl | assumption | exact gp0 _ _ _ | exact gn0 _ _)
  have e10_1 : H63.get (W.next + 5) = some (.cells [I 0] 28) := by rw [q63.ext.get _ (by first | omega | (simp only [hNw, hPt]; omega))]; first | assumption | exact gn0 _ _ | (simp (disch := first | omega | (simp only [hNw, hPt]; omega)) only [gn0, gn1, gn2, gn3, gn4, gn5, gp0, gno, gpo] <;> first | rfl | assumption | exact gp0 _ _ _ | exact gn0 _ _)
  have dmh := dm63.2.1
  refine OkO.nil ⟨(sco (sld rfl rfl (lda (n := 1) (by kernel_rfl) (by first | assumption | (simp (disch := first | omega | (simp only [hNw, hPt]; omega)) only [gn0, gn1, gn2, gn3, gn4, gn5, gp0, gno, gpo] <;> first | rfl | assumption | exact gp0 _ _ _ | exact gn0 _ _)) (by first | rfl | assumption)) rfl (eqr _ (by first | rfl | exact lpl (by assumption) | (simp [AV.plain, AV.plains, AV.cells, pev, Pst.c, Pst.d])))) rfl), ?_⟩
  refine OkP.step ?_
  refine OkO.callE rfl rfl rfl rfl rfl (c66 (m + 78) ev p mb ((hr : Int) + 1) _) ?_ -- "(sackung/alarm.duty).failures"
  rintro _ X ⟨rfl, q66, x1, x2, x3⟩
  have n66 := q66.ext.next
  skip
  have g66 : Grow W X := Grow.ret (by (try dsimp only); repeat (first | exact gg1 | apply Grow.new | (refine Grow.put ?_ _ (by first | omega | (simp only [hNw, hPt]; omega))))) q66
  have dmX := dm63.to q66.ext
  have xd : X.get (W.next) = some (.cells (p.c ev) 30) := by rw [q66.ext.get _ (by first | omega | (simp only [hNw, hPt]; omega))]; exact d1
  have xh : X.get (W.next + 1) = some (.cells [I (hr : Int)] 3) := by rw [q66.ext.get _ (by first | omega | (simp only [hNw, hPt]; omega))]; exact h1
  have xs : X.get (W.next + 2) = some (.cells [I s0] 3) := by rw [q66.ext.get _ (by first | omega | (simp only [hNw, hPt]; omega))]; exact s1
  have x8 : X.get (W.next + 3) = some (.cells [I 0] 3) := by rw [q66.ext.get _ (by first | omega | (simp only [hNw, hPt]; omega))]; exact e8_1
  have x9 : X.get (W.next + 4) = some (.cells [.nils] 22) := by rw [q66.ext.get _ (by first | omega | (simp only [hNw, hPt]; omega))]; exact e9_1
  have x10 : X.get (W.next + 5) = some (.cells [I 0] 28) := by rw [q66.ext.get _ (by first | omega | (simp only [hNw, hPt]; omega))]; exact e10_1
  have xdb : (X.get W.next).bind AObj.cs = some (p.c ev) := by rw [xd]; rfl
  have xhb : (X.get (W.next + 1)).bind AObj.cs = some [I (hr : Int)] := by rw [xh]; rfl
  have xsb : (X.get (W.next + 2)).bind AObj.cs = some [I s0] := by rw [xs]; rfl
  refine OkO.nil ⟨(sco (sld rfl rfl (lda (n := 1) (by kernel_rfl) (by first | assumption | (simp (disch := first | omega | (simp only [hNw, hPt]; omega)) only [gn0, gn1, gn2, gn3, gn4, gn5, gp0, gno, gpo] <;> first | rfl | assumption | exact gp0 _ _ _ | exact gn0 _ _)) (by first | rfl | assumption)) rfl (eqr _ (by first | rfl | exact lpl (by assumption) | (simp [AV.plain, AV.plains, AV.cells, pev, Pst.c, Pst.d])))) (sco (sld rfl rfl (ldg (n := 6) (by kernel_rfl) (by first | assumption | (simp (disch := first | omega | (simp only [hNw, hPt]; omega)) only [gn0, gn1, gn2, gn3, gn4, gn5, gp0, gno, gpo] <;> first | rfl | assumption | exact gp0 _ _ _ | exact gn0 _ _)) (by first | rfl | assumption)) rfl (eqr _ (by first | rfl | exact lpl (by assumption) | (simp [AV.plain, AV.plains, AV.cells, pev, Pst.c, Pst.d])))) rfl)), ?_⟩
  refine OkP.nil ?_
  refine Ok.block ?_
  obtain ⟨o, vs, hmo, ho, hvl, hvm⟩ := (dmX.low (Nat.zero_le _)).2.2
  refine Ok.rangeR rfl rfl (fun T0 hT0 => ?_)
  have hH : Has 6 [(4, .ptr W.next 0), (6, .ptr (W.next + 1) 0), (7, .ptr (W.next + 2) 0), (8, .ptr (W.next + 3) 0), (9, .ptr (W.next + 4) 0), (10, .ptr (W.next + 5) 0)] T0 := by rw [hT0]; exact Has.of (by kernel_rfl)
  have hvs : ∀ (i : Nat) (x : AV), vs[i]? = some x → lenOf x = some (lenM p rows i) := fun i x hx => by (have h9 := (hvm i x hx).ivs.len; rw [List.length_map] at h9; exact h9)
  have xmo : X.get mb = some o := hmo
  have xvm : ∀ (j : Nat) (x : AV), vs[j]? = some x → Mine 0 X x 125 2 (ivCells (mayL p ((j : Int) - 1) rows)) := fun j x hj => hvm j x hj
  obtain ⟨v3, H3, k1, k2, k3⟩ := c88 (m + 78) (X.next + 1) H63.next (H63.next + 1) W.next mb (hr + 1) ev p rows vs (fun i G => RngJ X [] .ready none [37, 38] as35 bd35 T0 G ∧ ∀ j, j < i → ¬ HitP p rows hr s0 j) (fun G => RngJ X [W.next + 3, W.next + 4, W.next + 5] .done (some .ret) [37, 38] as35 bd35 T0 G ∧ ∃ (i : Nat) (lv : AV), i ≤ p.errs.length ∧ HitP p rows hr s0 i ∧ (∀ j, j < i → ¬ HitP p rows hr s0 j) ∧ G.get (W.next + 3) = some (.cells [I ((i : Int) - 1)] 3) ∧ G.get (W.next + 4) = some (.cells [lv] 22) ∧ G.get (W.next + 5) = some (.cells [I 0] 28) ∧ Lst (X.next + 2) G lv (backL p (mayL p ((i : Int) - 1) rows) hr s0)) ((X.new .defd).new (.loop .ready none T0 [37, 38] as35 bd35 X.next)) (fun i G G1 h e => ⟨h.1.to e, h.2⟩) (fun G G1 h e => by obtain ⟨a1, i, lv, a2, a3, a4, a5, a6, a7, a8⟩ := h; (have nx9 := a1.nx); exact ⟨a1.to e, i, lv, a2, a3, a4, by rw [e.get _ (by omega)]; exact a5, by rw [e.get _ (by omega)]; exact a6, by rw [e.get _ (by omega)]; exact a7, a8.to e⟩) (fun i G h => ⟨by rw [h.1.get _ (by omega) (by simp <;> omega), x1] <;> rfl, by rw [h.1.get _ (by omega) (by simp <;> omega), x2] <;> rfl, by have h9 := h.1.nx; omega, o, by rw [h.1.get _ (by omega) (by simp <;> omega)]; exact xmo, ho⟩) hvl hvs hel (by omega) (fun i G hi hr9 h => ⟨h.1, fun j hj => by (by_cases e : j = i); (· subst e; exact fun hc => hr9 hc.1); (· exact h.2 j (by omega))⟩) (fun i x G hi hx hr9 h hlo => by have h9 := r35 (m + (73 - hr)) hr i ev p rows s0 x T0 W X G hH h g66 (by omega) xd xh xs x8 x9 x10 (xvm i x hx) hi ⟨_, hel⟩ hs hpg hpd (by omega) hr9 hlo; rw [show m + (73 - hr) + 5 + hr = m + 78 from by omega] at h9; exact h9) (⟨RngJ.start _ _ _ _ _ _, fun j hj => absurd hj (Nat.not_lt_zero j)⟩) (by show W.next ≤ X.lo; exact g66.lo) (by omega)
  rcases k2 with k2 | k2
  · -- to its end
    refine ⟨v3, H3, k1, _, _, T0, [37, 38], as35, bd35, X.next, k2.1.b1, .inl ⟨rfl, rfl, ?_⟩⟩
    have g3 : Grow W H3 := k2.1.grow g66 (fun j hj => by simp at hj) k3
    have kn := k2.1.nx
    have ke8_ : H3.get (W.next + 3) = some (.cells [I 0] 3) := by rw [k2.1.get _ (by omega) (by simp)]; exact x8
    have ke9_ : H3.get (W.next + 4) = some (.cells [.nils] 22) := by rw [k2.1.get _ (by omega) (by simp)]; exact x9
    have ke10_ : H3.get (W.next + 5) = some (.cells [I 0] 28) := by rw [k2.1.get _ (by omega) (by simp)]; exact x10
    have yd := k2.1.b0
    have hnone := k2.2
    clear k1
    refine Ok.seq ?_
    refine Ok.region ?_
    refine OkO.store rfl rfl rfl (sAc (n := 1) (ag := false) (by kernel_rfl) (by first | assumption | (simp (disch := first | omega | (simp only [hNw, hPt]; omega)) only [gn0, gn1, gn2, gn3, gn4, gn5, gp0, gno, gpo] <;> first | rfl | assumption | exact gp0 _ _ _ | exact gn0 _ _)) rfl (by first | rfl | assumption) (by first | rfl | exact spl_set _ _ _ (by first | assumption | omega | (simp; omega)))) ?_
    refine OkO.store rfl rfl rfl (sAc (n := 1) (ag := false) (by kernel_rfl) (by first | assumption | (simp (disch := first | omega | (simp only [hNw, hPt]; omega)) only [gn0, gn1, gn2, gn3, gn4, gn5, gp0, gno, gpo] <;> first | rfl | assumption | exact gp0 _ _ _ | exact gn0 _ _)) rfl (by first | rfl | assumption) (by first | rfl | exact spl_set _ _ _ (by first | assumption | omega | (simp; omega)))) ?_
    refine OkO.store rfl rfl rfl (sAc (n := 1) (ag := false) (by kernel_rfl) (by first | assumption | (simp (disch := first | omega | (simp only [hNw, hPt]; omega)) only [gn0, gn1, gn2, gn3, gn4, gn5, gp0, gno, gpo] <;> first | rfl | assumption | exact gp0 _ _ _ | exact gn0 _ _)) rfl (by first | rfl | assumption) (by first | rfl | exact spl_set _ _ _ (by first | assumption | omega | (simp; omega)))) ?_
    refine OkO.nil ?_
    refine Ok.ret ⟨.inr rfl, ?_⟩
    rw [back_mark (d := X.next) (by first | assumption | (simp (disch := first | omega | (simp only [hNw, hPt]; omega)) only [gn0, gn1, gn2, gn3, gn4, gn5, gp0, gno, gpo] <;> first | rfl | assumption | exact gp0 _ _ _ | exact gn0 _ _))]
    refine back_newA (resV_cell rfl (lda (n := 1) (by kernel_rfl) (by first | assumption | (simp (disch := first | omega | (simp only [hNw, hPt]; omega)) only [gn0, gn1, gn2, gn3, gn4, gn5, gp0, gno, gpo] <;> first | rfl | assumption)) (by first | rfl | assumption)) (resV_cell rfl (lda (n := 1) (by kernel_rfl) (by first | assumption | (simp (disch := first | omega | (simp only [hNw, hPt]; omega)) only [gn0, gn1, gn2, gn3, gn4, gn5, gp0, gno, gpo] <;> first | rfl | assumption)) (by first | rfl | assumption)) (resV_cell rfl (lda (n := 1) (by kernel_rfl) (by first | assumption | (simp (disch := first | omega | (simp only [hNw, hPt]; omega)) only [gn0, gn1, gn2, gn3, gn4, gn5, gp0, gno, gpo] <;> first | rfl | assumption)) (by first | rfl | assumption)) resV_nil))) rfl (by rw [← hW]; exact (by (try dsimp only); repeat (first | exact g3 | apply Grow.new | (refine Grow.put ?_ _ (by first | omega | (simp only [hNw, hPt]; omega)))))) (fun H9 p1 p2 => ⟨p1, .inr ⟨fun j hj => hnone j (by omega), rfl⟩⟩)
  · -- returned
    refine ⟨v3, H3, k1, _, _, T0, [37, 38], as35, bd35, X.next, k2.1.b1, .inr (.inr ⟨rfl, rfl, ?_⟩)⟩
    have g3 : Grow W H3 := k2.1.grow g66 (fun j hj => by simp at hj; omega) k3
    have kn := k2.1.nx
    have yd := k2.1.b0
    obtain ⟨kj, i, lv, hi, hhit, hno, k8, k9, k10, kl⟩ := k2
    have k8b : (H3.get (W.next + 3)).bind AObj.cs = some [I ((i : Int) - 1)] := by rw [k8]; rfl
    have k9b : (H3.get (W.next + 4)).bind AObj.cs = some [lv] := by rw [k9]; rfl
    have k10b : (H3.get (W.next + 5)).bind AObj.cs = some [I 0] := by rw [k10]; rfl
    refine ⟨.inr rfl, ?_⟩
    rw [back_mark (d := X.next) (by first | assumption | (simp (disch := first | omega | (simp only [hNw, hPt]; omega)) only [gn0, gn1, gn2, gn3, gn4, gn5, gp0, gno, gpo] <;> first | rfl | assumption | exact gp0 _ _ _ | exact gn0 _ _))]
    refine back_newA (resV_cell rfl (lda (n := 1) (by kernel_rfl) (by first | assumption | (simp (disch := first | omega | (simp only [hNw, hPt]; omega)) only [gn0, gn1, gn2, gn3, gn4, gn5, gp0, gno, gpo] <;> first | rfl | assumption)) (by first | rfl | assumption)) (resV_cell rfl (lda (n := 1) (by kernel_rfl) (by first | assumption | (simp (disch := first | omega | (simp only [hNw, hPt]; omega)) only [gn0, gn1, gn2, gn3, gn4, gn5, gp0, gno, gpo] <;> first | rfl | assumption)) (by first | rfl | assumption)) (resV_cell rfl (lda (n := 1) (by kernel_rfl) (by first | assumption | (simp (disch := first | omega | (simp only [hNw, hPt]; omega)) only [gn0, gn1, gn2, gn3, gn4, gn5, gp0, gno, gpo] <;> first | rfl | assumption)) (by first | rfl | assumption)) resV_nil))) rfl (by rw [← hW]; exact (by (try dsimp only); repeat (first | exact g3 | apply Grow.new | (refine Grow.put ?_ _ (by first | omega | (simp only [hNw, hPt]; omega)))))) (fun H9 p1 p2 => ⟨p1, .inl ⟨i, lv, hi, hhit, hno, rfl, ?_⟩⟩)
    rcases p2 with ⟨_, p2⟩ | ⟨p2, p3⟩
    · exact absurd (flat_tup3 p2) (by rw [kl.flat]; simp)
    · exact (((kl.put (n := X.next + 1) (.loop .exhausted (some .ret) T0 [37, 38] as35 bd35 X.next) (by omega)).put (n := X.next + 1) .dead (by omega)).put (n := X.next) .shut (by omega)).low (by omega) |>.to ⟨Nat.le_of_eq p3.symm, fun n _ => p2 n⟩
end
end Go.Ev

set_option maxRecDepth 100000
set_option linter.unusedSimpArgs false
set_option linter.unusedVariables false
namespace Go.Ev
open Go Go.Proofs
noncomputable section
def leftR (p : Pst) (s : Int) : Int := if p.fall ≤ s then 0 else if p.gain = 0 then -1 else (p.fall - s + p.gain - 1) / p.gain
end
end Go.Ev

set_option maxRecDepth 100000
set_option linter.unusedSimpArgs false
set_option linter.unusedVariables false
namespace Go.Ev
open Go Go.Proofs
noncomputable section
/-- Bools and numbers as they lie. -/
def bl (N : Nat) (g : Nat → Bool) : List AV := (List.range N).map fun k => .bool (g k)
def il (N : Nat) (g : Nat → Nat) : List AV := (List.range N).map fun k => I (g k : Int)
/-- How many are true below. -/
def cntN (g : Nat → Bool) : Nat → Nat
  | 0 => 0
  | i + 1 => cntN g i + (if g i = true then 1 else 0)
/-- Of each speed, whether it is in a range. -/
def fl (x : Iv) (v : Nat) : Bool := bP (inI (v : Int) x)
def nextI (p : Pst) (f : Int) (x : Iv) (row : List Int) : Iv := if x = nul then nul else stepI p f x row
theorem next_iff {p : Pst} {f : Int} {x : Iv} {row : List Int} {v : Int} (hv : 0 ≤ v ∧ v ≤ 1000) : inI v (nextI p f x row) ↔ (x ≠ nul ∧ x.1 - p.drop ≤ v ∧ v ≤ x.2 + p.gain) ∧ AgreeR p f row v := by
  unfold nextI
  by_cases h : x = nul
  · rw [if_pos h]
    exact ⟨fun h9 => absurd h9 (not_nul _), fun h9 => absurd h h9.1.1⟩
  · rw [if_neg h, mem_step]
    exact ⟨fun h9 => ⟨⟨h, h9.2.1⟩, h9.2.2⟩, fun h9 => ⟨hv, h9.1.2, h9.2⟩⟩
/-- What was there, but for one block. -/
structure At1 (K B : Nat) (G : Heap) (o : AObj) (H : Heap) : Prop where
  nx : H.next = G.next
  oth : ∀ j, j ≠ B → H.get j = G.get j
  self : H.get B = some o
  lo : K ≤ H.lo
theorem At1.start {K B : Nat} {G : Heap} {o : AObj} (h : G.get B = some o) (hl : K ≤ G.lo) : At1 K B G o G := ⟨rfl, fun _ _ => rfl, h, hl⟩
theorem At1.put {K B : Nat} {G H : Heap} {o o' : AObj} (h : At1 K B G o H) (hk : K ≤ B) : At1 K B G o' (H.put B o') :=
  ⟨by simp [h.nx], fun j hj => by rw [gpo _ _ _ _ hj]; exact h.oth j hj, gp0 _ _ _, by rw [Heap.lo_put]; have := h.lo; omega⟩
theorem At1.grow {W G H : Heap} {B : Nat} {o : AObj} (h : At1 W.next B G o H) (g : Grow W G) (hk : W.next ≤ B) : Grow W H :=
  ⟨by rw [h.nx]; exact g.next, fun n hn => by rw [h.oth n (by omega)]; exact g.get n hn, h.lo⟩
theorem At1.to {K B : Nat} {G H : Heap} {o o' : AObj} (h : At1 K B G o H) (e : o = o') : At1 K B G o' H := e ▸ h
end
end Go.Ev

set_option maxRecDepth 100000
set_option linter.unusedSimpArgs false
set_option linter.unusedVariables false
namespace Go.Ev
open Go Go.Proofs
noncomputable section
theorem last_next {p : Pst} {f : Int} {rows : List (List Int)} {h : Nat} (hh : h < rows.length) : lastI p f (rows.take (h + 1)) = nextI p f (lastI p f (rows.take h)) rows[h] := by
  rw [List.take_succ_eq_append_getElem hh, lastI_snoc]; rfl
end
end Go.Ev

set_option maxRecDepth 100000
set_option linter.unusedSimpArgs false
set_option linter.unusedVariables false
namespace Go.Ev
open Go Go.Proofs
noncomputable section
end
end Go.Ev

set_option maxRecDepth 100000
set_option linter.unusedSimpArgs false
set_option linter.unusedVariables false
namespace Go.Ev
open Go Go.Proofs
noncomputable section
/-- The least and the greatest of some speeds, as the reference keeps them. -/
def AtSt (S : Nat → Prop) (lo hi : Int) : Prop := (lo = -1 ∧ hi = 0 ∧ ∀ v, ¬ S v) ∨ ∃ a c : Nat, lo = (a : Int) ∧ hi = (c : Int) ∧ S a ∧ S c ∧ ∀ v, S v → a ≤ v ∧ v ≤ c
theorem AtSt.uniq {S : Nat → Prop} {lo hi lo' hi' : Int} (h : AtSt S lo hi) (h' : AtSt S lo' hi') : lo = lo' ∧ hi = hi' := by
  rcases h with ⟨h1, h2, h3⟩ | ⟨a, c, h1, h2, h3, h4, h5⟩
  · rcases h' with ⟨k1, k2, k3⟩ | ⟨a', c', k1, k2, k3, k4, k5⟩
    · exact ⟨by omega, by omega⟩
    · exact absurd k3 (h3 _)
  · rcases h' with ⟨k1, k2, k3⟩ | ⟨a', c', k1, k2, k3, k4, k5⟩
    · exact absurd h3 (k3 _)
    · have := h5 _ k3; have := h5 _ k4; have := k5 _ h3; have := k5 _ h4
      exact ⟨by omega, by omega⟩
theorem AtSt.congr {S S' : Nat → Prop} {lo hi : Int} (h : AtSt S lo hi) (hs : ∀ v, S' v ↔ S v) : AtSt S' lo hi := by
  rcases h with ⟨h1, h2, h3⟩ | ⟨a, c, h1, h2, h3, h4, h5⟩
  · exact .inl ⟨h1, h2, fun v hv => h3 v ((hs v).1 hv)⟩
  · exact .inr ⟨a, c, h1, h2, (hs a).2 h3, (hs c).2 h4, fun v hv => h5 v ((hs v).1 hv)⟩
theorem AtSt.add {S S' : Nat → Prop} {lo hi : Int} (h : AtSt S lo hi) {w : Nat} (hs : ∀ v, S' v ↔ S v ∨ v = w) : AtSt S' (if lo < 0 ∨ (w : Int) < lo then (w : Int) else lo) (max hi (w : Int)) := by
  rcases h with ⟨h1, h2, h3⟩ | ⟨a, c, h1, h2, h3, h4, h5⟩
  · refine .inr ⟨w, w, by rw [if_pos (.inl (by omega))], by omega, (hs w).2 (.inr rfl), (hs w).2 (.inr rfl), fun v hv => ?_⟩
    rcases (hs v).1 hv with h | h
    · exact absurd h (h3 v)
    · omega
  · refine .inr ⟨min a w, max c w, ?_, by omega, ?_, ?_, fun v hv => ?_⟩
    · by_cases e : lo < 0 ∨ (w : Int) < lo
      · rw [if_pos e]; omega
      · rw [if_neg e]; omega
    · rcases Nat.le_total a w with e | e
      · rw [Nat.min_eq_left e]; exact (hs a).2 (.inl h3)
      · rw [Nat.min_eq_right e]; exact (hs w).2 (.inr rfl)
    · rcases Nat.le_total c w with e | e
      · rw [Nat.max_eq_right e]; exact (hs w).2 (.inr rfl)
      · rw [Nat.max_eq_left e]; exact (hs c).2 (.inl h4)
    · rcases (hs v).1 hv with h | h
      · have := h5 v h; omega
      · omega
theorem AtSt.nil {S : Nat → Prop} (h : ∀ v, ¬ S v) : AtSt S (-1) 0 := .inl ⟨rfl, rfl, h⟩
theorem AtSt.bd {S : Nat → Prop} {lo hi : Int} (h : AtSt S lo hi) (hb : ∀ v, S v → v < 1001) : (-1 ≤ lo ∧ lo ≤ 1000) ∧ 0 ≤ hi ∧ hi ≤ 1000 := by
  rcases h with ⟨h1, h2, h3⟩ | ⟨a, c, h1, h2, h3, h4, h5⟩
  · omega
  · have := hb _ h3; have := hb _ h4; omega
noncomputable def atV (S : Nat → Prop) : Int × Int := Classical.epsilon fun x => AtSt S x.1 x.2
theorem AtSt.val {S : Nat → Prop} {lo hi : Int} (h : AtSt S lo hi) : atV S = (lo, hi) := by
  have e : AtSt S (atV S).1 (atV S).2 := Classical.epsilon_spec (p := fun x : Int × Int => AtSt S x.1 x.2) ⟨(lo, hi), h⟩
  have := e.uniq h
  exact Prod.ext this.1 this.2
/-- The speeds that may be behind some hours, with one of the first gauges failed. -/
def SpdS (p : Pst) (rows : List (List Int)) (i : Nat) (v : Nat) : Prop := v < 1001 ∧ ∃ j, j < i ∧ inI (v : Int) (lastI p ((j : Int) - 1) rows)
end
end Go.Ev

set_option maxRecDepth 100000
set_option linter.unusedSimpArgs false
set_option linter.unusedVariables false
namespace Go.Ev
open Go Go.Proofs
noncomputable section
/-- A list of lists that was made. -/
def RowsM (k0 : Nat) (G : Heap) (v : AV) (rows : List (List Int)) : Prop := ∃ vs : List AV, vs.length = rows.length ∧ Mine k0 G v 22 1 vs ∧ ∀ (i : Nat) (x : AV) (r : List Int), vs[i]? = some x → rows[i]? = some r → Mine k0 G x 3 1 (r.map I)
theorem flat_one : ∀ vs : List AV, (vs.map fun x => [x]).flatten = vs
  | [] => rfl
  | a :: l => by rw [List.map_cons, List.flatten_cons, flat_one l]; rfl
theorem RowsM.at {k0 : Nat} {G : Heap} {v : AV} {rows : List (List Int)} (h : RowsM k0 G v rows) : LstAt G v rows := by
  obtain ⟨vs, h1, h2, h3⟩ := h
  exact ⟨vs, h1, Mine.row (e := 22) (by rw [flat_one]; exact h2) (fun x hx => by obtain ⟨y, _, rfl⟩ := List.mem_map.1 hx; rfl) (by omega), fun i x r a c => (h3 i x r a c).ints⟩
theorem RowsM.nil (k0 : Nat) (G : Heap) : RowsM k0 G .nils [] := ⟨[], rfl, Mine.nil _ _ _ _, fun i x s h _ => by simp at h⟩
theorem RowsM.to {k0 : Nat} {G G' : Heap} {v : AV} {rows : List (List Int)} (h : RowsM k0 G v rows) (e : Ext G G') : RowsM k0 G' v rows := by
  obtain ⟨vs, h1, h2, h3⟩ := h
  exact ⟨vs, h1, h2.to e, fun i x r a c => (h3 i x r a c).to e⟩
theorem RowsM.low {k0 k1 : Nat} {G : Heap} {v : AV} {rows : List (List Int)} (h : RowsM k1 G v rows) (hk : k0 ≤ k1) : RowsM k0 G v rows := by
  obtain ⟨vs, h1, h2, h3⟩ := h
  exact ⟨vs, h1, h2.low hk, fun i x r a c => (h3 i x r a c).low hk⟩
theorem RowsM.snoc {k0 : Nat} {G : Heap} {ov x : AV} {l : List (List Int)} {s : List Int} (h : RowsM k0 G ov l) (hx : Mine k0 G x 3 1 (s.map I)) : ∃ cs, Mine k0 G ov 22 1 cs ∧ cs.length = l.length ∧ ∀ v2 G2, Mine k0 G2 v2 22 1 (cs ++ [x]) → G.next ≤ G2.next → (∀ j, j < G.next → (∀ m, ov ≠ .opn j m) → G2.get j = G.get j) → RowsM k0 G2 v2 (l ++ [s]) := by
  obtain ⟨vs, h1, h2, h3⟩ := h
  refine ⟨_, h2, h1, fun v2 G2 k1 k2 k3 => ⟨vs ++ [x], by simp [h1], k1, fun i y t a c => ?_⟩⟩
  by_cases hi : i < vs.length
  · rw [List.getElem?_append_left hi] at a
    rw [List.getElem?_append_left (by omega)] at c
    exact (h3 i y t a c).offE h2 (.inl (by decide)) k2 k3
  · by_cases hi2 : i = vs.length
    · subst hi2
      rw [List.getElem?_append_right (Nat.le_refl _)] at a
      rw [List.getElem?_append_right (by omega), h1] at c
      simp at a c
      subst a c
      exact hx.offE h2 (.inl (by decide)) k2 k3
    · rw [List.getElem?_eq_none (by simp; omega)] at a; cases a
def thinB (p : Pst) (rows : List (List Int)) : Bool := (rows.take 66).all (fun r => decide (r.length ≤ 15)) && (decide (p.errs.length ≤ 15) && decide (rows.length ≤ 65))
def fewB (p : Pst) (rows : List (List Int)) : Bool := thinB p rows && (decide (faultE p rows ≠ 0) || decide (rows.length ≤ 8))
theorem c34 (m : Nat) (av bv : AV) (xs ys : List Int) (H : Heap) (hA : Ints H av xs) (hB : Ints H bv ys) (hl : xs.length ≤ 100000) (hl2 : ys.length ≤ 100000) : RR (m + 1) (.fn 34 [av, bv]) H = some (.bool (decide (xs = ys)), H) := by
  refine (R_fn _ _ _ _ _).trans ?_
  refine fn_ok Try.func34 rfl rfl (by kernel_rfl) (by kernel_rfl) ?_
  obtain ⟨W, hW⟩ : ∃ W : Heap, W = ⟨H.t, H.next, H.next⟩ := ⟨_, rfl⟩
  have hg : ∀ n, W.get n = H.get n := fun n => by rw [hW]; rfl
  have hN : W.next = H.next := by rw [hW]
  have hE : ∀ G, Grow W G → Ext H G := fun G g => ⟨by rw [← hN]; exact g.next, fun n k => by rw [g.get n (by rw [hN]; exact k), hg]⟩
  have hG : Grow W W := Grow.refl (by rw [hW]; exact Nat.le_refl _)
  rw [← hW]
  have hal := hA.len
  have hbl := hB.len
  refine Ok.seq ?_
  refine Ok.region ?_
  refine OkO.assign rfl rfl ?_
  refine OkO.nil ?_
  refine Ok.seq ?_
  refine Ok.seq ?_
  refine Ok.region ?_
  refine OkO.move rfl rfl ?_
  refine OkO.builtin rfl rfl rfl (bln (by kernel_rfl) (by first | assumption | rfl)) ?_
  refine OkO.move rfl rfl ?_
  refine OkO.builtin rfl rfl rfl (bln (by kernel_rfl) (by first | assumption | rfl)) ?_
  refine OkO.bin rfl rfl rfl (bin_neq _ _) ?_
  refine OkO.nil ?_
  refine Ok.cond rfl (fun h1 => ?_) (fun h1 => ?_)
  · -- yes h1
    have hne : xs.length ≠ ys.length := by (have h9 : (xs.length : Int) ≠ (ys.length : Int) := by simpa using h1); omega
    refine Ok.seq ?_
    refine Ok.region ?_
    refine OkO.assign rfl rfl ?_
    refine OkO.nil ?_
    refine Ok.ret ⟨.inr rfl, ?_⟩
    exact back_flat rfl (congrArg AV.bool (by symm; rw [decide_eq_false_iff_not]; intro e; exact hne (by rw [e]))) rfl (by rw [← hW]; exact hG)
  · -- no h1
    have hle : xs.length = ys.length := by (have h9 : (xs.length : Int) = (ys.length : Int) := by simpa using h1); omega
    refine Ok.skip ?_
    refine Ok.seq ?_
    refine Ok.seq ?_
    refine Ok.region ?_
    refine OkO.assign rfl rfl ?_
    refine OkO.nil ?_
    refine Ok.block ?_
    refine Ok.loop (fun n s => ∃ i : Nat, n = xs.length - i ∧ i ≤ xs.length ∧ (∀ (j : Nat) (h1 : j < xs.length) (h2 : j < ys.length), j < i → xs[j] = ys[j]) ∧ Has 5 [(0, av), (1, bv), (5, I (i : Int))] s.T ∧ s.D = [] ∧ s.H = W) (xs.length) (by unfold loopFuel; omega)
      ⟨0, rfl, Nat.zero_le _, fun j h1 h2 h3 => absurd h3 (Nat.not_lt_zero j), Has.of (by kernel_rfl), rfl, rfl⟩ ?_
    rintro n ⟨T, D, G⟩ ⟨i, hn, hi, hall, ⟨f_, hT⟩, hD, hg9⟩
    dsimp only at *
    subst hT hD
    skip
    subst hg9
    refine Ok.seq ?_
    refine Ok.seq ?_
    refine Ok.region ?_
    refine OkO.move rfl rfl ?_
    refine OkO.move rfl rfl ?_
    refine OkO.builtin rfl rfl rfl (bln (by kernel_rfl) (by first | assumption | rfl)) ?_
    refine OkO.bin rfl rfl rfl (bin_lss _ _) ?_
    refine OkO.nil ?_
    refine Ok.cond rfl (fun h2 => ?_) (fun h2 => ?_)
    · -- yes h2
      have hlt : i < xs.length := by simpa using h2
      obtain ⟨xb, xo, xcs, x1, x2, x3, x4⟩ := (hA.ext (hE _ hG)).at' i hlt
      obtain ⟨yb, yo, ycs, y1, y2, y3, y4⟩ := (hB.ext (hE _ hG)).at' i (by omega)
      refine Ok.skip ?_
      refine Ok.seq ?_
      refine Ok.block ?_
      refine Ok.seq ?_
      refine Ok.drawn [(0, true, []), (1, true, []), (2, true, []), (3, true, []), (4, true, []), (5, true, []), (6, true, []), (7, true, []), (8, true, [])] (by kernel_rfl) ?_
      refine OkP.step ?_
      refine OkO.move rfl rfl ?_
      refine OkO.nil ⟨rfl, ?_⟩
      refine OkP.step ?_
      refine OkO.move rfl rfl ?_
      refine OkO.nil ⟨rfl, ?_⟩
      refine OkP.step ?_
      refine OkO.index (sz := 1) (n := i) rfl rfl rfl (by kernel_rfl) (by first | assumption | rfl | exact slAt_slice (by omega) | exact slAt_opn (by omega)) ?_ -- index ('Go.Operand.tmp', 17) ('Go.Operand.tmp', 18)
      refine OkO.nil ⟨rfl, ?_⟩
      refine OkP.step ?_
      refine OkO.load rfl rfl (lda (n := 1) (by kernel_rfl) (by first | assumption | (simp (disch := first | omega | (simp only [hNw, hPt]; omega)) only [gn0, gn1, gn2, gn3, gn4, gn5, gp0, gno, gpo] <;> first | rfl | assumption | exact gp0 _ _ _ | exact gn0 _ _)) (by first | rfl | assumption)) ?_
      refine OkO.nil ⟨rfl, ?_⟩
      refine OkP.step ?_
      refine OkO.move rfl rfl ?_
      refine OkO.nil ⟨rfl, ?_⟩
      refine OkP.step ?_
      refine OkO.move rfl rfl ?_
      refine OkO.nil ⟨rfl, ?_⟩
      refine OkP.step ?_
      refine OkO.index (sz := 1) (n := i) rfl rfl rfl (by kernel_rfl) (by first | assumption | rfl | exact slAt_slice (by omega) | exact slAt_opn (by omega)) ?_ -- index ('Go.Operand.tmp', 21) ('Go.Operand.tmp', 22)
      refine OkO.nil ⟨rfl, ?_⟩
      refine OkP.step ?_
      refine OkO.load rfl rfl (lda (n := 1) (by kernel_rfl) (by first | assumption | (simp (disch := first | omega | (simp only [hNw, hPt]; omega)) only [gn0, gn1, gn2, gn3, gn4, gn5, gp0, gno, gpo] <;> first | rfl | assumption | exact gp0 _ _ _ | exact gn0 _ _)) (by first | rfl | assumption)) ?_
      refine OkO.nil ⟨rfl, ?_⟩
      refine OkP.step ?_
      refine OkO.bin rfl rfl rfl (bin_neq _ _) ?_
      refine OkO.nil ⟨rfl, ?_⟩
      refine OkP.nil ?_
      refine Ok.cond rfl (fun h3 => ?_) (fun h3 => ?_)
      · -- yes h3
        have hne : xs[i] ≠ ys[i]'(by omega) := by simpa using h3
        refine Ok.seq ?_
        refine Ok.region ?_
        refine OkO.assign rfl rfl ?_
        refine OkO.nil ?_
        refine Ok.ret ⟨.inr rfl, ?_⟩
        exact back_flat rfl (congrArg AV.bool (by symm; rw [decide_eq_false_iff_not]; intro e; subst e; exact hne rfl)) rfl (by rw [← hW]; exact hG)
      · -- no h3
        refine Ok.skip ?_
        refine Ok.region ?_
        refine OkO.move rfl rfl ?_
        refine OkO.bin rfl rfl rfl (bin_add (by omega) (by omega)) ?_
        refine OkO.assign rfl rfl ?_
        refine OkO.nil ?_
        refine ⟨xs.length - (i + 1), by omega, i + 1, rfl, by omega, fun j h1_ h2_ h3_ => ?_, Has.of (by kernel_rfl), rfl, rfl⟩
        by_cases e : j = i
        · subst e; simpa using h3
        · exact hall j h1_ h2_ (by omega)
    · -- no h2
      have hge : xs.length ≤ i := by simpa using h2
      refine Ok.exit ?_
      refine Ok.seq ?_
      refine Ok.region ?_
      refine OkO.assign rfl rfl ?_
      refine OkO.nil ?_
      refine Ok.ret ⟨.inr rfl, ?_⟩
      exact back_flat rfl (congrArg AV.bool (by symm; rw [decide_eq_true_eq]; exact List.ext_getElem hle (fun j h1_ h2_ => hall j h1_ h2_ (by omega)))) rfl (by rw [← hW]; exact hG)
end
end Go.Ev

set_option maxRecDepth 100000
set_option linter.unusedSimpArgs false
set_option linter.unusedVariables false
namespace Go.Ev
open Go Go.Proofs
noncomputable section
theorem LstAt.take {H : Heap} {v : AV} {rows : List (List Int)} (h : LstAt H v rows) (hv : (∃ b off len cap, v = .slice b off len cap ∧ len ≤ cap) ∨ v = .nils ∨ ∃ a c, v = .raw (.slice a 0 c)) {k : Nat} (hk : k ≤ rows.length) : ∃ v', (∀ G, sliceOf G 1 v none (some (.int .i64 (k : Int))) = some v') ∧ LstAt H v' (rows.take k) := by
  obtain ⟨vs, h1, h2, h3⟩ := h
  obtain ⟨v', e1, e2⟩ := slice_to hv h2 (k := k) (by simp; omega)
  refine ⟨v', e1, vs.take k, by simp [h1], by rw [List.map_take]; exact e2, fun i x r a c => ?_⟩
  rw [List.getElem?_take] at a c
  split at a
  · rename_i hi
    rw [if_pos hi] at c
    exact h3 i x r a c
  · cases a
theorem spd_in {p : Pst} {rows : List (List Int)} {h j : Nat} (hh : h < (mayL p ((j : Int) - 1) rows).length) : ∀ {k : Nat}, j < k → (mayL p ((j : Int) - 1) rows)[h].1 ∈ spdL p rows h k ∧ (mayL p ((j : Int) - 1) rows)[h].2 ∈ spdL p rows h k
  | 0, hk => by omega
  | i + 1, hk => by
    by_cases e : j = i
    · subst e
      rw [spdL_yes (show h + 1 ≤ lenM p rows j from hh) hh]
      simp
    · have := spd_in hh (k := i) (by omega)
      show _ ∈ spdL p rows h i ++ _ ∧ _ ∈ spdL p rows h i ++ _
      exact ⟨List.mem_append.2 (.inl this.1), List.mem_append.2 (.inl this.2)⟩
theorem foldl_min : ∀ (l : List Int) (a : Int), l.foldl min a ≤ a ∧ ∀ x ∈ l, l.foldl min a ≤ x
  | [], a => ⟨Int.le_refl _, nofun⟩
  | c :: l, a => by
    obtain ⟨h1, h2⟩ := foldl_min l (min a c)
    rw [List.foldl_cons]
    exact ⟨by omega, fun x hx => by
      rcases List.mem_cons.1 hx with rfl | h
      · omega
      · exact h2 x h⟩
theorem foldl_max : ∀ (l : List Int) (a : Int), a ≤ l.foldl max a ∧ ∀ x ∈ l, x ≤ l.foldl max a
  | [], a => ⟨Int.le_refl _, nofun⟩
  | c :: l, a => by
    obtain ⟨h1, h2⟩ := foldl_max l (max a c)
    rw [List.foldl_cons]
    exact ⟨by omega, fun x hx => by
      rcases List.mem_cons.1 hx with rfl | h
      · omega
      · exact h2 x h⟩
theorem mnL_le {L : List Int} {x : Int} (h : x ∈ L) : mnL L ≤ x := by
  cases L with
  | nil => cases h
  | cons a l =>
    rcases List.mem_cons.1 h with rfl | h
    · exact (foldl_min l _).1
    · exact (foldl_min l a).2 x h
theorem le_mxL {L : List Int} {x : Int} (h : x ∈ L) : x ≤ mxL L := by
  cases L with
  | nil => cases h
  | cons a l =>
    rcases List.mem_cons.1 h with rfl | h
    · exact (foldl_max l _).1
    · exact (foldl_max l a).2 x h
theorem poss_last {p : Pst} {rows : List (List Int)} {i h : Nat} (hh : h ≤ rows.length) : h ≤ lenM p rows i ↔ lastI p ((i : Int) - 1) (rows.take h) ≠ nul := may_len hh
end
end Go.Ev

set_option maxRecDepth 100000
set_option linter.unusedSimpArgs false
set_option linter.unusedVariables false
namespace Go.Ev
open Go Go.Proofs
noncomputable section
end
end Go.Ev

set_option maxRecDepth 100000
set_option linter.unusedSimpArgs false
set_option linter.unusedVariables false
namespace Go.Ev
open Go Go.Proofs
noncomputable section
end
end Go.Ev

set_option maxRecDepth 100000
set_option linter.unusedSimpArgs false
set_option linter.unusedVariables false
namespace Go.Ev
open Go Go.Proofs
noncomputable section
end
end Go.Ev

set_option maxRecDepth 100000
set_option linter.unusedSimpArgs false
set_option linter.unusedVariables false
namespace Go.Ev
open Go Go.Proofs
noncomputable section
/-- A number that words pick. -/
def pickV (lo hi : Int) (ws : List Int) (a : Nat) : Int :=
  if ws = [] then lo else if (ws.getD (a % ws.length) 0) % 4 = 0 then lo else if (ws.getD (a % ws.length) 0) % 4 = 1 then hi else lo + (ws.getD (a % ws.length) 0) % (hi - lo + 1)
/-- Speeds that may be, and reads that agree with them. -/
def TruOk (p : Pst) (f : Int) (sp : List Int) (rows : List (List Int)) : Prop := rows.length = sp.length ∧ MovP p sp ∧ AgrP p f rows sp ∧ ∀ r ∈ rows, r.length = p.errs.length ∧ ∀ x ∈ r, -1000 ≤ x ∧ x ≤ 2000
theorem TruOk.nil (p : Pst) (f : Int) : TruOk p f [] [] := ⟨rfl, ⟨fun x h => absurd h List.not_mem_nil, fun h h2 => absurd h2 (Nat.not_lt_zero _)⟩, fun h h1 => absurd h1 (Nat.not_lt_zero _), fun r h => absurd h List.not_mem_nil⟩
theorem TruOk.snoc {p : Pst} {f v : Int} {sp : List Int} {rows : List (List Int)} {row : List Int} (h : TruOk p f sp rows) (hv : 0 ≤ v ∧ v ≤ 1000) (hs : ∀ x, sp[sp.length - 1]? = some x → StepOk p x v) (hr : row.length = p.errs.length ∧ ∀ x ∈ row, -1000 ≤ x ∧ x ≤ 2000) (ha : AgreeR p f row v) : TruOk p f (sp ++ [v]) (rows ++ [row]) := by
  obtain ⟨h1, ⟨h2, h3⟩, h4, h5⟩ := h
  refine ⟨by simp [h1], ⟨fun x hx => ?_, fun k hk => ?_⟩, fun k k1 k2 => ?_, fun r hr9 => ?_⟩
  · rcases List.mem_append.1 hx with hx | hx
    · exact h2 x hx
    · rw [List.mem_singleton] at hx; rw [hx]; exact hv
  · rw [List.length_append, List.length_singleton] at hk
    by_cases c : k + 1 < sp.length
    · rw [List.getElem_append_left c, List.getElem_append_left (by omega)]
      exact h3 k c
    · have e1 : (sp ++ [v])[k + 1]'(by simp; omega) = v := by rw [List.getElem_append_right (by omega)]; simp
      have e2 : (sp ++ [v])[k]'(by simp; omega) = sp[k]'(by omega) := List.getElem_append_left (by omega)
      rw [e1, e2]
      exact hs _ (by rw [show sp.length - 1 = k from by omega, List.getElem?_eq_getElem (by omega)])
  · rw [List.length_append, List.length_singleton] at k1
    by_cases c : k < sp.length
    · rw [List.getElem_append_left c, List.getElem_append_left (by omega)]
      exact h4 k c (by omega)
    · have e1 : (sp ++ [v])[k]'(by simp; omega) = v := by rw [List.getElem_append_right (by omega)]; simp
      have e2 : (rows ++ [row])[k]'k2 = row := by rw [List.getElem_append_right (by omega)]; simp
      rw [e1, e2]
      exact ha
  · rcases List.mem_append.1 hr9 with hr9 | hr9
    · exact h5 r hr9
    · rw [List.mem_singleton] at hr9; rw [hr9]; exact hr
theorem TruOk.in {p : Pst} {f : Int} {sp : List Int} {rows : List (List Int)} (h : TruOk p f sp rows) (hpg : 0 ≤ p.gain) (hpd : 0 ≤ p.drop) : ∀ (k : Nat) (hk : k < sp.length), inI sp[k] (lastI p f (rows.take (k + 1)))
  | 0, hk => by
    obtain ⟨h1, ⟨h2, h3⟩, h4, h5⟩ := h
    have hb := h2 _ (List.getElem_mem hk)
    rw [last_next (by omega), next_iff hb]
    refine ⟨⟨(by rw [List.take_zero]; intro h9; cases h9), ?_⟩, h4 0 hk (by omega)⟩
    rw [List.take_zero]
    show (0 : Int) - p.drop ≤ _ ∧ _ ≤ (1000 : Int) + p.gain
    omega
  | k + 1, hk => by
    have hi := TruOk.in h hpg hpd k (by omega)
    obtain ⟨h1, ⟨h2, h3⟩, h4, h5⟩ := h
    have hb := h2 _ (List.getElem_mem hk)
    rw [last_next (by omega), next_iff hb]
    have hs := h3 k hk
    refine ⟨⟨fun h9 => ?_, ?_⟩, h4 (k + 1) hk (by omega)⟩
    · rw [h9] at hi; exact not_nul _ hi
    · unfold StepOk at hs; unfold inI at hi; omega
theorem TruOk.len {p : Pst} {f : Int} {sp : List Int} {rows : List (List Int)} (h : TruOk p f sp rows) (hpg : 0 ≤ p.gain) (hpd : 0 ≤ p.drop) {j : Nat} (hj : f = (j : Int) - 1) : rows.length ≤ lenM p rows j := by
  refine (poss_last (Nat.le_refl _)).2 ?_
  rw [List.take_length]
  rw [← hj]
  by_cases c : sp.length = 0
  · have : rows = [] := List.eq_nil_of_length_eq_zero (by rw [h.1]; exact c)
    rw [this]
    intro h9; cases h9
  · intro h9
    have := h.in hpg hpd (sp.length - 1) (by omega)
    rw [show rows.take (sp.length - 1 + 1) = rows from by rw [show sp.length - 1 + 1 = rows.length from by rw [h.1]; omega, List.take_length], h9] at this
    exact not_nul _ this
theorem TruOk.span {p : Pst} {f : Int} {sp : List Int} {rows : List (List Int)} (h : TruOk p f sp rows) (hpg : 0 ≤ p.gain) (hpd : 0 ≤ p.drop) {j : Nat} (hj : f = (j : Int) - 1) (hn : j < p.errs.length + 1) (k : Nat) (hk : k < sp.length) : mnL (spdL p rows k (p.errs.length + 1)) ≤ sp[k] ∧ sp[k] ≤ mxL (spdL p rows k (p.errs.length + 1)) := by
  have hl := h.len hpg hpd hj
  have hm : k < (mayL p ((j : Int) - 1) rows).length := by (have h9 : rows.length ≤ (mayL p ((j : Int) - 1) rows).length := hl); rw [h.1] at h9; omega
  have h1 := spd_in hm hn
  have h2 := h.in hpg hpd k hk
  rw [hj, ← (may_mem hm).1] at h2
  have h3 := mnL_le h1.1
  have h4 := le_mxL h1.2
  unfold inI at h2
  omega
theorem MovP.up {p : Pst} {sp : List Int} (h : MovP p sp) (k : Nat) : ∀ (d : Nat) (hd : k + d < sp.length), sp[k + d] ≤ sp[k]'(by omega) + (d : Int) * p.gain
  | 0, hd => by simp
  | d + 1, hd => by
    have h1 := MovP.up h k d (by omega)
    have h2 := h.2 (k + d) (by omega)
    unfold StepOk at h2
    have e : ((d + 1 : Nat) : Int) * p.gain = (d : Int) * p.gain + p.gain := by rw [show ((d + 1 : Nat) : Int) = (d : Int) + 1 from by omega, Int.add_mul, Int.one_mul]
    rw [e]
    show sp[k + d + 1] ≤ _
    omega
theorem level_call {p : Pst} {x y : Int} {d : Nat} (hpg : 0 ≤ p.gain) (hd : (d : Int) ≤ p.out) (hy : p.fall ≤ y) (hxy : y ≤ x + (d : Int) * p.gain) : levelI p x = 3 := by
  have hl : leftI p x ≤ hrI p 0 := by
    have e : hrI p 0 = p.out := by simp [hrI]
    rw [e]
    unfold leftI
    split
    · omega
    · rename_i h1
      split
      · rename_i h2
        rw [h2, Int.mul_zero] at hxy
        omega
      · have h3 : (p.fall - x + p.gain - 1) / p.gain < (d : Int) + 1 := by
          refine Int.ediv_lt_of_lt_mul (by omega) ?_
          rw [Int.add_mul, Int.one_mul]
          omega
        omega
  unfold levelI
  rw [if_pos hl]
theorem TruOk.call {p : Pst} {f : Int} {sp : List Int} {rows : List (List Int)} (h : TruOk p f sp rows) (hpg : 0 ≤ p.gain) (hpd : 0 ≤ p.drop) {j : Nat} (hj : f = (j : Int) - 1) (hn : j < p.errs.length + 1) {k i : Nat} (hk : k ≤ i) (hi : i < sp.length) (ho : (i : Int) - p.out ≤ k) (hfall : p.fall ≤ sp[i]) : levelI p (mxL (spdL p rows k (p.errs.length + 1))) = 3 := by
  have h1 := MovP.up h.2.1 k (i - k) (by omega)
  have h2 := (h.span hpg hpd hj hn k (by omega)).2
  have e : sp[k + (i - k)]'(by omega) = sp[i] := by congr 1; omega
  rw [e] at h1
  refine level_call (y := sp[i]) (d := i - k) hpg (by omega) hfall ?_
  omega
/-- A list of lists that was made, apart from another list. -/
def RowsX (k0 : Nat) (G : Heap) (xv v : AV) (rows : List (List Int)) : Prop := ∃ vs : List AV, vs.length = rows.length ∧ Mine k0 G v 22 1 vs ∧ ∀ (i : Nat) (x : AV) (r : List Int), vs[i]? = some x → rows[i]? = some r → Mine k0 G x 3 1 (r.map I) ∧ ∀ b m m', x = .opn b m → xv ≠ .opn b m'
theorem RowsX.rows {k0 : Nat} {G : Heap} {xv v : AV} {l : List (List Int)} (h : RowsX k0 G xv v l) : RowsM k0 G v l := by
  obtain ⟨vs, h1, h2, h3⟩ := h
  exact ⟨vs, h1, h2, fun i x r a c => (h3 i x r a c).1⟩
theorem RowsX.nil (k0 : Nat) (G : Heap) (xv : AV) : RowsX k0 G xv .nils [] := ⟨[], rfl, Mine.nil _ _ _ _, fun i x s h _ => by simp at h⟩
theorem RowsX.to {k0 : Nat} {G G' : Heap} {xv v : AV} {l : List (List Int)} (h : RowsX k0 G xv v l) (e : Ext G G') : RowsX k0 G' xv v l := by
  obtain ⟨vs, h1, h2, h3⟩ := h
  exact ⟨vs, h1, h2.to e, fun i x r a c => ⟨(h3 i x r a c).1.to e, (h3 i x r a c).2⟩⟩
theorem RowsX.snoc {k0 : Nat} {G : Heap} {xv ov x : AV} {l : List (List Int)} {s : List Int} (h : RowsX k0 G xv ov l) (hx : Mine k0 G x 3 1 (s.map I)) (hsep : ∀ b m m', x = .opn b m → xv ≠ .opn b m') : ∃ cs, Mine k0 G ov 22 1 cs ∧ cs.length = l.length ∧ ∀ v2 G2, Mine k0 G2 v2 22 1 (cs ++ [x]) → G.next ≤ G2.next → (∀ j, j < G.next → (∀ m, ov ≠ .opn j m) → G2.get j = G.get j) → RowsX k0 G2 xv v2 (l ++ [s]) := by
  obtain ⟨vs, h1, h2, h3⟩ := h
  refine ⟨_, h2, h1, fun v2 G2 k1 k2 k3 => ⟨vs ++ [x], by simp [h1], k1, fun i y t a c => ?_⟩⟩
  by_cases hi : i < vs.length
  · rw [List.getElem?_append_left hi] at a
    rw [List.getElem?_append_left (by omega)] at c
    exact ⟨(h3 i y t a c).1.offE h2 (.inl (by decide)) k2 k3, (h3 i y t a c).2⟩
  · by_cases hi2 : i = vs.length
    · subst hi2
      rw [List.getElem?_append_right (Nat.le_refl _)] at a
      rw [List.getElem?_append_right (by omega), h1] at c
      simp at a c
      subst a c
      exact ⟨hx.offE h2 (.inl (by decide)) k2 k3, hsep⟩
    · rw [List.getElem?_eq_none (by simp; omega)] at a; cases a
def U16c (n : Int) : List AV := [.int .u16 n]
/-- A row of reads, as words make it. -/
def rowV (p : Pst) (f v : Int) (ws : List Int) (h n : Nat) : List Int := (List.range n).map fun (i : Nat) => if (i : Int) = f then pickV (-1000) 2000 ws (5 * h + 1) else pickV (v - p.errs.getD i 0) (v + p.errs.getD i 0) ws (7 * h + i)
end
end Go.Ev

set_option maxRecDepth 100000
set_option linter.unusedSimpArgs false
set_option linter.unusedVariables false
namespace Go.Ev
open Go Go.Proofs
noncomputable section
end
end Go.Ev

set_option maxRecDepth 100000
set_option linter.unusedSimpArgs false
set_option linter.unusedVariables false
namespace Go.Ev
open Go Go.Proofs
noncomputable section
end
end Go.Ev

set_option maxRecDepth 100000
set_option linter.unusedSimpArgs false
set_option linter.unusedVariables false
namespace Go.Ev
open Go Go.Proofs
noncomputable section
theorem c35O (m : Nat) (ev rv : AV) (p : Pst) (rows : List (List Int)) (hr : Nat) (s0 : Int) (H : Heap) (hV : Ints H ev p.errs) (hRs : LstAt H rv rows) (hpl : p.errs.length ≤ 100000) (hrl : rows.length ≤ 100000) (hlens9 : ∀ r ∈ rows, r.length ≤ 100000) (hf : faultE p rows = 0) (hhr : hr < rows.length) (hno : ∀ j, j ≤ p.errs.length → ¬ HitP p rows hr s0 j) : ∃ v H', RR (m + 80) (.fn 35 [.agg (p.c ev), rv, I (hr : Int), I s0]) H = some (v, H') ∧ ∃ e, v = .tup [I 0, .nils, I e] ∧ Ret H H' ∧ (e = 7 ∨ (e = 2 ∧ ¬ (0 ≤ s0 ∧ s0 ≤ 1000))) := by
  by_cases hs : 0 ≤ s0 ∧ s0 ≤ 1000
  · obtain ⟨v, H', h1, h2, h3⟩ := c35Y m ev rv p rows hr s0 H hV hRs hpl hrl hlens9 hf hhr hs
    refine ⟨v, H', h1, 7, ?_, h2, .inl rfl⟩
    rcases h3 with ⟨i, l, hi, hh, _⟩ | ⟨_, h3⟩
    · exact absurd hh (hno i hi)
    · exact h3
  · exact ⟨_, H, c35R m ev rv p rows hr s0 H hV hRs hpl hrl hlens9 hf (by simp [inB]; omega), 2, rfl, Ret.refl H, .inr ⟨rfl, hs⟩⟩
end
end Go.Ev

set_option maxRecDepth 100000
set_option linter.unusedSimpArgs false
set_option linter.unusedVariables false
namespace Go.Ev
open Go Go.Proofs
noncomputable section
/-- A list of lists that was made, each list in a block of its own. -/
def RowsD (k0 : Nat) (G : Heap) (v : AV) (rows : List (List Int)) : Prop := ∃ vs : List AV, vs.length = rows.length ∧ Mine k0 G v 22 1 vs ∧ (∀ (i : Nat) (x : AV) (r : List Int), vs[i]? = some x → rows[i]? = some r → Mine k0 G x 3 1 (r.map I)) ∧ ∀ (i j : Nat) (b m m' : Nat), i ≠ j → vs[i]? = some (.opn b m) → vs[j]? ≠ some (.opn b m')
theorem RowsD.rows {k0 : Nat} {G : Heap} {v : AV} {rows : List (List Int)} (h : RowsD k0 G v rows) : RowsM k0 G v rows := let ⟨vs, h1, h2, h3, _⟩ := h; ⟨vs, h1, h2, h3⟩
theorem RowsD.nil (k0 : Nat) (G : Heap) : RowsD k0 G .nils [] := ⟨[], rfl, Mine.nil _ _ _ _, fun i x s h _ => by simp at h, fun i j b m m' _ h => by simp at h⟩
theorem RowsD.to {k0 : Nat} {G G' : Heap} {v : AV} {rows : List (List Int)} (h : RowsD k0 G v rows) (e : Ext G G') : RowsD k0 G' v rows := let ⟨vs, h1, h2, h3, h4⟩ := h; ⟨vs, h1, h2.to e, fun i x r a c => (h3 i x r a c).to e, h4⟩
theorem RowsD.low {k0 k1 : Nat} {G : Heap} {v : AV} {rows : List (List Int)} (h : RowsD k1 G v rows) (hk : k0 ≤ k1) : RowsD k0 G v rows := let ⟨vs, h1, h2, h3, h4⟩ := h; ⟨vs, h1, h2.low hk, fun i x r a c => (h3 i x r a c).low hk, h4⟩
theorem RowsD.snoc {k0 : Nat} {G0 G : Heap} {ov x : AV} {l : List (List Int)} {s : List Int} (h : RowsD k0 G0 ov l) (e : Ext G0 G) (hx : Mine G0.next G x 3 1 (s.map I)) (hk : k0 ≤ G0.next) : ∃ cs, Mine k0 G ov 22 1 cs ∧ cs.length = l.length ∧ ∀ v2 G2, Mine k0 G2 v2 22 1 (cs ++ [x]) → G.next ≤ G2.next → (∀ j, j < G.next → (∀ m, ov ≠ .opn j m) → G2.get j = G.get j) → RowsD k0 G2 v2 (l ++ [s]) := by
  obtain ⟨vs, h1, h2, h3, h4⟩ := h
  refine ⟨_, h2.to e, h1, fun v2 G2 k1 k2 k3 => ⟨vs ++ [x], by simp [h1], k1, fun i y t a c => ?_, fun i j b m m' hij ha hb => ?_⟩⟩
  · by_cases hi : i < vs.length
    · rw [List.getElem?_append_left hi] at a
      rw [List.getElem?_append_left (by omega)] at c
      exact ((h3 i y t a c).to e).offE (h2.to e) (.inl (by decide)) k2 k3
    · by_cases hi2 : i = vs.length
      · subst hi2
        rw [List.getElem?_append_right (Nat.le_refl _)] at a
        rw [List.getElem?_append_right (by omega), h1] at c
        simp at a c
        subst a c
        exact (hx.low hk).offE (h2.to e) (.inl (by decide)) k2 k3
      · rw [List.getElem?_eq_none (by simp; omega)] at a; cases a
  · have key : ∀ (i : Nat) (b m m' : Nat), vs[i]? = some (.opn b m) → x ≠ .opn b m' := fun i b m m' ha hb => by
      have hi : i < vs.length := (List.getElem?_eq_some_iff.1 ha).1
      have := (h3 i _ _ ha (List.getElem?_eq_getElem (by omega))).lt rfl
      exact hx.far this m' hb
    have hlen : ∀ (i : Nat) (z : AV), (vs ++ [x])[i]? = some z → (i < vs.length ∧ vs[i]? = some z) ∨ (i = vs.length ∧ z = x) := fun i z hz => by
      by_cases hi : i < vs.length
      · rw [List.getElem?_append_left hi] at hz; exact .inl ⟨hi, hz⟩
      · have h9 : i < (vs ++ [x]).length := (List.getElem?_eq_some_iff.1 hz).1
        rw [List.length_append, List.length_singleton] at h9
        have e9 : i = vs.length := by omega
        subst e9
        rw [List.getElem?_append_right (Nat.le_refl _)] at hz
        simp at hz
        exact .inr ⟨rfl, hz.symm⟩
    rcases hlen i _ ha with ⟨_, ha⟩ | ⟨ha, ha2⟩ <;> rcases hlen j _ hb with ⟨_, hb⟩ | ⟨hb, hb2⟩
    · exact h4 i j b m m' hij ha hb
    · exact key i b m m' ha hb2.symm
    · exact key j b m' m hb ha2.symm
    · omega
theorem RowsD.at {k0 : Nat} {G : Heap} {v : AV} {rows : List (List Int)} (h : RowsD k0 G v rows) : LstAt G v rows := h.rows.at
end
end Go.Ev

set_option maxRecDepth 100000
set_option linter.unusedSimpArgs false
set_option linter.unusedVariables false
namespace Go.Ev
open Go Go.Proofs
noncomputable section
def Pst.more (p : Pst) (er : Int) : Pst := ⟨p.errs ++ [er], p.gain, p.drop, p.fall, p.out, p.ahead⟩
def wz (ws : List Int) (j : Nat) : Int := ws.getD (j % ws.length) 0 % 1000
/-- The rows, each of the first ones with one number more. -/
def addR (ws : List Int) (i : Nat) (rows : List (List Int)) : List (List Int) := rows.mapIdx fun j r => if j < i then r ++ [wz ws j] else r
/-- Who may have failed without the gauge that came in last. -/
def lessF (p : Pst) (f : Int) : Int := if f = (p.errs.length : Int) then -1 else f
theorem Mine.up {k0 k1 : Nat} {G : Heap} {v : AV} {e : TypeId} {sz : Nat} {cs : List AV} (h : Mine k0 G v e sz cs) {b m : Nat} (hv : v = .opn b m) (hb : k1 ≤ b) : Mine k1 G v e sz cs := by
  rcases h with ⟨h, _⟩ | ⟨b', n, a1, a2, a3, a4, a5⟩
  · rw [h] at hv; cases hv
  · refine .inr ⟨b', n, a1, a2, a3, ?_, a5⟩
    rw [a1] at hv; cases hv; exact hb
theorem slAt_opn {b len sz n : Nat} (h : n < len) : slAt (.opn b len) sz n = some (b, n * sz) := by simp [slAt, h]
end
end Go.Ev

set_option maxRecDepth 100000
set_option linter.unusedSimpArgs false
set_option linter.unusedVariables false
namespace Go.Ev
open Go Go.Proofs
noncomputable section
end
end Go.Ev

set_option maxRecDepth 100000
set_option linter.unusedSimpArgs false
set_option linter.unusedVariables false
namespace Go.Ev
open Go Go.Proofs
noncomputable section
def Pst.later (p : Pst) (o : Int) : Pst := ⟨p.errs, p.gain, p.drop, p.fall, o, p.ahead⟩
def Trm.later (t : Trm) (o : Int) : Trm := ⟨o, t.price, t.hour, t.less, t.hold⟩
/-- What Best answers. -/
theorem best_ex {l : List Sea} {t : Trm} (he : termErr l t = 0) (hl9 : l.length ≤ 10) (hs9 : ∀ s ∈ l, s.sp.length ≤ 60) (ht : t.ok = true) : ∃ (q : Rul) (pr e : Int), (∀ (m : Nat) (v : AV) (H : Heap), SeasG H v l → RR (m + 10) (.fn 49 [v, .agg t.c]) H = some (.tup [.agg q.c, I pr, I e], H)) ∧ ((e = 11 ∧ ∀ k, k ≤ 1000 → fineK t l k = false) ∨ ∃ st, e = 0 ∧ BestAt t l st ∧ pr = priceK t l st) := by
  rcases best_or t l with h | ⟨st, h⟩
  · exact ⟨⟨0, 0, 0⟩, 0, 11, fun m v H hS => c49F m v l t H hS he hl9 hs9 ht h, .inl ⟨rfl, h⟩⟩
  · exact ⟨ruleOf t (st : Int), priceK t l st, 0, fun m v H hS => c49T m v l t st H hS he hl9 hs9 ht h, .inr ⟨st, rfl, h, rfl⟩⟩
end
end Go.Ev

set_option maxRecDepth 100000
set_option linter.unusedSimpArgs false
set_option linter.unusedVariables false
namespace Go.Ev
open Go Go.Proofs
noncomputable section
end
end Go.Ev

set_option maxRecDepth 100000
set_option linter.unusedSimpArgs false
set_option linter.unusedVariables false
namespace Go.Ev
open Go Go.Proofs
noncomputable section
def apB (p : Pst) (row : List Int) (a c : Nat) : Bool := decide (row.getD c 0 + p.errs.getD c 0 < row.getD a 0 - p.errs.getD a 0) || decide (row.getD a 0 + p.errs.getD a 0 < row.getD c 0 - p.errs.getD c 0)
/-- Two others deny a gauge. -/
def Lone (p : Pst) (row : List Int) (k : Nat) : Prop := ∃ i1 i2, i1 < i2 ∧ i2 < p.errs.length ∧ i1 ≠ k ∧ i2 ≠ k ∧ apB p row k i1 = true ∧ apB p row k i2 = true
/-- All but one, each twice. -/
def dblL (k : Nat) (g : Nat → Int) : Nat → List Int
  | 0 => []
  | i + 1 => dblL k g i ++ (if i ≠ k then [g i, g i] else [])
def posD (k i : Nat) : Nat := 2 * (if i < k then i else i - 1)
def Pst.dbl (p : Pst) (k : Nat) : Pst := ⟨dblL k (fun i => p.errs.getD i 0) p.errs.length, p.gain, p.drop, p.fall, p.out, p.ahead⟩
def dblRow (p : Pst) (k : Nat) (row : List Int) : List Int := dblL k (fun i => row.getD i 0) p.errs.length
def One1 (p : Pst) (row : List Int) (k i : Nat) : Prop := ∃ i1, i1 < i ∧ i1 ≠ k ∧ apB p row k i1 = true
def Two2 (p : Pst) (row : List Int) (k i : Nat) : Prop := ∃ i1 i2, i1 < i2 ∧ i2 < i ∧ i1 ≠ k ∧ i2 ≠ k ∧ apB p row k i1 = true ∧ apB p row k i2 = true
theorem One1.up {p : Pst} {row : List Int} {k i : Nat} (h : One1 p row k i) : One1 p row k (i + 1) := let ⟨i1, a1, a2⟩ := h; ⟨i1, Nat.lt_succ_of_lt a1, a2⟩
theorem Two2.up {p : Pst} {row : List Int} {k i : Nat} (h : Two2 p row k i) : Two2 p row k (i + 1) := let ⟨i1, i2, a1, a2, a3⟩ := h; ⟨i1, i2, a1, Nat.lt_succ_of_lt a2, a3⟩
theorem One1.new {p : Pst} {row : List Int} {k i : Nat} (hi : i ≠ k) (h : apB p row k i = true) : One1 p row k (i + 1) := ⟨i, Nat.lt_succ_self i, hi, h⟩
theorem Two2.new {p : Pst} {row : List Int} {k i : Nat} (h1 : One1 p row k i) (hi : i ≠ k) (h : apB p row k i = true) : Two2 p row k (i + 1) := let ⟨i1, a1, a2, a3⟩ := h1; ⟨i1, i, a1, Nat.lt_succ_self i, a2, hi, a3, h⟩
theorem Two2.lone {p : Pst} {row : List Int} {k : Nat} (h : Two2 p row k p.errs.length) : Lone p row k ∧ 2 ≤ p.errs.length := let ⟨i1, i2, a1, a2, a3⟩ := h; ⟨⟨i1, i2, a1, a2, a3⟩, by omega⟩
end
end Go.Ev

set_option maxRecDepth 100000
set_option linter.unusedSimpArgs false
set_option linter.unusedVariables false
namespace Go.Ev
open Go Go.Proofs
noncomputable section
theorem bin45 (a c d : Int) : binT Try.prog .neq 45 (.agg [I a, I c, .int .u8 d]) (.agg [I a, I c, .int .u8 d]) = some (.bool false) := by
  have e1 : ∀ n : Int, eqI n n = true := fun n => by rw [eqI_eq]; simp
  have h0 : eqB Try.prog 45 (.agg [I a, I c, .int .u8 d]) (.agg [I a, I c, .int .u8 d]) = (match eqI a a with | true => (match eqI c c with | true => (match eqI d d with | true => some true | false => some false) | false => some false) | false => some false) := by kernel_rfl
  have h : eqB Try.prog 45 (.agg [I a, I c, .int .u8 d]) (.agg [I a, I c, .int .u8 d]) = some true := by rw [h0, e1, e1, e1]
  show (eqB Try.prog 45 _ _).map (fun b => AV.bool (!b)) = _
  rw [h]
  rfl
theorem ints_lit {H : Heap} (z : Int) : Ints (H.new (.cells [I z] 3)) (.slice H.next 0 1 1) [z] := ⟨rfl, fun i x h => by
  have hi : i = 0 := by (have h9 := (List.getElem?_eq_some_iff.1 h).1); simp at h9; omega
  subst hi
  have hx : x = [I z] := by simp at h; exact h.symm
  subst hx
  exact ⟨H.next, 0, [I z], rfl, by rw [gn0]; rfl, rfl, by simp⟩⟩
end
end Go.Ev

set_option maxRecDepth 100000
set_option linter.unusedSimpArgs false
set_option linter.unusedVariables false
namespace Go.Ev
open Go Go.Proofs
noncomputable section
end
end Go.Ev

set_option maxRecDepth 100000
set_option linter.unusedSimpArgs false
set_option linter.unusedVariables false
namespace Go.Ev
open Go Go.Proofs
noncomputable section
theorem seg_of_get {cs : List AV} {k : Nat} {x : AV} (h : cs[k]? = some x) : seg cs k 1 = some [x] := by
  obtain ⟨hk, hx⟩ := List.getElem?_eq_some_iff.1 h
  have e : (cs.drop k).take 1 = [x] := by rw [List.drop_eq_getElem_cons hk, hx]; rfl
  unfold seg
  dsimp only
  rw [e]
  rfl
theorem seg_full {cs : List AV} (h : cs.length = 3) : seg cs 0 (3 * 1) = some cs := by
  have e : (cs.drop 0).take (3 * 1) = cs := by rw [List.drop_zero, List.take_of_length_le (by omega)]
  unfold seg
  dsimp only
  rw [e, h]
  first | rfl | done
theorem rep_nils : ∀ n : Nat, rep [AV.nils] n = List.replicate n AV.nils
  | 0 => rfl
  | n + 1 => by
    show [AV.nils] ++ rep [AV.nils] n = _
    rw [rep_nils n]
    rfl
def pE : Pst := ⟨[2, 2, 5], 3, 10, 30, 4, 2⟩
def rL : List (List Int) := [[10, 11, 12], [12, 30, 13], [15, 29, 14]]
def rF : List (List Int) := [[10, 11, 12], [12, 13, 13], [18, 18, 18]]
def rB : List (List Int) := [[10, 11, 12], [12, 30, 13], [15, 29, 14], [100, 200, 300]]
def yr : Sea := ⟨[5, 12, 9, 9, 3, 14, 15], true⟩
def tE (o h : Int) : Trm := ⟨o, 100, 3, 4, h⟩
theorem ints_of {H : Heap} {b : Nat} {us : List Int} {n : Nat} (hb : (H.get b).bind AObj.cs = some (us.map I)) (hl : b < H.next) (hn : us.length = n) : Ints H (.slice b 0 n n) us := ⟨by simp [lenOf, hn], fun i x h => by
  subst hn
  have hi : i < us.length := by (have h9 := (List.getElem?_eq_some_iff.1 h).1); simpa using h9
  have hx : x = [I us[i]] := by (rw [List.getElem?_map, List.getElem?_eq_getElem hi] at h); exact (Option.some.inj h).symm
  subst hx
  refine ⟨b, 0 + i * 1, us.map I, slAt_slice hi, hb, ?_, hl⟩
  have e : (us.map I)[0 + i * 1]? = some (I us[i]) := by simp [hi]
  exact seg_of_get e⟩
theorem lst_of {H : Heap} {b : Nat} {vs : List AV} {rows : List (List Int)} {n : Nat} (hb : (H.get b).bind AObj.cs = some vs) (hl : b < H.next) (hn : rows.length = n) (hv : vs.length = n) (h : ∀ (i : Nat) x r, vs[i]? = some x → rows[i]? = some r → Ints H x r) : LstAt H (.slice b 0 n n) rows := by
  refine ⟨vs, by omega, ⟨by simp [lenOf, hv], fun i x hx => ?_⟩, h⟩
  have hi : i < vs.length := by (have h9 := (List.getElem?_eq_some_iff.1 hx).1); simpa using h9
  have hx2 : x = [vs[i]] := by (rw [List.getElem?_map, List.getElem?_eq_getElem hi] at hx); exact (Option.some.inj hx).symm
  subst hx2
  refine ⟨b, 0 + i * 1, vs, slAt_slice (by omega), hb, ?_, hl⟩
  have e : vs[0 + i * 1]? = some vs[i] := by simp [hi]
  exact seg_of_get e
theorem lst_opn {H : Heap} {b : Nat} {vs : List AV} {rows : List (List Int)} {n : Nat} (hb : H.get b = some (.opn vs 22 1)) (hl : b < H.next) (hn : rows.length = n) (hv : vs.length = n) (h : ∀ (i : Nat) x r, vs[i]? = some x → rows[i]? = some r → Ints H x r) : LstAt H (.opn b n) rows :=
  ⟨vs, by omega, Mine.row (k0 := 0) (e := 22) (by rw [flat_one]; exact .inr ⟨b, n, rfl, hb, by omega, Nat.zero_le _, hl⟩) (fun x hx => by obtain ⟨y, _, rfl⟩ := List.mem_map.1 hx; rfl) (by omega), h⟩
theorem seas_lit {G : Heap} {x : AV} {s : Sea} (hx : Ints G x s.sp) (ha : x.atom = true) : SeasG (G.new (.cells [x, .bool s.fell] 66)) (.slice G.next 0 1 1) [s] := by
  refine ⟨[x], rfl, ⟨rfl, fun i y h => ?_⟩, fun y hy => (by rw [List.mem_singleton] at hy; rw [hy]; exact ha), fun i y s' h1 h2 => ?_⟩
  · have hi : i = 0 := by (have h9 := (List.getElem?_eq_some_iff.1 h).1); simp at h9; omega
    subst hi
    have hy : y = [x, .bool s.fell] := by simp at h; exact h.symm
    subst hy
    exact ⟨G.next, 0, [x, .bool s.fell], rfl, by rw [gn0]; rfl, rfl, by simp⟩
  · have hi : i = 0 := by (have h9 := (List.getElem?_eq_some_iff.1 h1).1); simp at h9; omega
    subst hi
    cases h1; cases h2
    exact hx.ext (Grow.toNew _ _)
theorem seas_nil (G : Heap) : SeasG G .nils [] := ⟨[], rfl, ⟨rfl, fun i y h => by simp at h⟩, fun y hy => absurd hy List.not_mem_nil, fun i y s h _ => by simp at h⟩
theorem lst_nils {G : Heap} (n : Nat) : LstAt (G.new (.cells (rep [.nils] n) 22)) (.slice G.next 0 n n) (List.replicate n []) := by
  refine lst_of (vs := List.replicate n .nils) (by rw [gn0, show rep [AV.nils] n = List.replicate n AV.nils from rep_nils n]; rfl) (by simp) (by simp) (by simp) fun i x r h1 h2 => ?_
  have hi : i < n := by (have h9 := (List.getElem?_eq_some_iff.1 h1).1); simpa using h9
  rw [List.getElem?_replicate, if_pos hi] at h1 h2
  cases h1; cases h2
  exact (Mine.nil 0 _ 3 1).ints (us := [])
theorem app_full {G : Heap} {b : Nat} {vs : List AV} {x y : AV} (hb : (G.get b).bind AObj.cs = some vs) (hv : vs.length = 3) (hy : elems G y 1 = some [x]) (hn : lenOf y = some 1) (ha : atoms [x] = true) : ∃ v' G', builtinF Try.prog G .append [25, 25] [.slice b 0 3 3, y] = some (.val v' G') ∧ v' = .opn G.next 4 ∧ Ret G G' ∧ G'.get G.next = some (.opn (vs ++ [x]) 22 1) ∧ G'.next = G.next + 1 := by
  have e1 : builtinF Try.prog G .append [25, 25] [.slice b 0 3 3, y] = (append Try.prog G 25 (.slice b 0 3 3) y).map fun (v, H) => .val v H := by
    show (appendT Try.prog G 25 25 _ y).map _ = _
    unfold appendT
    have hu : isSlice Try.prog 25 = true := by kernel_rfl
    unfold isSlice at hu
    split at hu
    · rename_i e; rw [e]
    · cases hu
  have e2 := append_go (P := Try.prog) (H := G) (t := 25) (e := 22) (sz := 1) (by_ := 24) (s := .slice b 0 3 3) (m := 3) (by kernel_rfl) hy hn rfl (by omega) (by omega) ha
  have e3 : append.appendGo G 22 1 (.slice b 0 3 3) [x] 1 = some (.opn G.next 4, G.new (.opn (vs ++ [x]) 22 1)) := by
    have h1 : elems G (.slice b 0 3 3) 1 = some vs := by
      show elemsGo G (.slice b 0 3 3) 1 = some vs
      unfold elemsGo
      dsimp only
      rw [hb]
      exact seg_full hv
    unfold append.appendGo
    dsimp only
    rw [h1]
  rw [e1, e2, e3]
  exact ⟨_, _, rfl, rfl, ⟨Grow.toNew _ _, fun k h _ => h⟩, gn0 _ _, by simp⟩
theorem c51 (m : Nat)  (H : Heap)  : ∃ v H', RR (m + 1) (.fn 51 []) H = some (v, H') ∧ ∃ x, v = .agg (pE.c x) ∧ Ret H H' ∧ Ints H' x pE.errs ∧ x.atom = true := by
  show ∃ v H', evFn Try.prog (RR (m + 0)) 51 [] H = some (v, H') ∧ ∃ x, v = .agg (pE.c x) ∧ Ret H H' ∧ Ints H' x pE.errs ∧ x.atom = true
  refine fn_okE Try.func51 rfl rfl (by kernel_rfl) (by kernel_rfl) ?_
  obtain ⟨W, hW⟩ : ∃ W : Heap, W = ⟨H.t, H.next, H.next⟩ := ⟨_, rfl⟩
  have hg : ∀ n, W.get n = H.get n := fun n => by rw [hW]; rfl
  have hN : W.next = H.next := by rw [hW]
  have hE : ∀ G, Grow W G → Ext H G := fun G g => ⟨by rw [← hN]; exact g.next, fun n k => by rw [g.get n (by rw [hN]; exact k), hg]⟩
  have hG : Grow W W := Grow.refl (by rw [hW]; exact Nat.le_refl _)
  rw [← hW]
  refine Ok.seq ?_
  refine Ok.region ?_
  refine OkO.alloc (z := [.nils, .int .i64 0, .int .i64 0, .int .i64 0, .int .i64 0, .int .i64 0]) rfl (by kernel_rfl) ?_
  refine OkO.nil ?_
  refine Ok.seq ?_
  refine Ok.region ?_
  refine OkO.buildSlice (el := 3) (sz := 1) (z := [.int .i64 0]) rfl (by kernel_rfl) (by decide) rfl rfl ?_
  refine OkO.build (z := [.nils, .int .i64 0, .int .i64 0, .int .i64 0, .int .i64 0, .int .i64 0]) (pl := [(0, 1), (1, 1), (2, 1), (3, 1), (4, 1), (5, 1)]) rfl (by kernel_rfl) rfl rfl ?_
  refine OkO.store rfl rfl rfl (sAc (n := 6) (ag := true) (by kernel_rfl) (by first | assumption | (simp (disch := first | omega | (simp only [hNw, hPt]; omega)) only [gn0, gn1, gn2, gn3, gn4, gn5, gp0, gno, gpo] <;> first | rfl | assumption | exact gp0 _ _ _ | exact gn0 _ _)) rfl (by first | rfl | assumption) (by first | rfl | exact spl_set _ _ _ (by first | assumption | omega | (simp; omega)))) ?_
  refine OkO.nil ?_
  refine Ok.ret ⟨.inr rfl, ?_⟩
  refine back_newQ (resV_cell rfl (ldg (n := 6) (by kernel_rfl) (by first | assumption | (simp (disch := first | omega | (simp only [hNw, hPt]; omega)) only [gn0, gn1, gn2, gn3, gn4, gn5, gp0, gno, gpo] <;> first | rfl | assumption)) (by first | rfl | assumption)) resV_nil) rfl (by rw [← hW]; exact (by (try dsimp only); repeat (first | exact hG | apply Grow.new | (refine Grow.put ?_ _ (by first | omega | (simp only [hNw, hPt]; omega)))))) rfl (fun H9 p1 p2 p3 => ⟨_, rfl, p1, ints_of (us := [2, 2, 5]) (b := W.next + 1) (by rw [p2]; simp (disch := first | omega | (simp only [hNw, hPt]; omega)) only [gn0, gn1, gn2, gn3, gn4, gn5, gp0, gno, gpo] <;> rfl) (by rw [p3]; simp) rfl, rfl⟩)
theorem c52 (m : Nat)  (H : Heap)  : ∃ v H', RR (m + 1) (.fn 52 []) H = some (v, H') ∧ ∃ b vs, v = .slice b 0 3 3 ∧ Ret H H' ∧ (H'.get b).bind AObj.cs = some vs ∧ b < H'.next ∧ vs.length = 3 ∧ atoms vs = true ∧ ∀ (i : Nat) x r, vs[i]? = some x → rL[i]? = some r → Ints H' x r := by
  show ∃ v H', evFn Try.prog (RR (m + 0)) 52 [] H = some (v, H') ∧ ∃ b vs, v = .slice b 0 3 3 ∧ Ret H H' ∧ (H'.get b).bind AObj.cs = some vs ∧ b < H'.next ∧ vs.length = 3 ∧ atoms vs = true ∧ ∀ (i : Nat) x r, vs[i]? = some x → rL[i]? = some r → Ints H' x r
  refine fn_okE Try.func52 rfl rfl (by kernel_rfl) (by kernel_rfl) ?_
  obtain ⟨W, hW⟩ : ∃ W : Heap, W = ⟨H.t, H.next, H.next⟩ := ⟨_, rfl⟩
  have hg : ∀ n, W.get n = H.get n := fun n => by rw [hW]; rfl
  have hN : W.next = H.next := by rw [hW]
  have hE : ∀ G, Grow W G → Ext H G := fun G g => ⟨by rw [← hN]; exact g.next, fun n k => by rw [g.get n (by rw [hN]; exact k), hg]⟩
  have hG : Grow W W := Grow.refl (by rw [hW]; exact Nat.le_refl _)
  rw [← hW]
  refine Ok.seq ?_
  refine Ok.region ?_
  refine OkO.assign rfl rfl ?_
  refine OkO.nil ?_
  refine Ok.seq ?_
  refine Ok.region ?_
  refine OkO.buildSlice (el := 3) (sz := 1) (z := [.int .i64 0]) rfl (by kernel_rfl) (by decide) rfl rfl ?_
  refine OkO.buildSlice (el := 3) (sz := 1) (z := [.int .i64 0]) rfl (by kernel_rfl) (by decide) rfl rfl ?_
  refine OkO.buildSlice (el := 3) (sz := 1) (z := [.int .i64 0]) rfl (by kernel_rfl) (by decide) rfl rfl ?_
  refine OkO.buildSlice (el := 22) (sz := 1) (z := [.nils]) rfl (by kernel_rfl) (by decide) rfl rfl ?_
  refine OkO.assign rfl rfl ?_
  refine OkO.nil ?_
  refine Ok.ret ⟨.inr rfl, ?_⟩
  refine back_newQ (resV_tmp rfl resV_nil) rfl (by rw [← hW]; exact (by (try dsimp only); repeat (first | exact hG | apply Grow.new | (refine Grow.put ?_ _ (by first | omega | (simp only [hNw, hPt]; omega)))))) rfl (fun H9 p1 p2 p3 => ⟨W.next + 3, [.slice W.next 0 3 3, .slice (W.next + 1) 0 3 3, .slice (W.next + 2) 0 3 3], rfl, p1, by (rw [p2]; simp (disch := first | omega | (simp only [hNw, hPt]; omega)) only [gn0, gn1, gn2, gn3, gn4, gn5, gp0, gno, gpo] <;> rfl), by (rw [p3]; simp), rfl, rfl, fun i x r h1_ h2_ => ?_⟩)
  match i, h1_, h2_ with
  | 0, h1_, h2_ => cases h1_; cases h2_; exact ints_of (us := [10, 11, 12]) (b := W.next) (by rw [p2]; simp (disch := first | omega | (simp only [hNw, hPt]; omega)) only [gn0, gn1, gn2, gn3, gn4, gn5, gp0, gno, gpo] <;> rfl) (by rw [p3]; simp; try omega) rfl
  | 1, h1_, h2_ => cases h1_; cases h2_; exact ints_of (us := [12, 30, 13]) (b := W.next + 1) (by rw [p2]; simp (disch := first | omega | (simp only [hNw, hPt]; omega)) only [gn0, gn1, gn2, gn3, gn4, gn5, gp0, gno, gpo] <;> rfl) (by rw [p3]; simp; try omega) rfl
  | 2, h1_, h2_ => cases h1_; cases h2_; exact ints_of (us := [15, 29, 14]) (b := W.next + 2) (by rw [p2]; simp (disch := first | omega | (simp only [hNw, hPt]; omega)) only [gn0, gn1, gn2, gn3, gn4, gn5, gp0, gno, gpo] <;> rfl) (by rw [p3]; simp; try omega) rfl
  | k + 3, h1_, h2_ => cases h1_
theorem c53 (m : Nat)  (H : Heap)  : ∃ v H', RR (m + 1) (.fn 53 []) H = some (v, H') ∧ ∃ b vs, v = .slice b 0 3 3 ∧ Ret H H' ∧ (H'.get b).bind AObj.cs = some vs ∧ b < H'.next ∧ vs.length = 3 ∧ atoms vs = true ∧ ∀ (i : Nat) x r, vs[i]? = some x → rF[i]? = some r → Ints H' x r := by
  show ∃ v H', evFn Try.prog (RR (m + 0)) 53 [] H = some (v, H') ∧ ∃ b vs, v = .slice b 0 3 3 ∧ Ret H H' ∧ (H'.get b).bind AObj.cs = some vs ∧ b < H'.next ∧ vs.length = 3 ∧ atoms vs = true ∧ ∀ (i : Nat) x r, vs[i]? = some x → rF[i]? = some r → Ints H' x r
  refine fn_okE Try.func53 rfl rfl (by kernel_rfl) (by kernel_rfl) ?_
  obtain ⟨W, hW⟩ : ∃ W : Heap, W = ⟨H.t, H.next, H.next⟩ := ⟨_, rfl⟩
  have hg : ∀ n, W.get n = H.get n := fun n => by rw [hW]; rfl
  have hN : W.next = H.next := by rw [hW]
  have hE : ∀ G, Grow W G → Ext H G := fun G g => ⟨by rw [← hN]; exact g.next, fun n k => by rw [g.get n (by rw [hN]; exact k), hg]⟩
  have hG : Grow W W := Grow.refl (by rw [hW]; exact Nat.le_refl _)
  rw [← hW]
  refine Ok.seq ?_
  refine Ok.region ?_
  refine OkO.assign rfl rfl ?_
  refine OkO.nil ?_
  refine Ok.seq ?_
  refine Ok.region ?_
  refine OkO.buildSlice (el := 3) (sz := 1) (z := [.int .i64 0]) rfl (by kernel_rfl) (by decide) rfl rfl ?_
  refine OkO.buildSlice (el := 3) (sz := 1) (z := [.int .i64 0]) rfl (by kernel_rfl) (by decide) rfl rfl ?_
  refine OkO.buildSlice (el := 3) (sz := 1) (z := [.int .i64 0]) rfl (by kernel_rfl) (by decide) rfl rfl ?_
  refine OkO.buildSlice (el := 22) (sz := 1) (z := [.nils]) rfl (by kernel_rfl) (by decide) rfl rfl ?_
  refine OkO.assign rfl rfl ?_
  refine OkO.nil ?_
  refine Ok.ret ⟨.inr rfl, ?_⟩
  refine back_newQ (resV_tmp rfl resV_nil) rfl (by rw [← hW]; exact (by (try dsimp only); repeat (first | exact hG | apply Grow.new | (refine Grow.put ?_ _ (by first | omega | (simp only [hNw, hPt]; omega)))))) rfl (fun H9 p1 p2 p3 => ⟨W.next + 3, [.slice W.next 0 3 3, .slice (W.next + 1) 0 3 3, .slice (W.next + 2) 0 3 3], rfl, p1, by (rw [p2]; simp (disch := first | omega | (simp only [hNw, hPt]; omega)) only [gn0, gn1, gn2, gn3, gn4, gn5, gp0, gno, gpo] <;> rfl), by (rw [p3]; simp), rfl, rfl, fun i x r h1_ h2_ => ?_⟩)
  match i, h1_, h2_ with
  | 0, h1_, h2_ => cases h1_; cases h2_; exact ints_of (us := [10, 11, 12]) (b := W.next) (by rw [p2]; simp (disch := first | omega | (simp only [hNw, hPt]; omega)) only [gn0, gn1, gn2, gn3, gn4, gn5, gp0, gno, gpo] <;> rfl) (by rw [p3]; simp; try omega) rfl
  | 1, h1_, h2_ => cases h1_; cases h2_; exact ints_of (us := [12, 13, 13]) (b := W.next + 1) (by rw [p2]; simp (disch := first | omega | (simp only [hNw, hPt]; omega)) only [gn0, gn1, gn2, gn3, gn4, gn5, gp0, gno, gpo] <;> rfl) (by rw [p3]; simp; try omega) rfl
  | 2, h1_, h2_ => cases h1_; cases h2_; exact ints_of (us := [18, 18, 18]) (b := W.next + 2) (by rw [p2]; simp (disch := first | omega | (simp only [hNw, hPt]; omega)) only [gn0, gn1, gn2, gn3, gn4, gn5, gp0, gno, gpo] <;> rfl) (by rw [p3]; simp; try omega) rfl
  | k + 3, h1_, h2_ => cases h1_
theorem c54 (m : Nat)  (H : Heap)  : ∃ v H', RR (m + 1) (.fn 54 []) H = some (v, H') ∧ ∃ x, v = .agg [x, .bool true] ∧ Ret H H' ∧ Ints H' x yr.sp ∧ x.atom = true := by
  show ∃ v H', evFn Try.prog (RR (m + 0)) 54 [] H = some (v, H') ∧ ∃ x, v = .agg [x, .bool true] ∧ Ret H H' ∧ Ints H' x yr.sp ∧ x.atom = true
  refine fn_okE Try.func54 rfl rfl (by kernel_rfl) (by kernel_rfl) ?_
  obtain ⟨W, hW⟩ : ∃ W : Heap, W = ⟨H.t, H.next, H.next⟩ := ⟨_, rfl⟩
  have hg : ∀ n, W.get n = H.get n := fun n => by rw [hW]; rfl
  have hN : W.next = H.next := by rw [hW]
  have hE : ∀ G, Grow W G → Ext H G := fun G g => ⟨by rw [← hN]; exact g.next, fun n k => by rw [g.get n (by rw [hN]; exact k), hg]⟩
  have hG : Grow W W := Grow.refl (by rw [hW]; exact Nat.le_refl _)
  rw [← hW]
  refine Ok.seq ?_
  refine Ok.region ?_
  refine OkO.alloc (z := [.nils, .bool false]) rfl (by kernel_rfl) ?_
  refine OkO.nil ?_
  refine Ok.seq ?_
  refine Ok.region ?_
  refine OkO.buildSlice (el := 3) (sz := 1) (z := [.int .i64 0]) rfl (by kernel_rfl) (by decide) rfl rfl ?_
  refine OkO.build (z := [.nils, .bool false]) (pl := [(0, 1), (1, 1)]) rfl (by kernel_rfl) rfl rfl ?_
  refine OkO.store rfl rfl rfl (sAc (n := 2) (ag := true) (by kernel_rfl) (by first | assumption | (simp (disch := first | omega | (simp only [hNw, hPt]; omega)) only [gn0, gn1, gn2, gn3, gn4, gn5, gp0, gno, gpo] <;> first | rfl | assumption | exact gp0 _ _ _ | exact gn0 _ _)) rfl (by first | rfl | assumption) (by first | rfl | exact spl_set _ _ _ (by first | assumption | omega | (simp; omega)))) ?_
  refine OkO.nil ?_
  refine Ok.ret ⟨.inr rfl, ?_⟩
  refine back_newQ (resV_cell rfl (ldg (n := 2) (by kernel_rfl) (by first | assumption | (simp (disch := first | omega | (simp only [hNw, hPt]; omega)) only [gn0, gn1, gn2, gn3, gn4, gn5, gp0, gno, gpo] <;> first | rfl | assumption)) (by first | rfl | assumption)) resV_nil) rfl (by rw [← hW]; exact (by (try dsimp only); repeat (first | exact hG | apply Grow.new | (refine Grow.put ?_ _ (by first | omega | (simp only [hNw, hPt]; omega)))))) rfl (fun H9 p1 p2 p3 => ⟨_, rfl, p1, ints_of (us := yr.sp) (b := W.next + 1) (by rw [p2]; simp (disch := first | omega | (simp only [hNw, hPt]; omega)) only [gn0, gn1, gn2, gn3, gn4, gn5, gp0, gno, gpo] <;> rfl) (by rw [p3]; simp) rfl, rfl⟩)
end
end Go.Ev

set_option maxRecDepth 100000
set_option linter.unusedSimpArgs false
set_option linter.unusedVariables false
namespace Go.Ev
open Go Go.Proofs
noncomputable section
theorem fE_L : faultE pE rL = 0 := by kernel_rfl
theorem pp_L : possB pE rL rL.length = true := by kernel_rfl
theorem st_0 : stc pE rL 0 = [I 8, I 13, .int .u8 2] := by kernel_rfl
theorem st_1 : stc pE rL 1 = [I 10, I 14, .int .u8 2] := by kernel_rfl
theorem st_2 : stc pE rL 2 = [I 13, I 17, .int .u8 2] := by kernel_rfl
theorem fld_L : fldL pE rL rL.length (pE.errs.length + 1) = [1] := by kernel_rfl
theorem fE_F : faultE pE rF = 0 := by kernel_rfl
theorem pp_F : possB pE rF rF.length = true := by kernel_rfl
theorem fld_F : fldL pE rF rF.length (pE.errs.length + 1) = [-1, 0, 1, 2] := by kernel_rfl
theorem te_22 : termErr [yr] (tE 2 2) = 0 := by kernel_rfl
theorem te_32 : termErr [yr] (tE 3 2) = 0 := by kernel_rfl
theorem te_30 : termErr [yr] (tE 3 0) = 2 := by kernel_rfl
theorem te_n : termErr [] (tE 2 2) = 1 := by kernel_rfl
theorem sum_22 : sumP (tE 2 2) ⟨10, 6, 2⟩ [yr] = 115 := by kernel_rfl
theorem all_22 : allT (tE 2 2) ⟨10, 6, 2⟩ [yr] = true := by kernel_rfl
theorem fine_0 : fineK (tE 3 2) [yr] 0 = true := by kernel_rfl
theorem brk_B : brkV pE rB = .tup [I 3, I 0] := by kernel_rfl
theorem brk_L : brkV pE rL = .tup [I 0, I 7] := by kernel_rfl
theorem fE_B : faultE pE rB = 0 := by kernel_rfl
theorem pp_B : possB pE rB rB.length = false := by kernel_rfl
theorem fE_2 : faultE pE [[1, 2]] = 2 := by kernel_rfl
theorem fE_3 : faultE pE (List.replicate 61 []) = 3 := by kernel_rfl
theorem price_14 : priceK (tE 2 2) [yr] 14 = 6 := by kernel_rfl
theorem best_all : ((List.range 1001).all fun k => !(fineK (tE 2 2) [yr] k) || (decide (priceK (tE 2 2) [yr] 14 < priceK (tE 2 2) [yr] k) || (decide (priceK (tE 2 2) [yr] 14 = priceK (tE 2 2) [yr] k) && decide (k ≤ 14)))) = true := by kernel_rfl
theorem best_14 : BestAt (tE 2 2) [yr] 14 := by
  refine ⟨by omega, by kernel_rfl, fun k hk hf => ?_⟩
  have h := List.all_eq_true.1 best_all k (List.mem_range.2 (by omega))
  rw [hf] at h
  simp only [Bool.not_true, Bool.false_or, Bool.or_eq_true, Bool.and_eq_true, decide_eq_true_eq] at h
  exact h
theorem tru_1 : TruP pE rL 1 [10, 12, 15] := by
  refine ⟨rfl, by decide, ⟨fun x hx => ?_, fun h h2 => ?_⟩, fun h h1 h2 g hg hf => ?_⟩
  · simp only [List.mem_cons, List.not_mem_nil, or_false] at hx
    rcases hx with rfl | rfl | rfl <;> omega
  · have h3 : h < 2 := by simp at h2; omega
    match h, h3 with
    | 0, _ => exact (by decide : (10 : Int) - 10 ≤ 12 ∧ (12 : Int) ≤ 10 + 3)
    | 1, _ => exact (by decide : (12 : Int) - 10 ≤ 15 ∧ (15 : Int) ≤ 12 + 3)
  · have h3 : h < 3 := h1
    have g3 : g < 3 := hg
    match h, h3, g, g3 with
    | 0, _, 0, _ => exact (by decide : (10 : Int) - 2 ≤ 10 ∧ (10 : Int) ≤ 10 + 2)
    | 0, _, 2, _ => exact (by decide : (12 : Int) - 5 ≤ 10 ∧ (10 : Int) ≤ 12 + 5)
    | 1, _, 0, _ => exact (by decide : (12 : Int) - 2 ≤ 12 ∧ (12 : Int) ≤ 12 + 2)
    | 1, _, 2, _ => exact (by decide : (13 : Int) - 5 ≤ 12 ∧ (12 : Int) ≤ 13 + 5)
    | 2, _, 0, _ => exact (by decide : (15 : Int) - 2 ≤ 15 ∧ (15 : Int) ≤ 15 + 2)
    | 2, _, 2, _ => exact (by decide : (14 : Int) - 5 ≤ 15 ∧ (15 : Int) ≤ 14 + 5)
    | 0, _, 1, _ => exact absurd rfl hf
    | 1, _, 1, _ => exact absurd rfl hf
    | 2, _, 1, _ => exact absurd rfl hf
theorem tru_no : ¬ TruP pE rL (-1) [10, 12, 15] := fun h => by
  have h1 := h.2.2.2 1 (by decide) (by decide) 1 (by decide) (by decide)
  have h2 : (30 : Int) - 2 ≤ 12 ∧ (12 : Int) ≤ 30 + 2 := h1
  omega
theorem hit_no : ∀ j, j ≤ pE.errs.length → ¬ HitP pE rL 2 30 j := fun j hj h => by
  have h3 : j < 4 := Nat.lt_succ_of_le hj
  have h2 := h.2
  match j, h3 with
  | 0, _ => rw [show (mayL pE (((0 : Nat) : Int) - 1) rL).getD 2 nul = nul from by kernel_rfl] at h2; exact not_nul _ h2
  | 1, _ => rw [show (mayL pE (((1 : Nat) : Int) - 1) rL).getD 2 nul = nul from by kernel_rfl] at h2; exact not_nul _ h2
  | 2, _ => rw [show (mayL pE (((2 : Nat) : Int) - 1) rL).getD 2 nul = (13, 17) from by kernel_rfl] at h2; exact absurd h2.2 (by decide)
  | 3, _ => rw [show (mayL pE (((3 : Nat) : Int) - 1) rL).getD 2 nul = nul from by kernel_rfl] at h2; exact not_nul _ h2
end
end Go.Ev

set_option maxRecDepth 100000
set_option linter.unusedSimpArgs false
set_option linter.unusedVariables false
namespace Go.Ev
open Go Go.Proofs
noncomputable section
theorem bin68n (a c d : Int) : binT Try.prog .neq 68 (.agg [I a, I c, I d]) (.agg [I a, I c, I d]) = some (.bool false) := by
  have e1 : ∀ n : Int, eqI n n = true := fun n => by rw [eqI_eq]; simp
  have h0 : eqB Try.prog 68 (.agg [I a, I c, I d]) (.agg [I a, I c, I d]) = (match eqI a a with | true => (match eqI c c with | true => (match eqI d d with | true => some true | false => some false) | false => some false) | false => some false) := by kernel_rfl
  have h : eqB Try.prog 68 (.agg [I a, I c, I d]) (.agg [I a, I c, I d]) = some true := by rw [h0, e1, e1, e1]
  show (eqB Try.prog 68 _ _).map (fun b => AV.bool (!b)) = _
  rw [h]
  rfl
set_option maxHeartbeats 4000000 in
theorem c9Y (m : Nat)  (H : Heap)  : RR (m + 81) (.fn 9 []) H = some (.bool true, H) := by
  show evFn Try.prog (RR (m + 80)) 9 [] H = _
  refine fn_ok Try.func9 rfl rfl (by kernel_rfl) (by kernel_rfl) ?_
  obtain ⟨W, hW⟩ : ∃ W : Heap, W = ⟨H.t, H.next, H.next⟩ := ⟨_, rfl⟩
  have hg : ∀ n, W.get n = H.get n := fun n => by rw [hW]; rfl
  have hN : W.next = H.next := by rw [hW]
  have hE : ∀ G, Grow W G → Ext H G := fun G g => ⟨by rw [← hN]; exact g.next, fun n k => by rw [g.get n (by rw [hN]; exact k), hg]⟩
  have hG : Grow W W := Grow.refl (by rw [hW]; exact Nat.le_refl _)
  rw [← hW]
  obtain ⟨q3, pr3, e3, hB3, hF3⟩ := best_ex (l := [yr]) (t := tE 3 2) te_32 (by decide) (by decide) rfl
  have e3z : e3 = 0 := by
    rcases hF3 with ⟨_, h⟩ | ⟨st, h, _⟩
    · have h9 := h 0 (by decide)
      rw [fine_0] at h9; cases h9
    · exact h
  subst e3z
  refine Ok.seq ?_
  refine Ok.region ?_
  refine OkO.assign rfl rfl ?_
  refine OkO.nil ?_
  refine Ok.seq ?_
  refine Ok.region ?_
  refine OkO.callE rfl rfl rfl rfl rfl (c51 (m + 79) _) ?_ -- "sackung/sackunglaw04.post"
  rintro _ P1 ⟨px1, rfl, pq1, pi1, pa1⟩
  have n1 := pq1.ext.next
  try simp only [hNw, hPt] at n1
  have gg1 : Grow W P1 := Grow.ret (by (try dsimp only); repeat (first | exact hG | apply Grow.new | (refine Grow.put ?_ _ (by first | omega | (simp only [hNw, hPt]; omega))))) pq1
  have pl1 : px1.plain = true := lpl pi1.len
  refine OkO.callE rfl rfl rfl rfl rfl (c52 (m + 79) _) ?_ -- "sackung/sackunglaw04.lone"
  rintro _ L1 ⟨lb1, lv1, rfl, lq1, lg1, ll1, ln1, la1, li1⟩
  have n2 := lq1.ext.next
  try simp only [hNw, hPt] at n2
  have gg2 : Grow W L1 := Grow.ret (by (try dsimp only); repeat (first | exact gg1 | apply Grow.new | (refine Grow.put ?_ _ (by first | omega | (simp only [hNw, hPt]; omega))))) lq1
  have exP12 : Ext P1 L1 := Ext.trans (by (try dsimp only); repeat (first | exact Ext.refl _ | exact Ext.refl _ | apply Ext.new | (refine Ext.put ?_ _ (by first | omega | (simp only [hNw, hPt]; omega))))) lq1.ext
  have lw1 : LstAt L1 (.slice lb1 0 3 3) rL := lst_of lg1 ll1 rfl ln1 li1
  refine OkO.callE rfl rfl rfl rfl rfl (c21Y (m + 73) px1 (.slice lb1 0 3 3) pE rL _ (pi1.ext (by (try dsimp only); repeat (first | exact exP12 | exact Ext.refl _ | apply Ext.new | (refine Ext.put ?_ _ (by first | omega | (simp only [hNw, hPt]; omega)))))) (lw1.ext (by (try dsimp only); repeat (first | exact Ext.refl _ | exact Ext.refl _ | apply Ext.new | (refine Ext.put ?_ _ (by first | omega | (simp only [hNw, hPt]; omega)))))) (by decide) (by decide) (by decide) fE_L pp_L) ?_ -- "sackung/alarm.Levels"
  rintro _ Hl ⟨xl, rfl, ql, ml⟩
  have n3 := ql.ext.next
  try simp only [hNw, hPt] at n3
  have gg3 : Grow W Hl := Grow.ret (by (try dsimp only); repeat (first | exact gg2 | apply Grow.new | (refine Grow.put ?_ _ (by first | omega | (simp only [hNw, hPt]; omega))))) ql
  have exP13 : Ext P1 Hl := Ext.trans (by (try dsimp only); repeat (first | exact exP12 | exact Ext.refl _ | apply Ext.new | (refine Ext.put ?_ _ (by first | omega | (simp only [hNw, hPt]; omega))))) ql.ext
  have exL13 : Ext L1 Hl := Ext.trans (by (try dsimp only); repeat (first | exact Ext.refl _ | exact Ext.refl _ | apply Ext.new | (refine Ext.put ?_ _ (by first | omega | (simp only [hNw, hPt]; omega))))) ql.ext
  have hst := ml.states
  have hll : lenOf xl = some 3 := hst.len
  obtain ⟨sb0, so0, sc0, s10, s20, s30, s40⟩ := hst.at_ 0 (stc pE rL 0) rfl
  rw [st_0] at s30
  obtain ⟨sb1, so1, sc1, s11, s21, s31, s41⟩ := hst.at_ 1 (stc pE rL 1) rfl
  rw [st_1] at s31
  obtain ⟨sb2, so2, sc2, s12, s22, s32, s42⟩ := hst.at_ 2 (stc pE rL 2) rfl
  rw [st_2] at s32
  refine OkO.move rfl rfl ?_
  refine OkO.extract rfl rfl rfl ?_
  refine OkO.extract rfl rfl rfl ?_
  refine OkO.assign rfl rfl ?_
  refine OkO.assign rfl rfl ?_
  refine OkO.nil ?_
  refine Ok.seq ?_
  refine Ok.region ?_
  refine OkO.callE rfl rfl rfl rfl rfl (c51 (m + 79) _) ?_ -- "sackung/sackunglaw04.post"
  rintro _ P2 ⟨px2, rfl, pq2, pi2, pa2⟩
  have n4 := pq2.ext.next
  try simp only [hNw, hPt] at n4
  have gg4 : Grow W P2 := Grow.ret (by (try dsimp only); repeat (first | exact gg3 | apply Grow.new | (refine Grow.put ?_ _ (by first | omega | (simp only [hNw, hPt]; omega))))) pq2
  have s0x4 : (P2.get (sb0)).bind AObj.cs = some sc0 := by rw [pq2.ext.get _ (by first | omega | (simp only [hNw, hPt]; omega))]; first | assumption | (rw [gn0]; rfl) | (rw [get_put_eq] <;> rfl) | (simp (disch := first | omega | (simp only [hNw, hPt]; omega)) only [gn0, gn1, gn2, gn3, gn4, gn5, gp0, gno, gpo] <;> first | rfl | assumption | (rw [get_put_eq] <;> rfl))
  have s1x4 : (P2.get (sb1)).bind AObj.cs = some sc1 := by rw [pq2.ext.get _ (by first | omega | (simp only [hNw, hPt]; omega))]; first | assumption | (rw [gn0]; rfl) | (rw [get_put_eq] <;> rfl) | (simp (disch := first | omega | (simp only [hNw, hPt]; omega)) only [gn0, gn1, gn2, gn3, gn4, gn5, gp0, gno, gpo] <;> first | rfl | assumption | (rw [get_put_eq] <;> rfl))
  have s2x4 : (P2.get (sb2)).bind AObj.cs = some sc2 := by rw [pq2.ext.get _ (by first | omega | (simp only [hNw, hPt]; omega))]; first | assumption | (rw [gn0]; rfl) | (rw [get_put_eq] <;> rfl) | (simp (disch := first | omega | (simp only [hNw, hPt]; omega)) only [gn0, gn1, gn2, gn3, gn4, gn5, gp0, gno, gpo] <;> first | rfl | assumption | (rw [get_put_eq] <;> rfl))
  have exP14 : Ext P1 P2 := Ext.trans (by (try dsimp only); repeat (first | exact exP13 | exact Ext.refl _ | apply Ext.new | (refine Ext.put ?_ _ (by first | omega | (simp only [hNw, hPt]; omega))))) pq2.ext
  have exL14 : Ext L1 P2 := Ext.trans (by (try dsimp only); repeat (first | exact exL13 | exact Ext.refl _ | apply Ext.new | (refine Ext.put ?_ _ (by first | omega | (simp only [hNw, hPt]; omega))))) pq2.ext
  have pl2 : px2.plain = true := lpl pi2.len
  refine OkO.callE rfl rfl rfl rfl rfl (c52 (m + 79) _) ?_ -- "sackung/sackunglaw04.lone"
  rintro _ L2 ⟨lb2, lv2, rfl, lq2, lg2, ll2, ln2, la2, li2⟩
  have n5 := lq2.ext.next
  try simp only [hNw, hPt] at n5
  have gg5 : Grow W L2 := Grow.ret (by (try dsimp only); repeat (first | exact gg4 | apply Grow.new | (refine Grow.put ?_ _ (by first | omega | (simp only [hNw, hPt]; omega))))) lq2
  have s0x5 : (L2.get (sb0)).bind AObj.cs = some sc0 := by rw [lq2.ext.get _ (by first | omega | (simp only [hNw, hPt]; omega))]; first | assumption | (rw [gn0]; rfl) | (rw [get_put_eq] <;> rfl) | (simp (disch := first | omega | (simp only [hNw, hPt]; omega)) only [gn0, gn1, gn2, gn3, gn4, gn5, gp0, gno, gpo] <;> first | rfl | assumption | (rw [get_put_eq] <;> rfl))
  have s1x5 : (L2.get (sb1)).bind AObj.cs = some sc1 := by rw [lq2.ext.get _ (by first | omega | (simp only [hNw, hPt]; omega))]; first | assumption | (rw [gn0]; rfl) | (rw [get_put_eq] <;> rfl) | (simp (disch := first | omega | (simp only [hNw, hPt]; omega)) only [gn0, gn1, gn2, gn3, gn4, gn5, gp0, gno, gpo] <;> first | rfl | assumption | (rw [get_put_eq] <;> rfl))
  have s2x5 : (L2.get (sb2)).bind AObj.cs = some sc2 := by rw [lq2.ext.get _ (by first | omega | (simp only [hNw, hPt]; omega))]; first | assumption | (rw [gn0]; rfl) | (rw [get_put_eq] <;> rfl) | (simp (disch := first | omega | (simp only [hNw, hPt]; omega)) only [gn0, gn1, gn2, gn3, gn4, gn5, gp0, gno, gpo] <;> first | rfl | assumption | (rw [get_put_eq] <;> rfl))
  have exP15 : Ext P1 L2 := Ext.trans (by (try dsimp only); repeat (first | exact exP14 | exact Ext.refl _ | apply Ext.new | (refine Ext.put ?_ _ (by first | omega | (simp only [hNw, hPt]; omega))))) lq2.ext
  have exL15 : Ext L1 L2 := Ext.trans (by (try dsimp only); repeat (first | exact exL14 | exact Ext.refl _ | apply Ext.new | (refine Ext.put ?_ _ (by first | omega | (simp only [hNw, hPt]; omega))))) lq2.ext
  have exP25 : Ext P2 L2 := Ext.trans (by (try dsimp only); repeat (first | exact Ext.refl _ | exact Ext.refl _ | apply Ext.new | (refine Ext.put ?_ _ (by first | omega | (simp only [hNw, hPt]; omega))))) lq2.ext
  have lw2 : LstAt L2 (.slice lb2 0 3 3) rL := lst_of lg2 ll2 rfl ln2 li2
  refine OkO.callE rfl rfl rfl rfl rfl (c28Y (m + 73) px2 (.slice lb2 0 3 3) pE rL _ (pi2.ext (by (try dsimp only); repeat (first | exact exP25 | exact Ext.refl _ | apply Ext.new | (refine Ext.put ?_ _ (by first | omega | (simp only [hNw, hPt]; omega)))))) (lw2.ext (by (try dsimp only); repeat (first | exact Ext.refl _ | exact Ext.refl _ | apply Ext.new | (refine Ext.put ?_ _ (by first | omega | (simp only [hNw, hPt]; omega)))))) (by decide) (by decide) (by decide) fE_L pp_L) ?_ -- "sackung/alarm.Failed"
  rintro _ M1 ⟨xm1, rfl, qm1, mm1⟩
  have n6 := qm1.ext.next
  try simp only [hNw, hPt] at n6
  have gg6 : Grow W M1 := Grow.ret (by (try dsimp only); repeat (first | exact gg5 | apply Grow.new | (refine Grow.put ?_ _ (by first | omega | (simp only [hNw, hPt]; omega))))) qm1
  have s0x6 : (M1.get (sb0)).bind AObj.cs = some sc0 := by rw [qm1.ext.get _ (by first | omega | (simp only [hNw, hPt]; omega))]; first | assumption | (rw [gn0]; rfl) | (rw [get_put_eq] <;> rfl) | (simp (disch := first | omega | (simp only [hNw, hPt]; omega)) only [gn0, gn1, gn2, gn3, gn4, gn5, gp0, gno, gpo] <;> first | rfl | assumption | (rw [get_put_eq] <;> rfl))
  have s1x6 : (M1.get (sb1)).bind AObj.cs = some sc1 := by rw [qm1.ext.get _ (by first | omega | (simp only [hNw, hPt]; omega))]; first | assumption | (rw [gn0]; rfl) | (rw [get_put_eq] <;> rfl) | (simp (disch := first | omega | (simp only [hNw, hPt]; omega)) only [gn0, gn1, gn2, gn3, gn4, gn5, gp0, gno, gpo] <;> first | rfl | assumption | (rw [get_put_eq] <;> rfl))
  have s2x6 : (M1.get (sb2)).bind AObj.cs = some sc2 := by rw [qm1.ext.get _ (by first | omega | (simp only [hNw, hPt]; omega))]; first | assumption | (rw [gn0]; rfl) | (rw [get_put_eq] <;> rfl) | (simp (disch := first | omega | (simp only [hNw, hPt]; omega)) only [gn0, gn1, gn2, gn3, gn4, gn5, gp0, gno, gpo] <;> first | rfl | assumption | (rw [get_put_eq] <;> rfl))
  have exP16 : Ext P1 M1 := Ext.trans (by (try dsimp only); repeat (first | exact exP15 | exact Ext.refl _ | apply Ext.new | (refine Ext.put ?_ _ (by first | omega | (simp only [hNw, hPt]; omega))))) qm1.ext
  have exL16 : Ext L1 M1 := Ext.trans (by (try dsimp only); repeat (first | exact exL15 | exact Ext.refl _ | apply Ext.new | (refine Ext.put ?_ _ (by first | omega | (simp only [hNw, hPt]; omega))))) qm1.ext
  have exP26 : Ext P2 M1 := Ext.trans (by (try dsimp only); repeat (first | exact exP25 | exact Ext.refl _ | apply Ext.new | (refine Ext.put ?_ _ (by first | omega | (simp only [hNw, hPt]; omega))))) qm1.ext
  have exL26 : Ext L2 M1 := Ext.trans (by (try dsimp only); repeat (first | exact Ext.refl _ | exact Ext.refl _ | apply Ext.new | (refine Ext.put ?_ _ (by first | omega | (simp only [hNw, hPt]; omega))))) qm1.ext
  rw [fld_L] at mm1
  have im1 := mm1.ints (us := [1])
  refine OkO.move rfl rfl ?_
  refine OkO.extract rfl rfl rfl ?_
  refine OkO.extract rfl rfl rfl ?_
  refine OkO.assign rfl rfl ?_
  refine OkO.assign rfl rfl ?_
  refine OkO.nil ?_
  refine Ok.seq ?_
  refine Ok.region ?_
  refine OkO.callE rfl rfl rfl rfl rfl (c51 (m + 79) _) ?_ -- "sackung/sackunglaw04.post"
  rintro _ P3 ⟨px3, rfl, pq3, pi3, pa3⟩
  have n7 := pq3.ext.next
  try simp only [hNw, hPt] at n7
  have gg7 : Grow W P3 := Grow.ret (by (try dsimp only); repeat (first | exact gg6 | apply Grow.new | (refine Grow.put ?_ _ (by first | omega | (simp only [hNw, hPt]; omega))))) pq3
  have s0x7 : (P3.get (sb0)).bind AObj.cs = some sc0 := by rw [pq3.ext.get _ (by first | omega | (simp only [hNw, hPt]; omega))]; first | assumption | (rw [gn0]; rfl) | (rw [get_put_eq] <;> rfl) | (simp (disch := first | omega | (simp only [hNw, hPt]; omega)) only [gn0, gn1, gn2, gn3, gn4, gn5, gp0, gno, gpo] <;> first | rfl | assumption | (rw [get_put_eq] <;> rfl))
  have s1x7 : (P3.get (sb1)).bind AObj.cs = some sc1 := by rw [pq3.ext.get _ (by first | omega | (simp only [hNw, hPt]; omega))]; first | assumption | (rw [gn0]; rfl) | (rw [get_put_eq] <;> rfl) | (simp (disch := first | omega | (simp only [hNw, hPt]; omega)) only [gn0, gn1, gn2, gn3, gn4, gn5, gp0, gno, gpo] <;> first | rfl | assumption | (rw [get_put_eq] <;> rfl))
  have s2x7 : (P3.get (sb2)).bind AObj.cs = some sc2 := by rw [pq3.ext.get _ (by first | omega | (simp only [hNw, hPt]; omega))]; first | assumption | (rw [gn0]; rfl) | (rw [get_put_eq] <;> rfl) | (simp (disch := first | omega | (simp only [hNw, hPt]; omega)) only [gn0, gn1, gn2, gn3, gn4, gn5, gp0, gno, gpo] <;> first | rfl | assumption | (rw [get_put_eq] <;> rfl))
  have exP17 : Ext P1 P3 := Ext.trans (by (try dsimp only); repeat (first | exact exP16 | exact Ext.refl _ | apply Ext.new | (refine Ext.put ?_ _ (by first | omega | (simp only [hNw, hPt]; omega))))) pq3.ext
  have exL17 : Ext L1 P3 := Ext.trans (by (try dsimp only); repeat (first | exact exL16 | exact Ext.refl _ | apply Ext.new | (refine Ext.put ?_ _ (by first | omega | (simp only [hNw, hPt]; omega))))) pq3.ext
  have exP27 : Ext P2 P3 := Ext.trans (by (try dsimp only); repeat (first | exact exP26 | exact Ext.refl _ | apply Ext.new | (refine Ext.put ?_ _ (by first | omega | (simp only [hNw, hPt]; omega))))) pq3.ext
  have exL27 : Ext L2 P3 := Ext.trans (by (try dsimp only); repeat (first | exact exL26 | exact Ext.refl _ | apply Ext.new | (refine Ext.put ?_ _ (by first | omega | (simp only [hNw, hPt]; omega))))) pq3.ext
  have exM17 : Ext M1 P3 := Ext.trans (by (try dsimp only); repeat (first | exact Ext.refl _ | exact Ext.refl _ | apply Ext.new | (refine Ext.put ?_ _ (by first | omega | (simp only [hNw, hPt]; omega))))) pq3.ext
  have pl3 : px3.plain = true := lpl pi3.len
  refine OkO.callE rfl rfl rfl rfl rfl (c53 (m + 79) _) ?_ -- "sackung/sackunglaw04.fast"
  rintro _ L3 ⟨lb3, lv3, rfl, lq3, lg3, ll3, ln3, la3, li3⟩
  have n8 := lq3.ext.next
  try simp only [hNw, hPt] at n8
  have gg8 : Grow W L3 := Grow.ret (by (try dsimp only); repeat (first | exact gg7 | apply Grow.new | (refine Grow.put ?_ _ (by first | omega | (simp only [hNw, hPt]; omega))))) lq3
  have s0x8 : (L3.get (sb0)).bind AObj.cs = some sc0 := by rw [lq3.ext.get _ (by first | omega | (simp only [hNw, hPt]; omega))]; first | assumption | (rw [gn0]; rfl) | (rw [get_put_eq] <;> rfl) | (simp (disch := first | omega | (simp only [hNw, hPt]; omega)) only [gn0, gn1, gn2, gn3, gn4, gn5, gp0, gno, gpo] <;> first | rfl | assumption | (rw [get_put_eq] <;> rfl))
  have s1x8 : (L3.get (sb1)).bind AObj.cs = some sc1 := by rw [lq3.ext.get _ (by first | omega | (simp only [hNw, hPt]; omega))]; first | assumption | (rw [gn0]; rfl) | (rw [get_put_eq] <;> rfl) | (simp (disch := first | omega | (simp only [hNw, hPt]; omega)) only [gn0, gn1, gn2, gn3, gn4, gn5, gp0, gno, gpo] <;> first | rfl | assumption | (rw [get_put_eq] <;> rfl))
  have s2x8 : (L3.get (sb2)).bind AObj.cs = some sc2 := by rw [lq3.ext.get _ (by first | omega | (simp only [hNw, hPt]; omega))]; first | assumption | (rw [gn0]; rfl) | (rw [get_put_eq] <;> rfl) | (simp (disch := first | omega | (simp only [hNw, hPt]; omega)) only [gn0, gn1, gn2, gn3, gn4, gn5, gp0, gno, gpo] <;> first | rfl | assumption | (rw [get_put_eq] <;> rfl))
  have exP18 : Ext P1 L3 := Ext.trans (by (try dsimp only); repeat (first | exact exP17 | exact Ext.refl _ | apply Ext.new | (refine Ext.put ?_ _ (by first | omega | (simp only [hNw, hPt]; omega))))) lq3.ext
  have exL18 : Ext L1 L3 := Ext.trans (by (try dsimp only); repeat (first | exact exL17 | exact Ext.refl _ | apply Ext.new | (refine Ext.put ?_ _ (by first | omega | (simp only [hNw, hPt]; omega))))) lq3.ext
  have exP28 : Ext P2 L3 := Ext.trans (by (try dsimp only); repeat (first | exact exP27 | exact Ext.refl _ | apply Ext.new | (refine Ext.put ?_ _ (by first | omega | (simp only [hNw, hPt]; omega))))) lq3.ext
  have exL28 : Ext L2 L3 := Ext.trans (by (try dsimp only); repeat (first | exact exL27 | exact Ext.refl _ | apply Ext.new | (refine Ext.put ?_ _ (by first | omega | (simp only [hNw, hPt]; omega))))) lq3.ext
  have exM18 : Ext M1 L3 := Ext.trans (by (try dsimp only); repeat (first | exact exM17 | exact Ext.refl _ | apply Ext.new | (refine Ext.put ?_ _ (by first | omega | (simp only [hNw, hPt]; omega))))) lq3.ext
  have exP38 : Ext P3 L3 := Ext.trans (by (try dsimp only); repeat (first | exact Ext.refl _ | exact Ext.refl _ | apply Ext.new | (refine Ext.put ?_ _ (by first | omega | (simp only [hNw, hPt]; omega))))) lq3.ext
  have lw3 : LstAt L3 (.slice lb3 0 3 3) rF := lst_of lg3 ll3 rfl ln3 li3
  refine OkO.callE rfl rfl rfl rfl rfl (c28Y (m + 73) px3 (.slice lb3 0 3 3) pE rF _ (pi3.ext (by (try dsimp only); repeat (first | exact exP38 | exact Ext.refl _ | apply Ext.new | (refine Ext.put ?_ _ (by first | omega | (simp only [hNw, hPt]; omega)))))) (lw3.ext (by (try dsimp only); repeat (first | exact Ext.refl _ | exact Ext.refl _ | apply Ext.new | (refine Ext.put ?_ _ (by first | omega | (simp only [hNw, hPt]; omega)))))) (by decide) (by decide) (by decide) fE_F pp_F) ?_ -- "sackung/alarm.Failed"
  rintro _ M2 ⟨xm2, rfl, qm2, mm2⟩
  have n9 := qm2.ext.next
  try simp only [hNw, hPt] at n9
  have gg9 : Grow W M2 := Grow.ret (by (try dsimp only); repeat (first | exact gg8 | apply Grow.new | (refine Grow.put ?_ _ (by first | omega | (simp only [hNw, hPt]; omega))))) qm2
  have s0x9 : (M2.get (sb0)).bind AObj.cs = some sc0 := by rw [qm2.ext.get _ (by first | omega | (simp only [hNw, hPt]; omega))]; first | assumption | (rw [gn0]; rfl) | (rw [get_put_eq] <;> rfl) | (simp (disch := first | omega | (simp only [hNw, hPt]; omega)) only [gn0, gn1, gn2, gn3, gn4, gn5, gp0, gno, gpo] <;> first | rfl | assumption | (rw [get_put_eq] <;> rfl))
  have s1x9 : (M2.get (sb1)).bind AObj.cs = some sc1 := by rw [qm2.ext.get _ (by first | omega | (simp only [hNw, hPt]; omega))]; first | assumption | (rw [gn0]; rfl) | (rw [get_put_eq] <;> rfl) | (simp (disch := first | omega | (simp only [hNw, hPt]; omega)) only [gn0, gn1, gn2, gn3, gn4, gn5, gp0, gno, gpo] <;> first | rfl | assumption | (rw [get_put_eq] <;> rfl))
  have s2x9 : (M2.get (sb2)).bind AObj.cs = some sc2 := by rw [qm2.ext.get _ (by first | omega | (simp only [hNw, hPt]; omega))]; first | assumption | (rw [gn0]; rfl) | (rw [get_put_eq] <;> rfl) | (simp (disch := first | omega | (simp only [hNw, hPt]; omega)) only [gn0, gn1, gn2, gn3, gn4, gn5, gp0, gno, gpo] <;> first | rfl | assumption | (rw [get_put_eq] <;> rfl))
  have exP19 : Ext P1 M2 := Ext.trans (by (try dsimp only); repeat (first | exact exP18 | exact Ext.refl _ | apply Ext.new | (refine Ext.put ?_ _ (by first | omega | (simp only [hNw, hPt]; omega))))) qm2.ext
  have exL19 : Ext L1 M2 := Ext.trans (by (try dsimp only); repeat (first | exact exL18 | exact Ext.refl _ | apply Ext.new | (refine Ext.put ?_ _ (by first | omega | (simp only [hNw, hPt]; omega))))) qm2.ext
  have exP29 : Ext P2 M2 := Ext.trans (by (try dsimp only); repeat (first | exact exP28 | exact Ext.refl _ | apply Ext.new | (refine Ext.put ?_ _ (by first | omega | (simp only [hNw, hPt]; omega))))) qm2.ext
  have exL29 : Ext L2 M2 := Ext.trans (by (try dsimp only); repeat (first | exact exL28 | exact Ext.refl _ | apply Ext.new | (refine Ext.put ?_ _ (by first | omega | (simp only [hNw, hPt]; omega))))) qm2.ext
  have exM19 : Ext M1 M2 := Ext.trans (by (try dsimp only); repeat (first | exact exM18 | exact Ext.refl _ | apply Ext.new | (refine Ext.put ?_ _ (by first | omega | (simp only [hNw, hPt]; omega))))) qm2.ext
  have exP39 : Ext P3 M2 := Ext.trans (by (try dsimp only); repeat (first | exact exP38 | exact Ext.refl _ | apply Ext.new | (refine Ext.put ?_ _ (by first | omega | (simp only [hNw, hPt]; omega))))) qm2.ext
  have exL39 : Ext L3 M2 := Ext.trans (by (try dsimp only); repeat (first | exact Ext.refl _ | exact Ext.refl _ | apply Ext.new | (refine Ext.put ?_ _ (by first | omega | (simp only [hNw, hPt]; omega))))) qm2.ext
  rw [fld_F] at mm2
  have im2 := mm2.ints (us := [-1, 0, 1, 2])
  refine OkO.move rfl rfl ?_
  refine OkO.extract rfl rfl rfl ?_
  refine OkO.extract rfl rfl rfl ?_
  refine OkO.assign rfl rfl ?_
  refine OkO.assign rfl rfl ?_
  refine OkO.nil ?_
  refine Ok.seq ?_
  refine Ok.region ?_
  refine OkO.build (z := [.int .i64 0, .int .i64 0, .int .i64 0, .int .i64 0, .int .i64 0]) (pl := [(0, 1), (1, 1), (2, 1), (3, 1), (4, 1)]) rfl (by kernel_rfl) rfl rfl ?_
  refine OkO.alloc (z := [.int .i64 0, .int .i64 0, .int .i64 0, .int .i64 0, .int .i64 0]) rfl (by kernel_rfl) ?_
  refine OkO.store rfl rfl rfl (sAc (n := 5) (ag := true) (by kernel_rfl) (by first | assumption | (simp (disch := first | omega | (simp only [hNw, hPt]; omega)) only [gn0, gn1, gn2, gn3, gn4, gn5, gp0, gno, gpo] <;> first | rfl | assumption | exact gp0 _ _ _ | exact gn0 _ _)) rfl (by first | rfl | assumption) (by first | rfl | exact spl_set _ _ _ (by first | assumption | omega | (simp; omega)))) ?_
  refine OkO.nil ?_
  refine Ok.seq ?_
  refine Ok.drawn [(2, true, []), (3, true, []), (0, false, [2]), (1, true, [2]), (4, false, []), (5, true, []), (6, true, []), (7, true, []), (8, true, []), (9, true, []), (10, true, []), (11, true, [])] (by kernel_rfl) ?_
  refine OkP.step ?_
  refine OkO.load rfl rfl (ldg (n := 5) (by kernel_rfl) (by first | assumption | (simp (disch := first | omega | (simp only [hNw, hPt]; omega)) only [gn0, gn1, gn2, gn3, gn4, gn5, gp0, gno, gpo] <;> first | rfl | assumption | exact gp0 _ _ _ | exact gn0 _ _)) (by first | rfl | assumption)) ?_
  refine OkO.nil ⟨rfl, ?_⟩
  refine OkP.step ?_
  refine OkO.build (z := [.int .i64 0, .int .i64 0, .int .i64 0]) (pl := [(0, 1), (1, 1), (2, 1)]) rfl (by kernel_rfl) rfl rfl ?_
  refine OkO.nil ⟨rfl, ?_⟩
  refine OkP.step ?_
  refine OkO.callE rfl rfl rfl rfl rfl (c54 (m + 79) _) ?_ -- "sackung/sackunglaw04.year"
  rintro _ Y1 ⟨yx1, rfl, yq1, yi1, ya1⟩
  have n10 := yq1.ext.next
  try simp only [hNw, hPt] at n10
  have gg10 : Grow W Y1 := Grow.ret (by (try dsimp only); repeat (first | exact gg9 | apply Grow.new | (refine Grow.put ?_ _ (by first | omega | (simp only [hNw, hPt]; omega))))) yq1
  have s0x10 : (Y1.get (sb0)).bind AObj.cs = some sc0 := by rw [yq1.ext.get _ (by first | omega | (simp only [hNw, hPt]; omega))]; first | assumption | (rw [gn0]; rfl) | (rw [get_put_eq] <;> rfl) | (simp (disch := first | omega | (simp only [hNw, hPt]; omega)) only [gn0, gn1, gn2, gn3, gn4, gn5, gp0, gno, gpo] <;> first | rfl | assumption | (rw [get_put_eq] <;> rfl))
  have s1x10 : (Y1.get (sb1)).bind AObj.cs = some sc1 := by rw [yq1.ext.get _ (by first | omega | (simp only [hNw, hPt]; omega))]; first | assumption | (rw [gn0]; rfl) | (rw [get_put_eq] <;> rfl) | (simp (disch := first | omega | (simp only [hNw, hPt]; omega)) only [gn0, gn1, gn2, gn3, gn4, gn5, gp0, gno, gpo] <;> first | rfl | assumption | (rw [get_put_eq] <;> rfl))
  have s2x10 : (Y1.get (sb2)).bind AObj.cs = some sc2 := by rw [yq1.ext.get _ (by first | omega | (simp only [hNw, hPt]; omega))]; first | assumption | (rw [gn0]; rfl) | (rw [get_put_eq] <;> rfl) | (simp (disch := first | omega | (simp only [hNw, hPt]; omega)) only [gn0, gn1, gn2, gn3, gn4, gn5, gp0, gno, gpo] <;> first | rfl | assumption | (rw [get_put_eq] <;> rfl))
  have kt10 : (Y1.get (M2.next)).bind AObj.cs = some (tE 2 2).c := by rw [yq1.ext.get _ (by first | omega | (simp only [hNw, hPt]; omega))]; first | assumption | (rw [gn0]; rfl) | (rw [get_put_eq] <;> rfl) | (simp (disch := first | omega | (simp only [hNw, hPt]; omega)) only [gn0, gn1, gn2, gn3, gn4, gn5, gp0, gno, gpo] <;> first | rfl | assumption | (rw [get_put_eq] <;> rfl))
  have ko10 : Y1.get (M2.next) = some (.cells (tE 2 2).c 86) := by rw [yq1.ext.get _ (by first | omega | (simp only [hNw, hPt]; omega))]; first | assumption | exact gn0 _ _ | (simp (disch := first | omega | (simp only [hNw, hPt]; omega)) only [gn0, gn1, gn2, gn3, gn4, gn5, gp0, gno, gpo] <;> first | rfl | assumption | exact gp0 _ _ _ | exact gn0 _ _)
  have exP110 : Ext P1 Y1 := Ext.trans (by (try dsimp only); repeat (first | exact exP19 | exact Ext.refl _ | apply Ext.new | (refine Ext.put ?_ _ (by first | omega | (simp only [hNw, hPt]; omega))))) yq1.ext
  have exL110 : Ext L1 Y1 := Ext.trans (by (try dsimp only); repeat (first | exact exL19 | exact Ext.refl _ | apply Ext.new | (refine Ext.put ?_ _ (by first | omega | (simp only [hNw, hPt]; omega))))) yq1.ext
  have exP210 : Ext P2 Y1 := Ext.trans (by (try dsimp only); repeat (first | exact exP29 | exact Ext.refl _ | apply Ext.new | (refine Ext.put ?_ _ (by first | omega | (simp only [hNw, hPt]; omega))))) yq1.ext
  have exL210 : Ext L2 Y1 := Ext.trans (by (try dsimp only); repeat (first | exact exL29 | exact Ext.refl _ | apply Ext.new | (refine Ext.put ?_ _ (by first | omega | (simp only [hNw, hPt]; omega))))) yq1.ext
  have exM110 : Ext M1 Y1 := Ext.trans (by (try dsimp only); repeat (first | exact exM19 | exact Ext.refl _ | apply Ext.new | (refine Ext.put ?_ _ (by first | omega | (simp only [hNw, hPt]; omega))))) yq1.ext
  have exP310 : Ext P3 Y1 := Ext.trans (by (try dsimp only); repeat (first | exact exP39 | exact Ext.refl _ | apply Ext.new | (refine Ext.put ?_ _ (by first | omega | (simp only [hNw, hPt]; omega))))) yq1.ext
  have exL310 : Ext L3 Y1 := Ext.trans (by (try dsimp only); repeat (first | exact exL39 | exact Ext.refl _ | apply Ext.new | (refine Ext.put ?_ _ (by first | omega | (simp only [hNw, hPt]; omega))))) yq1.ext
  have exM210 : Ext M2 Y1 := Ext.trans (by (try dsimp only); repeat (first | exact Ext.refl _ | exact Ext.refl _ | apply Ext.new | (refine Ext.put ?_ _ (by first | omega | (simp only [hNw, hPt]; omega))))) yq1.ext
  have yl1 : yx1.plain = true := lpl yi1.len
  refine OkO.nil ⟨(sco (sld rfl rfl (ldg (n := 5) (by kernel_rfl) (by first | assumption | (simp (disch := first | omega | (simp only [hNw, hPt]; omega)) only [gn0, gn1, gn2, gn3, gn4, gn5, gp0, gno, gpo] <;> first | rfl | assumption | exact gp0 _ _ _ | exact gn0 _ _)) (by first | rfl | assumption)) rfl (eqr _ (by first | rfl | exact lpl (by assumption) | (simp [AV.plain, AV.plains, AV.cells, AV.plain])))) rfl), ?_⟩
  refine OkP.step ?_
  refine OkO.buildSlice (el := 66) (sz := 2) (z := [.nils, .bool false]) rfl (by kernel_rfl) (by decide) rfl rfl ?_
  refine OkO.nil ⟨(sco (sld rfl rfl (ldg (n := 5) (by kernel_rfl) (by first | assumption | (simp (disch := first | omega | (simp only [hNw, hPt]; omega)) only [gn0, gn1, gn2, gn3, gn4, gn5, gp0, gno, gpo] <;> first | rfl | assumption | exact gp0 _ _ _ | exact gn0 _ _)) (by first | rfl | assumption)) rfl (eqr _ (by first | rfl | exact lpl (by assumption) | (simp [AV.plain, AV.plains, AV.cells, AV.plain])))) rfl), ?_⟩
  refine OkP.step ?_
  refine OkO.callV rfl rfl rfl rfl rfl ((c44K (m + 72) (.slice Y1.next 0 1 1) [yr] (tE 2 2) ⟨10, 6, 2⟩ _ (seas_lit yi1 ya1) (by decide) (by decide) te_22 rfl).trans (by rw [sum_22, all_22])) ?_ -- "sackung/alarm.Price"
  refine OkO.nil ⟨rfl, ?_⟩
  refine OkP.step ?_
  refine OkO.move rfl rfl ?_
  refine OkO.nil ⟨rfl, ?_⟩
  refine OkP.step ?_
  refine OkO.extract rfl rfl rfl ?_
  refine OkO.nil ⟨rfl, ?_⟩
  refine OkP.step ?_
  refine OkO.extract rfl rfl rfl ?_
  refine OkO.nil ⟨rfl, ?_⟩
  refine OkP.step ?_
  refine OkO.extract rfl rfl rfl ?_
  refine OkO.nil ⟨rfl, ?_⟩
  refine OkP.step ?_
  refine OkO.assign rfl rfl ?_
  refine OkO.nil ⟨rfl, ?_⟩
  refine OkP.step ?_
  refine OkO.assign rfl rfl ?_
  refine OkO.nil ⟨rfl, ?_⟩
  refine OkP.step ?_
  refine OkO.assign rfl rfl ?_
  refine OkO.nil ⟨rfl, ?_⟩
  refine OkP.nil ?_
  refine Ok.seq ?_
  refine Ok.drawn [(2, true, []), (8, true, [2]), (0, false, [2]), (1, true, [2]), (3, false, []), (4, true, []), (5, true, []), (6, true, []), (7, true, []), (9, false, []), (10, true, []), (11, true, [])] (by kernel_rfl) ?_
  refine OkP.step ?_
  refine OkO.load rfl rfl (ldg (n := 5) (by kernel_rfl) (by first | assumption | (simp (disch := first | omega | (simp only [hNw, hPt]; omega)) only [gn0, gn1, gn2, gn3, gn4, gn5, gp0, gno, gpo] <;> first | rfl | assumption | exact gp0 _ _ _ | exact gn0 _ _)) (by first | rfl | assumption)) ?_
  refine OkO.nil ⟨rfl, ?_⟩
  refine OkP.step ?_
  refine OkO.alloc (z := [.int .i64 0, .int .i64 0, .int .i64 0]) rfl (by kernel_rfl) ?_
  refine OkO.nil ⟨(sco (sld rfl rfl (ldg (n := 5) (by kernel_rfl) (by first | assumption | (simp (disch := first | omega | (simp only [hNw, hPt]; omega)) only [gn0, gn1, gn2, gn3, gn4, gn5, gp0, gno, gpo] <;> first | rfl | assumption | exact gp0 _ _ _ | exact gn0 _ _)) (by first | rfl | assumption)) rfl (eqr _ (by first | rfl | exact lpl (by assumption) | (simp [AV.plain, AV.plains, AV.cells, AV.plain])))) rfl), ?_⟩
  refine OkP.step ?_
  refine OkO.callE rfl rfl rfl rfl rfl (c54 (m + 79) _) ?_ -- "sackung/sackunglaw04.year"
  rintro _ Y2 ⟨yx2, rfl, yq2, yi2, ya2⟩
  have n11 := yq2.ext.next
  try simp only [hNw, hPt] at n11
  have gg11 : Grow W Y2 := Grow.ret (by (try dsimp only); repeat (first | exact gg10 | apply Grow.new | (refine Grow.put ?_ _ (by first | omega | (simp only [hNw, hPt]; omega))))) yq2
  have s0x11 : (Y2.get (sb0)).bind AObj.cs = some sc0 := by rw [yq2.ext.get _ (by first | omega | (simp only [hNw, hPt]; omega))]; first | assumption | (rw [gn0]; rfl) | (rw [get_put_eq] <;> rfl) | (simp (disch := first | omega | (simp only [hNw, hPt]; omega)) only [gn0, gn1, gn2, gn3, gn4, gn5, gp0, gno, gpo] <;> first | rfl | assumption | (rw [get_put_eq] <;> rfl))
  have s1x11 : (Y2.get (sb1)).bind AObj.cs = some sc1 := by rw [yq2.ext.get _ (by first | omega | (simp only [hNw, hPt]; omega))]; first | assumption | (rw [gn0]; rfl) | (rw [get_put_eq] <;> rfl) | (simp (disch := first | omega | (simp only [hNw, hPt]; omega)) only [gn0, gn1, gn2, gn3, gn4, gn5, gp0, gno, gpo] <;> first | rfl | assumption | (rw [get_put_eq] <;> rfl))
  have s2x11 : (Y2.get (sb2)).bind AObj.cs = some sc2 := by rw [yq2.ext.get _ (by first | omega | (simp only [hNw, hPt]; omega))]; first | assumption | (rw [gn0]; rfl) | (rw [get_put_eq] <;> rfl) | (simp (disch := first | omega | (simp only [hNw, hPt]; omega)) only [gn0, gn1, gn2, gn3, gn4, gn5, gp0, gno, gpo] <;> first | rfl | assumption | (rw [get_put_eq] <;> rfl))
  have kt11 : (Y2.get (M2.next)).bind AObj.cs = some (tE 2 2).c := by rw [yq2.ext.get _ (by first | omega | (simp only [hNw, hPt]; omega))]; first | assumption | (rw [gn0]; rfl) | (rw [get_put_eq] <;> rfl) | (simp (disch := first | omega | (simp only [hNw, hPt]; omega)) only [gn0, gn1, gn2, gn3, gn4, gn5, gp0, gno, gpo] <;> first | rfl | assumption | (rw [get_put_eq] <;> rfl))
  have ko11 : Y2.get (M2.next) = some (.cells (tE 2 2).c 86) := by rw [yq2.ext.get _ (by first | omega | (simp only [hNw, hPt]; omega))]; first | assumption | exact gn0 _ _ | (simp (disch := first | omega | (simp only [hNw, hPt]; omega)) only [gn0, gn1, gn2, gn3, gn4, gn5, gp0, gno, gpo] <;> first | rfl | assumption | exact gp0 _ _ _ | exact gn0 _ _)
  have z1111 : Y2.get (Y1.next + 1) = some (.cells [I 0, I 0, I 0] 68) := by rw [yq2.ext.get _ (by first | omega | (simp only [hNw, hPt]; omega))]; first | assumption | exact gn0 _ _ | (simp (disch := first | omega | (simp only [hNw, hPt]; omega)) only [gn0, gn1, gn2, gn3, gn4, gn5, gp0, gno, gpo] <;> first | rfl | assumption | exact gp0 _ _ _ | exact gn0 _ _)
  have exP111 : Ext P1 Y2 := Ext.trans (by (try dsimp only); repeat (first | exact exP110 | exact Ext.refl _ | apply Ext.new | (refine Ext.put ?_ _ (by first | omega | (simp only [hNw, hPt]; omega))))) yq2.ext
  have exL111 : Ext L1 Y2 := Ext.trans (by (try dsimp only); repeat (first | exact exL110 | exact Ext.refl _ | apply Ext.new | (refine Ext.put ?_ _ (by first | omega | (simp only [hNw, hPt]; omega))))) yq2.ext
  have exP211 : Ext P2 Y2 := Ext.trans (by (try dsimp only); repeat (first | exact exP210 | exact Ext.refl _ | apply Ext.new | (refine Ext.put ?_ _ (by first | omega | (simp only [hNw, hPt]; omega))))) yq2.ext
  have exL211 : Ext L2 Y2 := Ext.trans (by (try dsimp only); repeat (first | exact exL210 | exact Ext.refl _ | apply Ext.new | (refine Ext.put ?_ _ (by first | omega | (simp only [hNw, hPt]; omega))))) yq2.ext
  have exM111 : Ext M1 Y2 := Ext.trans (by (try dsimp only); repeat (first | exact exM110 | exact Ext.refl _ | apply Ext.new | (refine Ext.put ?_ _ (by first | omega | (simp only [hNw, hPt]; omega))))) yq2.ext
  have exP311 : Ext P3 Y2 := Ext.trans (by (try dsimp only); repeat (first | exact exP310 | exact Ext.refl _ | apply Ext.new | (refine Ext.put ?_ _ (by first | omega | (simp only [hNw, hPt]; omega))))) yq2.ext
  have exL311 : Ext L3 Y2 := Ext.trans (by (try dsimp only); repeat (first | exact exL310 | exact Ext.refl _ | apply Ext.new | (refine Ext.put ?_ _ (by first | omega | (simp only [hNw, hPt]; omega))))) yq2.ext
  have exM211 : Ext M2 Y2 := Ext.trans (by (try dsimp only); repeat (first | exact exM210 | exact Ext.refl _ | apply Ext.new | (refine Ext.put ?_ _ (by first | omega | (simp only [hNw, hPt]; omega))))) yq2.ext
  have exY111 : Ext Y1 Y2 := Ext.trans (by (try dsimp only); repeat (first | exact Ext.refl _ | exact Ext.refl _ | apply Ext.new | (refine Ext.put ?_ _ (by first | omega | (simp only [hNw, hPt]; omega))))) yq2.ext
  have yl2 : yx2.plain = true := lpl yi2.len
  refine OkO.nil ⟨(sco (sld rfl rfl (ldg (n := 5) (by kernel_rfl) (by first | assumption | (simp (disch := first | omega | (simp only [hNw, hPt]; omega)) only [gn0, gn1, gn2, gn3, gn4, gn5, gp0, gno, gpo] <;> first | rfl | assumption | exact gp0 _ _ _ | exact gn0 _ _)) (by first | rfl | assumption)) rfl (eqr _ (by first | rfl | exact lpl (by assumption) | (simp [AV.plain, AV.plains, AV.cells, AV.plain])))) rfl), ?_⟩
  refine OkP.step ?_
  refine OkO.buildSlice (el := 66) (sz := 2) (z := [.nils, .bool false]) rfl (by kernel_rfl) (by decide) rfl rfl ?_
  refine OkO.nil ⟨(sco (sld rfl rfl (ldg (n := 5) (by kernel_rfl) (by first | assumption | (simp (disch := first | omega | (simp only [hNw, hPt]; omega)) only [gn0, gn1, gn2, gn3, gn4, gn5, gp0, gno, gpo] <;> first | rfl | assumption | exact gp0 _ _ _ | exact gn0 _ _)) (by first | rfl | assumption)) rfl (eqr _ (by first | rfl | exact lpl (by assumption) | (simp [AV.plain, AV.plains, AV.cells, AV.plain])))) rfl), ?_⟩
  refine OkP.step ?_
  refine OkO.callV rfl rfl rfl rfl rfl ((c49T (m + 70) (.slice Y2.next 0 1 1) [yr] (tE 2 2) 14 _ (seas_lit yi2 ya2) te_22 (by decide) (by decide) rfl best_14).trans (by rw [price_14])) ?_ -- "sackung/alarm.Best"
  refine OkO.nil ⟨rfl, ?_⟩
  refine OkP.step ?_
  refine OkO.move rfl rfl ?_
  refine OkO.nil ⟨rfl, ?_⟩
  refine OkP.step ?_
  refine OkO.extract rfl rfl rfl ?_
  refine OkO.nil ⟨rfl, ?_⟩
  refine OkP.step ?_
  refine OkO.extract rfl rfl rfl ?_
  refine OkO.nil ⟨rfl, ?_⟩
  refine OkP.step ?_
  refine OkO.extract rfl rfl rfl ?_
  refine OkO.nil ⟨rfl, ?_⟩
  refine OkP.step ?_
  refine OkO.store rfl rfl rfl (sAc (n := 3) (ag := true) (by kernel_rfl) (by first | assumption | (simp (disch := first | omega | (simp only [hNw, hPt]; omega)) only [gn0, gn1, gn2, gn3, gn4, gn5, gp0, gno, gpo] <;> first | rfl | assumption | exact gp0 _ _ _ | exact gn0 _ _)) rfl (by first | rfl | assumption) (by first | rfl | exact spl_set _ _ _ (by first | assumption | omega | (simp; omega)))) ?_
  refine OkO.nil ⟨rfl, ?_⟩
  refine OkP.step ?_
  refine OkO.assign rfl rfl ?_
  refine OkO.nil ⟨rfl, ?_⟩
  refine OkP.step ?_
  refine OkO.assign rfl rfl ?_
  refine OkO.nil ⟨rfl, ?_⟩
  refine OkP.nil ?_
  refine Ok.seq ?_
  refine Ok.seq ?_
  refine Ok.region ?_
  refine OkO.move rfl rfl ?_
  refine OkO.bin rfl rfl rfl ((bin_neq _ _).trans (congrArg (fun b => some (AV.bool b)) (show _ = false from (by rfl)))) ?_
  refine OkO.move rfl rfl ?_
  refine OkO.move rfl rfl ?_
  refine OkO.builtin rfl rfl rfl (bln (by kernel_rfl) (by first | assumption | rfl)) ?_
  refine OkO.bin rfl rfl rfl ((bin_neq _ _).trans (congrArg (fun b => some (AV.bool b)) (show _ = false from (by rfl)))) ?_
  refine OkO.pick (b := false) rfl rfl nofun (fun _ => rfl) ?_
  refine OkO.move rfl rfl ?_
  refine OkO.move rfl rfl ?_
  refine OkO.index (sz := 3) rfl rfl rfl (by kernel_rfl) (by first | assumption | rfl | exact slAt_slice (by omega) | exact slAt_opn (by omega)) ?_ -- index ('Go.Operand.tmp', 86) ('Go.Operand.const', ('Go.Value.int', 'Go.IntKind.i64', 0))
  refine OkO.load rfl rfl (ldg (n := 3) (by kernel_rfl) (by first | assumption | (simp (disch := first | omega | (simp only [hNw, hPt]; omega)) only [gn0, gn1, gn2, gn3, gn4, gn5, gp0, gno, gpo] <;> first | rfl | assumption | exact gp0 _ _ _ | exact gn0 _ _)) (by first | rfl | assumption)) ?_
  refine OkO.build (z := [.int .i64 0, .int .i64 0, .int .u8 0]) (pl := [(0, 1), (1, 1), (2, 1)]) rfl (by kernel_rfl) rfl rfl ?_
  refine OkO.binT rfl rfl rfl ((bin45 _ _ _).trans (congrArg (fun b => some (AV.bool b)) (show _ = false from (by rfl)))) ?_
  refine OkO.pick (b := false) rfl rfl nofun (fun _ => rfl) ?_
  refine OkO.move rfl rfl ?_
  refine OkO.move rfl rfl ?_
  refine OkO.index (sz := 3) rfl rfl rfl (by kernel_rfl) (by first | assumption | rfl | exact slAt_slice (by omega) | exact slAt_opn (by omega)) ?_ -- index ('Go.Operand.tmp', 93) ('Go.Operand.const', ('Go.Value.int', 'Go.IntKind.i64', 1))
  refine OkO.load rfl rfl (ldg (n := 3) (by kernel_rfl) (by first | assumption | (simp (disch := first | omega | (simp only [hNw, hPt]; omega)) only [gn0, gn1, gn2, gn3, gn4, gn5, gp0, gno, gpo] <;> first | rfl | assumption | exact gp0 _ _ _ | exact gn0 _ _)) (by first | rfl | assumption)) ?_
  refine OkO.build (z := [.int .i64 0, .int .i64 0, .int .u8 0]) (pl := [(0, 1), (1, 1), (2, 1)]) rfl (by kernel_rfl) rfl rfl ?_
  refine OkO.binT rfl rfl rfl ((bin45 _ _ _).trans (congrArg (fun b => some (AV.bool b)) (show _ = false from (by rfl)))) ?_
  refine OkO.pick (b := false) rfl rfl nofun (fun _ => rfl) ?_
  refine OkO.move rfl rfl ?_
  refine OkO.move rfl rfl ?_
  refine OkO.index (sz := 3) rfl rfl rfl (by kernel_rfl) (by first | assumption | rfl | exact slAt_slice (by omega) | exact slAt_opn (by omega)) ?_ -- index ('Go.Operand.tmp', 100) ('Go.Operand.const', ('Go.Value.int', 'Go.IntKind.i64', 2))
  refine OkO.load rfl rfl (ldg (n := 3) (by kernel_rfl) (by first | assumption | (simp (disch := first | omega | (simp only [hNw, hPt]; omega)) only [gn0, gn1, gn2, gn3, gn4, gn5, gp0, gno, gpo] <;> first | rfl | assumption | exact gp0 _ _ _ | exact gn0 _ _)) (by first | rfl | assumption)) ?_
  refine OkO.build (z := [.int .i64 0, .int .i64 0, .int .u8 0]) (pl := [(0, 1), (1, 1), (2, 1)]) rfl (by kernel_rfl) rfl rfl ?_
  refine OkO.binT rfl rfl rfl ((bin45 _ _ _).trans (congrArg (fun b => some (AV.bool b)) (show _ = false from (by rfl)))) ?_
  refine OkO.pick (b := false) rfl rfl nofun (fun _ => rfl) ?_
  refine OkO.move rfl rfl ?_
  refine OkO.move rfl rfl ?_
  refine OkO.bin rfl rfl rfl ((bin_neq _ _).trans (congrArg (fun b => some (AV.bool b)) (show _ = false from (by rfl)))) ?_
  refine OkO.pick (b := false) rfl rfl nofun (fun _ => rfl) ?_
  refine OkO.move rfl rfl ?_
  refine OkO.move rfl rfl ?_
  refine OkO.buildSlice (el := 3) (sz := 1) (z := [.int .i64 0]) rfl (by kernel_rfl) (by decide) rfl rfl ?_
  refine OkO.callV rfl rfl rfl rfl rfl ((c34 (m + 79) xm1 _ [1] [1] _ (im1.ext (by (try dsimp only); repeat (first | exact exM111 | exact Ext.refl _ | apply Ext.new | (refine Ext.put ?_ _ (by first | omega | (simp only [hNw, hPt]; omega)))))) (ints_lit _) (by decide) (by decide)).trans rfl) ?_ -- "sackung/sackunglaw04.ints"
  refine OkO.un rfl rfl rfl ?_
  refine OkO.pick (b := false) rfl rfl nofun (fun _ => rfl) ?_
  refine OkO.move rfl rfl ?_
  refine OkO.move rfl rfl ?_
  refine OkO.bin rfl rfl rfl ((bin_neq _ _).trans (congrArg (fun b => some (AV.bool b)) (show _ = false from (by rfl)))) ?_
  refine OkO.pick (b := false) rfl rfl nofun (fun _ => rfl) ?_
  refine OkO.move rfl rfl ?_
  refine OkO.move rfl rfl ?_
  refine OkO.buildSlice (el := 3) (sz := 1) (z := [.int .i64 0]) rfl (by kernel_rfl) (by decide) rfl rfl ?_
  refine OkO.callV rfl rfl rfl rfl rfl ((c34 (m + 79) xm2 _ [-1, 0, 1, 2] [-1, 0, 1, 2] _ (im2.ext (by (try dsimp only); repeat (first | exact exM211 | exact Ext.refl _ | apply Ext.new | (refine Ext.put ?_ _ (by first | omega | (simp only [hNw, hPt]; omega)))))) (ints_of (us := [-1, 0, 1, 2]) (by rw [gn0]; rfl) (by simp) rfl) (by decide) (by decide)).trans rfl) ?_ -- "sackung/sackunglaw04.ints"
  refine OkO.un rfl rfl rfl ?_
  refine OkO.pick (b := false) rfl rfl nofun (fun _ => rfl) ?_
  refine OkO.move rfl rfl ?_
  refine OkO.move rfl rfl ?_
  refine OkO.bin rfl rfl rfl ((bin_neq _ _).trans (congrArg (fun b => some (AV.bool b)) (show _ = false from (by rfl)))) ?_
  refine OkO.pick (b := false) rfl rfl nofun (fun _ => rfl) ?_
  refine OkO.move rfl rfl ?_
  refine OkO.move rfl rfl ?_
  refine OkO.bin rfl rfl rfl ((bin_neq _ _).trans (congrArg (fun b => some (AV.bool b)) (show _ = false from (by rfl)))) ?_
  refine OkO.pick (b := false) rfl rfl nofun (fun _ => rfl) ?_
  refine OkO.move rfl rfl ?_
  refine OkO.move rfl rfl ?_
  refine OkO.un rfl rfl rfl ?_
  refine OkO.pick (b := false) rfl rfl nofun (fun _ => rfl) ?_
  refine OkO.move rfl rfl ?_
  refine OkO.move rfl rfl ?_
  refine OkO.bin rfl rfl rfl ((bin_neq _ _).trans (congrArg (fun b => some (AV.bool b)) (show _ = false from (by rfl)))) ?_
  refine OkO.pick (b := false) rfl rfl nofun (fun _ => rfl) ?_
  refine OkO.move rfl rfl ?_
  refine OkO.load rfl rfl (ldg (n := 3) (by kernel_rfl) (by first | assumption | (simp (disch := first | omega | (simp only [hNw, hPt]; omega)) only [gn0, gn1, gn2, gn3, gn4, gn5, gp0, gno, gpo] <;> first | rfl | assumption | exact gp0 _ _ _ | exact gn0 _ _)) (by first | rfl | assumption)) ?_
  refine OkO.build (z := [.int .i64 0, .int .i64 0, .int .i64 0]) (pl := [(0, 1), (1, 1), (2, 1)]) rfl (by kernel_rfl) rfl rfl ?_
  refine OkO.binT rfl rfl rfl ((bin68n _ _ _).trans (congrArg (fun b => some (AV.bool b)) (show _ = false from (by rfl)))) ?_
  refine OkO.pick (b := false) rfl rfl nofun (fun _ => rfl) ?_
  refine OkO.move rfl rfl ?_
  refine OkO.move rfl rfl ?_
  refine OkO.bin rfl rfl rfl ((bin_neq _ _).trans (congrArg (fun b => some (AV.bool b)) (show _ = false from (by rfl)))) ?_
  refine OkO.pick (b := false) rfl rfl nofun (fun _ => rfl) ?_
  refine OkO.nil ?_
  refine Ok.condF rfl ?_
  refine Ok.skip ?_
  refine Ok.seq ?_
  refine Ok.region ?_
  refine OkO.callE rfl rfl rfl rfl rfl (c52 (m + 79) _) ?_ -- "sackung/sackunglaw04.lone"
  rintro _ L4 ⟨lb4, lv4, rfl, lq4, lg4, ll4, ln4, la4, li4⟩
  have n12 := lq4.ext.next
  try simp only [hNw, hPt] at n12
  have gg12 : Grow W L4 := Grow.ret (by (try dsimp only); repeat (first | exact gg11 | apply Grow.new | (refine Grow.put ?_ _ (by first | omega | (simp only [hNw, hPt]; omega))))) lq4
  have s0x12 : (L4.get (sb0)).bind AObj.cs = some sc0 := by rw [lq4.ext.get _ (by first | omega | (simp only [hNw, hPt]; omega))]; first | assumption | (rw [gn0]; rfl) | (rw [get_put_eq] <;> rfl) | (simp (disch := first | omega | (simp only [hNw, hPt]; omega)) only [gn0, gn1, gn2, gn3, gn4, gn5, gp0, gno, gpo] <;> first | rfl | assumption | (rw [get_put_eq] <;> rfl))
  have s1x12 : (L4.get (sb1)).bind AObj.cs = some sc1 := by rw [lq4.ext.get _ (by first | omega | (simp only [hNw, hPt]; omega))]; first | assumption | (rw [gn0]; rfl) | (rw [get_put_eq] <;> rfl) | (simp (disch := first | omega | (simp only [hNw, hPt]; omega)) only [gn0, gn1, gn2, gn3, gn4, gn5, gp0, gno, gpo] <;> first | rfl | assumption | (rw [get_put_eq] <;> rfl))
  have s2x12 : (L4.get (sb2)).bind AObj.cs = some sc2 := by rw [lq4.ext.get _ (by first | omega | (simp only [hNw, hPt]; omega))]; first | assumption | (rw [gn0]; rfl) | (rw [get_put_eq] <;> rfl) | (simp (disch := first | omega | (simp only [hNw, hPt]; omega)) only [gn0, gn1, gn2, gn3, gn4, gn5, gp0, gno, gpo] <;> first | rfl | assumption | (rw [get_put_eq] <;> rfl))
  have kt12 : (L4.get (M2.next)).bind AObj.cs = some (tE 2 2).c := by rw [lq4.ext.get _ (by first | omega | (simp only [hNw, hPt]; omega))]; first | assumption | (rw [gn0]; rfl) | (rw [get_put_eq] <;> rfl) | (simp (disch := first | omega | (simp only [hNw, hPt]; omega)) only [gn0, gn1, gn2, gn3, gn4, gn5, gp0, gno, gpo] <;> first | rfl | assumption | (rw [get_put_eq] <;> rfl))
  have kq12 : (L4.get (Y1.next + 1)).bind AObj.cs = some [I 14, I 10, I 2] := by rw [lq4.ext.get _ (by first | omega | (simp only [hNw, hPt]; omega))]; first | assumption | (rw [gn0]; rfl) | (rw [get_put_eq] <;> rfl) | (simp (disch := first | omega | (simp only [hNw, hPt]; omega)) only [gn0, gn1, gn2, gn3, gn4, gn5, gp0, gno, gpo] <;> first | rfl | assumption | (rw [get_put_eq] <;> rfl))
  have ko12 : L4.get (M2.next) = some (.cells (tE 2 2).c 86) := by rw [lq4.ext.get _ (by first | omega | (simp only [hNw, hPt]; omega))]; first | assumption | exact gn0 _ _ | (simp (disch := first | omega | (simp only [hNw, hPt]; omega)) only [gn0, gn1, gn2, gn3, gn4, gn5, gp0, gno, gpo] <;> first | rfl | assumption | exact gp0 _ _ _ | exact gn0 _ _)
  have lw4 : LstAt L4 (.slice lb4 0 3 3) rL := lst_of lg4 ll4 rfl ln4 li4
  refine OkO.buildSlice (el := 3) (sz := 1) (z := [.int .i64 0]) rfl (by kernel_rfl) (by decide) rfl rfl ?_
  refine OkO.buildSlice (el := 22) (sz := 1) (z := [.nils]) rfl (by kernel_rfl) (by decide) rfl rfl ?_
  refine OkO.builtinE rfl rfl rfl (app_full (b := lb4) (vs := lv4) (x := .slice L4.next 0 3 3) (by rw [gno _ _ _ (by first | (simp; done) | (simp; omega)), gno _ _ _ (by omega)]; exact lg4) ln4 (elems_new (n := 1) (sz := 1) rfl) rfl rfl) ?_
  rintro _ Bk ⟨rfl, qB, oB, nB⟩
  have n13 := qB.ext.next
  try simp only [hNw, hPt] at n13
  have gg13 : Grow W Bk := Grow.ret (by (try dsimp only); repeat (first | exact gg12 | apply Grow.new | (refine Grow.put ?_ _ (by first | omega | (simp only [hNw, hPt]; omega))))) qB
  have s0x13 : (Bk.get (sb0)).bind AObj.cs = some sc0 := by rw [qB.ext.get _ (by first | omega | (simp only [hNw, hPt]; omega))]; first | assumption | (rw [gn0]; rfl) | (rw [get_put_eq] <;> rfl) | (simp (disch := first | omega | (simp only [hNw, hPt]; omega)) only [gn0, gn1, gn2, gn3, gn4, gn5, gp0, gno, gpo] <;> first | rfl | assumption | (rw [get_put_eq] <;> rfl))
  have s1x13 : (Bk.get (sb1)).bind AObj.cs = some sc1 := by rw [qB.ext.get _ (by first | omega | (simp only [hNw, hPt]; omega))]; first | assumption | (rw [gn0]; rfl) | (rw [get_put_eq] <;> rfl) | (simp (disch := first | omega | (simp only [hNw, hPt]; omega)) only [gn0, gn1, gn2, gn3, gn4, gn5, gp0, gno, gpo] <;> first | rfl | assumption | (rw [get_put_eq] <;> rfl))
  have s2x13 : (Bk.get (sb2)).bind AObj.cs = some sc2 := by rw [qB.ext.get _ (by first | omega | (simp only [hNw, hPt]; omega))]; first | assumption | (rw [gn0]; rfl) | (rw [get_put_eq] <;> rfl) | (simp (disch := first | omega | (simp only [hNw, hPt]; omega)) only [gn0, gn1, gn2, gn3, gn4, gn5, gp0, gno, gpo] <;> first | rfl | assumption | (rw [get_put_eq] <;> rfl))
  have kt13 : (Bk.get (M2.next)).bind AObj.cs = some (tE 2 2).c := by rw [qB.ext.get _ (by first | omega | (simp only [hNw, hPt]; omega))]; first | assumption | (rw [gn0]; rfl) | (rw [get_put_eq] <;> rfl) | (simp (disch := first | omega | (simp only [hNw, hPt]; omega)) only [gn0, gn1, gn2, gn3, gn4, gn5, gp0, gno, gpo] <;> first | rfl | assumption | (rw [get_put_eq] <;> rfl))
  have kq13 : (Bk.get (Y1.next + 1)).bind AObj.cs = some [I 14, I 10, I 2] := by rw [qB.ext.get _ (by first | omega | (simp only [hNw, hPt]; omega))]; first | assumption | (rw [gn0]; rfl) | (rw [get_put_eq] <;> rfl) | (simp (disch := first | omega | (simp only [hNw, hPt]; omega)) only [gn0, gn1, gn2, gn3, gn4, gn5, gp0, gno, gpo] <;> first | rfl | assumption | (rw [get_put_eq] <;> rfl))
  have ko13 : Bk.get (M2.next) = some (.cells (tE 2 2).c 86) := by rw [qB.ext.get _ (by first | omega | (simp only [hNw, hPt]; omega))]; first | assumption | exact gn0 _ _ | (simp (disch := first | omega | (simp only [hNw, hPt]; omega)) only [gn0, gn1, gn2, gn3, gn4, gn5, gp0, gno, gpo] <;> first | rfl | assumption | exact gp0 _ _ _ | exact gn0 _ _)
  have exL413 : Ext L4 Bk := Ext.trans (by (try dsimp only); repeat (first | exact Ext.refl _ | exact Ext.refl _ | apply Ext.new | (refine Ext.put ?_ _ (by first | omega | (simp only [hNw, hPt]; omega))))) qB.ext
  simp only [hNw] at oB nB
  have brk4 : (Bk.get L4.next).bind AObj.cs = some [I 100, I 200, I 300] := by rw [qB.ext.get _ (by simp; omega), gno _ _ _ (by simp), gn0]; rfl
  have lwB : LstAt Bk (.opn (L4.next + 1 + 1) 4) rB := by
    refine lst_opn oB (by omega) rfl (by simp [ln4]) fun i x r h1_ h2_ => ?_
    by_cases hi : i < 3
    · rw [List.getElem?_append_left (by omega)] at h1_
      refine (li4 i x r h1_ ?_).ext (Ext.trans (((Ext.refl _).new _).new _) qB.ext)
      match i, hi with
      | 0, _ => exact h2_
      | 1, _ => exact h2_
      | 2, _ => exact h2_
    · have hi3 : i = 3 := by (have h9 := (List.getElem?_eq_some_iff.1 h1_).1); simp [ln4] at h9; omega
      subst hi3
      rw [List.getElem?_append_right (by omega), ln4] at h1_
      cases h1_; cases h2_
      exact ints_of (us := [100, 200, 300]) brk4 (by omega) rfl
  have lbB := lwB.len
  simp only [hNw] at *
  refine OkO.assign rfl rfl ?_
  refine OkO.nil ?_
  refine Ok.seq ?_
  refine Ok.region ?_
  refine OkO.callE rfl rfl rfl rfl rfl (c51 (m + 79) _) ?_ -- "sackung/sackunglaw04.post"
  rintro _ P4 ⟨px4, rfl, pq4, pi4, pa4⟩
  have n14 := pq4.ext.next
  try simp only [hNw, hPt] at n14
  have gg14 : Grow W P4 := Grow.ret (by (try dsimp only); repeat (first | exact gg13 | apply Grow.new | (refine Grow.put ?_ _ (by first | omega | (simp only [hNw, hPt]; omega))))) pq4
  have s0x14 : (P4.get (sb0)).bind AObj.cs = some sc0 := by rw [pq4.ext.get _ (by first | omega | (simp only [hNw, hPt]; omega))]; first | assumption | (rw [gn0]; rfl) | (rw [get_put_eq] <;> rfl) | (simp (disch := first | omega | (simp only [hNw, hPt]; omega)) only [gn0, gn1, gn2, gn3, gn4, gn5, gp0, gno, gpo] <;> first | rfl | assumption | (rw [get_put_eq] <;> rfl))
  have s1x14 : (P4.get (sb1)).bind AObj.cs = some sc1 := by rw [pq4.ext.get _ (by first | omega | (simp only [hNw, hPt]; omega))]; first | assumption | (rw [gn0]; rfl) | (rw [get_put_eq] <;> rfl) | (simp (disch := first | omega | (simp only [hNw, hPt]; omega)) only [gn0, gn1, gn2, gn3, gn4, gn5, gp0, gno, gpo] <;> first | rfl | assumption | (rw [get_put_eq] <;> rfl))
  have s2x14 : (P4.get (sb2)).bind AObj.cs = some sc2 := by rw [pq4.ext.get _ (by first | omega | (simp only [hNw, hPt]; omega))]; first | assumption | (rw [gn0]; rfl) | (rw [get_put_eq] <;> rfl) | (simp (disch := first | omega | (simp only [hNw, hPt]; omega)) only [gn0, gn1, gn2, gn3, gn4, gn5, gp0, gno, gpo] <;> first | rfl | assumption | (rw [get_put_eq] <;> rfl))
  have kt14 : (P4.get (M2.next)).bind AObj.cs = some (tE 2 2).c := by rw [pq4.ext.get _ (by first | omega | (simp only [hNw, hPt]; omega))]; first | assumption | (rw [gn0]; rfl) | (rw [get_put_eq] <;> rfl) | (simp (disch := first | omega | (simp only [hNw, hPt]; omega)) only [gn0, gn1, gn2, gn3, gn4, gn5, gp0, gno, gpo] <;> first | rfl | assumption | (rw [get_put_eq] <;> rfl))
  have kq14 : (P4.get (Y1.next + 1)).bind AObj.cs = some [I 14, I 10, I 2] := by rw [pq4.ext.get _ (by first | omega | (simp only [hNw, hPt]; omega))]; first | assumption | (rw [gn0]; rfl) | (rw [get_put_eq] <;> rfl) | (simp (disch := first | omega | (simp only [hNw, hPt]; omega)) only [gn0, gn1, gn2, gn3, gn4, gn5, gp0, gno, gpo] <;> first | rfl | assumption | (rw [get_put_eq] <;> rfl))
  have ko14 : P4.get (M2.next) = some (.cells (tE 2 2).c 86) := by rw [pq4.ext.get _ (by first | omega | (simp only [hNw, hPt]; omega))]; first | assumption | exact gn0 _ _ | (simp (disch := first | omega | (simp only [hNw, hPt]; omega)) only [gn0, gn1, gn2, gn3, gn4, gn5, gp0, gno, gpo] <;> first | rfl | assumption | exact gp0 _ _ _ | exact gn0 _ _)
  have exL414 : Ext L4 P4 := Ext.trans (by (try dsimp only); repeat (first | exact exL413 | exact Ext.refl _ | apply Ext.new | (refine Ext.put ?_ _ (by first | omega | (simp only [hNw, hPt]; omega))))) pq4.ext
  have exBk14 : Ext Bk P4 := Ext.trans (by (try dsimp only); repeat (first | exact Ext.refl _ | exact Ext.refl _ | apply Ext.new | (refine Ext.put ?_ _ (by first | omega | (simp only [hNw, hPt]; omega))))) pq4.ext
  have pl4 : px4.plain = true := lpl pi4.len
  refine OkO.move rfl rfl ?_
  refine OkO.callV rfl rfl rfl rfl rfl ((c23Y (m + 74) px4 (.opn (L4.next + 1 + 1) 4) pE rB _ (pi4.ext (by (try dsimp only); repeat (first | exact Ext.refl _ | exact Ext.refl _ | apply Ext.new | (refine Ext.put ?_ _ (by first | omega | (simp only [hNw, hPt]; omega)))))) (lwB.ext (by (try dsimp only); repeat (first | exact exBk14 | exact Ext.refl _ | apply Ext.new | (refine Ext.put ?_ _ (by first | omega | (simp only [hNw, hPt]; omega)))))) (by decide) (by decide) (by decide) fE_B).trans (by rw [brk_B])) ?_ -- "sackung/alarm.Breaks"
  refine OkO.move rfl rfl ?_
  refine OkO.extract rfl rfl rfl ?_
  refine OkO.extract rfl rfl rfl ?_
  refine OkO.assign rfl rfl ?_
  refine OkO.assign rfl rfl ?_
  refine OkO.nil ?_
  refine Ok.seq ?_
  refine Ok.region ?_
  refine OkO.callE rfl rfl rfl rfl rfl (c51 (m + 79) _) ?_ -- "sackung/sackunglaw04.post"
  rintro _ P5 ⟨px5, rfl, pq5, pi5, pa5⟩
  have n15 := pq5.ext.next
  try simp only [hNw, hPt] at n15
  have gg15 : Grow W P5 := Grow.ret (by (try dsimp only); repeat (first | exact gg14 | apply Grow.new | (refine Grow.put ?_ _ (by first | omega | (simp only [hNw, hPt]; omega))))) pq5
  have s0x15 : (P5.get (sb0)).bind AObj.cs = some sc0 := by rw [pq5.ext.get _ (by first | omega | (simp only [hNw, hPt]; omega))]; first | assumption | (rw [gn0]; rfl) | (rw [get_put_eq] <;> rfl) | (simp (disch := first | omega | (simp only [hNw, hPt]; omega)) only [gn0, gn1, gn2, gn3, gn4, gn5, gp0, gno, gpo] <;> first | rfl | assumption | (rw [get_put_eq] <;> rfl))
  have s1x15 : (P5.get (sb1)).bind AObj.cs = some sc1 := by rw [pq5.ext.get _ (by first | omega | (simp only [hNw, hPt]; omega))]; first | assumption | (rw [gn0]; rfl) | (rw [get_put_eq] <;> rfl) | (simp (disch := first | omega | (simp only [hNw, hPt]; omega)) only [gn0, gn1, gn2, gn3, gn4, gn5, gp0, gno, gpo] <;> first | rfl | assumption | (rw [get_put_eq] <;> rfl))
  have s2x15 : (P5.get (sb2)).bind AObj.cs = some sc2 := by rw [pq5.ext.get _ (by first | omega | (simp only [hNw, hPt]; omega))]; first | assumption | (rw [gn0]; rfl) | (rw [get_put_eq] <;> rfl) | (simp (disch := first | omega | (simp only [hNw, hPt]; omega)) only [gn0, gn1, gn2, gn3, gn4, gn5, gp0, gno, gpo] <;> first | rfl | assumption | (rw [get_put_eq] <;> rfl))
  have kt15 : (P5.get (M2.next)).bind AObj.cs = some (tE 2 2).c := by rw [pq5.ext.get _ (by first | omega | (simp only [hNw, hPt]; omega))]; first | assumption | (rw [gn0]; rfl) | (rw [get_put_eq] <;> rfl) | (simp (disch := first | omega | (simp only [hNw, hPt]; omega)) only [gn0, gn1, gn2, gn3, gn4, gn5, gp0, gno, gpo] <;> first | rfl | assumption | (rw [get_put_eq] <;> rfl))
  have kq15 : (P5.get (Y1.next + 1)).bind AObj.cs = some [I 14, I 10, I 2] := by rw [pq5.ext.get _ (by first | omega | (simp only [hNw, hPt]; omega))]; first | assumption | (rw [gn0]; rfl) | (rw [get_put_eq] <;> rfl) | (simp (disch := first | omega | (simp only [hNw, hPt]; omega)) only [gn0, gn1, gn2, gn3, gn4, gn5, gp0, gno, gpo] <;> first | rfl | assumption | (rw [get_put_eq] <;> rfl))
  have ko15 : P5.get (M2.next) = some (.cells (tE 2 2).c 86) := by rw [pq5.ext.get _ (by first | omega | (simp only [hNw, hPt]; omega))]; first | assumption | exact gn0 _ _ | (simp (disch := first | omega | (simp only [hNw, hPt]; omega)) only [gn0, gn1, gn2, gn3, gn4, gn5, gp0, gno, gpo] <;> first | rfl | assumption | exact gp0 _ _ _ | exact gn0 _ _)
  have exL415 : Ext L4 P5 := Ext.trans (by (try dsimp only); repeat (first | exact exL414 | exact Ext.refl _ | apply Ext.new | (refine Ext.put ?_ _ (by first | omega | (simp only [hNw, hPt]; omega))))) pq5.ext
  have exBk15 : Ext Bk P5 := Ext.trans (by (try dsimp only); repeat (first | exact exBk14 | exact Ext.refl _ | apply Ext.new | (refine Ext.put ?_ _ (by first | omega | (simp only [hNw, hPt]; omega))))) pq5.ext
  have exP415 : Ext P4 P5 := Ext.trans (by (try dsimp only); repeat (first | exact Ext.refl _ | exact Ext.refl _ | apply Ext.new | (refine Ext.put ?_ _ (by first | omega | (simp only [hNw, hPt]; omega))))) pq5.ext
  have pl5 : px5.plain = true := lpl pi5.len
  refine OkO.move rfl rfl ?_
  refine OkO.callV rfl rfl rfl rfl rfl (c21N (m + 73) px5 (.opn (L4.next + 1 + 1) 4) pE rB _ (pi5.ext (by (try dsimp only); repeat (first | exact Ext.refl _ | exact Ext.refl _ | apply Ext.new | (refine Ext.put ?_ _ (by first | omega | (simp only [hNw, hPt]; omega)))))) (lwB.ext (by (try dsimp only); repeat (first | exact exBk15 | exact Ext.refl _ | apply Ext.new | (refine Ext.put ?_ _ (by first | omega | (simp only [hNw, hPt]; omega)))))) (by decide) (by decide) (by decide) fE_B pp_B) ?_ -- "sackung/alarm.Levels"
  refine OkO.move rfl rfl ?_
  refine OkO.extract rfl rfl rfl ?_
  refine OkO.extract rfl rfl rfl ?_
  refine OkO.assign rfl rfl ?_
  refine OkO.assign rfl rfl ?_
  refine OkO.nil ?_
  refine Ok.seq ?_
  refine Ok.region ?_
  refine OkO.callE rfl rfl rfl rfl rfl (c51 (m + 79) _) ?_ -- "sackung/sackunglaw04.post"
  rintro _ P6 ⟨px6, rfl, pq6, pi6, pa6⟩
  have n16 := pq6.ext.next
  try simp only [hNw, hPt] at n16
  have gg16 : Grow W P6 := Grow.ret (by (try dsimp only); repeat (first | exact gg15 | apply Grow.new | (refine Grow.put ?_ _ (by first | omega | (simp only [hNw, hPt]; omega))))) pq6
  have s0x16 : (P6.get (sb0)).bind AObj.cs = some sc0 := by rw [pq6.ext.get _ (by first | omega | (simp only [hNw, hPt]; omega))]; first | assumption | (rw [gn0]; rfl) | (rw [get_put_eq] <;> rfl) | (simp (disch := first | omega | (simp only [hNw, hPt]; omega)) only [gn0, gn1, gn2, gn3, gn4, gn5, gp0, gno, gpo] <;> first | rfl | assumption | (rw [get_put_eq] <;> rfl))
  have s1x16 : (P6.get (sb1)).bind AObj.cs = some sc1 := by rw [pq6.ext.get _ (by first | omega | (simp only [hNw, hPt]; omega))]; first | assumption | (rw [gn0]; rfl) | (rw [get_put_eq] <;> rfl) | (simp (disch := first | omega | (simp only [hNw, hPt]; omega)) only [gn0, gn1, gn2, gn3, gn4, gn5, gp0, gno, gpo] <;> first | rfl | assumption | (rw [get_put_eq] <;> rfl))
  have s2x16 : (P6.get (sb2)).bind AObj.cs = some sc2 := by rw [pq6.ext.get _ (by first | omega | (simp only [hNw, hPt]; omega))]; first | assumption | (rw [gn0]; rfl) | (rw [get_put_eq] <;> rfl) | (simp (disch := first | omega | (simp only [hNw, hPt]; omega)) only [gn0, gn1, gn2, gn3, gn4, gn5, gp0, gno, gpo] <;> first | rfl | assumption | (rw [get_put_eq] <;> rfl))
  have kt16 : (P6.get (M2.next)).bind AObj.cs = some (tE 2 2).c := by rw [pq6.ext.get _ (by first | omega | (simp only [hNw, hPt]; omega))]; first | assumption | (rw [gn0]; rfl) | (rw [get_put_eq] <;> rfl) | (simp (disch := first | omega | (simp only [hNw, hPt]; omega)) only [gn0, gn1, gn2, gn3, gn4, gn5, gp0, gno, gpo] <;> first | rfl | assumption | (rw [get_put_eq] <;> rfl))
  have kq16 : (P6.get (Y1.next + 1)).bind AObj.cs = some [I 14, I 10, I 2] := by rw [pq6.ext.get _ (by first | omega | (simp only [hNw, hPt]; omega))]; first | assumption | (rw [gn0]; rfl) | (rw [get_put_eq] <;> rfl) | (simp (disch := first | omega | (simp only [hNw, hPt]; omega)) only [gn0, gn1, gn2, gn3, gn4, gn5, gp0, gno, gpo] <;> first | rfl | assumption | (rw [get_put_eq] <;> rfl))
  have ko16 : P6.get (M2.next) = some (.cells (tE 2 2).c 86) := by rw [pq6.ext.get _ (by first | omega | (simp only [hNw, hPt]; omega))]; first | assumption | exact gn0 _ _ | (simp (disch := first | omega | (simp only [hNw, hPt]; omega)) only [gn0, gn1, gn2, gn3, gn4, gn5, gp0, gno, gpo] <;> first | rfl | assumption | exact gp0 _ _ _ | exact gn0 _ _)
  have exL416 : Ext L4 P6 := Ext.trans (by (try dsimp only); repeat (first | exact exL415 | exact Ext.refl _ | apply Ext.new | (refine Ext.put ?_ _ (by first | omega | (simp only [hNw, hPt]; omega))))) pq6.ext
  have exBk16 : Ext Bk P6 := Ext.trans (by (try dsimp only); repeat (first | exact exBk15 | exact Ext.refl _ | apply Ext.new | (refine Ext.put ?_ _ (by first | omega | (simp only [hNw, hPt]; omega))))) pq6.ext
  have exP416 : Ext P4 P6 := Ext.trans (by (try dsimp only); repeat (first | exact exP415 | exact Ext.refl _ | apply Ext.new | (refine Ext.put ?_ _ (by first | omega | (simp only [hNw, hPt]; omega))))) pq6.ext
  have exP516 : Ext P5 P6 := Ext.trans (by (try dsimp only); repeat (first | exact Ext.refl _ | exact Ext.refl _ | apply Ext.new | (refine Ext.put ?_ _ (by first | omega | (simp only [hNw, hPt]; omega))))) pq6.ext
  have pl6 : px6.plain = true := lpl pi6.len
  refine OkO.callE rfl rfl rfl rfl rfl (c52 (m + 79) _) ?_ -- "sackung/sackunglaw04.lone"
  rintro _ L6 ⟨lb6, lv6, rfl, lq6, lg6, ll6, ln6, la6, li6⟩
  have n17 := lq6.ext.next
  try simp only [hNw, hPt] at n17
  have gg17 : Grow W L6 := Grow.ret (by (try dsimp only); repeat (first | exact gg16 | apply Grow.new | (refine Grow.put ?_ _ (by first | omega | (simp only [hNw, hPt]; omega))))) lq6
  have s0x17 : (L6.get (sb0)).bind AObj.cs = some sc0 := by rw [lq6.ext.get _ (by first | omega | (simp only [hNw, hPt]; omega))]; first | assumption | (rw [gn0]; rfl) | (rw [get_put_eq] <;> rfl) | (simp (disch := first | omega | (simp only [hNw, hPt]; omega)) only [gn0, gn1, gn2, gn3, gn4, gn5, gp0, gno, gpo] <;> first | rfl | assumption | (rw [get_put_eq] <;> rfl))
  have s1x17 : (L6.get (sb1)).bind AObj.cs = some sc1 := by rw [lq6.ext.get _ (by first | omega | (simp only [hNw, hPt]; omega))]; first | assumption | (rw [gn0]; rfl) | (rw [get_put_eq] <;> rfl) | (simp (disch := first | omega | (simp only [hNw, hPt]; omega)) only [gn0, gn1, gn2, gn3, gn4, gn5, gp0, gno, gpo] <;> first | rfl | assumption | (rw [get_put_eq] <;> rfl))
  have s2x17 : (L6.get (sb2)).bind AObj.cs = some sc2 := by rw [lq6.ext.get _ (by first | omega | (simp only [hNw, hPt]; omega))]; first | assumption | (rw [gn0]; rfl) | (rw [get_put_eq] <;> rfl) | (simp (disch := first | omega | (simp only [hNw, hPt]; omega)) only [gn0, gn1, gn2, gn3, gn4, gn5, gp0, gno, gpo] <;> first | rfl | assumption | (rw [get_put_eq] <;> rfl))
  have kt17 : (L6.get (M2.next)).bind AObj.cs = some (tE 2 2).c := by rw [lq6.ext.get _ (by first | omega | (simp only [hNw, hPt]; omega))]; first | assumption | (rw [gn0]; rfl) | (rw [get_put_eq] <;> rfl) | (simp (disch := first | omega | (simp only [hNw, hPt]; omega)) only [gn0, gn1, gn2, gn3, gn4, gn5, gp0, gno, gpo] <;> first | rfl | assumption | (rw [get_put_eq] <;> rfl))
  have kq17 : (L6.get (Y1.next + 1)).bind AObj.cs = some [I 14, I 10, I 2] := by rw [lq6.ext.get _ (by first | omega | (simp only [hNw, hPt]; omega))]; first | assumption | (rw [gn0]; rfl) | (rw [get_put_eq] <;> rfl) | (simp (disch := first | omega | (simp only [hNw, hPt]; omega)) only [gn0, gn1, gn2, gn3, gn4, gn5, gp0, gno, gpo] <;> first | rfl | assumption | (rw [get_put_eq] <;> rfl))
  have ko17 : L6.get (M2.next) = some (.cells (tE 2 2).c 86) := by rw [lq6.ext.get _ (by first | omega | (simp only [hNw, hPt]; omega))]; first | assumption | exact gn0 _ _ | (simp (disch := first | omega | (simp only [hNw, hPt]; omega)) only [gn0, gn1, gn2, gn3, gn4, gn5, gp0, gno, gpo] <;> first | rfl | assumption | exact gp0 _ _ _ | exact gn0 _ _)
  have exL417 : Ext L4 L6 := Ext.trans (by (try dsimp only); repeat (first | exact exL416 | exact Ext.refl _ | apply Ext.new | (refine Ext.put ?_ _ (by first | omega | (simp only [hNw, hPt]; omega))))) lq6.ext
  have exBk17 : Ext Bk L6 := Ext.trans (by (try dsimp only); repeat (first | exact exBk16 | exact Ext.refl _ | apply Ext.new | (refine Ext.put ?_ _ (by first | omega | (simp only [hNw, hPt]; omega))))) lq6.ext
  have exP417 : Ext P4 L6 := Ext.trans (by (try dsimp only); repeat (first | exact exP416 | exact Ext.refl _ | apply Ext.new | (refine Ext.put ?_ _ (by first | omega | (simp only [hNw, hPt]; omega))))) lq6.ext
  have exP517 : Ext P5 L6 := Ext.trans (by (try dsimp only); repeat (first | exact exP516 | exact Ext.refl _ | apply Ext.new | (refine Ext.put ?_ _ (by first | omega | (simp only [hNw, hPt]; omega))))) lq6.ext
  have exP617 : Ext P6 L6 := Ext.trans (by (try dsimp only); repeat (first | exact Ext.refl _ | exact Ext.refl _ | apply Ext.new | (refine Ext.put ?_ _ (by first | omega | (simp only [hNw, hPt]; omega))))) lq6.ext
  have lw6 : LstAt L6 (.slice lb6 0 3 3) rL := lst_of lg6 ll6 rfl ln6 li6
  refine OkO.callV rfl rfl rfl rfl rfl ((c23Y (m + 74) px6 (.slice lb6 0 3 3) pE rL _ (pi6.ext (by (try dsimp only); repeat (first | exact exP617 | exact Ext.refl _ | apply Ext.new | (refine Ext.put ?_ _ (by first | omega | (simp only [hNw, hPt]; omega)))))) (lw6.ext (by (try dsimp only); repeat (first | exact Ext.refl _ | exact Ext.refl _ | apply Ext.new | (refine Ext.put ?_ _ (by first | omega | (simp only [hNw, hPt]; omega)))))) (by decide) (by decide) (by decide) fE_L).trans (by rw [brk_L])) ?_ -- "sackung/alarm.Breaks"
  refine OkO.move rfl rfl ?_
  refine OkO.extract rfl rfl rfl ?_
  refine OkO.extract rfl rfl rfl ?_
  refine OkO.assign rfl rfl ?_
  refine OkO.assign rfl rfl ?_
  refine OkO.nil ?_
  refine Ok.seq ?_
  refine Ok.region ?_
  refine OkO.callE rfl rfl rfl rfl rfl (c51 (m + 79) _) ?_ -- "sackung/sackunglaw04.post"
  rintro _ P7 ⟨px7, rfl, pq7, pi7, pa7⟩
  have n18 := pq7.ext.next
  try simp only [hNw, hPt] at n18
  have gg18 : Grow W P7 := Grow.ret (by (try dsimp only); repeat (first | exact gg17 | apply Grow.new | (refine Grow.put ?_ _ (by first | omega | (simp only [hNw, hPt]; omega))))) pq7
  have s0x18 : (P7.get (sb0)).bind AObj.cs = some sc0 := by rw [pq7.ext.get _ (by first | omega | (simp only [hNw, hPt]; omega))]; first | assumption | (rw [gn0]; rfl) | (rw [get_put_eq] <;> rfl) | (simp (disch := first | omega | (simp only [hNw, hPt]; omega)) only [gn0, gn1, gn2, gn3, gn4, gn5, gp0, gno, gpo] <;> first | rfl | assumption | (rw [get_put_eq] <;> rfl))
  have s1x18 : (P7.get (sb1)).bind AObj.cs = some sc1 := by rw [pq7.ext.get _ (by first | omega | (simp only [hNw, hPt]; omega))]; first | assumption | (rw [gn0]; rfl) | (rw [get_put_eq] <;> rfl) | (simp (disch := first | omega | (simp only [hNw, hPt]; omega)) only [gn0, gn1, gn2, gn3, gn4, gn5, gp0, gno, gpo] <;> first | rfl | assumption | (rw [get_put_eq] <;> rfl))
  have s2x18 : (P7.get (sb2)).bind AObj.cs = some sc2 := by rw [pq7.ext.get _ (by first | omega | (simp only [hNw, hPt]; omega))]; first | assumption | (rw [gn0]; rfl) | (rw [get_put_eq] <;> rfl) | (simp (disch := first | omega | (simp only [hNw, hPt]; omega)) only [gn0, gn1, gn2, gn3, gn4, gn5, gp0, gno, gpo] <;> first | rfl | assumption | (rw [get_put_eq] <;> rfl))
  have kt18 : (P7.get (M2.next)).bind AObj.cs = some (tE 2 2).c := by rw [pq7.ext.get _ (by first | omega | (simp only [hNw, hPt]; omega))]; first | assumption | (rw [gn0]; rfl) | (rw [get_put_eq] <;> rfl) | (simp (disch := first | omega | (simp only [hNw, hPt]; omega)) only [gn0, gn1, gn2, gn3, gn4, gn5, gp0, gno, gpo] <;> first | rfl | assumption | (rw [get_put_eq] <;> rfl))
  have kq18 : (P7.get (Y1.next + 1)).bind AObj.cs = some [I 14, I 10, I 2] := by rw [pq7.ext.get _ (by first | omega | (simp only [hNw, hPt]; omega))]; first | assumption | (rw [gn0]; rfl) | (rw [get_put_eq] <;> rfl) | (simp (disch := first | omega | (simp only [hNw, hPt]; omega)) only [gn0, gn1, gn2, gn3, gn4, gn5, gp0, gno, gpo] <;> first | rfl | assumption | (rw [get_put_eq] <;> rfl))
  have ko18 : P7.get (M2.next) = some (.cells (tE 2 2).c 86) := by rw [pq7.ext.get _ (by first | omega | (simp only [hNw, hPt]; omega))]; first | assumption | exact gn0 _ _ | (simp (disch := first | omega | (simp only [hNw, hPt]; omega)) only [gn0, gn1, gn2, gn3, gn4, gn5, gp0, gno, gpo] <;> first | rfl | assumption | exact gp0 _ _ _ | exact gn0 _ _)
  have exL418 : Ext L4 P7 := Ext.trans (by (try dsimp only); repeat (first | exact exL417 | exact Ext.refl _ | apply Ext.new | (refine Ext.put ?_ _ (by first | omega | (simp only [hNw, hPt]; omega))))) pq7.ext
  have exBk18 : Ext Bk P7 := Ext.trans (by (try dsimp only); repeat (first | exact exBk17 | exact Ext.refl _ | apply Ext.new | (refine Ext.put ?_ _ (by first | omega | (simp only [hNw, hPt]; omega))))) pq7.ext
  have exP418 : Ext P4 P7 := Ext.trans (by (try dsimp only); repeat (first | exact exP417 | exact Ext.refl _ | apply Ext.new | (refine Ext.put ?_ _ (by first | omega | (simp only [hNw, hPt]; omega))))) pq7.ext
  have exP518 : Ext P5 P7 := Ext.trans (by (try dsimp only); repeat (first | exact exP517 | exact Ext.refl _ | apply Ext.new | (refine Ext.put ?_ _ (by first | omega | (simp only [hNw, hPt]; omega))))) pq7.ext
  have exP618 : Ext P6 P7 := Ext.trans (by (try dsimp only); repeat (first | exact exP617 | exact Ext.refl _ | apply Ext.new | (refine Ext.put ?_ _ (by first | omega | (simp only [hNw, hPt]; omega))))) pq7.ext
  have exL618 : Ext L6 P7 := Ext.trans (by (try dsimp only); repeat (first | exact Ext.refl _ | exact Ext.refl _ | apply Ext.new | (refine Ext.put ?_ _ (by first | omega | (simp only [hNw, hPt]; omega))))) pq7.ext
  have pl7 : px7.plain = true := lpl pi7.len
  refine OkO.callE rfl rfl rfl rfl rfl (c52 (m + 79) _) ?_ -- "sackung/sackunglaw04.lone"
  rintro _ L7 ⟨lb7, lv7, rfl, lq7, lg7, ll7, ln7, la7, li7⟩
  have n19 := lq7.ext.next
  try simp only [hNw, hPt] at n19
  have gg19 : Grow W L7 := Grow.ret (by (try dsimp only); repeat (first | exact gg18 | apply Grow.new | (refine Grow.put ?_ _ (by first | omega | (simp only [hNw, hPt]; omega))))) lq7
  have s0x19 : (L7.get (sb0)).bind AObj.cs = some sc0 := by rw [lq7.ext.get _ (by first | omega | (simp only [hNw, hPt]; omega))]; first | assumption | (rw [gn0]; rfl) | (rw [get_put_eq] <;> rfl) | (simp (disch := first | omega | (simp only [hNw, hPt]; omega)) only [gn0, gn1, gn2, gn3, gn4, gn5, gp0, gno, gpo] <;> first | rfl | assumption | (rw [get_put_eq] <;> rfl))
  have s1x19 : (L7.get (sb1)).bind AObj.cs = some sc1 := by rw [lq7.ext.get _ (by first | omega | (simp only [hNw, hPt]; omega))]; first | assumption | (rw [gn0]; rfl) | (rw [get_put_eq] <;> rfl) | (simp (disch := first | omega | (simp only [hNw, hPt]; omega)) only [gn0, gn1, gn2, gn3, gn4, gn5, gp0, gno, gpo] <;> first | rfl | assumption | (rw [get_put_eq] <;> rfl))
  have s2x19 : (L7.get (sb2)).bind AObj.cs = some sc2 := by rw [lq7.ext.get _ (by first | omega | (simp only [hNw, hPt]; omega))]; first | assumption | (rw [gn0]; rfl) | (rw [get_put_eq] <;> rfl) | (simp (disch := first | omega | (simp only [hNw, hPt]; omega)) only [gn0, gn1, gn2, gn3, gn4, gn5, gp0, gno, gpo] <;> first | rfl | assumption | (rw [get_put_eq] <;> rfl))
  have kt19 : (L7.get (M2.next)).bind AObj.cs = some (tE 2 2).c := by rw [lq7.ext.get _ (by first | omega | (simp only [hNw, hPt]; omega))]; first | assumption | (rw [gn0]; rfl) | (rw [get_put_eq] <;> rfl) | (simp (disch := first | omega | (simp only [hNw, hPt]; omega)) only [gn0, gn1, gn2, gn3, gn4, gn5, gp0, gno, gpo] <;> first | rfl | assumption | (rw [get_put_eq] <;> rfl))
  have kq19 : (L7.get (Y1.next + 1)).bind AObj.cs = some [I 14, I 10, I 2] := by rw [lq7.ext.get _ (by first | omega | (simp only [hNw, hPt]; omega))]; first | assumption | (rw [gn0]; rfl) | (rw [get_put_eq] <;> rfl) | (simp (disch := first | omega | (simp only [hNw, hPt]; omega)) only [gn0, gn1, gn2, gn3, gn4, gn5, gp0, gno, gpo] <;> first | rfl | assumption | (rw [get_put_eq] <;> rfl))
  have ko19 : L7.get (M2.next) = some (.cells (tE 2 2).c 86) := by rw [lq7.ext.get _ (by first | omega | (simp only [hNw, hPt]; omega))]; first | assumption | exact gn0 _ _ | (simp (disch := first | omega | (simp only [hNw, hPt]; omega)) only [gn0, gn1, gn2, gn3, gn4, gn5, gp0, gno, gpo] <;> first | rfl | assumption | exact gp0 _ _ _ | exact gn0 _ _)
  have exL419 : Ext L4 L7 := Ext.trans (by (try dsimp only); repeat (first | exact exL418 | exact Ext.refl _ | apply Ext.new | (refine Ext.put ?_ _ (by first | omega | (simp only [hNw, hPt]; omega))))) lq7.ext
  have exBk19 : Ext Bk L7 := Ext.trans (by (try dsimp only); repeat (first | exact exBk18 | exact Ext.refl _ | apply Ext.new | (refine Ext.put ?_ _ (by first | omega | (simp only [hNw, hPt]; omega))))) lq7.ext
  have exP419 : Ext P4 L7 := Ext.trans (by (try dsimp only); repeat (first | exact exP418 | exact Ext.refl _ | apply Ext.new | (refine Ext.put ?_ _ (by first | omega | (simp only [hNw, hPt]; omega))))) lq7.ext
  have exP519 : Ext P5 L7 := Ext.trans (by (try dsimp only); repeat (first | exact exP518 | exact Ext.refl _ | apply Ext.new | (refine Ext.put ?_ _ (by first | omega | (simp only [hNw, hPt]; omega))))) lq7.ext
  have exP619 : Ext P6 L7 := Ext.trans (by (try dsimp only); repeat (first | exact exP618 | exact Ext.refl _ | apply Ext.new | (refine Ext.put ?_ _ (by first | omega | (simp only [hNw, hPt]; omega))))) lq7.ext
  have exL619 : Ext L6 L7 := Ext.trans (by (try dsimp only); repeat (first | exact exL618 | exact Ext.refl _ | apply Ext.new | (refine Ext.put ?_ _ (by first | omega | (simp only [hNw, hPt]; omega))))) lq7.ext
  have exP719 : Ext P7 L7 := Ext.trans (by (try dsimp only); repeat (first | exact Ext.refl _ | exact Ext.refl _ | apply Ext.new | (refine Ext.put ?_ _ (by first | omega | (simp only [hNw, hPt]; omega))))) lq7.ext
  have lw7 : LstAt L7 (.slice lb7 0 3 3) rL := lst_of lg7 ll7 rfl ln7 li7
  refine OkO.callV rfl rfl rfl rfl rfl (c35R m px7 (.slice lb7 0 3 3) pE rL 3 10 _ (pi7.ext (by (try dsimp only); repeat (first | exact exP719 | exact Ext.refl _ | apply Ext.new | (refine Ext.put ?_ _ (by first | omega | (simp only [hNw, hPt]; omega)))))) (lw7.ext (by (try dsimp only); repeat (first | exact Ext.refl _ | exact Ext.refl _ | apply Ext.new | (refine Ext.put ?_ _ (by first | omega | (simp only [hNw, hPt]; omega)))))) (by decide) (by decide) (by decide) fE_L rfl) ?_ -- "sackung/alarm.Truth"
  refine OkO.move rfl rfl ?_
  refine OkO.extract rfl rfl rfl ?_
  refine OkO.extract rfl rfl rfl ?_
  refine OkO.extract rfl rfl rfl ?_
  refine OkO.assign rfl rfl ?_
  refine OkO.assign rfl rfl ?_
  refine OkO.assign rfl rfl ?_
  refine OkO.nil ?_
  refine Ok.seq ?_
  refine Ok.region ?_
  refine OkO.callE rfl rfl rfl rfl rfl (c51 (m + 79) _) ?_ -- "sackung/sackunglaw04.post"
  rintro _ P8 ⟨px8, rfl, pq8, pi8, pa8⟩
  have n20 := pq8.ext.next
  try simp only [hNw, hPt] at n20
  have gg20 : Grow W P8 := Grow.ret (by (try dsimp only); repeat (first | exact gg19 | apply Grow.new | (refine Grow.put ?_ _ (by first | omega | (simp only [hNw, hPt]; omega))))) pq8
  have s0x20 : (P8.get (sb0)).bind AObj.cs = some sc0 := by rw [pq8.ext.get _ (by first | omega | (simp only [hNw, hPt]; omega))]; first | assumption | (rw [gn0]; rfl) | (rw [get_put_eq] <;> rfl) | (simp (disch := first | omega | (simp only [hNw, hPt]; omega)) only [gn0, gn1, gn2, gn3, gn4, gn5, gp0, gno, gpo] <;> first | rfl | assumption | (rw [get_put_eq] <;> rfl))
  have s1x20 : (P8.get (sb1)).bind AObj.cs = some sc1 := by rw [pq8.ext.get _ (by first | omega | (simp only [hNw, hPt]; omega))]; first | assumption | (rw [gn0]; rfl) | (rw [get_put_eq] <;> rfl) | (simp (disch := first | omega | (simp only [hNw, hPt]; omega)) only [gn0, gn1, gn2, gn3, gn4, gn5, gp0, gno, gpo] <;> first | rfl | assumption | (rw [get_put_eq] <;> rfl))
  have s2x20 : (P8.get (sb2)).bind AObj.cs = some sc2 := by rw [pq8.ext.get _ (by first | omega | (simp only [hNw, hPt]; omega))]; first | assumption | (rw [gn0]; rfl) | (rw [get_put_eq] <;> rfl) | (simp (disch := first | omega | (simp only [hNw, hPt]; omega)) only [gn0, gn1, gn2, gn3, gn4, gn5, gp0, gno, gpo] <;> first | rfl | assumption | (rw [get_put_eq] <;> rfl))
  have kt20 : (P8.get (M2.next)).bind AObj.cs = some (tE 2 2).c := by rw [pq8.ext.get _ (by first | omega | (simp only [hNw, hPt]; omega))]; first | assumption | (rw [gn0]; rfl) | (rw [get_put_eq] <;> rfl) | (simp (disch := first | omega | (simp only [hNw, hPt]; omega)) only [gn0, gn1, gn2, gn3, gn4, gn5, gp0, gno, gpo] <;> first | rfl | assumption | (rw [get_put_eq] <;> rfl))
  have kq20 : (P8.get (Y1.next + 1)).bind AObj.cs = some [I 14, I 10, I 2] := by rw [pq8.ext.get _ (by first | omega | (simp only [hNw, hPt]; omega))]; first | assumption | (rw [gn0]; rfl) | (rw [get_put_eq] <;> rfl) | (simp (disch := first | omega | (simp only [hNw, hPt]; omega)) only [gn0, gn1, gn2, gn3, gn4, gn5, gp0, gno, gpo] <;> first | rfl | assumption | (rw [get_put_eq] <;> rfl))
  have ko20 : P8.get (M2.next) = some (.cells (tE 2 2).c 86) := by rw [pq8.ext.get _ (by first | omega | (simp only [hNw, hPt]; omega))]; first | assumption | exact gn0 _ _ | (simp (disch := first | omega | (simp only [hNw, hPt]; omega)) only [gn0, gn1, gn2, gn3, gn4, gn5, gp0, gno, gpo] <;> first | rfl | assumption | exact gp0 _ _ _ | exact gn0 _ _)
  have exL420 : Ext L4 P8 := Ext.trans (by (try dsimp only); repeat (first | exact exL419 | exact Ext.refl _ | apply Ext.new | (refine Ext.put ?_ _ (by first | omega | (simp only [hNw, hPt]; omega))))) pq8.ext
  have exBk20 : Ext Bk P8 := Ext.trans (by (try dsimp only); repeat (first | exact exBk19 | exact Ext.refl _ | apply Ext.new | (refine Ext.put ?_ _ (by first | omega | (simp only [hNw, hPt]; omega))))) pq8.ext
  have exP420 : Ext P4 P8 := Ext.trans (by (try dsimp only); repeat (first | exact exP419 | exact Ext.refl _ | apply Ext.new | (refine Ext.put ?_ _ (by first | omega | (simp only [hNw, hPt]; omega))))) pq8.ext
  have exP520 : Ext P5 P8 := Ext.trans (by (try dsimp only); repeat (first | exact exP519 | exact Ext.refl _ | apply Ext.new | (refine Ext.put ?_ _ (by first | omega | (simp only [hNw, hPt]; omega))))) pq8.ext
  have exP620 : Ext P6 P8 := Ext.trans (by (try dsimp only); repeat (first | exact exP619 | exact Ext.refl _ | apply Ext.new | (refine Ext.put ?_ _ (by first | omega | (simp only [hNw, hPt]; omega))))) pq8.ext
  have exL620 : Ext L6 P8 := Ext.trans (by (try dsimp only); repeat (first | exact exL619 | exact Ext.refl _ | apply Ext.new | (refine Ext.put ?_ _ (by first | omega | (simp only [hNw, hPt]; omega))))) pq8.ext
  have exP720 : Ext P7 P8 := Ext.trans (by (try dsimp only); repeat (first | exact exP719 | exact Ext.refl _ | apply Ext.new | (refine Ext.put ?_ _ (by first | omega | (simp only [hNw, hPt]; omega))))) pq8.ext
  have exL720 : Ext L7 P8 := Ext.trans (by (try dsimp only); repeat (first | exact Ext.refl _ | exact Ext.refl _ | apply Ext.new | (refine Ext.put ?_ _ (by first | omega | (simp only [hNw, hPt]; omega))))) pq8.ext
  have pl8 : px8.plain = true := lpl pi8.len
  refine OkO.callE rfl rfl rfl rfl rfl (c52 (m + 79) _) ?_ -- "sackung/sackunglaw04.lone"
  rintro _ L8 ⟨lb8, lv8, rfl, lq8, lg8, ll8, ln8, la8, li8⟩
  have n21 := lq8.ext.next
  try simp only [hNw, hPt] at n21
  have gg21 : Grow W L8 := Grow.ret (by (try dsimp only); repeat (first | exact gg20 | apply Grow.new | (refine Grow.put ?_ _ (by first | omega | (simp only [hNw, hPt]; omega))))) lq8
  have s0x21 : (L8.get (sb0)).bind AObj.cs = some sc0 := by rw [lq8.ext.get _ (by first | omega | (simp only [hNw, hPt]; omega))]; first | assumption | (rw [gn0]; rfl) | (rw [get_put_eq] <;> rfl) | (simp (disch := first | omega | (simp only [hNw, hPt]; omega)) only [gn0, gn1, gn2, gn3, gn4, gn5, gp0, gno, gpo] <;> first | rfl | assumption | (rw [get_put_eq] <;> rfl))
  have s1x21 : (L8.get (sb1)).bind AObj.cs = some sc1 := by rw [lq8.ext.get _ (by first | omega | (simp only [hNw, hPt]; omega))]; first | assumption | (rw [gn0]; rfl) | (rw [get_put_eq] <;> rfl) | (simp (disch := first | omega | (simp only [hNw, hPt]; omega)) only [gn0, gn1, gn2, gn3, gn4, gn5, gp0, gno, gpo] <;> first | rfl | assumption | (rw [get_put_eq] <;> rfl))
  have s2x21 : (L8.get (sb2)).bind AObj.cs = some sc2 := by rw [lq8.ext.get _ (by first | omega | (simp only [hNw, hPt]; omega))]; first | assumption | (rw [gn0]; rfl) | (rw [get_put_eq] <;> rfl) | (simp (disch := first | omega | (simp only [hNw, hPt]; omega)) only [gn0, gn1, gn2, gn3, gn4, gn5, gp0, gno, gpo] <;> first | rfl | assumption | (rw [get_put_eq] <;> rfl))
  have kt21 : (L8.get (M2.next)).bind AObj.cs = some (tE 2 2).c := by rw [lq8.ext.get _ (by first | omega | (simp only [hNw, hPt]; omega))]; first | assumption | (rw [gn0]; rfl) | (rw [get_put_eq] <;> rfl) | (simp (disch := first | omega | (simp only [hNw, hPt]; omega)) only [gn0, gn1, gn2, gn3, gn4, gn5, gp0, gno, gpo] <;> first | rfl | assumption | (rw [get_put_eq] <;> rfl))
  have kq21 : (L8.get (Y1.next + 1)).bind AObj.cs = some [I 14, I 10, I 2] := by rw [lq8.ext.get _ (by first | omega | (simp only [hNw, hPt]; omega))]; first | assumption | (rw [gn0]; rfl) | (rw [get_put_eq] <;> rfl) | (simp (disch := first | omega | (simp only [hNw, hPt]; omega)) only [gn0, gn1, gn2, gn3, gn4, gn5, gp0, gno, gpo] <;> first | rfl | assumption | (rw [get_put_eq] <;> rfl))
  have ko21 : L8.get (M2.next) = some (.cells (tE 2 2).c 86) := by rw [lq8.ext.get _ (by first | omega | (simp only [hNw, hPt]; omega))]; first | assumption | exact gn0 _ _ | (simp (disch := first | omega | (simp only [hNw, hPt]; omega)) only [gn0, gn1, gn2, gn3, gn4, gn5, gp0, gno, gpo] <;> first | rfl | assumption | exact gp0 _ _ _ | exact gn0 _ _)
  have exL421 : Ext L4 L8 := Ext.trans (by (try dsimp only); repeat (first | exact exL420 | exact Ext.refl _ | apply Ext.new | (refine Ext.put ?_ _ (by first | omega | (simp only [hNw, hPt]; omega))))) lq8.ext
  have exBk21 : Ext Bk L8 := Ext.trans (by (try dsimp only); repeat (first | exact exBk20 | exact Ext.refl _ | apply Ext.new | (refine Ext.put ?_ _ (by first | omega | (simp only [hNw, hPt]; omega))))) lq8.ext
  have exP421 : Ext P4 L8 := Ext.trans (by (try dsimp only); repeat (first | exact exP420 | exact Ext.refl _ | apply Ext.new | (refine Ext.put ?_ _ (by first | omega | (simp only [hNw, hPt]; omega))))) lq8.ext
  have exP521 : Ext P5 L8 := Ext.trans (by (try dsimp only); repeat (first | exact exP520 | exact Ext.refl _ | apply Ext.new | (refine Ext.put ?_ _ (by first | omega | (simp only [hNw, hPt]; omega))))) lq8.ext
  have exP621 : Ext P6 L8 := Ext.trans (by (try dsimp only); repeat (first | exact exP620 | exact Ext.refl _ | apply Ext.new | (refine Ext.put ?_ _ (by first | omega | (simp only [hNw, hPt]; omega))))) lq8.ext
  have exL621 : Ext L6 L8 := Ext.trans (by (try dsimp only); repeat (first | exact exL620 | exact Ext.refl _ | apply Ext.new | (refine Ext.put ?_ _ (by first | omega | (simp only [hNw, hPt]; omega))))) lq8.ext
  have exP721 : Ext P7 L8 := Ext.trans (by (try dsimp only); repeat (first | exact exP720 | exact Ext.refl _ | apply Ext.new | (refine Ext.put ?_ _ (by first | omega | (simp only [hNw, hPt]; omega))))) lq8.ext
  have exL721 : Ext L7 L8 := Ext.trans (by (try dsimp only); repeat (first | exact exL720 | exact Ext.refl _ | apply Ext.new | (refine Ext.put ?_ _ (by first | omega | (simp only [hNw, hPt]; omega))))) lq8.ext
  have exP821 : Ext P8 L8 := Ext.trans (by (try dsimp only); repeat (first | exact Ext.refl _ | exact Ext.refl _ | apply Ext.new | (refine Ext.put ?_ _ (by first | omega | (simp only [hNw, hPt]; omega))))) lq8.ext
  have lw8 : LstAt L8 (.slice lb8 0 3 3) rL := lst_of lg8 ll8 rfl ln8 li8
  refine OkO.callE rfl rfl rfl rfl rfl (c35O m px8 (.slice lb8 0 3 3) pE rL 2 30 _ (pi8.ext (by (try dsimp only); repeat (first | exact exP821 | exact Ext.refl _ | apply Ext.new | (refine Ext.put ?_ _ (by first | omega | (simp only [hNw, hPt]; omega)))))) (lw8.ext (by (try dsimp only); repeat (first | exact Ext.refl _ | exact Ext.refl _ | apply Ext.new | (refine Ext.put ?_ _ (by first | omega | (simp only [hNw, hPt]; omega)))))) (by decide) (by decide) (by decide) fE_L (by decide) hit_no) ?_ -- "sackung/alarm.Truth"
  rintro _ Q8 ⟨e8, rfl, qQ8, he8⟩
  have n22 := qQ8.ext.next
  try simp only [hNw, hPt] at n22
  have gg22 : Grow W Q8 := Grow.ret (by (try dsimp only); repeat (first | exact gg21 | apply Grow.new | (refine Grow.put ?_ _ (by first | omega | (simp only [hNw, hPt]; omega))))) qQ8
  have s0x22 : (Q8.get (sb0)).bind AObj.cs = some sc0 := by rw [qQ8.ext.get _ (by first | omega | (simp only [hNw, hPt]; omega))]; first | assumption | (rw [gn0]; rfl) | (rw [get_put_eq] <;> rfl) | (simp (disch := first | omega | (simp only [hNw, hPt]; omega)) only [gn0, gn1, gn2, gn3, gn4, gn5, gp0, gno, gpo] <;> first | rfl | assumption | (rw [get_put_eq] <;> rfl))
  have s1x22 : (Q8.get (sb1)).bind AObj.cs = some sc1 := by rw [qQ8.ext.get _ (by first | omega | (simp only [hNw, hPt]; omega))]; first | assumption | (rw [gn0]; rfl) | (rw [get_put_eq] <;> rfl) | (simp (disch := first | omega | (simp only [hNw, hPt]; omega)) only [gn0, gn1, gn2, gn3, gn4, gn5, gp0, gno, gpo] <;> first | rfl | assumption | (rw [get_put_eq] <;> rfl))
  have s2x22 : (Q8.get (sb2)).bind AObj.cs = some sc2 := by rw [qQ8.ext.get _ (by first | omega | (simp only [hNw, hPt]; omega))]; first | assumption | (rw [gn0]; rfl) | (rw [get_put_eq] <;> rfl) | (simp (disch := first | omega | (simp only [hNw, hPt]; omega)) only [gn0, gn1, gn2, gn3, gn4, gn5, gp0, gno, gpo] <;> first | rfl | assumption | (rw [get_put_eq] <;> rfl))
  have kt22 : (Q8.get (M2.next)).bind AObj.cs = some (tE 2 2).c := by rw [qQ8.ext.get _ (by first | omega | (simp only [hNw, hPt]; omega))]; first | assumption | (rw [gn0]; rfl) | (rw [get_put_eq] <;> rfl) | (simp (disch := first | omega | (simp only [hNw, hPt]; omega)) only [gn0, gn1, gn2, gn3, gn4, gn5, gp0, gno, gpo] <;> first | rfl | assumption | (rw [get_put_eq] <;> rfl))
  have kq22 : (Q8.get (Y1.next + 1)).bind AObj.cs = some [I 14, I 10, I 2] := by rw [qQ8.ext.get _ (by first | omega | (simp only [hNw, hPt]; omega))]; first | assumption | (rw [gn0]; rfl) | (rw [get_put_eq] <;> rfl) | (simp (disch := first | omega | (simp only [hNw, hPt]; omega)) only [gn0, gn1, gn2, gn3, gn4, gn5, gp0, gno, gpo] <;> first | rfl | assumption | (rw [get_put_eq] <;> rfl))
  have ko22 : Q8.get (M2.next) = some (.cells (tE 2 2).c 86) := by rw [qQ8.ext.get _ (by first | omega | (simp only [hNw, hPt]; omega))]; first | assumption | exact gn0 _ _ | (simp (disch := first | omega | (simp only [hNw, hPt]; omega)) only [gn0, gn1, gn2, gn3, gn4, gn5, gp0, gno, gpo] <;> first | rfl | assumption | exact gp0 _ _ _ | exact gn0 _ _)
  have exL422 : Ext L4 Q8 := Ext.trans (by (try dsimp only); repeat (first | exact exL421 | exact Ext.refl _ | apply Ext.new | (refine Ext.put ?_ _ (by first | omega | (simp only [hNw, hPt]; omega))))) qQ8.ext
  have exBk22 : Ext Bk Q8 := Ext.trans (by (try dsimp only); repeat (first | exact exBk21 | exact Ext.refl _ | apply Ext.new | (refine Ext.put ?_ _ (by first | omega | (simp only [hNw, hPt]; omega))))) qQ8.ext
  have exP422 : Ext P4 Q8 := Ext.trans (by (try dsimp only); repeat (first | exact exP421 | exact Ext.refl _ | apply Ext.new | (refine Ext.put ?_ _ (by first | omega | (simp only [hNw, hPt]; omega))))) qQ8.ext
  have exP522 : Ext P5 Q8 := Ext.trans (by (try dsimp only); repeat (first | exact exP521 | exact Ext.refl _ | apply Ext.new | (refine Ext.put ?_ _ (by first | omega | (simp only [hNw, hPt]; omega))))) qQ8.ext
  have exP622 : Ext P6 Q8 := Ext.trans (by (try dsimp only); repeat (first | exact exP621 | exact Ext.refl _ | apply Ext.new | (refine Ext.put ?_ _ (by first | omega | (simp only [hNw, hPt]; omega))))) qQ8.ext
  have exL622 : Ext L6 Q8 := Ext.trans (by (try dsimp only); repeat (first | exact exL621 | exact Ext.refl _ | apply Ext.new | (refine Ext.put ?_ _ (by first | omega | (simp only [hNw, hPt]; omega))))) qQ8.ext
  have exP722 : Ext P7 Q8 := Ext.trans (by (try dsimp only); repeat (first | exact exP721 | exact Ext.refl _ | apply Ext.new | (refine Ext.put ?_ _ (by first | omega | (simp only [hNw, hPt]; omega))))) qQ8.ext
  have exL722 : Ext L7 Q8 := Ext.trans (by (try dsimp only); repeat (first | exact exL721 | exact Ext.refl _ | apply Ext.new | (refine Ext.put ?_ _ (by first | omega | (simp only [hNw, hPt]; omega))))) qQ8.ext
  have exP822 : Ext P8 Q8 := Ext.trans (by (try dsimp only); repeat (first | exact exP821 | exact Ext.refl _ | apply Ext.new | (refine Ext.put ?_ _ (by first | omega | (simp only [hNw, hPt]; omega))))) qQ8.ext
  have exL822 : Ext L8 Q8 := Ext.trans (by (try dsimp only); repeat (first | exact Ext.refl _ | exact Ext.refl _ | apply Ext.new | (refine Ext.put ?_ _ (by first | omega | (simp only [hNw, hPt]; omega))))) qQ8.ext
  have e8z : e8 = 7 := he8.resolve_right (fun h => h.2 (by decide))
  subst e8z
  refine OkO.move rfl rfl ?_
  refine OkO.extract rfl rfl rfl ?_
  refine OkO.extract rfl rfl rfl ?_
  refine OkO.extract rfl rfl rfl ?_
  refine OkO.assign rfl rfl ?_
  refine OkO.assign rfl rfl ?_
  refine OkO.assign rfl rfl ?_
  refine OkO.nil ?_
  refine Ok.seq ?_
  refine Ok.region ?_
  refine OkO.callE rfl rfl rfl rfl rfl (c51 (m + 79) _) ?_ -- "sackung/sackunglaw04.post"
  rintro _ P9 ⟨px9, rfl, pq9, pi9, pa9⟩
  have n23 := pq9.ext.next
  try simp only [hNw, hPt] at n23
  have gg23 : Grow W P9 := Grow.ret (by (try dsimp only); repeat (first | exact gg22 | apply Grow.new | (refine Grow.put ?_ _ (by first | omega | (simp only [hNw, hPt]; omega))))) pq9
  have s0x23 : (P9.get (sb0)).bind AObj.cs = some sc0 := by rw [pq9.ext.get _ (by first | omega | (simp only [hNw, hPt]; omega))]; first | assumption | (rw [gn0]; rfl) | (rw [get_put_eq] <;> rfl) | (simp (disch := first | omega | (simp only [hNw, hPt]; omega)) only [gn0, gn1, gn2, gn3, gn4, gn5, gp0, gno, gpo] <;> first | rfl | assumption | (rw [get_put_eq] <;> rfl))
  have s1x23 : (P9.get (sb1)).bind AObj.cs = some sc1 := by rw [pq9.ext.get _ (by first | omega | (simp only [hNw, hPt]; omega))]; first | assumption | (rw [gn0]; rfl) | (rw [get_put_eq] <;> rfl) | (simp (disch := first | omega | (simp only [hNw, hPt]; omega)) only [gn0, gn1, gn2, gn3, gn4, gn5, gp0, gno, gpo] <;> first | rfl | assumption | (rw [get_put_eq] <;> rfl))
  have s2x23 : (P9.get (sb2)).bind AObj.cs = some sc2 := by rw [pq9.ext.get _ (by first | omega | (simp only [hNw, hPt]; omega))]; first | assumption | (rw [gn0]; rfl) | (rw [get_put_eq] <;> rfl) | (simp (disch := first | omega | (simp only [hNw, hPt]; omega)) only [gn0, gn1, gn2, gn3, gn4, gn5, gp0, gno, gpo] <;> first | rfl | assumption | (rw [get_put_eq] <;> rfl))
  have kt23 : (P9.get (M2.next)).bind AObj.cs = some (tE 2 2).c := by rw [pq9.ext.get _ (by first | omega | (simp only [hNw, hPt]; omega))]; first | assumption | (rw [gn0]; rfl) | (rw [get_put_eq] <;> rfl) | (simp (disch := first | omega | (simp only [hNw, hPt]; omega)) only [gn0, gn1, gn2, gn3, gn4, gn5, gp0, gno, gpo] <;> first | rfl | assumption | (rw [get_put_eq] <;> rfl))
  have kq23 : (P9.get (Y1.next + 1)).bind AObj.cs = some [I 14, I 10, I 2] := by rw [pq9.ext.get _ (by first | omega | (simp only [hNw, hPt]; omega))]; first | assumption | (rw [gn0]; rfl) | (rw [get_put_eq] <;> rfl) | (simp (disch := first | omega | (simp only [hNw, hPt]; omega)) only [gn0, gn1, gn2, gn3, gn4, gn5, gp0, gno, gpo] <;> first | rfl | assumption | (rw [get_put_eq] <;> rfl))
  have ko23 : P9.get (M2.next) = some (.cells (tE 2 2).c 86) := by rw [pq9.ext.get _ (by first | omega | (simp only [hNw, hPt]; omega))]; first | assumption | exact gn0 _ _ | (simp (disch := first | omega | (simp only [hNw, hPt]; omega)) only [gn0, gn1, gn2, gn3, gn4, gn5, gp0, gno, gpo] <;> first | rfl | assumption | exact gp0 _ _ _ | exact gn0 _ _)
  have exL423 : Ext L4 P9 := Ext.trans (by (try dsimp only); repeat (first | exact exL422 | exact Ext.refl _ | apply Ext.new | (refine Ext.put ?_ _ (by first | omega | (simp only [hNw, hPt]; omega))))) pq9.ext
  have exBk23 : Ext Bk P9 := Ext.trans (by (try dsimp only); repeat (first | exact exBk22 | exact Ext.refl _ | apply Ext.new | (refine Ext.put ?_ _ (by first | omega | (simp only [hNw, hPt]; omega))))) pq9.ext
  have exP423 : Ext P4 P9 := Ext.trans (by (try dsimp only); repeat (first | exact exP422 | exact Ext.refl _ | apply Ext.new | (refine Ext.put ?_ _ (by first | omega | (simp only [hNw, hPt]; omega))))) pq9.ext
  have exP523 : Ext P5 P9 := Ext.trans (by (try dsimp only); repeat (first | exact exP522 | exact Ext.refl _ | apply Ext.new | (refine Ext.put ?_ _ (by first | omega | (simp only [hNw, hPt]; omega))))) pq9.ext
  have exP623 : Ext P6 P9 := Ext.trans (by (try dsimp only); repeat (first | exact exP622 | exact Ext.refl _ | apply Ext.new | (refine Ext.put ?_ _ (by first | omega | (simp only [hNw, hPt]; omega))))) pq9.ext
  have exL623 : Ext L6 P9 := Ext.trans (by (try dsimp only); repeat (first | exact exL622 | exact Ext.refl _ | apply Ext.new | (refine Ext.put ?_ _ (by first | omega | (simp only [hNw, hPt]; omega))))) pq9.ext
  have exP723 : Ext P7 P9 := Ext.trans (by (try dsimp only); repeat (first | exact exP722 | exact Ext.refl _ | apply Ext.new | (refine Ext.put ?_ _ (by first | omega | (simp only [hNw, hPt]; omega))))) pq9.ext
  have exL723 : Ext L7 P9 := Ext.trans (by (try dsimp only); repeat (first | exact exL722 | exact Ext.refl _ | apply Ext.new | (refine Ext.put ?_ _ (by first | omega | (simp only [hNw, hPt]; omega))))) pq9.ext
  have exP823 : Ext P8 P9 := Ext.trans (by (try dsimp only); repeat (first | exact exP822 | exact Ext.refl _ | apply Ext.new | (refine Ext.put ?_ _ (by first | omega | (simp only [hNw, hPt]; omega))))) pq9.ext
  have exL823 : Ext L8 P9 := Ext.trans (by (try dsimp only); repeat (first | exact exL822 | exact Ext.refl _ | apply Ext.new | (refine Ext.put ?_ _ (by first | omega | (simp only [hNw, hPt]; omega))))) pq9.ext
  have exQ823 : Ext Q8 P9 := Ext.trans (by (try dsimp only); repeat (first | exact Ext.refl _ | exact Ext.refl _ | apply Ext.new | (refine Ext.put ?_ _ (by first | omega | (simp only [hNw, hPt]; omega))))) pq9.ext
  have pl9 : px9.plain = true := lpl pi9.len
  refine OkO.buildSlice (el := 3) (sz := 1) (z := [.int .i64 0]) rfl (by kernel_rfl) (by decide) rfl rfl ?_
  refine OkO.buildSlice (el := 22) (sz := 1) (z := [.nils]) rfl (by kernel_rfl) (by decide) rfl rfl ?_
  refine OkO.callV rfl rfl rfl rfl rfl ((c21F (m + 73) px9 (.slice (P9.next + 1) 0 1 1) pE [[1, 2]] _ (pi9.ext (by (try dsimp only); repeat (first | exact Ext.refl _ | exact Ext.refl _ | apply Ext.new | (refine Ext.put ?_ _ (by first | omega | (simp only [hNw, hPt]; omega)))))) (lst_of (vs := [.slice P9.next 0 2 2]) (by simp (disch := first | omega | (simp only [hNw, hPt]; omega)) only [gn0, gn1, gn2, gn3, gn4, gn5, gp0, gno, gpo] <;> rfl) (by simp) rfl rfl (fun i x r h1_ h2_ => by (match i, h1_, h2_ with | 0, h1_, h2_ => cases h1_; cases h2_; exact ints_of (us := [1, 2]) (by simp (disch := first | omega | (simp only [hNw, hPt]; omega)) only [gn0, gn1, gn2, gn3, gn4, gn5, gp0, gno, gpo] <;> rfl) (by simp; try omega) rfl | k + 1, h1_, h2_ => cases h1_))) (by decide) (by decide) (by decide) (by rw [fE_2]; decide)).trans (by rw [fE_2])) ?_ -- "sackung/alarm.Levels"
  refine OkO.move rfl rfl ?_
  refine OkO.extract rfl rfl rfl ?_
  refine OkO.extract rfl rfl rfl ?_
  refine OkO.assign rfl rfl ?_
  refine OkO.assign rfl rfl ?_
  refine OkO.nil ?_
  refine Ok.seq ?_
  refine Ok.drawn [(1, true, []), (0, false, []), (2, false, []), (3, true, []), (4, true, []), (5, true, []), (6, true, []), (7, true, [])] (by kernel_rfl) ?_
  refine OkP.step ?_
  refine OkO.makeSlice (el := 22) (sz := 1) (z := [.nils]) (n := 61) (by_ := 24) rfl (by kernel_rfl) (by kernel_rfl) (by omega) rfl rfl (by omega) ?_
  refine OkO.nil ⟨rfl, ?_⟩
  refine OkP.step ?_
  refine OkO.callE rfl rfl rfl rfl rfl (c51 (m + 79) _) ?_ -- "sackung/sackunglaw04.post"
  rintro _ P10 ⟨px10, rfl, pq10, pi10, pa10⟩
  have n24 := pq10.ext.next
  try simp only [hNw, hPt] at n24
  have gg24 : Grow W P10 := Grow.ret (by (try dsimp only); repeat (first | exact gg23 | apply Grow.new | (refine Grow.put ?_ _ (by first | omega | (simp only [hNw, hPt]; omega))))) pq10
  have s0x24 : (P10.get (sb0)).bind AObj.cs = some sc0 := by rw [pq10.ext.get _ (by first | omega | (simp only [hNw, hPt]; omega))]; first | assumption | (rw [gn0]; rfl) | (rw [get_put_eq] <;> rfl) | (simp (disch := first | omega | (simp only [hNw, hPt]; omega)) only [gn0, gn1, gn2, gn3, gn4, gn5, gp0, gno, gpo] <;> first | rfl | assumption | (rw [get_put_eq] <;> rfl))
  have s1x24 : (P10.get (sb1)).bind AObj.cs = some sc1 := by rw [pq10.ext.get _ (by first | omega | (simp only [hNw, hPt]; omega))]; first | assumption | (rw [gn0]; rfl) | (rw [get_put_eq] <;> rfl) | (simp (disch := first | omega | (simp only [hNw, hPt]; omega)) only [gn0, gn1, gn2, gn3, gn4, gn5, gp0, gno, gpo] <;> first | rfl | assumption | (rw [get_put_eq] <;> rfl))
  have s2x24 : (P10.get (sb2)).bind AObj.cs = some sc2 := by rw [pq10.ext.get _ (by first | omega | (simp only [hNw, hPt]; omega))]; first | assumption | (rw [gn0]; rfl) | (rw [get_put_eq] <;> rfl) | (simp (disch := first | omega | (simp only [hNw, hPt]; omega)) only [gn0, gn1, gn2, gn3, gn4, gn5, gp0, gno, gpo] <;> first | rfl | assumption | (rw [get_put_eq] <;> rfl))
  have kt24 : (P10.get (M2.next)).bind AObj.cs = some (tE 2 2).c := by rw [pq10.ext.get _ (by first | omega | (simp only [hNw, hPt]; omega))]; first | assumption | (rw [gn0]; rfl) | (rw [get_put_eq] <;> rfl) | (simp (disch := first | omega | (simp only [hNw, hPt]; omega)) only [gn0, gn1, gn2, gn3, gn4, gn5, gp0, gno, gpo] <;> first | rfl | assumption | (rw [get_put_eq] <;> rfl))
  have kq24 : (P10.get (Y1.next + 1)).bind AObj.cs = some [I 14, I 10, I 2] := by rw [pq10.ext.get _ (by first | omega | (simp only [hNw, hPt]; omega))]; first | assumption | (rw [gn0]; rfl) | (rw [get_put_eq] <;> rfl) | (simp (disch := first | omega | (simp only [hNw, hPt]; omega)) only [gn0, gn1, gn2, gn3, gn4, gn5, gp0, gno, gpo] <;> first | rfl | assumption | (rw [get_put_eq] <;> rfl))
  have ko24 : P10.get (M2.next) = some (.cells (tE 2 2).c 86) := by rw [pq10.ext.get _ (by first | omega | (simp only [hNw, hPt]; omega))]; first | assumption | exact gn0 _ _ | (simp (disch := first | omega | (simp only [hNw, hPt]; omega)) only [gn0, gn1, gn2, gn3, gn4, gn5, gp0, gno, gpo] <;> first | rfl | assumption | exact gp0 _ _ _ | exact gn0 _ _)
  have exL424 : Ext L4 P10 := Ext.trans (by (try dsimp only); repeat (first | exact exL423 | exact Ext.refl _ | apply Ext.new | (refine Ext.put ?_ _ (by first | omega | (simp only [hNw, hPt]; omega))))) pq10.ext
  have exBk24 : Ext Bk P10 := Ext.trans (by (try dsimp only); repeat (first | exact exBk23 | exact Ext.refl _ | apply Ext.new | (refine Ext.put ?_ _ (by first | omega | (simp only [hNw, hPt]; omega))))) pq10.ext
  have exP424 : Ext P4 P10 := Ext.trans (by (try dsimp only); repeat (first | exact exP423 | exact Ext.refl _ | apply Ext.new | (refine Ext.put ?_ _ (by first | omega | (simp only [hNw, hPt]; omega))))) pq10.ext
  have exP524 : Ext P5 P10 := Ext.trans (by (try dsimp only); repeat (first | exact exP523 | exact Ext.refl _ | apply Ext.new | (refine Ext.put ?_ _ (by first | omega | (simp only [hNw, hPt]; omega))))) pq10.ext
  have exP624 : Ext P6 P10 := Ext.trans (by (try dsimp only); repeat (first | exact exP623 | exact Ext.refl _ | apply Ext.new | (refine Ext.put ?_ _ (by first | omega | (simp only [hNw, hPt]; omega))))) pq10.ext
  have exL624 : Ext L6 P10 := Ext.trans (by (try dsimp only); repeat (first | exact exL623 | exact Ext.refl _ | apply Ext.new | (refine Ext.put ?_ _ (by first | omega | (simp only [hNw, hPt]; omega))))) pq10.ext
  have exP724 : Ext P7 P10 := Ext.trans (by (try dsimp only); repeat (first | exact exP723 | exact Ext.refl _ | apply Ext.new | (refine Ext.put ?_ _ (by first | omega | (simp only [hNw, hPt]; omega))))) pq10.ext
  have exL724 : Ext L7 P10 := Ext.trans (by (try dsimp only); repeat (first | exact exL723 | exact Ext.refl _ | apply Ext.new | (refine Ext.put ?_ _ (by first | omega | (simp only [hNw, hPt]; omega))))) pq10.ext
  have exP824 : Ext P8 P10 := Ext.trans (by (try dsimp only); repeat (first | exact exP823 | exact Ext.refl _ | apply Ext.new | (refine Ext.put ?_ _ (by first | omega | (simp only [hNw, hPt]; omega))))) pq10.ext
  have exL824 : Ext L8 P10 := Ext.trans (by (try dsimp only); repeat (first | exact exL823 | exact Ext.refl _ | apply Ext.new | (refine Ext.put ?_ _ (by first | omega | (simp only [hNw, hPt]; omega))))) pq10.ext
  have exQ824 : Ext Q8 P10 := Ext.trans (by (try dsimp only); repeat (first | exact exQ823 | exact Ext.refl _ | apply Ext.new | (refine Ext.put ?_ _ (by first | omega | (simp only [hNw, hPt]; omega))))) pq10.ext
  have exP924 : Ext P9 P10 := Ext.trans (by (try dsimp only); repeat (first | exact Ext.refl _ | exact Ext.refl _ | apply Ext.new | (refine Ext.put ?_ _ (by first | omega | (simp only [hNw, hPt]; omega))))) pq10.ext
  have pl10 : px10.plain = true := lpl pi10.len
  have lw10 := LstAt.ext (lst_nils 61) pq10.ext
  refine OkO.nil ⟨rfl, ?_⟩
  refine OkP.step ?_
  refine OkO.callV rfl rfl rfl rfl rfl ((c21F (m + 73) px10 _ pE (List.replicate 61 []) _ (pi10.ext (by (try dsimp only); repeat (first | exact Ext.refl _ | exact Ext.refl _ | apply Ext.new | (refine Ext.put ?_ _ (by first | omega | (simp only [hNw, hPt]; omega)))))) (lw10.ext (by (try dsimp only); repeat (first | exact Ext.refl _ | exact Ext.refl _ | apply Ext.new | (refine Ext.put ?_ _ (by first | omega | (simp only [hNw, hPt]; omega)))))) (by decide) (by decide) (by decide) (by rw [fE_3]; decide)).trans (by rw [fE_3])) ?_ -- "sackung/alarm.Levels"
  refine OkO.nil ⟨rfl, ?_⟩
  refine OkP.step ?_
  refine OkO.move rfl rfl ?_
  refine OkO.nil ⟨rfl, ?_⟩
  refine OkP.step ?_
  refine OkO.extract rfl rfl rfl ?_
  refine OkO.nil ⟨rfl, ?_⟩
  refine OkP.step ?_
  refine OkO.extract rfl rfl rfl ?_
  refine OkO.nil ⟨rfl, ?_⟩
  refine OkP.step ?_
  refine OkO.assign rfl rfl ?_
  refine OkO.nil ⟨rfl, ?_⟩
  refine OkP.step ?_
  refine OkO.assign rfl rfl ?_
  refine OkO.nil ⟨rfl, ?_⟩
  refine OkP.nil ?_
  refine Ok.seq ?_
  refine Ok.region ?_
  refine OkO.load rfl rfl (ldg (n := 5) (by kernel_rfl) (by first | assumption | (simp (disch := first | omega | (simp only [hNw, hPt]; omega)) only [gn0, gn1, gn2, gn3, gn4, gn5, gp0, gno, gpo] <;> first | rfl | assumption | exact gp0 _ _ _ | exact gn0 _ _)) (by first | rfl | assumption)) ?_
  refine OkO.callV rfl rfl rfl rfl rfl ((c49E (m + 70) .nils [] (tE 2 2) _ (seas_nil _) (by decide) (by decide) (by rw [te_n]; decide)).trans (by rw [te_n])) ?_ -- "sackung/alarm.Best"
  refine OkO.move rfl rfl ?_
  refine OkO.extract rfl rfl rfl ?_
  refine OkO.extract rfl rfl rfl ?_
  refine OkO.extract rfl rfl rfl ?_
  refine OkO.alloc (z := [.int .i64 0, .int .i64 0, .int .i64 0]) rfl (by kernel_rfl) ?_
  refine OkO.store rfl rfl rfl (sAc (n := 3) (ag := true) (by kernel_rfl) (by first | assumption | (simp (disch := first | omega | (simp only [hNw, hPt]; omega)) only [gn0, gn1, gn2, gn3, gn4, gn5, gp0, gno, gpo] <;> first | rfl | assumption | exact gp0 _ _ _ | exact gn0 _ _)) rfl (by first | rfl | assumption) (by first | rfl | exact spl_set _ _ _ (by first | assumption | omega | (simp; omega)))) ?_
  refine OkO.assign rfl rfl ?_
  refine OkO.assign rfl rfl ?_
  refine OkO.nil ?_
  refine Ok.seq ?_
  refine Ok.region ?_
  refine OkO.fieldAddr (o := 0) rfl (by kernel_rfl) rfl ?_
  refine OkO.store rfl rfl rfl (sAc (n := 1) (ag := false) (by kernel_rfl) (by first | assumption | (simp (disch := first | omega | (simp only [hNw, hPt]; omega)) only [gn0, gn1, gn2, gn3, gn4, gn5, gp0, gno, gpo] <;> first | rfl | assumption | exact gp0 _ _ _ | exact gn0 _ _)) rfl (by first | rfl | assumption) (by first | rfl | exact spl_set _ _ _ (by first | assumption | omega | (simp; omega)))) ?_
  refine OkO.nil ?_
  refine Ok.seq ?_
  refine Ok.drawn [(2, true, []), (8, true, [2]), (0, false, [2]), (1, true, [2]), (3, false, []), (4, true, []), (5, true, []), (6, true, []), (7, true, []), (9, false, []), (10, true, []), (11, true, [])] (by kernel_rfl) ?_
  refine OkP.step ?_
  refine OkO.load rfl rfl (ldg (n := 5) (by kernel_rfl) (by first | assumption | (simp (disch := first | omega | (simp only [hNw, hPt]; omega)) only [gn0, gn1, gn2, gn3, gn4, gn5, gp0, gno, gpo] <;> first | rfl | assumption | exact gp0 _ _ _ | exact gn0 _ _)) (by first | rfl | assumption)) ?_
  refine OkO.nil ⟨rfl, ?_⟩
  refine OkP.step ?_
  refine OkO.alloc (z := [.int .i64 0, .int .i64 0, .int .i64 0]) rfl (by kernel_rfl) ?_
  refine OkO.nil ⟨(sco (sld rfl rfl (ldg (n := 5) (by kernel_rfl) (by first | assumption | (simp (disch := first | omega | (simp only [hNw, hPt]; omega)) only [gn0, gn1, gn2, gn3, gn4, gn5, gp0, gno, gpo] <;> first | rfl | assumption | exact gp0 _ _ _ | exact gn0 _ _)) (by first | rfl | assumption)) rfl (eqr _ (by first | rfl | exact lpl (by assumption) | (simp [AV.plain, AV.plains, AV.cells, AV.plain])))) rfl), ?_⟩
  refine OkP.step ?_
  refine OkO.callE rfl rfl rfl rfl rfl (c54 (m + 79) _) ?_ -- "sackung/sackunglaw04.year"
  rintro _ Y3 ⟨yx3, rfl, yq3, yi3, ya3⟩
  have n25 := yq3.ext.next
  try simp only [hNw, hPt] at n25
  have gg25 : Grow W Y3 := Grow.ret (by (try dsimp only); repeat (first | exact gg24 | apply Grow.new | (refine Grow.put ?_ _ (by first | omega | (simp only [hNw, hPt]; omega))))) yq3
  have s0x25 : (Y3.get (sb0)).bind AObj.cs = some sc0 := by rw [yq3.ext.get _ (by first | omega | (simp only [hNw, hPt]; omega))]; first | assumption | (rw [gn0]; rfl) | (rw [get_put_eq] <;> rfl) | (simp (disch := first | omega | (simp only [hNw, hPt]; omega)) only [gn0, gn1, gn2, gn3, gn4, gn5, gp0, gno, gpo] <;> first | rfl | assumption | (rw [get_put_eq] <;> rfl))
  have s1x25 : (Y3.get (sb1)).bind AObj.cs = some sc1 := by rw [yq3.ext.get _ (by first | omega | (simp only [hNw, hPt]; omega))]; first | assumption | (rw [gn0]; rfl) | (rw [get_put_eq] <;> rfl) | (simp (disch := first | omega | (simp only [hNw, hPt]; omega)) only [gn0, gn1, gn2, gn3, gn4, gn5, gp0, gno, gpo] <;> first | rfl | assumption | (rw [get_put_eq] <;> rfl))
  have s2x25 : (Y3.get (sb2)).bind AObj.cs = some sc2 := by rw [yq3.ext.get _ (by first | omega | (simp only [hNw, hPt]; omega))]; first | assumption | (rw [gn0]; rfl) | (rw [get_put_eq] <;> rfl) | (simp (disch := first | omega | (simp only [hNw, hPt]; omega)) only [gn0, gn1, gn2, gn3, gn4, gn5, gp0, gno, gpo] <;> first | rfl | assumption | (rw [get_put_eq] <;> rfl))
  have kt25 : (Y3.get (M2.next)).bind AObj.cs = some (tE 3 2).c := by rw [yq3.ext.get _ (by first | omega | (simp only [hNw, hPt]; omega))]; first | assumption | (rw [gn0]; rfl) | (rw [get_put_eq] <;> rfl) | (simp (disch := first | omega | (simp only [hNw, hPt]; omega)) only [gn0, gn1, gn2, gn3, gn4, gn5, gp0, gno, gpo] <;> first | rfl | assumption | (rw [get_put_eq] <;> rfl))
  have ko25 : Y3.get (M2.next) = some (.cells (tE 3 2).c 86) := by rw [yq3.ext.get _ (by first | omega | (simp only [hNw, hPt]; omega))]; first | assumption | exact gn0 _ _ | (simp (disch := first | omega | (simp only [hNw, hPt]; omega)) only [gn0, gn1, gn2, gn3, gn4, gn5, gp0, gno, gpo] <;> first | rfl | assumption | exact gp0 _ _ _ | exact gn0 _ _)
  have z3425 : Y3.get (P10.next + 1) = some (.cells [I 0, I 0, I 0] 68) := by rw [yq3.ext.get _ (by first | omega | (simp only [hNw, hPt]; omega))]; first | assumption | exact gn0 _ _ | (simp (disch := first | omega | (simp only [hNw, hPt]; omega)) only [gn0, gn1, gn2, gn3, gn4, gn5, gp0, gno, gpo] <;> first | rfl | assumption | exact gp0 _ _ _ | exact gn0 _ _)
  have yl3 : yx3.plain = true := lpl yi3.len
  refine OkO.nil ⟨(sco (sld rfl rfl (ldg (n := 5) (by kernel_rfl) (by first | assumption | (simp (disch := first | omega | (simp only [hNw, hPt]; omega)) only [gn0, gn1, gn2, gn3, gn4, gn5, gp0, gno, gpo] <;> first | rfl | assumption | exact gp0 _ _ _ | exact gn0 _ _)) (by first | rfl | assumption)) rfl (eqr _ (by first | rfl | exact lpl (by assumption) | (simp [AV.plain, AV.plains, AV.cells, AV.plain])))) rfl), ?_⟩
  refine OkP.step ?_
  refine OkO.buildSlice (el := 66) (sz := 2) (z := [.nils, .bool false]) rfl (by kernel_rfl) (by decide) rfl rfl ?_
  refine OkO.nil ⟨(sco (sld rfl rfl (ldg (n := 5) (by kernel_rfl) (by first | assumption | (simp (disch := first | omega | (simp only [hNw, hPt]; omega)) only [gn0, gn1, gn2, gn3, gn4, gn5, gp0, gno, gpo] <;> first | rfl | assumption | exact gp0 _ _ _ | exact gn0 _ _)) (by first | rfl | assumption)) rfl (eqr _ (by first | rfl | exact lpl (by assumption) | (simp [AV.plain, AV.plains, AV.cells, AV.plain])))) rfl), ?_⟩
  refine OkP.step ?_
  refine OkO.callV rfl rfl rfl rfl rfl (hB3 (m + 70) (.slice Y3.next 0 1 1) _ (seas_lit yi3 ya3)) ?_ -- "sackung/alarm.Best"
  refine OkO.nil ⟨rfl, ?_⟩
  refine OkP.step ?_
  refine OkO.move rfl rfl ?_
  refine OkO.nil ⟨rfl, ?_⟩
  refine OkP.step ?_
  refine OkO.extract rfl rfl rfl ?_
  refine OkO.nil ⟨rfl, ?_⟩
  refine OkP.step ?_
  refine OkO.extract rfl rfl rfl ?_
  refine OkO.nil ⟨rfl, ?_⟩
  refine OkP.step ?_
  refine OkO.extract rfl rfl rfl ?_
  refine OkO.nil ⟨rfl, ?_⟩
  refine OkP.step ?_
  refine OkO.store rfl rfl rfl (sAc (n := 3) (ag := true) (by kernel_rfl) (by first | assumption | (simp (disch := first | omega | (simp only [hNw, hPt]; omega)) only [gn0, gn1, gn2, gn3, gn4, gn5, gp0, gno, gpo] <;> first | rfl | assumption | exact gp0 _ _ _ | exact gn0 _ _)) rfl (by first | rfl | assumption) (by first | rfl | exact spl_set _ _ _ (by first | assumption | omega | (simp; omega)))) ?_
  refine OkO.nil ⟨rfl, ?_⟩
  refine OkP.step ?_
  refine OkO.assign rfl rfl ?_
  refine OkO.nil ⟨rfl, ?_⟩
  refine OkP.step ?_
  refine OkO.assign rfl rfl ?_
  refine OkO.nil ⟨rfl, ?_⟩
  refine OkP.nil ?_
  refine Ok.seq ?_
  refine Ok.region ?_
  refine OkO.fieldAddr (o := 4) rfl (by kernel_rfl) rfl ?_
  refine OkO.store rfl rfl rfl (sAc (n := 1) (ag := false) (by kernel_rfl) (by first | assumption | (simp (disch := first | omega | (simp only [hNw, hPt]; omega)) only [gn0, gn1, gn2, gn3, gn4, gn5, gp0, gno, gpo] <;> first | rfl | assumption | exact gp0 _ _ _ | exact gn0 _ _)) rfl (by first | rfl | assumption) (by first | rfl | exact spl_set _ _ _ (by first | assumption | omega | (simp; omega)))) ?_
  refine OkO.nil ?_
  refine Ok.seq ?_
  refine Ok.drawn [(2, true, []), (8, true, [2]), (0, false, [2]), (1, true, [2]), (3, false, []), (4, true, []), (5, true, []), (6, true, []), (7, true, []), (9, false, []), (10, true, []), (11, true, [])] (by kernel_rfl) ?_
  refine OkP.step ?_
  refine OkO.load rfl rfl (ldg (n := 5) (by kernel_rfl) (by first | assumption | (simp (disch := first | omega | (simp only [hNw, hPt]; omega)) only [gn0, gn1, gn2, gn3, gn4, gn5, gp0, gno, gpo] <;> first | rfl | assumption | exact gp0 _ _ _ | exact gn0 _ _)) (by first | rfl | assumption)) ?_
  refine OkO.nil ⟨rfl, ?_⟩
  refine OkP.step ?_
  refine OkO.alloc (z := [.int .i64 0, .int .i64 0, .int .i64 0]) rfl (by kernel_rfl) ?_
  refine OkO.nil ⟨(sco (sld rfl rfl (ldg (n := 5) (by kernel_rfl) (by first | assumption | (simp (disch := first | omega | (simp only [hNw, hPt]; omega)) only [gn0, gn1, gn2, gn3, gn4, gn5, gp0, gno, gpo] <;> first | rfl | assumption | exact gp0 _ _ _ | exact gn0 _ _)) (by first | rfl | assumption)) rfl (eqr _ (by first | rfl | exact lpl (by assumption) | (simp [AV.plain, AV.plains, AV.cells, AV.plain])))) rfl), ?_⟩
  refine OkP.step ?_
  refine OkO.callE rfl rfl rfl rfl rfl (c54 (m + 79) _) ?_ -- "sackung/sackunglaw04.year"
  rintro _ Y4 ⟨yx4, rfl, yq4, yi4, ya4⟩
  have n26 := yq4.ext.next
  try simp only [hNw, hPt] at n26
  have gg26 : Grow W Y4 := Grow.ret (by (try dsimp only); repeat (first | exact gg25 | apply Grow.new | (refine Grow.put ?_ _ (by first | omega | (simp only [hNw, hPt]; omega))))) yq4
  have s0x26 : (Y4.get (sb0)).bind AObj.cs = some sc0 := by rw [yq4.ext.get _ (by first | omega | (simp only [hNw, hPt]; omega))]; first | assumption | (rw [gn0]; rfl) | (rw [get_put_eq] <;> rfl) | (simp (disch := first | omega | (simp only [hNw, hPt]; omega)) only [gn0, gn1, gn2, gn3, gn4, gn5, gp0, gno, gpo] <;> first | rfl | assumption | (rw [get_put_eq] <;> rfl))
  have s1x26 : (Y4.get (sb1)).bind AObj.cs = some sc1 := by rw [yq4.ext.get _ (by first | omega | (simp only [hNw, hPt]; omega))]; first | assumption | (rw [gn0]; rfl) | (rw [get_put_eq] <;> rfl) | (simp (disch := first | omega | (simp only [hNw, hPt]; omega)) only [gn0, gn1, gn2, gn3, gn4, gn5, gp0, gno, gpo] <;> first | rfl | assumption | (rw [get_put_eq] <;> rfl))
  have s2x26 : (Y4.get (sb2)).bind AObj.cs = some sc2 := by rw [yq4.ext.get _ (by first | omega | (simp only [hNw, hPt]; omega))]; first | assumption | (rw [gn0]; rfl) | (rw [get_put_eq] <;> rfl) | (simp (disch := first | omega | (simp only [hNw, hPt]; omega)) only [gn0, gn1, gn2, gn3, gn4, gn5, gp0, gno, gpo] <;> first | rfl | assumption | (rw [get_put_eq] <;> rfl))
  have kt26 : (Y4.get (M2.next)).bind AObj.cs = some (tE 3 0).c := by rw [yq4.ext.get _ (by first | omega | (simp only [hNw, hPt]; omega))]; first | assumption | (rw [gn0]; rfl) | (rw [get_put_eq] <;> rfl) | (simp (disch := first | omega | (simp only [hNw, hPt]; omega)) only [gn0, gn1, gn2, gn3, gn4, gn5, gp0, gno, gpo] <;> first | rfl | assumption | (rw [get_put_eq] <;> rfl))
  have z3726 : Y4.get (Y3.next + 1) = some (.cells [I 0, I 0, I 0] 68) := by rw [yq4.ext.get _ (by first | omega | (simp only [hNw, hPt]; omega))]; first | assumption | exact gn0 _ _ | (simp (disch := first | omega | (simp only [hNw, hPt]; omega)) only [gn0, gn1, gn2, gn3, gn4, gn5, gp0, gno, gpo] <;> first | rfl | assumption | exact gp0 _ _ _ | exact gn0 _ _)
  have yl4 : yx4.plain = true := lpl yi4.len
  refine OkO.nil ⟨(sco (sld rfl rfl (ldg (n := 5) (by kernel_rfl) (by first | assumption | (simp (disch := first | omega | (simp only [hNw, hPt]; omega)) only [gn0, gn1, gn2, gn3, gn4, gn5, gp0, gno, gpo] <;> first | rfl | assumption | exact gp0 _ _ _ | exact gn0 _ _)) (by first | rfl | assumption)) rfl (eqr _ (by first | rfl | exact lpl (by assumption) | (simp [AV.plain, AV.plains, AV.cells, AV.plain])))) rfl), ?_⟩
  refine OkP.step ?_
  refine OkO.buildSlice (el := 66) (sz := 2) (z := [.nils, .bool false]) rfl (by kernel_rfl) (by decide) rfl rfl ?_
  refine OkO.nil ⟨(sco (sld rfl rfl (ldg (n := 5) (by kernel_rfl) (by first | assumption | (simp (disch := first | omega | (simp only [hNw, hPt]; omega)) only [gn0, gn1, gn2, gn3, gn4, gn5, gp0, gno, gpo] <;> first | rfl | assumption | exact gp0 _ _ _ | exact gn0 _ _)) (by first | rfl | assumption)) rfl (eqr _ (by first | rfl | exact lpl (by assumption) | (simp [AV.plain, AV.plains, AV.cells, AV.plain])))) rfl), ?_⟩
  refine OkP.step ?_
  refine OkO.callV rfl rfl rfl rfl rfl ((c49E (m + 70) (.slice Y4.next 0 1 1) [yr] (tE 3 0) _ (seas_lit yi4 ya4) (by decide) (by decide) (by rw [te_30]; decide)).trans (by rw [te_30])) ?_ -- "sackung/alarm.Best"
  refine OkO.nil ⟨rfl, ?_⟩
  refine OkP.step ?_
  refine OkO.move rfl rfl ?_
  refine OkO.nil ⟨rfl, ?_⟩
  refine OkP.step ?_
  refine OkO.extract rfl rfl rfl ?_
  refine OkO.nil ⟨rfl, ?_⟩
  refine OkP.step ?_
  refine OkO.extract rfl rfl rfl ?_
  refine OkO.nil ⟨rfl, ?_⟩
  refine OkP.step ?_
  refine OkO.extract rfl rfl rfl ?_
  refine OkO.nil ⟨rfl, ?_⟩
  refine OkP.step ?_
  refine OkO.store rfl rfl rfl (sAc (n := 3) (ag := true) (by kernel_rfl) (by first | assumption | (simp (disch := first | omega | (simp only [hNw, hPt]; omega)) only [gn0, gn1, gn2, gn3, gn4, gn5, gp0, gno, gpo] <;> first | rfl | assumption | exact gp0 _ _ _ | exact gn0 _ _)) rfl (by first | rfl | assumption) (by first | rfl | exact spl_set _ _ _ (by first | assumption | omega | (simp; omega)))) ?_
  refine OkO.nil ⟨rfl, ?_⟩
  refine OkP.step ?_
  refine OkO.assign rfl rfl ?_
  refine OkO.nil ⟨rfl, ?_⟩
  refine OkP.step ?_
  refine OkO.assign rfl rfl ?_
  refine OkO.nil ⟨rfl, ?_⟩
  refine OkP.nil ?_
  refine Ok.seq ?_
  refine Ok.region ?_
  refine OkO.callE rfl rfl rfl rfl rfl (c54 (m + 79) _) ?_ -- "sackung/sackunglaw04.year"
  rintro _ Y5 ⟨yx5, rfl, yq5, yi5, ya5⟩
  have n27 := yq5.ext.next
  try simp only [hNw, hPt] at n27
  have gg27 : Grow W Y5 := Grow.ret (by (try dsimp only); repeat (first | exact gg26 | apply Grow.new | (refine Grow.put ?_ _ (by first | omega | (simp only [hNw, hPt]; omega))))) yq5
  have s0x27 : (Y5.get (sb0)).bind AObj.cs = some sc0 := by rw [yq5.ext.get _ (by first | omega | (simp only [hNw, hPt]; omega))]; first | assumption | (rw [gn0]; rfl) | (rw [get_put_eq] <;> rfl) | (simp (disch := first | omega | (simp only [hNw, hPt]; omega)) only [gn0, gn1, gn2, gn3, gn4, gn5, gp0, gno, gpo] <;> first | rfl | assumption | (rw [get_put_eq] <;> rfl))
  have s1x27 : (Y5.get (sb1)).bind AObj.cs = some sc1 := by rw [yq5.ext.get _ (by first | omega | (simp only [hNw, hPt]; omega))]; first | assumption | (rw [gn0]; rfl) | (rw [get_put_eq] <;> rfl) | (simp (disch := first | omega | (simp only [hNw, hPt]; omega)) only [gn0, gn1, gn2, gn3, gn4, gn5, gp0, gno, gpo] <;> first | rfl | assumption | (rw [get_put_eq] <;> rfl))
  have s2x27 : (Y5.get (sb2)).bind AObj.cs = some sc2 := by rw [yq5.ext.get _ (by first | omega | (simp only [hNw, hPt]; omega))]; first | assumption | (rw [gn0]; rfl) | (rw [get_put_eq] <;> rfl) | (simp (disch := first | omega | (simp only [hNw, hPt]; omega)) only [gn0, gn1, gn2, gn3, gn4, gn5, gp0, gno, gpo] <;> first | rfl | assumption | (rw [get_put_eq] <;> rfl))
  have kt27 : (Y5.get (M2.next)).bind AObj.cs = some (tE 3 0).c := by rw [yq5.ext.get _ (by first | omega | (simp only [hNw, hPt]; omega))]; first | assumption | (rw [gn0]; rfl) | (rw [get_put_eq] <;> rfl) | (simp (disch := first | omega | (simp only [hNw, hPt]; omega)) only [gn0, gn1, gn2, gn3, gn4, gn5, gp0, gno, gpo] <;> first | rfl | assumption | (rw [get_put_eq] <;> rfl))
  have yl5 : yx5.plain = true := lpl yi5.len
  refine OkO.build (z := [.int .i64 0, .int .i64 0, .int .i64 0]) (pl := [(0, 1), (1, 1), (2, 1)]) rfl (by kernel_rfl) rfl rfl ?_
  refine OkO.callV rfl rfl rfl rfl rfl (c37R (m + 73) yx5 yr ⟨5, 6, 1⟩ _ yi5 ya5 (by decide) rfl rfl) ?_ -- "sackung/alarm.Spells"
  refine OkO.move rfl rfl ?_
  refine OkO.extract rfl rfl rfl ?_
  refine OkO.extract rfl rfl rfl ?_
  refine OkO.assign rfl rfl ?_
  refine OkO.assign rfl rfl ?_
  refine OkO.nil ?_
  refine Ok.seq ?_
  refine Ok.region ?_
  refine OkO.move rfl rfl ?_
  refine OkO.bin rfl rfl rfl ((bin_eql _ _).trans (congrArg (fun b => some (AV.bool b)) (show _ = true from (by rfl)))) ?_
  refine OkO.move rfl rfl ?_
  refine OkO.move rfl rfl ?_
  refine OkO.bin rfl rfl rfl ((bin_eql _ _).trans (congrArg (fun b => some (AV.bool b)) (show _ = true from (by rfl)))) ?_
  refine OkO.pick (b := true) rfl rfl (fun _ => rfl) nofun ?_
  refine OkO.move rfl rfl ?_
  refine OkO.move rfl rfl ?_
  refine OkO.bin rfl rfl rfl ((bin_eql _ _).trans (congrArg (fun b => some (AV.bool b)) (show _ = true from (by rfl)))) ?_
  refine OkO.pick (b := true) rfl rfl (fun _ => rfl) nofun ?_
  refine OkO.move rfl rfl ?_
  refine OkO.move rfl rfl ?_
  refine OkO.bin rfl rfl rfl ((bin_eql _ _).trans (congrArg (fun b => some (AV.bool b)) (show _ = true from (by rfl)))) ?_
  refine OkO.pick (b := true) rfl rfl (fun _ => rfl) nofun ?_
  refine OkO.move rfl rfl ?_
  refine OkO.move rfl rfl ?_
  refine OkO.bin rfl rfl rfl ((bin_eql _ _).trans (congrArg (fun b => some (AV.bool b)) (show _ = true from (by rfl)))) ?_
  refine OkO.pick (b := true) rfl rfl (fun _ => rfl) nofun ?_
  refine OkO.move rfl rfl ?_
  refine OkO.move rfl rfl ?_
  refine OkO.bin rfl rfl rfl ((bin_eql _ _).trans (congrArg (fun b => some (AV.bool b)) (show _ = true from (by rfl)))) ?_
  refine OkO.pick (b := true) rfl rfl (fun _ => rfl) nofun ?_
  refine OkO.move rfl rfl ?_
  refine OkO.move rfl rfl ?_
  refine OkO.bin rfl rfl rfl ((bin_eql _ _).trans (congrArg (fun b => some (AV.bool b)) (show _ = true from (by rfl)))) ?_
  refine OkO.pick (b := true) rfl rfl (fun _ => rfl) nofun ?_
  refine OkO.move rfl rfl ?_
  refine OkO.move rfl rfl ?_
  refine OkO.bin rfl rfl rfl ((bin_eql _ _).trans (congrArg (fun b => some (AV.bool b)) (show _ = true from (by rfl)))) ?_
  refine OkO.pick (b := true) rfl rfl (fun _ => rfl) nofun ?_
  refine OkO.move rfl rfl ?_
  refine OkO.move rfl rfl ?_
  refine OkO.bin rfl rfl rfl ((bin_eql _ _).trans (congrArg (fun b => some (AV.bool b)) (show _ = true from (by rfl)))) ?_
  refine OkO.pick (b := true) rfl rfl (fun _ => rfl) nofun ?_
  refine OkO.move rfl rfl ?_
  refine OkO.move rfl rfl ?_
  refine OkO.bin rfl rfl rfl ((bin_eql _ _).trans (congrArg (fun b => some (AV.bool b)) (show _ = true from (by rfl)))) ?_
  refine OkO.pick (b := true) rfl rfl (fun _ => rfl) nofun ?_
  refine OkO.move rfl rfl ?_
  refine OkO.move rfl rfl ?_
  refine OkO.bin rfl rfl rfl ((bin_eql _ _).trans (congrArg (fun b => some (AV.bool b)) (show _ = true from (by rfl)))) ?_
  refine OkO.pick (b := true) rfl rfl (fun _ => rfl) nofun ?_
  refine OkO.move rfl rfl ?_
  refine OkO.move rfl rfl ?_
  refine OkO.bin rfl rfl rfl ((bin_eql _ _).trans (congrArg (fun b => some (AV.bool b)) (show _ = true from (by rfl)))) ?_
  refine OkO.pick (b := true) rfl rfl (fun _ => rfl) nofun ?_
  refine OkO.move rfl rfl ?_
  refine OkO.build (z := [.nils, .int .i64 0, .int .i64 0, .int .i64 0, .int .i64 0, .int .i64 0]) (pl := [(0, 1), (1, 1), (2, 1), (3, 1), (4, 1), (5, 1)]) rfl (by kernel_rfl) rfl rfl ?_
  refine OkO.callV rfl rfl rfl rfl rfl ((c19 (m + 76) .nils ⟨[], 0, 0, 0, 0, 0⟩ _ ((Mine.nil 0 _ 3 1).ints (us := [])) (by decide)).trans rfl) ?_ -- "sackung/alarm.CheckPost"
  refine OkO.bin rfl rfl rfl ((bin_eql _ _).trans (congrArg (fun b => some (AV.bool b)) (show _ = true from (by rfl)))) ?_
  refine OkO.pick (b := true) rfl rfl (fun _ => rfl) nofun ?_
  refine OkO.move rfl rfl ?_
  refine OkO.callE rfl rfl rfl rfl rfl (c51 (m + 79) _) ?_ -- "sackung/sackunglaw04.post"
  rintro _ P11 ⟨px11, rfl, pq11, pi11, pa11⟩
  have n28 := pq11.ext.next
  try simp only [hNw, hPt] at n28
  have gg28 : Grow W P11 := Grow.ret (by (try dsimp only); repeat (first | exact gg27 | apply Grow.new | (refine Grow.put ?_ _ (by first | omega | (simp only [hNw, hPt]; omega))))) pq11
  have s0x28 : (P11.get (sb0)).bind AObj.cs = some sc0 := by rw [pq11.ext.get _ (by first | omega | (simp only [hNw, hPt]; omega))]; first | assumption | (rw [gn0]; rfl) | (rw [get_put_eq] <;> rfl) | (simp (disch := first | omega | (simp only [hNw, hPt]; omega)) only [gn0, gn1, gn2, gn3, gn4, gn5, gp0, gno, gpo] <;> first | rfl | assumption | (rw [get_put_eq] <;> rfl))
  have s1x28 : (P11.get (sb1)).bind AObj.cs = some sc1 := by rw [pq11.ext.get _ (by first | omega | (simp only [hNw, hPt]; omega))]; first | assumption | (rw [gn0]; rfl) | (rw [get_put_eq] <;> rfl) | (simp (disch := first | omega | (simp only [hNw, hPt]; omega)) only [gn0, gn1, gn2, gn3, gn4, gn5, gp0, gno, gpo] <;> first | rfl | assumption | (rw [get_put_eq] <;> rfl))
  have s2x28 : (P11.get (sb2)).bind AObj.cs = some sc2 := by rw [pq11.ext.get _ (by first | omega | (simp only [hNw, hPt]; omega))]; first | assumption | (rw [gn0]; rfl) | (rw [get_put_eq] <;> rfl) | (simp (disch := first | omega | (simp only [hNw, hPt]; omega)) only [gn0, gn1, gn2, gn3, gn4, gn5, gp0, gno, gpo] <;> first | rfl | assumption | (rw [get_put_eq] <;> rfl))
  have kt28 : (P11.get (M2.next)).bind AObj.cs = some (tE 3 0).c := by rw [pq11.ext.get _ (by first | omega | (simp only [hNw, hPt]; omega))]; first | assumption | (rw [gn0]; rfl) | (rw [get_put_eq] <;> rfl) | (simp (disch := first | omega | (simp only [hNw, hPt]; omega)) only [gn0, gn1, gn2, gn3, gn4, gn5, gp0, gno, gpo] <;> first | rfl | assumption | (rw [get_put_eq] <;> rfl))
  have exY528 : Ext Y5 P11 := Ext.trans (by (try dsimp only); repeat (first | exact Ext.refl _ | exact Ext.refl _ | apply Ext.new | (refine Ext.put ?_ _ (by first | omega | (simp only [hNw, hPt]; omega))))) pq11.ext
  have pl11 : px11.plain = true := lpl pi11.len
  refine OkO.callE rfl rfl rfl rfl rfl (c52 (m + 79) _) ?_ -- "sackung/sackunglaw04.lone"
  rintro _ L11 ⟨lb11, lv11, rfl, lq11, lg11, ll11, ln11, la11, li11⟩
  have n29 := lq11.ext.next
  try simp only [hNw, hPt] at n29
  have gg29 : Grow W L11 := Grow.ret (by (try dsimp only); repeat (first | exact gg28 | apply Grow.new | (refine Grow.put ?_ _ (by first | omega | (simp only [hNw, hPt]; omega))))) lq11
  have s0x29 : (L11.get (sb0)).bind AObj.cs = some sc0 := by rw [lq11.ext.get _ (by first | omega | (simp only [hNw, hPt]; omega))]; first | assumption | (rw [gn0]; rfl) | (rw [get_put_eq] <;> rfl) | (simp (disch := first | omega | (simp only [hNw, hPt]; omega)) only [gn0, gn1, gn2, gn3, gn4, gn5, gp0, gno, gpo] <;> first | rfl | assumption | (rw [get_put_eq] <;> rfl))
  have s1x29 : (L11.get (sb1)).bind AObj.cs = some sc1 := by rw [lq11.ext.get _ (by first | omega | (simp only [hNw, hPt]; omega))]; first | assumption | (rw [gn0]; rfl) | (rw [get_put_eq] <;> rfl) | (simp (disch := first | omega | (simp only [hNw, hPt]; omega)) only [gn0, gn1, gn2, gn3, gn4, gn5, gp0, gno, gpo] <;> first | rfl | assumption | (rw [get_put_eq] <;> rfl))
  have s2x29 : (L11.get (sb2)).bind AObj.cs = some sc2 := by rw [lq11.ext.get _ (by first | omega | (simp only [hNw, hPt]; omega))]; first | assumption | (rw [gn0]; rfl) | (rw [get_put_eq] <;> rfl) | (simp (disch := first | omega | (simp only [hNw, hPt]; omega)) only [gn0, gn1, gn2, gn3, gn4, gn5, gp0, gno, gpo] <;> first | rfl | assumption | (rw [get_put_eq] <;> rfl))
  have kt29 : (L11.get (M2.next)).bind AObj.cs = some (tE 3 0).c := by rw [lq11.ext.get _ (by first | omega | (simp only [hNw, hPt]; omega))]; first | assumption | (rw [gn0]; rfl) | (rw [get_put_eq] <;> rfl) | (simp (disch := first | omega | (simp only [hNw, hPt]; omega)) only [gn0, gn1, gn2, gn3, gn4, gn5, gp0, gno, gpo] <;> first | rfl | assumption | (rw [get_put_eq] <;> rfl))
  have exY529 : Ext Y5 L11 := Ext.trans (by (try dsimp only); repeat (first | exact exY528 | exact Ext.refl _ | apply Ext.new | (refine Ext.put ?_ _ (by first | omega | (simp only [hNw, hPt]; omega))))) lq11.ext
  have exP1129 : Ext P11 L11 := Ext.trans (by (try dsimp only); repeat (first | exact Ext.refl _ | exact Ext.refl _ | apply Ext.new | (refine Ext.put ?_ _ (by first | omega | (simp only [hNw, hPt]; omega))))) lq11.ext
  have lw11 : LstAt L11 (.slice lb11 0 3 3) rL := lst_of lg11 ll11 rfl ln11 li11
  refine OkO.buildSlice (el := 3) (sz := 1) (z := [.int .i64 0]) rfl (by kernel_rfl) (by decide) rfl rfl ?_
  refine OkO.callV rfl rfl rfl rfl rfl ((c29Y (m + 74) px11 (.slice lb11 0 3 3) (.slice L11.next 0 3 3) pE rL 1 [10, 12, 15] _ (pi11.ext (by (try dsimp only); repeat (first | exact exP1129 | exact Ext.refl _ | apply Ext.new | (refine Ext.put ?_ _ (by first | omega | (simp only [hNw, hPt]; omega)))))) (lw11.ext (by (try dsimp only); repeat (first | exact Ext.refl _ | exact Ext.refl _ | apply Ext.new | (refine Ext.put ?_ _ (by first | omega | (simp only [hNw, hPt]; omega)))))) (by decide) (by decide) (by decide) (ints_of (us := [10, 12, 15]) (by rw [gn0]; rfl) (by simp) rfl) (by decide) fE_L).trans (by rw [bP_true tru_1])) ?_ -- "sackung/alarm.ProveTruth"
  refine OkO.pick (b := true) rfl rfl (fun _ => rfl) nofun ?_
  refine OkO.move rfl rfl ?_
  refine OkO.callE rfl rfl rfl rfl rfl (c51 (m + 79) _) ?_ -- "sackung/sackunglaw04.post"
  rintro _ P12 ⟨px12, rfl, pq12, pi12, pa12⟩
  have n30 := pq12.ext.next
  try simp only [hNw, hPt] at n30
  have gg30 : Grow W P12 := Grow.ret (by (try dsimp only); repeat (first | exact gg29 | apply Grow.new | (refine Grow.put ?_ _ (by first | omega | (simp only [hNw, hPt]; omega))))) pq12
  have s0x30 : (P12.get (sb0)).bind AObj.cs = some sc0 := by rw [pq12.ext.get _ (by first | omega | (simp only [hNw, hPt]; omega))]; first | assumption | (rw [gn0]; rfl) | (rw [get_put_eq] <;> rfl) | (simp (disch := first | omega | (simp only [hNw, hPt]; omega)) only [gn0, gn1, gn2, gn3, gn4, gn5, gp0, gno, gpo] <;> first | rfl | assumption | (rw [get_put_eq] <;> rfl))
  have s1x30 : (P12.get (sb1)).bind AObj.cs = some sc1 := by rw [pq12.ext.get _ (by first | omega | (simp only [hNw, hPt]; omega))]; first | assumption | (rw [gn0]; rfl) | (rw [get_put_eq] <;> rfl) | (simp (disch := first | omega | (simp only [hNw, hPt]; omega)) only [gn0, gn1, gn2, gn3, gn4, gn5, gp0, gno, gpo] <;> first | rfl | assumption | (rw [get_put_eq] <;> rfl))
  have s2x30 : (P12.get (sb2)).bind AObj.cs = some sc2 := by rw [pq12.ext.get _ (by first | omega | (simp only [hNw, hPt]; omega))]; first | assumption | (rw [gn0]; rfl) | (rw [get_put_eq] <;> rfl) | (simp (disch := first | omega | (simp only [hNw, hPt]; omega)) only [gn0, gn1, gn2, gn3, gn4, gn5, gp0, gno, gpo] <;> first | rfl | assumption | (rw [get_put_eq] <;> rfl))
  have kt30 : (P12.get (M2.next)).bind AObj.cs = some (tE 3 0).c := by rw [pq12.ext.get _ (by first | omega | (simp only [hNw, hPt]; omega))]; first | assumption | (rw [gn0]; rfl) | (rw [get_put_eq] <;> rfl) | (simp (disch := first | omega | (simp only [hNw, hPt]; omega)) only [gn0, gn1, gn2, gn3, gn4, gn5, gp0, gno, gpo] <;> first | rfl | assumption | (rw [get_put_eq] <;> rfl))
  have exY530 : Ext Y5 P12 := Ext.trans (by (try dsimp only); repeat (first | exact exY529 | exact Ext.refl _ | apply Ext.new | (refine Ext.put ?_ _ (by first | omega | (simp only [hNw, hPt]; omega))))) pq12.ext
  have exP1130 : Ext P11 P12 := Ext.trans (by (try dsimp only); repeat (first | exact exP1129 | exact Ext.refl _ | apply Ext.new | (refine Ext.put ?_ _ (by first | omega | (simp only [hNw, hPt]; omega))))) pq12.ext
  have exL1130 : Ext L11 P12 := Ext.trans (by (try dsimp only); repeat (first | exact Ext.refl _ | exact Ext.refl _ | apply Ext.new | (refine Ext.put ?_ _ (by first | omega | (simp only [hNw, hPt]; omega))))) pq12.ext
  have pl12 : px12.plain = true := lpl pi12.len
  refine OkO.callE rfl rfl rfl rfl rfl (c52 (m + 79) _) ?_ -- "sackung/sackunglaw04.lone"
  rintro _ L12 ⟨lb12, lv12, rfl, lq12, lg12, ll12, ln12, la12, li12⟩
  have n31 := lq12.ext.next
  try simp only [hNw, hPt] at n31
  have gg31 : Grow W L12 := Grow.ret (by (try dsimp only); repeat (first | exact gg30 | apply Grow.new | (refine Grow.put ?_ _ (by first | omega | (simp only [hNw, hPt]; omega))))) lq12
  have s0x31 : (L12.get (sb0)).bind AObj.cs = some sc0 := by rw [lq12.ext.get _ (by first | omega | (simp only [hNw, hPt]; omega))]; first | assumption | (rw [gn0]; rfl) | (rw [get_put_eq] <;> rfl) | (simp (disch := first | omega | (simp only [hNw, hPt]; omega)) only [gn0, gn1, gn2, gn3, gn4, gn5, gp0, gno, gpo] <;> first | rfl | assumption | (rw [get_put_eq] <;> rfl))
  have s1x31 : (L12.get (sb1)).bind AObj.cs = some sc1 := by rw [lq12.ext.get _ (by first | omega | (simp only [hNw, hPt]; omega))]; first | assumption | (rw [gn0]; rfl) | (rw [get_put_eq] <;> rfl) | (simp (disch := first | omega | (simp only [hNw, hPt]; omega)) only [gn0, gn1, gn2, gn3, gn4, gn5, gp0, gno, gpo] <;> first | rfl | assumption | (rw [get_put_eq] <;> rfl))
  have s2x31 : (L12.get (sb2)).bind AObj.cs = some sc2 := by rw [lq12.ext.get _ (by first | omega | (simp only [hNw, hPt]; omega))]; first | assumption | (rw [gn0]; rfl) | (rw [get_put_eq] <;> rfl) | (simp (disch := first | omega | (simp only [hNw, hPt]; omega)) only [gn0, gn1, gn2, gn3, gn4, gn5, gp0, gno, gpo] <;> first | rfl | assumption | (rw [get_put_eq] <;> rfl))
  have kt31 : (L12.get (M2.next)).bind AObj.cs = some (tE 3 0).c := by rw [lq12.ext.get _ (by first | omega | (simp only [hNw, hPt]; omega))]; first | assumption | (rw [gn0]; rfl) | (rw [get_put_eq] <;> rfl) | (simp (disch := first | omega | (simp only [hNw, hPt]; omega)) only [gn0, gn1, gn2, gn3, gn4, gn5, gp0, gno, gpo] <;> first | rfl | assumption | (rw [get_put_eq] <;> rfl))
  have exY531 : Ext Y5 L12 := Ext.trans (by (try dsimp only); repeat (first | exact exY530 | exact Ext.refl _ | apply Ext.new | (refine Ext.put ?_ _ (by first | omega | (simp only [hNw, hPt]; omega))))) lq12.ext
  have exP1131 : Ext P11 L12 := Ext.trans (by (try dsimp only); repeat (first | exact exP1130 | exact Ext.refl _ | apply Ext.new | (refine Ext.put ?_ _ (by first | omega | (simp only [hNw, hPt]; omega))))) lq12.ext
  have exL1131 : Ext L11 L12 := Ext.trans (by (try dsimp only); repeat (first | exact exL1130 | exact Ext.refl _ | apply Ext.new | (refine Ext.put ?_ _ (by first | omega | (simp only [hNw, hPt]; omega))))) lq12.ext
  have exP1231 : Ext P12 L12 := Ext.trans (by (try dsimp only); repeat (first | exact Ext.refl _ | exact Ext.refl _ | apply Ext.new | (refine Ext.put ?_ _ (by first | omega | (simp only [hNw, hPt]; omega))))) lq12.ext
  have lw12 : LstAt L12 (.slice lb12 0 3 3) rL := lst_of lg12 ll12 rfl ln12 li12
  refine OkO.buildSlice (el := 3) (sz := 1) (z := [.int .i64 0]) rfl (by kernel_rfl) (by decide) rfl rfl ?_
  refine OkO.callV rfl rfl rfl rfl rfl ((c29Y (m + 74) px12 (.slice lb12 0 3 3) (.slice L12.next 0 3 3) pE rL (-1) [10, 12, 15] _ (pi12.ext (by (try dsimp only); repeat (first | exact exP1231 | exact Ext.refl _ | apply Ext.new | (refine Ext.put ?_ _ (by first | omega | (simp only [hNw, hPt]; omega)))))) (lw12.ext (by (try dsimp only); repeat (first | exact Ext.refl _ | exact Ext.refl _ | apply Ext.new | (refine Ext.put ?_ _ (by first | omega | (simp only [hNw, hPt]; omega)))))) (by decide) (by decide) (by decide) (ints_of (us := [10, 12, 15]) (by rw [gn0]; rfl) (by simp) rfl) (by decide) fE_L).trans (by rw [bP_false tru_no])) ?_ -- "sackung/alarm.ProveTruth"
  refine OkO.un rfl rfl rfl ?_
  refine OkO.pick (b := true) rfl rfl (fun _ => rfl) nofun ?_
  refine OkO.move rfl rfl ?_
  refine OkO.callV rfl rfl rfl rfl rfl (rfl) ?_ -- "sackung/sackunglaw04.awake"
  refine OkO.pick (b := true) rfl rfl (fun _ => rfl) nofun ?_
  refine OkO.assign rfl rfl ?_
  refine OkO.nil ?_
  refine Ok.ret ⟨.inr rfl, ?_⟩
  exact back_flat rfl rfl rfl (by rw [← hW]; exact (by (try dsimp only); repeat (first | exact gg31 | apply Grow.new | (refine Grow.put ?_ _ (by first | omega | (simp only [hNw, hPt]; omega))))))
end
end Go.Ev

