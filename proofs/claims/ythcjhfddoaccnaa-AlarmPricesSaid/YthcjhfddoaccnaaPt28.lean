/-
  Functions of the program, reckoned by the evaluator: what each answers, and that it leaves what came in as it was.
-/
import Derived.Test.YthcjhfddoaccnaaPt27
set_option maxRecDepth 100000
set_option linter.unusedSimpArgs false
set_option linter.unusedVariables false
namespace Go.Ev
open Go Go.Proofs
noncomputable section
theorem bin4 (x y : Bool) : binT Try.prog .eql 4 (.bool x) (.bool y) = some (.bool (x == y)) := by kernel_rfl
theorem c7E (m : Nat) (v : AV) (l : List Sea) (t : Trm) (r : Rul) (H : Heap) (hS : SeasAt H v l) (hsh : shortL l = true) (he : termErr l t ≠ 0) : RR (m + 10) (.fn 7 [v, .agg t.c, .agg r.c]) H = some (.bool true, H) := by
  refine (R_fn _ _ _ _ _).trans ?_
  refine fn_ok Try.func7 rfl rfl (by kernel_rfl) (by kernel_rfl) ?_
  obtain ⟨W, hW⟩ : ∃ W : Heap, W = ⟨H.t, H.next, H.next⟩ := ⟨_, rfl⟩
  have hg : ∀ n, W.get n = H.get n := fun n => by rw [hW]; rfl
  have hN : W.next = H.next := by rw [hW]
  have hE : ∀ G, Grow W G → Ext H G := fun G g => ⟨by rw [← hN]; exact g.next, fun n k => by rw [g.get n (by rw [hN]; exact k), hg]⟩
  have hG : Grow W W := Grow.refl (by rw [hW]; exact Nat.le_refl _)
  rw [← hW]
  have hlen := hS.len
  have pv := lpl hlen
  have hsf := shortL_facts hsh
  refine Ok.seq ?_
  refine Ok.region ?_
  refine OkO.box rfl rfl ?_
  refine OkO.box rfl rfl ?_
  refine OkO.assign rfl rfl ?_
  refine OkO.nil ?_
  refine Ok.seq ?_
  refine Ok.seq ?_
  refine Ok.region ?_
  refine OkO.move rfl rfl ?_
  refine OkO.callV rfl rfl rfl rfl rfl ((c43 (m + 8) v l _ (hS.ext (hE _ (by (try dsimp only); repeat (first | exact hG | apply Grow.new | (refine Grow.put ?_ _ (by first | omega | (simp only [hNw, hPt]; omega)))))))).trans (by rw [hsh])) ?_ -- "sackung/sackunglaw04.Short"
  refine OkO.un rfl rfl rfl ?_
  refine OkO.nil ?_
  refine Ok.condF rfl ?_
  refine Ok.skip ?_
  refine Ok.seq ?_
  refine Ok.drawn [(0, true, []), (2, true, []), (4, true, []), (1, false, [4, 2]), (3, false, [4]), (5, false, [2]), (6, false, [4, 2]), (7, true, []), (8, true, []), (9, true, []), (10, true, []), (11, true, []), (12, true, []), (13, true, [])] (by kernel_rfl) ?_
  refine OkP.step ?_
  refine OkO.move rfl rfl ?_
  refine OkO.nil ⟨rfl, ?_⟩
  refine OkP.step ?_
  refine OkO.load rfl rfl (ldg (n := 5) (by kernel_rfl) (by first | assumption | (simp (disch := first | omega | (simp only [hNw, hPt]; omega)) only [gn0, gn1, gn2, gn3, gn4, gn5, gp0, gno, gpo] <;> first | rfl | assumption | exact gp0 _ _ _ | exact gn0 _ _)) (by first | rfl | assumption)) ?_
  refine OkO.nil ⟨rfl, ?_⟩
  refine OkP.step ?_
  refine OkO.load rfl rfl (ldg (n := 3) (by kernel_rfl) (by first | assumption | (simp (disch := first | omega | (simp only [hNw, hPt]; omega)) only [gn0, gn1, gn2, gn3, gn4, gn5, gp0, gno, gpo] <;> first | rfl | assumption | exact gp0 _ _ _ | exact gn0 _ _)) (by first | rfl | assumption)) ?_
  refine OkO.nil ⟨rfl, ?_⟩
  refine OkP.step ?_
  refine OkO.callE rfl rfl rfl rfl rfl (c45 (m + 6) v l _ (hS.ext (hE _ (by (try dsimp only); repeat (first | exact hG | apply Grow.new | (refine Grow.put ?_ _ (by first | omega | (simp only [hNw, hPt]; omega))))))) (by omega) (fun s hs => by have := hsf.2 s hs; omega)) ?_ -- "sackung/sackunglaw04.Seasons"
  rintro wv Ha ⟨qa, ma⟩
  have n1 := qa.ext.next
  try simp only [hNw, hPt] at n1
  have gg1 : Grow W Ha := Grow.ret (by (try dsimp only); repeat (first | exact hG | apply Grow.new | (refine Grow.put ?_ _ (by first | omega | (simp only [hNw, hPt]; omega))))) qa
  have a1 : (Ha.get (W.next)).bind AObj.cs = some t.c := by rw [qa.ext.get _ (by first | omega | (simp only [hNw, hPt]; omega))]; first | assumption | (rw [gn0]; rfl) | (rw [get_put_eq] <;> rfl) | (simp (disch := first | omega | (simp only [hNw, hPt]; omega)) only [gn0, gn1, gn2, gn3, gn4, gn5, gp0, gno, gpo] <;> first | rfl | assumption | (rw [get_put_eq] <;> rfl))
  have bb1 : (Ha.get (W.next + 1)).bind AObj.cs = some r.c := by rw [qa.ext.get _ (by first | omega | (simp only [hNw, hPt]; omega))]; first | assumption | (rw [gn0]; rfl) | (rw [get_put_eq] <;> rfl) | (simp (disch := first | omega | (simp only [hNw, hPt]; omega)) only [gn0, gn1, gn2, gn3, gn4, gn5, gp0, gno, gpo] <;> first | rfl | assumption | (rw [get_put_eq] <;> rfl))
  have hg9 := ma.g
  refine OkO.nil ⟨(sco (sld rfl rfl (ldg (n := 3) (by kernel_rfl) (by first | assumption | (simp (disch := first | omega | (simp only [hNw, hPt]; omega)) only [gn0, gn1, gn2, gn3, gn4, gn5, gp0, gno, gpo] <;> first | rfl | assumption | exact gp0 _ _ _ | exact gn0 _ _)) (by first | rfl | assumption)) rfl (eqr _ (by first | rfl | exact ps | exact lpl (by assumption) | (simp [AV.plain, AV.plains, AV.cells, AV.plain])))) (sco (sld rfl rfl (ldg (n := 5) (by kernel_rfl) (by first | assumption | (simp (disch := first | omega | (simp only [hNw, hPt]; omega)) only [gn0, gn1, gn2, gn3, gn4, gn5, gp0, gno, gpo] <;> first | rfl | assumption | exact gp0 _ _ _ | exact gn0 _ _)) (by first | rfl | assumption)) rfl (eqr _ (by first | rfl | exact ps | exact lpl (by assumption) | (simp [AV.plain, AV.plains, AV.cells, AV.plain])))) rfl)), ?_⟩
  refine OkP.step ?_
  refine OkO.callV rfl rfl rfl rfl rfl (c46 (m + 8) t _) ?_ -- "sackung/sackunglaw04.Terms"
  refine OkO.nil ⟨(sco (sld rfl rfl (ldg (n := 3) (by kernel_rfl) (by first | assumption | (simp (disch := first | omega | (simp only [hNw, hPt]; omega)) only [gn0, gn1, gn2, gn3, gn4, gn5, gp0, gno, gpo] <;> first | rfl | assumption | exact gp0 _ _ _ | exact gn0 _ _)) (by first | rfl | assumption)) rfl (eqr _ (by first | rfl | exact ps | exact lpl (by assumption) | (simp [AV.plain, AV.plains, AV.cells, AV.plain])))) rfl), ?_⟩
  refine OkP.step ?_
  refine OkO.callV rfl rfl rfl rfl rfl (c39 (m + 8) r _) ?_ -- "sackung/sackunglaw04.Rule"
  refine OkO.nil ⟨(sco (sld rfl rfl (ldg (n := 5) (by kernel_rfl) (by first | assumption | (simp (disch := first | omega | (simp only [hNw, hPt]; omega)) only [gn0, gn1, gn2, gn3, gn4, gn5, gp0, gno, gpo] <;> first | rfl | assumption | exact gp0 _ _ _ | exact gn0 _ _)) (by first | rfl | assumption)) rfl (eqr _ (by first | rfl | exact ps | exact lpl (by assumption) | (simp [AV.plain, AV.plains, AV.cells, AV.plain])))) rfl), ?_⟩
  refine OkP.step ?_
  refine OkO.callV rfl rfl rfl rfl rfl (c44E (m + 1) wv l t r _ (hg9.ext (by (try dsimp only); repeat (first | exact Ext.refl _ | exact Ext.refl _ | apply Ext.new | (refine Ext.put ?_ _ (by first | omega | (simp only [hNw, hPt]; omega)))))) (by omega) (fun s hs => by have := hsf.2 s hs; omega) he) ?_ -- "sackung/alarm.Price"
  refine OkO.nil ⟨(sco (sld rfl rfl (ldg (n := 3) (by kernel_rfl) (by first | assumption | (simp (disch := first | omega | (simp only [hNw, hPt]; omega)) only [gn0, gn1, gn2, gn3, gn4, gn5, gp0, gno, gpo] <;> first | rfl | assumption | exact gp0 _ _ _ | exact gn0 _ _)) (by first | rfl | assumption)) rfl (eqr _ (by first | rfl | exact ps | exact lpl (by assumption) | (simp [AV.plain, AV.plains, AV.cells, AV.plain])))) (sco (sld rfl rfl (ldg (n := 5) (by kernel_rfl) (by first | assumption | (simp (disch := first | omega | (simp only [hNw, hPt]; omega)) only [gn0, gn1, gn2, gn3, gn4, gn5, gp0, gno, gpo] <;> first | rfl | assumption | exact gp0 _ _ _ | exact gn0 _ _)) (by first | rfl | assumption)) rfl (eqr _ (by first | rfl | exact ps | exact lpl (by assumption) | (simp [AV.plain, AV.plains, AV.cells, AV.plain])))) rfl)), ?_⟩
  refine OkP.step ?_
  refine OkO.move rfl rfl ?_
  refine OkO.nil ⟨rfl, ?_⟩
  refine OkP.step ?_
  refine OkO.extract rfl rfl rfl ?_
  refine OkO.nil ⟨rfl, ?_⟩
  refine OkP.step ?_
  refine OkO.extract rfl rfl rfl ?_
  refine OkO.nil ⟨rfl, ?_⟩
  refine OkP.step ?_
  refine OkO.extract rfl rfl rfl ?_
  refine OkO.nil ⟨rfl, ?_⟩
  refine OkP.step ?_
  refine OkO.assign rfl rfl ?_
  refine OkO.nil ⟨rfl, ?_⟩
  refine OkP.step ?_
  refine OkO.assign rfl rfl ?_
  refine OkO.nil ⟨rfl, ?_⟩
  refine OkP.step ?_
  refine OkO.assign rfl rfl ?_
  refine OkO.nil ⟨rfl, ?_⟩
  refine OkP.nil ?_
  refine Ok.seq ?_
  refine Ok.region ?_
  refine OkO.move rfl rfl ?_
  refine OkO.load rfl rfl (ldg (n := 5) (by kernel_rfl) (by first | assumption | (simp (disch := first | omega | (simp only [hNw, hPt]; omega)) only [gn0, gn1, gn2, gn3, gn4, gn5, gp0, gno, gpo] <;> first | rfl | assumption | exact gp0 _ _ _ | exact gn0 _ _)) (by first | rfl | assumption)) ?_
  refine OkO.callV rfl rfl rfl rfl rfl ((c47 (m + 2) v l t _ (hS.ext (hE _ (by (try dsimp only); repeat (first | exact gg1 | apply Grow.new | (refine Grow.put ?_ _ (by first | omega | (simp only [hNw, hPt]; omega))))))) (by omega) (fun s hs => by have := hsf.2 s hs; omega))) ?_ -- "sackung/sackunglaw04.priced"
  refine OkO.assign rfl rfl ?_
  refine OkO.nil ?_
  refine Ok.seq ?_
  refine Ok.seq ?_
  refine Ok.region ?_
  refine OkO.move rfl rfl ?_
  refine OkO.bin rfl rfl rfl ((bin_eql _ _).trans (congrArg (fun b => some (AV.bool b)) (show _ = false from (by simp; exact he)))) ?_
  refine OkO.move rfl rfl ?_
  refine OkO.skip rfl ?_
  refine OkO.skip rfl ?_
  refine OkO.skip rfl ?_
  refine OkO.pick (b := false) rfl rfl nofun (fun _ => rfl) ?_
  refine OkO.nil ?_
  refine Ok.condF rfl ?_
  refine Ok.skip ?_
  refine Ok.seq ?_
  refine Ok.seq ?_
  refine Ok.region ?_
  refine OkO.move rfl rfl ?_
  refine OkO.bin rfl rfl rfl ((bin_neq _ _).trans (congrArg (fun b => some (AV.bool b)) (show _ = true from (by simp; exact he)))) ?_
  refine OkO.nil ?_
  refine Ok.condT rfl ?_
  refine Ok.seq ?_
  refine Ok.region ?_
  refine OkO.move rfl rfl ?_
  refine OkO.move rfl rfl ?_
  refine OkO.bin rfl rfl rfl ((bin_eql _ _).trans (congrArg (fun b => some (AV.bool b)) (show _ = true from (by first | rfl | (simp; done) | (simp; omega) | (simp_all; done))))) ?_
  refine OkO.move rfl rfl ?_
  refine OkO.move rfl rfl ?_
  refine OkO.bin rfl rfl rfl ((bin_eql _ _).trans (congrArg (fun b => some (AV.bool b)) (show _ = true from (by first | rfl | (simp; done) | (simp; omega) | (simp_all; done))))) ?_
  refine OkO.pick (b := true) rfl rfl (fun _ => rfl) nofun ?_
  refine OkO.move rfl rfl ?_
  refine OkO.move rfl rfl ?_
  refine OkO.un rfl rfl rfl ?_
  refine OkO.pick (b := true) rfl rfl (fun _ => rfl) nofun ?_
  refine OkO.move rfl rfl ?_
  refine OkO.callV rfl rfl rfl rfl rfl (rfl) ?_ -- "sackung/sackunglaw04.awake"
  refine OkO.pick (b := true) rfl rfl (fun _ => rfl) nofun ?_
  refine OkO.assign rfl rfl ?_
  refine OkO.nil ?_
  refine Ok.ret ⟨.inr rfl, ?_⟩
  exact back_flat rfl rfl rfl (by rw [← hW]; exact (by (try dsimp only); repeat (first | exact gg1 | apply Grow.new | (refine Grow.put ?_ _ (by first | omega | (simp only [hNw, hPt]; omega))))))
theorem c7R (m : Nat) (v : AV) (l : List Sea) (t : Trm) (r : Rul) (H : Heap) (hS : SeasAt H v l) (hsh : shortL l = true) (he : termErr l t = 0) (hr : r.ok = false) : RR (m + 10) (.fn 7 [v, .agg t.c, .agg r.c]) H = some (.bool true, H) := by
  refine (R_fn _ _ _ _ _).trans ?_
  refine fn_ok Try.func7 rfl rfl (by kernel_rfl) (by kernel_rfl) ?_
  obtain ⟨W, hW⟩ : ∃ W : Heap, W = ⟨H.t, H.next, H.next⟩ := ⟨_, rfl⟩
  have hg : ∀ n, W.get n = H.get n := fun n => by rw [hW]; rfl
  have hN : W.next = H.next := by rw [hW]
  have hE : ∀ G, Grow W G → Ext H G := fun G g => ⟨by rw [← hN]; exact g.next, fun n k => by rw [g.get n (by rw [hN]; exact k), hg]⟩
  have hG : Grow W W := Grow.refl (by rw [hW]; exact Nat.le_refl _)
  rw [← hW]
  have hlen := hS.len
  have pv := lpl hlen
  have hsf := shortL_facts hsh
  refine Ok.seq ?_
  refine Ok.region ?_
  refine OkO.box rfl rfl ?_
  refine OkO.box rfl rfl ?_
  refine OkO.assign rfl rfl ?_
  refine OkO.nil ?_
  refine Ok.seq ?_
  refine Ok.seq ?_
  refine Ok.region ?_
  refine OkO.move rfl rfl ?_
  refine OkO.callV rfl rfl rfl rfl rfl ((c43 (m + 8) v l _ (hS.ext (hE _ (by (try dsimp only); repeat (first | exact hG | apply Grow.new | (refine Grow.put ?_ _ (by first | omega | (simp only [hNw, hPt]; omega)))))))).trans (by rw [hsh])) ?_ -- "sackung/sackunglaw04.Short"
  refine OkO.un rfl rfl rfl ?_
  refine OkO.nil ?_
  refine Ok.condF rfl ?_
  refine Ok.skip ?_
  refine Ok.seq ?_
  refine Ok.drawn [(0, true, []), (2, true, []), (4, true, []), (1, false, [4, 2]), (3, false, [4]), (5, false, [2]), (6, false, [4, 2]), (7, true, []), (8, true, []), (9, true, []), (10, true, []), (11, true, []), (12, true, []), (13, true, [])] (by kernel_rfl) ?_
  refine OkP.step ?_
  refine OkO.move rfl rfl ?_
  refine OkO.nil ⟨rfl, ?_⟩
  refine OkP.step ?_
  refine OkO.load rfl rfl (ldg (n := 5) (by kernel_rfl) (by first | assumption | (simp (disch := first | omega | (simp only [hNw, hPt]; omega)) only [gn0, gn1, gn2, gn3, gn4, gn5, gp0, gno, gpo] <;> first | rfl | assumption | exact gp0 _ _ _ | exact gn0 _ _)) (by first | rfl | assumption)) ?_
  refine OkO.nil ⟨rfl, ?_⟩
  refine OkP.step ?_
  refine OkO.load rfl rfl (ldg (n := 3) (by kernel_rfl) (by first | assumption | (simp (disch := first | omega | (simp only [hNw, hPt]; omega)) only [gn0, gn1, gn2, gn3, gn4, gn5, gp0, gno, gpo] <;> first | rfl | assumption | exact gp0 _ _ _ | exact gn0 _ _)) (by first | rfl | assumption)) ?_
  refine OkO.nil ⟨rfl, ?_⟩
  refine OkP.step ?_
  refine OkO.callE rfl rfl rfl rfl rfl (c45 (m + 6) v l _ (hS.ext (hE _ (by (try dsimp only); repeat (first | exact hG | apply Grow.new | (refine Grow.put ?_ _ (by first | omega | (simp only [hNw, hPt]; omega))))))) (by omega) (fun s hs => by have := hsf.2 s hs; omega)) ?_ -- "sackung/sackunglaw04.Seasons"
  rintro wv Ha ⟨qa, ma⟩
  have n1 := qa.ext.next
  try simp only [hNw, hPt] at n1
  have gg1 : Grow W Ha := Grow.ret (by (try dsimp only); repeat (first | exact hG | apply Grow.new | (refine Grow.put ?_ _ (by first | omega | (simp only [hNw, hPt]; omega))))) qa
  have a1 : (Ha.get (W.next)).bind AObj.cs = some t.c := by rw [qa.ext.get _ (by first | omega | (simp only [hNw, hPt]; omega))]; first | assumption | (rw [gn0]; rfl) | (rw [get_put_eq] <;> rfl) | (simp (disch := first | omega | (simp only [hNw, hPt]; omega)) only [gn0, gn1, gn2, gn3, gn4, gn5, gp0, gno, gpo] <;> first | rfl | assumption | (rw [get_put_eq] <;> rfl))
  have bb1 : (Ha.get (W.next + 1)).bind AObj.cs = some r.c := by rw [qa.ext.get _ (by first | omega | (simp only [hNw, hPt]; omega))]; first | assumption | (rw [gn0]; rfl) | (rw [get_put_eq] <;> rfl) | (simp (disch := first | omega | (simp only [hNw, hPt]; omega)) only [gn0, gn1, gn2, gn3, gn4, gn5, gp0, gno, gpo] <;> first | rfl | assumption | (rw [get_put_eq] <;> rfl))
  have hg9 := ma.g
  refine OkO.nil ⟨(sco (sld rfl rfl (ldg (n := 3) (by kernel_rfl) (by first | assumption | (simp (disch := first | omega | (simp only [hNw, hPt]; omega)) only [gn0, gn1, gn2, gn3, gn4, gn5, gp0, gno, gpo] <;> first | rfl | assumption | exact gp0 _ _ _ | exact gn0 _ _)) (by first | rfl | assumption)) rfl (eqr _ (by first | rfl | exact ps | exact lpl (by assumption) | (simp [AV.plain, AV.plains, AV.cells, AV.plain])))) (sco (sld rfl rfl (ldg (n := 5) (by kernel_rfl) (by first | assumption | (simp (disch := first | omega | (simp only [hNw, hPt]; omega)) only [gn0, gn1, gn2, gn3, gn4, gn5, gp0, gno, gpo] <;> first | rfl | assumption | exact gp0 _ _ _ | exact gn0 _ _)) (by first | rfl | assumption)) rfl (eqr _ (by first | rfl | exact ps | exact lpl (by assumption) | (simp [AV.plain, AV.plains, AV.cells, AV.plain])))) rfl)), ?_⟩
  refine OkP.step ?_
  refine OkO.callV rfl rfl rfl rfl rfl (c46 (m + 8) t _) ?_ -- "sackung/sackunglaw04.Terms"
  refine OkO.nil ⟨(sco (sld rfl rfl (ldg (n := 3) (by kernel_rfl) (by first | assumption | (simp (disch := first | omega | (simp only [hNw, hPt]; omega)) only [gn0, gn1, gn2, gn3, gn4, gn5, gp0, gno, gpo] <;> first | rfl | assumption | exact gp0 _ _ _ | exact gn0 _ _)) (by first | rfl | assumption)) rfl (eqr _ (by first | rfl | exact ps | exact lpl (by assumption) | (simp [AV.plain, AV.plains, AV.cells, AV.plain])))) rfl), ?_⟩
  refine OkP.step ?_
  refine OkO.callV rfl rfl rfl rfl rfl (c39 (m + 8) r _) ?_ -- "sackung/sackunglaw04.Rule"
  refine OkO.nil ⟨(sco (sld rfl rfl (ldg (n := 5) (by kernel_rfl) (by first | assumption | (simp (disch := first | omega | (simp only [hNw, hPt]; omega)) only [gn0, gn1, gn2, gn3, gn4, gn5, gp0, gno, gpo] <;> first | rfl | assumption | exact gp0 _ _ _ | exact gn0 _ _)) (by first | rfl | assumption)) rfl (eqr _ (by first | rfl | exact ps | exact lpl (by assumption) | (simp [AV.plain, AV.plains, AV.cells, AV.plain])))) rfl), ?_⟩
  refine OkP.step ?_
  refine OkO.callV rfl rfl rfl rfl rfl (c44R (m + 1) wv l t r _ (hg9.ext (by (try dsimp only); repeat (first | exact Ext.refl _ | exact Ext.refl _ | apply Ext.new | (refine Ext.put ?_ _ (by first | omega | (simp only [hNw, hPt]; omega)))))) (by omega) (fun s hs => by have := hsf.2 s hs; omega) he hr) ?_ -- "sackung/alarm.Price"
  refine OkO.nil ⟨(sco (sld rfl rfl (ldg (n := 3) (by kernel_rfl) (by first | assumption | (simp (disch := first | omega | (simp only [hNw, hPt]; omega)) only [gn0, gn1, gn2, gn3, gn4, gn5, gp0, gno, gpo] <;> first | rfl | assumption | exact gp0 _ _ _ | exact gn0 _ _)) (by first | rfl | assumption)) rfl (eqr _ (by first | rfl | exact ps | exact lpl (by assumption) | (simp [AV.plain, AV.plains, AV.cells, AV.plain])))) (sco (sld rfl rfl (ldg (n := 5) (by kernel_rfl) (by first | assumption | (simp (disch := first | omega | (simp only [hNw, hPt]; omega)) only [gn0, gn1, gn2, gn3, gn4, gn5, gp0, gno, gpo] <;> first | rfl | assumption | exact gp0 _ _ _ | exact gn0 _ _)) (by first | rfl | assumption)) rfl (eqr _ (by first | rfl | exact ps | exact lpl (by assumption) | (simp [AV.plain, AV.plains, AV.cells, AV.plain])))) rfl)), ?_⟩
  refine OkP.step ?_
  refine OkO.move rfl rfl ?_
  refine OkO.nil ⟨rfl, ?_⟩
  refine OkP.step ?_
  refine OkO.extract rfl rfl rfl ?_
  refine OkO.nil ⟨rfl, ?_⟩
  refine OkP.step ?_
  refine OkO.extract rfl rfl rfl ?_
  refine OkO.nil ⟨rfl, ?_⟩
  refine OkP.step ?_
  refine OkO.extract rfl rfl rfl ?_
  refine OkO.nil ⟨rfl, ?_⟩
  refine OkP.step ?_
  refine OkO.assign rfl rfl ?_
  refine OkO.nil ⟨rfl, ?_⟩
  refine OkP.step ?_
  refine OkO.assign rfl rfl ?_
  refine OkO.nil ⟨rfl, ?_⟩
  refine OkP.step ?_
  refine OkO.assign rfl rfl ?_
  refine OkO.nil ⟨rfl, ?_⟩
  refine OkP.nil ?_
  refine Ok.seq ?_
  refine Ok.region ?_
  refine OkO.move rfl rfl ?_
  refine OkO.load rfl rfl (ldg (n := 5) (by kernel_rfl) (by first | assumption | (simp (disch := first | omega | (simp only [hNw, hPt]; omega)) only [gn0, gn1, gn2, gn3, gn4, gn5, gp0, gno, gpo] <;> first | rfl | assumption | exact gp0 _ _ _ | exact gn0 _ _)) (by first | rfl | assumption)) ?_
  refine OkO.callV rfl rfl rfl rfl rfl ((c47 (m + 2) v l t _ (hS.ext (hE _ (by (try dsimp only); repeat (first | exact gg1 | apply Grow.new | (refine Grow.put ?_ _ (by first | omega | (simp only [hNw, hPt]; omega))))))) (by omega) (fun s hs => by have := hsf.2 s hs; omega)).trans (by rw [he])) ?_ -- "sackung/sackunglaw04.priced"
  refine OkO.assign rfl rfl ?_
  refine OkO.nil ?_
  refine Ok.seq ?_
  refine Ok.seq ?_
  refine Ok.region ?_
  refine OkO.move rfl rfl ?_
  refine OkO.bin rfl rfl rfl (bin_eql _ _) ?_
  refine OkO.move rfl rfl ?_
  refine OkO.load rfl rfl (ldg (n := 3) (by kernel_rfl) (by first | assumption | (simp (disch := first | omega | (simp only [hNw, hPt]; omega)) only [gn0, gn1, gn2, gn3, gn4, gn5, gp0, gno, gpo] <;> first | rfl | assumption | exact gp0 _ _ _ | exact gn0 _ _)) (by first | rfl | assumption)) ?_
  refine OkO.callV rfl rfl rfl rfl rfl ((c41 (m + 7) r _).trans (by rw [hr])) ?_ -- "sackung/sackungref04.RightRule"
  refine OkO.un rfl rfl rfl ?_
  refine OkO.pick (b := true) rfl rfl (fun _ => rfl) nofun ?_
  refine OkO.nil ?_
  refine Ok.condT rfl ?_
  refine Ok.region ?_
  refine OkO.assign rfl rfl ?_
  refine OkO.nil ?_
  refine Ok.seq ?_
  refine Ok.seq ?_
  refine Ok.region ?_
  refine OkO.move rfl rfl ?_
  refine OkO.bin rfl rfl rfl ((bin_neq _ _).trans (congrArg (fun b => some (AV.bool b)) (show _ = true from (by first | rfl | (simp; done) | (simp; omega) | (simp_all; done))))) ?_
  refine OkO.nil ?_
  refine Ok.condT rfl ?_
  refine Ok.seq ?_
  refine Ok.region ?_
  refine OkO.move rfl rfl ?_
  refine OkO.move rfl rfl ?_
  refine OkO.bin rfl rfl rfl ((bin_eql _ _).trans (congrArg (fun b => some (AV.bool b)) (show _ = true from (by first | rfl | (simp; done) | (simp; omega) | (simp_all; done))))) ?_
  refine OkO.move rfl rfl ?_
  refine OkO.move rfl rfl ?_
  refine OkO.bin rfl rfl rfl ((bin_eql _ _).trans (congrArg (fun b => some (AV.bool b)) (show _ = true from (by first | rfl | (simp; done) | (simp; omega) | (simp_all; done))))) ?_
  refine OkO.pick (b := true) rfl rfl (fun _ => rfl) nofun ?_
  refine OkO.move rfl rfl ?_
  refine OkO.move rfl rfl ?_
  refine OkO.un rfl rfl rfl ?_
  refine OkO.pick (b := true) rfl rfl (fun _ => rfl) nofun ?_
  refine OkO.move rfl rfl ?_
  refine OkO.callV rfl rfl rfl rfl rfl (rfl) ?_ -- "sackung/sackunglaw04.awake"
  refine OkO.pick (b := true) rfl rfl (fun _ => rfl) nofun ?_
  refine OkO.assign rfl rfl ?_
  refine OkO.nil ?_
  refine Ok.ret ⟨.inr rfl, ?_⟩
  exact back_flat rfl rfl rfl (by rw [← hW]; exact (by (try dsimp only); repeat (first | exact gg1 | apply Grow.new | (refine Grow.put ?_ _ (by first | omega | (simp only [hNw, hPt]; omega))))))
theorem c7K (m : Nat) (v : AV) (l : List Sea) (t : Trm) (r : Rul) (H : Heap) (hS : SeasAt H v l) (hsh : shortL l = true) (he : termErr l t = 0) (hr : r.ok = true) : RR (m + 10) (.fn 7 [v, .agg t.c, .agg r.c]) H = some (.bool true, H) := by
  refine (R_fn _ _ _ _ _).trans ?_
  refine fn_ok Try.func7 rfl rfl (by kernel_rfl) (by kernel_rfl) ?_
  obtain ⟨W, hW⟩ : ∃ W : Heap, W = ⟨H.t, H.next, H.next⟩ := ⟨_, rfl⟩
  have hg : ∀ n, W.get n = H.get n := fun n => by rw [hW]; rfl
  have hN : W.next = H.next := by rw [hW]
  have hE : ∀ G, Grow W G → Ext H G := fun G g => ⟨by rw [← hN]; exact g.next, fun n k => by rw [g.get n (by rw [hN]; exact k), hg]⟩
  have hG : Grow W W := Grow.refl (by rw [hW]; exact Nat.le_refl _)
  rw [← hW]
  have hlen := hS.len
  have pv := lpl hlen
  have hsf := shortL_facts hsh
  have hf := termErr_facts he
  refine Ok.seq ?_
  refine Ok.region ?_
  refine OkO.box rfl rfl ?_
  refine OkO.box rfl rfl ?_
  refine OkO.assign rfl rfl ?_
  refine OkO.nil ?_
  refine Ok.seq ?_
  refine Ok.seq ?_
  refine Ok.region ?_
  refine OkO.move rfl rfl ?_
  refine OkO.callV rfl rfl rfl rfl rfl ((c43 (m + 8) v l _ (hS.ext (hE _ (by (try dsimp only); repeat (first | exact hG | apply Grow.new | (refine Grow.put ?_ _ (by first | omega | (simp only [hNw, hPt]; omega)))))))).trans (by rw [hsh])) ?_ -- "sackung/sackunglaw04.Short"
  refine OkO.un rfl rfl rfl ?_
  refine OkO.nil ?_
  refine Ok.condF rfl ?_
  refine Ok.skip ?_
  refine Ok.seq ?_
  refine Ok.drawn [(0, true, []), (2, true, []), (4, true, []), (1, false, [4, 2]), (3, false, [4]), (5, false, [2]), (6, false, [4, 2]), (7, true, []), (8, true, []), (9, true, []), (10, true, []), (11, true, []), (12, true, []), (13, true, [])] (by kernel_rfl) ?_
  refine OkP.step ?_
  refine OkO.move rfl rfl ?_
  refine OkO.nil ⟨rfl, ?_⟩
  refine OkP.step ?_
  refine OkO.load rfl rfl (ldg (n := 5) (by kernel_rfl) (by first | assumption | (simp (disch := first | omega | (simp only [hNw, hPt]; omega)) only [gn0, gn1, gn2, gn3, gn4, gn5, gp0, gno, gpo] <;> first | rfl | assumption | exact gp0 _ _ _ | exact gn0 _ _)) (by first | rfl | assumption)) ?_
  refine OkO.nil ⟨rfl, ?_⟩
  refine OkP.step ?_
  refine OkO.load rfl rfl (ldg (n := 3) (by kernel_rfl) (by first | assumption | (simp (disch := first | omega | (simp only [hNw, hPt]; omega)) only [gn0, gn1, gn2, gn3, gn4, gn5, gp0, gno, gpo] <;> first | rfl | assumption | exact gp0 _ _ _ | exact gn0 _ _)) (by first | rfl | assumption)) ?_
  refine OkO.nil ⟨rfl, ?_⟩
  refine OkP.step ?_
  refine OkO.callE rfl rfl rfl rfl rfl (c45 (m + 6) v l _ (hS.ext (hE _ (by (try dsimp only); repeat (first | exact hG | apply Grow.new | (refine Grow.put ?_ _ (by first | omega | (simp only [hNw, hPt]; omega))))))) (by omega) (fun s hs => by have := hsf.2 s hs; omega)) ?_ -- "sackung/sackunglaw04.Seasons"
  rintro wv Ha ⟨qa, ma⟩
  have n1 := qa.ext.next
  try simp only [hNw, hPt] at n1
  have gg1 : Grow W Ha := Grow.ret (by (try dsimp only); repeat (first | exact hG | apply Grow.new | (refine Grow.put ?_ _ (by first | omega | (simp only [hNw, hPt]; omega))))) qa
  have a1 : (Ha.get (W.next)).bind AObj.cs = some t.c := by rw [qa.ext.get _ (by first | omega | (simp only [hNw, hPt]; omega))]; first | assumption | (rw [gn0]; rfl) | (rw [get_put_eq] <;> rfl) | (simp (disch := first | omega | (simp only [hNw, hPt]; omega)) only [gn0, gn1, gn2, gn3, gn4, gn5, gp0, gno, gpo] <;> first | rfl | assumption | (rw [get_put_eq] <;> rfl))
  have bb1 : (Ha.get (W.next + 1)).bind AObj.cs = some r.c := by rw [qa.ext.get _ (by first | omega | (simp only [hNw, hPt]; omega))]; first | assumption | (rw [gn0]; rfl) | (rw [get_put_eq] <;> rfl) | (simp (disch := first | omega | (simp only [hNw, hPt]; omega)) only [gn0, gn1, gn2, gn3, gn4, gn5, gp0, gno, gpo] <;> first | rfl | assumption | (rw [get_put_eq] <;> rfl))
  have hg9 := ma.g
  refine OkO.nil ⟨(sco (sld rfl rfl (ldg (n := 3) (by kernel_rfl) (by first | assumption | (simp (disch := first | omega | (simp only [hNw, hPt]; omega)) only [gn0, gn1, gn2, gn3, gn4, gn5, gp0, gno, gpo] <;> first | rfl | assumption | exact gp0 _ _ _ | exact gn0 _ _)) (by first | rfl | assumption)) rfl (eqr _ (by first | rfl | exact ps | exact lpl (by assumption) | (simp [AV.plain, AV.plains, AV.cells, AV.plain])))) (sco (sld rfl rfl (ldg (n := 5) (by kernel_rfl) (by first | assumption | (simp (disch := first | omega | (simp only [hNw, hPt]; omega)) only [gn0, gn1, gn2, gn3, gn4, gn5, gp0, gno, gpo] <;> first | rfl | assumption | exact gp0 _ _ _ | exact gn0 _ _)) (by first | rfl | assumption)) rfl (eqr _ (by first | rfl | exact ps | exact lpl (by assumption) | (simp [AV.plain, AV.plains, AV.cells, AV.plain])))) rfl)), ?_⟩
  refine OkP.step ?_
  refine OkO.callV rfl rfl rfl rfl rfl (c46 (m + 8) t _) ?_ -- "sackung/sackunglaw04.Terms"
  refine OkO.nil ⟨(sco (sld rfl rfl (ldg (n := 3) (by kernel_rfl) (by first | assumption | (simp (disch := first | omega | (simp only [hNw, hPt]; omega)) only [gn0, gn1, gn2, gn3, gn4, gn5, gp0, gno, gpo] <;> first | rfl | assumption | exact gp0 _ _ _ | exact gn0 _ _)) (by first | rfl | assumption)) rfl (eqr _ (by first | rfl | exact ps | exact lpl (by assumption) | (simp [AV.plain, AV.plains, AV.cells, AV.plain])))) rfl), ?_⟩
  refine OkP.step ?_
  refine OkO.callV rfl rfl rfl rfl rfl (c39 (m + 8) r _) ?_ -- "sackung/sackunglaw04.Rule"
  refine OkO.nil ⟨(sco (sld rfl rfl (ldg (n := 5) (by kernel_rfl) (by first | assumption | (simp (disch := first | omega | (simp only [hNw, hPt]; omega)) only [gn0, gn1, gn2, gn3, gn4, gn5, gp0, gno, gpo] <;> first | rfl | assumption | exact gp0 _ _ _ | exact gn0 _ _)) (by first | rfl | assumption)) rfl (eqr _ (by first | rfl | exact ps | exact lpl (by assumption) | (simp [AV.plain, AV.plains, AV.cells, AV.plain])))) rfl), ?_⟩
  refine OkP.step ?_
  refine OkO.callV rfl rfl rfl rfl rfl (c44K (m + 1) wv l t r _ (hg9.ext (by (try dsimp only); repeat (first | exact Ext.refl _ | exact Ext.refl _ | apply Ext.new | (refine Ext.put ?_ _ (by first | omega | (simp only [hNw, hPt]; omega)))))) (by omega) (fun s hs => by have := hsf.2 s hs; omega) he hr) ?_ -- "sackung/alarm.Price"
  refine OkO.nil ⟨(sco (sld rfl rfl (ldg (n := 3) (by kernel_rfl) (by first | assumption | (simp (disch := first | omega | (simp only [hNw, hPt]; omega)) only [gn0, gn1, gn2, gn3, gn4, gn5, gp0, gno, gpo] <;> first | rfl | assumption | exact gp0 _ _ _ | exact gn0 _ _)) (by first | rfl | assumption)) rfl (eqr _ (by first | rfl | exact ps | exact lpl (by assumption) | (simp [AV.plain, AV.plains, AV.cells, AV.plain])))) (sco (sld rfl rfl (ldg (n := 5) (by kernel_rfl) (by first | assumption | (simp (disch := first | omega | (simp only [hNw, hPt]; omega)) only [gn0, gn1, gn2, gn3, gn4, gn5, gp0, gno, gpo] <;> first | rfl | assumption | exact gp0 _ _ _ | exact gn0 _ _)) (by first | rfl | assumption)) rfl (eqr _ (by first | rfl | exact ps | exact lpl (by assumption) | (simp [AV.plain, AV.plains, AV.cells, AV.plain])))) rfl)), ?_⟩
  refine OkP.step ?_
  refine OkO.move rfl rfl ?_
  refine OkO.nil ⟨rfl, ?_⟩
  refine OkP.step ?_
  refine OkO.extract rfl rfl rfl ?_
  refine OkO.nil ⟨rfl, ?_⟩
  refine OkP.step ?_
  refine OkO.extract rfl rfl rfl ?_
  refine OkO.nil ⟨rfl, ?_⟩
  refine OkP.step ?_
  refine OkO.extract rfl rfl rfl ?_
  refine OkO.nil ⟨rfl, ?_⟩
  refine OkP.step ?_
  refine OkO.assign rfl rfl ?_
  refine OkO.nil ⟨rfl, ?_⟩
  refine OkP.step ?_
  refine OkO.assign rfl rfl ?_
  refine OkO.nil ⟨rfl, ?_⟩
  refine OkP.step ?_
  refine OkO.assign rfl rfl ?_
  refine OkO.nil ⟨rfl, ?_⟩
  refine OkP.nil ?_
  refine Ok.seq ?_
  refine Ok.region ?_
  refine OkO.move rfl rfl ?_
  refine OkO.load rfl rfl (ldg (n := 5) (by kernel_rfl) (by first | assumption | (simp (disch := first | omega | (simp only [hNw, hPt]; omega)) only [gn0, gn1, gn2, gn3, gn4, gn5, gp0, gno, gpo] <;> first | rfl | assumption | exact gp0 _ _ _ | exact gn0 _ _)) (by first | rfl | assumption)) ?_
  refine OkO.callV rfl rfl rfl rfl rfl ((c47 (m + 2) v l t _ (hS.ext (hE _ (by (try dsimp only); repeat (first | exact gg1 | apply Grow.new | (refine Grow.put ?_ _ (by first | omega | (simp only [hNw, hPt]; omega))))))) (by omega) (fun s hs => by have := hsf.2 s hs; omega)).trans (by rw [he])) ?_ -- "sackung/sackunglaw04.priced"
  refine OkO.assign rfl rfl ?_
  refine OkO.nil ?_
  refine Ok.seq ?_
  refine Ok.seq ?_
  refine Ok.region ?_
  refine OkO.move rfl rfl ?_
  refine OkO.bin rfl rfl rfl (bin_eql _ _) ?_
  refine OkO.move rfl rfl ?_
  refine OkO.load rfl rfl (ldg (n := 3) (by kernel_rfl) (by first | assumption | (simp (disch := first | omega | (simp only [hNw, hPt]; omega)) only [gn0, gn1, gn2, gn3, gn4, gn5, gp0, gno, gpo] <;> first | rfl | assumption | exact gp0 _ _ _ | exact gn0 _ _)) (by first | rfl | assumption)) ?_
  refine OkO.callV rfl rfl rfl rfl rfl ((c41 (m + 7) r _).trans (by rw [hr])) ?_ -- "sackung/sackungref04.RightRule"
  refine OkO.un rfl rfl rfl ?_
  refine OkO.pick (b := true) rfl rfl (fun _ => rfl) nofun ?_
  refine OkO.nil ?_
  refine Ok.condF rfl ?_
  refine Ok.skip ?_
  refine Ok.seq ?_
  refine Ok.seq ?_
  refine Ok.region ?_
  refine OkO.move rfl rfl ?_
  refine OkO.bin rfl rfl rfl (bin_neq _ _) ?_
  refine OkO.nil ?_
  refine Ok.condF rfl ?_
  refine Ok.skip ?_
  refine Ok.seq ?_
  refine Ok.region ?_
  refine OkO.move rfl rfl ?_
  refine OkO.load rfl rfl (ldg (n := 5) (by kernel_rfl) (by first | assumption | (simp (disch := first | omega | (simp only [hNw, hPt]; omega)) only [gn0, gn1, gn2, gn3, gn4, gn5, gp0, gno, gpo] <;> first | rfl | assumption | exact gp0 _ _ _ | exact gn0 _ _)) (by first | rfl | assumption)) ?_
  refine OkO.load rfl rfl (ldg (n := 3) (by kernel_rfl) (by first | assumption | (simp (disch := first | omega | (simp only [hNw, hPt]; omega)) only [gn0, gn1, gn2, gn3, gn4, gn5, gp0, gno, gpo] <;> first | rfl | assumption | exact gp0 _ _ _ | exact gn0 _ _)) (by first | rfl | assumption)) ?_
  refine OkO.callV rfl rfl rfl rfl rfl (c48 (m + 7) v l t r _ (hS.ext (hE _ (by (try dsimp only); repeat (first | exact gg1 | apply Grow.new | (refine Grow.put ?_ _ (by first | omega | (simp only [hNw, hPt]; omega))))))) hf.2.1 hf.2.2.1 hf.1 hr) ?_ -- "sackung/sackungref04.Price"
  refine OkO.move rfl rfl ?_
  refine OkO.extract rfl rfl rfl ?_
  refine OkO.extract rfl rfl rfl ?_
  refine OkO.assign rfl rfl ?_
  refine OkO.assign rfl rfl ?_
  refine OkO.nil ?_
  refine Ok.seq ?_
  refine Ok.region ?_
  refine OkO.move rfl rfl ?_
  refine OkO.bin rfl rfl rfl (bin_eql _ _) ?_
  refine OkO.move rfl rfl ?_
  refine OkO.move rfl rfl ?_
  refine OkO.move rfl rfl ?_
  refine OkO.bin rfl rfl rfl ((bin_eql _ _).trans (congrArg (fun b => some (AV.bool b)) (show _ = true from (by first | rfl | (simp; done) | (simp; omega) | (simp_all; done))))) ?_
  refine OkO.pick (b := true) rfl rfl (fun _ => rfl) nofun ?_
  refine OkO.move rfl rfl ?_
  refine OkO.move rfl rfl ?_
  refine OkO.move rfl rfl ?_
  refine OkO.binT rfl rfl rfl ((bin4 _ _).trans (congrArg (fun b => some (AV.bool b)) (show _ = true from (by first | rfl | (simp; done) | (simp; omega) | (simp_all; done))))) ?_
  refine OkO.pick (b := true) rfl rfl (fun _ => rfl) nofun ?_
  refine OkO.move rfl rfl ?_
  refine OkO.callV rfl rfl rfl rfl rfl (rfl) ?_ -- "sackung/sackunglaw04.awake"
  refine OkO.pick (b := true) rfl rfl (fun _ => rfl) nofun ?_
  refine OkO.assign rfl rfl ?_
  refine OkO.nil ?_
  refine Ok.ret ⟨.inr rfl, ?_⟩
  exact back_flat rfl rfl rfl (by rw [← hW]; exact (by (try dsimp only); repeat (first | exact gg1 | apply Grow.new | (refine Grow.put ?_ _ (by first | omega | (simp only [hNw, hPt]; omega))))))
theorem c7W (m : Nat) (v : AV) (l : List Sea) (t : Trm) (r : Rul) (H : Heap) (hS : SeasAt H v l) (hsh : shortL l = false) : RR (m + 10) (.fn 7 [v, .agg t.c, .agg r.c]) H = some (.bool true, H) := by
  refine (R_fn _ _ _ _ _).trans ?_
  refine fn_ok Try.func7 rfl rfl (by kernel_rfl) (by kernel_rfl) ?_
  obtain ⟨W, hW⟩ : ∃ W : Heap, W = ⟨H.t, H.next, H.next⟩ := ⟨_, rfl⟩
  have hg : ∀ n, W.get n = H.get n := fun n => by rw [hW]; rfl
  have hN : W.next = H.next := by rw [hW]
  have hE : ∀ G, Grow W G → Ext H G := fun G g => ⟨by rw [← hN]; exact g.next, fun n k => by rw [g.get n (by rw [hN]; exact k), hg]⟩
  have hG : Grow W W := Grow.refl (by rw [hW]; exact Nat.le_refl _)
  rw [← hW]
  refine Ok.seq ?_
  refine Ok.region ?_
  refine OkO.box rfl rfl ?_
  refine OkO.box rfl rfl ?_
  refine OkO.assign rfl rfl ?_
  refine OkO.nil ?_
  refine Ok.seq ?_
  refine Ok.seq ?_
  refine Ok.region ?_
  refine OkO.move rfl rfl ?_
  refine OkO.callV rfl rfl rfl rfl rfl ((c43 (m + 8) v l _ (hS.ext (hE _ (by (try dsimp only); repeat (first | exact hG | apply Grow.new | (refine Grow.put ?_ _ (by first | omega | (simp only [hNw, hPt]; omega)))))))).trans (by rw [hsh])) ?_ -- "sackung/sackunglaw04.Short"
  refine OkO.un rfl rfl rfl ?_
  refine OkO.nil ?_
  refine Ok.condT rfl ?_
  refine Ok.seq ?_
  refine Ok.region ?_
  refine OkO.callV rfl rfl rfl rfl rfl (rfl) ?_ -- "sackung/sackunglaw04.awake"
  refine OkO.assign rfl rfl ?_
  refine OkO.nil ?_
  refine Ok.ret ⟨.inr rfl, ?_⟩
  exact back_flat rfl rfl rfl (by rw [← hW]; exact (by (try dsimp only); repeat (first | exact hG | apply Grow.new | (refine Grow.put ?_ _ (by first | omega | (simp only [hNw, hPt]; omega))))))
theorem c7 (m : Nat) (v : AV) (l : List Sea) (t : Trm) (r : Rul) (H : Heap) (hS : SeasAt H v l) : RR (m + 10) (.fn 7 [v, .agg t.c, .agg r.c]) H = some (.bool true, H) := by
  cases hsh : shortL l with
  | false => exact c7W m v l t r H hS hsh
  | true =>
    by_cases he : termErr l t = 0
    · cases hr : r.ok with
      | false => exact c7R m v l t r H hS hsh he hr
      | true => exact c7K m v l t r H hS hsh he hr
    · exact c7E m v l t r H hS hsh he
end
end Go.Ev

