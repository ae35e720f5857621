/-
  Rules of the evaluator, more of them.
-/
import Derived.Test.YtibplmibcbillaaVN
import Derived.Test.YtibplmibcbillaaV34
import Derived.Test.YtibplmibcbillaaV33
set_option maxRecDepth 100000
set_option linter.unusedSimpArgs false
set_option linter.unusedVariables false
namespace Go.Ev
open Go Go.Proofs
noncomputable section
/-- Is a cell's level, with a pump, at most so great after each day, in each truth? -/
def keepsB (cs : List Cell) (g : Gr) (ds : List Day) (k : Nat) (x p : Int) : Bool := decide ((firstD (fun j => (levP (setP cs k p) g ds (highT g) (highL (setP cs k p)) (highR ds) (j + 1)).getD k 0) (x + 1) ds.length) < 0)
end
end Go.Ev

set_option maxRecDepth 100000
set_option linter.unusedSimpArgs false
set_option linter.unusedVariables false
namespace Go.Ev
open Go Go.Proofs
noncomputable section
theorem eq35 {H : Heap} {v : AV} {sz : Nat} {l : List (List AV)} (h : Row H v sz l) (hl : 0 < l.length) : binT Try.prog .eql 35 v .nils = some (.bool false) := by
  obtain ⟨b, off, cs, h1, _⟩ := h.at_ 0 l[0] (by simp [hl])
  cases v with
  | slice a b c d => kernel_rfl
  | opn a b => kernel_rfl
  | tail a b c d => kernel_rfl
  | _ => simp [slAt] at h1
theorem c100 (m : Nat) (cv : AV) (cs : List Cell) (H : Heap) (hR : Row H cv 7 (cs.map Cell.c)) (hbig : cs.length ≤ 1000) (hk : 0 < cs.length) : ∃ v H', RR (m + 1) (.fn 100 [cv]) H = some (v, H') ∧ ∃ b, v = .opn b cs.length ∧ H.next ≤ b ∧ b < H'.next ∧ Ret H H' ∧ H'.get b = some (.opn ((cs.map Cell.c).flatten) 80 7) := by
  show ∃ v H', evFn Try.prog (RR (m + 0)) 100 [cv] H = some (v, H') ∧ ∃ b, v = .opn b cs.length ∧ H.next ≤ b ∧ b < H'.next ∧ Ret H H' ∧ H'.get b = some (.opn ((cs.map Cell.c).flatten) 80 7)
  refine fn_okE Try.func100 rfl rfl (by kernel_rfl) (by kernel_rfl) ?_
  obtain ⟨W, hW⟩ : ∃ W : Heap, W = ⟨H.t, H.next, H.next⟩ := ⟨_, rfl⟩
  have hg : ∀ n, W.get n = H.get n := fun n => by rw [hW]; rfl
  have hN : W.next = H.next := by rw [hW]
  have hE : ∀ G, Grow W G → Ext H G := fun G g => ⟨by rw [← hN]; exact g.next, fun n k => by rw [g.get n (by rw [hN]; exact k), hg]⟩
  have hG : Grow W W := Grow.refl (by rw [hW]; exact Nat.le_refl _)
  rw [← hW]
  have hlc : lenOf cv = some cs.length := by simpa using hR.len
  have pc := lpl hlc
  refine Ok.seq ?_
  refine Ok.region ?_
  refine OkO.assign rfl rfl ?_
  refine OkO.nil ?_
  refine Ok.seq ?_
  refine Ok.seq ?_
  refine Ok.region ?_
  refine OkO.move rfl rfl ?_
  refine OkO.binT rfl rfl rfl (eq35 (hR.ext (hE _ (by (try dsimp only); repeat (first | exact hG | apply Grow.new | (refine Grow.put ?_ _ (by first | omega | (simp only [hNw, hPt]; omega))))))) (by simp; omega)) ?_
  refine OkO.nil ?_
  refine Ok.cond rfl (fun h1 => ?_) (fun h1 => ?_)
  · -- yes h1
    exact absurd h1 (by simp)
  · -- no h1
    refine Ok.skip ?_
    refine Ok.seq ?_
    refine Ok.region ?_
    refine OkO.buildSlice (el := 80) (sz := 7) (z := [.int .i64 0, .int .i64 0, .int .i64 0, .int .i64 0, .int .i64 0, .int .i64 0, .int .i64 0]) rfl (by kernel_rfl) (by decide) rfl rfl ?_
    refine OkO.move rfl rfl ?_
    refine OkO.builtinE rfl rfl rfl (app_lit3 (el := 80) (sz := 7) (by_ := 56) (e := 80) (rows := cs.map Cell.c) (b := W.next + 1) (n := cs.length) (by kernel_rfl) (by kernel_rfl) ((hR.ext (hE _ (by (try dsimp only); repeat (first | exact hG | apply Grow.new | (refine Grow.put ?_ _ (by first | omega | (simp only [hNw, hPt]; omega))))))).ext (Grow.toNew _ _)) (fun x hx => by simp only [List.mem_map] at hx; obtain ⟨y, _, rfl⟩ := hx; rfl) (by simp; omega) (by omega) (atoms_cells cs) (by simpa using (by omega : 0 < cs.length)) (by simp only [hNw, hPt]) (by simp)) ?_
    rintro v2 G2 ⟨rfl, f1, f2, f3, f4⟩
    have gG2 : Grow W G2 := f4 W (by (try dsimp only); repeat (first | exact hG | apply Grow.new | (refine Grow.put ?_ _ (by first | omega | (simp only [hNw, hPt]; omega)))))
    refine OkO.assign rfl rfl ?_
    refine OkO.nil ?_
    refine Ok.ret ⟨.inr rfl, ?_⟩
    refine back_newQ (resV_tmp rfl resV_nil) rfl (by rw [← hW]; exact gG2) rfl (fun H' q1 q2 q3 => ⟨W.next + 1, rfl, by omega, by rw [q3]; omega, q1, by rw [q2]; exact f1⟩)
end
end Go.Ev

set_option maxRecDepth 100000
set_option linter.unusedSimpArgs false
set_option linter.unusedVariables false
namespace Go.Ev
open Go Go.Proofs
noncomputable section
theorem c69 (m : Nat) (cv : AV) (cs : List Cell) (g : Gr) (k : Nat) (p : Int) (H : Heap) (hR : Row H cv 7 (cs.map Cell.c)) (hbig : cs.length ≤ 1000) (hk : k < cs.length) : ∃ v H', RR (m + 2) (.fn 69 [.agg [cv, I g.slo, I g.shi, I g.klo, I g.khi, I g.melt], I (k : Int), I p]) H = some (v, H') ∧ ∃ cv', v = .agg [cv', I g.slo, I g.shi, I g.klo, I g.khi, I g.melt] ∧ Ret H H' ∧ Fr H.next H'.next H' (fun X => Row X cv' 7 ((setP cs k p).map Cell.c)) ∧ cv'.atom = true := by
  show ∃ v H', evFn Try.prog (RR (m + 1)) 69 [.agg [cv, I g.slo, I g.shi, I g.klo, I g.khi, I g.melt], I (k : Int), I p] H = some (v, H') ∧ ∃ cv', v = .agg [cv', I g.slo, I g.shi, I g.klo, I g.khi, I g.melt] ∧ Ret H H' ∧ Fr H.next H'.next H' (fun X => Row X cv' 7 ((setP cs k p).map Cell.c)) ∧ cv'.atom = true
  refine fn_okE Try.func69 rfl rfl (by kernel_rfl) (by kernel_rfl) ?_
  obtain ⟨W, hW⟩ : ∃ W : Heap, W = ⟨H.t, H.next, H.next⟩ := ⟨_, rfl⟩
  have hg : ∀ n, W.get n = H.get n := fun n => by rw [hW]; rfl
  have hN : W.next = H.next := by rw [hW]
  have hE : ∀ G, Grow W G → Ext H G := fun G g => ⟨by rw [← hN]; exact g.next, fun n k => by rw [g.get n (by rw [hN]; exact k), hg]⟩
  have hG : Grow W W := Grow.refl (by rw [hW]; exact Nat.le_refl _)
  rw [← hW]
  have hlc : lenOf cv = some cs.length := by simpa using hR.len
  have pc := lpl hlc
  have spp := spl_pump cs k p hk
  refine Ok.seq ?_
  refine Ok.region ?_
  refine OkO.box rfl rfl ?_
  refine OkO.alloc (z := [.nils, .int .i64 0, .int .i64 0, .int .i64 0, .int .i64 0, .int .i64 0]) rfl (by kernel_rfl) ?_
  refine OkO.nil ?_
  refine Ok.seq ?_
  refine Ok.region ?_
  refine OkO.fieldAddr (o := 0) rfl (by kernel_rfl) rfl ?_
  refine OkO.load rfl rfl (lda (n := 1) (by kernel_rfl) (by first | assumption | (simp (disch := first | omega | (simp only [hNw, hPt]; omega)) only [gn0, gn1, gn2, gn3, gn4, gn5, gp0, gno, gpo] <;> first | rfl | assumption)) (by first | rfl | assumption)) ?_
  refine OkO.callE rfl rfl rfl rfl rfl (c100 m cv cs _ (hR.ext (hE _ (by (try dsimp only); repeat (first | exact hG | apply Grow.new | (refine Grow.put ?_ _ (by first | omega | (simp only [hNw, hPt]; omega))))))) (by omega) (by omega)) ?_ -- "slices.Clone[[]sackung/water.Cell,sackung/water.Cell]"
  rintro vC HC ⟨b, rfl, b1, b2, qC, f1⟩
  simp only [hNw, hPt, Nat.add_assoc, Nat.reduceAdd] at b1 ⊢
  have gC : Grow W HC := Grow.ret (by (try dsimp only); repeat (first | exact hG | apply Grow.new | (refine Grow.put ?_ _ (by first | omega | (simp only [hNw, hPt]; omega))))) qC
  have y2 : HC.get W.next = some (.cells [cv, I g.slo, I g.shi, I g.klo, I g.khi, I g.melt] 38) := by rw [qC.ext.get _ (by simp only [hNw]; omega)]; (simp (disch := first | omega | (simp only [hNw, hPt]; omega)) only [gn0, gn1, gn2, gn3, gn4, gn5, gp0, gno, gpo] <;> first | rfl | assumption)
  have y1 : HC.get (W.next + 1) = some (.cells [.nils, I 0, I 0, I 0, I 0, I 0] 38) := by rw [qC.ext.get _ (by simp only [hNw]; omega)]; first | exact gn1 _ _ _ | exact gn0 _ _ _ | (simp (disch := first | omega | (simp only [hNw, hPt]; omega)) only [gn0, gn1, gn2, gn3, gn4, gn5, gp0, gno, gpo] <;> first | rfl | assumption)
  have hsa : slAt (.opn b cs.length) 7 k = some (b, k * 7) := by (unfold slAt; dsimp only; rw [if_pos hk])
  refine OkO.fieldAddr (o := 0) rfl (by kernel_rfl) rfl ?_
  refine OkO.store rfl rfl rfl (stc (n := 1) (ag := false) (by kernel_rfl) (by first | assumption | (simp (disch := first | omega | (simp only [hNw, hPt]; omega)) only [gn0, gn1, gn2, gn3, gn4, gn5, gp0, gno, gpo] <;> first | rfl | assumption)) rfl rfl (by first | rfl | exact spl_set _ _ _ (by first | assumption | (simp; omega)))) ?_
  refine OkO.nil ?_
  refine Ok.seq ?_
  refine Ok.region ?_
  refine OkO.fieldAddr (o := 0) rfl (by kernel_rfl) rfl ?_
  refine OkO.load rfl rfl (lda (n := 1) (by kernel_rfl) (by first | assumption | (simp (disch := first | omega | (simp only [hNw, hPt]; omega)) only [gn0, gn1, gn2, gn3, gn4, gn5, gp0, gno, gpo] <;> first | rfl | assumption)) (by first | rfl | assumption)) ?_
  refine OkO.move rfl rfl ?_
  refine OkO.move rfl rfl ?_
  refine OkO.index (sz := 7) (n := k) rfl rfl rfl (by kernel_rfl) (by first | assumption | rfl | exact slAt_slice (by omega)) ?_ -- index ('Go.Operand.tmp', 12) ('Go.Operand.tmp', 13)
  refine OkO.fieldAddr (o := 6) rfl (by kernel_rfl) rfl ?_
  refine OkO.store rfl rfl rfl (storeAt_opn (n := 1) (ag := false) (e := 80) (sz := 7) (by kernel_rfl) (by rw [gpo _ _ _ _ (by omega)]; exact f1) rfl rfl spp) ?_
  refine OkO.nil ?_
  refine Ok.seq ?_
  refine Ok.region ?_
  refine OkO.load rfl rfl (ldg (n := 6) (by kernel_rfl) (by first | assumption | (simp (disch := first | omega | (simp only [hNw, hPt]; omega)) only [gn0, gn1, gn2, gn3, gn4, gn5, gp0, gno, gpo] <;> first | rfl | assumption)) (by first | rfl | assumption)) ?_
  refine OkO.store rfl rfl rfl (stc (n := 6) (ag := true) (by kernel_rfl) (by first | assumption | (simp (disch := first | omega | (simp only [hNw, hPt]; omega)) only [gn0, gn1, gn2, gn3, gn4, gn5, gp0, gno, gpo] <;> first | rfl | assumption)) rfl rfl (by first | rfl | exact spl_set _ _ _ (by first | assumption | (simp; omega)))) ?_
  refine OkO.nil ?_
  refine Ok.ret ⟨.inr rfl, ?_⟩
  refine back_newA (resV_cell (b := W.next + 1) (off := 0) rfl (ldg (n := 6) (by kernel_rfl) (by rw [gp0]; rfl) rfl) resV_nil) rfl (by rw [← hW]; exact Grow.put (Grow.put (Grow.put gC _ (by omega)) _ (by omega)) _ (by omega)) (fun H2 r2 r3 => ⟨.opn b cs.length, rfl, r2, ?_, rfl⟩)
  have hmp : Mine W.next (((HC.put W.next (.cells [.opn b cs.length, I g.slo, I g.shi, I g.klo, I g.khi, I g.melt] 38)).put b (.opn ((setP cs k p).map Cell.c).flatten 80 7)).put (W.next + 1) (.cells [.opn b cs.length, I g.slo, I g.shi, I g.klo, I g.khi, I g.melt] 38)) (.opn b cs.length) 80 7 ((setP cs k p).map Cell.c).flatten := .inr ⟨b, cs.length, rfl, by rw [gpo _ _ _ _ (by omega), gp0], by rw [flat_len _ 7 (fun x hx => by simp only [List.mem_map] at hx; obtain ⟨y, _, rfl⟩ := hx; rfl)]; simp [setP_len], by omega, by simp only [hPt]; omega⟩
  exact Mine.backF (H := H) (by rw [← hN]; exact hmp) (fun x hx => by simp only [List.mem_map] at hx; obtain ⟨y, _, rfl⟩ := hx; rfl) (by omega) (r3.imp (fun h => ⟨h.1, flatA h.2⟩) id)
end
end Go.Ev

set_option maxRecDepth 100000
set_option linter.unusedSimpArgs false
set_option linter.unusedVariables false
namespace Go.Ev
open Go Go.Proofs
noncomputable section
theorem eight {l : List Int} (h : l.length = 8) : ∃ a0 a1 a2 a3 a4 a5 a6 a7 : Int, l = [a0, a1, a2, a3, a4, a5, a6, a7] := by
  match l, h with
  | [a0, a1, a2, a3, a4, a5, a6, a7], _ => exact ⟨a0, a1, a2, a3, a4, a5, a6, a7, rfl⟩
theorem c102 (m : Nat) (l : List Int) (o s : Int) (bc bl k : Nat) (x : Int) (H : Heap) (hl8 : l.length = 8) (hbc : (H.get bc).bind AObj.cs = some [I (k : Int)]) (hbl : (H.get bl).bind AObj.cs = some [I x]) (hc1 : bc < H.next) (hl1 : bl < H.next) (hk8 : k < 8) : RR (m + 1) (.fn 102 [.agg (l.map I ++ [I o, I s]), .ptr bc 0, .ptr bl 0]) H = some (.bool (decide (l.getD k 0 ≤ x)), H) := by
  refine (R_fn _ _ _ _ _).trans ?_
  refine fn_ok Try.func102 rfl rfl (by kernel_rfl) (by kernel_rfl) ?_
  obtain ⟨W, hW⟩ : ∃ W : Heap, W = ⟨H.t, H.next, H.next⟩ := ⟨_, rfl⟩
  have hg : ∀ n, W.get n = H.get n := fun n => by rw [hW]; rfl
  have hN : W.next = H.next := by rw [hW]
  have hE : ∀ G, Grow W G → Ext H G := fun G g => ⟨by rw [← hN]; exact g.next, fun n k => by rw [g.get n (by rw [hN]; exact k), hg]⟩
  have hG : Grow W W := Grow.refl (by rw [hW]; exact Nat.le_refl _)
  rw [← hW]
  have hbcW : (W.get bc).bind AObj.cs = some [I (k : Int)] := by rw [hg]; exact hbc
  have hblW : (W.get bl).bind AObj.cs = some [I x] := by rw [hg]; exact hbl
  have hl9 : (l.map I ++ [I o, I s])[0 + k * 1]? = some (I (l.getD k 0)) := by rw [Nat.zero_add, Nat.mul_one, List.getElem?_append_left (by simp; omega), List.getElem?_map, List.getElem?_eq_getElem (by omega), getD_lt (by omega)]; rfl
  refine Ok.seq ?_
  refine Ok.region ?_
  refine OkO.box rfl rfl ?_
  refine OkO.assign rfl rfl ?_
  refine OkO.nil ?_
  refine Ok.seq ?_
  refine Ok.drawn [(0, true, []), (1, true, []), (2, true, []), (3, true, []), (4, true, []), (5, true, []), (6, true, [])] (by kernel_rfl) ?_
  refine OkP.step ?_
  refine OkO.load rfl rfl (lda (n := 1) (by kernel_rfl) (by first | assumption | (simp (disch := first | omega | (simp only [hNw, hPt]; omega)) only [gn0, gn1, gn2, gn3, gn4, gn5, gp0, gno, gpo] <;> first | rfl | assumption)) (by first | rfl | assumption)) ?_
  refine OkO.nil ⟨rfl, ?_⟩
  refine OkP.step ?_
  refine OkO.fieldAddr (o := 0) rfl (by kernel_rfl) rfl ?_
  refine OkO.nil ⟨rfl, ?_⟩
  refine OkP.step ?_
  refine OkO.indexArr (len := 8) (sz := 1) (n := k) rfl rfl rfl (by kernel_rfl) (by omega) ?_
  refine OkO.nil ⟨rfl, ?_⟩
  refine OkP.step ?_
  refine OkO.load rfl rfl (lda (n := 1) (by kernel_rfl) (by first | assumption | (simp (disch := first | omega | (simp only [hNw, hPt]; omega)) only [gn0, gn1, gn2, gn3, gn4, gn5, gp0, gno, gpo] <;> first | rfl | assumption)) (by first | rfl | assumption)) ?_
  refine OkO.nil ⟨rfl, ?_⟩
  refine OkP.step ?_
  refine OkO.load rfl rfl (lda (n := 1) (by kernel_rfl) (by first | assumption | (simp (disch := first | omega | (simp only [hNw, hPt]; omega)) only [gn0, gn1, gn2, gn3, gn4, gn5, gp0, gno, gpo] <;> first | rfl | assumption)) (by first | rfl | assumption)) ?_
  refine OkO.nil ⟨rfl, ?_⟩
  refine OkP.step ?_
  refine OkO.bin rfl rfl rfl (bin_leq _ _) ?_
  refine OkO.nil ⟨rfl, ?_⟩
  refine OkP.step ?_
  refine OkO.assign rfl rfl ?_
  refine OkO.nil ⟨rfl, ?_⟩
  refine OkP.nil ?_
  refine Ok.ret ⟨.inr rfl, ?_⟩
  exact back_flat rfl (congrArg AV.bool rfl) rfl (by rw [← hW]; exact (by (try dsimp only); repeat (first | exact hG | apply Grow.new | (refine Grow.put ?_ _ (by first | omega | (simp only [hNw, hPt]; omega))))))
theorem c101 (m : Nat) (v : AV) (n : Nat) (ev : Nat → List Int) (o s : Nat → Int) (bc bl k : Nat) (x : Int) (H : Heap) (hR : Row H v 10 ((List.range n).map fun i9 => (ev i9).map I ++ [I (o i9), I (s i9)])) (hl : n ≤ 1000) (hev : ∀ i, i < n → (ev i).length = 8) (hbc : (H.get bc).bind AObj.cs = some [I (k : Int)]) (hbl : (H.get bl).bind AObj.cs = some [I x]) (hc1 : bc < H.next) (hl1 : bl < H.next) (hk8 : k < 8) : RR (m + 2) (.fn 101 [v, .fn 102 [] [.ptr bc 0, .ptr bl 0]]) H = some (.bool ((List.range n).all fun i9 => decide ((ev i9).getD k 0 ≤ x)), H) := by
  refine (R_fn _ _ _ _ _).trans ?_
  refine fn_ok Try.func101 rfl rfl (by kernel_rfl) (by kernel_rfl) ?_
  obtain ⟨W, hW⟩ : ∃ W : Heap, W = ⟨H.t, H.next, H.next⟩ := ⟨_, rfl⟩
  have hg : ∀ n, W.get n = H.get n := fun n => by rw [hW]; rfl
  have hN : W.next = H.next := by rw [hW]
  have hE : ∀ G, Grow W G → Ext H G := fun G g => ⟨by rw [← hN]; exact g.next, fun n k => by rw [g.get n (by rw [hN]; exact k), hg]⟩
  have hG : Grow W W := Grow.refl (by rw [hW]; exact Nat.le_refl _)
  rw [← hW]
  have hlen : lenOf v = some n := by rw [hR.len]; simp
  refine Ok.seq ?_
  refine Ok.region ?_
  refine OkO.assign rfl rfl ?_
  refine OkO.nil ?_
  refine Ok.seq ?_
  refine Ok.seq ?_
  refine Ok.region ?_
  refine OkO.move rfl rfl ?_
  refine OkO.builtin rfl rfl rfl (bln (by kernel_rfl) (by first | assumption | rfl)) ?_
  refine OkO.move rfl rfl ?_
  refine OkO.nil ?_
  refine Ok.block ?_
  refine Ok.loop (fun n9 s_ => ∃ i : Nat, n9 = n - i ∧ i ≤ n ∧ (∀ j, j < i → (ev j).getD k 0 ≤ x) ∧ Has 5 [(1, .fn 102 [] [.ptr bc 0, .ptr bl 0]), (4, .bool false), (7, v), (8, I n), (9, I (i : Int))] s_.T ∧ s_.D = [] ∧ Grow W s_.H) (n) (by unfold loopFuel; omega)
    ⟨0, rfl, Nat.zero_le _, nofun, Has.of (by kernel_rfl), rfl, hG⟩ ?_
  rintro n9 ⟨T, D, G⟩ ⟨i, hn, hi, hall, ⟨f, hT⟩, hD, hg⟩
  dsimp only at *
  subst hT hD
  have hgn := hg.next
  refine Ok.seq ?_
  refine Ok.region ?_
  refine OkO.bin rfl rfl rfl (bin_lss _ _) ?_
  refine OkO.nil ?_
  refine Ok.seq ?_
  refine Ok.cond rfl (fun h1 => ?_) (fun h1 => ?_)
  · -- yes h1
    have hlt : i < n := by simpa using h1
    obtain ⟨bb, off, cs, i1, i2, i3, i4⟩ := (hR.ext (hE _ hg)).at_ i ((ev i).map I ++ [I (o i), I (s i)]) (by rw [List.getElem?_map, List.getElem?_range hlt]; rfl)
    obtain ⟨a0, a1, a2, a3, a4, a5, a6, a7, he8⟩ := eight (hev i hlt)
    rw [he8] at i3
    have hne : bb ≠ G.next := by omega
    have hcb : (G.get bc).bind AObj.cs = some [I (k : Int)] := by rw [(hE _ hg).get _ hc1]; exact hbc
    have hlb : (G.get bl).bind AObj.cs = some [I x] := by rw [(hE _ hg).get _ hl1]; exact hbl
    have hgx : H.next ≤ G.next := (hE _ hg).next
    refine Ok.skip ?_
    refine Ok.seq ?_
    refine Ok.block ?_
    refine Ok.seq ?_
    refine Ok.region ?_
    refine OkO.index (sz := 10) (n := i) rfl rfl rfl (by kernel_rfl) (by first | assumption | rfl | exact slAt_slice (by omega)) ?_ -- index ('Go.Operand.tmp', 7) ('Go.Operand.tmp', 9)
    refine OkO.load rfl rfl (ldg (n := 10) (by kernel_rfl) (by first | assumption | (simp (disch := first | omega | (simp only [hNw, hPt]; omega)) only [gn0, gn1, gn2, gn3, gn4, gn5, gp0, gno, gpo] <;> first | rfl | assumption)) (by first | rfl | assumption)) ?_
    refine OkO.alloc (z := [.int .i64 0, .int .i64 0, .int .i64 0, .int .i64 0, .int .i64 0, .int .i64 0, .int .i64 0, .int .i64 0, .int .i64 0, .int .i64 0]) rfl (by kernel_rfl) ?_
    refine OkO.store rfl rfl rfl (stc (n := 10) (ag := true) (by kernel_rfl) (by first | assumption | (simp (disch := first | omega | (simp only [hNw, hPt]; omega)) only [gn0, gn1, gn2, gn3, gn4, gn5, gp0, gno, gpo] <;> first | rfl | assumption)) rfl rfl (by first | rfl | exact spl_set _ _ _ (by first | assumption | (simp; omega)))) ?_
    refine OkO.nil ?_
    refine Ok.seq ?_
    refine Ok.region ?_
    refine OkO.move rfl rfl ?_
    refine OkO.load rfl rfl (ldg (n := 10) (by kernel_rfl) (by first | assumption | (simp (disch := first | omega | (simp only [hNw, hPt]; omega)) only [gn0, gn1, gn2, gn3, gn4, gn5, gp0, gno, gpo] <;> first | rfl | assumption)) (by first | rfl | assumption)) ?_
    refine OkO.callV rfl rfl rfl rfl rfl (c102 m [a0, a1, a2, a3, a4, a5, a6, a7] (o i) (s i) bc bl k x _ rfl (by first | assumption | simp (disch := first | omega | (simp only [hNw, hPt]; omega)) only [gn0, gn1, gn2, gn3, gn4, gn5, gp0, gno, gpo] <;> first | rfl | assumption) (by first | assumption | simp (disch := first | omega | (simp only [hNw, hPt]; omega)) only [gn0, gn1, gn2, gn3, gn4, gn5, gp0, gno, gpo] <;> first | rfl | assumption) (by simp only [hNw, hPt]; omega) (by simp only [hNw, hPt]; omega) hk8) ?_ -- ('Go.Operand.tmp', 13)
    refine OkO.un rfl rfl rfl ?_
    refine OkO.nil ?_
    refine Ok.cond rfl (fun h2 => ?_) (fun h2 => ?_)
    · -- yes h2
      refine Ok.seq ?_
      refine Ok.region ?_
      refine OkO.assign rfl rfl ?_
      refine OkO.nil ?_
      refine Ok.ret ⟨.inr rfl, ?_⟩
      exact back_flat rfl (congrArg AV.bool (by symm; rw [List.all_eq_false]; exact ⟨i, List.mem_range.2 hlt, by simpa [he8] using h2⟩)) rfl (by rw [← hW]; exact (by (try dsimp only); repeat (first | (first | exact hg | exact hG) | apply Grow.new | (refine Grow.put ?_ _ (by first | omega | (simp only [hNw, hPt]; omega))))))
    · -- no h2
      refine Ok.skip ?_
      refine Ok.region ?_
      refine OkO.bin rfl rfl rfl (bin_add (by omega) (by omega)) ?_
      refine OkO.move rfl rfl ?_
      refine OkO.nil ?_
      refine ⟨n - (i + 1), by omega, i + 1, rfl, hlt, fun j hj => ?_, Has.of (by kernel_rfl), rfl, (by (try dsimp only); repeat (first | (first | exact hg | exact hG) | apply Grow.new | (refine Grow.put ?_ _ (by first | omega | (simp only [hNw, hPt]; omega)))))⟩
      rcases Nat.lt_or_ge j i with e | e
      · exact hall j e
      · have : j = i := by omega
        subst this; simpa [he8] using h2
  · -- no h1
    have hge : i = n := by simp at h1; omega
    refine Ok.exit ?_
    refine Ok.seq ?_
    refine Ok.region ?_
    refine OkO.assign rfl rfl ?_
    refine OkO.nil ?_
    refine Ok.ret ⟨.inr rfl, ?_⟩
    exact back_flat rfl (congrArg AV.bool (by symm; rw [List.all_eq_true]; intro z hz; have hz2 := List.mem_range.1 hz; simpa using hall z (by omega))) rfl (by rw [← hW]; exact (by (try dsimp only); repeat (first | (first | exact hg | exact hG) | apply Grow.new | (refine Grow.put ?_ _ (by first | omega | (simp only [hNw, hPt]; omega))))))
end
end Go.Ev

set_option maxRecDepth 100000
set_option linter.unusedSimpArgs false
set_option linter.unusedVariables false
namespace Go.Ev
open Go Go.Proofs
noncomputable section
def keepsA (cs : List Cell) (g : Gr) (ds : List Day) (k : Nat) (x : Int) : Bool := (List.range ds.length).all fun i9 => decide ((levP cs g ds (highT g) (highL cs) (highR ds) (i9 + 1)).getD k 0 ≤ x)
theorem keeps_eq (cs : List Cell) (g : Gr) (ds : List Day) (k : Nat) (x p : Int) : keepsA (setP cs k p) g ds k x = keepsB cs g ds k x p := by
  rw [Bool.eq_iff_iff]
  unfold keepsA keepsB
  rw [List.all_eq_true, decide_eq_true_eq]
  constructor
  · intro h
    rw [firstD_neg ds.length fun j hj => by have := h j (List.mem_range.2 hj); rw [decide_eq_true_eq] at this; omega]
    omega
  · intro h i hi
    have hi2 := List.mem_range.1 hi
    have e := firstD_lt (f := fun j => (levP (setP cs k p) g ds (highT g) (highL (setP cs k p)) (highR ds) (j + 1)).getD k 0) (lv := x + 1) ds.length
    have h3 : (levP (setP cs k p) g ds (highT g) (highL (setP cs k p)) (highR ds) (i + 1)).getD k 0 < x + 1 := firstD_of_neg (f := fun j => (levP (setP cs k p) g ds (highT g) (highL (setP cs k p)) (highR ds) (j + 1)).getD k 0) (lv := x + 1) ds.length (by omega) i hi2
    rw [decide_eq_true_eq]
    omega
theorem c70 (m : Nat) (cv dv : AV) (cs : List Cell) (g : Gr) (ds : List Day) (k : Nat) (x : Int) (H : Heap) (hR : Row H cv 7 (cs.map Cell.c)) (hY : Row H dv 3 (ds.map Day.c)) (hca : cv.atom = true) (hda : dv.atom = true) (hd0 : daysErr cs g ds = 0) (hk8 : k < 8) : RR (m + 7) (.fn 70 [.agg [cv, I g.slo, I g.shi, I g.klo, I g.khi, I g.melt], dv, I (k : Int), I x]) H = some (.bool (keepsA cs g ds k x), H) := by
  refine (R_fn _ _ _ _ _).trans ?_
  refine fn_ok Try.func70 rfl rfl (by kernel_rfl) (by kernel_rfl) ?_
  obtain ⟨W, hW⟩ : ∃ W : Heap, W = ⟨H.t, H.next, H.next⟩ := ⟨_, rfl⟩
  have hg : ∀ n, W.get n = H.get n := fun n => by rw [hW]; rfl
  have hN : W.next = H.next := by rw [hW]
  have hE : ∀ G, Grow W G → Ext H G := fun G g => ⟨by rw [← hN]; exact g.next, fun n k => by rw [g.get n (by rw [hN]; exact k), hg]⟩
  have hG : Grow W W := Grow.refl (by rw [hW]; exact Nat.le_refl _)
  rw [← hW]
  have hlc : lenOf cv = some cs.length := by simpa using hR.len
  have pc := lpl hlc
  have hld : lenOf dv = some ds.length := by simpa using hY.len
  have pd := lpl hld
  have hFh := fit_of (high_ok hd0)
  have hn8 := hFh.n8
  have hd30 := hFh.d30
  refine Ok.seq ?_
  refine Ok.region ?_
  refine OkO.box rfl rfl ?_
  refine OkO.box rfl rfl ?_
  refine OkO.box rfl rfl ?_
  refine OkO.assign rfl rfl ?_
  refine OkO.nil ?_
  refine Ok.seq ?_
  refine Ok.region ?_
  refine OkO.build (z := [.nilf]) (pl := [(0, 1)]) rfl (by kernel_rfl) rfl rfl ?_
  refine OkO.load rfl rfl (ldg (n := 6) (by kernel_rfl) (by first | assumption | (simp (disch := first | omega | (simp only [hNw, hPt]; omega)) only [gn0, gn1, gn2, gn3, gn4, gn5, gp0, gno, gpo] <;> first | rfl | assumption)) (by first | rfl | assumption)) ?_
  refine OkO.move rfl rfl ?_
  refine OkO.callE rfl rfl rfl rfl rfl (c86h m cv dv cs g ds _ (hR.ext (show Ext H _ from hE _ (by (try dsimp only); repeat (first | exact hG | apply Grow.new | (refine Grow.put ?_ _ (by first | omega | (simp only [hNw, hPt]; omega))))))) (hY.ext (show Ext H _ from hE _ (by (try dsimp only); repeat (first | exact hG | apply Grow.new | (refine Grow.put ?_ _ (by first | omega | (simp only [hNw, hPt]; omega))))))) hca hda hd0) ?_ -- "(sackung/water.choice).run"
  rintro vE HE ⟨qE, rE⟩
  have gE : Grow W HE := Grow.ret (by (try dsimp only); repeat (first | exact hG | apply Grow.new | (refine Grow.put ?_ _ (by first | omega | (simp only [hNw, hPt]; omega))))) qE
  have nE : W.next + 3 ≤ HE.next := by have := qE.ext.next; first | omega | (simp only [hNw] at this; omega)
  have cE : (HE.get (W.next + 1)).bind AObj.cs = some [I (k : Int)] := by rw [qE.ext.get _ (by simp only [hNw]; omega)]; first | (rw [gn1]; rfl) | (simp (disch := first | omega | (simp only [hNw, hPt]; omega)) only [gn0, gn1, gn2, gn3, gn4, gn5, gp0, gno, gpo] <;> first | rfl | assumption)
  have lE : (HE.get (W.next + 2)).bind AObj.cs = some [I x] := by rw [qE.ext.get _ (by simp only [hNw]; omega)]; first | (rw [gn0]; rfl) | (simp (disch := first | omega | (simp only [hNw, hPt]; omega)) only [gn0, gn1, gn2, gn3, gn4, gn5, gp0, gno, gpo] <;> first | rfl | assumption)
  refine OkO.makeFunc rfl rfl rfl ?_
  refine OkO.callV rfl rfl rfl rfl rfl (c101 (m + 4) vE ds.length (fun i => levP cs g ds (highT g) (highL cs) (highR ds) (i + 1)) (leftD cs g ds (highT g) (highL cs) (highR ds)) (fun i => snowP g.melt ds (highR ds) (highT g).snow (i + 1)) (W.next + 1) (W.next + 2) k x _ rE (by omega) (fun i hi => (lev_facts hFh (i + 1) (by omega)).1) cE lE (by omega) (by omega) hk8) ?_ -- "sackung/water.all[sackung/water.evening]"
  refine OkO.assign rfl rfl ?_
  refine OkO.nil ?_
  refine Ok.ret ⟨.inr rfl, ?_⟩
  exact back_flat rfl (congrArg AV.bool rfl) rfl (by rw [← hW]; exact gE)
theorem c68 (m : Nat) (cv dv : AV) (cs : List Cell) (g : Gr) (ds : List Day) (b1 b2 b3 b4 k : Nat) (x p : Int) (H : Heap) (hR : Row H cv 7 (cs.map Cell.c)) (hY : Row H dv 3 (ds.map Day.c)) (hda : dv.atom = true) (hd0 : daysErr cs g ds = 0) (hk : k < cs.length) (hp : 0 ≤ p ∧ p ≤ 100000) (h1 : (H.get b1).bind AObj.cs = some [cv, I g.slo, I g.shi, I g.klo, I g.khi, I g.melt]) (h2 : (H.get b2).bind AObj.cs = some [I (k : Int)]) (h3 : (H.get b3).bind AObj.cs = some [dv]) (h4 : (H.get b4).bind AObj.cs = some [I x]) (l1 : b1 < H.next) (l2 : b2 < H.next) (l3 : b3 < H.next) (l4 : b4 < H.next) : RR (m + 8) (.fn 68 [I p, .ptr b1 0, .ptr b2 0, .ptr b3 0, .ptr b4 0]) H = some (.bool (keepsB cs g ds k x p), H) := by
  refine (R_fn _ _ _ _ _).trans ?_
  refine fn_ok Try.func68 rfl rfl (by kernel_rfl) (by kernel_rfl) ?_
  obtain ⟨W, hW⟩ : ∃ W : Heap, W = ⟨H.t, H.next, H.next⟩ := ⟨_, rfl⟩
  have hg : ∀ n, W.get n = H.get n := fun n => by rw [hW]; rfl
  have hN : W.next = H.next := by rw [hW]
  have hE : ∀ G, Grow W G → Ext H G := fun G g => ⟨by rw [← hN]; exact g.next, fun n k => by rw [g.get n (by rw [hN]; exact k), hg]⟩
  have hG : Grow W W := Grow.refl (by rw [hW]; exact Nat.le_refl _)
  rw [← hW]
  have hlc : lenOf cv = some cs.length := by simpa using hR.len
  have pc := lpl hlc
  have hld : lenOf dv = some ds.length := by simpa using hY.len
  have pd := lpl hld
  have hFh := fit_of (high_ok hd0)
  have hn8 := hFh.n8
  have hd30 := hFh.d30
  have w1 : (W.get b1).bind AObj.cs = some [cv, I g.slo, I g.shi, I g.klo, I g.khi, I g.melt] := by rw [hg]; exact h1
  have w2 : (W.get b2).bind AObj.cs = some [I (k : Int)] := by rw [hg]; exact h2
  have w3 : (W.get b3).bind AObj.cs = some [dv] := by rw [hg]; exact h3
  have w4 : (W.get b4).bind AObj.cs = some [I x] := by rw [hg]; exact h4
  refine Ok.seq ?_
  refine Ok.region ?_
  refine OkO.assign rfl rfl ?_
  refine OkO.nil ?_
  refine Ok.seq ?_
  refine Ok.drawn [(0, true, []), (1, true, []), (2, true, []), (4, true, []), (5, true, []), (6, true, []), (3, false, [6, 5, 4]), (7, false, [1, 0]), (8, true, [])] (by kernel_rfl) ?_
  refine OkP.step ?_
  refine OkO.load rfl rfl (ldg (n := 6) (by kernel_rfl) (by first | assumption | (simp (disch := first | omega | (simp only [hNw, hPt]; omega)) only [gn0, gn1, gn2, gn3, gn4, gn5, gp0, gno, gpo] <;> first | rfl | assumption)) (by first | rfl | assumption)) ?_
  refine OkO.nil ⟨rfl, ?_⟩
  refine OkP.step ?_
  refine OkO.load rfl rfl (lda (n := 1) (by kernel_rfl) (by first | assumption | (simp (disch := first | omega | (simp only [hNw, hPt]; omega)) only [gn0, gn1, gn2, gn3, gn4, gn5, gp0, gno, gpo] <;> first | rfl | assumption)) (by first | rfl | assumption)) ?_
  refine OkO.nil ⟨rfl, ?_⟩
  refine OkP.step ?_
  refine OkO.move rfl rfl ?_
  refine OkO.nil ⟨rfl, ?_⟩
  refine OkP.step ?_
  refine OkO.load rfl rfl (lda (n := 1) (by kernel_rfl) (by first | assumption | (simp (disch := first | omega | (simp only [hNw, hPt]; omega)) only [gn0, gn1, gn2, gn3, gn4, gn5, gp0, gno, gpo] <;> first | rfl | assumption)) (by first | rfl | assumption)) ?_
  refine OkO.nil ⟨rfl, ?_⟩
  refine OkP.step ?_
  refine OkO.load rfl rfl (lda (n := 1) (by kernel_rfl) (by first | assumption | (simp (disch := first | omega | (simp only [hNw, hPt]; omega)) only [gn0, gn1, gn2, gn3, gn4, gn5, gp0, gno, gpo] <;> first | rfl | assumption)) (by first | rfl | assumption)) ?_
  refine OkO.nil ⟨rfl, ?_⟩
  refine OkP.step ?_
  refine OkO.load rfl rfl (lda (n := 1) (by kernel_rfl) (by first | assumption | (simp (disch := first | omega | (simp only [hNw, hPt]; omega)) only [gn0, gn1, gn2, gn3, gn4, gn5, gp0, gno, gpo] <;> first | rfl | assumption)) (by first | rfl | assumption)) ?_
  refine OkO.nil ⟨rfl, ?_⟩
  refine OkP.step ?_
  refine OkO.callE rfl rfl rfl rfl rfl (c69 (m + 5) cv cs g k p _ (hR.ext (hE _ (by (try dsimp only); repeat (first | exact hG | apply Grow.new | (refine Grow.put ?_ _ (by first | omega | (simp only [hNw, hPt]; omega))))))) (by omega) hk) ?_ -- "(sackung/water.Ground).withPump"
  rintro vP HP ⟨cvP, rfl, qP, FP, atP⟩
  have rP := FP.now (Nat.le_refl _)
  have gP : Grow W HP := Grow.ret (by (try dsimp only); repeat (first | exact hG | apply Grow.new | (refine Grow.put ?_ _ (by first | omega | (simp only [hNw, hPt]; omega))))) qP
  have hpc := lpl (show lenOf cvP = some cs.length by rw [rP.len]; simp [setP_len])
  have p1 : (HP.get b1).bind AObj.cs = some [cv, I g.slo, I g.shi, I g.klo, I g.khi, I g.melt] := by rw [gP.get _ (by omega)]; exact w1
  have p2 : (HP.get b2).bind AObj.cs = some [I (k : Int)] := by rw [gP.get _ (by omega)]; exact w2
  have p3 : (HP.get b3).bind AObj.cs = some [dv] := by rw [gP.get _ (by omega)]; exact w3
  have p4 : (HP.get b4).bind AObj.cs = some [I x] := by rw [gP.get _ (by omega)]; exact w4
  refine OkO.nil ⟨(sco (sld rfl rfl (lda (n := 1) (by kernel_rfl) (by first | assumption | (simp (disch := first | omega | (simp only [hNw, hPt]; omega)) only [gn0, gn1, gn2, gn3, gn4, gn5, gp0, gno, gpo] <;> first | rfl | assumption)) (by first | rfl | assumption)) rfl (eqr _ (by first | rfl | exact lpl (by assumption) | (simp [AV.plain, AV.plains, AV.cells, pc, pd])))) (sco (sld rfl rfl (lda (n := 1) (by kernel_rfl) (by first | assumption | (simp (disch := first | omega | (simp only [hNw, hPt]; omega)) only [gn0, gn1, gn2, gn3, gn4, gn5, gp0, gno, gpo] <;> first | rfl | assumption)) (by first | rfl | assumption)) rfl (eqr _ (by first | rfl | exact lpl (by assumption) | (simp [AV.plain, AV.plains, AV.cells, pc, pd])))) (sco (sld rfl rfl (lda (n := 1) (by kernel_rfl) (by first | assumption | (simp (disch := first | omega | (simp only [hNw, hPt]; omega)) only [gn0, gn1, gn2, gn3, gn4, gn5, gp0, gno, gpo] <;> first | rfl | assumption)) (by first | rfl | assumption)) rfl (eqr _ (by first | rfl | exact lpl (by assumption) | (simp [AV.plain, AV.plains, AV.cells, pc, pd])))) rfl))), ?_⟩
  refine OkP.step ?_
  refine OkO.callV rfl rfl rfl rfl rfl (c70 m cvP dv (setP cs k p) g ds k x _ rP (hY.ext (hE _ gP)) atP hda (setP_days hd0 hp) (by omega)) ?_ -- "(sackung/water.Ground).keeps"
  refine OkO.nil ⟨(sco (sld rfl rfl (lda (n := 1) (by kernel_rfl) (by first | assumption | (simp (disch := first | omega | (simp only [hNw, hPt]; omega)) only [gn0, gn1, gn2, gn3, gn4, gn5, gp0, gno, gpo] <;> first | rfl | assumption)) (by first | rfl | assumption)) rfl (eqr _ (by first | rfl | exact lpl (by assumption) | (simp [AV.plain, AV.plains, AV.cells, pc, pd])))) (sco (sld rfl rfl (ldg (n := 6) (by kernel_rfl) (by first | assumption | (simp (disch := first | omega | (simp only [hNw, hPt]; omega)) only [gn0, gn1, gn2, gn3, gn4, gn5, gp0, gno, gpo] <;> first | rfl | assumption)) (by first | rfl | assumption)) rfl (eqr _ (by first | rfl | exact lpl (by assumption) | (simp [AV.plain, AV.plains, AV.cells, pc, pd])))) rfl)), ?_⟩
  refine OkP.step ?_
  refine OkO.assign rfl rfl ?_
  refine OkO.nil ⟨rfl, ?_⟩
  refine OkP.nil ?_
  refine Ok.ret ⟨.inr rfl, ?_⟩
  exact back_flat rfl (congrArg AV.bool (keeps_eq _ _ _ _ _ _)) rfl (by rw [← hW]; exact gP)
end
end Go.Ev

set_option maxRecDepth 100000
set_option linter.unusedSimpArgs false
set_option linter.unusedVariables false
namespace Go.Ev
open Go Go.Proofs
noncomputable section
theorem wrapF_u64 {n : Int} (h1 : 0 ≤ n) (h2 : n < 9223372036854775808) : wrapF .u64 n = n := by
  rw [wrapF_eq]
  exact IntWalk.u64_in _ (by omega)
theorem bin_shr1 (a : Nat) : bin .shr .u64 (a : Int) .u64 1 = some (.int .u64 ((a / 2 : Nat) : Int)) := by
  show some (AV.int .u64 (.ofNat (Nat.shiftRight a 1))) = _
  rw [show Nat.shiftRight a 1 = a / 2 from Nat.shiftRight_succ a 0]
  rfl
theorem c98 (m : Nat) (n : Nat) (b1 b2 : Nat) (Pd : Nat → Bool) (H : Heap) (hn : n ≤ 1000000) (hcall : ∀ i : Nat, i < n → ∀ G, Ext H G → RR m (.fn 99 [I (i : Int), .ptr b1 0, .ptr b2 0]) G = some (.bool (Pd i), G)) : ∃ v H', RR (m + 1) (.fn 98 [I (n : Int), .fn 99 [] [.ptr b1 0, .ptr b2 0]]) H = some (v, H') ∧ ∃ r : Nat, v = I (r : Int) ∧ H' = H ∧ r ≤ n ∧ (r = 0 ∨ Pd (r - 1) = false) ∧ (r = n ∨ Pd r = true) := by
  show ∃ v H', evFn Try.prog (RR (m + 0)) 98 [I (n : Int), .fn 99 [] [.ptr b1 0, .ptr b2 0]] H = some (v, H') ∧ ∃ r : Nat, v = I (r : Int) ∧ H' = H ∧ r ≤ n ∧ (r = 0 ∨ Pd (r - 1) = false) ∧ (r = n ∨ Pd r = true)
  refine fn_okE Try.func98 rfl rfl (by kernel_rfl) (by kernel_rfl) ?_
  obtain ⟨W, hW⟩ : ∃ W : Heap, W = ⟨H.t, H.next, H.next⟩ := ⟨_, rfl⟩
  have hg : ∀ n, W.get n = H.get n := fun n => by rw [hW]; rfl
  have hN : W.next = H.next := by rw [hW]
  have hE : ∀ G, Grow W G → Ext H G := fun G g => ⟨by rw [← hN]; exact g.next, fun n k => by rw [g.get n (by rw [hN]; exact k), hg]⟩
  have hG : Grow W W := Grow.refl (by rw [hW]; exact Nat.le_refl _)
  rw [← hW]
  refine Ok.seq ?_
  refine Ok.region ?_
  refine OkO.assign rfl rfl ?_
  refine OkO.nil ?_
  refine Ok.seq ?_
  refine Ok.region ?_
  refine OkO.move rfl rfl ?_
  refine OkO.assign rfl rfl ?_
  refine OkO.assign rfl rfl ?_
  refine OkO.nil ?_
  refine Ok.seq ?_
  refine Ok.block ?_
  refine Ok.loop (fun n9 s_ => ∃ lo hi : Nat, n9 = hi - lo ∧ lo ≤ hi ∧ hi ≤ n ∧ (lo = 0 ∨ Pd (lo - 1) = false) ∧ (hi = n ∨ Pd hi = true) ∧ Has 5 [(1, .fn 99 [] [.ptr b1 0, .ptr b2 0]), (5, I (lo : Int)), (6, I (hi : Int))] s_.T ∧ s_.D = [] ∧ Grow W s_.H) (n) (by unfold loopFuel; omega)
    ⟨0, n, rfl, Nat.zero_le _, Nat.le_refl _, .inl rfl, .inl rfl, Has.of (by kernel_rfl), rfl, hG⟩ ?_
  rintro n9 ⟨T, D, G⟩ ⟨lo, hi, hn9, hlh, hhn, hlo, hhi, ⟨f, hT⟩, hD, hg⟩
  dsimp only at *
  subst hT hD
  have hgn := hg.next
  refine Ok.seq ?_
  refine Ok.seq ?_
  refine Ok.region ?_
  refine OkO.move rfl rfl ?_
  refine OkO.move rfl rfl ?_
  refine OkO.bin rfl rfl rfl (bin_lss _ _) ?_
  refine OkO.nil ?_
  refine Ok.cond rfl (fun h1 => ?_) (fun h1 => ?_)
  · -- yes h1
    have hlt : lo < hi := by simpa using h1
    have hmid : ((lo + hi) / 2) < n := by omega
    refine Ok.skip ?_
    refine Ok.block ?_
    refine Ok.seq ?_
    refine Ok.region ?_
    refine OkO.move rfl rfl ?_
    refine OkO.move rfl rfl ?_
    refine OkO.bin rfl rfl rfl (bin_add (by omega) (by omega)) ?_
    refine OkO.convert (k := .u64) rfl (by kernel_rfl) rfl (by first | exact wrapF_u64 (by omega) (by omega) | exact wrapF_i64 (by omega) (by omega)) ?_
    refine OkO.bin rfl rfl rfl (bin_shr1 (lo + hi)) ?_
    refine OkO.convert (k := .i64) rfl (by kernel_rfl) rfl (by first | exact wrapF_u64 (by omega) (by omega) | exact wrapF_i64 (by omega) (by omega)) ?_
    refine OkO.assign rfl rfl ?_
    refine OkO.nil ?_
    refine Ok.seq ?_
    refine Ok.region ?_
    refine OkO.move rfl rfl ?_
    refine OkO.move rfl rfl ?_
    refine OkO.callV rfl rfl rfl rfl rfl (hcall ((lo + hi) / 2) hmid _ (hE _ hg)) ?_ -- ('Go.Operand.tmp', 18)
    refine OkO.un rfl rfl rfl ?_
    refine OkO.nil ?_
    refine Ok.cond rfl (fun h2 => ?_) (fun h2 => ?_)
    · -- yes h2
      have hpf : Pd (((lo + hi) / 2) + 1 - 1) = false := by simpa using h2
      refine Ok.region ?_
      refine OkO.move rfl rfl ?_
      refine OkO.bin rfl rfl rfl (bin_add (by omega) (by omega)) ?_
      refine OkO.assign rfl rfl ?_
      refine OkO.nil ?_
      first | exact ⟨hi - (((lo + hi) / 2) + 1), by omega, ((lo + hi) / 2) + 1, hi, rfl, by omega, hhn, .inr hpf, hhi, Has.of (by kernel_rfl), rfl, hg⟩ | exact ⟨((lo + hi) / 2) - lo, by omega, lo, ((lo + hi) / 2), rfl, by omega, by omega, hlo, .inr hpt, Has.of (by kernel_rfl), rfl, hg⟩
    · -- no h2
      have hpt : Pd ((lo + hi) / 2) = true := by simpa using h2
      refine Ok.region ?_
      refine OkO.move rfl rfl ?_
      refine OkO.assign rfl rfl ?_
      refine OkO.nil ?_
      first | exact ⟨hi - (((lo + hi) / 2) + 1), by omega, ((lo + hi) / 2) + 1, hi, rfl, by omega, hhn, .inr hpf, hhi, Has.of (by kernel_rfl), rfl, hg⟩ | exact ⟨((lo + hi) / 2) - lo, by omega, lo, ((lo + hi) / 2), rfl, by omega, by omega, hlo, .inr hpt, Has.of (by kernel_rfl), rfl, hg⟩
  · -- no h1
    have hge : lo = hi := by simp at h1; omega
    subst hge
    refine Ok.exit ?_
    refine Ok.seq ?_
    refine Ok.region ?_
    refine OkO.move rfl rfl ?_
    refine OkO.assign rfl rfl ?_
    refine OkO.nil ?_
    refine Ok.ret ⟨.inr rfl, ?_⟩
    exact ⟨_, _, back_flat rfl rfl rfl (by rw [← hW]; exact hg), lo, rfl, rfl, hhn, hlo, hhi⟩
end
end Go.Ev

set_option maxRecDepth 100000
set_option linter.unusedSimpArgs false
set_option linter.unusedVariables false
namespace Go.Ev
open Go Go.Proofs
noncomputable section
theorem c99 (m : Nat) (i lo hi : Int) (b1 b2 c1 c2 c3 c4 : Nat) (bv : Bool) (H : Heap) (h1 : (H.get b1).bind AObj.cs = some [.fn 68 [] [.ptr c1 0, .ptr c2 0, .ptr c3 0, .ptr c4 0]]) (h2 : (H.get b2).bind AObj.cs = some [I lo, I hi]) (hlo : 0 ≤ lo ∧ lo ≤ 1000000) (hi9 : 0 ≤ i ∧ i ≤ 1000000) (hcall : ∀ G, Ext H G → RR m (.fn 68 [I (lo + i), .ptr c1 0, .ptr c2 0, .ptr c3 0, .ptr c4 0]) G = some (.bool bv, G)) : RR (m + 1) (.fn 99 [I i, .ptr b1 0, .ptr b2 0]) H = some (.bool bv, H) := by
  refine (R_fn _ _ _ _ _).trans ?_
  refine fn_ok Try.func99 rfl rfl (by kernel_rfl) (by kernel_rfl) ?_
  obtain ⟨W, hW⟩ : ∃ W : Heap, W = ⟨H.t, H.next, H.next⟩ := ⟨_, rfl⟩
  have hg : ∀ n, W.get n = H.get n := fun n => by rw [hW]; rfl
  have hN : W.next = H.next := by rw [hW]
  have hE : ∀ G, Grow W G → Ext H G := fun G g => ⟨by rw [← hN]; exact g.next, fun n k => by rw [g.get n (by rw [hN]; exact k), hg]⟩
  have hG : Grow W W := Grow.refl (by rw [hW]; exact Nat.le_refl _)
  rw [← hW]
  have w1 : (W.get b1).bind AObj.cs = some [.fn 68 [] [.ptr c1 0, .ptr c2 0, .ptr c3 0, .ptr c4 0]] := by rw [hg]; exact h1
  have w2 : (W.get b2).bind AObj.cs = some [I lo, I hi] := by rw [hg]; exact h2
  refine Ok.seq ?_
  refine Ok.region ?_
  refine OkO.assign rfl rfl ?_
  refine OkO.nil ?_
  refine Ok.seq ?_
  refine Ok.region ?_
  refine OkO.load rfl rfl (lda (n := 1) (by kernel_rfl) (by first | assumption | (simp (disch := first | omega | (simp only [hNw, hPt]; omega)) only [gn0, gn1, gn2, gn3, gn4, gn5, gp0, gno, gpo] <;> first | rfl | assumption)) (by first | rfl | assumption)) ?_
  refine OkO.fieldAddr (o := 0) rfl (by kernel_rfl) rfl ?_
  refine OkO.load rfl rfl (lda (n := 1) (by kernel_rfl) (by first | assumption | (simp (disch := first | omega | (simp only [hNw, hPt]; omega)) only [gn0, gn1, gn2, gn3, gn4, gn5, gp0, gno, gpo] <;> first | rfl | assumption)) (by first | rfl | assumption)) ?_
  refine OkO.move rfl rfl ?_
  refine OkO.bin rfl rfl rfl (bin_add (by omega) (by omega)) ?_
  refine OkO.callV rfl rfl rfl rfl rfl (hcall _ (hE _ hG)) ?_ -- ('Go.Operand.tmp', 5)
  refine OkO.assign rfl rfl ?_
  refine OkO.nil ?_
  refine Ok.ret ⟨.inr rfl, ?_⟩
  exact back_flat rfl (congrArg AV.bool rfl) rfl (by rw [← hW]; exact (by (try dsimp only); repeat (first | exact hG | apply Grow.new | (refine Grow.put ?_ _ (by first | omega | (simp only [hNw, hPt]; omega))))))
theorem c67 (m : Nat) (cv dv : AV) (cs : List Cell) (g : Gr) (ds : List Day) (c1 c2 c3 c4 k : Nat) (x : Int) (H : Heap) (hR : Row H cv 7 (cs.map Cell.c)) (hY : Row H dv 3 (ds.map Day.c)) (hda : dv.atom = true) (hd0 : daysErr cs g ds = 0) (hk : k < cs.length) (hx9 : 0 ≤ x ∧ x ≤ 100000) (h1 : (H.get c1).bind AObj.cs = some [cv, I g.slo, I g.shi, I g.klo, I g.khi, I g.melt]) (h2 : (H.get c2).bind AObj.cs = some [I (k : Int)]) (h3 : (H.get c3).bind AObj.cs = some [dv]) (h4 : (H.get c4).bind AObj.cs = some [I x]) (l1 : c1 < H.next) (l2 : c2 < H.next) (l3 : c3 < H.next) (l4 : c4 < H.next) : ∃ v H', RR (m + 11) (.fn 67 [.agg [I 0, I 100000], .fn 68 [] [.ptr c1 0, .ptr c2 0, .ptr c3 0, .ptr c4 0]]) H = some (v, H') ∧ ∃ r : Nat, v = I (0 + (r : Int)) ∧ H' = H ∧ r ≤ 100001 ∧ (r = 0 ∨ keepsB cs g ds k x ((r - 1 : Nat) : Int) = false) ∧ (r = 100001 ∨ keepsB cs g ds k x (r : Int) = true) := by
  show ∃ v H', evFn Try.prog (RR (m + 10)) 67 [.agg [I 0, I 100000], .fn 68 [] [.ptr c1 0, .ptr c2 0, .ptr c3 0, .ptr c4 0]] H = some (v, H') ∧ ∃ r : Nat, v = I (0 + (r : Int)) ∧ H' = H ∧ r ≤ 100001 ∧ (r = 0 ∨ keepsB cs g ds k x ((r - 1 : Nat) : Int) = false) ∧ (r = 100001 ∨ keepsB cs g ds k x (r : Int) = true)
  refine fn_okE Try.func67 rfl rfl (by kernel_rfl) (by kernel_rfl) ?_
  obtain ⟨W, hW⟩ : ∃ W : Heap, W = ⟨H.t, H.next, H.next⟩ := ⟨_, rfl⟩
  have hg : ∀ n, W.get n = H.get n := fun n => by rw [hW]; rfl
  have hN : W.next = H.next := by rw [hW]
  have hE : ∀ G, Grow W G → Ext H G := fun G g => ⟨by rw [← hN]; exact g.next, fun n k => by rw [g.get n (by rw [hN]; exact k), hg]⟩
  have hG : Grow W W := Grow.refl (by rw [hW]; exact Nat.le_refl _)
  rw [← hW]
  have hXX : ∀ G, Ext ((W.new (.cells [I 0, I 100000] 36)).new (.cells [.fn 68 [] [.ptr c1 0, .ptr c2 0, .ptr c3 0, .ptr c4 0]] 135)) G → Ext H G := fun G g => (hE _ ((hG.new _).new _)).trans g
  refine Ok.seq ?_
  refine Ok.region ?_
  refine OkO.box rfl rfl ?_
  refine OkO.box rfl rfl ?_
  refine OkO.assign rfl rfl ?_
  refine OkO.nil ?_
  refine Ok.seq ?_
  refine Ok.drawn [(0, true, []), (1, true, []), (2, true, []), (3, true, []), (4, true, []), (5, true, []), (6, true, []), (7, true, []), (8, true, []), (9, false, [5, 3, 1]), (10, true, []), (11, true, [])] (by kernel_rfl) ?_
  refine OkP.step ?_
  refine OkO.fieldAddr (o := 0) rfl (by kernel_rfl) rfl ?_
  refine OkO.nil ⟨rfl, ?_⟩
  refine OkP.step ?_
  refine OkO.load rfl rfl (lda (n := 1) (by kernel_rfl) (by first | assumption | (simp (disch := first | omega | (simp only [hNw, hPt]; omega)) only [gn0, gn1, gn2, gn3, gn4, gn5, gp0, gno, gpo] <;> first | rfl | assumption)) (by first | rfl | assumption)) ?_
  refine OkO.nil ⟨rfl, ?_⟩
  refine OkP.step ?_
  refine OkO.fieldAddr (o := 1) rfl (by kernel_rfl) rfl ?_
  refine OkO.nil ⟨rfl, ?_⟩
  refine OkP.step ?_
  refine OkO.load rfl rfl (lda (n := 1) (by kernel_rfl) (by first | assumption | (simp (disch := first | omega | (simp only [hNw, hPt]; omega)) only [gn0, gn1, gn2, gn3, gn4, gn5, gp0, gno, gpo] <;> first | rfl | assumption)) (by first | rfl | assumption)) ?_
  refine OkO.nil ⟨rfl, ?_⟩
  refine OkP.step ?_
  refine OkO.fieldAddr (o := 0) rfl (by kernel_rfl) rfl ?_
  refine OkO.nil ⟨rfl, ?_⟩
  refine OkP.step ?_
  refine OkO.load rfl rfl (lda (n := 1) (by kernel_rfl) (by first | assumption | (simp (disch := first | omega | (simp only [hNw, hPt]; omega)) only [gn0, gn1, gn2, gn3, gn4, gn5, gp0, gno, gpo] <;> first | rfl | assumption)) (by first | rfl | assumption)) ?_
  refine OkO.nil ⟨rfl, ?_⟩
  refine OkP.step ?_
  refine OkO.bin rfl rfl rfl (bin_sub (by omega) (by omega)) ?_
  refine OkO.nil ⟨rfl, ?_⟩
  refine OkP.step ?_
  refine OkO.bin rfl rfl rfl (bin_add (by omega) (by omega)) ?_
  refine OkO.nil ⟨rfl, ?_⟩
  refine OkP.step ?_
  refine OkO.makeFunc rfl rfl rfl ?_
  refine OkO.nil ⟨rfl, ?_⟩
  refine OkP.step ?_
  refine OkO.callE rfl rfl rfl rfl rfl ((by rw [show ((100000 : Int) - 0 + 1) = ((100001 : Nat) : Int) from rfl]; exact c98 (m + 9) 100001 (W.next + 1) W.next (fun i9 => keepsB cs g ds k x (i9 : Int)) _ (by omega) (fun i hi G hG9 => c99 (m + 8) (i : Int) 0 100000 (W.next + 1) W.next c1 c2 c3 c4 _ G (by rw [hG9.get _ (by simp only [hNw]; omega)]; first | (rw [gn0]; rfl) | (simp (disch := first | omega | (simp only [hNw, hPt]; omega)) only [gn0, gn1, gn2, gn3, gn4, gn5, gp0, gno, gpo] <;> first | rfl | assumption)) (by rw [hG9.get _ (by simp only [hNw]; omega)]; first | (rw [gn1]; rfl) | (simp (disch := first | omega | (simp only [hNw, hPt]; omega)) only [gn0, gn1, gn2, gn3, gn4, gn5, gp0, gno, gpo] <;> first | rfl | assumption)) (by omega) (by omega) (fun G3 hG3 => by rw [Int.zero_add]; exact c68 m cv dv cs g ds c1 c2 c3 c4 k x (i : Int) G3 (hR.ext ((hXX G hG9).trans hG3)) (hY.ext ((hXX G hG9).trans hG3)) hda hd0 hk (by omega) (by rw [((hXX G hG9).trans hG3).get _ l1]; exact h1) (by rw [((hXX G hG9).trans hG3).get _ l2]; exact h2) (by rw [((hXX G hG9).trans hG3).get _ l3]; exact h3) (by rw [((hXX G hG9).trans hG3).get _ l4]; exact h4) (Nat.lt_of_lt_of_le l1 ((hXX G hG9).trans hG3).next) (Nat.lt_of_lt_of_le l2 ((hXX G hG9).trans hG3).next) (Nat.lt_of_lt_of_le l3 ((hXX G hG9).trans hG3).next) (Nat.lt_of_lt_of_le l4 ((hXX G hG9).trans hG3).next)))) ) ?_ -- "sort.Search"
  rintro v98 H98 ⟨r, rfl, rfl, r1, r2, r3⟩
  refine OkO.nil ⟨(sco (sld rfl rfl (lda (n := 1) (by kernel_rfl) (by first | assumption | (simp (disch := first | omega | (simp only [hNw, hPt]; omega)) only [gn0, gn1, gn2, gn3, gn4, gn5, gp0, gno, gpo] <;> first | rfl | assumption)) (by first | rfl | assumption)) rfl (eqr _ (by first | rfl | exact lpl (by assumption) | (simp [AV.plain, AV.plains, AV.cells, AV.plain])))) (sco (sld rfl rfl (lda (n := 1) (by kernel_rfl) (by first | assumption | (simp (disch := first | omega | (simp only [hNw, hPt]; omega)) only [gn0, gn1, gn2, gn3, gn4, gn5, gp0, gno, gpo] <;> first | rfl | assumption)) (by first | rfl | assumption)) rfl (eqr _ (by first | rfl | exact lpl (by assumption) | (simp [AV.plain, AV.plains, AV.cells, AV.plain])))) (sco (sld rfl rfl (lda (n := 1) (by kernel_rfl) (by first | assumption | (simp (disch := first | omega | (simp only [hNw, hPt]; omega)) only [gn0, gn1, gn2, gn3, gn4, gn5, gp0, gno, gpo] <;> first | rfl | assumption)) (by first | rfl | assumption)) rfl (eqr _ (by first | rfl | exact lpl (by assumption) | (simp [AV.plain, AV.plains, AV.cells, AV.plain])))) rfl))), ?_⟩
  refine OkP.step ?_
  refine OkO.bin rfl rfl rfl (bin_add (by omega) (by omega)) ?_
  refine OkO.nil ⟨rfl, ?_⟩
  refine OkP.step ?_
  refine OkO.assign rfl rfl ?_
  refine OkO.nil ⟨rfl, ?_⟩
  refine OkP.nil ?_
  refine Ok.ret ⟨.inr rfl, ?_⟩
  exact ⟨_, _, back_flat rfl rfl rfl (by rw [← hW]; exact (by (try dsimp only); repeat (first | exact hG | apply Grow.new | (refine Grow.put ?_ _ (by first | omega | (simp only [hNw, hPt]; omega)))))), r, rfl, rfl, r1, r2, r3⟩
end
end Go.Ev

set_option maxRecDepth 100000
set_option linter.unusedSimpArgs false
set_option linter.unusedVariables false
namespace Go.Ev
open Go Go.Proofs
noncomputable section
theorem atom_cells {v : AV} (h : v.atom = true) : v.cells = [v] := by
  cases v with
  | agg l => cases h
  | tup l => cases h
  | raw x => cases h
  | _ => rfl
theorem c38K (m : Nat) (cv dv : AV) (cs : List Cell) (g : Gr) (ds : List Day) (k : Nat) (x : Int) (H : Heap) (hR : Row H cv 7 (cs.map Cell.c)) (hY : Row H dv 3 (ds.map Day.c)) (hda : dv.atom = true) (hk : k < cs.length) (hke : askErr cs g ds (k : Int) x = 0) : ∃ v H', RR (m + 12) (.fn 38 [.agg [cv, I g.slo, I g.shi, I g.klo, I g.khi, I g.melt], dv, I (k : Int), I x]) H = some (v, H') ∧ ∃ r : Nat, H' = H ∧ r ≤ 100001 ∧ (r = 0 ∨ keepsB cs g ds k x ((r - 1 : Nat) : Int) = false) ∧ (r = 100001 ∨ keepsB cs g ds k x (r : Int) = true) ∧ ((r = 100001 ∧ v = .tup [I 0, I 9]) ∨ (r ≤ 100000 ∧ v = .tup [I (0 + (r : Int)), I 0])) := by
  show ∃ v H', evFn Try.prog (RR (m + 11)) 38 [.agg [cv, I g.slo, I g.shi, I g.klo, I g.khi, I g.melt], dv, I (k : Int), I x] H = some (v, H') ∧ ∃ r : Nat, H' = H ∧ r ≤ 100001 ∧ (r = 0 ∨ keepsB cs g ds k x ((r - 1 : Nat) : Int) = false) ∧ (r = 100001 ∨ keepsB cs g ds k x (r : Int) = true) ∧ ((r = 100001 ∧ v = .tup [I 0, I 9]) ∨ (r ≤ 100000 ∧ v = .tup [I (0 + (r : Int)), I 0]))
  refine fn_okE Try.func38 rfl rfl (by kernel_rfl) (by kernel_rfl) ?_
  obtain ⟨W, hW⟩ : ∃ W : Heap, W = ⟨H.t, H.next, H.next⟩ := ⟨_, rfl⟩
  have hg : ∀ n, W.get n = H.get n := fun n => by rw [hW]; rfl
  have hN : W.next = H.next := by rw [hW]
  have hE : ∀ G, Grow W G → Ext H G := fun G g => ⟨by rw [← hN]; exact g.next, fun n k => by rw [g.get n (by rw [hN]; exact k), hg]⟩
  have hG : Grow W W := Grow.refl (by rw [hW]; exact Nat.le_refl _)
  rw [← hW]
  have hlc : lenOf cv = some cs.length := by simpa using hR.len
  have hld : lenOf dv = some ds.length := by simpa using hY.len
  have pc := lpl hlc
  have pd := lpl hld
  have hdc : dv.cells = [dv] := atom_cells hda
  have hdc0 : dv.cells[0]? = some dv := by rw [hdc]; rfl
  have hak := ask_ok hke
  have hGF := gf_of hak.1
  have hn8 := hGF.n8
  have hd30 := hGF.d30
  obtain ⟨_, hx1, hx2⟩ := hak.2
  refine Ok.seq ?_
  refine Ok.region ?_
  refine OkO.box rfl rfl ?_
  refine OkO.box rfl rfl ?_
  refine OkO.box rfl rfl ?_
  refine OkO.box rfl rfl ?_
  refine OkO.assign rfl rfl ?_
  refine OkO.assign rfl rfl ?_
  refine OkO.nil ?_
  refine Ok.seq ?_
  refine Ok.seq ?_
  refine Ok.region ?_
  refine OkO.load rfl rfl (ldg (n := 6) (by kernel_rfl) (by first | assumption | (simp (disch := first | omega | (simp only [hNw, hPt]; omega)) only [gn0, gn1, gn2, gn3, gn4, gn5, gp0, gno, gpo] <;> first | rfl | assumption)) (by first | rfl | assumption)) ?_
  refine OkO.load rfl rfl (lda (n := 1) (by kernel_rfl) (by first | assumption | (simp (disch := first | omega | (simp only [hNw, hPt]; omega)) only [gn0, gn1, gn2, gn3, gn4, gn5, gp0, gno, gpo] <;> first | rfl | assumption)) (by first | rfl | assumption)) ?_
  refine OkO.load rfl rfl (lda (n := 1) (by kernel_rfl) (by first | assumption | (simp (disch := first | omega | (simp only [hNw, hPt]; omega)) only [gn0, gn1, gn2, gn3, gn4, gn5, gp0, gno, gpo] <;> first | rfl | assumption)) (by first | rfl | assumption)) ?_
  refine OkO.load rfl rfl (lda (n := 1) (by kernel_rfl) (by first | assumption | (simp (disch := first | omega | (simp only [hNw, hPt]; omega)) only [gn0, gn1, gn2, gn3, gn4, gn5, gp0, gno, gpo] <;> first | rfl | assumption)) (by first | rfl | assumption)) ?_
  refine OkO.callV rfl rfl rfl rfl rfl (c62w (m + 4) cv dv cs g ds _ x _ (hR.ext (hE _ (by (try dsimp only); repeat (first | exact hG | apply Grow.new | (refine Grow.put ?_ _ (by first | omega | (simp only [hNw, hPt]; omega))))))) (by omega) (hY.ext (hE _ (by (try dsimp only); repeat (first | exact hG | apply Grow.new | (refine Grow.put ?_ _ (by first | omega | (simp only [hNw, hPt]; omega))))))) (by omega) hke) ?_ -- "sackung/water.checkLevel"
  refine OkO.assign rfl rfl ?_
  refine OkO.nil ?_
  refine Ok.seq ?_
  refine Ok.region ?_
  refine OkO.move rfl rfl ?_
  refine OkO.bin rfl rfl rfl (bin_neq _ _) ?_
  refine OkO.nil ?_
  refine Ok.cond rfl (fun h1 => ?_) (fun h1 => ?_)
  · -- yes h1
    exact absurd h1 (by simp)
  · -- no h1
    refine Ok.skip ?_
    refine Ok.seq ?_
    refine Ok.region ?_
    refine OkO.build (z := [.int .i64 0, .int .i64 0]) (pl := [(0, 1), (1, 1)]) rfl (by kernel_rfl) rfl rfl ?_
    refine OkO.makeFunc rfl rfl rfl ?_
    refine OkO.callE rfl rfl rfl rfl rfl (c67 m cv dv cs g ds W.next (W.next + 2) (W.next + 1) (W.next + 3) k x _ (hR.ext (show Ext H _ from hE _ (by (try dsimp only); repeat (first | exact hG | apply Grow.new | (refine Grow.put ?_ _ (by first | omega | (simp only [hNw, hPt]; omega))))))) (hY.ext (show Ext H _ from hE _ (by (try dsimp only); repeat (first | exact hG | apply Grow.new | (refine Grow.put ?_ _ (by first | omega | (simp only [hNw, hPt]; omega))))))) hda hak.1 hk (by omega) (by first | (rw [gn3]; rfl) | (rw [gn3]; exact congrArg some hdc) | (simp (disch := first | omega | (simp only [hNw, hPt]; omega)) only [gn0, gn1, gn2, gn3, gn4, gn5, gp0, gno, gpo] <;> first | rfl | assumption | exact congrArg some hdc)) (by first | (rw [gn1]; rfl) | (rw [gn1]; exact congrArg some hdc) | (simp (disch := first | omega | (simp only [hNw, hPt]; omega)) only [gn0, gn1, gn2, gn3, gn4, gn5, gp0, gno, gpo] <;> first | rfl | assumption | exact congrArg some hdc)) (by first | (rw [gn2]; rfl) | (rw [gn2]; exact congrArg some hdc) | (simp (disch := first | omega | (simp only [hNw, hPt]; omega)) only [gn0, gn1, gn2, gn3, gn4, gn5, gp0, gno, gpo] <;> first | rfl | assumption | exact congrArg some hdc)) (by first | (rw [gn0]; rfl) | (rw [gn0]; exact congrArg some hdc) | (simp (disch := first | omega | (simp only [hNw, hPt]; omega)) only [gn0, gn1, gn2, gn3, gn4, gn5, gp0, gno, gpo] <;> first | rfl | assumption | exact congrArg some hdc)) (by simp only [hNw]; omega) (by simp only [hNw]; omega) (by simp only [hNw]; omega) (by simp only [hNw]; omega)) ?_ -- "sackung/water.least"
    rintro v67 H67 ⟨r, rfl, rfl, r1, r2, r3⟩
    refine OkO.assign rfl rfl ?_
    refine OkO.nil ?_
    refine Ok.seq ?_
    refine Ok.seq ?_
    refine Ok.region ?_
    refine OkO.move rfl rfl ?_
    refine OkO.bin rfl rfl rfl (bin_gtr _ _) ?_
    refine OkO.nil ?_
    refine Ok.cond rfl (fun h2 => ?_) (fun h2 => ?_)
    · -- yes h2
      have hr : r = 100001 := by (have e9 := of_decide_eq_true h2); omega
      refine Ok.seq ?_
      refine Ok.region ?_
      refine OkO.assign rfl rfl ?_
      refine OkO.assign rfl rfl ?_
      refine OkO.nil ?_
      refine Ok.ret ⟨.inr rfl, ?_⟩
      exact ⟨_, _, back_flat (resV_tmp rfl (resV_tmp rfl resV_nil)) rfl rfl (by rw [← hW]; exact (by (try dsimp only); repeat (first | exact hG | apply Grow.new | (refine Grow.put ?_ _ (by first | omega | (simp only [hNw, hPt]; omega)))))), r, rfl, r1, r2, r3, .inl ⟨hr, rfl⟩⟩
    · -- no h2
      have hr : r ≤ 100000 := by (have e9 : ¬((0 : Int) + (r : Int) > 100000) := by simpa using h2); omega
      refine Ok.skip ?_
      refine Ok.seq ?_
      refine Ok.region ?_
      refine OkO.move rfl rfl ?_
      refine OkO.assign rfl rfl ?_
      refine OkO.assign rfl rfl ?_
      refine OkO.nil ?_
      refine Ok.ret ⟨.inr rfl, ?_⟩
      exact ⟨_, _, back_flat (resV_tmp rfl (resV_tmp rfl resV_nil)) rfl rfl (by rw [← hW]; exact (by (try dsimp only); repeat (first | exact hG | apply Grow.new | (refine Grow.put ?_ _ (by first | omega | (simp only [hNw, hPt]; omega)))))), r, rfl, r1, r2, r3, .inr ⟨hr, rfl⟩⟩
end
end Go.Ev

set_option maxRecDepth 100000
set_option linter.unusedSimpArgs false
set_option linter.unusedVariables false
namespace Go.Ev
open Go Go.Proofs
noncomputable section
theorem setP_mono {cs : List Cell} {k : Nat} {p q : Int} (hpq : p ≤ q) : ∀ i, i < (setP cs k p).length → LeC ((setP cs k q).getD i default) ((setP cs k p).getD i default) := fun i hi => by
  rw [setP_len] at hi
  rw [List.getD_eq_getElem?_getD, List.getD_eq_getElem?_getD, setP_get hi, setP_get hi]
  simp only [Option.getD_some]
  split
  · exact ⟨rfl, rfl, rfl, rfl, hpq⟩
  · exact LeC.refl _
theorem highL_setP {cs : List Cell} {k : Nat} {p : Int} : highL (setP cs k p) = highL cs := by
  apply List.ext_getElem?
  intro i
  unfold highL
  rw [List.getElem?_map, List.getElem?_map]
  rcases Nat.lt_or_ge i cs.length with h | h
  · rw [setP_get h, List.getElem?_eq_getElem h]
    split <;> rfl
  · rw [List.getElem?_eq_none h, List.getElem?_eq_none (by rw [setP_len]; exact h)]
theorem keeps_mono {cs : List Cell} {g : Gr} {ds : List Day} {k : Nat} {x p q : Int} (hd0 : daysErr cs g ds = 0) (hp : 0 ≤ p) (hpq : p ≤ q) (hq : q ≤ 100000) (h : keepsB cs g ds k x p = true) : keepsB cs g ds k x q = true := by
  rw [← keeps_eq] at h ⊢
  unfold keepsA at h ⊢
  rw [List.all_eq_true] at h ⊢
  intro i hi
  have h1 := h i hi
  have hi2 := List.mem_range.1 hi
  rw [decide_eq_true_eq] at h1 ⊢
  have hF := fit_of (high_ok (setP_days (k := k) hd0 (show 0 ≤ p ∧ p ≤ 100000 by omega)))
  have hF' := fit_of (high_ok (setP_days (k := k) hd0 (show 0 ≤ q ∧ q ≤ 100000 by omega)))
  have := lev_mono hF hF' (by rw [setP_len, setP_len]) (setP_mono hpq) rfl (Int.le_refl _) (Int.le_refl _) (by rw [highL_setP, highL_setP]; exact LeL.refl _) (LeL.refl _) (i + 1) (by omega) k
  omega
theorem c38F (m : Nat) (cv dv : AV) (cs : List Cell) (g : Gr) (ds : List Day) (k : Nat) (x : Int) (H : Heap) (hR : Row H cv 7 (cs.map Cell.c)) (hY : Row H dv 3 (ds.map Day.c)) (hda : dv.atom = true) (hk : k < cs.length) (hke : askErr cs g ds (k : Int) x = 0) (hK : keepsB cs g ds k x 100000 = false) : RR (m + 12) (.fn 38 [.agg [cv, I g.slo, I g.shi, I g.klo, I g.khi, I g.melt], dv, I (k : Int), I x]) H = some (.tup [I 0, I 9], H) := by
  obtain ⟨v, H', h1, r, rfl, r1, r2, r3, hc⟩ := c38K m cv dv cs g ds k x H hR hY hda hk hke
  rcases hc with ⟨hr, rfl⟩ | ⟨hr, rfl⟩
  · exact h1
  · exfalso
    have e1 : keepsB cs g ds k x (r : Int) = true := by
      rcases r3 with e | e
      · omega
      · exact e
    rw [keeps_mono (ask_ok hke).1 (by omega) (by omega) (Int.le_refl _) e1] at hK
    cases hK
theorem c38T (m : Nat) (cv dv : AV) (cs : List Cell) (g : Gr) (ds : List Day) (k : Nat) (x : Int) (H : Heap) (hR : Row H cv 7 (cs.map Cell.c)) (hY : Row H dv 3 (ds.map Day.c)) (hda : dv.atom = true) (hk : k < cs.length) (hke : askErr cs g ds (k : Int) x = 0) (hK : keepsB cs g ds k x 100000 = true) : ∃ v H', RR (m + 12) (.fn 38 [.agg [cv, I g.slo, I g.shi, I g.klo, I g.khi, I g.melt], dv, I (k : Int), I x]) H = some (v, H') ∧ ∃ r : Nat, H' = H ∧ r ≤ 100000 ∧ (r = 0 ∨ keepsB cs g ds k x ((r - 1 : Nat) : Int) = false) ∧ keepsB cs g ds k x (r : Int) = true ∧ v = .tup [I (0 + (r : Int)), I 0] := by
  obtain ⟨v, H', h1, r, rfl, r1, r2, r3, hc⟩ := c38K m cv dv cs g ds k x H hR hY hda hk hke
  rcases hc with ⟨hr, rfl⟩ | ⟨hr, rfl⟩
  · exfalso
    subst hr
    rcases r2 with e | e
    · omega
    · have e2 : keepsB cs g ds k x 100000 = false := e
      rw [e2] at hK; cases hK
  · refine ⟨_, _, h1, r, rfl, hr, r2, ?_, rfl⟩
    rcases r3 with e | e
    · omega
    · exact e
end
end Go.Ev

