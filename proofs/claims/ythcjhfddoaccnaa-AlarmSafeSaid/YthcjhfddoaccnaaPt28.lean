/-
  Functions of the program, reckoned by the evaluator: what each answers, and that it leaves what came in as it was.
-/
import Derived.Test.YthcjhfddoaccnaaPt27
set_option maxRecDepth 100000
set_option linter.unusedSimpArgs false
set_option linter.unusedVariables false
namespace Go.Ev
open Go Go.Proofs
noncomputable section
def stc (p : Pst) (rows : List (List Int)) (h : Nat) : List AV := [I (mnL (spdL p rows h (p.errs.length + 1))), I (mxL (spdL p rows h (p.errs.length + 1))), .int .u8 (levelI p (mxL (spdL p rows h (p.errs.length + 1))))]
def stCells (p : Pst) (rows : List (List Int)) (n : Nat) : List AV := ((List.range n).map (stc p rows)).flatten
theorem stCells_succ (p : Pst) (rows : List (List Int)) (n : Nat) : stCells p rows (n + 1) = stCells p rows n ++ stc p rows n := by simp [stCells, List.range_succ]
theorem stCells_len (p : Pst) (rows : List (List Int)) : ∀ n, (stCells p rows n).length = n * 3
  | 0 => rfl
  | n + 1 => by rw [stCells_succ, List.length_append, stCells_len p rows n]; show n * 3 + 3 = _; omega
theorem Mine.states {k0 : Nat} {G : Heap} {v : AV} {e : TypeId} {p : Pst} {rows : List (List Int)} {n : Nat} (h : Mine k0 G v e 3 (stCells p rows n)) : Row G v 3 ((List.range n).map (stc p rows)) := Mine.row (e := e) h (fun x hx => by obtain ⟨y, _, rfl⟩ := List.mem_map.1 hx; rfl) (by omega)
theorem spdL_pos {p : Pst} {rows : List (List Int)} {h : Nat} : ∀ {i n : Nat}, i < n → h + 1 ≤ lenM p rows i → 1 ≤ (spdL p rows h n).length
  | i, 0, hi, _ => by omega
  | i, n + 1, hi, hr => by
    by_cases e : i = n
    · subst e
      have hh : h < (mayL p ((i : Int) - 1) rows).length := hr
      rw [spdL_yes hr hh]; simp
    · have := spdL_pos (i := i) (n := n) (by omega) hr
      show 1 ≤ (spdL p rows h n ++ _).length
      rw [List.length_append]; omega
theorem possB_iff {p : Pst} {rows : List (List Int)} {r : Nat} : possB p rows r = true ↔ ∃ i, i ≤ p.errs.length ∧ r ≤ lenM p rows i := by
  unfold possB
  rw [List.any_eq_true]
  constructor
  · rintro ⟨i, hi, h⟩
    rw [decide_eq_true_eq] at h
    exact ⟨i, by have := List.mem_range.1 hi; omega, h⟩
  · rintro ⟨i, hi, h⟩
    exact ⟨i, List.mem_range.2 (by omega), by rw [decide_eq_true_eq]; exact h⟩
theorem spdL_all {p : Pst} {rows : List (List Int)} {h r : Nat} (hp : possB p rows r = true) (hh : h < r) : 1 ≤ (spdL p rows h (p.errs.length + 1)).length := by
  obtain ⟨i, hi, h1⟩ := possB_iff.1 hp
  exact spdL_pos (i := i) (by omega) (by omega)
theorem c21Y (m : Nat) (ev rv : AV) (p : Pst) (rows : List (List Int)) (H : Heap) (hV : Ints H ev p.errs) (hRs : LstAt H rv rows) (hpl : p.errs.length ≤ 100000) (hrl : rows.length ≤ 100000) (hlens9 : ∀ r ∈ rows, r.length ≤ 100000) (hf : faultE p rows = 0) (hpossT : possB p rows rows.length = true) : ∃ v H', RR (m + 7) (.fn 21 [.agg (p.c ev), rv]) H = some (v, H') ∧ ∃ x, v = .tup [x, I 0] ∧ Ret H H' ∧ Mine H.next H' x 45 3 (stCells p rows rows.length) := by
  show ∃ v H', evFn Try.prog (RR (m + 6)) 21 [.agg (p.c ev), rv] H = some (v, H') ∧ ∃ x, v = .tup [x, I 0] ∧ Ret H H' ∧ Mine H.next H' x 45 3 (stCells p rows rows.length)
  refine fn_okE Try.func21 rfl rfl (by kernel_rfl) (by kernel_rfl) ?_
  obtain ⟨W, hW⟩ : ∃ W : Heap, W = ⟨H.t, H.next, H.next⟩ := ⟨_, rfl⟩
  have hg : ∀ n, W.get n = H.get n := fun n => by rw [hW]; rfl
  have hN : W.next = H.next := by rw [hW]
  have hE : ∀ G, Grow W G → Ext H G := fun G g => ⟨by rw [← hN]; exact g.next, fun n k => by rw [g.get n (by rw [hN]; exact k), hg]⟩
  have hG : Grow W W := Grow.refl (by rw [hW]; exact Nat.le_refl _)
  rw [← hW]
  have pev : ev.plain = true := lpl hV.len
  have hel := hV.len
  have hrlen := hRs.len
  have ats : ∀ mb, atoms [ev, I p.gain, I p.drop, I p.fall, I p.out, I p.ahead, .map mb] = true := fun mb => by rw [atoms, (len_one hel).2]; rfl
  obtain ⟨hok, hr60, hlens, hrbd⟩ := faultE_facts hf
  obtain ⟨⟨hp1, hp2⟩, hpe, hpg, hpd, hpf, hpo1, hpo2⟩ := Pst.ok_facts hok
  refine Ok.seq ?_
  refine Ok.region ?_
  refine OkO.box rfl rfl ?_
  refine OkO.assign rfl rfl ?_
  refine OkO.assign rfl rfl ?_
  refine OkO.nil ?_
  refine Ok.seq ?_
  refine Ok.region ?_
  refine OkO.load rfl rfl (ldg (n := 6) (by kernel_rfl) (by first | assumption | (simp (disch := first | omega | (simp only [hNw, hPt]; omega)) only [gn0, gn1, gn2, gn3, gn4, gn5, gp0, gno, gpo] <;> first | rfl | assumption | exact gp0 _ _ _ | exact gn0 _ _)) (by first | rfl | assumption)) ?_
  refine OkO.move rfl rfl ?_
  refine OkO.callE rfl rfl rfl rfl rfl (c60Y (m + 0) ev rv p rows _ (hV.ext (hE _ (by (try dsimp only); repeat (first | exact hG | apply Grow.new | (refine Grow.put ?_ _ (by first | omega | (simp only [hNw, hPt]; omega))))))) (hRs.ext (hE _ (by (try dsimp only); repeat (first | exact hG | apply Grow.new | (refine Grow.put ?_ _ (by first | omega | (simp only [hNw, hPt]; omega))))))) hpl hrl hlens9 hf hpossT) ?_ -- "sackung/alarm.allPossible"
  rintro _ H60 ⟨mb, rfl, q60, dm60⟩
  have n1 := q60.ext.next
  try simp only [hNw, hPt] at n1
  have gg1 : Grow W H60 := Grow.ret (by (try dsimp only); repeat (first | exact hG | apply Grow.new | (refine Grow.put ?_ _ (by first | omega | (simp only [hNw, hPt]; omega))))) q60
  refine OkO.move rfl rfl ?_
  refine OkO.extract rfl rfl rfl ?_
  refine OkO.extract rfl rfl rfl ?_
  refine OkO.alloc (z := [.nils, .int .i64 0, .int .i64 0, .int .i64 0, .int .i64 0, .int .i64 0, .nilm]) rfl (by kernel_rfl) ?_
  refine OkO.store rfl rfl rfl (sAc (n := 7) (ag := true) (by kernel_rfl) (by first | assumption | (simp (disch := first | omega | (simp only [hNw, hPt]; omega)) only [gn0, gn1, gn2, gn3, gn4, gn5, gp0, gno, gpo] <;> first | rfl | assumption | exact gp0 _ _ _ | exact gn0 _ _)) rfl (by first | rfl | assumption | exact ats _) (by first | rfl | exact spl_set _ _ _ (by first | assumption | omega | (simp; omega)))) ?_
  refine OkO.assign rfl rfl ?_
  refine OkO.nil ?_
  refine Ok.seq ?_
  refine Ok.seq ?_
  refine Ok.region ?_
  refine OkO.move rfl rfl ?_
  refine OkO.bin rfl rfl rfl ((bin_neq _ _).trans (congrArg (fun b => some (AV.bool b)) (show _ = false from (by rfl)))) ?_
  refine OkO.nil ?_
  refine Ok.condF rfl ?_
  refine Ok.skip ?_
  refine Ok.seq ?_
  refine Ok.region ?_
  refine OkO.assign rfl rfl ?_
  refine OkO.nil ?_
  refine Ok.seq ?_
  refine Ok.seq ?_
  refine Ok.region ?_
  refine OkO.move rfl rfl ?_
  refine OkO.builtin rfl rfl rfl (bln (by kernel_rfl) (by first | assumption | rfl)) ?_
  refine OkO.move rfl rfl ?_
  refine OkO.nil ?_
  refine Ok.block ?_
  obtain ⟨H6, hH6⟩ : ∃ H6, H6 = ((H60.new (.cells [.nils, I 0, I 0, I 0, I 0, I 0, .nilm] 114)).put H60.next (.cells (p.d ev mb) 114)) := ⟨_, rfl⟩
  have dm6 : DutyM 0 H6 mb p rows := by rw [hH6]; exact (dm60.to (by repeat (first | exact Ext.refl _ | (refine Ext.put ?_ _ (by first | omega | (simp only [hNw, hPt]; omega))) | apply Ext.new))).low (Nat.zero_le _)
  have e6 : H6.get H60.next = some (.cells (p.d ev mb) 114) := by rw [hH6]; exact gp0 _ _ _
  have n6 : H6.next = H60.next + 1 := by rw [hH6]; simp
  have g6 : Grow W H6 := by rw [hH6]; exact (by (try dsimp only); repeat (first | exact gg1 | apply Grow.new | (refine Grow.put ?_ _ (by first | omega | (simp only [hNw, hPt]; omega)))))
  refine Ok.loop (fun n s => ∃ (i : Nat) (ov : AV), n = rows.length - i ∧ i ≤ rows.length ∧ Mine H6.next s.H ov 45 3 (stCells p rows i) ∧ Has 6 [(6, .ptr H60.next 0), (8, ov), (20, I (rows.length : Int)), (21, I (i : Int))] s.T ∧ s.D = [] ∧ Grow W s.H ∧ Ext H6 s.H) (rows.length) (by unfold loopFuel; omega)
    ⟨0, .nils, rfl, Nat.zero_le _, Mine.nil _ _ _ _, Has.of (by kernel_rfl), rfl, by rw [hH6] at g6; exact g6, by rw [hH6]; exact Ext.refl _⟩ ?_
  rintro n ⟨T, D, G⟩ ⟨i, ov, hn, hi, hm, ⟨f_, hT⟩, hD, hg, hx9⟩
  dsimp only at *
  subst hT hD
  have hgn := hg.next
  have e6b : (G.get H60.next).bind AObj.cs = some (p.d ev mb) := by rw [hx9.get _ (by omega), e6]; rfl
  have hx9n := hx9.next
  refine Ok.seq ?_
  refine Ok.region ?_
  refine OkO.bin rfl rfl rfl (bin_lss _ _) ?_
  refine OkO.nil ?_
  refine Ok.seq ?_
  refine Ok.cond rfl (fun h1 => ?_) (fun h1 => ?_)
  · -- yes h1
    have hlt : i < rows.length := by simpa using h1
    refine Ok.skip ?_
    refine Ok.seq ?_
    refine Ok.block ?_
    refine Ok.seq ?_
    refine Ok.region ?_
    refine OkO.move rfl rfl ?_
    refine OkO.assign rfl rfl ?_
    refine OkO.nil ?_
    refine Ok.region ?_
    refine OkO.move rfl rfl ?_
    refine OkO.load rfl rfl (ldg (n := 7) (by kernel_rfl) (by first | assumption | (simp (disch := first | omega | (simp only [hNw, hPt]; omega)) only [gn0, gn1, gn2, gn3, gn4, gn5, gp0, gno, gpo] <;> first | rfl | assumption | exact gp0 _ _ _ | exact gn0 _ _)) (by first | rfl | assumption)) ?_
    refine OkO.move rfl rfl ?_
    refine OkO.callV rfl rfl rfl rfl rfl (c61 (m + 1) ev p mb i rows _ ((dm6.to hx9).low (Nat.zero_le _)).2.2 (by have := dm6.2.1; omega) hel (by omega) (spdL_all hpossT hlt) ⟨hpg, hpf, hpo1, hpo2⟩ (by omega)) ?_ -- "(sackung/alarm.duty).state"
    refine OkO.buildSlice (el := 45) (sz := 3) (z := [.int .i64 0, .int .i64 0, .int .u8 0]) rfl (by kernel_rfl) (by decide) rfl rfl ?_
    refine OkO.builtinE rfl rfl rfl (Mine.app2 (W := W) (k0 := H6.next) (t := 32) (u := 32) (sz := 3) (by_ := 24) (e := 45) (n := 1) (new := stc p rows i) (hm.to (by repeat (first | exact Ext.refl _ | apply Ext.new))) (by repeat (first | exact hg | apply Grow.new)) (by omega) (by simp; omega) (by kernel_rfl) (by kernel_rfl) (elems_new (n := 1) (sz := 3) rfl) rfl rfl (by have h9 := stCells_len p rows i; omega) (by omega) (by omega) rfl) ?_
    rintro v2 G2 ⟨r1, r2, r3, r4, r5, _⟩
    simp only [hNw] at r5
    refine OkO.assign rfl rfl ?_
    refine OkO.nil ?_
    refine Ok.region ?_
    refine OkO.bin rfl rfl rfl (bin_add (by omega) (by omega)) ?_
    refine OkO.move rfl rfl ?_
    refine OkO.nil ?_
    refine ⟨rows.length - (i + 1), by omega, i + 1, _, rfl, by omega, by rw [stCells_succ]; exact r1, Has.of (by kernel_rfl), rfl, r2, ⟨by (show H6.next ≤ G2.next; omega), fun j hj => ?_⟩⟩
    rw [r3.get j hj (by simp only [hNw]; omega), gno _ _ _ (by omega)]
    exact hx9.get j hj
  · -- no h1
    have hge : i = rows.length := by simp at h1; omega
    subst hge
    refine Ok.exit ?_
    refine Ok.seq ?_
    refine Ok.region ?_
    refine OkO.move rfl rfl ?_
    refine OkO.assign rfl rfl ?_
    refine OkO.assign rfl rfl ?_
    refine OkO.nil ?_
    refine Ok.ret ⟨.inr rfl, ?_⟩
    refine back_newA rfl rfl (by rw [← hW]; exact hg) (fun H9 p1 p2 => ⟨ov, rfl, p1, ?_⟩)
    exact (hm.low (by omega)).backT p2 flat_tup2
end
end Go.Ev

set_option maxRecDepth 100000
set_option linter.unusedSimpArgs false
set_option linter.unusedVariables false
namespace Go.Ev
open Go Go.Proofs
noncomputable section
/-- What Breaks answers. -/
def brkV (p : Pst) (rows : List (List Int)) : AV := match (List.range rows.length).find? (fun h => !possB p rows (h + 1)) with
  | some h => .tup [I (h : Int), I 0]
  | none => .tup [I 0, I 7]
end
end Go.Ev

set_option maxRecDepth 100000
set_option linter.unusedSimpArgs false
set_option linter.unusedVariables false
namespace Go.Ev
open Go Go.Proofs
noncomputable section
/-- The gauges with which a truth is possible. -/
def fldL (p : Pst) (rows : List (List Int)) (r : Nat) : Nat → List Int
  | 0 => []
  | i + 1 => fldL p rows r i ++ (if r ≤ lenM p rows i then [(i : Int) - 1] else [])
theorem fldL_yes {p : Pst} {rows : List (List Int)} {r i : Nat} (h : r ≤ lenM p rows i) : fldL p rows r (i + 1) = fldL p rows r i ++ [(i : Int) - 1] := by
  show fldL p rows r i ++ (if r ≤ lenM p rows i then _ else _) = _
  rw [if_pos h]
theorem fldL_no {p : Pst} {rows : List (List Int)} {r i : Nat} (h : ¬ r ≤ lenM p rows i) : fldL p rows r (i + 1) = fldL p rows r i := by
  show fldL p rows r i ++ (if r ≤ lenM p rows i then _ else _) = _
  rw [if_neg h, List.append_nil]
theorem fldL_len (p : Pst) (rows : List (List Int)) (r : Nat) : ∀ i, (fldL p rows r i).length ≤ i
  | 0 => by simp [fldL]
  | i + 1 => by
    have := fldL_len p rows r i
    show (fldL p rows r i ++ _).length ≤ _
    rw [List.length_append]
    split <;> simp <;> omega
noncomputable def as28 : Code := match Try.f28.body.bind rangeOf with | some r => r.1 | none => .skip
noncomputable def bd28 : Code := match Try.f28.body.bind rangeOf with | some r => r.2 | none => .skip
theorem r28 (m B r9 i : Nat) (p : Pst) (rows : List (List Int)) (x : AV) (T0 : Tr AV) (W X G : Heap) (hH : Has 5 [(8, .ptr B 0)] T0) (hJ : (fun i G => RngJ X [B] .ready none [23, 24] as28 bd28 T0 G ∧ ∃ ov, G.get B = some (.cells [ov] 22) ∧ Mine (X.next + 2) G ov 3 1 ((fldL p rows r9 i).map I)) i G) (gX : Grow W X) (hB : W.next ≤ B) (hN : B + 1 ≤ X.next) (hi : i ≤ p.errs.length) (hpl : p.errs.length ≤ 1000) (hr : r9 ≤ lenM p rows i) (hlo : W.next ≤ G.lo) :
    ∃ v H', RR (m + 1) (.round (X.next + 1) [I ((i : Int) - 1), x]) G = some (v, H') ∧ v = .bool true ∧ (fun i G => RngJ X [B] .ready none [23, 24] as28 bd28 T0 G ∧ ∃ ov, G.get B = some (.cells [ov] 22) ∧ Mine (X.next + 2) G ov 3 1 ((fldL p rows r9 i).map I)) (i + 1) H' ∧ W.next ≤ H'.lo ∧ H'.lo ≤ X.next + 1 ∧ G.next ≤ H'.next := by
  show ∃ v H', evRound Try.prog (RR m) (X.next + 1) [I ((i : Int) - 1), x] G = some (v, H') ∧ v = .bool true ∧ (fun i G => RngJ X [B] .ready none [23, 24] as28 bd28 T0 G ∧ ∃ ov, G.get B = some (.cells [ov] 22) ∧ Mine (X.next + 2) G ov 3 1 ((fldL p rows r9 i).map I)) (i + 1) H' ∧ W.next ≤ H'.lo ∧ H'.lo ≤ X.next + 1 ∧ G.next ≤ H'.next
  obtain ⟨fr, hT⟩ := hH
  obtain ⟨hj, ov, h3, hov⟩ := hJ
  subst hT
  have hnx := hj.nx
  refine round_okR hj.b1 rfl ?_
  refine Ok.region ?_
  refine OkO.assign rfl rfl ?_
  refine OkO.nil ?_
  refine ⟨rfl, _, _, _, _, _, _, hj.b1, ?_⟩
  obtain ⟨G1, hG1⟩ : ∃ G1, G1 = G.put (X.next + 1) (.loop .busy none (mkT 5 0 1 (upd fr [(8, .ptr B 0)])) [23, 24] as28 bd28 X.next) := ⟨_, rfl⟩
  rw [← hG1]
  have hj1 : RngJ X [B] .busy none [23, 24] as28 bd28 (mkT 5 0 1 (upd fr [(8, .ptr B 0)])) G1 := by rw [hG1]; exact hj.turn
  have n1 : G1.next = G.next := by rw [hG1]; simp
  have hn1 := hj1.nx
  have hov1 : Mine (X.next + 2) G1 ov 3 1 ((fldL p rows r9 i).map I) := by rw [hG1]; exact hov.putO _ hj.b1 nofun
  have e3 : G1.get B = some (.cells [ov] 22) := by rw [hG1, gpo _ _ _ _ (by omega)]; exact h3
  have e3b : (G1.get B).bind AObj.cs = some [ov] := by rw [e3]; rfl
  obtain ⟨mo, hmo, _⟩ := hov1.len
  have hlo1 : W.next ≤ G1.lo := by rw [hG1, Heap.lo_put]; omega
  have gW : Grow W G1 := hj1.grow gX (fun j hj => by simp at hj; omega) hlo1
  refine Ok.block ?_
  refine Ok.region ?_
  refine OkO.load rfl rfl (lda (n := 1) (by kernel_rfl) (by first | assumption | (simp (disch := first | omega | (simp only [hNw, hPt]; omega)) only [gn0, gn1, gn2, gn3, gn4, gn5, gp0, gno, gpo] <;> first | rfl | assumption | exact gp0 _ _ _ | exact gn0 _ _)) (by first | rfl | assumption)) ?_
  refine OkO.move rfl rfl ?_
  refine OkO.buildSlice (el := 3) (sz := 1) (z := [.int .i64 0]) rfl (by kernel_rfl) (by decide) rfl rfl ?_
  refine OkO.builtinE rfl rfl rfl (Mine.app2 (W := W) (k0 := X.next + 2) (t := 22) (u := 22) (sz := 1) (by_ := 8) (e := 3) (n := 1) (new := [I ((i : Int) - 1)]) (hov1.to (by repeat (first | exact Ext.refl _ | apply Ext.new))) (by repeat (first | exact gW | apply Grow.new)) (by omega) (by simp; omega) (by kernel_rfl) (by kernel_rfl) (elems_new (n := 1) (sz := 1) rfl) rfl rfl (by have h9 := fldL_len p rows r9 i; simp; omega) (by omega) (by omega) rfl) ?_
  rintro v2 G2 ⟨r2, r3, r4, r5, r6, _⟩
  simp only [hNw] at r5 r6
  have v2o := r2.one
  have q3 : (G2.get B).bind AObj.cs = some [ov] := by rw [r5 _ (by omega) (hov1.far (by omega)), gno _ _ _ (by omega)]; exact e3b
  have q3o : G2.get B = some (.cells [ov] 22) := by rw [r5 _ (by omega) (hov1.far (by omega)), gno _ _ _ (by omega)]; exact e3
  refine OkO.store rfl rfl rfl (sAc (n := 1) (ag := false) (l := [v2]) (by kernel_rfl) q3o (by rw [v2o.1]; rfl) (by rw [v2o.1]; simp [atoms, v2o.2]) (by rw [v2o.1]; rfl)) ?_
  refine OkO.nil ?_
  have qb1 := (r5 (X.next + 1) (by omega) (hov1.far (by omega))).trans ((gno _ _ _ (by omega)).trans hj1.b1)
  have qp1 := (gpo G2 B (X.next + 1) (.cells [v2] 22) (by omega)).trans qb1
  refine ⟨_, _, _, _, _, _, _, qp1, .inl ⟨rfl, rfl, ⟨RngJ.turn ((hj1.move (fun j hj => by simp at hj; omega) (by simp only [hPt]; omega) (fun j a c => ?_))), v2, ?_, ?_⟩, ?_, ?_, ?_⟩⟩
  · rw [gpo _ _ _ _ (fun e => c (by simp [e])), r5 _ (by omega) (hov1.far (by omega)), gno _ _ _ (by omega)]
  · rw [gpo _ _ _ _ (by omega)]; exact gp0 _ _ _
  · rw [fldL_yes hr, List.map_append]
    exact (r2.put _ (by omega)).putO _ qp1 nofun
  · have := r3.lo; simp only [Heap.lo_put]; omega
  · simp only [Heap.lo_put]; omega
  · simp only [hPt]; omega
theorem c28Y (m : Nat) (ev rv : AV) (p : Pst) (rows : List (List Int)) (H : Heap) (hV : Ints H ev p.errs) (hRs : LstAt H rv rows) (hpl : p.errs.length ≤ 100000) (hrl : rows.length ≤ 100000) (hlens9 : ∀ r ∈ rows, r.length ≤ 100000) (hf : faultE p rows = 0) (hpossT : possB p rows rows.length = true) : ∃ v H', RR (m + 7) (.fn 28 [.agg (p.c ev), rv]) H = some (v, H') ∧ ∃ x, v = .tup [x, I 0] ∧ Ret H H' ∧ Mine H.next H' x 3 1 ((fldL p rows rows.length (p.errs.length + 1)).map I) := by
  show ∃ v H', evFn Try.prog (RR (m + 6)) 28 [.agg (p.c ev), rv] H = some (v, H') ∧ ∃ x, v = .tup [x, I 0] ∧ Ret H H' ∧ Mine H.next H' x 3 1 ((fldL p rows rows.length (p.errs.length + 1)).map I)
  refine fn_okE Try.func28 rfl rfl (by kernel_rfl) (by kernel_rfl) ?_
  obtain ⟨W, hW⟩ : ∃ W : Heap, W = ⟨H.t, H.next, H.next⟩ := ⟨_, rfl⟩
  have hg : ∀ n, W.get n = H.get n := fun n => by rw [hW]; rfl
  have hN : W.next = H.next := by rw [hW]
  have hE : ∀ G, Grow W G → Ext H G := fun G g => ⟨by rw [← hN]; exact g.next, fun n k => by rw [g.get n (by rw [hN]; exact k), hg]⟩
  have hG : Grow W W := Grow.refl (by rw [hW]; exact Nat.le_refl _)
  rw [← hW]
  have pev : ev.plain = true := lpl hV.len
  have hel := hV.len
  have hrlen := hRs.len
  have ats : ∀ mb, atoms [ev, I p.gain, I p.drop, I p.fall, I p.out, I p.ahead, .map mb] = true := fun mb => by rw [atoms, (len_one hel).2]; rfl
  obtain ⟨hok, hr60, hlens, hrbd⟩ := faultE_facts hf
  obtain ⟨⟨hp1, hp2⟩, hpe, hpg, hpd, hpf, hpo1, hpo2⟩ := Pst.ok_facts hok
  refine Ok.seq ?_
  refine Ok.region ?_
  refine OkO.box rfl rfl ?_
  refine OkO.assign rfl rfl ?_
  refine OkO.assign rfl rfl ?_
  refine OkO.nil ?_
  refine Ok.seq ?_
  refine Ok.region ?_
  refine OkO.load rfl rfl (ldg (n := 6) (by kernel_rfl) (by first | assumption | (simp (disch := first | omega | (simp only [hNw, hPt]; omega)) only [gn0, gn1, gn2, gn3, gn4, gn5, gp0, gno, gpo] <;> first | rfl | assumption | exact gp0 _ _ _ | exact gn0 _ _)) (by first | rfl | assumption)) ?_
  refine OkO.move rfl rfl ?_
  refine OkO.callE rfl rfl rfl rfl rfl (c60Y (m + 0) ev rv p rows _ (hV.ext (hE _ (by (try dsimp only); repeat (first | exact hG | apply Grow.new | (refine Grow.put ?_ _ (by first | omega | (simp only [hNw, hPt]; omega))))))) (hRs.ext (hE _ (by (try dsimp only); repeat (first | exact hG | apply Grow.new | (refine Grow.put ?_ _ (by first | omega | (simp only [hNw, hPt]; omega))))))) hpl hrl hlens9 hf hpossT) ?_ -- "sackung/alarm.allPossible"
  rintro _ H60 ⟨mb, rfl, q60, dm60⟩
  have n1 := q60.ext.next
  try simp only [hNw, hPt] at n1
  have gg1 : Grow W H60 := Grow.ret (by (try dsimp only); repeat (first | exact hG | apply Grow.new | (refine Grow.put ?_ _ (by first | omega | (simp only [hNw, hPt]; omega))))) q60
  have dmh := dm60.2.1
  refine OkO.move rfl rfl ?_
  refine OkO.extract rfl rfl rfl ?_
  refine OkO.extract rfl rfl rfl ?_
  refine OkO.alloc (z := [.nils, .int .i64 0, .int .i64 0, .int .i64 0, .int .i64 0, .int .i64 0, .nilm]) rfl (by kernel_rfl) ?_
  refine OkO.store rfl rfl rfl (sAc (n := 7) (ag := true) (by kernel_rfl) (by first | assumption | (simp (disch := first | omega | (simp only [hNw, hPt]; omega)) only [gn0, gn1, gn2, gn3, gn4, gn5, gp0, gno, gpo] <;> first | rfl | assumption | exact gp0 _ _ _ | exact gn0 _ _)) rfl (by first | rfl | assumption | exact ats _) (by first | rfl | exact spl_set _ _ _ (by first | assumption | omega | (simp; omega)))) ?_
  refine OkO.assign rfl rfl ?_
  refine OkO.nil ?_
  refine Ok.seq ?_
  refine Ok.seq ?_
  refine Ok.region ?_
  refine OkO.move rfl rfl ?_
  refine OkO.bin rfl rfl rfl ((bin_neq _ _).trans (congrArg (fun b => some (AV.bool b)) (show _ = false from (by rfl)))) ?_
  refine OkO.nil ?_
  refine Ok.condF rfl ?_
  refine Ok.skip ?_
  refine Ok.seq ?_
  refine Ok.region ?_
  refine OkO.alloc (z := [.nils]) rfl (by kernel_rfl) ?_
  refine OkO.nil ?_
  refine Ok.seq ?_
  refine Ok.seq ?_
  refine Ok.region ?_
  refine OkO.load rfl rfl (ldg (n := 7) (by kernel_rfl) (by first | assumption | (simp (disch := first | omega | (simp only [hNw, hPt]; omega)) only [gn0, gn1, gn2, gn3, gn4, gn5, gp0, gno, gpo] <;> first | rfl | assumption | exact gp0 _ _ _ | exact gn0 _ _)) (by first | rfl | assumption)) ?_
  refine OkO.move rfl rfl ?_
  refine OkO.builtin rfl rfl rfl (bln (by kernel_rfl) (by first | assumption | rfl)) ?_
  refine OkO.callE rfl rfl rfl rfl rfl (c66 (m + 5) ev p mb (rows.length : Int) _) ?_ -- "(sackung/alarm.duty).failures"
  rintro _ X ⟨rfl, q66, x1, x2, x3⟩
  simp only [hNw, hPt] at x1 x2 x3
  have n66 := q66.ext.next
  simp only [hNw, hPt] at n66
  have g66 : Grow W X := Grow.ret (by (try dsimp only); repeat (first | exact gg1 | apply Grow.new | (refine Grow.put ?_ _ (by first | omega | (simp only [hNw, hPt]; omega))))) q66
  have dmX := dm60.to (Ext.trans (by repeat (first | exact Ext.refl _ | (refine Ext.put ?_ _ (by first | omega | (simp only [hNw, hPt]; omega))) | apply Ext.new)) q66.ext)
  have xs : X.get (H60.next + 1) = some (.cells [.nils] 22) := by rw [q66.ext.get _ (by first | omega | (simp only [hNw, hPt]; omega))]; (have h9 := gn0 ((H60.new (.cells [.nils, I 0, I 0, I 0, I 0, I 0, .nilm] 114)).put H60.next (.cells (p.d ev mb) 114)) (.cells [.nils] 22)); rw [show ((H60.new (.cells [.nils, I 0, I 0, I 0, I 0, I 0, .nilm] 114)).put H60.next (.cells (p.d ev mb) 114)).next = H60.next + 1 from by simp] at h9; exact h9
  refine OkO.nil ?_
  refine Ok.block ?_
  obtain ⟨o, vs, hmo, ho, hvl, hvm⟩ := (dmX.low (Nat.zero_le _)).2.2
  refine Ok.rangeR rfl rfl (fun T0 hT0 => ?_)
  have hH : Has 5 [(8, .ptr (H60.next + 1) 0)] T0 := by rw [hT0]; exact Has.of (by kernel_rfl)
  have hvs : ∀ (i : Nat) (x : AV), vs[i]? = some x → lenOf x = some (lenM p rows i) := fun i x hx => by (have h9 := (hvm i x hx).ivs.len; rw [List.length_map] at h9; exact h9)
  have xmo : X.get mb = some o := hmo
  have xvm : ∀ (j : Nat) (x : AV), vs[j]? = some x → Mine 0 X x 125 2 (ivCells (mayL p ((j : Int) - 1) rows)) := fun j x hj => hvm j x hj
  obtain ⟨v3, H3, k1, k2, k3⟩ := c88 (m + 5) (X.next + 1) (H60.next + 2) (H60.next + 3) W.next mb (rows.length) ev p rows vs (fun i G => RngJ X [H60.next + 1] .ready none [23, 24] as28 bd28 T0 G ∧ ∃ ov, G.get (H60.next + 1) = some (.cells [ov] 22) ∧ Mine (X.next + 2) G ov 3 1 ((fldL p rows rows.length i).map I)) (fun _ => False) ((X.new .defd).new (.loop .ready none T0 [23, 24] as28 bd28 X.next)) (fun i G G1 h e => ⟨h.1.to e, let ⟨ov, a, c⟩ := h.2; ⟨ov, by rw [e.get _ (by have h9 := h.1.nx; omega)]; exact a, c.to e⟩⟩) (fun G G1 h e => h.elim) (fun i G h => ⟨by rw [h.1.get _ (by omega) (by simp <;> omega), x1] <;> rfl, by rw [h.1.get _ (by omega) (by simp <;> omega), x2] <;> rfl, by have h9 := h.1.nx; omega, o, by rw [h.1.get _ (by omega) (by simp <;> omega)]; exact xmo, ho⟩) hvl hvs hel (by omega) (fun i G hi hr h => ⟨h.1, by rw [fldL_no hr]; exact h.2⟩) (fun i x G hi hx hr h hlo => by obtain ⟨v, H9, a1, a2, a3, a4, a5, a6⟩ := r28 (m + 4) (H60.next + 1) rows.length i p rows x T0 W X G hH h g66 (by omega) (by omega) hi (by omega) hr hlo; exact ⟨v, H9, a1, ⟨true, a2, .inl ⟨rfl, a3⟩⟩, a4, a5, a6⟩) (⟨RngJ.start _ _ _ _ _ _, .nils, by rw [gno _ _ _ (by simp; omega), gno _ _ _ (by omega)]; exact xs, Mine.nil _ _ _ _⟩) (by show W.next ≤ X.lo; exact g66.lo) (by omega)
  · -- to its end
    rcases k2 with k2 | k2
    rotate_left
    exact k2.elim
    refine ⟨v3, H3, k1, _, _, T0, [23, 24], as28, bd28, X.next, k2.1.b1, .inl ⟨rfl, rfl, ?_⟩⟩
    have g3 : Grow W H3 := k2.1.grow g66 (fun j hj => by simp at hj; omega) k3
    obtain ⟨kj, ov, ks, ko⟩ := k2
    have kn := kj.nx
    clear k1
    have yd := kj.b0
    have ysb : (H3.get (H60.next + 1)).bind AObj.cs = some [ov] := by rw [ks]; rfl
    refine Ok.seq ?_
    refine Ok.region ?_
    refine OkO.load rfl rfl (lda (n := 1) (by kernel_rfl) (by first | assumption | (simp (disch := first | omega | (simp only [hNw, hPt]; omega)) only [gn0, gn1, gn2, gn3, gn4, gn5, gp0, gno, gpo] <;> first | rfl | assumption | exact gp0 _ _ _ | exact gn0 _ _)) (by first | rfl | assumption)) ?_
    refine OkO.assign rfl rfl ?_
    refine OkO.assign rfl rfl ?_
    refine OkO.nil ?_
    refine Ok.ret ⟨.inr rfl, ?_⟩
    rw [back_mark (d := X.next) (by first | assumption | (simp (disch := first | omega | (simp only [hNw, hPt]; omega)) only [gn0, gn1, gn2, gn3, gn4, gn5, gp0, gno, gpo] <;> first | rfl | assumption | exact gp0 _ _ _ | exact gn0 _ _))]
    refine back_newA rfl rfl (by rw [← hW]; exact (by (try dsimp only); repeat (first | exact g3 | apply Grow.new | (refine Grow.put ?_ _ (by first | omega | (simp only [hNw, hPt]; omega)))))) (fun H9 p1 p2 => ⟨ov, rfl, p1, ?_⟩)
    exact ((((ko.put (n := X.next + 1) _ (by omega)).put (n := X.next + 1) _ (by omega)).put (n := X.next) _ (by omega)).low (by omega)).backT p2 flat_tup2
end
end Go.Ev

set_option maxRecDepth 100000
set_option linter.unusedSimpArgs false
set_option linter.unusedVariables false
namespace Go.Ev
open Go Go.Proofs
noncomputable section
/-- The truth of a sentence, as a bool. -/
def bP (P : Prop) : Bool := @decide P (Classical.propDecidable P)
theorem bP_true {P : Prop} (h : P) : bP P = true := @decide_eq_true P (Classical.propDecidable P) h
theorem bP_false {P : Prop} (h : ¬ P) : bP P = false := @decide_eq_false P (Classical.propDecidable P) h
theorem bP_iff {P : Prop} : bP P = true ↔ P := @decide_eq_true_iff P (Classical.propDecidable P)
def StepOk (p : Pst) (a c : Int) : Prop := a - p.drop ≤ c ∧ c ≤ a + p.gain
theorem step_iff {p : Pst} {a c : Int} : inB c (afterI p (a, a)).1 (afterI p (a, a)).2 = true ↔ StepOk p a c := by unfold inB StepOk afterI; simp
/-- The speeds move as the post says. -/
def MovP (p : Pst) (sp : List Int) : Prop := (∀ x ∈ sp, 0 ≤ x ∧ x ≤ 1000) ∧ ∀ (h : Nat) (h2 : h + 1 < sp.length), StepOk p (sp[h]'(by omega)) sp[h + 1]
/-- All gauges that work agree. -/
def AgrP (p : Pst) (f : Int) (rows : List (List Int)) (sp : List Int) : Prop := ∀ (h : Nat) (h1 : h < sp.length) (h2 : h < rows.length), AgreeR p f rows[h] sp[h]
def TruP (p : Pst) (rows : List (List Int)) (f : Int) (sp : List Int) : Prop := sp.length = rows.length ∧ (-1 ≤ f ∧ f ≤ (p.errs.length : Int) - 1) ∧ MovP p sp ∧ AgrP p f rows sp
theorem c67 (m : Nat) (v : AV) (L : List Int) (H : Heap) (hV : lenOf v = some L.length) (hl : L.length ≤ 100000) : RR (m + 1) (.fn 67 [v]) H = some (.agg [I 0, I ((L.length : Int) - 1)], H) := by
  refine (R_fn _ _ _ _ _).trans ?_
  refine fn_ok Try.func67 rfl rfl (by kernel_rfl) (by kernel_rfl) ?_
  obtain ⟨W, hW⟩ : ∃ W : Heap, W = ⟨H.t, H.next, H.next⟩ := ⟨_, rfl⟩
  have hg : ∀ n, W.get n = H.get n := fun n => by rw [hW]; rfl
  have hN : W.next = H.next := by rw [hW]
  have hE : ∀ G, Grow W G → Ext H G := fun G g => ⟨by rw [← hN]; exact g.next, fun n k => by rw [g.get n (by rw [hN]; exact k), hg]⟩
  have hG : Grow W W := Grow.refl (by rw [hW]; exact Nat.le_refl _)
  rw [← hW]
  refine Ok.seq ?_
  refine Ok.region ?_
  refine OkO.alloc (z := [.int .i64 0, .int .i64 0]) rfl (by kernel_rfl) ?_
  refine OkO.nil ?_
  refine Ok.seq ?_
  refine Ok.region ?_
  refine OkO.move rfl rfl ?_
  refine OkO.builtin rfl rfl rfl (bln (by kernel_rfl) (by first | assumption | rfl)) ?_
  refine OkO.bin rfl rfl rfl (bin_sub (by omega) (by omega)) ?_
  refine OkO.buildArr (z := [.int .i64 0, .int .i64 0]) (sz := 1) rfl (by kernel_rfl) rfl rfl ?_
  refine OkO.store rfl rfl rfl (sAc (n := 2) (ag := true) (by kernel_rfl) (by first | assumption | (simp (disch := first | omega | (simp only [hNw, hPt]; omega)) only [gn0, gn1, gn2, gn3, gn4, gn5, gp0, gno, gpo] <;> first | rfl | assumption | exact gp0 _ _ _ | exact gn0 _ _)) rfl (by first | rfl | assumption) (by first | rfl | exact spl_set _ _ _ (by first | assumption | omega | (simp; omega)))) ?_
  refine OkO.nil ?_
  refine Ok.ret ⟨.inr rfl, ?_⟩
  exact back_flat (resV_cell rfl (ldg (n := 2) (by kernel_rfl) (by first | assumption | (simp (disch := first | omega | (simp only [hNw, hPt]; omega)) only [gn0, gn1, gn2, gn3, gn4, gn5, gp0, gno, gpo] <;> first | rfl | assumption)) (by first | rfl | assumption)) resV_nil) (rfl) rfl (by rw [← hW]; exact (by (try dsimp only); repeat (first | exact hG | apply Grow.new | (refine Grow.put ?_ _ (by first | omega | (simp only [hNw, hPt]; omega))))))
theorem c91 (m : Nat) (ev rv : AV) (p : Pst) (row : List Int) (s0 : Int) (g : Nat) (H : Heap) (hV : Ints H ev p.errs) (hR : Ints H rv row) (hg1 : g < p.errs.length) (hg2 : g < row.length) (hb1 : ∀ x ∈ p.errs, 0 ≤ x ∧ x ≤ 1000) (hb2 : ∀ x ∈ row, -1000 ≤ x ∧ x ≤ 2000) : RR (m + 2) (.fn 91 [.agg (p.c ev ++ [rv, I s0]), I (g : Int)]) H = some (.bool (inB s0 (gI p row g).1 (gI p row g).2), H) := by
  refine (R_fn _ _ _ _ _).trans ?_
  refine fn_ok Try.func91 rfl rfl (by kernel_rfl) (by kernel_rfl) ?_
  obtain ⟨W, hW⟩ : ∃ W : Heap, W = ⟨H.t, H.next, H.next⟩ := ⟨_, rfl⟩
  have hg : ∀ n, W.get n = H.get n := fun n => by rw [hW]; rfl
  have hN : W.next = H.next := by rw [hW]
  have hE : ∀ G, Grow W G → Ext H G := fun G g => ⟨by rw [← hN]; exact g.next, fun n k => by rw [g.get n (by rw [hN]; exact k), hg]⟩
  have hG : Grow W W := Grow.refl (by rw [hW]; exact Nat.le_refl _)
  rw [← hW]
  have pev : ev.plain = true := lpl hV.len
  have prv : rv.plain = true := lpl hR.len
  refine Ok.seq ?_
  refine Ok.region ?_
  refine OkO.box rfl rfl ?_
  refine OkO.assign rfl rfl ?_
  refine OkO.nil ?_
  refine Ok.seq ?_
  refine Ok.drawn [(0, true, []), (1, true, []), (2, true, []), (3, true, []), (4, true, []), (6, true, []), (7, true, []), (5, false, [7]), (8, false, [4, 1]), (9, true, [])] (by kernel_rfl) ?_
  refine OkP.step ?_
  refine OkO.fieldAddr (o := 0) rfl (by kernel_rfl) rfl ?_
  refine OkO.nil ⟨rfl, ?_⟩
  refine OkP.step ?_
  refine OkO.load rfl rfl (ldg (n := 6) (by kernel_rfl) (by first | assumption | (simp (disch := first | omega | (simp only [hNw, hPt]; omega)) only [gn0, gn1, gn2, gn3, gn4, gn5, gp0, gno, gpo] <;> first | rfl | assumption | exact gp0 _ _ _ | exact gn0 _ _)) (by first | rfl | assumption)) ?_
  refine OkO.nil ⟨rfl, ?_⟩
  refine OkP.step ?_
  refine OkO.move rfl rfl ?_
  refine OkO.nil ⟨rfl, ?_⟩
  refine OkP.step ?_
  refine OkO.fieldAddr (o := 6) rfl (by kernel_rfl) rfl ?_
  refine OkO.nil ⟨rfl, ?_⟩
  refine OkP.step ?_
  refine OkO.load rfl rfl (lda (n := 1) (by kernel_rfl) (by first | assumption | (simp (disch := first | omega | (simp only [hNw, hPt]; omega)) only [gn0, gn1, gn2, gn3, gn4, gn5, gp0, gno, gpo] <;> first | rfl | assumption | exact gp0 _ _ _ | exact gn0 _ _)) (by first | rfl | assumption)) ?_
  refine OkO.nil ⟨rfl, ?_⟩
  refine OkP.step ?_
  refine OkO.fieldAddr (o := 7) rfl (by kernel_rfl) rfl ?_
  refine OkO.nil ⟨rfl, ?_⟩
  refine OkP.step ?_
  refine OkO.load rfl rfl (lda (n := 1) (by kernel_rfl) (by first | assumption | (simp (disch := first | omega | (simp only [hNw, hPt]; omega)) only [gn0, gn1, gn2, gn3, gn4, gn5, gp0, gno, gpo] <;> first | rfl | assumption | exact gp0 _ _ _ | exact gn0 _ _)) (by first | rfl | assumption)) ?_
  refine OkO.nil ⟨rfl, ?_⟩
  refine OkP.step ?_
  refine OkO.callV rfl rfl rfl rfl rfl (c105 (m + 0) ev p rv row g _ (hV.ext (hE _ (by (try dsimp only); repeat (first | exact hG | apply Grow.new | (refine Grow.put ?_ _ (by first | omega | (simp only [hNw, hPt]; omega))))))) (hR.ext (hE _ (by (try dsimp only); repeat (first | exact hG | apply Grow.new | (refine Grow.put ?_ _ (by first | omega | (simp only [hNw, hPt]; omega))))))) hg1 hg2 hb1 hb2) ?_ -- "(sackung/alarm.Post).agreeing"
  refine OkO.nil ⟨(sco (sld rfl rfl (lda (n := 1) (by kernel_rfl) (by first | assumption | (simp (disch := first | omega | (simp only [hNw, hPt]; omega)) only [gn0, gn1, gn2, gn3, gn4, gn5, gp0, gno, gpo] <;> first | rfl | assumption | exact gp0 _ _ _ | exact gn0 _ _)) (by first | rfl | assumption)) rfl (eqr _ (by first | rfl | exact lpl (by assumption) | (simp [AV.plain, AV.plains, AV.cells, pev, Pst.c, prv])))) rfl), ?_⟩
  refine OkP.step ?_
  refine OkO.callV rfl rfl rfl rfl rfl (c68 (m + 0) _ _ _ _) ?_ -- "(sackung/alarm.ends).has"
  refine OkO.nil ⟨(sco (sld rfl rfl (lda (n := 1) (by kernel_rfl) (by first | assumption | (simp (disch := first | omega | (simp only [hNw, hPt]; omega)) only [gn0, gn1, gn2, gn3, gn4, gn5, gp0, gno, gpo] <;> first | rfl | assumption | exact gp0 _ _ _ | exact gn0 _ _)) (by first | rfl | assumption)) rfl (eqr _ (by first | rfl | exact lpl (by assumption) | (simp [AV.plain, AV.plains, AV.cells, pev, Pst.c, prv])))) (sco (sld rfl rfl (ldg (n := 6) (by kernel_rfl) (by first | assumption | (simp (disch := first | omega | (simp only [hNw, hPt]; omega)) only [gn0, gn1, gn2, gn3, gn4, gn5, gp0, gno, gpo] <;> first | rfl | assumption | exact gp0 _ _ _ | exact gn0 _ _)) (by first | rfl | assumption)) rfl (eqr _ (by first | rfl | exact lpl (by assumption) | (simp [AV.plain, AV.plains, AV.cells, pev, Pst.c, prv])))) rfl)), ?_⟩
  refine OkP.step ?_
  refine OkO.assign rfl rfl ?_
  refine OkO.nil ⟨rfl, ?_⟩
  refine OkP.nil ?_
  refine Ok.ret ⟨.inr rfl, ?_⟩
  exact back_flat rfl rfl rfl (by rw [← hW]; exact (by (try dsimp only); repeat (first | exact hG | apply Grow.new | (refine Grow.put ?_ _ (by first | omega | (simp only [hNw, hPt]; omega))))))
theorem c69 (m : Nat) (ev v : AV) (p : Pst) (sp : List Int) (H : Heap) (hel : ∃ q, lenOf ev = some q) (hS : Ints H v sp) (hsl : sp.length ≤ 100000) (hpg : 0 ≤ p.gain ∧ p.gain ≤ 200) (hpd : 0 ≤ p.drop ∧ p.drop ≤ 200) : RR (m + 3) (.fn 69 [.agg (p.c ev), v]) H = some (.bool (bP (MovP p sp)), H) := by
  refine (R_fn _ _ _ _ _).trans ?_
  refine fn_ok Try.func69 rfl rfl (by kernel_rfl) (by kernel_rfl) ?_
  obtain ⟨W, hW⟩ : ∃ W : Heap, W = ⟨H.t, H.next, H.next⟩ := ⟨_, rfl⟩
  have hg : ∀ n, W.get n = H.get n := fun n => by rw [hW]; rfl
  have hN : W.next = H.next := by rw [hW]
  have hE : ∀ G, Grow W G → Ext H G := fun G g => ⟨by rw [← hN]; exact g.next, fun n k => by rw [g.get n (by rw [hN]; exact k), hg]⟩
  have hG : Grow W W := Grow.refl (by rw [hW]; exact Nat.le_refl _)
  rw [← hW]
  have pev : ev.plain = true := by obtain ⟨q, hq⟩ := hel; exact lpl hq
  have hsn := hS.len
  refine Ok.seq ?_
  refine Ok.region ?_
  refine OkO.box rfl rfl ?_
  refine OkO.assign rfl rfl ?_
  refine OkO.nil ?_
  refine Ok.seq ?_
  refine Ok.seq ?_
  refine Ok.region ?_
  refine OkO.move rfl rfl ?_
  refine OkO.buildArr (z := [.int .i64 0, .int .i64 0]) (sz := 1) rfl (by kernel_rfl) rfl rfl ?_
  refine OkO.makeFunc rfl rfl rfl ?_
  refine OkO.callV rfl rfl rfl rfl rfl (c82r (m + 1) v (.fn 68 [.agg [I 0, I 1000]] []) sp (sp.all fun x => inB x 0 1000) (sp.map fun x => inB x 0 1000) (by rw [List.all_map]; rfl) _ (hS.ext (hE _ (by (try dsimp only); repeat (first | exact hG | apply Grow.new | (refine Grow.put ?_ _ (by first | omega | (simp only [hNw, hPt]; omega))))))) (by omega) (by simp) (fun i x b9 h1 h2 => ⟨68, [.agg [I 0, I 1000], I x], rfl, fun G _ => by rw [List.getElem?_map, h1] at h2; cases h2; exact c68 _ 0 1000 x G⟩)) ?_ -- "sackung/alarm.all[int]"
  refine OkO.un rfl rfl rfl ?_
  refine OkO.nil ?_
  refine Ok.cond rfl (fun h1 => ?_) (fun h1 => ?_)
  · -- yes h1
    have hno : ¬ MovP p sp := fun hc => by (have h9 : (sp.all fun x => inB x 0 1000) = true := List.all_eq_true.2 (fun x hx => by simpa [inB] using hc.1 x hx)); rw [h9] at h1; simp at h1
    refine Ok.seq ?_
    refine Ok.region ?_
    refine OkO.assign rfl rfl ?_
    refine OkO.nil ?_
    refine Ok.ret ⟨.inr rfl, ?_⟩
    exact back_flat rfl (congrArg AV.bool (bP_false hno).symm) rfl (by rw [← hW]; exact (by (try dsimp only); repeat (first | exact hG | apply Grow.new | (refine Grow.put ?_ _ (by first | omega | (simp only [hNw, hPt]; omega))))))
  · -- no h1
    refine Ok.skip ?_
    refine Ok.seq ?_
    refine Ok.seq ?_
    refine Ok.region ?_
    refine OkO.assign rfl rfl ?_
    refine OkO.nil ?_
    refine Ok.block ?_
    have hb : ∀ x ∈ sp, 0 ≤ x ∧ x ≤ 1000 := fun x hx => by (have h9 := List.all_eq_true.1 (show (sp.all fun x => inB x 0 1000) = true by simpa using h1) x hx; simpa [inB] using h9)
    obtain ⟨H6, hH6⟩ : ∃ H6, H6 = W.new (.cells (p.c ev) 30) := ⟨_, rfl⟩
    have e6 : (H6.get W.next).bind AObj.cs = some (p.c ev) := by rw [hH6, gn0]; rfl
    have g6 : Grow W H6 := by rw [hH6]; exact hG.new _
    refine Ok.loop (fun n s => ∃ i : Nat, n = sp.length + 1 - i ∧ 1 ≤ i ∧ i ≤ sp.length + 1 ∧ (∀ (h : Nat) (h2 : h + 1 < sp.length), h + 1 < i → StepOk p (sp[h]'(by omega)) sp[h + 1]) ∧ Has 6 [(1, v), (2, .ptr W.next 0), (5, I (i : Int))] s.T ∧ s.D = [] ∧ s.H = H6) (sp.length) (by unfold loopFuel; omega)
      ⟨1, rfl, Nat.le_refl _, by omega, fun h h2 h3 => absurd h3 (by omega), Has.of (by kernel_rfl), rfl, by rw [hH6]; rfl⟩ ?_
    rintro n ⟨T, D, G⟩ ⟨i, hn, hi1, hi, hall, ⟨f_, hT⟩, hD, hg9⟩
    dsimp only at *
    subst hT hD
    skip
    subst hg9
    refine Ok.seq ?_
    refine Ok.seq ?_
    refine Ok.region ?_
    refine OkO.move rfl rfl ?_
    refine OkO.move rfl rfl ?_
    refine OkO.builtin rfl rfl rfl (bln (by kernel_rfl) (by first | assumption | rfl)) ?_
    refine OkO.bin rfl rfl rfl (bin_lss _ _) ?_
    refine OkO.nil ?_
    refine Ok.cond rfl (fun h2 => ?_) (fun h2 => ?_)
    · -- yes h2
      have hlt : i < sp.length := by simpa using h2
      obtain ⟨xb, xo, xcs, x1, x2, x3, x4⟩ := (hS.ext (hE _ g6)).at' i hlt
      obtain ⟨yb, yo, ycs, y1, y2, y3, y4⟩ := (hS.ext (hE _ g6)).at' (i - 1) (by omega)
      have hb9 := hb _ (List.getElem_mem (l := sp) (n := i - 1) (by omega))
      refine Ok.skip ?_
      refine Ok.seq ?_
      refine Ok.block ?_
      refine Ok.seq ?_
      refine Ok.region ?_
      refine OkO.move rfl rfl ?_
      refine OkO.move rfl rfl ?_
      refine OkO.bin rfl rfl rfl (bin_sub (by omega) (by omega)) ?_
      refine OkO.index (sz := 1) (n := i - 1) rfl rfl (congrArg (fun z => some (I z)) (by omega)) (by kernel_rfl) (by first | assumption | rfl | exact slAt_slice (by omega) | exact slAt_opn (by omega)) ?_ -- index ('Go.Operand.tmp', 18) ('Go.Operand.tmp', 20)
      refine OkO.load rfl rfl (lda (n := 1) (by kernel_rfl) (by first | assumption | (simp (disch := first | omega | (simp only [hNw, hPt]; omega)) only [gn0, gn1, gn2, gn3, gn4, gn5, gp0, gno, gpo] <;> first | rfl | assumption | exact gp0 _ _ _ | exact gn0 _ _)) (by first | rfl | assumption)) ?_
      refine OkO.assign rfl rfl ?_
      refine OkO.nil ?_
      refine Ok.seq ?_
      refine Ok.drawn [(0, true, []), (1, true, []), (2, true, []), (3, true, []), (5, true, []), (6, true, []), (7, true, []), (8, true, []), (4, false, [8]), (9, false, [0]), (10, true, [])] (by kernel_rfl) ?_
      refine OkP.step ?_
      refine OkO.load rfl rfl (ldg (n := 6) (by kernel_rfl) (by first | assumption | (simp (disch := first | omega | (simp only [hNw, hPt]; omega)) only [gn0, gn1, gn2, gn3, gn4, gn5, gp0, gno, gpo] <;> first | rfl | assumption | exact gp0 _ _ _ | exact gn0 _ _)) (by first | rfl | assumption)) ?_
      refine OkO.nil ⟨rfl, ?_⟩
      refine OkP.step ?_
      refine OkO.move rfl rfl ?_
      refine OkO.nil ⟨rfl, ?_⟩
      refine OkP.step ?_
      refine OkO.move rfl rfl ?_
      refine OkO.nil ⟨rfl, ?_⟩
      refine OkP.step ?_
      refine OkO.buildArr (z := [.int .i64 0, .int .i64 0]) (sz := 1) rfl (by kernel_rfl) rfl rfl ?_
      refine OkO.nil ⟨rfl, ?_⟩
      refine OkP.step ?_
      refine OkO.move rfl rfl ?_
      refine OkO.nil ⟨rfl, ?_⟩
      refine OkP.step ?_
      refine OkO.move rfl rfl ?_
      refine OkO.nil ⟨rfl, ?_⟩
      refine OkP.step ?_
      refine OkO.index (sz := 1) (n := i) rfl rfl rfl (by kernel_rfl) (by first | assumption | rfl | exact slAt_slice (by omega) | exact slAt_opn (by omega)) ?_ -- index ('Go.Operand.tmp', 28) ('Go.Operand.tmp', 29)
      refine OkO.nil ⟨rfl, ?_⟩
      refine OkP.step ?_
      refine OkO.load rfl rfl (lda (n := 1) (by kernel_rfl) (by first | assumption | (simp (disch := first | omega | (simp only [hNw, hPt]; omega)) only [gn0, gn1, gn2, gn3, gn4, gn5, gp0, gno, gpo] <;> first | rfl | assumption | exact gp0 _ _ _ | exact gn0 _ _)) (by first | rfl | assumption)) ?_
      refine OkO.nil ⟨rfl, ?_⟩
      refine OkP.step ?_
      refine OkO.callV rfl rfl rfl rfl rfl (c89 (m + 1) ev p (sp[i - 1]'(by omega), sp[i - 1]'(by omega)) _ (by dsimp only; omega) ⟨hpg, hpd⟩) ?_ -- "(sackung/alarm.Post).after"
      refine OkO.nil ⟨(sco (sld rfl rfl (lda (n := 1) (by kernel_rfl) (by first | assumption | (simp (disch := first | omega | (simp only [hNw, hPt]; omega)) only [gn0, gn1, gn2, gn3, gn4, gn5, gp0, gno, gpo] <;> first | rfl | assumption | exact gp0 _ _ _ | exact gn0 _ _)) (by first | rfl | assumption)) rfl (eqr _ (by first | rfl | exact lpl (by assumption) | (simp [AV.plain, AV.plains, AV.cells, pev, Pst.c])))) rfl), ?_⟩
      refine OkP.step ?_
      refine OkO.callV rfl rfl rfl rfl rfl (c68 (m + 1) _ _ _ _) ?_ -- "(sackung/alarm.ends).has"
      refine OkO.nil ⟨(sco (sld rfl rfl (ldg (n := 6) (by kernel_rfl) (by first | assumption | (simp (disch := first | omega | (simp only [hNw, hPt]; omega)) only [gn0, gn1, gn2, gn3, gn4, gn5, gp0, gno, gpo] <;> first | rfl | assumption | exact gp0 _ _ _ | exact gn0 _ _)) (by first | rfl | assumption)) rfl (eqr _ (by first | rfl | exact lpl (by assumption) | (simp [AV.plain, AV.plains, AV.cells, pev, Pst.c])))) rfl), ?_⟩
      refine OkP.step ?_
      refine OkO.un rfl rfl rfl ?_
      refine OkO.nil ⟨rfl, ?_⟩
      refine OkP.nil ?_
      refine Ok.cond rfl (fun h3 => ?_) (fun h3 => ?_)
      · -- yes h3
        have hno : ¬ MovP p sp := fun hc => by (obtain ⟨k, rfl⟩ : ∃ k, i = k + 1 := ⟨i - 1, by omega⟩); (have h9 := step_iff.2 (hc.2 k hlt)); simp only [Nat.add_sub_cancel] at h3; rw [h9] at h3; simp at h3
        refine Ok.seq ?_
        refine Ok.region ?_
        refine OkO.assign rfl rfl ?_
        refine OkO.nil ?_
        refine Ok.ret ⟨.inr rfl, ?_⟩
        exact back_flat rfl (congrArg AV.bool (bP_false hno).symm) rfl (by rw [← hW]; exact g6)
      · -- no h3
        have hst9 : StepOk p (sp[i - 1]'(by omega)) sp[i] := step_iff.1 (by simpa using h3)
        refine Ok.skip ?_
        refine Ok.region ?_
        refine OkO.move rfl rfl ?_
        refine OkO.bin rfl rfl rfl (bin_add (by omega) (by omega)) ?_
        refine OkO.assign rfl rfl ?_
        refine OkO.nil ?_
        refine ⟨sp.length + 1 - (i + 1), by omega, i + 1, rfl, by omega, by omega, fun h h2 h3 => ?_, Has.of (by kernel_rfl), rfl, rfl⟩
        by_cases e : h + 1 = i
        · subst e
          exact hst9
        · exact hall h h2 (by omega)
    · -- no h2
      have hge : sp.length ≤ i := by simpa using h2
      refine Ok.exit ?_
      refine Ok.seq ?_
      refine Ok.region ?_
      refine OkO.assign rfl rfl ?_
      refine OkO.nil ?_
      refine Ok.ret ⟨.inr rfl, ?_⟩
      exact back_flat rfl (congrArg AV.bool (bP_true ⟨hb, fun h h2 => hall h h2 (by omega)⟩).symm) rfl (by rw [← hW]; exact g6)
theorem build149 {xr : AV} {n : Nat} (h : lenOf xr = some n) (ev : AV) (p : Pst) (s0 : Int) : fillS (fun i => [(0, 6), (6, 1), (7, 1)][i]?) [.nils, I 0, I 0, I 0, I 0, I 0, .nils, I 0] [(0, .agg (List.take 6 (List.drop 0 (p.c ev)))), (1, xr), (2, I s0)] = some (p.c ev ++ [xr, I s0]) := by
  have hv := (len_one h).1
  show fillS _ _ [(0, .agg [ev, I p.gain, I p.drop, I p.fall, I p.out, I p.ahead]), (1, xr), (2, I s0)] = some [ev, I p.gain, I p.drop, I p.fall, I p.out, I p.ahead, xr, I s0]
  simp [fillS, spl, hv, show ∀ z, (I z).cells = [I z] from fun _ => rfl, show ∀ l, (AV.agg l).cells = l from fun _ => rfl]
theorem work_all {p : Pst} {f : Int} {row : List Int} {v : Int} : ((workL p.errs.length f).all fun g => inB v (gI p row g).1 (gI p row g).2) = true ↔ AgreeR p f row v := by
  rw [List.all_eq_true]
  unfold AgreeR workL
  constructor
  · intro h g h1 h2
    have := h g (List.mem_filter.2 ⟨List.mem_range.2 h1, by simpa using h2⟩)
    simpa [inB, inI] using this
  · intro h g hg
    obtain ⟨h1, h2⟩ := List.mem_filter.1 hg
    have := h g (List.mem_range.1 h1) (by simpa using h2)
    simpa [inB, inI] using this
theorem c70 (m : Nat) (ev rv v : AV) (p : Pst) (rows : List (List Int)) (f : Int) (sp : List Int) (H : Heap) (hV : Ints H ev p.errs) (hRs : LstAt H rv rows) (hS : Ints H v sp) (hsl : sp.length ≤ 100000) (hsr : sp.length = rows.length) (hpl : p.errs.length ≤ 1000) (hpe : ∀ x ∈ p.errs, 0 ≤ x ∧ x ≤ 1000) (hlens : ∀ r ∈ rows, r.length = p.errs.length) (hrbd : ∀ r ∈ rows, ∀ x ∈ r, -1000 ≤ x ∧ x ≤ 2000) : RR (m + 4) (.fn 70 [.agg (p.c ev), rv, I f, v]) H = some (.bool (bP (AgrP p f rows sp)), H) := by
  refine (R_fn _ _ _ _ _).trans ?_
  refine fn_ok Try.func70 rfl rfl (by kernel_rfl) (by kernel_rfl) ?_
  obtain ⟨W, hW⟩ : ∃ W : Heap, W = ⟨H.t, H.next, H.next⟩ := ⟨_, rfl⟩
  have hg : ∀ n, W.get n = H.get n := fun n => by rw [hW]; rfl
  have hN : W.next = H.next := by rw [hW]
  have hE : ∀ G, Grow W G → Ext H G := fun G g => ⟨by rw [← hN]; exact g.next, fun n k => by rw [g.get n (by rw [hN]; exact k), hg]⟩
  have hG : Grow W W := Grow.refl (by rw [hW]; exact Nat.le_refl _)
  rw [← hW]
  have pev : ev.plain = true := lpl hV.len
  have hsn := hS.len
  have hrn := hRs.len
  refine Ok.seq ?_
  refine Ok.region ?_
  refine OkO.box rfl rfl ?_
  refine OkO.assign rfl rfl ?_
  refine OkO.nil ?_
  refine Ok.seq ?_
  refine Ok.seq ?_
  refine Ok.region ?_
  refine OkO.move rfl rfl ?_
  refine OkO.builtin rfl rfl rfl (bln (by kernel_rfl) (by first | assumption | rfl)) ?_
  refine OkO.move rfl rfl ?_
  refine OkO.nil ?_
  refine Ok.block ?_
  refine Ok.loop (fun n s => ∃ i : Nat, n = sp.length - i ∧ i ≤ sp.length ∧ (∀ (h : Nat) (h1 : h < sp.length) (h2 : h < rows.length), h < i → AgreeR p f rows[h] sp[h]) ∧ Has 6 [(1, rv), (2, I f), (4, .ptr W.next 0), (11, v), (12, I (sp.length : Int)), (13, I (i : Int))] s.T ∧ s.D = [] ∧ Grow W s.H ∧ (s.H.get W.next).bind AObj.cs = some (p.c ev) ∧ W.next + 1 ≤ s.H.next) (sp.length) (by unfold loopFuel; omega)
    ⟨0, rfl, Nat.zero_le _, fun h h1 h2 h3 => absurd h3 (Nat.not_lt_zero h), Has.of (by kernel_rfl), rfl, (by (try dsimp only); repeat (first | exact hG | apply Grow.new | (refine Grow.put ?_ _ (by first | omega | (simp only [hNw, hPt]; omega))))), by rw [gn0]; rfl, by simp⟩ ?_
  rintro n ⟨T, D, G⟩ ⟨i, hn, hi, hall, ⟨f_, hT⟩, hD, hg, a_, hn1⟩
  dsimp only at *
  subst hT hD
  have hgn := hg.next
  refine Ok.seq ?_
  refine Ok.region ?_
  refine OkO.bin rfl rfl rfl (bin_lss _ _) ?_
  refine OkO.nil ?_
  refine Ok.seq ?_
  refine Ok.cond rfl (fun h1 => ?_) (fun h1 => ?_)
  · -- yes h1
    have hlt : i < sp.length := by simpa using h1
    obtain ⟨xb, xo, xcs, x1, x2, x3, x4⟩ := (hS.ext (hE _ hg)).at' i hlt
    obtain ⟨xr, rb, ro, rcs, r1, r2, r3, r4, r5⟩ := (hRs.ext (hE _ hg)).at_ i (by omega)
    have pxr : xr.plain = true := lpl r5.len
    refine Ok.skip ?_
    refine Ok.seq ?_
    refine Ok.block ?_
    refine Ok.seq ?_
    refine Ok.region ?_
    refine OkO.move rfl rfl ?_
    refine OkO.index (sz := 1) (n := i) rfl rfl rfl (by kernel_rfl) (by first | assumption | rfl | exact slAt_slice (by omega) | exact slAt_opn (by omega)) ?_ -- index ('Go.Operand.tmp', 11) ('Go.Operand.tmp', 13)
    refine OkO.load rfl rfl (lda (n := 1) (by kernel_rfl) (by first | assumption | (simp (disch := first | omega | (simp only [hNw, hPt]; omega)) only [gn0, gn1, gn2, gn3, gn4, gn5, gp0, gno, gpo] <;> first | rfl | assumption | exact gp0 _ _ _ | exact gn0 _ _)) (by first | rfl | assumption)) ?_
    refine OkO.assign rfl rfl ?_
    refine OkO.assign rfl rfl ?_
    refine OkO.nil ?_
    refine Ok.seq ?_
    refine Ok.drawn [(0, true, []), (1, true, []), (3, true, []), (4, true, []), (5, true, []), (6, true, []), (7, true, []), (8, true, []), (9, true, []), (10, true, []), (2, false, [7, 3]), (11, false, [7, 3, 0]), (12, true, [])] (by kernel_rfl) ?_
    refine OkP.step ?_
    refine OkO.load rfl rfl (ldg (n := 6) (by kernel_rfl) (by first | assumption | (simp (disch := first | omega | (simp only [hNw, hPt]; omega)) only [gn0, gn1, gn2, gn3, gn4, gn5, gp0, gno, gpo] <;> first | rfl | assumption | exact gp0 _ _ _ | exact gn0 _ _)) (by first | rfl | assumption)) ?_
    refine OkO.nil ⟨rfl, ?_⟩
    refine OkP.step ?_
    refine OkO.move rfl rfl ?_
    refine OkO.nil ⟨rfl, ?_⟩
    refine OkP.step ?_
    refine OkO.load rfl rfl (ldg (n := 6) (by kernel_rfl) (by first | assumption | (simp (disch := first | omega | (simp only [hNw, hPt]; omega)) only [gn0, gn1, gn2, gn3, gn4, gn5, gp0, gno, gpo] <;> first | rfl | assumption | exact gp0 _ _ _ | exact gn0 _ _)) (by first | rfl | assumption)) ?_
    refine OkO.nil ⟨rfl, ?_⟩
    refine OkP.step ?_
    refine OkO.move rfl rfl ?_
    refine OkO.nil ⟨rfl, ?_⟩
    refine OkP.step ?_
    refine OkO.move rfl rfl ?_
    refine OkO.nil ⟨rfl, ?_⟩
    refine OkP.step ?_
    refine OkO.index (sz := 1) (n := i) rfl rfl rfl (by kernel_rfl) (by first | assumption | rfl | exact slAt_slice (by omega) | exact slAt_opn (by omega)) ?_ -- index ('Go.Operand.tmp', 22) ('Go.Operand.tmp', 23)
    refine OkO.nil ⟨rfl, ?_⟩
    refine OkP.step ?_
    refine OkO.load rfl rfl (lda (n := 1) (by kernel_rfl) (by first | assumption | (simp (disch := first | omega | (simp only [hNw, hPt]; omega)) only [gn0, gn1, gn2, gn3, gn4, gn5, gp0, gno, gpo] <;> first | rfl | assumption | exact gp0 _ _ _ | exact gn0 _ _)) (by first | rfl | assumption)) ?_
    refine OkO.nil ⟨rfl, ?_⟩
    refine OkP.step ?_
    refine OkO.move rfl rfl ?_
    refine OkO.nil ⟨rfl, ?_⟩
    refine OkP.step ?_
    refine OkO.build (z := [.nils, .int .i64 0, .int .i64 0, .int .i64 0, .int .i64 0, .int .i64 0, .nils, .int .i64 0]) (pl := [(0, 6), (6, 1), (7, 1)]) (cs := p.c ev ++ [xr, I sp[i]]) rfl (by kernel_rfl) rfl (build149 r5.len _ _ _) ?_
    refine OkO.nil ⟨rfl, ?_⟩
    refine OkP.step ?_
    refine OkO.makeFunc rfl rfl rfl ?_
    refine OkO.nil ⟨rfl, ?_⟩
    refine OkP.step ?_
    refine OkO.callE rfl rfl rfl rfl rfl (c90 (m + 2) ev p f _ hV.len (by omega)) ?_ -- "(sackung/alarm.Post).working"
    rintro wv H90 ⟨q90, m90⟩
    have n1 := q90.ext.next
    try simp only [hNw, hPt] at n1
    have gg1 : Grow W H90 := Grow.ret (by (try dsimp only); repeat (first | exact hg | apply Grow.new | (refine Grow.put ?_ _ (by first | omega | (simp only [hNw, hPt]; omega))))) q90
    have a1 : (H90.get (W.next)).bind AObj.cs = some (p.c ev) := by rw [q90.ext.get _ (by first | omega | (simp only [hNw, hPt]; omega))]; first | assumption | (rw [gn0]; rfl) | (rw [get_put_eq] <;> rfl) | (simp (disch := first | omega | (simp only [hNw, hPt]; omega)) only [gn0, gn1, gn2, gn3, gn4, gn5, gp0, gno, gpo] <;> first | rfl | assumption | (rw [get_put_eq] <;> rfl))
    have r2z : (H90.get rb).bind AObj.cs = some rcs := by rw [q90.ext.get _ r4]; exact r2
    refine OkO.nil ⟨(sco (sld rfl rfl (lda (n := 1) (by kernel_rfl) (by first | assumption | (simp (disch := first | omega | (simp only [hNw, hPt]; omega)) only [gn0, gn1, gn2, gn3, gn4, gn5, gp0, gno, gpo] <;> first | rfl | assumption | exact gp0 _ _ _ | exact gn0 _ _)) (by first | rfl | assumption)) rfl (eqr _ (by first | rfl | exact lpl (by assumption) | (simp [AV.plain, AV.plains, AV.cells, pev, Pst.c, pxr])))) (sco (sld rfl rfl (ldg (n := 6) (by kernel_rfl) (by first | assumption | (simp (disch := first | omega | (simp only [hNw, hPt]; omega)) only [gn0, gn1, gn2, gn3, gn4, gn5, gp0, gno, gpo] <;> first | rfl | assumption | exact gp0 _ _ _ | exact gn0 _ _)) (by first | rfl | assumption)) rfl (eqr _ (by first | rfl | exact lpl (by assumption) | (simp [AV.plain, AV.plains, AV.cells, pev, Pst.c, pxr])))) rfl)), ?_⟩
    refine OkP.step ?_
    refine OkO.callV rfl rfl rfl rfl rfl (c82r (m + 2) wv (.fn 91 [.agg (p.c ev ++ [xr, I sp[i]])] []) ((workL p.errs.length f).map fun (g : Nat) => (g : Int)) ((workL p.errs.length f).all fun g => inB sp[i] (gI p (rows[i]'(by omega)) g).1 (gI p (rows[i]'(by omega)) g).2) ((workL p.errs.length f).map fun g => inB sp[i] (gI p (rows[i]'(by omega)) g).1 (gI p (rows[i]'(by omega)) g).2) (by rw [List.all_map]; rfl) _ (by rw [List.map_map]; exact m90.nats) (by have := workL_len p.errs.length f; simp; omega) (by simp) (fun j x b9 h1 h2 => by (rw [List.getElem?_map] at h1 h2); (obtain ⟨g, hg1, hg2⟩ := Option.map_eq_some_iff.1 h1); rw [hg1] at h2; cases h2; subst hg2; exact ⟨91, [.agg (p.c ev ++ [xr, I sp[i]]), I (g : Int)], rfl, fun G9 e9 => c91 (m + 0) ev xr p (rows[i]'(by omega)) sp[i] g G9 (hV.ext (Ext.trans (hE _ gg1) e9)) (r5.ext (Ext.trans q90.ext e9)) (workL_lt (List.mem_of_getElem? hg1)) (by rw [hlens _ (List.getElem_mem _)]; exact workL_lt (List.mem_of_getElem? hg1)) hpe (hrbd _ (List.getElem_mem _))⟩)) ?_ -- "sackung/alarm.all[int]"
    refine OkO.nil ⟨(sco (sld rfl rfl (lda (n := 1) (by kernel_rfl) (by first | assumption | (simp (disch := first | omega | (simp only [hNw, hPt]; omega)) only [gn0, gn1, gn2, gn3, gn4, gn5, gp0, gno, gpo] <;> first | rfl | assumption | exact gp0 _ _ _ | exact gn0 _ _)) (by first | rfl | assumption)) rfl (eqr _ (by first | rfl | exact lpl (by assumption) | (simp [AV.plain, AV.plains, AV.cells, pev, Pst.c, pxr])))) (sco (sld rfl rfl (ldg (n := 6) (by kernel_rfl) (by first | assumption | (simp (disch := first | omega | (simp only [hNw, hPt]; omega)) only [gn0, gn1, gn2, gn3, gn4, gn5, gp0, gno, gpo] <;> first | rfl | assumption | exact gp0 _ _ _ | exact gn0 _ _)) (by first | rfl | assumption)) rfl (eqr _ (by first | rfl | exact lpl (by assumption) | (simp [AV.plain, AV.plains, AV.cells, pev, Pst.c, pxr])))) (sco (sld rfl rfl (ldg (n := 6) (by kernel_rfl) (by first | assumption | (simp (disch := first | omega | (simp only [hNw, hPt]; omega)) only [gn0, gn1, gn2, gn3, gn4, gn5, gp0, gno, gpo] <;> first | rfl | assumption | exact gp0 _ _ _ | exact gn0 _ _)) (by first | rfl | assumption)) rfl (eqr _ (by first | rfl | exact lpl (by assumption) | (simp [AV.plain, AV.plains, AV.cells, pev, Pst.c, pxr])))) rfl))), ?_⟩
    refine OkP.step ?_
    refine OkO.un rfl rfl rfl ?_
    refine OkO.nil ⟨rfl, ?_⟩
    refine OkP.nil ?_
    refine Ok.cond rfl (fun h2 => ?_) (fun h2 => ?_)
    · -- yes h2
      have hno : ¬ AgrP p f rows sp := fun hc => by (have h9 := work_all.2 (hc i hlt (by omega))); rw [h9] at h2; simp at h2
      refine Ok.seq ?_
      refine Ok.region ?_
      refine OkO.assign rfl rfl ?_
      refine OkO.nil ?_
      refine Ok.ret ⟨.inr rfl, ?_⟩
      exact back_flat rfl (congrArg AV.bool (bP_false hno).symm) rfl (by rw [← hW]; exact gg1)
    · -- no h2
      have hcond := h2
      refine Ok.skip ?_
      refine Ok.region ?_
      refine OkO.bin rfl rfl rfl (bin_add (by omega) (by omega)) ?_
      refine OkO.move rfl rfl ?_
      refine OkO.nil ?_
      refine ⟨sp.length - (i + 1), by omega, i + 1, rfl, by omega, fun h h1 h2 h3 => ?_, Has.of (by kernel_rfl), rfl, gg1, a1, by first | omega | (dsimp only; omega)⟩
      by_cases e : h = i
      · subst e; exact work_all.1 (by simpa using hcond)
      · exact hall h h1 h2 (by omega)
  · -- no h1
    have hge : sp.length ≤ i := by simpa using h1
    refine Ok.exit ?_
    refine Ok.seq ?_
    refine Ok.region ?_
    refine OkO.assign rfl rfl ?_
    refine OkO.nil ?_
    refine Ok.ret ⟨.inr rfl, ?_⟩
    exact back_flat rfl (congrArg AV.bool (bP_true (fun h h1 h2 => hall h h1 h2 (by omega))).symm) rfl (by rw [← hW]; exact hg)
end
end Go.Ev

set_option maxRecDepth 100000
set_option linter.unusedSimpArgs false
set_option linter.unusedVariables false
namespace Go.Ev
open Go Go.Proofs
noncomputable section
theorem bP_congr {P Q : Prop} (h : P ↔ Q) : bP P = bP Q := by rw [Bool.eq_iff_iff, bP_iff, bP_iff, h]
theorem c29Y (m : Nat) (ev rv v : AV) (p : Pst) (rows : List (List Int)) (f : Int) (sp : List Int) (H : Heap) (hV : Ints H ev p.errs) (hRs : LstAt H rv rows) (hpl : p.errs.length ≤ 100000) (hrl : rows.length ≤ 100000) (hlens9 : ∀ r ∈ rows, r.length ≤ 100000) (hS : Ints H v sp) (hsl : sp.length ≤ 100000) (hf : faultE p rows = 0) : RR (m + 6) (.fn 29 [.agg (p.c ev), rv, I f, v]) H = some (.bool (bP (TruP p rows f sp)), H) := by
  refine (R_fn _ _ _ _ _).trans ?_
  refine fn_ok Try.func29 rfl rfl (by kernel_rfl) (by kernel_rfl) ?_
  obtain ⟨W, hW⟩ : ∃ W : Heap, W = ⟨H.t, H.next, H.next⟩ := ⟨_, rfl⟩
  have hg : ∀ n, W.get n = H.get n := fun n => by rw [hW]; rfl
  have hN : W.next = H.next := by rw [hW]
  have hE : ∀ G, Grow W G → Ext H G := fun G g => ⟨by rw [← hN]; exact g.next, fun n k => by rw [g.get n (by rw [hN]; exact k), hg]⟩
  have hG : Grow W W := Grow.refl (by rw [hW]; exact Nat.le_refl _)
  rw [← hW]
  have pev : ev.plain = true := lpl hV.len
  have hel := hV.len
  have hrlen := hRs.len
  have ats : ∀ mb, atoms [ev, I p.gain, I p.drop, I p.fall, I p.out, I p.ahead, .map mb] = true := fun mb => by rw [atoms, (len_one hel).2]; rfl
  have hsn := hS.len
  obtain ⟨hok, hr60, hlens, hrbd⟩ := faultE_facts hf
  obtain ⟨⟨hp1, hp2⟩, hpe, hpg, hpd, hpf, hpo1, hpo2⟩ := Pst.ok_facts hok
  refine Ok.seq ?_
  refine Ok.region ?_
  refine OkO.box rfl rfl ?_
  refine OkO.assign rfl rfl ?_
  refine OkO.nil ?_
  refine Ok.seq ?_
  refine Ok.region ?_
  refine OkO.load rfl rfl (ldg (n := 6) (by kernel_rfl) (by first | assumption | (simp (disch := first | omega | (simp only [hNw, hPt]; omega)) only [gn0, gn1, gn2, gn3, gn4, gn5, gp0, gno, gpo] <;> first | rfl | assumption | exact gp0 _ _ _ | exact gn0 _ _)) (by first | rfl | assumption)) ?_
  refine OkO.move rfl rfl ?_
  refine OkO.callV rfl rfl rfl rfl rfl ((c62 (m + 0) ev rv p rows _ (hV.ext (hE _ (by (try dsimp only); repeat (first | exact hG | apply Grow.new | (refine Grow.put ?_ _ (by first | omega | (simp only [hNw, hPt]; omega))))))) (hRs.ext (hE _ (by (try dsimp only); repeat (first | exact hG | apply Grow.new | (refine Grow.put ?_ _ (by first | omega | (simp only [hNw, hPt]; omega))))))) hpl hrl hlens9).trans (by rw [hf])) ?_ -- "sackung/alarm.checkReads"
  refine OkO.bin rfl rfl rfl ((bin_eql _ _).trans (congrArg (fun b => some (AV.bool b)) (show _ = true from (by rfl)))) ?_
  refine OkO.move rfl rfl ?_
  refine OkO.move rfl rfl ?_
  refine OkO.bin rfl rfl rfl (bin_eql _ _) ?_
  refine OkO.move rfl rfl ?_
  refine OkO.split (d := 16) rfl (fun g1 => ?_) (fun g1 => ?_)
  · -- true g1
    have hfb : -1 ≤ f ∧ f ≤ (p.errs.length : Int) - 1 := by (have h9 : f = -1 := by simpa using g1); omega
    refine OkO.skip rfl ?_
    refine OkO.skip rfl ?_
    refine OkO.skip rfl ?_
    refine OkO.skip rfl ?_
    refine OkO.skip rfl ?_
    refine OkO.pick (b := true) rfl rfl (fun _ => rfl) nofun ?_
    refine OkO.pick (b := true) rfl rfl (fun _ => rfl) nofun ?_
    refine OkO.move rfl rfl ?_
    refine OkO.move rfl rfl ?_
    refine OkO.builtin rfl rfl rfl (bln (by kernel_rfl) (by first | assumption | rfl)) ?_
    refine OkO.move rfl rfl ?_
    refine OkO.builtin rfl rfl rfl (bln (by kernel_rfl) (by first | assumption | rfl)) ?_
    refine OkO.bin rfl rfl rfl (bin_eql _ _) ?_
    refine OkO.pick (b := true) rfl rfl (fun _ => rfl) nofun ?_
    refine OkO.move rfl rfl ?_
    refine OkO.split (d := 31) rfl (fun g2 => ?_) (fun g2 => ?_)
    · -- true g2
      have hl : sp.length = rows.length := by (have h9 : (sp.length : Int) = (rows.length : Int) := by simpa using g2); omega
      refine OkO.load rfl rfl (ldg (n := 6) (by kernel_rfl) (by first | assumption | (simp (disch := first | omega | (simp only [hNw, hPt]; omega)) only [gn0, gn1, gn2, gn3, gn4, gn5, gp0, gno, gpo] <;> first | rfl | assumption | exact gp0 _ _ _ | exact gn0 _ _)) (by first | rfl | assumption)) ?_
      refine OkO.move rfl rfl ?_
      refine OkO.callV rfl rfl rfl rfl rfl (c69 (m + 2) ev v p sp _ ⟨_, hel⟩ (hS.ext (hE _ (by (try dsimp only); repeat (first | exact hG | apply Grow.new | (refine Grow.put ?_ _ (by first | omega | (simp only [hNw, hPt]; omega))))))) hsl hpg hpd) ?_ -- "(sackung/alarm.Post).mayMove"
      refine OkO.pick (b := true) rfl rfl (fun _ => rfl) nofun ?_
      refine OkO.move rfl rfl ?_
      refine OkO.split (d := 36) rfl (fun g3 => ?_) (fun g3 => ?_)
      · -- true g3
        have hmv : MovP p sp := bP_iff.1 g3
        refine OkO.load rfl rfl (ldg (n := 6) (by kernel_rfl) (by first | assumption | (simp (disch := first | omega | (simp only [hNw, hPt]; omega)) only [gn0, gn1, gn2, gn3, gn4, gn5, gp0, gno, gpo] <;> first | rfl | assumption | exact gp0 _ _ _ | exact gn0 _ _)) (by first | rfl | assumption)) ?_
        refine OkO.move rfl rfl ?_
        refine OkO.move rfl rfl ?_
        refine OkO.move rfl rfl ?_
        refine OkO.callV rfl rfl rfl rfl rfl (c70 (m + 1) ev rv v p rows f sp _ (hV.ext (hE _ (by (try dsimp only); repeat (first | exact hG | apply Grow.new | (refine Grow.put ?_ _ (by first | omega | (simp only [hNw, hPt]; omega))))))) (hRs.ext (hE _ (by (try dsimp only); repeat (first | exact hG | apply Grow.new | (refine Grow.put ?_ _ (by first | omega | (simp only [hNw, hPt]; omega))))))) (hS.ext (hE _ (by (try dsimp only); repeat (first | exact hG | apply Grow.new | (refine Grow.put ?_ _ (by first | omega | (simp only [hNw, hPt]; omega))))))) hsl hl (by omega) hpe hlens hrbd) ?_ -- "(sackung/alarm.Post).agree"
        refine OkO.pick (b := true) rfl rfl (fun _ => rfl) nofun ?_
        refine OkO.assign rfl rfl ?_
        refine OkO.nil ?_
        refine Ok.ret ⟨.inr rfl, ?_⟩
        exact back_flat rfl (congrArg AV.bool (bP_congr ⟨fun h => ⟨hl, hfb, hmv, h⟩, fun h => h.2.2.2⟩)) rfl (by rw [← hW]; exact (by (try dsimp only); repeat (first | exact hG | apply Grow.new | (refine Grow.put ?_ _ (by first | omega | (simp only [hNw, hPt]; omega))))))
      · -- false g3
        have hno : ¬ TruP p rows f sp := fun hc => by (have h9 := bP_true hc.2.2.1); rw [h9] at g3; cases g3
        refine OkO.skip rfl ?_
        refine OkO.skip rfl ?_
        refine OkO.skip rfl ?_
        refine OkO.skip rfl ?_
        refine OkO.skip rfl ?_
        refine OkO.pick (b := false) rfl rfl nofun (fun _ => rfl) ?_
        refine OkO.assign rfl rfl ?_
        refine OkO.nil ?_
        refine Ok.ret ⟨.inr rfl, ?_⟩
        exact back_flat rfl (congrArg AV.bool (bP_false hno).symm) rfl (by rw [← hW]; exact (by (try dsimp only); repeat (first | exact hG | apply Grow.new | (refine Grow.put ?_ _ (by first | omega | (simp only [hNw, hPt]; omega))))))
    · -- false g2
      have hno : ¬ TruP p rows f sp := fun hc => by (have h9 := hc.1); simp at g2; omega
      refine OkO.skip rfl ?_
      refine OkO.skip rfl ?_
      refine OkO.skip rfl ?_
      refine OkO.pick (b := false) rfl rfl nofun (fun _ => rfl) ?_
      refine OkO.move rfl rfl ?_
      refine OkO.skip rfl ?_
      refine OkO.skip rfl ?_
      refine OkO.skip rfl ?_
      refine OkO.skip rfl ?_
      refine OkO.skip rfl ?_
      refine OkO.pick (b := false) rfl rfl nofun (fun _ => rfl) ?_
      refine OkO.assign rfl rfl ?_
      refine OkO.nil ?_
      refine Ok.ret ⟨.inr rfl, ?_⟩
      exact back_flat rfl (congrArg AV.bool (bP_false hno).symm) rfl (by rw [← hW]; exact (by (try dsimp only); repeat (first | exact hG | apply Grow.new | (refine Grow.put ?_ _ (by first | omega | (simp only [hNw, hPt]; omega))))))
  · -- false g1
    have hf1 : f ≠ -1 := by simpa using g1
    refine OkO.fieldAddr (o := 0) rfl (by kernel_rfl) rfl ?_
    refine OkO.load rfl rfl (lda (n := 1) (by kernel_rfl) (by first | assumption | (simp (disch := first | omega | (simp only [hNw, hPt]; omega)) only [gn0, gn1, gn2, gn3, gn4, gn5, gp0, gno, gpo] <;> first | rfl | assumption | exact gp0 _ _ _ | exact gn0 _ _)) (by first | rfl | assumption)) ?_
    refine OkO.callV rfl rfl rfl rfl rfl (c67 (m + 4) ev p.errs _ hel (by omega)) ?_ -- "sackung/alarm.indexes[int]"
    refine OkO.move rfl rfl ?_
    refine OkO.callV rfl rfl rfl rfl rfl (c68 (m + 4) _ _ _ _) ?_ -- "(sackung/alarm.ends).has"
    refine OkO.pick (b := false) rfl rfl nofun (fun _ => rfl) ?_
    refine OkO.pick (b := true) rfl rfl (fun _ => rfl) nofun ?_
    refine OkO.move rfl rfl ?_
    refine OkO.split (d := 24) rfl (fun g4 => ?_) (fun g4 => ?_)
    · -- true g4
      have hfb : -1 ≤ f ∧ f ≤ (p.errs.length : Int) - 1 := by (have h9 : inB f 0 ((p.errs.length : Int) - 1) = true := by simpa using g4); (simp [inB] at h9); omega
      refine OkO.move rfl rfl ?_
      refine OkO.builtin rfl rfl rfl (bln (by kernel_rfl) (by first | assumption | rfl)) ?_
      refine OkO.move rfl rfl ?_
      refine OkO.builtin rfl rfl rfl (bln (by kernel_rfl) (by first | assumption | rfl)) ?_
      refine OkO.bin rfl rfl rfl (bin_eql _ _) ?_
      refine OkO.pick (b := true) rfl rfl (fun _ => rfl) nofun ?_
      refine OkO.move rfl rfl ?_
      refine OkO.split (d := 31) rfl (fun g5 => ?_) (fun g5 => ?_)
      · -- true g5
        have hl : sp.length = rows.length := by (have h9 : (sp.length : Int) = (rows.length : Int) := by simpa using g5); omega
        refine OkO.load rfl rfl (ldg (n := 6) (by kernel_rfl) (by first | assumption | (simp (disch := first | omega | (simp only [hNw, hPt]; omega)) only [gn0, gn1, gn2, gn3, gn4, gn5, gp0, gno, gpo] <;> first | rfl | assumption | exact gp0 _ _ _ | exact gn0 _ _)) (by first | rfl | assumption)) ?_
        refine OkO.move rfl rfl ?_
        refine OkO.callV rfl rfl rfl rfl rfl (c69 (m + 2) ev v p sp _ ⟨_, hel⟩ (hS.ext (hE _ (by (try dsimp only); repeat (first | exact hG | apply Grow.new | (refine Grow.put ?_ _ (by first | omega | (simp only [hNw, hPt]; omega))))))) hsl hpg hpd) ?_ -- "(sackung/alarm.Post).mayMove"
        refine OkO.pick (b := true) rfl rfl (fun _ => rfl) nofun ?_
        refine OkO.move rfl rfl ?_
        refine OkO.split (d := 36) rfl (fun g6 => ?_) (fun g6 => ?_)
        · -- true g6
          have hmv : MovP p sp := bP_iff.1 g6
          refine OkO.load rfl rfl (ldg (n := 6) (by kernel_rfl) (by first | assumption | (simp (disch := first | omega | (simp only [hNw, hPt]; omega)) only [gn0, gn1, gn2, gn3, gn4, gn5, gp0, gno, gpo] <;> first | rfl | assumption | exact gp0 _ _ _ | exact gn0 _ _)) (by first | rfl | assumption)) ?_
          refine OkO.move rfl rfl ?_
          refine OkO.move rfl rfl ?_
          refine OkO.move rfl rfl ?_
          refine OkO.callV rfl rfl rfl rfl rfl (c70 (m + 1) ev rv v p rows f sp _ (hV.ext (hE _ (by (try dsimp only); repeat (first | exact hG | apply Grow.new | (refine Grow.put ?_ _ (by first | omega | (simp only [hNw, hPt]; omega))))))) (hRs.ext (hE _ (by (try dsimp only); repeat (first | exact hG | apply Grow.new | (refine Grow.put ?_ _ (by first | omega | (simp only [hNw, hPt]; omega))))))) (hS.ext (hE _ (by (try dsimp only); repeat (first | exact hG | apply Grow.new | (refine Grow.put ?_ _ (by first | omega | (simp only [hNw, hPt]; omega))))))) hsl hl (by omega) hpe hlens hrbd) ?_ -- "(sackung/alarm.Post).agree"
          refine OkO.pick (b := true) rfl rfl (fun _ => rfl) nofun ?_
          refine OkO.assign rfl rfl ?_
          refine OkO.nil ?_
          refine Ok.ret ⟨.inr rfl, ?_⟩
          exact back_flat rfl (congrArg AV.bool (bP_congr ⟨fun h => ⟨hl, hfb, hmv, h⟩, fun h => h.2.2.2⟩)) rfl (by rw [← hW]; exact (by (try dsimp only); repeat (first | exact hG | apply Grow.new | (refine Grow.put ?_ _ (by first | omega | (simp only [hNw, hPt]; omega))))))
        · -- false g6
          have hno : ¬ TruP p rows f sp := fun hc => by (have h9 := bP_true hc.2.2.1); rw [h9] at g6; cases g6
          refine OkO.skip rfl ?_
          refine OkO.skip rfl ?_
          refine OkO.skip rfl ?_
          refine OkO.skip rfl ?_
          refine OkO.skip rfl ?_
          refine OkO.pick (b := false) rfl rfl nofun (fun _ => rfl) ?_
          refine OkO.assign rfl rfl ?_
          refine OkO.nil ?_
          refine Ok.ret ⟨.inr rfl, ?_⟩
          exact back_flat rfl (congrArg AV.bool (bP_false hno).symm) rfl (by rw [← hW]; exact (by (try dsimp only); repeat (first | exact hG | apply Grow.new | (refine Grow.put ?_ _ (by first | omega | (simp only [hNw, hPt]; omega))))))
      · -- false g5
        have hno : ¬ TruP p rows f sp := fun hc => by (have h9 := hc.1); simp at g5; omega
        refine OkO.skip rfl ?_
        refine OkO.skip rfl ?_
        refine OkO.skip rfl ?_
        refine OkO.pick (b := false) rfl rfl nofun (fun _ => rfl) ?_
        refine OkO.move rfl rfl ?_
        refine OkO.skip rfl ?_
        refine OkO.skip rfl ?_
        refine OkO.skip rfl ?_
        refine OkO.skip rfl ?_
        refine OkO.skip rfl ?_
        refine OkO.pick (b := false) rfl rfl nofun (fun _ => rfl) ?_
        refine OkO.assign rfl rfl ?_
        refine OkO.nil ?_
        refine Ok.ret ⟨.inr rfl, ?_⟩
        exact back_flat rfl (congrArg AV.bool (bP_false hno).symm) rfl (by rw [← hW]; exact (by (try dsimp only); repeat (first | exact hG | apply Grow.new | (refine Grow.put ?_ _ (by first | omega | (simp only [hNw, hPt]; omega))))))
    · -- false g4
      have hno : ¬ TruP p rows f sp := fun hc => by (have h9 := hc.2.1); (have h8 : inB f 0 ((p.errs.length : Int) - 1) = true := by simp [inB]; omega); rw [h8] at g4; cases g4
      refine OkO.skip rfl ?_
      refine OkO.skip rfl ?_
      refine OkO.skip rfl ?_
      refine OkO.skip rfl ?_
      refine OkO.skip rfl ?_
      refine OkO.pick (b := false) rfl rfl nofun (fun _ => rfl) ?_
      refine OkO.move rfl rfl ?_
      refine OkO.skip rfl ?_
      refine OkO.skip rfl ?_
      refine OkO.skip rfl ?_
      refine OkO.pick (b := false) rfl rfl nofun (fun _ => rfl) ?_
      refine OkO.move rfl rfl ?_
      refine OkO.skip rfl ?_
      refine OkO.skip rfl ?_
      refine OkO.skip rfl ?_
      refine OkO.skip rfl ?_
      refine OkO.skip rfl ?_
      refine OkO.pick (b := false) rfl rfl nofun (fun _ => rfl) ?_
      refine OkO.assign rfl rfl ?_
      refine OkO.nil ?_
      refine Ok.ret ⟨.inr rfl, ?_⟩
      exact back_flat rfl (congrArg AV.bool (bP_false hno).symm) rfl (by rw [← hW]; exact (by (try dsimp only); repeat (first | exact hG | apply Grow.new | (refine Grow.put ?_ _ (by first | omega | (simp only [hNw, hPt]; omega))))))
end
end Go.Ev

set_option maxRecDepth 100000
set_option linter.unusedSimpArgs false
set_option linter.unusedVariables false
namespace Go.Ev
open Go Go.Proofs
noncomputable section
/-- A list of numbers that was made, whether it can grow in place or not. -/
def Lst (k0 : Nat) (G : Heap) (v : AV) (us : List Int) : Prop :=
  (∃ b, v = .opn b us.length ∧ G.get b = some (.opn (us.map I) 3 1) ∧ k0 ≤ b ∧ b < G.next) ∨ (∃ b, v = .slice b 0 us.length us.length ∧ G.get b = some (.cells (us.map I) 3) ∧ k0 ≤ b ∧ b < G.next)
theorem Lst.len {k0 : Nat} {G : Heap} {v : AV} {us : List Int} (h : Lst k0 G v us) : lenOf v = some us.length := by
  rcases h with ⟨b, rfl, _⟩ | ⟨b, rfl, _⟩ <;> rfl
theorem Lst.flat {k0 : Nat} {G : Heap} {v : AV} {us : List Int} (h : Lst k0 G v us) : v.flat = false := by
  rcases h with ⟨b, rfl, _⟩ | ⟨b, rfl, _⟩ <;> rfl
theorem Lst.to {k0 : Nat} {G G' : Heap} {v : AV} {us : List Int} (h : Lst k0 G v us) (g : Ext G G') : Lst k0 G' v us := by
  rcases h with ⟨b, h1, h2, h3, h4⟩ | ⟨b, h1, h2, h3, h4⟩
  · exact .inl ⟨b, h1, by rw [g.get _ h4]; exact h2, h3, Nat.lt_of_lt_of_le h4 g.next⟩
  · exact .inr ⟨b, h1, by rw [g.get _ h4]; exact h2, h3, Nat.lt_of_lt_of_le h4 g.next⟩
theorem Lst.low {k0 k1 : Nat} {G : Heap} {v : AV} {us : List Int} (h : Lst k1 G v us) (hk : k0 ≤ k1) : Lst k0 G v us := by
  rcases h with ⟨b, h1, h2, h3, h4⟩ | ⟨b, h1, h2, h3, h4⟩
  · exact .inl ⟨b, h1, h2, by omega, h4⟩
  · exact .inr ⟨b, h1, h2, by omega, h4⟩
theorem Lst.put {k0 : Nat} {G : Heap} {v : AV} {us : List Int} (h : Lst k0 G v us) {n : Nat} (o : AObj) (hn : n < k0) : Lst k0 (G.put n o) v us := by
  rcases h with ⟨b, h1, h2, h3, h4⟩ | ⟨b, h1, h2, h3, h4⟩
  · exact .inl ⟨b, h1, by rw [gpo _ _ _ _ (by omega)]; exact h2, h3, by simpa using h4⟩
  · exact .inr ⟨b, h1, by rw [gpo _ _ _ _ (by omega)]; exact h2, h3, by simpa using h4⟩
theorem Lst.ints {k0 : Nat} {G : Heap} {v : AV} {us : List Int} (h : Lst k0 G v us) : Ints G v us := by
  rcases h with ⟨b, rfl, h2, h3, h4⟩ | ⟨b, rfl, h2, h3, h4⟩
  · exact Mine.ints (k0 := k0) (.inr ⟨b, us.length, rfl, h2, by simp, h3, h4⟩)
  · refine ⟨by simp [lenOf], fun i x k => ?_⟩
    have hi : i < us.length := by
      by_cases hi : i < us.length
      · exact hi
      · rw [List.getElem?_eq_none (by simp; omega)] at k; cases k
    rw [List.getElem?_eq_getElem (by simpa using hi)] at k
    simp at k
    refine ⟨b, 0 + i * 1, us.map I, slAt_slice hi, by rw [h2]; rfl, ?_, h4⟩
    have e : ((us.map I).drop (0 + i * 1)).take 1 = [I us[i]] := by
      rw [show 0 + i * 1 = i from by omega, List.drop_eq_getElem_cons (by simpa using hi)]
      simp
    unfold seg
    rw [e, ← k]
    rfl
/-- A speed followed back to the first hour. -/
def backL (p : Pst) (may : List Iv) : Nat → Int → List Int
  | 0, s => [s]
  | h + 1, s => backL p may h (meetI (may.getD h nul) (beforeI p (s, s))).1 ++ [s]
end
end Go.Ev

set_option maxRecDepth 100000
set_option linter.unusedSimpArgs false
set_option linter.unusedVariables false
namespace Go.Ev
open Go Go.Proofs
noncomputable section
end
end Go.Ev

set_option maxRecDepth 100000
set_option linter.unusedSimpArgs false
set_option linter.unusedVariables false
namespace Go.Ev
open Go Go.Proofs
noncomputable section
/-- A truth with this speed in this hour is possible with a gauge. -/
def HitP (p : Pst) (rows : List (List Int)) (hr : Nat) (s0 : Int) (j : Nat) : Prop := hr + 1 ≤ lenM p rows j ∧ inI s0 ((mayL p ((j : Int) - 1) rows).getD hr nul)
noncomputable def as35 : Code := match Try.f35.body.bind rangeOf with | some r => r.1 | none => .skip
noncomputable def bd35 : Code := match Try.f35.body.bind rangeOf with | some r => r.2 | none => .skip
end
end Go.Ev

set_option maxRecDepth 100000
set_option linter.unusedSimpArgs false
set_option linter.unusedVariables false
namespace Go.Ev
open Go Go.Proofs
noncomputable section
end
end Go.Ev

set_option maxRecDepth 100000
set_option linter.unusedSimpArgs false
set_option linter.unusedVariables false
namespace Go.Ev
open Go Go.Proofs
noncomputable section
def leftR (p : Pst) (s : Int) : Int := if p.fall ≤ s then 0 else if p.gain = 0 then -1 else (p.fall - s + p.gain - 1) / p.gain
end
end Go.Ev

set_option maxRecDepth 100000
set_option linter.unusedSimpArgs false
set_option linter.unusedVariables false
namespace Go.Ev
open Go Go.Proofs
noncomputable section
/-- Bools and numbers as they lie. -/
def bl (N : Nat) (g : Nat → Bool) : List AV := (List.range N).map fun k => .bool (g k)
def il (N : Nat) (g : Nat → Nat) : List AV := (List.range N).map fun k => I (g k : Int)
/-- How many are true below. -/
def cntN (g : Nat → Bool) : Nat → Nat
  | 0 => 0
  | i + 1 => cntN g i + (if g i = true then 1 else 0)
/-- Of each speed, whether it is in a range. -/
def fl (x : Iv) (v : Nat) : Bool := bP (inI (v : Int) x)
def nextI (p : Pst) (f : Int) (x : Iv) (row : List Int) : Iv := if x = nul then nul else stepI p f x row
theorem next_iff {p : Pst} {f : Int} {x : Iv} {row : List Int} {v : Int} (hv : 0 ≤ v ∧ v ≤ 1000) : inI v (nextI p f x row) ↔ (x ≠ nul ∧ x.1 - p.drop ≤ v ∧ v ≤ x.2 + p.gain) ∧ AgreeR p f row v := by
  unfold nextI
  by_cases h : x = nul
  · rw [if_pos h]
    exact ⟨fun h9 => absurd h9 (not_nul _), fun h9 => absurd h h9.1.1⟩
  · rw [if_neg h, mem_step]
    exact ⟨fun h9 => ⟨⟨h, h9.2.1⟩, h9.2.2⟩, fun h9 => ⟨hv, h9.1.2, h9.2⟩⟩
/-- What was there, but for one block. -/
structure At1 (K B : Nat) (G : Heap) (o : AObj) (H : Heap) : Prop where
  nx : H.next = G.next
  oth : ∀ j, j ≠ B → H.get j = G.get j
  self : H.get B = some o
  lo : K ≤ H.lo
theorem At1.start {K B : Nat} {G : Heap} {o : AObj} (h : G.get B = some o) (hl : K ≤ G.lo) : At1 K B G o G := ⟨rfl, fun _ _ => rfl, h, hl⟩
theorem At1.put {K B : Nat} {G H : Heap} {o o' : AObj} (h : At1 K B G o H) (hk : K ≤ B) : At1 K B G o' (H.put B o') :=
  ⟨by simp [h.nx], fun j hj => by rw [gpo _ _ _ _ hj]; exact h.oth j hj, gp0 _ _ _, by rw [Heap.lo_put]; have := h.lo; omega⟩
theorem At1.grow {W G H : Heap} {B : Nat} {o : AObj} (h : At1 W.next B G o H) (g : Grow W G) (hk : W.next ≤ B) : Grow W H :=
  ⟨by rw [h.nx]; exact g.next, fun n hn => by rw [h.oth n (by omega)]; exact g.get n hn, h.lo⟩
theorem At1.to {K B : Nat} {G H : Heap} {o o' : AObj} (h : At1 K B G o H) (e : o = o') : At1 K B G o' H := e ▸ h
end
end Go.Ev

set_option maxRecDepth 100000
set_option linter.unusedSimpArgs false
set_option linter.unusedVariables false
namespace Go.Ev
open Go Go.Proofs
noncomputable section
theorem last_next {p : Pst} {f : Int} {rows : List (List Int)} {h : Nat} (hh : h < rows.length) : lastI p f (rows.take (h + 1)) = nextI p f (lastI p f (rows.take h)) rows[h] := by
  rw [List.take_succ_eq_append_getElem hh, lastI_snoc]; rfl
end
end Go.Ev

set_option maxRecDepth 100000
set_option linter.unusedSimpArgs false
set_option linter.unusedVariables false
namespace Go.Ev
open Go Go.Proofs
noncomputable section
end
end Go.Ev

set_option maxRecDepth 100000
set_option linter.unusedSimpArgs false
set_option linter.unusedVariables false
namespace Go.Ev
open Go Go.Proofs
noncomputable section
/-- The least and the greatest of some speeds, as the reference keeps them. -/
def AtSt (S : Nat → Prop) (lo hi : Int) : Prop := (lo = -1 ∧ hi = 0 ∧ ∀ v, ¬ S v) ∨ ∃ a c : Nat, lo = (a : Int) ∧ hi = (c : Int) ∧ S a ∧ S c ∧ ∀ v, S v → a ≤ v ∧ v ≤ c
theorem AtSt.uniq {S : Nat → Prop} {lo hi lo' hi' : Int} (h : AtSt S lo hi) (h' : AtSt S lo' hi') : lo = lo' ∧ hi = hi' := by
  rcases h with ⟨h1, h2, h3⟩ | ⟨a, c, h1, h2, h3, h4, h5⟩
  · rcases h' with ⟨k1, k2, k3⟩ | ⟨a', c', k1, k2, k3, k4, k5⟩
    · exact ⟨by omega, by omega⟩
    · exact absurd k3 (h3 _)
  · rcases h' with ⟨k1, k2, k3⟩ | ⟨a', c', k1, k2, k3, k4, k5⟩
    · exact absurd h3 (k3 _)
    · have := h5 _ k3; have := h5 _ k4; have := k5 _ h3; have := k5 _ h4
      exact ⟨by omega, by omega⟩
theorem AtSt.congr {S S' : Nat → Prop} {lo hi : Int} (h : AtSt S lo hi) (hs : ∀ v, S' v ↔ S v) : AtSt S' lo hi := by
  rcases h with ⟨h1, h2, h3⟩ | ⟨a, c, h1, h2, h3, h4, h5⟩
  · exact .inl ⟨h1, h2, fun v hv => h3 v ((hs v).1 hv)⟩
  · exact .inr ⟨a, c, h1, h2, (hs a).2 h3, (hs c).2 h4, fun v hv => h5 v ((hs v).1 hv)⟩
theorem AtSt.add {S S' : Nat → Prop} {lo hi : Int} (h : AtSt S lo hi) {w : Nat} (hs : ∀ v, S' v ↔ S v ∨ v = w) : AtSt S' (if lo < 0 ∨ (w : Int) < lo then (w : Int) else lo) (max hi (w : Int)) := by
  rcases h with ⟨h1, h2, h3⟩ | ⟨a, c, h1, h2, h3, h4, h5⟩
  · refine .inr ⟨w, w, by rw [if_pos (.inl (by omega))], by omega, (hs w).2 (.inr rfl), (hs w).2 (.inr rfl), fun v hv => ?_⟩
    rcases (hs v).1 hv with h | h
    · exact absurd h (h3 v)
    · omega
  · refine .inr ⟨min a w, max c w, ?_, by omega, ?_, ?_, fun v hv => ?_⟩
    · by_cases e : lo < 0 ∨ (w : Int) < lo
      · rw [if_pos e]; omega
      · rw [if_neg e]; omega
    · rcases Nat.le_total a w with e | e
      · rw [Nat.min_eq_left e]; exact (hs a).2 (.inl h3)
      · rw [Nat.min_eq_right e]; exact (hs w).2 (.inr rfl)
    · rcases Nat.le_total c w with e | e
      · rw [Nat.max_eq_right e]; exact (hs w).2 (.inr rfl)
      · rw [Nat.max_eq_left e]; exact (hs c).2 (.inl h4)
    · rcases (hs v).1 hv with h | h
      · have := h5 v h; omega
      · omega
theorem AtSt.nil {S : Nat → Prop} (h : ∀ v, ¬ S v) : AtSt S (-1) 0 := .inl ⟨rfl, rfl, h⟩
theorem AtSt.bd {S : Nat → Prop} {lo hi : Int} (h : AtSt S lo hi) (hb : ∀ v, S v → v < 1001) : (-1 ≤ lo ∧ lo ≤ 1000) ∧ 0 ≤ hi ∧ hi ≤ 1000 := by
  rcases h with ⟨h1, h2, h3⟩ | ⟨a, c, h1, h2, h3, h4, h5⟩
  · omega
  · have := hb _ h3; have := hb _ h4; omega
noncomputable def atV (S : Nat → Prop) : Int × Int := Classical.epsilon fun x => AtSt S x.1 x.2
theorem AtSt.val {S : Nat → Prop} {lo hi : Int} (h : AtSt S lo hi) : atV S = (lo, hi) := by
  have e : AtSt S (atV S).1 (atV S).2 := Classical.epsilon_spec (p := fun x : Int × Int => AtSt S x.1 x.2) ⟨(lo, hi), h⟩
  have := e.uniq h
  exact Prod.ext this.1 this.2
/-- The speeds that may be behind some hours, with one of the first gauges failed. -/
def SpdS (p : Pst) (rows : List (List Int)) (i : Nat) (v : Nat) : Prop := v < 1001 ∧ ∃ j, j < i ∧ inI (v : Int) (lastI p ((j : Int) - 1) rows)
end
end Go.Ev

set_option maxRecDepth 100000
set_option linter.unusedSimpArgs false
set_option linter.unusedVariables false
namespace Go.Ev
open Go Go.Proofs
noncomputable section
/-- A list of lists that was made. -/
def RowsM (k0 : Nat) (G : Heap) (v : AV) (rows : List (List Int)) : Prop := ∃ vs : List AV, vs.length = rows.length ∧ Mine k0 G v 22 1 vs ∧ ∀ (i : Nat) (x : AV) (r : List Int), vs[i]? = some x → rows[i]? = some r → Mine k0 G x 3 1 (r.map I)
theorem flat_one : ∀ vs : List AV, (vs.map fun x => [x]).flatten = vs
  | [] => rfl
  | a :: l => by rw [List.map_cons, List.flatten_cons, flat_one l]; rfl
theorem RowsM.at {k0 : Nat} {G : Heap} {v : AV} {rows : List (List Int)} (h : RowsM k0 G v rows) : LstAt G v rows := by
  obtain ⟨vs, h1, h2, h3⟩ := h
  exact ⟨vs, h1, Mine.row (e := 22) (by rw [flat_one]; exact h2) (fun x hx => by obtain ⟨y, _, rfl⟩ := List.mem_map.1 hx; rfl) (by omega), fun i x r a c => (h3 i x r a c).ints⟩
theorem RowsM.nil (k0 : Nat) (G : Heap) : RowsM k0 G .nils [] := ⟨[], rfl, Mine.nil _ _ _ _, fun i x s h _ => by simp at h⟩
theorem RowsM.to {k0 : Nat} {G G' : Heap} {v : AV} {rows : List (List Int)} (h : RowsM k0 G v rows) (e : Ext G G') : RowsM k0 G' v rows := by
  obtain ⟨vs, h1, h2, h3⟩ := h
  exact ⟨vs, h1, h2.to e, fun i x r a c => (h3 i x r a c).to e⟩
theorem RowsM.low {k0 k1 : Nat} {G : Heap} {v : AV} {rows : List (List Int)} (h : RowsM k1 G v rows) (hk : k0 ≤ k1) : RowsM k0 G v rows := by
  obtain ⟨vs, h1, h2, h3⟩ := h
  exact ⟨vs, h1, h2.low hk, fun i x r a c => (h3 i x r a c).low hk⟩
theorem RowsM.snoc {k0 : Nat} {G : Heap} {ov x : AV} {l : List (List Int)} {s : List Int} (h : RowsM k0 G ov l) (hx : Mine k0 G x 3 1 (s.map I)) : ∃ cs, Mine k0 G ov 22 1 cs ∧ cs.length = l.length ∧ ∀ v2 G2, Mine k0 G2 v2 22 1 (cs ++ [x]) → G.next ≤ G2.next → (∀ j, j < G.next → (∀ m, ov ≠ .opn j m) → G2.get j = G.get j) → RowsM k0 G2 v2 (l ++ [s]) := by
  obtain ⟨vs, h1, h2, h3⟩ := h
  refine ⟨_, h2, h1, fun v2 G2 k1 k2 k3 => ⟨vs ++ [x], by simp [h1], k1, fun i y t a c => ?_⟩⟩
  by_cases hi : i < vs.length
  · rw [List.getElem?_append_left hi] at a
    rw [List.getElem?_append_left (by omega)] at c
    exact (h3 i y t a c).offE h2 (.inl (by decide)) k2 k3
  · by_cases hi2 : i = vs.length
    · subst hi2
      rw [List.getElem?_append_right (Nat.le_refl _)] at a
      rw [List.getElem?_append_right (by omega), h1] at c
      simp at a c
      subst a c
      exact hx.offE h2 (.inl (by decide)) k2 k3
    · rw [List.getElem?_eq_none (by simp; omega)] at a; cases a
theorem RowsM.backS {H G H' : Heap} {v : AV} {l : List (List Int)} (h : RowsM H.next G v l) (r : (H' = H ∧ v.flat = true) ∨ ((∀ n, H'.get n = G.get n) ∧ H'.next = G.next)) : RowsM H.next H' v l := by
  rcases r with ⟨rfl, hf⟩ | ⟨h1, h2⟩
  · obtain ⟨vs, a1, a2, a3⟩ := h
    rcases a2 with ⟨rfl, a2⟩ | ⟨b, n, rfl, _⟩
    · subst a2; exact ⟨[], a1, .inl ⟨rfl, rfl⟩, fun i x s h _ => by simp at h⟩
    · cases hf
  · exact h.to ⟨by omega, fun n _ => h1 n⟩
theorem flat_post {x : AV} {p : Pst} (h : (AV.agg (p.c x)).flat = true) : x.flat = true := by
  have h1 : AV.flats [x, I p.gain, I p.drop, I p.fall, I p.out, I p.ahead] = true := h
  unfold AV.flats at h1
  cases hx : x.flat with
  | false => rw [hx] at h1; cases h1
  | true => rfl
def thinB (p : Pst) (rows : List (List Int)) : Bool := (rows.take 66).all (fun r => decide (r.length ≤ 15)) && (decide (p.errs.length ≤ 15) && decide (rows.length ≤ 65))
def fewB (p : Pst) (rows : List (List Int)) : Bool := thinB p rows && (decide (faultE p rows ≠ 0) || decide (rows.length ≤ 8))
theorem c20 (m : Nat) (ev : AV) (p : Pst) (H : Heap) (hV : Ints H ev p.errs) (hl : p.errs.length ≤ 1000000) : ∃ v H', RR (m + 2) (.fn 20 [.agg (p.c ev)]) H = some (v, H') ∧ ∃ x, v = .agg (p.c x) ∧ Ret H H' ∧ Mine H.next H' x 3 1 (p.errs.map I) := by
  show ∃ v H', evFn Try.prog (RR (m + 1)) 20 [.agg (p.c ev)] H = some (v, H') ∧ ∃ x, v = .agg (p.c x) ∧ Ret H H' ∧ Mine H.next H' x 3 1 (p.errs.map I)
  refine fn_okE Try.func20 rfl rfl (by kernel_rfl) (by kernel_rfl) ?_
  obtain ⟨W, hW⟩ : ∃ W : Heap, W = ⟨H.t, H.next, H.next⟩ := ⟨_, rfl⟩
  have hg : ∀ n, W.get n = H.get n := fun n => by rw [hW]; rfl
  have hN : W.next = H.next := by rw [hW]
  have hE : ∀ G, Grow W G → Ext H G := fun G g => ⟨by rw [← hN]; exact g.next, fun n k => by rw [g.get n (by rw [hN]; exact k), hg]⟩
  have hG : Grow W W := Grow.refl (by rw [hW]; exact Nat.le_refl _)
  rw [← hW]
  have pev : ev.plain = true := lpl hV.len
  refine Ok.seq ?_
  refine Ok.region ?_
  refine OkO.box rfl rfl ?_
  refine OkO.alloc (z := [.nils, .int .i64 0, .int .i64 0, .int .i64 0, .int .i64 0, .int .i64 0]) rfl (by kernel_rfl) ?_
  refine OkO.nil ?_
  refine Ok.seq ?_
  refine Ok.drawn [(0, true, []), (1, true, []), (3, true, []), (4, true, []), (5, true, []), (6, true, []), (7, true, []), (8, true, []), (9, true, []), (10, true, []), (11, true, []), (12, true, []), (2, false, [12, 10, 8, 6, 4]), (13, true, []), (14, false, [])] (by kernel_rfl) ?_
  refine OkP.step ?_
  refine OkO.fieldAddr (o := 0) rfl (by kernel_rfl) rfl ?_
  refine OkO.nil ⟨rfl, ?_⟩
  refine OkP.step ?_
  refine OkO.load rfl rfl (lda (n := 1) (by kernel_rfl) (by first | assumption | (simp (disch := first | omega | (simp only [hNw, hPt]; omega)) only [gn0, gn1, gn2, gn3, gn4, gn5, gp0, gno, gpo] <;> first | rfl | assumption | exact gp0 _ _ _ | exact gn0 _ _)) (by first | rfl | assumption)) ?_
  refine OkO.nil ⟨rfl, ?_⟩
  refine OkP.step ?_
  refine OkO.fieldAddr (o := 1) rfl (by kernel_rfl) rfl ?_
  refine OkO.nil ⟨rfl, ?_⟩
  refine OkP.step ?_
  refine OkO.load rfl rfl (lda (n := 1) (by kernel_rfl) (by first | assumption | (simp (disch := first | omega | (simp only [hNw, hPt]; omega)) only [gn0, gn1, gn2, gn3, gn4, gn5, gp0, gno, gpo] <;> first | rfl | assumption | exact gp0 _ _ _ | exact gn0 _ _)) (by first | rfl | assumption)) ?_
  refine OkO.nil ⟨rfl, ?_⟩
  refine OkP.step ?_
  refine OkO.fieldAddr (o := 2) rfl (by kernel_rfl) rfl ?_
  refine OkO.nil ⟨rfl, ?_⟩
  refine OkP.step ?_
  refine OkO.load rfl rfl (lda (n := 1) (by kernel_rfl) (by first | assumption | (simp (disch := first | omega | (simp only [hNw, hPt]; omega)) only [gn0, gn1, gn2, gn3, gn4, gn5, gp0, gno, gpo] <;> first | rfl | assumption | exact gp0 _ _ _ | exact gn0 _ _)) (by first | rfl | assumption)) ?_
  refine OkO.nil ⟨rfl, ?_⟩
  refine OkP.step ?_
  refine OkO.fieldAddr (o := 3) rfl (by kernel_rfl) rfl ?_
  refine OkO.nil ⟨rfl, ?_⟩
  refine OkP.step ?_
  refine OkO.load rfl rfl (lda (n := 1) (by kernel_rfl) (by first | assumption | (simp (disch := first | omega | (simp only [hNw, hPt]; omega)) only [gn0, gn1, gn2, gn3, gn4, gn5, gp0, gno, gpo] <;> first | rfl | assumption | exact gp0 _ _ _ | exact gn0 _ _)) (by first | rfl | assumption)) ?_
  refine OkO.nil ⟨rfl, ?_⟩
  refine OkP.step ?_
  refine OkO.fieldAddr (o := 4) rfl (by kernel_rfl) rfl ?_
  refine OkO.nil ⟨rfl, ?_⟩
  refine OkP.step ?_
  refine OkO.load rfl rfl (lda (n := 1) (by kernel_rfl) (by first | assumption | (simp (disch := first | omega | (simp only [hNw, hPt]; omega)) only [gn0, gn1, gn2, gn3, gn4, gn5, gp0, gno, gpo] <;> first | rfl | assumption | exact gp0 _ _ _ | exact gn0 _ _)) (by first | rfl | assumption)) ?_
  refine OkO.nil ⟨rfl, ?_⟩
  refine OkP.step ?_
  refine OkO.fieldAddr (o := 5) rfl (by kernel_rfl) rfl ?_
  refine OkO.nil ⟨rfl, ?_⟩
  refine OkP.step ?_
  refine OkO.load rfl rfl (lda (n := 1) (by kernel_rfl) (by first | assumption | (simp (disch := first | omega | (simp only [hNw, hPt]; omega)) only [gn0, gn1, gn2, gn3, gn4, gn5, gp0, gno, gpo] <;> first | rfl | assumption | exact gp0 _ _ _ | exact gn0 _ _)) (by first | rfl | assumption)) ?_
  refine OkO.nil ⟨rfl, ?_⟩
  refine OkP.step ?_
  refine OkO.callE rfl rfl rfl rfl rfl (c30 m ev p.errs _ (hV.ext (hE _ (by (try dsimp only); repeat (first | exact hG | apply Grow.new | (refine Grow.put ?_ _ (by first | omega | (simp only [hNw, hPt]; omega))))))) hl) ?_ -- "sackung/sackunglaw04.list"
  rintro v30 H30 ⟨q1, r1⟩
  have g30 : Grow W H30 := Grow.ret (by (try dsimp only); repeat (first | exact hG | apply Grow.new | (refine Grow.put ?_ _ (by first | omega | (simp only [hNw, hPt]; omega))))) q1
  have n30 := q1.ext.next
  simp only [hNw] at n30
  have a30 : (H30.get W.next).bind AObj.cs = some (p.c ev) := by rw [q1.ext.get _ (by simp only [hNw]; omega)]; simp (disch := first | omega | (simp only [hNw, hPt]; omega)) only [gn0, gn1, gn2, gn3, gn4, gn5, gp0, gno, gpo] <;> rfl
  have o30 : H30.get (W.next + 1) = some (.cells [.nils, I 0, I 0, I 0, I 0, I 0] 30) := by rw [q1.ext.get _ (by simp only [hNw]; omega)]; exact gn1 _ _ _
  obtain ⟨hv1, hv2⟩ := r1.one
  refine OkO.nil ⟨(sco (sld rfl rfl (lda (n := 1) (by kernel_rfl) (by first | assumption | (simp (disch := first | omega | (simp only [hNw, hPt]; omega)) only [gn0, gn1, gn2, gn3, gn4, gn5, gp0, gno, gpo] <;> first | rfl | assumption | exact gp0 _ _ _ | exact gn0 _ _)) (by first | rfl | assumption)) rfl (eqr _ (by first | rfl | exact lpl (by assumption) | (simp [AV.plain, AV.plains, AV.cells, pev, Pst.c])))) (sco (sld rfl rfl (lda (n := 1) (by kernel_rfl) (by first | assumption | (simp (disch := first | omega | (simp only [hNw, hPt]; omega)) only [gn0, gn1, gn2, gn3, gn4, gn5, gp0, gno, gpo] <;> first | rfl | assumption | exact gp0 _ _ _ | exact gn0 _ _)) (by first | rfl | assumption)) rfl (eqr _ (by first | rfl | exact lpl (by assumption) | (simp [AV.plain, AV.plains, AV.cells, pev, Pst.c])))) (sco (sld rfl rfl (lda (n := 1) (by kernel_rfl) (by first | assumption | (simp (disch := first | omega | (simp only [hNw, hPt]; omega)) only [gn0, gn1, gn2, gn3, gn4, gn5, gp0, gno, gpo] <;> first | rfl | assumption | exact gp0 _ _ _ | exact gn0 _ _)) (by first | rfl | assumption)) rfl (eqr _ (by first | rfl | exact lpl (by assumption) | (simp [AV.plain, AV.plains, AV.cells, pev, Pst.c])))) (sco (sld rfl rfl (lda (n := 1) (by kernel_rfl) (by first | assumption | (simp (disch := first | omega | (simp only [hNw, hPt]; omega)) only [gn0, gn1, gn2, gn3, gn4, gn5, gp0, gno, gpo] <;> first | rfl | assumption | exact gp0 _ _ _ | exact gn0 _ _)) (by first | rfl | assumption)) rfl (eqr _ (by first | rfl | exact lpl (by assumption) | (simp [AV.plain, AV.plains, AV.cells, pev, Pst.c])))) (sco (sld rfl rfl (lda (n := 1) (by kernel_rfl) (by first | assumption | (simp (disch := first | omega | (simp only [hNw, hPt]; omega)) only [gn0, gn1, gn2, gn3, gn4, gn5, gp0, gno, gpo] <;> first | rfl | assumption | exact gp0 _ _ _ | exact gn0 _ _)) (by first | rfl | assumption)) rfl (eqr _ (by first | rfl | exact lpl (by assumption) | (simp [AV.plain, AV.plains, AV.cells, pev, Pst.c])))) rfl))))), ?_⟩
  refine OkP.step ?_
  refine OkO.build (cs := p.c v30) (z := [.nils, .int .i64 0, .int .i64 0, .int .i64 0, .int .i64 0, .int .i64 0]) (pl := [(0, 1), (1, 1), (2, 1), (3, 1), (4, 1), (5, 1)]) rfl (by kernel_rfl) rfl (by show fillS _ _ _ = some [v30, I p.gain, I p.drop, I p.fall, I p.out, I p.ahead]; simp [fillS, spl, hv1, show ∀ z, (I z).cells = [I z] from fun _ => rfl]) ?_
  refine OkO.nil ⟨rfl, ?_⟩
  refine OkP.step ?_
  refine OkO.store rfl rfl rfl (sAc (n := 6) (ag := true) (by kernel_rfl) (by first | assumption | (simp (disch := first | omega | (simp only [hNw, hPt]; omega)) only [gn0, gn1, gn2, gn3, gn4, gn5, gp0, gno, gpo] <;> first | rfl | assumption | exact gp0 _ _ _ | exact gn0 _ _)) rfl (by show atoms [v30, I p.gain, I p.drop, I p.fall, I p.out, I p.ahead] = true; simp [atoms, hv2, show ∀ z, (I z).atom = true from fun _ => rfl]) (by first | rfl | exact spl_set _ _ _ (by first | assumption | omega | (simp; omega)))) ?_
  refine OkO.nil ⟨rfl, ?_⟩
  refine OkP.nil ?_
  refine Ok.ret ⟨.inr rfl, ?_⟩
  refine back_newA (resV_cell rfl (ldg (n := 6) (by kernel_rfl) (by first | assumption | (simp (disch := first | omega | (simp only [hNw, hPt]; omega)) only [gn0, gn1, gn2, gn3, gn4, gn5, gp0, gno, gpo] <;> first | rfl | assumption)) (by first | rfl | assumption)) resV_nil) rfl (by rw [← hW]; exact (by (try dsimp only); repeat (first | exact g30 | apply Grow.new | (refine Grow.put ?_ _ (by first | omega | (simp only [hNw, hPt]; omega)))))) (fun H9 p1 p2 => ⟨v30, rfl, p1, ?_⟩)
  exact Mine.backT (((r1.put _ (by first | omega | (simp only [hNw]; omega)))).low (by simp only [hNw]; omega)) p2 flat_post
theorem c22 (m : Nat) (sv : AV) (l : List (List Int)) (H : Heap) (hS : LstAt H sv l) (hl9 : l.length ≤ 100000) (hs9 : ∀ s ∈ l, s.length ≤ 100000) : ∃ v H', RR (m + 2) (.fn 22 [sv]) H = some (v, H') ∧ Ret H H' ∧ RowsM H.next H' v l := by
  show ∃ v H', evFn Try.prog (RR (m + 1)) 22 [sv] H = some (v, H') ∧ Ret H H' ∧ RowsM H.next H' v l
  refine fn_okE Try.func22 rfl rfl (by kernel_rfl) (by kernel_rfl) ?_
  obtain ⟨W, hW⟩ : ∃ W : Heap, W = ⟨H.t, H.next, H.next⟩ := ⟨_, rfl⟩
  have hg : ∀ n, W.get n = H.get n := fun n => by rw [hW]; rfl
  have hN : W.next = H.next := by rw [hW]
  have hE : ∀ G, Grow W G → Ext H G := fun G g => ⟨by rw [← hN]; exact g.next, fun n k => by rw [g.get n (by rw [hN]; exact k), hg]⟩
  have hG : Grow W W := Grow.refl (by rw [hW]; exact Nat.le_refl _)
  rw [← hW]
  have hlen := hS.len
  refine Ok.seq ?_
  refine Ok.region ?_
  refine OkO.assign rfl rfl ?_
  refine OkO.nil ?_
  refine Ok.seq ?_
  refine Ok.region ?_
  refine OkO.assign rfl rfl ?_
  refine OkO.nil ?_
  refine Ok.seq ?_
  refine Ok.seq ?_
  refine Ok.region ?_
  refine OkO.assign rfl rfl ?_
  refine OkO.nil ?_
  refine Ok.block ?_
  refine Ok.loop (fun n s => ∃ i : Nat, n = l.length - i ∧ i ≤ l.length ∧ (∃ ov, RowsM W.next s.H ov (l.take i) ∧ Has 5 [(0, sv), (3, ov), (4, I (i : Int))] s.T) ∧ s.D = [] ∧ Grow W s.H) (l.length) (by unfold loopFuel; omega)
    ⟨0, rfl, Nat.zero_le _, ⟨.nils, RowsM.nil _ _, Has.of (by kernel_rfl)⟩, rfl, hG⟩ ?_
  rintro n ⟨T, D, G⟩ ⟨i, hn, hi, ⟨ov, hm, ⟨f, hT⟩⟩, hD, hg⟩
  dsimp only at *
  subst hT hD
  have hgn := hg.next
  refine Ok.seq ?_
  refine Ok.seq ?_
  refine Ok.region ?_
  refine OkO.move rfl rfl ?_
  refine OkO.move rfl rfl ?_
  refine OkO.builtin rfl rfl rfl (bln (by kernel_rfl) (by first | assumption | rfl)) ?_
  refine OkO.bin rfl rfl rfl (bin_lss _ _) ?_
  refine OkO.nil ?_
  refine Ok.cond rfl (fun h1 => ?_) (fun h1 => ?_)
  · -- yes h1
    have hlt : i < l.length := by simpa using h1
    obtain ⟨x, bb, off, cs, i1, i2, i3, i4, i7⟩ := (hS.ext (hE _ hg)).at_ i hlt
    have pb : x.plain = true := lpl i7.len
    refine Ok.skip ?_
    refine Ok.seq ?_
    refine Ok.block ?_
    refine Ok.region ?_
    refine OkO.move rfl rfl ?_
    refine OkO.move rfl rfl ?_
    refine OkO.move rfl rfl ?_
    refine OkO.index (sz := 1) rfl rfl rfl (by kernel_rfl) (by first | assumption | rfl | exact slAt_slice (by omega) | exact slAt_opn (by omega)) ?_ -- index ('Go.Operand.tmp', 12) ('Go.Operand.tmp', 13)
    refine OkO.load rfl rfl (lda (n := 1) (by kernel_rfl) (by first | assumption | (simp (disch := first | omega | (simp only [hNw, hPt]; omega)) only [gn0, gn1, gn2, gn3, gn4, gn5, gp0, gno, gpo] <;> first | rfl | assumption | exact gp0 _ _ _ | exact gn0 _ _)) (by first | rfl | assumption)) ?_
    refine OkO.callE rfl rfl rfl rfl rfl (c30 m x l[i] _ i7 (by have := hs9 l[i] (List.getElem_mem hlt); omega)) ?_ -- "sackung/sackunglaw04.list"
    rintro x' H38 ⟨q38, r38⟩
    have g38 : Grow W H38 := Grow.ret (by (try dsimp only); repeat (first | exact hg | exact hG | apply Grow.new | (refine Grow.put ?_ _ (by first | omega | (simp only [hNw, hPt]; omega))))) q38
    have n38 := q38.ext.next
    obtain ⟨cs9, hm9, hcl9, hsn⟩ := RowsM.snoc (s := l[i]) (hm.to q38.ext) (r38.low (by omega))
    obtain ⟨u1, u2⟩ := r38.one
    refine OkO.buildSlice (el := 22) (sz := 1) (z := [.nils]) (cs := [x']) rfl (by kernel_rfl) (by decide) rfl (by show fillS (fun i => some (i * 1, 1)) [AV.nils] [(0, x')] = some [x']; simp [fillS, spl, u1]) ?_
    refine OkO.builtinE rfl rfl rfl (Mine.app2 (W := W) (k0 := W.next) (t := 25) (u := 25) (sz := 1) (by_ := 24) (e := 22) (n := 1) (new := [x']) (hm9.to (Grow.toNew _ _)) (g38.new _) (Nat.le_refl _) (by simp; omega) (by kernel_rfl) (by kernel_rfl) (elems_new (n := 1) (sz := 1) rfl) rfl rfl (by rw [hcl9, List.length_take]; omega) (by omega) (by omega) (by simp [atoms, u2])) ?_
    rintro v2 G2 ⟨r1, r2, r3, r4, r5, _⟩
    simp only [hNw] at r4 r5
    have hnew : RowsM W.next G2 v2 (l.take (i + 1)) := by
            rw [List.take_succ_eq_append_getElem hlt]
            exact hsn v2 G2 r1 (by omega) (fun j hj hne => by rw [r4 j (by omega) hne]; exact gno _ _ _ (by omega))
    refine OkO.assign rfl rfl ?_
    refine OkO.nil ?_
    refine Ok.region ?_
    refine OkO.move rfl rfl ?_
    refine OkO.bin rfl rfl rfl (bin_add (by omega) (by omega)) ?_
    refine OkO.assign rfl rfl ?_
    refine OkO.nil ?_
    refine ⟨l.length - (i + 1), by omega, i + 1, rfl, hlt, ⟨_, hnew, Has.of (by kernel_rfl)⟩, rfl, r2⟩
  · -- no h1
    have hge : i = l.length := by simp at h1; omega
    subst hge
    rw [List.take_length] at hm
    refine Ok.exit ?_
    refine Ok.seq ?_
    refine Ok.region ?_
    refine OkO.move rfl rfl ?_
    refine OkO.assign rfl rfl ?_
    refine OkO.nil ?_
    refine Ok.ret ⟨.inr rfl, ?_⟩
    refine back_newA (resV_tmp rfl resV_nil) rfl (by rw [← hW]; exact hg) (fun H9 p1 p2 => ⟨p1, (hm.low (by omega)).backS p2⟩)
end
end Go.Ev

set_option maxRecDepth 100000
set_option linter.unusedSimpArgs false
set_option linter.unusedVariables false
namespace Go.Ev
open Go Go.Proofs
noncomputable section
theorem LstAt.take {H : Heap} {v : AV} {rows : List (List Int)} (h : LstAt H v rows) (hv : (∃ b off len cap, v = .slice b off len cap ∧ len ≤ cap) ∨ v = .nils ∨ ∃ a c, v = .raw (.slice a 0 c)) {k : Nat} (hk : k ≤ rows.length) : ∃ v', (∀ G, sliceOf G 1 v none (some (.int .i64 (k : Int))) = some v') ∧ LstAt H v' (rows.take k) := by
  obtain ⟨vs, h1, h2, h3⟩ := h
  obtain ⟨v', e1, e2⟩ := slice_to hv h2 (k := k) (by simp; omega)
  refine ⟨v', e1, vs.take k, by simp [h1], by rw [List.map_take]; exact e2, fun i x r a c => ?_⟩
  rw [List.getElem?_take] at a c
  split at a
  · rename_i hi
    rw [if_pos hi] at c
    exact h3 i x r a c
  · cases a
theorem spd_in {p : Pst} {rows : List (List Int)} {h j : Nat} (hh : h < (mayL p ((j : Int) - 1) rows).length) : ∀ {k : Nat}, j < k → (mayL p ((j : Int) - 1) rows)[h].1 ∈ spdL p rows h k ∧ (mayL p ((j : Int) - 1) rows)[h].2 ∈ spdL p rows h k
  | 0, hk => by omega
  | i + 1, hk => by
    by_cases e : j = i
    · subst e
      rw [spdL_yes (show h + 1 ≤ lenM p rows j from hh) hh]
      simp
    · have := spd_in hh (k := i) (by omega)
      show _ ∈ spdL p rows h i ++ _ ∧ _ ∈ spdL p rows h i ++ _
      exact ⟨List.mem_append.2 (.inl this.1), List.mem_append.2 (.inl this.2)⟩
theorem foldl_min : ∀ (l : List Int) (a : Int), l.foldl min a ≤ a ∧ ∀ x ∈ l, l.foldl min a ≤ x
  | [], a => ⟨Int.le_refl _, nofun⟩
  | c :: l, a => by
    obtain ⟨h1, h2⟩ := foldl_min l (min a c)
    rw [List.foldl_cons]
    exact ⟨by omega, fun x hx => by
      rcases List.mem_cons.1 hx with rfl | h
      · omega
      · exact h2 x h⟩
theorem foldl_max : ∀ (l : List Int) (a : Int), a ≤ l.foldl max a ∧ ∀ x ∈ l, x ≤ l.foldl max a
  | [], a => ⟨Int.le_refl _, nofun⟩
  | c :: l, a => by
    obtain ⟨h1, h2⟩ := foldl_max l (max a c)
    rw [List.foldl_cons]
    exact ⟨by omega, fun x hx => by
      rcases List.mem_cons.1 hx with rfl | h
      · omega
      · exact h2 x h⟩
theorem mnL_le {L : List Int} {x : Int} (h : x ∈ L) : mnL L ≤ x := by
  cases L with
  | nil => cases h
  | cons a l =>
    rcases List.mem_cons.1 h with rfl | h
    · exact (foldl_min l _).1
    · exact (foldl_min l a).2 x h
theorem le_mxL {L : List Int} {x : Int} (h : x ∈ L) : x ≤ mxL L := by
  cases L with
  | nil => cases h
  | cons a l =>
    rcases List.mem_cons.1 h with rfl | h
    · exact (foldl_max l _).1
    · exact (foldl_max l a).2 x h
theorem poss_last {p : Pst} {rows : List (List Int)} {i h : Nat} (hh : h ≤ rows.length) : h ≤ lenM p rows i ↔ lastI p ((i : Int) - 1) (rows.take h) ≠ nul := may_len hh
end
end Go.Ev

set_option maxRecDepth 100000
set_option linter.unusedSimpArgs false
set_option linter.unusedVariables false
namespace Go.Ev
open Go Go.Proofs
noncomputable section
end
end Go.Ev

set_option maxRecDepth 100000
set_option linter.unusedSimpArgs false
set_option linter.unusedVariables false
namespace Go.Ev
open Go Go.Proofs
noncomputable section
end
end Go.Ev

set_option maxRecDepth 100000
set_option linter.unusedSimpArgs false
set_option linter.unusedVariables false
namespace Go.Ev
open Go Go.Proofs
noncomputable section
end
end Go.Ev

set_option maxRecDepth 100000
set_option linter.unusedSimpArgs false
set_option linter.unusedVariables false
namespace Go.Ev
open Go Go.Proofs
noncomputable section
/-- A number that words pick. -/
def pickV (lo hi : Int) (ws : List Int) (a : Nat) : Int :=
  if ws = [] then lo else if (ws.getD (a % ws.length) 0) % 4 = 0 then lo else if (ws.getD (a % ws.length) 0) % 4 = 1 then hi else lo + (ws.getD (a % ws.length) 0) % (hi - lo + 1)
theorem getD_u16 {ws : List Int} (hw : ∀ x ∈ ws, 0 ≤ x ∧ x ≤ 65535) (a : Nat) : 0 ≤ ws.getD a 0 ∧ ws.getD a 0 ≤ 65535 := by
  by_cases h : a < ws.length
  · rw [show ws.getD a 0 = ws[a] from by simp [List.getD, h]]
    exact hw _ (List.getElem_mem h)
  · rw [show ws.getD a 0 = 0 from by simp [List.getD, List.getElem?_eq_none (Nat.le_of_not_lt h)]]
    omega
theorem pickV_bd {lo hi : Int} {ws : List Int} {a : Nat} (hw : ∀ x ∈ ws, 0 ≤ x ∧ x ≤ 65535) (h : lo ≤ hi) : lo ≤ pickV lo hi ws a ∧ pickV lo hi ws a ≤ hi := by
  unfold pickV
  split
  · omega
  · split
    · omega
    · split
      · omega
      · have h1 := getD_u16 hw (a % ws.length)
        have h2 := Int.emod_nonneg (ws.getD (a % ws.length) 0) (b := hi - lo + 1) (by omega)
        have h3 := Int.emod_lt_of_pos (ws.getD (a % ws.length) 0) (b := hi - lo + 1) (by omega)
        omega
/-- Speeds that may be, and reads that agree with them. -/
def TruOk (p : Pst) (f : Int) (sp : List Int) (rows : List (List Int)) : Prop := rows.length = sp.length ∧ MovP p sp ∧ AgrP p f rows sp ∧ ∀ r ∈ rows, r.length = p.errs.length ∧ ∀ x ∈ r, -1000 ≤ x ∧ x ≤ 2000
theorem TruOk.nil (p : Pst) (f : Int) : TruOk p f [] [] := ⟨rfl, ⟨fun x h => absurd h List.not_mem_nil, fun h h2 => absurd h2 (Nat.not_lt_zero _)⟩, fun h h1 => absurd h1 (Nat.not_lt_zero _), fun r h => absurd h List.not_mem_nil⟩
theorem TruOk.snoc {p : Pst} {f v : Int} {sp : List Int} {rows : List (List Int)} {row : List Int} (h : TruOk p f sp rows) (hv : 0 ≤ v ∧ v ≤ 1000) (hs : ∀ x, sp[sp.length - 1]? = some x → StepOk p x v) (hr : row.length = p.errs.length ∧ ∀ x ∈ row, -1000 ≤ x ∧ x ≤ 2000) (ha : AgreeR p f row v) : TruOk p f (sp ++ [v]) (rows ++ [row]) := by
  obtain ⟨h1, ⟨h2, h3⟩, h4, h5⟩ := h
  refine ⟨by simp [h1], ⟨fun x hx => ?_, fun k hk => ?_⟩, fun k k1 k2 => ?_, fun r hr9 => ?_⟩
  · rcases List.mem_append.1 hx with hx | hx
    · exact h2 x hx
    · rw [List.mem_singleton] at hx; rw [hx]; exact hv
  · rw [List.length_append, List.length_singleton] at hk
    by_cases c : k + 1 < sp.length
    · rw [List.getElem_append_left c, List.getElem_append_left (by omega)]
      exact h3 k c
    · have e1 : (sp ++ [v])[k + 1]'(by simp; omega) = v := by rw [List.getElem_append_right (by omega)]; simp
      have e2 : (sp ++ [v])[k]'(by simp; omega) = sp[k]'(by omega) := List.getElem_append_left (by omega)
      rw [e1, e2]
      exact hs _ (by rw [show sp.length - 1 = k from by omega, List.getElem?_eq_getElem (by omega)])
  · rw [List.length_append, List.length_singleton] at k1
    by_cases c : k < sp.length
    · rw [List.getElem_append_left c, List.getElem_append_left (by omega)]
      exact h4 k c (by omega)
    · have e1 : (sp ++ [v])[k]'(by simp; omega) = v := by rw [List.getElem_append_right (by omega)]; simp
      have e2 : (rows ++ [row])[k]'k2 = row := by rw [List.getElem_append_right (by omega)]; simp
      rw [e1, e2]
      exact ha
  · rcases List.mem_append.1 hr9 with hr9 | hr9
    · exact h5 r hr9
    · rw [List.mem_singleton] at hr9; rw [hr9]; exact hr
theorem TruOk.in {p : Pst} {f : Int} {sp : List Int} {rows : List (List Int)} (h : TruOk p f sp rows) (hpg : 0 ≤ p.gain) (hpd : 0 ≤ p.drop) : ∀ (k : Nat) (hk : k < sp.length), inI sp[k] (lastI p f (rows.take (k + 1)))
  | 0, hk => by
    obtain ⟨h1, ⟨h2, h3⟩, h4, h5⟩ := h
    have hb := h2 _ (List.getElem_mem hk)
    rw [last_next (by omega), next_iff hb]
    refine ⟨⟨(by rw [List.take_zero]; intro h9; cases h9), ?_⟩, h4 0 hk (by omega)⟩
    rw [List.take_zero]
    show (0 : Int) - p.drop ≤ _ ∧ _ ≤ (1000 : Int) + p.gain
    omega
  | k + 1, hk => by
    have hi := TruOk.in h hpg hpd k (by omega)
    obtain ⟨h1, ⟨h2, h3⟩, h4, h5⟩ := h
    have hb := h2 _ (List.getElem_mem hk)
    rw [last_next (by omega), next_iff hb]
    have hs := h3 k hk
    refine ⟨⟨fun h9 => ?_, ?_⟩, h4 (k + 1) hk (by omega)⟩
    · rw [h9] at hi; exact not_nul _ hi
    · unfold StepOk at hs; unfold inI at hi; omega
theorem TruOk.tru {p : Pst} {f : Int} {sp : List Int} {rows : List (List Int)} (h : TruOk p f sp rows) (hf : -1 ≤ f ∧ f ≤ (p.errs.length : Int) - 1) : TruP p rows f sp := ⟨h.1.symm, hf, h.2.1, h.2.2.1⟩
theorem TruOk.fault {p : Pst} {f : Int} {sp : List Int} {rows : List (List Int)} (h : TruOk p f sp rows) (hok : p.ok = true) (hl : sp.length ≤ 60) : faultE p rows = 0 := by
  unfold faultE
  rw [if_pos hok, if_neg (by rw [h.1]; omega), if_pos]
  rw [List.all_eq_true]
  intro r hr
  obtain ⟨h1, h2⟩ := h.2.2.2 r hr
  unfold goodB
  rw [Bool.and_eq_true, decide_eq_true_eq, List.all_eq_true]
  exact ⟨h1, fun x hx => by (have h9 := h2 x hx); unfold inB; simp; exact h9⟩
theorem TruOk.len {p : Pst} {f : Int} {sp : List Int} {rows : List (List Int)} (h : TruOk p f sp rows) (hpg : 0 ≤ p.gain) (hpd : 0 ≤ p.drop) {j : Nat} (hj : f = (j : Int) - 1) : rows.length ≤ lenM p rows j := by
  refine (poss_last (Nat.le_refl _)).2 ?_
  rw [List.take_length]
  rw [← hj]
  by_cases c : sp.length = 0
  · have : rows = [] := List.eq_nil_of_length_eq_zero (by rw [h.1]; exact c)
    rw [this]
    intro h9; cases h9
  · intro h9
    have := h.in hpg hpd (sp.length - 1) (by omega)
    rw [show rows.take (sp.length - 1 + 1) = rows from by rw [show sp.length - 1 + 1 = rows.length from by rw [h.1]; omega, List.take_length], h9] at this
    exact not_nul _ this
theorem TruOk.poss {p : Pst} {f : Int} {sp : List Int} {rows : List (List Int)} (h : TruOk p f sp rows) (hpg : 0 ≤ p.gain) (hpd : 0 ≤ p.drop) {j : Nat} (hj : f = (j : Int) - 1) (hn : j < p.errs.length + 1) : possB p rows rows.length = true := by
  unfold possB
  rw [List.any_eq_true]
  exact ⟨j, List.mem_range.2 hn, by rw [decide_eq_true_eq]; exact h.len hpg hpd hj⟩
theorem fldL_mem {p : Pst} {rows : List (List Int)} {r j : Nat} (h : r ≤ lenM p rows j) : ∀ {n : Nat}, j < n → ((j : Int) - 1) ∈ fldL p rows r n
  | 0, hn => absurd hn (Nat.not_lt_zero _)
  | n + 1, hn => by
    show _ ∈ fldL p rows r n ++ _
    rw [List.mem_append]
    by_cases c : j = n
    · subst c; rw [if_pos h]; exact .inr (List.mem_singleton.2 rfl)
    · exact .inl (fldL_mem h (by omega))
theorem TruOk.span {p : Pst} {f : Int} {sp : List Int} {rows : List (List Int)} (h : TruOk p f sp rows) (hpg : 0 ≤ p.gain) (hpd : 0 ≤ p.drop) {j : Nat} (hj : f = (j : Int) - 1) (hn : j < p.errs.length + 1) (k : Nat) (hk : k < sp.length) : mnL (spdL p rows k (p.errs.length + 1)) ≤ sp[k] ∧ sp[k] ≤ mxL (spdL p rows k (p.errs.length + 1)) := by
  have hl := h.len hpg hpd hj
  have hm : k < (mayL p ((j : Int) - 1) rows).length := by (have h9 : rows.length ≤ (mayL p ((j : Int) - 1) rows).length := hl); rw [h.1] at h9; omega
  have h1 := spd_in hm hn
  have h2 := h.in hpg hpd k hk
  rw [hj, ← (may_mem hm).1] at h2
  have h3 := mnL_le h1.1
  have h4 := le_mxL h1.2
  unfold inI at h2
  omega
theorem MovP.up {p : Pst} {sp : List Int} (h : MovP p sp) (k : Nat) : ∀ (d : Nat) (hd : k + d < sp.length), sp[k + d] ≤ sp[k]'(by omega) + (d : Int) * p.gain
  | 0, hd => by simp
  | d + 1, hd => by
    have h1 := MovP.up h k d (by omega)
    have h2 := h.2 (k + d) (by omega)
    unfold StepOk at h2
    have e : ((d + 1 : Nat) : Int) * p.gain = (d : Int) * p.gain + p.gain := by rw [show ((d + 1 : Nat) : Int) = (d : Int) + 1 from by omega, Int.add_mul, Int.one_mul]
    rw [e]
    show sp[k + d + 1] ≤ _
    omega
theorem level_call {p : Pst} {x y : Int} {d : Nat} (hpg : 0 ≤ p.gain) (hd : (d : Int) ≤ p.out) (hy : p.fall ≤ y) (hxy : y ≤ x + (d : Int) * p.gain) : levelI p x = 3 := by
  have hl : leftI p x ≤ hrI p 0 := by
    have e : hrI p 0 = p.out := by simp [hrI]
    rw [e]
    unfold leftI
    split
    · omega
    · rename_i h1
      split
      · rename_i h2
        rw [h2, Int.mul_zero] at hxy
        omega
      · have h3 : (p.fall - x + p.gain - 1) / p.gain < (d : Int) + 1 := by
          refine Int.ediv_lt_of_lt_mul (by omega) ?_
          rw [Int.add_mul, Int.one_mul]
          omega
        omega
  unfold levelI
  rw [if_pos hl]
theorem TruOk.call {p : Pst} {f : Int} {sp : List Int} {rows : List (List Int)} (h : TruOk p f sp rows) (hpg : 0 ≤ p.gain) (hpd : 0 ≤ p.drop) {j : Nat} (hj : f = (j : Int) - 1) (hn : j < p.errs.length + 1) {k i : Nat} (hk : k ≤ i) (hi : i < sp.length) (ho : (i : Int) - p.out ≤ k) (hfall : p.fall ≤ sp[i]) : levelI p (mxL (spdL p rows k (p.errs.length + 1))) = 3 := by
  have h1 := MovP.up h.2.1 k (i - k) (by omega)
  have h2 := (h.span hpg hpd hj hn k (by omega)).2
  have e : sp[k + (i - k)]'(by omega) = sp[i] := by congr 1; omega
  rw [e] at h1
  refine level_call (y := sp[i]) (d := i - k) hpg (by omega) hfall ?_
  omega
/-- A list of lists that was made, apart from another list. -/
def RowsX (k0 : Nat) (G : Heap) (xv v : AV) (rows : List (List Int)) : Prop := ∃ vs : List AV, vs.length = rows.length ∧ Mine k0 G v 22 1 vs ∧ ∀ (i : Nat) (x : AV) (r : List Int), vs[i]? = some x → rows[i]? = some r → Mine k0 G x 3 1 (r.map I) ∧ ∀ b m m', x = .opn b m → xv ≠ .opn b m'
theorem RowsX.rows {k0 : Nat} {G : Heap} {xv v : AV} {l : List (List Int)} (h : RowsX k0 G xv v l) : RowsM k0 G v l := by
  obtain ⟨vs, h1, h2, h3⟩ := h
  exact ⟨vs, h1, h2, fun i x r a c => (h3 i x r a c).1⟩
theorem RowsX.nil (k0 : Nat) (G : Heap) (xv : AV) : RowsX k0 G xv .nils [] := ⟨[], rfl, Mine.nil _ _ _ _, fun i x s h _ => by simp at h⟩
theorem RowsX.to {k0 : Nat} {G G' : Heap} {xv v : AV} {l : List (List Int)} (h : RowsX k0 G xv v l) (e : Ext G G') : RowsX k0 G' xv v l := by
  obtain ⟨vs, h1, h2, h3⟩ := h
  exact ⟨vs, h1, h2.to e, fun i x r a c => ⟨(h3 i x r a c).1.to e, (h3 i x r a c).2⟩⟩
theorem RowsX.addX {k0 : Nat} {G G' : Heap} {xv v v' : AV} {l : List (List Int)} {cs : List AV} (h : RowsX k0 G xv v l) (hx : Mine k0 G xv 3 1 cs) (hn : G.next ≤ G'.next) (hk : ∀ j, j < G.next → (∀ m, xv ≠ .opn j m) → G'.get j = G.get j) (hv : ∃ m, v' = .opn G.next m) : RowsX k0 G' v' v l := by
  obtain ⟨vs, h1, h2, h3⟩ := h
  obtain ⟨m0, rfl⟩ := hv
  refine ⟨vs, h1, h2.offE hx (.inl (by decide)) hn hk, fun i x r a c => ⟨(h3 i x r a c).1.keep hk (h3 i x r a c).2 hn, fun b m m' hb hc => ?_⟩⟩
  have := (h3 i x r a c).1.lt hb
  cases hc
  omega
theorem RowsX.snoc {k0 : Nat} {G : Heap} {xv ov x : AV} {l : List (List Int)} {s : List Int} (h : RowsX k0 G xv ov l) (hx : Mine k0 G x 3 1 (s.map I)) (hsep : ∀ b m m', x = .opn b m → xv ≠ .opn b m') : ∃ cs, Mine k0 G ov 22 1 cs ∧ cs.length = l.length ∧ ∀ v2 G2, Mine k0 G2 v2 22 1 (cs ++ [x]) → G.next ≤ G2.next → (∀ j, j < G.next → (∀ m, ov ≠ .opn j m) → G2.get j = G.get j) → RowsX k0 G2 xv v2 (l ++ [s]) := by
  obtain ⟨vs, h1, h2, h3⟩ := h
  refine ⟨_, h2, h1, fun v2 G2 k1 k2 k3 => ⟨vs ++ [x], by simp [h1], k1, fun i y t a c => ?_⟩⟩
  by_cases hi : i < vs.length
  · rw [List.getElem?_append_left hi] at a
    rw [List.getElem?_append_left (by omega)] at c
    exact ⟨(h3 i y t a c).1.offE h2 (.inl (by decide)) k2 k3, (h3 i y t a c).2⟩
  · by_cases hi2 : i = vs.length
    · subst hi2
      rw [List.getElem?_append_right (Nat.le_refl _)] at a
      rw [List.getElem?_append_right (by omega), h1] at c
      simp at a c
      subst a c
      exact ⟨hx.offE h2 (.inl (by decide)) k2 k3, hsep⟩
    · rw [List.getElem?_eq_none (by simp; omega)] at a; cases a
def U16c (n : Int) : List AV := [.int .u16 n]
/-- A row of reads, as words make it. -/
def rowV (p : Pst) (f v : Int) (ws : List Int) (h n : Nat) : List Int := (List.range n).map fun (i : Nat) => if (i : Int) = f then pickV (-1000) 2000 ws (5 * h + 1) else pickV (v - p.errs.getD i 0) (v + p.errs.getD i 0) ws (7 * h + i)
theorem rowV_succ (p : Pst) (f v : Int) (ws : List Int) (h n : Nat) : rowV p f v ws h (n + 1) = rowV p f v ws h n ++ [if (n : Int) = f then pickV (-1000) 2000 ws (5 * h + 1) else pickV (v - p.errs.getD n 0) (v + p.errs.getD n 0) ws (7 * h + n)] := by
  unfold rowV
  rw [List.range_succ, List.map_append]
  rfl
theorem rowV_len (p : Pst) (f v : Int) (ws : List Int) (h n : Nat) : (rowV p f v ws h n).length = n := by simp [rowV]
theorem rowV_bd {p : Pst} {f v : Int} {ws : List Int} {h : Nat} (hw : ∀ x ∈ ws, 0 ≤ x ∧ x ≤ 65535) (hv : 0 ≤ v ∧ v ≤ 1000) (hp : ∀ x ∈ p.errs, 0 ≤ x ∧ x ≤ 1000) : ∀ x ∈ rowV p f v ws h p.errs.length, -1000 ≤ x ∧ x ≤ 2000 := by
  intro x hx
  obtain ⟨i, hi, rfl⟩ := List.mem_map.1 hx
  have hi2 := List.mem_range.1 hi
  split
  · exact pickV_bd hw (by omega)
  · have he := hp p.errs[i] (List.getElem_mem hi2)
    rw [show p.errs.getD i 0 = p.errs[i] from by simp [List.getD, hi2]]
    have := pickV_bd (a := 7 * h + i) (lo := v - p.errs[i]) (hi := v + p.errs[i]) hw (by omega)
    omega
theorem rowV_agree {p : Pst} {f v : Int} {ws : List Int} {h : Nat} (hw : ∀ x ∈ ws, 0 ≤ x ∧ x ≤ 65535) (hp : ∀ x ∈ p.errs, 0 ≤ x ∧ x ≤ 1000) : AgreeR p f (rowV p f v ws h p.errs.length) v := by
  intro g hg hf
  have he := hp p.errs[g] (List.getElem_mem hg)
  have e1 : (rowV p f v ws h p.errs.length).getD g 0 = pickV (v - p.errs[g]) (v + p.errs[g]) ws (7 * h + g) := by
    rw [show (rowV p f v ws h p.errs.length).getD g 0 = (rowV p f v ws h p.errs.length)[g]'(by rw [rowV_len]; exact hg) from by simp [List.getD, rowV_len, hg]]
    unfold rowV
    rw [List.getElem_map, List.getElem_range, if_neg hf, show p.errs.getD g 0 = p.errs[g] from by simp [List.getD, hg]]
  have := pickV_bd (a := 7 * h + g) (lo := v - p.errs[g]) (hi := v + p.errs[g]) hw (by omega)
  unfold gI agI inI
  rw [e1, show p.errs.getD g 0 = p.errs[g] from by simp [List.getD, hg]]
  dsimp only
  omega
theorem c81 (m : Nat) (lo hi : Int) (wv : AV) (ws : List Int) (a : Nat) (H : Heap) (hWs : Row H wv 1 (ws.map U16c)) (hw : ∀ x ∈ ws, 0 ≤ x ∧ x ≤ 65535) (hb : -1000000 ≤ lo ∧ lo ≤ hi ∧ hi ≤ 1000000) (ha : a ≤ 1000000) : RR (m + 1) (.fn 81 [I lo, I hi, wv, I (a : Int)]) H = some (I (pickV lo hi ws a), H) := by
  refine (R_fn _ _ _ _ _).trans ?_
  refine fn_ok Try.func81 rfl rfl (by kernel_rfl) (by kernel_rfl) ?_
  obtain ⟨W, hW⟩ : ∃ W : Heap, W = ⟨H.t, H.next, H.next⟩ := ⟨_, rfl⟩
  have hg : ∀ n, W.get n = H.get n := fun n => by rw [hW]; rfl
  have hN : W.next = H.next := by rw [hW]
  have hE : ∀ G, Grow W G → Ext H G := fun G g => ⟨by rw [← hN]; exact g.next, fun n k => by rw [g.get n (by rw [hN]; exact k), hg]⟩
  have hG : Grow W W := Grow.refl (by rw [hW]; exact Nat.le_refl _)
  rw [← hW]
  have hwl := hWs.len
  rw [List.length_map] at hwl
  refine Ok.seq ?_
  refine Ok.region ?_
  refine OkO.assign rfl rfl ?_
  refine OkO.nil ?_
  refine Ok.seq ?_
  refine Ok.seq ?_
  refine Ok.region ?_
  refine OkO.move rfl rfl ?_
  refine OkO.builtin rfl rfl rfl (bln (by kernel_rfl) (by first | assumption | rfl)) ?_
  refine OkO.bin rfl rfl rfl (bin_eql _ _) ?_
  refine OkO.nil ?_
  refine Ok.cond rfl (fun h1 => ?_) (fun h1 => ?_)
  · -- yes h1
    have hnil : ws = [] := List.eq_nil_of_length_eq_zero (by (have h9 : (ws.length : Int) = 0 := by simpa using h1); omega)
    refine Ok.seq ?_
    refine Ok.region ?_
    refine OkO.move rfl rfl ?_
    refine OkO.assign rfl rfl ?_
    refine OkO.nil ?_
    refine Ok.ret ⟨.inr rfl, ?_⟩
    exact back_flat rfl (congrArg (fun z => I z) (by unfold pickV; rw [if_pos hnil])) rfl (by rw [← hW]; exact (by (try dsimp only); repeat (first | exact hG | apply Grow.new | (refine Grow.put ?_ _ (by first | omega | (simp only [hNw, hPt]; omega))))))
  · -- no h1
    have hpos : 0 < ws.length := by (have h9 : ¬ (ws.length : Int) = 0 := by simpa using h1); omega
    have hne : ws ≠ [] := fun h => by rw [h] at hpos; exact absurd hpos (Nat.lt_irrefl 0)
    have hlt : a % ws.length < ws.length := Nat.mod_lt _ hpos
    obtain ⟨wb, wo, wcs, w1, w2, w3, w5⟩ := (hWs.ext (hE _ hG)).at_ (a % ws.length) (U16c (ws[a % ws.length]'hlt)) (by simp [hlt])
    have w4 := seg_one w3
    have e9 : ws.getD (a % ws.length) 0 = ws[a % ws.length]'hlt := by simp [List.getD, hlt]
    have hwb := hw _ (List.getElem_mem hlt)
    rw [← e9] at w4 hwb
    have hm1 := Int.emod_nonneg (ws.getD (a % ws.length) 0) (b := hi - lo + 1) (by omega)
    have hm2 := Int.emod_lt_of_pos (ws.getD (a % ws.length) 0) (b := hi - lo + 1) (by omega)
    refine Ok.skip ?_
    refine Ok.seq ?_
    refine Ok.region ?_
    refine OkO.move rfl rfl ?_
    refine OkO.move rfl rfl ?_
    refine OkO.move rfl rfl ?_
    refine OkO.builtin rfl rfl rfl (bln (by kernel_rfl) (by first | assumption | rfl)) ?_
    refine OkO.bin rfl rfl rfl (bin_rem (by omega) (by omega)) ?_
    refine OkO.index (sz := 1) (n := (a % ws.length)) rfl rfl (congrArg (fun z => some (I z)) (by simp)) (by kernel_rfl) (by first | assumption | rfl | exact slAt_slice (by omega) | exact slAt_opn (by omega)) ?_ -- index ('Go.Operand.tmp', 14) ('Go.Operand.tmp', 18)
    refine OkO.load rfl rfl (lda (n := 1) (by kernel_rfl) (by first | assumption | (simp (disch := first | omega | (simp only [hNw, hPt]; omega)) only [gn0, gn1, gn2, gn3, gn4, gn5, gp0, gno, gpo] <;> first | rfl | assumption | exact gp0 _ _ _ | exact gn0 _ _)) (by first | rfl | assumption)) ?_
    refine OkO.convert (k := .i64) rfl (by kernel_rfl) rfl (wrapF_i64 (by omega) (by omega)) ?_
    refine OkO.assign rfl rfl ?_
    refine OkO.nil ?_
    refine Ok.seq ?_
    refine Ok.seq ?_
    refine Ok.region ?_
    refine OkO.move rfl rfl ?_
    refine OkO.bin rfl rfl rfl (bin_rem (by omega) (by omega)) ?_
    refine OkO.nil ?_
    refine Ok.block ?_
    refine Ok.seq ?_
    refine Ok.region ?_
    refine OkO.bin rfl rfl rfl (bin_eql _ _) ?_
    refine OkO.assign rfl rfl ?_
    refine OkO.nil ?_
    refine Ok.cond rfl (fun h2 => ?_) (fun h2 => ?_)
    · -- yes h2
      refine Ok.seq ?_
      refine Ok.region ?_
      refine OkO.move rfl rfl ?_
      refine OkO.assign rfl rfl ?_
      refine OkO.nil ?_
      refine Ok.ret ⟨.inr rfl, ?_⟩
      exact back_flat rfl (congrArg (fun z => I z) (by unfold pickV; rw [if_neg hne, if_pos (by simpa using h2)])) rfl (by rw [← hW]; exact (by (try dsimp only); repeat (first | exact hG | apply Grow.new | (refine Grow.put ?_ _ (by first | omega | (simp only [hNw, hPt]; omega))))))
    · -- no h2
      refine Ok.seq ?_
      refine Ok.region ?_
      refine OkO.bin rfl rfl rfl (bin_eql _ _) ?_
      refine OkO.assign rfl rfl ?_
      refine OkO.nil ?_
      refine Ok.cond rfl (fun h3 => ?_) (fun h3 => ?_)
      · -- yes h3
        refine Ok.seq ?_
        refine Ok.region ?_
        refine OkO.move rfl rfl ?_
        refine OkO.assign rfl rfl ?_
        refine OkO.nil ?_
        refine Ok.ret ⟨.inr rfl, ?_⟩
        exact back_flat rfl (congrArg (fun z => I z) (by unfold pickV; rw [if_neg hne, if_neg (by simpa using h2), if_pos (by simpa using h3)])) rfl (by rw [← hW]; exact (by (try dsimp only); repeat (first | exact hG | apply Grow.new | (refine Grow.put ?_ _ (by first | omega | (simp only [hNw, hPt]; omega))))))
      · -- no h3
        refine Ok.skip ?_
        refine Ok.seq ?_
        refine Ok.region ?_
        refine OkO.move rfl rfl ?_
        refine OkO.move rfl rfl ?_
        refine OkO.move rfl rfl ?_
        refine OkO.move rfl rfl ?_
        refine OkO.bin rfl rfl rfl (bin_sub (by omega) (by omega)) ?_
        refine OkO.bin rfl rfl rfl (bin_add (by omega) (by omega)) ?_
        refine OkO.bin rfl rfl rfl (bin_rem (by omega) (by omega)) ?_
        refine OkO.bin rfl rfl rfl (bin_add (by omega) (by omega)) ?_
        refine OkO.assign rfl rfl ?_
        refine OkO.nil ?_
        refine Ok.ret ⟨.inr rfl, ?_⟩
        exact back_flat rfl (congrArg (fun z => I z) (by unfold pickV; rw [if_neg hne, if_neg (by simpa using h2), if_neg (by simpa using h3)])) rfl (by rw [← hW]; exact (by (try dsimp only); repeat (first | exact hG | apply Grow.new | (refine Grow.put ?_ _ (by first | omega | (simp only [hNw, hPt]; omega))))))
theorem c81z (m : Nat) (lo hi : Int) (wv : AV) (ws : List Int) (a : Nat) (z : Int) (H : Heap) (hz : z = (a : Int)) (hWs : Row H wv 1 (ws.map U16c)) (hw : ∀ x ∈ ws, 0 ≤ x ∧ x ≤ 65535) (hb : -1000000 ≤ lo ∧ lo ≤ hi ∧ hi ≤ 1000000) (ha : a ≤ 1000000) : RR (m + 1) (.fn 81 [I lo, I hi, wv, I z]) H = some (I (pickV lo hi ws a), H) := by
  subst hz
  exact c81 m lo hi wv ws a H hWs hw hb ha
end
end Go.Ev

set_option maxRecDepth 100000
set_option linter.unusedSimpArgs false
set_option linter.unusedVariables false
namespace Go.Ev
open Go Go.Proofs
noncomputable section
theorem c55 (m : Nat) (ev wv : AV) (p : Pst) (N : Nat) (f : Int) (ws : List Int) (H : Heap) (hV : Ints H ev p.errs) (hWs : Row H wv 1 (ws.map U16c)) (hw : ∀ x ∈ ws, 0 ≤ x ∧ x ≤ 65535) (hpl : p.errs.length ≤ 15) (hN : 1 ≤ N ∧ N ≤ 60) (hok : p.ok = true) : ∃ v H', RR (m + 2) (.fn 55 [.agg (p.c ev), I (N : Int), I f, wv]) H = some (v, H') ∧ ∃ xs ys sp rows, v = .tup [xs, ys] ∧ Ret H H' ∧ Mine H.next H' xs 3 1 (sp.map I) ∧ RowsM H.next H' ys rows ∧ TruOk p f sp rows ∧ sp.length = N := by
  show ∃ v H', evFn Try.prog (RR (m + 1)) 55 [.agg (p.c ev), I (N : Int), I f, wv] H = some (v, H') ∧ ∃ xs ys sp rows, v = .tup [xs, ys] ∧ Ret H H' ∧ Mine H.next H' xs 3 1 (sp.map I) ∧ RowsM H.next H' ys rows ∧ TruOk p f sp rows ∧ sp.length = N
  refine fn_okE Try.func55 rfl rfl (by kernel_rfl) (by kernel_rfl) ?_
  obtain ⟨W, hW⟩ : ∃ W : Heap, W = ⟨H.t, H.next, H.next⟩ := ⟨_, rfl⟩
  have hg : ∀ n, W.get n = H.get n := fun n => by rw [hW]; rfl
  have hN : W.next = H.next := by rw [hW]
  have hE : ∀ G, Grow W G → Ext H G := fun G g => ⟨by rw [← hN]; exact g.next, fun n k => by rw [g.get n (by rw [hN]; exact k), hg]⟩
  have hG : Grow W W := Grow.refl (by rw [hW]; exact Nat.le_refl _)
  rw [← hW]
  have pev : ev.plain = true := lpl hV.len
  have hel := hV.len
  have pwv : wv.plain = true := lpl hWs.len
  obtain ⟨_, hpe0, hpg, hpd, hpf, hpo, hpa⟩ := Pst.ok_facts hok
  have hpe : ∀ x ∈ p.errs, 0 ≤ x ∧ x ≤ 1000 := hpe0
  refine Ok.seq ?_
  refine Ok.region ?_
  refine OkO.box rfl rfl ?_
  refine OkO.assign rfl rfl ?_
  refine OkO.assign rfl rfl ?_
  refine OkO.nil ?_
  refine Ok.seq ?_
  refine Ok.region ?_
  refine OkO.assign rfl rfl ?_
  refine OkO.nil ?_
  refine Ok.seq ?_
  refine Ok.region ?_
  refine OkO.assign rfl rfl ?_
  refine OkO.nil ?_
  refine Ok.seq ?_
  refine Ok.region ?_
  refine OkO.fieldAddr (o := 3) rfl (by kernel_rfl) rfl ?_
  refine OkO.load rfl rfl (lda (n := 1) (by kernel_rfl) (by first | assumption | (simp (disch := first | omega | (simp only [hNw, hPt]; omega)) only [gn0, gn1, gn2, gn3, gn4, gn5, gp0, gno, gpo] <;> first | rfl | assumption | exact gp0 _ _ _ | exact gn0 _ _)) (by first | rfl | assumption)) ?_
  refine OkO.move rfl rfl ?_
  refine OkO.callV rfl rfl rfl rfl rfl (c81z m _ _ wv ws (0) (0) _ (by omega) (hWs.ext (hE _ (by (try dsimp only); repeat (first | exact hG | apply Grow.new | (refine Grow.put ?_ _ (by first | omega | (simp only [hNw, hPt]; omega))))))) hw (by omega) (by omega)) ?_ -- "sackung/sackunglaw04.pick"
  refine OkO.assign rfl rfl ?_
  refine OkO.nil ?_
  refine Ok.seq ?_
  refine Ok.seq ?_
  refine Ok.region ?_
  refine OkO.assign rfl rfl ?_
  refine OkO.nil ?_
  refine Ok.block ?_
  refine Ok.loop (fun n s => ∃ (h : Nat) (v : Int) (sp : List Int) (rows : List (List Int)) (xs ys : AV), n = N - h ∧ h ≤ N ∧ Mine (W.next + 1) s.H xs 3 1 (sp.map I) ∧ RowsX (W.next + 1) s.H xs ys rows ∧ TruOk p f sp rows ∧ sp.length = h ∧ (0 ≤ v ∧ v ≤ 1000) ∧ (∀ x, sp[sp.length - 1]? = some x → x = v) ∧ Has 7 [(1, I (N : Int)), (2, I f), (3, wv), (4, .ptr W.next 0), (10, xs), (11, ys), (12, I v), (13, I (h : Int))] s.T ∧ s.D = [] ∧ Grow W s.H ∧ (s.H.get W.next).bind AObj.cs = some (p.c ev) ∧ W.next + 1 ≤ s.H.next) (N) (by unfold loopFuel; omega)
    ⟨0, pickV 0 p.fall ws 0, [], [], .nils, .nils, rfl, Nat.zero_le _, Mine.nil _ _ _ _, RowsX.nil _ _ _, TruOk.nil _ _, rfl, (by have h9 := pickV_bd (a := 0) hw (show (0 : Int) ≤ p.fall by omega); omega), fun x hx => (by simp at hx), Has.of (by kernel_rfl), rfl, (by (try dsimp only); repeat (first | exact hG | apply Grow.new | (refine Grow.put ?_ _ (by first | omega | (simp only [hNw, hPt]; omega))))), (by rw [gn0]; rfl), by simp⟩ ?_
  rintro n ⟨T, D, G⟩ ⟨h, v, sp, rows, xs, ys, hn, hh, mxs, rxs, htru, hspl, hv, hlastv, ⟨f_, hT⟩, hD, hg, e0, hn1⟩
  dsimp only at *
  subst hT hD
  have hgn := hg.next
  refine Ok.seq ?_
  refine Ok.seq ?_
  refine Ok.region ?_
  refine OkO.move rfl rfl ?_
  refine OkO.move rfl rfl ?_
  refine OkO.bin rfl rfl rfl (bin_lss _ _) ?_
  refine OkO.nil ?_
  refine Ok.cond rfl (fun h1 => ?_) (fun h1 => ?_)
  · -- yes h1
    have hlt9 : h < N := by (have h9 : (h : Int) < (N : Int) := by simpa using h1); omega
    refine Ok.skip ?_
    refine Ok.seq ?_
    refine Ok.block ?_
    refine Ok.join (fun s => ∃ v2 : Int, (0 ≤ v2 ∧ v2 ≤ 1000) ∧ (∀ x, sp[sp.length - 1]? = some x → StepOk p x v2) ∧ Has 7 [(1, I (N : Int)), (2, I f), (3, wv), (4, .ptr W.next 0), (10, xs), (11, ys), (12, I v2), (13, I (h : Int))] s.T ∧ s.D = [] ∧ s.H = G) ?_ ?_
    · -- to the meeting
      refine Ok.seq ?_
      refine Ok.region ?_
      refine OkO.move rfl rfl ?_
      refine OkO.bin rfl rfl rfl (bin_gtr _ _) ?_
      refine OkO.nil ?_
      refine Ok.cond rfl (fun h2 => ?_) (fun h2 => ?_)
      · -- yes h2
        refine Ok.region ?_
        refine OkO.move rfl rfl ?_
        refine OkO.fieldAddr (o := 2) rfl (by kernel_rfl) rfl ?_
        refine OkO.load rfl rfl (lda (n := 1) (by kernel_rfl) (by first | assumption | (simp (disch := first | omega | (simp only [hNw, hPt]; omega)) only [gn0, gn1, gn2, gn3, gn4, gn5, gp0, gno, gpo] <;> first | rfl | assumption | exact gp0 _ _ _ | exact gn0 _ _)) (by first | rfl | assumption)) ?_
        refine OkO.bin rfl rfl rfl (bin_sub (by omega) (by omega)) ?_
        refine OkO.builtin rfl rfl rfl (builtin_max2 _ _) ?_
        refine OkO.move rfl rfl ?_
        refine OkO.fieldAddr (o := 1) rfl (by kernel_rfl) rfl ?_
        refine OkO.load rfl rfl (lda (n := 1) (by kernel_rfl) (by first | assumption | (simp (disch := first | omega | (simp only [hNw, hPt]; omega)) only [gn0, gn1, gn2, gn3, gn4, gn5, gp0, gno, gpo] <;> first | rfl | assumption | exact gp0 _ _ _ | exact gn0 _ _)) (by first | rfl | assumption)) ?_
        refine OkO.bin rfl rfl rfl (bin_add (by omega) (by omega)) ?_
        refine OkO.builtin rfl rfl rfl (builtin_min2 _ _) ?_
        refine OkO.move rfl rfl ?_
        refine OkO.move rfl rfl ?_
        refine OkO.bin rfl rfl rfl (bin_mul (by omega) (by omega)) ?_
        refine OkO.callV rfl rfl rfl rfl rfl (c81z m _ _ wv ws (3 * h) (3 * (h : Int)) _ (by omega) (hWs.ext (hE _ hg)) hw ⟨by omega, by omega, by omega⟩ (by omega)) ?_ -- "sackung/sackunglaw04.pick"
        refine OkO.assign rfl rfl ?_
        refine OkO.nil ?_
        have hbp := pickV_bd (a := 3 * h) (lo := max 0 (v - p.drop)) (hi := min 1000 (v + p.gain)) hw (by omega)
        exact ⟨rfl, pickV (max 0 (v - p.drop)) (min 1000 (v + p.gain)) ws (3 * h), ⟨by omega, by omega⟩, fun x hx => (by rw [hlastv x hx]; unfold StepOk; omega), Has.of (by kernel_rfl), rfl, rfl⟩
      · -- no h2
        refine Ok.skip ?_
        exact ⟨rfl, v, hv, fun x hx => (by (have h9 : sp.length - 1 < sp.length := (List.getElem?_eq_some_iff.1 hx).1); (have h8 : ¬ (0 : Int) < (h : Int) := by simpa using h2); omega), Has.of (by kernel_rfl), rfl, rfl⟩
    · -- behind it
      rintro ⟨T, D, G⟩ ⟨v2, hv2, hst2, ⟨f2_, hT⟩, hD, hGG⟩
      dsimp only at *
      subst hT hD
      subst hGG
      refine Ok.seq ?_
      refine Ok.region ?_
      refine OkO.move rfl rfl ?_
      refine OkO.move rfl rfl ?_
      refine OkO.buildSlice (el := 3) (sz := 1) (z := [.int .i64 0]) rfl (by kernel_rfl) (by decide) rfl rfl ?_
      refine OkO.builtinE rfl rfl rfl (Mine.app2 (W := W) (k0 := W.next + 1) (t := 22) (u := 22) (sz := 1) (by_ := 8) (e := 3) (n := 1) (new := [I v2]) (mxs.to (Grow.toNew _ _)) (hg.new _) (by omega) (by simp; omega) (by kernel_rfl) (by kernel_rfl) (elems_new (n := 1) (sz := 1) rfl) rfl rfl (by rw [List.length_map]; omega) (by omega) (by omega) rfl) ?_
      rintro xs2 G1 ⟨r1, g1x, r3, r4, r5, r6⟩
      have hxs2 : Mine (W.next + 1) G1 xs2 3 1 ((sp ++ [v2]).map I) := by rw [List.map_append]; exact r1
      have hrx2 : RowsX (W.next + 1) G1 xs2 ys rows := (rxs.to (Grow.toNew _ _)).addX (mxs.to (Grow.toNew _ _)) (Nat.le_of_lt (by omega)) r4 r6
      have e1 : (G1.get W.next).bind AObj.cs = some (p.c ev) := by rw [r3.get W.next (by omega) (by simp; omega), gno _ _ _ (by omega)]; exact e0
      have n1x : W.next + 2 ≤ G1.next := by (simp only [hNw] at r5; omega)
      refine OkO.assign rfl rfl ?_
      refine OkO.nil ?_
      refine Ok.seq ?_
      refine Ok.region ?_
      refine OkO.assign rfl rfl ?_
      refine OkO.nil ?_
      refine Ok.seq ?_
      refine Ok.seq ?_
      refine Ok.region ?_
      refine OkO.assign rfl rfl ?_
      refine OkO.nil ?_
      refine Ok.block ?_
      refine Ok.loop (fun n s => ∃ (i : Nat) (ov : AV), n = p.errs.length - i ∧ i ≤ p.errs.length ∧ Mine G1.next s.H ov 3 1 ((rowV p f v2 ws h i).map I) ∧ Ext G1 s.H ∧ Has 7 [(1, I (N : Int)), (2, I f), (3, wv), (4, .ptr W.next 0), (10, xs2), (11, ys), (12, I v2), (13, I (h : Int)), (14, ov), (15, I (i : Int))] s.T ∧ s.D = [] ∧ Grow W s.H) (p.errs.length) (by unfold loopFuel; omega)
        ⟨0, .nils, rfl, Nat.zero_le _, Mine.nil _ _ _ _, Ext.refl _, Has.of (by kernel_rfl), rfl, g1x⟩ ?_
      rintro n ⟨T, D, G⟩ ⟨i, ov, hn2, hi, mov, hx1, ⟨f3_, hT⟩, hD, hgi⟩
      dsimp only at *
      subst hT hD
      have hgn := hg.next
      have e2 : (G.get W.next).bind AObj.cs = some (p.c ev) := by rw [hx1.get _ (by omega)]; exact e1
      have hx1n := hx1.next
      refine Ok.seq ?_
      refine Ok.seq ?_
      refine Ok.region ?_
      refine OkO.move rfl rfl ?_
      refine OkO.fieldAddr (o := 0) rfl (by kernel_rfl) rfl ?_
      refine OkO.load rfl rfl (lda (n := 1) (by kernel_rfl) (by first | assumption | (simp (disch := first | omega | (simp only [hNw, hPt]; omega)) only [gn0, gn1, gn2, gn3, gn4, gn5, gp0, gno, gpo] <;> first | rfl | assumption | exact gp0 _ _ _ | exact gn0 _ _)) (by first | rfl | assumption)) ?_
      refine OkO.builtin rfl rfl rfl (bln (by kernel_rfl) (by first | assumption | rfl)) ?_
      refine OkO.bin rfl rfl rfl (bin_lss _ _) ?_
      refine OkO.nil ?_
      refine Ok.cond rfl (fun h3 => ?_) (fun h3 => ?_)
      · -- yes h3
        have hlt : i < p.errs.length := by simpa using h3
        obtain ⟨xb, xo, xcs, x1, x2, x3, x4⟩ := (hV.ext (hE _ hgi)).at' i hlt
        have heb := hpe _ (List.getElem_mem hlt)
        refine Ok.skip ?_
        refine Ok.seq ?_
        refine Ok.block ?_
        refine Ok.seq ?_
        refine Ok.drawn [(0, true, []), (1, true, []), (2, true, []), (3, true, []), (4, true, []), (5, true, []), (6, true, []), (7, true, []), (8, true, []), (9, true, []), (10, true, []), (11, true, []), (12, true, []), (13, true, []), (14, true, []), (15, true, []), (16, true, []), (17, true, []), (18, true, []), (19, false, [12, 9, 5, 2]), (20, true, [])] (by kernel_rfl) ?_
        refine OkP.step ?_
        refine OkO.move rfl rfl ?_
        refine OkO.nil ⟨rfl, ?_⟩
        refine OkP.step ?_
        refine OkO.fieldAddr (o := 0) rfl (by kernel_rfl) rfl ?_
        refine OkO.nil ⟨rfl, ?_⟩
        refine OkP.step ?_
        refine OkO.load rfl rfl (lda (n := 1) (by kernel_rfl) (by first | assumption | (simp (disch := first | omega | (simp only [hNw, hPt]; omega)) only [gn0, gn1, gn2, gn3, gn4, gn5, gp0, gno, gpo] <;> first | rfl | assumption | exact gp0 _ _ _ | exact gn0 _ _)) (by first | rfl | assumption)) ?_
        refine OkO.nil ⟨rfl, ?_⟩
        refine OkP.step ?_
        refine OkO.move rfl rfl ?_
        refine OkO.nil ⟨rfl, ?_⟩
        refine OkP.step ?_
        refine OkO.index (sz := 1) rfl rfl rfl (by kernel_rfl) (by first | assumption | rfl | exact slAt_slice (by omega) | exact slAt_opn (by omega)) ?_ -- index ('Go.Operand.tmp', 55) ('Go.Operand.tmp', 56)
        refine OkO.nil ⟨rfl, ?_⟩
        refine OkP.step ?_
        refine OkO.load rfl rfl (lda (n := 1) (by kernel_rfl) (by first | assumption | (simp (disch := first | omega | (simp only [hNw, hPt]; omega)) only [gn0, gn1, gn2, gn3, gn4, gn5, gp0, gno, gpo] <;> first | rfl | assumption | exact gp0 _ _ _ | exact gn0 _ _)) (by first | rfl | assumption)) ?_
        refine OkO.nil ⟨rfl, ?_⟩
        refine OkP.step ?_
        refine OkO.bin rfl rfl rfl (bin_sub (by omega) (by omega)) ?_
        refine OkO.nil ⟨rfl, ?_⟩
        refine OkP.step ?_
        refine OkO.move rfl rfl ?_
        refine OkO.nil ⟨rfl, ?_⟩
        refine OkP.step ?_
        refine OkO.fieldAddr (o := 0) rfl (by kernel_rfl) rfl ?_
        refine OkO.nil ⟨rfl, ?_⟩
        refine OkP.step ?_
        refine OkO.load rfl rfl (lda (n := 1) (by kernel_rfl) (by first | assumption | (simp (disch := first | omega | (simp only [hNw, hPt]; omega)) only [gn0, gn1, gn2, gn3, gn4, gn5, gp0, gno, gpo] <;> first | rfl | assumption | exact gp0 _ _ _ | exact gn0 _ _)) (by first | rfl | assumption)) ?_
        refine OkO.nil ⟨rfl, ?_⟩
        refine OkP.step ?_
        refine OkO.move rfl rfl ?_
        refine OkO.nil ⟨rfl, ?_⟩
        refine OkP.step ?_
        refine OkO.index (sz := 1) rfl rfl rfl (by kernel_rfl) (by first | assumption | rfl | exact slAt_slice (by omega) | exact slAt_opn (by omega)) ?_ -- index ('Go.Operand.tmp', 62) ('Go.Operand.tmp', 63)
        refine OkO.nil ⟨rfl, ?_⟩
        refine OkP.step ?_
        refine OkO.load rfl rfl (lda (n := 1) (by kernel_rfl) (by first | assumption | (simp (disch := first | omega | (simp only [hNw, hPt]; omega)) only [gn0, gn1, gn2, gn3, gn4, gn5, gp0, gno, gpo] <;> first | rfl | assumption | exact gp0 _ _ _ | exact gn0 _ _)) (by first | rfl | assumption)) ?_
        refine OkO.nil ⟨rfl, ?_⟩
        refine OkP.step ?_
        refine OkO.bin rfl rfl rfl (bin_add (by omega) (by omega)) ?_
        refine OkO.nil ⟨rfl, ?_⟩
        refine OkP.step ?_
        refine OkO.move rfl rfl ?_
        refine OkO.nil ⟨rfl, ?_⟩
        refine OkP.step ?_
        refine OkO.move rfl rfl ?_
        refine OkO.nil ⟨rfl, ?_⟩
        refine OkP.step ?_
        refine OkO.bin rfl rfl rfl (bin_mul (by omega) (by omega)) ?_
        refine OkO.nil ⟨rfl, ?_⟩
        refine OkP.step ?_
        refine OkO.move rfl rfl ?_
        refine OkO.nil ⟨rfl, ?_⟩
        refine OkP.step ?_
        refine OkO.bin rfl rfl rfl (bin_add (by omega) (by omega)) ?_
        refine OkO.nil ⟨rfl, ?_⟩
        refine OkP.step ?_
        refine OkO.callV rfl rfl rfl rfl rfl (c81z m _ _ wv ws (7 * h + i) (7 * (h : Int) + (i : Int)) _ (by omega) (hWs.ext (hE _ hgi)) hw ⟨by omega, by omega, by omega⟩ (by omega)) ?_ -- "sackung/sackunglaw04.pick"
        refine OkO.nil ⟨(sco (sld rfl rfl (lda (n := 1) (by kernel_rfl) (by first | assumption | (simp (disch := first | omega | (simp only [hNw, hPt]; omega)) only [gn0, gn1, gn2, gn3, gn4, gn5, gp0, gno, gpo] <;> first | rfl | assumption | exact gp0 _ _ _ | exact gn0 _ _)) (by first | rfl | assumption)) rfl (eqr _ (by first | rfl | exact lpl (by assumption) | (simp [AV.plain, AV.plains, AV.cells, pev, Pst.c])))) (sco (sld rfl rfl (lda (n := 1) (by kernel_rfl) (by first | assumption | (simp (disch := first | omega | (simp only [hNw, hPt]; omega)) only [gn0, gn1, gn2, gn3, gn4, gn5, gp0, gno, gpo] <;> first | rfl | assumption | exact gp0 _ _ _ | exact gn0 _ _)) (by first | rfl | assumption)) rfl (eqr _ (by first | rfl | exact lpl (by assumption) | (simp [AV.plain, AV.plains, AV.cells, pev, Pst.c])))) (sco (sld rfl rfl (lda (n := 1) (by kernel_rfl) (by first | assumption | (simp (disch := first | omega | (simp only [hNw, hPt]; omega)) only [gn0, gn1, gn2, gn3, gn4, gn5, gp0, gno, gpo] <;> first | rfl | assumption | exact gp0 _ _ _ | exact gn0 _ _)) (by first | rfl | assumption)) rfl (eqr _ (by first | rfl | exact lpl (by assumption) | (simp [AV.plain, AV.plains, AV.cells, pev, Pst.c])))) (sco (sld rfl rfl (lda (n := 1) (by kernel_rfl) (by first | assumption | (simp (disch := first | omega | (simp only [hNw, hPt]; omega)) only [gn0, gn1, gn2, gn3, gn4, gn5, gp0, gno, gpo] <;> first | rfl | assumption | exact gp0 _ _ _ | exact gn0 _ _)) (by first | rfl | assumption)) rfl (eqr _ (by first | rfl | exact lpl (by assumption) | (simp [AV.plain, AV.plains, AV.cells, pev, Pst.c])))) rfl)))), ?_⟩
        refine OkP.step ?_
        refine OkO.assign rfl rfl ?_
        refine OkO.nil ⟨rfl, ?_⟩
        refine OkP.nil ?_
        refine Ok.seq ?_
        refine Ok.seq ?_
        refine Ok.region ?_
        refine OkO.move rfl rfl ?_
        refine OkO.move rfl rfl ?_
        refine OkO.bin rfl rfl rfl (bin_eql _ _) ?_
        refine OkO.nil ?_
        refine Ok.cond rfl (fun h4 => ?_) (fun h4 => ?_)
        · -- yes h4
          have heq : (i : Int) = f := by simpa using h4
          refine Ok.region ?_
          refine OkO.move rfl rfl ?_
          refine OkO.move rfl rfl ?_
          refine OkO.bin rfl rfl rfl (bin_mul (by omega) (by omega)) ?_
          refine OkO.bin rfl rfl rfl (bin_add (by omega) (by omega)) ?_
          refine OkO.callV rfl rfl rfl rfl rfl (c81z m _ _ wv ws (5 * h + 1) (5 * (h : Int) + 1) _ (by omega) (hWs.ext (hE _ hgi)) hw (by omega) (by omega)) ?_ -- "sackung/sackunglaw04.pick"
          refine OkO.assign rfl rfl ?_
          refine OkO.nil ?_
          refine Ok.region ?_
          refine OkO.move rfl rfl ?_
          refine OkO.move rfl rfl ?_
          refine OkO.buildSlice (el := 3) (sz := 1) (z := [.int .i64 0]) rfl (by kernel_rfl) (by decide) rfl rfl ?_
          refine OkO.builtinE rfl rfl rfl (Mine.app2 (W := W) (k0 := G1.next) (t := 22) (u := 22) (sz := 1) (by_ := 8) (e := 3) (n := 1) (new := [I (pickV (-1000) 2000 ws (5 * h + 1))]) (mov.to (Grow.toNew _ _)) (hgi.new _) (by omega) (by simp; omega) (by kernel_rfl) (by kernel_rfl) (elems_new (n := 1) (sz := 1) rfl) rfl rfl (by rw [List.length_map, rowV_len]; omega) (by omega) (by omega) rfl) ?_
          rintro ov2 G2 ⟨r1, g2x, r3, r4, r5, _⟩
          have hx2 : Ext G1 G2 := ⟨by (simp only [hNw] at r5; omega), fun k hk => by rw [r3.get k hk (by simp; omega), gno _ _ _ (by omega)]; exact hx1.get k hk⟩
          refine OkO.assign rfl rfl ?_
          refine OkO.nil ?_
          refine Ok.region ?_
          refine OkO.move rfl rfl ?_
          refine OkO.bin rfl rfl rfl (bin_add (by omega) (by omega)) ?_
          refine OkO.assign rfl rfl ?_
          refine OkO.nil ?_
          refine ⟨p.errs.length - (i + 1), by omega, i + 1, ov2, rfl, by omega, ?_, hx2, Has.of (by kernel_rfl), rfl, g2x⟩
          rw [rowV_succ, if_pos heq, List.map_append]
          exact r1
        · -- no h4
          have heq : ¬ (i : Int) = f := by simpa using h4
          refine Ok.skip ?_
          refine Ok.region ?_
          refine OkO.move rfl rfl ?_
          refine OkO.move rfl rfl ?_
          refine OkO.buildSlice (el := 3) (sz := 1) (z := [.int .i64 0]) rfl (by kernel_rfl) (by decide) rfl rfl ?_
          refine OkO.builtinE rfl rfl rfl (Mine.app2 (W := W) (k0 := G1.next) (t := 22) (u := 22) (sz := 1) (by_ := 8) (e := 3) (n := 1) (new := [I (pickV (v2 - p.errs[i]) (v2 + p.errs[i]) ws (7 * h + i))]) (mov.to (Grow.toNew _ _)) (hgi.new _) (by omega) (by simp; omega) (by kernel_rfl) (by kernel_rfl) (elems_new (n := 1) (sz := 1) rfl) rfl rfl (by rw [List.length_map, rowV_len]; omega) (by omega) (by omega) rfl) ?_
          rintro ov2 G2 ⟨r1, g2x, r3, r4, r5, _⟩
          have hx2 : Ext G1 G2 := ⟨by (simp only [hNw] at r5; omega), fun k hk => by rw [r3.get k hk (by simp; omega), gno _ _ _ (by omega)]; exact hx1.get k hk⟩
          refine OkO.assign rfl rfl ?_
          refine OkO.nil ?_
          refine Ok.region ?_
          refine OkO.move rfl rfl ?_
          refine OkO.bin rfl rfl rfl (bin_add (by omega) (by omega)) ?_
          refine OkO.assign rfl rfl ?_
          refine OkO.nil ?_
          refine ⟨p.errs.length - (i + 1), by omega, i + 1, ov2, rfl, by omega, ?_, hx2, Has.of (by kernel_rfl), rfl, g2x⟩
          rw [rowV_succ, if_neg heq, List.map_append, show p.errs.getD i 0 = p.errs[i] from by simp [List.getD, hlt]]
          exact r1
      · -- no h3
        have hge : i = p.errs.length := by (have h9 : ¬ i < p.errs.length := by simpa using h3); omega
        subst hge
        obtain ⟨cs9, hm9, hcl9, hsn⟩ := RowsX.snoc (hrx2.to hx1) (mov.low (by omega)) (fun b m m' hb hc => mov.far (hxs2.lt hc) m hb)
        refine Ok.exit ?_
        refine Ok.region ?_
        refine OkO.move rfl rfl ?_
        refine OkO.move rfl rfl ?_
        refine OkO.buildSlice (el := 22) (sz := 1) (z := [.nils]) (cs := [ov]) rfl (by kernel_rfl) (by decide) rfl (by show fillS (fun i => some (i * 1, 1)) [AV.nils] [(0, ov)] = some [ov]; simp [fillS, spl, mov.one.1]) ?_
        refine OkO.builtinE rfl rfl rfl (Mine.app2 (W := W) (k0 := W.next + 1) (t := 25) (u := 25) (sz := 1) (by_ := 24) (e := 22) (n := 1) (new := [ov]) (hm9.to (Grow.toNew _ _)) (hgi.new _) (by omega) (by simp; omega) (by kernel_rfl) (by kernel_rfl) (elems_new (n := 1) (sz := 1) rfl) rfl rfl (by rw [hcl9, htru.1]; omega) (by omega) (by omega) (by simp [atoms, mov.one.2])) ?_
        rintro ys2 G2 ⟨r1, g2x, r3, r4, r5, _⟩
        simp only [hNw] at r4 r5
        have keep : ∀ j, j < G.next → (∀ m, ys ≠ .opn j m) → G2.get j = G.get j := fun j hj hne => by rw [r4 j (by omega) hne]; exact gno _ _ _ (by omega)
        have hrx3 := hsn ys2 G2 r1 (by omega) keep
        have hxs3 : Mine (W.next + 1) G2 xs2 3 1 ((sp ++ [v2]).map I) := (hxs2.to hx1).offE hm9 (.inl (by decide)) (by omega) keep
        have e3 : (G2.get W.next).bind AObj.cs = some (p.c ev) := by rw [r3.get W.next (by omega) (by simp; omega), gno _ _ _ (by omega)]; exact e2
        refine OkO.assign rfl rfl ?_
        refine OkO.nil ?_
        refine Ok.region ?_
        refine OkO.move rfl rfl ?_
        refine OkO.bin rfl rfl rfl (bin_add (by omega) (by omega)) ?_
        refine OkO.assign rfl rfl ?_
        refine OkO.nil ?_
        refine ⟨N - (h + 1), by omega, h + 1, v2, sp ++ [v2], _, xs2, ys2, rfl, by omega, hxs3, hrx3, htru.snoc hv2 hst2 ⟨rowV_len _ _ _ _ _ _, rowV_bd hw hv2 hpe⟩ (rowV_agree hw hpe), by simp [hspl], hv2, fun x hx => (by simp at hx; exact hx.symm), Has.of (by kernel_rfl), rfl, g2x, e3, (by show W.next + 1 ≤ G2.next; omega)⟩
  · -- no h1
    have hge : h = N := by (have h9 : ¬ (h : Int) < (N : Int) := by simpa using h1); omega
    refine Ok.exit ?_
    refine Ok.seq ?_
    refine Ok.region ?_
    refine OkO.move rfl rfl ?_
    refine OkO.move rfl rfl ?_
    refine OkO.assign rfl rfl ?_
    refine OkO.assign rfl rfl ?_
    refine OkO.nil ?_
    refine Ok.ret ⟨.inr rfl, ?_⟩
    refine back_newQ rfl rfl (by rw [← hW]; exact hg) ?_ (fun H9 p1 p2 p3 => ⟨xs, ys, sp, rows, rfl, p1, (mxs.low (by omega)).to ⟨Nat.le_of_eq p3.symm, fun n _ => p2 n⟩, (rxs.rows.low (by omega)).to ⟨Nat.le_of_eq p3.symm, fun n _ => p2 n⟩, htru, by omega⟩)
    · rcases mxs with ⟨_, h9⟩ | ⟨b9, n9, rfl, _⟩
      · have : sp = [] := by simpa using h9
        rw [this] at hspl
        simp at hspl; omega
      · rfl
end
end Go.Ev

set_option maxRecDepth 100000
set_option linter.unusedSimpArgs false
set_option linter.unusedVariables false
namespace Go.Ev
open Go Go.Proofs
noncomputable section
theorem bin_neqU8 (a b : Int) : bin .neq .u8 a .u8 b = some (.bool (decide (a ≠ b))) := by
  show some (AV.bool (!(eqI a b))) = _
  rw [eqI_eq]
  by_cases h : a = b <;> simp [h]
theorem bin_remT {a b : Int} (hb : b ≠ 0) : bin .rem .i64 a .i64 b = some (.int .i64 (a.tmod b)) := by
  show (if eqI b 0 then none else some (AV.int .i64 (a.tmod b))) = _
  rw [eqI_eq, if_neg (by simpa using hb)]
theorem c55z (m : Nat) (ev wv : AV) (p : Pst) (N : Nat) (z f : Int) (ws : List Int) (H : Heap) (hz : z = (N : Int)) (hV : Ints H ev p.errs) (hWs : Row H wv 1 (ws.map U16c)) (hw : ∀ x ∈ ws, 0 ≤ x ∧ x ≤ 65535) (hpl : p.errs.length ≤ 15) (hN : 1 ≤ N ∧ N ≤ 60) (hok : p.ok = true) : ∃ v H', RR (m + 2) (.fn 55 [.agg (p.c ev), I z, I f, wv]) H = some (v, H') ∧ ∃ xs ys sp rows, v = .tup [xs, ys] ∧ Ret H H' ∧ Mine H.next H' xs 3 1 (sp.map I) ∧ RowsM H.next H' ys rows ∧ TruOk p f sp rows ∧ sp.length = N := by
  subst hz
  exact c55 m ev wv p N f ws H hV hWs hw hpl hN hok
theorem c10Y (m : Nat) (ev wv : AV) (p : Pst) (hv fv : Int) (ws : List Int) (f : Int) (j : Nat) (H : Heap) (hV : Ints H ev p.errs) (hWs : Row H wv 1 (ws.map U16c)) (hw : ∀ x ∈ ws, 0 ≤ x ∧ x ≤ 65535) (hhv : 0 ≤ hv ∧ hv ≤ 255) (hfv : -128 ≤ fv ∧ fv ≤ 127) (hpl : p.errs.length ≤ 15) (hok : p.ok = true) (hf : f = if fv.tmod (p.errs.length : Int) < 0 then -1 else fv.tmod (p.errs.length : Int)) (hj : f = (j : Int) - 1) (hjn : j < p.errs.length + 1) : RR (m + 8) (.fn 10 [.agg (p.c ev), .int .u8 hv, .int .i8 fv, wv]) H = some (.bool true, H) := by
  refine (R_fn _ _ _ _ _).trans ?_
  refine fn_ok Try.func10 rfl rfl (by kernel_rfl) (by kernel_rfl) ?_
  obtain ⟨W, hW⟩ : ∃ W : Heap, W = ⟨H.t, H.next, H.next⟩ := ⟨_, rfl⟩
  have hg : ∀ n, W.get n = H.get n := fun n => by rw [hW]; rfl
  have hN : W.next = H.next := by rw [hW]
  have hE : ∀ G, Grow W G → Ext H G := fun G g => ⟨by rw [← hN]; exact g.next, fun n k => by rw [g.get n (by rw [hN]; exact k), hg]⟩
  have hG : Grow W W := Grow.refl (by rw [hW]; exact Nat.le_refl _)
  rw [← hW]
  have pev : ev.plain = true := lpl hV.len
  have hel := hV.len
  have pwv : wv.plain = true := lpl hWs.len
  obtain ⟨⟨hp1, hp2⟩, hpe, hpg, hpd, hpf, hpo1, hpo2⟩ := Pst.ok_facts hok
  refine Ok.seq ?_
  refine Ok.region ?_
  refine OkO.box rfl rfl ?_
  refine OkO.assign rfl rfl ?_
  refine OkO.nil ?_
  refine Ok.seq ?_
  refine Ok.seq ?_
  refine Ok.region ?_
  refine OkO.fieldAddr (o := 0) rfl (by kernel_rfl) rfl ?_
  refine OkO.load rfl rfl (lda (n := 1) (by kernel_rfl) (by first | assumption | (simp (disch := first | omega | (simp only [hNw, hPt]; omega)) only [gn0, gn1, gn2, gn3, gn4, gn5, gp0, gno, gpo] <;> first | rfl | assumption | exact gp0 _ _ _ | exact gn0 _ _)) (by first | rfl | assumption)) ?_
  refine OkO.builtin rfl rfl rfl (bln (by kernel_rfl) (by first | assumption | rfl)) ?_
  refine OkO.bin rfl rfl rfl ((bin_gtr _ _).trans (congrArg (fun b => some (AV.bool b)) (show _ = false from (by simp; omega)))) ?_
  refine OkO.move rfl rfl ?_
  refine OkO.load rfl rfl (ldg (n := 6) (by kernel_rfl) (by first | assumption | (simp (disch := first | omega | (simp only [hNw, hPt]; omega)) only [gn0, gn1, gn2, gn3, gn4, gn5, gp0, gno, gpo] <;> first | rfl | assumption | exact gp0 _ _ _ | exact gn0 _ _)) (by first | rfl | assumption)) ?_
  refine OkO.callV rfl rfl rfl rfl rfl ((c24 (m + 5) ev p _ (hV.ext (hE _ (by (try dsimp only); repeat (first | exact hG | apply Grow.new | (refine Grow.put ?_ _ (by first | omega | (simp only [hNw, hPt]; omega))))))) (by omega)).trans (by rw [hok])) ?_ -- "sackung/sackungref04.Right"
  refine OkO.un rfl rfl rfl ?_
  refine OkO.pick (b := false) rfl rfl nofun (fun _ => rfl) ?_
  refine OkO.nil ?_
  refine Ok.condF rfl ?_
  refine Ok.skip ?_
  refine Ok.seq ?_
  refine Ok.region ?_
  refine OkO.move rfl rfl ?_
  refine OkO.convert (k := .i64) rfl (by kernel_rfl) rfl (wrapF_i64 (by omega) (by omega)) ?_
  refine OkO.fieldAddr (o := 0) rfl (by kernel_rfl) rfl ?_
  refine OkO.load rfl rfl (lda (n := 1) (by kernel_rfl) (by first | assumption | (simp (disch := first | omega | (simp only [hNw, hPt]; omega)) only [gn0, gn1, gn2, gn3, gn4, gn5, gp0, gno, gpo] <;> first | rfl | assumption | exact gp0 _ _ _ | exact gn0 _ _)) (by first | rfl | assumption)) ?_
  refine OkO.builtin rfl rfl rfl (bln (by kernel_rfl) (by first | assumption | rfl)) ?_
  refine OkO.bin rfl rfl rfl (bin_remT (by omega)) ?_
  refine OkO.assign rfl rfl ?_
  refine OkO.nil ?_
  refine Ok.join (fun s => Has 8 [(1, .int .u8 hv), (3, wv), (4, .ptr W.next 0), (9, I f)] s.T ∧ s.D = [] ∧ s.H = W.new (.cells (p.c ev) 24)) ?_ ?_
  · -- to the meeting
    refine Ok.seq ?_
    refine Ok.region ?_
    refine OkO.move rfl rfl ?_
    refine OkO.bin rfl rfl rfl (bin_lss _ _) ?_
    refine OkO.nil ?_
    refine Ok.cond rfl (fun h1 => ?_) (fun h1 => ?_)
    · -- yes h1
      refine Ok.region ?_
      refine OkO.assign rfl rfl ?_
      refine OkO.nil ?_
      refine ⟨rfl, ?_, rfl, rfl⟩
      have hfx : f = -1 := by rw [hf, if_pos (by simpa using h1)]
      rw [hfx]
      exact Has.of (by kernel_rfl)
    · -- no h1
      refine Ok.skip ?_
      refine ⟨rfl, ?_, rfl, rfl⟩
      have hfx : f = fv.tmod (p.errs.length : Int) := by rw [hf, if_neg (by simpa using h1)]
      rw [hfx]
      exact Has.of (by kernel_rfl)
  · -- behind it
    rintro ⟨T, D, G⟩ ⟨⟨f_, hT⟩, hD, hGG⟩
    dsimp only at *
    subst hT hD
    subst hGG
    refine Ok.seq ?_
    refine Ok.region ?_
    refine OkO.load rfl rfl (ldg (n := 6) (by kernel_rfl) (by first | assumption | (simp (disch := first | omega | (simp only [hNw, hPt]; omega)) only [gn0, gn1, gn2, gn3, gn4, gn5, gp0, gno, gpo] <;> first | rfl | assumption | exact gp0 _ _ _ | exact gn0 _ _)) (by first | rfl | assumption)) ?_
    refine OkO.move rfl rfl ?_
    refine OkO.convert (k := .i64) rfl (by kernel_rfl) rfl (wrapF_i64 (by omega) (by omega)) ?_
    refine OkO.bin rfl rfl rfl (bin_rem (by omega) (by omega)) ?_
    refine OkO.bin rfl rfl rfl (bin_add (by omega) (by omega)) ?_
    refine OkO.move rfl rfl ?_
    refine OkO.move rfl rfl ?_
    refine OkO.callE rfl rfl rfl rfl rfl (c55z (m + 5) ev wv p (1 + (hv % 30).toNat) (1 + hv % 30) f ws _ (by omega) (hV.ext (hE _ (by (try dsimp only); repeat (first | exact hG | apply Grow.new | (refine Grow.put ?_ _ (by first | omega | (simp only [hNw, hPt]; omega))))))) (hWs.ext (hE _ (by (try dsimp only); repeat (first | exact hG | apply Grow.new | (refine Grow.put ?_ _ (by first | omega | (simp only [hNw, hPt]; omega))))))) hw (by omega) (by omega) hok) ?_ -- "sackung/sackunglaw04.truth"
    rintro _ Ht ⟨xs, ys, sp, rows, rfl, qt, mxs, rys, htru, hspl⟩
    have n1 := qt.ext.next
    try simp only [hNw, hPt] at n1
    have gg1 : Grow W Ht := Grow.ret (by (try dsimp only); repeat (first | exact hG | apply Grow.new | (refine Grow.put ?_ _ (by first | omega | (simp only [hNw, hPt]; omega))))) qt
    have a1 : (Ht.get (W.next)).bind AObj.cs = some (p.c ev) := by rw [qt.ext.get _ (by first | omega | (simp only [hNw, hPt]; omega))]; first | assumption | (rw [gn0]; rfl) | (rw [get_put_eq] <;> rfl) | (simp (disch := first | omega | (simp only [hNw, hPt]; omega)) only [gn0, gn1, gn2, gn3, gn4, gn5, gp0, gno, gpo] <;> first | rfl | assumption | (rw [get_put_eq] <;> rfl))
    have is := mxs.ints
    have iy := rys.at
    have isl := is.len
    have iyl := iy.len
    have pls : xs.plain = true := lpl isl
    have ply : ys.plain = true := lpl iyl
    have hrl : rows.length = sp.length := htru.1
    have hf0 := htru.fault hok (by omega)
    have hpossT := htru.poss hpg.1 hpd.1 hj hjn
    obtain ⟨_, hr60, hlens, hrbd⟩ := faultE_facts hf0
    have ht4 : ∀ r ∈ rows, r.length ≤ 100000 := fun r hr => by (have h9 := hlens r hr); omega
    have htruP := htru.tru (f := f) (by omega)
    refine OkO.move rfl rfl ?_
    refine OkO.extract rfl rfl rfl ?_
    refine OkO.extract rfl rfl rfl ?_
    refine OkO.assign rfl rfl ?_
    refine OkO.assign rfl rfl ?_
    refine OkO.nil ?_
    refine Ok.seq ?_
    refine Ok.region ?_
    refine OkO.load rfl rfl (ldg (n := 6) (by kernel_rfl) (by first | assumption | (simp (disch := first | omega | (simp only [hNw, hPt]; omega)) only [gn0, gn1, gn2, gn3, gn4, gn5, gp0, gno, gpo] <;> first | rfl | assumption | exact gp0 _ _ _ | exact gn0 _ _)) (by first | rfl | assumption)) ?_
    refine OkO.callE rfl rfl rfl rfl rfl (c20 (m + 5) ev p _ (hV.ext (hE _ (by (try dsimp only); repeat (first | exact gg1 | apply Grow.new | (refine Grow.put ?_ _ (by first | omega | (simp only [hNw, hPt]; omega))))))) (by omega)) ?_ -- "sackung/sackunglaw04.Post"
    rintro _ Ha ⟨xa, rfl, qa, ma⟩
    have n2 := qa.ext.next
    try simp only [hNw, hPt] at n2
    have gg2 : Grow W Ha := Grow.ret (by (try dsimp only); repeat (first | exact gg1 | apply Grow.new | (refine Grow.put ?_ _ (by first | omega | (simp only [hNw, hPt]; omega))))) qa
    have a2 : (Ha.get (W.next)).bind AObj.cs = some (p.c ev) := by rw [qa.ext.get _ (by first | omega | (simp only [hNw, hPt]; omega))]; first | assumption | (rw [gn0]; rfl) | (rw [get_put_eq] <;> rfl) | (simp (disch := first | omega | (simp only [hNw, hPt]; omega)) only [gn0, gn1, gn2, gn3, gn4, gn5, gp0, gno, gpo] <;> first | rfl | assumption | (rw [get_put_eq] <;> rfl))
    have exHt2 : Ext Ht Ha := Ext.trans (by (try dsimp only); repeat (first | exact Ext.refl _ | exact Ext.refl _ | apply Ext.new | (refine Ext.put ?_ _ (by first | omega | (simp only [hNw, hPt]; omega))))) qa.ext
    have ia := ma.ints
    have pla : xa.plain = true := lpl ia.len
    have oa := ma.one
    refine OkO.move rfl rfl ?_
    refine OkO.callE rfl rfl rfl rfl rfl (c22 (m + 5) ys rows _ (iy.ext (by (try dsimp only); repeat (first | exact exHt2 | exact Ext.refl _ | apply Ext.new | (refine Ext.put ?_ _ (by first | omega | (simp only [hNw, hPt]; omega)))))) (by omega) ht4) ?_ -- "sackung/sackunglaw04.rows"
    rintro xb Hb ⟨qb, mb⟩
    have n3 := qb.ext.next
    try simp only [hNw, hPt] at n3
    have gg3 : Grow W Hb := Grow.ret (by (try dsimp only); repeat (first | exact gg2 | apply Grow.new | (refine Grow.put ?_ _ (by first | omega | (simp only [hNw, hPt]; omega))))) qb
    have a3 : (Hb.get (W.next)).bind AObj.cs = some (p.c ev) := by rw [qb.ext.get _ (by first | omega | (simp only [hNw, hPt]; omega))]; first | assumption | (rw [gn0]; rfl) | (rw [get_put_eq] <;> rfl) | (simp (disch := first | omega | (simp only [hNw, hPt]; omega)) only [gn0, gn1, gn2, gn3, gn4, gn5, gp0, gno, gpo] <;> first | rfl | assumption | (rw [get_put_eq] <;> rfl))
    have exHt3 : Ext Ht Hb := Ext.trans (by (try dsimp only); repeat (first | exact exHt2 | exact Ext.refl _ | apply Ext.new | (refine Ext.put ?_ _ (by first | omega | (simp only [hNw, hPt]; omega))))) qb.ext
    have exHa3 : Ext Ha Hb := Ext.trans (by (try dsimp only); repeat (first | exact Ext.refl _ | exact Ext.refl _ | apply Ext.new | (refine Ext.put ?_ _ (by first | omega | (simp only [hNw, hPt]; omega))))) qb.ext
    have ib := mb.at
    have plb : xb.plain = true := lpl ib.len
    refine OkO.callE rfl rfl rfl rfl rfl (c21Y (m + 0) xa xb p rows _ (ia.ext (by (try dsimp only); repeat (first | exact exHa3 | exact Ext.refl _ | apply Ext.new | (refine Ext.put ?_ _ (by first | omega | (simp only [hNw, hPt]; omega)))))) (ib.ext (by (try dsimp only); repeat (first | exact Ext.refl _ | exact Ext.refl _ | apply Ext.new | (refine Ext.put ?_ _ (by first | omega | (simp only [hNw, hPt]; omega)))))) (by omega) (by omega) ht4 hf0 hpossT) ?_ -- "sackung/alarm.Levels"
    rintro _ Hl ⟨xl, rfl, ql, ml⟩
    have n4 := ql.ext.next
    try simp only [hNw, hPt] at n4
    have gg4 : Grow W Hl := Grow.ret (by (try dsimp only); repeat (first | exact gg3 | apply Grow.new | (refine Grow.put ?_ _ (by first | omega | (simp only [hNw, hPt]; omega))))) ql
    have a4 : (Hl.get (W.next)).bind AObj.cs = some (p.c ev) := by rw [ql.ext.get _ (by first | omega | (simp only [hNw, hPt]; omega))]; first | assumption | (rw [gn0]; rfl) | (rw [get_put_eq] <;> rfl) | (simp (disch := first | omega | (simp only [hNw, hPt]; omega)) only [gn0, gn1, gn2, gn3, gn4, gn5, gp0, gno, gpo] <;> first | rfl | assumption | (rw [get_put_eq] <;> rfl))
    have exHt4 : Ext Ht Hl := Ext.trans (by (try dsimp only); repeat (first | exact exHt3 | exact Ext.refl _ | apply Ext.new | (refine Ext.put ?_ _ (by first | omega | (simp only [hNw, hPt]; omega))))) ql.ext
    have exHa4 : Ext Ha Hl := Ext.trans (by (try dsimp only); repeat (first | exact exHa3 | exact Ext.refl _ | apply Ext.new | (refine Ext.put ?_ _ (by first | omega | (simp only [hNw, hPt]; omega))))) ql.ext
    have exHb4 : Ext Hb Hl := Ext.trans (by (try dsimp only); repeat (first | exact Ext.refl _ | exact Ext.refl _ | apply Ext.new | (refine Ext.put ?_ _ (by first | omega | (simp only [hNw, hPt]; omega))))) ql.ext
    have hlr := ml.states
    have hll : lenOf xl = some rows.length := by simpa using hlr.len
    refine OkO.move rfl rfl ?_
    refine OkO.extract rfl rfl rfl ?_
    refine OkO.extract rfl rfl rfl ?_
    refine OkO.assign rfl rfl ?_
    refine OkO.assign rfl rfl ?_
    refine OkO.nil ?_
    refine Ok.seq ?_
    refine Ok.region ?_
    refine OkO.load rfl rfl (ldg (n := 6) (by kernel_rfl) (by first | assumption | (simp (disch := first | omega | (simp only [hNw, hPt]; omega)) only [gn0, gn1, gn2, gn3, gn4, gn5, gp0, gno, gpo] <;> first | rfl | assumption | exact gp0 _ _ _ | exact gn0 _ _)) (by first | rfl | assumption)) ?_
    refine OkO.callE rfl rfl rfl rfl rfl (c20 (m + 5) ev p _ (hV.ext (hE _ (by (try dsimp only); repeat (first | exact gg4 | apply Grow.new | (refine Grow.put ?_ _ (by first | omega | (simp only [hNw, hPt]; omega))))))) (by omega)) ?_ -- "sackung/sackunglaw04.Post"
    rintro _ Hc ⟨xc, rfl, qc, mc⟩
    have n5 := qc.ext.next
    try simp only [hNw, hPt] at n5
    have gg5 : Grow W Hc := Grow.ret (by (try dsimp only); repeat (first | exact gg4 | apply Grow.new | (refine Grow.put ?_ _ (by first | omega | (simp only [hNw, hPt]; omega))))) qc
    have a5 : (Hc.get (W.next)).bind AObj.cs = some (p.c ev) := by rw [qc.ext.get _ (by first | omega | (simp only [hNw, hPt]; omega))]; first | assumption | (rw [gn0]; rfl) | (rw [get_put_eq] <;> rfl) | (simp (disch := first | omega | (simp only [hNw, hPt]; omega)) only [gn0, gn1, gn2, gn3, gn4, gn5, gp0, gno, gpo] <;> first | rfl | assumption | (rw [get_put_eq] <;> rfl))
    have exHt5 : Ext Ht Hc := Ext.trans (by (try dsimp only); repeat (first | exact exHt4 | exact Ext.refl _ | apply Ext.new | (refine Ext.put ?_ _ (by first | omega | (simp only [hNw, hPt]; omega))))) qc.ext
    have exHa5 : Ext Ha Hc := Ext.trans (by (try dsimp only); repeat (first | exact exHa4 | exact Ext.refl _ | apply Ext.new | (refine Ext.put ?_ _ (by first | omega | (simp only [hNw, hPt]; omega))))) qc.ext
    have exHb5 : Ext Hb Hc := Ext.trans (by (try dsimp only); repeat (first | exact exHb4 | exact Ext.refl _ | apply Ext.new | (refine Ext.put ?_ _ (by first | omega | (simp only [hNw, hPt]; omega))))) qc.ext
    have exHl5 : Ext Hl Hc := Ext.trans (by (try dsimp only); repeat (first | exact Ext.refl _ | exact Ext.refl _ | apply Ext.new | (refine Ext.put ?_ _ (by first | omega | (simp only [hNw, hPt]; omega))))) qc.ext
    have ic := mc.ints
    have plc : xc.plain = true := lpl ic.len
    have oc := mc.one
    refine OkO.move rfl rfl ?_
    refine OkO.callE rfl rfl rfl rfl rfl (c22 (m + 5) ys rows _ (iy.ext (by (try dsimp only); repeat (first | exact exHt5 | exact Ext.refl _ | apply Ext.new | (refine Ext.put ?_ _ (by first | omega | (simp only [hNw, hPt]; omega)))))) (by omega) ht4) ?_ -- "sackung/sackunglaw04.rows"
    rintro xd Hd ⟨qd, md⟩
    have n6 := qd.ext.next
    try simp only [hNw, hPt] at n6
    have gg6 : Grow W Hd := Grow.ret (by (try dsimp only); repeat (first | exact gg5 | apply Grow.new | (refine Grow.put ?_ _ (by first | omega | (simp only [hNw, hPt]; omega))))) qd
    have a6 : (Hd.get (W.next)).bind AObj.cs = some (p.c ev) := by rw [qd.ext.get _ (by first | omega | (simp only [hNw, hPt]; omega))]; first | assumption | (rw [gn0]; rfl) | (rw [get_put_eq] <;> rfl) | (simp (disch := first | omega | (simp only [hNw, hPt]; omega)) only [gn0, gn1, gn2, gn3, gn4, gn5, gp0, gno, gpo] <;> first | rfl | assumption | (rw [get_put_eq] <;> rfl))
    have exHt6 : Ext Ht Hd := Ext.trans (by (try dsimp only); repeat (first | exact exHt5 | exact Ext.refl _ | apply Ext.new | (refine Ext.put ?_ _ (by first | omega | (simp only [hNw, hPt]; omega))))) qd.ext
    have exHa6 : Ext Ha Hd := Ext.trans (by (try dsimp only); repeat (first | exact exHa5 | exact Ext.refl _ | apply Ext.new | (refine Ext.put ?_ _ (by first | omega | (simp only [hNw, hPt]; omega))))) qd.ext
    have exHb6 : Ext Hb Hd := Ext.trans (by (try dsimp only); repeat (first | exact exHb5 | exact Ext.refl _ | apply Ext.new | (refine Ext.put ?_ _ (by first | omega | (simp only [hNw, hPt]; omega))))) qd.ext
    have exHl6 : Ext Hl Hd := Ext.trans (by (try dsimp only); repeat (first | exact exHl5 | exact Ext.refl _ | apply Ext.new | (refine Ext.put ?_ _ (by first | omega | (simp only [hNw, hPt]; omega))))) qd.ext
    have exHc6 : Ext Hc Hd := Ext.trans (by (try dsimp only); repeat (first | exact Ext.refl _ | exact Ext.refl _ | apply Ext.new | (refine Ext.put ?_ _ (by first | omega | (simp only [hNw, hPt]; omega))))) qd.ext
    have id := md.at
    have pld : xd.plain = true := lpl id.len
    refine OkO.callE rfl rfl rfl rfl rfl (c28Y (m + 0) xc xd p rows _ (ic.ext (by (try dsimp only); repeat (first | exact exHc6 | exact Ext.refl _ | apply Ext.new | (refine Ext.put ?_ _ (by first | omega | (simp only [hNw, hPt]; omega)))))) (id.ext (by (try dsimp only); repeat (first | exact Ext.refl _ | exact Ext.refl _ | apply Ext.new | (refine Ext.put ?_ _ (by first | omega | (simp only [hNw, hPt]; omega)))))) (by omega) (by omega) ht4 hf0 hpossT) ?_ -- "sackung/alarm.Failed"
    rintro _ Hm ⟨xm, rfl, qm, mm⟩
    have n7 := qm.ext.next
    try simp only [hNw, hPt] at n7
    have gg7 : Grow W Hm := Grow.ret (by (try dsimp only); repeat (first | exact gg6 | apply Grow.new | (refine Grow.put ?_ _ (by first | omega | (simp only [hNw, hPt]; omega))))) qm
    have a7 : (Hm.get (W.next)).bind AObj.cs = some (p.c ev) := by rw [qm.ext.get _ (by first | omega | (simp only [hNw, hPt]; omega))]; first | assumption | (rw [gn0]; rfl) | (rw [get_put_eq] <;> rfl) | (simp (disch := first | omega | (simp only [hNw, hPt]; omega)) only [gn0, gn1, gn2, gn3, gn4, gn5, gp0, gno, gpo] <;> first | rfl | assumption | (rw [get_put_eq] <;> rfl))
    have exHt7 : Ext Ht Hm := Ext.trans (by (try dsimp only); repeat (first | exact exHt6 | exact Ext.refl _ | apply Ext.new | (refine Ext.put ?_ _ (by first | omega | (simp only [hNw, hPt]; omega))))) qm.ext
    have exHa7 : Ext Ha Hm := Ext.trans (by (try dsimp only); repeat (first | exact exHa6 | exact Ext.refl _ | apply Ext.new | (refine Ext.put ?_ _ (by first | omega | (simp only [hNw, hPt]; omega))))) qm.ext
    have exHb7 : Ext Hb Hm := Ext.trans (by (try dsimp only); repeat (first | exact exHb6 | exact Ext.refl _ | apply Ext.new | (refine Ext.put ?_ _ (by first | omega | (simp only [hNw, hPt]; omega))))) qm.ext
    have exHl7 : Ext Hl Hm := Ext.trans (by (try dsimp only); repeat (first | exact exHl6 | exact Ext.refl _ | apply Ext.new | (refine Ext.put ?_ _ (by first | omega | (simp only [hNw, hPt]; omega))))) qm.ext
    have exHc7 : Ext Hc Hm := Ext.trans (by (try dsimp only); repeat (first | exact exHc6 | exact Ext.refl _ | apply Ext.new | (refine Ext.put ?_ _ (by first | omega | (simp only [hNw, hPt]; omega))))) qm.ext
    have exHd7 : Ext Hd Hm := Ext.trans (by (try dsimp only); repeat (first | exact Ext.refl _ | exact Ext.refl _ | apply Ext.new | (refine Ext.put ?_ _ (by first | omega | (simp only [hNw, hPt]; omega))))) qm.ext
    have hmi := mm.ints
    have hml := hmi.len
    have hmL := fldL_len p rows rows.length (p.errs.length + 1)
    refine OkO.move rfl rfl ?_
    refine OkO.extract rfl rfl rfl ?_
    refine OkO.extract rfl rfl rfl ?_
    refine OkO.assign rfl rfl ?_
    refine OkO.assign rfl rfl ?_
    refine OkO.nil ?_
    refine Ok.seq ?_
    refine Ok.seq ?_
    refine Ok.region ?_
    refine OkO.move rfl rfl ?_
    refine OkO.bin rfl rfl rfl ((bin_neq _ _).trans (congrArg (fun b => some (AV.bool b)) (show _ = false from (by rfl)))) ?_
    refine OkO.move rfl rfl ?_
    refine OkO.move rfl rfl ?_
    refine OkO.bin rfl rfl rfl ((bin_neq _ _).trans (congrArg (fun b => some (AV.bool b)) (show _ = false from (by rfl)))) ?_
    refine OkO.pick (b := false) rfl rfl nofun (fun _ => rfl) ?_
    refine OkO.move rfl rfl ?_
    refine OkO.move rfl rfl ?_
    refine OkO.builtin rfl rfl rfl (bln (by kernel_rfl) (by first | assumption | rfl)) ?_
    refine OkO.move rfl rfl ?_
    refine OkO.builtin rfl rfl rfl (bln (by kernel_rfl) (by first | assumption | rfl)) ?_
    refine OkO.bin rfl rfl rfl ((bin_neq _ _).trans (congrArg (fun b => some (AV.bool b)) (show _ = false from (by simp; omega)))) ?_
    refine OkO.pick (b := false) rfl rfl nofun (fun _ => rfl) ?_
    refine OkO.move rfl rfl ?_
    refine OkO.load rfl rfl (ldg (n := 6) (by kernel_rfl) (by first | assumption | (simp (disch := first | omega | (simp only [hNw, hPt]; omega)) only [gn0, gn1, gn2, gn3, gn4, gn5, gp0, gno, gpo] <;> first | rfl | assumption | exact gp0 _ _ _ | exact gn0 _ _)) (by first | rfl | assumption)) ?_
    refine OkO.callE rfl rfl rfl rfl rfl (c20 (m + 5) ev p _ (hV.ext (hE _ (by (try dsimp only); repeat (first | exact gg7 | apply Grow.new | (refine Grow.put ?_ _ (by first | omega | (simp only [hNw, hPt]; omega))))))) (by omega)) ?_ -- "sackung/sackunglaw04.Post"
    rintro _ He ⟨xe, rfl, qe, me⟩
    have n8 := qe.ext.next
    try simp only [hNw, hPt] at n8
    have gg8 : Grow W He := Grow.ret (by (try dsimp only); repeat (first | exact gg7 | apply Grow.new | (refine Grow.put ?_ _ (by first | omega | (simp only [hNw, hPt]; omega))))) qe
    have a8 : (He.get (W.next)).bind AObj.cs = some (p.c ev) := by rw [qe.ext.get _ (by first | omega | (simp only [hNw, hPt]; omega))]; first | assumption | (rw [gn0]; rfl) | (rw [get_put_eq] <;> rfl) | (simp (disch := first | omega | (simp only [hNw, hPt]; omega)) only [gn0, gn1, gn2, gn3, gn4, gn5, gp0, gno, gpo] <;> first | rfl | assumption | (rw [get_put_eq] <;> rfl))
    have exHt8 : Ext Ht He := Ext.trans (by (try dsimp only); repeat (first | exact exHt7 | exact Ext.refl _ | apply Ext.new | (refine Ext.put ?_ _ (by first | omega | (simp only [hNw, hPt]; omega))))) qe.ext
    have exHa8 : Ext Ha He := Ext.trans (by (try dsimp only); repeat (first | exact exHa7 | exact Ext.refl _ | apply Ext.new | (refine Ext.put ?_ _ (by first | omega | (simp only [hNw, hPt]; omega))))) qe.ext
    have exHb8 : Ext Hb He := Ext.trans (by (try dsimp only); repeat (first | exact exHb7 | exact Ext.refl _ | apply Ext.new | (refine Ext.put ?_ _ (by first | omega | (simp only [hNw, hPt]; omega))))) qe.ext
    have exHl8 : Ext Hl He := Ext.trans (by (try dsimp only); repeat (first | exact exHl7 | exact Ext.refl _ | apply Ext.new | (refine Ext.put ?_ _ (by first | omega | (simp only [hNw, hPt]; omega))))) qe.ext
    have exHc8 : Ext Hc He := Ext.trans (by (try dsimp only); repeat (first | exact exHc7 | exact Ext.refl _ | apply Ext.new | (refine Ext.put ?_ _ (by first | omega | (simp only [hNw, hPt]; omega))))) qe.ext
    have exHd8 : Ext Hd He := Ext.trans (by (try dsimp only); repeat (first | exact exHd7 | exact Ext.refl _ | apply Ext.new | (refine Ext.put ?_ _ (by first | omega | (simp only [hNw, hPt]; omega))))) qe.ext
    have exHm8 : Ext Hm He := Ext.trans (by (try dsimp only); repeat (first | exact Ext.refl _ | exact Ext.refl _ | apply Ext.new | (refine Ext.put ?_ _ (by first | omega | (simp only [hNw, hPt]; omega))))) qe.ext
    have ie := me.ints
    have ple : xe.plain = true := lpl ie.len
    have oe := me.one
    refine OkO.move rfl rfl ?_
    refine OkO.callE rfl rfl rfl rfl rfl (c22 (m + 5) ys rows _ (iy.ext (by (try dsimp only); repeat (first | exact exHt8 | exact Ext.refl _ | apply Ext.new | (refine Ext.put ?_ _ (by first | omega | (simp only [hNw, hPt]; omega)))))) (by omega) ht4) ?_ -- "sackung/sackunglaw04.rows"
    rintro xg Hg ⟨qg, mg⟩
    have n9 := qg.ext.next
    try simp only [hNw, hPt] at n9
    have gg9 : Grow W Hg := Grow.ret (by (try dsimp only); repeat (first | exact gg8 | apply Grow.new | (refine Grow.put ?_ _ (by first | omega | (simp only [hNw, hPt]; omega))))) qg
    have a9 : (Hg.get (W.next)).bind AObj.cs = some (p.c ev) := by rw [qg.ext.get _ (by first | omega | (simp only [hNw, hPt]; omega))]; first | assumption | (rw [gn0]; rfl) | (rw [get_put_eq] <;> rfl) | (simp (disch := first | omega | (simp only [hNw, hPt]; omega)) only [gn0, gn1, gn2, gn3, gn4, gn5, gp0, gno, gpo] <;> first | rfl | assumption | (rw [get_put_eq] <;> rfl))
    have exHt9 : Ext Ht Hg := Ext.trans (by (try dsimp only); repeat (first | exact exHt8 | exact Ext.refl _ | apply Ext.new | (refine Ext.put ?_ _ (by first | omega | (simp only [hNw, hPt]; omega))))) qg.ext
    have exHa9 : Ext Ha Hg := Ext.trans (by (try dsimp only); repeat (first | exact exHa8 | exact Ext.refl _ | apply Ext.new | (refine Ext.put ?_ _ (by first | omega | (simp only [hNw, hPt]; omega))))) qg.ext
    have exHb9 : Ext Hb Hg := Ext.trans (by (try dsimp only); repeat (first | exact exHb8 | exact Ext.refl _ | apply Ext.new | (refine Ext.put ?_ _ (by first | omega | (simp only [hNw, hPt]; omega))))) qg.ext
    have exHl9 : Ext Hl Hg := Ext.trans (by (try dsimp only); repeat (first | exact exHl8 | exact Ext.refl _ | apply Ext.new | (refine Ext.put ?_ _ (by first | omega | (simp only [hNw, hPt]; omega))))) qg.ext
    have exHc9 : Ext Hc Hg := Ext.trans (by (try dsimp only); repeat (first | exact exHc8 | exact Ext.refl _ | apply Ext.new | (refine Ext.put ?_ _ (by first | omega | (simp only [hNw, hPt]; omega))))) qg.ext
    have exHd9 : Ext Hd Hg := Ext.trans (by (try dsimp only); repeat (first | exact exHd8 | exact Ext.refl _ | apply Ext.new | (refine Ext.put ?_ _ (by first | omega | (simp only [hNw, hPt]; omega))))) qg.ext
    have exHm9 : Ext Hm Hg := Ext.trans (by (try dsimp only); repeat (first | exact exHm8 | exact Ext.refl _ | apply Ext.new | (refine Ext.put ?_ _ (by first | omega | (simp only [hNw, hPt]; omega))))) qg.ext
    have exHe9 : Ext He Hg := Ext.trans (by (try dsimp only); repeat (first | exact Ext.refl _ | exact Ext.refl _ | apply Ext.new | (refine Ext.put ?_ _ (by first | omega | (simp only [hNw, hPt]; omega))))) qg.ext
    have ig := mg.at
    have plg : xg.plain = true := lpl ig.len
    refine OkO.move rfl rfl ?_
    refine OkO.move rfl rfl ?_
    refine OkO.callE rfl rfl rfl rfl rfl (c30 (m + 6) xs sp _ (is.ext (by (try dsimp only); repeat (first | exact exHt9 | exact Ext.refl _ | apply Ext.new | (refine Ext.put ?_ _ (by first | omega | (simp only [hNw, hPt]; omega)))))) (by omega)) ?_ -- "sackung/sackunglaw04.list"
    rintro xz Hs ⟨qs, ms⟩
    have n10 := qs.ext.next
    try simp only [hNw, hPt] at n10
    have gg10 : Grow W Hs := Grow.ret (by (try dsimp only); repeat (first | exact gg9 | apply Grow.new | (refine Grow.put ?_ _ (by first | omega | (simp only [hNw, hPt]; omega))))) qs
    have a10 : (Hs.get (W.next)).bind AObj.cs = some (p.c ev) := by rw [qs.ext.get _ (by first | omega | (simp only [hNw, hPt]; omega))]; first | assumption | (rw [gn0]; rfl) | (rw [get_put_eq] <;> rfl) | (simp (disch := first | omega | (simp only [hNw, hPt]; omega)) only [gn0, gn1, gn2, gn3, gn4, gn5, gp0, gno, gpo] <;> first | rfl | assumption | (rw [get_put_eq] <;> rfl))
    have exHt10 : Ext Ht Hs := Ext.trans (by (try dsimp only); repeat (first | exact exHt9 | exact Ext.refl _ | apply Ext.new | (refine Ext.put ?_ _ (by first | omega | (simp only [hNw, hPt]; omega))))) qs.ext
    have exHa10 : Ext Ha Hs := Ext.trans (by (try dsimp only); repeat (first | exact exHa9 | exact Ext.refl _ | apply Ext.new | (refine Ext.put ?_ _ (by first | omega | (simp only [hNw, hPt]; omega))))) qs.ext
    have exHb10 : Ext Hb Hs := Ext.trans (by (try dsimp only); repeat (first | exact exHb9 | exact Ext.refl _ | apply Ext.new | (refine Ext.put ?_ _ (by first | omega | (simp only [hNw, hPt]; omega))))) qs.ext
    have exHl10 : Ext Hl Hs := Ext.trans (by (try dsimp only); repeat (first | exact exHl9 | exact Ext.refl _ | apply Ext.new | (refine Ext.put ?_ _ (by first | omega | (simp only [hNw, hPt]; omega))))) qs.ext
    have exHc10 : Ext Hc Hs := Ext.trans (by (try dsimp only); repeat (first | exact exHc9 | exact Ext.refl _ | apply Ext.new | (refine Ext.put ?_ _ (by first | omega | (simp only [hNw, hPt]; omega))))) qs.ext
    have exHd10 : Ext Hd Hs := Ext.trans (by (try dsimp only); repeat (first | exact exHd9 | exact Ext.refl _ | apply Ext.new | (refine Ext.put ?_ _ (by first | omega | (simp only [hNw, hPt]; omega))))) qs.ext
    have exHm10 : Ext Hm Hs := Ext.trans (by (try dsimp only); repeat (first | exact exHm9 | exact Ext.refl _ | apply Ext.new | (refine Ext.put ?_ _ (by first | omega | (simp only [hNw, hPt]; omega))))) qs.ext
    have exHe10 : Ext He Hs := Ext.trans (by (try dsimp only); repeat (first | exact exHe9 | exact Ext.refl _ | apply Ext.new | (refine Ext.put ?_ _ (by first | omega | (simp only [hNw, hPt]; omega))))) qs.ext
    have exHg10 : Ext Hg Hs := Ext.trans (by (try dsimp only); repeat (first | exact Ext.refl _ | exact Ext.refl _ | apply Ext.new | (refine Ext.put ?_ _ (by first | omega | (simp only [hNw, hPt]; omega))))) qs.ext
    have isz := ms.ints
    have plz : xz.plain = true := lpl isz.len
    refine OkO.callV rfl rfl rfl rfl rfl ((c29Y (m + 1) xe xg xz p rows f sp _ (ie.ext (by (try dsimp only); repeat (first | exact exHe10 | exact Ext.refl _ | apply Ext.new | (refine Ext.put ?_ _ (by first | omega | (simp only [hNw, hPt]; omega)))))) (ig.ext (by (try dsimp only); repeat (first | exact exHg10 | exact Ext.refl _ | apply Ext.new | (refine Ext.put ?_ _ (by first | omega | (simp only [hNw, hPt]; omega)))))) (by omega) (by omega) ht4 (isz.ext (by (try dsimp only); repeat (first | exact Ext.refl _ | exact Ext.refl _ | apply Ext.new | (refine Ext.put ?_ _ (by first | omega | (simp only [hNw, hPt]; omega)))))) (by omega) hf0).trans (by rw [bP_true htruP])) ?_ -- "sackung/alarm.ProveTruth"
    refine OkO.un rfl rfl rfl ?_
    refine OkO.pick (b := false) rfl rfl nofun (fun _ => rfl) ?_
    refine OkO.nil ?_
    refine Ok.condF rfl ?_
    refine Ok.skip ?_
    refine Ok.seq ?_
    refine Ok.region ?_
    refine OkO.assign rfl rfl ?_
    refine OkO.nil ?_
    refine Ok.seq ?_
    refine Ok.seq ?_
    refine Ok.region ?_
    refine OkO.assign rfl rfl ?_
    refine OkO.nil ?_
    refine Ok.block ?_
    refine Ok.loop (fun n s => ∃ (i : Nat) (b : Bool), n = (fldL p rows rows.length (p.errs.length + 1)).length - i ∧ i ≤ (fldL p rows rows.length (p.errs.length + 1)).length ∧ (b = true ↔ f ∈ (fldL p rows rows.length (p.errs.length + 1)).take i) ∧ Has 8 [(4, .ptr W.next 0), (9, I f), (10, xs), (12, xl), (14, xm), (16, .bool b), (17, I (i : Int))] s.T ∧ s.D = [] ∧ Hs = s.H) ((fldL p rows rows.length (p.errs.length + 1)).length) (by unfold loopFuel; omega)
      ⟨0, false, rfl, Nat.zero_le _, by simp, Has.of (by kernel_rfl), rfl, rfl⟩ ?_
    rintro n ⟨T, D, G⟩ ⟨i, b, hn, hi, hb, ⟨f2_, hT⟩, hD, hg9⟩
    dsimp only at *
    subst hT hD
    skip
    subst hg9
    refine Ok.seq ?_
    refine Ok.seq ?_
    refine Ok.region ?_
    refine OkO.move rfl rfl ?_
    refine OkO.move rfl rfl ?_
    refine OkO.builtin rfl rfl rfl (bln (by kernel_rfl) (by first | assumption | rfl)) ?_
    refine OkO.bin rfl rfl rfl (bin_lss _ _) ?_
    refine OkO.nil ?_
    refine Ok.cond rfl (fun h2 => ?_) (fun h2 => ?_)
    · -- yes h2
      have hlt : i < (fldL p rows rows.length (p.errs.length + 1)).length := by simpa using h2
      obtain ⟨mb, mo, mcs, m1, m2, m3, m4⟩ := (hmi.ext (by (try dsimp only); repeat (first | exact exHm10 | exact Ext.refl _ | apply Ext.new | (refine Ext.put ?_ _ (by first | omega | (simp only [hNw, hPt]; omega)))))).at' i hlt
      refine Ok.skip ?_
      refine Ok.seq ?_
      refine Ok.block ?_
      refine Ok.region ?_
      refine OkO.move rfl rfl ?_
      refine OkO.move rfl rfl ?_
      refine OkO.split (d := 96) rfl (fun g3 => ?_) (fun g3 => ?_)
      · -- true g3
        have g1 : b = true := g3
        refine OkO.skip rfl ?_
        refine OkO.skip rfl ?_
        refine OkO.skip rfl ?_
        refine OkO.skip rfl ?_
        refine OkO.skip rfl ?_
        refine OkO.skip rfl ?_
        refine OkO.pick (b := true) rfl rfl (fun _ => rfl) nofun ?_
        refine OkO.assign rfl rfl ?_
        refine OkO.nil ?_
        refine Ok.region ?_
        refine OkO.move rfl rfl ?_
        refine OkO.bin rfl rfl rfl (bin_add (by omega) (by omega)) ?_
        refine OkO.assign rfl rfl ?_
        refine OkO.nil ?_
        refine ⟨(fldL p rows rows.length (p.errs.length + 1)).length - (i + 1), by omega, i + 1, true, rfl, by omega, ?_, Has.of (by kernel_rfl), rfl, rfl⟩
        rw [List.take_succ_eq_append_getElem hlt, List.mem_append]
        exact ⟨fun _ => .inl (hb.1 g1), fun _ => rfl⟩
      · -- false g3
        have g1 : b = false := g3
        refine OkO.move rfl rfl ?_
        refine OkO.move rfl rfl ?_
        refine OkO.index (sz := 1) rfl rfl rfl (by kernel_rfl) (by first | assumption | rfl | exact slAt_slice (by omega) | exact slAt_opn (by omega)) ?_ -- index ('Go.Operand.tmp', 97) ('Go.Operand.tmp', 98)
        refine OkO.load rfl rfl (lda (n := 1) (by kernel_rfl) (by first | assumption | (simp (disch := first | omega | (simp only [hNw, hPt]; omega)) only [gn0, gn1, gn2, gn3, gn4, gn5, gp0, gno, gpo] <;> first | rfl | assumption | exact gp0 _ _ _ | exact gn0 _ _)) (by first | rfl | assumption)) ?_
        refine OkO.move rfl rfl ?_
        refine OkO.bin rfl rfl rfl (bin_eql _ _) ?_
        refine OkO.pick (b := false) rfl rfl nofun (fun _ => rfl) ?_
        refine OkO.assign rfl rfl ?_
        refine OkO.nil ?_
        refine Ok.region ?_
        refine OkO.move rfl rfl ?_
        refine OkO.bin rfl rfl rfl (bin_add (by omega) (by omega)) ?_
        refine OkO.assign rfl rfl ?_
        refine OkO.nil ?_
        refine ⟨(fldL p rows rows.length (p.errs.length + 1)).length - (i + 1), by omega, i + 1, decide ((fldL p rows rows.length (p.errs.length + 1))[i] = f), rfl, by omega, ?_, Has.of (by kernel_rfl), rfl, rfl⟩
        rw [List.take_succ_eq_append_getElem hlt, List.mem_append, List.mem_singleton, decide_eq_true_eq]
        exact ⟨fun h => .inr h.symm, fun h => h.elim (fun h => absurd (hb.2 h) (by rw [g1]; simp)) Eq.symm⟩
    · -- no h2
      have hge : i = (fldL p rows rows.length (p.errs.length + 1)).length := by (have h9 : ¬ i < (fldL p rows rows.length (p.errs.length + 1)).length := by simpa using h2); omega
      have hbt : b = true := hb.2 (by rw [hge, List.take_length, hj]; exact fldL_mem (htru.len hpg.1 hpd.1 hj) hjn)
      subst hbt
      refine Ok.exit ?_
      refine Ok.seq ?_
      refine Ok.seq ?_
      refine Ok.region ?_
      refine OkO.assign rfl rfl ?_
      refine OkO.nil ?_
      refine Ok.block ?_
      refine Ok.loop (fun n s => ∃ i : Nat, n = rows.length - i ∧ i ≤ rows.length ∧ Has 8 [(4, .ptr W.next 0), (10, xs), (12, xl), (16, .bool true), (18, I (i : Int))] s.T ∧ s.D = [] ∧ Hs = s.H) (rows.length) (by unfold loopFuel; omega)
        ⟨0, rfl, Nat.zero_le _, Has.of (by kernel_rfl), rfl, rfl⟩ ?_
      rintro n ⟨T, D, G⟩ ⟨i, hn, hi, ⟨f3_, hT⟩, hD, hg9⟩
      dsimp only at *
      subst hT hD
      skip
      subst hg9
      refine Ok.seq ?_
      refine Ok.seq ?_
      refine Ok.region ?_
      refine OkO.move rfl rfl ?_
      refine OkO.move rfl rfl ?_
      refine OkO.builtin rfl rfl rfl (bln (by kernel_rfl) (by first | assumption | rfl)) ?_
      refine OkO.bin rfl rfl rfl (bin_lss _ _) ?_
      refine OkO.nil ?_
      refine Ok.cond rfl (fun h4 => ?_) (fun h4 => ?_)
      · -- yes h4
        have hlt : i < rows.length := by simpa using h4
        obtain ⟨sb, so, scs, s1, s2, s3, s4⟩ := (is.ext (by (try dsimp only); repeat (first | exact exHt10 | exact Ext.refl _ | apply Ext.new | (refine Ext.put ?_ _ (by first | omega | (simp only [hNw, hPt]; omega)))))).at' i (by omega)
        obtain ⟨lb, lo, lcs, l1, l2, l3, l4⟩ := (hlr.ext (by (try dsimp only); repeat (first | exact exHl10 | exact Ext.refl _ | apply Ext.new | (refine Ext.put ?_ _ (by first | omega | (simp only [hNw, hPt]; omega)))))).at_ i (stc p rows i) (by simp [hlt])
        have l30 : lcs[lo + 0]? = some (I (mnL (spdL p rows i (p.errs.length + 1)))) := seg_get l3 0 (by omega)
        have l31 : lcs[lo + 1]? = some (I (mxL (spdL p rows i (p.errs.length + 1)))) := seg_get l3 1 (by omega)
        have hspan := htru.span hpg.1 hpd.1 hj hjn i (by omega)
        refine Ok.skip ?_
        refine Ok.seq ?_
        refine Ok.block ?_
        refine Ok.seq ?_
        refine Ok.seq ?_
        refine Ok.drawn [(0, true, []), (1, true, []), (2, true, []), (3, true, []), (4, true, []), (5, true, []), (6, true, []), (7, true, []), (8, true, []), (9, true, []), (10, true, []), (11, true, []), (12, true, []), (13, true, []), (14, true, []), (15, true, []), (16, true, []), (17, true, []), (18, true, []), (19, true, []), (20, true, []), (21, true, [])] (by kernel_rfl) ?_
        refine OkP.step ?_
        refine OkO.move rfl rfl ?_
        refine OkO.nil ⟨rfl, ?_⟩
        refine OkP.step ?_
        refine OkO.move rfl rfl ?_
        refine OkO.nil ⟨rfl, ?_⟩
        refine OkP.step ?_
        refine OkO.index (sz := 1) rfl rfl rfl (by kernel_rfl) (by first | assumption | rfl | exact slAt_slice (by omega) | exact slAt_opn (by omega)) ?_ -- index ('Go.Operand.tmp', 110) ('Go.Operand.tmp', 111)
        refine OkO.nil ⟨rfl, ?_⟩
        refine OkP.step ?_
        refine OkO.load rfl rfl (lda (n := 1) (by kernel_rfl) (by first | assumption | (simp (disch := first | omega | (simp only [hNw, hPt]; omega)) only [gn0, gn1, gn2, gn3, gn4, gn5, gp0, gno, gpo] <;> first | rfl | assumption | exact gp0 _ _ _ | exact gn0 _ _)) (by first | rfl | assumption)) ?_
        refine OkO.nil ⟨rfl, ?_⟩
        refine OkP.step ?_
        refine OkO.move rfl rfl ?_
        refine OkO.nil ⟨rfl, ?_⟩
        refine OkP.step ?_
        refine OkO.move rfl rfl ?_
        refine OkO.nil ⟨rfl, ?_⟩
        refine OkP.step ?_
        refine OkO.index (sz := 3) rfl rfl rfl (by kernel_rfl) (by first | assumption | rfl | exact slAt_slice (by omega) | exact slAt_opn (by omega)) ?_ -- index ('Go.Operand.tmp', 114) ('Go.Operand.tmp', 115)
        refine OkO.nil ⟨rfl, ?_⟩
        refine OkP.step ?_
        refine OkO.fieldAddr (o := 0) rfl (by kernel_rfl) rfl ?_
        refine OkO.nil ⟨rfl, ?_⟩
        refine OkP.step ?_
        refine OkO.load rfl rfl (lda (n := 1) (by kernel_rfl) (by first | assumption | (simp (disch := first | omega | (simp only [hNw, hPt]; omega)) only [gn0, gn1, gn2, gn3, gn4, gn5, gp0, gno, gpo] <;> first | rfl | assumption | exact gp0 _ _ _ | exact gn0 _ _)) (by first | rfl | assumption)) ?_
        refine OkO.nil ⟨rfl, ?_⟩
        refine OkP.step ?_
        refine OkO.bin rfl rfl rfl (bin_lss _ _) ?_
        refine OkO.nil ⟨rfl, ?_⟩
        refine OkP.step ?_
        refine OkO.move rfl rfl ?_
        refine OkO.nil ⟨rfl, ?_⟩
        refine OkP.split (d := 120) rfl (fun g5 => ?_) (fun g5 => ?_)
        · -- true g5
          exfalso
          have h9 : sp[i]'(by omega) < mnL (spdL p rows i (p.errs.length + 1)) := by simpa using g5
          omega
        · -- false g5
          refine OkP.step ?_
          refine OkO.move rfl rfl ?_
          refine OkO.nil ⟨rfl, ?_⟩
          refine OkP.step ?_
          refine OkO.move rfl rfl ?_
          refine OkO.nil ⟨rfl, ?_⟩
          refine OkP.step ?_
          refine OkO.index (sz := 1) rfl rfl rfl (by kernel_rfl) (by first | assumption | rfl | exact slAt_slice (by omega) | exact slAt_opn (by omega)) ?_ -- index ('Go.Operand.tmp', 121) ('Go.Operand.tmp', 122)
          refine OkO.nil ⟨rfl, ?_⟩
          refine OkP.step ?_
          refine OkO.load rfl rfl (lda (n := 1) (by kernel_rfl) (by first | assumption | (simp (disch := first | omega | (simp only [hNw, hPt]; omega)) only [gn0, gn1, gn2, gn3, gn4, gn5, gp0, gno, gpo] <;> first | rfl | assumption | exact gp0 _ _ _ | exact gn0 _ _)) (by first | rfl | assumption)) ?_
          refine OkO.nil ⟨rfl, ?_⟩
          refine OkP.step ?_
          refine OkO.move rfl rfl ?_
          refine OkO.nil ⟨rfl, ?_⟩
          refine OkP.step ?_
          refine OkO.move rfl rfl ?_
          refine OkO.nil ⟨rfl, ?_⟩
          refine OkP.step ?_
          refine OkO.index (sz := 3) rfl rfl rfl (by kernel_rfl) (by first | assumption | rfl | exact slAt_slice (by omega) | exact slAt_opn (by omega)) ?_ -- index ('Go.Operand.tmp', 125) ('Go.Operand.tmp', 126)
          refine OkO.nil ⟨rfl, ?_⟩
          refine OkP.step ?_
          refine OkO.fieldAddr (o := 1) rfl (by kernel_rfl) rfl ?_
          refine OkO.nil ⟨rfl, ?_⟩
          refine OkP.step ?_
          refine OkO.load rfl rfl (lda (n := 1) (by kernel_rfl) (by first | assumption | (simp (disch := first | omega | (simp only [hNw, hPt]; omega)) only [gn0, gn1, gn2, gn3, gn4, gn5, gp0, gno, gpo] <;> first | rfl | assumption | exact gp0 _ _ _ | exact gn0 _ _)) (by first | rfl | assumption)) ?_
          refine OkO.nil ⟨rfl, ?_⟩
          refine OkP.step ?_
          refine OkO.bin rfl rfl rfl (bin_gtr _ _) ?_
          refine OkO.nil ⟨rfl, ?_⟩
          refine OkP.step ?_
          refine OkO.pick (b := false) rfl rfl nofun (fun _ => rfl) ?_
          refine OkO.nil ⟨rfl, ?_⟩
          refine OkP.nil ?_
          refine Ok.cond rfl (fun h6 => ?_) (fun h6 => ?_)
          · -- yes h6
            exfalso
            have h9 : mxL (spdL p rows i (p.errs.length + 1)) < sp[i]'(by omega) := by simpa using h6
            omega
          · -- no h6
            refine Ok.skip ?_
            refine Ok.seq ?_
            refine Ok.seq ?_
            refine Ok.drawn [(0, true, []), (1, true, []), (2, true, []), (3, true, []), (4, true, []), (5, true, []), (6, true, [])] (by kernel_rfl) ?_
            refine OkP.step ?_
            refine OkO.move rfl rfl ?_
            refine OkO.nil ⟨rfl, ?_⟩
            refine OkP.step ?_
            refine OkO.move rfl rfl ?_
            refine OkO.nil ⟨rfl, ?_⟩
            refine OkP.step ?_
            refine OkO.index (sz := 1) rfl rfl rfl (by kernel_rfl) (by first | assumption | rfl | exact slAt_slice (by omega) | exact slAt_opn (by omega)) ?_ -- index ('Go.Operand.tmp', 132) ('Go.Operand.tmp', 133)
            refine OkO.nil ⟨rfl, ?_⟩
            refine OkP.step ?_
            refine OkO.load rfl rfl (lda (n := 1) (by kernel_rfl) (by first | assumption | (simp (disch := first | omega | (simp only [hNw, hPt]; omega)) only [gn0, gn1, gn2, gn3, gn4, gn5, gp0, gno, gpo] <;> first | rfl | assumption | exact gp0 _ _ _ | exact gn0 _ _)) (by first | rfl | assumption)) ?_
            refine OkO.nil ⟨rfl, ?_⟩
            refine OkP.step ?_
            refine OkO.fieldAddr (o := 3) rfl (by kernel_rfl) rfl ?_
            refine OkO.nil ⟨rfl, ?_⟩
            refine OkP.step ?_
            refine OkO.load rfl rfl (lda (n := 1) (by kernel_rfl) (by first | assumption | (simp (disch := first | omega | (simp only [hNw, hPt]; omega)) only [gn0, gn1, gn2, gn3, gn4, gn5, gp0, gno, gpo] <;> first | rfl | assumption | exact gp0 _ _ _ | exact gn0 _ _)) (by first | rfl | assumption)) ?_
            refine OkO.nil ⟨rfl, ?_⟩
            refine OkP.step ?_
            refine OkO.bin rfl rfl rfl (bin_lss _ _) ?_
            refine OkO.nil ⟨rfl, ?_⟩
            refine OkP.nil ?_
            refine Ok.cond rfl (fun h7 => ?_) (fun h7 => ?_)
            · -- yes h7
              refine Ok.exit ?_
              refine Ok.region ?_
              refine OkO.move rfl rfl ?_
              refine OkO.bin rfl rfl rfl (bin_add (by omega) (by omega)) ?_
              refine OkO.assign rfl rfl ?_
              refine OkO.nil ?_
              refine ⟨rows.length - (i + 1), by omega, i + 1, rfl, by omega, Has.of (by kernel_rfl), rfl, rfl⟩
            · -- no h7
              have hfall : p.fall ≤ sp[i]'(by omega) := by (have h9 : ¬ sp[i]'(by omega) < p.fall := by simpa using h7); omega
              refine Ok.skip ?_
              refine Ok.seq ?_
              refine Ok.region ?_
              refine OkO.move rfl rfl ?_
              refine OkO.fieldAddr (o := 4) rfl (by kernel_rfl) rfl ?_
              refine OkO.load rfl rfl (lda (n := 1) (by kernel_rfl) (by first | assumption | (simp (disch := first | omega | (simp only [hNw, hPt]; omega)) only [gn0, gn1, gn2, gn3, gn4, gn5, gp0, gno, gpo] <;> first | rfl | assumption | exact gp0 _ _ _ | exact gn0 _ _)) (by first | rfl | assumption)) ?_
              refine OkO.bin rfl rfl rfl (bin_sub (by omega) (by omega)) ?_
              refine OkO.builtin rfl rfl rfl (builtin_max2 _ _) ?_
              refine OkO.assign rfl rfl ?_
              refine OkO.nil ?_
              refine Ok.block ?_
              obtain ⟨k0, hk0⟩ : ∃ k0 : Nat, max 0 ((i : Int) - p.out) = (k0 : Int) := ⟨(max 0 ((i : Int) - p.out)).toNat, (Int.toNat_of_nonneg (by omega)).symm⟩
              rw [hk0]
              refine Ok.loop (fun n s => ∃ k : Nat, n = i + 1 - k ∧ k0 ≤ k ∧ k ≤ i + 1 ∧ Has 8 [(4, .ptr W.next 0), (10, xs), (12, xl), (16, .bool true), (18, I (i : Int)), (19, I (k : Int))] s.T ∧ s.D = [] ∧ Hs = s.H) (i + 1 - k0) (by unfold loopFuel; omega)
                ⟨k0, rfl, Nat.le_refl _, by omega, Has.of (by kernel_rfl), rfl, rfl⟩ ?_
              rintro n ⟨T, D, G⟩ ⟨k, hn3, hk1, hk2, ⟨f4_, hT⟩, hD, hg9⟩
              dsimp only at *
              subst hT hD
              skip
              subst hg9
              refine Ok.seq ?_
              refine Ok.seq ?_
              refine Ok.region ?_
              refine OkO.move rfl rfl ?_
              refine OkO.move rfl rfl ?_
              refine OkO.bin rfl rfl rfl (bin_leq _ _) ?_
              refine OkO.nil ?_
              refine Ok.cond rfl (fun h8 => ?_) (fun h8 => ?_)
              · -- yes h8
                have hki : k ≤ i := by (have h9 : (k : Int) ≤ (i : Int) := by simpa using h8); omega
                obtain ⟨kb, ko, kcs, k1, k2, k3, k4⟩ := (hlr.ext (by (try dsimp only); repeat (first | exact exHl10 | exact Ext.refl _ | apply Ext.new | (refine Ext.put ?_ _ (by first | omega | (simp only [hNw, hPt]; omega)))))).at_ k (stc p rows k) (by (have h9 : k < rows.length := by omega); simp [h9])
                have k32 : kcs[ko + 2]? = some (.int .u8 (levelI p (mxL (spdL p rows k (p.errs.length + 1))))) := seg_get k3 2 (by omega)
                have hcall := htru.call hpg.1 hpd.1 hj hjn hki (by omega) (by omega) hfall
                refine Ok.skip ?_
                refine Ok.seq ?_
                refine Ok.block ?_
                refine Ok.seq ?_
                refine Ok.region ?_
                refine OkO.move rfl rfl ?_
                refine OkO.move rfl rfl ?_
                refine OkO.index (sz := 3) rfl rfl rfl (by kernel_rfl) (by first | assumption | rfl | exact slAt_slice (by omega) | exact slAt_opn (by omega)) ?_ -- index ('Go.Operand.tmp', 149) ('Go.Operand.tmp', 150)
                refine OkO.fieldAddr (o := 2) rfl (by kernel_rfl) rfl ?_
                refine OkO.load rfl rfl (lda (n := 1) (by kernel_rfl) (by first | assumption | (simp (disch := first | omega | (simp only [hNw, hPt]; omega)) only [gn0, gn1, gn2, gn3, gn4, gn5, gp0, gno, gpo] <;> first | rfl | assumption | exact gp0 _ _ _ | exact gn0 _ _)) (by first | rfl | assumption)) ?_
                refine OkO.bin rfl rfl rfl (bin_neqU8 _ _) ?_
                refine OkO.nil ?_
                refine Ok.cond rfl (fun h9 => ?_) (fun h9 => ?_)
                · -- yes h9
                  exact absurd hcall (by simpa using h9)
                · -- no h9
                  refine Ok.skip ?_
                  refine Ok.region ?_
                  refine OkO.move rfl rfl ?_
                  refine OkO.bin rfl rfl rfl (bin_add (by omega) (by omega)) ?_
                  refine OkO.assign rfl rfl ?_
                  refine OkO.nil ?_
                  refine ⟨i + 1 - (k + 1), by omega, k + 1, rfl, by omega, by omega, Has.of (by kernel_rfl), rfl, rfl⟩
              · -- no h8
                refine Ok.exit ?_
                refine Ok.region ?_
                refine OkO.move rfl rfl ?_
                refine OkO.bin rfl rfl rfl (bin_add (by omega) (by omega)) ?_
                refine OkO.assign rfl rfl ?_
                refine OkO.nil ?_
                refine ⟨rows.length - (i + 1), by omega, i + 1, rfl, by omega, Has.of (by kernel_rfl), rfl, rfl⟩
      · -- no h4
        have hge : i = rows.length := by (have h9 : ¬ i < rows.length := by simpa using h4); omega
        refine Ok.exit ?_
        refine Ok.seq ?_
        refine Ok.region ?_
        refine OkO.move rfl rfl ?_
        refine OkO.move rfl rfl ?_
        refine OkO.callV rfl rfl rfl rfl rfl (rfl) ?_ -- "sackung/sackunglaw04.awake"
        refine OkO.pick (b := true) rfl rfl (fun _ => rfl) nofun ?_
        refine OkO.assign rfl rfl ?_
        refine OkO.nil ?_
        refine Ok.ret ⟨.inr rfl, ?_⟩
        exact back_flat rfl rfl rfl (by rw [← hW]; exact (by (try dsimp only); repeat (first | exact gg10 | apply Grow.new | (refine Grow.put ?_ _ (by first | omega | (simp only [hNw, hPt]; omega))))))
theorem c10V (m : Nat) (ev wv : AV) (p : Pst) (hv fv : Int) (ws : List Int) (H : Heap) (hV : Ints H ev p.errs) (hWs : Row H wv 1 (ws.map U16c)) (hw : ∀ x ∈ ws, 0 ≤ x ∧ x ≤ 65535) (hhv : 0 ≤ hv ∧ hv ≤ 255) (hfv : -128 ≤ fv ∧ fv ≤ 127) (hpl : 15 < p.errs.length) : RR (m + 8) (.fn 10 [.agg (p.c ev), .int .u8 hv, .int .i8 fv, wv]) H = some (.bool true, H) := by
  refine (R_fn _ _ _ _ _).trans ?_
  refine fn_ok Try.func10 rfl rfl (by kernel_rfl) (by kernel_rfl) ?_
  obtain ⟨W, hW⟩ : ∃ W : Heap, W = ⟨H.t, H.next, H.next⟩ := ⟨_, rfl⟩
  have hg : ∀ n, W.get n = H.get n := fun n => by rw [hW]; rfl
  have hN : W.next = H.next := by rw [hW]
  have hE : ∀ G, Grow W G → Ext H G := fun G g => ⟨by rw [← hN]; exact g.next, fun n k => by rw [g.get n (by rw [hN]; exact k), hg]⟩
  have hG : Grow W W := Grow.refl (by rw [hW]; exact Nat.le_refl _)
  rw [← hW]
  have pev : ev.plain = true := lpl hV.len
  have hel := hV.len
  have pwv : wv.plain = true := lpl hWs.len
  refine Ok.seq ?_
  refine Ok.region ?_
  refine OkO.box rfl rfl ?_
  refine OkO.assign rfl rfl ?_
  refine OkO.nil ?_
  refine Ok.seq ?_
  refine Ok.seq ?_
  refine Ok.region ?_
  refine OkO.fieldAddr (o := 0) rfl (by kernel_rfl) rfl ?_
  refine OkO.load rfl rfl (lda (n := 1) (by kernel_rfl) (by first | assumption | (simp (disch := first | omega | (simp only [hNw, hPt]; omega)) only [gn0, gn1, gn2, gn3, gn4, gn5, gp0, gno, gpo] <;> first | rfl | assumption | exact gp0 _ _ _ | exact gn0 _ _)) (by first | rfl | assumption)) ?_
  refine OkO.builtin rfl rfl rfl (bln (by kernel_rfl) (by first | assumption | rfl)) ?_
  refine OkO.bin rfl rfl rfl ((bin_gtr _ _).trans (congrArg (fun b => some (AV.bool b)) (show _ = true from (by simp; omega)))) ?_
  refine OkO.move rfl rfl ?_
  refine OkO.skip rfl ?_
  refine OkO.skip rfl ?_
  refine OkO.skip rfl ?_
  refine OkO.pick (b := true) rfl rfl (fun _ => rfl) nofun ?_
  refine OkO.nil ?_
  refine Ok.condT rfl ?_
  refine Ok.seq ?_
  refine Ok.region ?_
  refine OkO.callV rfl rfl rfl rfl rfl (rfl) ?_ -- "sackung/sackunglaw04.awake"
  refine OkO.assign rfl rfl ?_
  refine OkO.nil ?_
  refine Ok.ret ⟨.inr rfl, ?_⟩
  exact back_flat rfl rfl rfl (by rw [← hW]; exact (by (try dsimp only); repeat (first | exact hG | apply Grow.new | (refine Grow.put ?_ _ (by first | omega | (simp only [hNw, hPt]; omega))))))
theorem c10W (m : Nat) (ev wv : AV) (p : Pst) (hv fv : Int) (ws : List Int) (H : Heap) (hV : Ints H ev p.errs) (hWs : Row H wv 1 (ws.map U16c)) (hw : ∀ x ∈ ws, 0 ≤ x ∧ x ≤ 65535) (hhv : 0 ≤ hv ∧ hv ≤ 255) (hfv : -128 ≤ fv ∧ fv ≤ 127) (hpl : p.errs.length ≤ 15) (hok : p.ok = false) : RR (m + 8) (.fn 10 [.agg (p.c ev), .int .u8 hv, .int .i8 fv, wv]) H = some (.bool true, H) := by
  refine (R_fn _ _ _ _ _).trans ?_
  refine fn_ok Try.func10 rfl rfl (by kernel_rfl) (by kernel_rfl) ?_
  obtain ⟨W, hW⟩ : ∃ W : Heap, W = ⟨H.t, H.next, H.next⟩ := ⟨_, rfl⟩
  have hg : ∀ n, W.get n = H.get n := fun n => by rw [hW]; rfl
  have hN : W.next = H.next := by rw [hW]
  have hE : ∀ G, Grow W G → Ext H G := fun G g => ⟨by rw [← hN]; exact g.next, fun n k => by rw [g.get n (by rw [hN]; exact k), hg]⟩
  have hG : Grow W W := Grow.refl (by rw [hW]; exact Nat.le_refl _)
  rw [← hW]
  have pev : ev.plain = true := lpl hV.len
  have hel := hV.len
  have pwv : wv.plain = true := lpl hWs.len
  refine Ok.seq ?_
  refine Ok.region ?_
  refine OkO.box rfl rfl ?_
  refine OkO.assign rfl rfl ?_
  refine OkO.nil ?_
  refine Ok.seq ?_
  refine Ok.seq ?_
  refine Ok.region ?_
  refine OkO.fieldAddr (o := 0) rfl (by kernel_rfl) rfl ?_
  refine OkO.load rfl rfl (lda (n := 1) (by kernel_rfl) (by first | assumption | (simp (disch := first | omega | (simp only [hNw, hPt]; omega)) only [gn0, gn1, gn2, gn3, gn4, gn5, gp0, gno, gpo] <;> first | rfl | assumption | exact gp0 _ _ _ | exact gn0 _ _)) (by first | rfl | assumption)) ?_
  refine OkO.builtin rfl rfl rfl (bln (by kernel_rfl) (by first | assumption | rfl)) ?_
  refine OkO.bin rfl rfl rfl ((bin_gtr _ _).trans (congrArg (fun b => some (AV.bool b)) (show _ = false from (by simp; omega)))) ?_
  refine OkO.move rfl rfl ?_
  refine OkO.load rfl rfl (ldg (n := 6) (by kernel_rfl) (by first | assumption | (simp (disch := first | omega | (simp only [hNw, hPt]; omega)) only [gn0, gn1, gn2, gn3, gn4, gn5, gp0, gno, gpo] <;> first | rfl | assumption | exact gp0 _ _ _ | exact gn0 _ _)) (by first | rfl | assumption)) ?_
  refine OkO.callV rfl rfl rfl rfl rfl ((c24 (m + 5) ev p _ (hV.ext (hE _ (by (try dsimp only); repeat (first | exact hG | apply Grow.new | (refine Grow.put ?_ _ (by first | omega | (simp only [hNw, hPt]; omega))))))) (by omega)).trans (by rw [hok])) ?_ -- "sackung/sackungref04.Right"
  refine OkO.un rfl rfl rfl ?_
  refine OkO.pick (b := false) rfl rfl nofun (fun _ => rfl) ?_
  refine OkO.nil ?_
  refine Ok.condT rfl ?_
  refine Ok.seq ?_
  refine Ok.region ?_
  refine OkO.callV rfl rfl rfl rfl rfl (rfl) ?_ -- "sackung/sackunglaw04.awake"
  refine OkO.assign rfl rfl ?_
  refine OkO.nil ?_
  refine Ok.ret ⟨.inr rfl, ?_⟩
  exact back_flat rfl rfl rfl (by rw [← hW]; exact (by (try dsimp only); repeat (first | exact hG | apply Grow.new | (refine Grow.put ?_ _ (by first | omega | (simp only [hNw, hPt]; omega))))))
theorem c10T (m : Nat) (ev wv : AV) (p : Pst) (hv fv : Int) (ws : List Int) (H : Heap) (hV : Ints H ev p.errs) (hWs : Row H wv 1 (ws.map U16c)) (hw : ∀ x ∈ ws, 0 ≤ x ∧ x ≤ 65535) (hhv : 0 ≤ hv ∧ hv ≤ 255) (hfv : -128 ≤ fv ∧ fv ≤ 127) : RR (m + 8) (.fn 10 [.agg (p.c ev), .int .u8 hv, .int .i8 fv, wv]) H = some (.bool true, H) := by
  by_cases hpl : p.errs.length ≤ 15
  · cases hok : p.ok with
    | false => exact c10W m ev wv p hv fv ws H hV hWs hw hhv hfv hpl hok
    | true =>
      obtain ⟨⟨hp1, hp2⟩, _⟩ := Pst.ok_facts hok
      have h1 := Int.tmod_lt_of_pos fv (b := (p.errs.length : Int)) (by omega)
      obtain ⟨f, hf⟩ : ∃ f : Int, f = if fv.tmod (p.errs.length : Int) < 0 then -1 else fv.tmod (p.errs.length : Int) := ⟨_, rfl⟩
      have h2 : -1 ≤ f ∧ f ≤ (p.errs.length : Int) - 1 := by
        rw [hf]
        split <;> omega
      exact c10Y m ev wv p hv fv ws f (f + 1).toNat H hV hWs hw hhv hfv hpl hok hf (by omega) (by omega)
  · exact c10V m ev wv p hv fv ws H hV hWs hw hhv hfv (by omega)
end
end Go.Ev

