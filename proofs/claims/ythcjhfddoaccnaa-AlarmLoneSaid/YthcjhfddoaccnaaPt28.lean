/-
  Functions of the program, reckoned by the evaluator: what each answers, and that it leaves what came in as it was.
-/
import Derived.Test.YthcjhfddoaccnaaPt27
set_option maxRecDepth 100000
set_option linter.unusedSimpArgs false
set_option linter.unusedVariables false
namespace Go.Ev
open Go Go.Proofs
noncomputable section
theorem DutyM.put {k0 : Nat} {G : Heap} {mb : Nat} {p : Pst} {rows : List (List Int)} (h : DutyM k0 G mb p rows) {n : Nat} (o : AObj) (hn : n < k0) : DutyM k0 (G.put n o) mb p rows := by
  obtain ⟨h1, h2, o, vs, h3, h4, h5, h6⟩ := h
  exact ⟨h1, by simpa using h2, o, vs, by rw [gpo _ _ _ _ (by omega)]; exact h3, h4, h5, fun j x hj => (h6 j x hj).put _ hn⟩
theorem DutyM.new {k0 : Nat} {G : Heap} {mb : Nat} {p : Pst} {rows : List (List Int)} (h : DutyM k0 G mb p rows) (o : AObj) : DutyM k0 (G.new o) mb p rows := h.to (Ext.new (Ext.refl _) _)
theorem c60N (m : Nat) (ev rv : AV) (p : Pst) (rows : List (List Int)) (H : Heap) (hV : Ints H ev p.errs) (hRs : LstAt H rv rows) (hpl : p.errs.length ≤ 100000) (hrl : rows.length ≤ 100000) (hlens9 : ∀ r ∈ rows, r.length ≤ 100000) (hf : faultE p rows = 0) (hpossF : possB p rows rows.length = false) : RR (m + 6) (.fn 60 [.agg (p.c ev), rv]) H = some (.tup [.agg [.nils, I 0, I 0, I 0, I 0, I 0, .nilm], I 9], H) := by
  refine (R_fn _ _ _ _ _).trans ?_
  refine fn_ok Try.func60 rfl rfl (by kernel_rfl) (by kernel_rfl) ?_
  obtain ⟨W, hW⟩ : ∃ W : Heap, W = ⟨H.t, H.next, H.next⟩ := ⟨_, rfl⟩
  have hg : ∀ n, W.get n = H.get n := fun n => by rw [hW]; rfl
  have hN : W.next = H.next := by rw [hW]
  have hE : ∀ G, Grow W G → Ext H G := fun G g => ⟨by rw [← hN]; exact g.next, fun n k => by rw [g.get n (by rw [hN]; exact k), hg]⟩
  have hG : Grow W W := Grow.refl (by rw [hW]; exact Nat.le_refl _)
  rw [← hW]
  have pev : ev.plain = true := lpl hV.len
  have hel := hV.len
  have hrlen := hRs.len
  have ats : ∀ mb, atoms [ev, I p.gain, I p.drop, I p.fall, I p.out, I p.ahead, .map mb] = true := fun mb => by rw [atoms, (len_one hel).2]; rfl
  obtain ⟨hok, hr60, hlens, hrbd⟩ := faultE_facts hf
  obtain ⟨⟨hp1, hp2⟩, hpe, hpg, hpd, hpf, hpo1, hpo2⟩ := Pst.ok_facts hok
  refine Ok.seq ?_
  refine Ok.region ?_
  refine OkO.box rfl rfl ?_
  refine OkO.alloc (z := [.nils, .int .i64 0, .int .i64 0, .int .i64 0, .int .i64 0, .int .i64 0, .nilm]) rfl (by kernel_rfl) ?_
  refine OkO.assign rfl rfl ?_
  refine OkO.nil ?_
  refine Ok.seq ?_
  refine Ok.seq ?_
  refine Ok.region ?_
  refine OkO.load rfl rfl (ldg (n := 6) (by kernel_rfl) (by first | assumption | (simp (disch := first | omega | (simp only [hNw, hPt]; omega)) only [gn0, gn1, gn2, gn3, gn4, gn5, gp0, gno, gpo] <;> first | rfl | assumption | exact gp0 _ _ _ | exact gn0 _ _)) (by first | rfl | assumption)) ?_
  refine OkO.move rfl rfl ?_
  refine OkO.callV rfl rfl rfl rfl rfl ((c62 (m + 0) ev rv p rows _ (hV.ext (hE _ (by (try dsimp only); repeat (first | exact hG | apply Grow.new | (refine Grow.put ?_ _ (by first | omega | (simp only [hNw, hPt]; omega))))))) (hRs.ext (hE _ (by (try dsimp only); repeat (first | exact hG | apply Grow.new | (refine Grow.put ?_ _ (by first | omega | (simp only [hNw, hPt]; omega))))))) hpl hrl hlens9).trans (by rw [hf])) ?_ -- "sackung/alarm.checkReads"
  refine OkO.assign rfl rfl ?_
  refine OkO.nil ?_
  refine Ok.seq ?_
  refine Ok.region ?_
  refine OkO.move rfl rfl ?_
  refine OkO.bin rfl rfl rfl ((bin_neq _ _).trans (congrArg (fun b => some (AV.bool b)) (show _ = false from (by first | rfl | (simp; done) | (simp; omega) | (simp_all; done))))) ?_
  refine OkO.nil ?_
  refine Ok.condF rfl ?_
  refine Ok.skip ?_
  refine Ok.seq ?_
  refine Ok.region ?_
  refine OkO.load rfl rfl (ldg (n := 6) (by kernel_rfl) (by first | assumption | (simp (disch := first | omega | (simp only [hNw, hPt]; omega)) only [gn0, gn1, gn2, gn3, gn4, gn5, gp0, gno, gpo] <;> first | rfl | assumption | exact gp0 _ _ _ | exact gn0 _ _)) (by first | rfl | assumption)) ?_
  refine OkO.move rfl rfl ?_
  refine OkO.callE rfl rfl rfl rfl rfl (c63 (m + 0) ev rv p rows _ (hV.ext (hE _ (by (try dsimp only); repeat (first | exact hG | apply Grow.new | (refine Grow.put ?_ _ (by first | omega | (simp only [hNw, hPt]; omega))))))) (hRs.ext (hE _ (by (try dsimp only); repeat (first | exact hG | apply Grow.new | (refine Grow.put ?_ _ (by first | omega | (simp only [hNw, hPt]; omega))))))) ⟨hpg, hpd⟩ hpe (by omega) hlens hrbd (by omega)) ?_ -- "(sackung/alarm.Post).onDuty"
  rintro _ H63 ⟨mb, rfl, q63, dm63⟩
  have n1 := q63.ext.next
  try simp only [hNw, hPt] at n1
  have gg1 : Grow W H63 := Grow.ret (by (try dsimp only); repeat (first | exact hG | apply Grow.new | (refine Grow.put ?_ _ (by first | omega | (simp only [hNw, hPt]; omega))))) q63
  have o1 : H63.get (W.next + 1) = some (.cells [.nils, I 0, I 0, I 0, I 0, I 0, .nilm] 114) := by rw [q63.ext.get _ (by first | omega | (simp only [hNw, hPt]; omega))]; first | assumption | exact gn0 _ _ | (simp (disch := first | omega | (simp only [hNw, hPt]; omega)) only [gn0, gn1, gn2, gn3, gn4, gn5, gp0, gno, gpo] <;> first | rfl | assumption | exact gp0 _ _ _ | exact gn0 _ _)
  have dmh := dm63.2.1
  refine OkO.alloc (z := [.nils, .int .i64 0, .int .i64 0, .int .i64 0, .int .i64 0, .int .i64 0, .nilm]) rfl (by kernel_rfl) ?_
  refine OkO.store rfl rfl rfl (sAc (n := 7) (ag := true) (by kernel_rfl) (by first | assumption | (simp (disch := first | omega | (simp only [hNw, hPt]; omega)) only [gn0, gn1, gn2, gn3, gn4, gn5, gp0, gno, gpo] <;> first | rfl | assumption | exact gp0 _ _ _ | exact gn0 _ _)) rfl (by first | rfl | assumption | exact ats _) (by first | rfl | exact spl_set _ _ _ (by first | assumption | omega | (simp; omega)))) ?_
  refine OkO.nil ?_
  refine Ok.seq ?_
  refine Ok.seq ?_
  refine Ok.region ?_
  refine OkO.load rfl rfl (ldg (n := 7) (by kernel_rfl) (by first | assumption | (simp (disch := first | omega | (simp only [hNw, hPt]; omega)) only [gn0, gn1, gn2, gn3, gn4, gn5, gp0, gno, gpo] <;> first | rfl | assumption | exact gp0 _ _ _ | exact gn0 _ _)) (by first | rfl | assumption)) ?_
  refine OkO.move rfl rfl ?_
  refine OkO.builtin rfl rfl rfl (bln (by kernel_rfl) (by first | assumption | rfl)) ?_
  refine OkO.callV rfl rfl rfl rfl rfl ((c64 (m + 2) ev p mb rows.length rows _ ((dm63.to (by repeat (first | exact Ext.refl _ | (refine Ext.put ?_ _ (by first | omega | (simp only [hNw, hPt]; omega))) | apply Ext.new))).low (Nat.zero_le _)).2.2 (by simp only [hNw, hPt]; omega) hel (by omega)).trans (by rw [hpossF])) ?_ -- "(sackung/alarm.duty).possible"
  refine OkO.un rfl rfl rfl ?_
  refine OkO.nil ?_
  refine Ok.condT rfl ?_
  refine Ok.seq ?_
  refine Ok.region ?_
  refine OkO.build (z := [.nils, .int .i64 0, .int .i64 0, .int .i64 0, .int .i64 0, .int .i64 0, .nilm]) (pl := [(0, 6), (6, 1)]) rfl (by kernel_rfl) rfl rfl ?_
  refine OkO.store rfl rfl rfl (sAc (n := 7) (ag := true) (by kernel_rfl) (by first | assumption | (simp (disch := first | omega | (simp only [hNw, hPt]; omega)) only [gn0, gn1, gn2, gn3, gn4, gn5, gp0, gno, gpo] <;> first | rfl | assumption | exact gp0 _ _ _ | exact gn0 _ _)) rfl (by first | rfl | assumption | exact ats _) (by first | rfl | exact spl_set _ _ _ (by first | assumption | omega | (simp; omega)))) ?_
  refine OkO.assign rfl rfl ?_
  refine OkO.nil ?_
  refine Ok.ret ⟨.inr rfl, ?_⟩
  exact back_flat (resV_cell rfl (ldg (n := 7) (by kernel_rfl) (by first | assumption | (simp (disch := first | omega | (simp only [hNw, hPt]; omega)) only [gn0, gn1, gn2, gn3, gn4, gn5, gp0, gno, gpo] <;> first | rfl | assumption)) (by first | rfl | assumption)) (resV_tmp rfl resV_nil)) rfl rfl (by rw [← hW]; exact (by (try dsimp only); repeat (first | exact gg1 | apply Grow.new | (refine Grow.put ?_ _ (by first | omega | (simp only [hNw, hPt]; omega))))))
theorem c60Y (m : Nat) (ev rv : AV) (p : Pst) (rows : List (List Int)) (H : Heap) (hV : Ints H ev p.errs) (hRs : LstAt H rv rows) (hpl : p.errs.length ≤ 100000) (hrl : rows.length ≤ 100000) (hlens9 : ∀ r ∈ rows, r.length ≤ 100000) (hf : faultE p rows = 0) (hpossT : possB p rows rows.length = true) : ∃ v H', RR (m + 6) (.fn 60 [.agg (p.c ev), rv]) H = some (v, H') ∧ ∃ mb, v = .tup [.agg (p.d ev mb), I 0] ∧ Ret H H' ∧ DutyM H.next H' mb p rows := by
  show ∃ v H', evFn Try.prog (RR (m + 5)) 60 [.agg (p.c ev), rv] H = some (v, H') ∧ ∃ mb, v = .tup [.agg (p.d ev mb), I 0] ∧ Ret H H' ∧ DutyM H.next H' mb p rows
  refine fn_okE Try.func60 rfl rfl (by kernel_rfl) (by kernel_rfl) ?_
  obtain ⟨W, hW⟩ : ∃ W : Heap, W = ⟨H.t, H.next, H.next⟩ := ⟨_, rfl⟩
  have hg : ∀ n, W.get n = H.get n := fun n => by rw [hW]; rfl
  have hN : W.next = H.next := by rw [hW]
  have hE : ∀ G, Grow W G → Ext H G := fun G g => ⟨by rw [← hN]; exact g.next, fun n k => by rw [g.get n (by rw [hN]; exact k), hg]⟩
  have hG : Grow W W := Grow.refl (by rw [hW]; exact Nat.le_refl _)
  rw [← hW]
  have pev : ev.plain = true := lpl hV.len
  have hel := hV.len
  have hrlen := hRs.len
  have ats : ∀ mb, atoms [ev, I p.gain, I p.drop, I p.fall, I p.out, I p.ahead, .map mb] = true := fun mb => by rw [atoms, (len_one hel).2]; rfl
  obtain ⟨hok, hr60, hlens, hrbd⟩ := faultE_facts hf
  obtain ⟨⟨hp1, hp2⟩, hpe, hpg, hpd, hpf, hpo1, hpo2⟩ := Pst.ok_facts hok
  refine Ok.seq ?_
  refine Ok.region ?_
  refine OkO.box rfl rfl ?_
  refine OkO.alloc (z := [.nils, .int .i64 0, .int .i64 0, .int .i64 0, .int .i64 0, .int .i64 0, .nilm]) rfl (by kernel_rfl) ?_
  refine OkO.assign rfl rfl ?_
  refine OkO.nil ?_
  refine Ok.seq ?_
  refine Ok.seq ?_
  refine Ok.region ?_
  refine OkO.load rfl rfl (ldg (n := 6) (by kernel_rfl) (by first | assumption | (simp (disch := first | omega | (simp only [hNw, hPt]; omega)) only [gn0, gn1, gn2, gn3, gn4, gn5, gp0, gno, gpo] <;> first | rfl | assumption | exact gp0 _ _ _ | exact gn0 _ _)) (by first | rfl | assumption)) ?_
  refine OkO.move rfl rfl ?_
  refine OkO.callV rfl rfl rfl rfl rfl ((c62 (m + 0) ev rv p rows _ (hV.ext (hE _ (by (try dsimp only); repeat (first | exact hG | apply Grow.new | (refine Grow.put ?_ _ (by first | omega | (simp only [hNw, hPt]; omega))))))) (hRs.ext (hE _ (by (try dsimp only); repeat (first | exact hG | apply Grow.new | (refine Grow.put ?_ _ (by first | omega | (simp only [hNw, hPt]; omega))))))) hpl hrl hlens9).trans (by rw [hf])) ?_ -- "sackung/alarm.checkReads"
  refine OkO.assign rfl rfl ?_
  refine OkO.nil ?_
  refine Ok.seq ?_
  refine Ok.region ?_
  refine OkO.move rfl rfl ?_
  refine OkO.bin rfl rfl rfl ((bin_neq _ _).trans (congrArg (fun b => some (AV.bool b)) (show _ = false from (by first | rfl | (simp; done) | (simp; omega) | (simp_all; done))))) ?_
  refine OkO.nil ?_
  refine Ok.condF rfl ?_
  refine Ok.skip ?_
  refine Ok.seq ?_
  refine Ok.region ?_
  refine OkO.load rfl rfl (ldg (n := 6) (by kernel_rfl) (by first | assumption | (simp (disch := first | omega | (simp only [hNw, hPt]; omega)) only [gn0, gn1, gn2, gn3, gn4, gn5, gp0, gno, gpo] <;> first | rfl | assumption | exact gp0 _ _ _ | exact gn0 _ _)) (by first | rfl | assumption)) ?_
  refine OkO.move rfl rfl ?_
  refine OkO.callE rfl rfl rfl rfl rfl (c63 (m + 0) ev rv p rows _ (hV.ext (hE _ (by (try dsimp only); repeat (first | exact hG | apply Grow.new | (refine Grow.put ?_ _ (by first | omega | (simp only [hNw, hPt]; omega))))))) (hRs.ext (hE _ (by (try dsimp only); repeat (first | exact hG | apply Grow.new | (refine Grow.put ?_ _ (by first | omega | (simp only [hNw, hPt]; omega))))))) ⟨hpg, hpd⟩ hpe (by omega) hlens hrbd (by omega)) ?_ -- "(sackung/alarm.Post).onDuty"
  rintro _ H63 ⟨mb, rfl, q63, dm63⟩
  have n1 := q63.ext.next
  try simp only [hNw, hPt] at n1
  have gg1 : Grow W H63 := Grow.ret (by (try dsimp only); repeat (first | exact hG | apply Grow.new | (refine Grow.put ?_ _ (by first | omega | (simp only [hNw, hPt]; omega))))) q63
  have o1 : H63.get (W.next + 1) = some (.cells [.nils, I 0, I 0, I 0, I 0, I 0, .nilm] 114) := by rw [q63.ext.get _ (by first | omega | (simp only [hNw, hPt]; omega))]; first | assumption | exact gn0 _ _ | (simp (disch := first | omega | (simp only [hNw, hPt]; omega)) only [gn0, gn1, gn2, gn3, gn4, gn5, gp0, gno, gpo] <;> first | rfl | assumption | exact gp0 _ _ _ | exact gn0 _ _)
  have dmh := dm63.2.1
  refine OkO.alloc (z := [.nils, .int .i64 0, .int .i64 0, .int .i64 0, .int .i64 0, .int .i64 0, .nilm]) rfl (by kernel_rfl) ?_
  refine OkO.store rfl rfl rfl (sAc (n := 7) (ag := true) (by kernel_rfl) (by first | assumption | (simp (disch := first | omega | (simp only [hNw, hPt]; omega)) only [gn0, gn1, gn2, gn3, gn4, gn5, gp0, gno, gpo] <;> first | rfl | assumption | exact gp0 _ _ _ | exact gn0 _ _)) rfl (by first | rfl | assumption | exact ats _) (by first | rfl | exact spl_set _ _ _ (by first | assumption | omega | (simp; omega)))) ?_
  refine OkO.nil ?_
  refine Ok.seq ?_
  refine Ok.seq ?_
  refine Ok.region ?_
  refine OkO.load rfl rfl (ldg (n := 7) (by kernel_rfl) (by first | assumption | (simp (disch := first | omega | (simp only [hNw, hPt]; omega)) only [gn0, gn1, gn2, gn3, gn4, gn5, gp0, gno, gpo] <;> first | rfl | assumption | exact gp0 _ _ _ | exact gn0 _ _)) (by first | rfl | assumption)) ?_
  refine OkO.move rfl rfl ?_
  refine OkO.builtin rfl rfl rfl (bln (by kernel_rfl) (by first | assumption | rfl)) ?_
  refine OkO.callV rfl rfl rfl rfl rfl ((c64 (m + 2) ev p mb rows.length rows _ ((dm63.to (by repeat (first | exact Ext.refl _ | (refine Ext.put ?_ _ (by first | omega | (simp only [hNw, hPt]; omega))) | apply Ext.new))).low (Nat.zero_le _)).2.2 (by simp only [hNw, hPt]; omega) hel (by omega)).trans (by rw [hpossT])) ?_ -- "(sackung/alarm.duty).possible"
  refine OkO.un rfl rfl rfl ?_
  refine OkO.nil ?_
  refine Ok.condF rfl ?_
  refine Ok.skip ?_
  refine Ok.seq ?_
  refine Ok.region ?_
  refine OkO.load rfl rfl (ldg (n := 7) (by kernel_rfl) (by first | assumption | (simp (disch := first | omega | (simp only [hNw, hPt]; omega)) only [gn0, gn1, gn2, gn3, gn4, gn5, gp0, gno, gpo] <;> first | rfl | assumption | exact gp0 _ _ _ | exact gn0 _ _)) (by first | rfl | assumption)) ?_
  refine OkO.store rfl rfl rfl (sAc (n := 7) (ag := true) (by kernel_rfl) (by first | assumption | (simp (disch := first | omega | (simp only [hNw, hPt]; omega)) only [gn0, gn1, gn2, gn3, gn4, gn5, gp0, gno, gpo] <;> first | rfl | assumption | exact gp0 _ _ _ | exact gn0 _ _)) rfl (by first | rfl | assumption | exact ats _) (by first | rfl | exact spl_set _ _ _ (by first | assumption | omega | (simp; omega)))) ?_
  refine OkO.assign rfl rfl ?_
  refine OkO.nil ?_
  refine Ok.ret ⟨.inr rfl, ?_⟩
  refine back_newQ (resV_cell rfl (ldg (n := 7) (by kernel_rfl) (by first | assumption | (simp (disch := first | omega | (simp only [hNw, hPt]; omega)) only [gn0, gn1, gn2, gn3, gn4, gn5, gp0, gno, gpo] <;> first | rfl | assumption)) (by first | rfl | assumption)) (resV_tmp rfl resV_nil)) rfl (by rw [← hW]; exact (by (try dsimp only); repeat (first | exact gg1 | apply Grow.new | (refine Grow.put ?_ _ (by first | omega | (simp only [hNw, hPt]; omega)))))) (by show AV.flats [_, _] = false; unfold AV.flats; rw [duty_flat]; try rfl) (fun H9 p1 p2 p3 => ⟨mb, rfl, p1, ?_⟩)
  try simp only [hNw] at dm63
  have e9 := dm63.to (G' := ((H63.new (.cells [.nils, I 0, I 0, I 0, I 0, I 0, .nilm] 114)).put H63.next (.cells (p.d ev mb) 114))) (by repeat (first | exact Ext.refl _ | (refine Ext.put ?_ _ (by first | omega | (simp only [hNw, hPt]; omega))) | apply Ext.new))
  exact ((e9.put (n := W.next + 1) (.cells (p.d ev mb) 114) (by omega)).low (by omega)).to ⟨Nat.le_of_eq p3.symm, fun n _ => p2 n⟩
end
end Go.Ev

set_option maxRecDepth 100000
set_option linter.unusedSimpArgs false
set_option linter.unusedVariables false
namespace Go.Ev
open Go Go.Proofs
noncomputable section
def stc (p : Pst) (rows : List (List Int)) (h : Nat) : List AV := [I (mnL (spdL p rows h (p.errs.length + 1))), I (mxL (spdL p rows h (p.errs.length + 1))), .int .u8 (levelI p (mxL (spdL p rows h (p.errs.length + 1))))]
def stCells (p : Pst) (rows : List (List Int)) (n : Nat) : List AV := ((List.range n).map (stc p rows)).flatten
theorem stCells_succ (p : Pst) (rows : List (List Int)) (n : Nat) : stCells p rows (n + 1) = stCells p rows n ++ stc p rows n := by simp [stCells, List.range_succ]
theorem stCells_len (p : Pst) (rows : List (List Int)) : ∀ n, (stCells p rows n).length = n * 3
  | 0 => rfl
  | n + 1 => by rw [stCells_succ, List.length_append, stCells_len p rows n]; show n * 3 + 3 = _; omega
theorem Mine.states {k0 : Nat} {G : Heap} {v : AV} {e : TypeId} {p : Pst} {rows : List (List Int)} {n : Nat} (h : Mine k0 G v e 3 (stCells p rows n)) : Row G v 3 ((List.range n).map (stc p rows)) := Mine.row (e := e) h (fun x hx => by obtain ⟨y, _, rfl⟩ := List.mem_map.1 hx; rfl) (by omega)
theorem spdL_pos {p : Pst} {rows : List (List Int)} {h : Nat} : ∀ {i n : Nat}, i < n → h + 1 ≤ lenM p rows i → 1 ≤ (spdL p rows h n).length
  | i, 0, hi, _ => by omega
  | i, n + 1, hi, hr => by
    by_cases e : i = n
    · subst e
      have hh : h < (mayL p ((i : Int) - 1) rows).length := hr
      rw [spdL_yes hr hh]; simp
    · have := spdL_pos (i := i) (n := n) (by omega) hr
      show 1 ≤ (spdL p rows h n ++ _).length
      rw [List.length_append]; omega
theorem possB_iff {p : Pst} {rows : List (List Int)} {r : Nat} : possB p rows r = true ↔ ∃ i, i ≤ p.errs.length ∧ r ≤ lenM p rows i := by
  unfold possB
  rw [List.any_eq_true]
  constructor
  · rintro ⟨i, hi, h⟩
    rw [decide_eq_true_eq] at h
    exact ⟨i, by have := List.mem_range.1 hi; omega, h⟩
  · rintro ⟨i, hi, h⟩
    exact ⟨i, List.mem_range.2 (by omega), by rw [decide_eq_true_eq]; exact h⟩
theorem spdL_all {p : Pst} {rows : List (List Int)} {h r : Nat} (hp : possB p rows r = true) (hh : h < r) : 1 ≤ (spdL p rows h (p.errs.length + 1)).length := by
  obtain ⟨i, hi, h1⟩ := possB_iff.1 hp
  exact spdL_pos (i := i) (by omega) (by omega)
theorem c21N (m : Nat) (ev rv : AV) (p : Pst) (rows : List (List Int)) (H : Heap) (hV : Ints H ev p.errs) (hRs : LstAt H rv rows) (hpl : p.errs.length ≤ 100000) (hrl : rows.length ≤ 100000) (hlens9 : ∀ r ∈ rows, r.length ≤ 100000) (hf : faultE p rows = 0) (hpossF : possB p rows rows.length = false) : RR (m + 7) (.fn 21 [.agg (p.c ev), rv]) H = some (.tup [.nils, I 9], H) := by
  refine (R_fn _ _ _ _ _).trans ?_
  refine fn_ok Try.func21 rfl rfl (by kernel_rfl) (by kernel_rfl) ?_
  obtain ⟨W, hW⟩ : ∃ W : Heap, W = ⟨H.t, H.next, H.next⟩ := ⟨_, rfl⟩
  have hg : ∀ n, W.get n = H.get n := fun n => by rw [hW]; rfl
  have hN : W.next = H.next := by rw [hW]
  have hE : ∀ G, Grow W G → Ext H G := fun G g => ⟨by rw [← hN]; exact g.next, fun n k => by rw [g.get n (by rw [hN]; exact k), hg]⟩
  have hG : Grow W W := Grow.refl (by rw [hW]; exact Nat.le_refl _)
  rw [← hW]
  have pev : ev.plain = true := lpl hV.len
  have hel := hV.len
  have hrlen := hRs.len
  have ats : ∀ mb, atoms [ev, I p.gain, I p.drop, I p.fall, I p.out, I p.ahead, .map mb] = true := fun mb => by rw [atoms, (len_one hel).2]; rfl
  refine Ok.seq ?_
  refine Ok.region ?_
  refine OkO.box rfl rfl ?_
  refine OkO.assign rfl rfl ?_
  refine OkO.assign rfl rfl ?_
  refine OkO.nil ?_
  refine Ok.seq ?_
  refine Ok.region ?_
  refine OkO.load rfl rfl (ldg (n := 6) (by kernel_rfl) (by first | assumption | (simp (disch := first | omega | (simp only [hNw, hPt]; omega)) only [gn0, gn1, gn2, gn3, gn4, gn5, gp0, gno, gpo] <;> first | rfl | assumption | exact gp0 _ _ _ | exact gn0 _ _)) (by first | rfl | assumption)) ?_
  refine OkO.move rfl rfl ?_
  refine OkO.callV rfl rfl rfl rfl rfl (c60N (m + 0) ev rv p rows _ (hV.ext (hE _ (by (try dsimp only); repeat (first | exact hG | apply Grow.new | (refine Grow.put ?_ _ (by first | omega | (simp only [hNw, hPt]; omega))))))) (hRs.ext (hE _ (by (try dsimp only); repeat (first | exact hG | apply Grow.new | (refine Grow.put ?_ _ (by first | omega | (simp only [hNw, hPt]; omega))))))) hpl hrl hlens9 hf hpossF) ?_ -- "sackung/alarm.allPossible"
  refine OkO.move rfl rfl ?_
  refine OkO.extract rfl rfl rfl ?_
  refine OkO.extract rfl rfl rfl ?_
  refine OkO.alloc (z := [.nils, .int .i64 0, .int .i64 0, .int .i64 0, .int .i64 0, .int .i64 0, .nilm]) rfl (by kernel_rfl) ?_
  refine OkO.store rfl rfl rfl (sAc (n := 7) (ag := true) (by kernel_rfl) (by first | assumption | (simp (disch := first | omega | (simp only [hNw, hPt]; omega)) only [gn0, gn1, gn2, gn3, gn4, gn5, gp0, gno, gpo] <;> first | rfl | assumption | exact gp0 _ _ _ | exact gn0 _ _)) rfl (by first | rfl | assumption) (by first | rfl | exact spl_set _ _ _ (by first | assumption | omega | (simp; omega)))) ?_
  refine OkO.assign rfl rfl ?_
  refine OkO.nil ?_
  refine Ok.seq ?_
  refine Ok.seq ?_
  refine Ok.region ?_
  refine OkO.move rfl rfl ?_
  refine OkO.bin rfl rfl rfl ((bin_neq _ _).trans (congrArg (fun b => some (AV.bool b)) (show _ = true from (by rfl)))) ?_
  refine OkO.nil ?_
  refine Ok.condT rfl ?_
  refine Ok.seq ?_
  refine Ok.region ?_
  refine OkO.move rfl rfl ?_
  refine OkO.assign rfl rfl ?_
  refine OkO.assign rfl rfl ?_
  refine OkO.nil ?_
  refine Ok.ret ⟨.inr rfl, ?_⟩
  exact back_flat (resV_tmp rfl (resV_tmp rfl resV_nil)) rfl rfl (by rw [← hW]; exact (by (try dsimp only); repeat (first | exact hG | apply Grow.new | (refine Grow.put ?_ _ (by first | omega | (simp only [hNw, hPt]; omega))))))
theorem c21Y (m : Nat) (ev rv : AV) (p : Pst) (rows : List (List Int)) (H : Heap) (hV : Ints H ev p.errs) (hRs : LstAt H rv rows) (hpl : p.errs.length ≤ 100000) (hrl : rows.length ≤ 100000) (hlens9 : ∀ r ∈ rows, r.length ≤ 100000) (hf : faultE p rows = 0) (hpossT : possB p rows rows.length = true) : ∃ v H', RR (m + 7) (.fn 21 [.agg (p.c ev), rv]) H = some (v, H') ∧ ∃ x, v = .tup [x, I 0] ∧ Ret H H' ∧ Mine H.next H' x 45 3 (stCells p rows rows.length) := by
  show ∃ v H', evFn Try.prog (RR (m + 6)) 21 [.agg (p.c ev), rv] H = some (v, H') ∧ ∃ x, v = .tup [x, I 0] ∧ Ret H H' ∧ Mine H.next H' x 45 3 (stCells p rows rows.length)
  refine fn_okE Try.func21 rfl rfl (by kernel_rfl) (by kernel_rfl) ?_
  obtain ⟨W, hW⟩ : ∃ W : Heap, W = ⟨H.t, H.next, H.next⟩ := ⟨_, rfl⟩
  have hg : ∀ n, W.get n = H.get n := fun n => by rw [hW]; rfl
  have hN : W.next = H.next := by rw [hW]
  have hE : ∀ G, Grow W G → Ext H G := fun G g => ⟨by rw [← hN]; exact g.next, fun n k => by rw [g.get n (by rw [hN]; exact k), hg]⟩
  have hG : Grow W W := Grow.refl (by rw [hW]; exact Nat.le_refl _)
  rw [← hW]
  have pev : ev.plain = true := lpl hV.len
  have hel := hV.len
  have hrlen := hRs.len
  have ats : ∀ mb, atoms [ev, I p.gain, I p.drop, I p.fall, I p.out, I p.ahead, .map mb] = true := fun mb => by rw [atoms, (len_one hel).2]; rfl
  obtain ⟨hok, hr60, hlens, hrbd⟩ := faultE_facts hf
  obtain ⟨⟨hp1, hp2⟩, hpe, hpg, hpd, hpf, hpo1, hpo2⟩ := Pst.ok_facts hok
  refine Ok.seq ?_
  refine Ok.region ?_
  refine OkO.box rfl rfl ?_
  refine OkO.assign rfl rfl ?_
  refine OkO.assign rfl rfl ?_
  refine OkO.nil ?_
  refine Ok.seq ?_
  refine Ok.region ?_
  refine OkO.load rfl rfl (ldg (n := 6) (by kernel_rfl) (by first | assumption | (simp (disch := first | omega | (simp only [hNw, hPt]; omega)) only [gn0, gn1, gn2, gn3, gn4, gn5, gp0, gno, gpo] <;> first | rfl | assumption | exact gp0 _ _ _ | exact gn0 _ _)) (by first | rfl | assumption)) ?_
  refine OkO.move rfl rfl ?_
  refine OkO.callE rfl rfl rfl rfl rfl (c60Y (m + 0) ev rv p rows _ (hV.ext (hE _ (by (try dsimp only); repeat (first | exact hG | apply Grow.new | (refine Grow.put ?_ _ (by first | omega | (simp only [hNw, hPt]; omega))))))) (hRs.ext (hE _ (by (try dsimp only); repeat (first | exact hG | apply Grow.new | (refine Grow.put ?_ _ (by first | omega | (simp only [hNw, hPt]; omega))))))) hpl hrl hlens9 hf hpossT) ?_ -- "sackung/alarm.allPossible"
  rintro _ H60 ⟨mb, rfl, q60, dm60⟩
  have n1 := q60.ext.next
  try simp only [hNw, hPt] at n1
  have gg1 : Grow W H60 := Grow.ret (by (try dsimp only); repeat (first | exact hG | apply Grow.new | (refine Grow.put ?_ _ (by first | omega | (simp only [hNw, hPt]; omega))))) q60
  refine OkO.move rfl rfl ?_
  refine OkO.extract rfl rfl rfl ?_
  refine OkO.extract rfl rfl rfl ?_
  refine OkO.alloc (z := [.nils, .int .i64 0, .int .i64 0, .int .i64 0, .int .i64 0, .int .i64 0, .nilm]) rfl (by kernel_rfl) ?_
  refine OkO.store rfl rfl rfl (sAc (n := 7) (ag := true) (by kernel_rfl) (by first | assumption | (simp (disch := first | omega | (simp only [hNw, hPt]; omega)) only [gn0, gn1, gn2, gn3, gn4, gn5, gp0, gno, gpo] <;> first | rfl | assumption | exact gp0 _ _ _ | exact gn0 _ _)) rfl (by first | rfl | assumption | exact ats _) (by first | rfl | exact spl_set _ _ _ (by first | assumption | omega | (simp; omega)))) ?_
  refine OkO.assign rfl rfl ?_
  refine OkO.nil ?_
  refine Ok.seq ?_
  refine Ok.seq ?_
  refine Ok.region ?_
  refine OkO.move rfl rfl ?_
  refine OkO.bin rfl rfl rfl ((bin_neq _ _).trans (congrArg (fun b => some (AV.bool b)) (show _ = false from (by rfl)))) ?_
  refine OkO.nil ?_
  refine Ok.condF rfl ?_
  refine Ok.skip ?_
  refine Ok.seq ?_
  refine Ok.region ?_
  refine OkO.assign rfl rfl ?_
  refine OkO.nil ?_
  refine Ok.seq ?_
  refine Ok.seq ?_
  refine Ok.region ?_
  refine OkO.move rfl rfl ?_
  refine OkO.builtin rfl rfl rfl (bln (by kernel_rfl) (by first | assumption | rfl)) ?_
  refine OkO.move rfl rfl ?_
  refine OkO.nil ?_
  refine Ok.block ?_
  obtain ⟨H6, hH6⟩ : ∃ H6, H6 = ((H60.new (.cells [.nils, I 0, I 0, I 0, I 0, I 0, .nilm] 114)).put H60.next (.cells (p.d ev mb) 114)) := ⟨_, rfl⟩
  have dm6 : DutyM 0 H6 mb p rows := by rw [hH6]; exact (dm60.to (by repeat (first | exact Ext.refl _ | (refine Ext.put ?_ _ (by first | omega | (simp only [hNw, hPt]; omega))) | apply Ext.new))).low (Nat.zero_le _)
  have e6 : H6.get H60.next = some (.cells (p.d ev mb) 114) := by rw [hH6]; exact gp0 _ _ _
  have n6 : H6.next = H60.next + 1 := by rw [hH6]; simp
  have g6 : Grow W H6 := by rw [hH6]; exact (by (try dsimp only); repeat (first | exact gg1 | apply Grow.new | (refine Grow.put ?_ _ (by first | omega | (simp only [hNw, hPt]; omega)))))
  refine Ok.loop (fun n s => ∃ (i : Nat) (ov : AV), n = rows.length - i ∧ i ≤ rows.length ∧ Mine H6.next s.H ov 45 3 (stCells p rows i) ∧ Has 6 [(6, .ptr H60.next 0), (8, ov), (20, I (rows.length : Int)), (21, I (i : Int))] s.T ∧ s.D = [] ∧ Grow W s.H ∧ Ext H6 s.H) (rows.length) (by unfold loopFuel; omega)
    ⟨0, .nils, rfl, Nat.zero_le _, Mine.nil _ _ _ _, Has.of (by kernel_rfl), rfl, by rw [hH6] at g6; exact g6, by rw [hH6]; exact Ext.refl _⟩ ?_
  rintro n ⟨T, D, G⟩ ⟨i, ov, hn, hi, hm, ⟨f_, hT⟩, hD, hg, hx9⟩
  dsimp only at *
  subst hT hD
  have hgn := hg.next
  have e6b : (G.get H60.next).bind AObj.cs = some (p.d ev mb) := by rw [hx9.get _ (by omega), e6]; rfl
  have hx9n := hx9.next
  refine Ok.seq ?_
  refine Ok.region ?_
  refine OkO.bin rfl rfl rfl (bin_lss _ _) ?_
  refine OkO.nil ?_
  refine Ok.seq ?_
  refine Ok.cond rfl (fun h1 => ?_) (fun h1 => ?_)
  · -- yes h1
    have hlt : i < rows.length := by simpa using h1
    refine Ok.skip ?_
    refine Ok.seq ?_
    refine Ok.block ?_
    refine Ok.seq ?_
    refine Ok.region ?_
    refine OkO.move rfl rfl ?_
    refine OkO.assign rfl rfl ?_
    refine OkO.nil ?_
    refine Ok.region ?_
    refine OkO.move rfl rfl ?_
    refine OkO.load rfl rfl (ldg (n := 7) (by kernel_rfl) (by first | assumption | (simp (disch := first | omega | (simp only [hNw, hPt]; omega)) only [gn0, gn1, gn2, gn3, gn4, gn5, gp0, gno, gpo] <;> first | rfl | assumption | exact gp0 _ _ _ | exact gn0 _ _)) (by first | rfl | assumption)) ?_
    refine OkO.move rfl rfl ?_
    refine OkO.callV rfl rfl rfl rfl rfl (c61 (m + 1) ev p mb i rows _ ((dm6.to hx9).low (Nat.zero_le _)).2.2 (by have := dm6.2.1; omega) hel (by omega) (spdL_all hpossT hlt) ⟨hpg, hpf, hpo1, hpo2⟩ (by omega)) ?_ -- "(sackung/alarm.duty).state"
    refine OkO.buildSlice (el := 45) (sz := 3) (z := [.int .i64 0, .int .i64 0, .int .u8 0]) rfl (by kernel_rfl) (by decide) rfl rfl ?_
    refine OkO.builtinE rfl rfl rfl (Mine.app2 (W := W) (k0 := H6.next) (t := 32) (u := 32) (sz := 3) (by_ := 24) (e := 45) (n := 1) (new := stc p rows i) (hm.to (by repeat (first | exact Ext.refl _ | apply Ext.new))) (by repeat (first | exact hg | apply Grow.new)) (by omega) (by simp; omega) (by kernel_rfl) (by kernel_rfl) (elems_new (n := 1) (sz := 3) rfl) rfl rfl (by have h9 := stCells_len p rows i; omega) (by omega) (by omega) rfl) ?_
    rintro v2 G2 ⟨r1, r2, r3, r4, r5, _⟩
    simp only [hNw] at r5
    refine OkO.assign rfl rfl ?_
    refine OkO.nil ?_
    refine Ok.region ?_
    refine OkO.bin rfl rfl rfl (bin_add (by omega) (by omega)) ?_
    refine OkO.move rfl rfl ?_
    refine OkO.nil ?_
    refine ⟨rows.length - (i + 1), by omega, i + 1, _, rfl, by omega, by rw [stCells_succ]; exact r1, Has.of (by kernel_rfl), rfl, r2, ⟨by (show H6.next ≤ G2.next; omega), fun j hj => ?_⟩⟩
    rw [r3.get j hj (by simp only [hNw]; omega), gno _ _ _ (by omega)]
    exact hx9.get j hj
  · -- no h1
    have hge : i = rows.length := by simp at h1; omega
    subst hge
    refine Ok.exit ?_
    refine Ok.seq ?_
    refine Ok.region ?_
    refine OkO.move rfl rfl ?_
    refine OkO.assign rfl rfl ?_
    refine OkO.assign rfl rfl ?_
    refine OkO.nil ?_
    refine Ok.ret ⟨.inr rfl, ?_⟩
    refine back_newA rfl rfl (by rw [← hW]; exact hg) (fun H9 p1 p2 => ⟨ov, rfl, p1, ?_⟩)
    exact (hm.low (by omega)).backT p2 flat_tup2
end
end Go.Ev

set_option maxRecDepth 100000
set_option linter.unusedSimpArgs false
set_option linter.unusedVariables false
namespace Go.Ev
open Go Go.Proofs
noncomputable section
theorem possB_mono {p : Pst} {rows : List (List Int)} {r s : Nat} (h : possB p rows s = true) (hr : r ≤ s) : possB p rows r = true := by
  obtain ⟨i, hi, h1⟩ := possB_iff.1 h
  exact possB_iff.2 ⟨i, hi, by omega⟩
/-- What Breaks answers. -/
def brkV (p : Pst) (rows : List (List Int)) : AV := match (List.range rows.length).find? (fun h => !possB p rows (h + 1)) with
  | some h => .tup [I (h : Int), I 0]
  | none => .tup [I 0, I 7]
end
end Go.Ev

set_option maxRecDepth 100000
set_option linter.unusedSimpArgs false
set_option linter.unusedVariables false
namespace Go.Ev
open Go Go.Proofs
noncomputable section
/-- The gauges with which a truth is possible. -/
def fldL (p : Pst) (rows : List (List Int)) (r : Nat) : Nat → List Int
  | 0 => []
  | i + 1 => fldL p rows r i ++ (if r ≤ lenM p rows i then [(i : Int) - 1] else [])
theorem fldL_yes {p : Pst} {rows : List (List Int)} {r i : Nat} (h : r ≤ lenM p rows i) : fldL p rows r (i + 1) = fldL p rows r i ++ [(i : Int) - 1] := by
  show fldL p rows r i ++ (if r ≤ lenM p rows i then _ else _) = _
  rw [if_pos h]
theorem fldL_no {p : Pst} {rows : List (List Int)} {r i : Nat} (h : ¬ r ≤ lenM p rows i) : fldL p rows r (i + 1) = fldL p rows r i := by
  show fldL p rows r i ++ (if r ≤ lenM p rows i then _ else _) = _
  rw [if_neg h, List.append_nil]
theorem fldL_len (p : Pst) (rows : List (List Int)) (r : Nat) : ∀ i, (fldL p rows r i).length ≤ i
  | 0 => by simp [fldL]
  | i + 1 => by
    have := fldL_len p rows r i
    show (fldL p rows r i ++ _).length ≤ _
    rw [List.length_append]
    split <;> simp <;> omega
noncomputable def as28 : Code := match Try.f28.body.bind rangeOf with | some r => r.1 | none => .skip
noncomputable def bd28 : Code := match Try.f28.body.bind rangeOf with | some r => r.2 | none => .skip
theorem r28 (m B r9 i : Nat) (p : Pst) (rows : List (List Int)) (x : AV) (T0 : Tr AV) (W X G : Heap) (hH : Has 5 [(8, .ptr B 0)] T0) (hJ : (fun i G => RngJ X [B] .ready none [23, 24] as28 bd28 T0 G ∧ ∃ ov, G.get B = some (.cells [ov] 22) ∧ Mine (X.next + 2) G ov 3 1 ((fldL p rows r9 i).map I)) i G) (gX : Grow W X) (hB : W.next ≤ B) (hN : B + 1 ≤ X.next) (hi : i ≤ p.errs.length) (hpl : p.errs.length ≤ 1000) (hr : r9 ≤ lenM p rows i) (hlo : W.next ≤ G.lo) :
    ∃ v H', RR (m + 1) (.round (X.next + 1) [I ((i : Int) - 1), x]) G = some (v, H') ∧ v = .bool true ∧ (fun i G => RngJ X [B] .ready none [23, 24] as28 bd28 T0 G ∧ ∃ ov, G.get B = some (.cells [ov] 22) ∧ Mine (X.next + 2) G ov 3 1 ((fldL p rows r9 i).map I)) (i + 1) H' ∧ W.next ≤ H'.lo ∧ H'.lo ≤ X.next + 1 ∧ G.next ≤ H'.next := by
  show ∃ v H', evRound Try.prog (RR m) (X.next + 1) [I ((i : Int) - 1), x] G = some (v, H') ∧ v = .bool true ∧ (fun i G => RngJ X [B] .ready none [23, 24] as28 bd28 T0 G ∧ ∃ ov, G.get B = some (.cells [ov] 22) ∧ Mine (X.next + 2) G ov 3 1 ((fldL p rows r9 i).map I)) (i + 1) H' ∧ W.next ≤ H'.lo ∧ H'.lo ≤ X.next + 1 ∧ G.next ≤ H'.next
  obtain ⟨fr, hT⟩ := hH
  obtain ⟨hj, ov, h3, hov⟩ := hJ
  subst hT
  have hnx := hj.nx
  refine round_okR hj.b1 rfl ?_
  refine Ok.region ?_
  refine OkO.assign rfl rfl ?_
  refine OkO.nil ?_
  refine ⟨rfl, _, _, _, _, _, _, hj.b1, ?_⟩
  obtain ⟨G1, hG1⟩ : ∃ G1, G1 = G.put (X.next + 1) (.loop .busy none (mkT 5 0 1 (upd fr [(8, .ptr B 0)])) [23, 24] as28 bd28 X.next) := ⟨_, rfl⟩
  rw [← hG1]
  have hj1 : RngJ X [B] .busy none [23, 24] as28 bd28 (mkT 5 0 1 (upd fr [(8, .ptr B 0)])) G1 := by rw [hG1]; exact hj.turn
  have n1 : G1.next = G.next := by rw [hG1]; simp
  have hn1 := hj1.nx
  have hov1 : Mine (X.next + 2) G1 ov 3 1 ((fldL p rows r9 i).map I) := by rw [hG1]; exact hov.putO _ hj.b1 nofun
  have e3 : G1.get B = some (.cells [ov] 22) := by rw [hG1, gpo _ _ _ _ (by omega)]; exact h3
  have e3b : (G1.get B).bind AObj.cs = some [ov] := by rw [e3]; rfl
  obtain ⟨mo, hmo, _⟩ := hov1.len
  have hlo1 : W.next ≤ G1.lo := by rw [hG1, Heap.lo_put]; omega
  have gW : Grow W G1 := hj1.grow gX (fun j hj => by simp at hj; omega) hlo1
  refine Ok.block ?_
  refine Ok.region ?_
  refine OkO.load rfl rfl (lda (n := 1) (by kernel_rfl) (by first | assumption | (simp (disch := first | omega | (simp only [hNw, hPt]; omega)) only [gn0, gn1, gn2, gn3, gn4, gn5, gp0, gno, gpo] <;> first | rfl | assumption | exact gp0 _ _ _ | exact gn0 _ _)) (by first | rfl | assumption)) ?_
  refine OkO.move rfl rfl ?_
  refine OkO.buildSlice (el := 3) (sz := 1) (z := [.int .i64 0]) rfl (by kernel_rfl) (by decide) rfl rfl ?_
  refine OkO.builtinE rfl rfl rfl (Mine.app2 (W := W) (k0 := X.next + 2) (t := 22) (u := 22) (sz := 1) (by_ := 8) (e := 3) (n := 1) (new := [I ((i : Int) - 1)]) (hov1.to (by repeat (first | exact Ext.refl _ | apply Ext.new))) (by repeat (first | exact gW | apply Grow.new)) (by omega) (by simp; omega) (by kernel_rfl) (by kernel_rfl) (elems_new (n := 1) (sz := 1) rfl) rfl rfl (by have h9 := fldL_len p rows r9 i; simp; omega) (by omega) (by omega) rfl) ?_
  rintro v2 G2 ⟨r2, r3, r4, r5, r6, _⟩
  simp only [hNw] at r5 r6
  have v2o := r2.one
  have q3 : (G2.get B).bind AObj.cs = some [ov] := by rw [r5 _ (by omega) (hov1.far (by omega)), gno _ _ _ (by omega)]; exact e3b
  have q3o : G2.get B = some (.cells [ov] 22) := by rw [r5 _ (by omega) (hov1.far (by omega)), gno _ _ _ (by omega)]; exact e3
  refine OkO.store rfl rfl rfl (sAc (n := 1) (ag := false) (l := [v2]) (by kernel_rfl) q3o (by rw [v2o.1]; rfl) (by rw [v2o.1]; simp [atoms, v2o.2]) (by rw [v2o.1]; rfl)) ?_
  refine OkO.nil ?_
  have qb1 := (r5 (X.next + 1) (by omega) (hov1.far (by omega))).trans ((gno _ _ _ (by omega)).trans hj1.b1)
  have qp1 := (gpo G2 B (X.next + 1) (.cells [v2] 22) (by omega)).trans qb1
  refine ⟨_, _, _, _, _, _, _, qp1, .inl ⟨rfl, rfl, ⟨RngJ.turn ((hj1.move (fun j hj => by simp at hj; omega) (by simp only [hPt]; omega) (fun j a c => ?_))), v2, ?_, ?_⟩, ?_, ?_, ?_⟩⟩
  · rw [gpo _ _ _ _ (fun e => c (by simp [e])), r5 _ (by omega) (hov1.far (by omega)), gno _ _ _ (by omega)]
  · rw [gpo _ _ _ _ (by omega)]; exact gp0 _ _ _
  · rw [fldL_yes hr, List.map_append]
    exact (r2.put _ (by omega)).putO _ qp1 nofun
  · have := r3.lo; simp only [Heap.lo_put]; omega
  · simp only [Heap.lo_put]; omega
  · simp only [hPt]; omega
theorem c28N (m : Nat) (ev rv : AV) (p : Pst) (rows : List (List Int)) (H : Heap) (hV : Ints H ev p.errs) (hRs : LstAt H rv rows) (hpl : p.errs.length ≤ 100000) (hrl : rows.length ≤ 100000) (hlens9 : ∀ r ∈ rows, r.length ≤ 100000) (hf : faultE p rows = 0) (hpossF : possB p rows rows.length = false) : RR (m + 7) (.fn 28 [.agg (p.c ev), rv]) H = some (.tup [.nils, I 9], H) := by
  refine (R_fn _ _ _ _ _).trans ?_
  refine fn_ok Try.func28 rfl rfl (by kernel_rfl) (by kernel_rfl) ?_
  obtain ⟨W, hW⟩ : ∃ W : Heap, W = ⟨H.t, H.next, H.next⟩ := ⟨_, rfl⟩
  have hg : ∀ n, W.get n = H.get n := fun n => by rw [hW]; rfl
  have hN : W.next = H.next := by rw [hW]
  have hE : ∀ G, Grow W G → Ext H G := fun G g => ⟨by rw [← hN]; exact g.next, fun n k => by rw [g.get n (by rw [hN]; exact k), hg]⟩
  have hG : Grow W W := Grow.refl (by rw [hW]; exact Nat.le_refl _)
  rw [← hW]
  have pev : ev.plain = true := lpl hV.len
  have hel := hV.len
  have hrlen := hRs.len
  have ats : ∀ mb, atoms [ev, I p.gain, I p.drop, I p.fall, I p.out, I p.ahead, .map mb] = true := fun mb => by rw [atoms, (len_one hel).2]; rfl
  refine Ok.seq ?_
  refine Ok.region ?_
  refine OkO.box rfl rfl ?_
  refine OkO.assign rfl rfl ?_
  refine OkO.assign rfl rfl ?_
  refine OkO.nil ?_
  refine Ok.seq ?_
  refine Ok.region ?_
  refine OkO.load rfl rfl (ldg (n := 6) (by kernel_rfl) (by first | assumption | (simp (disch := first | omega | (simp only [hNw, hPt]; omega)) only [gn0, gn1, gn2, gn3, gn4, gn5, gp0, gno, gpo] <;> first | rfl | assumption | exact gp0 _ _ _ | exact gn0 _ _)) (by first | rfl | assumption)) ?_
  refine OkO.move rfl rfl ?_
  refine OkO.callV rfl rfl rfl rfl rfl (c60N (m + 0) ev rv p rows _ (hV.ext (hE _ (by (try dsimp only); repeat (first | exact hG | apply Grow.new | (refine Grow.put ?_ _ (by first | omega | (simp only [hNw, hPt]; omega))))))) (hRs.ext (hE _ (by (try dsimp only); repeat (first | exact hG | apply Grow.new | (refine Grow.put ?_ _ (by first | omega | (simp only [hNw, hPt]; omega))))))) hpl hrl hlens9 hf hpossF) ?_ -- "sackung/alarm.allPossible"
  refine OkO.move rfl rfl ?_
  refine OkO.extract rfl rfl rfl ?_
  refine OkO.extract rfl rfl rfl ?_
  refine OkO.alloc (z := [.nils, .int .i64 0, .int .i64 0, .int .i64 0, .int .i64 0, .int .i64 0, .nilm]) rfl (by kernel_rfl) ?_
  refine OkO.store rfl rfl rfl (sAc (n := 7) (ag := true) (by kernel_rfl) (by first | assumption | (simp (disch := first | omega | (simp only [hNw, hPt]; omega)) only [gn0, gn1, gn2, gn3, gn4, gn5, gp0, gno, gpo] <;> first | rfl | assumption | exact gp0 _ _ _ | exact gn0 _ _)) rfl (by first | rfl | assumption) (by first | rfl | exact spl_set _ _ _ (by first | assumption | omega | (simp; omega)))) ?_
  refine OkO.assign rfl rfl ?_
  refine OkO.nil ?_
  refine Ok.seq ?_
  refine Ok.seq ?_
  refine Ok.region ?_
  refine OkO.move rfl rfl ?_
  refine OkO.bin rfl rfl rfl ((bin_neq _ _).trans (congrArg (fun b => some (AV.bool b)) (show _ = true from (by rfl)))) ?_
  refine OkO.nil ?_
  refine Ok.condT rfl ?_
  refine Ok.seq ?_
  refine Ok.region ?_
  refine OkO.move rfl rfl ?_
  refine OkO.assign rfl rfl ?_
  refine OkO.assign rfl rfl ?_
  refine OkO.nil ?_
  refine Ok.ret ⟨.inr rfl, ?_⟩
  exact back_flat (resV_tmp rfl (resV_tmp rfl resV_nil)) rfl rfl (by rw [← hW]; exact (by (try dsimp only); repeat (first | exact hG | apply Grow.new | (refine Grow.put ?_ _ (by first | omega | (simp only [hNw, hPt]; omega))))))
theorem c28Y (m : Nat) (ev rv : AV) (p : Pst) (rows : List (List Int)) (H : Heap) (hV : Ints H ev p.errs) (hRs : LstAt H rv rows) (hpl : p.errs.length ≤ 100000) (hrl : rows.length ≤ 100000) (hlens9 : ∀ r ∈ rows, r.length ≤ 100000) (hf : faultE p rows = 0) (hpossT : possB p rows rows.length = true) : ∃ v H', RR (m + 7) (.fn 28 [.agg (p.c ev), rv]) H = some (v, H') ∧ ∃ x, v = .tup [x, I 0] ∧ Ret H H' ∧ Mine H.next H' x 3 1 ((fldL p rows rows.length (p.errs.length + 1)).map I) := by
  show ∃ v H', evFn Try.prog (RR (m + 6)) 28 [.agg (p.c ev), rv] H = some (v, H') ∧ ∃ x, v = .tup [x, I 0] ∧ Ret H H' ∧ Mine H.next H' x 3 1 ((fldL p rows rows.length (p.errs.length + 1)).map I)
  refine fn_okE Try.func28 rfl rfl (by kernel_rfl) (by kernel_rfl) ?_
  obtain ⟨W, hW⟩ : ∃ W : Heap, W = ⟨H.t, H.next, H.next⟩ := ⟨_, rfl⟩
  have hg : ∀ n, W.get n = H.get n := fun n => by rw [hW]; rfl
  have hN : W.next = H.next := by rw [hW]
  have hE : ∀ G, Grow W G → Ext H G := fun G g => ⟨by rw [← hN]; exact g.next, fun n k => by rw [g.get n (by rw [hN]; exact k), hg]⟩
  have hG : Grow W W := Grow.refl (by rw [hW]; exact Nat.le_refl _)
  rw [← hW]
  have pev : ev.plain = true := lpl hV.len
  have hel := hV.len
  have hrlen := hRs.len
  have ats : ∀ mb, atoms [ev, I p.gain, I p.drop, I p.fall, I p.out, I p.ahead, .map mb] = true := fun mb => by rw [atoms, (len_one hel).2]; rfl
  obtain ⟨hok, hr60, hlens, hrbd⟩ := faultE_facts hf
  obtain ⟨⟨hp1, hp2⟩, hpe, hpg, hpd, hpf, hpo1, hpo2⟩ := Pst.ok_facts hok
  refine Ok.seq ?_
  refine Ok.region ?_
  refine OkO.box rfl rfl ?_
  refine OkO.assign rfl rfl ?_
  refine OkO.assign rfl rfl ?_
  refine OkO.nil ?_
  refine Ok.seq ?_
  refine Ok.region ?_
  refine OkO.load rfl rfl (ldg (n := 6) (by kernel_rfl) (by first | assumption | (simp (disch := first | omega | (simp only [hNw, hPt]; omega)) only [gn0, gn1, gn2, gn3, gn4, gn5, gp0, gno, gpo] <;> first | rfl | assumption | exact gp0 _ _ _ | exact gn0 _ _)) (by first | rfl | assumption)) ?_
  refine OkO.move rfl rfl ?_
  refine OkO.callE rfl rfl rfl rfl rfl (c60Y (m + 0) ev rv p rows _ (hV.ext (hE _ (by (try dsimp only); repeat (first | exact hG | apply Grow.new | (refine Grow.put ?_ _ (by first | omega | (simp only [hNw, hPt]; omega))))))) (hRs.ext (hE _ (by (try dsimp only); repeat (first | exact hG | apply Grow.new | (refine Grow.put ?_ _ (by first | omega | (simp only [hNw, hPt]; omega))))))) hpl hrl hlens9 hf hpossT) ?_ -- "sackung/alarm.allPossible"
  rintro _ H60 ⟨mb, rfl, q60, dm60⟩
  have n1 := q60.ext.next
  try simp only [hNw, hPt] at n1
  have gg1 : Grow W H60 := Grow.ret (by (try dsimp only); repeat (first | exact hG | apply Grow.new | (refine Grow.put ?_ _ (by first | omega | (simp only [hNw, hPt]; omega))))) q60
  have dmh := dm60.2.1
  refine OkO.move rfl rfl ?_
  refine OkO.extract rfl rfl rfl ?_
  refine OkO.extract rfl rfl rfl ?_
  refine OkO.alloc (z := [.nils, .int .i64 0, .int .i64 0, .int .i64 0, .int .i64 0, .int .i64 0, .nilm]) rfl (by kernel_rfl) ?_
  refine OkO.store rfl rfl rfl (sAc (n := 7) (ag := true) (by kernel_rfl) (by first | assumption | (simp (disch := first | omega | (simp only [hNw, hPt]; omega)) only [gn0, gn1, gn2, gn3, gn4, gn5, gp0, gno, gpo] <;> first | rfl | assumption | exact gp0 _ _ _ | exact gn0 _ _)) rfl (by first | rfl | assumption | exact ats _) (by first | rfl | exact spl_set _ _ _ (by first | assumption | omega | (simp; omega)))) ?_
  refine OkO.assign rfl rfl ?_
  refine OkO.nil ?_
  refine Ok.seq ?_
  refine Ok.seq ?_
  refine Ok.region ?_
  refine OkO.move rfl rfl ?_
  refine OkO.bin rfl rfl rfl ((bin_neq _ _).trans (congrArg (fun b => some (AV.bool b)) (show _ = false from (by rfl)))) ?_
  refine OkO.nil ?_
  refine Ok.condF rfl ?_
  refine Ok.skip ?_
  refine Ok.seq ?_
  refine Ok.region ?_
  refine OkO.alloc (z := [.nils]) rfl (by kernel_rfl) ?_
  refine OkO.nil ?_
  refine Ok.seq ?_
  refine Ok.seq ?_
  refine Ok.region ?_
  refine OkO.load rfl rfl (ldg (n := 7) (by kernel_rfl) (by first | assumption | (simp (disch := first | omega | (simp only [hNw, hPt]; omega)) only [gn0, gn1, gn2, gn3, gn4, gn5, gp0, gno, gpo] <;> first | rfl | assumption | exact gp0 _ _ _ | exact gn0 _ _)) (by first | rfl | assumption)) ?_
  refine OkO.move rfl rfl ?_
  refine OkO.builtin rfl rfl rfl (bln (by kernel_rfl) (by first | assumption | rfl)) ?_
  refine OkO.callE rfl rfl rfl rfl rfl (c66 (m + 5) ev p mb (rows.length : Int) _) ?_ -- "(sackung/alarm.duty).failures"
  rintro _ X ⟨rfl, q66, x1, x2, x3⟩
  simp only [hNw, hPt] at x1 x2 x3
  have n66 := q66.ext.next
  simp only [hNw, hPt] at n66
  have g66 : Grow W X := Grow.ret (by (try dsimp only); repeat (first | exact gg1 | apply Grow.new | (refine Grow.put ?_ _ (by first | omega | (simp only [hNw, hPt]; omega))))) q66
  have dmX := dm60.to (Ext.trans (by repeat (first | exact Ext.refl _ | (refine Ext.put ?_ _ (by first | omega | (simp only [hNw, hPt]; omega))) | apply Ext.new)) q66.ext)
  have xs : X.get (H60.next + 1) = some (.cells [.nils] 22) := by rw [q66.ext.get _ (by first | omega | (simp only [hNw, hPt]; omega))]; (have h9 := gn0 ((H60.new (.cells [.nils, I 0, I 0, I 0, I 0, I 0, .nilm] 114)).put H60.next (.cells (p.d ev mb) 114)) (.cells [.nils] 22)); rw [show ((H60.new (.cells [.nils, I 0, I 0, I 0, I 0, I 0, .nilm] 114)).put H60.next (.cells (p.d ev mb) 114)).next = H60.next + 1 from by simp] at h9; exact h9
  refine OkO.nil ?_
  refine Ok.block ?_
  obtain ⟨o, vs, hmo, ho, hvl, hvm⟩ := (dmX.low (Nat.zero_le _)).2.2
  refine Ok.rangeR rfl rfl (fun T0 hT0 => ?_)
  have hH : Has 5 [(8, .ptr (H60.next + 1) 0)] T0 := by rw [hT0]; exact Has.of (by kernel_rfl)
  have hvs : ∀ (i : Nat) (x : AV), vs[i]? = some x → lenOf x = some (lenM p rows i) := fun i x hx => by (have h9 := (hvm i x hx).ivs.len; rw [List.length_map] at h9; exact h9)
  have xmo : X.get mb = some o := hmo
  have xvm : ∀ (j : Nat) (x : AV), vs[j]? = some x → Mine 0 X x 125 2 (ivCells (mayL p ((j : Int) - 1) rows)) := fun j x hj => hvm j x hj
  obtain ⟨v3, H3, k1, k2, k3⟩ := c88 (m + 5) (X.next + 1) (H60.next + 2) (H60.next + 3) W.next mb (rows.length) ev p rows vs (fun i G => RngJ X [H60.next + 1] .ready none [23, 24] as28 bd28 T0 G ∧ ∃ ov, G.get (H60.next + 1) = some (.cells [ov] 22) ∧ Mine (X.next + 2) G ov 3 1 ((fldL p rows rows.length i).map I)) (fun _ => False) ((X.new .defd).new (.loop .ready none T0 [23, 24] as28 bd28 X.next)) (fun i G G1 h e => ⟨h.1.to e, let ⟨ov, a, c⟩ := h.2; ⟨ov, by rw [e.get _ (by have h9 := h.1.nx; omega)]; exact a, c.to e⟩⟩) (fun G G1 h e => h.elim) (fun i G h => ⟨by rw [h.1.get _ (by omega) (by simp <;> omega), x1] <;> rfl, by rw [h.1.get _ (by omega) (by simp <;> omega), x2] <;> rfl, by have h9 := h.1.nx; omega, o, by rw [h.1.get _ (by omega) (by simp <;> omega)]; exact xmo, ho⟩) hvl hvs hel (by omega) (fun i G hi hr h => ⟨h.1, by rw [fldL_no hr]; exact h.2⟩) (fun i x G hi hx hr h hlo => by obtain ⟨v, H9, a1, a2, a3, a4, a5, a6⟩ := r28 (m + 4) (H60.next + 1) rows.length i p rows x T0 W X G hH h g66 (by omega) (by omega) hi (by omega) hr hlo; exact ⟨v, H9, a1, ⟨true, a2, .inl ⟨rfl, a3⟩⟩, a4, a5, a6⟩) (⟨RngJ.start _ _ _ _ _ _, .nils, by rw [gno _ _ _ (by simp; omega), gno _ _ _ (by omega)]; exact xs, Mine.nil _ _ _ _⟩) (by show W.next ≤ X.lo; exact g66.lo) (by omega)
  · -- to its end
    rcases k2 with k2 | k2
    rotate_left
    exact k2.elim
    refine ⟨v3, H3, k1, _, _, T0, [23, 24], as28, bd28, X.next, k2.1.b1, .inl ⟨rfl, rfl, ?_⟩⟩
    have g3 : Grow W H3 := k2.1.grow g66 (fun j hj => by simp at hj; omega) k3
    obtain ⟨kj, ov, ks, ko⟩ := k2
    have kn := kj.nx
    clear k1
    have yd := kj.b0
    have ysb : (H3.get (H60.next + 1)).bind AObj.cs = some [ov] := by rw [ks]; rfl
    refine Ok.seq ?_
    refine Ok.region ?_
    refine OkO.load rfl rfl (lda (n := 1) (by kernel_rfl) (by first | assumption | (simp (disch := first | omega | (simp only [hNw, hPt]; omega)) only [gn0, gn1, gn2, gn3, gn4, gn5, gp0, gno, gpo] <;> first | rfl | assumption | exact gp0 _ _ _ | exact gn0 _ _)) (by first | rfl | assumption)) ?_
    refine OkO.assign rfl rfl ?_
    refine OkO.assign rfl rfl ?_
    refine OkO.nil ?_
    refine Ok.ret ⟨.inr rfl, ?_⟩
    rw [back_mark (d := X.next) (by first | assumption | (simp (disch := first | omega | (simp only [hNw, hPt]; omega)) only [gn0, gn1, gn2, gn3, gn4, gn5, gp0, gno, gpo] <;> first | rfl | assumption | exact gp0 _ _ _ | exact gn0 _ _))]
    refine back_newA rfl rfl (by rw [← hW]; exact (by (try dsimp only); repeat (first | exact g3 | apply Grow.new | (refine Grow.put ?_ _ (by first | omega | (simp only [hNw, hPt]; omega)))))) (fun H9 p1 p2 => ⟨ov, rfl, p1, ?_⟩)
    exact ((((ko.put (n := X.next + 1) _ (by omega)).put (n := X.next + 1) _ (by omega)).put (n := X.next) _ (by omega)).low (by omega)).backT p2 flat_tup2
end
end Go.Ev

set_option maxRecDepth 100000
set_option linter.unusedSimpArgs false
set_option linter.unusedVariables false
namespace Go.Ev
open Go Go.Proofs
noncomputable section
/-- The truth of a sentence, as a bool. -/
def bP (P : Prop) : Bool := @decide P (Classical.propDecidable P)
def StepOk (p : Pst) (a c : Int) : Prop := a - p.drop ≤ c ∧ c ≤ a + p.gain
/-- The speeds move as the post says. -/
def MovP (p : Pst) (sp : List Int) : Prop := (∀ x ∈ sp, 0 ≤ x ∧ x ≤ 1000) ∧ ∀ (h : Nat) (h2 : h + 1 < sp.length), StepOk p (sp[h]'(by omega)) sp[h + 1]
/-- All gauges that work agree. -/
def AgrP (p : Pst) (f : Int) (rows : List (List Int)) (sp : List Int) : Prop := ∀ (h : Nat) (h1 : h < sp.length) (h2 : h < rows.length), AgreeR p f rows[h] sp[h]
def TruP (p : Pst) (rows : List (List Int)) (f : Int) (sp : List Int) : Prop := sp.length = rows.length ∧ (-1 ≤ f ∧ f ≤ (p.errs.length : Int) - 1) ∧ MovP p sp ∧ AgrP p f rows sp
end
end Go.Ev

set_option maxRecDepth 100000
set_option linter.unusedSimpArgs false
set_option linter.unusedVariables false
namespace Go.Ev
open Go Go.Proofs
noncomputable section
end
end Go.Ev

set_option maxRecDepth 100000
set_option linter.unusedSimpArgs false
set_option linter.unusedVariables false
namespace Go.Ev
open Go Go.Proofs
noncomputable section
/-- A list of numbers that was made, whether it can grow in place or not. -/
def Lst (k0 : Nat) (G : Heap) (v : AV) (us : List Int) : Prop :=
  (∃ b, v = .opn b us.length ∧ G.get b = some (.opn (us.map I) 3 1) ∧ k0 ≤ b ∧ b < G.next) ∨ (∃ b, v = .slice b 0 us.length us.length ∧ G.get b = some (.cells (us.map I) 3) ∧ k0 ≤ b ∧ b < G.next)
theorem Lst.len {k0 : Nat} {G : Heap} {v : AV} {us : List Int} (h : Lst k0 G v us) : lenOf v = some us.length := by
  rcases h with ⟨b, rfl, _⟩ | ⟨b, rfl, _⟩ <;> rfl
theorem Lst.flat {k0 : Nat} {G : Heap} {v : AV} {us : List Int} (h : Lst k0 G v us) : v.flat = false := by
  rcases h with ⟨b, rfl, _⟩ | ⟨b, rfl, _⟩ <;> rfl
theorem Lst.to {k0 : Nat} {G G' : Heap} {v : AV} {us : List Int} (h : Lst k0 G v us) (g : Ext G G') : Lst k0 G' v us := by
  rcases h with ⟨b, h1, h2, h3, h4⟩ | ⟨b, h1, h2, h3, h4⟩
  · exact .inl ⟨b, h1, by rw [g.get _ h4]; exact h2, h3, Nat.lt_of_lt_of_le h4 g.next⟩
  · exact .inr ⟨b, h1, by rw [g.get _ h4]; exact h2, h3, Nat.lt_of_lt_of_le h4 g.next⟩
theorem Lst.low {k0 k1 : Nat} {G : Heap} {v : AV} {us : List Int} (h : Lst k1 G v us) (hk : k0 ≤ k1) : Lst k0 G v us := by
  rcases h with ⟨b, h1, h2, h3, h4⟩ | ⟨b, h1, h2, h3, h4⟩
  · exact .inl ⟨b, h1, h2, by omega, h4⟩
  · exact .inr ⟨b, h1, h2, by omega, h4⟩
theorem Lst.put {k0 : Nat} {G : Heap} {v : AV} {us : List Int} (h : Lst k0 G v us) {n : Nat} (o : AObj) (hn : n < k0) : Lst k0 (G.put n o) v us := by
  rcases h with ⟨b, h1, h2, h3, h4⟩ | ⟨b, h1, h2, h3, h4⟩
  · exact .inl ⟨b, h1, by rw [gpo _ _ _ _ (by omega)]; exact h2, h3, by simpa using h4⟩
  · exact .inr ⟨b, h1, by rw [gpo _ _ _ _ (by omega)]; exact h2, h3, by simpa using h4⟩
theorem Lst.ints {k0 : Nat} {G : Heap} {v : AV} {us : List Int} (h : Lst k0 G v us) : Ints G v us := by
  rcases h with ⟨b, rfl, h2, h3, h4⟩ | ⟨b, rfl, h2, h3, h4⟩
  · exact Mine.ints (k0 := k0) (.inr ⟨b, us.length, rfl, h2, by simp, h3, h4⟩)
  · refine ⟨by simp [lenOf], fun i x k => ?_⟩
    have hi : i < us.length := by
      by_cases hi : i < us.length
      · exact hi
      · rw [List.getElem?_eq_none (by simp; omega)] at k; cases k
    rw [List.getElem?_eq_getElem (by simpa using hi)] at k
    simp at k
    refine ⟨b, 0 + i * 1, us.map I, slAt_slice hi, by rw [h2]; rfl, ?_, h4⟩
    have e : ((us.map I).drop (0 + i * 1)).take 1 = [I us[i]] := by
      rw [show 0 + i * 1 = i from by omega, List.drop_eq_getElem_cons (by simpa using hi)]
      simp
    unfold seg
    rw [e, ← k]
    rfl
/-- A speed followed back to the first hour. -/
def backL (p : Pst) (may : List Iv) : Nat → Int → List Int
  | 0, s => [s]
  | h + 1, s => backL p may h (meetI (may.getD h nul) (beforeI p (s, s))).1 ++ [s]
end
end Go.Ev

set_option maxRecDepth 100000
set_option linter.unusedSimpArgs false
set_option linter.unusedVariables false
namespace Go.Ev
open Go Go.Proofs
noncomputable section
end
end Go.Ev

set_option maxRecDepth 100000
set_option linter.unusedSimpArgs false
set_option linter.unusedVariables false
namespace Go.Ev
open Go Go.Proofs
noncomputable section
/-- A truth with this speed in this hour is possible with a gauge. -/
def HitP (p : Pst) (rows : List (List Int)) (hr : Nat) (s0 : Int) (j : Nat) : Prop := hr + 1 ≤ lenM p rows j ∧ inI s0 ((mayL p ((j : Int) - 1) rows).getD hr nul)
noncomputable def as35 : Code := match Try.f35.body.bind rangeOf with | some r => r.1 | none => .skip
noncomputable def bd35 : Code := match Try.f35.body.bind rangeOf with | some r => r.2 | none => .skip
end
end Go.Ev

set_option maxRecDepth 100000
set_option linter.unusedSimpArgs false
set_option linter.unusedVariables false
namespace Go.Ev
open Go Go.Proofs
noncomputable section
end
end Go.Ev

set_option maxRecDepth 100000
set_option linter.unusedSimpArgs false
set_option linter.unusedVariables false
namespace Go.Ev
open Go Go.Proofs
noncomputable section
def leftR (p : Pst) (s : Int) : Int := if p.fall ≤ s then 0 else if p.gain = 0 then -1 else (p.fall - s + p.gain - 1) / p.gain
end
end Go.Ev

set_option maxRecDepth 100000
set_option linter.unusedSimpArgs false
set_option linter.unusedVariables false
namespace Go.Ev
open Go Go.Proofs
noncomputable section
/-- Bools and numbers as they lie. -/
def bl (N : Nat) (g : Nat → Bool) : List AV := (List.range N).map fun k => .bool (g k)
def il (N : Nat) (g : Nat → Nat) : List AV := (List.range N).map fun k => I (g k : Int)
/-- How many are true below. -/
def cntN (g : Nat → Bool) : Nat → Nat
  | 0 => 0
  | i + 1 => cntN g i + (if g i = true then 1 else 0)
/-- Of each speed, whether it is in a range. -/
def fl (x : Iv) (v : Nat) : Bool := bP (inI (v : Int) x)
def nextI (p : Pst) (f : Int) (x : Iv) (row : List Int) : Iv := if x = nul then nul else stepI p f x row
theorem next_iff {p : Pst} {f : Int} {x : Iv} {row : List Int} {v : Int} (hv : 0 ≤ v ∧ v ≤ 1000) : inI v (nextI p f x row) ↔ (x ≠ nul ∧ x.1 - p.drop ≤ v ∧ v ≤ x.2 + p.gain) ∧ AgreeR p f row v := by
  unfold nextI
  by_cases h : x = nul
  · rw [if_pos h]
    exact ⟨fun h9 => absurd h9 (not_nul _), fun h9 => absurd h h9.1.1⟩
  · rw [if_neg h, mem_step]
    exact ⟨fun h9 => ⟨⟨h, h9.2.1⟩, h9.2.2⟩, fun h9 => ⟨hv, h9.1.2, h9.2⟩⟩
/-- What was there, but for one block. -/
structure At1 (K B : Nat) (G : Heap) (o : AObj) (H : Heap) : Prop where
  nx : H.next = G.next
  oth : ∀ j, j ≠ B → H.get j = G.get j
  self : H.get B = some o
  lo : K ≤ H.lo
theorem At1.start {K B : Nat} {G : Heap} {o : AObj} (h : G.get B = some o) (hl : K ≤ G.lo) : At1 K B G o G := ⟨rfl, fun _ _ => rfl, h, hl⟩
theorem At1.put {K B : Nat} {G H : Heap} {o o' : AObj} (h : At1 K B G o H) (hk : K ≤ B) : At1 K B G o' (H.put B o') :=
  ⟨by simp [h.nx], fun j hj => by rw [gpo _ _ _ _ hj]; exact h.oth j hj, gp0 _ _ _, by rw [Heap.lo_put]; have := h.lo; omega⟩
theorem At1.grow {W G H : Heap} {B : Nat} {o : AObj} (h : At1 W.next B G o H) (g : Grow W G) (hk : W.next ≤ B) : Grow W H :=
  ⟨by rw [h.nx]; exact g.next, fun n hn => by rw [h.oth n (by omega)]; exact g.get n hn, h.lo⟩
theorem At1.to {K B : Nat} {G H : Heap} {o o' : AObj} (h : At1 K B G o H) (e : o = o') : At1 K B G o' H := e ▸ h
end
end Go.Ev

set_option maxRecDepth 100000
set_option linter.unusedSimpArgs false
set_option linter.unusedVariables false
namespace Go.Ev
open Go Go.Proofs
noncomputable section
theorem last_next {p : Pst} {f : Int} {rows : List (List Int)} {h : Nat} (hh : h < rows.length) : lastI p f (rows.take (h + 1)) = nextI p f (lastI p f (rows.take h)) rows[h] := by
  rw [List.take_succ_eq_append_getElem hh, lastI_snoc]; rfl
end
end Go.Ev

set_option maxRecDepth 100000
set_option linter.unusedSimpArgs false
set_option linter.unusedVariables false
namespace Go.Ev
open Go Go.Proofs
noncomputable section
end
end Go.Ev

set_option maxRecDepth 100000
set_option linter.unusedSimpArgs false
set_option linter.unusedVariables false
namespace Go.Ev
open Go Go.Proofs
noncomputable section
/-- The least and the greatest of some speeds, as the reference keeps them. -/
def AtSt (S : Nat → Prop) (lo hi : Int) : Prop := (lo = -1 ∧ hi = 0 ∧ ∀ v, ¬ S v) ∨ ∃ a c : Nat, lo = (a : Int) ∧ hi = (c : Int) ∧ S a ∧ S c ∧ ∀ v, S v → a ≤ v ∧ v ≤ c
theorem AtSt.uniq {S : Nat → Prop} {lo hi lo' hi' : Int} (h : AtSt S lo hi) (h' : AtSt S lo' hi') : lo = lo' ∧ hi = hi' := by
  rcases h with ⟨h1, h2, h3⟩ | ⟨a, c, h1, h2, h3, h4, h5⟩
  · rcases h' with ⟨k1, k2, k3⟩ | ⟨a', c', k1, k2, k3, k4, k5⟩
    · exact ⟨by omega, by omega⟩
    · exact absurd k3 (h3 _)
  · rcases h' with ⟨k1, k2, k3⟩ | ⟨a', c', k1, k2, k3, k4, k5⟩
    · exact absurd h3 (k3 _)
    · have := h5 _ k3; have := h5 _ k4; have := k5 _ h3; have := k5 _ h4
      exact ⟨by omega, by omega⟩
theorem AtSt.congr {S S' : Nat → Prop} {lo hi : Int} (h : AtSt S lo hi) (hs : ∀ v, S' v ↔ S v) : AtSt S' lo hi := by
  rcases h with ⟨h1, h2, h3⟩ | ⟨a, c, h1, h2, h3, h4, h5⟩
  · exact .inl ⟨h1, h2, fun v hv => h3 v ((hs v).1 hv)⟩
  · exact .inr ⟨a, c, h1, h2, (hs a).2 h3, (hs c).2 h4, fun v hv => h5 v ((hs v).1 hv)⟩
theorem AtSt.add {S S' : Nat → Prop} {lo hi : Int} (h : AtSt S lo hi) {w : Nat} (hs : ∀ v, S' v ↔ S v ∨ v = w) : AtSt S' (if lo < 0 ∨ (w : Int) < lo then (w : Int) else lo) (max hi (w : Int)) := by
  rcases h with ⟨h1, h2, h3⟩ | ⟨a, c, h1, h2, h3, h4, h5⟩
  · refine .inr ⟨w, w, by rw [if_pos (.inl (by omega))], by omega, (hs w).2 (.inr rfl), (hs w).2 (.inr rfl), fun v hv => ?_⟩
    rcases (hs v).1 hv with h | h
    · exact absurd h (h3 v)
    · omega
  · refine .inr ⟨min a w, max c w, ?_, by omega, ?_, ?_, fun v hv => ?_⟩
    · by_cases e : lo < 0 ∨ (w : Int) < lo
      · rw [if_pos e]; omega
      · rw [if_neg e]; omega
    · rcases Nat.le_total a w with e | e
      · rw [Nat.min_eq_left e]; exact (hs a).2 (.inl h3)
      · rw [Nat.min_eq_right e]; exact (hs w).2 (.inr rfl)
    · rcases Nat.le_total c w with e | e
      · rw [Nat.max_eq_right e]; exact (hs w).2 (.inr rfl)
      · rw [Nat.max_eq_left e]; exact (hs c).2 (.inl h4)
    · rcases (hs v).1 hv with h | h
      · have := h5 v h; omega
      · omega
theorem AtSt.nil {S : Nat → Prop} (h : ∀ v, ¬ S v) : AtSt S (-1) 0 := .inl ⟨rfl, rfl, h⟩
theorem AtSt.bd {S : Nat → Prop} {lo hi : Int} (h : AtSt S lo hi) (hb : ∀ v, S v → v < 1001) : (-1 ≤ lo ∧ lo ≤ 1000) ∧ 0 ≤ hi ∧ hi ≤ 1000 := by
  rcases h with ⟨h1, h2, h3⟩ | ⟨a, c, h1, h2, h3, h4, h5⟩
  · omega
  · have := hb _ h3; have := hb _ h4; omega
noncomputable def atV (S : Nat → Prop) : Int × Int := Classical.epsilon fun x => AtSt S x.1 x.2
theorem AtSt.val {S : Nat → Prop} {lo hi : Int} (h : AtSt S lo hi) : atV S = (lo, hi) := by
  have e : AtSt S (atV S).1 (atV S).2 := Classical.epsilon_spec (p := fun x : Int × Int => AtSt S x.1 x.2) ⟨(lo, hi), h⟩
  have := e.uniq h
  exact Prod.ext this.1 this.2
/-- The speeds that may be behind some hours, with one of the first gauges failed. -/
def SpdS (p : Pst) (rows : List (List Int)) (i : Nat) (v : Nat) : Prop := v < 1001 ∧ ∃ j, j < i ∧ inI (v : Int) (lastI p ((j : Int) - 1) rows)
end
end Go.Ev

set_option maxRecDepth 100000
set_option linter.unusedSimpArgs false
set_option linter.unusedVariables false
namespace Go.Ev
open Go Go.Proofs
noncomputable section
/-- A list of lists that was made. -/
def RowsM (k0 : Nat) (G : Heap) (v : AV) (rows : List (List Int)) : Prop := ∃ vs : List AV, vs.length = rows.length ∧ Mine k0 G v 22 1 vs ∧ ∀ (i : Nat) (x : AV) (r : List Int), vs[i]? = some x → rows[i]? = some r → Mine k0 G x 3 1 (r.map I)
theorem flat_one : ∀ vs : List AV, (vs.map fun x => [x]).flatten = vs
  | [] => rfl
  | a :: l => by rw [List.map_cons, List.flatten_cons, flat_one l]; rfl
theorem RowsM.at {k0 : Nat} {G : Heap} {v : AV} {rows : List (List Int)} (h : RowsM k0 G v rows) : LstAt G v rows := by
  obtain ⟨vs, h1, h2, h3⟩ := h
  exact ⟨vs, h1, Mine.row (e := 22) (by rw [flat_one]; exact h2) (fun x hx => by obtain ⟨y, _, rfl⟩ := List.mem_map.1 hx; rfl) (by omega), fun i x r a c => (h3 i x r a c).ints⟩
theorem RowsM.nil (k0 : Nat) (G : Heap) : RowsM k0 G .nils [] := ⟨[], rfl, Mine.nil _ _ _ _, fun i x s h _ => by simp at h⟩
theorem RowsM.to {k0 : Nat} {G G' : Heap} {v : AV} {rows : List (List Int)} (h : RowsM k0 G v rows) (e : Ext G G') : RowsM k0 G' v rows := by
  obtain ⟨vs, h1, h2, h3⟩ := h
  exact ⟨vs, h1, h2.to e, fun i x r a c => (h3 i x r a c).to e⟩
theorem RowsM.low {k0 k1 : Nat} {G : Heap} {v : AV} {rows : List (List Int)} (h : RowsM k1 G v rows) (hk : k0 ≤ k1) : RowsM k0 G v rows := by
  obtain ⟨vs, h1, h2, h3⟩ := h
  exact ⟨vs, h1, h2.low hk, fun i x r a c => (h3 i x r a c).low hk⟩
theorem RowsM.snoc {k0 : Nat} {G : Heap} {ov x : AV} {l : List (List Int)} {s : List Int} (h : RowsM k0 G ov l) (hx : Mine k0 G x 3 1 (s.map I)) : ∃ cs, Mine k0 G ov 22 1 cs ∧ cs.length = l.length ∧ ∀ v2 G2, Mine k0 G2 v2 22 1 (cs ++ [x]) → G.next ≤ G2.next → (∀ j, j < G.next → (∀ m, ov ≠ .opn j m) → G2.get j = G.get j) → RowsM k0 G2 v2 (l ++ [s]) := by
  obtain ⟨vs, h1, h2, h3⟩ := h
  refine ⟨_, h2, h1, fun v2 G2 k1 k2 k3 => ⟨vs ++ [x], by simp [h1], k1, fun i y t a c => ?_⟩⟩
  by_cases hi : i < vs.length
  · rw [List.getElem?_append_left hi] at a
    rw [List.getElem?_append_left (by omega)] at c
    exact (h3 i y t a c).offE h2 (.inl (by decide)) k2 k3
  · by_cases hi2 : i = vs.length
    · subst hi2
      rw [List.getElem?_append_right (Nat.le_refl _)] at a
      rw [List.getElem?_append_right (by omega), h1] at c
      simp at a c
      subst a c
      exact hx.offE h2 (.inl (by decide)) k2 k3
    · rw [List.getElem?_eq_none (by simp; omega)] at a; cases a
theorem RowsM.backS {H G H' : Heap} {v : AV} {l : List (List Int)} (h : RowsM H.next G v l) (r : (H' = H ∧ v.flat = true) ∨ ((∀ n, H'.get n = G.get n) ∧ H'.next = G.next)) : RowsM H.next H' v l := by
  rcases r with ⟨rfl, hf⟩ | ⟨h1, h2⟩
  · obtain ⟨vs, a1, a2, a3⟩ := h
    rcases a2 with ⟨rfl, a2⟩ | ⟨b, n, rfl, _⟩
    · subst a2; exact ⟨[], a1, .inl ⟨rfl, rfl⟩, fun i x s h _ => by simp at h⟩
    · cases hf
  · exact h.to ⟨by omega, fun n _ => h1 n⟩
theorem flat_post {x : AV} {p : Pst} (h : (AV.agg (p.c x)).flat = true) : x.flat = true := by
  have h1 : AV.flats [x, I p.gain, I p.drop, I p.fall, I p.out, I p.ahead] = true := h
  unfold AV.flats at h1
  cases hx : x.flat with
  | false => rw [hx] at h1; cases h1
  | true => rfl
def thinB (p : Pst) (rows : List (List Int)) : Bool := (rows.take 66).all (fun r => decide (r.length ≤ 15)) && (decide (p.errs.length ≤ 15) && decide (rows.length ≤ 65))
def fewB (p : Pst) (rows : List (List Int)) : Bool := thinB p rows && (decide (faultE p rows ≠ 0) || decide (rows.length ≤ 8))
theorem thin_facts {p : Pst} {rows : List (List Int)} (h : thinB p rows = true) : p.errs.length ≤ 15 ∧ rows.length ≤ 65 ∧ ∀ r ∈ rows, r.length ≤ 15 := by
  unfold thinB at h
  simp only [Bool.and_eq_true, decide_eq_true_eq, List.all_eq_true] at h
  refine ⟨h.2.1, h.2.2, fun r hr => h.1 r ?_⟩
  rw [List.take_of_length_le (by omega)]
  exact hr
theorem c20 (m : Nat) (ev : AV) (p : Pst) (H : Heap) (hV : Ints H ev p.errs) (hl : p.errs.length ≤ 1000000) : ∃ v H', RR (m + 2) (.fn 20 [.agg (p.c ev)]) H = some (v, H') ∧ ∃ x, v = .agg (p.c x) ∧ Ret H H' ∧ Mine H.next H' x 3 1 (p.errs.map I) := by
  show ∃ v H', evFn Try.prog (RR (m + 1)) 20 [.agg (p.c ev)] H = some (v, H') ∧ ∃ x, v = .agg (p.c x) ∧ Ret H H' ∧ Mine H.next H' x 3 1 (p.errs.map I)
  refine fn_okE Try.func20 rfl rfl (by kernel_rfl) (by kernel_rfl) ?_
  obtain ⟨W, hW⟩ : ∃ W : Heap, W = ⟨H.t, H.next, H.next⟩ := ⟨_, rfl⟩
  have hg : ∀ n, W.get n = H.get n := fun n => by rw [hW]; rfl
  have hN : W.next = H.next := by rw [hW]
  have hE : ∀ G, Grow W G → Ext H G := fun G g => ⟨by rw [← hN]; exact g.next, fun n k => by rw [g.get n (by rw [hN]; exact k), hg]⟩
  have hG : Grow W W := Grow.refl (by rw [hW]; exact Nat.le_refl _)
  rw [← hW]
  have pev : ev.plain = true := lpl hV.len
  refine Ok.seq ?_
  refine Ok.region ?_
  refine OkO.box rfl rfl ?_
  refine OkO.alloc (z := [.nils, .int .i64 0, .int .i64 0, .int .i64 0, .int .i64 0, .int .i64 0]) rfl (by kernel_rfl) ?_
  refine OkO.nil ?_
  refine Ok.seq ?_
  refine Ok.drawn [(0, true, []), (1, true, []), (3, true, []), (4, true, []), (5, true, []), (6, true, []), (7, true, []), (8, true, []), (9, true, []), (10, true, []), (11, true, []), (12, true, []), (2, false, [12, 10, 8, 6, 4]), (13, true, []), (14, false, [])] (by kernel_rfl) ?_
  refine OkP.step ?_
  refine OkO.fieldAddr (o := 0) rfl (by kernel_rfl) rfl ?_
  refine OkO.nil ⟨rfl, ?_⟩
  refine OkP.step ?_
  refine OkO.load rfl rfl (lda (n := 1) (by kernel_rfl) (by first | assumption | (simp (disch := first | omega | (simp only [hNw, hPt]; omega)) only [gn0, gn1, gn2, gn3, gn4, gn5, gp0, gno, gpo] <;> first | rfl | assumption | exact gp0 _ _ _ | exact gn0 _ _)) (by first | rfl | assumption)) ?_
  refine OkO.nil ⟨rfl, ?_⟩
  refine OkP.step ?_
  refine OkO.fieldAddr (o := 1) rfl (by kernel_rfl) rfl ?_
  refine OkO.nil ⟨rfl, ?_⟩
  refine OkP.step ?_
  refine OkO.load rfl rfl (lda (n := 1) (by kernel_rfl) (by first | assumption | (simp (disch := first | omega | (simp only [hNw, hPt]; omega)) only [gn0, gn1, gn2, gn3, gn4, gn5, gp0, gno, gpo] <;> first | rfl | assumption | exact gp0 _ _ _ | exact gn0 _ _)) (by first | rfl | assumption)) ?_
  refine OkO.nil ⟨rfl, ?_⟩
  refine OkP.step ?_
  refine OkO.fieldAddr (o := 2) rfl (by kernel_rfl) rfl ?_
  refine OkO.nil ⟨rfl, ?_⟩
  refine OkP.step ?_
  refine OkO.load rfl rfl (lda (n := 1) (by kernel_rfl) (by first | assumption | (simp (disch := first | omega | (simp only [hNw, hPt]; omega)) only [gn0, gn1, gn2, gn3, gn4, gn5, gp0, gno, gpo] <;> first | rfl | assumption | exact gp0 _ _ _ | exact gn0 _ _)) (by first | rfl | assumption)) ?_
  refine OkO.nil ⟨rfl, ?_⟩
  refine OkP.step ?_
  refine OkO.fieldAddr (o := 3) rfl (by kernel_rfl) rfl ?_
  refine OkO.nil ⟨rfl, ?_⟩
  refine OkP.step ?_
  refine OkO.load rfl rfl (lda (n := 1) (by kernel_rfl) (by first | assumption | (simp (disch := first | omega | (simp only [hNw, hPt]; omega)) only [gn0, gn1, gn2, gn3, gn4, gn5, gp0, gno, gpo] <;> first | rfl | assumption | exact gp0 _ _ _ | exact gn0 _ _)) (by first | rfl | assumption)) ?_
  refine OkO.nil ⟨rfl, ?_⟩
  refine OkP.step ?_
  refine OkO.fieldAddr (o := 4) rfl (by kernel_rfl) rfl ?_
  refine OkO.nil ⟨rfl, ?_⟩
  refine OkP.step ?_
  refine OkO.load rfl rfl (lda (n := 1) (by kernel_rfl) (by first | assumption | (simp (disch := first | omega | (simp only [hNw, hPt]; omega)) only [gn0, gn1, gn2, gn3, gn4, gn5, gp0, gno, gpo] <;> first | rfl | assumption | exact gp0 _ _ _ | exact gn0 _ _)) (by first | rfl | assumption)) ?_
  refine OkO.nil ⟨rfl, ?_⟩
  refine OkP.step ?_
  refine OkO.fieldAddr (o := 5) rfl (by kernel_rfl) rfl ?_
  refine OkO.nil ⟨rfl, ?_⟩
  refine OkP.step ?_
  refine OkO.load rfl rfl (lda (n := 1) (by kernel_rfl) (by first | assumption | (simp (disch := first | omega | (simp only [hNw, hPt]; omega)) only [gn0, gn1, gn2, gn3, gn4, gn5, gp0, gno, gpo] <;> first | rfl | assumption | exact gp0 _ _ _ | exact gn0 _ _)) (by first | rfl | assumption)) ?_
  refine OkO.nil ⟨rfl, ?_⟩
  refine OkP.step ?_
  refine OkO.callE rfl rfl rfl rfl rfl (c30 m ev p.errs _ (hV.ext (hE _ (by (try dsimp only); repeat (first | exact hG | apply Grow.new | (refine Grow.put ?_ _ (by first | omega | (simp only [hNw, hPt]; omega))))))) hl) ?_ -- "sackung/sackunglaw04.list"
  rintro v30 H30 ⟨q1, r1⟩
  have g30 : Grow W H30 := Grow.ret (by (try dsimp only); repeat (first | exact hG | apply Grow.new | (refine Grow.put ?_ _ (by first | omega | (simp only [hNw, hPt]; omega))))) q1
  have n30 := q1.ext.next
  simp only [hNw] at n30
  have a30 : (H30.get W.next).bind AObj.cs = some (p.c ev) := by rw [q1.ext.get _ (by simp only [hNw]; omega)]; simp (disch := first | omega | (simp only [hNw, hPt]; omega)) only [gn0, gn1, gn2, gn3, gn4, gn5, gp0, gno, gpo] <;> rfl
  have o30 : H30.get (W.next + 1) = some (.cells [.nils, I 0, I 0, I 0, I 0, I 0] 30) := by rw [q1.ext.get _ (by simp only [hNw]; omega)]; exact gn1 _ _ _
  obtain ⟨hv1, hv2⟩ := r1.one
  refine OkO.nil ⟨(sco (sld rfl rfl (lda (n := 1) (by kernel_rfl) (by first | assumption | (simp (disch := first | omega | (simp only [hNw, hPt]; omega)) only [gn0, gn1, gn2, gn3, gn4, gn5, gp0, gno, gpo] <;> first | rfl | assumption | exact gp0 _ _ _ | exact gn0 _ _)) (by first | rfl | assumption)) rfl (eqr _ (by first | rfl | exact lpl (by assumption) | (simp [AV.plain, AV.plains, AV.cells, pev, Pst.c])))) (sco (sld rfl rfl (lda (n := 1) (by kernel_rfl) (by first | assumption | (simp (disch := first | omega | (simp only [hNw, hPt]; omega)) only [gn0, gn1, gn2, gn3, gn4, gn5, gp0, gno, gpo] <;> first | rfl | assumption | exact gp0 _ _ _ | exact gn0 _ _)) (by first | rfl | assumption)) rfl (eqr _ (by first | rfl | exact lpl (by assumption) | (simp [AV.plain, AV.plains, AV.cells, pev, Pst.c])))) (sco (sld rfl rfl (lda (n := 1) (by kernel_rfl) (by first | assumption | (simp (disch := first | omega | (simp only [hNw, hPt]; omega)) only [gn0, gn1, gn2, gn3, gn4, gn5, gp0, gno, gpo] <;> first | rfl | assumption | exact gp0 _ _ _ | exact gn0 _ _)) (by first | rfl | assumption)) rfl (eqr _ (by first | rfl | exact lpl (by assumption) | (simp [AV.plain, AV.plains, AV.cells, pev, Pst.c])))) (sco (sld rfl rfl (lda (n := 1) (by kernel_rfl) (by first | assumption | (simp (disch := first | omega | (simp only [hNw, hPt]; omega)) only [gn0, gn1, gn2, gn3, gn4, gn5, gp0, gno, gpo] <;> first | rfl | assumption | exact gp0 _ _ _ | exact gn0 _ _)) (by first | rfl | assumption)) rfl (eqr _ (by first | rfl | exact lpl (by assumption) | (simp [AV.plain, AV.plains, AV.cells, pev, Pst.c])))) (sco (sld rfl rfl (lda (n := 1) (by kernel_rfl) (by first | assumption | (simp (disch := first | omega | (simp only [hNw, hPt]; omega)) only [gn0, gn1, gn2, gn3, gn4, gn5, gp0, gno, gpo] <;> first | rfl | assumption | exact gp0 _ _ _ | exact gn0 _ _)) (by first | rfl | assumption)) rfl (eqr _ (by first | rfl | exact lpl (by assumption) | (simp [AV.plain, AV.plains, AV.cells, pev, Pst.c])))) rfl))))), ?_⟩
  refine OkP.step ?_
  refine OkO.build (cs := p.c v30) (z := [.nils, .int .i64 0, .int .i64 0, .int .i64 0, .int .i64 0, .int .i64 0]) (pl := [(0, 1), (1, 1), (2, 1), (3, 1), (4, 1), (5, 1)]) rfl (by kernel_rfl) rfl (by show fillS _ _ _ = some [v30, I p.gain, I p.drop, I p.fall, I p.out, I p.ahead]; simp [fillS, spl, hv1, show ∀ z, (I z).cells = [I z] from fun _ => rfl]) ?_
  refine OkO.nil ⟨rfl, ?_⟩
  refine OkP.step ?_
  refine OkO.store rfl rfl rfl (sAc (n := 6) (ag := true) (by kernel_rfl) (by first | assumption | (simp (disch := first | omega | (simp only [hNw, hPt]; omega)) only [gn0, gn1, gn2, gn3, gn4, gn5, gp0, gno, gpo] <;> first | rfl | assumption | exact gp0 _ _ _ | exact gn0 _ _)) rfl (by show atoms [v30, I p.gain, I p.drop, I p.fall, I p.out, I p.ahead] = true; simp [atoms, hv2, show ∀ z, (I z).atom = true from fun _ => rfl]) (by first | rfl | exact spl_set _ _ _ (by first | assumption | omega | (simp; omega)))) ?_
  refine OkO.nil ⟨rfl, ?_⟩
  refine OkP.nil ?_
  refine Ok.ret ⟨.inr rfl, ?_⟩
  refine back_newA (resV_cell rfl (ldg (n := 6) (by kernel_rfl) (by first | assumption | (simp (disch := first | omega | (simp only [hNw, hPt]; omega)) only [gn0, gn1, gn2, gn3, gn4, gn5, gp0, gno, gpo] <;> first | rfl | assumption)) (by first | rfl | assumption)) resV_nil) rfl (by rw [← hW]; exact (by (try dsimp only); repeat (first | exact g30 | apply Grow.new | (refine Grow.put ?_ _ (by first | omega | (simp only [hNw, hPt]; omega)))))) (fun H9 p1 p2 => ⟨v30, rfl, p1, ?_⟩)
  exact Mine.backT (((r1.put _ (by first | omega | (simp only [hNw]; omega)))).low (by simp only [hNw]; omega)) p2 flat_post
theorem c22 (m : Nat) (sv : AV) (l : List (List Int)) (H : Heap) (hS : LstAt H sv l) (hl9 : l.length ≤ 100000) (hs9 : ∀ s ∈ l, s.length ≤ 100000) : ∃ v H', RR (m + 2) (.fn 22 [sv]) H = some (v, H') ∧ Ret H H' ∧ RowsM H.next H' v l := by
  show ∃ v H', evFn Try.prog (RR (m + 1)) 22 [sv] H = some (v, H') ∧ Ret H H' ∧ RowsM H.next H' v l
  refine fn_okE Try.func22 rfl rfl (by kernel_rfl) (by kernel_rfl) ?_
  obtain ⟨W, hW⟩ : ∃ W : Heap, W = ⟨H.t, H.next, H.next⟩ := ⟨_, rfl⟩
  have hg : ∀ n, W.get n = H.get n := fun n => by rw [hW]; rfl
  have hN : W.next = H.next := by rw [hW]
  have hE : ∀ G, Grow W G → Ext H G := fun G g => ⟨by rw [← hN]; exact g.next, fun n k => by rw [g.get n (by rw [hN]; exact k), hg]⟩
  have hG : Grow W W := Grow.refl (by rw [hW]; exact Nat.le_refl _)
  rw [← hW]
  have hlen := hS.len
  refine Ok.seq ?_
  refine Ok.region ?_
  refine OkO.assign rfl rfl ?_
  refine OkO.nil ?_
  refine Ok.seq ?_
  refine Ok.region ?_
  refine OkO.assign rfl rfl ?_
  refine OkO.nil ?_
  refine Ok.seq ?_
  refine Ok.seq ?_
  refine Ok.region ?_
  refine OkO.assign rfl rfl ?_
  refine OkO.nil ?_
  refine Ok.block ?_
  refine Ok.loop (fun n s => ∃ i : Nat, n = l.length - i ∧ i ≤ l.length ∧ (∃ ov, RowsM W.next s.H ov (l.take i) ∧ Has 5 [(0, sv), (3, ov), (4, I (i : Int))] s.T) ∧ s.D = [] ∧ Grow W s.H) (l.length) (by unfold loopFuel; omega)
    ⟨0, rfl, Nat.zero_le _, ⟨.nils, RowsM.nil _ _, Has.of (by kernel_rfl)⟩, rfl, hG⟩ ?_
  rintro n ⟨T, D, G⟩ ⟨i, hn, hi, ⟨ov, hm, ⟨f, hT⟩⟩, hD, hg⟩
  dsimp only at *
  subst hT hD
  have hgn := hg.next
  refine Ok.seq ?_
  refine Ok.seq ?_
  refine Ok.region ?_
  refine OkO.move rfl rfl ?_
  refine OkO.move rfl rfl ?_
  refine OkO.builtin rfl rfl rfl (bln (by kernel_rfl) (by first | assumption | rfl)) ?_
  refine OkO.bin rfl rfl rfl (bin_lss _ _) ?_
  refine OkO.nil ?_
  refine Ok.cond rfl (fun h1 => ?_) (fun h1 => ?_)
  · -- yes h1
    have hlt : i < l.length := by simpa using h1
    obtain ⟨x, bb, off, cs, i1, i2, i3, i4, i7⟩ := (hS.ext (hE _ hg)).at_ i hlt
    have pb : x.plain = true := lpl i7.len
    refine Ok.skip ?_
    refine Ok.seq ?_
    refine Ok.block ?_
    refine Ok.region ?_
    refine OkO.move rfl rfl ?_
    refine OkO.move rfl rfl ?_
    refine OkO.move rfl rfl ?_
    refine OkO.index (sz := 1) rfl rfl rfl (by kernel_rfl) (by first | assumption | rfl | exact slAt_slice (by omega) | exact slAt_opn (by omega)) ?_ -- index ('Go.Operand.tmp', 12) ('Go.Operand.tmp', 13)
    refine OkO.load rfl rfl (lda (n := 1) (by kernel_rfl) (by first | assumption | (simp (disch := first | omega | (simp only [hNw, hPt]; omega)) only [gn0, gn1, gn2, gn3, gn4, gn5, gp0, gno, gpo] <;> first | rfl | assumption | exact gp0 _ _ _ | exact gn0 _ _)) (by first | rfl | assumption)) ?_
    refine OkO.callE rfl rfl rfl rfl rfl (c30 m x l[i] _ i7 (by have := hs9 l[i] (List.getElem_mem hlt); omega)) ?_ -- "sackung/sackunglaw04.list"
    rintro x' H38 ⟨q38, r38⟩
    have g38 : Grow W H38 := Grow.ret (by (try dsimp only); repeat (first | exact hg | exact hG | apply Grow.new | (refine Grow.put ?_ _ (by first | omega | (simp only [hNw, hPt]; omega))))) q38
    have n38 := q38.ext.next
    obtain ⟨cs9, hm9, hcl9, hsn⟩ := RowsM.snoc (s := l[i]) (hm.to q38.ext) (r38.low (by omega))
    obtain ⟨u1, u2⟩ := r38.one
    refine OkO.buildSlice (el := 22) (sz := 1) (z := [.nils]) (cs := [x']) rfl (by kernel_rfl) (by decide) rfl (by show fillS (fun i => some (i * 1, 1)) [AV.nils] [(0, x')] = some [x']; simp [fillS, spl, u1]) ?_
    refine OkO.builtinE rfl rfl rfl (Mine.app2 (W := W) (k0 := W.next) (t := 25) (u := 25) (sz := 1) (by_ := 24) (e := 22) (n := 1) (new := [x']) (hm9.to (Grow.toNew _ _)) (g38.new _) (Nat.le_refl _) (by simp; omega) (by kernel_rfl) (by kernel_rfl) (elems_new (n := 1) (sz := 1) rfl) rfl rfl (by rw [hcl9, List.length_take]; omega) (by omega) (by omega) (by simp [atoms, u2])) ?_
    rintro v2 G2 ⟨r1, r2, r3, r4, r5, _⟩
    simp only [hNw] at r4 r5
    have hnew : RowsM W.next G2 v2 (l.take (i + 1)) := by
            rw [List.take_succ_eq_append_getElem hlt]
            exact hsn v2 G2 r1 (by omega) (fun j hj hne => by rw [r4 j (by omega) hne]; exact gno _ _ _ (by omega))
    refine OkO.assign rfl rfl ?_
    refine OkO.nil ?_
    refine Ok.region ?_
    refine OkO.move rfl rfl ?_
    refine OkO.bin rfl rfl rfl (bin_add (by omega) (by omega)) ?_
    refine OkO.assign rfl rfl ?_
    refine OkO.nil ?_
    refine ⟨l.length - (i + 1), by omega, i + 1, rfl, hlt, ⟨_, hnew, Has.of (by kernel_rfl)⟩, rfl, r2⟩
  · -- no h1
    have hge : i = l.length := by simp at h1; omega
    subst hge
    rw [List.take_length] at hm
    refine Ok.exit ?_
    refine Ok.seq ?_
    refine Ok.region ?_
    refine OkO.move rfl rfl ?_
    refine OkO.assign rfl rfl ?_
    refine OkO.nil ?_
    refine Ok.ret ⟨.inr rfl, ?_⟩
    refine back_newA (resV_tmp rfl resV_nil) rfl (by rw [← hW]; exact hg) (fun H9 p1 p2 => ⟨p1, (hm.low (by omega)).backS p2⟩)
theorem c58 (m : Nat) (ev rv : AV) (p : Pst) (rows : List (List Int)) (H : Heap) (hV : Ints H ev p.errs) (hRs : LstAt H rv rows) : RR (m + 1) (.fn 58 [.agg (p.c ev), rv]) H = some (.bool (thinB p rows), H) := by
  refine (R_fn _ _ _ _ _).trans ?_
  refine fn_ok Try.func58 rfl rfl (by kernel_rfl) (by kernel_rfl) ?_
  obtain ⟨W, hW⟩ : ∃ W : Heap, W = ⟨H.t, H.next, H.next⟩ := ⟨_, rfl⟩
  have hg : ∀ n, W.get n = H.get n := fun n => by rw [hW]; rfl
  have hN : W.next = H.next := by rw [hW]
  have hE : ∀ G, Grow W G → Ext H G := fun G g => ⟨by rw [← hN]; exact g.next, fun n k => by rw [g.get n (by rw [hN]; exact k), hg]⟩
  have hG : Grow W W := Grow.refl (by rw [hW]; exact Nat.le_refl _)
  rw [← hW]
  have pev : ev.plain = true := lpl hV.len
  have hel := hV.len
  have hrlen := hRs.len
  refine Ok.seq ?_
  refine Ok.region ?_
  refine OkO.box rfl rfl ?_
  refine OkO.assign rfl rfl ?_
  refine OkO.nil ?_
  refine Ok.seq ?_
  refine Ok.seq ?_
  refine Ok.region ?_
  refine OkO.assign rfl rfl ?_
  refine OkO.nil ?_
  refine Ok.block ?_
  obtain ⟨H6, hH6⟩ : ∃ H6, H6 = W.new (.cells (p.c ev) 24) := ⟨_, rfl⟩
  have e6 : (H6.get W.next).bind AObj.cs = some (p.c ev) := by rw [hH6, gn0]; rfl
  have g6 : Grow W H6 := by rw [hH6]; exact hG.new _
  refine Ok.loop (fun n s => ∃ i : Nat, n = 67 - i ∧ i ≤ rows.length ∧ i ≤ 66 ∧ (∀ (j : Nat) (hj : j < rows.length), j < i → rows[j].length ≤ 15) ∧ Has 6 [(1, rv), (2, .ptr W.next 0), (5, I (i : Int))] s.T ∧ s.D = [] ∧ s.H = H6) (67) (by unfold loopFuel; omega)
    ⟨0, rfl, Nat.zero_le _, by omega, fun j hj h => absurd h (Nat.not_lt_zero j), Has.of (by kernel_rfl), rfl, by rw [hH6]; rfl⟩ ?_
  rintro n ⟨T, D, G⟩ ⟨i, hn, hi, hi66, hall, ⟨f_, hT⟩, hD, hg9⟩
  dsimp only at *
  subst hT hD
  skip
  subst hg9
  refine Ok.seq ?_
  refine Ok.seq ?_
  refine Ok.region ?_
  refine OkO.move rfl rfl ?_
  refine OkO.move rfl rfl ?_
  refine OkO.builtin rfl rfl rfl (bln (by kernel_rfl) (by first | assumption | rfl)) ?_
  refine OkO.bin rfl rfl rfl (bin_lss _ _) ?_
  refine OkO.move rfl rfl ?_
  refine OkO.split (d := 10) rfl (fun g1 => ?_) (fun g1 => ?_)
  · -- true g1
    have hlt : i < rows.length := by simpa using g1
    refine OkO.move rfl rfl ?_
    refine OkO.bin rfl rfl rfl (bin_lss _ _) ?_
    refine OkO.pick (b := true) rfl rfl (fun _ => rfl) nofun ?_
    refine OkO.nil ?_
    refine Ok.cond rfl (fun h2 => ?_) (fun h2 => ?_)
    · -- yes h2
      have hi2 : i < 66 := by (have h9 : (i : Int) < 66 := by simpa using h2); omega
      obtain ⟨xr, rb, ro, rcs, r1, r2, r3, r4, r5⟩ := (hRs.ext (hE _ g6)).at_ i hlt
      have hxl := r5.len
      have pxr : xr.plain = true := lpl r5.len
      refine Ok.skip ?_
      refine Ok.seq ?_
      refine Ok.block ?_
      refine Ok.seq ?_
      refine Ok.region ?_
      refine OkO.move rfl rfl ?_
      refine OkO.move rfl rfl ?_
      refine OkO.index (sz := 1) (n := i) rfl rfl rfl (by kernel_rfl) (by first | assumption | rfl | exact slAt_slice (by omega) | exact slAt_opn (by omega)) ?_ -- index ('Go.Operand.tmp', 16) ('Go.Operand.tmp', 17)
      refine OkO.load rfl rfl (lda (n := 1) (by kernel_rfl) (by first | assumption | (simp (disch := first | omega | (simp only [hNw, hPt]; omega)) only [gn0, gn1, gn2, gn3, gn4, gn5, gp0, gno, gpo] <;> first | rfl | assumption | exact gp0 _ _ _ | exact gn0 _ _)) (by first | rfl | assumption)) ?_
      refine OkO.builtin rfl rfl rfl (bln (by kernel_rfl) (by first | assumption | rfl)) ?_
      refine OkO.bin rfl rfl rfl (bin_gtr _ _) ?_
      refine OkO.nil ?_
      refine Ok.cond rfl (fun h3 => ?_) (fun h3 => ?_)
      · -- yes h3
        refine Ok.seq ?_
        refine Ok.region ?_
        refine OkO.assign rfl rfl ?_
        refine OkO.nil ?_
        refine Ok.ret ⟨.inr rfl, ?_⟩
        have hbad : 15 < rows[i].length := by (have h9 : (15 : Int) < (rows[i].length : Int) := by simpa using h3); omega
        exact back_flat rfl (congrArg AV.bool (by symm; unfold thinB; rw [show ((rows.take 66).all fun r => decide (r.length ≤ 15)) = false from List.all_eq_false.2 ⟨rows[i], List.mem_of_getElem? (i := i) (by rw [List.getElem?_take, if_pos (by omega)]; exact List.getElem?_eq_getElem hlt), by rw [decide_eq_true_eq]; omega⟩]; rfl)) rfl (by rw [← hW]; exact g6)
      · -- no h3
        refine Ok.skip ?_
        refine Ok.region ?_
        refine OkO.move rfl rfl ?_
        refine OkO.bin rfl rfl rfl (bin_add (by omega) (by omega)) ?_
        refine OkO.assign rfl rfl ?_
        refine OkO.nil ?_
        refine ⟨67 - (i + 1), by omega, i + 1, rfl, by omega, by omega, fun j hj h => ?_, Has.of (by kernel_rfl), rfl, rfl⟩
        by_cases e : j = i
        · subst e; (have h9 : ¬ (15 : Int) < (rows[j].length : Int) := by simpa using h3); omega
        · exact hall j hj (by omega)
    · -- no h2
      have hi2 : ¬ i < 66 := by (have h9 : ¬ (i : Int) < 66 := by simpa using h2); omega
      refine Ok.exit ?_
      refine Ok.seq ?_
      refine Ok.region ?_
      refine OkO.fieldAddr (o := 0) rfl (by kernel_rfl) rfl ?_
      refine OkO.load rfl rfl (lda (n := 1) (by kernel_rfl) (by first | assumption | (simp (disch := first | omega | (simp only [hNw, hPt]; omega)) only [gn0, gn1, gn2, gn3, gn4, gn5, gp0, gno, gpo] <;> first | rfl | assumption | exact gp0 _ _ _ | exact gn0 _ _)) (by first | rfl | assumption)) ?_
      refine OkO.builtin rfl rfl rfl (bln (by kernel_rfl) (by first | assumption | rfl)) ?_
      refine OkO.bin rfl rfl rfl (bin_leq _ _) ?_
      refine OkO.move rfl rfl ?_
      refine OkO.split (d := 26) rfl (fun g4 => ?_) (fun g4 => ?_)
      · -- true g4
        refine OkO.move rfl rfl ?_
        refine OkO.builtin rfl rfl rfl (bln (by kernel_rfl) (by first | assumption | rfl)) ?_
        refine OkO.bin rfl rfl rfl (bin_leq _ _) ?_
        refine OkO.pick (b := true) rfl rfl (fun _ => rfl) nofun ?_
        refine OkO.assign rfl rfl ?_
        refine OkO.nil ?_
        refine Ok.ret ⟨.inr rfl, ?_⟩
        have hA : ((rows.take 66).all fun r => decide (r.length ≤ 15)) = true := List.all_eq_true.2 (fun r hr => by obtain ⟨j, hj, rfl⟩ := List.mem_iff_getElem.1 hr; (have hjl : j < 66 ∧ j < rows.length := by rw [List.length_take] at hj; omega); rw [List.getElem_take, decide_eq_true_eq]; exact hall j hjl.2 (by omega))
        have hB : p.errs.length ≤ 15 := by (have h9 : (p.errs.length : Int) ≤ 15 := by simpa using g4); omega
        exact back_flat rfl (congrArg AV.bool (by unfold thinB; rw [hA, decide_eq_true hB, Bool.true_and, Bool.true_and, Bool.eq_iff_iff, decide_eq_true_eq, decide_eq_true_eq]; omega)) rfl (by rw [← hW]; exact g6)
      · -- false g4
        refine OkO.skip rfl ?_
        refine OkO.skip rfl ?_
        refine OkO.skip rfl ?_
        refine OkO.pick (b := false) rfl rfl nofun (fun _ => rfl) ?_
        refine OkO.assign rfl rfl ?_
        refine OkO.nil ?_
        refine Ok.ret ⟨.inr rfl, ?_⟩
        have hA : ((rows.take 66).all fun r => decide (r.length ≤ 15)) = true := List.all_eq_true.2 (fun r hr => by obtain ⟨j, hj, rfl⟩ := List.mem_iff_getElem.1 hr; (have hjl : j < 66 ∧ j < rows.length := by rw [List.length_take] at hj; omega); rw [List.getElem_take, decide_eq_true_eq]; exact hall j hjl.2 (by omega))
        have hB : ¬ p.errs.length ≤ 15 := by (have h9 : ¬ (p.errs.length : Int) ≤ 15 := by simpa using g4); omega
        exact back_flat rfl (congrArg AV.bool (by unfold thinB; rw [hA, decide_eq_false hB]; rfl)) rfl (by rw [← hW]; exact g6)
  · -- false g1
    have hge : rows.length ≤ i := by simpa using g1
    refine OkO.skip rfl ?_
    refine OkO.skip rfl ?_
    refine OkO.pick (b := false) rfl rfl nofun (fun _ => rfl) ?_
    refine OkO.nil ?_
    refine Ok.condF rfl ?_
    refine Ok.exit ?_
    refine Ok.seq ?_
    refine Ok.region ?_
    refine OkO.fieldAddr (o := 0) rfl (by kernel_rfl) rfl ?_
    refine OkO.load rfl rfl (lda (n := 1) (by kernel_rfl) (by first | assumption | (simp (disch := first | omega | (simp only [hNw, hPt]; omega)) only [gn0, gn1, gn2, gn3, gn4, gn5, gp0, gno, gpo] <;> first | rfl | assumption | exact gp0 _ _ _ | exact gn0 _ _)) (by first | rfl | assumption)) ?_
    refine OkO.builtin rfl rfl rfl (bln (by kernel_rfl) (by first | assumption | rfl)) ?_
    refine OkO.bin rfl rfl rfl (bin_leq _ _) ?_
    refine OkO.move rfl rfl ?_
    refine OkO.split (d := 26) rfl (fun g5 => ?_) (fun g5 => ?_)
    · -- true g5
      refine OkO.move rfl rfl ?_
      refine OkO.builtin rfl rfl rfl (bln (by kernel_rfl) (by first | assumption | rfl)) ?_
      refine OkO.bin rfl rfl rfl (bin_leq _ _) ?_
      refine OkO.pick (b := true) rfl rfl (fun _ => rfl) nofun ?_
      refine OkO.assign rfl rfl ?_
      refine OkO.nil ?_
      refine Ok.ret ⟨.inr rfl, ?_⟩
      have hA : ((rows.take 66).all fun r => decide (r.length ≤ 15)) = true := List.all_eq_true.2 (fun r hr => by obtain ⟨j, hj, rfl⟩ := List.mem_iff_getElem.1 hr; (have hjl : j < 66 ∧ j < rows.length := by rw [List.length_take] at hj; omega); rw [List.getElem_take, decide_eq_true_eq]; exact hall j hjl.2 (by omega))
      have hB : p.errs.length ≤ 15 := by (have h9 : (p.errs.length : Int) ≤ 15 := by simpa using g5); omega
      exact back_flat rfl (congrArg AV.bool (by unfold thinB; rw [hA, decide_eq_true hB, Bool.true_and, Bool.true_and, Bool.eq_iff_iff, decide_eq_true_eq, decide_eq_true_eq]; omega)) rfl (by rw [← hW]; exact g6)
    · -- false g5
      refine OkO.skip rfl ?_
      refine OkO.skip rfl ?_
      refine OkO.skip rfl ?_
      refine OkO.pick (b := false) rfl rfl nofun (fun _ => rfl) ?_
      refine OkO.assign rfl rfl ?_
      refine OkO.nil ?_
      refine Ok.ret ⟨.inr rfl, ?_⟩
      have hA : ((rows.take 66).all fun r => decide (r.length ≤ 15)) = true := List.all_eq_true.2 (fun r hr => by obtain ⟨j, hj, rfl⟩ := List.mem_iff_getElem.1 hr; (have hjl : j < 66 ∧ j < rows.length := by rw [List.length_take] at hj; omega); rw [List.getElem_take, decide_eq_true_eq]; exact hall j hjl.2 (by omega))
      have hB : ¬ p.errs.length ≤ 15 := by (have h9 : ¬ (p.errs.length : Int) ≤ 15 := by simpa using g5); omega
      exact back_flat rfl (congrArg AV.bool (by unfold thinB; rw [hA, decide_eq_false hB]; rfl)) rfl (by rw [← hW]; exact g6)
theorem c56 (m : Nat) (ev rv : AV) (p : Pst) (rows : List (List Int)) (H : Heap) (hV : Ints H ev p.errs) (hRs : LstAt H rv rows) : RR (m + 4) (.fn 56 [.agg (p.c ev), rv]) H = some (.bool (thinB p rows && decide (faultE p rows = 0)), H) := by
  refine (R_fn _ _ _ _ _).trans ?_
  refine fn_ok Try.func56 rfl rfl (by kernel_rfl) (by kernel_rfl) ?_
  obtain ⟨W, hW⟩ : ∃ W : Heap, W = ⟨H.t, H.next, H.next⟩ := ⟨_, rfl⟩
  have hg : ∀ n, W.get n = H.get n := fun n => by rw [hW]; rfl
  have hN : W.next = H.next := by rw [hW]
  have hE : ∀ G, Grow W G → Ext H G := fun G g => ⟨by rw [← hN]; exact g.next, fun n k => by rw [g.get n (by rw [hN]; exact k), hg]⟩
  have hG : Grow W W := Grow.refl (by rw [hW]; exact Nat.le_refl _)
  rw [← hW]
  have pev : ev.plain = true := lpl hV.len
  have hrlen := hRs.len
  refine Ok.seq ?_
  refine Ok.region ?_
  refine OkO.box rfl rfl ?_
  refine OkO.assign rfl rfl ?_
  refine OkO.nil ?_
  refine Ok.seq ?_
  refine Ok.region ?_
  refine OkO.load rfl rfl (ldg (n := 6) (by kernel_rfl) (by first | assumption | (simp (disch := first | omega | (simp only [hNw, hPt]; omega)) only [gn0, gn1, gn2, gn3, gn4, gn5, gp0, gno, gpo] <;> first | rfl | assumption | exact gp0 _ _ _ | exact gn0 _ _)) (by first | rfl | assumption)) ?_
  refine OkO.move rfl rfl ?_
  refine OkO.callV rfl rfl rfl rfl rfl (c58 (m + 2) ev rv p rows _ (hV.ext (hE _ (by (try dsimp only); repeat (first | exact hG | apply Grow.new | (refine Grow.put ?_ _ (by first | omega | (simp only [hNw, hPt]; omega))))))) (hRs.ext (hE _ (by (try dsimp only); repeat (first | exact hG | apply Grow.new | (refine Grow.put ?_ _ (by first | omega | (simp only [hNw, hPt]; omega)))))))) ?_ -- "sackung/sackunglaw04.Thin"
  refine OkO.move rfl rfl ?_
  refine OkO.split (d := 8) rfl (fun g1 => ?_) (fun g1 => ?_)
  · -- true g1
    refine OkO.load rfl rfl (ldg (n := 6) (by kernel_rfl) (by first | assumption | (simp (disch := first | omega | (simp only [hNw, hPt]; omega)) only [gn0, gn1, gn2, gn3, gn4, gn5, gp0, gno, gpo] <;> first | rfl | assumption | exact gp0 _ _ _ | exact gn0 _ _)) (by first | rfl | assumption)) ?_
    refine OkO.move rfl rfl ?_
    refine OkO.callV rfl rfl rfl rfl rfl (c25 (m + 0) ev rv p rows _ (hV.ext (hE _ (by (try dsimp only); repeat (first | exact hG | apply Grow.new | (refine Grow.put ?_ _ (by first | omega | (simp only [hNw, hPt]; omega))))))) (hRs.ext (hE _ (by (try dsimp only); repeat (first | exact hG | apply Grow.new | (refine Grow.put ?_ _ (by first | omega | (simp only [hNw, hPt]; omega))))))) (by have := thin_facts g1; omega) (by have := thin_facts g1; omega) (fun r hr => by have := (thin_facts g1).2.2 r hr; omega)) ?_ -- "sackung/sackungref04.Fault"
    refine OkO.bin rfl rfl rfl (bin_eql _ _) ?_
    refine OkO.pick (b := true) rfl rfl (fun _ => rfl) nofun ?_
    refine OkO.assign rfl rfl ?_
    refine OkO.nil ?_
    refine Ok.ret ⟨.inr rfl, ?_⟩
    exact back_flat rfl (congrArg AV.bool (by rw [g1]; rfl)) rfl (by rw [← hW]; exact (by (try dsimp only); repeat (first | exact hG | apply Grow.new | (refine Grow.put ?_ _ (by first | omega | (simp only [hNw, hPt]; omega))))))
  · -- false g1
    refine OkO.skip rfl ?_
    refine OkO.skip rfl ?_
    refine OkO.skip rfl ?_
    refine OkO.skip rfl ?_
    refine OkO.pick (b := false) rfl rfl nofun (fun _ => rfl) ?_
    refine OkO.assign rfl rfl ?_
    refine OkO.nil ?_
    refine Ok.ret ⟨.inr rfl, ?_⟩
    exact back_flat rfl (congrArg AV.bool (by rw [g1]; rfl)) rfl (by rw [← hW]; exact (by (try dsimp only); repeat (first | exact hG | apply Grow.new | (refine Grow.put ?_ _ (by first | omega | (simp only [hNw, hPt]; omega))))))
theorem c34 (m : Nat) (av bv : AV) (xs ys : List Int) (H : Heap) (hA : Ints H av xs) (hB : Ints H bv ys) (hl : xs.length ≤ 100000) (hl2 : ys.length ≤ 100000) : RR (m + 1) (.fn 34 [av, bv]) H = some (.bool (decide (xs = ys)), H) := by
  refine (R_fn _ _ _ _ _).trans ?_
  refine fn_ok Try.func34 rfl rfl (by kernel_rfl) (by kernel_rfl) ?_
  obtain ⟨W, hW⟩ : ∃ W : Heap, W = ⟨H.t, H.next, H.next⟩ := ⟨_, rfl⟩
  have hg : ∀ n, W.get n = H.get n := fun n => by rw [hW]; rfl
  have hN : W.next = H.next := by rw [hW]
  have hE : ∀ G, Grow W G → Ext H G := fun G g => ⟨by rw [← hN]; exact g.next, fun n k => by rw [g.get n (by rw [hN]; exact k), hg]⟩
  have hG : Grow W W := Grow.refl (by rw [hW]; exact Nat.le_refl _)
  rw [← hW]
  have hal := hA.len
  have hbl := hB.len
  refine Ok.seq ?_
  refine Ok.region ?_
  refine OkO.assign rfl rfl ?_
  refine OkO.nil ?_
  refine Ok.seq ?_
  refine Ok.seq ?_
  refine Ok.region ?_
  refine OkO.move rfl rfl ?_
  refine OkO.builtin rfl rfl rfl (bln (by kernel_rfl) (by first | assumption | rfl)) ?_
  refine OkO.move rfl rfl ?_
  refine OkO.builtin rfl rfl rfl (bln (by kernel_rfl) (by first | assumption | rfl)) ?_
  refine OkO.bin rfl rfl rfl (bin_neq _ _) ?_
  refine OkO.nil ?_
  refine Ok.cond rfl (fun h1 => ?_) (fun h1 => ?_)
  · -- yes h1
    have hne : xs.length ≠ ys.length := by (have h9 : (xs.length : Int) ≠ (ys.length : Int) := by simpa using h1); omega
    refine Ok.seq ?_
    refine Ok.region ?_
    refine OkO.assign rfl rfl ?_
    refine OkO.nil ?_
    refine Ok.ret ⟨.inr rfl, ?_⟩
    exact back_flat rfl (congrArg AV.bool (by symm; rw [decide_eq_false_iff_not]; intro e; exact hne (by rw [e]))) rfl (by rw [← hW]; exact hG)
  · -- no h1
    have hle : xs.length = ys.length := by (have h9 : (xs.length : Int) = (ys.length : Int) := by simpa using h1); omega
    refine Ok.skip ?_
    refine Ok.seq ?_
    refine Ok.seq ?_
    refine Ok.region ?_
    refine OkO.assign rfl rfl ?_
    refine OkO.nil ?_
    refine Ok.block ?_
    refine Ok.loop (fun n s => ∃ i : Nat, n = xs.length - i ∧ i ≤ xs.length ∧ (∀ (j : Nat) (h1 : j < xs.length) (h2 : j < ys.length), j < i → xs[j] = ys[j]) ∧ Has 5 [(0, av), (1, bv), (5, I (i : Int))] s.T ∧ s.D = [] ∧ s.H = W) (xs.length) (by unfold loopFuel; omega)
      ⟨0, rfl, Nat.zero_le _, fun j h1 h2 h3 => absurd h3 (Nat.not_lt_zero j), Has.of (by kernel_rfl), rfl, rfl⟩ ?_
    rintro n ⟨T, D, G⟩ ⟨i, hn, hi, hall, ⟨f_, hT⟩, hD, hg9⟩
    dsimp only at *
    subst hT hD
    skip
    subst hg9
    refine Ok.seq ?_
    refine Ok.seq ?_
    refine Ok.region ?_
    refine OkO.move rfl rfl ?_
    refine OkO.move rfl rfl ?_
    refine OkO.builtin rfl rfl rfl (bln (by kernel_rfl) (by first | assumption | rfl)) ?_
    refine OkO.bin rfl rfl rfl (bin_lss _ _) ?_
    refine OkO.nil ?_
    refine Ok.cond rfl (fun h2 => ?_) (fun h2 => ?_)
    · -- yes h2
      have hlt : i < xs.length := by simpa using h2
      obtain ⟨xb, xo, xcs, x1, x2, x3, x4⟩ := (hA.ext (hE _ hG)).at' i hlt
      obtain ⟨yb, yo, ycs, y1, y2, y3, y4⟩ := (hB.ext (hE _ hG)).at' i (by omega)
      refine Ok.skip ?_
      refine Ok.seq ?_
      refine Ok.block ?_
      refine Ok.seq ?_
      refine Ok.drawn [(0, true, []), (1, true, []), (2, true, []), (3, true, []), (4, true, []), (5, true, []), (6, true, []), (7, true, []), (8, true, [])] (by kernel_rfl) ?_
      refine OkP.step ?_
      refine OkO.move rfl rfl ?_
      refine OkO.nil ⟨rfl, ?_⟩
      refine OkP.step ?_
      refine OkO.move rfl rfl ?_
      refine OkO.nil ⟨rfl, ?_⟩
      refine OkP.step ?_
      refine OkO.index (sz := 1) (n := i) rfl rfl rfl (by kernel_rfl) (by first | assumption | rfl | exact slAt_slice (by omega) | exact slAt_opn (by omega)) ?_ -- index ('Go.Operand.tmp', 17) ('Go.Operand.tmp', 18)
      refine OkO.nil ⟨rfl, ?_⟩
      refine OkP.step ?_
      refine OkO.load rfl rfl (lda (n := 1) (by kernel_rfl) (by first | assumption | (simp (disch := first | omega | (simp only [hNw, hPt]; omega)) only [gn0, gn1, gn2, gn3, gn4, gn5, gp0, gno, gpo] <;> first | rfl | assumption | exact gp0 _ _ _ | exact gn0 _ _)) (by first | rfl | assumption)) ?_
      refine OkO.nil ⟨rfl, ?_⟩
      refine OkP.step ?_
      refine OkO.move rfl rfl ?_
      refine OkO.nil ⟨rfl, ?_⟩
      refine OkP.step ?_
      refine OkO.move rfl rfl ?_
      refine OkO.nil ⟨rfl, ?_⟩
      refine OkP.step ?_
      refine OkO.index (sz := 1) (n := i) rfl rfl rfl (by kernel_rfl) (by first | assumption | rfl | exact slAt_slice (by omega) | exact slAt_opn (by omega)) ?_ -- index ('Go.Operand.tmp', 21) ('Go.Operand.tmp', 22)
      refine OkO.nil ⟨rfl, ?_⟩
      refine OkP.step ?_
      refine OkO.load rfl rfl (lda (n := 1) (by kernel_rfl) (by first | assumption | (simp (disch := first | omega | (simp only [hNw, hPt]; omega)) only [gn0, gn1, gn2, gn3, gn4, gn5, gp0, gno, gpo] <;> first | rfl | assumption | exact gp0 _ _ _ | exact gn0 _ _)) (by first | rfl | assumption)) ?_
      refine OkO.nil ⟨rfl, ?_⟩
      refine OkP.step ?_
      refine OkO.bin rfl rfl rfl (bin_neq _ _) ?_
      refine OkO.nil ⟨rfl, ?_⟩
      refine OkP.nil ?_
      refine Ok.cond rfl (fun h3 => ?_) (fun h3 => ?_)
      · -- yes h3
        have hne : xs[i] ≠ ys[i]'(by omega) := by simpa using h3
        refine Ok.seq ?_
        refine Ok.region ?_
        refine OkO.assign rfl rfl ?_
        refine OkO.nil ?_
        refine Ok.ret ⟨.inr rfl, ?_⟩
        exact back_flat rfl (congrArg AV.bool (by symm; rw [decide_eq_false_iff_not]; intro e; subst e; exact hne rfl)) rfl (by rw [← hW]; exact hG)
      · -- no h3
        refine Ok.skip ?_
        refine Ok.region ?_
        refine OkO.move rfl rfl ?_
        refine OkO.bin rfl rfl rfl (bin_add (by omega) (by omega)) ?_
        refine OkO.assign rfl rfl ?_
        refine OkO.nil ?_
        refine ⟨xs.length - (i + 1), by omega, i + 1, rfl, by omega, fun j h1_ h2_ h3_ => ?_, Has.of (by kernel_rfl), rfl, rfl⟩
        by_cases e : j = i
        · subst e; simpa using h3
        · exact hall j h1_ h2_ (by omega)
    · -- no h2
      have hge : xs.length ≤ i := by simpa using h2
      refine Ok.exit ?_
      refine Ok.seq ?_
      refine Ok.region ?_
      refine OkO.assign rfl rfl ?_
      refine OkO.nil ?_
      refine Ok.ret ⟨.inr rfl, ?_⟩
      exact back_flat rfl (congrArg AV.bool (by symm; rw [decide_eq_true_eq]; exact List.ext_getElem hle (fun j h1_ h2_ => hall j h1_ h2_ (by omega)))) rfl (by rw [← hW]; exact hG)
end
end Go.Ev

set_option maxRecDepth 100000
set_option linter.unusedSimpArgs false
set_option linter.unusedVariables false
namespace Go.Ev
open Go Go.Proofs
noncomputable section
theorem LstAt.take {H : Heap} {v : AV} {rows : List (List Int)} (h : LstAt H v rows) (hv : (∃ b off len cap, v = .slice b off len cap ∧ len ≤ cap) ∨ v = .nils ∨ ∃ a c, v = .raw (.slice a 0 c)) {k : Nat} (hk : k ≤ rows.length) : ∃ v', (∀ G, sliceOf G 1 v none (some (.int .i64 (k : Int))) = some v') ∧ LstAt H v' (rows.take k) := by
  obtain ⟨vs, h1, h2, h3⟩ := h
  obtain ⟨v', e1, e2⟩ := slice_to hv h2 (k := k) (by simp; omega)
  refine ⟨v', e1, vs.take k, by simp [h1], by rw [List.map_take]; exact e2, fun i x r a c => ?_⟩
  rw [List.getElem?_take] at a c
  split at a
  · rename_i hi
    rw [if_pos hi] at c
    exact h3 i x r a c
  · cases a
theorem spd_mem {p : Pst} {rows : List (List Int)} {h : Nat} : ∀ {k : Nat} {x : Int}, x ∈ spdL p rows h k → ∃ j, j < k ∧ ∃ hh : h < (mayL p ((j : Int) - 1) rows).length, x = (mayL p ((j : Int) - 1) rows)[h].1 ∨ x = (mayL p ((j : Int) - 1) rows)[h].2
  | 0, x, hx => by simp [spdL] at hx
  | i + 1, x, hx => by
    by_cases hr : h + 1 ≤ lenM p rows i
    · have hh : h < (mayL p ((i : Int) - 1) rows).length := hr
      rw [spdL_yes hr hh] at hx
      rcases List.mem_append.1 hx with h8 | h8
      · obtain ⟨j, h1, h2⟩ := spd_mem h8
        exact ⟨j, by omega, h2⟩
      · simp at h8
        exact ⟨i, by omega, hh, h8⟩
    · rw [spdL_no hr] at hx
      obtain ⟨j, h1, h2⟩ := spd_mem hx
      exact ⟨j, by omega, h2⟩
theorem spd_in {p : Pst} {rows : List (List Int)} {h j : Nat} (hh : h < (mayL p ((j : Int) - 1) rows).length) : ∀ {k : Nat}, j < k → (mayL p ((j : Int) - 1) rows)[h].1 ∈ spdL p rows h k ∧ (mayL p ((j : Int) - 1) rows)[h].2 ∈ spdL p rows h k
  | 0, hk => by omega
  | i + 1, hk => by
    by_cases e : j = i
    · subst e
      rw [spdL_yes (show h + 1 ≤ lenM p rows j from hh) hh]
      simp
    · have := spd_in hh (k := i) (by omega)
      show _ ∈ spdL p rows h i ++ _ ∧ _ ∈ spdL p rows h i ++ _
      exact ⟨List.mem_append.2 (.inl this.1), List.mem_append.2 (.inl this.2)⟩
theorem mnL_mem : ∀ {L : List Int}, L ≠ [] → mnL L ∈ L
  | [], h => absurd rfl h
  | a :: l, _ => by
    have key : ∀ (l : List Int) (a : Int), l.foldl min a ∈ a :: l := fun l => by
      induction l with
      | nil => intro a; simp
      | cons c l ih =>
        intro a
        have := ih (min a c)
        rw [List.foldl_cons]
        rcases List.mem_cons.1 this with h | h
        · rw [h]
          rcases Int.le_total a c with h9 | h9
          · rw [Int.min_eq_left h9]; simp
          · rw [Int.min_eq_right h9]; simp
        · exact List.mem_cons_of_mem _ (List.mem_cons_of_mem _ h)
    exact key l a
theorem foldl_min : ∀ (l : List Int) (a : Int), l.foldl min a ≤ a ∧ ∀ x ∈ l, l.foldl min a ≤ x
  | [], a => ⟨Int.le_refl _, nofun⟩
  | c :: l, a => by
    obtain ⟨h1, h2⟩ := foldl_min l (min a c)
    rw [List.foldl_cons]
    exact ⟨by omega, fun x hx => by
      rcases List.mem_cons.1 hx with rfl | h
      · omega
      · exact h2 x h⟩
theorem foldl_max : ∀ (l : List Int) (a : Int), a ≤ l.foldl max a ∧ ∀ x ∈ l, x ≤ l.foldl max a
  | [], a => ⟨Int.le_refl _, nofun⟩
  | c :: l, a => by
    obtain ⟨h1, h2⟩ := foldl_max l (max a c)
    rw [List.foldl_cons]
    exact ⟨by omega, fun x hx => by
      rcases List.mem_cons.1 hx with rfl | h
      · omega
      · exact h2 x h⟩
theorem mnL_le {L : List Int} {x : Int} (h : x ∈ L) : mnL L ≤ x := by
  cases L with
  | nil => cases h
  | cons a l =>
    rcases List.mem_cons.1 h with rfl | h
    · exact (foldl_min l _).1
    · exact (foldl_min l a).2 x h
theorem le_mxL {L : List Int} {x : Int} (h : x ∈ L) : x ≤ mxL L := by
  cases L with
  | nil => cases h
  | cons a l =>
    rcases List.mem_cons.1 h with rfl | h
    · exact (foldl_max l _).1
    · exact (foldl_max l a).2 x h
theorem poss_last {p : Pst} {rows : List (List Int)} {i h : Nat} (hh : h ≤ rows.length) : h ≤ lenM p rows i ↔ lastI p ((i : Int) - 1) (rows.take h) ≠ nul := may_len hh
end
end Go.Ev

set_option maxRecDepth 100000
set_option linter.unusedSimpArgs false
set_option linter.unusedVariables false
namespace Go.Ev
open Go Go.Proofs
noncomputable section
end
end Go.Ev

set_option maxRecDepth 100000
set_option linter.unusedSimpArgs false
set_option linter.unusedVariables false
namespace Go.Ev
open Go Go.Proofs
noncomputable section
end
end Go.Ev

set_option maxRecDepth 100000
set_option linter.unusedSimpArgs false
set_option linter.unusedVariables false
namespace Go.Ev
open Go Go.Proofs
noncomputable section
end
end Go.Ev

set_option maxRecDepth 100000
set_option linter.unusedSimpArgs false
set_option linter.unusedVariables false
namespace Go.Ev
open Go Go.Proofs
noncomputable section
/-- A number that words pick. -/
def pickV (lo hi : Int) (ws : List Int) (a : Nat) : Int :=
  if ws = [] then lo else if (ws.getD (a % ws.length) 0) % 4 = 0 then lo else if (ws.getD (a % ws.length) 0) % 4 = 1 then hi else lo + (ws.getD (a % ws.length) 0) % (hi - lo + 1)
/-- Speeds that may be, and reads that agree with them. -/
def TruOk (p : Pst) (f : Int) (sp : List Int) (rows : List (List Int)) : Prop := rows.length = sp.length ∧ MovP p sp ∧ AgrP p f rows sp ∧ ∀ r ∈ rows, r.length = p.errs.length ∧ ∀ x ∈ r, -1000 ≤ x ∧ x ≤ 2000
theorem TruOk.nil (p : Pst) (f : Int) : TruOk p f [] [] := ⟨rfl, ⟨fun x h => absurd h List.not_mem_nil, fun h h2 => absurd h2 (Nat.not_lt_zero _)⟩, fun h h1 => absurd h1 (Nat.not_lt_zero _), fun r h => absurd h List.not_mem_nil⟩
theorem TruOk.snoc {p : Pst} {f v : Int} {sp : List Int} {rows : List (List Int)} {row : List Int} (h : TruOk p f sp rows) (hv : 0 ≤ v ∧ v ≤ 1000) (hs : ∀ x, sp[sp.length - 1]? = some x → StepOk p x v) (hr : row.length = p.errs.length ∧ ∀ x ∈ row, -1000 ≤ x ∧ x ≤ 2000) (ha : AgreeR p f row v) : TruOk p f (sp ++ [v]) (rows ++ [row]) := by
  obtain ⟨h1, ⟨h2, h3⟩, h4, h5⟩ := h
  refine ⟨by simp [h1], ⟨fun x hx => ?_, fun k hk => ?_⟩, fun k k1 k2 => ?_, fun r hr9 => ?_⟩
  · rcases List.mem_append.1 hx with hx | hx
    · exact h2 x hx
    · rw [List.mem_singleton] at hx; rw [hx]; exact hv
  · rw [List.length_append, List.length_singleton] at hk
    by_cases c : k + 1 < sp.length
    · rw [List.getElem_append_left c, List.getElem_append_left (by omega)]
      exact h3 k c
    · have e1 : (sp ++ [v])[k + 1]'(by simp; omega) = v := by rw [List.getElem_append_right (by omega)]; simp
      have e2 : (sp ++ [v])[k]'(by simp; omega) = sp[k]'(by omega) := List.getElem_append_left (by omega)
      rw [e1, e2]
      exact hs _ (by rw [show sp.length - 1 = k from by omega, List.getElem?_eq_getElem (by omega)])
  · rw [List.length_append, List.length_singleton] at k1
    by_cases c : k < sp.length
    · rw [List.getElem_append_left c, List.getElem_append_left (by omega)]
      exact h4 k c (by omega)
    · have e1 : (sp ++ [v])[k]'(by simp; omega) = v := by rw [List.getElem_append_right (by omega)]; simp
      have e2 : (rows ++ [row])[k]'k2 = row := by rw [List.getElem_append_right (by omega)]; simp
      rw [e1, e2]
      exact ha
  · rcases List.mem_append.1 hr9 with hr9 | hr9
    · exact h5 r hr9
    · rw [List.mem_singleton] at hr9; rw [hr9]; exact hr
theorem TruOk.in {p : Pst} {f : Int} {sp : List Int} {rows : List (List Int)} (h : TruOk p f sp rows) (hpg : 0 ≤ p.gain) (hpd : 0 ≤ p.drop) : ∀ (k : Nat) (hk : k < sp.length), inI sp[k] (lastI p f (rows.take (k + 1)))
  | 0, hk => by
    obtain ⟨h1, ⟨h2, h3⟩, h4, h5⟩ := h
    have hb := h2 _ (List.getElem_mem hk)
    rw [last_next (by omega), next_iff hb]
    refine ⟨⟨(by rw [List.take_zero]; intro h9; cases h9), ?_⟩, h4 0 hk (by omega)⟩
    rw [List.take_zero]
    show (0 : Int) - p.drop ≤ _ ∧ _ ≤ (1000 : Int) + p.gain
    omega
  | k + 1, hk => by
    have hi := TruOk.in h hpg hpd k (by omega)
    obtain ⟨h1, ⟨h2, h3⟩, h4, h5⟩ := h
    have hb := h2 _ (List.getElem_mem hk)
    rw [last_next (by omega), next_iff hb]
    have hs := h3 k hk
    refine ⟨⟨fun h9 => ?_, ?_⟩, h4 (k + 1) hk (by omega)⟩
    · rw [h9] at hi; exact not_nul _ hi
    · unfold StepOk at hs; unfold inI at hi; omega
theorem TruOk.len {p : Pst} {f : Int} {sp : List Int} {rows : List (List Int)} (h : TruOk p f sp rows) (hpg : 0 ≤ p.gain) (hpd : 0 ≤ p.drop) {j : Nat} (hj : f = (j : Int) - 1) : rows.length ≤ lenM p rows j := by
  refine (poss_last (Nat.le_refl _)).2 ?_
  rw [List.take_length]
  rw [← hj]
  by_cases c : sp.length = 0
  · have : rows = [] := List.eq_nil_of_length_eq_zero (by rw [h.1]; exact c)
    rw [this]
    intro h9; cases h9
  · intro h9
    have := h.in hpg hpd (sp.length - 1) (by omega)
    rw [show rows.take (sp.length - 1 + 1) = rows from by rw [show sp.length - 1 + 1 = rows.length from by rw [h.1]; omega, List.take_length], h9] at this
    exact not_nul _ this
theorem TruOk.span {p : Pst} {f : Int} {sp : List Int} {rows : List (List Int)} (h : TruOk p f sp rows) (hpg : 0 ≤ p.gain) (hpd : 0 ≤ p.drop) {j : Nat} (hj : f = (j : Int) - 1) (hn : j < p.errs.length + 1) (k : Nat) (hk : k < sp.length) : mnL (spdL p rows k (p.errs.length + 1)) ≤ sp[k] ∧ sp[k] ≤ mxL (spdL p rows k (p.errs.length + 1)) := by
  have hl := h.len hpg hpd hj
  have hm : k < (mayL p ((j : Int) - 1) rows).length := by (have h9 : rows.length ≤ (mayL p ((j : Int) - 1) rows).length := hl); rw [h.1] at h9; omega
  have h1 := spd_in hm hn
  have h2 := h.in hpg hpd k hk
  rw [hj, ← (may_mem hm).1] at h2
  have h3 := mnL_le h1.1
  have h4 := le_mxL h1.2
  unfold inI at h2
  omega
theorem MovP.up {p : Pst} {sp : List Int} (h : MovP p sp) (k : Nat) : ∀ (d : Nat) (hd : k + d < sp.length), sp[k + d] ≤ sp[k]'(by omega) + (d : Int) * p.gain
  | 0, hd => by simp
  | d + 1, hd => by
    have h1 := MovP.up h k d (by omega)
    have h2 := h.2 (k + d) (by omega)
    unfold StepOk at h2
    have e : ((d + 1 : Nat) : Int) * p.gain = (d : Int) * p.gain + p.gain := by rw [show ((d + 1 : Nat) : Int) = (d : Int) + 1 from by omega, Int.add_mul, Int.one_mul]
    rw [e]
    show sp[k + d + 1] ≤ _
    omega
theorem level_call {p : Pst} {x y : Int} {d : Nat} (hpg : 0 ≤ p.gain) (hd : (d : Int) ≤ p.out) (hy : p.fall ≤ y) (hxy : y ≤ x + (d : Int) * p.gain) : levelI p x = 3 := by
  have hl : leftI p x ≤ hrI p 0 := by
    have e : hrI p 0 = p.out := by simp [hrI]
    rw [e]
    unfold leftI
    split
    · omega
    · rename_i h1
      split
      · rename_i h2
        rw [h2, Int.mul_zero] at hxy
        omega
      · have h3 : (p.fall - x + p.gain - 1) / p.gain < (d : Int) + 1 := by
          refine Int.ediv_lt_of_lt_mul (by omega) ?_
          rw [Int.add_mul, Int.one_mul]
          omega
        omega
  unfold levelI
  rw [if_pos hl]
theorem TruOk.call {p : Pst} {f : Int} {sp : List Int} {rows : List (List Int)} (h : TruOk p f sp rows) (hpg : 0 ≤ p.gain) (hpd : 0 ≤ p.drop) {j : Nat} (hj : f = (j : Int) - 1) (hn : j < p.errs.length + 1) {k i : Nat} (hk : k ≤ i) (hi : i < sp.length) (ho : (i : Int) - p.out ≤ k) (hfall : p.fall ≤ sp[i]) : levelI p (mxL (spdL p rows k (p.errs.length + 1))) = 3 := by
  have h1 := MovP.up h.2.1 k (i - k) (by omega)
  have h2 := (h.span hpg hpd hj hn k (by omega)).2
  have e : sp[k + (i - k)]'(by omega) = sp[i] := by congr 1; omega
  rw [e] at h1
  refine level_call (y := sp[i]) (d := i - k) hpg (by omega) hfall ?_
  omega
/-- A list of lists that was made, apart from another list. -/
def RowsX (k0 : Nat) (G : Heap) (xv v : AV) (rows : List (List Int)) : Prop := ∃ vs : List AV, vs.length = rows.length ∧ Mine k0 G v 22 1 vs ∧ ∀ (i : Nat) (x : AV) (r : List Int), vs[i]? = some x → rows[i]? = some r → Mine k0 G x 3 1 (r.map I) ∧ ∀ b m m', x = .opn b m → xv ≠ .opn b m'
theorem RowsX.rows {k0 : Nat} {G : Heap} {xv v : AV} {l : List (List Int)} (h : RowsX k0 G xv v l) : RowsM k0 G v l := by
  obtain ⟨vs, h1, h2, h3⟩ := h
  exact ⟨vs, h1, h2, fun i x r a c => (h3 i x r a c).1⟩
theorem RowsX.nil (k0 : Nat) (G : Heap) (xv : AV) : RowsX k0 G xv .nils [] := ⟨[], rfl, Mine.nil _ _ _ _, fun i x s h _ => by simp at h⟩
theorem RowsX.to {k0 : Nat} {G G' : Heap} {xv v : AV} {l : List (List Int)} (h : RowsX k0 G xv v l) (e : Ext G G') : RowsX k0 G' xv v l := by
  obtain ⟨vs, h1, h2, h3⟩ := h
  exact ⟨vs, h1, h2.to e, fun i x r a c => ⟨(h3 i x r a c).1.to e, (h3 i x r a c).2⟩⟩
theorem RowsX.snoc {k0 : Nat} {G : Heap} {xv ov x : AV} {l : List (List Int)} {s : List Int} (h : RowsX k0 G xv ov l) (hx : Mine k0 G x 3 1 (s.map I)) (hsep : ∀ b m m', x = .opn b m → xv ≠ .opn b m') : ∃ cs, Mine k0 G ov 22 1 cs ∧ cs.length = l.length ∧ ∀ v2 G2, Mine k0 G2 v2 22 1 (cs ++ [x]) → G.next ≤ G2.next → (∀ j, j < G.next → (∀ m, ov ≠ .opn j m) → G2.get j = G.get j) → RowsX k0 G2 xv v2 (l ++ [s]) := by
  obtain ⟨vs, h1, h2, h3⟩ := h
  refine ⟨_, h2, h1, fun v2 G2 k1 k2 k3 => ⟨vs ++ [x], by simp [h1], k1, fun i y t a c => ?_⟩⟩
  by_cases hi : i < vs.length
  · rw [List.getElem?_append_left hi] at a
    rw [List.getElem?_append_left (by omega)] at c
    exact ⟨(h3 i y t a c).1.offE h2 (.inl (by decide)) k2 k3, (h3 i y t a c).2⟩
  · by_cases hi2 : i = vs.length
    · subst hi2
      rw [List.getElem?_append_right (Nat.le_refl _)] at a
      rw [List.getElem?_append_right (by omega), h1] at c
      simp at a c
      subst a c
      exact ⟨hx.offE h2 (.inl (by decide)) k2 k3, hsep⟩
    · rw [List.getElem?_eq_none (by simp; omega)] at a; cases a
def U16c (n : Int) : List AV := [.int .u16 n]
/-- A row of reads, as words make it. -/
def rowV (p : Pst) (f v : Int) (ws : List Int) (h n : Nat) : List Int := (List.range n).map fun (i : Nat) => if (i : Int) = f then pickV (-1000) 2000 ws (5 * h + 1) else pickV (v - p.errs.getD i 0) (v + p.errs.getD i 0) ws (7 * h + i)
end
end Go.Ev

set_option maxRecDepth 100000
set_option linter.unusedSimpArgs false
set_option linter.unusedVariables false
namespace Go.Ev
open Go Go.Proofs
noncomputable section
end
end Go.Ev

set_option maxRecDepth 100000
set_option linter.unusedSimpArgs false
set_option linter.unusedVariables false
namespace Go.Ev
open Go Go.Proofs
noncomputable section
end
end Go.Ev

set_option maxRecDepth 100000
set_option linter.unusedSimpArgs false
set_option linter.unusedVariables false
namespace Go.Ev
open Go Go.Proofs
noncomputable section
end
end Go.Ev

set_option maxRecDepth 100000
set_option linter.unusedSimpArgs false
set_option linter.unusedVariables false
namespace Go.Ev
open Go Go.Proofs
noncomputable section
/-- A list of lists that was made, each list in a block of its own. -/
def RowsD (k0 : Nat) (G : Heap) (v : AV) (rows : List (List Int)) : Prop := ∃ vs : List AV, vs.length = rows.length ∧ Mine k0 G v 22 1 vs ∧ (∀ (i : Nat) (x : AV) (r : List Int), vs[i]? = some x → rows[i]? = some r → Mine k0 G x 3 1 (r.map I)) ∧ ∀ (i j : Nat) (b m m' : Nat), i ≠ j → vs[i]? = some (.opn b m) → vs[j]? ≠ some (.opn b m')
theorem RowsD.rows {k0 : Nat} {G : Heap} {v : AV} {rows : List (List Int)} (h : RowsD k0 G v rows) : RowsM k0 G v rows := let ⟨vs, h1, h2, h3, _⟩ := h; ⟨vs, h1, h2, h3⟩
theorem RowsD.nil (k0 : Nat) (G : Heap) : RowsD k0 G .nils [] := ⟨[], rfl, Mine.nil _ _ _ _, fun i x s h _ => by simp at h, fun i j b m m' _ h => by simp at h⟩
theorem RowsD.to {k0 : Nat} {G G' : Heap} {v : AV} {rows : List (List Int)} (h : RowsD k0 G v rows) (e : Ext G G') : RowsD k0 G' v rows := let ⟨vs, h1, h2, h3, h4⟩ := h; ⟨vs, h1, h2.to e, fun i x r a c => (h3 i x r a c).to e, h4⟩
theorem RowsD.low {k0 k1 : Nat} {G : Heap} {v : AV} {rows : List (List Int)} (h : RowsD k1 G v rows) (hk : k0 ≤ k1) : RowsD k0 G v rows := let ⟨vs, h1, h2, h3, h4⟩ := h; ⟨vs, h1, h2.low hk, fun i x r a c => (h3 i x r a c).low hk, h4⟩
theorem RowsD.snoc {k0 : Nat} {G0 G : Heap} {ov x : AV} {l : List (List Int)} {s : List Int} (h : RowsD k0 G0 ov l) (e : Ext G0 G) (hx : Mine G0.next G x 3 1 (s.map I)) (hk : k0 ≤ G0.next) : ∃ cs, Mine k0 G ov 22 1 cs ∧ cs.length = l.length ∧ ∀ v2 G2, Mine k0 G2 v2 22 1 (cs ++ [x]) → G.next ≤ G2.next → (∀ j, j < G.next → (∀ m, ov ≠ .opn j m) → G2.get j = G.get j) → RowsD k0 G2 v2 (l ++ [s]) := by
  obtain ⟨vs, h1, h2, h3, h4⟩ := h
  refine ⟨_, h2.to e, h1, fun v2 G2 k1 k2 k3 => ⟨vs ++ [x], by simp [h1], k1, fun i y t a c => ?_, fun i j b m m' hij ha hb => ?_⟩⟩
  · by_cases hi : i < vs.length
    · rw [List.getElem?_append_left hi] at a
      rw [List.getElem?_append_left (by omega)] at c
      exact ((h3 i y t a c).to e).offE (h2.to e) (.inl (by decide)) k2 k3
    · by_cases hi2 : i = vs.length
      · subst hi2
        rw [List.getElem?_append_right (Nat.le_refl _)] at a
        rw [List.getElem?_append_right (by omega), h1] at c
        simp at a c
        subst a c
        exact (hx.low hk).offE (h2.to e) (.inl (by decide)) k2 k3
      · rw [List.getElem?_eq_none (by simp; omega)] at a; cases a
  · have key : ∀ (i : Nat) (b m m' : Nat), vs[i]? = some (.opn b m) → x ≠ .opn b m' := fun i b m m' ha hb => by
      have hi : i < vs.length := (List.getElem?_eq_some_iff.1 ha).1
      have := (h3 i _ _ ha (List.getElem?_eq_getElem (by omega))).lt rfl
      exact hx.far this m' hb
    have hlen : ∀ (i : Nat) (z : AV), (vs ++ [x])[i]? = some z → (i < vs.length ∧ vs[i]? = some z) ∨ (i = vs.length ∧ z = x) := fun i z hz => by
      by_cases hi : i < vs.length
      · rw [List.getElem?_append_left hi] at hz; exact .inl ⟨hi, hz⟩
      · have h9 : i < (vs ++ [x]).length := (List.getElem?_eq_some_iff.1 hz).1
        rw [List.length_append, List.length_singleton] at h9
        have e9 : i = vs.length := by omega
        subst e9
        rw [List.getElem?_append_right (Nat.le_refl _)] at hz
        simp at hz
        exact .inr ⟨rfl, hz.symm⟩
    rcases hlen i _ ha with ⟨_, ha⟩ | ⟨ha, ha2⟩ <;> rcases hlen j _ hb with ⟨_, hb⟩ | ⟨hb, hb2⟩
    · exact h4 i j b m m' hij ha hb
    · exact key i b m m' ha hb2.symm
    · exact key j b m' m hb ha2.symm
    · omega
theorem RowsD.backS {H G H' : Heap} {v : AV} {l : List (List Int)} (h : RowsD H.next G v l) (r : (H' = H ∧ v.flat = true) ∨ ((∀ n, H'.get n = G.get n) ∧ H'.next = G.next)) : RowsD H.next H' v l := by
  rcases r with ⟨rfl, hf⟩ | ⟨h1, h2⟩
  · obtain ⟨vs, a1, a2, a3, a4⟩ := h
    rcases a2 with ⟨rfl, a2⟩ | ⟨b, n, rfl, _⟩
    · subst a2; exact ⟨[], a1, .inl ⟨rfl, rfl⟩, fun i x s h _ => by simp at h, fun i j b m m' _ h => by simp at h⟩
    · cases hf
  · exact h.to ⟨by omega, fun n _ => h1 n⟩
theorem RowsD.at {k0 : Nat} {G : Heap} {v : AV} {rows : List (List Int)} (h : RowsD k0 G v rows) : LstAt G v rows := h.rows.at
end
end Go.Ev

set_option maxRecDepth 100000
set_option linter.unusedSimpArgs false
set_option linter.unusedVariables false
namespace Go.Ev
open Go Go.Proofs
noncomputable section
def Pst.more (p : Pst) (er : Int) : Pst := ⟨p.errs ++ [er], p.gain, p.drop, p.fall, p.out, p.ahead⟩
def wz (ws : List Int) (j : Nat) : Int := ws.getD (j % ws.length) 0 % 1000
/-- The rows, each of the first ones with one number more. -/
def addR (ws : List Int) (i : Nat) (rows : List (List Int)) : List (List Int) := rows.mapIdx fun j r => if j < i then r ++ [wz ws j] else r
/-- Who may have failed without the gauge that came in last. -/
def lessF (p : Pst) (f : Int) : Int := if f = (p.errs.length : Int) then -1 else f
theorem Mine.up {k0 k1 : Nat} {G : Heap} {v : AV} {e : TypeId} {sz : Nat} {cs : List AV} (h : Mine k0 G v e sz cs) {b m : Nat} (hv : v = .opn b m) (hb : k1 ≤ b) : Mine k1 G v e sz cs := by
  rcases h with ⟨h, _⟩ | ⟨b', n, a1, a2, a3, a4, a5⟩
  · rw [h] at hv; cases hv
  · refine .inr ⟨b', n, a1, a2, a3, ?_, a5⟩
    rw [a1] at hv; cases hv; exact hb
theorem slAt_opn {b len sz n : Nat} (h : n < len) : slAt (.opn b len) sz n = some (b, n * sz) := by simp [slAt, h]
end
end Go.Ev

set_option maxRecDepth 100000
set_option linter.unusedSimpArgs false
set_option linter.unusedVariables false
namespace Go.Ev
open Go Go.Proofs
noncomputable section
end
end Go.Ev

set_option maxRecDepth 100000
set_option linter.unusedSimpArgs false
set_option linter.unusedVariables false
namespace Go.Ev
open Go Go.Proofs
noncomputable section
def Pst.later (p : Pst) (o : Int) : Pst := ⟨p.errs, p.gain, p.drop, p.fall, o, p.ahead⟩
def Trm.later (t : Trm) (o : Int) : Trm := ⟨o, t.price, t.hour, t.less, t.hold⟩
end
end Go.Ev

set_option maxRecDepth 100000
set_option linter.unusedSimpArgs false
set_option linter.unusedVariables false
namespace Go.Ev
open Go Go.Proofs
noncomputable section
end
end Go.Ev

set_option maxRecDepth 100000
set_option linter.unusedSimpArgs false
set_option linter.unusedVariables false
namespace Go.Ev
open Go Go.Proofs
noncomputable section
def apB (p : Pst) (row : List Int) (a c : Nat) : Bool := decide (row.getD c 0 + p.errs.getD c 0 < row.getD a 0 - p.errs.getD a 0) || decide (row.getD a 0 + p.errs.getD a 0 < row.getD c 0 - p.errs.getD c 0)
/-- Two others deny a gauge. -/
def Lone (p : Pst) (row : List Int) (k : Nat) : Prop := ∃ i1 i2, i1 < i2 ∧ i2 < p.errs.length ∧ i1 ≠ k ∧ i2 ≠ k ∧ apB p row k i1 = true ∧ apB p row k i2 = true
theorem ap_no {p : Pst} {row : List Int} {k i : Nat} {v : Int} (h : apB p row k i = true) (h1 : inI v (gI p row k)) (h2 : inI v (gI p row i)) : False := by
  unfold apB at h
  rw [Bool.or_eq_true, decide_eq_true_eq, decide_eq_true_eq] at h
  unfold inI gI agI at h1 h2
  dsimp only at h1 h2
  omega
theorem lone_no {p : Pst} {row : List Int} {k : Nat} {f v : Int} (hk : k < p.errs.length) (h : Lone p row k) (hf : f ≠ (k : Int)) : ¬ AgreeR p f row v := by
  intro ha
  obtain ⟨i1, i2, h1, h2, h3, h4, h5, h6⟩ := h
  have hkk := ha k hk (fun h => hf h.symm)
  by_cases e : (i1 : Int) = f
  · exact ap_no h6 hkk (ha i2 h2 (by omega))
  · exact ap_no h5 hkk (ha i1 (by omega) e)
theorem lone_nul {p : Pst} {rows : List (List Int)} {k fr : Nat} {f : Int} (hk : k < p.errs.length) (hfr : fr < rows.length) (h : Lone p (rows[fr]'hfr) k) (hf : f ≠ (k : Int)) : ∀ d, fr + d < rows.length → lastI p f (rows.take (fr + d + 1)) = nul
  | 0, hd => by
    refine Classical.byContradiction fun hn => ?_
    obtain ⟨v, hv⟩ := (prp_mem (last_prp p f (rows.take (fr + 0 + 1)))).2 hn
    have hb := last_bd hv
    rw [last_next (by omega), next_iff hb] at hv
    exact lone_no hk h hf hv.2
  | d + 1, hd => by
    have ih := lone_nul hk hfr h hf d (by omega)
    rw [show fr + (d + 1) + 1 = (fr + d + 1) + 1 from rfl, last_next (by omega)]
    unfold nextI
    rw [if_pos ih]
theorem lone_at {p : Pst} {rows : List (List Int)} {k fr h : Nat} {f : Int} (hk : k < p.errs.length) (hfr : fr < rows.length) (hl : Lone p (rows[fr]'hfr) k) (h1 : fr ≤ h) (h2 : h < rows.length) (hn : lastI p f (rows.take (h + 1)) ≠ nul) : f = (k : Int) := by
  refine Classical.byContradiction fun hf => hn ?_
  have := lone_nul hk hfr hl hf (h - fr) (by omega)
  rw [show fr + (h - fr) + 1 = h + 1 from by omega] at this
  exact this
/-- All but one, each twice. -/
def dblL (k : Nat) (g : Nat → Int) : Nat → List Int
  | 0 => []
  | i + 1 => dblL k g i ++ (if i ≠ k then [g i, g i] else [])
def posD (k i : Nat) : Nat := 2 * (if i < k then i else i - 1)
theorem dblL_yes {k : Nat} {g : Nat → Int} {i : Nat} (h : i ≠ k) : dblL k g (i + 1) = dblL k g i ++ [g i, g i] := by
  show dblL k g i ++ (if i ≠ k then _ else _) = _
  rw [if_pos h]
theorem dblL_no {k : Nat} {g : Nat → Int} {i : Nat} (h : i = k) : dblL k g (i + 1) = dblL k g i := by
  show dblL k g i ++ (if i ≠ k then _ else _) = _
  rw [if_neg (fun h9 => h9 h), List.append_nil]
theorem dblL_len (k : Nat) (g : Nat → Int) : ∀ i, (dblL k g i).length = 2 * (if k < i then i - 1 else i)
  | 0 => rfl
  | i + 1 => by
    have ih := dblL_len k g i
    by_cases e : i = k
    · rw [dblL_no e, ih, if_neg (by omega), if_pos (by omega)]
      omega
    · rw [dblL_yes e, List.length_append, ih]
      by_cases h : k < i
      · rw [if_pos h, if_pos (by omega)]
        show _ + 2 = _
        omega
      · rw [if_neg h, if_neg (by omega)]
        show _ + 2 = _
        omega
theorem dblL_get (k : Nat) (g : Nat → Int) : ∀ (n i : Nat), i < n → i ≠ k → (dblL k g n)[posD k i]? = some (g i) ∧ (dblL k g n)[posD k i + 1]? = some (g i)
  | 0, i, h, _ => absurd h (Nat.not_lt_zero i)
  | n + 1, i, h, hi => by
    have hl := dblL_len k g n
    by_cases e : i = n
    · subst e
      have hp : posD k i = (dblL k g i).length := by
        rw [hl]
        unfold posD
        by_cases h : k < i
        · rw [if_pos h, if_neg (by omega)]
        · rw [if_neg h, if_pos (by omega)]
      rw [dblL_yes hi, hp, List.getElem?_append_right (Nat.le_refl _), List.getElem?_append_right (by omega)]
      rw [Nat.sub_self, show (dblL k g i).length + 1 - (dblL k g i).length = 1 from by omega]
      exact ⟨rfl, rfl⟩
    · obtain ⟨h1, h2⟩ := dblL_get k g n i (by omega) hi
      have l1 := (List.getElem?_eq_some_iff.1 h1).1
      have l2 := (List.getElem?_eq_some_iff.1 h2).1
      by_cases e2 : n = k
      · rw [dblL_no e2]; exact ⟨h1, h2⟩
      · rw [dblL_yes e2, List.getElem?_append_left l1, List.getElem?_append_left l2]
        exact ⟨h1, h2⟩
theorem dblL_at {k : Nat} : ∀ {n q : Nat}, q < 2 * (if k < n then n - 1 else n) → ∃ i, i < n ∧ i ≠ k ∧ (q = posD k i ∨ q = posD k i + 1)
  | n, q, h => by
    by_cases h1 : q / 2 < k
    · refine ⟨q / 2, ?_, by omega, ?_⟩
      · split at h <;> omega
      · unfold posD; rw [if_pos h1]; omega
    · refine ⟨q / 2 + 1, ?_, by omega, ?_⟩
      · split at h <;> omega
      · unfold posD; rw [if_neg (by omega)]; omega
def Pst.dbl (p : Pst) (k : Nat) : Pst := ⟨dblL k (fun i => p.errs.getD i 0) p.errs.length, p.gain, p.drop, p.fall, p.out, p.ahead⟩
def dblRow (p : Pst) (k : Nat) (row : List Int) : List Int := dblL k (fun i => row.getD i 0) p.errs.length
theorem dbl_agree {p : Pst} {k : Nat} {f2 v : Int} {row : List Int} : AgreeR (p.dbl k) f2 (dblRow p k row) v ↔ AgreeR p k row v := by
  have e : ∀ i q, i < p.errs.length → i ≠ k → (q = posD k i ∨ q = posD k i + 1) → gI (p.dbl k) (dblRow p k row) q = gI p row i := fun i q hi hk hq => by
    have h1 := dblL_get k (fun i => p.errs.getD i 0) _ i hi hk
    have h2 := dblL_get k (fun i => row.getD i 0) _ i hi hk
    have e1 : (p.dbl k).errs.getD q 0 = p.errs.getD i 0 := by
      show (dblL k (fun i => p.errs.getD i 0) p.errs.length).getD q 0 = _
      rw [List.getD_eq_getElem?_getD]
      rcases hq with rfl | rfl
      · rw [h1.1]; rfl
      · rw [h1.2]; rfl
    have e2 : (dblRow p k row).getD q 0 = row.getD i 0 := by
      show (dblL k (fun i => row.getD i 0) p.errs.length).getD q 0 = _
      rw [List.getD_eq_getElem?_getD]
      rcases hq with rfl | rfl
      · rw [h2.1]; rfl
      · rw [h2.2]; rfl
    unfold gI
    rw [e1, e2]
  have hlen : (p.dbl k).errs.length = 2 * (if k < p.errs.length then p.errs.length - 1 else p.errs.length) := dblL_len _ _ _
  constructor
  · intro h i hi hik
    have hpl : posD k i + 1 < (p.dbl k).errs.length := (List.getElem?_eq_some_iff.1 (dblL_get k (fun i => p.errs.getD i 0) _ i hi (by omega)).2).1
    by_cases hq : ((posD k i : Nat) : Int) = f2
    · have := h (posD k i + 1) hpl (by omega)
      rw [e i _ hi (by omega) (.inr rfl)] at this
      exact this
    · have := h (posD k i) (by omega) hq
      rw [e i _ hi (by omega) (.inl rfl)] at this
      exact this
  · intro h q hq hqf
    rw [hlen] at hq
    obtain ⟨i, h1, h2, h3⟩ := dblL_at hq
    rw [e i q h1 h2 h3]
    exact h i h1 (by omega)
theorem dbl_last {p : Pst} {k : Nat} {f2 : Int} {rows : List (List Int)} : ∀ h, h ≤ rows.length → lastI (p.dbl k) f2 ((rows.map (dblRow p k)).take h) = lastI p k (rows.take h)
  | 0, _ => rfl
  | h + 1, hh => by
    have ih := dbl_last (p := p) (k := k) (f2 := f2) (rows := rows) h (by omega)
    refine prp_ext (last_prp _ _ _) (last_prp _ _ _) fun v => ?_
    constructor
    · intro hv
      have hb := last_bd hv
      rw [last_next (by simp; omega), next_iff hb, ih, List.getElem_map, dbl_agree] at hv
      rw [last_next (by omega), next_iff hb]
      exact hv
    · intro hv
      have hb := last_bd hv
      rw [last_next (by omega), next_iff hb] at hv
      rw [last_next (by simp; omega), next_iff hb, ih, List.getElem_map, dbl_agree]
      exact hv
theorem two_ends {L : List Int} {a c : Int} (h : ∀ x ∈ L, x = a ∨ x = c) (ha : a ∈ L) (hc : c ∈ L) (hac : a ≤ c) : mnL L = a ∧ mxL L = c := by
  have hne : L ≠ [] := fun e => by rw [e] at ha; cases ha
  have h1 := mnL_le ha
  have h2 := le_mxL hc
  constructor
  · rcases h _ (mnL_mem hne) with e | e <;> omega
  · rcases h _ (mxL_mem hne) with e | e <;> omega
theorem lone_span {p : Pst} {rows : List (List Int)} {k fr h : Nat} (hk : k < p.errs.length) (hfr : fr < rows.length) (hl : Lone p (rows[fr]'hfr) k) (h1 : fr ≤ h) (h2 : h < rows.length) (hp : possB p rows (h + 1) = true) : lastI p k (rows.take (h + 1)) ≠ nul ∧ mnL (spdL p rows h (p.errs.length + 1)) = (lastI p k (rows.take (h + 1))).1 ∧ mxL (spdL p rows h (p.errs.length + 1)) = (lastI p k (rows.take (h + 1))).2 := by
  obtain ⟨j, hj, hp1⟩ := possB_iff.1 hp
  have hp2 := (poss_last (by omega)).1 hp1
  have hjk := lone_at hk hfr hl h1 h2 hp2
  rw [hjk] at hp2
  refine ⟨hp2, ?_⟩
  have hlen : h < (mayL p (((k + 1 : Nat) : Int) - 1) rows).length := by
    have : h + 1 ≤ lenM p rows (k + 1) := (poss_last (by omega)).2 (by rw [show ((k + 1 : Nat) : Int) - 1 = (k : Int) from by omega]; exact hp2)
    exact this
  have hin := spd_in hlen (k := p.errs.length + 1) (by omega)
  have hmk2 : (mayL p (((k + 1 : Nat) : Int) - 1) rows)[h] = lastI p k (rows.take (h + 1)) := by rw [(may_mem hlen).1, show ((k + 1 : Nat) : Int) - 1 = (k : Int) from by omega]
  rw [hmk2] at hin
  refine two_ends (fun x hx => ?_) hin.1 hin.2 ?_
  · obtain ⟨j2, hj2, hh, he⟩ := spd_mem hx
    obtain ⟨m1, m2⟩ := may_mem hh
    have := lone_at hk hfr hl h1 h2 m2
    rw [m1, this] at he
    exact he
  · rcases last_prp p k (rows.take (h + 1)) with e | e
    · exact absurd e hp2
    · exact e
theorem dbl_len {p : Pst} {k : Nat} {rows : List (List Int)} (j : Nat) {h : Nat} (hh : h ≤ rows.length) : h ≤ lenM (p.dbl k) (rows.map (dblRow p k)) j ↔ lastI p k (rows.take h) ≠ nul := by
  rw [poss_last (by simp; exact hh), dbl_last h hh]
theorem dbl_span {p : Pst} {rows : List (List Int)} {k h : Nat} (h2 : h < rows.length) (hn : lastI p k (rows.take (h + 1)) ≠ nul) : mnL (spdL (p.dbl k) (rows.map (dblRow p k)) h ((p.dbl k).errs.length + 1)) = (lastI p k (rows.take (h + 1))).1 ∧ mxL (spdL (p.dbl k) (rows.map (dblRow p k)) h ((p.dbl k).errs.length + 1)) = (lastI p k (rows.take (h + 1))).2 := by
  have hlen : h < (mayL (p.dbl k) (((0 : Nat) : Int) - 1) (rows.map (dblRow p k))).length := by
    have : h + 1 ≤ lenM (p.dbl k) (rows.map (dblRow p k)) 0 := (dbl_len 0 (by omega)).2 hn
    exact this
  have hin := spd_in hlen (k := (p.dbl k).errs.length + 1) (by omega)
  rw [(may_mem hlen).1, dbl_last _ (by omega)] at hin
  refine two_ends (fun x hx => ?_) hin.1 hin.2 ?_
  · obtain ⟨j2, hj2, hh, he⟩ := spd_mem hx
    rw [(may_mem hh).1, dbl_last _ (by omega)] at he
    exact he
  · rcases last_prp p k (rows.take (h + 1)) with e | e
    · exact absurd e hn
    · exact e
theorem dbl_stc {p : Pst} {rows : List (List Int)} {k fr h : Nat} (hk : k < p.errs.length) (hfr : fr < rows.length) (hl : Lone p (rows[fr]'hfr) k) (h1 : fr ≤ h) (h2 : h < rows.length) (hp : possB p rows (h + 1) = true) : stc (p.dbl k) (rows.map (dblRow p k)) h = stc p rows h := by
  obtain ⟨a1, a2, a3⟩ := lone_span hk hfr hl h1 h2 hp
  obtain ⟨b2, b3⟩ := dbl_span h2 a1
  unfold stc
  rw [a2, a3, b2, b3]
  rfl
theorem dbl_poss {p : Pst} {rows : List (List Int)} {k fr : Nat} (hk : k < p.errs.length) (hfr : fr < rows.length) (hl : Lone p (rows[fr]'hfr) k) : possB (p.dbl k) (rows.map (dblRow p k)) (rows.map (dblRow p k)).length = possB p rows rows.length := by
  rw [List.length_map, Bool.eq_iff_iff, possB_iff, possB_iff]
  constructor
  · rintro ⟨j, _, h⟩
    rw [dbl_len j (Nat.le_refl _)] at h
    exact ⟨k + 1, by omega, (poss_last (Nat.le_refl _)).2 (by rw [show ((k + 1 : Nat) : Int) - 1 = (k : Int) from by omega]; exact h)⟩
  · rintro ⟨j, _, h⟩
    have h1 := (poss_last (Nat.le_refl _)).1 h
    have e : rows.length = (rows.length - 1) + 1 := by omega
    rw [e] at h1
    have := lone_at hk hfr hl (h := rows.length - 1) (by omega) (by omega) h1
    rw [this, ← e] at h1
    exact ⟨0, by omega, (dbl_len 0 (Nat.le_refl _)).2 h1⟩
theorem lone_fld {p : Pst} {rows : List (List Int)} {k fr : Nat} (hk : k < p.errs.length) (hfr : fr < rows.length) (hl : Lone p (rows[fr]'hfr) k) (hp : possB p rows rows.length = true) : ∀ i, fldL p rows rows.length i = if k + 1 < i then [(k : Int)] else []
  | 0 => rfl
  | i + 1 => by
    have ih := lone_fld hk hfr hl hp i
    have e : rows.length = (rows.length - 1) + 1 := by omega
    have hiff : rows.length ≤ lenM p rows i ↔ i = k + 1 := by
      rw [poss_last (Nat.le_refl _)]
      constructor
      · intro h1
        rw [e] at h1
        have := lone_at hk hfr hl (h := rows.length - 1) (by omega) (by omega) h1
        omega
      · rintro rfl
        obtain ⟨j, _, h⟩ := possB_iff.1 hp
        have h1 := (poss_last (Nat.le_refl _)).1 h
        have h2 := h1
        rw [e] at h2
        have := lone_at hk hfr hl (h := rows.length - 1) (by omega) (by omega) h2
        rw [this] at h1
        rw [show ((k + 1 : Nat) : Int) - 1 = (k : Int) from by omega]
        exact h1
    by_cases hi : i = k + 1
    · rw [fldL_yes (hiff.2 hi), ih, if_neg (by omega), if_pos (by omega), hi]
      simp
    · rw [fldL_no (fun h => hi (hiff.1 h)), ih]
      by_cases h : k + 1 < i
      · rw [if_pos h, if_pos (by omega)]
      · rw [if_neg h, if_neg (by omega)]
theorem dbl_fault {p : Pst} {rows : List (List Int)} {k : Nat} (h : faultE p rows = 0) (hk : k < p.errs.length) (hn : 2 ≤ p.errs.length ∧ p.errs.length ≤ 6) : faultE (p.dbl k) (rows.map (dblRow p k)) = 0 := by
  obtain ⟨h1, h2, h3, h4⟩ := faultE_facts h
  have hlen : (p.dbl k).errs.length = 2 * (p.errs.length - 1) := by
    show (dblL k _ p.errs.length).length = _
    rw [dblL_len, if_pos hk]
  have hmem : ∀ (g : Nat → Int) (x : Int), x ∈ dblL k g p.errs.length → ∃ i, i < p.errs.length ∧ x = g i := fun g x hx => by
    obtain ⟨q, hq, rfl⟩ := List.getElem_of_mem hx
    have hq2 := hq
    rw [dblL_len] at hq2
    obtain ⟨i, a1, a2, a3⟩ := dblL_at hq2
    obtain ⟨b1, b2⟩ := dblL_get k g _ i a1 a2
    refine ⟨i, a1, ?_⟩
    rcases a3 with rfl | rfl
    · rw [List.getElem?_eq_getElem hq] at b1; exact Option.some.inj b1
    · rw [List.getElem?_eq_getElem hq] at b2; exact Option.some.inj b2
  unfold faultE
  rw [if_pos, if_neg (by simp; omega), if_pos]
  · rw [List.all_eq_true]
    intro r hr
    obtain ⟨row, hrow, rfl⟩ := List.mem_map.1 hr
    unfold goodB
    rw [Bool.and_eq_true, decide_eq_true_eq, List.all_eq_true]
    refine ⟨?_, fun x hx => ?_⟩
    · show (dblL k _ p.errs.length).length = (dblL k _ p.errs.length).length
      rw [dblL_len, dblL_len]
    · obtain ⟨i, hi, rfl⟩ := hmem _ x hx
      have hil : i < row.length := by rw [h3 _ hrow]; exact hi
      have := h4 _ hrow row[i] (List.getElem_mem hil)
      rw [show row.getD i 0 = row[i] from by simp [List.getD, hil]]
      unfold inB; simp; exact this
  · unfold Pst.ok inB at h1 ⊢
    simp only [Bool.and_eq_true, decide_eq_true_eq, List.all_eq_true] at h1 ⊢
    obtain ⟨⟨⟨⟨⟨⟨a1, a2⟩, a3⟩, a4⟩, a5⟩, a6⟩, a7⟩ := h1
    refine ⟨⟨⟨⟨⟨⟨by rw [hlen]; omega, fun x hx => ?_⟩, a3⟩, a4⟩, a5⟩, a6⟩, a7⟩
    obtain ⟨i, hi, rfl⟩ := hmem _ x hx
    rw [show p.errs.getD i 0 = p.errs[i] from by simp [List.getD, hi]]
    exact a2 _ (List.getElem_mem hi)
def One1 (p : Pst) (row : List Int) (k i : Nat) : Prop := ∃ i1, i1 < i ∧ i1 ≠ k ∧ apB p row k i1 = true
def Two2 (p : Pst) (row : List Int) (k i : Nat) : Prop := ∃ i1 i2, i1 < i2 ∧ i2 < i ∧ i1 ≠ k ∧ i2 ≠ k ∧ apB p row k i1 = true ∧ apB p row k i2 = true
theorem One1.up {p : Pst} {row : List Int} {k i : Nat} (h : One1 p row k i) : One1 p row k (i + 1) := let ⟨i1, a1, a2⟩ := h; ⟨i1, Nat.lt_succ_of_lt a1, a2⟩
theorem Two2.up {p : Pst} {row : List Int} {k i : Nat} (h : Two2 p row k i) : Two2 p row k (i + 1) := let ⟨i1, i2, a1, a2, a3⟩ := h; ⟨i1, i2, a1, Nat.lt_succ_of_lt a2, a3⟩
theorem One1.new {p : Pst} {row : List Int} {k i : Nat} (hi : i ≠ k) (h : apB p row k i = true) : One1 p row k (i + 1) := ⟨i, Nat.lt_succ_self i, hi, h⟩
theorem Two2.new {p : Pst} {row : List Int} {k i : Nat} (h1 : One1 p row k i) (hi : i ≠ k) (h : apB p row k i = true) : Two2 p row k (i + 1) := let ⟨i1, a1, a2, a3⟩ := h1; ⟨i1, i, a1, Nat.lt_succ_self i, a2, hi, a3, h⟩
theorem Two2.lone {p : Pst} {row : List Int} {k : Nat} (h : Two2 p row k p.errs.length) : Lone p row k ∧ 2 ≤ p.errs.length := let ⟨i1, i2, a1, a2, a3⟩ := h; ⟨⟨i1, i2, a1, a2, a3⟩, by omega⟩
theorem c57 (m : Nat) (ev rv : AV) (p : Pst) (row : List Int) (a c : Nat) (H : Heap) (hV : Ints H ev p.errs) (hR : Ints H rv row) (hl : row.length = p.errs.length) (ha : a < p.errs.length) (hc : c < p.errs.length) (hrb : ∀ x ∈ row, -1000 ≤ x ∧ x ≤ 2000) (hpe : ∀ x ∈ p.errs, 0 ≤ x ∧ x ≤ 1000) : RR (m + 1) (.fn 57 [.agg (p.c ev), rv, I (a : Int), I (c : Int)]) H = some (.bool (apB p row a c), H) := by
  refine (R_fn _ _ _ _ _).trans ?_
  refine fn_ok Try.func57 rfl rfl (by kernel_rfl) (by kernel_rfl) ?_
  obtain ⟨W, hW⟩ : ∃ W : Heap, W = ⟨H.t, H.next, H.next⟩ := ⟨_, rfl⟩
  have hg : ∀ n, W.get n = H.get n := fun n => by rw [hW]; rfl
  have hN : W.next = H.next := by rw [hW]
  have hE : ∀ G, Grow W G → Ext H G := fun G g => ⟨by rw [← hN]; exact g.next, fun n k => by rw [g.get n (by rw [hN]; exact k), hg]⟩
  have hG : Grow W W := Grow.refl (by rw [hW]; exact Nat.le_refl _)
  rw [← hW]
  have pev : ev.plain = true := lpl hV.len
  have hel := hV.len
  have hrl_ := hR.len
  have prv : rv.plain = true := lpl hrl_
  obtain ⟨a1b, a1o, a1c, a11, a12, a13, a14⟩ := (hR.ext (hE _ hG)).at' a (by omega)
  obtain ⟨a2b, a2o, a2c, a21, a22, a23, a24⟩ := (hV.ext (hE _ hG)).at' a ha
  obtain ⟨c1b, c1o, c1c, c11, c12, c13, c14⟩ := (hR.ext (hE _ hG)).at' c (by omega)
  obtain ⟨c2b, c2o, c2c, c21, c22, c23, c24⟩ := (hV.ext (hE _ hG)).at' c hc
  have ba1 := hrb _ (List.getElem_mem (show a < row.length by omega))
  have ba2 := hpe _ (List.getElem_mem ha)
  have bc1 := hrb _ (List.getElem_mem (show c < row.length by omega))
  have bc2 := hpe _ (List.getElem_mem hc)
  have hap : apB p row a c = (decide (row[c]'(by omega) + p.errs[c] < row[a]'(by omega) - p.errs[a]) || decide (row[a]'(by omega) + p.errs[a] < row[c]'(by omega) - p.errs[c])) := by
    unfold apB
    rw [show row.getD a 0 = row[a]'(by omega) from by simp [List.getD, show a < row.length by omega], show row.getD c 0 = row[c]'(by omega) from by simp [List.getD, show c < row.length by omega], show p.errs.getD a 0 = p.errs[a] from by simp [List.getD, ha], show p.errs.getD c 0 = p.errs[c] from by simp [List.getD, hc]]
  refine Ok.seq ?_
  refine Ok.region ?_
  refine OkO.box rfl rfl ?_
  refine OkO.assign rfl rfl ?_
  refine OkO.nil ?_
  refine Ok.seq ?_
  refine Ok.drawn [(0, true, []), (1, true, []), (2, true, []), (3, true, []), (4, true, []), (5, true, []), (6, true, []), (7, true, []), (8, true, []), (9, true, []), (10, true, []), (11, true, []), (12, true, []), (13, true, []), (14, true, []), (15, true, []), (16, true, []), (17, true, []), (18, true, []), (19, true, []), (20, true, []), (21, true, []), (22, true, []), (23, true, []), (24, true, []), (25, true, []), (26, true, []), (27, true, []), (28, true, []), (29, true, []), (30, true, []), (31, true, []), (32, true, []), (33, true, []), (34, true, []), (35, true, []), (36, true, []), (37, true, []), (38, true, []), (39, true, []), (40, true, []), (41, true, []), (42, true, []), (43, true, []), (44, true, [])] (by kernel_rfl) ?_
  refine OkP.step ?_
  refine OkO.move rfl rfl ?_
  refine OkO.nil ⟨rfl, ?_⟩
  refine OkP.step ?_
  refine OkO.move rfl rfl ?_
  refine OkO.nil ⟨rfl, ?_⟩
  refine OkP.step ?_
  refine OkO.index (sz := 1) (n := a) rfl rfl rfl (by kernel_rfl) (by first | assumption | rfl | exact slAt_slice (by omega) | exact slAt_opn (by omega)) ?_ -- index ('Go.Operand.tmp', 9) ('Go.Operand.tmp', 10)
  refine OkO.nil ⟨rfl, ?_⟩
  refine OkP.step ?_
  refine OkO.load rfl rfl (lda (n := 1) (by kernel_rfl) (by first | assumption | (simp (disch := first | omega | (simp only [hNw, hPt]; omega)) only [gn0, gn1, gn2, gn3, gn4, gn5, gp0, gno, gpo] <;> first | rfl | assumption | exact gp0 _ _ _ | exact gn0 _ _)) (by first | rfl | assumption)) ?_
  refine OkO.nil ⟨rfl, ?_⟩
  refine OkP.step ?_
  refine OkO.fieldAddr (o := 0) rfl (by kernel_rfl) rfl ?_
  refine OkO.nil ⟨rfl, ?_⟩
  refine OkP.step ?_
  refine OkO.load rfl rfl (lda (n := 1) (by kernel_rfl) (by first | assumption | (simp (disch := first | omega | (simp only [hNw, hPt]; omega)) only [gn0, gn1, gn2, gn3, gn4, gn5, gp0, gno, gpo] <;> first | rfl | assumption | exact gp0 _ _ _ | exact gn0 _ _)) (by first | rfl | assumption)) ?_
  refine OkO.nil ⟨rfl, ?_⟩
  refine OkP.step ?_
  refine OkO.move rfl rfl ?_
  refine OkO.nil ⟨rfl, ?_⟩
  refine OkP.step ?_
  refine OkO.index (sz := 1) (n := a) rfl rfl rfl (by kernel_rfl) (by first | assumption | rfl | exact slAt_slice (by omega) | exact slAt_opn (by omega)) ?_ -- index ('Go.Operand.tmp', 14) ('Go.Operand.tmp', 15)
  refine OkO.nil ⟨rfl, ?_⟩
  refine OkP.step ?_
  refine OkO.load rfl rfl (lda (n := 1) (by kernel_rfl) (by first | assumption | (simp (disch := first | omega | (simp only [hNw, hPt]; omega)) only [gn0, gn1, gn2, gn3, gn4, gn5, gp0, gno, gpo] <;> first | rfl | assumption | exact gp0 _ _ _ | exact gn0 _ _)) (by first | rfl | assumption)) ?_
  refine OkO.nil ⟨rfl, ?_⟩
  refine OkP.step ?_
  refine OkO.bin rfl rfl rfl (bin_sub (by omega) (by omega)) ?_
  refine OkO.nil ⟨rfl, ?_⟩
  refine OkP.step ?_
  refine OkO.move rfl rfl ?_
  refine OkO.nil ⟨rfl, ?_⟩
  refine OkP.step ?_
  refine OkO.move rfl rfl ?_
  refine OkO.nil ⟨rfl, ?_⟩
  refine OkP.step ?_
  refine OkO.index (sz := 1) (n := c) rfl rfl rfl (by kernel_rfl) (by first | assumption | rfl | exact slAt_slice (by omega) | exact slAt_opn (by omega)) ?_ -- index ('Go.Operand.tmp', 19) ('Go.Operand.tmp', 20)
  refine OkO.nil ⟨rfl, ?_⟩
  refine OkP.step ?_
  refine OkO.load rfl rfl (lda (n := 1) (by kernel_rfl) (by first | assumption | (simp (disch := first | omega | (simp only [hNw, hPt]; omega)) only [gn0, gn1, gn2, gn3, gn4, gn5, gp0, gno, gpo] <;> first | rfl | assumption | exact gp0 _ _ _ | exact gn0 _ _)) (by first | rfl | assumption)) ?_
  refine OkO.nil ⟨rfl, ?_⟩
  refine OkP.step ?_
  refine OkO.fieldAddr (o := 0) rfl (by kernel_rfl) rfl ?_
  refine OkO.nil ⟨rfl, ?_⟩
  refine OkP.step ?_
  refine OkO.load rfl rfl (lda (n := 1) (by kernel_rfl) (by first | assumption | (simp (disch := first | omega | (simp only [hNw, hPt]; omega)) only [gn0, gn1, gn2, gn3, gn4, gn5, gp0, gno, gpo] <;> first | rfl | assumption | exact gp0 _ _ _ | exact gn0 _ _)) (by first | rfl | assumption)) ?_
  refine OkO.nil ⟨rfl, ?_⟩
  refine OkP.step ?_
  refine OkO.move rfl rfl ?_
  refine OkO.nil ⟨rfl, ?_⟩
  refine OkP.step ?_
  refine OkO.index (sz := 1) (n := c) rfl rfl rfl (by kernel_rfl) (by first | assumption | rfl | exact slAt_slice (by omega) | exact slAt_opn (by omega)) ?_ -- index ('Go.Operand.tmp', 24) ('Go.Operand.tmp', 25)
  refine OkO.nil ⟨rfl, ?_⟩
  refine OkP.step ?_
  refine OkO.load rfl rfl (lda (n := 1) (by kernel_rfl) (by first | assumption | (simp (disch := first | omega | (simp only [hNw, hPt]; omega)) only [gn0, gn1, gn2, gn3, gn4, gn5, gp0, gno, gpo] <;> first | rfl | assumption | exact gp0 _ _ _ | exact gn0 _ _)) (by first | rfl | assumption)) ?_
  refine OkO.nil ⟨rfl, ?_⟩
  refine OkP.step ?_
  refine OkO.bin rfl rfl rfl (bin_add (by omega) (by omega)) ?_
  refine OkO.nil ⟨rfl, ?_⟩
  refine OkP.step ?_
  refine OkO.bin rfl rfl rfl (bin_gtr _ _) ?_
  refine OkO.nil ⟨rfl, ?_⟩
  refine OkP.step ?_
  refine OkO.move rfl rfl ?_
  refine OkO.nil ⟨rfl, ?_⟩
  refine OkP.split (d := 30) rfl (fun g1 => ?_) (fun g1 => ?_)
  · -- true g1
    refine OkP.step ?_
    refine OkO.skip rfl ?_
    refine OkO.nil ⟨rfl, ?_⟩
    refine OkP.step ?_
    refine OkO.skip rfl ?_
    refine OkO.nil ⟨rfl, ?_⟩
    refine OkP.step ?_
    refine OkO.skip rfl ?_
    refine OkO.nil ⟨rfl, ?_⟩
    refine OkP.step ?_
    refine OkO.skip rfl ?_
    refine OkO.nil ⟨rfl, ?_⟩
    refine OkP.step ?_
    refine OkO.skip rfl ?_
    refine OkO.nil ⟨rfl, ?_⟩
    refine OkP.step ?_
    refine OkO.skip rfl ?_
    refine OkO.nil ⟨rfl, ?_⟩
    refine OkP.step ?_
    refine OkO.skip rfl ?_
    refine OkO.nil ⟨rfl, ?_⟩
    refine OkP.step ?_
    refine OkO.skip rfl ?_
    refine OkO.nil ⟨rfl, ?_⟩
    refine OkP.step ?_
    refine OkO.skip rfl ?_
    refine OkO.nil ⟨rfl, ?_⟩
    refine OkP.step ?_
    refine OkO.skip rfl ?_
    refine OkO.nil ⟨rfl, ?_⟩
    refine OkP.step ?_
    refine OkO.skip rfl ?_
    refine OkO.nil ⟨rfl, ?_⟩
    refine OkP.step ?_
    refine OkO.skip rfl ?_
    refine OkO.nil ⟨rfl, ?_⟩
    refine OkP.step ?_
    refine OkO.skip rfl ?_
    refine OkO.nil ⟨rfl, ?_⟩
    refine OkP.step ?_
    refine OkO.skip rfl ?_
    refine OkO.nil ⟨rfl, ?_⟩
    refine OkP.step ?_
    refine OkO.skip rfl ?_
    refine OkO.nil ⟨rfl, ?_⟩
    refine OkP.step ?_
    refine OkO.skip rfl ?_
    refine OkO.nil ⟨rfl, ?_⟩
    refine OkP.step ?_
    refine OkO.skip rfl ?_
    refine OkO.nil ⟨rfl, ?_⟩
    refine OkP.step ?_
    refine OkO.skip rfl ?_
    refine OkO.nil ⟨rfl, ?_⟩
    refine OkP.step ?_
    refine OkO.skip rfl ?_
    refine OkO.nil ⟨rfl, ?_⟩
    refine OkP.step ?_
    refine OkO.skip rfl ?_
    refine OkO.nil ⟨rfl, ?_⟩
    refine OkP.step ?_
    refine OkO.skip rfl ?_
    refine OkO.nil ⟨rfl, ?_⟩
    refine OkP.step ?_
    refine OkO.pick (b := true) rfl rfl (fun _ => rfl) nofun ?_
    refine OkO.nil ⟨rfl, ?_⟩
    refine OkP.step ?_
    refine OkO.assign rfl rfl ?_
    refine OkO.nil ⟨rfl, ?_⟩
    refine OkP.nil ?_
    refine Ok.ret ⟨.inr rfl, ?_⟩
    exact back_flat rfl (congrArg AV.bool (by rw [hap, g1]; rfl)) rfl (by rw [← hW]; exact (by (try dsimp only); repeat (first | exact hG | apply Grow.new | (refine Grow.put ?_ _ (by first | omega | (simp only [hNw, hPt]; omega))))))
  · -- false g1
    refine OkP.step ?_
    refine OkO.move rfl rfl ?_
    refine OkO.nil ⟨rfl, ?_⟩
    refine OkP.step ?_
    refine OkO.move rfl rfl ?_
    refine OkO.nil ⟨rfl, ?_⟩
    refine OkP.step ?_
    refine OkO.index (sz := 1) (n := c) rfl rfl rfl (by kernel_rfl) (by first | assumption | rfl | exact slAt_slice (by omega) | exact slAt_opn (by omega)) ?_ -- index ('Go.Operand.tmp', 31) ('Go.Operand.tmp', 32)
    refine OkO.nil ⟨rfl, ?_⟩
    refine OkP.step ?_
    refine OkO.load rfl rfl (lda (n := 1) (by kernel_rfl) (by first | assumption | (simp (disch := first | omega | (simp only [hNw, hPt]; omega)) only [gn0, gn1, gn2, gn3, gn4, gn5, gp0, gno, gpo] <;> first | rfl | assumption | exact gp0 _ _ _ | exact gn0 _ _)) (by first | rfl | assumption)) ?_
    refine OkO.nil ⟨rfl, ?_⟩
    refine OkP.step ?_
    refine OkO.fieldAddr (o := 0) rfl (by kernel_rfl) rfl ?_
    refine OkO.nil ⟨rfl, ?_⟩
    refine OkP.step ?_
    refine OkO.load rfl rfl (lda (n := 1) (by kernel_rfl) (by first | assumption | (simp (disch := first | omega | (simp only [hNw, hPt]; omega)) only [gn0, gn1, gn2, gn3, gn4, gn5, gp0, gno, gpo] <;> first | rfl | assumption | exact gp0 _ _ _ | exact gn0 _ _)) (by first | rfl | assumption)) ?_
    refine OkO.nil ⟨rfl, ?_⟩
    refine OkP.step ?_
    refine OkO.move rfl rfl ?_
    refine OkO.nil ⟨rfl, ?_⟩
    refine OkP.step ?_
    refine OkO.index (sz := 1) (n := c) rfl rfl rfl (by kernel_rfl) (by first | assumption | rfl | exact slAt_slice (by omega) | exact slAt_opn (by omega)) ?_ -- index ('Go.Operand.tmp', 36) ('Go.Operand.tmp', 37)
    refine OkO.nil ⟨rfl, ?_⟩
    refine OkP.step ?_
    refine OkO.load rfl rfl (lda (n := 1) (by kernel_rfl) (by first | assumption | (simp (disch := first | omega | (simp only [hNw, hPt]; omega)) only [gn0, gn1, gn2, gn3, gn4, gn5, gp0, gno, gpo] <;> first | rfl | assumption | exact gp0 _ _ _ | exact gn0 _ _)) (by first | rfl | assumption)) ?_
    refine OkO.nil ⟨rfl, ?_⟩
    refine OkP.step ?_
    refine OkO.bin rfl rfl rfl (bin_sub (by omega) (by omega)) ?_
    refine OkO.nil ⟨rfl, ?_⟩
    refine OkP.step ?_
    refine OkO.move rfl rfl ?_
    refine OkO.nil ⟨rfl, ?_⟩
    refine OkP.step ?_
    refine OkO.move rfl rfl ?_
    refine OkO.nil ⟨rfl, ?_⟩
    refine OkP.step ?_
    refine OkO.index (sz := 1) (n := a) rfl rfl rfl (by kernel_rfl) (by first | assumption | rfl | exact slAt_slice (by omega) | exact slAt_opn (by omega)) ?_ -- index ('Go.Operand.tmp', 41) ('Go.Operand.tmp', 42)
    refine OkO.nil ⟨rfl, ?_⟩
    refine OkP.step ?_
    refine OkO.load rfl rfl (lda (n := 1) (by kernel_rfl) (by first | assumption | (simp (disch := first | omega | (simp only [hNw, hPt]; omega)) only [gn0, gn1, gn2, gn3, gn4, gn5, gp0, gno, gpo] <;> first | rfl | assumption | exact gp0 _ _ _ | exact gn0 _ _)) (by first | rfl | assumption)) ?_
    refine OkO.nil ⟨rfl, ?_⟩
    refine OkP.step ?_
    refine OkO.fieldAddr (o := 0) rfl (by kernel_rfl) rfl ?_
    refine OkO.nil ⟨rfl, ?_⟩
    refine OkP.step ?_
    refine OkO.load rfl rfl (lda (n := 1) (by kernel_rfl) (by first | assumption | (simp (disch := first | omega | (simp only [hNw, hPt]; omega)) only [gn0, gn1, gn2, gn3, gn4, gn5, gp0, gno, gpo] <;> first | rfl | assumption | exact gp0 _ _ _ | exact gn0 _ _)) (by first | rfl | assumption)) ?_
    refine OkO.nil ⟨rfl, ?_⟩
    refine OkP.step ?_
    refine OkO.move rfl rfl ?_
    refine OkO.nil ⟨rfl, ?_⟩
    refine OkP.step ?_
    refine OkO.index (sz := 1) (n := a) rfl rfl rfl (by kernel_rfl) (by first | assumption | rfl | exact slAt_slice (by omega) | exact slAt_opn (by omega)) ?_ -- index ('Go.Operand.tmp', 46) ('Go.Operand.tmp', 47)
    refine OkO.nil ⟨rfl, ?_⟩
    refine OkP.step ?_
    refine OkO.load rfl rfl (lda (n := 1) (by kernel_rfl) (by first | assumption | (simp (disch := first | omega | (simp only [hNw, hPt]; omega)) only [gn0, gn1, gn2, gn3, gn4, gn5, gp0, gno, gpo] <;> first | rfl | assumption | exact gp0 _ _ _ | exact gn0 _ _)) (by first | rfl | assumption)) ?_
    refine OkO.nil ⟨rfl, ?_⟩
    refine OkP.step ?_
    refine OkO.bin rfl rfl rfl (bin_add (by omega) (by omega)) ?_
    refine OkO.nil ⟨rfl, ?_⟩
    refine OkP.step ?_
    refine OkO.bin rfl rfl rfl (bin_gtr _ _) ?_
    refine OkO.nil ⟨rfl, ?_⟩
    refine OkP.step ?_
    refine OkO.pick (b := false) rfl rfl nofun (fun _ => rfl) ?_
    refine OkO.nil ⟨rfl, ?_⟩
    refine OkP.step ?_
    refine OkO.assign rfl rfl ?_
    refine OkO.nil ⟨rfl, ?_⟩
    refine OkP.nil ?_
    refine Ok.ret ⟨.inr rfl, ?_⟩
    exact back_flat rfl (congrArg AV.bool (by rw [hap, g1, Bool.false_or])) rfl (by rw [← hW]; exact (by (try dsimp only); repeat (first | exact hG | apply Grow.new | (refine Grow.put ?_ _ (by first | omega | (simp only [hNw, hPt]; omega))))))
end
end Go.Ev

set_option maxRecDepth 100000
set_option linter.unusedSimpArgs false
set_option linter.unusedVariables false
namespace Go.Ev
open Go Go.Proofs
noncomputable section
theorem RowsM.but {k0 : Nat} {G G' : Heap} {v : AV} {rows : List (List Int)} (h : RowsM k0 G v rows) (hk : ∀ j, k0 ≤ j → j < G.next → G'.get j = G.get j) (hn : G.next ≤ G'.next) : RowsM k0 G' v rows := by
  have key : ∀ {x : AV} {e : TypeId} {sz : Nat} {cs : List AV}, Mine k0 G x e sz cs → Mine k0 G' x e sz cs := fun h => by
    rcases h with h | ⟨b, n, a1, a2, a3, a4, a5⟩
    · exact .inl h
    · exact .inr ⟨b, n, a1, by rw [hk b a4 a5]; exact a2, a3, a4, Nat.lt_of_lt_of_le a5 hn⟩
  obtain ⟨vs, h1, h2, h3⟩ := h
  exact ⟨vs, h1, key h2, fun i x r a c => key (h3 i x r a c)⟩
theorem c21V (m : Nat) (ev rv : AV) (p : Pst) (rows : List (List Int)) (n9 : Nat) (e9 : Int) (H : Heap) (hV : Ints H ev p.errs) (hRs : LstAt H rv rows) (hpl : p.errs.length ≤ 100000) (hrl : rows.length ≤ 100000) (hlens9 : ∀ r ∈ rows, r.length ≤ 100000) (hf : faultE p rows = 0) (h9 : (possB p rows rows.length = true ∧ n9 = rows.length ∧ e9 = 0) ∨ (possB p rows rows.length = false ∧ n9 = 0 ∧ e9 = 9)) : ∃ v H', RR (m + 7) (.fn 21 [.agg (p.c ev), rv]) H = some (v, H') ∧ ∃ xl, v = .tup [xl, I e9] ∧ Ret H H' ∧ Row H' xl 3 ((List.range n9).map (stc p rows)) := by
  rcases h9 with ⟨h1, h2, h3⟩ | ⟨h1, h2, h3⟩
  · subst h2 h3
    obtain ⟨v, H', a1, xl, a2, a3, a4⟩ := c21Y m ev rv p rows H hV hRs hpl hrl hlens9 hf h1
    exact ⟨v, H', a1, xl, a2, a3, a4.states⟩
  · subst h2 h3
    exact ⟨_, H, c21N m ev rv p rows H hV hRs hpl hrl hlens9 hf h1, .nils, rfl, Ret.refl H, (Mine.nil 0 H 45 3).states (p := p) (rows := rows) (n := 0)⟩
theorem c28U (m : Nat) (ev rv : AV) (p : Pst) (rows : List (List Int)) (n9 : Nat) (e9 : Int) (k fr : Nat) (H : Heap) (hV : Ints H ev p.errs) (hRs : LstAt H rv rows) (hpl : p.errs.length ≤ 100000) (hrl : rows.length ≤ 100000) (hlens9 : ∀ r ∈ rows, r.length ≤ 100000) (hf : faultE p rows = 0) (h9 : (possB p rows rows.length = true ∧ n9 = rows.length ∧ e9 = 0) ∨ (possB p rows rows.length = false ∧ n9 = 0 ∧ e9 = 9)) (hk : k < p.errs.length) (hfr : fr < rows.length) (hl : Lone p (rows[fr]'hfr) k) : ∃ v H', RR (m + 7) (.fn 28 [.agg (p.c ev), rv]) H = some (v, H') ∧ ∃ (x : AV) (L9 : List Int), v = .tup [x, I e9] ∧ Ret H H' ∧ Ints H' x L9 ∧ L9.length ≤ 1000 ∧ (e9 = 0 → L9 = [(k : Int)]) := by
  rcases h9 with ⟨h1, h2, h3⟩ | ⟨h1, h2, h3⟩
  · subst h3
    obtain ⟨v, H', a1, x, a2, a3, a4⟩ := c28Y m ev rv p rows H hV hRs hpl hrl hlens9 hf h1
    have e := lone_fld hk hfr hl h1 (p.errs.length + 1)
    rw [if_pos (by omega)] at e
    rw [e] at a4
    exact ⟨v, H', a1, x, _, a2, a3, a4.ints, by simp, fun _ => rfl⟩
  · subst h3
    exact ⟨_, H, c28N m ev rv p rows H hV hRs hpl hrl hlens9 hf h1, .nils, [], rfl, Ret.refl H, (Mine.nil 0 H 3 1).ints (us := []), by simp, fun h => absurd h (by decide)⟩
theorem bin45 (a c d : Int) : binT Try.prog .neq 45 (.agg [I a, I c, .int .u8 d]) (.agg [I a, I c, .int .u8 d]) = some (.bool false) := by
  have e1 : ∀ n : Int, eqI n n = true := fun n => by rw [eqI_eq]; simp
  have h0 : eqB Try.prog 45 (.agg [I a, I c, .int .u8 d]) (.agg [I a, I c, .int .u8 d]) = (match eqI a a with | true => (match eqI c c with | true => (match eqI d d with | true => some true | false => some false) | false => some false) | false => some false) := by kernel_rfl
  have h : eqB Try.prog 45 (.agg [I a, I c, .int .u8 d]) (.agg [I a, I c, .int .u8 d]) = some true := by rw [h0, e1, e1, e1]
  show (eqB Try.prog 45 _ _).map (fun b => AV.bool (!b)) = _
  rw [h]
  rfl
theorem ints_lit {H : Heap} (z : Int) : Ints (H.new (.cells [I z] 3)) (.slice H.next 0 1 1) [z] := ⟨rfl, fun i x h => by
  have hi : i = 0 := by (have h9 := (List.getElem?_eq_some_iff.1 h).1); simp at h9; omega
  subst hi
  have hx : x = [I z] := by simp at h; exact h.symm
  subst hx
  exact ⟨H.next, 0, [I z], rfl, by rw [gn0]; rfl, rfl, by simp⟩⟩
end
end Go.Ev

set_option maxRecDepth 100000
set_option linter.unusedSimpArgs false
set_option linter.unusedVariables false
namespace Go.Ev
open Go Go.Proofs
noncomputable section
theorem c11W (m : Nat) (ev rv : AV) (p : Pst) (rows : List (List Int)) (av : Int) (H : Heap) (hV : Ints H ev p.errs) (hRs : LstAt H rv rows) (hav : 0 ≤ av ∧ av ≤ 255) (hrd : (thinB p rows && decide (faultE p rows = 0)) = false) : RR (m + 8) (.fn 11 [.agg (p.c ev), rv, .int .u8 av]) H = some (.bool true, H) := by
  refine (R_fn _ _ _ _ _).trans ?_
  refine fn_ok Try.func11 rfl rfl (by kernel_rfl) (by kernel_rfl) ?_
  obtain ⟨W, hW⟩ : ∃ W : Heap, W = ⟨H.t, H.next, H.next⟩ := ⟨_, rfl⟩
  have hg : ∀ n, W.get n = H.get n := fun n => by rw [hW]; rfl
  have hN : W.next = H.next := by rw [hW]
  have hE : ∀ G, Grow W G → Ext H G := fun G g => ⟨by rw [← hN]; exact g.next, fun n k => by rw [g.get n (by rw [hN]; exact k), hg]⟩
  have hG : Grow W W := Grow.refl (by rw [hW]; exact Nat.le_refl _)
  rw [← hW]
  have pev : ev.plain = true := lpl hV.len
  have hel := hV.len
  have hrlen := hRs.len
  refine Ok.seq ?_
  refine Ok.region ?_
  refine OkO.box rfl rfl ?_
  refine OkO.assign rfl rfl ?_
  refine OkO.nil ?_
  refine Ok.seq ?_
  refine Ok.seq ?_
  refine Ok.region ?_
  refine OkO.load rfl rfl (ldg (n := 6) (by kernel_rfl) (by first | assumption | (simp (disch := first | omega | (simp only [hNw, hPt]; omega)) only [gn0, gn1, gn2, gn3, gn4, gn5, gp0, gno, gpo] <;> first | rfl | assumption | exact gp0 _ _ _ | exact gn0 _ _)) (by first | rfl | assumption)) ?_
  refine OkO.move rfl rfl ?_
  refine OkO.callV rfl rfl rfl rfl rfl ((c56 (m + 3) ev rv p rows _ (hV.ext (hE _ (by (try dsimp only); repeat (first | exact hG | apply Grow.new | (refine Grow.put ?_ _ (by first | omega | (simp only [hNw, hPt]; omega))))))) (hRs.ext (hE _ (by (try dsimp only); repeat (first | exact hG | apply Grow.new | (refine Grow.put ?_ _ (by first | omega | (simp only [hNw, hPt]; omega)))))))).trans (by rw [hrd])) ?_ -- "sackung/sackunglaw04.ready"
  refine OkO.un rfl rfl rfl ?_
  refine OkO.move rfl rfl ?_
  refine OkO.skip rfl ?_
  refine OkO.skip rfl ?_
  refine OkO.skip rfl ?_
  refine OkO.skip rfl ?_
  refine OkO.pick (b := true) rfl rfl (fun _ => rfl) nofun ?_
  refine OkO.nil ?_
  refine Ok.condT rfl ?_
  refine Ok.seq ?_
  refine Ok.region ?_
  refine OkO.callV rfl rfl rfl rfl rfl (rfl) ?_ -- "sackung/sackunglaw04.awake"
  refine OkO.assign rfl rfl ?_
  refine OkO.nil ?_
  refine Ok.ret ⟨.inr rfl, ?_⟩
  exact back_flat rfl rfl rfl (by rw [← hW]; exact (by (try dsimp only); repeat (first | exact hG | apply Grow.new | (refine Grow.put ?_ _ (by first | omega | (simp only [hNw, hPt]; omega))))))
theorem c11V (m : Nat) (ev rv : AV) (p : Pst) (rows : List (List Int)) (av : Int) (H : Heap) (hV : Ints H ev p.errs) (hRs : LstAt H rv rows) (hav : 0 ≤ av ∧ av ≤ 255) (hrd : (thinB p rows && decide (faultE p rows = 0)) = true) (hn6 : 6 < p.errs.length) : RR (m + 8) (.fn 11 [.agg (p.c ev), rv, .int .u8 av]) H = some (.bool true, H) := by
  refine (R_fn _ _ _ _ _).trans ?_
  refine fn_ok Try.func11 rfl rfl (by kernel_rfl) (by kernel_rfl) ?_
  obtain ⟨W, hW⟩ : ∃ W : Heap, W = ⟨H.t, H.next, H.next⟩ := ⟨_, rfl⟩
  have hg : ∀ n, W.get n = H.get n := fun n => by rw [hW]; rfl
  have hN : W.next = H.next := by rw [hW]
  have hE : ∀ G, Grow W G → Ext H G := fun G g => ⟨by rw [← hN]; exact g.next, fun n k => by rw [g.get n (by rw [hN]; exact k), hg]⟩
  have hG : Grow W W := Grow.refl (by rw [hW]; exact Nat.le_refl _)
  rw [← hW]
  have pev : ev.plain = true := lpl hV.len
  have hel := hV.len
  have hrlen := hRs.len
  refine Ok.seq ?_
  refine Ok.region ?_
  refine OkO.box rfl rfl ?_
  refine OkO.assign rfl rfl ?_
  refine OkO.nil ?_
  refine Ok.seq ?_
  refine Ok.seq ?_
  refine Ok.region ?_
  refine OkO.load rfl rfl (ldg (n := 6) (by kernel_rfl) (by first | assumption | (simp (disch := first | omega | (simp only [hNw, hPt]; omega)) only [gn0, gn1, gn2, gn3, gn4, gn5, gp0, gno, gpo] <;> first | rfl | assumption | exact gp0 _ _ _ | exact gn0 _ _)) (by first | rfl | assumption)) ?_
  refine OkO.move rfl rfl ?_
  refine OkO.callV rfl rfl rfl rfl rfl ((c56 (m + 3) ev rv p rows _ (hV.ext (hE _ (by (try dsimp only); repeat (first | exact hG | apply Grow.new | (refine Grow.put ?_ _ (by first | omega | (simp only [hNw, hPt]; omega))))))) (hRs.ext (hE _ (by (try dsimp only); repeat (first | exact hG | apply Grow.new | (refine Grow.put ?_ _ (by first | omega | (simp only [hNw, hPt]; omega)))))))).trans (by rw [hrd])) ?_ -- "sackung/sackunglaw04.ready"
  refine OkO.un rfl rfl rfl ?_
  refine OkO.move rfl rfl ?_
  refine OkO.fieldAddr (o := 0) rfl (by kernel_rfl) rfl ?_
  refine OkO.load rfl rfl (lda (n := 1) (by kernel_rfl) (by first | assumption | (simp (disch := first | omega | (simp only [hNw, hPt]; omega)) only [gn0, gn1, gn2, gn3, gn4, gn5, gp0, gno, gpo] <;> first | rfl | assumption | exact gp0 _ _ _ | exact gn0 _ _)) (by first | rfl | assumption)) ?_
  refine OkO.builtin rfl rfl rfl (bln (by kernel_rfl) (by first | assumption | rfl)) ?_
  refine OkO.bin rfl rfl rfl ((bin_gtr _ _).trans (congrArg (fun b => some (AV.bool b)) (show _ = true from (by simp; omega)))) ?_
  refine OkO.pick (b := false) rfl rfl nofun (fun _ => rfl) ?_
  refine OkO.nil ?_
  refine Ok.condT rfl ?_
  refine Ok.seq ?_
  refine Ok.region ?_
  refine OkO.callV rfl rfl rfl rfl rfl (rfl) ?_ -- "sackung/sackunglaw04.awake"
  refine OkO.assign rfl rfl ?_
  refine OkO.nil ?_
  refine Ok.ret ⟨.inr rfl, ?_⟩
  exact back_flat rfl rfl rfl (by rw [← hW]; exact (by (try dsimp only); repeat (first | exact hG | apply Grow.new | (refine Grow.put ?_ _ (by first | omega | (simp only [hNw, hPt]; omega))))))
set_option maxHeartbeats 2000000 in
theorem c11Y (m : Nat) (ev rv : AV) (p : Pst) (rows : List (List Int)) (av : Int) (H : Heap) (hV : Ints H ev p.errs) (hRs : LstAt H rv rows) (hav : 0 ≤ av ∧ av ≤ 255) (hrd : (thinB p rows && decide (faultE p rows = 0)) = true) (hn6 : p.errs.length ≤ 6) (k : Nat) (hk : k < p.errs.length) (hhk : (k : Int) = av % (p.errs.length : Int)) (n9 : Nat) (e9 : Int) (hne : (possB p rows rows.length = true ∧ n9 = rows.length ∧ e9 = 0) ∨ (possB p rows rows.length = false ∧ n9 = 0 ∧ e9 = 9)) : RR (m + 8) (.fn 11 [.agg (p.c ev), rv, .int .u8 av]) H = some (.bool true, H) := by
  refine (R_fn _ _ _ _ _).trans ?_
  refine fn_ok Try.func11 rfl rfl (by kernel_rfl) (by kernel_rfl) ?_
  obtain ⟨W, hW⟩ : ∃ W : Heap, W = ⟨H.t, H.next, H.next⟩ := ⟨_, rfl⟩
  have hg : ∀ n, W.get n = H.get n := fun n => by rw [hW]; rfl
  have hN : W.next = H.next := by rw [hW]
  have hE : ∀ G, Grow W G → Ext H G := fun G g => ⟨by rw [← hN]; exact g.next, fun n k => by rw [g.get n (by rw [hN]; exact k), hg]⟩
  have hG : Grow W W := Grow.refl (by rw [hW]; exact Nat.le_refl _)
  rw [← hW]
  have pev : ev.plain = true := lpl hV.len
  have hel := hV.len
  have hrlen := hRs.len
  have hth : thinB p rows = true := by rw [Bool.and_eq_true] at hrd; exact hrd.1
  have hf : faultE p rows = 0 := by rw [Bool.and_eq_true, decide_eq_true_eq] at hrd; exact hrd.2
  obtain ⟨ht1, ht2, ht3⟩ := thin_facts hth
  have ht4 : ∀ r ∈ rows, r.length ≤ 100000 := fun r hr => by have := ht3 r hr; omega
  obtain ⟨⟨hp1, hp2⟩, hpe, hpg, hpd, hpf, hpo1, hpo2⟩ := Pst.ok_facts (faultE_facts hf).1
  obtain ⟨_, hr60, hlens, hrbd⟩ := faultE_facts hf
  have hpdl : (p.dbl k).errs.length = 2 * (p.errs.length - 1) := by
    show (dblL k _ p.errs.length).length = _
    rw [dblL_len, if_pos hk]
  refine Ok.seq ?_
  refine Ok.region ?_
  refine OkO.box rfl rfl ?_
  refine OkO.assign rfl rfl ?_
  refine OkO.nil ?_
  refine Ok.seq ?_
  refine Ok.seq ?_
  refine Ok.region ?_
  refine OkO.load rfl rfl (ldg (n := 6) (by kernel_rfl) (by first | assumption | (simp (disch := first | omega | (simp only [hNw, hPt]; omega)) only [gn0, gn1, gn2, gn3, gn4, gn5, gp0, gno, gpo] <;> first | rfl | assumption | exact gp0 _ _ _ | exact gn0 _ _)) (by first | rfl | assumption)) ?_
  refine OkO.move rfl rfl ?_
  refine OkO.callV rfl rfl rfl rfl rfl ((c56 (m + 3) ev rv p rows _ (hV.ext (hE _ (by (try dsimp only); repeat (first | exact hG | apply Grow.new | (refine Grow.put ?_ _ (by first | omega | (simp only [hNw, hPt]; omega))))))) (hRs.ext (hE _ (by (try dsimp only); repeat (first | exact hG | apply Grow.new | (refine Grow.put ?_ _ (by first | omega | (simp only [hNw, hPt]; omega)))))))).trans (by rw [hrd])) ?_ -- "sackung/sackunglaw04.ready"
  refine OkO.un rfl rfl rfl ?_
  refine OkO.move rfl rfl ?_
  refine OkO.fieldAddr (o := 0) rfl (by kernel_rfl) rfl ?_
  refine OkO.load rfl rfl (lda (n := 1) (by kernel_rfl) (by first | assumption | (simp (disch := first | omega | (simp only [hNw, hPt]; omega)) only [gn0, gn1, gn2, gn3, gn4, gn5, gp0, gno, gpo] <;> first | rfl | assumption | exact gp0 _ _ _ | exact gn0 _ _)) (by first | rfl | assumption)) ?_
  refine OkO.builtin rfl rfl rfl (bln (by kernel_rfl) (by first | assumption | rfl)) ?_
  refine OkO.bin rfl rfl rfl ((bin_gtr _ _).trans (congrArg (fun b => some (AV.bool b)) (show _ = false from (by simp; omega)))) ?_
  refine OkO.pick (b := false) rfl rfl nofun (fun _ => rfl) ?_
  refine OkO.nil ?_
  refine Ok.condF rfl ?_
  refine Ok.skip ?_
  refine Ok.seq ?_
  refine Ok.region ?_
  refine OkO.move rfl rfl ?_
  refine OkO.convert (k := .i64) rfl (by kernel_rfl) rfl (wrapF_i64 (by omega) (by omega)) ?_
  refine OkO.fieldAddr (o := 0) rfl (by kernel_rfl) rfl ?_
  refine OkO.load rfl rfl (lda (n := 1) (by kernel_rfl) (by first | assumption | (simp (disch := first | omega | (simp only [hNw, hPt]; omega)) only [gn0, gn1, gn2, gn3, gn4, gn5, gp0, gno, gpo] <;> first | rfl | assumption | exact gp0 _ _ _ | exact gn0 _ _)) (by first | rfl | assumption)) ?_
  refine OkO.builtin rfl rfl rfl (bln (by kernel_rfl) (by first | assumption | rfl)) ?_
  refine OkO.bin rfl rfl rfl ((bin_rem (by omega) (by omega)).trans (by rw [← hhk])) ?_
  refine OkO.assign rfl rfl ?_
  refine OkO.nil ?_
  refine Ok.seq ?_
  refine Ok.region ?_
  refine OkO.assign rfl rfl ?_
  refine OkO.nil ?_
  refine Ok.seq ?_
  refine Ok.block ?_
  obtain ⟨G6, hG6⟩ : ∃ G6, G6 = W.new (.cells (p.c ev) 24) := ⟨_, rfl⟩
  have e6 : (G6.get W.next).bind AObj.cs = some (p.c ev) := by rw [hG6, gn0]; rfl
  have g6 : Grow W G6 := by rw [hG6]; exact hG.new _
  have n6 : W.next + 1 ≤ G6.next := by rw [hG6]; simp
  refine Ok.loop (fun n s => ∃ h : Nat, n = rows.length - h ∧ h ≤ rows.length ∧ Has 8 [(1, rv), (3, .ptr W.next 0), (7, I (k : Int)), (8, I (h : Int))] s.T ∧ s.D = [] ∧ G6 = s.H) (rows.length) (by unfold loopFuel; omega)
    ⟨0, rfl, Nat.zero_le _, Has.of (by kernel_rfl), rfl, hG6⟩ ?_
  rintro n ⟨T, D, G⟩ ⟨h, hn, hh, ⟨f_, hT⟩, hD, hgE⟩
  dsimp only at *
  subst hT hD
  skip
  subst hgE
  refine Ok.seq ?_
  refine Ok.seq ?_
  refine Ok.region ?_
  refine OkO.move rfl rfl ?_
  refine OkO.move rfl rfl ?_
  refine OkO.builtin rfl rfl rfl (bln (by kernel_rfl) (by first | assumption | rfl)) ?_
  refine OkO.bin rfl rfl rfl (bin_lss _ _) ?_
  refine OkO.nil ?_
  refine Ok.cond rfl (fun h1 => ?_) (fun h1 => ?_)
  · -- yes h1
    have hlt : h < rows.length := by simpa using h1
    obtain ⟨xr, rb, ro, rcs, q1, q2, q3, q4, q5⟩ := hRs.at_ h hlt
    have q2g : (G6.get rb).bind AObj.cs = some rcs := by rw [(hE _ g6).get _ q4]; exact q2
    have lq := q5.len
    have pxr : xr.plain = true := lpl lq
    refine Ok.skip ?_
    refine Ok.block ?_
    refine Ok.seq ?_
    refine Ok.region ?_
    refine OkO.assign rfl rfl ?_
    refine OkO.nil ?_
    refine Ok.seq ?_
    refine Ok.seq ?_
    refine Ok.region ?_
    refine OkO.assign rfl rfl ?_
    refine OkO.nil ?_
    refine Ok.block ?_
    refine Ok.loop (fun n s => ∃ (i c : Nat), n = p.errs.length - i ∧ i ≤ p.errs.length ∧ c ≤ i ∧ (1 ≤ c → One1 p (rows[h]'hlt) k i) ∧ (2 ≤ c → Two2 p (rows[h]'hlt) k i) ∧ Has 8 [(1, rv), (3, .ptr W.next 0), (7, I (k : Int)), (8, I (h : Int)), (9, I (c : Int)), (10, I (i : Int))] s.T ∧ s.D = [] ∧ G6 = s.H) (p.errs.length) (by unfold loopFuel; omega)
      ⟨0, 0, rfl, Nat.zero_le _, Nat.le_refl _, fun h => absurd h (by omega), fun h => absurd h (by omega), Has.of (by kernel_rfl), rfl, rfl⟩ ?_
    rintro n ⟨T, D, G⟩ ⟨i, c, hn2, hi2, hci, hc1, hc2, ⟨f2_, hT⟩, hD, hgE⟩
    dsimp only at *
    subst hT hD
    skip
    subst hgE
    refine Ok.seq ?_
    refine Ok.seq ?_
    refine Ok.region ?_
    refine OkO.move rfl rfl ?_
    refine OkO.fieldAddr (o := 0) rfl (by kernel_rfl) rfl ?_
    refine OkO.load rfl rfl (lda (n := 1) (by kernel_rfl) (by first | assumption | (simp (disch := first | omega | (simp only [hNw, hPt]; omega)) only [gn0, gn1, gn2, gn3, gn4, gn5, gp0, gno, gpo] <;> first | rfl | assumption | exact gp0 _ _ _ | exact gn0 _ _)) (by first | rfl | assumption)) ?_
    refine OkO.builtin rfl rfl rfl (bln (by kernel_rfl) (by first | assumption | rfl)) ?_
    refine OkO.bin rfl rfl rfl (bin_lss _ _) ?_
    refine OkO.nil ?_
    refine Ok.cond rfl (fun h2 => ?_) (fun h2 => ?_)
    · -- yes h2
      have hlt2 : i < p.errs.length := by simpa using h2
      refine Ok.skip ?_
      refine Ok.seq ?_
      refine Ok.block ?_
      refine Ok.seq ?_
      refine Ok.drawn [(0, true, []), (1, true, []), (2, true, []), (3, true, []), (4, true, []), (5, true, []), (6, true, []), (7, true, []), (8, true, []), (9, true, []), (10, true, []), (11, false, []), (12, true, [])] (by kernel_rfl) ?_
      refine OkP.step ?_
      refine OkO.move rfl rfl ?_
      refine OkO.nil ⟨rfl, ?_⟩
      refine OkP.step ?_
      refine OkO.move rfl rfl ?_
      refine OkO.nil ⟨rfl, ?_⟩
      refine OkP.step ?_
      refine OkO.bin rfl rfl rfl (bin_neq _ _) ?_
      refine OkO.nil ⟨rfl, ?_⟩
      refine OkP.step ?_
      refine OkO.move rfl rfl ?_
      refine OkO.nil ⟨rfl, ?_⟩
      refine OkP.split (d := 55) rfl (fun g3 => ?_) (fun g3 => ?_)
      · -- true g3
        have hik : i ≠ k := by (have h9 : ¬ (i : Int) = (k : Int) := by simpa using g3); omega
        refine OkP.step ?_
        refine OkO.load rfl rfl (ldg (n := 6) (by kernel_rfl) (by first | assumption | (simp (disch := first | omega | (simp only [hNw, hPt]; omega)) only [gn0, gn1, gn2, gn3, gn4, gn5, gp0, gno, gpo] <;> first | rfl | assumption | exact gp0 _ _ _ | exact gn0 _ _)) (by first | rfl | assumption)) ?_
        refine OkO.nil ⟨rfl, ?_⟩
        refine OkP.step ?_
        refine OkO.move rfl rfl ?_
        refine OkO.nil ⟨rfl, ?_⟩
        refine OkP.step ?_
        refine OkO.move rfl rfl ?_
        refine OkO.nil ⟨rfl, ?_⟩
        refine OkP.step ?_
        refine OkO.index (sz := 1) rfl rfl rfl (by kernel_rfl) (by first | assumption | rfl | exact slAt_slice (by omega) | exact slAt_opn (by omega)) ?_ -- index ('Go.Operand.tmp', 57) ('Go.Operand.tmp', 58)
        refine OkO.nil ⟨rfl, ?_⟩
        refine OkP.step ?_
        refine OkO.load rfl rfl (lda (n := 1) (by kernel_rfl) (by first | assumption | (simp (disch := first | omega | (simp only [hNw, hPt]; omega)) only [gn0, gn1, gn2, gn3, gn4, gn5, gp0, gno, gpo] <;> first | rfl | assumption | exact gp0 _ _ _ | exact gn0 _ _)) (by first | rfl | assumption)) ?_
        refine OkO.nil ⟨rfl, ?_⟩
        refine OkP.step ?_
        refine OkO.move rfl rfl ?_
        refine OkO.nil ⟨rfl, ?_⟩
        refine OkP.step ?_
        refine OkO.move rfl rfl ?_
        refine OkO.nil ⟨rfl, ?_⟩
        refine OkP.step ?_
        refine OkO.callV rfl rfl rfl rfl rfl (c57 (m + 6) ev xr p (rows[h]'hlt) k i _ (hV.ext (hE _ g6)) (q5.ext (hE _ g6)) (hlens _ (List.getElem_mem hlt)) hk hlt2 (hrbd _ (List.getElem_mem hlt)) hpe) ?_ -- "sackung/sackunglaw04.apart"
        refine OkO.nil ⟨rfl, ?_⟩
        refine OkP.step ?_
        refine OkO.pick (b := true) rfl rfl (fun _ => rfl) nofun ?_
        refine OkO.nil ⟨rfl, ?_⟩
        refine OkP.nil ?_
        refine Ok.cond rfl (fun h4 => ?_) (fun h4 => ?_)
        · -- yes h4
          have hap : apB p (rows[h]'hlt) k i = true := h4
          refine Ok.region ?_
          refine OkO.move rfl rfl ?_
          refine OkO.bin rfl rfl rfl (bin_add (by omega) (by omega)) ?_
          refine OkO.assign rfl rfl ?_
          refine OkO.nil ?_
          refine Ok.region ?_
          refine OkO.move rfl rfl ?_
          refine OkO.bin rfl rfl rfl (bin_add (by omega) (by omega)) ?_
          refine OkO.assign rfl rfl ?_
          refine OkO.nil ?_
          refine ⟨p.errs.length - (i + 1), by omega, i + 1, c + 1, rfl, by omega, by omega, fun _ => One1.new hik hap, fun h2c => Two2.new (hc1 (Nat.le_of_succ_le_succ h2c)) hik hap, Has.of (by kernel_rfl), rfl, rfl⟩
        · -- no h4
          refine Ok.skip ?_
          refine Ok.region ?_
          refine OkO.move rfl rfl ?_
          refine OkO.bin rfl rfl rfl (bin_add (by omega) (by omega)) ?_
          refine OkO.assign rfl rfl ?_
          refine OkO.nil ?_
          refine ⟨p.errs.length - (i + 1), by omega, i + 1, c, rfl, by omega, by omega, fun h => (hc1 h).up, fun h => (hc2 h).up, Has.of (by kernel_rfl), rfl, rfl⟩
      · -- false g3
        refine OkP.step ?_
        refine OkO.skip rfl ?_
        refine OkO.nil ⟨rfl, ?_⟩
        refine OkP.step ?_
        refine OkO.skip rfl ?_
        refine OkO.nil ⟨rfl, ?_⟩
        refine OkP.step ?_
        refine OkO.skip rfl ?_
        refine OkO.nil ⟨rfl, ?_⟩
        refine OkP.step ?_
        refine OkO.skip rfl ?_
        refine OkO.nil ⟨rfl, ?_⟩
        refine OkP.step ?_
        refine OkO.skip rfl ?_
        refine OkO.nil ⟨rfl, ?_⟩
        refine OkP.step ?_
        refine OkO.skip rfl ?_
        refine OkO.nil ⟨rfl, ?_⟩
        refine OkP.step ?_
        refine OkO.skip rfl ?_
        refine OkO.nil ⟨rfl, ?_⟩
        refine OkP.step ?_
        refine OkO.skip rfl ?_
        refine OkO.nil ⟨rfl, ?_⟩
        refine OkP.step ?_
        refine OkO.pick (b := false) rfl rfl nofun (fun _ => rfl) ?_
        refine OkO.nil ⟨rfl, ?_⟩
        refine OkP.nil ?_
        refine Ok.condF rfl ?_
        refine Ok.skip ?_
        refine Ok.region ?_
        refine OkO.move rfl rfl ?_
        refine OkO.bin rfl rfl rfl (bin_add (by omega) (by omega)) ?_
        refine OkO.assign rfl rfl ?_
        refine OkO.nil ?_
        refine ⟨p.errs.length - (i + 1), by omega, i + 1, c, rfl, by omega, by omega, fun h => (hc1 h).up, fun h => (hc2 h).up, Has.of (by kernel_rfl), rfl, rfl⟩
    · -- no h2
      have hge2 : i = p.errs.length := by (have h9 : ¬ i < p.errs.length := by simpa using h2); omega
      refine Ok.exit ?_
      refine Ok.seq ?_
      refine Ok.seq ?_
      refine Ok.region ?_
      refine OkO.move rfl rfl ?_
      refine OkO.bin rfl rfl rfl (bin_geq _ _) ?_
      refine OkO.nil ?_
      refine Ok.cond rfl (fun h5 => ?_) (fun h5 => ?_)
      · -- yes h5
        have hc9 : 2 ≤ c := by (have h8 : (2 : Int) ≤ (c : Int) := by simpa using h5); omega
        obtain ⟨hlo, hn2⟩ := Two2.lone (hge2 ▸ hc2 hc9)
        clear hc1 hc2
        have hltf := hlt
        have hfd := dbl_fault (p := p) (rows := rows) (k := k) hf hk ⟨hn2, hn6⟩
        have ht4d : ∀ r ∈ (rows.map (dblRow p k)), r.length ≤ 100000 := fun r hr => by (have h9 := (faultE_facts hfd).2.2.1 r hr); omega
        refine Ok.exit ?_
        refine Ok.seq ?_
        refine Ok.seq ?_
        refine Ok.region ?_
        refine OkO.move rfl rfl ?_
        refine OkO.move rfl rfl ?_
        refine OkO.builtin rfl rfl rfl (bln (by kernel_rfl) (by first | assumption | rfl)) ?_
        refine OkO.bin rfl rfl rfl (bin_eql _ _) ?_
        refine OkO.nil ?_
        refine Ok.cond rfl (fun h6 => ?_) (fun h6 => ?_)
        · -- yes h6
          exfalso
          have h9 : (h : Int) = (rows.length : Int) := by simpa using h6
          omega
        · -- no h6
          refine Ok.skip ?_
          refine Ok.seq ?_
          refine Ok.region ?_
          refine OkO.load rfl rfl (ldg (n := 6) (by kernel_rfl) (by first | assumption | (simp (disch := first | omega | (simp only [hNw, hPt]; omega)) only [gn0, gn1, gn2, gn3, gn4, gn5, gp0, gno, gpo] <;> first | rfl | assumption | exact gp0 _ _ _ | exact gn0 _ _)) (by first | rfl | assumption)) ?_
          refine OkO.callE rfl rfl rfl rfl rfl (c20 (m + 5) ev p _ (hV.ext (hE _ (by (try dsimp only); repeat (first | exact g6 | apply Grow.new | (refine Grow.put ?_ _ (by first | omega | (simp only [hNw, hPt]; omega))))))) (by omega)) ?_ -- "sackung/sackunglaw04.Post"
          rintro _ Ha ⟨xa, rfl, qa, ma⟩
          have n1 := qa.ext.next
          try simp only [hNw, hPt] at n1
          have gg1 : Grow W Ha := Grow.ret (by (try dsimp only); repeat (first | exact g6 | apply Grow.new | (refine Grow.put ?_ _ (by first | omega | (simp only [hNw, hPt]; omega))))) qa
          have a1 : (Ha.get (W.next)).bind AObj.cs = some (p.c ev) := by rw [qa.ext.get _ (by first | omega | (simp only [hNw, hPt]; omega))]; first | assumption | (rw [gn0]; rfl) | (rw [get_put_eq] <;> rfl) | (simp (disch := first | omega | (simp only [hNw, hPt]; omega)) only [gn0, gn1, gn2, gn3, gn4, gn5, gp0, gno, gpo] <;> first | rfl | assumption | (rw [get_put_eq] <;> rfl))
          have ia := ma.ints
          have pla : xa.plain = true := lpl ia.len
          have oa := ma.one
          refine OkO.alloc (z := [.nils, .int .i64 0, .int .i64 0, .int .i64 0, .int .i64 0, .int .i64 0]) rfl (by kernel_rfl) ?_
          refine OkO.store rfl rfl rfl (sAc (n := 6) (ag := true) (by kernel_rfl) (by first | assumption | (simp (disch := first | omega | (simp only [hNw, hPt]; omega)) only [gn0, gn1, gn2, gn3, gn4, gn5, gp0, gno, gpo] <;> first | rfl | assumption | exact gp0 _ _ _ | exact gn0 _ _)) rfl (by first | rfl | assumption | exact (by show atoms [xa, I p.gain, I p.drop, I p.fall, I p.out, I p.ahead] = true; simp [atoms, oa.2, show ∀ z, (I z).atom = true from fun _ => rfl])) (by first | rfl | exact spl_set _ _ _ (by first | assumption | omega | (simp; omega)))) ?_
          refine OkO.nil ?_
          refine Ok.seq ?_
          refine Ok.region ?_
          refine OkO.fieldAddr (o := 0) rfl (by kernel_rfl) rfl ?_
          refine OkO.store rfl rfl rfl (sAc (n := 1) (ag := false) (by kernel_rfl) (by first | assumption | (simp (disch := first | omega | (simp only [hNw, hPt]; omega)) only [gn0, gn1, gn2, gn3, gn4, gn5, gp0, gno, gpo] <;> first | rfl | assumption | exact gp0 _ _ _ | exact gn0 _ _)) rfl (by first | rfl | assumption | exact (by show atoms [xa, I p.gain, I p.drop, I p.fall, I p.out, I p.ahead] = true; simp [atoms, oa.2, show ∀ z, (I z).atom = true from fun _ => rfl])) (by first | rfl | exact spl_set _ _ _ (by first | assumption | omega | (simp; omega)))) ?_
          refine OkO.nil ?_
          refine Ok.seq ?_
          refine Ok.region ?_
          refine OkO.assign rfl rfl ?_
          refine OkO.nil ?_
          refine Ok.seq ?_
          refine Ok.seq ?_
          refine Ok.region ?_
          refine OkO.assign rfl rfl ?_
          refine OkO.nil ?_
          refine Ok.block ?_
          refine Ok.loop (fun n s => ∃ (i : Nat) (ov : AV), n = rows.length - i ∧ i ≤ rows.length ∧ RowsM (Ha.next + 1) s.H ov ((rows.map (dblRow p k)).take i) ∧ Has 8 [(1, rv), (3, .ptr W.next 0), (7, I (k : Int)), (8, I (h : Int)), (11, .ptr Ha.next 0), (12, ov), (13, I (i : Int))] s.T ∧ s.D = [] ∧ Grow W s.H ∧ (s.H.get W.next).bind AObj.cs = some (p.c ev) ∧ s.H.get Ha.next = some (.cells (p.c .nils) 30) ∧ Ha.next + 1 ≤ s.H.next) (rows.length) (by unfold loopFuel; omega)
            ⟨0, .nils, rfl, Nat.zero_le _, RowsM.nil _ _, Has.of (by kernel_rfl), rfl, (by (try dsimp only); repeat (first | exact gg1 | apply Grow.new | (refine Grow.put ?_ _ (by first | omega | (simp only [hNw, hPt]; omega))))), (by simp (disch := first | omega | (simp only [hNw, hPt]; omega)) only [gn0, gn1, gn2, gn3, gn4, gn5, gp0, gno, gpo]; assumption), (by rw [gp0]; rfl), by simp⟩ ?_
          rintro n ⟨T, D, G⟩ ⟨i, ov, hn4, hi4, hRM, ⟨f4_, hT⟩, hD, hg, e0, f0, hn1⟩
          dsimp only at *
          subst hT hD
          skip
          obtain ⟨GA, hGA⟩ : ∃ GA : Heap, GA = G := ⟨_, rfl⟩
          subst hGA
          have hgan := hg.next
          refine Ok.seq ?_
          refine Ok.seq ?_
          refine Ok.region ?_
          refine OkO.move rfl rfl ?_
          refine OkO.move rfl rfl ?_
          refine OkO.builtin rfl rfl rfl (bln (by kernel_rfl) (by first | assumption | rfl)) ?_
          refine OkO.bin rfl rfl rfl (bin_lss _ _) ?_
          refine OkO.nil ?_
          refine Ok.cond rfl (fun h7 => ?_) (fun h7 => ?_)
          · -- yes h7
            have hlt4 : i < rows.length := by simpa using h7
            obtain ⟨xr2, rb2, ro2, rcs2, t1, t2, t3, t4, t5⟩ := hRs.at_ i hlt4
            have lq2 := t5.len
            have pxr2 : xr2.plain = true := lpl lq2
            refine Ok.skip ?_
            refine Ok.seq ?_
            refine Ok.block ?_
            refine Ok.seq ?_
            refine Ok.region ?_
            refine OkO.assign rfl rfl ?_
            refine OkO.nil ?_
            refine Ok.seq ?_
            refine Ok.seq ?_
            refine Ok.region ?_
            refine OkO.assign rfl rfl ?_
            refine OkO.nil ?_
            refine Ok.block ?_
            refine Ok.loop (fun n s => ∃ (i2 : Nat) (w : AV), n = p.errs.length - i2 ∧ i2 ≤ p.errs.length ∧ Mine GA.next s.H w 3 1 ((dblL k (fun j => (rows[i]'hlt4).getD j 0) i2).map I) ∧ Ext GA s.H ∧ Has 8 [(1, rv), (3, .ptr W.next 0), (7, I (k : Int)), (8, I (h : Int)), (11, .ptr Ha.next 0), (12, ov), (13, I (i : Int)), (14, w), (15, I (i2 : Int))] s.T ∧ s.D = [] ∧ Grow W s.H) (p.errs.length) (by unfold loopFuel; omega)
              ⟨0, .nils, rfl, Nat.zero_le _, Mine.nil _ _ _ _, Ext.refl _, Has.of (by kernel_rfl), rfl, hg⟩ ?_
            rintro n ⟨T, D, G⟩ ⟨i2, w, hn6, hi6, mw, hx6, ⟨f6_, hT⟩, hD, hgi⟩
            dsimp only at *
            subst hT hD
            skip
            have hx6n := hx6.next
            have hgin := hgi.next
            have e2 : (G.get W.next).bind AObj.cs = some (p.c ev) := by rw [hx6.get _ (by omega)]; exact e0
            refine Ok.seq ?_
            refine Ok.seq ?_
            refine Ok.region ?_
            refine OkO.move rfl rfl ?_
            refine OkO.fieldAddr (o := 0) rfl (by kernel_rfl) rfl ?_
            refine OkO.load rfl rfl (lda (n := 1) (by kernel_rfl) (by first | assumption | (simp (disch := first | omega | (simp only [hNw, hPt]; omega)) only [gn0, gn1, gn2, gn3, gn4, gn5, gp0, gno, gpo] <;> first | rfl | assumption | exact gp0 _ _ _ | exact gn0 _ _)) (by first | rfl | assumption)) ?_
            refine OkO.builtin rfl rfl rfl (bln (by kernel_rfl) (by first | assumption | rfl)) ?_
            refine OkO.bin rfl rfl rfl (bin_lss _ _) ?_
            refine OkO.nil ?_
            refine Ok.cond rfl (fun h8 => ?_) (fun h8 => ?_)
            · -- yes h8
              have hlt6 : i2 < p.errs.length := by simpa using h8
              refine Ok.skip ?_
              refine Ok.seq ?_
              refine Ok.block ?_
              refine Ok.seq ?_
              refine Ok.region ?_
              refine OkO.move rfl rfl ?_
              refine OkO.move rfl rfl ?_
              refine OkO.bin rfl rfl rfl (bin_neq _ _) ?_
              refine OkO.nil ?_
              refine Ok.cond rfl (fun h9 => ?_) (fun h9 => ?_)
              · -- yes h9
                have hik2 : i2 ≠ k := by (have h9_ : ¬ (i2 : Int) = (k : Int) := by simpa using h9); omega
                have hrl2 : i2 < (rows[i]'hlt4).length := by rw [hlens _ (List.getElem_mem hlt4)]; exact hlt6
                obtain ⟨xb, xo, xcs, x1, x2, x3, x4⟩ := t5.at' i2 hrl2
                have t2G : (G.get rb2).bind AObj.cs = some rcs2 := by rw [(hE _ hgi).get _ t4]; exact t2
                have x2G : (G.get xb).bind AObj.cs = some xcs := by rw [(hE _ hgi).get _ x4]; exact x2
                have t4G : rb2 < G.next := by omega
                have x4G : xb < G.next := by omega
                refine Ok.drawn [(0, true, []), (1, true, []), (2, true, []), (3, true, []), (4, true, []), (5, true, []), (6, true, []), (7, true, []), (8, true, []), (9, true, []), (10, true, []), (11, true, []), (12, true, []), (13, true, []), (14, true, []), (15, true, [14, 11, 7, 4]), (16, false, [14, 11, 7, 4]), (17, false, [])] (by kernel_rfl) ?_
                refine OkP.step ?_
                refine OkO.move rfl rfl ?_
                refine OkO.nil ⟨rfl, ?_⟩
                refine OkP.step ?_
                refine OkO.move rfl rfl ?_
                refine OkO.nil ⟨rfl, ?_⟩
                refine OkP.step ?_
                refine OkO.move rfl rfl ?_
                refine OkO.nil ⟨rfl, ?_⟩
                refine OkP.step ?_
                refine OkO.index (sz := 1) rfl rfl rfl (by kernel_rfl) (by first | assumption | rfl | exact slAt_slice (by omega) | exact slAt_opn (by omega)) ?_ -- index ('Go.Operand.tmp', 96) ('Go.Operand.tmp', 97)
                refine OkO.nil ⟨rfl, ?_⟩
                refine OkP.step ?_
                refine OkO.load rfl rfl (lda (n := 1) (by kernel_rfl) (by first | assumption | (simp (disch := first | omega | (simp only [hNw, hPt]; omega)) only [gn0, gn1, gn2, gn3, gn4, gn5, gp0, gno, gpo] <;> first | rfl | assumption | exact gp0 _ _ _ | exact gn0 _ _)) (by first | rfl | assumption)) ?_
                refine OkO.nil ⟨rfl, ?_⟩
                refine OkP.step ?_
                refine OkO.move rfl rfl ?_
                refine OkO.nil ⟨rfl, ?_⟩
                refine OkP.step ?_
                refine OkO.index (sz := 1) rfl rfl rfl (by kernel_rfl) (by first | assumption | rfl | exact slAt_slice (by omega) | exact slAt_opn (by omega)) ?_ -- index ('Go.Operand.tmp', 99) ('Go.Operand.tmp', 100)
                refine OkO.nil ⟨rfl, ?_⟩
                refine OkP.step ?_
                refine OkO.load rfl rfl (lda (n := 1) (by kernel_rfl) (by first | assumption | (simp (disch := first | omega | (simp only [hNw, hPt]; omega)) only [gn0, gn1, gn2, gn3, gn4, gn5, gp0, gno, gpo] <;> first | rfl | assumption | exact gp0 _ _ _ | exact gn0 _ _)) (by first | rfl | assumption)) ?_
                refine OkO.nil ⟨rfl, ?_⟩
                refine OkP.step ?_
                refine OkO.move rfl rfl ?_
                refine OkO.nil ⟨rfl, ?_⟩
                refine OkP.step ?_
                refine OkO.move rfl rfl ?_
                refine OkO.nil ⟨rfl, ?_⟩
                refine OkP.step ?_
                refine OkO.index (sz := 1) rfl rfl rfl (by kernel_rfl) (by first | assumption | rfl | exact slAt_slice (by omega) | exact slAt_opn (by omega)) ?_ -- index ('Go.Operand.tmp', 103) ('Go.Operand.tmp', 104)
                refine OkO.nil ⟨rfl, ?_⟩
                refine OkP.step ?_
                refine OkO.load rfl rfl (lda (n := 1) (by kernel_rfl) (by first | assumption | (simp (disch := first | omega | (simp only [hNw, hPt]; omega)) only [gn0, gn1, gn2, gn3, gn4, gn5, gp0, gno, gpo] <;> first | rfl | assumption | exact gp0 _ _ _ | exact gn0 _ _)) (by first | rfl | assumption)) ?_
                refine OkO.nil ⟨rfl, ?_⟩
                refine OkP.step ?_
                refine OkO.move rfl rfl ?_
                refine OkO.nil ⟨rfl, ?_⟩
                refine OkP.step ?_
                refine OkO.index (sz := 1) rfl rfl rfl (by kernel_rfl) (by first | assumption | rfl | exact slAt_slice (by omega) | exact slAt_opn (by omega)) ?_ -- index ('Go.Operand.tmp', 106) ('Go.Operand.tmp', 107)
                refine OkO.nil ⟨rfl, ?_⟩
                refine OkP.step ?_
                refine OkO.load rfl rfl (lda (n := 1) (by kernel_rfl) (by first | assumption | (simp (disch := first | omega | (simp only [hNw, hPt]; omega)) only [gn0, gn1, gn2, gn3, gn4, gn5, gp0, gno, gpo] <;> first | rfl | assumption | exact gp0 _ _ _ | exact gn0 _ _)) (by first | rfl | assumption)) ?_
                refine OkO.nil ⟨rfl, ?_⟩
                refine OkP.step ?_
                refine OkO.buildSlice (el := 3) (sz := 1) (z := [.int .i64 0]) rfl (by kernel_rfl) (by decide) rfl rfl ?_
                refine OkO.nil ⟨(sco (sld rfl rfl (lda (n := 1) (by kernel_rfl) (by first | assumption | (simp (disch := first | omega | (simp only [hNw, hPt]; omega)) only [gn0, gn1, gn2, gn3, gn4, gn5, gp0, gno, gpo] <;> first | rfl | assumption | exact gp0 _ _ _ | exact gn0 _ _)) (by first | rfl | assumption)) rfl (eqr _ (by first | rfl | exact lpl (by assumption) | (simp [AV.plain, AV.plains, AV.cells, pev, Pst.c])))) (sco (sld rfl rfl (lda (n := 1) (by kernel_rfl) (by first | assumption | (simp (disch := first | omega | (simp only [hNw, hPt]; omega)) only [gn0, gn1, gn2, gn3, gn4, gn5, gp0, gno, gpo] <;> first | rfl | assumption | exact gp0 _ _ _ | exact gn0 _ _)) (by first | rfl | assumption)) rfl (eqr _ (by first | rfl | exact lpl (by assumption) | (simp [AV.plain, AV.plains, AV.cells, pev, Pst.c])))) (sco (sld rfl rfl (lda (n := 1) (by kernel_rfl) (by first | assumption | (simp (disch := first | omega | (simp only [hNw, hPt]; omega)) only [gn0, gn1, gn2, gn3, gn4, gn5, gp0, gno, gpo] <;> first | rfl | assumption | exact gp0 _ _ _ | exact gn0 _ _)) (by first | rfl | assumption)) rfl (eqr _ (by first | rfl | exact lpl (by assumption) | (simp [AV.plain, AV.plains, AV.cells, pev, Pst.c])))) (sco (sld rfl rfl (lda (n := 1) (by kernel_rfl) (by first | assumption | (simp (disch := first | omega | (simp only [hNw, hPt]; omega)) only [gn0, gn1, gn2, gn3, gn4, gn5, gp0, gno, gpo] <;> first | rfl | assumption | exact gp0 _ _ _ | exact gn0 _ _)) (by first | rfl | assumption)) rfl (eqr _ (by first | rfl | exact lpl (by assumption) | (simp [AV.plain, AV.plains, AV.cells, pev, Pst.c])))) rfl)))), ?_⟩
                refine OkP.step ?_
                refine OkO.builtinE rfl rfl rfl (Mine.app2 (W := W) (k0 := GA.next) (t := 22) (u := 22) (sz := 1) (by_ := 8) (e := 3) (n := 2) (new := [I ((rows[i]'hlt4)[i2]'hrl2), I ((rows[i]'hlt4)[i2]'hrl2)]) (mw.to (Grow.toNew _ _)) (hgi.new _) (by omega) (by simp; omega) (by kernel_rfl) (by kernel_rfl) (elems_new (n := 2) (sz := 1) rfl) rfl rfl (by rw [List.length_map, dblL_len]; split <;> omega) (by omega) (by omega) rfl) ?_
                rintro w2 G2 ⟨r1, r2, r3, r4, r5, _⟩
                simp only [hNw] at r5
                have t2H : (G2.get rb2).bind AObj.cs = some rcs2 := by rw [(hE _ r2).get _ t4]; exact t2
                have x2H : (G2.get xb).bind AObj.cs = some xcs := by rw [(hE _ r2).get _ x4]; exact x2
                have hx2 : Ext GA G2 := ⟨by omega, fun j hj => by rw [r3.get j hj (by simp; omega), gno _ _ _ (by omega)]; exact hx6.get j hj⟩
                refine OkO.nil ⟨(sco (sld rfl rfl (lda (n := 1) (by kernel_rfl) (by first | assumption | (simp (disch := first | omega | (simp only [hNw, hPt]; omega)) only [gn0, gn1, gn2, gn3, gn4, gn5, gp0, gno, gpo] <;> first | rfl | assumption | exact gp0 _ _ _ | exact gn0 _ _)) (by first | rfl | assumption)) rfl (eqr _ (by first | rfl | exact lpl (by assumption) | (simp [AV.plain, AV.plains, AV.cells, pev, Pst.c])))) (sco (sld rfl rfl (lda (n := 1) (by kernel_rfl) (by first | assumption | (simp (disch := first | omega | (simp only [hNw, hPt]; omega)) only [gn0, gn1, gn2, gn3, gn4, gn5, gp0, gno, gpo] <;> first | rfl | assumption | exact gp0 _ _ _ | exact gn0 _ _)) (by first | rfl | assumption)) rfl (eqr _ (by first | rfl | exact lpl (by assumption) | (simp [AV.plain, AV.plains, AV.cells, pev, Pst.c])))) (sco (sld rfl rfl (lda (n := 1) (by kernel_rfl) (by first | assumption | (simp (disch := first | omega | (simp only [hNw, hPt]; omega)) only [gn0, gn1, gn2, gn3, gn4, gn5, gp0, gno, gpo] <;> first | rfl | assumption | exact gp0 _ _ _ | exact gn0 _ _)) (by first | rfl | assumption)) rfl (eqr _ (by first | rfl | exact lpl (by assumption) | (simp [AV.plain, AV.plains, AV.cells, pev, Pst.c])))) (sco (sld rfl rfl (lda (n := 1) (by kernel_rfl) (by first | assumption | (simp (disch := first | omega | (simp only [hNw, hPt]; omega)) only [gn0, gn1, gn2, gn3, gn4, gn5, gp0, gno, gpo] <;> first | rfl | assumption | exact gp0 _ _ _ | exact gn0 _ _)) (by first | rfl | assumption)) rfl (eqr _ (by first | rfl | exact lpl (by assumption) | (simp [AV.plain, AV.plains, AV.cells, pev, Pst.c])))) rfl)))), ?_⟩
                refine OkP.step ?_
                refine OkO.assign rfl rfl ?_
                refine OkO.nil ⟨rfl, ?_⟩
                refine OkP.nil ?_
                refine Ok.region ?_
                refine OkO.move rfl rfl ?_
                refine OkO.bin rfl rfl rfl (bin_add (by omega) (by omega)) ?_
                refine OkO.assign rfl rfl ?_
                refine OkO.nil ?_
                refine ⟨p.errs.length - (i2 + 1), by omega, i2 + 1, w2, rfl, by omega, ?_, hx2, Has.of (by kernel_rfl), rfl, r2⟩
                rw [dblL_yes hik2, List.map_append, show (rows[i]'hlt4).getD i2 0 = (rows[i]'hlt4)[i2]'hrl2 from by simp [List.getD, hrl2]]
                exact r1
              · -- no h9
                have heq2 : i2 = k := by (have h9_ : (i2 : Int) = (k : Int) := by simpa using h9); omega
                refine Ok.skip ?_
                refine Ok.region ?_
                refine OkO.move rfl rfl ?_
                refine OkO.bin rfl rfl rfl (bin_add (by omega) (by omega)) ?_
                refine OkO.assign rfl rfl ?_
                refine OkO.nil ?_
                refine ⟨p.errs.length - (i2 + 1), by omega, i2 + 1, w, rfl, by omega, by rw [dblL_no heq2]; exact mw, hx6, Has.of (by kernel_rfl), rfl, hgi⟩
            · -- no h8
              have hge6 : i2 = p.errs.length := by (have h9 : ¬ i2 < p.errs.length := by simpa using h8); omega
              subst hge6
              obtain ⟨cs9, hm9, hcl9, hsn⟩ := RowsM.snoc (s := dblRow p k (rows[i]'hlt4)) (hRM.to hx6) (mw.low (by omega))
              refine Ok.exit ?_
              refine Ok.region ?_
              refine OkO.move rfl rfl ?_
              refine OkO.move rfl rfl ?_
              refine OkO.buildSlice (el := 22) (sz := 1) (z := [.nils]) (cs := [w]) rfl (by kernel_rfl) (by decide) rfl (by show fillS (fun i => some (i * 1, 1)) [AV.nils] [(0, w)] = some [w]; simp [fillS, spl, mw.one.1]) ?_
              refine OkO.builtinE rfl rfl rfl (Mine.app2 (W := W) (k0 := Ha.next + 1) (t := 25) (u := 25) (sz := 1) (by_ := 24) (e := 22) (n := 1) (new := [w]) (hm9.to (Grow.toNew _ _)) (hgi.new _) (by omega) (by simp; omega) (by kernel_rfl) (by kernel_rfl) (elems_new (n := 1) (sz := 1) rfl) rfl rfl (by rw [hcl9, List.length_take, List.length_map]; omega) (by omega) (by omega) (by simp [atoms, mw.one.2])) ?_
              rintro ov2 G2 ⟨r1, r2, r3, r4, r5, _⟩
              simp only [hNw] at r4 r5
              have keep : ∀ j, j < G.next → (∀ m, ov ≠ .opn j m) → G2.get j = G.get j := fun j hj hne => by rw [r4 j (by omega) hne]; exact gno _ _ _ (by omega)
              have hRM2 := hsn ov2 G2 r1 (by omega) keep
              have e3 : (G2.get W.next).bind AObj.cs = some (p.c ev) := by rw [r3.get W.next (by omega) (by simp; omega), gno _ _ _ (by omega)]; exact e2
              have f3 : G2.get Ha.next = some (.cells (p.c .nils) 30) := by rw [r3.get Ha.next (by omega) (by simp; omega), gno _ _ _ (by omega), hx6.get _ (by omega)]; exact f0
              refine OkO.assign rfl rfl ?_
              refine OkO.nil ?_
              refine Ok.region ?_
              refine OkO.move rfl rfl ?_
              refine OkO.bin rfl rfl rfl (bin_add (by omega) (by omega)) ?_
              refine OkO.assign rfl rfl ?_
              refine OkO.nil ?_
              refine ⟨rows.length - (i + 1), by omega, i + 1, ov2, rfl, by omega, ?_, Has.of (by kernel_rfl), rfl, r2, e3, f3, (by show Ha.next + 1 ≤ G2.next; omega)⟩
              rw [List.take_succ_eq_append_getElem (by rw [List.length_map]; exact hlt4), List.getElem_map]
              exact hRM2
          · -- no h7
            have hge4 : i = rows.length := by (have h9 : ¬ i < rows.length := by simpa using h7); omega
            subst hge4
            obtain ⟨GB, hGB⟩ : ∃ GB : Heap, GB = GA := ⟨_, rfl⟩
            subst hGB
            rw [List.take_of_length_le (by rw [List.length_map]; omega)] at hRM
            refine Ok.exit ?_
            refine Ok.seq ?_
            refine Ok.seq ?_
            refine Ok.region ?_
            refine OkO.assign rfl rfl ?_
            refine OkO.nil ?_
            refine Ok.block ?_
            refine Ok.loop (fun n s => ∃ (i8 : Nat) (v2 : AV), n = p.errs.length - i8 ∧ i8 ≤ p.errs.length ∧ Mine GB.next s.H v2 3 1 ((dblL k (fun j => p.errs.getD j 0) i8).map I) ∧ Has 8 [(1, rv), (3, .ptr W.next 0), (7, I (k : Int)), (8, I (h : Int)), (11, .ptr Ha.next 0), (12, ov), (16, I (i8 : Int))] s.T ∧ s.D = [] ∧ Grow W s.H ∧ s.H.get Ha.next = some (.cells (p.c v2) 30) ∧ (∀ j, j < GB.next → j ≠ Ha.next → s.H.get j = GB.get j) ∧ GB.next ≤ s.H.next) (p.errs.length) (by unfold loopFuel; omega)
              ⟨0, .nils, rfl, Nat.zero_le _, Mine.nil _ _ _ _, Has.of (by kernel_rfl), rfl, hg, f0, fun _ _ _ => rfl, Nat.le_refl _⟩ ?_
            rintro n ⟨T, D, G⟩ ⟨i8, v2, hn8, hi8, mv2, ⟨f8_, hT⟩, hD, hg8, f8, k8, n8⟩
            dsimp only at *
            subst hT hD
            skip
            have hg8n := hg8.next
            have e8 : (G.get W.next).bind AObj.cs = some (p.c ev) := by rw [k8 W.next (by omega) (by omega)]; exact e0
            have f8c : (G.get Ha.next).bind AObj.cs = some (p.c v2) := by rw [f8]; rfl
            have lv2 := mv2.ints.len
            have pv2 : v2.plain = true := lpl lv2
            refine Ok.seq ?_
            refine Ok.seq ?_
            refine Ok.region ?_
            refine OkO.move rfl rfl ?_
            refine OkO.fieldAddr (o := 0) rfl (by kernel_rfl) rfl ?_
            refine OkO.load rfl rfl (lda (n := 1) (by kernel_rfl) (by first | assumption | (simp (disch := first | omega | (simp only [hNw, hPt]; omega)) only [gn0, gn1, gn2, gn3, gn4, gn5, gp0, gno, gpo] <;> first | rfl | assumption | exact gp0 _ _ _ | exact gn0 _ _)) (by first | rfl | assumption)) ?_
            refine OkO.builtin rfl rfl rfl (bln (by kernel_rfl) (by first | assumption | rfl)) ?_
            refine OkO.bin rfl rfl rfl (bin_lss _ _) ?_
            refine OkO.nil ?_
            refine Ok.cond rfl (fun h10 => ?_) (fun h10 => ?_)
            · -- yes h10
              have hlt8 : i8 < p.errs.length := by simpa using h10
              refine Ok.skip ?_
              refine Ok.seq ?_
              refine Ok.block ?_
              refine Ok.seq ?_
              refine Ok.region ?_
              refine OkO.move rfl rfl ?_
              refine OkO.move rfl rfl ?_
              refine OkO.bin rfl rfl rfl (bin_neq _ _) ?_
              refine OkO.nil ?_
              refine Ok.cond rfl (fun h11 => ?_) (fun h11 => ?_)
              · -- yes h11
                have hik8 : i8 ≠ k := by (have h9_ : ¬ (i8 : Int) = (k : Int) := by simpa using h11); omega
                obtain ⟨xb, xo, xcs, x1, x2, x3, x4⟩ := hV.at' i8 hlt8
                have x2G : (G.get xb).bind AObj.cs = some xcs := by rw [(hE _ hg8).get _ x4]; exact x2
                have x4G : xb < G.next := by omega
                refine Ok.drawn [(0, true, []), (1, true, []), (2, true, []), (3, true, []), (4, true, []), (5, true, []), (6, true, []), (7, true, []), (8, true, []), (9, true, []), (10, true, []), (11, true, []), (12, true, [11, 8, 6, 3, 1]), (13, false, [11, 8, 6, 3]), (14, true, []), (15, false, [])] (by kernel_rfl) ?_
                refine OkP.step ?_
                refine OkO.fieldAddr (o := 0) rfl (by kernel_rfl) rfl ?_
                refine OkO.nil ⟨rfl, ?_⟩
                refine OkP.step ?_
                refine OkO.load rfl rfl (lda (n := 1) (by kernel_rfl) (by first | assumption | (simp (disch := first | omega | (simp only [hNw, hPt]; omega)) only [gn0, gn1, gn2, gn3, gn4, gn5, gp0, gno, gpo] <;> first | rfl | assumption | exact gp0 _ _ _ | exact gn0 _ _)) (by first | rfl | assumption)) ?_
                refine OkO.nil ⟨rfl, ?_⟩
                refine OkP.step ?_
                refine OkO.fieldAddr (o := 0) rfl (by kernel_rfl) rfl ?_
                refine OkO.nil ⟨rfl, ?_⟩
                refine OkP.step ?_
                refine OkO.load rfl rfl (lda (n := 1) (by kernel_rfl) (by first | assumption | (simp (disch := first | omega | (simp only [hNw, hPt]; omega)) only [gn0, gn1, gn2, gn3, gn4, gn5, gp0, gno, gpo] <;> first | rfl | assumption | exact gp0 _ _ _ | exact gn0 _ _)) (by first | rfl | assumption)) ?_
                refine OkO.nil ⟨rfl, ?_⟩
                refine OkP.step ?_
                refine OkO.move rfl rfl ?_
                refine OkO.nil ⟨rfl, ?_⟩
                refine OkP.step ?_
                refine OkO.index (sz := 1) rfl rfl rfl (by kernel_rfl) (by first | assumption | rfl | exact slAt_slice (by omega) | exact slAt_opn (by omega)) ?_ -- index ('Go.Operand.tmp', 129) ('Go.Operand.tmp', 130)
                refine OkO.nil ⟨rfl, ?_⟩
                refine OkP.step ?_
                refine OkO.load rfl rfl (lda (n := 1) (by kernel_rfl) (by first | assumption | (simp (disch := first | omega | (simp only [hNw, hPt]; omega)) only [gn0, gn1, gn2, gn3, gn4, gn5, gp0, gno, gpo] <;> first | rfl | assumption | exact gp0 _ _ _ | exact gn0 _ _)) (by first | rfl | assumption)) ?_
                refine OkO.nil ⟨rfl, ?_⟩
                refine OkP.step ?_
                refine OkO.fieldAddr (o := 0) rfl (by kernel_rfl) rfl ?_
                refine OkO.nil ⟨rfl, ?_⟩
                refine OkP.step ?_
                refine OkO.load rfl rfl (lda (n := 1) (by kernel_rfl) (by first | assumption | (simp (disch := first | omega | (simp only [hNw, hPt]; omega)) only [gn0, gn1, gn2, gn3, gn4, gn5, gp0, gno, gpo] <;> first | rfl | assumption | exact gp0 _ _ _ | exact gn0 _ _)) (by first | rfl | assumption)) ?_
                refine OkO.nil ⟨rfl, ?_⟩
                refine OkP.step ?_
                refine OkO.move rfl rfl ?_
                refine OkO.nil ⟨rfl, ?_⟩
                refine OkP.step ?_
                refine OkO.index (sz := 1) rfl rfl rfl (by kernel_rfl) (by first | assumption | rfl | exact slAt_slice (by omega) | exact slAt_opn (by omega)) ?_ -- index ('Go.Operand.tmp', 134) ('Go.Operand.tmp', 135)
                refine OkO.nil ⟨rfl, ?_⟩
                refine OkP.step ?_
                refine OkO.load rfl rfl (lda (n := 1) (by kernel_rfl) (by first | assumption | (simp (disch := first | omega | (simp only [hNw, hPt]; omega)) only [gn0, gn1, gn2, gn3, gn4, gn5, gp0, gno, gpo] <;> first | rfl | assumption | exact gp0 _ _ _ | exact gn0 _ _)) (by first | rfl | assumption)) ?_
                refine OkO.nil ⟨rfl, ?_⟩
                refine OkP.step ?_
                refine OkO.buildSlice (el := 3) (sz := 1) (z := [.int .i64 0]) rfl (by kernel_rfl) (by decide) rfl rfl ?_
                refine OkO.nil ⟨(sco (sld rfl rfl (lda (n := 1) (by kernel_rfl) (by first | assumption | (simp (disch := first | omega | (simp only [hNw, hPt]; omega)) only [gn0, gn1, gn2, gn3, gn4, gn5, gp0, gno, gpo] <;> first | rfl | assumption | exact gp0 _ _ _ | exact gn0 _ _)) (by first | rfl | assumption)) rfl (eqr _ (by first | rfl | exact lpl (by assumption) | (simp [AV.plain, AV.plains, AV.cells, pev, Pst.c])))) (sco (sld rfl rfl (lda (n := 1) (by kernel_rfl) (by first | assumption | (simp (disch := first | omega | (simp only [hNw, hPt]; omega)) only [gn0, gn1, gn2, gn3, gn4, gn5, gp0, gno, gpo] <;> first | rfl | assumption | exact gp0 _ _ _ | exact gn0 _ _)) (by first | rfl | assumption)) rfl (eqr _ (by first | rfl | exact lpl (by assumption) | (simp [AV.plain, AV.plains, AV.cells, pev, Pst.c])))) (sco (sld rfl rfl (lda (n := 1) (by kernel_rfl) (by first | assumption | (simp (disch := first | omega | (simp only [hNw, hPt]; omega)) only [gn0, gn1, gn2, gn3, gn4, gn5, gp0, gno, gpo] <;> first | rfl | assumption | exact gp0 _ _ _ | exact gn0 _ _)) (by first | rfl | assumption)) rfl (eqr _ (by first | rfl | exact lpl (by assumption) | (simp [AV.plain, AV.plains, AV.cells, pev, Pst.c])))) (sco (sld rfl rfl (lda (n := 1) (by kernel_rfl) (by first | assumption | (simp (disch := first | omega | (simp only [hNw, hPt]; omega)) only [gn0, gn1, gn2, gn3, gn4, gn5, gp0, gno, gpo] <;> first | rfl | assumption | exact gp0 _ _ _ | exact gn0 _ _)) (by first | rfl | assumption)) rfl (eqr _ (by first | rfl | exact lpl (by assumption) | (simp [AV.plain, AV.plains, AV.cells, pev, Pst.c])))) (sco (sld rfl rfl (lda (n := 1) (by kernel_rfl) (by first | assumption | (simp (disch := first | omega | (simp only [hNw, hPt]; omega)) only [gn0, gn1, gn2, gn3, gn4, gn5, gp0, gno, gpo] <;> first | rfl | assumption | exact gp0 _ _ _ | exact gn0 _ _)) (by first | rfl | assumption)) rfl (eqr _ (by first | rfl | exact lpl (by assumption) | (simp [AV.plain, AV.plains, AV.cells, pev, Pst.c])))) rfl))))), ?_⟩
                refine OkP.step ?_
                refine OkO.builtinE rfl rfl rfl (Mine.app2 (W := W) (k0 := GB.next) (t := 22) (u := 22) (sz := 1) (by_ := 8) (e := 3) (n := 2) (new := [I p.errs[i8], I p.errs[i8]]) (mv2.to (Grow.toNew _ _)) (hg8.new _) (by omega) (by simp; omega) (by kernel_rfl) (by kernel_rfl) (elems_new (n := 2) (sz := 1) rfl) rfl rfl (by rw [List.length_map, dblL_len]; split <;> omega) (by omega) (by omega) rfl) ?_
                rintro v3 G2 ⟨r1, r2, r3, r4, r5, _⟩
                simp only [hNw] at r5
                have o8 : G2.get Ha.next = some (.cells (p.c v2) 30) := by rw [r3.get Ha.next (by omega) (by simp; omega), gno _ _ _ (by omega)]; exact f8
                have x2H : (G2.get xb).bind AObj.cs = some xcs := by rw [(hE _ r2).get _ x4]; exact x2
                have e8H : (G2.get W.next).bind AObj.cs = some (p.c ev) := by rw [r3.get W.next (by omega) (by simp; omega), gno _ _ _ (by omega)]; exact e8
                have o8c : (G2.get Ha.next).bind AObj.cs = some (p.c v2) := by rw [o8]; rfl
                obtain ⟨u1_, u2_⟩ := r1.one
                refine OkO.nil ⟨(sco (sld rfl rfl (lda (n := 1) (by kernel_rfl) (by first | assumption | (simp (disch := first | omega | (simp only [hNw, hPt]; omega)) only [gn0, gn1, gn2, gn3, gn4, gn5, gp0, gno, gpo] <;> first | rfl | assumption | exact gp0 _ _ _ | exact gn0 _ _)) (by first | rfl | assumption)) rfl (eqr _ (by first | rfl | exact lpl (by assumption) | (simp [AV.plain, AV.plains, AV.cells, pev, Pst.c])))) (sco (sld rfl rfl (lda (n := 1) (by kernel_rfl) (by first | assumption | (simp (disch := first | omega | (simp only [hNw, hPt]; omega)) only [gn0, gn1, gn2, gn3, gn4, gn5, gp0, gno, gpo] <;> first | rfl | assumption | exact gp0 _ _ _ | exact gn0 _ _)) (by first | rfl | assumption)) rfl (eqr _ (by first | rfl | exact lpl (by assumption) | (simp [AV.plain, AV.plains, AV.cells, pev, Pst.c])))) (sco (sld rfl rfl (lda (n := 1) (by kernel_rfl) (by first | assumption | (simp (disch := first | omega | (simp only [hNw, hPt]; omega)) only [gn0, gn1, gn2, gn3, gn4, gn5, gp0, gno, gpo] <;> first | rfl | assumption | exact gp0 _ _ _ | exact gn0 _ _)) (by first | rfl | assumption)) rfl (eqr _ (by first | rfl | exact lpl (by assumption) | (simp [AV.plain, AV.plains, AV.cells, pev, Pst.c])))) (sco (sld rfl rfl (lda (n := 1) (by kernel_rfl) (by first | assumption | (simp (disch := first | omega | (simp only [hNw, hPt]; omega)) only [gn0, gn1, gn2, gn3, gn4, gn5, gp0, gno, gpo] <;> first | rfl | assumption | exact gp0 _ _ _ | exact gn0 _ _)) (by first | rfl | assumption)) rfl (eqr _ (by first | rfl | exact lpl (by assumption) | (simp [AV.plain, AV.plains, AV.cells, pev, Pst.c])))) rfl)))), ?_⟩
                refine OkP.step ?_
                refine OkO.fieldAddr (o := 0) rfl (by kernel_rfl) rfl ?_
                refine OkO.nil ⟨rfl, ?_⟩
                refine OkP.step ?_
                refine OkO.store rfl rfl rfl (sAc (n := 1) (ag := false) (l := p.c v3) (by kernel_rfl) o8 (by rw [u1_]; rfl) (by rw [u1_]; simp [atoms, u2_]) (by rw [u1_]; rfl)) ?_
                refine OkO.nil ⟨rfl, ?_⟩
                refine OkP.nil ?_
                refine Ok.region ?_
                refine OkO.move rfl rfl ?_
                refine OkO.bin rfl rfl rfl (bin_add (by omega) (by omega)) ?_
                refine OkO.assign rfl rfl ?_
                refine OkO.nil ?_
                refine ⟨p.errs.length - (i8 + 1), by omega, i8 + 1, v3, rfl, by omega, ?_, Has.of (by kernel_rfl), rfl, r2.put _ (by omega), gp0 _ _ _, fun j h1_ h2_ => ?_, by simp; omega⟩
                · rw [dblL_yes hik8, List.map_append, show p.errs.getD i8 0 = p.errs[i8] from by simp [List.getD, hlt8]]
                  exact r1.put _ (by omega)
                · rw [gpo _ _ _ _ h2_, r3.get j h1_ (by simp; omega), gno _ _ _ (by omega)]
                  exact k8 j h1_ h2_
              · -- no h11
                have heq8 : i8 = k := by (have h9_ : (i8 : Int) = (k : Int) := by simpa using h11); omega
                refine Ok.skip ?_
                refine Ok.region ?_
                refine OkO.move rfl rfl ?_
                refine OkO.bin rfl rfl rfl (bin_add (by omega) (by omega)) ?_
                refine OkO.assign rfl rfl ?_
                refine OkO.nil ?_
                refine ⟨p.errs.length - (i8 + 1), by omega, i8 + 1, v2, rfl, by omega, by rw [dblL_no heq8]; exact mv2, Has.of (by kernel_rfl), rfl, hg8, f8, k8, n8⟩
            · -- no h10
              have hge8 : i8 = p.errs.length := by (have h9 : ¬ i8 < p.errs.length := by simpa using h10); omega
              subst hge8
              have ivD : Ints G v2 (p.dbl k).errs := mv2.ints
              have hR2 := (RowsM.but hRM (fun j h1_ h2_ => k8 j h2_ (by omega)) n8).at
              refine Ok.exit ?_
              refine Ok.seq ?_
              refine Ok.region ?_
              refine OkO.load rfl rfl (ldg (n := 6) (by kernel_rfl) (by first | assumption | (simp (disch := first | omega | (simp only [hNw, hPt]; omega)) only [gn0, gn1, gn2, gn3, gn4, gn5, gp0, gno, gpo] <;> first | rfl | assumption | exact gp0 _ _ _ | exact gn0 _ _)) (by first | rfl | assumption)) ?_
              refine OkO.callE rfl rfl rfl rfl rfl (c20 (m + 5) ev p _ (hV.ext (hE _ (by (try dsimp only); repeat (first | exact hg8 | apply Grow.new | (refine Grow.put ?_ _ (by first | omega | (simp only [hNw, hPt]; omega))))))) (by omega)) ?_ -- "sackung/sackunglaw04.Post"
              rintro _ Hc ⟨xc, rfl, qc, mc⟩
              have n1 := qc.ext.next
              try simp only [hNw, hPt] at n1
              have gg1 : Grow W Hc := Grow.ret (by (try dsimp only); repeat (first | exact hg8 | apply Grow.new | (refine Grow.put ?_ _ (by first | omega | (simp only [hNw, hPt]; omega))))) qc
              have e1 : (Hc.get (W.next)).bind AObj.cs = some (p.c ev) := by rw [qc.ext.get _ (by first | omega | (simp only [hNw, hPt]; omega))]; first | assumption | (rw [gn0]; rfl) | (rw [get_put_eq] <;> rfl) | (simp (disch := first | omega | (simp only [hNw, hPt]; omega)) only [gn0, gn1, gn2, gn3, gn4, gn5, gp0, gno, gpo] <;> first | rfl | assumption | (rw [get_put_eq] <;> rfl))
              have f1 : (Hc.get (Ha.next)).bind AObj.cs = some (p.c v2) := by rw [qc.ext.get _ (by first | omega | (simp only [hNw, hPt]; omega))]; first | assumption | (rw [gn0]; rfl) | (rw [get_put_eq] <;> rfl) | (simp (disch := first | omega | (simp only [hNw, hPt]; omega)) only [gn0, gn1, gn2, gn3, gn4, gn5, gp0, gno, gpo] <;> first | rfl | assumption | (rw [get_put_eq] <;> rfl))
              have exG1 : Ext G Hc := Ext.trans (by (try dsimp only); repeat (first | exact Ext.refl _ | exact Ext.refl _ | apply Ext.new | (refine Ext.put ?_ _ (by first | omega | (simp only [hNw, hPt]; omega))))) qc.ext
              have ic := mc.ints
              have plc : xc.plain = true := lpl ic.len
              have oc := mc.one
              refine OkO.move rfl rfl ?_
              refine OkO.callE rfl rfl rfl rfl rfl (c22 (m + 5) rv rows _ (hRs.ext (hE _ (by (try dsimp only); repeat (first | exact gg1 | apply Grow.new | (refine Grow.put ?_ _ (by first | omega | (simp only [hNw, hPt]; omega))))))) (by omega) ht4) ?_ -- "sackung/sackunglaw04.rows"
              rintro xd Hd ⟨qd, md⟩
              have n2 := qd.ext.next
              try simp only [hNw, hPt] at n2
              have gg2 : Grow W Hd := Grow.ret (by (try dsimp only); repeat (first | exact gg1 | apply Grow.new | (refine Grow.put ?_ _ (by first | omega | (simp only [hNw, hPt]; omega))))) qd
              have e2 : (Hd.get (W.next)).bind AObj.cs = some (p.c ev) := by rw [qd.ext.get _ (by first | omega | (simp only [hNw, hPt]; omega))]; first | assumption | (rw [gn0]; rfl) | (rw [get_put_eq] <;> rfl) | (simp (disch := first | omega | (simp only [hNw, hPt]; omega)) only [gn0, gn1, gn2, gn3, gn4, gn5, gp0, gno, gpo] <;> first | rfl | assumption | (rw [get_put_eq] <;> rfl))
              have f2 : (Hd.get (Ha.next)).bind AObj.cs = some (p.c v2) := by rw [qd.ext.get _ (by first | omega | (simp only [hNw, hPt]; omega))]; first | assumption | (rw [gn0]; rfl) | (rw [get_put_eq] <;> rfl) | (simp (disch := first | omega | (simp only [hNw, hPt]; omega)) only [gn0, gn1, gn2, gn3, gn4, gn5, gp0, gno, gpo] <;> first | rfl | assumption | (rw [get_put_eq] <;> rfl))
              have exG2 : Ext G Hd := Ext.trans (by (try dsimp only); repeat (first | exact exG1 | exact Ext.refl _ | apply Ext.new | (refine Ext.put ?_ _ (by first | omega | (simp only [hNw, hPt]; omega))))) qd.ext
              have exHc2 : Ext Hc Hd := Ext.trans (by (try dsimp only); repeat (first | exact Ext.refl _ | exact Ext.refl _ | apply Ext.new | (refine Ext.put ?_ _ (by first | omega | (simp only [hNw, hPt]; omega))))) qd.ext
              have id := md.at
              have pld : xd.plain = true := lpl id.len
              refine OkO.callE rfl rfl rfl rfl rfl (c21V (m + 0) xc xd p rows n9 e9 _ (ic.ext (by (try dsimp only); repeat (first | exact exHc2 | exact Ext.refl _ | apply Ext.new | (refine Ext.put ?_ _ (by first | omega | (simp only [hNw, hPt]; omega)))))) (id.ext (by (try dsimp only); repeat (first | exact Ext.refl _ | exact Ext.refl _ | apply Ext.new | (refine Ext.put ?_ _ (by first | omega | (simp only [hNw, hPt]; omega)))))) (by omega) (by omega) ht4 hf hne) ?_ -- "sackung/alarm.Levels"
              rintro _ Hl ⟨xl, rfl, ql, ml⟩
              have n3 := ql.ext.next
              try simp only [hNw, hPt] at n3
              have gg3 : Grow W Hl := Grow.ret (by (try dsimp only); repeat (first | exact gg2 | apply Grow.new | (refine Grow.put ?_ _ (by first | omega | (simp only [hNw, hPt]; omega))))) ql
              have e3 : (Hl.get (W.next)).bind AObj.cs = some (p.c ev) := by rw [ql.ext.get _ (by first | omega | (simp only [hNw, hPt]; omega))]; first | assumption | (rw [gn0]; rfl) | (rw [get_put_eq] <;> rfl) | (simp (disch := first | omega | (simp only [hNw, hPt]; omega)) only [gn0, gn1, gn2, gn3, gn4, gn5, gp0, gno, gpo] <;> first | rfl | assumption | (rw [get_put_eq] <;> rfl))
              have f3 : (Hl.get (Ha.next)).bind AObj.cs = some (p.c v2) := by rw [ql.ext.get _ (by first | omega | (simp only [hNw, hPt]; omega))]; first | assumption | (rw [gn0]; rfl) | (rw [get_put_eq] <;> rfl) | (simp (disch := first | omega | (simp only [hNw, hPt]; omega)) only [gn0, gn1, gn2, gn3, gn4, gn5, gp0, gno, gpo] <;> first | rfl | assumption | (rw [get_put_eq] <;> rfl))
              have exG3 : Ext G Hl := Ext.trans (by (try dsimp only); repeat (first | exact exG2 | exact Ext.refl _ | apply Ext.new | (refine Ext.put ?_ _ (by first | omega | (simp only [hNw, hPt]; omega))))) ql.ext
              have exHc3 : Ext Hc Hl := Ext.trans (by (try dsimp only); repeat (first | exact exHc2 | exact Ext.refl _ | apply Ext.new | (refine Ext.put ?_ _ (by first | omega | (simp only [hNw, hPt]; omega))))) ql.ext
              have exHd3 : Ext Hd Hl := Ext.trans (by (try dsimp only); repeat (first | exact Ext.refl _ | exact Ext.refl _ | apply Ext.new | (refine Ext.put ?_ _ (by first | omega | (simp only [hNw, hPt]; omega))))) ql.ext
              have hll1 : lenOf xl = some n9 := by simpa using ml.len
              refine OkO.move rfl rfl ?_
              refine OkO.extract rfl rfl rfl ?_
              refine OkO.extract rfl rfl rfl ?_
              refine OkO.assign rfl rfl ?_
              refine OkO.assign rfl rfl ?_
              refine OkO.nil ?_
              refine Ok.seq ?_
              refine Ok.region ?_
              refine OkO.load rfl rfl (ldg (n := 6) (by kernel_rfl) (by first | assumption | (simp (disch := first | omega | (simp only [hNw, hPt]; omega)) only [gn0, gn1, gn2, gn3, gn4, gn5, gp0, gno, gpo] <;> first | rfl | assumption | exact gp0 _ _ _ | exact gn0 _ _)) (by first | rfl | assumption)) ?_
              refine OkO.move rfl rfl ?_
              refine OkO.callE rfl rfl rfl rfl rfl (c21V (m + 0) v2 ov (p.dbl k) (rows.map (dblRow p k)) n9 e9 _ (ivD.ext (by (try dsimp only); repeat (first | exact exG3 | exact Ext.refl _ | apply Ext.new | (refine Ext.put ?_ _ (by first | omega | (simp only [hNw, hPt]; omega)))))) (hR2.ext (by (try dsimp only); repeat (first | exact exG3 | exact Ext.refl _ | apply Ext.new | (refine Ext.put ?_ _ (by first | omega | (simp only [hNw, hPt]; omega)))))) (by rw [hpdl]; omega) (by rw [List.length_map]; omega) ht4d hfd (by rw [dbl_poss hk hltf hlo, List.length_map]; exact hne)) ?_ -- "sackung/alarm.Levels"
              rintro _ Hk ⟨xk, rfl, qk, mk⟩
              have n4 := qk.ext.next
              try simp only [hNw, hPt] at n4
              have gg4 : Grow W Hk := Grow.ret (by (try dsimp only); repeat (first | exact gg3 | apply Grow.new | (refine Grow.put ?_ _ (by first | omega | (simp only [hNw, hPt]; omega))))) qk
              have e4 : (Hk.get (W.next)).bind AObj.cs = some (p.c ev) := by rw [qk.ext.get _ (by first | omega | (simp only [hNw, hPt]; omega))]; first | assumption | (rw [gn0]; rfl) | (rw [get_put_eq] <;> rfl) | (simp (disch := first | omega | (simp only [hNw, hPt]; omega)) only [gn0, gn1, gn2, gn3, gn4, gn5, gp0, gno, gpo] <;> first | rfl | assumption | (rw [get_put_eq] <;> rfl))
              have f4 : (Hk.get (Ha.next)).bind AObj.cs = some (p.c v2) := by rw [qk.ext.get _ (by first | omega | (simp only [hNw, hPt]; omega))]; first | assumption | (rw [gn0]; rfl) | (rw [get_put_eq] <;> rfl) | (simp (disch := first | omega | (simp only [hNw, hPt]; omega)) only [gn0, gn1, gn2, gn3, gn4, gn5, gp0, gno, gpo] <;> first | rfl | assumption | (rw [get_put_eq] <;> rfl))
              have exG4 : Ext G Hk := Ext.trans (by (try dsimp only); repeat (first | exact exG3 | exact Ext.refl _ | apply Ext.new | (refine Ext.put ?_ _ (by first | omega | (simp only [hNw, hPt]; omega))))) qk.ext
              have exHc4 : Ext Hc Hk := Ext.trans (by (try dsimp only); repeat (first | exact exHc3 | exact Ext.refl _ | apply Ext.new | (refine Ext.put ?_ _ (by first | omega | (simp only [hNw, hPt]; omega))))) qk.ext
              have exHd4 : Ext Hd Hk := Ext.trans (by (try dsimp only); repeat (first | exact exHd3 | exact Ext.refl _ | apply Ext.new | (refine Ext.put ?_ _ (by first | omega | (simp only [hNw, hPt]; omega))))) qk.ext
              have exHl4 : Ext Hl Hk := Ext.trans (by (try dsimp only); repeat (first | exact Ext.refl _ | exact Ext.refl _ | apply Ext.new | (refine Ext.put ?_ _ (by first | omega | (simp only [hNw, hPt]; omega))))) qk.ext
              have hll2 : lenOf xk = some n9 := by simpa using mk.len
              refine OkO.move rfl rfl ?_
              refine OkO.extract rfl rfl rfl ?_
              refine OkO.extract rfl rfl rfl ?_
              refine OkO.assign rfl rfl ?_
              refine OkO.assign rfl rfl ?_
              refine OkO.nil ?_
              refine Ok.join (fun s => Has 8 [(1, rv), (3, .ptr W.next 0), (7, I (k : Int)), (8, I (h : Int)), (17, xl), (18, I e9), (19, xk)] s.T ∧ s.D = [] ∧ Hk = s.H) ?_ ?_
              · -- to the meeting
                refine Ok.seq ?_
                refine Ok.region ?_
                refine OkO.move rfl rfl ?_
                refine OkO.move rfl rfl ?_
                refine OkO.bin rfl rfl rfl ((bin_neq _ _).trans (congrArg (fun b => some (AV.bool b)) (show _ = false from (by simp)))) ?_
                refine OkO.move rfl rfl ?_
                refine OkO.move rfl rfl ?_
                refine OkO.bin rfl rfl rfl (bin_neq _ _) ?_
                refine OkO.move rfl rfl ?_
                refine OkO.split (d := 161) rfl (fun g12 => ?_) (fun g12 => ?_)
                · -- true g12
                  refine OkO.move rfl rfl ?_
                  refine OkO.bin rfl rfl rfl ((bin_neq _ _).trans (congrArg (fun b => some (AV.bool b)) (show _ = false from (by (rw [decide_eq_false_iff_not]; (rcases hne with h9 | h9); (· exact absurd h9.2.2 (by simpa using g12)); (· rw [h9.2.2]; simp)))))) ?_
                  refine OkO.pick (b := true) rfl rfl (fun _ => rfl) nofun ?_
                  refine OkO.pick (b := false) rfl rfl nofun (fun _ => rfl) ?_
                  refine OkO.move rfl rfl ?_
                  refine OkO.move rfl rfl ?_
                  refine OkO.bin rfl rfl rfl (bin_eql _ _) ?_
                  refine OkO.move rfl rfl ?_
                  refine OkO.split (d := 169) rfl (fun g13 => ?_) (fun g13 => ?_)
                  · -- true g13
                    exfalso
                    have h9 : e9 = 0 := by simpa using g13
                    exact absurd h9 (by simpa using g12)
                  · -- false g13
                    refine OkO.skip rfl ?_
                    refine OkO.skip rfl ?_
                    refine OkO.skip rfl ?_
                    refine OkO.skip rfl ?_
                    refine OkO.skip rfl ?_
                    refine OkO.skip rfl ?_
                    refine OkO.skip rfl ?_
                    refine OkO.skip rfl ?_
                    refine OkO.skip rfl ?_
                    refine OkO.skip rfl ?_
                    refine OkO.skip rfl ?_
                    refine OkO.skip rfl ?_
                    refine OkO.pick (b := false) rfl rfl nofun (fun _ => rfl) ?_
                    refine OkO.pick (b := false) rfl rfl nofun (fun _ => rfl) ?_
                    refine OkO.nil ?_
                    refine Ok.condF rfl ?_
                    refine Ok.skip ?_
                    exact ⟨rfl, Has.of (by kernel_rfl), rfl, rfl⟩
                · -- false g12
                  refine OkO.skip rfl ?_
                  refine OkO.skip rfl ?_
                  refine OkO.pick (b := false) rfl rfl nofun (fun _ => rfl) ?_
                  refine OkO.pick (b := false) rfl rfl nofun (fun _ => rfl) ?_
                  refine OkO.move rfl rfl ?_
                  refine OkO.move rfl rfl ?_
                  refine OkO.bin rfl rfl rfl (bin_eql _ _) ?_
                  refine OkO.move rfl rfl ?_
                  refine OkO.split (d := 169) rfl (fun g14 => ?_) (fun g14 => ?_)
                  · -- true g14
                    refine OkO.move rfl rfl ?_
                    refine OkO.builtin rfl rfl rfl (bln (by kernel_rfl) (by first | assumption | rfl)) ?_
                    refine OkO.move rfl rfl ?_
                    refine OkO.builtin rfl rfl rfl (bln (by kernel_rfl) (by first | assumption | rfl)) ?_
                    refine OkO.bin rfl rfl rfl ((bin_neq _ _).trans (congrArg (fun b => some (AV.bool b)) (show _ = false from (by (rw [decide_eq_false_iff_not]; (rcases hne with h9 | h9); (· omega); (· (have h8 : e9 = 0 := by simpa using g14); omega)))))) ?_
                    refine OkO.move rfl rfl ?_
                    refine OkO.move rfl rfl ?_
                    refine OkO.builtin rfl rfl rfl (bln (by kernel_rfl) (by first | assumption | rfl)) ?_
                    refine OkO.move rfl rfl ?_
                    refine OkO.builtin rfl rfl rfl (bln (by kernel_rfl) (by first | assumption | rfl)) ?_
                    refine OkO.bin rfl rfl rfl ((bin_neq _ _).trans (congrArg (fun b => some (AV.bool b)) (show _ = false from (by (rw [decide_eq_false_iff_not]; (rcases hne with h9 | h9); (· omega); (· (have h8 : e9 = 0 := by simpa using g14); omega)))))) ?_
                    refine OkO.pick (b := false) rfl rfl nofun (fun _ => rfl) ?_
                    refine OkO.pick (b := true) rfl rfl (fun _ => rfl) nofun ?_
                    refine OkO.pick (b := false) rfl rfl nofun (fun _ => rfl) ?_
                    refine OkO.nil ?_
                    refine Ok.condF rfl ?_
                    refine Ok.skip ?_
                    exact ⟨rfl, Has.of (by kernel_rfl), rfl, rfl⟩
                  · -- false g14
                    refine OkO.skip rfl ?_
                    refine OkO.skip rfl ?_
                    refine OkO.skip rfl ?_
                    refine OkO.skip rfl ?_
                    refine OkO.skip rfl ?_
                    refine OkO.skip rfl ?_
                    refine OkO.skip rfl ?_
                    refine OkO.skip rfl ?_
                    refine OkO.skip rfl ?_
                    refine OkO.skip rfl ?_
                    refine OkO.skip rfl ?_
                    refine OkO.skip rfl ?_
                    refine OkO.pick (b := false) rfl rfl nofun (fun _ => rfl) ?_
                    refine OkO.pick (b := false) rfl rfl nofun (fun _ => rfl) ?_
                    refine OkO.nil ?_
                    refine Ok.condF rfl ?_
                    refine Ok.skip ?_
                    exact ⟨rfl, Has.of (by kernel_rfl), rfl, rfl⟩
              · -- behind it
                rintro ⟨T, D, G⟩ ⟨⟨f9_, hT⟩, hD, hGG⟩
                dsimp only at *
                subst hT hD
                subst hGG
                refine Ok.seq ?_
                refine Ok.seq ?_
                refine Ok.region ?_
                refine OkO.move rfl rfl ?_
                refine OkO.assign rfl rfl ?_
                refine OkO.nil ?_
                refine Ok.block ?_
                refine Ok.loop (fun n s => ∃ i : Nat, n = n9 - i ∧ h ≤ i ∧ Has 8 [(1, rv), (3, .ptr W.next 0), (7, I (k : Int)), (17, xl), (18, I e9), (19, xk), (21, I (i : Int))] s.T ∧ s.D = [] ∧ Hk = s.H) (n9 - h) (by unfold loopFuel; omega)
                  ⟨h, rfl, Nat.le_refl _, Has.of (by kernel_rfl), rfl, rfl⟩ ?_
                rintro n ⟨T, D, G⟩ ⟨i, hn10, hi10, ⟨f10_, hT⟩, hD, hg9⟩
                dsimp only at *
                subst hT hD
                skip
                subst hg9
                refine Ok.seq ?_
                refine Ok.seq ?_
                refine Ok.region ?_
                refine OkO.move rfl rfl ?_
                refine OkO.move rfl rfl ?_
                refine OkO.builtin rfl rfl rfl (bln (by kernel_rfl) (by first | assumption | rfl)) ?_
                refine OkO.bin rfl rfl rfl (bin_lss _ _) ?_
                refine OkO.nil ?_
                refine Ok.cond rfl (fun h15 => ?_) (fun h15 => ?_)
                · -- yes h15
                  have hlt10 : i < n9 := by simpa using h15
                  have hp9 : n9 = rows.length ∧ possB p rows rows.length = true := by (rcases hne with h9 | h9); (· exact ⟨h9.2.1, h9.1⟩); (· omega)
                  have hst := dbl_stc hk hltf hlo (h := i) hi10 (by omega) (possB_mono hp9.2 (by omega))
                  obtain ⟨lb, lo, lcs, l1, l2, l3, l4⟩ := (ml.ext (by (try dsimp only); repeat (first | exact exHl4 | exact Ext.refl _ | apply Ext.new | (refine Ext.put ?_ _ (by first | omega | (simp only [hNw, hPt]; omega)))))).at_ i (stc p rows i) (by simp [hlt10])
                  obtain ⟨kb, ko, kcs, k1, k2, k3, k4⟩ := mk.at_ i (stc (p.dbl k) (rows.map (dblRow p k)) i) (by simp [hlt10])
                  rw [hst] at k3
                  refine Ok.skip ?_
                  refine Ok.seq ?_
                  refine Ok.block ?_
                  refine Ok.seq ?_
                  refine Ok.drawn [(0, true, []), (1, true, []), (2, true, []), (3, true, []), (4, true, []), (5, true, []), (6, true, []), (7, true, []), (8, true, [])] (by kernel_rfl) ?_
                  refine OkP.step ?_
                  refine OkO.move rfl rfl ?_
                  refine OkO.nil ⟨rfl, ?_⟩
                  refine OkP.step ?_
                  refine OkO.move rfl rfl ?_
                  refine OkO.nil ⟨rfl, ?_⟩
                  refine OkP.step ?_
                  refine OkO.index (sz := 3) rfl rfl rfl (by kernel_rfl) (by first | assumption | rfl | exact slAt_slice (by omega) | exact slAt_opn (by omega)) ?_ -- index ('Go.Operand.tmp', 191) ('Go.Operand.tmp', 192)
                  refine OkO.nil ⟨rfl, ?_⟩
                  refine OkP.step ?_
                  refine OkO.load rfl rfl (ldg (n := 3) (by kernel_rfl) (by first | assumption | (simp (disch := first | omega | (simp only [hNw, hPt]; omega)) only [gn0, gn1, gn2, gn3, gn4, gn5, gp0, gno, gpo] <;> first | rfl | assumption | exact gp0 _ _ _ | exact gn0 _ _)) (by first | rfl | assumption)) ?_
                  refine OkO.nil ⟨rfl, ?_⟩
                  refine OkP.step ?_
                  refine OkO.move rfl rfl ?_
                  refine OkO.nil ⟨rfl, ?_⟩
                  refine OkP.step ?_
                  refine OkO.move rfl rfl ?_
                  refine OkO.nil ⟨rfl, ?_⟩
                  refine OkP.step ?_
                  refine OkO.index (sz := 3) rfl rfl rfl (by kernel_rfl) (by first | assumption | rfl | exact slAt_slice (by omega) | exact slAt_opn (by omega)) ?_ -- index ('Go.Operand.tmp', 195) ('Go.Operand.tmp', 196)
                  refine OkO.nil ⟨rfl, ?_⟩
                  refine OkP.step ?_
                  refine OkO.load rfl rfl (ldg (n := 3) (by kernel_rfl) (by first | assumption | (simp (disch := first | omega | (simp only [hNw, hPt]; omega)) only [gn0, gn1, gn2, gn3, gn4, gn5, gp0, gno, gpo] <;> first | rfl | assumption | exact gp0 _ _ _ | exact gn0 _ _)) (by first | rfl | assumption)) ?_
                  refine OkO.nil ⟨rfl, ?_⟩
                  refine OkP.step ?_
                  refine OkO.binT rfl rfl rfl ((bin45 _ _ _).trans (congrArg (fun b => some (AV.bool b)) (show _ = false from (by rfl)))) ?_
                  refine OkO.nil ⟨rfl, ?_⟩
                  refine OkP.nil ?_
                  refine Ok.condF rfl ?_
                  refine Ok.skip ?_
                  refine Ok.region ?_
                  refine OkO.move rfl rfl ?_
                  refine OkO.bin rfl rfl rfl (bin_add (by omega) (by omega)) ?_
                  refine OkO.assign rfl rfl ?_
                  refine OkO.nil ?_
                  refine ⟨n9 - (i + 1), by omega, i + 1, rfl, by omega, Has.of (by kernel_rfl), rfl, rfl⟩
                · -- no h15
                  have hge10 : n9 ≤ i := by simpa using h15
                  refine Ok.exit ?_
                  refine Ok.seq ?_
                  refine Ok.region ?_
                  refine OkO.load rfl rfl (ldg (n := 6) (by kernel_rfl) (by first | assumption | (simp (disch := first | omega | (simp only [hNw, hPt]; omega)) only [gn0, gn1, gn2, gn3, gn4, gn5, gp0, gno, gpo] <;> first | rfl | assumption | exact gp0 _ _ _ | exact gn0 _ _)) (by first | rfl | assumption)) ?_
                  refine OkO.callE rfl rfl rfl rfl rfl (c20 (m + 5) ev p _ (hV.ext (hE _ (by (try dsimp only); repeat (first | exact gg4 | apply Grow.new | (refine Grow.put ?_ _ (by first | omega | (simp only [hNw, hPt]; omega))))))) (by omega)) ?_ -- "sackung/sackunglaw04.Post"
                  rintro _ He ⟨xe, rfl, qe, me⟩
                  have n5 := qe.ext.next
                  try simp only [hNw, hPt] at n5
                  have gg5 : Grow W He := Grow.ret (by (try dsimp only); repeat (first | exact gg4 | apply Grow.new | (refine Grow.put ?_ _ (by first | omega | (simp only [hNw, hPt]; omega))))) qe
                  have e5 : (He.get (W.next)).bind AObj.cs = some (p.c ev) := by rw [qe.ext.get _ (by first | omega | (simp only [hNw, hPt]; omega))]; first | assumption | (rw [gn0]; rfl) | (rw [get_put_eq] <;> rfl) | (simp (disch := first | omega | (simp only [hNw, hPt]; omega)) only [gn0, gn1, gn2, gn3, gn4, gn5, gp0, gno, gpo] <;> first | rfl | assumption | (rw [get_put_eq] <;> rfl))
                  have f5 : (He.get (Ha.next)).bind AObj.cs = some (p.c v2) := by rw [qe.ext.get _ (by first | omega | (simp only [hNw, hPt]; omega))]; first | assumption | (rw [gn0]; rfl) | (rw [get_put_eq] <;> rfl) | (simp (disch := first | omega | (simp only [hNw, hPt]; omega)) only [gn0, gn1, gn2, gn3, gn4, gn5, gp0, gno, gpo] <;> first | rfl | assumption | (rw [get_put_eq] <;> rfl))
                  have exG5 : Ext G He := Ext.trans (by (try dsimp only); repeat (first | exact exG4 | exact Ext.refl _ | apply Ext.new | (refine Ext.put ?_ _ (by first | omega | (simp only [hNw, hPt]; omega))))) qe.ext
                  have exHc5 : Ext Hc He := Ext.trans (by (try dsimp only); repeat (first | exact exHc4 | exact Ext.refl _ | apply Ext.new | (refine Ext.put ?_ _ (by first | omega | (simp only [hNw, hPt]; omega))))) qe.ext
                  have exHd5 : Ext Hd He := Ext.trans (by (try dsimp only); repeat (first | exact exHd4 | exact Ext.refl _ | apply Ext.new | (refine Ext.put ?_ _ (by first | omega | (simp only [hNw, hPt]; omega))))) qe.ext
                  have exHl5 : Ext Hl He := Ext.trans (by (try dsimp only); repeat (first | exact exHl4 | exact Ext.refl _ | apply Ext.new | (refine Ext.put ?_ _ (by first | omega | (simp only [hNw, hPt]; omega))))) qe.ext
                  have exHk5 : Ext Hk He := Ext.trans (by (try dsimp only); repeat (first | exact Ext.refl _ | exact Ext.refl _ | apply Ext.new | (refine Ext.put ?_ _ (by first | omega | (simp only [hNw, hPt]; omega))))) qe.ext
                  have ie := me.ints
                  have ple : xe.plain = true := lpl ie.len
                  have oe := me.one
                  refine OkO.move rfl rfl ?_
                  refine OkO.callE rfl rfl rfl rfl rfl (c22 (m + 5) rv rows _ (hRs.ext (hE _ (by (try dsimp only); repeat (first | exact gg5 | apply Grow.new | (refine Grow.put ?_ _ (by first | omega | (simp only [hNw, hPt]; omega))))))) (by omega) ht4) ?_ -- "sackung/sackunglaw04.rows"
                  rintro xz Hz ⟨qz, mz⟩
                  have n6 := qz.ext.next
                  try simp only [hNw, hPt] at n6
                  have gg6 : Grow W Hz := Grow.ret (by (try dsimp only); repeat (first | exact gg5 | apply Grow.new | (refine Grow.put ?_ _ (by first | omega | (simp only [hNw, hPt]; omega))))) qz
                  have e6 : (Hz.get (W.next)).bind AObj.cs = some (p.c ev) := by rw [qz.ext.get _ (by first | omega | (simp only [hNw, hPt]; omega))]; first | assumption | (rw [gn0]; rfl) | (rw [get_put_eq] <;> rfl) | (simp (disch := first | omega | (simp only [hNw, hPt]; omega)) only [gn0, gn1, gn2, gn3, gn4, gn5, gp0, gno, gpo] <;> first | rfl | assumption | (rw [get_put_eq] <;> rfl))
                  have f6 : (Hz.get (Ha.next)).bind AObj.cs = some (p.c v2) := by rw [qz.ext.get _ (by first | omega | (simp only [hNw, hPt]; omega))]; first | assumption | (rw [gn0]; rfl) | (rw [get_put_eq] <;> rfl) | (simp (disch := first | omega | (simp only [hNw, hPt]; omega)) only [gn0, gn1, gn2, gn3, gn4, gn5, gp0, gno, gpo] <;> first | rfl | assumption | (rw [get_put_eq] <;> rfl))
                  have exG6 : Ext G Hz := Ext.trans (by (try dsimp only); repeat (first | exact exG5 | exact Ext.refl _ | apply Ext.new | (refine Ext.put ?_ _ (by first | omega | (simp only [hNw, hPt]; omega))))) qz.ext
                  have exHc6 : Ext Hc Hz := Ext.trans (by (try dsimp only); repeat (first | exact exHc5 | exact Ext.refl _ | apply Ext.new | (refine Ext.put ?_ _ (by first | omega | (simp only [hNw, hPt]; omega))))) qz.ext
                  have exHd6 : Ext Hd Hz := Ext.trans (by (try dsimp only); repeat (first | exact exHd5 | exact Ext.refl _ | apply Ext.new | (refine Ext.put ?_ _ (by first | omega | (simp only [hNw, hPt]; omega))))) qz.ext
                  have exHl6 : Ext Hl Hz := Ext.trans (by (try dsimp only); repeat (first | exact exHl5 | exact Ext.refl _ | apply Ext.new | (refine Ext.put ?_ _ (by first | omega | (simp only [hNw, hPt]; omega))))) qz.ext
                  have exHk6 : Ext Hk Hz := Ext.trans (by (try dsimp only); repeat (first | exact exHk5 | exact Ext.refl _ | apply Ext.new | (refine Ext.put ?_ _ (by first | omega | (simp only [hNw, hPt]; omega))))) qz.ext
                  have exHe6 : Ext He Hz := Ext.trans (by (try dsimp only); repeat (first | exact Ext.refl _ | exact Ext.refl _ | apply Ext.new | (refine Ext.put ?_ _ (by first | omega | (simp only [hNw, hPt]; omega))))) qz.ext
                  have iz := mz.at
                  have plz : xz.plain = true := lpl iz.len
                  refine OkO.callE rfl rfl rfl rfl rfl (c28U (m + 0) xe xz p rows n9 e9 k h _ (ie.ext (by (try dsimp only); repeat (first | exact exHe6 | exact Ext.refl _ | apply Ext.new | (refine Ext.put ?_ _ (by first | omega | (simp only [hNw, hPt]; omega)))))) (iz.ext (by (try dsimp only); repeat (first | exact Ext.refl _ | exact Ext.refl _ | apply Ext.new | (refine Ext.put ?_ _ (by first | omega | (simp only [hNw, hPt]; omega)))))) (by omega) (by omega) ht4 hf hne hk hltf hlo) ?_ -- "sackung/alarm.Failed"
                  rintro _ Hm ⟨xm, L9, rfl, qm, mm, hl9, hL9⟩
                  have n7 := qm.ext.next
                  try simp only [hNw, hPt] at n7
                  have gg7 : Grow W Hm := Grow.ret (by (try dsimp only); repeat (first | exact gg6 | apply Grow.new | (refine Grow.put ?_ _ (by first | omega | (simp only [hNw, hPt]; omega))))) qm
                  have e7 : (Hm.get (W.next)).bind AObj.cs = some (p.c ev) := by rw [qm.ext.get _ (by first | omega | (simp only [hNw, hPt]; omega))]; first | assumption | (rw [gn0]; rfl) | (rw [get_put_eq] <;> rfl) | (simp (disch := first | omega | (simp only [hNw, hPt]; omega)) only [gn0, gn1, gn2, gn3, gn4, gn5, gp0, gno, gpo] <;> first | rfl | assumption | (rw [get_put_eq] <;> rfl))
                  have f7 : (Hm.get (Ha.next)).bind AObj.cs = some (p.c v2) := by rw [qm.ext.get _ (by first | omega | (simp only [hNw, hPt]; omega))]; first | assumption | (rw [gn0]; rfl) | (rw [get_put_eq] <;> rfl) | (simp (disch := first | omega | (simp only [hNw, hPt]; omega)) only [gn0, gn1, gn2, gn3, gn4, gn5, gp0, gno, gpo] <;> first | rfl | assumption | (rw [get_put_eq] <;> rfl))
                  have exG7 : Ext G Hm := Ext.trans (by (try dsimp only); repeat (first | exact exG6 | exact Ext.refl _ | apply Ext.new | (refine Ext.put ?_ _ (by first | omega | (simp only [hNw, hPt]; omega))))) qm.ext
                  have exHc7 : Ext Hc Hm := Ext.trans (by (try dsimp only); repeat (first | exact exHc6 | exact Ext.refl _ | apply Ext.new | (refine Ext.put ?_ _ (by first | omega | (simp only [hNw, hPt]; omega))))) qm.ext
                  have exHd7 : Ext Hd Hm := Ext.trans (by (try dsimp only); repeat (first | exact exHd6 | exact Ext.refl _ | apply Ext.new | (refine Ext.put ?_ _ (by first | omega | (simp only [hNw, hPt]; omega))))) qm.ext
                  have exHl7 : Ext Hl Hm := Ext.trans (by (try dsimp only); repeat (first | exact exHl6 | exact Ext.refl _ | apply Ext.new | (refine Ext.put ?_ _ (by first | omega | (simp only [hNw, hPt]; omega))))) qm.ext
                  have exHk7 : Ext Hk Hm := Ext.trans (by (try dsimp only); repeat (first | exact exHk6 | exact Ext.refl _ | apply Ext.new | (refine Ext.put ?_ _ (by first | omega | (simp only [hNw, hPt]; omega))))) qm.ext
                  have exHe7 : Ext He Hm := Ext.trans (by (try dsimp only); repeat (first | exact exHe6 | exact Ext.refl _ | apply Ext.new | (refine Ext.put ?_ _ (by first | omega | (simp only [hNw, hPt]; omega))))) qm.ext
                  have exHz7 : Ext Hz Hm := Ext.trans (by (try dsimp only); repeat (first | exact Ext.refl _ | exact Ext.refl _ | apply Ext.new | (refine Ext.put ?_ _ (by first | omega | (simp only [hNw, hPt]; omega))))) qm.ext
                  have hlm := mm.len
                  have pxm : xm.plain = true := lpl hlm
                  refine OkO.move rfl rfl ?_
                  refine OkO.extract rfl rfl rfl ?_
                  refine OkO.extract rfl rfl rfl ?_
                  refine OkO.assign rfl rfl ?_
                  refine OkO.assign rfl rfl ?_
                  refine OkO.nil ?_
                  refine Ok.seq ?_
                  refine Ok.region ?_
                  refine OkO.move rfl rfl ?_
                  refine OkO.bin rfl rfl rfl (bin_eql _ _) ?_
                  refine OkO.move rfl rfl ?_
                  refine OkO.split (d := 210) rfl (fun g16 => ?_) (fun g16 => ?_)
                  · -- true g16
                    refine OkO.move rfl rfl ?_
                    refine OkO.bin rfl rfl rfl ((bin_eql _ _).trans (congrArg (fun b => some (AV.bool b)) (show _ = true from (by exact g16)))) ?_
                    refine OkO.pick (b := true) rfl rfl (fun _ => rfl) nofun ?_
                    refine OkO.move rfl rfl ?_
                    refine OkO.move rfl rfl ?_
                    refine OkO.move rfl rfl ?_
                    refine OkO.buildSlice (el := 3) (sz := 1) (z := [.int .i64 0]) rfl (by kernel_rfl) (by decide) rfl rfl ?_
                    refine OkO.callV rfl rfl rfl rfl rfl ((c34 (m + 6) xm _ L9 [(k : Int)] _ (mm.ext (Grow.toNew _ _)) (ints_lit _) (by omega) (by simp)).trans (by rw [hL9 (by simpa using g16), decide_eq_true rfl])) ?_ -- "sackung/sackunglaw04.ints"
                    refine OkO.pick (b := true) rfl rfl (fun _ => rfl) nofun ?_
                    refine OkO.move rfl rfl ?_
                    refine OkO.skip rfl ?_
                    refine OkO.skip rfl ?_
                    refine OkO.skip rfl ?_
                    refine OkO.skip rfl ?_
                    refine OkO.skip rfl ?_
                    refine OkO.skip rfl ?_
                    refine OkO.pick (b := true) rfl rfl (fun _ => rfl) nofun ?_
                    refine OkO.move rfl rfl ?_
                    refine OkO.callV rfl rfl rfl rfl rfl (rfl) ?_ -- "sackung/sackunglaw04.awake"
                    refine OkO.pick (b := true) rfl rfl (fun _ => rfl) nofun ?_
                    refine OkO.assign rfl rfl ?_
                    refine OkO.nil ?_
                    refine Ok.ret ⟨.inr rfl, ?_⟩
                    exact back_flat rfl rfl rfl (by rw [← hW]; exact (by (try dsimp only); repeat (first | exact gg7 | apply Grow.new | (refine Grow.put ?_ _ (by first | omega | (simp only [hNw, hPt]; omega))))))
                  · -- false g16
                    refine OkO.skip rfl ?_
                    refine OkO.skip rfl ?_
                    refine OkO.pick (b := false) rfl rfl nofun (fun _ => rfl) ?_
                    refine OkO.move rfl rfl ?_
                    refine OkO.skip rfl ?_
                    refine OkO.skip rfl ?_
                    refine OkO.skip rfl ?_
                    refine OkO.skip rfl ?_
                    refine OkO.pick (b := false) rfl rfl nofun (fun _ => rfl) ?_
                    refine OkO.move rfl rfl ?_
                    refine OkO.move rfl rfl ?_
                    refine OkO.bin rfl rfl rfl ((bin_eql _ _).trans (congrArg (fun b => some (AV.bool b)) (show _ = true from (by (rw [decide_eq_true_eq]; (rcases hne with h9 | h9); (· exact absurd h9.2.2 (by simpa using g16)); (· exact h9.2.2)))))) ?_
                    refine OkO.move rfl rfl ?_
                    refine OkO.move rfl rfl ?_
                    refine OkO.bin rfl rfl rfl ((bin_eql _ _).trans (congrArg (fun b => some (AV.bool b)) (show _ = true from (by (rw [decide_eq_true_eq]; (rcases hne with h9 | h9); (· exact absurd h9.2.2 (by simpa using g16)); (· exact h9.2.2)))))) ?_
                    refine OkO.pick (b := true) rfl rfl (fun _ => rfl) nofun ?_
                    refine OkO.pick (b := false) rfl rfl nofun (fun _ => rfl) ?_
                    refine OkO.move rfl rfl ?_
                    refine OkO.callV rfl rfl rfl rfl rfl (rfl) ?_ -- "sackung/sackunglaw04.awake"
                    refine OkO.pick (b := true) rfl rfl (fun _ => rfl) nofun ?_
                    refine OkO.assign rfl rfl ?_
                    refine OkO.nil ?_
                    refine Ok.ret ⟨.inr rfl, ?_⟩
                    exact back_flat rfl rfl rfl (by rw [← hW]; exact (by (try dsimp only); repeat (first | exact gg7 | apply Grow.new | (refine Grow.put ?_ _ (by first | omega | (simp only [hNw, hPt]; omega))))))
      · -- no h5
        refine Ok.skip ?_
        refine Ok.region ?_
        refine OkO.move rfl rfl ?_
        refine OkO.bin rfl rfl rfl (bin_add (by omega) (by omega)) ?_
        refine OkO.assign rfl rfl ?_
        refine OkO.nil ?_
        refine ⟨rows.length - (h + 1), by omega, h + 1, rfl, by omega, Has.of (by kernel_rfl), rfl, rfl⟩
  · -- no h1
    have hge0 : h = rows.length := by (have h9 : ¬ h < rows.length := by simpa using h1); omega
    refine Ok.exit ?_
    refine Ok.seq ?_
    refine Ok.seq ?_
    refine Ok.region ?_
    refine OkO.move rfl rfl ?_
    refine OkO.move rfl rfl ?_
    refine OkO.builtin rfl rfl rfl (bln (by kernel_rfl) (by first | assumption | rfl)) ?_
    refine OkO.bin rfl rfl rfl (bin_eql _ _) ?_
    refine OkO.nil ?_
    refine Ok.cond rfl (fun h17 => ?_) (fun h17 => ?_)
    · -- yes h17
      refine Ok.seq ?_
      refine Ok.region ?_
      refine OkO.callV rfl rfl rfl rfl rfl (rfl) ?_ -- "sackung/sackunglaw04.awake"
      refine OkO.assign rfl rfl ?_
      refine OkO.nil ?_
      refine Ok.ret ⟨.inr rfl, ?_⟩
      exact back_flat rfl rfl rfl (by rw [← hW]; exact g6)
    · -- no h17
      exfalso
      have h9 : ¬ (h : Int) = (rows.length : Int) := by simpa using h17
      omega
theorem c11T (m : Nat) (ev rv : AV) (p : Pst) (rows : List (List Int)) (av : Int) (H : Heap) (hV : Ints H ev p.errs) (hRs : LstAt H rv rows) (hav : 0 ≤ av ∧ av ≤ 255) : RR (m + 8) (.fn 11 [.agg (p.c ev), rv, .int .u8 av]) H = some (.bool true, H) := by
  cases hrd : (thinB p rows && decide (faultE p rows = 0)) with
  | false => exact c11W m ev rv p rows av H hV hRs hav hrd
  | true =>
    by_cases hn6 : p.errs.length ≤ 6
    · have hf : faultE p rows = 0 := by
        rw [Bool.and_eq_true, decide_eq_true_eq] at hrd
        exact hrd.2
      obtain ⟨⟨hp1, _⟩, _⟩ := Pst.ok_facts (faultE_facts hf).1
      have h1 := Int.emod_nonneg av (b := (p.errs.length : Int)) (by omega)
      have h2 := Int.emod_lt_of_pos av (b := (p.errs.length : Int)) (by omega)
      have h9 : ∃ (n9 : Nat) (e9 : Int), (possB p rows rows.length = true ∧ n9 = rows.length ∧ e9 = 0) ∨ (possB p rows rows.length = false ∧ n9 = 0 ∧ e9 = 9) := by
        cases hp : possB p rows rows.length with
        | true => exact ⟨rows.length, 0, .inl ⟨rfl, rfl, rfl⟩⟩
        | false => exact ⟨0, 9, .inr ⟨rfl, rfl, rfl⟩⟩
      obtain ⟨n9, e9, hne⟩ := h9
      exact c11Y m ev rv p rows av H hV hRs hav hrd hn6 (av % (p.errs.length : Int)).toNat (by omega) (Int.toNat_of_nonneg h1) n9 e9 hne
    · exact c11V m ev rv p rows av H hV hRs hav hrd (by omega)
end
end Go.Ev

