/-
  Functions of the program, reckoned by the evaluator: what each answers, and that it leaves what came in as it was.
-/
import Derived.Test.YthcjhfddoaccnaaPt27
set_option maxRecDepth 100000
set_option linter.unusedSimpArgs false
set_option linter.unusedVariables false
namespace Go.Ev
open Go Go.Proofs
noncomputable section
theorem DutyM.put {k0 : Nat} {G : Heap} {mb : Nat} {p : Pst} {rows : List (List Int)} (h : DutyM k0 G mb p rows) {n : Nat} (o : AObj) (hn : n < k0) : DutyM k0 (G.put n o) mb p rows := by
  obtain ⟨h1, h2, o, vs, h3, h4, h5, h6⟩ := h
  exact ⟨h1, by simpa using h2, o, vs, by rw [gpo _ _ _ _ (by omega)]; exact h3, h4, h5, fun j x hj => (h6 j x hj).put _ hn⟩
theorem DutyM.new {k0 : Nat} {G : Heap} {mb : Nat} {p : Pst} {rows : List (List Int)} (h : DutyM k0 G mb p rows) (o : AObj) : DutyM k0 (G.new o) mb p rows := h.to (Ext.new (Ext.refl _) _)
theorem c60F (m : Nat) (ev rv : AV) (p : Pst) (rows : List (List Int)) (H : Heap) (hV : Ints H ev p.errs) (hRs : LstAt H rv rows) (hpl : p.errs.length ≤ 100000) (hrl : rows.length ≤ 100000) (hlens9 : ∀ r ∈ rows, r.length ≤ 100000) (hf : faultE p rows ≠ 0) : RR (m + 6) (.fn 60 [.agg (p.c ev), rv]) H = some (.tup [.agg [.nils, I 0, I 0, I 0, I 0, I 0, .nilm], I (faultE p rows)], H) := by
  refine (R_fn _ _ _ _ _).trans ?_
  refine fn_ok Try.func60 rfl rfl (by kernel_rfl) (by kernel_rfl) ?_
  obtain ⟨W, hW⟩ : ∃ W : Heap, W = ⟨H.t, H.next, H.next⟩ := ⟨_, rfl⟩
  have hg : ∀ n, W.get n = H.get n := fun n => by rw [hW]; rfl
  have hN : W.next = H.next := by rw [hW]
  have hE : ∀ G, Grow W G → Ext H G := fun G g => ⟨by rw [← hN]; exact g.next, fun n k => by rw [g.get n (by rw [hN]; exact k), hg]⟩
  have hG : Grow W W := Grow.refl (by rw [hW]; exact Nat.le_refl _)
  rw [← hW]
  have pev : ev.plain = true := lpl hV.len
  have hel := hV.len
  have hrlen := hRs.len
  have ats : ∀ mb, atoms [ev, I p.gain, I p.drop, I p.fall, I p.out, I p.ahead, .map mb] = true := fun mb => by rw [atoms, (len_one hel).2]; rfl
  refine Ok.seq ?_
  refine Ok.region ?_
  refine OkO.box rfl rfl ?_
  refine OkO.alloc (z := [.nils, .int .i64 0, .int .i64 0, .int .i64 0, .int .i64 0, .int .i64 0, .nilm]) rfl (by kernel_rfl) ?_
  refine OkO.assign rfl rfl ?_
  refine OkO.nil ?_
  refine Ok.seq ?_
  refine Ok.seq ?_
  refine Ok.region ?_
  refine OkO.load rfl rfl (ldg (n := 6) (by kernel_rfl) (by first | assumption | (simp (disch := first | omega | (simp only [hNw, hPt]; omega)) only [gn0, gn1, gn2, gn3, gn4, gn5, gp0, gno, gpo] <;> first | rfl | assumption | exact gp0 _ _ _ | exact gn0 _ _)) (by first | rfl | assumption)) ?_
  refine OkO.move rfl rfl ?_
  refine OkO.callV rfl rfl rfl rfl rfl ((c62 (m + 0) ev rv p rows _ (hV.ext (hE _ (by (try dsimp only); repeat (first | exact hG | apply Grow.new | (refine Grow.put ?_ _ (by first | omega | (simp only [hNw, hPt]; omega))))))) (hRs.ext (hE _ (by (try dsimp only); repeat (first | exact hG | apply Grow.new | (refine Grow.put ?_ _ (by first | omega | (simp only [hNw, hPt]; omega))))))) hpl hrl hlens9)) ?_ -- "sackung/alarm.checkReads"
  refine OkO.assign rfl rfl ?_
  refine OkO.nil ?_
  refine Ok.seq ?_
  refine Ok.region ?_
  refine OkO.move rfl rfl ?_
  refine OkO.bin rfl rfl rfl ((bin_neq _ _).trans (congrArg (fun b => some (AV.bool b)) (show _ = true from (by simpa using hf)))) ?_
  refine OkO.nil ?_
  refine Ok.condT rfl ?_
  refine Ok.seq ?_
  refine Ok.region ?_
  refine OkO.build (z := [.nils, .int .i64 0, .int .i64 0, .int .i64 0, .int .i64 0, .int .i64 0, .nilm]) (pl := [(0, 6), (6, 1)]) rfl (by kernel_rfl) rfl rfl ?_
  refine OkO.move rfl rfl ?_
  refine OkO.store rfl rfl rfl (sAc (n := 7) (ag := true) (by kernel_rfl) (by first | assumption | (simp (disch := first | omega | (simp only [hNw, hPt]; omega)) only [gn0, gn1, gn2, gn3, gn4, gn5, gp0, gno, gpo] <;> first | rfl | assumption | exact gp0 _ _ _ | exact gn0 _ _)) rfl (by first | rfl | assumption) (by first | rfl | exact spl_set _ _ _ (by first | assumption | omega | (simp; omega)))) ?_
  refine OkO.assign rfl rfl ?_
  refine OkO.nil ?_
  refine Ok.ret ⟨.inr rfl, ?_⟩
  exact back_flat (resV_cell rfl (ldg (n := 7) (by kernel_rfl) (by first | assumption | (simp (disch := first | omega | (simp only [hNw, hPt]; omega)) only [gn0, gn1, gn2, gn3, gn4, gn5, gp0, gno, gpo] <;> first | rfl | assumption)) (by first | rfl | assumption)) (resV_tmp rfl resV_nil)) rfl rfl (by rw [← hW]; exact (by (try dsimp only); repeat (first | exact hG | apply Grow.new | (refine Grow.put ?_ _ (by first | omega | (simp only [hNw, hPt]; omega))))))
theorem c60N (m : Nat) (ev rv : AV) (p : Pst) (rows : List (List Int)) (H : Heap) (hV : Ints H ev p.errs) (hRs : LstAt H rv rows) (hpl : p.errs.length ≤ 100000) (hrl : rows.length ≤ 100000) (hlens9 : ∀ r ∈ rows, r.length ≤ 100000) (hf : faultE p rows = 0) (hpossF : possB p rows rows.length = false) : RR (m + 6) (.fn 60 [.agg (p.c ev), rv]) H = some (.tup [.agg [.nils, I 0, I 0, I 0, I 0, I 0, .nilm], I 9], H) := by
  refine (R_fn _ _ _ _ _).trans ?_
  refine fn_ok Try.func60 rfl rfl (by kernel_rfl) (by kernel_rfl) ?_
  obtain ⟨W, hW⟩ : ∃ W : Heap, W = ⟨H.t, H.next, H.next⟩ := ⟨_, rfl⟩
  have hg : ∀ n, W.get n = H.get n := fun n => by rw [hW]; rfl
  have hN : W.next = H.next := by rw [hW]
  have hE : ∀ G, Grow W G → Ext H G := fun G g => ⟨by rw [← hN]; exact g.next, fun n k => by rw [g.get n (by rw [hN]; exact k), hg]⟩
  have hG : Grow W W := Grow.refl (by rw [hW]; exact Nat.le_refl _)
  rw [← hW]
  have pev : ev.plain = true := lpl hV.len
  have hel := hV.len
  have hrlen := hRs.len
  have ats : ∀ mb, atoms [ev, I p.gain, I p.drop, I p.fall, I p.out, I p.ahead, .map mb] = true := fun mb => by rw [atoms, (len_one hel).2]; rfl
  obtain ⟨hok, hr60, hlens, hrbd⟩ := faultE_facts hf
  obtain ⟨⟨hp1, hp2⟩, hpe, hpg, hpd, hpf, hpo1, hpo2⟩ := Pst.ok_facts hok
  refine Ok.seq ?_
  refine Ok.region ?_
  refine OkO.box rfl rfl ?_
  refine OkO.alloc (z := [.nils, .int .i64 0, .int .i64 0, .int .i64 0, .int .i64 0, .int .i64 0, .nilm]) rfl (by kernel_rfl) ?_
  refine OkO.assign rfl rfl ?_
  refine OkO.nil ?_
  refine Ok.seq ?_
  refine Ok.seq ?_
  refine Ok.region ?_
  refine OkO.load rfl rfl (ldg (n := 6) (by kernel_rfl) (by first | assumption | (simp (disch := first | omega | (simp only [hNw, hPt]; omega)) only [gn0, gn1, gn2, gn3, gn4, gn5, gp0, gno, gpo] <;> first | rfl | assumption | exact gp0 _ _ _ | exact gn0 _ _)) (by first | rfl | assumption)) ?_
  refine OkO.move rfl rfl ?_
  refine OkO.callV rfl rfl rfl rfl rfl ((c62 (m + 0) ev rv p rows _ (hV.ext (hE _ (by (try dsimp only); repeat (first | exact hG | apply Grow.new | (refine Grow.put ?_ _ (by first | omega | (simp only [hNw, hPt]; omega))))))) (hRs.ext (hE _ (by (try dsimp only); repeat (first | exact hG | apply Grow.new | (refine Grow.put ?_ _ (by first | omega | (simp only [hNw, hPt]; omega))))))) hpl hrl hlens9).trans (by rw [hf])) ?_ -- "sackung/alarm.checkReads"
  refine OkO.assign rfl rfl ?_
  refine OkO.nil ?_
  refine Ok.seq ?_
  refine Ok.region ?_
  refine OkO.move rfl rfl ?_
  refine OkO.bin rfl rfl rfl ((bin_neq _ _).trans (congrArg (fun b => some (AV.bool b)) (show _ = false from (by first | rfl | (simp; done) | (simp; omega) | (simp_all; done))))) ?_
  refine OkO.nil ?_
  refine Ok.condF rfl ?_
  refine Ok.skip ?_
  refine Ok.seq ?_
  refine Ok.region ?_
  refine OkO.load rfl rfl (ldg (n := 6) (by kernel_rfl) (by first | assumption | (simp (disch := first | omega | (simp only [hNw, hPt]; omega)) only [gn0, gn1, gn2, gn3, gn4, gn5, gp0, gno, gpo] <;> first | rfl | assumption | exact gp0 _ _ _ | exact gn0 _ _)) (by first | rfl | assumption)) ?_
  refine OkO.move rfl rfl ?_
  refine OkO.callE rfl rfl rfl rfl rfl (c63 (m + 0) ev rv p rows _ (hV.ext (hE _ (by (try dsimp only); repeat (first | exact hG | apply Grow.new | (refine Grow.put ?_ _ (by first | omega | (simp only [hNw, hPt]; omega))))))) (hRs.ext (hE _ (by (try dsimp only); repeat (first | exact hG | apply Grow.new | (refine Grow.put ?_ _ (by first | omega | (simp only [hNw, hPt]; omega))))))) ⟨hpg, hpd⟩ hpe (by omega) hlens hrbd (by omega)) ?_ -- "(sackung/alarm.Post).onDuty"
  rintro _ H63 ⟨mb, rfl, q63, dm63⟩
  have n1 := q63.ext.next
  try simp only [hNw, hPt] at n1
  have gg1 : Grow W H63 := Grow.ret (by (try dsimp only); repeat (first | exact hG | apply Grow.new | (refine Grow.put ?_ _ (by first | omega | (simp only [hNw, hPt]; omega))))) q63
  have o1 : H63.get (W.next + 1) = some (.cells [.nils, I 0, I 0, I 0, I 0, I 0, .nilm] 114) := by rw [q63.ext.get _ (by first | omega | (simp only [hNw, hPt]; omega))]; first | assumption | exact gn0 _ _ | (simp (disch := first | omega | (simp only [hNw, hPt]; omega)) only [gn0, gn1, gn2, gn3, gn4, gn5, gp0, gno, gpo] <;> first | rfl | assumption | exact gp0 _ _ _ | exact gn0 _ _)
  have dmh := dm63.2.1
  refine OkO.alloc (z := [.nils, .int .i64 0, .int .i64 0, .int .i64 0, .int .i64 0, .int .i64 0, .nilm]) rfl (by kernel_rfl) ?_
  refine OkO.store rfl rfl rfl (sAc (n := 7) (ag := true) (by kernel_rfl) (by first | assumption | (simp (disch := first | omega | (simp only [hNw, hPt]; omega)) only [gn0, gn1, gn2, gn3, gn4, gn5, gp0, gno, gpo] <;> first | rfl | assumption | exact gp0 _ _ _ | exact gn0 _ _)) rfl (by first | rfl | assumption | exact ats _) (by first | rfl | exact spl_set _ _ _ (by first | assumption | omega | (simp; omega)))) ?_
  refine OkO.nil ?_
  refine Ok.seq ?_
  refine Ok.seq ?_
  refine Ok.region ?_
  refine OkO.load rfl rfl (ldg (n := 7) (by kernel_rfl) (by first | assumption | (simp (disch := first | omega | (simp only [hNw, hPt]; omega)) only [gn0, gn1, gn2, gn3, gn4, gn5, gp0, gno, gpo] <;> first | rfl | assumption | exact gp0 _ _ _ | exact gn0 _ _)) (by first | rfl | assumption)) ?_
  refine OkO.move rfl rfl ?_
  refine OkO.builtin rfl rfl rfl (bln (by kernel_rfl) (by first | assumption | rfl)) ?_
  refine OkO.callV rfl rfl rfl rfl rfl ((c64 (m + 2) ev p mb rows.length rows _ ((dm63.to (by repeat (first | exact Ext.refl _ | (refine Ext.put ?_ _ (by first | omega | (simp only [hNw, hPt]; omega))) | apply Ext.new))).low (Nat.zero_le _)).2.2 (by simp only [hNw, hPt]; omega) hel (by omega)).trans (by rw [hpossF])) ?_ -- "(sackung/alarm.duty).possible"
  refine OkO.un rfl rfl rfl ?_
  refine OkO.nil ?_
  refine Ok.condT rfl ?_
  refine Ok.seq ?_
  refine Ok.region ?_
  refine OkO.build (z := [.nils, .int .i64 0, .int .i64 0, .int .i64 0, .int .i64 0, .int .i64 0, .nilm]) (pl := [(0, 6), (6, 1)]) rfl (by kernel_rfl) rfl rfl ?_
  refine OkO.store rfl rfl rfl (sAc (n := 7) (ag := true) (by kernel_rfl) (by first | assumption | (simp (disch := first | omega | (simp only [hNw, hPt]; omega)) only [gn0, gn1, gn2, gn3, gn4, gn5, gp0, gno, gpo] <;> first | rfl | assumption | exact gp0 _ _ _ | exact gn0 _ _)) rfl (by first | rfl | assumption | exact ats _) (by first | rfl | exact spl_set _ _ _ (by first | assumption | omega | (simp; omega)))) ?_
  refine OkO.assign rfl rfl ?_
  refine OkO.nil ?_
  refine Ok.ret ⟨.inr rfl, ?_⟩
  exact back_flat (resV_cell rfl (ldg (n := 7) (by kernel_rfl) (by first | assumption | (simp (disch := first | omega | (simp only [hNw, hPt]; omega)) only [gn0, gn1, gn2, gn3, gn4, gn5, gp0, gno, gpo] <;> first | rfl | assumption)) (by first | rfl | assumption)) (resV_tmp rfl resV_nil)) rfl rfl (by rw [← hW]; exact (by (try dsimp only); repeat (first | exact gg1 | apply Grow.new | (refine Grow.put ?_ _ (by first | omega | (simp only [hNw, hPt]; omega))))))
theorem c60Y (m : Nat) (ev rv : AV) (p : Pst) (rows : List (List Int)) (H : Heap) (hV : Ints H ev p.errs) (hRs : LstAt H rv rows) (hpl : p.errs.length ≤ 100000) (hrl : rows.length ≤ 100000) (hlens9 : ∀ r ∈ rows, r.length ≤ 100000) (hf : faultE p rows = 0) (hpossT : possB p rows rows.length = true) : ∃ v H', RR (m + 6) (.fn 60 [.agg (p.c ev), rv]) H = some (v, H') ∧ ∃ mb, v = .tup [.agg (p.d ev mb), I 0] ∧ Ret H H' ∧ DutyM H.next H' mb p rows := by
  show ∃ v H', evFn Try.prog (RR (m + 5)) 60 [.agg (p.c ev), rv] H = some (v, H') ∧ ∃ mb, v = .tup [.agg (p.d ev mb), I 0] ∧ Ret H H' ∧ DutyM H.next H' mb p rows
  refine fn_okE Try.func60 rfl rfl (by kernel_rfl) (by kernel_rfl) ?_
  obtain ⟨W, hW⟩ : ∃ W : Heap, W = ⟨H.t, H.next, H.next⟩ := ⟨_, rfl⟩
  have hg : ∀ n, W.get n = H.get n := fun n => by rw [hW]; rfl
  have hN : W.next = H.next := by rw [hW]
  have hE : ∀ G, Grow W G → Ext H G := fun G g => ⟨by rw [← hN]; exact g.next, fun n k => by rw [g.get n (by rw [hN]; exact k), hg]⟩
  have hG : Grow W W := Grow.refl (by rw [hW]; exact Nat.le_refl _)
  rw [← hW]
  have pev : ev.plain = true := lpl hV.len
  have hel := hV.len
  have hrlen := hRs.len
  have ats : ∀ mb, atoms [ev, I p.gain, I p.drop, I p.fall, I p.out, I p.ahead, .map mb] = true := fun mb => by rw [atoms, (len_one hel).2]; rfl
  obtain ⟨hok, hr60, hlens, hrbd⟩ := faultE_facts hf
  obtain ⟨⟨hp1, hp2⟩, hpe, hpg, hpd, hpf, hpo1, hpo2⟩ := Pst.ok_facts hok
  refine Ok.seq ?_
  refine Ok.region ?_
  refine OkO.box rfl rfl ?_
  refine OkO.alloc (z := [.nils, .int .i64 0, .int .i64 0, .int .i64 0, .int .i64 0, .int .i64 0, .nilm]) rfl (by kernel_rfl) ?_
  refine OkO.assign rfl rfl ?_
  refine OkO.nil ?_
  refine Ok.seq ?_
  refine Ok.seq ?_
  refine Ok.region ?_
  refine OkO.load rfl rfl (ldg (n := 6) (by kernel_rfl) (by first | assumption | (simp (disch := first | omega | (simp only [hNw, hPt]; omega)) only [gn0, gn1, gn2, gn3, gn4, gn5, gp0, gno, gpo] <;> first | rfl | assumption | exact gp0 _ _ _ | exact gn0 _ _)) (by first | rfl | assumption)) ?_
  refine OkO.move rfl rfl ?_
  refine OkO.callV rfl rfl rfl rfl rfl ((c62 (m + 0) ev rv p rows _ (hV.ext (hE _ (by (try dsimp only); repeat (first | exact hG | apply Grow.new | (refine Grow.put ?_ _ (by first | omega | (simp only [hNw, hPt]; omega))))))) (hRs.ext (hE _ (by (try dsimp only); repeat (first | exact hG | apply Grow.new | (refine Grow.put ?_ _ (by first | omega | (simp only [hNw, hPt]; omega))))))) hpl hrl hlens9).trans (by rw [hf])) ?_ -- "sackung/alarm.checkReads"
  refine OkO.assign rfl rfl ?_
  refine OkO.nil ?_
  refine Ok.seq ?_
  refine Ok.region ?_
  refine OkO.move rfl rfl ?_
  refine OkO.bin rfl rfl rfl ((bin_neq _ _).trans (congrArg (fun b => some (AV.bool b)) (show _ = false from (by first | rfl | (simp; done) | (simp; omega) | (simp_all; done))))) ?_
  refine OkO.nil ?_
  refine Ok.condF rfl ?_
  refine Ok.skip ?_
  refine Ok.seq ?_
  refine Ok.region ?_
  refine OkO.load rfl rfl (ldg (n := 6) (by kernel_rfl) (by first | assumption | (simp (disch := first | omega | (simp only [hNw, hPt]; omega)) only [gn0, gn1, gn2, gn3, gn4, gn5, gp0, gno, gpo] <;> first | rfl | assumption | exact gp0 _ _ _ | exact gn0 _ _)) (by first | rfl | assumption)) ?_
  refine OkO.move rfl rfl ?_
  refine OkO.callE rfl rfl rfl rfl rfl (c63 (m + 0) ev rv p rows _ (hV.ext (hE _ (by (try dsimp only); repeat (first | exact hG | apply Grow.new | (refine Grow.put ?_ _ (by first | omega | (simp only [hNw, hPt]; omega))))))) (hRs.ext (hE _ (by (try dsimp only); repeat (first | exact hG | apply Grow.new | (refine Grow.put ?_ _ (by first | omega | (simp only [hNw, hPt]; omega))))))) ⟨hpg, hpd⟩ hpe (by omega) hlens hrbd (by omega)) ?_ -- "(sackung/alarm.Post).onDuty"
  rintro _ H63 ⟨mb, rfl, q63, dm63⟩
  have n1 := q63.ext.next
  try simp only [hNw, hPt] at n1
  have gg1 : Grow W H63 := Grow.ret (by (try dsimp only); repeat (first | exact hG | apply Grow.new | (refine Grow.put ?_ _ (by first | omega | (simp only [hNw, hPt]; omega))))) q63
  have o1 : H63.get (W.next + 1) = some (.cells [.nils, I 0, I 0, I 0, I 0, I 0, .nilm] 114) := by rw [q63.ext.get _ (by first | omega | (simp only [hNw, hPt]; omega))]; first | assumption | exact gn0 _ _ | (simp (disch := first | omega | (simp only [hNw, hPt]; omega)) only [gn0, gn1, gn2, gn3, gn4, gn5, gp0, gno, gpo] <;> first | rfl | assumption | exact gp0 _ _ _ | exact gn0 _ _)
  have dmh := dm63.2.1
  refine OkO.alloc (z := [.nils, .int .i64 0, .int .i64 0, .int .i64 0, .int .i64 0, .int .i64 0, .nilm]) rfl (by kernel_rfl) ?_
  refine OkO.store rfl rfl rfl (sAc (n := 7) (ag := true) (by kernel_rfl) (by first | assumption | (simp (disch := first | omega | (simp only [hNw, hPt]; omega)) only [gn0, gn1, gn2, gn3, gn4, gn5, gp0, gno, gpo] <;> first | rfl | assumption | exact gp0 _ _ _ | exact gn0 _ _)) rfl (by first | rfl | assumption | exact ats _) (by first | rfl | exact spl_set _ _ _ (by first | assumption | omega | (simp; omega)))) ?_
  refine OkO.nil ?_
  refine Ok.seq ?_
  refine Ok.seq ?_
  refine Ok.region ?_
  refine OkO.load rfl rfl (ldg (n := 7) (by kernel_rfl) (by first | assumption | (simp (disch := first | omega | (simp only [hNw, hPt]; omega)) only [gn0, gn1, gn2, gn3, gn4, gn5, gp0, gno, gpo] <;> first | rfl | assumption | exact gp0 _ _ _ | exact gn0 _ _)) (by first | rfl | assumption)) ?_
  refine OkO.move rfl rfl ?_
  refine OkO.builtin rfl rfl rfl (bln (by kernel_rfl) (by first | assumption | rfl)) ?_
  refine OkO.callV rfl rfl rfl rfl rfl ((c64 (m + 2) ev p mb rows.length rows _ ((dm63.to (by repeat (first | exact Ext.refl _ | (refine Ext.put ?_ _ (by first | omega | (simp only [hNw, hPt]; omega))) | apply Ext.new))).low (Nat.zero_le _)).2.2 (by simp only [hNw, hPt]; omega) hel (by omega)).trans (by rw [hpossT])) ?_ -- "(sackung/alarm.duty).possible"
  refine OkO.un rfl rfl rfl ?_
  refine OkO.nil ?_
  refine Ok.condF rfl ?_
  refine Ok.skip ?_
  refine Ok.seq ?_
  refine Ok.region ?_
  refine OkO.load rfl rfl (ldg (n := 7) (by kernel_rfl) (by first | assumption | (simp (disch := first | omega | (simp only [hNw, hPt]; omega)) only [gn0, gn1, gn2, gn3, gn4, gn5, gp0, gno, gpo] <;> first | rfl | assumption | exact gp0 _ _ _ | exact gn0 _ _)) (by first | rfl | assumption)) ?_
  refine OkO.store rfl rfl rfl (sAc (n := 7) (ag := true) (by kernel_rfl) (by first | assumption | (simp (disch := first | omega | (simp only [hNw, hPt]; omega)) only [gn0, gn1, gn2, gn3, gn4, gn5, gp0, gno, gpo] <;> first | rfl | assumption | exact gp0 _ _ _ | exact gn0 _ _)) rfl (by first | rfl | assumption | exact ats _) (by first | rfl | exact spl_set _ _ _ (by first | assumption | omega | (simp; omega)))) ?_
  refine OkO.assign rfl rfl ?_
  refine OkO.nil ?_
  refine Ok.ret ⟨.inr rfl, ?_⟩
  refine back_newQ (resV_cell rfl (ldg (n := 7) (by kernel_rfl) (by first | assumption | (simp (disch := first | omega | (simp only [hNw, hPt]; omega)) only [gn0, gn1, gn2, gn3, gn4, gn5, gp0, gno, gpo] <;> first | rfl | assumption)) (by first | rfl | assumption)) (resV_tmp rfl resV_nil)) rfl (by rw [← hW]; exact (by (try dsimp only); repeat (first | exact gg1 | apply Grow.new | (refine Grow.put ?_ _ (by first | omega | (simp only [hNw, hPt]; omega)))))) (by show AV.flats [_, _] = false; unfold AV.flats; rw [duty_flat]; try rfl) (fun H9 p1 p2 p3 => ⟨mb, rfl, p1, ?_⟩)
  try simp only [hNw] at dm63
  have e9 := dm63.to (G' := ((H63.new (.cells [.nils, I 0, I 0, I 0, I 0, I 0, .nilm] 114)).put H63.next (.cells (p.d ev mb) 114))) (by repeat (first | exact Ext.refl _ | (refine Ext.put ?_ _ (by first | omega | (simp only [hNw, hPt]; omega))) | apply Ext.new))
  exact ((e9.put (n := W.next + 1) (.cells (p.d ev mb) 114) (by omega)).low (by omega)).to ⟨Nat.le_of_eq p3.symm, fun n _ => p2 n⟩
end
end Go.Ev

set_option maxRecDepth 100000
set_option linter.unusedSimpArgs false
set_option linter.unusedVariables false
namespace Go.Ev
open Go Go.Proofs
noncomputable section
def stc (p : Pst) (rows : List (List Int)) (h : Nat) : List AV := [I (mnL (spdL p rows h (p.errs.length + 1))), I (mxL (spdL p rows h (p.errs.length + 1))), .int .u8 (levelI p (mxL (spdL p rows h (p.errs.length + 1))))]
def stCells (p : Pst) (rows : List (List Int)) (n : Nat) : List AV := ((List.range n).map (stc p rows)).flatten
theorem stCells_succ (p : Pst) (rows : List (List Int)) (n : Nat) : stCells p rows (n + 1) = stCells p rows n ++ stc p rows n := by simp [stCells, List.range_succ]
theorem stCells_len (p : Pst) (rows : List (List Int)) : ∀ n, (stCells p rows n).length = n * 3
  | 0 => rfl
  | n + 1 => by rw [stCells_succ, List.length_append, stCells_len p rows n]; show n * 3 + 3 = _; omega
theorem Mine.states {k0 : Nat} {G : Heap} {v : AV} {e : TypeId} {p : Pst} {rows : List (List Int)} {n : Nat} (h : Mine k0 G v e 3 (stCells p rows n)) : Row G v 3 ((List.range n).map (stc p rows)) := Mine.row (e := e) h (fun x hx => by obtain ⟨y, _, rfl⟩ := List.mem_map.1 hx; rfl) (by omega)
theorem spdL_pos {p : Pst} {rows : List (List Int)} {h : Nat} : ∀ {i n : Nat}, i < n → h + 1 ≤ lenM p rows i → 1 ≤ (spdL p rows h n).length
  | i, 0, hi, _ => by omega
  | i, n + 1, hi, hr => by
    by_cases e : i = n
    · subst e
      have hh : h < (mayL p ((i : Int) - 1) rows).length := hr
      rw [spdL_yes hr hh]; simp
    · have := spdL_pos (i := i) (n := n) (by omega) hr
      show 1 ≤ (spdL p rows h n ++ _).length
      rw [List.length_append]; omega
theorem possB_iff {p : Pst} {rows : List (List Int)} {r : Nat} : possB p rows r = true ↔ ∃ i, i ≤ p.errs.length ∧ r ≤ lenM p rows i := by
  unfold possB
  rw [List.any_eq_true]
  constructor
  · rintro ⟨i, hi, h⟩
    rw [decide_eq_true_eq] at h
    exact ⟨i, by have := List.mem_range.1 hi; omega, h⟩
  · rintro ⟨i, hi, h⟩
    exact ⟨i, List.mem_range.2 (by omega), by rw [decide_eq_true_eq]; exact h⟩
theorem spdL_all {p : Pst} {rows : List (List Int)} {h r : Nat} (hp : possB p rows r = true) (hh : h < r) : 1 ≤ (spdL p rows h (p.errs.length + 1)).length := by
  obtain ⟨i, hi, h1⟩ := possB_iff.1 hp
  exact spdL_pos (i := i) (by omega) (by omega)
theorem c21F (m : Nat) (ev rv : AV) (p : Pst) (rows : List (List Int)) (H : Heap) (hV : Ints H ev p.errs) (hRs : LstAt H rv rows) (hpl : p.errs.length ≤ 100000) (hrl : rows.length ≤ 100000) (hlens9 : ∀ r ∈ rows, r.length ≤ 100000) (hf : faultE p rows ≠ 0) : RR (m + 7) (.fn 21 [.agg (p.c ev), rv]) H = some (.tup [.nils, I (faultE p rows)], H) := by
  refine (R_fn _ _ _ _ _).trans ?_
  refine fn_ok Try.func21 rfl rfl (by kernel_rfl) (by kernel_rfl) ?_
  obtain ⟨W, hW⟩ : ∃ W : Heap, W = ⟨H.t, H.next, H.next⟩ := ⟨_, rfl⟩
  have hg : ∀ n, W.get n = H.get n := fun n => by rw [hW]; rfl
  have hN : W.next = H.next := by rw [hW]
  have hE : ∀ G, Grow W G → Ext H G := fun G g => ⟨by rw [← hN]; exact g.next, fun n k => by rw [g.get n (by rw [hN]; exact k), hg]⟩
  have hG : Grow W W := Grow.refl (by rw [hW]; exact Nat.le_refl _)
  rw [← hW]
  have pev : ev.plain = true := lpl hV.len
  have hel := hV.len
  have hrlen := hRs.len
  have ats : ∀ mb, atoms [ev, I p.gain, I p.drop, I p.fall, I p.out, I p.ahead, .map mb] = true := fun mb => by rw [atoms, (len_one hel).2]; rfl
  refine Ok.seq ?_
  refine Ok.region ?_
  refine OkO.box rfl rfl ?_
  refine OkO.assign rfl rfl ?_
  refine OkO.assign rfl rfl ?_
  refine OkO.nil ?_
  refine Ok.seq ?_
  refine Ok.region ?_
  refine OkO.load rfl rfl (ldg (n := 6) (by kernel_rfl) (by first | assumption | (simp (disch := first | omega | (simp only [hNw, hPt]; omega)) only [gn0, gn1, gn2, gn3, gn4, gn5, gp0, gno, gpo] <;> first | rfl | assumption | exact gp0 _ _ _ | exact gn0 _ _)) (by first | rfl | assumption)) ?_
  refine OkO.move rfl rfl ?_
  refine OkO.callV rfl rfl rfl rfl rfl (c60F (m + 0) ev rv p rows _ (hV.ext (hE _ (by (try dsimp only); repeat (first | exact hG | apply Grow.new | (refine Grow.put ?_ _ (by first | omega | (simp only [hNw, hPt]; omega))))))) (hRs.ext (hE _ (by (try dsimp only); repeat (first | exact hG | apply Grow.new | (refine Grow.put ?_ _ (by first | omega | (simp only [hNw, hPt]; omega))))))) hpl hrl hlens9 hf) ?_ -- "sackung/alarm.allPossible"
  refine OkO.move rfl rfl ?_
  refine OkO.extract rfl rfl rfl ?_
  refine OkO.extract rfl rfl rfl ?_
  refine OkO.alloc (z := [.nils, .int .i64 0, .int .i64 0, .int .i64 0, .int .i64 0, .int .i64 0, .nilm]) rfl (by kernel_rfl) ?_
  refine OkO.store rfl rfl rfl (sAc (n := 7) (ag := true) (by kernel_rfl) (by first | assumption | (simp (disch := first | omega | (simp only [hNw, hPt]; omega)) only [gn0, gn1, gn2, gn3, gn4, gn5, gp0, gno, gpo] <;> first | rfl | assumption | exact gp0 _ _ _ | exact gn0 _ _)) rfl (by first | rfl | assumption) (by first | rfl | exact spl_set _ _ _ (by first | assumption | omega | (simp; omega)))) ?_
  refine OkO.assign rfl rfl ?_
  refine OkO.nil ?_
  refine Ok.seq ?_
  refine Ok.seq ?_
  refine Ok.region ?_
  refine OkO.move rfl rfl ?_
  refine OkO.bin rfl rfl rfl ((bin_neq _ _).trans (congrArg (fun b => some (AV.bool b)) (show _ = true from (by simpa using hf)))) ?_
  refine OkO.nil ?_
  refine Ok.condT rfl ?_
  refine Ok.seq ?_
  refine Ok.region ?_
  refine OkO.move rfl rfl ?_
  refine OkO.assign rfl rfl ?_
  refine OkO.assign rfl rfl ?_
  refine OkO.nil ?_
  refine Ok.ret ⟨.inr rfl, ?_⟩
  exact back_flat (resV_tmp rfl (resV_tmp rfl resV_nil)) rfl rfl (by rw [← hW]; exact (by (try dsimp only); repeat (first | exact hG | apply Grow.new | (refine Grow.put ?_ _ (by first | omega | (simp only [hNw, hPt]; omega))))))
theorem c21N (m : Nat) (ev rv : AV) (p : Pst) (rows : List (List Int)) (H : Heap) (hV : Ints H ev p.errs) (hRs : LstAt H rv rows) (hpl : p.errs.length ≤ 100000) (hrl : rows.length ≤ 100000) (hlens9 : ∀ r ∈ rows, r.length ≤ 100000) (hf : faultE p rows = 0) (hpossF : possB p rows rows.length = false) : RR (m + 7) (.fn 21 [.agg (p.c ev), rv]) H = some (.tup [.nils, I 9], H) := by
  refine (R_fn _ _ _ _ _).trans ?_
  refine fn_ok Try.func21 rfl rfl (by kernel_rfl) (by kernel_rfl) ?_
  obtain ⟨W, hW⟩ : ∃ W : Heap, W = ⟨H.t, H.next, H.next⟩ := ⟨_, rfl⟩
  have hg : ∀ n, W.get n = H.get n := fun n => by rw [hW]; rfl
  have hN : W.next = H.next := by rw [hW]
  have hE : ∀ G, Grow W G → Ext H G := fun G g => ⟨by rw [← hN]; exact g.next, fun n k => by rw [g.get n (by rw [hN]; exact k), hg]⟩
  have hG : Grow W W := Grow.refl (by rw [hW]; exact Nat.le_refl _)
  rw [← hW]
  have pev : ev.plain = true := lpl hV.len
  have hel := hV.len
  have hrlen := hRs.len
  have ats : ∀ mb, atoms [ev, I p.gain, I p.drop, I p.fall, I p.out, I p.ahead, .map mb] = true := fun mb => by rw [atoms, (len_one hel).2]; rfl
  refine Ok.seq ?_
  refine Ok.region ?_
  refine OkO.box rfl rfl ?_
  refine OkO.assign rfl rfl ?_
  refine OkO.assign rfl rfl ?_
  refine OkO.nil ?_
  refine Ok.seq ?_
  refine Ok.region ?_
  refine OkO.load rfl rfl (ldg (n := 6) (by kernel_rfl) (by first | assumption | (simp (disch := first | omega | (simp only [hNw, hPt]; omega)) only [gn0, gn1, gn2, gn3, gn4, gn5, gp0, gno, gpo] <;> first | rfl | assumption | exact gp0 _ _ _ | exact gn0 _ _)) (by first | rfl | assumption)) ?_
  refine OkO.move rfl rfl ?_
  refine OkO.callV rfl rfl rfl rfl rfl (c60N (m + 0) ev rv p rows _ (hV.ext (hE _ (by (try dsimp only); repeat (first | exact hG | apply Grow.new | (refine Grow.put ?_ _ (by first | omega | (simp only [hNw, hPt]; omega))))))) (hRs.ext (hE _ (by (try dsimp only); repeat (first | exact hG | apply Grow.new | (refine Grow.put ?_ _ (by first | omega | (simp only [hNw, hPt]; omega))))))) hpl hrl hlens9 hf hpossF) ?_ -- "sackung/alarm.allPossible"
  refine OkO.move rfl rfl ?_
  refine OkO.extract rfl rfl rfl ?_
  refine OkO.extract rfl rfl rfl ?_
  refine OkO.alloc (z := [.nils, .int .i64 0, .int .i64 0, .int .i64 0, .int .i64 0, .int .i64 0, .nilm]) rfl (by kernel_rfl) ?_
  refine OkO.store rfl rfl rfl (sAc (n := 7) (ag := true) (by kernel_rfl) (by first | assumption | (simp (disch := first | omega | (simp only [hNw, hPt]; omega)) only [gn0, gn1, gn2, gn3, gn4, gn5, gp0, gno, gpo] <;> first | rfl | assumption | exact gp0 _ _ _ | exact gn0 _ _)) rfl (by first | rfl | assumption) (by first | rfl | exact spl_set _ _ _ (by first | assumption | omega | (simp; omega)))) ?_
  refine OkO.assign rfl rfl ?_
  refine OkO.nil ?_
  refine Ok.seq ?_
  refine Ok.seq ?_
  refine Ok.region ?_
  refine OkO.move rfl rfl ?_
  refine OkO.bin rfl rfl rfl ((bin_neq _ _).trans (congrArg (fun b => some (AV.bool b)) (show _ = true from (by rfl)))) ?_
  refine OkO.nil ?_
  refine Ok.condT rfl ?_
  refine Ok.seq ?_
  refine Ok.region ?_
  refine OkO.move rfl rfl ?_
  refine OkO.assign rfl rfl ?_
  refine OkO.assign rfl rfl ?_
  refine OkO.nil ?_
  refine Ok.ret ⟨.inr rfl, ?_⟩
  exact back_flat (resV_tmp rfl (resV_tmp rfl resV_nil)) rfl rfl (by rw [← hW]; exact (by (try dsimp only); repeat (first | exact hG | apply Grow.new | (refine Grow.put ?_ _ (by first | omega | (simp only [hNw, hPt]; omega))))))
theorem c21Y (m : Nat) (ev rv : AV) (p : Pst) (rows : List (List Int)) (H : Heap) (hV : Ints H ev p.errs) (hRs : LstAt H rv rows) (hpl : p.errs.length ≤ 100000) (hrl : rows.length ≤ 100000) (hlens9 : ∀ r ∈ rows, r.length ≤ 100000) (hf : faultE p rows = 0) (hpossT : possB p rows rows.length = true) : ∃ v H', RR (m + 7) (.fn 21 [.agg (p.c ev), rv]) H = some (v, H') ∧ ∃ x, v = .tup [x, I 0] ∧ Ret H H' ∧ Mine H.next H' x 45 3 (stCells p rows rows.length) := by
  show ∃ v H', evFn Try.prog (RR (m + 6)) 21 [.agg (p.c ev), rv] H = some (v, H') ∧ ∃ x, v = .tup [x, I 0] ∧ Ret H H' ∧ Mine H.next H' x 45 3 (stCells p rows rows.length)
  refine fn_okE Try.func21 rfl rfl (by kernel_rfl) (by kernel_rfl) ?_
  obtain ⟨W, hW⟩ : ∃ W : Heap, W = ⟨H.t, H.next, H.next⟩ := ⟨_, rfl⟩
  have hg : ∀ n, W.get n = H.get n := fun n => by rw [hW]; rfl
  have hN : W.next = H.next := by rw [hW]
  have hE : ∀ G, Grow W G → Ext H G := fun G g => ⟨by rw [← hN]; exact g.next, fun n k => by rw [g.get n (by rw [hN]; exact k), hg]⟩
  have hG : Grow W W := Grow.refl (by rw [hW]; exact Nat.le_refl _)
  rw [← hW]
  have pev : ev.plain = true := lpl hV.len
  have hel := hV.len
  have hrlen := hRs.len
  have ats : ∀ mb, atoms [ev, I p.gain, I p.drop, I p.fall, I p.out, I p.ahead, .map mb] = true := fun mb => by rw [atoms, (len_one hel).2]; rfl
  obtain ⟨hok, hr60, hlens, hrbd⟩ := faultE_facts hf
  obtain ⟨⟨hp1, hp2⟩, hpe, hpg, hpd, hpf, hpo1, hpo2⟩ := Pst.ok_facts hok
  refine Ok.seq ?_
  refine Ok.region ?_
  refine OkO.box rfl rfl ?_
  refine OkO.assign rfl rfl ?_
  refine OkO.assign rfl rfl ?_
  refine OkO.nil ?_
  refine Ok.seq ?_
  refine Ok.region ?_
  refine OkO.load rfl rfl (ldg (n := 6) (by kernel_rfl) (by first | assumption | (simp (disch := first | omega | (simp only [hNw, hPt]; omega)) only [gn0, gn1, gn2, gn3, gn4, gn5, gp0, gno, gpo] <;> first | rfl | assumption | exact gp0 _ _ _ | exact gn0 _ _)) (by first | rfl | assumption)) ?_
  refine OkO.move rfl rfl ?_
  refine OkO.callE rfl rfl rfl rfl rfl (c60Y (m + 0) ev rv p rows _ (hV.ext (hE _ (by (try dsimp only); repeat (first | exact hG | apply Grow.new | (refine Grow.put ?_ _ (by first | omega | (simp only [hNw, hPt]; omega))))))) (hRs.ext (hE _ (by (try dsimp only); repeat (first | exact hG | apply Grow.new | (refine Grow.put ?_ _ (by first | omega | (simp only [hNw, hPt]; omega))))))) hpl hrl hlens9 hf hpossT) ?_ -- "sackung/alarm.allPossible"
  rintro _ H60 ⟨mb, rfl, q60, dm60⟩
  have n1 := q60.ext.next
  try simp only [hNw, hPt] at n1
  have gg1 : Grow W H60 := Grow.ret (by (try dsimp only); repeat (first | exact hG | apply Grow.new | (refine Grow.put ?_ _ (by first | omega | (simp only [hNw, hPt]; omega))))) q60
  refine OkO.move rfl rfl ?_
  refine OkO.extract rfl rfl rfl ?_
  refine OkO.extract rfl rfl rfl ?_
  refine OkO.alloc (z := [.nils, .int .i64 0, .int .i64 0, .int .i64 0, .int .i64 0, .int .i64 0, .nilm]) rfl (by kernel_rfl) ?_
  refine OkO.store rfl rfl rfl (sAc (n := 7) (ag := true) (by kernel_rfl) (by first | assumption | (simp (disch := first | omega | (simp only [hNw, hPt]; omega)) only [gn0, gn1, gn2, gn3, gn4, gn5, gp0, gno, gpo] <;> first | rfl | assumption | exact gp0 _ _ _ | exact gn0 _ _)) rfl (by first | rfl | assumption | exact ats _) (by first | rfl | exact spl_set _ _ _ (by first | assumption | omega | (simp; omega)))) ?_
  refine OkO.assign rfl rfl ?_
  refine OkO.nil ?_
  refine Ok.seq ?_
  refine Ok.seq ?_
  refine Ok.region ?_
  refine OkO.move rfl rfl ?_
  refine OkO.bin rfl rfl rfl ((bin_neq _ _).trans (congrArg (fun b => some (AV.bool b)) (show _ = false from (by rfl)))) ?_
  refine OkO.nil ?_
  refine Ok.condF rfl ?_
  refine Ok.skip ?_
  refine Ok.seq ?_
  refine Ok.region ?_
  refine OkO.assign rfl rfl ?_
  refine OkO.nil ?_
  refine Ok.seq ?_
  refine Ok.seq ?_
  refine Ok.region ?_
  refine OkO.move rfl rfl ?_
  refine OkO.builtin rfl rfl rfl (bln (by kernel_rfl) (by first | assumption | rfl)) ?_
  refine OkO.move rfl rfl ?_
  refine OkO.nil ?_
  refine Ok.block ?_
  obtain ⟨H6, hH6⟩ : ∃ H6, H6 = ((H60.new (.cells [.nils, I 0, I 0, I 0, I 0, I 0, .nilm] 114)).put H60.next (.cells (p.d ev mb) 114)) := ⟨_, rfl⟩
  have dm6 : DutyM 0 H6 mb p rows := by rw [hH6]; exact (dm60.to (by repeat (first | exact Ext.refl _ | (refine Ext.put ?_ _ (by first | omega | (simp only [hNw, hPt]; omega))) | apply Ext.new))).low (Nat.zero_le _)
  have e6 : H6.get H60.next = some (.cells (p.d ev mb) 114) := by rw [hH6]; exact gp0 _ _ _
  have n6 : H6.next = H60.next + 1 := by rw [hH6]; simp
  have g6 : Grow W H6 := by rw [hH6]; exact (by (try dsimp only); repeat (first | exact gg1 | apply Grow.new | (refine Grow.put ?_ _ (by first | omega | (simp only [hNw, hPt]; omega)))))
  refine Ok.loop (fun n s => ∃ (i : Nat) (ov : AV), n = rows.length - i ∧ i ≤ rows.length ∧ Mine H6.next s.H ov 45 3 (stCells p rows i) ∧ Has 6 [(6, .ptr H60.next 0), (8, ov), (20, I (rows.length : Int)), (21, I (i : Int))] s.T ∧ s.D = [] ∧ Grow W s.H ∧ Ext H6 s.H) (rows.length) (by unfold loopFuel; omega)
    ⟨0, .nils, rfl, Nat.zero_le _, Mine.nil _ _ _ _, Has.of (by kernel_rfl), rfl, by rw [hH6] at g6; exact g6, by rw [hH6]; exact Ext.refl _⟩ ?_
  rintro n ⟨T, D, G⟩ ⟨i, ov, hn, hi, hm, ⟨f_, hT⟩, hD, hg, hx9⟩
  dsimp only at *
  subst hT hD
  have hgn := hg.next
  have e6b : (G.get H60.next).bind AObj.cs = some (p.d ev mb) := by rw [hx9.get _ (by omega), e6]; rfl
  have hx9n := hx9.next
  refine Ok.seq ?_
  refine Ok.region ?_
  refine OkO.bin rfl rfl rfl (bin_lss _ _) ?_
  refine OkO.nil ?_
  refine Ok.seq ?_
  refine Ok.cond rfl (fun h1 => ?_) (fun h1 => ?_)
  · -- yes h1
    have hlt : i < rows.length := by simpa using h1
    refine Ok.skip ?_
    refine Ok.seq ?_
    refine Ok.block ?_
    refine Ok.seq ?_
    refine Ok.region ?_
    refine OkO.move rfl rfl ?_
    refine OkO.assign rfl rfl ?_
    refine OkO.nil ?_
    refine Ok.region ?_
    refine OkO.move rfl rfl ?_
    refine OkO.load rfl rfl (ldg (n := 7) (by kernel_rfl) (by first | assumption | (simp (disch := first | omega | (simp only [hNw, hPt]; omega)) only [gn0, gn1, gn2, gn3, gn4, gn5, gp0, gno, gpo] <;> first | rfl | assumption | exact gp0 _ _ _ | exact gn0 _ _)) (by first | rfl | assumption)) ?_
    refine OkO.move rfl rfl ?_
    refine OkO.callV rfl rfl rfl rfl rfl (c61 (m + 1) ev p mb i rows _ ((dm6.to hx9).low (Nat.zero_le _)).2.2 (by have := dm6.2.1; omega) hel (by omega) (spdL_all hpossT hlt) ⟨hpg, hpf, hpo1, hpo2⟩ (by omega)) ?_ -- "(sackung/alarm.duty).state"
    refine OkO.buildSlice (el := 45) (sz := 3) (z := [.int .i64 0, .int .i64 0, .int .u8 0]) rfl (by kernel_rfl) (by decide) rfl rfl ?_
    refine OkO.builtinE rfl rfl rfl (Mine.app2 (W := W) (k0 := H6.next) (t := 32) (u := 32) (sz := 3) (by_ := 24) (e := 45) (n := 1) (new := stc p rows i) (hm.to (by repeat (first | exact Ext.refl _ | apply Ext.new))) (by repeat (first | exact hg | apply Grow.new)) (by omega) (by simp; omega) (by kernel_rfl) (by kernel_rfl) (elems_new (n := 1) (sz := 3) rfl) rfl rfl (by have h9 := stCells_len p rows i; omega) (by omega) (by omega) rfl) ?_
    rintro v2 G2 ⟨r1, r2, r3, r4, r5, _⟩
    simp only [hNw] at r5
    refine OkO.assign rfl rfl ?_
    refine OkO.nil ?_
    refine Ok.region ?_
    refine OkO.bin rfl rfl rfl (bin_add (by omega) (by omega)) ?_
    refine OkO.move rfl rfl ?_
    refine OkO.nil ?_
    refine ⟨rows.length - (i + 1), by omega, i + 1, _, rfl, by omega, by rw [stCells_succ]; exact r1, Has.of (by kernel_rfl), rfl, r2, ⟨by (show H6.next ≤ G2.next; omega), fun j hj => ?_⟩⟩
    rw [r3.get j hj (by simp only [hNw]; omega), gno _ _ _ (by omega)]
    exact hx9.get j hj
  · -- no h1
    have hge : i = rows.length := by simp at h1; omega
    subst hge
    refine Ok.exit ?_
    refine Ok.seq ?_
    refine Ok.region ?_
    refine OkO.move rfl rfl ?_
    refine OkO.assign rfl rfl ?_
    refine OkO.assign rfl rfl ?_
    refine OkO.nil ?_
    refine Ok.ret ⟨.inr rfl, ?_⟩
    refine back_newA rfl rfl (by rw [← hW]; exact hg) (fun H9 p1 p2 => ⟨ov, rfl, p1, ?_⟩)
    exact (hm.low (by omega)).backT p2 flat_tup2
end
end Go.Ev

set_option maxRecDepth 100000
set_option linter.unusedSimpArgs false
set_option linter.unusedVariables false
namespace Go.Ev
open Go Go.Proofs
noncomputable section
theorem possB_mono {p : Pst} {rows : List (List Int)} {r s : Nat} (h : possB p rows s = true) (hr : r ≤ s) : possB p rows r = true := by
  obtain ⟨i, hi, h1⟩ := possB_iff.1 h
  exact possB_iff.2 ⟨i, hi, by omega⟩
/-- What Breaks answers. -/
def brkV (p : Pst) (rows : List (List Int)) : AV := match (List.range rows.length).find? (fun h => !possB p rows (h + 1)) with
  | some h => .tup [I (h : Int), I 0]
  | none => .tup [I 0, I 7]
theorem brkV_at {p : Pst} {rows : List (List Int)} {h : Nat} (hh : h < rows.length) (hall : ∀ j, j < h → possB p rows (j + 1) = true) (hn : possB p rows (h + 1) = false) : brkV p rows = .tup [I (h : Int), I 0] := by
  have e : (List.range rows.length).find? (fun h => !possB p rows (h + 1)) = some h := by
    rw [List.find?_range_eq_some]
    exact ⟨by simp [hn], List.mem_range.2 hh, fun j hj => by simp [hall j hj]⟩
  unfold brkV
  rw [e]
theorem brkV_none {p : Pst} {rows : List (List Int)} (hall : ∀ j, j < rows.length → possB p rows (j + 1) = true) : brkV p rows = .tup [I 0, I 7] := by
  have e : (List.range rows.length).find? (fun h => !possB p rows (h + 1)) = none := by
    rw [List.find?_eq_none]
    intro j hj
    simp [hall j (List.mem_range.1 hj)]
  unfold brkV
  rw [e]
theorem brkV_flat (p : Pst) (rows : List (List Int)) : (brkV p rows).flat = true := by
  unfold brkV
  split <;> rfl
theorem c23F (m : Nat) (ev rv : AV) (p : Pst) (rows : List (List Int)) (H : Heap) (hV : Ints H ev p.errs) (hRs : LstAt H rv rows) (hpl : p.errs.length ≤ 100000) (hrl : rows.length ≤ 100000) (hlens9 : ∀ r ∈ rows, r.length ≤ 100000) (hf : faultE p rows ≠ 0) : RR (m + 6) (.fn 23 [.agg (p.c ev), rv]) H = some (.tup [I 0, I (faultE p rows)], H) := by
  refine (R_fn _ _ _ _ _).trans ?_
  refine fn_ok Try.func23 rfl rfl (by kernel_rfl) (by kernel_rfl) ?_
  obtain ⟨W, hW⟩ : ∃ W : Heap, W = ⟨H.t, H.next, H.next⟩ := ⟨_, rfl⟩
  have hg : ∀ n, W.get n = H.get n := fun n => by rw [hW]; rfl
  have hN : W.next = H.next := by rw [hW]
  have hE : ∀ G, Grow W G → Ext H G := fun G g => ⟨by rw [← hN]; exact g.next, fun n k => by rw [g.get n (by rw [hN]; exact k), hg]⟩
  have hG : Grow W W := Grow.refl (by rw [hW]; exact Nat.le_refl _)
  rw [← hW]
  have pev : ev.plain = true := lpl hV.len
  have hel := hV.len
  have hrlen := hRs.len
  have ats : ∀ mb, atoms [ev, I p.gain, I p.drop, I p.fall, I p.out, I p.ahead, .map mb] = true := fun mb => by rw [atoms, (len_one hel).2]; rfl
  refine Ok.seq ?_
  refine Ok.region ?_
  refine OkO.box rfl rfl ?_
  refine OkO.assign rfl rfl ?_
  refine OkO.assign rfl rfl ?_
  refine OkO.nil ?_
  refine Ok.seq ?_
  refine Ok.seq ?_
  refine Ok.region ?_
  refine OkO.load rfl rfl (ldg (n := 6) (by kernel_rfl) (by first | assumption | (simp (disch := first | omega | (simp only [hNw, hPt]; omega)) only [gn0, gn1, gn2, gn3, gn4, gn5, gp0, gno, gpo] <;> first | rfl | assumption | exact gp0 _ _ _ | exact gn0 _ _)) (by first | rfl | assumption)) ?_
  refine OkO.move rfl rfl ?_
  refine OkO.callV rfl rfl rfl rfl rfl ((c62 (m + 0) ev rv p rows _ (hV.ext (hE _ (by (try dsimp only); repeat (first | exact hG | apply Grow.new | (refine Grow.put ?_ _ (by first | omega | (simp only [hNw, hPt]; omega))))))) (hRs.ext (hE _ (by (try dsimp only); repeat (first | exact hG | apply Grow.new | (refine Grow.put ?_ _ (by first | omega | (simp only [hNw, hPt]; omega))))))) hpl hrl hlens9)) ?_ -- "sackung/alarm.checkReads"
  refine OkO.assign rfl rfl ?_
  refine OkO.nil ?_
  refine Ok.seq ?_
  refine Ok.region ?_
  refine OkO.move rfl rfl ?_
  refine OkO.bin rfl rfl rfl ((bin_neq _ _).trans (congrArg (fun b => some (AV.bool b)) (show _ = true from (by simpa using hf)))) ?_
  refine OkO.nil ?_
  refine Ok.condT rfl ?_
  refine Ok.seq ?_
  refine Ok.region ?_
  refine OkO.move rfl rfl ?_
  refine OkO.assign rfl rfl ?_
  refine OkO.assign rfl rfl ?_
  refine OkO.nil ?_
  refine Ok.ret ⟨.inr rfl, ?_⟩
  exact back_flat (resV_tmp rfl (resV_tmp rfl resV_nil)) rfl rfl (by rw [← hW]; exact (by (try dsimp only); repeat (first | exact hG | apply Grow.new | (refine Grow.put ?_ _ (by first | omega | (simp only [hNw, hPt]; omega))))))
theorem c23Y (m : Nat) (ev rv : AV) (p : Pst) (rows : List (List Int)) (H : Heap) (hV : Ints H ev p.errs) (hRs : LstAt H rv rows) (hpl : p.errs.length ≤ 100000) (hrl : rows.length ≤ 100000) (hlens9 : ∀ r ∈ rows, r.length ≤ 100000) (hf : faultE p rows = 0) : RR (m + 6) (.fn 23 [.agg (p.c ev), rv]) H = some (brkV p rows, H) := by
  refine (R_fn _ _ _ _ _).trans ?_
  refine fn_ok Try.func23 rfl rfl (by kernel_rfl) (by kernel_rfl) ?_
  obtain ⟨W, hW⟩ : ∃ W : Heap, W = ⟨H.t, H.next, H.next⟩ := ⟨_, rfl⟩
  have hg : ∀ n, W.get n = H.get n := fun n => by rw [hW]; rfl
  have hN : W.next = H.next := by rw [hW]
  have hE : ∀ G, Grow W G → Ext H G := fun G g => ⟨by rw [← hN]; exact g.next, fun n k => by rw [g.get n (by rw [hN]; exact k), hg]⟩
  have hG : Grow W W := Grow.refl (by rw [hW]; exact Nat.le_refl _)
  rw [← hW]
  have pev : ev.plain = true := lpl hV.len
  have hel := hV.len
  have hrlen := hRs.len
  have ats : ∀ mb, atoms [ev, I p.gain, I p.drop, I p.fall, I p.out, I p.ahead, .map mb] = true := fun mb => by rw [atoms, (len_one hel).2]; rfl
  obtain ⟨hok, hr60, hlens, hrbd⟩ := faultE_facts hf
  obtain ⟨⟨hp1, hp2⟩, hpe, hpg, hpd, hpf, hpo1, hpo2⟩ := Pst.ok_facts hok
  refine Ok.seq ?_
  refine Ok.region ?_
  refine OkO.box rfl rfl ?_
  refine OkO.assign rfl rfl ?_
  refine OkO.assign rfl rfl ?_
  refine OkO.nil ?_
  refine Ok.seq ?_
  refine Ok.seq ?_
  refine Ok.region ?_
  refine OkO.load rfl rfl (ldg (n := 6) (by kernel_rfl) (by first | assumption | (simp (disch := first | omega | (simp only [hNw, hPt]; omega)) only [gn0, gn1, gn2, gn3, gn4, gn5, gp0, gno, gpo] <;> first | rfl | assumption | exact gp0 _ _ _ | exact gn0 _ _)) (by first | rfl | assumption)) ?_
  refine OkO.move rfl rfl ?_
  refine OkO.callV rfl rfl rfl rfl rfl ((c62 (m + 0) ev rv p rows _ (hV.ext (hE _ (by (try dsimp only); repeat (first | exact hG | apply Grow.new | (refine Grow.put ?_ _ (by first | omega | (simp only [hNw, hPt]; omega))))))) (hRs.ext (hE _ (by (try dsimp only); repeat (first | exact hG | apply Grow.new | (refine Grow.put ?_ _ (by first | omega | (simp only [hNw, hPt]; omega))))))) hpl hrl hlens9).trans (by rw [hf])) ?_ -- "sackung/alarm.checkReads"
  refine OkO.assign rfl rfl ?_
  refine OkO.nil ?_
  refine Ok.seq ?_
  refine Ok.region ?_
  refine OkO.move rfl rfl ?_
  refine OkO.bin rfl rfl rfl ((bin_neq _ _).trans (congrArg (fun b => some (AV.bool b)) (show _ = false from (by rfl)))) ?_
  refine OkO.nil ?_
  refine Ok.condF rfl ?_
  refine Ok.skip ?_
  refine Ok.seq ?_
  refine Ok.region ?_
  refine OkO.load rfl rfl (ldg (n := 6) (by kernel_rfl) (by first | assumption | (simp (disch := first | omega | (simp only [hNw, hPt]; omega)) only [gn0, gn1, gn2, gn3, gn4, gn5, gp0, gno, gpo] <;> first | rfl | assumption | exact gp0 _ _ _ | exact gn0 _ _)) (by first | rfl | assumption)) ?_
  refine OkO.move rfl rfl ?_
  refine OkO.callE rfl rfl rfl rfl rfl (c63 (m + 0) ev rv p rows _ (hV.ext (hE _ (by (try dsimp only); repeat (first | exact hG | apply Grow.new | (refine Grow.put ?_ _ (by first | omega | (simp only [hNw, hPt]; omega))))))) (hRs.ext (hE _ (by (try dsimp only); repeat (first | exact hG | apply Grow.new | (refine Grow.put ?_ _ (by first | omega | (simp only [hNw, hPt]; omega))))))) ⟨hpg, hpd⟩ hpe (by omega) hlens hrbd (by omega)) ?_ -- "(sackung/alarm.Post).onDuty"
  rintro _ H63 ⟨mb, rfl, q63, dm63⟩
  have n1 := q63.ext.next
  try simp only [hNw, hPt] at n1
  have gg1 : Grow W H63 := Grow.ret (by (try dsimp only); repeat (first | exact hG | apply Grow.new | (refine Grow.put ?_ _ (by first | omega | (simp only [hNw, hPt]; omega))))) q63
  refine OkO.alloc (z := [.nils, .int .i64 0, .int .i64 0, .int .i64 0, .int .i64 0, .int .i64 0, .nilm]) rfl (by kernel_rfl) ?_
  refine OkO.store rfl rfl rfl (sAc (n := 7) (ag := true) (by kernel_rfl) (by first | assumption | (simp (disch := first | omega | (simp only [hNw, hPt]; omega)) only [gn0, gn1, gn2, gn3, gn4, gn5, gp0, gno, gpo] <;> first | rfl | assumption | exact gp0 _ _ _ | exact gn0 _ _)) rfl (by first | rfl | assumption | exact ats _) (by first | rfl | exact spl_set _ _ _ (by first | assumption | omega | (simp; omega)))) ?_
  refine OkO.nil ?_
  refine Ok.seq ?_
  refine Ok.seq ?_
  refine Ok.region ?_
  refine OkO.move rfl rfl ?_
  refine OkO.builtin rfl rfl rfl (bln (by kernel_rfl) (by first | assumption | rfl)) ?_
  refine OkO.move rfl rfl ?_
  refine OkO.nil ?_
  refine Ok.block ?_
  obtain ⟨H6, hH6⟩ : ∃ H6, H6 = ((H63.new (.cells [.nils, I 0, I 0, I 0, I 0, I 0, .nilm] 114)).put H63.next (.cells (p.d ev mb) 114)) := ⟨_, rfl⟩
  have dm6 : DutyM 0 H6 mb p rows := by rw [hH6]; exact (dm63.to (by repeat (first | exact Ext.refl _ | (refine Ext.put ?_ _ (by first | omega | (simp only [hNw, hPt]; omega))) | apply Ext.new))).low (Nat.zero_le _)
  have e6 : (H6.get H63.next).bind AObj.cs = some (p.d ev mb) := by rw [hH6, gp0]; rfl
  have g6 : Grow W H6 := by rw [hH6]; exact (by (try dsimp only); repeat (first | exact gg1 | apply Grow.new | (refine Grow.put ?_ _ (by first | omega | (simp only [hNw, hPt]; omega)))))
  refine Ok.loop (fun n s => ∃ i : Nat, n = rows.length - i ∧ i ≤ rows.length ∧ (∀ j, j < i → possB p rows (j + 1) = true) ∧ Has 5 [(7, .ptr H63.next 0), (19, I (rows.length : Int)), (20, I (i : Int))] s.T ∧ s.D = [] ∧ s.H = H6) (rows.length) (by unfold loopFuel; omega)
    ⟨0, rfl, Nat.zero_le _, fun j hj => absurd hj (Nat.not_lt_zero j), Has.of (by kernel_rfl), rfl, by rw [hH6]; rfl⟩ ?_
  rintro n ⟨T, D, G⟩ ⟨i, hn, hi, hall, ⟨f_, hT⟩, hD, hg9⟩
  dsimp only at *
  subst hT hD
  skip
  subst hg9
  refine Ok.seq ?_
  refine Ok.region ?_
  refine OkO.bin rfl rfl rfl (bin_lss _ _) ?_
  refine OkO.nil ?_
  refine Ok.seq ?_
  refine Ok.cond rfl (fun h1 => ?_) (fun h1 => ?_)
  · -- yes h1
    have hlt : i < rows.length := by simpa using h1
    refine Ok.skip ?_
    refine Ok.seq ?_
    refine Ok.block ?_
    refine Ok.seq ?_
    refine Ok.region ?_
    refine OkO.move rfl rfl ?_
    refine OkO.assign rfl rfl ?_
    refine OkO.nil ?_
    refine Ok.seq ?_
    refine Ok.region ?_
    refine OkO.load rfl rfl (ldg (n := 7) (by kernel_rfl) (by first | assumption | (simp (disch := first | omega | (simp only [hNw, hPt]; omega)) only [gn0, gn1, gn2, gn3, gn4, gn5, gp0, gno, gpo] <;> first | rfl | assumption | exact gp0 _ _ _ | exact gn0 _ _)) (by first | rfl | assumption)) ?_
    refine OkO.move rfl rfl ?_
    refine OkO.bin rfl rfl rfl (bin_add (by omega) (by omega)) ?_
    refine OkO.callV rfl rfl rfl rfl rfl (c64 (m + 2) ev p mb (i + 1) rows _ dm6.2.2 dm6.2.1 hel (by omega)) ?_ -- "(sackung/alarm.duty).possible"
    refine OkO.un rfl rfl rfl ?_
    refine OkO.nil ?_
    refine Ok.cond rfl (fun h2 => ?_) (fun h2 => ?_)
    · -- yes h2
      have hnp : possB p rows (i + 1) = false := by simpa using h2
      refine Ok.seq ?_
      refine Ok.region ?_
      refine OkO.move rfl rfl ?_
      refine OkO.assign rfl rfl ?_
      refine OkO.assign rfl rfl ?_
      refine OkO.nil ?_
      refine Ok.ret ⟨.inr rfl, ?_⟩
      exact back_flat rfl (brkV_at hlt hall hnp).symm (brkV_flat _ _) (by rw [← hW]; exact g6)
    · -- no h2
      refine Ok.skip ?_
      refine Ok.region ?_
      refine OkO.bin rfl rfl rfl (bin_add (by omega) (by omega)) ?_
      refine OkO.move rfl rfl ?_
      refine OkO.nil ?_
      refine ⟨rows.length - (i + 1), by omega, i + 1, rfl, by omega, fun j hj => ?_, Has.of (by kernel_rfl), rfl, rfl⟩
      by_cases e : j = i
      · subst e; simpa using h2
      · exact hall j (by omega)
  · -- no h1
    have hge : i = rows.length := by simp at h1; omega
    subst hge
    refine Ok.exit ?_
    refine Ok.seq ?_
    refine Ok.region ?_
    refine OkO.assign rfl rfl ?_
    refine OkO.assign rfl rfl ?_
    refine OkO.nil ?_
    refine Ok.ret ⟨.inr rfl, ?_⟩
    exact back_flat rfl (brkV_none hall).symm (brkV_flat _ _) (by rw [← hW]; exact g6)
end
end Go.Ev

set_option maxRecDepth 100000
set_option linter.unusedSimpArgs false
set_option linter.unusedVariables false
namespace Go.Ev
open Go Go.Proofs
noncomputable section
/-- The gauges with which a truth is possible. -/
def fldL (p : Pst) (rows : List (List Int)) (r : Nat) : Nat → List Int
  | 0 => []
  | i + 1 => fldL p rows r i ++ (if r ≤ lenM p rows i then [(i : Int) - 1] else [])
noncomputable def as28 : Code := match Try.f28.body.bind rangeOf with | some r => r.1 | none => .skip
noncomputable def bd28 : Code := match Try.f28.body.bind rangeOf with | some r => r.2 | none => .skip
end
end Go.Ev

set_option maxRecDepth 100000
set_option linter.unusedSimpArgs false
set_option linter.unusedVariables false
namespace Go.Ev
open Go Go.Proofs
noncomputable section
/-- The truth of a sentence, as a bool. -/
def bP (P : Prop) : Bool := @decide P (Classical.propDecidable P)
theorem bP_true {P : Prop} (h : P) : bP P = true := @decide_eq_true P (Classical.propDecidable P) h
theorem bP_false {P : Prop} (h : ¬ P) : bP P = false := @decide_eq_false P (Classical.propDecidable P) h
theorem bP_iff {P : Prop} : bP P = true ↔ P := @decide_eq_true_iff P (Classical.propDecidable P)
def StepOk (p : Pst) (a c : Int) : Prop := a - p.drop ≤ c ∧ c ≤ a + p.gain
/-- The speeds move as the post says. -/
def MovP (p : Pst) (sp : List Int) : Prop := (∀ x ∈ sp, 0 ≤ x ∧ x ≤ 1000) ∧ ∀ (h : Nat) (h2 : h + 1 < sp.length), StepOk p (sp[h]'(by omega)) sp[h + 1]
/-- All gauges that work agree. -/
def AgrP (p : Pst) (f : Int) (rows : List (List Int)) (sp : List Int) : Prop := ∀ (h : Nat) (h1 : h < sp.length) (h2 : h < rows.length), AgreeR p f rows[h] sp[h]
def TruP (p : Pst) (rows : List (List Int)) (f : Int) (sp : List Int) : Prop := sp.length = rows.length ∧ (-1 ≤ f ∧ f ≤ (p.errs.length : Int) - 1) ∧ MovP p sp ∧ AgrP p f rows sp
end
end Go.Ev

set_option maxRecDepth 100000
set_option linter.unusedSimpArgs false
set_option linter.unusedVariables false
namespace Go.Ev
open Go Go.Proofs
noncomputable section
theorem bP_congr {P Q : Prop} (h : P ↔ Q) : bP P = bP Q := by rw [Bool.eq_iff_iff, bP_iff, bP_iff, h]
end
end Go.Ev

set_option maxRecDepth 100000
set_option linter.unusedSimpArgs false
set_option linter.unusedVariables false
namespace Go.Ev
open Go Go.Proofs
noncomputable section
/-- A list of numbers that was made, whether it can grow in place or not. -/
def Lst (k0 : Nat) (G : Heap) (v : AV) (us : List Int) : Prop :=
  (∃ b, v = .opn b us.length ∧ G.get b = some (.opn (us.map I) 3 1) ∧ k0 ≤ b ∧ b < G.next) ∨ (∃ b, v = .slice b 0 us.length us.length ∧ G.get b = some (.cells (us.map I) 3) ∧ k0 ≤ b ∧ b < G.next)
theorem Lst.len {k0 : Nat} {G : Heap} {v : AV} {us : List Int} (h : Lst k0 G v us) : lenOf v = some us.length := by
  rcases h with ⟨b, rfl, _⟩ | ⟨b, rfl, _⟩ <;> rfl
theorem Lst.flat {k0 : Nat} {G : Heap} {v : AV} {us : List Int} (h : Lst k0 G v us) : v.flat = false := by
  rcases h with ⟨b, rfl, _⟩ | ⟨b, rfl, _⟩ <;> rfl
theorem Lst.to {k0 : Nat} {G G' : Heap} {v : AV} {us : List Int} (h : Lst k0 G v us) (g : Ext G G') : Lst k0 G' v us := by
  rcases h with ⟨b, h1, h2, h3, h4⟩ | ⟨b, h1, h2, h3, h4⟩
  · exact .inl ⟨b, h1, by rw [g.get _ h4]; exact h2, h3, Nat.lt_of_lt_of_le h4 g.next⟩
  · exact .inr ⟨b, h1, by rw [g.get _ h4]; exact h2, h3, Nat.lt_of_lt_of_le h4 g.next⟩
theorem Lst.low {k0 k1 : Nat} {G : Heap} {v : AV} {us : List Int} (h : Lst k1 G v us) (hk : k0 ≤ k1) : Lst k0 G v us := by
  rcases h with ⟨b, h1, h2, h3, h4⟩ | ⟨b, h1, h2, h3, h4⟩
  · exact .inl ⟨b, h1, h2, by omega, h4⟩
  · exact .inr ⟨b, h1, h2, by omega, h4⟩
theorem Lst.put {k0 : Nat} {G : Heap} {v : AV} {us : List Int} (h : Lst k0 G v us) {n : Nat} (o : AObj) (hn : n < k0) : Lst k0 (G.put n o) v us := by
  rcases h with ⟨b, h1, h2, h3, h4⟩ | ⟨b, h1, h2, h3, h4⟩
  · exact .inl ⟨b, h1, by rw [gpo _ _ _ _ (by omega)]; exact h2, h3, by simpa using h4⟩
  · exact .inr ⟨b, h1, by rw [gpo _ _ _ _ (by omega)]; exact h2, h3, by simpa using h4⟩
theorem Lst.ints {k0 : Nat} {G : Heap} {v : AV} {us : List Int} (h : Lst k0 G v us) : Ints G v us := by
  rcases h with ⟨b, rfl, h2, h3, h4⟩ | ⟨b, rfl, h2, h3, h4⟩
  · exact Mine.ints (k0 := k0) (.inr ⟨b, us.length, rfl, h2, by simp, h3, h4⟩)
  · refine ⟨by simp [lenOf], fun i x k => ?_⟩
    have hi : i < us.length := by
      by_cases hi : i < us.length
      · exact hi
      · rw [List.getElem?_eq_none (by simp; omega)] at k; cases k
    rw [List.getElem?_eq_getElem (by simpa using hi)] at k
    simp at k
    refine ⟨b, 0 + i * 1, us.map I, slAt_slice hi, by rw [h2]; rfl, ?_, h4⟩
    have e : ((us.map I).drop (0 + i * 1)).take 1 = [I us[i]] := by
      rw [show 0 + i * 1 = i from by omega, List.drop_eq_getElem_cons (by simpa using hi)]
      simp
    unfold seg
    rw [e, ← k]
    rfl
/-- A speed followed back to the first hour. -/
def backL (p : Pst) (may : List Iv) : Nat → Int → List Int
  | 0, s => [s]
  | h + 1, s => backL p may h (meetI (may.getD h nul) (beforeI p (s, s))).1 ++ [s]
end
end Go.Ev

set_option maxRecDepth 100000
set_option linter.unusedSimpArgs false
set_option linter.unusedVariables false
namespace Go.Ev
open Go Go.Proofs
noncomputable section
end
end Go.Ev

set_option maxRecDepth 100000
set_option linter.unusedSimpArgs false
set_option linter.unusedVariables false
namespace Go.Ev
open Go Go.Proofs
noncomputable section
/-- A truth with this speed in this hour is possible with a gauge. -/
def HitP (p : Pst) (rows : List (List Int)) (hr : Nat) (s0 : Int) (j : Nat) : Prop := hr + 1 ≤ lenM p rows j ∧ inI s0 ((mayL p ((j : Int) - 1) rows).getD hr nul)
noncomputable def as35 : Code := match Try.f35.body.bind rangeOf with | some r => r.1 | none => .skip
noncomputable def bd35 : Code := match Try.f35.body.bind rangeOf with | some r => r.2 | none => .skip
end
end Go.Ev

set_option maxRecDepth 100000
set_option linter.unusedSimpArgs false
set_option linter.unusedVariables false
namespace Go.Ev
open Go Go.Proofs
noncomputable section
end
end Go.Ev

set_option maxRecDepth 100000
set_option linter.unusedSimpArgs false
set_option linter.unusedVariables false
namespace Go.Ev
open Go Go.Proofs
noncomputable section
theorem agree_at {p : Pst} {f : Int} {row : List Int} {v : Int} (hl : row.length = p.errs.length) : AgreeR p f row v ↔ ∀ (g : Nat) (h1 : g < row.length) (h2 : g < p.errs.length), (g : Int) ≠ f → max (row[g] - v) (v - row[g]) ≤ p.errs[g] := by
  unfold AgreeR
  have key : ∀ (g : Nat) (h1 : g < row.length) (h2 : g < p.errs.length), inI v (gI p row g) ↔ max (row[g] - v) (v - row[g]) ≤ p.errs[g] := fun g h1 h2 => by
    unfold inI gI agI
    rw [show row.getD g 0 = row[g] from by simp [List.getD, h1], show p.errs.getD g 0 = p.errs[g] from by simp [List.getD, h2]]
    dsimp only
    omega
  constructor
  · intro h g h1 h2 h3
    exact (key g h1 h2).1 (h g h2 h3)
  · intro h g h1 h2
    exact (key g (by omega) h1).2 (h g (by omega) h1 h2)
def leftR (p : Pst) (s : Int) : Int := if p.fall ≤ s then 0 else if p.gain = 0 then -1 else (p.fall - s + p.gain - 1) / p.gain
theorem left_div {d g : Int} {n : Int} (hg : 1 ≤ g) (h1 : d ≤ n * g) (h2 : (n - 1) * g < d) : (d + g - 1) / g = n := by
  have h3 : (n - 1) * g = n * g - g := by rw [Int.sub_mul]; omega
  have a : n ≤ (d + g - 1) / g := (Int.le_ediv_iff_mul_le (by omega)).2 (by omega)
  have b : (d + g - 1) / g < n + 1 := (Int.ediv_lt_iff_lt_mul (by omega)).2 (by rw [Int.add_mul]; omega)
  omega
theorem level_left {p : Pst} {s : Int} (hp : (0 ≤ p.gain ∧ p.gain ≤ 200) ∧ (1 ≤ p.fall ∧ p.fall ≤ 1000) ∧ (0 ≤ p.out ∧ p.out ≤ 60) ∧ 0 ≤ p.ahead ∧ p.ahead ≤ 60) : levelI p s = if leftR p s < 0 ∨ p.out + 2 * p.ahead < leftR p s then 0 else if p.out + p.ahead < leftR p s then 1 else if p.out < leftR p s then 2 else 3 := by
  have e : (leftR p s < 0 ∧ 1000 < leftI p s) ∨ (0 ≤ leftR p s ∧ leftI p s = leftR p s) := by
    unfold leftR leftI
    by_cases h : p.fall ≤ s
    · rw [if_pos h, if_pos h]; omega
    · rw [if_neg h, if_neg h]
      by_cases h2 : p.gain = 0
      · rw [if_pos h2, if_pos h2]; omega
      · rw [if_neg h2, if_neg h2]
        exact .inr ⟨Int.ediv_nonneg (by omega) (by omega), rfl⟩
  unfold levelI hrI
  rcases e with ⟨e1, e2⟩ | ⟨e1, e2⟩
  · rw [if_neg (by simp; omega), if_neg (by simp; omega), if_neg (by simp; omega), if_pos (.inl e1)]
  · rw [e2]
    by_cases a : leftR p s ≤ p.out
    · rw [if_pos (by simp; omega), if_neg (by omega), if_neg (by omega), if_neg (by omega)]
    · rw [if_neg (by simp; omega)]
      by_cases b : leftR p s ≤ p.out + p.ahead
      · rw [if_pos (by simp; omega), if_neg (by omega), if_neg (by omega), if_pos (by omega)]
      · rw [if_neg (by simp; omega)]
        by_cases c : leftR p s ≤ p.out + 2 * p.ahead
        · rw [if_pos (by simp; omega), if_neg (by omega), if_pos (by omega)]
        · rw [if_neg (by simp; omega), if_pos (by omega)]
theorem c71 (m : Nat) (ev rv : AV) (p : Pst) (row : List Int) (f s0 : Int) (H : Heap) (hV : Ints H ev p.errs) (hR : Ints H rv row) (hl : row.length = p.errs.length) (hpl : p.errs.length ≤ 100000) (hb2 : ∀ x ∈ row, -1000 ≤ x ∧ x ≤ 2000) (hs : -100000 ≤ s0 ∧ s0 ≤ 100000) : RR (m + 1) (.fn 71 [.agg (p.c ev), rv, I f, I s0]) H = some (.bool (bP (AgreeR p f row s0)), H) := by
  refine (R_fn _ _ _ _ _).trans ?_
  refine fn_ok Try.func71 rfl rfl (by kernel_rfl) (by kernel_rfl) ?_
  obtain ⟨W, hW⟩ : ∃ W : Heap, W = ⟨H.t, H.next, H.next⟩ := ⟨_, rfl⟩
  have hg : ∀ n, W.get n = H.get n := fun n => by rw [hW]; rfl
  have hN : W.next = H.next := by rw [hW]
  have hE : ∀ G, Grow W G → Ext H G := fun G g => ⟨by rw [← hN]; exact g.next, fun n k => by rw [g.get n (by rw [hN]; exact k), hg]⟩
  have hG : Grow W W := Grow.refl (by rw [hW]; exact Nat.le_refl _)
  rw [← hW]
  have pev : ev.plain = true := lpl hV.len
  have hrn := hR.len
  refine Ok.seq ?_
  refine Ok.region ?_
  refine OkO.box rfl rfl ?_
  refine OkO.assign rfl rfl ?_
  refine OkO.nil ?_
  refine Ok.seq ?_
  refine Ok.seq ?_
  refine Ok.region ?_
  refine OkO.assign rfl rfl ?_
  refine OkO.nil ?_
  refine Ok.block ?_
  obtain ⟨H6, hH6⟩ : ∃ H6, H6 = W.new (.cells (p.c ev) 24) := ⟨_, rfl⟩
  have e6 : (H6.get W.next).bind AObj.cs = some (p.c ev) := by rw [hH6, gn0]; rfl
  have g6 : Grow W H6 := by rw [hH6]; exact hG.new _
  refine Ok.loop (fun n s => ∃ i : Nat, n = row.length - i ∧ i ≤ row.length ∧ (∀ (g : Nat) (h1 : g < row.length) (h2 : g < p.errs.length), g < i → (g : Int) ≠ f → max (row[g] - s0) (s0 - row[g]) ≤ p.errs[g]) ∧ Has 6 [(1, rv), (2, I f), (3, I s0), (4, .ptr W.next 0), (9, I (i : Int))] s.T ∧ s.D = [] ∧ s.H = H6) (row.length) (by unfold loopFuel; omega)
    ⟨0, rfl, Nat.zero_le _, fun g h1 h2 h3 => absurd h3 (Nat.not_lt_zero g), Has.of (by kernel_rfl), rfl, by rw [hH6]; rfl⟩ ?_
  rintro n ⟨T, D, G⟩ ⟨i, hn, hi, hall, ⟨f_, hT⟩, hD, hg9⟩
  dsimp only at *
  subst hT hD
  skip
  subst hg9
  refine Ok.seq ?_
  refine Ok.seq ?_
  refine Ok.region ?_
  refine OkO.move rfl rfl ?_
  refine OkO.move rfl rfl ?_
  refine OkO.builtin rfl rfl rfl (bln (by kernel_rfl) (by first | assumption | rfl)) ?_
  refine OkO.bin rfl rfl rfl (bin_lss _ _) ?_
  refine OkO.nil ?_
  refine Ok.cond rfl (fun h1 => ?_) (fun h1 => ?_)
  · -- yes h1
    have hlt : i < row.length := by simpa using h1
    obtain ⟨xb, xo, xcs, x1, x2, x3, x4⟩ := (hR.ext (hE _ g6)).at' i hlt
    obtain ⟨yb, yo, ycs, y1, y2, y3, y4⟩ := (hV.ext (hE _ g6)).at' i (by omega)
    have hb9 := hb2 _ (List.getElem_mem (l := row) (n := i) hlt)
    refine Ok.skip ?_
    refine Ok.seq ?_
    refine Ok.block ?_
    refine Ok.seq ?_
    refine Ok.drawn [(0, true, []), (1, true, []), (2, true, []), (3, true, []), (4, true, []), (5, true, []), (6, true, []), (7, true, []), (8, true, []), (9, true, []), (10, true, []), (11, true, []), (12, true, []), (13, true, []), (14, true, []), (15, true, []), (16, true, []), (17, true, []), (18, true, []), (19, true, []), (20, true, []), (21, true, []), (22, true, []), (23, true, [])] (by kernel_rfl) ?_
    refine OkP.step ?_
    refine OkO.move rfl rfl ?_
    refine OkO.nil ⟨rfl, ?_⟩
    refine OkP.step ?_
    refine OkO.move rfl rfl ?_
    refine OkO.nil ⟨rfl, ?_⟩
    refine OkP.step ?_
    refine OkO.bin rfl rfl rfl (bin_neq _ _) ?_
    refine OkO.nil ⟨rfl, ?_⟩
    refine OkP.step ?_
    refine OkO.move rfl rfl ?_
    refine OkO.nil ⟨rfl, ?_⟩
    refine OkP.split (d := 19) rfl (fun g2 => ?_) (fun g2 => ?_)
    · -- true g2
      have hif : (i : Int) ≠ f := by simpa using g2
      refine OkP.step ?_
      refine OkO.move rfl rfl ?_
      refine OkO.nil ⟨rfl, ?_⟩
      refine OkP.step ?_
      refine OkO.move rfl rfl ?_
      refine OkO.nil ⟨rfl, ?_⟩
      refine OkP.step ?_
      refine OkO.index (sz := 1) (n := i) rfl rfl rfl (by kernel_rfl) (by first | assumption | rfl | exact slAt_slice (by omega) | exact slAt_opn (by omega)) ?_ -- index ('Go.Operand.tmp', 20) ('Go.Operand.tmp', 21)
      refine OkO.nil ⟨rfl, ?_⟩
      refine OkP.step ?_
      refine OkO.load rfl rfl (lda (n := 1) (by kernel_rfl) (by first | assumption | (simp (disch := first | omega | (simp only [hNw, hPt]; omega)) only [gn0, gn1, gn2, gn3, gn4, gn5, gp0, gno, gpo] <;> first | rfl | assumption | exact gp0 _ _ _ | exact gn0 _ _)) (by first | rfl | assumption)) ?_
      refine OkO.nil ⟨rfl, ?_⟩
      refine OkP.step ?_
      refine OkO.move rfl rfl ?_
      refine OkO.nil ⟨rfl, ?_⟩
      refine OkP.step ?_
      refine OkO.bin rfl rfl rfl (bin_sub (by omega) (by omega)) ?_
      refine OkO.nil ⟨rfl, ?_⟩
      refine OkP.step ?_
      refine OkO.move rfl rfl ?_
      refine OkO.nil ⟨rfl, ?_⟩
      refine OkP.step ?_
      refine OkO.move rfl rfl ?_
      refine OkO.nil ⟨rfl, ?_⟩
      refine OkP.step ?_
      refine OkO.move rfl rfl ?_
      refine OkO.nil ⟨rfl, ?_⟩
      refine OkP.step ?_
      refine OkO.index (sz := 1) (n := i) rfl rfl rfl (by kernel_rfl) (by first | assumption | rfl | exact slAt_slice (by omega) | exact slAt_opn (by omega)) ?_ -- index ('Go.Operand.tmp', 27) ('Go.Operand.tmp', 28)
      refine OkO.nil ⟨rfl, ?_⟩
      refine OkP.step ?_
      refine OkO.load rfl rfl (lda (n := 1) (by kernel_rfl) (by first | assumption | (simp (disch := first | omega | (simp only [hNw, hPt]; omega)) only [gn0, gn1, gn2, gn3, gn4, gn5, gp0, gno, gpo] <;> first | rfl | assumption | exact gp0 _ _ _ | exact gn0 _ _)) (by first | rfl | assumption)) ?_
      refine OkO.nil ⟨rfl, ?_⟩
      refine OkP.step ?_
      refine OkO.bin rfl rfl rfl (bin_sub (by omega) (by omega)) ?_
      refine OkO.nil ⟨rfl, ?_⟩
      refine OkP.step ?_
      refine OkO.builtin rfl rfl rfl (builtin_max2 _ _) ?_
      refine OkO.nil ⟨rfl, ?_⟩
      refine OkP.step ?_
      refine OkO.fieldAddr (o := 0) rfl (by kernel_rfl) rfl ?_
      refine OkO.nil ⟨rfl, ?_⟩
      refine OkP.step ?_
      refine OkO.load rfl rfl (lda (n := 1) (by kernel_rfl) (by first | assumption | (simp (disch := first | omega | (simp only [hNw, hPt]; omega)) only [gn0, gn1, gn2, gn3, gn4, gn5, gp0, gno, gpo] <;> first | rfl | assumption | exact gp0 _ _ _ | exact gn0 _ _)) (by first | rfl | assumption)) ?_
      refine OkO.nil ⟨rfl, ?_⟩
      refine OkP.step ?_
      refine OkO.move rfl rfl ?_
      refine OkO.nil ⟨rfl, ?_⟩
      refine OkP.step ?_
      refine OkO.index (sz := 1) (n := i) rfl rfl rfl (by kernel_rfl) (by first | assumption | rfl | exact slAt_slice (by omega) | exact slAt_opn (by omega)) ?_ -- index ('Go.Operand.tmp', 34) ('Go.Operand.tmp', 35)
      refine OkO.nil ⟨rfl, ?_⟩
      refine OkP.step ?_
      refine OkO.load rfl rfl (lda (n := 1) (by kernel_rfl) (by first | assumption | (simp (disch := first | omega | (simp only [hNw, hPt]; omega)) only [gn0, gn1, gn2, gn3, gn4, gn5, gp0, gno, gpo] <;> first | rfl | assumption | exact gp0 _ _ _ | exact gn0 _ _)) (by first | rfl | assumption)) ?_
      refine OkO.nil ⟨rfl, ?_⟩
      refine OkP.step ?_
      refine OkO.bin rfl rfl rfl (bin_gtr _ _) ?_
      refine OkO.nil ⟨rfl, ?_⟩
      refine OkP.step ?_
      refine OkO.pick (b := true) rfl rfl (fun _ => rfl) nofun ?_
      refine OkO.nil ⟨rfl, ?_⟩
      refine OkP.nil ?_
      refine Ok.cond rfl (fun h3 => ?_) (fun h3 => ?_)
      · -- yes h3
        refine Ok.seq ?_
        refine Ok.region ?_
        refine OkO.assign rfl rfl ?_
        refine OkO.nil ?_
        refine Ok.ret ⟨.inr rfl, ?_⟩
        exact back_flat rfl (congrArg AV.bool (bP_false (fun hc => by (have h9 := (agree_at hl).1 hc i hlt (by omega) hif); (have h8 : p.errs[i] < max (row[i] - s0) (s0 - row[i]) := by simpa using h3); omega)).symm) rfl (by rw [← hW]; exact g6)
      · -- no h3
        have hle : max (row[i] - s0) (s0 - row[i]) ≤ p.errs[i] := by simpa using h3
        refine Ok.skip ?_
        refine Ok.region ?_
        refine OkO.move rfl rfl ?_
        refine OkO.bin rfl rfl rfl (bin_add (by omega) (by omega)) ?_
        refine OkO.assign rfl rfl ?_
        refine OkO.nil ?_
        refine ⟨row.length - (i + 1), by omega, i + 1, rfl, by omega, fun g h1 h2 h3 h4 => ?_, Has.of (by kernel_rfl), rfl, rfl⟩
        by_cases e : g = i
        · subst e
          omega
        · exact hall g h1 h2 (by omega) h4
    · -- false g2
      have hif : (i : Int) = f := by simpa using g2
      refine OkP.step ?_
      refine OkO.skip rfl ?_
      refine OkO.nil ⟨rfl, ?_⟩
      refine OkP.step ?_
      refine OkO.skip rfl ?_
      refine OkO.nil ⟨rfl, ?_⟩
      refine OkP.step ?_
      refine OkO.skip rfl ?_
      refine OkO.nil ⟨rfl, ?_⟩
      refine OkP.step ?_
      refine OkO.skip rfl ?_
      refine OkO.nil ⟨rfl, ?_⟩
      refine OkP.step ?_
      refine OkO.skip rfl ?_
      refine OkO.nil ⟨rfl, ?_⟩
      refine OkP.step ?_
      refine OkO.skip rfl ?_
      refine OkO.nil ⟨rfl, ?_⟩
      refine OkP.step ?_
      refine OkO.skip rfl ?_
      refine OkO.nil ⟨rfl, ?_⟩
      refine OkP.step ?_
      refine OkO.skip rfl ?_
      refine OkO.nil ⟨rfl, ?_⟩
      refine OkP.step ?_
      refine OkO.skip rfl ?_
      refine OkO.nil ⟨rfl, ?_⟩
      refine OkP.step ?_
      refine OkO.skip rfl ?_
      refine OkO.nil ⟨rfl, ?_⟩
      refine OkP.step ?_
      refine OkO.skip rfl ?_
      refine OkO.nil ⟨rfl, ?_⟩
      refine OkP.step ?_
      refine OkO.skip rfl ?_
      refine OkO.nil ⟨rfl, ?_⟩
      refine OkP.step ?_
      refine OkO.skip rfl ?_
      refine OkO.nil ⟨rfl, ?_⟩
      refine OkP.step ?_
      refine OkO.skip rfl ?_
      refine OkO.nil ⟨rfl, ?_⟩
      refine OkP.step ?_
      refine OkO.skip rfl ?_
      refine OkO.nil ⟨rfl, ?_⟩
      refine OkP.step ?_
      refine OkO.skip rfl ?_
      refine OkO.nil ⟨rfl, ?_⟩
      refine OkP.step ?_
      refine OkO.skip rfl ?_
      refine OkO.nil ⟨rfl, ?_⟩
      refine OkP.step ?_
      refine OkO.skip rfl ?_
      refine OkO.nil ⟨rfl, ?_⟩
      refine OkP.step ?_
      refine OkO.skip rfl ?_
      refine OkO.nil ⟨rfl, ?_⟩
      refine OkP.step ?_
      refine OkO.pick (b := false) rfl rfl nofun (fun _ => rfl) ?_
      refine OkO.nil ⟨rfl, ?_⟩
      refine OkP.nil ?_
      refine Ok.condF rfl ?_
      refine Ok.skip ?_
      refine Ok.region ?_
      refine OkO.move rfl rfl ?_
      refine OkO.bin rfl rfl rfl (bin_add (by omega) (by omega)) ?_
      refine OkO.assign rfl rfl ?_
      refine OkO.nil ?_
      refine ⟨row.length - (i + 1), by omega, i + 1, rfl, by omega, fun g h1 h2 h3 h4 => ?_, Has.of (by kernel_rfl), rfl, rfl⟩
      by_cases e : g = i
      · subst e
        omega
      · exact hall g h1 h2 (by omega) h4
  · -- no h1
    have hge : row.length ≤ i := by simpa using h1
    refine Ok.exit ?_
    refine Ok.seq ?_
    refine Ok.region ?_
    refine OkO.assign rfl rfl ?_
    refine OkO.nil ?_
    refine Ok.ret ⟨.inr rfl, ?_⟩
    exact back_flat rfl (congrArg AV.bool (bP_true ((agree_at hl).2 (fun g h1 h2 h3 => hall g h1 h2 (by omega) h3))).symm) rfl (by rw [← hW]; exact g6)
theorem c87 (m : Nat) (ev : AV) (p : Pst) (s0 : Int) (H : Heap) (hel : ∃ q, lenOf ev = some q) (hs : 0 ≤ s0 ∧ s0 ≤ 1000) (hpo : (0 ≤ p.gain ∧ p.gain ≤ 200) ∧ (1 ≤ p.fall ∧ p.fall ≤ 1000) ∧ (0 ≤ p.out ∧ p.out ≤ 60) ∧ 0 ≤ p.ahead ∧ p.ahead ≤ 60) : RR (m + 1) (.fn 87 [.agg (p.c ev), I s0]) H = some (I (leftR p s0), H) := by
  refine (R_fn _ _ _ _ _).trans ?_
  refine fn_ok Try.func87 rfl rfl (by kernel_rfl) (by kernel_rfl) ?_
  obtain ⟨W, hW⟩ : ∃ W : Heap, W = ⟨H.t, H.next, H.next⟩ := ⟨_, rfl⟩
  have hg : ∀ n, W.get n = H.get n := fun n => by rw [hW]; rfl
  have hN : W.next = H.next := by rw [hW]
  have hE : ∀ G, Grow W G → Ext H G := fun G g => ⟨by rw [← hN]; exact g.next, fun n k => by rw [g.get n (by rw [hN]; exact k), hg]⟩
  have hG : Grow W W := Grow.refl (by rw [hW]; exact Nat.le_refl _)
  rw [← hW]
  have pev : ev.plain = true := by obtain ⟨q, hq⟩ := hel; exact lpl hq
  refine Ok.seq ?_
  refine Ok.region ?_
  refine OkO.box rfl rfl ?_
  refine OkO.assign rfl rfl ?_
  refine OkO.nil ?_
  refine Ok.seq ?_
  refine Ok.seq ?_
  refine Ok.region ?_
  refine OkO.move rfl rfl ?_
  refine OkO.fieldAddr (o := 3) rfl (by kernel_rfl) rfl ?_
  refine OkO.load rfl rfl (lda (n := 1) (by kernel_rfl) (by first | assumption | (simp (disch := first | omega | (simp only [hNw, hPt]; omega)) only [gn0, gn1, gn2, gn3, gn4, gn5, gp0, gno, gpo] <;> first | rfl | assumption | exact gp0 _ _ _ | exact gn0 _ _)) (by first | rfl | assumption)) ?_
  refine OkO.bin rfl rfl rfl (bin_geq _ _) ?_
  refine OkO.nil ?_
  refine Ok.cond rfl (fun h1 => ?_) (fun h1 => ?_)
  · -- yes h1
    have e1 : p.fall ≤ s0 := by simpa using h1
    refine Ok.seq ?_
    refine Ok.region ?_
    refine OkO.assign rfl rfl ?_
    refine OkO.nil ?_
    refine Ok.ret ⟨.inr rfl, ?_⟩
    exact back_flat rfl (congrArg I (by rw [leftR, if_pos e1])) rfl (by rw [← hW]; exact (by (try dsimp only); repeat (first | exact hG | apply Grow.new | (refine Grow.put ?_ _ (by first | omega | (simp only [hNw, hPt]; omega))))))
  · -- no h1
    have e1 : ¬ p.fall ≤ s0 := by simpa using h1
    refine Ok.skip ?_
    refine Ok.seq ?_
    refine Ok.seq ?_
    refine Ok.region ?_
    refine OkO.fieldAddr (o := 1) rfl (by kernel_rfl) rfl ?_
    refine OkO.load rfl rfl (lda (n := 1) (by kernel_rfl) (by first | assumption | (simp (disch := first | omega | (simp only [hNw, hPt]; omega)) only [gn0, gn1, gn2, gn3, gn4, gn5, gp0, gno, gpo] <;> first | rfl | assumption | exact gp0 _ _ _ | exact gn0 _ _)) (by first | rfl | assumption)) ?_
    refine OkO.bin rfl rfl rfl (bin_eql _ _) ?_
    refine OkO.nil ?_
    refine Ok.cond rfl (fun h2 => ?_) (fun h2 => ?_)
    · -- yes h2
      have e2 : p.gain = 0 := by simpa using h2
      refine Ok.seq ?_
      refine Ok.region ?_
      refine OkO.assign rfl rfl ?_
      refine OkO.nil ?_
      refine Ok.ret ⟨.inr rfl, ?_⟩
      exact back_flat rfl (congrArg I (by rw [leftR, if_neg e1, if_pos e2])) rfl (by rw [← hW]; exact (by (try dsimp only); repeat (first | exact hG | apply Grow.new | (refine Grow.put ?_ _ (by first | omega | (simp only [hNw, hPt]; omega))))))
    · -- no h2
      have e2 : ¬ p.gain = 0 := by simpa using h2
      refine Ok.skip ?_
      refine Ok.seq ?_
      refine Ok.region ?_
      refine OkO.assign rfl rfl ?_
      refine OkO.nil ?_
      refine Ok.seq ?_
      refine Ok.block ?_
      obtain ⟨H6, hH6⟩ : ∃ H6, H6 = W.new (.cells (p.c ev) 24) := ⟨_, rfl⟩
      have e6 : (H6.get W.next).bind AObj.cs = some (p.c ev) := by rw [hH6, gn0]; rfl
      have g6 : Grow W H6 := by rw [hH6]; exact hG.new _
      refine Ok.loop (fun n s => ∃ i : Nat, n = 1001 - i ∧ i ≤ 1000 ∧ (0 < i → s0 + ((i : Int) - 1) * p.gain < p.fall) ∧ Has 5 [(1, I s0), (2, .ptr W.next 0), (5, I (i : Int))] s.T ∧ s.D = [] ∧ s.H = H6) (1001) (by unfold loopFuel; omega)
        ⟨0, rfl, by omega, fun h => absurd h (Nat.lt_irrefl 0), Has.of (by kernel_rfl), rfl, by rw [hH6]; rfl⟩ ?_
      rintro n ⟨T, D, G⟩ ⟨i, hn, hi, hlast, ⟨f_, hT⟩, hD, hg9⟩
      dsimp only at *
      subst hT hD
      skip
      subst hg9
      have him : (i : Int) * 1 ≤ (i : Int) * p.gain := Int.mul_le_mul_of_nonneg_left (by omega) (by omega)
      have him2 : (i : Int) * p.gain ≤ (i : Int) * 200 := Int.mul_le_mul_of_nonneg_left (by omega) (by omega)
      refine Ok.seq ?_
      refine Ok.seq ?_
      refine Ok.region ?_
      refine OkO.move rfl rfl ?_
      refine OkO.move rfl rfl ?_
      refine OkO.fieldAddr (o := 1) rfl (by kernel_rfl) rfl ?_
      refine OkO.load rfl rfl (lda (n := 1) (by kernel_rfl) (by first | assumption | (simp (disch := first | omega | (simp only [hNw, hPt]; omega)) only [gn0, gn1, gn2, gn3, gn4, gn5, gp0, gno, gpo] <;> first | rfl | assumption | exact gp0 _ _ _ | exact gn0 _ _)) (by first | rfl | assumption)) ?_
      refine OkO.bin rfl rfl rfl (bin_mul (by omega) (by omega)) ?_
      refine OkO.bin rfl rfl rfl (bin_add (by omega) (by omega)) ?_
      refine OkO.fieldAddr (o := 3) rfl (by kernel_rfl) rfl ?_
      refine OkO.load rfl rfl (lda (n := 1) (by kernel_rfl) (by first | assumption | (simp (disch := first | omega | (simp only [hNw, hPt]; omega)) only [gn0, gn1, gn2, gn3, gn4, gn5, gp0, gno, gpo] <;> first | rfl | assumption | exact gp0 _ _ _ | exact gn0 _ _)) (by first | rfl | assumption)) ?_
      refine OkO.bin rfl rfl rfl (bin_lss _ _) ?_
      refine OkO.nil ?_
      refine Ok.cond rfl (fun h3 => ?_) (fun h3 => ?_)
      · -- yes h3
        have e3 : s0 + (i : Int) * p.gain < p.fall := by simpa using h3
        refine Ok.skip ?_
        refine Ok.block ?_
        refine Ok.region ?_
        refine OkO.move rfl rfl ?_
        refine OkO.bin rfl rfl rfl (bin_add (by omega) (by omega)) ?_
        refine OkO.assign rfl rfl ?_
        refine OkO.nil ?_
        refine ⟨1001 - (i + 1), by omega, i + 1, rfl, by omega, fun _ => by rw [show ((i + 1 : Nat) : Int) - 1 = (i : Int) from by omega]; omega, Has.of (by kernel_rfl), rfl, rfl⟩
      · -- no h3
        have e3 : ¬ s0 + (i : Int) * p.gain < p.fall := by simpa using h3
        have hi0 : 0 < i := by (rcases Nat.eq_zero_or_pos i with h | h); (· subst h; simp at e3; omega); (· exact h)
        refine Ok.exit ?_
        refine Ok.seq ?_
        refine Ok.region ?_
        refine OkO.move rfl rfl ?_
        refine OkO.assign rfl rfl ?_
        refine OkO.nil ?_
        refine Ok.ret ⟨.inr rfl, ?_⟩
        exact back_flat rfl (congrArg I (by rw [leftR, if_neg e1, if_neg e2]; exact (left_div (by omega) (by omega) (by have h9 := hlast hi0; omega)).symm)) rfl (by rw [← hW]; exact g6)
theorem left_bd {p : Pst} {s : Int} (hs : 0 ≤ s ∧ s ≤ 1000) (hp : (0 ≤ p.gain ∧ p.gain ≤ 200) ∧ (1 ≤ p.fall ∧ p.fall ≤ 1000) ∧ (0 ≤ p.out ∧ p.out ≤ 60) ∧ 0 ≤ p.ahead ∧ p.ahead ≤ 60) : leftR p s ≤ 10000 ∧ -1 ≤ leftR p s := by
  unfold leftR
  split
  · omega
  · split
    · omega
    · have h8 := Int.mul_le_mul_of_nonneg_left (a := 1) (b := p.gain) (c := 2000) (by omega) (by omega)
      have h9 := (Int.ediv_lt_iff_lt_mul (a := p.fall - s + p.gain - 1) (b := 2000) (c := p.gain) (by omega)).2 (by omega)
      have h7 := Int.ediv_nonneg (a := p.fall - s + p.gain - 1) (b := p.gain) (by omega) (by omega)
      omega
theorem c65 (m : Nat) (ev : AV) (p : Pst) (s0 : Int) (H : Heap) (hel : ∃ q, lenOf ev = some q) (hs : 0 ≤ s0 ∧ s0 ≤ 1000) (hpo : (0 ≤ p.gain ∧ p.gain ≤ 200) ∧ (1 ≤ p.fall ∧ p.fall ≤ 1000) ∧ (0 ≤ p.out ∧ p.out ≤ 60) ∧ 0 ≤ p.ahead ∧ p.ahead ≤ 60) : RR (m + 2) (.fn 65 [.agg (p.c ev), I s0]) H = some (.int .u8 (levelI p s0), H) := by
  refine (R_fn _ _ _ _ _).trans ?_
  refine fn_ok Try.func65 rfl rfl (by kernel_rfl) (by kernel_rfl) ?_
  obtain ⟨W, hW⟩ : ∃ W : Heap, W = ⟨H.t, H.next, H.next⟩ := ⟨_, rfl⟩
  have hg : ∀ n, W.get n = H.get n := fun n => by rw [hW]; rfl
  have hN : W.next = H.next := by rw [hW]
  have hE : ∀ G, Grow W G → Ext H G := fun G g => ⟨by rw [← hN]; exact g.next, fun n k => by rw [g.get n (by rw [hN]; exact k), hg]⟩
  have hG : Grow W W := Grow.refl (by rw [hW]; exact Nat.le_refl _)
  rw [← hW]
  have pev : ev.plain = true := by obtain ⟨q, hq⟩ := hel; exact lpl hq
  have hl0 : leftR p s0 ≤ 10000 ∧ -1 ≤ leftR p s0 := left_bd hs hpo
  refine Ok.seq ?_
  refine Ok.region ?_
  refine OkO.box rfl rfl ?_
  refine OkO.assign rfl rfl ?_
  refine OkO.nil ?_
  refine Ok.seq ?_
  refine Ok.region ?_
  refine OkO.load rfl rfl (ldg (n := 6) (by kernel_rfl) (by first | assumption | (simp (disch := first | omega | (simp only [hNw, hPt]; omega)) only [gn0, gn1, gn2, gn3, gn4, gn5, gp0, gno, gpo] <;> first | rfl | assumption | exact gp0 _ _ _ | exact gn0 _ _)) (by first | rfl | assumption)) ?_
  refine OkO.move rfl rfl ?_
  refine OkO.callV rfl rfl rfl rfl rfl (c87 (m + 0) ev p s0 _ hel hs hpo) ?_ -- "sackung/sackungref04.Left"
  refine OkO.assign rfl rfl ?_
  refine OkO.nil ?_
  refine Ok.seq ?_
  refine Ok.seq ?_
  refine Ok.region ?_
  refine OkO.move rfl rfl ?_
  refine OkO.bin rfl rfl rfl (bin_lss _ _) ?_
  refine OkO.move rfl rfl ?_
  refine OkO.split (d := 11) rfl (fun g1 => ?_) (fun g1 => ?_)
  · -- true g1
    have eg1 : leftR p s0 < 0 := by simpa using g1
    refine OkO.skip rfl ?_
    refine OkO.skip rfl ?_
    refine OkO.skip rfl ?_
    refine OkO.skip rfl ?_
    refine OkO.skip rfl ?_
    refine OkO.skip rfl ?_
    refine OkO.skip rfl ?_
    refine OkO.skip rfl ?_
    refine OkO.pick (b := true) rfl rfl (fun _ => rfl) nofun ?_
    refine OkO.nil ?_
    refine Ok.condT rfl ?_
    refine Ok.seq ?_
    refine Ok.region ?_
    refine OkO.assign rfl rfl ?_
    refine OkO.nil ?_
    refine Ok.ret ⟨.inr rfl, ?_⟩
    exact back_flat rfl (congrArg (AV.int .u8) (by rw [level_left hpo, if_pos (by omega)])) rfl (by rw [← hW]; exact (by (try dsimp only); repeat (first | exact hG | apply Grow.new | (refine Grow.put ?_ _ (by first | omega | (simp only [hNw, hPt]; omega))))))
  · -- false g1
    have eg1 : ¬ leftR p s0 < 0 := by simpa using g1
    refine OkO.move rfl rfl ?_
    refine OkO.fieldAddr (o := 4) rfl (by kernel_rfl) rfl ?_
    refine OkO.load rfl rfl (lda (n := 1) (by kernel_rfl) (by first | assumption | (simp (disch := first | omega | (simp only [hNw, hPt]; omega)) only [gn0, gn1, gn2, gn3, gn4, gn5, gp0, gno, gpo] <;> first | rfl | assumption | exact gp0 _ _ _ | exact gn0 _ _)) (by first | rfl | assumption)) ?_
    refine OkO.fieldAddr (o := 5) rfl (by kernel_rfl) rfl ?_
    refine OkO.load rfl rfl (lda (n := 1) (by kernel_rfl) (by first | assumption | (simp (disch := first | omega | (simp only [hNw, hPt]; omega)) only [gn0, gn1, gn2, gn3, gn4, gn5, gp0, gno, gpo] <;> first | rfl | assumption | exact gp0 _ _ _ | exact gn0 _ _)) (by first | rfl | assumption)) ?_
    refine OkO.bin rfl rfl rfl (bin_mul (by omega) (by omega)) ?_
    refine OkO.bin rfl rfl rfl (bin_add (by omega) (by omega)) ?_
    refine OkO.bin rfl rfl rfl (bin_gtr _ _) ?_
    refine OkO.pick (b := false) rfl rfl nofun (fun _ => rfl) ?_
    refine OkO.nil ?_
    refine Ok.cond rfl (fun h2 => ?_) (fun h2 => ?_)
    · -- yes h2
      have eh2 : p.out + 2 * p.ahead < leftR p s0 := by simpa using h2
      refine Ok.seq ?_
      refine Ok.region ?_
      refine OkO.assign rfl rfl ?_
      refine OkO.nil ?_
      refine Ok.ret ⟨.inr rfl, ?_⟩
      exact back_flat rfl (congrArg (AV.int .u8) (by rw [level_left hpo, if_pos (by omega)])) rfl (by rw [← hW]; exact (by (try dsimp only); repeat (first | exact hG | apply Grow.new | (refine Grow.put ?_ _ (by first | omega | (simp only [hNw, hPt]; omega))))))
    · -- no h2
      have eh2 : ¬ p.out + 2 * p.ahead < leftR p s0 := by simpa using h2
      refine Ok.skip ?_
      refine Ok.seq ?_
      refine Ok.seq ?_
      refine Ok.region ?_
      refine OkO.move rfl rfl ?_
      refine OkO.fieldAddr (o := 4) rfl (by kernel_rfl) rfl ?_
      refine OkO.load rfl rfl (lda (n := 1) (by kernel_rfl) (by first | assumption | (simp (disch := first | omega | (simp only [hNw, hPt]; omega)) only [gn0, gn1, gn2, gn3, gn4, gn5, gp0, gno, gpo] <;> first | rfl | assumption | exact gp0 _ _ _ | exact gn0 _ _)) (by first | rfl | assumption)) ?_
      refine OkO.fieldAddr (o := 5) rfl (by kernel_rfl) rfl ?_
      refine OkO.load rfl rfl (lda (n := 1) (by kernel_rfl) (by first | assumption | (simp (disch := first | omega | (simp only [hNw, hPt]; omega)) only [gn0, gn1, gn2, gn3, gn4, gn5, gp0, gno, gpo] <;> first | rfl | assumption | exact gp0 _ _ _ | exact gn0 _ _)) (by first | rfl | assumption)) ?_
      refine OkO.bin rfl rfl rfl (bin_add (by omega) (by omega)) ?_
      refine OkO.bin rfl rfl rfl (bin_gtr _ _) ?_
      refine OkO.nil ?_
      refine Ok.cond rfl (fun h3 => ?_) (fun h3 => ?_)
      · -- yes h3
        have eh3 : p.out + p.ahead < leftR p s0 := by simpa using h3
        refine Ok.seq ?_
        refine Ok.region ?_
        refine OkO.assign rfl rfl ?_
        refine OkO.nil ?_
        refine Ok.ret ⟨.inr rfl, ?_⟩
        exact back_flat rfl (congrArg (AV.int .u8) (by rw [level_left hpo, if_neg (by omega), if_pos (by omega)])) rfl (by rw [← hW]; exact (by (try dsimp only); repeat (first | exact hG | apply Grow.new | (refine Grow.put ?_ _ (by first | omega | (simp only [hNw, hPt]; omega))))))
      · -- no h3
        have eh3 : ¬ p.out + p.ahead < leftR p s0 := by simpa using h3
        refine Ok.skip ?_
        refine Ok.seq ?_
        refine Ok.seq ?_
        refine Ok.region ?_
        refine OkO.move rfl rfl ?_
        refine OkO.fieldAddr (o := 4) rfl (by kernel_rfl) rfl ?_
        refine OkO.load rfl rfl (lda (n := 1) (by kernel_rfl) (by first | assumption | (simp (disch := first | omega | (simp only [hNw, hPt]; omega)) only [gn0, gn1, gn2, gn3, gn4, gn5, gp0, gno, gpo] <;> first | rfl | assumption | exact gp0 _ _ _ | exact gn0 _ _)) (by first | rfl | assumption)) ?_
        refine OkO.bin rfl rfl rfl (bin_gtr _ _) ?_
        refine OkO.nil ?_
        refine Ok.cond rfl (fun h4 => ?_) (fun h4 => ?_)
        · -- yes h4
          have eh4 : p.out < leftR p s0 := by simpa using h4
          refine Ok.seq ?_
          refine Ok.region ?_
          refine OkO.assign rfl rfl ?_
          refine OkO.nil ?_
          refine Ok.ret ⟨.inr rfl, ?_⟩
          exact back_flat rfl (congrArg (AV.int .u8) (by rw [level_left hpo, if_neg (by omega), if_neg (by omega), if_pos (by omega)])) rfl (by rw [← hW]; exact (by (try dsimp only); repeat (first | exact hG | apply Grow.new | (refine Grow.put ?_ _ (by first | omega | (simp only [hNw, hPt]; omega))))))
        · -- no h4
          have eh4 : ¬ p.out < leftR p s0 := by simpa using h4
          refine Ok.skip ?_
          refine Ok.seq ?_
          refine Ok.region ?_
          refine OkO.assign rfl rfl ?_
          refine OkO.nil ?_
          refine Ok.ret ⟨.inr rfl, ?_⟩
          exact back_flat rfl (congrArg (AV.int .u8) (by rw [level_left hpo, if_neg (by omega), if_neg (by omega), if_neg (by omega)])) rfl (by rw [← hW]; exact (by (try dsimp only); repeat (first | exact hG | apply Grow.new | (refine Grow.put ?_ _ (by first | omega | (simp only [hNw, hPt]; omega))))))
end
end Go.Ev

set_option maxRecDepth 100000
set_option linter.unusedSimpArgs false
set_option linter.unusedVariables false
namespace Go.Ev
open Go Go.Proofs
noncomputable section
/-- Bools and numbers as they lie. -/
def bl (N : Nat) (g : Nat → Bool) : List AV := (List.range N).map fun k => .bool (g k)
def il (N : Nat) (g : Nat → Nat) : List AV := (List.range N).map fun k => I (g k : Int)
theorem bl_len (N : Nat) (g : Nat → Bool) : (bl N g).length = N := by simp [bl]
theorem il_len (N : Nat) (g : Nat → Nat) : (il N g).length = N := by simp [il]
theorem bl_get {N : Nat} (g : Nat → Bool) {k : Nat} (h : k < N) : (bl N g)[0 + k * 1]? = some (.bool (g k)) := by simp [bl, h]
theorem il_get {N : Nat} (g : Nat → Nat) {k : Nat} (h : k < N) : (il N g)[0 + k * 1]? = some (I (g k : Int)) := by simp [il, h]
theorem bl_congr {N : Nat} {g g' : Nat → Bool} (h : ∀ j, j < N → g j = g' j) : bl N g = bl N g' := List.map_congr_left fun k hk => by rw [h k (List.mem_range.1 hk)]
theorem il_congr {N : Nat} {g g' : Nat → Nat} (h : ∀ j, j < N → g j = g' j) : il N g = il N g' := List.map_congr_left fun k hk => by rw [h k (List.mem_range.1 hk)]
theorem set_map {α : Type} {N : Nat} (f : Nat → α) (i : Nat) (x : α) : ((List.range N).map f).set i x = (List.range N).map fun j => if j = i then x else f j := by
  apply List.ext_getElem?
  intro k
  rw [List.getElem?_set]
  by_cases hk : k < N
  · by_cases e : i = k
    · subst e; simp [hk]
    · rw [if_neg e]; simp [hk, show ¬ k = i from fun h => e h.symm]
  · by_cases e : i = k
    · subst e; simp [hk]
    · rw [if_neg e]; simp [hk]
theorem spl_bl {N : Nat} (g : Nat → Bool) {i : Nat} {b : Bool} (h : i < N) : spl (bl N g) (0 + i * 1) (AV.bool b).cells = some (bl N fun j => if j = i then b else g j) := by
  rw [show (AV.bool b).cells = [AV.bool b] from rfl, spl_one (by rw [bl_len]; omega)]
  unfold bl
  rw [show 0 + i * 1 = i from by omega, set_map]
  congr 1
  apply List.map_congr_left
  intro k _
  dsimp only
  by_cases e : k = i
  · rw [if_pos e, if_pos e]
  · rw [if_neg e, if_neg e]
theorem spl_il {N : Nat} (g : Nat → Nat) {i z : Nat} {x : AV} (h : i < N) (hx : x = I (z : Int)) : spl (il N g) (0 + i * 1) x.cells = some (il N fun j => if j = i then z else g j) := by
  subst hx
  rw [show (I (z : Int)).cells = [I (z : Int)] from rfl, spl_one (by rw [il_len]; omega)]
  unfold il
  rw [show 0 + i * 1 = i from by omega, set_map]
  congr 1
  apply List.map_congr_left
  intro k _
  dsimp only
  by_cases e : k = i
  · rw [if_pos e, if_pos e]
  · rw [if_neg e, if_neg e]
theorem rep_bl : ∀ n : Nat, rep [.bool false] n = bl n fun _ => false
  | 0 => rfl
  | n + 1 => by
    show [AV.bool false] ++ rep [.bool false] n = _
    rw [rep_bl n]
    unfold bl
    rw [List.range_succ_eq_map, List.map_cons, List.map_map]
    rfl
theorem rep_il : ∀ n : Nat, rep [I 0] n = il n fun _ => 0
  | 0 => rfl
  | n + 1 => by
    show [I 0] ++ rep [I 0] n = _
    rw [rep_il n]
    unfold il
    rw [List.range_succ_eq_map, List.map_cons, List.map_map]
    rfl
/-- How many are true below. -/
def cntN (g : Nat → Bool) : Nat → Nat
  | 0 => 0
  | i + 1 => cntN g i + (if g i = true then 1 else 0)
theorem cntN_le (g : Nat → Bool) : ∀ i, cntN g i ≤ i
  | 0 => Nat.le_refl _
  | i + 1 => by have := cntN_le g i; show cntN g i + _ ≤ _; split <;> omega
theorem cntN_mono (g : Nat → Bool) {i : Nat} : ∀ {j : Nat}, i ≤ j → cntN g i ≤ cntN g j
  | 0, h => by rw [Nat.le_zero.1 h]; exact Nat.le_refl _
  | j + 1, h => by
    rcases Nat.lt_or_eq_of_le h with h | h
    · exact Nat.le_trans (cntN_mono g (Nat.le_of_lt_succ h)) (Nat.le_add_right _ _)
    · rw [h]; exact Nat.le_refl _
theorem cntN_lt {g : Nat → Bool} {lo : Nat} : ∀ {hi : Nat}, lo ≤ hi → (cntN g lo < cntN g hi ↔ ∃ j, lo ≤ j ∧ j < hi ∧ g j = true)
  | 0, h => by rw [Nat.le_zero.1 h]; exact ⟨fun h => absurd h (Nat.lt_irrefl _), fun ⟨j, _, h, _⟩ => absurd h (Nat.not_lt_zero _)⟩
  | hi + 1, h => by
    by_cases e : lo = hi + 1
    · rw [e]; exact ⟨fun h => absurd h (Nat.lt_irrefl _), fun ⟨j, h1, h2, _⟩ => by omega⟩
    · have hle : lo ≤ hi := by omega
      have ih := cntN_lt (g := g) hle
      have hm := cntN_mono g hle
      show cntN g lo < cntN g hi + (if g hi = true then 1 else 0) ↔ _
      by_cases hg : g hi = true
      · rw [if_pos hg]
        exact ⟨fun _ => ⟨hi, hle, by omega, hg⟩, fun _ => by omega⟩
      · rw [if_neg hg, Nat.add_zero, ih]
        constructor
        · rintro ⟨j, h1, h2, h3⟩; exact ⟨j, h1, by omega, h3⟩
        · rintro ⟨j, h1, h2, h3⟩
          have : j ≠ hi := fun e => hg (by rw [← e]; exact h3)
          exact ⟨j, h1, by omega, h3⟩
/-- Of each speed, whether it is in a range. -/
def fl (x : Iv) (v : Nat) : Bool := bP (inI (v : Int) x)
/-- A speed has one before it just if the ranges meet. -/
theorem comes_iff {p : Pst} {x : Iv} (hx : Prp x) (hb : x ≠ nul → 0 ≤ x.1 ∧ x.2 ≤ 1000) {v : Int} (hv : 0 ≤ v ∧ v ≤ 1000) (hpg : 0 ≤ p.gain) (hpd : 0 ≤ p.drop) {lo hi : Nat} (hlo : (lo : Int) = max 0 (v - p.gain)) (hhi : (hi : Int) = min 1000 (v + p.drop)) :
    cntN (fl x) lo < cntN (fl x) (hi + 1) ↔ x ≠ nul ∧ x.1 - p.drop ≤ v ∧ v ≤ x.2 + p.gain := by
  rw [cntN_lt (by omega)]
  constructor
  · rintro ⟨j, h1, h2, h3⟩
    have h4 : inI (j : Int) x := bP_iff.1 h3
    have hn : x ≠ nul := fun e => by rw [e] at h4; exact not_nul _ h4
    unfold inI at h4
    exact ⟨hn, by omega, by omega⟩
  · rintro ⟨hn, h1, h2⟩
    obtain ⟨b1, b2⟩ := hb hn
    have h3 : x.1 ≤ x.2 := by
      rcases hx with h | h
      · exact absurd h hn
      · exact h
    refine ⟨(max (lo : Int) x.1).toNat, by omega, by omega, bP_true ?_⟩
    unfold inI
    omega
def nextI (p : Pst) (f : Int) (x : Iv) (row : List Int) : Iv := if x = nul then nul else stepI p f x row
theorem next_iff {p : Pst} {f : Int} {x : Iv} {row : List Int} {v : Int} (hv : 0 ≤ v ∧ v ≤ 1000) : inI v (nextI p f x row) ↔ (x ≠ nul ∧ x.1 - p.drop ≤ v ∧ v ≤ x.2 + p.gain) ∧ AgreeR p f row v := by
  unfold nextI
  by_cases h : x = nul
  · rw [if_pos h]
    exact ⟨fun h9 => absurd h9 (not_nul _), fun h9 => absurd h h9.1.1⟩
  · rw [if_neg h, mem_step]
    exact ⟨fun h9 => ⟨⟨h, h9.2.1⟩, h9.2.2⟩, fun h9 => ⟨hv, h9.1.2, h9.2⟩⟩
/-- What was there, but for one block. -/
structure At1 (K B : Nat) (G : Heap) (o : AObj) (H : Heap) : Prop where
  nx : H.next = G.next
  oth : ∀ j, j ≠ B → H.get j = G.get j
  self : H.get B = some o
  lo : K ≤ H.lo
theorem At1.start {K B : Nat} {G : Heap} {o : AObj} (h : G.get B = some o) (hl : K ≤ G.lo) : At1 K B G o G := ⟨rfl, fun _ _ => rfl, h, hl⟩
theorem At1.put {K B : Nat} {G H : Heap} {o o' : AObj} (h : At1 K B G o H) (hk : K ≤ B) : At1 K B G o' (H.put B o') :=
  ⟨by simp [h.nx], fun j hj => by rw [gpo _ _ _ _ hj]; exact h.oth j hj, gp0 _ _ _, by rw [Heap.lo_put]; have := h.lo; omega⟩
theorem At1.grow {W G H : Heap} {B : Nat} {o : AObj} (h : At1 W.next B G o H) (g : Grow W G) (hk : W.next ≤ B) : Grow W H :=
  ⟨by rw [h.nx]; exact g.next, fun n hn => by rw [h.oth n (by omega)]; exact g.get n hn, h.lo⟩
theorem At1.to {K B : Nat} {G H : Heap} {o o' : AObj} (h : At1 K B G o H) (e : o = o') : At1 K B G o' H := e ▸ h
end
end Go.Ev

set_option maxRecDepth 100000
set_option linter.unusedSimpArgs false
set_option linter.unusedVariables false
namespace Go.Ev
open Go Go.Proofs
noncomputable section
theorem l3_yes {N : Nat} {g : Nat → Bool} {i : Nat} (h : g i = true) : il N (fun j => if j = i + 1 then cntN g i + 1 else if j = i + 1 then cntN g i else if j ≤ i then cntN g j else 0) = il N fun j => if j ≤ i + 1 then cntN g j else 0 := il_congr fun j _ => by
  by_cases e : j = i + 1
  · subst e
    rw [if_pos rfl, if_pos (Nat.le_refl _)]
    show _ = cntN g i + (if g i = true then 1 else 0)
    rw [if_pos h]
  · rw [if_neg e, if_neg e]
    by_cases e2 : j ≤ i
    · rw [if_pos e2, if_pos (by omega)]
    · rw [if_neg e2, if_neg (by omega)]
theorem l3_no {N : Nat} {g : Nat → Bool} {i : Nat} (h : ¬ g i = true) : il N (fun j => if j = i + 1 then cntN g i else if j ≤ i then cntN g j else 0) = il N fun j => if j ≤ i + 1 then cntN g j else 0 := il_congr fun j _ => by
  by_cases e : j = i + 1
  · subst e
    rw [if_pos rfl, if_pos (Nat.le_refl _)]
    show _ = cntN g i + (if g i = true then 1 else 0)
    rw [if_neg h]; rfl
  · rw [if_neg e]
    by_cases e2 : j ≤ i
    · rw [if_pos e2, if_pos (by omega)]
    · rw [if_neg e2, if_neg (by omega)]
theorem l4_step {N : Nat} {g : Nat → Bool} {i : Nat} {b : Bool} (h : b = g i) : bl N (fun j => if j = i then b else decide (j < i) && g j) = bl N fun j => decide (j < i + 1) && g j := bl_congr fun j _ => by
  by_cases e : j = i
  · subst e; rw [if_pos rfl, h]; simp
  · rw [if_neg e]
    by_cases e2 : j < i
    · rw [decide_eq_true e2, decide_eq_true (show j < i + 1 by omega)]
    · rw [decide_eq_false e2, decide_eq_false (show ¬ j < i + 1 by omega)]
theorem last_next {p : Pst} {f : Int} {rows : List (List Int)} {h : Nat} (hh : h < rows.length) : lastI p f (rows.take (h + 1)) = nextI p f (lastI p f (rows.take h)) rows[h] := by
  rw [List.take_succ_eq_append_getElem hh, lastI_snoc]; rfl
theorem last_in {p : Pst} {f : Int} {rows : List (List Int)} (h : lastI p f rows ≠ nul) : 0 ≤ (lastI p f rows).1 ∧ (lastI p f rows).2 ≤ 1000 := by
  have h4 : (lastI p f rows).1 ≤ (lastI p f rows).2 := by
    rcases last_prp p f rows with h9 | h9
    · exact absurd h9 h
    · exact h9
  exact ⟨(last_bd ⟨Int.le_refl _, h4⟩).1, (last_bd ⟨h4, Int.le_refl _⟩).2⟩
theorem c33 (m : Nat) (ev rv : AV) (p : Pst) (rows : List (List Int)) (f : Int) (H : Heap) (hV : Ints H ev p.errs) (hRs : LstAt H rv rows) (hpl : p.errs.length ≤ 100000) (hlens : ∀ r ∈ rows, r.length = p.errs.length) (hrbd : ∀ r ∈ rows, ∀ x ∈ r, -1000 ≤ x ∧ x ≤ 2000) (hpg : 0 ≤ p.gain ∧ p.gain ≤ 200) (hpd : 0 ≤ p.drop ∧ p.drop ≤ 200) (hrl : rows.length ≤ 100000) : ∃ v H', RR (m + 2) (.fn 33 [.agg (p.c ev), rv, I f]) H = some (v, H') ∧ ∃ b, v = .slice b 0 1001 1001 ∧ Ret H H' ∧ H.next ≤ b ∧ b < H'.next ∧ H'.get b = some (.cells (bl 1001 (fl (lastI p f rows))) 4) := by
  show ∃ v H', evFn Try.prog (RR (m + 1)) 33 [.agg (p.c ev), rv, I f] H = some (v, H') ∧ ∃ b, v = .slice b 0 1001 1001 ∧ Ret H H' ∧ H.next ≤ b ∧ b < H'.next ∧ H'.get b = some (.cells (bl 1001 (fl (lastI p f rows))) 4)
  refine fn_okE Try.func33 rfl rfl (by kernel_rfl) (by kernel_rfl) ?_
  obtain ⟨W, hW⟩ : ∃ W : Heap, W = ⟨H.t, H.next, H.next⟩ := ⟨_, rfl⟩
  have hg : ∀ n, W.get n = H.get n := fun n => by rw [hW]; rfl
  have hN : W.next = H.next := by rw [hW]
  have hE : ∀ G, Grow W G → Ext H G := fun G g => ⟨by rw [← hN]; exact g.next, fun n k => by rw [g.get n (by rw [hN]; exact k), hg]⟩
  have hG : Grow W W := Grow.refl (by rw [hW]; exact Nat.le_refl _)
  rw [← hW]
  have pev : ev.plain = true := lpl hV.len
  have hrn := hRs.len
  refine Ok.seq ?_
  refine Ok.region ?_
  refine OkO.box rfl rfl ?_
  refine OkO.assign rfl rfl ?_
  refine OkO.nil ?_
  refine Ok.seq ?_
  refine Ok.region ?_
  refine OkO.makeSlice (el := 4) (sz := 1) (z := [.bool false]) (n := 1001) (by_ := 1) rfl (by kernel_rfl) (by kernel_rfl) (by omega) rfl rfl (by omega) ?_
  refine OkO.assign rfl rfl ?_
  refine OkO.nil ?_
  refine Ok.seq ?_
  refine Ok.seq ?_
  refine Ok.region ?_
  refine OkO.assign rfl rfl ?_
  refine OkO.nil ?_
  refine Ok.block ?_
  obtain ⟨B1, hB1⟩ : ∃ B1, B1 = (W.new (.cells (p.c ev) 24)).new (.cells (rep [.bool false] 1001) 4) := ⟨_, rfl⟩
  have gB1 : Grow W B1 := by rw [hB1]; exact (hG.new _).new _
  have eB1 : (B1.get W.next).bind AObj.cs = some (p.c ev) := by rw [hB1, gno _ _ _ (by simp), gn0]; rfl
  have nB1 : B1.next = W.next + 2 := by rw [hB1]; simp
  have sB1 : B1.get (W.next + 1) = some (.cells (bl 1001 fun j => decide (j < 0)) 4) := by rw [hB1, show W.next + 1 = (W.new (.cells (p.c ev) 24)).next from by simp, gn0, rep_bl, bl_congr (g := fun _ => false) (g' := fun j => decide (j < 0)) (fun j _ => by simp)]
  refine Ok.loop (fun n s => ∃ i : Nat, n = 1001 - i ∧ i ≤ 1001 ∧ Has 7 [(1, rv), (2, I f), (3, .ptr W.next 0), (7, .slice (W.next + 1) 0 1001 1001), (8, I (i : Int))] s.T ∧ s.D = [] ∧ At1 W.next (W.next + 1) B1 (.cells (bl 1001 fun j => decide (j < i)) 4) s.H) (1001) (by unfold loopFuel; omega)
    ⟨0, rfl, by omega, Has.of (by kernel_rfl), rfl, by subst hB1; exact At1.start sB1 gB1.lo⟩ ?_
  rintro n ⟨T, D, G⟩ ⟨i, hn, hi, ⟨f_, hT⟩, hD, hat⟩
  dsimp only at *
  subst hT hD
  skip
  have hself := hat.self
  have hselfb : (G.get (W.next + 1)).bind AObj.cs = some (bl 1001 fun j => decide (j < i)) := by rw [hself]; rfl
  refine Ok.seq ?_
  refine Ok.seq ?_
  refine Ok.region ?_
  refine OkO.move rfl rfl ?_
  refine OkO.bin rfl rfl rfl (bin_leq _ _) ?_
  refine OkO.nil ?_
  refine Ok.cond rfl (fun h1 => ?_) (fun h1 => ?_)
  · -- yes h1
    have hlt : i < 1001 := by (have h9 : (i : Int) ≤ 1000 := by simpa using h1); omega
    have hsl := slAt_slice (b := W.next + 1) (off := 0) (cap := 1001) (sz := 1) hlt
    refine Ok.skip ?_
    refine Ok.seq ?_
    refine Ok.block ?_
    refine Ok.region ?_
    refine OkO.move rfl rfl ?_
    refine OkO.move rfl rfl ?_
    refine OkO.index (sz := 1) (n := i) rfl rfl rfl (by kernel_rfl) (by first | assumption | rfl | exact slAt_slice (by omega) | exact slAt_opn (by omega)) ?_ -- index ('Go.Operand.tmp', 22) ('Go.Operand.tmp', 23)
    refine OkO.store rfl rfl rfl (sAc (n := 1) (ag := false) (by kernel_rfl) (hself) rfl (rfl) (spl_bl _ hlt)) ?_
    refine OkO.nil ?_
    refine Ok.region ?_
    refine OkO.move rfl rfl ?_
    refine OkO.bin rfl rfl rfl (bin_add (by omega) (by omega)) ?_
    refine OkO.assign rfl rfl ?_
    refine OkO.nil ?_
    refine ⟨1001 - (i + 1), by omega, i + 1, rfl, by omega, Has.of (by kernel_rfl), rfl, (hat.put (by omega)).to ?_⟩
    rw [bl_congr (g := fun j => decide (j < i + 1)) (g' := fun j => if j = i then true else decide (j < i)) (fun j _ => by by_cases e : j = i; (· subst e; simp); (· simp [e]; omega))]
  · -- no h1
    have hi1 : i = 1001 := by (have h9 : ¬ (i : Int) ≤ 1000 := by simpa using h1); omega
    refine Ok.exit ?_
    refine Ok.seq ?_
    refine Ok.seq ?_
    refine Ok.region ?_
    refine OkO.assign rfl rfl ?_
    refine OkO.nil ?_
    refine Ok.block ?_
    refine Ok.loop (fun n s => ∃ (h b7 : Nat), n = rows.length - h ∧ h ≤ rows.length ∧ Has 7 [(1, rv), (2, I f), (3, .ptr W.next 0), (7, .slice b7 0 1001 1001), (9, I (h : Int))] s.T ∧ s.D = [] ∧ Grow W s.H ∧ (s.H.get W.next).bind AObj.cs = some (p.c ev) ∧ W.next + 1 ≤ b7 ∧ b7 < s.H.next ∧ s.H.get b7 = some (.cells (bl 1001 (fl (lastI p f (rows.take h)))) 4)) (rows.length) (by unfold loopFuel; omega)
      ⟨0, W.next + 1, rfl, Nat.zero_le _, Has.of (by kernel_rfl), rfl, hat.grow gB1 (by omega), by rw [hat.oth _ (by omega)]; exact eB1, Nat.le_refl _, by have := hat.nx; show W.next + 1 < G.next; omega, by rw [hself, bl_congr (g := fun j => decide (j < i)) (g' := fl (lastI p f (rows.take 0))) (fun j hj => by rw [decide_eq_true (show j < i by omega)]; exact (bP_true (show inI (j : Int) (0, 1000) from ⟨by simp, by simp; omega⟩)).symm)]⟩ ?_
    rintro n ⟨T, D, G⟩ ⟨h, b7, hn, hh, ⟨f_, hT⟩, hD, hg, e3, hb1, hb2, h7⟩
    dsimp only at *
    subst hT hD
    skip
    clear hat hself hselfb
    obtain ⟨G0, hG0⟩ : ∃ G0, G0 = G := ⟨_, rfl⟩
    have hgn0 := hg.next
    refine Ok.seq ?_
    refine Ok.seq ?_
    refine Ok.region ?_
    refine OkO.move rfl rfl ?_
    refine OkO.move rfl rfl ?_
    refine OkO.builtin rfl rfl rfl (bln (by kernel_rfl) (by first | assumption | rfl)) ?_
    refine OkO.bin rfl rfl rfl (bin_lss _ _) ?_
    refine OkO.nil ?_
    refine Ok.cond rfl (fun h2 => ?_) (fun h2 => ?_)
    · -- yes h2
      have hhl : h < rows.length := by simpa using h2
      refine Ok.skip ?_
      refine Ok.seq ?_
      refine Ok.block ?_
      refine Ok.seq ?_
      refine Ok.region ?_
      refine OkO.makeSlice (el := 4) (sz := 1) (z := [.bool false]) (n := 1001) (by_ := 1) rfl (by kernel_rfl) (by kernel_rfl) (by omega) rfl rfl (by omega) ?_
      refine OkO.assign rfl rfl ?_
      refine OkO.nil ?_
      refine Ok.seq ?_
      refine Ok.region ?_
      refine OkO.makeSlice (el := 3) (sz := 1) (z := [.int .i64 0]) (n := 1002) (by_ := 8) rfl (by kernel_rfl) (by kernel_rfl) (by omega) rfl rfl (by omega) ?_
      refine OkO.assign rfl rfl ?_
      refine OkO.nil ?_
      refine Ok.seq ?_
      refine Ok.seq ?_
      refine Ok.region ?_
      refine OkO.assign rfl rfl ?_
      refine OkO.nil ?_
      refine Ok.block ?_
      obtain ⟨nb, hnb⟩ : ∃ nb, nb = G.next := ⟨_, rfl⟩
      obtain ⟨bb, hbb⟩ : ∃ bb, bb = G.next + 1 := ⟨_, rfl⟩
      obtain ⟨B3, hB3⟩ : ∃ B3, B3 = (G.new (.cells (rep [.bool false] 1001) 4)).new (.cells (rep [I 0] 1002) 3) := ⟨_, rfl⟩
      have gB3 : Grow W B3 := by rw [hB3]; exact (hg.new _).new _
      have eB3 : (B3.get W.next).bind AObj.cs = some (p.c ev) := by rw [hB3, gno _ _ _ (by simp; omega), gno _ _ _ (by omega)]; exact e3
      have nB3 : B3.next = G.next + 2 := by rw [hB3]; simp
      have sB3 : B3.get bb = some (.cells (il 1002 fun j => if j ≤ 0 then cntN (fl (lastI p f (rows.take h))) j else 0) 3) := by rw [hB3, show bb = (G.new (.cells (rep [.bool false] 1001) 4)).next from by rw [hbb]; simp, gn0, rep_il, il_congr (g := fun _ => 0) (g' := fun j => if j ≤ 0 then cntN (fl (lastI p f (rows.take h))) j else 0) (fun j _ => by by_cases e : j ≤ 0; (· rw [if_pos e, Nat.le_zero.1 e]; rfl); (· rw [if_neg e]))]
      have tB3 : B3.get nb = some (.cells (bl 1001 fun j => false) 4) := by rw [hB3, gno _ _ _ (by simp; omega), hnb, gn0, rep_bl]
      have uB3 : B3.get b7 = some (.cells (bl 1001 (fl (lastI p f (rows.take h)))) 4) := by rw [hB3, gno _ _ _ (by simp; omega), gno _ _ _ (by omega)]; exact h7
      have hb3a : b7 < nb ∧ nb < bb ∧ W.next < nb ∧ bb < B3.next ∧ b7 ≠ W.next := by omega
      have gnb : G.next = nb := hnb.symm
      have gbb : (G.new (.cells (rep [.bool false] 1001) 4)).next = bb := by rw [hbb]; simp
      refine Ok.loop (fun n s => ∃ i : Nat, n = 1001 - i ∧ i ≤ 1001 ∧ Has 7 [(1, rv), (2, I f), (3, .ptr W.next 0), (7, .slice b7 0 1001 1001), (9, I (h : Int)), (10, .slice nb 0 1001 1001), (11, .slice bb 0 1002 1002), (12, I (i : Int))] s.T ∧ s.D = [] ∧ At1 W.next bb B3 (.cells (il 1002 fun j => if j ≤ i then cntN (fl (lastI p f (rows.take h))) j else 0) 3) s.H) (1001) (by unfold loopFuel; omega)
        ⟨0, rfl, by omega, by subst hnb; subst hbb; exact Has.of (by kernel_rfl), rfl, by subst hB3; exact At1.start sB3 gB3.lo⟩ ?_
      rintro n ⟨T, D, G⟩ ⟨i, hn_, hi, ⟨f2_, hT⟩, hD, hat⟩
      dsimp only at *
      subst hT hD
      skip
      have hself := hat.self
      have hselfb : (G.get bb).bind AObj.cs = some (il 1002 fun j => if j ≤ i then cntN (fl (lastI p f (rows.take h))) j else 0) := by rw [hself]; rfl
      have u7 : (G.get b7).bind AObj.cs = some (bl 1001 (fl (lastI p f (rows.take h)))) := by rw [hat.oth _ (by omega), uB3]; rfl
      refine Ok.seq ?_
      refine Ok.seq ?_
      refine Ok.region ?_
      refine OkO.move rfl rfl ?_
      refine OkO.bin rfl rfl rfl (bin_leq _ _) ?_
      refine OkO.nil ?_
      refine Ok.cond rfl (fun h3 => ?_) (fun h3 => ?_)
      · -- yes h3
        have hlt : i < 1001 := by (have h9 : (i : Int) ≤ 1000 := by simpa using h3); omega
        have g7 := bl_get (N := 1001) (fl (lastI p f (rows.take h))) hlt
        have gi : (il 1002 fun j => if j ≤ i then cntN (fl (lastI p f (rows.take h))) j else 0)[0 + i * 1]? = some (I (cntN (fl (lastI p f (rows.take h))) i : Int)) := by rw [il_get _ (by omega), if_pos (Nat.le_refl _)]
        have hcl := cntN_le (fl (lastI p f (rows.take h))) i
        refine Ok.skip ?_
        refine Ok.seq ?_
        refine Ok.block ?_
        refine Ok.seq ?_
        refine Ok.region ?_
        refine OkO.move rfl rfl ?_
        refine OkO.move rfl rfl ?_
        refine OkO.bin rfl rfl rfl (bin_add (by omega) (by omega)) ?_
        refine OkO.move rfl rfl ?_
        refine OkO.move rfl rfl ?_
        refine OkO.index (sz := 1) (n := i) rfl rfl rfl (by kernel_rfl) (by first | assumption | rfl | exact slAt_slice (by omega) | exact slAt_opn (by omega)) ?_ -- index ('Go.Operand.tmp', 40) ('Go.Operand.tmp', 41)
        refine OkO.load rfl rfl (lda (n := 1) (by kernel_rfl) (by first | assumption | (simp (disch := first | omega | (simp only [hNw, hPt]; omega)) only [gn0, gn1, gn2, gn3, gn4, gn5, gp0, gno, gpo] <;> first | rfl | assumption | exact gp0 _ _ _ | exact gn0 _ _)) (by first | rfl | assumption)) ?_
        refine OkO.index (sz := 1) (n := i + 1) rfl rfl rfl (by kernel_rfl) (by first | assumption | rfl | exact slAt_slice (by omega) | exact slAt_opn (by omega)) ?_ -- index ('Go.Operand.tmp', 37) ('Go.Operand.tmp', 39)
        refine OkO.store rfl rfl rfl (sAc (n := 1) (ag := false) (by kernel_rfl) (hself) rfl (rfl) (spl_il (z := cntN (fl (lastI p f (rows.take h))) i) _ (by omega) rfl)) ?_
        refine OkO.nil ?_
        refine Ok.seq ?_
        refine Ok.region ?_
        refine OkO.move rfl rfl ?_
        refine OkO.move rfl rfl ?_
        refine OkO.index (sz := 1) (n := i) rfl rfl rfl (by kernel_rfl) (by first | assumption | rfl | exact slAt_slice (by omega) | exact slAt_opn (by omega)) ?_ -- index ('Go.Operand.tmp', 45) ('Go.Operand.tmp', 46)
        refine OkO.load rfl rfl (lda (n := 1) (by kernel_rfl) (by first | assumption | (simp (disch := first | omega | (simp only [hNw, hPt]; omega)) only [gn0, gn1, gn2, gn3, gn4, gn5, gp0, gno, gpo] <;> first | rfl | assumption | exact gp0 _ _ _ | exact gn0 _ _)) (by first | rfl | assumption)) ?_
        refine OkO.nil ?_
        refine Ok.cond rfl (fun h4 => ?_) (fun h4 => ?_)
        · -- yes h4
          have hfi : fl (lastI p f (rows.take h)) i = true := h4
          have gi2 : (il 1002 fun j => if j = i + 1 then cntN (fl (lastI p f (rows.take h))) i else if j ≤ i then cntN (fl (lastI p f (rows.take h))) j else 0)[0 + (i + 1) * 1]? = some (I (cntN (fl (lastI p f (rows.take h))) i : Int)) := by rw [il_get _ (by omega), if_pos rfl]
          refine Ok.region ?_
          refine OkO.move rfl rfl ?_
          refine OkO.move rfl rfl ?_
          refine OkO.bin rfl rfl rfl (bin_add (by omega) (by omega)) ?_
          refine OkO.index (sz := 1) (n := i + 1) rfl rfl rfl (by kernel_rfl) (by first | assumption | rfl | exact slAt_slice (by omega) | exact slAt_opn (by omega)) ?_ -- index ('Go.Operand.tmp', 49) ('Go.Operand.tmp', 51)
          refine OkO.load rfl rfl (lda (n := 1) (by kernel_rfl) (by first | assumption | (simp (disch := first | omega | (simp only [hNw, hPt]; omega)) only [gn0, gn1, gn2, gn3, gn4, gn5, gp0, gno, gpo] <;> first | rfl | assumption | exact gp0 _ _ _ | exact gn0 _ _)) (by first | rfl | assumption)) ?_
          refine OkO.bin rfl rfl rfl (bin_add (by omega) (by omega)) ?_
          refine OkO.index (sz := 1) (n := i + 1) rfl rfl rfl (by kernel_rfl) (by first | assumption | rfl | exact slAt_slice (by omega) | exact slAt_opn (by omega)) ?_ -- index ('Go.Operand.tmp', 49) ('Go.Operand.tmp', 51)
          refine OkO.store rfl rfl rfl (sAc (n := 1) (ag := false) (by kernel_rfl) (gp0 _ _ _) rfl (rfl) (spl_il (z := cntN (fl (lastI p f (rows.take h))) i + 1) _ (by omega) rfl)) ?_
          refine OkO.nil ?_
          refine Ok.region ?_
          refine OkO.move rfl rfl ?_
          refine OkO.bin rfl rfl rfl (bin_add (by omega) (by omega)) ?_
          refine OkO.assign rfl rfl ?_
          refine OkO.nil ?_
          refine ⟨1001 - (i + 1), by omega, i + 1, rfl, by omega, Has.of (by kernel_rfl), rfl, ((hat.put (by omega)).put (by omega)).to ?_⟩
          rw [l3_yes hfi]
        · -- no h4
          have hfi : ¬ fl (lastI p f (rows.take h)) i = true := by rw [show fl (lastI p f (rows.take h)) i = false from h4]; simp
          refine Ok.skip ?_
          refine Ok.region ?_
          refine OkO.move rfl rfl ?_
          refine OkO.bin rfl rfl rfl (bin_add (by omega) (by omega)) ?_
          refine OkO.assign rfl rfl ?_
          refine OkO.nil ?_
          refine ⟨1001 - (i + 1), by omega, i + 1, rfl, by omega, Has.of (by kernel_rfl), rfl, (hat.put (by omega)).to ?_⟩
          rw [l3_no hfi]
      · -- no h3
        have hi1 : i = 1001 := by (have h9 : ¬ (i : Int) ≤ 1000 := by simpa using h3); omega
        refine Ok.exit ?_
        refine Ok.seq ?_
        refine Ok.seq ?_
        refine Ok.region ?_
        refine OkO.assign rfl rfl ?_
        refine OkO.nil ?_
        refine Ok.block ?_
        obtain ⟨B4, hB4⟩ : ∃ B4, B4 = G := ⟨_, rfl⟩
        have gB4 : Grow W B4 := by rw [hB4]; exact hat.grow gB3 (by omega)
        have eB4 : (B4.get W.next).bind AObj.cs = some (p.c ev) := by rw [hB4, hat.oth _ (by omega)]; exact eB3
        have nB4 : B4.next = B3.next := by rw [hB4]; exact hat.nx
        have cB4 : (B4.get bb).bind AObj.cs = some (il 1002 (cntN (fl (lastI p f (rows.take h))))) := by rw [hB4, hselfb, il_congr (g := fun j => if j ≤ i then cntN (fl (lastI p f (rows.take h))) j else 0) (g' := cntN (fl (lastI p f (rows.take h)))) (fun j hj => by rw [if_pos (by omega)])]
        have sB4 : B4.get nb = some (.cells (bl 1001 fun j => decide (j < 0) && fl (lastI p f (rows.take (h + 1))) j) 4) := by rw [hB4, hat.oth _ (by omega), tB3, bl_congr (g := fun _ => false) (g' := fun j => decide (j < 0) && fl (lastI p f (rows.take (h + 1))) j) (fun j _ => by simp)]
        clear hself hselfb u7 hat
        refine Ok.loop (fun n s => ∃ i : Nat, n = 1001 - i ∧ i ≤ 1001 ∧ Has 7 [(1, rv), (2, I f), (3, .ptr W.next 0), (7, .slice b7 0 1001 1001), (9, I (h : Int)), (10, .slice nb 0 1001 1001), (11, .slice bb 0 1002 1002), (13, I (i : Int))] s.T ∧ s.D = [] ∧ At1 W.next nb B4 (.cells (bl 1001 fun j => decide (j < i) && fl (lastI p f (rows.take (h + 1))) j) 4) s.H) (1001) (by unfold loopFuel; omega)
          ⟨0, rfl, by omega, Has.of (by kernel_rfl), rfl, by subst hB4; exact At1.start sB4 gB4.lo⟩ ?_
        rintro n ⟨T, D, G⟩ ⟨i, hn2_, hi, ⟨f3_, hT⟩, hD, hat⟩
        dsimp only at *
        subst hT hD
        skip
        have hself := hat.self
        have cG : (G.get bb).bind AObj.cs = some (il 1002 (cntN (fl (lastI p f (rows.take h))))) := by rw [hat.oth _ (by omega)]; exact cB4
        have e3G : (G.get W.next).bind AObj.cs = some (p.c ev) := by rw [hat.oth _ (by omega)]; exact eB4
        have gG : Grow W G := hat.grow gB4 (by omega)
        refine Ok.seq ?_
        refine Ok.seq ?_
        refine Ok.region ?_
        refine OkO.move rfl rfl ?_
        refine OkO.bin rfl rfl rfl (bin_leq _ _) ?_
        refine OkO.nil ?_
        refine Ok.cond rfl (fun h5 => ?_) (fun h5 => ?_)
        · -- yes h5
          have hlt : i < 1001 := by (have h9 : (i : Int) ≤ 1000 := by simpa using h5); omega
          obtain ⟨lo, hlo⟩ : ∃ lo : Nat, (lo : Int) = max 0 ((i : Int) - p.gain) := ⟨_, Int.toNat_of_nonneg (by omega)⟩
          obtain ⟨hi9, hhi⟩ : ∃ hi9 : Nat, (hi9 : Int) = min 1000 ((i : Int) + p.drop) := ⟨_, Int.toNat_of_nonneg (by omega)⟩
          obtain ⟨xr, rb, ro, rcs, r1, r2, r3, r4, r5⟩ := (hRs.ext (hE _ gG)).at_ h hhl
          have pxr : xr.plain = true := lpl r5.len
          have glo := il_get (N := 1002) (cntN (fl (lastI p f (rows.take h)))) (k := lo) (by omega)
          have ghi := il_get (N := 1002) (cntN (fl (lastI p f (rows.take h)))) (k := hi9 + 1) (by omega)
          refine Ok.skip ?_
          refine Ok.seq ?_
          refine Ok.block ?_
          refine Ok.seq ?_
          refine Ok.drawn [(0, true, []), (1, true, []), (2, true, []), (3, true, []), (4, true, []), (5, true, []), (6, true, []), (7, true, []), (8, true, []), (9, true, []), (10, true, []), (11, true, [])] (by kernel_rfl) ?_
          refine OkP.step ?_
          refine OkO.move rfl rfl ?_
          refine OkO.nil ⟨rfl, ?_⟩
          refine OkP.step ?_
          refine OkO.fieldAddr (o := 1) rfl (by kernel_rfl) rfl ?_
          refine OkO.nil ⟨rfl, ?_⟩
          refine OkP.step ?_
          refine OkO.load rfl rfl (lda (n := 1) (by kernel_rfl) (by first | assumption | (simp (disch := first | omega | (simp only [hNw, hPt]; omega)) only [gn0, gn1, gn2, gn3, gn4, gn5, gp0, gno, gpo] <;> first | rfl | assumption | exact gp0 _ _ _ | exact gn0 _ _)) (by first | rfl | assumption)) ?_
          refine OkO.nil ⟨rfl, ?_⟩
          refine OkP.step ?_
          refine OkO.bin rfl rfl rfl (bin_sub (by omega) (by omega)) ?_
          refine OkO.nil ⟨rfl, ?_⟩
          refine OkP.step ?_
          refine OkO.builtin rfl rfl rfl (builtin_max2 _ _) ?_
          refine OkO.nil ⟨rfl, ?_⟩
          refine OkP.step ?_
          refine OkO.move rfl rfl ?_
          refine OkO.nil ⟨rfl, ?_⟩
          refine OkP.step ?_
          refine OkO.fieldAddr (o := 2) rfl (by kernel_rfl) rfl ?_
          refine OkO.nil ⟨rfl, ?_⟩
          refine OkP.step ?_
          refine OkO.load rfl rfl (lda (n := 1) (by kernel_rfl) (by first | assumption | (simp (disch := first | omega | (simp only [hNw, hPt]; omega)) only [gn0, gn1, gn2, gn3, gn4, gn5, gp0, gno, gpo] <;> first | rfl | assumption | exact gp0 _ _ _ | exact gn0 _ _)) (by first | rfl | assumption)) ?_
          refine OkO.nil ⟨rfl, ?_⟩
          refine OkP.step ?_
          refine OkO.bin rfl rfl rfl (bin_add (by omega) (by omega)) ?_
          refine OkO.nil ⟨rfl, ?_⟩
          refine OkP.step ?_
          refine OkO.builtin rfl rfl rfl (builtin_min2 _ _) ?_
          refine OkO.nil ⟨rfl, ?_⟩
          refine OkP.step ?_
          refine OkO.assign rfl rfl ?_
          refine OkO.nil ⟨rfl, ?_⟩
          refine OkP.step ?_
          refine OkO.assign rfl rfl ?_
          refine OkO.nil ⟨rfl, ?_⟩
          refine OkP.nil ?_
          refine Ok.seq ?_
          refine Ok.drawn [(0, true, []), (1, true, []), (2, true, []), (3, true, []), (4, true, []), (5, true, []), (6, true, []), (7, true, []), (8, true, []), (9, true, []), (10, true, []), (11, true, []), (12, true, []), (13, true, []), (14, true, [])] (by kernel_rfl) ?_
          refine OkP.step ?_
          refine OkO.move rfl rfl ?_
          refine OkO.nil ⟨rfl, ?_⟩
          refine OkP.step ?_
          refine OkO.bin rfl rfl rfl (bin_eql _ _) ?_
          refine OkO.nil ⟨rfl, ?_⟩
          refine OkP.step ?_
          refine OkO.move rfl rfl ?_
          refine OkO.nil ⟨rfl, ?_⟩
          refine OkP.split (d := 72) rfl (fun g6 => ?_) (fun g6 => ?_)
          · -- true g6
            have hh0 : h = 0 := by (have h9 : (h : Int) = 0 := by simpa using g6); omega
            refine OkP.step ?_
            refine OkO.skip rfl ?_
            refine OkO.nil ⟨rfl, ?_⟩
            refine OkP.step ?_
            refine OkO.skip rfl ?_
            refine OkO.nil ⟨rfl, ?_⟩
            refine OkP.step ?_
            refine OkO.skip rfl ?_
            refine OkO.nil ⟨rfl, ?_⟩
            refine OkP.step ?_
            refine OkO.skip rfl ?_
            refine OkO.nil ⟨rfl, ?_⟩
            refine OkP.step ?_
            refine OkO.skip rfl ?_
            refine OkO.nil ⟨rfl, ?_⟩
            refine OkP.step ?_
            refine OkO.skip rfl ?_
            refine OkO.nil ⟨rfl, ?_⟩
            refine OkP.step ?_
            refine OkO.skip rfl ?_
            refine OkO.nil ⟨rfl, ?_⟩
            refine OkP.step ?_
            refine OkO.skip rfl ?_
            refine OkO.nil ⟨rfl, ?_⟩
            refine OkP.step ?_
            refine OkO.skip rfl ?_
            refine OkO.nil ⟨rfl, ?_⟩
            refine OkP.step ?_
            refine OkO.skip rfl ?_
            refine OkO.nil ⟨rfl, ?_⟩
            refine OkP.step ?_
            refine OkO.pick (b := true) rfl rfl (fun _ => rfl) nofun ?_
            refine OkO.nil ⟨rfl, ?_⟩
            refine OkP.step ?_
            refine OkO.assign rfl rfl ?_
            refine OkO.nil ⟨rfl, ?_⟩
            refine OkP.nil ?_
            refine Ok.drawn [(0, true, []), (1, true, []), (2, true, []), (3, true, []), (4, true, []), (5, true, []), (6, true, []), (7, true, []), (8, true, []), (9, true, []), (10, true, []), (11, false, []), (12, true, []), (13, true, []), (14, false, [])] (by kernel_rfl) ?_
            refine OkP.step ?_
            refine OkO.move rfl rfl ?_
            refine OkO.nil ⟨rfl, ?_⟩
            refine OkP.step ?_
            refine OkO.move rfl rfl ?_
            refine OkO.nil ⟨rfl, ?_⟩
            refine OkP.step ?_
            refine OkO.move rfl rfl ?_
            refine OkO.nil ⟨rfl, ?_⟩
            refine OkP.step ?_
            refine OkO.move rfl rfl ?_
            refine OkO.nil ⟨rfl, ?_⟩
            refine OkP.step ?_
            refine OkO.load rfl rfl (ldg (n := 6) (by kernel_rfl) (by first | assumption | (simp (disch := first | omega | (simp only [hNw, hPt]; omega)) only [gn0, gn1, gn2, gn3, gn4, gn5, gp0, gno, gpo] <;> first | rfl | assumption | exact gp0 _ _ _ | exact gn0 _ _)) (by first | rfl | assumption)) ?_
            refine OkO.nil ⟨rfl, ?_⟩
            refine OkP.step ?_
            refine OkO.move rfl rfl ?_
            refine OkO.nil ⟨rfl, ?_⟩
            refine OkP.step ?_
            refine OkO.move rfl rfl ?_
            refine OkO.nil ⟨rfl, ?_⟩
            refine OkP.step ?_
            refine OkO.index (sz := 1) (n := h) rfl rfl rfl (by kernel_rfl) (by first | assumption | rfl | exact slAt_slice (by omega) | exact slAt_opn (by omega)) ?_ -- index ('Go.Operand.tmp', 89) ('Go.Operand.tmp', 90)
            refine OkO.nil ⟨rfl, ?_⟩
            refine OkP.step ?_
            refine OkO.load rfl rfl (lda (n := 1) (by kernel_rfl) (by first | assumption | (simp (disch := first | omega | (simp only [hNw, hPt]; omega)) only [gn0, gn1, gn2, gn3, gn4, gn5, gp0, gno, gpo] <;> first | rfl | assumption | exact gp0 _ _ _ | exact gn0 _ _)) (by first | rfl | assumption)) ?_
            refine OkO.nil ⟨rfl, ?_⟩
            refine OkP.step ?_
            refine OkO.move rfl rfl ?_
            refine OkO.nil ⟨rfl, ?_⟩
            refine OkP.step ?_
            refine OkO.move rfl rfl ?_
            refine OkO.nil ⟨rfl, ?_⟩
            refine OkP.step ?_
            refine OkO.callV rfl rfl rfl rfl rfl (c71 (m + 0) ev xr p rows[h] f (i : Int) _ (hV.ext (hE _ gG)) r5 (hlens _ (List.getElem_mem _)) hpl (hrbd _ (List.getElem_mem _)) (by omega)) ?_ -- "sackung/sackungref04.Agrees"
            refine OkO.nil ⟨rfl, ?_⟩
            refine OkP.step ?_
            refine OkO.pick (b := true) rfl rfl (fun _ => rfl) nofun ?_
            refine OkO.nil ⟨rfl, ?_⟩
            refine OkP.step ?_
            refine OkO.index (sz := 1) (n := i) rfl rfl rfl (by kernel_rfl) (by first | assumption | rfl | exact slAt_slice (by omega) | exact slAt_opn (by omega)) ?_ -- index ('Go.Operand.tmp', 84) ('Go.Operand.tmp', 85)
            refine OkO.nil ⟨rfl, ?_⟩
            refine OkP.step ?_
            refine OkO.store rfl rfl rfl (sAc (n := 1) (ag := false) (by kernel_rfl) (hself) rfl (rfl) (spl_bl (b := bP (AgreeR p f rows[h] (i : Int))) _ hlt)) ?_
            refine OkO.nil ⟨rfl, ?_⟩
            refine OkP.nil ?_
            refine Ok.region ?_
            refine OkO.move rfl rfl ?_
            refine OkO.bin rfl rfl rfl (bin_add (by omega) (by omega)) ?_
            refine OkO.assign rfl rfl ?_
            refine OkO.nil ?_
            refine ⟨1001 - (i + 1), by omega, i + 1, rfl, by omega, Has.of (by kernel_rfl), rfl, (hat.put (by omega)).to ?_⟩
            rw [l4_step (g := fl (lastI p f (rows.take (h + 1)))) (by show _ = bP _; rw [last_next hhl]; exact bP_congr ⟨fun h9 => (next_iff (by omega)).2 ⟨by subst hh0; show ((0, 1000) : Iv) ≠ nul ∧ (0 : Int) - p.drop ≤ _ ∧ _ ≤ (1000 : Int) + p.gain; exact ⟨by unfold nul; simp, by omega, by omega⟩, h9⟩, fun h9 => ((next_iff (by omega)).1 h9).2⟩)]
          · -- false g6
            refine OkP.step ?_
            refine OkO.move rfl rfl ?_
            refine OkO.nil ⟨rfl, ?_⟩
            refine OkP.step ?_
            refine OkO.move rfl rfl ?_
            refine OkO.nil ⟨rfl, ?_⟩
            refine OkP.step ?_
            refine OkO.bin rfl rfl rfl (bin_add (by omega) (by omega)) ?_
            refine OkO.nil ⟨rfl, ?_⟩
            refine OkP.step ?_
            refine OkO.index (sz := 1) (n := hi9 + 1) rfl rfl (congrArg (fun z => some (I z)) (by omega)) (by kernel_rfl) (by first | assumption | rfl | exact slAt_slice (by omega) | exact slAt_opn (by omega)) ?_ -- index ('Go.Operand.tmp', 73) ('Go.Operand.tmp', 75)
            refine OkO.nil ⟨rfl, ?_⟩
            refine OkP.step ?_
            refine OkO.load rfl rfl (lda (n := 1) (by kernel_rfl) (by first | assumption | (simp (disch := first | omega | (simp only [hNw, hPt]; omega)) only [gn0, gn1, gn2, gn3, gn4, gn5, gp0, gno, gpo] <;> first | rfl | assumption | exact gp0 _ _ _ | exact gn0 _ _)) (by first | rfl | assumption)) ?_
            refine OkO.nil ⟨rfl, ?_⟩
            refine OkP.step ?_
            refine OkO.move rfl rfl ?_
            refine OkO.nil ⟨rfl, ?_⟩
            refine OkP.step ?_
            refine OkO.move rfl rfl ?_
            refine OkO.nil ⟨rfl, ?_⟩
            refine OkP.step ?_
            refine OkO.index (sz := 1) (n := lo) rfl rfl (congrArg (fun z => some (I z)) (by omega)) (by kernel_rfl) (by first | assumption | rfl | exact slAt_slice (by omega) | exact slAt_opn (by omega)) ?_ -- index ('Go.Operand.tmp', 78) ('Go.Operand.tmp', 79)
            refine OkO.nil ⟨rfl, ?_⟩
            refine OkP.step ?_
            refine OkO.load rfl rfl (lda (n := 1) (by kernel_rfl) (by first | assumption | (simp (disch := first | omega | (simp only [hNw, hPt]; omega)) only [gn0, gn1, gn2, gn3, gn4, gn5, gp0, gno, gpo] <;> first | rfl | assumption | exact gp0 _ _ _ | exact gn0 _ _)) (by first | rfl | assumption)) ?_
            refine OkO.nil ⟨rfl, ?_⟩
            refine OkP.step ?_
            refine OkO.bin rfl rfl rfl (bin_gtr _ _) ?_
            refine OkO.nil ⟨rfl, ?_⟩
            refine OkP.step ?_
            refine OkO.pick (b := false) rfl rfl nofun (fun _ => rfl) ?_
            refine OkO.nil ⟨rfl, ?_⟩
            refine OkP.step ?_
            refine OkO.assign rfl rfl ?_
            refine OkO.nil ⟨rfl, ?_⟩
            refine OkP.nil ?_
            refine Ok.drawn [(0, true, []), (1, true, []), (2, true, []), (3, true, []), (4, true, []), (5, true, []), (6, true, []), (7, true, []), (8, true, []), (9, true, []), (10, true, []), (11, false, []), (12, true, []), (13, true, []), (14, false, [])] (by kernel_rfl) ?_
            refine OkP.step ?_
            refine OkO.move rfl rfl ?_
            refine OkO.nil ⟨rfl, ?_⟩
            refine OkP.step ?_
            refine OkO.move rfl rfl ?_
            refine OkO.nil ⟨rfl, ?_⟩
            refine OkP.step ?_
            refine OkO.move rfl rfl ?_
            refine OkO.nil ⟨rfl, ?_⟩
            refine OkP.step ?_
            refine OkO.move rfl rfl ?_
            refine OkO.nil ⟨rfl, ?_⟩
            refine OkP.split (d := 87) rfl (fun g7 => ?_) (fun g7 => ?_)
            · -- true g7
              have hcm := (comes_iff (p := p) (last_prp p f (rows.take h)) last_in (v := (i : Int)) (by omega) (by omega) (by omega) hlo hhi).1 (by simpa using g7)
              refine OkP.step ?_
              refine OkO.load rfl rfl (ldg (n := 6) (by kernel_rfl) (by first | assumption | (simp (disch := first | omega | (simp only [hNw, hPt]; omega)) only [gn0, gn1, gn2, gn3, gn4, gn5, gp0, gno, gpo] <;> first | rfl | assumption | exact gp0 _ _ _ | exact gn0 _ _)) (by first | rfl | assumption)) ?_
              refine OkO.nil ⟨rfl, ?_⟩
              refine OkP.step ?_
              refine OkO.move rfl rfl ?_
              refine OkO.nil ⟨rfl, ?_⟩
              refine OkP.step ?_
              refine OkO.move rfl rfl ?_
              refine OkO.nil ⟨rfl, ?_⟩
              refine OkP.step ?_
              refine OkO.index (sz := 1) (n := h) rfl rfl rfl (by kernel_rfl) (by first | assumption | rfl | exact slAt_slice (by omega) | exact slAt_opn (by omega)) ?_ -- index ('Go.Operand.tmp', 89) ('Go.Operand.tmp', 90)
              refine OkO.nil ⟨rfl, ?_⟩
              refine OkP.step ?_
              refine OkO.load rfl rfl (lda (n := 1) (by kernel_rfl) (by first | assumption | (simp (disch := first | omega | (simp only [hNw, hPt]; omega)) only [gn0, gn1, gn2, gn3, gn4, gn5, gp0, gno, gpo] <;> first | rfl | assumption | exact gp0 _ _ _ | exact gn0 _ _)) (by first | rfl | assumption)) ?_
              refine OkO.nil ⟨rfl, ?_⟩
              refine OkP.step ?_
              refine OkO.move rfl rfl ?_
              refine OkO.nil ⟨rfl, ?_⟩
              refine OkP.step ?_
              refine OkO.move rfl rfl ?_
              refine OkO.nil ⟨rfl, ?_⟩
              refine OkP.step ?_
              refine OkO.callV rfl rfl rfl rfl rfl (c71 (m + 0) ev xr p rows[h] f (i : Int) _ (hV.ext (hE _ gG)) r5 (hlens _ (List.getElem_mem _)) hpl (hrbd _ (List.getElem_mem _)) (by omega)) ?_ -- "sackung/sackungref04.Agrees"
              refine OkO.nil ⟨rfl, ?_⟩
              refine OkP.step ?_
              refine OkO.pick (b := true) rfl rfl (fun _ => rfl) nofun ?_
              refine OkO.nil ⟨rfl, ?_⟩
              refine OkP.step ?_
              refine OkO.index (sz := 1) (n := i) rfl rfl rfl (by kernel_rfl) (by first | assumption | rfl | exact slAt_slice (by omega) | exact slAt_opn (by omega)) ?_ -- index ('Go.Operand.tmp', 84) ('Go.Operand.tmp', 85)
              refine OkO.nil ⟨rfl, ?_⟩
              refine OkP.step ?_
              refine OkO.store rfl rfl rfl (sAc (n := 1) (ag := false) (by kernel_rfl) (hself) rfl (rfl) (spl_bl (b := bP (AgreeR p f rows[h] (i : Int))) _ hlt)) ?_
              refine OkO.nil ⟨rfl, ?_⟩
              refine OkP.nil ?_
              refine Ok.region ?_
              refine OkO.move rfl rfl ?_
              refine OkO.bin rfl rfl rfl (bin_add (by omega) (by omega)) ?_
              refine OkO.assign rfl rfl ?_
              refine OkO.nil ?_
              refine ⟨1001 - (i + 1), by omega, i + 1, rfl, by omega, Has.of (by kernel_rfl), rfl, (hat.put (by omega)).to ?_⟩
              rw [l4_step (g := fl (lastI p f (rows.take (h + 1)))) (by show _ = bP _; rw [last_next hhl]; exact bP_congr ⟨fun h9 => (next_iff (by omega)).2 ⟨hcm, h9⟩, fun h9 => ((next_iff (by omega)).1 h9).2⟩)]
            · -- false g7
              have hcm : ¬ ((lastI p f (rows.take h)) ≠ nul ∧ (lastI p f (rows.take h)).1 - p.drop ≤ (i : Int) ∧ (i : Int) ≤ (lastI p f (rows.take h)).2 + p.gain) := fun hc => by (have h9 := (comes_iff (p := p) (last_prp p f (rows.take h)) last_in (v := (i : Int)) (by omega) (by omega) (by omega) hlo hhi).2 hc); (simp at g7); omega
              refine OkP.step ?_
              refine OkO.skip rfl ?_
              refine OkO.nil ⟨rfl, ?_⟩
              refine OkP.step ?_
              refine OkO.skip rfl ?_
              refine OkO.nil ⟨rfl, ?_⟩
              refine OkP.step ?_
              refine OkO.skip rfl ?_
              refine OkO.nil ⟨rfl, ?_⟩
              refine OkP.step ?_
              refine OkO.skip rfl ?_
              refine OkO.nil ⟨rfl, ?_⟩
              refine OkP.step ?_
              refine OkO.skip rfl ?_
              refine OkO.nil ⟨rfl, ?_⟩
              refine OkP.step ?_
              refine OkO.skip rfl ?_
              refine OkO.nil ⟨rfl, ?_⟩
              refine OkP.step ?_
              refine OkO.skip rfl ?_
              refine OkO.nil ⟨rfl, ?_⟩
              refine OkP.step ?_
              refine OkO.skip rfl ?_
              refine OkO.nil ⟨rfl, ?_⟩
              refine OkP.step ?_
              refine OkO.pick (b := false) rfl rfl nofun (fun _ => rfl) ?_
              refine OkO.nil ⟨rfl, ?_⟩
              refine OkP.step ?_
              refine OkO.index (sz := 1) (n := i) rfl rfl rfl (by kernel_rfl) (by first | assumption | rfl | exact slAt_slice (by omega) | exact slAt_opn (by omega)) ?_ -- index ('Go.Operand.tmp', 84) ('Go.Operand.tmp', 85)
              refine OkO.nil ⟨rfl, ?_⟩
              refine OkP.step ?_
              refine OkO.store rfl rfl rfl (sAc (n := 1) (ag := false) (by kernel_rfl) (hself) rfl (rfl) (spl_bl (b := false) _ hlt)) ?_
              refine OkO.nil ⟨rfl, ?_⟩
              refine OkP.nil ?_
              refine Ok.region ?_
              refine OkO.move rfl rfl ?_
              refine OkO.bin rfl rfl rfl (bin_add (by omega) (by omega)) ?_
              refine OkO.assign rfl rfl ?_
              refine OkO.nil ?_
              refine ⟨1001 - (i + 1), by omega, i + 1, rfl, by omega, Has.of (by kernel_rfl), rfl, (hat.put (by omega)).to ?_⟩
              rw [l4_step (g := fl (lastI p f (rows.take (h + 1)))) (by show _ = bP _; rw [last_next hhl]; exact (bP_false fun h9 => hcm ((next_iff (by omega)).1 h9).1).symm)]
        · -- no h5
          have hi1 : i = 1001 := by (have h9 : ¬ (i : Int) ≤ 1000 := by simpa using h5); omega
          refine Ok.exit ?_
          refine Ok.region ?_
          refine OkO.move rfl rfl ?_
          refine OkO.assign rfl rfl ?_
          refine OkO.nil ?_
          refine Ok.region ?_
          refine OkO.move rfl rfl ?_
          refine OkO.bin rfl rfl rfl (bin_add (by omega) (by omega)) ?_
          refine OkO.assign rfl rfl ?_
          refine OkO.nil ?_
          refine ⟨rows.length - (h + 1), by omega, h + 1, nb, rfl, by omega, Has.of (by kernel_rfl), rfl, hat.grow gB4 (by omega), by rw [hat.oth _ (by omega)]; exact eB4, by omega, by have := hat.nx; show nb < G.next; omega, ?_⟩
          rw [hat.self, bl_congr (g := fun j => decide (j < i) && fl (lastI p f (rows.take (h + 1))) j) (g' := fl (lastI p f (rows.take (h + 1)))) (fun j hj => by rw [decide_eq_true (show j < i by omega)]; rfl)]
    · -- no h2
      have hge : h = rows.length := by (have h9 : ¬ (h : Int) < (rows.length : Int) := by simpa using h2); omega
      refine Ok.exit ?_
      refine Ok.seq ?_
      refine Ok.region ?_
      refine OkO.move rfl rfl ?_
      refine OkO.assign rfl rfl ?_
      refine OkO.nil ?_
      refine Ok.ret ⟨.inr rfl, ?_⟩
      subst hge
      rw [List.take_length] at h7
      refine back_newQ rfl rfl (by rw [← hW]; exact hg) rfl (fun H9 p1 p2 p3 => ⟨b7, rfl, p1, by omega, by omega, by rw [p2]; exact h7⟩)
end
end Go.Ev

set_option maxRecDepth 100000
set_option linter.unusedSimpArgs false
set_option linter.unusedVariables false
namespace Go.Ev
open Go Go.Proofs
noncomputable section
end
end Go.Ev

set_option maxRecDepth 100000
set_option linter.unusedSimpArgs false
set_option linter.unusedVariables false
namespace Go.Ev
open Go Go.Proofs
noncomputable section
/-- The least and the greatest of some speeds, as the reference keeps them. -/
def AtSt (S : Nat → Prop) (lo hi : Int) : Prop := (lo = -1 ∧ hi = 0 ∧ ∀ v, ¬ S v) ∨ ∃ a c : Nat, lo = (a : Int) ∧ hi = (c : Int) ∧ S a ∧ S c ∧ ∀ v, S v → a ≤ v ∧ v ≤ c
theorem AtSt.uniq {S : Nat → Prop} {lo hi lo' hi' : Int} (h : AtSt S lo hi) (h' : AtSt S lo' hi') : lo = lo' ∧ hi = hi' := by
  rcases h with ⟨h1, h2, h3⟩ | ⟨a, c, h1, h2, h3, h4, h5⟩
  · rcases h' with ⟨k1, k2, k3⟩ | ⟨a', c', k1, k2, k3, k4, k5⟩
    · exact ⟨by omega, by omega⟩
    · exact absurd k3 (h3 _)
  · rcases h' with ⟨k1, k2, k3⟩ | ⟨a', c', k1, k2, k3, k4, k5⟩
    · exact absurd h3 (k3 _)
    · have := h5 _ k3; have := h5 _ k4; have := k5 _ h3; have := k5 _ h4
      exact ⟨by omega, by omega⟩
theorem AtSt.congr {S S' : Nat → Prop} {lo hi : Int} (h : AtSt S lo hi) (hs : ∀ v, S' v ↔ S v) : AtSt S' lo hi := by
  rcases h with ⟨h1, h2, h3⟩ | ⟨a, c, h1, h2, h3, h4, h5⟩
  · exact .inl ⟨h1, h2, fun v hv => h3 v ((hs v).1 hv)⟩
  · exact .inr ⟨a, c, h1, h2, (hs a).2 h3, (hs c).2 h4, fun v hv => h5 v ((hs v).1 hv)⟩
theorem AtSt.add {S S' : Nat → Prop} {lo hi : Int} (h : AtSt S lo hi) {w : Nat} (hs : ∀ v, S' v ↔ S v ∨ v = w) : AtSt S' (if lo < 0 ∨ (w : Int) < lo then (w : Int) else lo) (max hi (w : Int)) := by
  rcases h with ⟨h1, h2, h3⟩ | ⟨a, c, h1, h2, h3, h4, h5⟩
  · refine .inr ⟨w, w, by rw [if_pos (.inl (by omega))], by omega, (hs w).2 (.inr rfl), (hs w).2 (.inr rfl), fun v hv => ?_⟩
    rcases (hs v).1 hv with h | h
    · exact absurd h (h3 v)
    · omega
  · refine .inr ⟨min a w, max c w, ?_, by omega, ?_, ?_, fun v hv => ?_⟩
    · by_cases e : lo < 0 ∨ (w : Int) < lo
      · rw [if_pos e]; omega
      · rw [if_neg e]; omega
    · rcases Nat.le_total a w with e | e
      · rw [Nat.min_eq_left e]; exact (hs a).2 (.inl h3)
      · rw [Nat.min_eq_right e]; exact (hs w).2 (.inr rfl)
    · rcases Nat.le_total c w with e | e
      · rw [Nat.max_eq_right e]; exact (hs w).2 (.inr rfl)
      · rw [Nat.max_eq_left e]; exact (hs c).2 (.inl h4)
    · rcases (hs v).1 hv with h | h
      · have := h5 v h; omega
      · omega
theorem AtSt.nil {S : Nat → Prop} (h : ∀ v, ¬ S v) : AtSt S (-1) 0 := .inl ⟨rfl, rfl, h⟩
theorem AtSt.bd {S : Nat → Prop} {lo hi : Int} (h : AtSt S lo hi) (hb : ∀ v, S v → v < 1001) : (-1 ≤ lo ∧ lo ≤ 1000) ∧ 0 ≤ hi ∧ hi ≤ 1000 := by
  rcases h with ⟨h1, h2, h3⟩ | ⟨a, c, h1, h2, h3, h4, h5⟩
  · omega
  · have := hb _ h3; have := hb _ h4; omega
noncomputable def atV (S : Nat → Prop) : Int × Int := Classical.epsilon fun x => AtSt S x.1 x.2
theorem AtSt.val {S : Nat → Prop} {lo hi : Int} (h : AtSt S lo hi) : atV S = (lo, hi) := by
  have e : AtSt S (atV S).1 (atV S).2 := Classical.epsilon_spec (p := fun x : Int × Int => AtSt S x.1 x.2) ⟨(lo, hi), h⟩
  have := e.uniq h
  exact Prod.ext this.1 this.2
/-- The speeds that may be behind some hours, with one of the first gauges failed. -/
def SpdS (p : Pst) (rows : List (List Int)) (i : Nat) (v : Nat) : Prop := v < 1001 ∧ ∃ j, j < i ∧ inI (v : Int) (lastI p ((j : Int) - 1) rows)
theorem c26 (m : Nat) (ev rv : AV) (p : Pst) (rows : List (List Int)) (H : Heap) (hV : Ints H ev p.errs) (hRs : LstAt H rv rows) (hpl : p.errs.length ≤ 1000) (hlens : ∀ r ∈ rows, r.length = p.errs.length) (hrbd : ∀ r ∈ rows, ∀ x ∈ r, -1000 ≤ x ∧ x ≤ 2000) (hrl : rows.length ≤ 100000) (hpo : (0 ≤ p.gain ∧ p.gain ≤ 200) ∧ (1 ≤ p.fall ∧ p.fall ≤ 1000) ∧ (0 ≤ p.out ∧ p.out ≤ 60) ∧ 0 ≤ p.ahead ∧ p.ahead ≤ 60) (hpd : 0 ≤ p.drop ∧ p.drop ≤ 200) : RR (m + 3) (.fn 26 [.agg (p.c ev), rv]) H = some (.tup [.agg [I (atV (SpdS p rows (p.errs.length + 1))).1, I (atV (SpdS p rows (p.errs.length + 1))).2, .int .u8 (levelI p (atV (SpdS p rows (p.errs.length + 1))).2)], .bool (decide (0 ≤ (atV (SpdS p rows (p.errs.length + 1))).1))], H) := by
  refine (R_fn _ _ _ _ _).trans ?_
  refine fn_ok Try.func26 rfl rfl (by kernel_rfl) (by kernel_rfl) ?_
  obtain ⟨W, hW⟩ : ∃ W : Heap, W = ⟨H.t, H.next, H.next⟩ := ⟨_, rfl⟩
  have hg : ∀ n, W.get n = H.get n := fun n => by rw [hW]; rfl
  have hN : W.next = H.next := by rw [hW]
  have hE : ∀ G, Grow W G → Ext H G := fun G g => ⟨by rw [← hN]; exact g.next, fun n k => by rw [g.get n (by rw [hN]; exact k), hg]⟩
  have hG : Grow W W := Grow.refl (by rw [hW]; exact Nat.le_refl _)
  rw [← hW]
  have pev : ev.plain = true := lpl hV.len
  have hel := hV.len
  have hpg := hpo.1
  have hrn := hRs.len
  refine Ok.seq ?_
  refine Ok.region ?_
  refine OkO.box rfl rfl ?_
  refine OkO.alloc (z := [.int .i64 0, .int .i64 0, .int .u8 0]) rfl (by kernel_rfl) ?_
  refine OkO.assign rfl rfl ?_
  refine OkO.nil ?_
  refine Ok.seq ?_
  refine Ok.region ?_
  refine OkO.build (z := [.int .i64 0, .int .i64 0, .int .u8 0]) (pl := [(0, 1), (1, 1), (2, 1)]) rfl (by kernel_rfl) rfl rfl ?_
  refine OkO.alloc (z := [.int .i64 0, .int .i64 0, .int .u8 0]) rfl (by kernel_rfl) ?_
  refine OkO.store rfl rfl rfl (sAc (n := 3) (ag := true) (by kernel_rfl) (by first | assumption | (simp (disch := first | omega | (simp only [hNw, hPt]; omega)) only [gn0, gn1, gn2, gn3, gn4, gn5, gp0, gno, gpo] <;> first | rfl | assumption | exact gp0 _ _ _ | exact gn0 _ _)) rfl (by first | rfl | assumption) (by first | rfl | exact spl_set _ _ _ (by first | assumption | omega | (simp; omega)))) ?_
  refine OkO.nil ?_
  refine Ok.seq ?_
  refine Ok.seq ?_
  refine Ok.region ?_
  refine OkO.assign rfl rfl ?_
  refine OkO.nil ?_
  refine Ok.block ?_
  refine Ok.loop (fun n s => ∃ (i : Nat) (lo hi : Int), n = (p.errs.length + 1) - i ∧ i ≤ (p.errs.length + 1) ∧ AtSt (SpdS p rows i) lo hi ∧ Has 6 [(1, rv), (2, .ptr W.next 0), (4, .ptr (W.next + 1) 0), (6, .ptr (W.next + 2) 0), (7, I ((i : Int) - 1))] s.T ∧ s.D = [] ∧ Grow W s.H ∧ (s.H.get W.next).bind AObj.cs = some (p.c ev) ∧ s.H.get (W.next + 1) = some (.cells [I 0, I 0, .int .u8 0] 41) ∧ s.H.get (W.next + 2) = some (.cells [I lo, I hi, .int .u8 0] 41) ∧ W.next + 3 ≤ s.H.next) ((p.errs.length + 1)) (by unfold loopFuel; omega)
    ⟨0, -1, 0, rfl, Nat.zero_le _, AtSt.nil (fun v hv => by obtain ⟨_, j, hj, _⟩ := hv; omega), Has.of (by kernel_rfl), rfl, (by (try dsimp only); repeat (first | exact hG | apply Grow.new | (refine Grow.put ?_ _ (by first | omega | (simp only [hNw, hPt]; omega))))), by first | assumption | (simp (disch := first | omega | (simp only [hNw, hPt]; omega)) only [gn0, gn1, gn2, gn3, gn4, gn5, gp0, gno, gpo] <;> first | rfl | assumption | exact gp0 _ _ _ | exact gn0 _ _), by first | assumption | (simp (disch := first | omega | (simp only [hNw, hPt]; omega)) only [gn0, gn1, gn2, gn3, gn4, gn5, gp0, gno, gpo] <;> first | rfl | assumption | exact gp0 _ _ _ | exact gn0 _ _), by first | assumption | (simp (disch := first | omega | (simp only [hNw, hPt]; omega)) only [gn0, gn1, gn2, gn3, gn4, gn5, gp0, gno, gpo] <;> first | rfl | assumption | exact gp0 _ _ _ | exact gn0 _ _), by simp⟩ ?_
  rintro n ⟨T, D, G⟩ ⟨i, lo, hi, hn, hii, hst, ⟨f_, hT⟩, hD, hg, a_, d_, t_, hn1⟩
  dsimp only at *
  subst hT hD
  have hgn := hg.next
  have hbd := hst.bd (fun v hv => hv.1)
  have tb : (G.get (W.next + 2)).bind AObj.cs = some [I lo, I hi, .int .u8 0] := by rw [t_]; rfl
  refine Ok.seq ?_
  refine Ok.seq ?_
  refine Ok.region ?_
  refine OkO.move rfl rfl ?_
  refine OkO.fieldAddr (o := 0) rfl (by kernel_rfl) rfl ?_
  refine OkO.load rfl rfl (lda (n := 1) (by kernel_rfl) (by first | assumption | (simp (disch := first | omega | (simp only [hNw, hPt]; omega)) only [gn0, gn1, gn2, gn3, gn4, gn5, gp0, gno, gpo] <;> first | rfl | assumption | exact gp0 _ _ _ | exact gn0 _ _)) (by first | rfl | assumption)) ?_
  refine OkO.builtin rfl rfl rfl (bln (by kernel_rfl) (by first | assumption | rfl)) ?_
  refine OkO.bin rfl rfl rfl (bin_lss _ _) ?_
  refine OkO.nil ?_
  refine Ok.cond rfl (fun h1 => ?_) (fun h1 => ?_)
  · -- yes h1
    have hlt : i ≤ p.errs.length := by (have h9 : (i : Int) - 1 < (p.errs.length : Int) := by simpa using h1); omega
    refine Ok.skip ?_
    refine Ok.seq ?_
    refine Ok.block ?_
    refine Ok.seq ?_
    refine Ok.region ?_
    refine OkO.load rfl rfl (ldg (n := 6) (by kernel_rfl) (by first | assumption | (simp (disch := first | omega | (simp only [hNw, hPt]; omega)) only [gn0, gn1, gn2, gn3, gn4, gn5, gp0, gno, gpo] <;> first | rfl | assumption | exact gp0 _ _ _ | exact gn0 _ _)) (by first | rfl | assumption)) ?_
    refine OkO.move rfl rfl ?_
    refine OkO.move rfl rfl ?_
    refine OkO.callE rfl rfl rfl rfl rfl (c33 (m + 0) ev rv p rows ((i : Int) - 1) _ (hV.ext (hE _ (by (try dsimp only); repeat (first | exact hg | apply Grow.new | (refine Grow.put ?_ _ (by first | omega | (simp only [hNw, hPt]; omega))))))) (hRs.ext (hE _ (by (try dsimp only); repeat (first | exact hg | apply Grow.new | (refine Grow.put ?_ _ (by first | omega | (simp only [hNw, hPt]; omega))))))) (by omega) hlens hrbd hpg hpd hrl) ?_ -- "sackung/sackungref04.May"
    rintro _ H33 ⟨mb, rfl, q33, mb1, mb2, m33⟩
    have n1 := q33.ext.next
    try simp only [hNw, hPt] at n1
    have gg1 : Grow W H33 := Grow.ret (by (try dsimp only); repeat (first | exact hg | apply Grow.new | (refine Grow.put ?_ _ (by first | omega | (simp only [hNw, hPt]; omega))))) q33
    have a1 : (H33.get (W.next)).bind AObj.cs = some (p.c ev) := by rw [q33.ext.get _ (by first | omega | (simp only [hNw, hPt]; omega))]; first | assumption | (rw [gn0]; rfl) | (rw [get_put_eq] <;> rfl) | (simp (disch := first | omega | (simp only [hNw, hPt]; omega)) only [gn0, gn1, gn2, gn3, gn4, gn5, gp0, gno, gpo] <;> first | rfl | assumption | (rw [get_put_eq] <;> rfl))
    have d1 : H33.get (W.next + 1) = some (.cells [I 0, I 0, .int .u8 0] 41) := by rw [q33.ext.get _ (by first | omega | (simp only [hNw, hPt]; omega))]; first | assumption | exact gn0 _ _ | (simp (disch := first | omega | (simp only [hNw, hPt]; omega)) only [gn0, gn1, gn2, gn3, gn4, gn5, gp0, gno, gpo] <;> first | rfl | assumption | exact gp0 _ _ _ | exact gn0 _ _)
    have t1 : H33.get (W.next + 2) = some (.cells [I lo, I hi, .int .u8 0] 41) := by rw [q33.ext.get _ (by first | omega | (simp only [hNw, hPt]; omega))]; first | assumption | exact gn0 _ _ | (simp (disch := first | omega | (simp only [hNw, hPt]; omega)) only [gn0, gn1, gn2, gn3, gn4, gn5, gp0, gno, gpo] <;> first | rfl | assumption | exact gp0 _ _ _ | exact gn0 _ _)
    refine OkO.assign rfl rfl ?_
    refine OkO.nil ?_
    refine Ok.seq ?_
    refine Ok.region ?_
    refine OkO.assign rfl rfl ?_
    refine OkO.nil ?_
    refine Ok.block ?_
    refine Ok.loop (fun n s => ∃ (k : Nat) (lo hi : Int), n = 1001 - k ∧ k ≤ 1001 ∧ AtSt (fun w => SpdS p rows i w ∨ (w < k ∧ inI (w : Int) (lastI p ((i : Int) - 1) rows))) lo hi ∧ Has 6 [(1, rv), (2, .ptr W.next 0), (4, .ptr (W.next + 1) 0), (6, .ptr (W.next + 2) 0), (7, I ((i : Int) - 1)), (8, .slice mb 0 1001 1001), (9, I (k : Int))] s.T ∧ s.D = [] ∧ At1 W.next (W.next + 2) H33 (.cells [I lo, I hi, .int .u8 0] 41) s.H) (1001) (by unfold loopFuel; omega)
      ⟨0, lo, hi, rfl, by omega, hst.congr (fun v => ⟨fun h => h.elim id (fun h => absurd h.1 (Nat.not_lt_zero _)), .inl⟩), Has.of (by kernel_rfl), rfl, At1.start t1 gg1.lo⟩ ?_
    rintro n ⟨T, D, G⟩ ⟨k, lo2, hi2, hn2_, hk, hst2, ⟨f2_, hT⟩, hD, hat⟩
    dsimp only at *
    subst hT hD
    have hbd2 := hst2.bd (fun v hv => hv.elim (fun h => h.1) (fun h => by omega))
    have hself := hat.self
    have tb : (G.get (W.next + 2)).bind AObj.cs = some [I lo2, I hi2, .int .u8 0] := by rw [hself]; rfl
    have mG : (G.get mb).bind AObj.cs = some (bl 1001 (fl (lastI p ((i : Int) - 1) rows))) := by rw [hat.oth _ (by omega), m33]; rfl
    refine Ok.seq ?_
    refine Ok.seq ?_
    refine Ok.region ?_
    refine OkO.move rfl rfl ?_
    refine OkO.bin rfl rfl rfl (bin_leq _ _) ?_
    refine OkO.nil ?_
    refine Ok.cond rfl (fun h2 => ?_) (fun h2 => ?_)
    · -- yes h2
      have hlt2 : k < 1001 := by (have h9 : (k : Int) ≤ 1000 := by simpa using h2); omega
      have g7 := bl_get (N := 1001) (fl (lastI p ((i : Int) - 1) rows)) hlt2
      refine Ok.skip ?_
      refine Ok.seq ?_
      refine Ok.block ?_
      refine Ok.seq ?_
      refine Ok.region ?_
      refine OkO.move rfl rfl ?_
      refine OkO.move rfl rfl ?_
      refine OkO.index (sz := 1) (n := k) rfl rfl rfl (by kernel_rfl) (by first | assumption | rfl | exact slAt_slice (by omega) | exact slAt_opn (by omega)) ?_ -- index ('Go.Operand.tmp', 26) ('Go.Operand.tmp', 27)
      refine OkO.load rfl rfl (lda (n := 1) (by kernel_rfl) (by first | assumption | (simp (disch := first | omega | (simp only [hNw, hPt]; omega)) only [gn0, gn1, gn2, gn3, gn4, gn5, gp0, gno, gpo] <;> first | rfl | assumption | exact gp0 _ _ _ | exact gn0 _ _)) (by first | rfl | assumption)) ?_
      refine OkO.nil ?_
      refine Ok.cond rfl (fun h3 => ?_) (fun h3 => ?_)
      · -- yes h3
        have hin : inI (k : Int) (lastI p ((i : Int) - 1) rows) := bP_iff.1 h3
        refine Ok.seq ?_
        refine Ok.seq ?_
        refine Ok.region ?_
        refine OkO.fieldAddr (o := 0) rfl (by kernel_rfl) rfl ?_
        refine OkO.load rfl rfl (lda (n := 1) (by kernel_rfl) (by first | assumption | (simp (disch := first | omega | (simp only [hNw, hPt]; omega)) only [gn0, gn1, gn2, gn3, gn4, gn5, gp0, gno, gpo] <;> first | rfl | assumption | exact gp0 _ _ _ | exact gn0 _ _)) (by first | rfl | assumption)) ?_
        refine OkO.bin rfl rfl rfl (bin_lss _ _) ?_
        refine OkO.move rfl rfl ?_
        refine OkO.split (d := 33) rfl (fun g4 => ?_) (fun g4 => ?_)
        · -- true g4
          have hlo : lo2 < 0 ∨ (k : Int) < lo2 := .inl (by simpa using g4)
          refine OkO.skip rfl ?_
          refine OkO.skip rfl ?_
          refine OkO.skip rfl ?_
          refine OkO.skip rfl ?_
          refine OkO.pick (b := true) rfl rfl (fun _ => rfl) nofun ?_
          refine OkO.nil ?_
          refine Ok.condT rfl ?_
          refine Ok.region ?_
          refine OkO.move rfl rfl ?_
          refine OkO.fieldAddr (o := 0) rfl (by kernel_rfl) rfl ?_
          refine OkO.store rfl rfl rfl (sAc (n := 1) (ag := false) (by kernel_rfl) (by first | assumption | (simp (disch := first | omega | (simp only [hNw, hPt]; omega)) only [gn0, gn1, gn2, gn3, gn4, gn5, gp0, gno, gpo] <;> first | rfl | assumption | exact gp0 _ _ _ | exact gn0 _ _)) rfl (by first | rfl | assumption) (by first | rfl | exact spl_set _ _ _ (by first | assumption | omega | (simp; omega)))) ?_
          refine OkO.nil ?_
          refine Ok.region ?_
          refine OkO.fieldAddr (o := 1) rfl (by kernel_rfl) rfl ?_
          refine OkO.load rfl rfl (lda (n := 1) (by kernel_rfl) (by first | assumption | (simp (disch := first | omega | (simp only [hNw, hPt]; omega)) only [gn0, gn1, gn2, gn3, gn4, gn5, gp0, gno, gpo] <;> first | rfl | assumption | exact gp0 _ _ _ | exact gn0 _ _)) (by first | rfl | assumption)) ?_
          refine OkO.move rfl rfl ?_
          refine OkO.builtin rfl rfl rfl (builtin_max2 _ _) ?_
          refine OkO.fieldAddr (o := 1) rfl (by kernel_rfl) rfl ?_
          refine OkO.store rfl rfl rfl (sAc (n := 1) (ag := false) (by kernel_rfl) (by first | assumption | (simp (disch := first | omega | (simp only [hNw, hPt]; omega)) only [gn0, gn1, gn2, gn3, gn4, gn5, gp0, gno, gpo] <;> first | rfl | assumption | exact gp0 _ _ _ | exact gn0 _ _)) rfl (by first | rfl | assumption) (by first | rfl | exact spl_set _ _ _ (by first | assumption | omega | (simp; omega)))) ?_
          refine OkO.nil ?_
          refine Ok.region ?_
          refine OkO.move rfl rfl ?_
          refine OkO.bin rfl rfl rfl (bin_add (by omega) (by omega)) ?_
          refine OkO.assign rfl rfl ?_
          refine OkO.nil ?_
          refine ⟨1001 - (k + 1), by omega, k + 1, (k : Int), _, rfl, by omega, by (have h9 := (hst2.add (w := k) (S' := fun w => SpdS p rows i w ∨ (w < k + 1 ∧ inI (w : Int) (lastI p ((i : Int) - 1) rows))) (fun v => ⟨fun h => h.elim (fun h => .inl (.inl h)) (fun h => by (by_cases e : v = k); (· exact .inr e); (· exact .inl (.inr ⟨by omega, h.2⟩))), fun h => h.elim (fun h => h.elim .inl (fun h => .inr ⟨by omega, h.2⟩)) (fun h => by subst h; exact .inr ⟨by omega, hin⟩)⟩))); rw [if_pos hlo] at h9; exact h9, Has.of (by kernel_rfl), rfl, ((hat.put (by omega)).put (by omega)).to rfl⟩
        · -- false g4
          have hl1 : ¬ lo2 < 0 := by simpa using g4
          refine OkO.move rfl rfl ?_
          refine OkO.fieldAddr (o := 0) rfl (by kernel_rfl) rfl ?_
          refine OkO.load rfl rfl (lda (n := 1) (by kernel_rfl) (by first | assumption | (simp (disch := first | omega | (simp only [hNw, hPt]; omega)) only [gn0, gn1, gn2, gn3, gn4, gn5, gp0, gno, gpo] <;> first | rfl | assumption | exact gp0 _ _ _ | exact gn0 _ _)) (by first | rfl | assumption)) ?_
          refine OkO.bin rfl rfl rfl (bin_lss _ _) ?_
          refine OkO.pick (b := false) rfl rfl nofun (fun _ => rfl) ?_
          refine OkO.nil ?_
          refine Ok.cond rfl (fun h5 => ?_) (fun h5 => ?_)
          · -- yes h5
            have hlo : lo2 < 0 ∨ (k : Int) < lo2 := .inr (by simpa using h5)
            refine Ok.region ?_
            refine OkO.move rfl rfl ?_
            refine OkO.fieldAddr (o := 0) rfl (by kernel_rfl) rfl ?_
            refine OkO.store rfl rfl rfl (sAc (n := 1) (ag := false) (by kernel_rfl) (by first | assumption | (simp (disch := first | omega | (simp only [hNw, hPt]; omega)) only [gn0, gn1, gn2, gn3, gn4, gn5, gp0, gno, gpo] <;> first | rfl | assumption | exact gp0 _ _ _ | exact gn0 _ _)) rfl (by first | rfl | assumption) (by first | rfl | exact spl_set _ _ _ (by first | assumption | omega | (simp; omega)))) ?_
            refine OkO.nil ?_
            refine Ok.region ?_
            refine OkO.fieldAddr (o := 1) rfl (by kernel_rfl) rfl ?_
            refine OkO.load rfl rfl (lda (n := 1) (by kernel_rfl) (by first | assumption | (simp (disch := first | omega | (simp only [hNw, hPt]; omega)) only [gn0, gn1, gn2, gn3, gn4, gn5, gp0, gno, gpo] <;> first | rfl | assumption | exact gp0 _ _ _ | exact gn0 _ _)) (by first | rfl | assumption)) ?_
            refine OkO.move rfl rfl ?_
            refine OkO.builtin rfl rfl rfl (builtin_max2 _ _) ?_
            refine OkO.fieldAddr (o := 1) rfl (by kernel_rfl) rfl ?_
            refine OkO.store rfl rfl rfl (sAc (n := 1) (ag := false) (by kernel_rfl) (by first | assumption | (simp (disch := first | omega | (simp only [hNw, hPt]; omega)) only [gn0, gn1, gn2, gn3, gn4, gn5, gp0, gno, gpo] <;> first | rfl | assumption | exact gp0 _ _ _ | exact gn0 _ _)) rfl (by first | rfl | assumption) (by first | rfl | exact spl_set _ _ _ (by first | assumption | omega | (simp; omega)))) ?_
            refine OkO.nil ?_
            refine Ok.region ?_
            refine OkO.move rfl rfl ?_
            refine OkO.bin rfl rfl rfl (bin_add (by omega) (by omega)) ?_
            refine OkO.assign rfl rfl ?_
            refine OkO.nil ?_
            refine ⟨1001 - (k + 1), by omega, k + 1, (k : Int), _, rfl, by omega, by (have h9 := (hst2.add (w := k) (S' := fun w => SpdS p rows i w ∨ (w < k + 1 ∧ inI (w : Int) (lastI p ((i : Int) - 1) rows))) (fun v => ⟨fun h => h.elim (fun h => .inl (.inl h)) (fun h => by (by_cases e : v = k); (· exact .inr e); (· exact .inl (.inr ⟨by omega, h.2⟩))), fun h => h.elim (fun h => h.elim .inl (fun h => .inr ⟨by omega, h.2⟩)) (fun h => by subst h; exact .inr ⟨by omega, hin⟩)⟩))); rw [if_pos hlo] at h9; exact h9, Has.of (by kernel_rfl), rfl, ((hat.put (by omega)).put (by omega)).to rfl⟩
          · -- no h5
            have hlo : ¬ (lo2 < 0 ∨ (k : Int) < lo2) := by (have h9 : ¬ (k : Int) < lo2 := by simpa using h5); omega
            refine Ok.skip ?_
            refine Ok.region ?_
            refine OkO.fieldAddr (o := 1) rfl (by kernel_rfl) rfl ?_
            refine OkO.load rfl rfl (lda (n := 1) (by kernel_rfl) (by first | assumption | (simp (disch := first | omega | (simp only [hNw, hPt]; omega)) only [gn0, gn1, gn2, gn3, gn4, gn5, gp0, gno, gpo] <;> first | rfl | assumption | exact gp0 _ _ _ | exact gn0 _ _)) (by first | rfl | assumption)) ?_
            refine OkO.move rfl rfl ?_
            refine OkO.builtin rfl rfl rfl (builtin_max2 _ _) ?_
            refine OkO.fieldAddr (o := 1) rfl (by kernel_rfl) rfl ?_
            refine OkO.store rfl rfl rfl (sAc (n := 1) (ag := false) (by kernel_rfl) (by first | assumption | (simp (disch := first | omega | (simp only [hNw, hPt]; omega)) only [gn0, gn1, gn2, gn3, gn4, gn5, gp0, gno, gpo] <;> first | rfl | assumption | exact gp0 _ _ _ | exact gn0 _ _)) rfl (by first | rfl | assumption) (by first | rfl | exact spl_set _ _ _ (by first | assumption | omega | (simp; omega)))) ?_
            refine OkO.nil ?_
            refine Ok.region ?_
            refine OkO.move rfl rfl ?_
            refine OkO.bin rfl rfl rfl (bin_add (by omega) (by omega)) ?_
            refine OkO.assign rfl rfl ?_
            refine OkO.nil ?_
            refine ⟨1001 - (k + 1), by omega, k + 1, lo2, _, rfl, by omega, by (have h9 := (hst2.add (w := k) (S' := fun w => SpdS p rows i w ∨ (w < k + 1 ∧ inI (w : Int) (lastI p ((i : Int) - 1) rows))) (fun v => ⟨fun h => h.elim (fun h => .inl (.inl h)) (fun h => by (by_cases e : v = k); (· exact .inr e); (· exact .inl (.inr ⟨by omega, h.2⟩))), fun h => h.elim (fun h => h.elim .inl (fun h => .inr ⟨by omega, h.2⟩)) (fun h => by subst h; exact .inr ⟨by omega, hin⟩)⟩))); rw [if_neg hlo] at h9; exact h9, Has.of (by kernel_rfl), rfl, (hat.put (by omega)).to rfl⟩
      · -- no h3
        have hin : ¬ inI (k : Int) (lastI p ((i : Int) - 1) rows) := fun hc => by (have h9 : fl (lastI p ((i : Int) - 1) rows) k = true := bP_true hc); rw [show fl (lastI p ((i : Int) - 1) rows) k = false from h3] at h9; cases h9
        refine Ok.skip ?_
        refine Ok.region ?_
        refine OkO.move rfl rfl ?_
        refine OkO.bin rfl rfl rfl (bin_add (by omega) (by omega)) ?_
        refine OkO.assign rfl rfl ?_
        refine OkO.nil ?_
        refine ⟨1001 - (k + 1), by omega, k + 1, lo2, _, rfl, by omega, hst2.congr (fun v => ⟨fun h => h.elim .inl (fun h => .inr ⟨by (by_cases e : v = k); (· subst e; exact absurd h.2 hin); (· omega), h.2⟩), fun h => h.elim .inl (fun h => .inr ⟨by omega, h.2⟩)⟩), Has.of (by kernel_rfl), rfl, hat⟩
    · -- no h2
      have hk1 : k = 1001 := by (have h9 : ¬ (k : Int) ≤ 1000 := by simpa using h2); omega
      refine Ok.exit ?_
      refine Ok.region ?_
      refine OkO.move rfl rfl ?_
      refine OkO.bin rfl rfl rfl (bin_add (by omega) (by omega)) ?_
      refine OkO.assign rfl rfl ?_
      refine OkO.nil ?_
      refine ⟨(p.errs.length + 1) - (i + 1), by omega, i + 1, lo2, hi2, rfl, by omega, hst2.congr (fun v => ?_), ?_, rfl, hat.grow gg1 (by omega), by rw [hat.oth _ (by omega)]; exact a1, by rw [hat.oth _ (by omega)]; exact d1, hself, by have := hat.nx; show W.next + 3 ≤ G.next; omega⟩
      · subst hk1
        constructor
        · rintro ⟨q1, j, q2, q3⟩
          by_cases e : j = i
          · subst e; exact .inr ⟨q1, q3⟩
          · exact .inl ⟨q1, j, by omega, q3⟩
        · rintro (⟨h1, j, h2, h3⟩ | ⟨h1, h2⟩)
          · exact ⟨h1, j, by omega, h3⟩
          · exact ⟨h1, i, by omega, h2⟩
      · rw [show ((i + 1 : Nat) : Int) - 1 = (i : Int) - 1 + 1 from by omega]
        exact Has.of (by kernel_rfl)
  · -- no h1
    have hge : i = p.errs.length + 1 := by (have h9 : ¬ (i : Int) - 1 < (p.errs.length : Int) := by simpa using h1); omega
    refine Ok.exit ?_
    refine Ok.seq ?_
    refine Ok.region ?_
    refine OkO.load rfl rfl (ldg (n := 6) (by kernel_rfl) (by first | assumption | (simp (disch := first | omega | (simp only [hNw, hPt]; omega)) only [gn0, gn1, gn2, gn3, gn4, gn5, gp0, gno, gpo] <;> first | rfl | assumption | exact gp0 _ _ _ | exact gn0 _ _)) (by first | rfl | assumption)) ?_
    refine OkO.fieldAddr (o := 1) rfl (by kernel_rfl) rfl ?_
    refine OkO.load rfl rfl (lda (n := 1) (by kernel_rfl) (by first | assumption | (simp (disch := first | omega | (simp only [hNw, hPt]; omega)) only [gn0, gn1, gn2, gn3, gn4, gn5, gp0, gno, gpo] <;> first | rfl | assumption | exact gp0 _ _ _ | exact gn0 _ _)) (by first | rfl | assumption)) ?_
    refine OkO.callV rfl rfl rfl rfl rfl (c65 (m + 0) ev p hi _ ⟨_, hel⟩ (by omega) hpo) ?_ -- "sackung/sackungref04.Level"
    refine OkO.fieldAddr (o := 2) rfl (by kernel_rfl) rfl ?_
    refine OkO.store rfl rfl rfl (sAc (n := 1) (ag := false) (by kernel_rfl) (by first | assumption | (simp (disch := first | omega | (simp only [hNw, hPt]; omega)) only [gn0, gn1, gn2, gn3, gn4, gn5, gp0, gno, gpo] <;> first | rfl | assumption | exact gp0 _ _ _ | exact gn0 _ _)) rfl (by first | rfl | assumption) (by first | rfl | exact spl_set _ _ _ (by first | assumption | omega | (simp; omega)))) ?_
    refine OkO.nil ?_
    refine Ok.seq ?_
    refine Ok.drawn [(0, true, []), (1, true, []), (2, true, []), (3, true, []), (4, false, [2]), (5, true, [])] (by kernel_rfl) ?_
    refine OkP.step ?_
    refine OkO.load rfl rfl (ldg (n := 3) (by kernel_rfl) (by first | assumption | (simp (disch := first | omega | (simp only [hNw, hPt]; omega)) only [gn0, gn1, gn2, gn3, gn4, gn5, gp0, gno, gpo] <;> first | rfl | assumption | exact gp0 _ _ _ | exact gn0 _ _)) (by first | rfl | assumption)) ?_
    refine OkO.nil ⟨rfl, ?_⟩
    refine OkP.step ?_
    refine OkO.fieldAddr (o := 0) rfl (by kernel_rfl) rfl ?_
    refine OkO.nil ⟨rfl, ?_⟩
    refine OkP.step ?_
    refine OkO.load rfl rfl (lda (n := 1) (by kernel_rfl) (by first | assumption | (simp (disch := first | omega | (simp only [hNw, hPt]; omega)) only [gn0, gn1, gn2, gn3, gn4, gn5, gp0, gno, gpo] <;> first | rfl | assumption | exact gp0 _ _ _ | exact gn0 _ _)) (by first | rfl | assumption)) ?_
    refine OkO.nil ⟨rfl, ?_⟩
    refine OkP.step ?_
    refine OkO.bin rfl rfl rfl (bin_geq _ _) ?_
    refine OkO.nil ⟨rfl, ?_⟩
    refine OkP.step ?_
    refine OkO.store rfl rfl rfl (sAc (n := 3) (ag := true) (by kernel_rfl) (by first | assumption | (simp (disch := first | omega | (simp only [hNw, hPt]; omega)) only [gn0, gn1, gn2, gn3, gn4, gn5, gp0, gno, gpo] <;> first | rfl | assumption | exact gp0 _ _ _ | exact gn0 _ _)) rfl (by first | rfl | assumption) (by first | rfl | exact spl_set _ _ _ (by first | assumption | omega | (simp; omega)))) ?_
    refine OkO.nil ⟨(sco (sld rfl rfl (lda (n := 1) (by kernel_rfl) (by first | assumption | (simp (disch := first | omega | (simp only [hNw, hPt]; omega)) only [gn0, gn1, gn2, gn3, gn4, gn5, gp0, gno, gpo] <;> first | rfl | assumption | exact gp0 _ _ _ | exact gn0 _ _)) (by first | rfl | assumption)) rfl (eqr _ (by first | rfl | exact lpl (by assumption) | (simp [AV.plain, AV.plains, AV.cells, pev, Pst.c])))) rfl), ?_⟩
    refine OkP.step ?_
    refine OkO.assign rfl rfl ?_
    refine OkO.nil ⟨rfl, ?_⟩
    refine OkP.nil ?_
    refine Ok.ret ⟨.inr rfl, ?_⟩
    subst hge
    have hval := hst.val
    rw [hval]
    exact back_flat (resV_cell rfl (ldg (n := 3) (by kernel_rfl) (by first | assumption | (simp (disch := first | omega | (simp only [hNw, hPt]; omega)) only [gn0, gn1, gn2, gn3, gn4, gn5, gp0, gno, gpo] <;> first | rfl | assumption)) (by first | rfl | assumption)) (resV_tmp rfl resV_nil)) rfl rfl (by rw [← hW]; exact (by (try dsimp only); repeat (first | exact hg | apply Grow.new | (refine Grow.put ?_ _ (by first | omega | (simp only [hNw, hPt]; omega))))))
end
end Go.Ev

set_option maxRecDepth 100000
set_option linter.unusedSimpArgs false
set_option linter.unusedVariables false
namespace Go.Ev
open Go Go.Proofs
noncomputable section
/-- A list of lists that was made. -/
def RowsM (k0 : Nat) (G : Heap) (v : AV) (rows : List (List Int)) : Prop := ∃ vs : List AV, vs.length = rows.length ∧ Mine k0 G v 22 1 vs ∧ ∀ (i : Nat) (x : AV) (r : List Int), vs[i]? = some x → rows[i]? = some r → Mine k0 G x 3 1 (r.map I)
theorem flat_one : ∀ vs : List AV, (vs.map fun x => [x]).flatten = vs
  | [] => rfl
  | a :: l => by rw [List.map_cons, List.flatten_cons, flat_one l]; rfl
theorem RowsM.at {k0 : Nat} {G : Heap} {v : AV} {rows : List (List Int)} (h : RowsM k0 G v rows) : LstAt G v rows := by
  obtain ⟨vs, h1, h2, h3⟩ := h
  exact ⟨vs, h1, Mine.row (e := 22) (by rw [flat_one]; exact h2) (fun x hx => by obtain ⟨y, _, rfl⟩ := List.mem_map.1 hx; rfl) (by omega), fun i x r a c => (h3 i x r a c).ints⟩
theorem RowsM.nil (k0 : Nat) (G : Heap) : RowsM k0 G .nils [] := ⟨[], rfl, Mine.nil _ _ _ _, fun i x s h _ => by simp at h⟩
theorem RowsM.to {k0 : Nat} {G G' : Heap} {v : AV} {rows : List (List Int)} (h : RowsM k0 G v rows) (e : Ext G G') : RowsM k0 G' v rows := by
  obtain ⟨vs, h1, h2, h3⟩ := h
  exact ⟨vs, h1, h2.to e, fun i x r a c => (h3 i x r a c).to e⟩
theorem RowsM.low {k0 k1 : Nat} {G : Heap} {v : AV} {rows : List (List Int)} (h : RowsM k1 G v rows) (hk : k0 ≤ k1) : RowsM k0 G v rows := by
  obtain ⟨vs, h1, h2, h3⟩ := h
  exact ⟨vs, h1, h2.low hk, fun i x r a c => (h3 i x r a c).low hk⟩
theorem RowsM.snoc {k0 : Nat} {G : Heap} {ov x : AV} {l : List (List Int)} {s : List Int} (h : RowsM k0 G ov l) (hx : Mine k0 G x 3 1 (s.map I)) : ∃ cs, Mine k0 G ov 22 1 cs ∧ cs.length = l.length ∧ ∀ v2 G2, Mine k0 G2 v2 22 1 (cs ++ [x]) → G.next ≤ G2.next → (∀ j, j < G.next → (∀ m, ov ≠ .opn j m) → G2.get j = G.get j) → RowsM k0 G2 v2 (l ++ [s]) := by
  obtain ⟨vs, h1, h2, h3⟩ := h
  refine ⟨_, h2, h1, fun v2 G2 k1 k2 k3 => ⟨vs ++ [x], by simp [h1], k1, fun i y t a c => ?_⟩⟩
  by_cases hi : i < vs.length
  · rw [List.getElem?_append_left hi] at a
    rw [List.getElem?_append_left (by omega)] at c
    exact (h3 i y t a c).offE h2 (.inl (by decide)) k2 k3
  · by_cases hi2 : i = vs.length
    · subst hi2
      rw [List.getElem?_append_right (Nat.le_refl _)] at a
      rw [List.getElem?_append_right (by omega), h1] at c
      simp at a c
      subst a c
      exact hx.offE h2 (.inl (by decide)) k2 k3
    · rw [List.getElem?_eq_none (by simp; omega)] at a; cases a
theorem RowsM.backS {H G H' : Heap} {v : AV} {l : List (List Int)} (h : RowsM H.next G v l) (r : (H' = H ∧ v.flat = true) ∨ ((∀ n, H'.get n = G.get n) ∧ H'.next = G.next)) : RowsM H.next H' v l := by
  rcases r with ⟨rfl, hf⟩ | ⟨h1, h2⟩
  · obtain ⟨vs, a1, a2, a3⟩ := h
    rcases a2 with ⟨rfl, a2⟩ | ⟨b, n, rfl, _⟩
    · subst a2; exact ⟨[], a1, .inl ⟨rfl, rfl⟩, fun i x s h _ => by simp at h⟩
    · cases hf
  · exact h.to ⟨by omega, fun n _ => h1 n⟩
theorem flat_post {x : AV} {p : Pst} (h : (AV.agg (p.c x)).flat = true) : x.flat = true := by
  have h1 : AV.flats [x, I p.gain, I p.drop, I p.fall, I p.out, I p.ahead] = true := h
  unfold AV.flats at h1
  cases hx : x.flat with
  | false => rw [hx] at h1; cases h1
  | true => rfl
def thinB (p : Pst) (rows : List (List Int)) : Bool := (rows.take 66).all (fun r => decide (r.length ≤ 15)) && (decide (p.errs.length ≤ 15) && decide (rows.length ≤ 65))
def fewB (p : Pst) (rows : List (List Int)) : Bool := thinB p rows && (decide (faultE p rows ≠ 0) || decide (rows.length ≤ 8))
theorem thin_facts {p : Pst} {rows : List (List Int)} (h : thinB p rows = true) : p.errs.length ≤ 15 ∧ rows.length ≤ 65 ∧ ∀ r ∈ rows, r.length ≤ 15 := by
  unfold thinB at h
  simp only [Bool.and_eq_true, decide_eq_true_eq, List.all_eq_true] at h
  refine ⟨h.2.1, h.2.2, fun r hr => h.1 r ?_⟩
  rw [List.take_of_length_le (by omega)]
  exact hr
theorem c20 (m : Nat) (ev : AV) (p : Pst) (H : Heap) (hV : Ints H ev p.errs) (hl : p.errs.length ≤ 1000000) : ∃ v H', RR (m + 2) (.fn 20 [.agg (p.c ev)]) H = some (v, H') ∧ ∃ x, v = .agg (p.c x) ∧ Ret H H' ∧ Mine H.next H' x 3 1 (p.errs.map I) := by
  show ∃ v H', evFn Try.prog (RR (m + 1)) 20 [.agg (p.c ev)] H = some (v, H') ∧ ∃ x, v = .agg (p.c x) ∧ Ret H H' ∧ Mine H.next H' x 3 1 (p.errs.map I)
  refine fn_okE Try.func20 rfl rfl (by kernel_rfl) (by kernel_rfl) ?_
  obtain ⟨W, hW⟩ : ∃ W : Heap, W = ⟨H.t, H.next, H.next⟩ := ⟨_, rfl⟩
  have hg : ∀ n, W.get n = H.get n := fun n => by rw [hW]; rfl
  have hN : W.next = H.next := by rw [hW]
  have hE : ∀ G, Grow W G → Ext H G := fun G g => ⟨by rw [← hN]; exact g.next, fun n k => by rw [g.get n (by rw [hN]; exact k), hg]⟩
  have hG : Grow W W := Grow.refl (by rw [hW]; exact Nat.le_refl _)
  rw [← hW]
  have pev : ev.plain = true := lpl hV.len
  refine Ok.seq ?_
  refine Ok.region ?_
  refine OkO.box rfl rfl ?_
  refine OkO.alloc (z := [.nils, .int .i64 0, .int .i64 0, .int .i64 0, .int .i64 0, .int .i64 0]) rfl (by kernel_rfl) ?_
  refine OkO.nil ?_
  refine Ok.seq ?_
  refine Ok.drawn [(0, true, []), (1, true, []), (3, true, []), (4, true, []), (5, true, []), (6, true, []), (7, true, []), (8, true, []), (9, true, []), (10, true, []), (11, true, []), (12, true, []), (2, false, [12, 10, 8, 6, 4]), (13, true, []), (14, false, [])] (by kernel_rfl) ?_
  refine OkP.step ?_
  refine OkO.fieldAddr (o := 0) rfl (by kernel_rfl) rfl ?_
  refine OkO.nil ⟨rfl, ?_⟩
  refine OkP.step ?_
  refine OkO.load rfl rfl (lda (n := 1) (by kernel_rfl) (by first | assumption | (simp (disch := first | omega | (simp only [hNw, hPt]; omega)) only [gn0, gn1, gn2, gn3, gn4, gn5, gp0, gno, gpo] <;> first | rfl | assumption | exact gp0 _ _ _ | exact gn0 _ _)) (by first | rfl | assumption)) ?_
  refine OkO.nil ⟨rfl, ?_⟩
  refine OkP.step ?_
  refine OkO.fieldAddr (o := 1) rfl (by kernel_rfl) rfl ?_
  refine OkO.nil ⟨rfl, ?_⟩
  refine OkP.step ?_
  refine OkO.load rfl rfl (lda (n := 1) (by kernel_rfl) (by first | assumption | (simp (disch := first | omega | (simp only [hNw, hPt]; omega)) only [gn0, gn1, gn2, gn3, gn4, gn5, gp0, gno, gpo] <;> first | rfl | assumption | exact gp0 _ _ _ | exact gn0 _ _)) (by first | rfl | assumption)) ?_
  refine OkO.nil ⟨rfl, ?_⟩
  refine OkP.step ?_
  refine OkO.fieldAddr (o := 2) rfl (by kernel_rfl) rfl ?_
  refine OkO.nil ⟨rfl, ?_⟩
  refine OkP.step ?_
  refine OkO.load rfl rfl (lda (n := 1) (by kernel_rfl) (by first | assumption | (simp (disch := first | omega | (simp only [hNw, hPt]; omega)) only [gn0, gn1, gn2, gn3, gn4, gn5, gp0, gno, gpo] <;> first | rfl | assumption | exact gp0 _ _ _ | exact gn0 _ _)) (by first | rfl | assumption)) ?_
  refine OkO.nil ⟨rfl, ?_⟩
  refine OkP.step ?_
  refine OkO.fieldAddr (o := 3) rfl (by kernel_rfl) rfl ?_
  refine OkO.nil ⟨rfl, ?_⟩
  refine OkP.step ?_
  refine OkO.load rfl rfl (lda (n := 1) (by kernel_rfl) (by first | assumption | (simp (disch := first | omega | (simp only [hNw, hPt]; omega)) only [gn0, gn1, gn2, gn3, gn4, gn5, gp0, gno, gpo] <;> first | rfl | assumption | exact gp0 _ _ _ | exact gn0 _ _)) (by first | rfl | assumption)) ?_
  refine OkO.nil ⟨rfl, ?_⟩
  refine OkP.step ?_
  refine OkO.fieldAddr (o := 4) rfl (by kernel_rfl) rfl ?_
  refine OkO.nil ⟨rfl, ?_⟩
  refine OkP.step ?_
  refine OkO.load rfl rfl (lda (n := 1) (by kernel_rfl) (by first | assumption | (simp (disch := first | omega | (simp only [hNw, hPt]; omega)) only [gn0, gn1, gn2, gn3, gn4, gn5, gp0, gno, gpo] <;> first | rfl | assumption | exact gp0 _ _ _ | exact gn0 _ _)) (by first | rfl | assumption)) ?_
  refine OkO.nil ⟨rfl, ?_⟩
  refine OkP.step ?_
  refine OkO.fieldAddr (o := 5) rfl (by kernel_rfl) rfl ?_
  refine OkO.nil ⟨rfl, ?_⟩
  refine OkP.step ?_
  refine OkO.load rfl rfl (lda (n := 1) (by kernel_rfl) (by first | assumption | (simp (disch := first | omega | (simp only [hNw, hPt]; omega)) only [gn0, gn1, gn2, gn3, gn4, gn5, gp0, gno, gpo] <;> first | rfl | assumption | exact gp0 _ _ _ | exact gn0 _ _)) (by first | rfl | assumption)) ?_
  refine OkO.nil ⟨rfl, ?_⟩
  refine OkP.step ?_
  refine OkO.callE rfl rfl rfl rfl rfl (c30 m ev p.errs _ (hV.ext (hE _ (by (try dsimp only); repeat (first | exact hG | apply Grow.new | (refine Grow.put ?_ _ (by first | omega | (simp only [hNw, hPt]; omega))))))) hl) ?_ -- "sackung/sackunglaw04.list"
  rintro v30 H30 ⟨q1, r1⟩
  have g30 : Grow W H30 := Grow.ret (by (try dsimp only); repeat (first | exact hG | apply Grow.new | (refine Grow.put ?_ _ (by first | omega | (simp only [hNw, hPt]; omega))))) q1
  have n30 := q1.ext.next
  simp only [hNw] at n30
  have a30 : (H30.get W.next).bind AObj.cs = some (p.c ev) := by rw [q1.ext.get _ (by simp only [hNw]; omega)]; simp (disch := first | omega | (simp only [hNw, hPt]; omega)) only [gn0, gn1, gn2, gn3, gn4, gn5, gp0, gno, gpo] <;> rfl
  have o30 : H30.get (W.next + 1) = some (.cells [.nils, I 0, I 0, I 0, I 0, I 0] 30) := by rw [q1.ext.get _ (by simp only [hNw]; omega)]; exact gn1 _ _ _
  obtain ⟨hv1, hv2⟩ := r1.one
  refine OkO.nil ⟨(sco (sld rfl rfl (lda (n := 1) (by kernel_rfl) (by first | assumption | (simp (disch := first | omega | (simp only [hNw, hPt]; omega)) only [gn0, gn1, gn2, gn3, gn4, gn5, gp0, gno, gpo] <;> first | rfl | assumption | exact gp0 _ _ _ | exact gn0 _ _)) (by first | rfl | assumption)) rfl (eqr _ (by first | rfl | exact lpl (by assumption) | (simp [AV.plain, AV.plains, AV.cells, pev, Pst.c])))) (sco (sld rfl rfl (lda (n := 1) (by kernel_rfl) (by first | assumption | (simp (disch := first | omega | (simp only [hNw, hPt]; omega)) only [gn0, gn1, gn2, gn3, gn4, gn5, gp0, gno, gpo] <;> first | rfl | assumption | exact gp0 _ _ _ | exact gn0 _ _)) (by first | rfl | assumption)) rfl (eqr _ (by first | rfl | exact lpl (by assumption) | (simp [AV.plain, AV.plains, AV.cells, pev, Pst.c])))) (sco (sld rfl rfl (lda (n := 1) (by kernel_rfl) (by first | assumption | (simp (disch := first | omega | (simp only [hNw, hPt]; omega)) only [gn0, gn1, gn2, gn3, gn4, gn5, gp0, gno, gpo] <;> first | rfl | assumption | exact gp0 _ _ _ | exact gn0 _ _)) (by first | rfl | assumption)) rfl (eqr _ (by first | rfl | exact lpl (by assumption) | (simp [AV.plain, AV.plains, AV.cells, pev, Pst.c])))) (sco (sld rfl rfl (lda (n := 1) (by kernel_rfl) (by first | assumption | (simp (disch := first | omega | (simp only [hNw, hPt]; omega)) only [gn0, gn1, gn2, gn3, gn4, gn5, gp0, gno, gpo] <;> first | rfl | assumption | exact gp0 _ _ _ | exact gn0 _ _)) (by first | rfl | assumption)) rfl (eqr _ (by first | rfl | exact lpl (by assumption) | (simp [AV.plain, AV.plains, AV.cells, pev, Pst.c])))) (sco (sld rfl rfl (lda (n := 1) (by kernel_rfl) (by first | assumption | (simp (disch := first | omega | (simp only [hNw, hPt]; omega)) only [gn0, gn1, gn2, gn3, gn4, gn5, gp0, gno, gpo] <;> first | rfl | assumption | exact gp0 _ _ _ | exact gn0 _ _)) (by first | rfl | assumption)) rfl (eqr _ (by first | rfl | exact lpl (by assumption) | (simp [AV.plain, AV.plains, AV.cells, pev, Pst.c])))) rfl))))), ?_⟩
  refine OkP.step ?_
  refine OkO.build (cs := p.c v30) (z := [.nils, .int .i64 0, .int .i64 0, .int .i64 0, .int .i64 0, .int .i64 0]) (pl := [(0, 1), (1, 1), (2, 1), (3, 1), (4, 1), (5, 1)]) rfl (by kernel_rfl) rfl (by show fillS _ _ _ = some [v30, I p.gain, I p.drop, I p.fall, I p.out, I p.ahead]; simp [fillS, spl, hv1, show ∀ z, (I z).cells = [I z] from fun _ => rfl]) ?_
  refine OkO.nil ⟨rfl, ?_⟩
  refine OkP.step ?_
  refine OkO.store rfl rfl rfl (sAc (n := 6) (ag := true) (by kernel_rfl) (by first | assumption | (simp (disch := first | omega | (simp only [hNw, hPt]; omega)) only [gn0, gn1, gn2, gn3, gn4, gn5, gp0, gno, gpo] <;> first | rfl | assumption | exact gp0 _ _ _ | exact gn0 _ _)) rfl (by show atoms [v30, I p.gain, I p.drop, I p.fall, I p.out, I p.ahead] = true; simp [atoms, hv2, show ∀ z, (I z).atom = true from fun _ => rfl]) (by first | rfl | exact spl_set _ _ _ (by first | assumption | omega | (simp; omega)))) ?_
  refine OkO.nil ⟨rfl, ?_⟩
  refine OkP.nil ?_
  refine Ok.ret ⟨.inr rfl, ?_⟩
  refine back_newA (resV_cell rfl (ldg (n := 6) (by kernel_rfl) (by first | assumption | (simp (disch := first | omega | (simp only [hNw, hPt]; omega)) only [gn0, gn1, gn2, gn3, gn4, gn5, gp0, gno, gpo] <;> first | rfl | assumption)) (by first | rfl | assumption)) resV_nil) rfl (by rw [← hW]; exact (by (try dsimp only); repeat (first | exact g30 | apply Grow.new | (refine Grow.put ?_ _ (by first | omega | (simp only [hNw, hPt]; omega)))))) (fun H9 p1 p2 => ⟨v30, rfl, p1, ?_⟩)
  exact Mine.backT (((r1.put _ (by first | omega | (simp only [hNw]; omega)))).low (by simp only [hNw]; omega)) p2 flat_post
theorem c22 (m : Nat) (sv : AV) (l : List (List Int)) (H : Heap) (hS : LstAt H sv l) (hl9 : l.length ≤ 100000) (hs9 : ∀ s ∈ l, s.length ≤ 100000) : ∃ v H', RR (m + 2) (.fn 22 [sv]) H = some (v, H') ∧ Ret H H' ∧ RowsM H.next H' v l := by
  show ∃ v H', evFn Try.prog (RR (m + 1)) 22 [sv] H = some (v, H') ∧ Ret H H' ∧ RowsM H.next H' v l
  refine fn_okE Try.func22 rfl rfl (by kernel_rfl) (by kernel_rfl) ?_
  obtain ⟨W, hW⟩ : ∃ W : Heap, W = ⟨H.t, H.next, H.next⟩ := ⟨_, rfl⟩
  have hg : ∀ n, W.get n = H.get n := fun n => by rw [hW]; rfl
  have hN : W.next = H.next := by rw [hW]
  have hE : ∀ G, Grow W G → Ext H G := fun G g => ⟨by rw [← hN]; exact g.next, fun n k => by rw [g.get n (by rw [hN]; exact k), hg]⟩
  have hG : Grow W W := Grow.refl (by rw [hW]; exact Nat.le_refl _)
  rw [← hW]
  have hlen := hS.len
  refine Ok.seq ?_
  refine Ok.region ?_
  refine OkO.assign rfl rfl ?_
  refine OkO.nil ?_
  refine Ok.seq ?_
  refine Ok.region ?_
  refine OkO.assign rfl rfl ?_
  refine OkO.nil ?_
  refine Ok.seq ?_
  refine Ok.seq ?_
  refine Ok.region ?_
  refine OkO.assign rfl rfl ?_
  refine OkO.nil ?_
  refine Ok.block ?_
  refine Ok.loop (fun n s => ∃ i : Nat, n = l.length - i ∧ i ≤ l.length ∧ (∃ ov, RowsM W.next s.H ov (l.take i) ∧ Has 5 [(0, sv), (3, ov), (4, I (i : Int))] s.T) ∧ s.D = [] ∧ Grow W s.H) (l.length) (by unfold loopFuel; omega)
    ⟨0, rfl, Nat.zero_le _, ⟨.nils, RowsM.nil _ _, Has.of (by kernel_rfl)⟩, rfl, hG⟩ ?_
  rintro n ⟨T, D, G⟩ ⟨i, hn, hi, ⟨ov, hm, ⟨f, hT⟩⟩, hD, hg⟩
  dsimp only at *
  subst hT hD
  have hgn := hg.next
  refine Ok.seq ?_
  refine Ok.seq ?_
  refine Ok.region ?_
  refine OkO.move rfl rfl ?_
  refine OkO.move rfl rfl ?_
  refine OkO.builtin rfl rfl rfl (bln (by kernel_rfl) (by first | assumption | rfl)) ?_
  refine OkO.bin rfl rfl rfl (bin_lss _ _) ?_
  refine OkO.nil ?_
  refine Ok.cond rfl (fun h1 => ?_) (fun h1 => ?_)
  · -- yes h1
    have hlt : i < l.length := by simpa using h1
    obtain ⟨x, bb, off, cs, i1, i2, i3, i4, i7⟩ := (hS.ext (hE _ hg)).at_ i hlt
    have pb : x.plain = true := lpl i7.len
    refine Ok.skip ?_
    refine Ok.seq ?_
    refine Ok.block ?_
    refine Ok.region ?_
    refine OkO.move rfl rfl ?_
    refine OkO.move rfl rfl ?_
    refine OkO.move rfl rfl ?_
    refine OkO.index (sz := 1) rfl rfl rfl (by kernel_rfl) (by first | assumption | rfl | exact slAt_slice (by omega) | exact slAt_opn (by omega)) ?_ -- index ('Go.Operand.tmp', 12) ('Go.Operand.tmp', 13)
    refine OkO.load rfl rfl (lda (n := 1) (by kernel_rfl) (by first | assumption | (simp (disch := first | omega | (simp only [hNw, hPt]; omega)) only [gn0, gn1, gn2, gn3, gn4, gn5, gp0, gno, gpo] <;> first | rfl | assumption | exact gp0 _ _ _ | exact gn0 _ _)) (by first | rfl | assumption)) ?_
    refine OkO.callE rfl rfl rfl rfl rfl (c30 m x l[i] _ i7 (by have := hs9 l[i] (List.getElem_mem hlt); omega)) ?_ -- "sackung/sackunglaw04.list"
    rintro x' H38 ⟨q38, r38⟩
    have g38 : Grow W H38 := Grow.ret (by (try dsimp only); repeat (first | exact hg | exact hG | apply Grow.new | (refine Grow.put ?_ _ (by first | omega | (simp only [hNw, hPt]; omega))))) q38
    have n38 := q38.ext.next
    obtain ⟨cs9, hm9, hcl9, hsn⟩ := RowsM.snoc (s := l[i]) (hm.to q38.ext) (r38.low (by omega))
    obtain ⟨u1, u2⟩ := r38.one
    refine OkO.buildSlice (el := 22) (sz := 1) (z := [.nils]) (cs := [x']) rfl (by kernel_rfl) (by decide) rfl (by show fillS (fun i => some (i * 1, 1)) [AV.nils] [(0, x')] = some [x']; simp [fillS, spl, u1]) ?_
    refine OkO.builtinE rfl rfl rfl (Mine.app2 (W := W) (k0 := W.next) (t := 25) (u := 25) (sz := 1) (by_ := 24) (e := 22) (n := 1) (new := [x']) (hm9.to (Grow.toNew _ _)) (g38.new _) (Nat.le_refl _) (by simp; omega) (by kernel_rfl) (by kernel_rfl) (elems_new (n := 1) (sz := 1) rfl) rfl rfl (by rw [hcl9, List.length_take]; omega) (by omega) (by omega) (by simp [atoms, u2])) ?_
    rintro v2 G2 ⟨r1, r2, r3, r4, r5, _⟩
    simp only [hNw] at r4 r5
    have hnew : RowsM W.next G2 v2 (l.take (i + 1)) := by
            rw [List.take_succ_eq_append_getElem hlt]
            exact hsn v2 G2 r1 (by omega) (fun j hj hne => by rw [r4 j (by omega) hne]; exact gno _ _ _ (by omega))
    refine OkO.assign rfl rfl ?_
    refine OkO.nil ?_
    refine Ok.region ?_
    refine OkO.move rfl rfl ?_
    refine OkO.bin rfl rfl rfl (bin_add (by omega) (by omega)) ?_
    refine OkO.assign rfl rfl ?_
    refine OkO.nil ?_
    refine ⟨l.length - (i + 1), by omega, i + 1, rfl, hlt, ⟨_, hnew, Has.of (by kernel_rfl)⟩, rfl, r2⟩
  · -- no h1
    have hge : i = l.length := by simp at h1; omega
    subst hge
    rw [List.take_length] at hm
    refine Ok.exit ?_
    refine Ok.seq ?_
    refine Ok.region ?_
    refine OkO.move rfl rfl ?_
    refine OkO.assign rfl rfl ?_
    refine OkO.nil ?_
    refine Ok.ret ⟨.inr rfl, ?_⟩
    refine back_newA (resV_tmp rfl resV_nil) rfl (by rw [← hW]; exact hg) (fun H9 p1 p2 => ⟨p1, (hm.low (by omega)).backS p2⟩)
theorem c58 (m : Nat) (ev rv : AV) (p : Pst) (rows : List (List Int)) (H : Heap) (hV : Ints H ev p.errs) (hRs : LstAt H rv rows) : RR (m + 1) (.fn 58 [.agg (p.c ev), rv]) H = some (.bool (thinB p rows), H) := by
  refine (R_fn _ _ _ _ _).trans ?_
  refine fn_ok Try.func58 rfl rfl (by kernel_rfl) (by kernel_rfl) ?_
  obtain ⟨W, hW⟩ : ∃ W : Heap, W = ⟨H.t, H.next, H.next⟩ := ⟨_, rfl⟩
  have hg : ∀ n, W.get n = H.get n := fun n => by rw [hW]; rfl
  have hN : W.next = H.next := by rw [hW]
  have hE : ∀ G, Grow W G → Ext H G := fun G g => ⟨by rw [← hN]; exact g.next, fun n k => by rw [g.get n (by rw [hN]; exact k), hg]⟩
  have hG : Grow W W := Grow.refl (by rw [hW]; exact Nat.le_refl _)
  rw [← hW]
  have pev : ev.plain = true := lpl hV.len
  have hel := hV.len
  have hrlen := hRs.len
  refine Ok.seq ?_
  refine Ok.region ?_
  refine OkO.box rfl rfl ?_
  refine OkO.assign rfl rfl ?_
  refine OkO.nil ?_
  refine Ok.seq ?_
  refine Ok.seq ?_
  refine Ok.region ?_
  refine OkO.assign rfl rfl ?_
  refine OkO.nil ?_
  refine Ok.block ?_
  obtain ⟨H6, hH6⟩ : ∃ H6, H6 = W.new (.cells (p.c ev) 24) := ⟨_, rfl⟩
  have e6 : (H6.get W.next).bind AObj.cs = some (p.c ev) := by rw [hH6, gn0]; rfl
  have g6 : Grow W H6 := by rw [hH6]; exact hG.new _
  refine Ok.loop (fun n s => ∃ i : Nat, n = 67 - i ∧ i ≤ rows.length ∧ i ≤ 66 ∧ (∀ (j : Nat) (hj : j < rows.length), j < i → rows[j].length ≤ 15) ∧ Has 6 [(1, rv), (2, .ptr W.next 0), (5, I (i : Int))] s.T ∧ s.D = [] ∧ s.H = H6) (67) (by unfold loopFuel; omega)
    ⟨0, rfl, Nat.zero_le _, by omega, fun j hj h => absurd h (Nat.not_lt_zero j), Has.of (by kernel_rfl), rfl, by rw [hH6]; rfl⟩ ?_
  rintro n ⟨T, D, G⟩ ⟨i, hn, hi, hi66, hall, ⟨f_, hT⟩, hD, hg9⟩
  dsimp only at *
  subst hT hD
  skip
  subst hg9
  refine Ok.seq ?_
  refine Ok.seq ?_
  refine Ok.region ?_
  refine OkO.move rfl rfl ?_
  refine OkO.move rfl rfl ?_
  refine OkO.builtin rfl rfl rfl (bln (by kernel_rfl) (by first | assumption | rfl)) ?_
  refine OkO.bin rfl rfl rfl (bin_lss _ _) ?_
  refine OkO.move rfl rfl ?_
  refine OkO.split (d := 10) rfl (fun g1 => ?_) (fun g1 => ?_)
  · -- true g1
    have hlt : i < rows.length := by simpa using g1
    refine OkO.move rfl rfl ?_
    refine OkO.bin rfl rfl rfl (bin_lss _ _) ?_
    refine OkO.pick (b := true) rfl rfl (fun _ => rfl) nofun ?_
    refine OkO.nil ?_
    refine Ok.cond rfl (fun h2 => ?_) (fun h2 => ?_)
    · -- yes h2
      have hi2 : i < 66 := by (have h9 : (i : Int) < 66 := by simpa using h2); omega
      obtain ⟨xr, rb, ro, rcs, r1, r2, r3, r4, r5⟩ := (hRs.ext (hE _ g6)).at_ i hlt
      have hxl := r5.len
      have pxr : xr.plain = true := lpl r5.len
      refine Ok.skip ?_
      refine Ok.seq ?_
      refine Ok.block ?_
      refine Ok.seq ?_
      refine Ok.region ?_
      refine OkO.move rfl rfl ?_
      refine OkO.move rfl rfl ?_
      refine OkO.index (sz := 1) (n := i) rfl rfl rfl (by kernel_rfl) (by first | assumption | rfl | exact slAt_slice (by omega) | exact slAt_opn (by omega)) ?_ -- index ('Go.Operand.tmp', 16) ('Go.Operand.tmp', 17)
      refine OkO.load rfl rfl (lda (n := 1) (by kernel_rfl) (by first | assumption | (simp (disch := first | omega | (simp only [hNw, hPt]; omega)) only [gn0, gn1, gn2, gn3, gn4, gn5, gp0, gno, gpo] <;> first | rfl | assumption | exact gp0 _ _ _ | exact gn0 _ _)) (by first | rfl | assumption)) ?_
      refine OkO.builtin rfl rfl rfl (bln (by kernel_rfl) (by first | assumption | rfl)) ?_
      refine OkO.bin rfl rfl rfl (bin_gtr _ _) ?_
      refine OkO.nil ?_
      refine Ok.cond rfl (fun h3 => ?_) (fun h3 => ?_)
      · -- yes h3
        refine Ok.seq ?_
        refine Ok.region ?_
        refine OkO.assign rfl rfl ?_
        refine OkO.nil ?_
        refine Ok.ret ⟨.inr rfl, ?_⟩
        have hbad : 15 < rows[i].length := by (have h9 : (15 : Int) < (rows[i].length : Int) := by simpa using h3); omega
        exact back_flat rfl (congrArg AV.bool (by symm; unfold thinB; rw [show ((rows.take 66).all fun r => decide (r.length ≤ 15)) = false from List.all_eq_false.2 ⟨rows[i], List.mem_of_getElem? (i := i) (by rw [List.getElem?_take, if_pos (by omega)]; exact List.getElem?_eq_getElem hlt), by rw [decide_eq_true_eq]; omega⟩]; rfl)) rfl (by rw [← hW]; exact g6)
      · -- no h3
        refine Ok.skip ?_
        refine Ok.region ?_
        refine OkO.move rfl rfl ?_
        refine OkO.bin rfl rfl rfl (bin_add (by omega) (by omega)) ?_
        refine OkO.assign rfl rfl ?_
        refine OkO.nil ?_
        refine ⟨67 - (i + 1), by omega, i + 1, rfl, by omega, by omega, fun j hj h => ?_, Has.of (by kernel_rfl), rfl, rfl⟩
        by_cases e : j = i
        · subst e; (have h9 : ¬ (15 : Int) < (rows[j].length : Int) := by simpa using h3); omega
        · exact hall j hj (by omega)
    · -- no h2
      have hi2 : ¬ i < 66 := by (have h9 : ¬ (i : Int) < 66 := by simpa using h2); omega
      refine Ok.exit ?_
      refine Ok.seq ?_
      refine Ok.region ?_
      refine OkO.fieldAddr (o := 0) rfl (by kernel_rfl) rfl ?_
      refine OkO.load rfl rfl (lda (n := 1) (by kernel_rfl) (by first | assumption | (simp (disch := first | omega | (simp only [hNw, hPt]; omega)) only [gn0, gn1, gn2, gn3, gn4, gn5, gp0, gno, gpo] <;> first | rfl | assumption | exact gp0 _ _ _ | exact gn0 _ _)) (by first | rfl | assumption)) ?_
      refine OkO.builtin rfl rfl rfl (bln (by kernel_rfl) (by first | assumption | rfl)) ?_
      refine OkO.bin rfl rfl rfl (bin_leq _ _) ?_
      refine OkO.move rfl rfl ?_
      refine OkO.split (d := 26) rfl (fun g4 => ?_) (fun g4 => ?_)
      · -- true g4
        refine OkO.move rfl rfl ?_
        refine OkO.builtin rfl rfl rfl (bln (by kernel_rfl) (by first | assumption | rfl)) ?_
        refine OkO.bin rfl rfl rfl (bin_leq _ _) ?_
        refine OkO.pick (b := true) rfl rfl (fun _ => rfl) nofun ?_
        refine OkO.assign rfl rfl ?_
        refine OkO.nil ?_
        refine Ok.ret ⟨.inr rfl, ?_⟩
        have hA : ((rows.take 66).all fun r => decide (r.length ≤ 15)) = true := List.all_eq_true.2 (fun r hr => by obtain ⟨j, hj, rfl⟩ := List.mem_iff_getElem.1 hr; (have hjl : j < 66 ∧ j < rows.length := by rw [List.length_take] at hj; omega); rw [List.getElem_take, decide_eq_true_eq]; exact hall j hjl.2 (by omega))
        have hB : p.errs.length ≤ 15 := by (have h9 : (p.errs.length : Int) ≤ 15 := by simpa using g4); omega
        exact back_flat rfl (congrArg AV.bool (by unfold thinB; rw [hA, decide_eq_true hB, Bool.true_and, Bool.true_and, Bool.eq_iff_iff, decide_eq_true_eq, decide_eq_true_eq]; omega)) rfl (by rw [← hW]; exact g6)
      · -- false g4
        refine OkO.skip rfl ?_
        refine OkO.skip rfl ?_
        refine OkO.skip rfl ?_
        refine OkO.pick (b := false) rfl rfl nofun (fun _ => rfl) ?_
        refine OkO.assign rfl rfl ?_
        refine OkO.nil ?_
        refine Ok.ret ⟨.inr rfl, ?_⟩
        have hA : ((rows.take 66).all fun r => decide (r.length ≤ 15)) = true := List.all_eq_true.2 (fun r hr => by obtain ⟨j, hj, rfl⟩ := List.mem_iff_getElem.1 hr; (have hjl : j < 66 ∧ j < rows.length := by rw [List.length_take] at hj; omega); rw [List.getElem_take, decide_eq_true_eq]; exact hall j hjl.2 (by omega))
        have hB : ¬ p.errs.length ≤ 15 := by (have h9 : ¬ (p.errs.length : Int) ≤ 15 := by simpa using g4); omega
        exact back_flat rfl (congrArg AV.bool (by unfold thinB; rw [hA, decide_eq_false hB]; rfl)) rfl (by rw [← hW]; exact g6)
  · -- false g1
    have hge : rows.length ≤ i := by simpa using g1
    refine OkO.skip rfl ?_
    refine OkO.skip rfl ?_
    refine OkO.pick (b := false) rfl rfl nofun (fun _ => rfl) ?_
    refine OkO.nil ?_
    refine Ok.condF rfl ?_
    refine Ok.exit ?_
    refine Ok.seq ?_
    refine Ok.region ?_
    refine OkO.fieldAddr (o := 0) rfl (by kernel_rfl) rfl ?_
    refine OkO.load rfl rfl (lda (n := 1) (by kernel_rfl) (by first | assumption | (simp (disch := first | omega | (simp only [hNw, hPt]; omega)) only [gn0, gn1, gn2, gn3, gn4, gn5, gp0, gno, gpo] <;> first | rfl | assumption | exact gp0 _ _ _ | exact gn0 _ _)) (by first | rfl | assumption)) ?_
    refine OkO.builtin rfl rfl rfl (bln (by kernel_rfl) (by first | assumption | rfl)) ?_
    refine OkO.bin rfl rfl rfl (bin_leq _ _) ?_
    refine OkO.move rfl rfl ?_
    refine OkO.split (d := 26) rfl (fun g5 => ?_) (fun g5 => ?_)
    · -- true g5
      refine OkO.move rfl rfl ?_
      refine OkO.builtin rfl rfl rfl (bln (by kernel_rfl) (by first | assumption | rfl)) ?_
      refine OkO.bin rfl rfl rfl (bin_leq _ _) ?_
      refine OkO.pick (b := true) rfl rfl (fun _ => rfl) nofun ?_
      refine OkO.assign rfl rfl ?_
      refine OkO.nil ?_
      refine Ok.ret ⟨.inr rfl, ?_⟩
      have hA : ((rows.take 66).all fun r => decide (r.length ≤ 15)) = true := List.all_eq_true.2 (fun r hr => by obtain ⟨j, hj, rfl⟩ := List.mem_iff_getElem.1 hr; (have hjl : j < 66 ∧ j < rows.length := by rw [List.length_take] at hj; omega); rw [List.getElem_take, decide_eq_true_eq]; exact hall j hjl.2 (by omega))
      have hB : p.errs.length ≤ 15 := by (have h9 : (p.errs.length : Int) ≤ 15 := by simpa using g5); omega
      exact back_flat rfl (congrArg AV.bool (by unfold thinB; rw [hA, decide_eq_true hB, Bool.true_and, Bool.true_and, Bool.eq_iff_iff, decide_eq_true_eq, decide_eq_true_eq]; omega)) rfl (by rw [← hW]; exact g6)
    · -- false g5
      refine OkO.skip rfl ?_
      refine OkO.skip rfl ?_
      refine OkO.skip rfl ?_
      refine OkO.pick (b := false) rfl rfl nofun (fun _ => rfl) ?_
      refine OkO.assign rfl rfl ?_
      refine OkO.nil ?_
      refine Ok.ret ⟨.inr rfl, ?_⟩
      have hA : ((rows.take 66).all fun r => decide (r.length ≤ 15)) = true := List.all_eq_true.2 (fun r hr => by obtain ⟨j, hj, rfl⟩ := List.mem_iff_getElem.1 hr; (have hjl : j < 66 ∧ j < rows.length := by rw [List.length_take] at hj; omega); rw [List.getElem_take, decide_eq_true_eq]; exact hall j hjl.2 (by omega))
      have hB : ¬ p.errs.length ≤ 15 := by (have h9 : ¬ (p.errs.length : Int) ≤ 15 := by simpa using g5); omega
      exact back_flat rfl (congrArg AV.bool (by unfold thinB; rw [hA, decide_eq_false hB]; rfl)) rfl (by rw [← hW]; exact g6)
theorem c17 (m : Nat) (ev rv : AV) (p : Pst) (rows : List (List Int)) (H : Heap) (hV : Ints H ev p.errs) (hRs : LstAt H rv rows) : RR (m + 4) (.fn 17 [.agg (p.c ev), rv]) H = some (.bool (fewB p rows), H) := by
  refine (R_fn _ _ _ _ _).trans ?_
  refine fn_ok Try.func17 rfl rfl (by kernel_rfl) (by kernel_rfl) ?_
  obtain ⟨W, hW⟩ : ∃ W : Heap, W = ⟨H.t, H.next, H.next⟩ := ⟨_, rfl⟩
  have hg : ∀ n, W.get n = H.get n := fun n => by rw [hW]; rfl
  have hN : W.next = H.next := by rw [hW]
  have hE : ∀ G, Grow W G → Ext H G := fun G g => ⟨by rw [← hN]; exact g.next, fun n k => by rw [g.get n (by rw [hN]; exact k), hg]⟩
  have hG : Grow W W := Grow.refl (by rw [hW]; exact Nat.le_refl _)
  rw [← hW]
  have pev : ev.plain = true := lpl hV.len
  have hrlen := hRs.len
  refine Ok.seq ?_
  refine Ok.region ?_
  refine OkO.box rfl rfl ?_
  refine OkO.assign rfl rfl ?_
  refine OkO.nil ?_
  refine Ok.seq ?_
  refine Ok.region ?_
  refine OkO.load rfl rfl (ldg (n := 6) (by kernel_rfl) (by first | assumption | (simp (disch := first | omega | (simp only [hNw, hPt]; omega)) only [gn0, gn1, gn2, gn3, gn4, gn5, gp0, gno, gpo] <;> first | rfl | assumption | exact gp0 _ _ _ | exact gn0 _ _)) (by first | rfl | assumption)) ?_
  refine OkO.move rfl rfl ?_
  refine OkO.callV rfl rfl rfl rfl rfl (c58 (m + 2) ev rv p rows _ (hV.ext (hE _ (by (try dsimp only); repeat (first | exact hG | apply Grow.new | (refine Grow.put ?_ _ (by first | omega | (simp only [hNw, hPt]; omega))))))) (hRs.ext (hE _ (by (try dsimp only); repeat (first | exact hG | apply Grow.new | (refine Grow.put ?_ _ (by first | omega | (simp only [hNw, hPt]; omega)))))))) ?_ -- "sackung/sackunglaw04.Thin"
  refine OkO.move rfl rfl ?_
  refine OkO.split (d := 8) rfl (fun g1 => ?_) (fun g1 => ?_)
  · -- true g1
    refine OkO.load rfl rfl (ldg (n := 6) (by kernel_rfl) (by first | assumption | (simp (disch := first | omega | (simp only [hNw, hPt]; omega)) only [gn0, gn1, gn2, gn3, gn4, gn5, gp0, gno, gpo] <;> first | rfl | assumption | exact gp0 _ _ _ | exact gn0 _ _)) (by first | rfl | assumption)) ?_
    refine OkO.move rfl rfl ?_
    refine OkO.callV rfl rfl rfl rfl rfl (c25 (m + 0) ev rv p rows _ (hV.ext (hE _ (by (try dsimp only); repeat (first | exact hG | apply Grow.new | (refine Grow.put ?_ _ (by first | omega | (simp only [hNw, hPt]; omega))))))) (hRs.ext (hE _ (by (try dsimp only); repeat (first | exact hG | apply Grow.new | (refine Grow.put ?_ _ (by first | omega | (simp only [hNw, hPt]; omega))))))) (by have := thin_facts g1; omega) (by have := thin_facts g1; omega) (fun r hr => by have := (thin_facts g1).2.2 r hr; omega)) ?_ -- "sackung/sackungref04.Fault"
    refine OkO.bin rfl rfl rfl (bin_neq _ _) ?_
    refine OkO.move rfl rfl ?_
    refine OkO.split (d := 13) rfl (fun g2 => ?_) (fun g2 => ?_)
    · -- true g2
      refine OkO.skip rfl ?_
      refine OkO.skip rfl ?_
      refine OkO.skip rfl ?_
      refine OkO.pick (b := true) rfl rfl (fun _ => rfl) nofun ?_
      refine OkO.pick (b := true) rfl rfl (fun _ => rfl) nofun ?_
      refine OkO.assign rfl rfl ?_
      refine OkO.nil ?_
      refine Ok.ret ⟨.inr rfl, ?_⟩
      exact back_flat rfl (congrArg AV.bool (by unfold fewB; rw [g1, g2]; rfl)) rfl (by rw [← hW]; exact (by (try dsimp only); repeat (first | exact hG | apply Grow.new | (refine Grow.put ?_ _ (by first | omega | (simp only [hNw, hPt]; omega))))))
    · -- false g2
      refine OkO.move rfl rfl ?_
      refine OkO.builtin rfl rfl rfl (bln (by kernel_rfl) (by first | assumption | rfl)) ?_
      refine OkO.bin rfl rfl rfl (bin_leq _ _) ?_
      refine OkO.pick (b := false) rfl rfl nofun (fun _ => rfl) ?_
      refine OkO.pick (b := true) rfl rfl (fun _ => rfl) nofun ?_
      refine OkO.assign rfl rfl ?_
      refine OkO.nil ?_
      refine Ok.ret ⟨.inr rfl, ?_⟩
      exact back_flat rfl (congrArg AV.bool (by unfold fewB; rw [g1, g2, Bool.true_and, Bool.false_or, Bool.eq_iff_iff, decide_eq_true_eq, decide_eq_true_eq]; omega)) rfl (by rw [← hW]; exact (by (try dsimp only); repeat (first | exact hG | apply Grow.new | (refine Grow.put ?_ _ (by first | omega | (simp only [hNw, hPt]; omega))))))
  · -- false g1
    refine OkO.skip rfl ?_
    refine OkO.skip rfl ?_
    refine OkO.skip rfl ?_
    refine OkO.skip rfl ?_
    refine OkO.skip rfl ?_
    refine OkO.skip rfl ?_
    refine OkO.skip rfl ?_
    refine OkO.skip rfl ?_
    refine OkO.skip rfl ?_
    refine OkO.pick (b := false) rfl rfl nofun (fun _ => rfl) ?_
    refine OkO.assign rfl rfl ?_
    refine OkO.nil ?_
    refine Ok.ret ⟨.inr rfl, ?_⟩
    exact back_flat rfl (congrArg AV.bool (by unfold fewB; rw [g1]; rfl)) rfl (by rw [← hW]; exact (by (try dsimp only); repeat (first | exact hG | apply Grow.new | (refine Grow.put ?_ _ (by first | omega | (simp only [hNw, hPt]; omega))))))
theorem c27 (m : Nat) (a1 a2 b1 b2 : Int) (a3 b3 : Int) (H : Heap)  : RR (m + 1) (.fn 27 [.agg [I a1, I a2, .int .u8 a3], .agg [I b1, I b2, .int .u8 b3]]) H = some (.bool (decide (a1 = b1) && decide (a2 = b2) && decide (a3 = b3)), H) := by
  refine (R_fn _ _ _ _ _).trans ?_
  refine fn_ok Try.func27 rfl rfl (by kernel_rfl) (by kernel_rfl) ?_
  obtain ⟨W, hW⟩ : ∃ W : Heap, W = ⟨H.t, H.next, H.next⟩ := ⟨_, rfl⟩
  have hg : ∀ n, W.get n = H.get n := fun n => by rw [hW]; rfl
  have hN : W.next = H.next := by rw [hW]
  have hE : ∀ G, Grow W G → Ext H G := fun G g => ⟨by rw [← hN]; exact g.next, fun n k => by rw [g.get n (by rw [hN]; exact k), hg]⟩
  have hG : Grow W W := Grow.refl (by rw [hW]; exact Nat.le_refl _)
  rw [← hW]
  refine Ok.seq ?_
  refine Ok.region ?_
  refine OkO.box rfl rfl ?_
  refine OkO.box rfl rfl ?_
  refine OkO.assign rfl rfl ?_
  refine OkO.nil ?_
  refine Ok.seq ?_
  refine Ok.region ?_
  refine OkO.fieldAddr (o := 0) rfl (by kernel_rfl) rfl ?_
  refine OkO.load rfl rfl (lda (n := 1) (by kernel_rfl) (by first | assumption | (simp (disch := first | omega | (simp only [hNw, hPt]; omega)) only [gn0, gn1, gn2, gn3, gn4, gn5, gp0, gno, gpo] <;> first | rfl | assumption | exact gp0 _ _ _ | exact gn0 _ _)) (by first | rfl | assumption)) ?_
  refine OkO.fieldAddr (o := 0) rfl (by kernel_rfl) rfl ?_
  refine OkO.load rfl rfl (lda (n := 1) (by kernel_rfl) (by first | assumption | (simp (disch := first | omega | (simp only [hNw, hPt]; omega)) only [gn0, gn1, gn2, gn3, gn4, gn5, gp0, gno, gpo] <;> first | rfl | assumption | exact gp0 _ _ _ | exact gn0 _ _)) (by first | rfl | assumption)) ?_
  refine OkO.bin rfl rfl rfl (bin_eql _ _) ?_
  refine OkO.move rfl rfl ?_
  refine OkO.split (d := 10) rfl (fun g1 => ?_) (fun g1 => ?_)
  · -- true g1
    have e1 : a1 = b1 := by simpa using g1
    refine OkO.fieldAddr (o := 1) rfl (by kernel_rfl) rfl ?_
    refine OkO.load rfl rfl (lda (n := 1) (by kernel_rfl) (by first | assumption | (simp (disch := first | omega | (simp only [hNw, hPt]; omega)) only [gn0, gn1, gn2, gn3, gn4, gn5, gp0, gno, gpo] <;> first | rfl | assumption | exact gp0 _ _ _ | exact gn0 _ _)) (by first | rfl | assumption)) ?_
    refine OkO.fieldAddr (o := 1) rfl (by kernel_rfl) rfl ?_
    refine OkO.load rfl rfl (lda (n := 1) (by kernel_rfl) (by first | assumption | (simp (disch := first | omega | (simp only [hNw, hPt]; omega)) only [gn0, gn1, gn2, gn3, gn4, gn5, gp0, gno, gpo] <;> first | rfl | assumption | exact gp0 _ _ _ | exact gn0 _ _)) (by first | rfl | assumption)) ?_
    refine OkO.bin rfl rfl rfl (bin_eql _ _) ?_
    refine OkO.pick (b := true) rfl rfl (fun _ => rfl) nofun ?_
    refine OkO.move rfl rfl ?_
    refine OkO.split (d := 17) rfl (fun g2 => ?_) (fun g2 => ?_)
    · -- true g2
      have e2 : a2 = b2 := by simpa using g2
      refine OkO.fieldAddr (o := 2) rfl (by kernel_rfl) rfl ?_
      refine OkO.load rfl rfl (lda (n := 1) (by kernel_rfl) (by first | assumption | (simp (disch := first | omega | (simp only [hNw, hPt]; omega)) only [gn0, gn1, gn2, gn3, gn4, gn5, gp0, gno, gpo] <;> first | rfl | assumption | exact gp0 _ _ _ | exact gn0 _ _)) (by first | rfl | assumption)) ?_
      refine OkO.fieldAddr (o := 2) rfl (by kernel_rfl) rfl ?_
      refine OkO.load rfl rfl (lda (n := 1) (by kernel_rfl) (by first | assumption | (simp (disch := first | omega | (simp only [hNw, hPt]; omega)) only [gn0, gn1, gn2, gn3, gn4, gn5, gp0, gno, gpo] <;> first | rfl | assumption | exact gp0 _ _ _ | exact gn0 _ _)) (by first | rfl | assumption)) ?_
      refine OkO.bin rfl rfl rfl (bin_eqlU8 _ _) ?_
      refine OkO.pick (b := true) rfl rfl (fun _ => rfl) nofun ?_
      refine OkO.assign rfl rfl ?_
      refine OkO.nil ?_
      refine Ok.ret ⟨.inr rfl, ?_⟩
      exact back_flat rfl (congrArg AV.bool (by simp [e1, e2])) rfl (by rw [← hW]; exact (by (try dsimp only); repeat (first | exact hG | apply Grow.new | (refine Grow.put ?_ _ (by first | omega | (simp only [hNw, hPt]; omega))))))
    · -- false g2
      have e2 : ¬ a2 = b2 := by simpa using g2
      refine OkO.skip rfl ?_
      refine OkO.skip rfl ?_
      refine OkO.skip rfl ?_
      refine OkO.skip rfl ?_
      refine OkO.skip rfl ?_
      refine OkO.pick (b := false) rfl rfl nofun (fun _ => rfl) ?_
      refine OkO.assign rfl rfl ?_
      refine OkO.nil ?_
      refine Ok.ret ⟨.inr rfl, ?_⟩
      exact back_flat rfl (congrArg AV.bool (by simp [e1, e2])) rfl (by rw [← hW]; exact (by (try dsimp only); repeat (first | exact hG | apply Grow.new | (refine Grow.put ?_ _ (by first | omega | (simp only [hNw, hPt]; omega))))))
  · -- false g1
    have e1 : ¬ a1 = b1 := by simpa using g1
    refine OkO.skip rfl ?_
    refine OkO.skip rfl ?_
    refine OkO.skip rfl ?_
    refine OkO.skip rfl ?_
    refine OkO.skip rfl ?_
    refine OkO.pick (b := false) rfl rfl nofun (fun _ => rfl) ?_
    refine OkO.move rfl rfl ?_
    refine OkO.skip rfl ?_
    refine OkO.skip rfl ?_
    refine OkO.skip rfl ?_
    refine OkO.skip rfl ?_
    refine OkO.skip rfl ?_
    refine OkO.pick (b := false) rfl rfl nofun (fun _ => rfl) ?_
    refine OkO.assign rfl rfl ?_
    refine OkO.nil ?_
    refine Ok.ret ⟨.inr rfl, ?_⟩
    exact back_flat rfl (congrArg AV.bool (by simp [e1])) rfl (by rw [← hW]; exact (by (try dsimp only); repeat (first | exact hG | apply Grow.new | (refine Grow.put ?_ _ (by first | omega | (simp only [hNw, hPt]; omega))))))
end
end Go.Ev

set_option maxRecDepth 100000
set_option linter.unusedSimpArgs false
set_option linter.unusedVariables false
namespace Go.Ev
open Go Go.Proofs
noncomputable section
theorem LstAt.take {H : Heap} {v : AV} {rows : List (List Int)} (h : LstAt H v rows) (hv : (∃ b off len cap, v = .slice b off len cap ∧ len ≤ cap) ∨ v = .nils ∨ ∃ a c, v = .raw (.slice a 0 c)) {k : Nat} (hk : k ≤ rows.length) : ∃ v', (∀ G, sliceOf G 1 v none (some (.int .i64 (k : Int))) = some v') ∧ LstAt H v' (rows.take k) := by
  obtain ⟨vs, h1, h2, h3⟩ := h
  obtain ⟨v', e1, e2⟩ := slice_to hv h2 (k := k) (by simp; omega)
  refine ⟨v', e1, vs.take k, by simp [h1], by rw [List.map_take]; exact e2, fun i x r a c => ?_⟩
  rw [List.getElem?_take] at a c
  split at a
  · rename_i hi
    rw [if_pos hi] at c
    exact h3 i x r a c
  · cases a
theorem spd_mem {p : Pst} {rows : List (List Int)} {h : Nat} : ∀ {k : Nat} {x : Int}, x ∈ spdL p rows h k → ∃ j, j < k ∧ ∃ hh : h < (mayL p ((j : Int) - 1) rows).length, x = (mayL p ((j : Int) - 1) rows)[h].1 ∨ x = (mayL p ((j : Int) - 1) rows)[h].2
  | 0, x, hx => by simp [spdL] at hx
  | i + 1, x, hx => by
    by_cases hr : h + 1 ≤ lenM p rows i
    · have hh : h < (mayL p ((i : Int) - 1) rows).length := hr
      rw [spdL_yes hr hh] at hx
      rcases List.mem_append.1 hx with h8 | h8
      · obtain ⟨j, h1, h2⟩ := spd_mem h8
        exact ⟨j, by omega, h2⟩
      · simp at h8
        exact ⟨i, by omega, hh, h8⟩
    · rw [spdL_no hr] at hx
      obtain ⟨j, h1, h2⟩ := spd_mem hx
      exact ⟨j, by omega, h2⟩
theorem spd_in {p : Pst} {rows : List (List Int)} {h j : Nat} (hh : h < (mayL p ((j : Int) - 1) rows).length) : ∀ {k : Nat}, j < k → (mayL p ((j : Int) - 1) rows)[h].1 ∈ spdL p rows h k ∧ (mayL p ((j : Int) - 1) rows)[h].2 ∈ spdL p rows h k
  | 0, hk => by omega
  | i + 1, hk => by
    by_cases e : j = i
    · subst e
      rw [spdL_yes (show h + 1 ≤ lenM p rows j from hh) hh]
      simp
    · have := spd_in hh (k := i) (by omega)
      show _ ∈ spdL p rows h i ++ _ ∧ _ ∈ spdL p rows h i ++ _
      exact ⟨List.mem_append.2 (.inl this.1), List.mem_append.2 (.inl this.2)⟩
theorem mnL_mem : ∀ {L : List Int}, L ≠ [] → mnL L ∈ L
  | [], h => absurd rfl h
  | a :: l, _ => by
    have key : ∀ (l : List Int) (a : Int), l.foldl min a ∈ a :: l := fun l => by
      induction l with
      | nil => intro a; simp
      | cons c l ih =>
        intro a
        have := ih (min a c)
        rw [List.foldl_cons]
        rcases List.mem_cons.1 this with h | h
        · rw [h]
          rcases Int.le_total a c with h9 | h9
          · rw [Int.min_eq_left h9]; simp
          · rw [Int.min_eq_right h9]; simp
        · exact List.mem_cons_of_mem _ (List.mem_cons_of_mem _ h)
    exact key l a
theorem foldl_min : ∀ (l : List Int) (a : Int), l.foldl min a ≤ a ∧ ∀ x ∈ l, l.foldl min a ≤ x
  | [], a => ⟨Int.le_refl _, nofun⟩
  | c :: l, a => by
    obtain ⟨h1, h2⟩ := foldl_min l (min a c)
    rw [List.foldl_cons]
    exact ⟨by omega, fun x hx => by
      rcases List.mem_cons.1 hx with rfl | h
      · omega
      · exact h2 x h⟩
theorem foldl_max : ∀ (l : List Int) (a : Int), a ≤ l.foldl max a ∧ ∀ x ∈ l, x ≤ l.foldl max a
  | [], a => ⟨Int.le_refl _, nofun⟩
  | c :: l, a => by
    obtain ⟨h1, h2⟩ := foldl_max l (max a c)
    rw [List.foldl_cons]
    exact ⟨by omega, fun x hx => by
      rcases List.mem_cons.1 hx with rfl | h
      · omega
      · exact h2 x h⟩
theorem mnL_le {L : List Int} {x : Int} (h : x ∈ L) : mnL L ≤ x := by
  cases L with
  | nil => cases h
  | cons a l =>
    rcases List.mem_cons.1 h with rfl | h
    · exact (foldl_min l _).1
    · exact (foldl_min l a).2 x h
theorem le_mxL {L : List Int} {x : Int} (h : x ∈ L) : x ≤ mxL L := by
  cases L with
  | nil => cases h
  | cons a l =>
    rcases List.mem_cons.1 h with rfl | h
    · exact (foldl_max l _).1
    · exact (foldl_max l a).2 x h
theorem poss_last {p : Pst} {rows : List (List Int)} {i h : Nat} (hh : h ≤ rows.length) : h ≤ lenM p rows i ↔ lastI p ((i : Int) - 1) (rows.take h) ≠ nul := may_len hh
theorem poss_spd {p : Pst} {rows : List (List Int)} {h : Nat} (hh : h ≤ rows.length) : possB p rows h = true ↔ ∃ v, SpdS p (rows.take h) (p.errs.length + 1) v := by
  rw [possB_iff]
  constructor
  · rintro ⟨i, hi, h1⟩
    have h2 := (poss_last hh).1 h1
    obtain ⟨v, hv⟩ := (prp_mem (last_prp p ((i : Int) - 1) (rows.take h))).2 h2
    have hb := last_bd hv
    exact ⟨v.toNat, by omega, i, by omega, by rw [Int.toNat_of_nonneg hb.1]; exact hv⟩
  · rintro ⟨v, hv, j, hj, h1⟩
    exact ⟨j, by omega, (poss_last hh).2 ((prp_mem (last_prp _ _ _)).1 ⟨_, h1⟩)⟩
theorem At_none {p : Pst} {rows : List (List Int)} {h : Nat} (hh : h ≤ rows.length) (hp : possB p rows h = false) : AtSt (SpdS p (rows.take h) (p.errs.length + 1)) (-1) 0 := AtSt.nil fun v hv => by
  rw [(poss_spd hh).2 ⟨v, hv⟩] at hp
  cases hp
theorem At_spd {p : Pst} {rows : List (List Int)} {h : Nat} (hh : h < rows.length) (hp : possB p rows (h + 1) = true) : AtSt (SpdS p (rows.take (h + 1)) (p.errs.length + 1)) (mnL (spdL p rows h (p.errs.length + 1))) (mxL (spdL p rows h (p.errs.length + 1))) := by
  have hl := spdL_all hp (Nat.lt_succ_self h)
  have hne : spdL p rows h (p.errs.length + 1) ≠ [] := fun e => by rw [e] at hl; simp at hl
  have key : ∀ x, x ∈ spdL p rows h (p.errs.length + 1) → ∃ v : Nat, x = (v : Int) ∧ SpdS p (rows.take (h + 1)) (p.errs.length + 1) v := fun x hx => by
    obtain ⟨j, hj, hk, he⟩ := spd_mem hx
    have hb := may_bd hk
    have hm := (may_mem hk).1
    refine ⟨x.toNat, by omega, by omega, j, hj, ?_⟩
    rw [Int.toNat_of_nonneg (by omega), ← hm]
    unfold inI
    omega
  obtain ⟨a, ha, hsa⟩ := key _ (mnL_mem hne)
  obtain ⟨c, hc, hsc⟩ := key _ (mxL_mem hne)
  refine .inr ⟨a, c, ha, hc, hsa, hsc, fun v hv => ?_⟩
  obtain ⟨hv1, j, hj, hv2⟩ := hv
  have h2 : h + 1 ≤ lenM p rows j := (poss_last (by omega)).2 ((prp_mem (last_prp _ _ _)).1 ⟨_, hv2⟩)
  have hk : h < (mayL p ((j : Int) - 1) rows).length := h2
  have hm := (may_mem hk).1
  have hin := spd_in hk hj
  have h3 := mnL_le hin.1
  have h4 := le_mxL hin.2
  unfold inI at hv2
  rw [hm] at h3 h4
  omega
end
end Go.Ev

