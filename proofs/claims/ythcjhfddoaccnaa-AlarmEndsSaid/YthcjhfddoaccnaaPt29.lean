/-
  Functions of the program, reckoned by the evaluator: what each answers, and that it leaves what came in as it was.
-/
import Derived.Test.YthcjhfddoaccnaaPt28
set_option maxRecDepth 100000
set_option linter.unusedSimpArgs false
set_option linter.unusedVariables false
namespace Go.Ev
open Go Go.Proofs
noncomputable section
/-- An end of what is known is reached with some gauge failed. -/
theorem spd_hit {p : Pst} {rows : List (List Int)} {hr : Nat} {e : Int} (h : e ∈ spdL p rows hr (p.errs.length + 1)) : ∃ j, j ≤ p.errs.length ∧ HitP p rows hr e j := by
  obtain ⟨j, hj, hh, he⟩ := spd_mem h
  refine ⟨j, by omega, hh, ?_⟩
  rw [show (mayL p ((j : Int) - 1) rows).getD hr nul = (mayL p ((j : Int) - 1) rows)[hr] from by simp [List.getD, hh]]
  obtain ⟨e1, e2⟩ := may_mem hh
  have h3 : (mayL p ((j : Int) - 1) rows)[hr].1 ≤ (mayL p ((j : Int) - 1) rows)[hr].2 := by
    rw [e1]
    rcases last_prp p ((j : Int) - 1) (rows.take (hr + 1)) with h | h
    · exact absurd h e2
    · exact h
  unfold inI
  rcases he with he | he <;> rw [he] <;> omega
theorem hit_span {p : Pst} {rows : List (List Int)} {hr j : Nat} {e : Int} (hj : j ≤ p.errs.length) (h : HitP p rows hr e j) : mnL (spdL p rows hr (p.errs.length + 1)) ≤ e ∧ e ≤ mxL (spdL p rows hr (p.errs.length + 1)) := by
  have hk : hr < (mayL p ((j : Int) - 1) rows).length := h.1
  have h2 := h.2
  rw [show (mayL p ((j : Int) - 1) rows).getD hr nul = (mayL p ((j : Int) - 1) rows)[hr] from by simp [List.getD, hk]] at h2
  obtain ⟨h3, h4⟩ := spd_in hk (k := p.errs.length + 1) (by omega)
  have h5 := mnL_le h3
  have h6 := le_mxL h4
  unfold inI at h2
  omega
theorem fault_take {p : Pst} {rows : List (List Int)} (h : faultE p rows = 0) (k : Nat) : faultE p (rows.take k) = 0 := by
  obtain ⟨h1, h2, h3, h4⟩ := faultE_facts h
  unfold faultE
  rw [if_pos h1, if_neg (by rw [List.length_take]; omega), if_pos]
  rw [List.all_eq_true]
  intro r hr
  have hr2 := List.mem_of_mem_take hr
  unfold goodB
  rw [Bool.and_eq_true, decide_eq_true_eq, List.all_eq_true]
  exact ⟨h3 r hr2, fun x hx => by (have h9 := h4 r hr2 x hx); unfold inB; simp; exact h9⟩
theorem c35O (m : Nat) (ev rv : AV) (p : Pst) (rows : List (List Int)) (hr : Nat) (s0 : Int) (H : Heap) (hV : Ints H ev p.errs) (hRs : LstAt H rv rows) (hpl : p.errs.length ≤ 100000) (hrl : rows.length ≤ 100000) (hlens9 : ∀ r ∈ rows, r.length ≤ 100000) (hf : faultE p rows = 0) (hhr : hr < rows.length) (hno : ∀ j, j ≤ p.errs.length → ¬ HitP p rows hr s0 j) : ∃ v H', RR (m + 80) (.fn 35 [.agg (p.c ev), rv, I (hr : Int), I s0]) H = some (v, H') ∧ ∃ e, v = .tup [I 0, .nils, I e] ∧ Ret H H' ∧ (e = 7 ∨ (e = 2 ∧ ¬ (0 ≤ s0 ∧ s0 ≤ 1000))) := by
  by_cases hs : 0 ≤ s0 ∧ s0 ≤ 1000
  · obtain ⟨v, H', h1, h2, h3⟩ := c35Y m ev rv p rows hr s0 H hV hRs hpl hrl hlens9 hf hhr hs
    refine ⟨v, H', h1, 7, ?_, h2, .inl rfl⟩
    rcases h3 with ⟨i, l, hi, hh, _⟩ | ⟨_, h3⟩
    · exact absurd hh (hno i hi)
    · exact h3
  · exact ⟨_, H, c35R m ev rv p rows hr s0 H hV hRs hpl hrl hlens9 hf (by simp [inB]; omega), 2, rfl, Ret.refl H, .inr ⟨rfl, hs⟩⟩
theorem c12W (m : Nat) (ev rv : AV) (p : Pst) (rows : List (List Int)) (av : Int) (H : Heap) (hV : Ints H ev p.errs) (hRs : LstAt H rv rows) (hav : 0 ≤ av ∧ av ≤ 255) (hrd : (thinB p rows && decide (faultE p rows = 0)) = false) : RR (m + 81) (.fn 12 [.agg (p.c ev), rv, .int .u8 av]) H = some (.bool true, H) := by
  refine (R_fn _ _ _ _ _).trans ?_
  refine fn_ok Try.func12 rfl rfl (by kernel_rfl) (by kernel_rfl) ?_
  obtain ⟨W, hW⟩ : ∃ W : Heap, W = ⟨H.t, H.next, H.next⟩ := ⟨_, rfl⟩
  have hg : ∀ n, W.get n = H.get n := fun n => by rw [hW]; rfl
  have hN : W.next = H.next := by rw [hW]
  have hE : ∀ G, Grow W G → Ext H G := fun G g => ⟨by rw [← hN]; exact g.next, fun n k => by rw [g.get n (by rw [hN]; exact k), hg]⟩
  have hG : Grow W W := Grow.refl (by rw [hW]; exact Nat.le_refl _)
  rw [← hW]
  have pev : ev.plain = true := lpl hV.len
  have hel := hV.len
  have hrlen := hRs.len
  refine Ok.seq ?_
  refine Ok.region ?_
  refine OkO.box rfl rfl ?_
  refine OkO.assign rfl rfl ?_
  refine OkO.nil ?_
  refine Ok.seq ?_
  refine Ok.seq ?_
  refine Ok.region ?_
  refine OkO.load rfl rfl (ldg (n := 6) (by kernel_rfl) (by first | assumption | (simp (disch := first | omega | (simp only [hNw, hPt]; omega)) only [gn0, gn1, gn2, gn3, gn4, gn5, gp0, gno, gpo] <;> first | rfl | assumption | exact gp0 _ _ _ | exact gn0 _ _)) (by first | rfl | assumption)) ?_
  refine OkO.move rfl rfl ?_
  refine OkO.callV rfl rfl rfl rfl rfl ((c56 (m + 76) ev rv p rows _ (hV.ext (hE _ (by (try dsimp only); repeat (first | exact hG | apply Grow.new | (refine Grow.put ?_ _ (by first | omega | (simp only [hNw, hPt]; omega))))))) (hRs.ext (hE _ (by (try dsimp only); repeat (first | exact hG | apply Grow.new | (refine Grow.put ?_ _ (by first | omega | (simp only [hNw, hPt]; omega)))))))).trans (by rw [hrd])) ?_ -- "sackung/sackunglaw04.ready"
  refine OkO.un rfl rfl rfl ?_
  refine OkO.move rfl rfl ?_
  refine OkO.skip rfl ?_
  refine OkO.skip rfl ?_
  refine OkO.skip rfl ?_
  refine OkO.pick (b := true) rfl rfl (fun _ => rfl) nofun ?_
  refine OkO.nil ?_
  refine Ok.condT rfl ?_
  refine Ok.seq ?_
  refine Ok.region ?_
  refine OkO.callV rfl rfl rfl rfl rfl (rfl) ?_ -- "sackung/sackunglaw04.awake"
  refine OkO.assign rfl rfl ?_
  refine OkO.nil ?_
  refine Ok.ret ⟨.inr rfl, ?_⟩
  exact back_flat rfl rfl rfl (by rw [← hW]; exact (by (try dsimp only); repeat (first | exact hG | apply Grow.new | (refine Grow.put ?_ _ (by first | omega | (simp only [hNw, hPt]; omega))))))
theorem c12E (m : Nat) (ev rv : AV) (p : Pst) (rows : List (List Int)) (av : Int) (H : Heap) (hV : Ints H ev p.errs) (hRs : LstAt H rv rows) (hav : 0 ≤ av ∧ av ≤ 255) (hrd : (thinB p rows && decide (faultE p rows = 0)) = true) (hnil : rows.length = 0) : RR (m + 81) (.fn 12 [.agg (p.c ev), rv, .int .u8 av]) H = some (.bool true, H) := by
  refine (R_fn _ _ _ _ _).trans ?_
  refine fn_ok Try.func12 rfl rfl (by kernel_rfl) (by kernel_rfl) ?_
  obtain ⟨W, hW⟩ : ∃ W : Heap, W = ⟨H.t, H.next, H.next⟩ := ⟨_, rfl⟩
  have hg : ∀ n, W.get n = H.get n := fun n => by rw [hW]; rfl
  have hN : W.next = H.next := by rw [hW]
  have hE : ∀ G, Grow W G → Ext H G := fun G g => ⟨by rw [← hN]; exact g.next, fun n k => by rw [g.get n (by rw [hN]; exact k), hg]⟩
  have hG : Grow W W := Grow.refl (by rw [hW]; exact Nat.le_refl _)
  rw [← hW]
  have pev : ev.plain = true := lpl hV.len
  have hel := hV.len
  have hrlen := hRs.len
  refine Ok.seq ?_
  refine Ok.region ?_
  refine OkO.box rfl rfl ?_
  refine OkO.assign rfl rfl ?_
  refine OkO.nil ?_
  refine Ok.seq ?_
  refine Ok.seq ?_
  refine Ok.region ?_
  refine OkO.load rfl rfl (ldg (n := 6) (by kernel_rfl) (by first | assumption | (simp (disch := first | omega | (simp only [hNw, hPt]; omega)) only [gn0, gn1, gn2, gn3, gn4, gn5, gp0, gno, gpo] <;> first | rfl | assumption | exact gp0 _ _ _ | exact gn0 _ _)) (by first | rfl | assumption)) ?_
  refine OkO.move rfl rfl ?_
  refine OkO.callV rfl rfl rfl rfl rfl ((c56 (m + 76) ev rv p rows _ (hV.ext (hE _ (by (try dsimp only); repeat (first | exact hG | apply Grow.new | (refine Grow.put ?_ _ (by first | omega | (simp only [hNw, hPt]; omega))))))) (hRs.ext (hE _ (by (try dsimp only); repeat (first | exact hG | apply Grow.new | (refine Grow.put ?_ _ (by first | omega | (simp only [hNw, hPt]; omega)))))))).trans (by rw [hrd])) ?_ -- "sackung/sackunglaw04.ready"
  refine OkO.un rfl rfl rfl ?_
  refine OkO.move rfl rfl ?_
  refine OkO.move rfl rfl ?_
  refine OkO.builtin rfl rfl rfl (bln (by kernel_rfl) (by first | assumption | rfl)) ?_
  refine OkO.bin rfl rfl rfl ((bin_eql _ _).trans (congrArg (fun b => some (AV.bool b)) (show _ = true from (by rw [decide_eq_true_eq]; omega)))) ?_
  refine OkO.pick (b := false) rfl rfl nofun (fun _ => rfl) ?_
  refine OkO.nil ?_
  refine Ok.condT rfl ?_
  refine Ok.seq ?_
  refine Ok.region ?_
  refine OkO.callV rfl rfl rfl rfl rfl (rfl) ?_ -- "sackung/sackunglaw04.awake"
  refine OkO.assign rfl rfl ?_
  refine OkO.nil ?_
  refine Ok.ret ⟨.inr rfl, ?_⟩
  exact back_flat rfl rfl rfl (by rw [← hW]; exact (by (try dsimp only); repeat (first | exact hG | apply Grow.new | (refine Grow.put ?_ _ (by first | omega | (simp only [hNw, hPt]; omega))))))
theorem c12N (m : Nat) (ev rv : AV) (p : Pst) (rows : List (List Int)) (av : Int) (H : Heap) (hV : Ints H ev p.errs) (hRs : LstAt H rv rows) (hav : 0 ≤ av ∧ av ≤ 255) (hrd : (thinB p rows && decide (faultE p rows = 0)) = true) (hpos : 0 < rows.length) (hpossF : possB p rows rows.length = false) : RR (m + 81) (.fn 12 [.agg (p.c ev), rv, .int .u8 av]) H = some (.bool true, H) := by
  refine (R_fn _ _ _ _ _).trans ?_
  refine fn_ok Try.func12 rfl rfl (by kernel_rfl) (by kernel_rfl) ?_
  obtain ⟨W, hW⟩ : ∃ W : Heap, W = ⟨H.t, H.next, H.next⟩ := ⟨_, rfl⟩
  have hg : ∀ n, W.get n = H.get n := fun n => by rw [hW]; rfl
  have hN : W.next = H.next := by rw [hW]
  have hE : ∀ G, Grow W G → Ext H G := fun G g => ⟨by rw [← hN]; exact g.next, fun n k => by rw [g.get n (by rw [hN]; exact k), hg]⟩
  have hG : Grow W W := Grow.refl (by rw [hW]; exact Nat.le_refl _)
  rw [← hW]
  have pev : ev.plain = true := lpl hV.len
  have hel := hV.len
  have hrlen := hRs.len
  have hth : thinB p rows = true := by rw [Bool.and_eq_true] at hrd; exact hrd.1
  have hf : faultE p rows = 0 := by rw [Bool.and_eq_true, decide_eq_true_eq] at hrd; exact hrd.2
  obtain ⟨ht1, ht2, ht3⟩ := thin_facts hth
  have ht4 : ∀ r ∈ rows, r.length ≤ 100000 := fun r hr => by have := ht3 r hr; omega
  obtain ⟨hok, hr60, hlens, hrbd⟩ := faultE_facts hf
  obtain ⟨⟨hp1, hp2⟩, hpe, hpg, hpd, hpf, hpo1, hpo2⟩ := Pst.ok_facts hok
  refine Ok.seq ?_
  refine Ok.region ?_
  refine OkO.box rfl rfl ?_
  refine OkO.assign rfl rfl ?_
  refine OkO.nil ?_
  refine Ok.seq ?_
  refine Ok.seq ?_
  refine Ok.region ?_
  refine OkO.load rfl rfl (ldg (n := 6) (by kernel_rfl) (by first | assumption | (simp (disch := first | omega | (simp only [hNw, hPt]; omega)) only [gn0, gn1, gn2, gn3, gn4, gn5, gp0, gno, gpo] <;> first | rfl | assumption | exact gp0 _ _ _ | exact gn0 _ _)) (by first | rfl | assumption)) ?_
  refine OkO.move rfl rfl ?_
  refine OkO.callV rfl rfl rfl rfl rfl ((c56 (m + 76) ev rv p rows _ (hV.ext (hE _ (by (try dsimp only); repeat (first | exact hG | apply Grow.new | (refine Grow.put ?_ _ (by first | omega | (simp only [hNw, hPt]; omega))))))) (hRs.ext (hE _ (by (try dsimp only); repeat (first | exact hG | apply Grow.new | (refine Grow.put ?_ _ (by first | omega | (simp only [hNw, hPt]; omega)))))))).trans (by rw [hrd])) ?_ -- "sackung/sackunglaw04.ready"
  refine OkO.un rfl rfl rfl ?_
  refine OkO.move rfl rfl ?_
  refine OkO.move rfl rfl ?_
  refine OkO.builtin rfl rfl rfl (bln (by kernel_rfl) (by first | assumption | rfl)) ?_
  refine OkO.bin rfl rfl rfl ((bin_eql _ _).trans (congrArg (fun b => some (AV.bool b)) (show _ = false from (by rw [decide_eq_false_iff_not]; omega)))) ?_
  refine OkO.pick (b := false) rfl rfl nofun (fun _ => rfl) ?_
  refine OkO.nil ?_
  refine Ok.condF rfl ?_
  refine Ok.skip ?_
  refine Ok.seq ?_
  refine Ok.region ?_
  refine OkO.load rfl rfl (ldg (n := 6) (by kernel_rfl) (by first | assumption | (simp (disch := first | omega | (simp only [hNw, hPt]; omega)) only [gn0, gn1, gn2, gn3, gn4, gn5, gp0, gno, gpo] <;> first | rfl | assumption | exact gp0 _ _ _ | exact gn0 _ _)) (by first | rfl | assumption)) ?_
  refine OkO.callE rfl rfl rfl rfl rfl (c20 (m + 78) ev p _ (hV.ext (hE _ (by (try dsimp only); repeat (first | exact hG | apply Grow.new | (refine Grow.put ?_ _ (by first | omega | (simp only [hNw, hPt]; omega))))))) (by omega)) ?_ -- "sackung/sackunglaw04.Post"
  rintro _ Ha ⟨xa, rfl, qa, ma⟩
  have n1 := qa.ext.next
  try simp only [hNw, hPt] at n1
  have gg1 : Grow W Ha := Grow.ret (by (try dsimp only); repeat (first | exact hG | apply Grow.new | (refine Grow.put ?_ _ (by first | omega | (simp only [hNw, hPt]; omega))))) qa
  have a1 : (Ha.get (W.next)).bind AObj.cs = some (p.c ev) := by rw [qa.ext.get _ (by first | omega | (simp only [hNw, hPt]; omega))]; first | assumption | (rw [gn0]; rfl) | (rw [get_put_eq] <;> rfl) | (simp (disch := first | omega | (simp only [hNw, hPt]; omega)) only [gn0, gn1, gn2, gn3, gn4, gn5, gp0, gno, gpo] <;> first | rfl | assumption | (rw [get_put_eq] <;> rfl))
  have ia := ma.ints
  have pla : xa.plain = true := lpl ia.len
  have oa := ma.one
  refine OkO.move rfl rfl ?_
  refine OkO.callE rfl rfl rfl rfl rfl (c22 (m + 78) rv rows _ (hRs.ext (hE _ (by (try dsimp only); repeat (first | exact gg1 | apply Grow.new | (refine Grow.put ?_ _ (by first | omega | (simp only [hNw, hPt]; omega))))))) (by omega) ht4) ?_ -- "sackung/sackunglaw04.rows"
  rintro xb Hb ⟨qb, mb⟩
  have n2 := qb.ext.next
  try simp only [hNw, hPt] at n2
  have gg2 : Grow W Hb := Grow.ret (by (try dsimp only); repeat (first | exact gg1 | apply Grow.new | (refine Grow.put ?_ _ (by first | omega | (simp only [hNw, hPt]; omega))))) qb
  have a2 : (Hb.get (W.next)).bind AObj.cs = some (p.c ev) := by rw [qb.ext.get _ (by first | omega | (simp only [hNw, hPt]; omega))]; first | assumption | (rw [gn0]; rfl) | (rw [get_put_eq] <;> rfl) | (simp (disch := first | omega | (simp only [hNw, hPt]; omega)) only [gn0, gn1, gn2, gn3, gn4, gn5, gp0, gno, gpo] <;> first | rfl | assumption | (rw [get_put_eq] <;> rfl))
  have exHa2 : Ext Ha Hb := Ext.trans (by (try dsimp only); repeat (first | exact Ext.refl _ | exact Ext.refl _ | apply Ext.new | (refine Ext.put ?_ _ (by first | omega | (simp only [hNw, hPt]; omega))))) qb.ext
  have ib := mb.at
  have plb : xb.plain = true := lpl ib.len
  refine OkO.callV rfl rfl rfl rfl rfl (c21N (m + 73) xa xb p rows _ (ia.ext (by (try dsimp only); repeat (first | exact exHa2 | exact Ext.refl _ | apply Ext.new | (refine Ext.put ?_ _ (by first | omega | (simp only [hNw, hPt]; omega)))))) (ib.ext (by (try dsimp only); repeat (first | exact Ext.refl _ | exact Ext.refl _ | apply Ext.new | (refine Ext.put ?_ _ (by first | omega | (simp only [hNw, hPt]; omega)))))) (by omega) (by omega) ht4 hf hpossF) ?_ -- "sackung/alarm.Levels"
  refine OkO.move rfl rfl ?_
  refine OkO.extract rfl rfl rfl ?_
  refine OkO.extract rfl rfl rfl ?_
  refine OkO.assign rfl rfl ?_
  refine OkO.assign rfl rfl ?_
  refine OkO.nil ?_
  refine Ok.seq ?_
  refine Ok.seq ?_
  refine Ok.region ?_
  refine OkO.move rfl rfl ?_
  refine OkO.bin rfl rfl rfl ((bin_neq _ _).trans (congrArg (fun b => some (AV.bool b)) (show _ = true from (by simp)))) ?_
  refine OkO.nil ?_
  refine Ok.condT rfl ?_
  refine Ok.seq ?_
  refine Ok.region ?_
  refine OkO.move rfl rfl ?_
  refine OkO.bin rfl rfl rfl ((bin_eql _ _).trans (congrArg (fun b => some (AV.bool b)) (show _ = true from (by simp)))) ?_
  refine OkO.move rfl rfl ?_
  refine OkO.callV rfl rfl rfl rfl rfl (rfl) ?_ -- "sackung/sackunglaw04.awake"
  refine OkO.pick (b := true) rfl rfl (fun _ => rfl) nofun ?_
  refine OkO.assign rfl rfl ?_
  refine OkO.nil ?_
  refine Ok.ret ⟨.inr rfl, ?_⟩
  exact back_flat rfl rfl rfl (by rw [← hW]; exact (by (try dsimp only); repeat (first | exact gg2 | apply Grow.new | (refine Grow.put ?_ _ (by first | omega | (simp only [hNw, hPt]; omega))))))
theorem c12Y (m : Nat) (ev rv : AV) (p : Pst) (rows : List (List Int)) (av : Int) (hr : Nat) (H : Heap) (hV : Ints H ev p.errs) (hRs : LstAt H rv rows) (hav : 0 ≤ av ∧ av ≤ 255) (hrv : (∃ b off len cap, rv = .slice b off len cap ∧ len ≤ cap) ∨ rv = .nils ∨ ∃ a c, rv = .raw (.slice a 0 c)) (hrd : (thinB p rows && decide (faultE p rows = 0)) = true) (hhr2 : hr < rows.length) (hhr : (hr : Int) = av % (rows.length : Int)) (hpossT : possB p rows rows.length = true) : RR (m + 81) (.fn 12 [.agg (p.c ev), rv, .int .u8 av]) H = some (.bool true, H) := by
  refine (R_fn _ _ _ _ _).trans ?_
  refine fn_ok Try.func12 rfl rfl (by kernel_rfl) (by kernel_rfl) ?_
  obtain ⟨W, hW⟩ : ∃ W : Heap, W = ⟨H.t, H.next, H.next⟩ := ⟨_, rfl⟩
  have hg : ∀ n, W.get n = H.get n := fun n => by rw [hW]; rfl
  have hN : W.next = H.next := by rw [hW]
  have hE : ∀ G, Grow W G → Ext H G := fun G g => ⟨by rw [← hN]; exact g.next, fun n k => by rw [g.get n (by rw [hN]; exact k), hg]⟩
  have hG : Grow W W := Grow.refl (by rw [hW]; exact Nat.le_refl _)
  rw [← hW]
  have pev : ev.plain = true := lpl hV.len
  have hel := hV.len
  have hrlen := hRs.len
  have hth : thinB p rows = true := by rw [Bool.and_eq_true] at hrd; exact hrd.1
  have hf : faultE p rows = 0 := by rw [Bool.and_eq_true, decide_eq_true_eq] at hrd; exact hrd.2
  obtain ⟨ht1, ht2, ht3⟩ := thin_facts hth
  have ht4 : ∀ r ∈ rows, r.length ≤ 100000 := fun r hr => by have := ht3 r hr; omega
  obtain ⟨hok, hr60, hlens, hrbd⟩ := faultE_facts hf
  obtain ⟨⟨hp1, hp2⟩, hpe, hpg, hpd, hpf, hpo1, hpo2⟩ := Pst.ok_facts hok
  have hpossH : possB p rows (hr + 1) = true := possB_mono hpossT (by omega)
  have hne : spdL p rows hr (p.errs.length + 1) ≠ [] := by (have h9 := spdL_all hpossH (Nat.lt_succ_self hr)); intro e; rw [e] at h9; simp at h9
  have hmnb := spdL_bd (mnL_mem hne)
  have hmxb := spdL_bd (mxL_mem hne)
  have hmm := mnL_le (mxL_mem hne)
  obtain ⟨v1, hsv, hls⟩ := hRs.take hrv (k := hr + 1) (by omega)
  have pv1 : v1.plain = true := lpl hls.len
  have ht4t : ∀ r ∈ rows.take (hr + 1), r.length ≤ 100000 := fun r hr => ht4 r (List.mem_of_mem_take hr)
  refine Ok.seq ?_
  refine Ok.region ?_
  refine OkO.box rfl rfl ?_
  refine OkO.assign rfl rfl ?_
  refine OkO.nil ?_
  refine Ok.seq ?_
  refine Ok.seq ?_
  refine Ok.region ?_
  refine OkO.load rfl rfl (ldg (n := 6) (by kernel_rfl) (by first | assumption | (simp (disch := first | omega | (simp only [hNw, hPt]; omega)) only [gn0, gn1, gn2, gn3, gn4, gn5, gp0, gno, gpo] <;> first | rfl | assumption | exact gp0 _ _ _ | exact gn0 _ _)) (by first | rfl | assumption)) ?_
  refine OkO.move rfl rfl ?_
  refine OkO.callV rfl rfl rfl rfl rfl ((c56 (m + 76) ev rv p rows _ (hV.ext (hE _ (by (try dsimp only); repeat (first | exact hG | apply Grow.new | (refine Grow.put ?_ _ (by first | omega | (simp only [hNw, hPt]; omega))))))) (hRs.ext (hE _ (by (try dsimp only); repeat (first | exact hG | apply Grow.new | (refine Grow.put ?_ _ (by first | omega | (simp only [hNw, hPt]; omega)))))))).trans (by rw [hrd])) ?_ -- "sackung/sackunglaw04.ready"
  refine OkO.un rfl rfl rfl ?_
  refine OkO.move rfl rfl ?_
  refine OkO.move rfl rfl ?_
  refine OkO.builtin rfl rfl rfl (bln (by kernel_rfl) (by first | assumption | rfl)) ?_
  refine OkO.bin rfl rfl rfl ((bin_eql _ _).trans (congrArg (fun b => some (AV.bool b)) (show _ = false from (by rw [decide_eq_false_iff_not]; omega)))) ?_
  refine OkO.pick (b := false) rfl rfl nofun (fun _ => rfl) ?_
  refine OkO.nil ?_
  refine Ok.condF rfl ?_
  refine Ok.skip ?_
  refine Ok.seq ?_
  refine Ok.region ?_
  refine OkO.load rfl rfl (ldg (n := 6) (by kernel_rfl) (by first | assumption | (simp (disch := first | omega | (simp only [hNw, hPt]; omega)) only [gn0, gn1, gn2, gn3, gn4, gn5, gp0, gno, gpo] <;> first | rfl | assumption | exact gp0 _ _ _ | exact gn0 _ _)) (by first | rfl | assumption)) ?_
  refine OkO.callE rfl rfl rfl rfl rfl (c20 (m + 78) ev p _ (hV.ext (hE _ (by (try dsimp only); repeat (first | exact hG | apply Grow.new | (refine Grow.put ?_ _ (by first | omega | (simp only [hNw, hPt]; omega))))))) (by omega)) ?_ -- "sackung/sackunglaw04.Post"
  rintro _ Ha ⟨xa, rfl, qa, ma⟩
  have n1 := qa.ext.next
  try simp only [hNw, hPt] at n1
  have gg1 : Grow W Ha := Grow.ret (by (try dsimp only); repeat (first | exact hG | apply Grow.new | (refine Grow.put ?_ _ (by first | omega | (simp only [hNw, hPt]; omega))))) qa
  have a1 : (Ha.get (W.next)).bind AObj.cs = some (p.c ev) := by rw [qa.ext.get _ (by first | omega | (simp only [hNw, hPt]; omega))]; first | assumption | (rw [gn0]; rfl) | (rw [get_put_eq] <;> rfl) | (simp (disch := first | omega | (simp only [hNw, hPt]; omega)) only [gn0, gn1, gn2, gn3, gn4, gn5, gp0, gno, gpo] <;> first | rfl | assumption | (rw [get_put_eq] <;> rfl))
  have ia := ma.ints
  have pla : xa.plain = true := lpl ia.len
  have oa := ma.one
  refine OkO.move rfl rfl ?_
  refine OkO.callE rfl rfl rfl rfl rfl (c22 (m + 78) rv rows _ (hRs.ext (hE _ (by (try dsimp only); repeat (first | exact gg1 | apply Grow.new | (refine Grow.put ?_ _ (by first | omega | (simp only [hNw, hPt]; omega))))))) (by omega) ht4) ?_ -- "sackung/sackunglaw04.rows"
  rintro xb Hb ⟨qb, mb⟩
  have n2 := qb.ext.next
  try simp only [hNw, hPt] at n2
  have gg2 : Grow W Hb := Grow.ret (by (try dsimp only); repeat (first | exact gg1 | apply Grow.new | (refine Grow.put ?_ _ (by first | omega | (simp only [hNw, hPt]; omega))))) qb
  have a2 : (Hb.get (W.next)).bind AObj.cs = some (p.c ev) := by rw [qb.ext.get _ (by first | omega | (simp only [hNw, hPt]; omega))]; first | assumption | (rw [gn0]; rfl) | (rw [get_put_eq] <;> rfl) | (simp (disch := first | omega | (simp only [hNw, hPt]; omega)) only [gn0, gn1, gn2, gn3, gn4, gn5, gp0, gno, gpo] <;> first | rfl | assumption | (rw [get_put_eq] <;> rfl))
  have exHa2 : Ext Ha Hb := Ext.trans (by (try dsimp only); repeat (first | exact Ext.refl _ | exact Ext.refl _ | apply Ext.new | (refine Ext.put ?_ _ (by first | omega | (simp only [hNw, hPt]; omega))))) qb.ext
  have ib := mb.at
  have plb : xb.plain = true := lpl ib.len
  refine OkO.callE rfl rfl rfl rfl rfl (c21Y (m + 73) xa xb p rows _ (ia.ext (by (try dsimp only); repeat (first | exact exHa2 | exact Ext.refl _ | apply Ext.new | (refine Ext.put ?_ _ (by first | omega | (simp only [hNw, hPt]; omega)))))) (ib.ext (by (try dsimp only); repeat (first | exact Ext.refl _ | exact Ext.refl _ | apply Ext.new | (refine Ext.put ?_ _ (by first | omega | (simp only [hNw, hPt]; omega)))))) (by omega) (by omega) ht4 hf hpossT) ?_ -- "sackung/alarm.Levels"
  rintro _ Hl ⟨xl, rfl, ql, ml⟩
  have n3 := ql.ext.next
  try simp only [hNw, hPt] at n3
  have gg3 : Grow W Hl := Grow.ret (by (try dsimp only); repeat (first | exact gg2 | apply Grow.new | (refine Grow.put ?_ _ (by first | omega | (simp only [hNw, hPt]; omega))))) ql
  have a3 : (Hl.get (W.next)).bind AObj.cs = some (p.c ev) := by rw [ql.ext.get _ (by first | omega | (simp only [hNw, hPt]; omega))]; first | assumption | (rw [gn0]; rfl) | (rw [get_put_eq] <;> rfl) | (simp (disch := first | omega | (simp only [hNw, hPt]; omega)) only [gn0, gn1, gn2, gn3, gn4, gn5, gp0, gno, gpo] <;> first | rfl | assumption | (rw [get_put_eq] <;> rfl))
  have exHa3 : Ext Ha Hl := Ext.trans (by (try dsimp only); repeat (first | exact exHa2 | exact Ext.refl _ | apply Ext.new | (refine Ext.put ?_ _ (by first | omega | (simp only [hNw, hPt]; omega))))) ql.ext
  have exHb3 : Ext Hb Hl := Ext.trans (by (try dsimp only); repeat (first | exact Ext.refl _ | exact Ext.refl _ | apply Ext.new | (refine Ext.put ?_ _ (by first | omega | (simp only [hNw, hPt]; omega))))) ql.ext
  have hlr := ml.states
  have hll : lenOf xl = some rows.length := by simpa using hlr.len
  obtain ⟨lb, lo, lcs, l1, l2, l3, l4⟩ := hlr.at_ hr (stc p rows hr) (by simp [hhr2])
  have l30 : lcs[lo + 0]? = some (I (mnL (spdL p rows hr (p.errs.length + 1)))) := seg_get l3 0 (by omega)
  have l31 : lcs[lo + 1]? = some (I (mxL (spdL p rows hr (p.errs.length + 1)))) := seg_get l3 1 (by omega)
  refine OkO.move rfl rfl ?_
  refine OkO.extract rfl rfl rfl ?_
  refine OkO.extract rfl rfl rfl ?_
  refine OkO.assign rfl rfl ?_
  refine OkO.assign rfl rfl ?_
  refine OkO.nil ?_
  refine Ok.seq ?_
  refine Ok.seq ?_
  refine Ok.region ?_
  refine OkO.move rfl rfl ?_
  refine OkO.bin rfl rfl rfl ((bin_neq _ _).trans (congrArg (fun b => some (AV.bool b)) (show _ = false from (by rfl)))) ?_
  refine OkO.nil ?_
  refine Ok.condF rfl ?_
  refine Ok.skip ?_
  refine Ok.seq ?_
  refine Ok.region ?_
  refine OkO.move rfl rfl ?_
  refine OkO.convert (k := .i64) rfl (by kernel_rfl) rfl (wrapF_i64 (by omega) (by omega)) ?_
  refine OkO.move rfl rfl ?_
  refine OkO.builtin rfl rfl rfl (bln (by kernel_rfl) (by first | assumption | rfl)) ?_
  refine OkO.bin rfl rfl rfl ((bin_rem (by omega) (by omega)).trans (by rw [← hhr])) ?_
  refine OkO.assign rfl rfl ?_
  refine OkO.nil ?_
  refine Ok.seq ?_
  refine Ok.seq ?_
  refine Ok.drawn [(0, true, []), (1, true, []), (2, true, []), (3, true, []), (4, true, []), (5, true, []), (6, true, []), (7, true, []), (8, true, []), (9, true, []), (10, true, []), (11, true, []), (12, true, []), (13, true, []), (14, true, []), (15, true, []), (16, true, []), (17, true, []), (18, true, []), (19, true, []), (20, true, []), (21, true, []), (22, true, []), (23, true, []), (24, true, []), (25, true, []), (26, true, []), (27, true, []), (28, true, []), (29, true, []), (30, true, []), (31, true, []), (32, true, []), (33, true, [])] (by kernel_rfl) ?_
  refine OkP.step ?_
  refine OkO.move rfl rfl ?_
  refine OkO.nil ⟨rfl, ?_⟩
  refine OkP.step ?_
  refine OkO.builtin rfl rfl rfl (bln (by kernel_rfl) (by first | assumption | rfl)) ?_
  refine OkO.nil ⟨rfl, ?_⟩
  refine OkP.step ?_
  refine OkO.move rfl rfl ?_
  refine OkO.nil ⟨rfl, ?_⟩
  refine OkP.step ?_
  refine OkO.builtin rfl rfl rfl (bln (by kernel_rfl) (by first | assumption | rfl)) ?_
  refine OkO.nil ⟨rfl, ?_⟩
  refine OkP.step ?_
  refine OkO.bin rfl rfl rfl ((bin_neq _ _).trans (congrArg (fun b => some (AV.bool b)) (show _ = false from (by simp)))) ?_
  refine OkO.nil ⟨rfl, ?_⟩
  refine OkP.step ?_
  refine OkO.move rfl rfl ?_
  refine OkO.nil ⟨rfl, ?_⟩
  refine OkP.step ?_
  refine OkO.move rfl rfl ?_
  refine OkO.nil ⟨rfl, ?_⟩
  refine OkP.step ?_
  refine OkO.move rfl rfl ?_
  refine OkO.nil ⟨rfl, ?_⟩
  refine OkP.step ?_
  refine OkO.index (sz := 3) rfl rfl rfl (by kernel_rfl) (by first | assumption | rfl | exact slAt_slice (by omega) | exact slAt_opn (by omega)) ?_ -- index ('Go.Operand.tmp', 57) ('Go.Operand.tmp', 58)
  refine OkO.nil ⟨rfl, ?_⟩
  refine OkP.step ?_
  refine OkO.fieldAddr (o := 0) rfl (by kernel_rfl) rfl ?_
  refine OkO.nil ⟨rfl, ?_⟩
  refine OkP.step ?_
  refine OkO.load rfl rfl (lda (n := 1) (by kernel_rfl) (by first | assumption | (simp (disch := first | omega | (simp only [hNw, hPt]; omega)) only [gn0, gn1, gn2, gn3, gn4, gn5, gp0, gno, gpo] <;> first | rfl | assumption | exact gp0 _ _ _ | exact gn0 _ _)) (by first | rfl | assumption)) ?_
  refine OkO.nil ⟨rfl, ?_⟩
  refine OkP.step ?_
  refine OkO.bin rfl rfl rfl ((bin_lss _ _).trans (congrArg (fun b => some (AV.bool b)) (show _ = false from (by rw [decide_eq_false_iff_not]; omega)))) ?_
  refine OkO.nil ⟨rfl, ?_⟩
  refine OkP.step ?_
  refine OkO.pick (b := false) rfl rfl nofun (fun _ => rfl) ?_
  refine OkO.nil ⟨rfl, ?_⟩
  refine OkP.step ?_
  refine OkO.move rfl rfl ?_
  refine OkO.nil ⟨rfl, ?_⟩
  refine OkP.step ?_
  refine OkO.move rfl rfl ?_
  refine OkO.nil ⟨rfl, ?_⟩
  refine OkP.step ?_
  refine OkO.move rfl rfl ?_
  refine OkO.nil ⟨rfl, ?_⟩
  refine OkP.step ?_
  refine OkO.index (sz := 3) rfl rfl rfl (by kernel_rfl) (by first | assumption | rfl | exact slAt_slice (by omega) | exact slAt_opn (by omega)) ?_ -- index ('Go.Operand.tmp', 65) ('Go.Operand.tmp', 66)
  refine OkO.nil ⟨rfl, ?_⟩
  refine OkP.step ?_
  refine OkO.fieldAddr (o := 0) rfl (by kernel_rfl) rfl ?_
  refine OkO.nil ⟨rfl, ?_⟩
  refine OkP.step ?_
  refine OkO.load rfl rfl (lda (n := 1) (by kernel_rfl) (by first | assumption | (simp (disch := first | omega | (simp only [hNw, hPt]; omega)) only [gn0, gn1, gn2, gn3, gn4, gn5, gp0, gno, gpo] <;> first | rfl | assumption | exact gp0 _ _ _ | exact gn0 _ _)) (by first | rfl | assumption)) ?_
  refine OkO.nil ⟨rfl, ?_⟩
  refine OkP.step ?_
  refine OkO.move rfl rfl ?_
  refine OkO.nil ⟨rfl, ?_⟩
  refine OkP.step ?_
  refine OkO.move rfl rfl ?_
  refine OkO.nil ⟨rfl, ?_⟩
  refine OkP.step ?_
  refine OkO.index (sz := 3) rfl rfl rfl (by kernel_rfl) (by first | assumption | rfl | exact slAt_slice (by omega) | exact slAt_opn (by omega)) ?_ -- index ('Go.Operand.tmp', 70) ('Go.Operand.tmp', 71)
  refine OkO.nil ⟨rfl, ?_⟩
  refine OkP.step ?_
  refine OkO.fieldAddr (o := 1) rfl (by kernel_rfl) rfl ?_
  refine OkO.nil ⟨rfl, ?_⟩
  refine OkP.step ?_
  refine OkO.load rfl rfl (lda (n := 1) (by kernel_rfl) (by first | assumption | (simp (disch := first | omega | (simp only [hNw, hPt]; omega)) only [gn0, gn1, gn2, gn3, gn4, gn5, gp0, gno, gpo] <;> first | rfl | assumption | exact gp0 _ _ _ | exact gn0 _ _)) (by first | rfl | assumption)) ?_
  refine OkO.nil ⟨rfl, ?_⟩
  refine OkP.step ?_
  refine OkO.bin rfl rfl rfl ((bin_gtr _ _).trans (congrArg (fun b => some (AV.bool b)) (show _ = false from (by rw [decide_eq_false_iff_not]; omega)))) ?_
  refine OkO.nil ⟨rfl, ?_⟩
  refine OkP.step ?_
  refine OkO.pick (b := false) rfl rfl nofun (fun _ => rfl) ?_
  refine OkO.nil ⟨rfl, ?_⟩
  refine OkP.step ?_
  refine OkO.move rfl rfl ?_
  refine OkO.nil ⟨rfl, ?_⟩
  refine OkP.step ?_
  refine OkO.move rfl rfl ?_
  refine OkO.nil ⟨rfl, ?_⟩
  refine OkP.step ?_
  refine OkO.move rfl rfl ?_
  refine OkO.nil ⟨rfl, ?_⟩
  refine OkP.step ?_
  refine OkO.index (sz := 3) rfl rfl rfl (by kernel_rfl) (by first | assumption | rfl | exact slAt_slice (by omega) | exact slAt_opn (by omega)) ?_ -- index ('Go.Operand.tmp', 78) ('Go.Operand.tmp', 79)
  refine OkO.nil ⟨rfl, ?_⟩
  refine OkP.step ?_
  refine OkO.fieldAddr (o := 1) rfl (by kernel_rfl) rfl ?_
  refine OkO.nil ⟨rfl, ?_⟩
  refine OkP.step ?_
  refine OkO.load rfl rfl (lda (n := 1) (by kernel_rfl) (by first | assumption | (simp (disch := first | omega | (simp only [hNw, hPt]; omega)) only [gn0, gn1, gn2, gn3, gn4, gn5, gp0, gno, gpo] <;> first | rfl | assumption | exact gp0 _ _ _ | exact gn0 _ _)) (by first | rfl | assumption)) ?_
  refine OkO.nil ⟨rfl, ?_⟩
  refine OkP.step ?_
  refine OkO.bin rfl rfl rfl ((bin_gtr _ _).trans (congrArg (fun b => some (AV.bool b)) (show _ = false from (by rw [decide_eq_false_iff_not]; omega)))) ?_
  refine OkO.nil ⟨rfl, ?_⟩
  refine OkP.step ?_
  refine OkO.pick (b := false) rfl rfl nofun (fun _ => rfl) ?_
  refine OkO.nil ⟨rfl, ?_⟩
  refine OkP.nil ?_
  refine Ok.condF rfl ?_
  refine Ok.skip ?_
  refine Ok.seq ?_
  refine Ok.drawn [(0, true, []), (1, true, []), (2, true, []), (3, true, []), (4, true, []), (5, true, []), (6, true, []), (7, true, []), (8, true, []), (9, true, []), (10, true, []), (11, true, [9, 4]), (12, false, [])] (by kernel_rfl) ?_
  refine OkP.step ?_
  refine OkO.move rfl rfl ?_
  refine OkO.nil ⟨rfl, ?_⟩
  refine OkP.step ?_
  refine OkO.move rfl rfl ?_
  refine OkO.nil ⟨rfl, ?_⟩
  refine OkP.step ?_
  refine OkO.index (sz := 3) rfl rfl rfl (by kernel_rfl) (by first | assumption | rfl | exact slAt_slice (by omega) | exact slAt_opn (by omega)) ?_ -- index ('Go.Operand.tmp', 85) ('Go.Operand.tmp', 86)
  refine OkO.nil ⟨rfl, ?_⟩
  refine OkP.step ?_
  refine OkO.fieldAddr (o := 0) rfl (by kernel_rfl) rfl ?_
  refine OkO.nil ⟨rfl, ?_⟩
  refine OkP.step ?_
  refine OkO.load rfl rfl (lda (n := 1) (by kernel_rfl) (by first | assumption | (simp (disch := first | omega | (simp only [hNw, hPt]; omega)) only [gn0, gn1, gn2, gn3, gn4, gn5, gp0, gno, gpo] <;> first | rfl | assumption | exact gp0 _ _ _ | exact gn0 _ _)) (by first | rfl | assumption)) ?_
  refine OkO.nil ⟨rfl, ?_⟩
  refine OkP.step ?_
  refine OkO.move rfl rfl ?_
  refine OkO.nil ⟨rfl, ?_⟩
  refine OkP.step ?_
  refine OkO.move rfl rfl ?_
  refine OkO.nil ⟨rfl, ?_⟩
  refine OkP.step ?_
  refine OkO.index (sz := 3) rfl rfl rfl (by kernel_rfl) (by first | assumption | rfl | exact slAt_slice (by omega) | exact slAt_opn (by omega)) ?_ -- index ('Go.Operand.tmp', 90) ('Go.Operand.tmp', 91)
  refine OkO.nil ⟨rfl, ?_⟩
  refine OkP.step ?_
  refine OkO.fieldAddr (o := 1) rfl (by kernel_rfl) rfl ?_
  refine OkO.nil ⟨rfl, ?_⟩
  refine OkP.step ?_
  refine OkO.load rfl rfl (lda (n := 1) (by kernel_rfl) (by first | assumption | (simp (disch := first | omega | (simp only [hNw, hPt]; omega)) only [gn0, gn1, gn2, gn3, gn4, gn5, gp0, gno, gpo] <;> first | rfl | assumption | exact gp0 _ _ _ | exact gn0 _ _)) (by first | rfl | assumption)) ?_
  refine OkO.nil ⟨rfl, ?_⟩
  refine OkP.step ?_
  refine OkO.buildArr (z := [.int .i64 0, .int .i64 0]) (sz := 1) rfl (by kernel_rfl) rfl rfl ?_
  refine OkO.nil ⟨rfl, ?_⟩
  refine OkP.step ?_
  refine OkO.alloc (z := [.int .i64 0, .int .i64 0]) rfl (by kernel_rfl) ?_
  refine OkO.nil ⟨(sco (sld rfl rfl (lda (n := 1) (by kernel_rfl) (by first | assumption | (simp (disch := first | omega | (simp only [hNw, hPt]; omega)) only [gn0, gn1, gn2, gn3, gn4, gn5, gp0, gno, gpo] <;> first | rfl | assumption | exact gp0 _ _ _ | exact gn0 _ _)) (by first | rfl | assumption)) rfl (eqr _ (by first | rfl | exact lpl (by assumption) | (simp [AV.plain, AV.plains, AV.cells, pev, Pst.c])))) (sco (sld rfl rfl (lda (n := 1) (by kernel_rfl) (by first | assumption | (simp (disch := first | omega | (simp only [hNw, hPt]; omega)) only [gn0, gn1, gn2, gn3, gn4, gn5, gp0, gno, gpo] <;> first | rfl | assumption | exact gp0 _ _ _ | exact gn0 _ _)) (by first | rfl | assumption)) rfl (eqr _ (by first | rfl | exact lpl (by assumption) | (simp [AV.plain, AV.plains, AV.cells, pev, Pst.c])))) rfl)), ?_⟩
  refine OkP.step ?_
  refine OkO.store rfl rfl rfl (sAc (n := 2) (ag := true) (by kernel_rfl) (by first | assumption | (simp (disch := first | omega | (simp only [hNw, hPt]; omega)) only [gn0, gn1, gn2, gn3, gn4, gn5, gp0, gno, gpo] <;> first | rfl | assumption | exact gp0 _ _ _ | exact gn0 _ _)) rfl (by first | rfl | assumption) (by first | rfl | exact spl_set _ _ _ (by first | assumption | omega | (simp; omega)))) ?_
  refine OkO.nil ⟨rfl, ?_⟩
  refine OkP.nil ?_
  refine Ok.seq ?_
  refine Ok.seq ?_
  refine Ok.region ?_
  refine OkO.assign rfl rfl ?_
  refine OkO.nil ?_
  refine Ok.block ?_
  refine Ok.loop (fun n s => ∃ i : Nat, n = 2 - i ∧ i ≤ 2 ∧ Has 8 [(1, rv), (3, .ptr W.next 0), (7, xl), (9, I (hr : Int)), (10, .ptr Hl.next 0), (11, I (i : Int))] s.T ∧ s.D = [] ∧ Grow W s.H ∧ (s.H.get W.next).bind AObj.cs = some (p.c ev) ∧ (s.H.get Hl.next).bind AObj.cs = some [I (mnL (spdL p rows hr (p.errs.length + 1))), I (mxL (spdL p rows hr (p.errs.length + 1)))] ∧ Ext Hl s.H ∧ Hl.next + 1 ≤ s.H.next) (2) (by unfold loopFuel; omega)
    ⟨0, rfl, by omega, Has.of (by kernel_rfl), rfl, (by (try dsimp only); repeat (first | exact gg3 | apply Grow.new | (refine Grow.put ?_ _ (by first | omega | (simp only [hNw, hPt]; omega))))), (by rw [gpo _ _ _ _ (by omega), gno _ _ _ (by omega)]; exact a3), (by rw [gp0]; rfl), ((Ext.refl _).new _).put _ (by omega), by simp⟩ ?_
  rintro n ⟨T, D, G⟩ ⟨i, hn, hi, ⟨f_, hT⟩, hD, hg, e0, f0, hx9, hn1⟩
  dsimp only at *
  subst hT hD
  have hgn := hg.next
  have hx9n := hx9.next
  have hgs := gg3.next
  have l0g : (G.get lb).bind AObj.cs = some lcs := by rw [hx9.get _ l4]; exact l2
  refine Ok.seq ?_
  refine Ok.seq ?_
  refine Ok.region ?_
  refine OkO.move rfl rfl ?_
  refine OkO.bin rfl rfl rfl (bin_lss _ _) ?_
  refine OkO.nil ?_
  refine Ok.cond rfl (fun h1 => ?_) (fun h1 => ?_)
  · -- yes h1
    have hi2 : i < 2 := by (have h9 : (i : Int) < 2 := by simpa using h1); omega
    obtain ⟨e, he, hev⟩ : ∃ e : Int, ([I (mnL (spdL p rows hr (p.errs.length + 1))), I (mxL (spdL p rows hr (p.errs.length + 1)))] : List AV)[0 + i * 1]? = some (I e) ∧ (e = mnL (spdL p rows hr (p.errs.length + 1)) ∨ e = mxL (spdL p rows hr (p.errs.length + 1))) := by
            rcases (show i = 0 ∨ i = 1 by omega) with h | h
            · subst h; exact ⟨_, rfl, .inl rfl⟩
            · subst h; exact ⟨_, rfl, .inr rfl⟩
    have heb : 0 ≤ e ∧ e ≤ 1000 := by rcases hev with h | h <;> rw [h] <;> omega
    have hhit : ∃ j, j ≤ p.errs.length ∧ HitP p rows hr e j := by rcases hev with h | h <;> rw [h] <;> (first | exact spd_hit (mnL_mem hne) | exact spd_hit (mxL_mem hne))
    refine Ok.skip ?_
    refine Ok.seq ?_
    refine Ok.block ?_
    refine Ok.seq ?_
    refine Ok.drawn [(0, true, []), (2, true, []), (4, true, []), (5, true, []), (6, true, []), (7, true, []), (1, false, [7]), (3, false, [7, 0]), (8, false, [0]), (9, true, []), (10, true, []), (11, true, []), (12, true, []), (13, true, []), (14, true, []), (15, true, [])] (by kernel_rfl) ?_
    refine OkP.step ?_
    refine OkO.load rfl rfl (ldg (n := 6) (by kernel_rfl) (by first | assumption | (simp (disch := first | omega | (simp only [hNw, hPt]; omega)) only [gn0, gn1, gn2, gn3, gn4, gn5, gp0, gno, gpo] <;> first | rfl | assumption | exact gp0 _ _ _ | exact gn0 _ _)) (by first | rfl | assumption)) ?_
    refine OkO.nil ⟨rfl, ?_⟩
    refine OkP.step ?_
    refine OkO.move rfl rfl ?_
    refine OkO.nil ⟨rfl, ?_⟩
    refine OkP.step ?_
    refine OkO.move rfl rfl ?_
    refine OkO.nil ⟨rfl, ?_⟩
    refine OkP.step ?_
    refine OkO.move rfl rfl ?_
    refine OkO.nil ⟨rfl, ?_⟩
    refine OkP.step ?_
    refine OkO.indexArr (len := 2) (sz := 1) (n := i) rfl rfl rfl (by kernel_rfl) (by omega) ?_
    refine OkO.nil ⟨rfl, ?_⟩
    refine OkP.step ?_
    refine OkO.load rfl rfl (lda (n := 1) (by kernel_rfl) (by first | assumption | (simp (disch := first | omega | (simp only [hNw, hPt]; omega)) only [gn0, gn1, gn2, gn3, gn4, gn5, gp0, gno, gpo] <;> first | rfl | assumption | exact gp0 _ _ _ | exact gn0 _ _)) (by first | rfl | assumption)) ?_
    refine OkO.nil ⟨rfl, ?_⟩
    refine OkP.step ?_
    refine OkO.callE rfl rfl rfl rfl rfl (c20 (m + 78) ev p _ (hV.ext (hE _ (by (try dsimp only); repeat (first | exact hg | apply Grow.new | (refine Grow.put ?_ _ (by first | omega | (simp only [hNw, hPt]; omega))))))) (by omega)) ?_ -- "sackung/sackunglaw04.Post"
    rintro _ Hc ⟨xc, rfl, qc, mc⟩
    have n1 := qc.ext.next
    try simp only [hNw, hPt] at n1
    have gg1 : Grow W Hc := Grow.ret (by (try dsimp only); repeat (first | exact hg | apply Grow.new | (refine Grow.put ?_ _ (by first | omega | (simp only [hNw, hPt]; omega))))) qc
    have e1 : (Hc.get (W.next)).bind AObj.cs = some (p.c ev) := by rw [qc.ext.get _ (by first | omega | (simp only [hNw, hPt]; omega))]; first | assumption | (rw [gn0]; rfl) | (rw [get_put_eq] <;> rfl) | (simp (disch := first | omega | (simp only [hNw, hPt]; omega)) only [gn0, gn1, gn2, gn3, gn4, gn5, gp0, gno, gpo] <;> first | rfl | assumption | (rw [get_put_eq] <;> rfl))
    have f1 : (Hc.get (Hl.next)).bind AObj.cs = some [I (mnL (spdL p rows hr (p.errs.length + 1))), I (mxL (spdL p rows hr (p.errs.length + 1)))] := by rw [qc.ext.get _ (by first | omega | (simp only [hNw, hPt]; omega))]; first | assumption | (rw [gn0]; rfl) | (rw [get_put_eq] <;> rfl) | (simp (disch := first | omega | (simp only [hNw, hPt]; omega)) only [gn0, gn1, gn2, gn3, gn4, gn5, gp0, gno, gpo] <;> first | rfl | assumption | (rw [get_put_eq] <;> rfl))
    have exHl1 : Ext Hl Hc := Ext.trans (by (try dsimp only); repeat (first | exact hx9 | exact Ext.refl _ | apply Ext.new | (refine Ext.put ?_ _ (by first | omega | (simp only [hNw, hPt]; omega))))) qc.ext
    have ic := mc.ints
    have plc : xc.plain = true := lpl ic.len
    have oc := mc.one
    refine OkO.nil ⟨(sco (sld rfl rfl (lda (n := 1) (by kernel_rfl) (by first | assumption | (simp (disch := first | omega | (simp only [hNw, hPt]; omega)) only [gn0, gn1, gn2, gn3, gn4, gn5, gp0, gno, gpo] <;> first | rfl | assumption | exact gp0 _ _ _ | exact gn0 _ _)) (by first | rfl | assumption)) rfl (eqr _ (by first | rfl | exact lpl (by assumption) | (simp [AV.plain, AV.plains, AV.cells, pev, Pst.c])))) rfl), ?_⟩
    refine OkP.step ?_
    refine OkO.callE rfl rfl rfl rfl rfl (c22 (m + 78) rv rows _ (hRs.ext (hE _ (by (try dsimp only); repeat (first | exact gg1 | apply Grow.new | (refine Grow.put ?_ _ (by first | omega | (simp only [hNw, hPt]; omega))))))) (by omega) ht4) ?_ -- "sackung/sackunglaw04.rows"
    rintro xd Hd ⟨qd, md⟩
    have n2 := qd.ext.next
    try simp only [hNw, hPt] at n2
    have gg2 : Grow W Hd := Grow.ret (by (try dsimp only); repeat (first | exact gg1 | apply Grow.new | (refine Grow.put ?_ _ (by first | omega | (simp only [hNw, hPt]; omega))))) qd
    have e2 : (Hd.get (W.next)).bind AObj.cs = some (p.c ev) := by rw [qd.ext.get _ (by first | omega | (simp only [hNw, hPt]; omega))]; first | assumption | (rw [gn0]; rfl) | (rw [get_put_eq] <;> rfl) | (simp (disch := first | omega | (simp only [hNw, hPt]; omega)) only [gn0, gn1, gn2, gn3, gn4, gn5, gp0, gno, gpo] <;> first | rfl | assumption | (rw [get_put_eq] <;> rfl))
    have f2 : (Hd.get (Hl.next)).bind AObj.cs = some [I (mnL (spdL p rows hr (p.errs.length + 1))), I (mxL (spdL p rows hr (p.errs.length + 1)))] := by rw [qd.ext.get _ (by first | omega | (simp only [hNw, hPt]; omega))]; first | assumption | (rw [gn0]; rfl) | (rw [get_put_eq] <;> rfl) | (simp (disch := first | omega | (simp only [hNw, hPt]; omega)) only [gn0, gn1, gn2, gn3, gn4, gn5, gp0, gno, gpo] <;> first | rfl | assumption | (rw [get_put_eq] <;> rfl))
    have exHl2 : Ext Hl Hd := Ext.trans (by (try dsimp only); repeat (first | exact exHl1 | exact Ext.refl _ | apply Ext.new | (refine Ext.put ?_ _ (by first | omega | (simp only [hNw, hPt]; omega))))) qd.ext
    have exHc2 : Ext Hc Hd := Ext.trans (by (try dsimp only); repeat (first | exact Ext.refl _ | exact Ext.refl _ | apply Ext.new | (refine Ext.put ?_ _ (by first | omega | (simp only [hNw, hPt]; omega))))) qd.ext
    have id := md.at
    have pld : xd.plain = true := lpl id.len
    refine OkO.nil ⟨(sco (sld rfl rfl (lda (n := 1) (by kernel_rfl) (by first | assumption | (simp (disch := first | omega | (simp only [hNw, hPt]; omega)) only [gn0, gn1, gn2, gn3, gn4, gn5, gp0, gno, gpo] <;> first | rfl | assumption | exact gp0 _ _ _ | exact gn0 _ _)) (by first | rfl | assumption)) rfl (eqr _ (by first | rfl | exact lpl (by assumption) | (simp [AV.plain, AV.plains, AV.cells, pev, Pst.c])))) (sco (sld rfl rfl (ldg (n := 6) (by kernel_rfl) (by first | assumption | (simp (disch := first | omega | (simp only [hNw, hPt]; omega)) only [gn0, gn1, gn2, gn3, gn4, gn5, gp0, gno, gpo] <;> first | rfl | assumption | exact gp0 _ _ _ | exact gn0 _ _)) (by first | rfl | assumption)) rfl (eqr _ (by first | rfl | exact lpl (by assumption) | (simp [AV.plain, AV.plains, AV.cells, pev, Pst.c])))) rfl)), ?_⟩
    refine OkP.step ?_
    refine OkO.callE rfl rfl rfl rfl rfl (c35Y m xc xd p rows hr e _ (ic.ext (by (try dsimp only); repeat (first | exact exHc2 | exact Ext.refl _ | apply Ext.new | (refine Ext.put ?_ _ (by first | omega | (simp only [hNw, hPt]; omega)))))) (id.ext (by (try dsimp only); repeat (first | exact Ext.refl _ | exact Ext.refl _ | apply Ext.new | (refine Ext.put ?_ _ (by first | omega | (simp only [hNw, hPt]; omega)))))) (by omega) (by omega) ht4 hf hhr2 heb) ?_ -- "sackung/alarm.Truth"
    rintro v35 H35 ⟨q35, hd35⟩
    have n3 := q35.ext.next
    try simp only [hNw, hPt] at n3
    have gg3 : Grow W H35 := Grow.ret (by (try dsimp only); repeat (first | exact gg2 | apply Grow.new | (refine Grow.put ?_ _ (by first | omega | (simp only [hNw, hPt]; omega))))) q35
    have e3 : (H35.get (W.next)).bind AObj.cs = some (p.c ev) := by rw [q35.ext.get _ (by first | omega | (simp only [hNw, hPt]; omega))]; first | assumption | (rw [gn0]; rfl) | (rw [get_put_eq] <;> rfl) | (simp (disch := first | omega | (simp only [hNw, hPt]; omega)) only [gn0, gn1, gn2, gn3, gn4, gn5, gp0, gno, gpo] <;> first | rfl | assumption | (rw [get_put_eq] <;> rfl))
    have f3 : (H35.get (Hl.next)).bind AObj.cs = some [I (mnL (spdL p rows hr (p.errs.length + 1))), I (mxL (spdL p rows hr (p.errs.length + 1)))] := by rw [q35.ext.get _ (by first | omega | (simp only [hNw, hPt]; omega))]; first | assumption | (rw [gn0]; rfl) | (rw [get_put_eq] <;> rfl) | (simp (disch := first | omega | (simp only [hNw, hPt]; omega)) only [gn0, gn1, gn2, gn3, gn4, gn5, gp0, gno, gpo] <;> first | rfl | assumption | (rw [get_put_eq] <;> rfl))
    have exHl3 : Ext Hl H35 := Ext.trans (by (try dsimp only); repeat (first | exact exHl2 | exact Ext.refl _ | apply Ext.new | (refine Ext.put ?_ _ (by first | omega | (simp only [hNw, hPt]; omega))))) q35.ext
    have exHc3 : Ext Hc H35 := Ext.trans (by (try dsimp only); repeat (first | exact exHc2 | exact Ext.refl _ | apply Ext.new | (refine Ext.put ?_ _ (by first | omega | (simp only [hNw, hPt]; omega))))) q35.ext
    have exHd3 : Ext Hd H35 := Ext.trans (by (try dsimp only); repeat (first | exact Ext.refl _ | exact Ext.refl _ | apply Ext.new | (refine Ext.put ?_ _ (by first | omega | (simp only [hNw, hPt]; omega))))) q35.ext
    obtain ⟨i0, l0, hi0, hh0, hno0, rfl, ml0⟩ := hd35.resolve_right (fun h => by obtain ⟨j, hj1, hj2⟩ := hhit; exact h.1 j hj1 hj2)
    have hli := ml0.ints
    have hl0 := hli.len
    obtain ⟨xb, xo, xcs, x1, x2, x3, x4⟩ := hli.at' hr (by rw [backL_len]; omega)
    have hk9 : hr < (mayL p ((i0 : Int) - 1) rows).length := hh0.1
    have hin9 : inI e (mayL p ((i0 : Int) - 1) rows)[hr] := by (have h9 := hh0.2); rwa [show (mayL p ((i0 : Int) - 1) rows).getD hr nul = (mayL p ((i0 : Int) - 1) rows)[hr] from by simp [List.getD, hk9]] at h9
    have hlast : (backL p (mayL p ((i0 : Int) - 1) rows) hr e)[hr]'(by rw [backL_len]; omega) = e := by (have h9 := (back_ok (rows := rows) hpg.1 hpd.1 hr hk9 e hin9).2.1); rw [List.getElem?_eq_getElem (by rw [backL_len]; omega)] at h9; exact Option.some.inj h9
    rw [hlast] at x3
    have pll0 : l0.plain = true := lpl hl0
    refine OkO.nil ⟨(sco (sld rfl rfl (ldg (n := 6) (by kernel_rfl) (by first | assumption | (simp (disch := first | omega | (simp only [hNw, hPt]; omega)) only [gn0, gn1, gn2, gn3, gn4, gn5, gp0, gno, gpo] <;> first | rfl | assumption | exact gp0 _ _ _ | exact gn0 _ _)) (by first | rfl | assumption)) rfl (eqr _ (by first | rfl | exact lpl (by assumption) | (simp [AV.plain, AV.plains, AV.cells, pev, Pst.c])))) rfl), ?_⟩
    refine OkP.step ?_
    refine OkO.move rfl rfl ?_
    refine OkO.nil ⟨rfl, ?_⟩
    refine OkP.step ?_
    refine OkO.extract rfl rfl rfl ?_
    refine OkO.nil ⟨rfl, ?_⟩
    refine OkP.step ?_
    refine OkO.extract rfl rfl rfl ?_
    refine OkO.nil ⟨rfl, ?_⟩
    refine OkP.step ?_
    refine OkO.extract rfl rfl rfl ?_
    refine OkO.nil ⟨rfl, ?_⟩
    refine OkP.step ?_
    refine OkO.assign rfl rfl ?_
    refine OkO.nil ⟨rfl, ?_⟩
    refine OkP.step ?_
    refine OkO.assign rfl rfl ?_
    refine OkO.nil ⟨rfl, ?_⟩
    refine OkP.step ?_
    refine OkO.assign rfl rfl ?_
    refine OkO.nil ⟨rfl, ?_⟩
    refine OkP.nil ?_
    refine Ok.seq ?_
    refine Ok.drawn [(0, true, []), (1, true, []), (2, true, []), (3, true, []), (4, true, []), (5, true, []), (6, true, []), (7, true, []), (8, true, []), (9, true, []), (10, true, []), (11, true, []), (12, true, []), (13, true, []), (14, true, []), (15, true, []), (16, true, []), (17, true, []), (18, true, []), (19, true, []), (20, true, []), (22, true, []), (23, true, []), (24, true, []), (25, true, []), (27, true, []), (28, true, []), (21, false, [25, 16, 13, 4]), (26, false, [20, 16, 13, 4]), (29, false, [25, 20, 16, 13, 4]), (30, false, [25, 20, 16, 13, 4]), (31, true, []), (32, true, [])] (by kernel_rfl) ?_
    refine OkP.step ?_
    refine OkO.move rfl rfl ?_
    refine OkO.nil ⟨rfl, ?_⟩
    refine OkP.step ?_
    refine OkO.bin rfl rfl rfl ((bin_neq _ _).trans (congrArg (fun b => some (AV.bool b)) (show _ = false from (by rfl)))) ?_
    refine OkO.nil ⟨rfl, ?_⟩
    refine OkP.step ?_
    refine OkO.move rfl rfl ?_
    refine OkO.nil ⟨rfl, ?_⟩
    refine OkP.step ?_
    refine OkO.move rfl rfl ?_
    refine OkO.nil ⟨rfl, ?_⟩
    refine OkP.step ?_
    refine OkO.builtin rfl rfl rfl (bln (by kernel_rfl) (by first | assumption | rfl)) ?_
    refine OkO.nil ⟨rfl, ?_⟩
    refine OkP.step ?_
    refine OkO.move rfl rfl ?_
    refine OkO.nil ⟨rfl, ?_⟩
    refine OkP.step ?_
    refine OkO.bin rfl rfl rfl (bin_add (by omega) (by omega)) ?_
    refine OkO.nil ⟨rfl, ?_⟩
    refine OkP.step ?_
    refine OkO.bin rfl rfl rfl ((bin_neq _ _).trans (congrArg (fun b => some (AV.bool b)) (show _ = false from (by rw [decide_eq_false_iff_not, backL_len]; omega)))) ?_
    refine OkO.nil ⟨rfl, ?_⟩
    refine OkP.step ?_
    refine OkO.pick (b := false) rfl rfl nofun (fun _ => rfl) ?_
    refine OkO.nil ⟨rfl, ?_⟩
    refine OkP.step ?_
    refine OkO.move rfl rfl ?_
    refine OkO.nil ⟨rfl, ?_⟩
    refine OkP.step ?_
    refine OkO.move rfl rfl ?_
    refine OkO.nil ⟨rfl, ?_⟩
    refine OkP.step ?_
    refine OkO.move rfl rfl ?_
    refine OkO.nil ⟨rfl, ?_⟩
    refine OkP.step ?_
    refine OkO.index (sz := 1) rfl rfl rfl (by kernel_rfl) (by first | assumption | rfl | exact slAt_slice (by omega) | exact slAt_opn (by omega)) ?_ -- index ('Go.Operand.tmp', 123) ('Go.Operand.tmp', 124)
    refine OkO.nil ⟨rfl, ?_⟩
    refine OkP.step ?_
    refine OkO.load rfl rfl (lda (n := 1) (by kernel_rfl) (by first | assumption | (simp (disch := first | omega | (simp only [hNw, hPt]; omega)) only [gn0, gn1, gn2, gn3, gn4, gn5, gp0, gno, gpo] <;> first | rfl | assumption | exact gp0 _ _ _ | exact gn0 _ _)) (by first | rfl | assumption)) ?_
    refine OkO.nil ⟨rfl, ?_⟩
    refine OkP.step ?_
    refine OkO.move rfl rfl ?_
    refine OkO.nil ⟨rfl, ?_⟩
    refine OkP.step ?_
    refine OkO.indexArr (len := 2) (sz := 1) (n := i) rfl rfl rfl (by kernel_rfl) (by omega) ?_
    refine OkO.nil ⟨rfl, ?_⟩
    refine OkP.step ?_
    refine OkO.load rfl rfl (lda (n := 1) (by kernel_rfl) (by first | assumption | (simp (disch := first | omega | (simp only [hNw, hPt]; omega)) only [gn0, gn1, gn2, gn3, gn4, gn5, gp0, gno, gpo] <;> first | rfl | assumption | exact gp0 _ _ _ | exact gn0 _ _)) (by first | rfl | assumption)) ?_
    refine OkO.nil ⟨rfl, ?_⟩
    refine OkP.step ?_
    refine OkO.bin rfl rfl rfl ((bin_neq _ _).trans (congrArg (fun b => some (AV.bool b)) (show _ = false from (by simp)))) ?_
    refine OkO.nil ⟨rfl, ?_⟩
    refine OkP.step ?_
    refine OkO.pick (b := false) rfl rfl nofun (fun _ => rfl) ?_
    refine OkO.nil ⟨rfl, ?_⟩
    refine OkP.step ?_
    refine OkO.move rfl rfl ?_
    refine OkO.nil ⟨rfl, ?_⟩
    refine OkP.step ?_
    refine OkO.load rfl rfl (ldg (n := 6) (by kernel_rfl) (by first | assumption | (simp (disch := first | omega | (simp only [hNw, hPt]; omega)) only [gn0, gn1, gn2, gn3, gn4, gn5, gp0, gno, gpo] <;> first | rfl | assumption | exact gp0 _ _ _ | exact gn0 _ _)) (by first | rfl | assumption)) ?_
    refine OkO.nil ⟨rfl, ?_⟩
    refine OkP.step ?_
    refine OkO.move rfl rfl ?_
    refine OkO.nil ⟨rfl, ?_⟩
    refine OkP.step ?_
    refine OkO.move rfl rfl ?_
    refine OkO.nil ⟨rfl, ?_⟩
    refine OkP.step ?_
    refine OkO.bin rfl rfl rfl (bin_add (by omega) (by omega)) ?_
    refine OkO.nil ⟨rfl, ?_⟩
    refine OkP.step ?_
    refine OkO.sliceTo (sz := 1) (k := hr + 1) rfl (by kernel_rfl) rfl rfl (hsv _) ?_
    refine OkO.nil ⟨rfl, ?_⟩
    refine OkP.step ?_
    refine OkO.move rfl rfl ?_
    refine OkO.nil ⟨rfl, ?_⟩
    refine OkP.step ?_
    refine OkO.move rfl rfl ?_
    refine OkO.nil ⟨rfl, ?_⟩
    refine OkP.step ?_
    refine OkO.callE rfl rfl rfl rfl rfl (c20 (m + 78) ev p _ (hV.ext (hE _ (by (try dsimp only); repeat (first | exact gg3 | apply Grow.new | (refine Grow.put ?_ _ (by first | omega | (simp only [hNw, hPt]; omega))))))) (by omega)) ?_ -- "sackung/sackunglaw04.Post"
    rintro _ He ⟨xe, rfl, qe, me⟩
    have n4 := qe.ext.next
    try simp only [hNw, hPt] at n4
    have gg4 : Grow W He := Grow.ret (by (try dsimp only); repeat (first | exact gg3 | apply Grow.new | (refine Grow.put ?_ _ (by first | omega | (simp only [hNw, hPt]; omega))))) qe
    have e4 : (He.get (W.next)).bind AObj.cs = some (p.c ev) := by rw [qe.ext.get _ (by first | omega | (simp only [hNw, hPt]; omega))]; first | assumption | (rw [gn0]; rfl) | (rw [get_put_eq] <;> rfl) | (simp (disch := first | omega | (simp only [hNw, hPt]; omega)) only [gn0, gn1, gn2, gn3, gn4, gn5, gp0, gno, gpo] <;> first | rfl | assumption | (rw [get_put_eq] <;> rfl))
    have f4 : (He.get (Hl.next)).bind AObj.cs = some [I (mnL (spdL p rows hr (p.errs.length + 1))), I (mxL (spdL p rows hr (p.errs.length + 1)))] := by rw [qe.ext.get _ (by first | omega | (simp only [hNw, hPt]; omega))]; first | assumption | (rw [gn0]; rfl) | (rw [get_put_eq] <;> rfl) | (simp (disch := first | omega | (simp only [hNw, hPt]; omega)) only [gn0, gn1, gn2, gn3, gn4, gn5, gp0, gno, gpo] <;> first | rfl | assumption | (rw [get_put_eq] <;> rfl))
    have x4 : (He.get (xb)).bind AObj.cs = some xcs := by rw [qe.ext.get _ (by first | omega | (simp only [hNw, hPt]; omega))]; first | assumption | (rw [gn0]; rfl) | (rw [get_put_eq] <;> rfl) | (simp (disch := first | omega | (simp only [hNw, hPt]; omega)) only [gn0, gn1, gn2, gn3, gn4, gn5, gp0, gno, gpo] <;> first | rfl | assumption | (rw [get_put_eq] <;> rfl))
    have exHl4 : Ext Hl He := Ext.trans (by (try dsimp only); repeat (first | exact exHl3 | exact Ext.refl _ | apply Ext.new | (refine Ext.put ?_ _ (by first | omega | (simp only [hNw, hPt]; omega))))) qe.ext
    have exHc4 : Ext Hc He := Ext.trans (by (try dsimp only); repeat (first | exact exHc3 | exact Ext.refl _ | apply Ext.new | (refine Ext.put ?_ _ (by first | omega | (simp only [hNw, hPt]; omega))))) qe.ext
    have exHd4 : Ext Hd He := Ext.trans (by (try dsimp only); repeat (first | exact exHd3 | exact Ext.refl _ | apply Ext.new | (refine Ext.put ?_ _ (by first | omega | (simp only [hNw, hPt]; omega))))) qe.ext
    have exH354 : Ext H35 He := Ext.trans (by (try dsimp only); repeat (first | exact Ext.refl _ | exact Ext.refl _ | apply Ext.new | (refine Ext.put ?_ _ (by first | omega | (simp only [hNw, hPt]; omega))))) qe.ext
    have ie := me.ints
    have ple : xe.plain = true := lpl ie.len
    have oe := me.one
    refine OkO.nil ⟨(sco (still_slice (sz := 1) (k := hr + 1) rfl (by kernel_rfl) rfl rfl (hsv _) rfl (eqr _ (lpl hls.len))) (sco (sld rfl rfl (lda (n := 1) (by kernel_rfl) (by first | assumption | (simp (disch := first | omega | (simp only [hNw, hPt]; omega)) only [gn0, gn1, gn2, gn3, gn4, gn5, gp0, gno, gpo] <;> first | rfl | assumption | exact gp0 _ _ _ | exact gn0 _ _)) (by first | rfl | assumption)) rfl (eqr _ (by first | rfl | exact lpl (by assumption) | (simp [AV.plain, AV.plains, AV.cells, pev, Pst.c])))) (sco (sld rfl rfl (lda (n := 1) (by kernel_rfl) (by first | assumption | (simp (disch := first | omega | (simp only [hNw, hPt]; omega)) only [gn0, gn1, gn2, gn3, gn4, gn5, gp0, gno, gpo] <;> first | rfl | assumption | exact gp0 _ _ _ | exact gn0 _ _)) (by first | rfl | assumption)) rfl (eqr _ (by first | rfl | exact lpl (by assumption) | (simp [AV.plain, AV.plains, AV.cells, pev, Pst.c])))) (sco (svl rfl (ecb rfl rfl (bln (by kernel_rfl) (by first | assumption | rfl))) rfl (eqr _ rfl)) rfl)))), ?_⟩
    refine OkP.step ?_
    refine OkO.callE rfl rfl rfl rfl rfl (c22 (m + 78) v1 (rows.take (hr + 1)) _ (hls.ext (hE _ (by (try dsimp only); repeat (first | exact gg4 | apply Grow.new | (refine Grow.put ?_ _ (by first | omega | (simp only [hNw, hPt]; omega))))))) (by rw [List.length_take]; omega) ht4t) ?_ -- "sackung/sackunglaw04.rows"
    rintro xg Hg ⟨qg, mg⟩
    have n5 := qg.ext.next
    try simp only [hNw, hPt] at n5
    have gg5 : Grow W Hg := Grow.ret (by (try dsimp only); repeat (first | exact gg4 | apply Grow.new | (refine Grow.put ?_ _ (by first | omega | (simp only [hNw, hPt]; omega))))) qg
    have e5 : (Hg.get (W.next)).bind AObj.cs = some (p.c ev) := by rw [qg.ext.get _ (by first | omega | (simp only [hNw, hPt]; omega))]; first | assumption | (rw [gn0]; rfl) | (rw [get_put_eq] <;> rfl) | (simp (disch := first | omega | (simp only [hNw, hPt]; omega)) only [gn0, gn1, gn2, gn3, gn4, gn5, gp0, gno, gpo] <;> first | rfl | assumption | (rw [get_put_eq] <;> rfl))
    have f5 : (Hg.get (Hl.next)).bind AObj.cs = some [I (mnL (spdL p rows hr (p.errs.length + 1))), I (mxL (spdL p rows hr (p.errs.length + 1)))] := by rw [qg.ext.get _ (by first | omega | (simp only [hNw, hPt]; omega))]; first | assumption | (rw [gn0]; rfl) | (rw [get_put_eq] <;> rfl) | (simp (disch := first | omega | (simp only [hNw, hPt]; omega)) only [gn0, gn1, gn2, gn3, gn4, gn5, gp0, gno, gpo] <;> first | rfl | assumption | (rw [get_put_eq] <;> rfl))
    have x5 : (Hg.get (xb)).bind AObj.cs = some xcs := by rw [qg.ext.get _ (by first | omega | (simp only [hNw, hPt]; omega))]; first | assumption | (rw [gn0]; rfl) | (rw [get_put_eq] <;> rfl) | (simp (disch := first | omega | (simp only [hNw, hPt]; omega)) only [gn0, gn1, gn2, gn3, gn4, gn5, gp0, gno, gpo] <;> first | rfl | assumption | (rw [get_put_eq] <;> rfl))
    have exHl5 : Ext Hl Hg := Ext.trans (by (try dsimp only); repeat (first | exact exHl4 | exact Ext.refl _ | apply Ext.new | (refine Ext.put ?_ _ (by first | omega | (simp only [hNw, hPt]; omega))))) qg.ext
    have exHc5 : Ext Hc Hg := Ext.trans (by (try dsimp only); repeat (first | exact exHc4 | exact Ext.refl _ | apply Ext.new | (refine Ext.put ?_ _ (by first | omega | (simp only [hNw, hPt]; omega))))) qg.ext
    have exHd5 : Ext Hd Hg := Ext.trans (by (try dsimp only); repeat (first | exact exHd4 | exact Ext.refl _ | apply Ext.new | (refine Ext.put ?_ _ (by first | omega | (simp only [hNw, hPt]; omega))))) qg.ext
    have exH355 : Ext H35 Hg := Ext.trans (by (try dsimp only); repeat (first | exact exH354 | exact Ext.refl _ | apply Ext.new | (refine Ext.put ?_ _ (by first | omega | (simp only [hNw, hPt]; omega))))) qg.ext
    have exHe5 : Ext He Hg := Ext.trans (by (try dsimp only); repeat (first | exact Ext.refl _ | exact Ext.refl _ | apply Ext.new | (refine Ext.put ?_ _ (by first | omega | (simp only [hNw, hPt]; omega))))) qg.ext
    have ig := mg.at
    have plg : xg.plain = true := lpl ig.len
    refine OkO.nil ⟨(sco (sld rfl rfl (ldg (n := 6) (by kernel_rfl) (by first | assumption | (simp (disch := first | omega | (simp only [hNw, hPt]; omega)) only [gn0, gn1, gn2, gn3, gn4, gn5, gp0, gno, gpo] <;> first | rfl | assumption | exact gp0 _ _ _ | exact gn0 _ _)) (by first | rfl | assumption)) rfl (eqr _ (by first | rfl | exact lpl (by assumption) | (simp [AV.plain, AV.plains, AV.cells, pev, Pst.c])))) (sco (sld rfl rfl (lda (n := 1) (by kernel_rfl) (by first | assumption | (simp (disch := first | omega | (simp only [hNw, hPt]; omega)) only [gn0, gn1, gn2, gn3, gn4, gn5, gp0, gno, gpo] <;> first | rfl | assumption | exact gp0 _ _ _ | exact gn0 _ _)) (by first | rfl | assumption)) rfl (eqr _ (by first | rfl | exact lpl (by assumption) | (simp [AV.plain, AV.plains, AV.cells, pev, Pst.c])))) (sco (sld rfl rfl (lda (n := 1) (by kernel_rfl) (by first | assumption | (simp (disch := first | omega | (simp only [hNw, hPt]; omega)) only [gn0, gn1, gn2, gn3, gn4, gn5, gp0, gno, gpo] <;> first | rfl | assumption | exact gp0 _ _ _ | exact gn0 _ _)) (by first | rfl | assumption)) rfl (eqr _ (by first | rfl | exact lpl (by assumption) | (simp [AV.plain, AV.plains, AV.cells, pev, Pst.c])))) (sco (svl rfl (ecb rfl rfl (bln (by kernel_rfl) (by first | assumption | rfl))) rfl (eqr _ rfl)) rfl)))), ?_⟩
    refine OkP.step ?_
    refine OkO.callE rfl rfl rfl rfl rfl (c30 (m + 79) l0 _ _ (hli.ext (by (try dsimp only); repeat (first | exact exH355 | exact Ext.refl _ | apply Ext.new | (refine Ext.put ?_ _ (by first | omega | (simp only [hNw, hPt]; omega)))))) (by rw [backL_len]; omega)) ?_ -- "sackung/sackunglaw04.list"
    rintro xz Hz ⟨qz, mz⟩
    have n6 := qz.ext.next
    try simp only [hNw, hPt] at n6
    have gg6 : Grow W Hz := Grow.ret (by (try dsimp only); repeat (first | exact gg5 | apply Grow.new | (refine Grow.put ?_ _ (by first | omega | (simp only [hNw, hPt]; omega))))) qz
    have e6 : (Hz.get (W.next)).bind AObj.cs = some (p.c ev) := by rw [qz.ext.get _ (by first | omega | (simp only [hNw, hPt]; omega))]; first | assumption | (rw [gn0]; rfl) | (rw [get_put_eq] <;> rfl) | (simp (disch := first | omega | (simp only [hNw, hPt]; omega)) only [gn0, gn1, gn2, gn3, gn4, gn5, gp0, gno, gpo] <;> first | rfl | assumption | (rw [get_put_eq] <;> rfl))
    have f6 : (Hz.get (Hl.next)).bind AObj.cs = some [I (mnL (spdL p rows hr (p.errs.length + 1))), I (mxL (spdL p rows hr (p.errs.length + 1)))] := by rw [qz.ext.get _ (by first | omega | (simp only [hNw, hPt]; omega))]; first | assumption | (rw [gn0]; rfl) | (rw [get_put_eq] <;> rfl) | (simp (disch := first | omega | (simp only [hNw, hPt]; omega)) only [gn0, gn1, gn2, gn3, gn4, gn5, gp0, gno, gpo] <;> first | rfl | assumption | (rw [get_put_eq] <;> rfl))
    have x6 : (Hz.get (xb)).bind AObj.cs = some xcs := by rw [qz.ext.get _ (by first | omega | (simp only [hNw, hPt]; omega))]; first | assumption | (rw [gn0]; rfl) | (rw [get_put_eq] <;> rfl) | (simp (disch := first | omega | (simp only [hNw, hPt]; omega)) only [gn0, gn1, gn2, gn3, gn4, gn5, gp0, gno, gpo] <;> first | rfl | assumption | (rw [get_put_eq] <;> rfl))
    have exHl6 : Ext Hl Hz := Ext.trans (by (try dsimp only); repeat (first | exact exHl5 | exact Ext.refl _ | apply Ext.new | (refine Ext.put ?_ _ (by first | omega | (simp only [hNw, hPt]; omega))))) qz.ext
    have exHc6 : Ext Hc Hz := Ext.trans (by (try dsimp only); repeat (first | exact exHc5 | exact Ext.refl _ | apply Ext.new | (refine Ext.put ?_ _ (by first | omega | (simp only [hNw, hPt]; omega))))) qz.ext
    have exHd6 : Ext Hd Hz := Ext.trans (by (try dsimp only); repeat (first | exact exHd5 | exact Ext.refl _ | apply Ext.new | (refine Ext.put ?_ _ (by first | omega | (simp only [hNw, hPt]; omega))))) qz.ext
    have exH356 : Ext H35 Hz := Ext.trans (by (try dsimp only); repeat (first | exact exH355 | exact Ext.refl _ | apply Ext.new | (refine Ext.put ?_ _ (by first | omega | (simp only [hNw, hPt]; omega))))) qz.ext
    have exHe6 : Ext He Hz := Ext.trans (by (try dsimp only); repeat (first | exact exHe5 | exact Ext.refl _ | apply Ext.new | (refine Ext.put ?_ _ (by first | omega | (simp only [hNw, hPt]; omega))))) qz.ext
    have exHg6 : Ext Hg Hz := Ext.trans (by (try dsimp only); repeat (first | exact Ext.refl _ | exact Ext.refl _ | apply Ext.new | (refine Ext.put ?_ _ (by first | omega | (simp only [hNw, hPt]; omega))))) qz.ext
    have iz := mz.ints
    have plz : xz.plain = true := lpl iz.len
    refine OkO.nil ⟨(sco (still_slice (sz := 1) (k := hr + 1) rfl (by kernel_rfl) rfl rfl (hsv _) rfl (eqr _ (lpl hls.len))) (sco (sld rfl rfl (ldg (n := 6) (by kernel_rfl) (by first | assumption | (simp (disch := first | omega | (simp only [hNw, hPt]; omega)) only [gn0, gn1, gn2, gn3, gn4, gn5, gp0, gno, gpo] <;> first | rfl | assumption | exact gp0 _ _ _ | exact gn0 _ _)) (by first | rfl | assumption)) rfl (eqr _ (by first | rfl | exact lpl (by assumption) | (simp [AV.plain, AV.plains, AV.cells, pev, Pst.c])))) (sco (sld rfl rfl (lda (n := 1) (by kernel_rfl) (by first | assumption | (simp (disch := first | omega | (simp only [hNw, hPt]; omega)) only [gn0, gn1, gn2, gn3, gn4, gn5, gp0, gno, gpo] <;> first | rfl | assumption | exact gp0 _ _ _ | exact gn0 _ _)) (by first | rfl | assumption)) rfl (eqr _ (by first | rfl | exact lpl (by assumption) | (simp [AV.plain, AV.plains, AV.cells, pev, Pst.c])))) (sco (sld rfl rfl (lda (n := 1) (by kernel_rfl) (by first | assumption | (simp (disch := first | omega | (simp only [hNw, hPt]; omega)) only [gn0, gn1, gn2, gn3, gn4, gn5, gp0, gno, gpo] <;> first | rfl | assumption | exact gp0 _ _ _ | exact gn0 _ _)) (by first | rfl | assumption)) rfl (eqr _ (by first | rfl | exact lpl (by assumption) | (simp [AV.plain, AV.plains, AV.cells, pev, Pst.c])))) (sco (svl rfl (ecb rfl rfl (bln (by kernel_rfl) (by first | assumption | rfl))) rfl (eqr _ rfl)) rfl))))), ?_⟩
    refine OkP.step ?_
    refine OkO.callV rfl rfl rfl rfl rfl ((c29Y (m + 74) xe xg xz p (rows.take (hr + 1)) ((i0 : Int) - 1) _ _ (ie.ext (by (try dsimp only); repeat (first | exact exHe6 | exact Ext.refl _ | apply Ext.new | (refine Ext.put ?_ _ (by first | omega | (simp only [hNw, hPt]; omega)))))) (ig.ext (by (try dsimp only); repeat (first | exact exHg6 | exact Ext.refl _ | apply Ext.new | (refine Ext.put ?_ _ (by first | omega | (simp only [hNw, hPt]; omega)))))) (by omega) (by rw [List.length_take]; omega) ht4t (iz.ext (by (try dsimp only); repeat (first | exact Ext.refl _ | exact Ext.refl _ | apply Ext.new | (refine Ext.put ?_ _ (by first | omega | (simp only [hNw, hPt]; omega)))))) (by rw [backL_len]; omega) (fault_take hf _)).trans (by rw [bP_true (back_truth hpg.1 hpd.1 hi0 hhr2 hh0)])) ?_ -- "sackung/alarm.ProveTruth"
    refine OkO.nil ⟨(sco (still_slice (sz := 1) (k := hr + 1) rfl (by kernel_rfl) rfl rfl (hsv _) rfl (eqr _ (lpl hls.len))) (sco (sld rfl rfl (ldg (n := 6) (by kernel_rfl) (by first | assumption | (simp (disch := first | omega | (simp only [hNw, hPt]; omega)) only [gn0, gn1, gn2, gn3, gn4, gn5, gp0, gno, gpo] <;> first | rfl | assumption | exact gp0 _ _ _ | exact gn0 _ _)) (by first | rfl | assumption)) rfl (eqr _ (by first | rfl | exact lpl (by assumption) | (simp [AV.plain, AV.plains, AV.cells, pev, Pst.c])))) (sco (sld rfl rfl (lda (n := 1) (by kernel_rfl) (by first | assumption | (simp (disch := first | omega | (simp only [hNw, hPt]; omega)) only [gn0, gn1, gn2, gn3, gn4, gn5, gp0, gno, gpo] <;> first | rfl | assumption | exact gp0 _ _ _ | exact gn0 _ _)) (by first | rfl | assumption)) rfl (eqr _ (by first | rfl | exact lpl (by assumption) | (simp [AV.plain, AV.plains, AV.cells, pev, Pst.c])))) (sco (sld rfl rfl (lda (n := 1) (by kernel_rfl) (by first | assumption | (simp (disch := first | omega | (simp only [hNw, hPt]; omega)) only [gn0, gn1, gn2, gn3, gn4, gn5, gp0, gno, gpo] <;> first | rfl | assumption | exact gp0 _ _ _ | exact gn0 _ _)) (by first | rfl | assumption)) rfl (eqr _ (by first | rfl | exact lpl (by assumption) | (simp [AV.plain, AV.plains, AV.cells, pev, Pst.c])))) (sco (svl rfl (ecb rfl rfl (bln (by kernel_rfl) (by first | assumption | rfl))) rfl (eqr _ rfl)) rfl))))), ?_⟩
    refine OkP.step ?_
    refine OkO.un rfl rfl rfl ?_
    refine OkO.nil ⟨rfl, ?_⟩
    refine OkP.step ?_
    refine OkO.pick (b := false) rfl rfl nofun (fun _ => rfl) ?_
    refine OkO.nil ⟨rfl, ?_⟩
    refine OkP.nil ?_
    refine Ok.condF rfl ?_
    refine Ok.skip ?_
    refine Ok.region ?_
    refine OkO.move rfl rfl ?_
    refine OkO.bin rfl rfl rfl (bin_add (by omega) (by omega)) ?_
    refine OkO.assign rfl rfl ?_
    refine OkO.nil ?_
    refine ⟨2 - (i + 1), by omega, i + 1, rfl, by omega, Has.of (by kernel_rfl), rfl, gg6, e6, f6, (by (try dsimp only); repeat (first | exact exHl6 | exact Ext.refl _ | apply Ext.new | (refine Ext.put ?_ _ (by first | omega | (simp only [hNw, hPt]; omega))))), (by show Hl.next + 1 ≤ Hz.next; omega)⟩
  · -- no h1
    have hge : i = 2 := by (have h9 : ¬ (i : Int) < 2 := by simpa using h1); omega
    refine Ok.exit ?_
    refine Ok.seq ?_
    refine Ok.drawn [(0, true, []), (2, true, []), (4, true, []), (5, true, []), (6, true, []), (7, true, []), (8, true, []), (9, true, []), (10, true, []), (1, false, [9]), (3, false, [9, 0]), (11, false, [9, 0]), (12, true, []), (13, true, []), (14, true, []), (15, true, []), (16, true, []), (17, true, []), (18, true, [])] (by kernel_rfl) ?_
    refine OkP.step ?_
    refine OkO.load rfl rfl (ldg (n := 6) (by kernel_rfl) (by first | assumption | (simp (disch := first | omega | (simp only [hNw, hPt]; omega)) only [gn0, gn1, gn2, gn3, gn4, gn5, gp0, gno, gpo] <;> first | rfl | assumption | exact gp0 _ _ _ | exact gn0 _ _)) (by first | rfl | assumption)) ?_
    refine OkO.nil ⟨rfl, ?_⟩
    refine OkP.step ?_
    refine OkO.move rfl rfl ?_
    refine OkO.nil ⟨rfl, ?_⟩
    refine OkP.step ?_
    refine OkO.move rfl rfl ?_
    refine OkO.nil ⟨rfl, ?_⟩
    refine OkP.step ?_
    refine OkO.move rfl rfl ?_
    refine OkO.nil ⟨rfl, ?_⟩
    refine OkP.step ?_
    refine OkO.move rfl rfl ?_
    refine OkO.nil ⟨rfl, ?_⟩
    refine OkP.step ?_
    refine OkO.index (sz := 3) rfl rfl rfl (by kernel_rfl) (by first | assumption | rfl | exact slAt_slice (by omega) | exact slAt_opn (by omega)) ?_ -- index ('Go.Operand.tmp', 152) ('Go.Operand.tmp', 153)
    refine OkO.nil ⟨rfl, ?_⟩
    refine OkP.step ?_
    refine OkO.fieldAddr (o := 0) rfl (by kernel_rfl) rfl ?_
    refine OkO.nil ⟨rfl, ?_⟩
    refine OkP.step ?_
    refine OkO.load rfl rfl (lda (n := 1) (by kernel_rfl) (by first | assumption | (simp (disch := first | omega | (simp only [hNw, hPt]; omega)) only [gn0, gn1, gn2, gn3, gn4, gn5, gp0, gno, gpo] <;> first | rfl | assumption | exact gp0 _ _ _ | exact gn0 _ _)) (by first | rfl | assumption)) ?_
    refine OkO.nil ⟨rfl, ?_⟩
    refine OkP.step ?_
    refine OkO.bin rfl rfl rfl (bin_sub (by omega) (by omega)) ?_
    refine OkO.nil ⟨rfl, ?_⟩
    refine OkP.step ?_
    refine OkO.callE rfl rfl rfl rfl rfl (c20 (m + 78) ev p _ (hV.ext (hE _ (by (try dsimp only); repeat (first | exact hg | apply Grow.new | (refine Grow.put ?_ _ (by first | omega | (simp only [hNw, hPt]; omega))))))) (by omega)) ?_ -- "sackung/sackunglaw04.Post"
    rintro _ Haa ⟨xaa, rfl, qaa, maa⟩
    have n1 := qaa.ext.next
    try simp only [hNw, hPt] at n1
    have gg1 : Grow W Haa := Grow.ret (by (try dsimp only); repeat (first | exact hg | apply Grow.new | (refine Grow.put ?_ _ (by first | omega | (simp only [hNw, hPt]; omega))))) qaa
    have e1 : (Haa.get (W.next)).bind AObj.cs = some (p.c ev) := by rw [qaa.ext.get _ (by first | omega | (simp only [hNw, hPt]; omega))]; first | assumption | (rw [gn0]; rfl) | (rw [get_put_eq] <;> rfl) | (simp (disch := first | omega | (simp only [hNw, hPt]; omega)) only [gn0, gn1, gn2, gn3, gn4, gn5, gp0, gno, gpo] <;> first | rfl | assumption | (rw [get_put_eq] <;> rfl))
    have l1 : (Haa.get (lb)).bind AObj.cs = some lcs := by rw [qaa.ext.get _ (by first | omega | (simp only [hNw, hPt]; omega))]; first | assumption | (rw [gn0]; rfl) | (rw [get_put_eq] <;> rfl) | (simp (disch := first | omega | (simp only [hNw, hPt]; omega)) only [gn0, gn1, gn2, gn3, gn4, gn5, gp0, gno, gpo] <;> first | rfl | assumption | (rw [get_put_eq] <;> rfl))
    have iaa := maa.ints
    have plaa : xaa.plain = true := lpl iaa.len
    have oaa := maa.one
    refine OkO.nil ⟨(sco (sld rfl rfl (lda (n := 1) (by kernel_rfl) (by first | assumption | (simp (disch := first | omega | (simp only [hNw, hPt]; omega)) only [gn0, gn1, gn2, gn3, gn4, gn5, gp0, gno, gpo] <;> first | rfl | assumption | exact gp0 _ _ _ | exact gn0 _ _)) (by first | rfl | assumption)) rfl (eqr _ (by first | rfl | exact lpl (by assumption) | (simp [AV.plain, AV.plains, AV.cells, pev, Pst.c])))) rfl), ?_⟩
    refine OkP.step ?_
    refine OkO.callE rfl rfl rfl rfl rfl (c22 (m + 78) rv rows _ (hRs.ext (hE _ (by (try dsimp only); repeat (first | exact gg1 | apply Grow.new | (refine Grow.put ?_ _ (by first | omega | (simp only [hNw, hPt]; omega))))))) (by omega) ht4) ?_ -- "sackung/sackunglaw04.rows"
    rintro xbb Hbb ⟨qbb, mbb⟩
    have n2 := qbb.ext.next
    try simp only [hNw, hPt] at n2
    have gg2 : Grow W Hbb := Grow.ret (by (try dsimp only); repeat (first | exact gg1 | apply Grow.new | (refine Grow.put ?_ _ (by first | omega | (simp only [hNw, hPt]; omega))))) qbb
    have e2 : (Hbb.get (W.next)).bind AObj.cs = some (p.c ev) := by rw [qbb.ext.get _ (by first | omega | (simp only [hNw, hPt]; omega))]; first | assumption | (rw [gn0]; rfl) | (rw [get_put_eq] <;> rfl) | (simp (disch := first | omega | (simp only [hNw, hPt]; omega)) only [gn0, gn1, gn2, gn3, gn4, gn5, gp0, gno, gpo] <;> first | rfl | assumption | (rw [get_put_eq] <;> rfl))
    have l2 : (Hbb.get (lb)).bind AObj.cs = some lcs := by rw [qbb.ext.get _ (by first | omega | (simp only [hNw, hPt]; omega))]; first | assumption | (rw [gn0]; rfl) | (rw [get_put_eq] <;> rfl) | (simp (disch := first | omega | (simp only [hNw, hPt]; omega)) only [gn0, gn1, gn2, gn3, gn4, gn5, gp0, gno, gpo] <;> first | rfl | assumption | (rw [get_put_eq] <;> rfl))
    have exHaa2 : Ext Haa Hbb := Ext.trans (by (try dsimp only); repeat (first | exact Ext.refl _ | exact Ext.refl _ | apply Ext.new | (refine Ext.put ?_ _ (by first | omega | (simp only [hNw, hPt]; omega))))) qbb.ext
    have ibb := mbb.at
    have plbb : xbb.plain = true := lpl ibb.len
    refine OkO.nil ⟨(sco (sld rfl rfl (lda (n := 1) (by kernel_rfl) (by first | assumption | (simp (disch := first | omega | (simp only [hNw, hPt]; omega)) only [gn0, gn1, gn2, gn3, gn4, gn5, gp0, gno, gpo] <;> first | rfl | assumption | exact gp0 _ _ _ | exact gn0 _ _)) (by first | rfl | assumption)) rfl (eqr _ (by first | rfl | exact lpl (by assumption) | (simp [AV.plain, AV.plains, AV.cells, pev, Pst.c])))) (sco (sld rfl rfl (ldg (n := 6) (by kernel_rfl) (by first | assumption | (simp (disch := first | omega | (simp only [hNw, hPt]; omega)) only [gn0, gn1, gn2, gn3, gn4, gn5, gp0, gno, gpo] <;> first | rfl | assumption | exact gp0 _ _ _ | exact gn0 _ _)) (by first | rfl | assumption)) rfl (eqr _ (by first | rfl | exact lpl (by assumption) | (simp [AV.plain, AV.plains, AV.cells, pev, Pst.c])))) rfl)), ?_⟩
    refine OkP.step ?_
    refine OkO.callE rfl rfl rfl rfl rfl (c35O m xaa xbb p rows hr ((mnL (spdL p rows hr (p.errs.length + 1))) - 1) _ (iaa.ext (by (try dsimp only); repeat (first | exact exHaa2 | exact Ext.refl _ | apply Ext.new | (refine Ext.put ?_ _ (by first | omega | (simp only [hNw, hPt]; omega)))))) (ibb.ext (by (try dsimp only); repeat (first | exact Ext.refl _ | exact Ext.refl _ | apply Ext.new | (refine Ext.put ?_ _ (by first | omega | (simp only [hNw, hPt]; omega)))))) (by omega) (by omega) ht4 hf hhr2 (fun j hj hc => by (have h9 := hit_span hj hc); omega)) ?_ -- "sackung/alarm.Truth"
    rintro _ Ho1 ⟨e1, rfl, qo1, he1x⟩
    have n3 := qo1.ext.next
    try simp only [hNw, hPt] at n3
    have gg3 : Grow W Ho1 := Grow.ret (by (try dsimp only); repeat (first | exact gg2 | apply Grow.new | (refine Grow.put ?_ _ (by first | omega | (simp only [hNw, hPt]; omega))))) qo1
    have e3 : (Ho1.get (W.next)).bind AObj.cs = some (p.c ev) := by rw [qo1.ext.get _ (by first | omega | (simp only [hNw, hPt]; omega))]; first | assumption | (rw [gn0]; rfl) | (rw [get_put_eq] <;> rfl) | (simp (disch := first | omega | (simp only [hNw, hPt]; omega)) only [gn0, gn1, gn2, gn3, gn4, gn5, gp0, gno, gpo] <;> first | rfl | assumption | (rw [get_put_eq] <;> rfl))
    have l3 : (Ho1.get (lb)).bind AObj.cs = some lcs := by rw [qo1.ext.get _ (by first | omega | (simp only [hNw, hPt]; omega))]; first | assumption | (rw [gn0]; rfl) | (rw [get_put_eq] <;> rfl) | (simp (disch := first | omega | (simp only [hNw, hPt]; omega)) only [gn0, gn1, gn2, gn3, gn4, gn5, gp0, gno, gpo] <;> first | rfl | assumption | (rw [get_put_eq] <;> rfl))
    have exHaa3 : Ext Haa Ho1 := Ext.trans (by (try dsimp only); repeat (first | exact exHaa2 | exact Ext.refl _ | apply Ext.new | (refine Ext.put ?_ _ (by first | omega | (simp only [hNw, hPt]; omega))))) qo1.ext
    have exHbb3 : Ext Hbb Ho1 := Ext.trans (by (try dsimp only); repeat (first | exact Ext.refl _ | exact Ext.refl _ | apply Ext.new | (refine Ext.put ?_ _ (by first | omega | (simp only [hNw, hPt]; omega))))) qo1.ext
    have he1 : e1 = 7 ∨ (e1 = 2 ∧ mnL (spdL p rows hr (p.errs.length + 1)) = 0) := he1x.imp id (fun h => ⟨h.1, by omega⟩)
    refine OkO.nil ⟨(sco (sld rfl rfl (lda (n := 1) (by kernel_rfl) (by first | assumption | (simp (disch := first | omega | (simp only [hNw, hPt]; omega)) only [gn0, gn1, gn2, gn3, gn4, gn5, gp0, gno, gpo] <;> first | rfl | assumption | exact gp0 _ _ _ | exact gn0 _ _)) (by first | rfl | assumption)) rfl (eqr _ (by first | rfl | exact lpl (by assumption) | (simp [AV.plain, AV.plains, AV.cells, pev, Pst.c])))) (sco (sld rfl rfl (ldg (n := 6) (by kernel_rfl) (by first | assumption | (simp (disch := first | omega | (simp only [hNw, hPt]; omega)) only [gn0, gn1, gn2, gn3, gn4, gn5, gp0, gno, gpo] <;> first | rfl | assumption | exact gp0 _ _ _ | exact gn0 _ _)) (by first | rfl | assumption)) rfl (eqr _ (by first | rfl | exact lpl (by assumption) | (simp [AV.plain, AV.plains, AV.cells, pev, Pst.c])))) rfl)), ?_⟩
    refine OkP.step ?_
    refine OkO.move rfl rfl ?_
    refine OkO.nil ⟨rfl, ?_⟩
    refine OkP.step ?_
    refine OkO.extract rfl rfl rfl ?_
    refine OkO.nil ⟨rfl, ?_⟩
    refine OkP.step ?_
    refine OkO.extract rfl rfl rfl ?_
    refine OkO.nil ⟨rfl, ?_⟩
    refine OkP.step ?_
    refine OkO.extract rfl rfl rfl ?_
    refine OkO.nil ⟨rfl, ?_⟩
    refine OkP.step ?_
    refine OkO.assign rfl rfl ?_
    refine OkO.nil ⟨rfl, ?_⟩
    refine OkP.step ?_
    refine OkO.assign rfl rfl ?_
    refine OkO.nil ⟨rfl, ?_⟩
    refine OkP.step ?_
    refine OkO.assign rfl rfl ?_
    refine OkO.nil ⟨rfl, ?_⟩
    refine OkP.nil ?_
    refine Ok.seq ?_
    refine Ok.drawn [(0, true, []), (2, true, []), (4, true, []), (5, true, []), (6, true, []), (7, true, []), (8, true, []), (9, true, []), (10, true, []), (1, false, [9]), (3, false, [9, 0]), (11, false, [9, 0]), (12, true, []), (13, true, []), (14, true, []), (15, true, []), (16, true, []), (17, true, []), (18, true, [])] (by kernel_rfl) ?_
    refine OkP.step ?_
    refine OkO.load rfl rfl (ldg (n := 6) (by kernel_rfl) (by first | assumption | (simp (disch := first | omega | (simp only [hNw, hPt]; omega)) only [gn0, gn1, gn2, gn3, gn4, gn5, gp0, gno, gpo] <;> first | rfl | assumption | exact gp0 _ _ _ | exact gn0 _ _)) (by first | rfl | assumption)) ?_
    refine OkO.nil ⟨rfl, ?_⟩
    refine OkP.step ?_
    refine OkO.move rfl rfl ?_
    refine OkO.nil ⟨rfl, ?_⟩
    refine OkP.step ?_
    refine OkO.move rfl rfl ?_
    refine OkO.nil ⟨rfl, ?_⟩
    refine OkP.step ?_
    refine OkO.move rfl rfl ?_
    refine OkO.nil ⟨rfl, ?_⟩
    refine OkP.step ?_
    refine OkO.move rfl rfl ?_
    refine OkO.nil ⟨rfl, ?_⟩
    refine OkP.step ?_
    refine OkO.index (sz := 3) rfl rfl rfl (by kernel_rfl) (by first | assumption | rfl | exact slAt_slice (by omega) | exact slAt_opn (by omega)) ?_ -- index ('Go.Operand.tmp', 168) ('Go.Operand.tmp', 169)
    refine OkO.nil ⟨rfl, ?_⟩
    refine OkP.step ?_
    refine OkO.fieldAddr (o := 1) rfl (by kernel_rfl) rfl ?_
    refine OkO.nil ⟨rfl, ?_⟩
    refine OkP.step ?_
    refine OkO.load rfl rfl (lda (n := 1) (by kernel_rfl) (by first | assumption | (simp (disch := first | omega | (simp only [hNw, hPt]; omega)) only [gn0, gn1, gn2, gn3, gn4, gn5, gp0, gno, gpo] <;> first | rfl | assumption | exact gp0 _ _ _ | exact gn0 _ _)) (by first | rfl | assumption)) ?_
    refine OkO.nil ⟨rfl, ?_⟩
    refine OkP.step ?_
    refine OkO.bin rfl rfl rfl (bin_add (by omega) (by omega)) ?_
    refine OkO.nil ⟨rfl, ?_⟩
    refine OkP.step ?_
    refine OkO.callE rfl rfl rfl rfl rfl (c20 (m + 78) ev p _ (hV.ext (hE _ (by (try dsimp only); repeat (first | exact gg3 | apply Grow.new | (refine Grow.put ?_ _ (by first | omega | (simp only [hNw, hPt]; omega))))))) (by omega)) ?_ -- "sackung/sackunglaw04.Post"
    rintro _ Hcc ⟨xcc, rfl, qcc, mcc⟩
    have n4 := qcc.ext.next
    try simp only [hNw, hPt] at n4
    have gg4 : Grow W Hcc := Grow.ret (by (try dsimp only); repeat (first | exact gg3 | apply Grow.new | (refine Grow.put ?_ _ (by first | omega | (simp only [hNw, hPt]; omega))))) qcc
    have e4 : (Hcc.get (W.next)).bind AObj.cs = some (p.c ev) := by rw [qcc.ext.get _ (by first | omega | (simp only [hNw, hPt]; omega))]; first | assumption | (rw [gn0]; rfl) | (rw [get_put_eq] <;> rfl) | (simp (disch := first | omega | (simp only [hNw, hPt]; omega)) only [gn0, gn1, gn2, gn3, gn4, gn5, gp0, gno, gpo] <;> first | rfl | assumption | (rw [get_put_eq] <;> rfl))
    have l4 : (Hcc.get (lb)).bind AObj.cs = some lcs := by rw [qcc.ext.get _ (by first | omega | (simp only [hNw, hPt]; omega))]; first | assumption | (rw [gn0]; rfl) | (rw [get_put_eq] <;> rfl) | (simp (disch := first | omega | (simp only [hNw, hPt]; omega)) only [gn0, gn1, gn2, gn3, gn4, gn5, gp0, gno, gpo] <;> first | rfl | assumption | (rw [get_put_eq] <;> rfl))
    have exHaa4 : Ext Haa Hcc := Ext.trans (by (try dsimp only); repeat (first | exact exHaa3 | exact Ext.refl _ | apply Ext.new | (refine Ext.put ?_ _ (by first | omega | (simp only [hNw, hPt]; omega))))) qcc.ext
    have exHbb4 : Ext Hbb Hcc := Ext.trans (by (try dsimp only); repeat (first | exact exHbb3 | exact Ext.refl _ | apply Ext.new | (refine Ext.put ?_ _ (by first | omega | (simp only [hNw, hPt]; omega))))) qcc.ext
    have icc := mcc.ints
    have plcc : xcc.plain = true := lpl icc.len
    have occ := mcc.one
    refine OkO.nil ⟨(sco (sld rfl rfl (lda (n := 1) (by kernel_rfl) (by first | assumption | (simp (disch := first | omega | (simp only [hNw, hPt]; omega)) only [gn0, gn1, gn2, gn3, gn4, gn5, gp0, gno, gpo] <;> first | rfl | assumption | exact gp0 _ _ _ | exact gn0 _ _)) (by first | rfl | assumption)) rfl (eqr _ (by first | rfl | exact lpl (by assumption) | (simp [AV.plain, AV.plains, AV.cells, pev, Pst.c])))) rfl), ?_⟩
    refine OkP.step ?_
    refine OkO.callE rfl rfl rfl rfl rfl (c22 (m + 78) rv rows _ (hRs.ext (hE _ (by (try dsimp only); repeat (first | exact gg4 | apply Grow.new | (refine Grow.put ?_ _ (by first | omega | (simp only [hNw, hPt]; omega))))))) (by omega) ht4) ?_ -- "sackung/sackunglaw04.rows"
    rintro xdd Hdd ⟨qdd, mdd⟩
    have n5 := qdd.ext.next
    try simp only [hNw, hPt] at n5
    have gg5 : Grow W Hdd := Grow.ret (by (try dsimp only); repeat (first | exact gg4 | apply Grow.new | (refine Grow.put ?_ _ (by first | omega | (simp only [hNw, hPt]; omega))))) qdd
    have e5 : (Hdd.get (W.next)).bind AObj.cs = some (p.c ev) := by rw [qdd.ext.get _ (by first | omega | (simp only [hNw, hPt]; omega))]; first | assumption | (rw [gn0]; rfl) | (rw [get_put_eq] <;> rfl) | (simp (disch := first | omega | (simp only [hNw, hPt]; omega)) only [gn0, gn1, gn2, gn3, gn4, gn5, gp0, gno, gpo] <;> first | rfl | assumption | (rw [get_put_eq] <;> rfl))
    have l5 : (Hdd.get (lb)).bind AObj.cs = some lcs := by rw [qdd.ext.get _ (by first | omega | (simp only [hNw, hPt]; omega))]; first | assumption | (rw [gn0]; rfl) | (rw [get_put_eq] <;> rfl) | (simp (disch := first | omega | (simp only [hNw, hPt]; omega)) only [gn0, gn1, gn2, gn3, gn4, gn5, gp0, gno, gpo] <;> first | rfl | assumption | (rw [get_put_eq] <;> rfl))
    have exHaa5 : Ext Haa Hdd := Ext.trans (by (try dsimp only); repeat (first | exact exHaa4 | exact Ext.refl _ | apply Ext.new | (refine Ext.put ?_ _ (by first | omega | (simp only [hNw, hPt]; omega))))) qdd.ext
    have exHbb5 : Ext Hbb Hdd := Ext.trans (by (try dsimp only); repeat (first | exact exHbb4 | exact Ext.refl _ | apply Ext.new | (refine Ext.put ?_ _ (by first | omega | (simp only [hNw, hPt]; omega))))) qdd.ext
    have exHcc5 : Ext Hcc Hdd := Ext.trans (by (try dsimp only); repeat (first | exact Ext.refl _ | exact Ext.refl _ | apply Ext.new | (refine Ext.put ?_ _ (by first | omega | (simp only [hNw, hPt]; omega))))) qdd.ext
    have idd := mdd.at
    have pldd : xdd.plain = true := lpl idd.len
    refine OkO.nil ⟨(sco (sld rfl rfl (lda (n := 1) (by kernel_rfl) (by first | assumption | (simp (disch := first | omega | (simp only [hNw, hPt]; omega)) only [gn0, gn1, gn2, gn3, gn4, gn5, gp0, gno, gpo] <;> first | rfl | assumption | exact gp0 _ _ _ | exact gn0 _ _)) (by first | rfl | assumption)) rfl (eqr _ (by first | rfl | exact lpl (by assumption) | (simp [AV.plain, AV.plains, AV.cells, pev, Pst.c])))) (sco (sld rfl rfl (ldg (n := 6) (by kernel_rfl) (by first | assumption | (simp (disch := first | omega | (simp only [hNw, hPt]; omega)) only [gn0, gn1, gn2, gn3, gn4, gn5, gp0, gno, gpo] <;> first | rfl | assumption | exact gp0 _ _ _ | exact gn0 _ _)) (by first | rfl | assumption)) rfl (eqr _ (by first | rfl | exact lpl (by assumption) | (simp [AV.plain, AV.plains, AV.cells, pev, Pst.c])))) rfl)), ?_⟩
    refine OkP.step ?_
    refine OkO.callE rfl rfl rfl rfl rfl (c35O m xcc xdd p rows hr ((mxL (spdL p rows hr (p.errs.length + 1))) + 1) _ (icc.ext (by (try dsimp only); repeat (first | exact exHcc5 | exact Ext.refl _ | apply Ext.new | (refine Ext.put ?_ _ (by first | omega | (simp only [hNw, hPt]; omega)))))) (idd.ext (by (try dsimp only); repeat (first | exact Ext.refl _ | exact Ext.refl _ | apply Ext.new | (refine Ext.put ?_ _ (by first | omega | (simp only [hNw, hPt]; omega)))))) (by omega) (by omega) ht4 hf hhr2 (fun j hj hc => by (have h9 := hit_span hj hc); omega)) ?_ -- "sackung/alarm.Truth"
    rintro _ Ho2 ⟨e2, rfl, qo2, he2x⟩
    have n6 := qo2.ext.next
    try simp only [hNw, hPt] at n6
    have gg6 : Grow W Ho2 := Grow.ret (by (try dsimp only); repeat (first | exact gg5 | apply Grow.new | (refine Grow.put ?_ _ (by first | omega | (simp only [hNw, hPt]; omega))))) qo2
    have e6 : (Ho2.get (W.next)).bind AObj.cs = some (p.c ev) := by rw [qo2.ext.get _ (by first | omega | (simp only [hNw, hPt]; omega))]; first | assumption | (rw [gn0]; rfl) | (rw [get_put_eq] <;> rfl) | (simp (disch := first | omega | (simp only [hNw, hPt]; omega)) only [gn0, gn1, gn2, gn3, gn4, gn5, gp0, gno, gpo] <;> first | rfl | assumption | (rw [get_put_eq] <;> rfl))
    have l6 : (Ho2.get (lb)).bind AObj.cs = some lcs := by rw [qo2.ext.get _ (by first | omega | (simp only [hNw, hPt]; omega))]; first | assumption | (rw [gn0]; rfl) | (rw [get_put_eq] <;> rfl) | (simp (disch := first | omega | (simp only [hNw, hPt]; omega)) only [gn0, gn1, gn2, gn3, gn4, gn5, gp0, gno, gpo] <;> first | rfl | assumption | (rw [get_put_eq] <;> rfl))
    have exHaa6 : Ext Haa Ho2 := Ext.trans (by (try dsimp only); repeat (first | exact exHaa5 | exact Ext.refl _ | apply Ext.new | (refine Ext.put ?_ _ (by first | omega | (simp only [hNw, hPt]; omega))))) qo2.ext
    have exHbb6 : Ext Hbb Ho2 := Ext.trans (by (try dsimp only); repeat (first | exact exHbb5 | exact Ext.refl _ | apply Ext.new | (refine Ext.put ?_ _ (by first | omega | (simp only [hNw, hPt]; omega))))) qo2.ext
    have exHcc6 : Ext Hcc Ho2 := Ext.trans (by (try dsimp only); repeat (first | exact exHcc5 | exact Ext.refl _ | apply Ext.new | (refine Ext.put ?_ _ (by first | omega | (simp only [hNw, hPt]; omega))))) qo2.ext
    have exHdd6 : Ext Hdd Ho2 := Ext.trans (by (try dsimp only); repeat (first | exact Ext.refl _ | exact Ext.refl _ | apply Ext.new | (refine Ext.put ?_ _ (by first | omega | (simp only [hNw, hPt]; omega))))) qo2.ext
    have he2 : e2 = 7 ∨ (e2 = 2 ∧ mxL (spdL p rows hr (p.errs.length + 1)) = 1000) := he2x.imp id (fun h => ⟨h.1, by omega⟩)
    refine OkO.nil ⟨(sco (sld rfl rfl (lda (n := 1) (by kernel_rfl) (by first | assumption | (simp (disch := first | omega | (simp only [hNw, hPt]; omega)) only [gn0, gn1, gn2, gn3, gn4, gn5, gp0, gno, gpo] <;> first | rfl | assumption | exact gp0 _ _ _ | exact gn0 _ _)) (by first | rfl | assumption)) rfl (eqr _ (by first | rfl | exact lpl (by assumption) | (simp [AV.plain, AV.plains, AV.cells, pev, Pst.c])))) (sco (sld rfl rfl (ldg (n := 6) (by kernel_rfl) (by first | assumption | (simp (disch := first | omega | (simp only [hNw, hPt]; omega)) only [gn0, gn1, gn2, gn3, gn4, gn5, gp0, gno, gpo] <;> first | rfl | assumption | exact gp0 _ _ _ | exact gn0 _ _)) (by first | rfl | assumption)) rfl (eqr _ (by first | rfl | exact lpl (by assumption) | (simp [AV.plain, AV.plains, AV.cells, pev, Pst.c])))) rfl)), ?_⟩
    refine OkP.step ?_
    refine OkO.move rfl rfl ?_
    refine OkO.nil ⟨rfl, ?_⟩
    refine OkP.step ?_
    refine OkO.extract rfl rfl rfl ?_
    refine OkO.nil ⟨rfl, ?_⟩
    refine OkP.step ?_
    refine OkO.extract rfl rfl rfl ?_
    refine OkO.nil ⟨rfl, ?_⟩
    refine OkP.step ?_
    refine OkO.extract rfl rfl rfl ?_
    refine OkO.nil ⟨rfl, ?_⟩
    refine OkP.step ?_
    refine OkO.assign rfl rfl ?_
    refine OkO.nil ⟨rfl, ?_⟩
    refine OkP.step ?_
    refine OkO.assign rfl rfl ?_
    refine OkO.nil ⟨rfl, ?_⟩
    refine OkP.step ?_
    refine OkO.assign rfl rfl ?_
    refine OkO.nil ⟨rfl, ?_⟩
    refine OkP.nil ?_
    refine Ok.seq ?_
    refine Ok.region ?_
    refine OkO.move rfl rfl ?_
    refine OkO.bin rfl rfl rfl (bin_eql _ _) ?_
    refine OkO.move rfl rfl ?_
    refine OkO.split (d := 180) rfl (fun g2 => ?_) (fun g2 => ?_)
    · -- true g2
      refine OkO.skip rfl ?_
      refine OkO.skip rfl ?_
      refine OkO.skip rfl ?_
      refine OkO.skip rfl ?_
      refine OkO.skip rfl ?_
      refine OkO.skip rfl ?_
      refine OkO.skip rfl ?_
      refine OkO.skip rfl ?_
      refine OkO.skip rfl ?_
      refine OkO.skip rfl ?_
      refine OkO.pick (b := true) rfl rfl (fun _ => rfl) nofun ?_
      refine OkO.move rfl rfl ?_
      refine OkO.move rfl rfl ?_
      refine OkO.bin rfl rfl rfl (bin_eql _ _) ?_
      refine OkO.move rfl rfl ?_
      refine OkO.split (d := 195) rfl (fun g3 => ?_) (fun g3 => ?_)
      · -- true g3
        refine OkO.skip rfl ?_
        refine OkO.skip rfl ?_
        refine OkO.skip rfl ?_
        refine OkO.skip rfl ?_
        refine OkO.skip rfl ?_
        refine OkO.skip rfl ?_
        refine OkO.skip rfl ?_
        refine OkO.skip rfl ?_
        refine OkO.skip rfl ?_
        refine OkO.skip rfl ?_
        refine OkO.pick (b := true) rfl rfl (fun _ => rfl) nofun ?_
        refine OkO.pick (b := true) rfl rfl (fun _ => rfl) nofun ?_
        refine OkO.move rfl rfl ?_
        refine OkO.callV rfl rfl rfl rfl rfl (rfl) ?_ -- "sackung/sackunglaw04.awake"
        refine OkO.pick (b := true) rfl rfl (fun _ => rfl) nofun ?_
        refine OkO.assign rfl rfl ?_
        refine OkO.nil ?_
        refine Ok.ret ⟨.inr rfl, ?_⟩
        exact back_flat rfl rfl rfl (by rw [← hW]; exact (by (try dsimp only); repeat (first | exact gg6 | apply Grow.new | (refine Grow.put ?_ _ (by first | omega | (simp only [hNw, hPt]; omega))))))
      · -- false g3
        refine OkO.move rfl rfl ?_
        refine OkO.bin rfl rfl rfl ((bin_eql _ _).trans (congrArg (fun b => some (AV.bool b)) (show _ = true from (by rcases he2 with h9 | ⟨h9, h8⟩ <;> first | (exfalso; rw [h9] at g3; simp at g3; done) | (exfalso; rw [h9] at g4; simp at g4; done) | (rw [h9]; rfl))))) ?_
        refine OkO.move rfl rfl ?_
        refine OkO.move rfl rfl ?_
        refine OkO.move rfl rfl ?_
        refine OkO.index (sz := 3) rfl rfl rfl (by kernel_rfl) (by first | assumption | rfl | exact slAt_slice (by omega) | exact slAt_opn (by omega)) ?_ -- index ('Go.Operand.tmp', 199) ('Go.Operand.tmp', 200)
        refine OkO.fieldAddr (o := 1) rfl (by kernel_rfl) rfl ?_
        refine OkO.load rfl rfl (lda (n := 1) (by kernel_rfl) (by first | assumption | (simp (disch := first | omega | (simp only [hNw, hPt]; omega)) only [gn0, gn1, gn2, gn3, gn4, gn5, gp0, gno, gpo] <;> first | rfl | assumption | exact gp0 _ _ _ | exact gn0 _ _)) (by first | rfl | assumption)) ?_
        refine OkO.bin rfl rfl rfl ((bin_eql _ _).trans (congrArg (fun b => some (AV.bool b)) (show _ = true from (by rcases he2 with h9 | ⟨h9, h8⟩ <;> first | (exfalso; rw [h9] at g3; simp at g3; done) | (exfalso; rw [h9] at g4; simp at g4; done) | exact decide_eq_true h8)))) ?_
        refine OkO.pick (b := true) rfl rfl (fun _ => rfl) nofun ?_
        refine OkO.pick (b := false) rfl rfl nofun (fun _ => rfl) ?_
        refine OkO.pick (b := true) rfl rfl (fun _ => rfl) nofun ?_
        refine OkO.move rfl rfl ?_
        refine OkO.callV rfl rfl rfl rfl rfl (rfl) ?_ -- "sackung/sackunglaw04.awake"
        refine OkO.pick (b := true) rfl rfl (fun _ => rfl) nofun ?_
        refine OkO.assign rfl rfl ?_
        refine OkO.nil ?_
        refine Ok.ret ⟨.inr rfl, ?_⟩
        exact back_flat rfl rfl rfl (by rw [← hW]; exact (by (try dsimp only); repeat (first | exact gg6 | apply Grow.new | (refine Grow.put ?_ _ (by first | omega | (simp only [hNw, hPt]; omega))))))
    · -- false g2
      refine OkO.move rfl rfl ?_
      refine OkO.bin rfl rfl rfl ((bin_eql _ _).trans (congrArg (fun b => some (AV.bool b)) (show _ = true from (by rcases he1 with h9 | ⟨h9, h8⟩ <;> first | (exfalso; rw [h9] at g2; simp at g2; done) | (rw [h9]; rfl))))) ?_
      refine OkO.move rfl rfl ?_
      refine OkO.move rfl rfl ?_
      refine OkO.move rfl rfl ?_
      refine OkO.index (sz := 3) rfl rfl rfl (by kernel_rfl) (by first | assumption | rfl | exact slAt_slice (by omega) | exact slAt_opn (by omega)) ?_ -- index ('Go.Operand.tmp', 184) ('Go.Operand.tmp', 185)
      refine OkO.fieldAddr (o := 0) rfl (by kernel_rfl) rfl ?_
      refine OkO.load rfl rfl (lda (n := 1) (by kernel_rfl) (by first | assumption | (simp (disch := first | omega | (simp only [hNw, hPt]; omega)) only [gn0, gn1, gn2, gn3, gn4, gn5, gp0, gno, gpo] <;> first | rfl | assumption | exact gp0 _ _ _ | exact gn0 _ _)) (by first | rfl | assumption)) ?_
      refine OkO.bin rfl rfl rfl ((bin_eql _ _).trans (congrArg (fun b => some (AV.bool b)) (show _ = true from (by rcases he1 with h9 | ⟨h9, h8⟩ <;> first | (exfalso; rw [h9] at g2; simp at g2; done) | exact decide_eq_true h8)))) ?_
      refine OkO.pick (b := true) rfl rfl (fun _ => rfl) nofun ?_
      refine OkO.pick (b := false) rfl rfl nofun (fun _ => rfl) ?_
      refine OkO.move rfl rfl ?_
      refine OkO.move rfl rfl ?_
      refine OkO.bin rfl rfl rfl (bin_eql _ _) ?_
      refine OkO.move rfl rfl ?_
      refine OkO.split (d := 195) rfl (fun g4 => ?_) (fun g4 => ?_)
      · -- true g4
        refine OkO.skip rfl ?_
        refine OkO.skip rfl ?_
        refine OkO.skip rfl ?_
        refine OkO.skip rfl ?_
        refine OkO.skip rfl ?_
        refine OkO.skip rfl ?_
        refine OkO.skip rfl ?_
        refine OkO.skip rfl ?_
        refine OkO.skip rfl ?_
        refine OkO.skip rfl ?_
        refine OkO.pick (b := true) rfl rfl (fun _ => rfl) nofun ?_
        refine OkO.pick (b := true) rfl rfl (fun _ => rfl) nofun ?_
        refine OkO.move rfl rfl ?_
        refine OkO.callV rfl rfl rfl rfl rfl (rfl) ?_ -- "sackung/sackunglaw04.awake"
        refine OkO.pick (b := true) rfl rfl (fun _ => rfl) nofun ?_
        refine OkO.assign rfl rfl ?_
        refine OkO.nil ?_
        refine Ok.ret ⟨.inr rfl, ?_⟩
        exact back_flat rfl rfl rfl (by rw [← hW]; exact (by (try dsimp only); repeat (first | exact gg6 | apply Grow.new | (refine Grow.put ?_ _ (by first | omega | (simp only [hNw, hPt]; omega))))))
      · -- false g4
        refine OkO.move rfl rfl ?_
        refine OkO.bin rfl rfl rfl ((bin_eql _ _).trans (congrArg (fun b => some (AV.bool b)) (show _ = true from (by rcases he2 with h9 | ⟨h9, h8⟩ <;> first | (exfalso; rw [h9] at g3; simp at g3; done) | (exfalso; rw [h9] at g4; simp at g4; done) | (rw [h9]; rfl))))) ?_
        refine OkO.move rfl rfl ?_
        refine OkO.move rfl rfl ?_
        refine OkO.move rfl rfl ?_
        refine OkO.index (sz := 3) rfl rfl rfl (by kernel_rfl) (by first | assumption | rfl | exact slAt_slice (by omega) | exact slAt_opn (by omega)) ?_ -- index ('Go.Operand.tmp', 199) ('Go.Operand.tmp', 200)
        refine OkO.fieldAddr (o := 1) rfl (by kernel_rfl) rfl ?_
        refine OkO.load rfl rfl (lda (n := 1) (by kernel_rfl) (by first | assumption | (simp (disch := first | omega | (simp only [hNw, hPt]; omega)) only [gn0, gn1, gn2, gn3, gn4, gn5, gp0, gno, gpo] <;> first | rfl | assumption | exact gp0 _ _ _ | exact gn0 _ _)) (by first | rfl | assumption)) ?_
        refine OkO.bin rfl rfl rfl ((bin_eql _ _).trans (congrArg (fun b => some (AV.bool b)) (show _ = true from (by rcases he2 with h9 | ⟨h9, h8⟩ <;> first | (exfalso; rw [h9] at g3; simp at g3; done) | (exfalso; rw [h9] at g4; simp at g4; done) | exact decide_eq_true h8)))) ?_
        refine OkO.pick (b := true) rfl rfl (fun _ => rfl) nofun ?_
        refine OkO.pick (b := false) rfl rfl nofun (fun _ => rfl) ?_
        refine OkO.pick (b := true) rfl rfl (fun _ => rfl) nofun ?_
        refine OkO.move rfl rfl ?_
        refine OkO.callV rfl rfl rfl rfl rfl (rfl) ?_ -- "sackung/sackunglaw04.awake"
        refine OkO.pick (b := true) rfl rfl (fun _ => rfl) nofun ?_
        refine OkO.assign rfl rfl ?_
        refine OkO.nil ?_
        refine Ok.ret ⟨.inr rfl, ?_⟩
        exact back_flat rfl rfl rfl (by rw [← hW]; exact (by (try dsimp only); repeat (first | exact gg6 | apply Grow.new | (refine Grow.put ?_ _ (by first | omega | (simp only [hNw, hPt]; omega))))))
theorem c12T (m : Nat) (ev rv : AV) (p : Pst) (rows : List (List Int)) (av : Int) (H : Heap) (hV : Ints H ev p.errs) (hRs : LstAt H rv rows) (hrv : (∃ b off len cap, rv = .slice b off len cap ∧ len ≤ cap) ∨ rv = .nils ∨ ∃ a c, rv = .raw (.slice a 0 c)) (hav : 0 ≤ av ∧ av ≤ 255) : RR (m + 81) (.fn 12 [.agg (p.c ev), rv, .int .u8 av]) H = some (.bool true, H) := by
  cases hrd : (thinB p rows && decide (faultE p rows = 0)) with
  | false => exact c12W m ev rv p rows av H hV hRs hav hrd
  | true =>
    by_cases hnil : rows.length = 0
    · exact c12E m ev rv p rows av H hV hRs hav hrd hnil
    · cases hp : possB p rows rows.length with
      | false => exact c12N m ev rv p rows av H hV hRs hav hrd (by omega) hp
      | true =>
        have h1 := Int.emod_nonneg av (b := (rows.length : Int)) (by omega)
        have h2 := Int.emod_lt_of_pos av (b := (rows.length : Int)) (by omega)
        exact c12Y m ev rv p rows av (av % (rows.length : Int)).toNat H hV hRs hav hrv hrd (by omega) (Int.toNat_of_nonneg h1) hp
end
end Go.Ev

