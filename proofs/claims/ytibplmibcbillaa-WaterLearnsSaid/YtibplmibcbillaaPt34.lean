/-
  Functions of the program, reckoned by the evaluator: what each answers, and that it leaves what came in as it was.
-/
import Derived.Test.YtibplmibcbillaaPt33
set_option maxRecDepth 100000
set_option linter.unusedSimpArgs false
set_option linter.unusedVariables false
namespace Go.EvN
open Go Go.Proofs Go.Ev
noncomputable section
theorem c95 (m : Nat) (cv dv lv rv : AV) (cs : List Cell) (g : Gr) (ds : List Day) (rs : List Rd) (s : Int) (b1 b2 mb : Nat) (o : AObj) (H : Heap) (hR : Row H cv 7 (cs.map Cell.c)) (hD : Row H dv 3 (ds.map Day.c)) (hL : Ints H lv (lowL cs)) (hA : Ints H rv (lowR ds)) (hd0 : daysErr cs g ds = 0) (hs : g.klo ≤ s ∧ s ≤ g.khi) (hm : H.get mb = some o) (hmb : mb < H.next) (ho : MapO o encW (mapV (wf rs))) (hbig : rs.length ≤ 1000) (hrs : ∀ x ∈ rs, x.ok cs ds = true) (h1 : (H.get b1).bind AObj.cs = some [.map mb]) (h2 : (H.get b2).bind AObj.cs = some [.fn 94 [.agg [cv, I g.slo, I g.shi, I g.klo, I g.khi, I g.melt, dv, I g.slo, I g.klo, lv, rv]] []]) (l1 : b1 < H.next) (l2 : b2 < H.next) : FnN Try.prog (RR (m + 16)) 95 [I s, .ptr b1 0, .ptr b2 0] H fun v H' => v = .bool (!belowB cs g ds rs s) ∧ H' = H := by
  refine fn_okE Try.func95 rfl rfl (by kernel_rfl) (by kernel_rfl) ?_
  obtain ⟨W, hW, hg, hN, hE, hG⟩ := wOf H
  rw [← hW]
  have hlc : lenOf cv = some cs.length := by simpa using hR.len
  have pc := lpl hlc
  have hld : lenOf dv = some ds.length := by simpa using hD.len
  have pd := lpl hld
  have plv := lpl hL.len
  have prv := lpl hA.len
  have hF := fit_soak hd0 hs
  have hFn : cs.length ≤ 8 := hF.n8.2
  have b1W : (W.get b1).bind AObj.cs = some [.map mb] := by rw [hg]; exact h1
  have b2W : (W.get b2).bind AObj.cs = some [.fn 94 [.agg [cv, I g.slo, I g.shi, I g.klo, I g.khi, I g.melt, dv, I g.slo, I g.klo, lv, rv]] []] := by rw [hg]; exact h2
  refine kS ?_; refine kR ?_; refine oA rfl rfl ?_; refine oN ?_; refine kS ?_; refine Ok.drawn [(0, true, []), (1, true, []), (2, true, []), (3, false, [0]), (4, false, [1]), (5, true, []), (6, true, []), (7, true, []), (8, true, []), (9, true, [])] (by kernel_rfl) ?_; refine pS ?_; refine oL rfl rfl (qla3 1) ?_; refine oN ⟨rfl, ?_⟩; refine pS ?_; refine oL rfl rfl (qla3 1) ?_; refine oN ⟨rfl, ?_⟩; refine pS ?_; refine oM rfl rfl ?_; refine oN ⟨rfl, ?_⟩; refine pS ?_; refine oE rfl rfl rfl rfl rfl (c94 (m + 10) cv dv lv rv cs g ds ⟨g.slo, g.klo⟩ s (lowL cs) (lowR ds) _ (hR.ext (hE _ (by (try dsimp only); repeat (first | exact hG | apply Grow.new | (refine Grow.put ?_ _ (by first | omega | (simp only [hNw, hPt]; omega))))))) (hD.ext (hE _ (by (try dsimp only); repeat (first | exact hG | apply Grow.new | (refine Grow.put ?_ _ (by first | omega | (simp only [hNw, hPt]; omega))))))) (hL.ext (hE _ (by (try dsimp only); repeat (first | exact hG | apply Grow.new | (refine Grow.put ?_ _ (by first | omega | (simp only [hNw, hPt]; omega))))))) (hA.ext (hE _ (by (try dsimp only); repeat (first | exact hG | apply Grow.new | (refine Grow.put ?_ _ (by first | omega | (simp only [hNw, hPt]; omega))))))) hF) ?_
  rintro vE HE9 ⟨qE, rE⟩
  have gE : Grow W HE9 := Grow.ret (by (try dsimp only); repeat (first | exact hG | apply Grow.new | (refine Grow.put ?_ _ (by first | omega | (simp only [hNw, hPt]; omega))))) qE
  have pvE := lpl rE.len
  have mE : HE9.get mb = some o := by rw [(hE _ gE).get _ hmb]; exact hm
  have b1E : (HE9.get b1).bind AObj.cs = some [.map mb] := by rw [(hE _ gE).get _ l1]; exact h1
  have b2E : (HE9.get b2).bind AObj.cs = some [.fn 94 [.agg [cv, I g.slo, I g.shi, I g.klo, I g.khi, I g.melt, dv, I g.slo, I g.klo, lv, rv]] []] := by rw [(hE _ gE).get _ l2]; exact h2
  refine oN ⟨(sco (qsa5 1 rfl rfl rfl) rfl), ?_⟩; refine pS ?_; refine OkO.callN rfl rfl rfl rfl rfl (c96 (m + 16) vE ds.length mb (fun i => levP cs g ds ⟨g.slo, s⟩ (lowL cs) (lowR ds) (i + 1)) (fun i => leftD cs g ds ⟨g.slo, s⟩ (lowL cs) (lowR ds) i) (fun i => snowP g.melt ds (lowR ds) g.slo (i + 1)) rs o _ mE (Nat.lt_of_lt_of_le hmb (hE _ gE).next) ho hbig rE (fun i hi => (lev_facts hF (i + 1) (by omega)).1) (fun x hx => rd_in (hrs x hx) hFn)) ?_
  rintro v96 H96 ⟨rfl, rfl⟩
  refine oN ⟨(sco (qsa5 1 rfl rfl rfl) rfl), ?_⟩; refine pS ?_; refine oM rfl rfl ?_; refine oN ⟨rfl, ?_⟩; refine pS ?_; refine OkO.extract rfl rfl rfl ?_; refine oN ⟨rfl, ?_⟩; refine pS ?_; refine OkO.extract rfl rfl rfl ?_; refine oN ⟨rfl, ?_⟩; refine pS ?_; refine oA rfl rfl ?_; refine oN ⟨rfl, ?_⟩; refine pS ?_; refine oA rfl rfl ?_; refine oN ⟨rfl, ?_⟩; refine OkP.nil ?_; refine kS ?_; refine kR ?_; refine oM rfl rfl ?_; refine OkO.un rfl rfl rfl ?_; refine oA rfl rfl ?_; refine oN ?_
  refine Ok.ret ⟨.inr rfl, ?_⟩
  exact ⟨_, _, back_flat rfl rfl rfl (by rw [← hW]; exact gE), rfl, rfl⟩
theorem c97 (m : Nat) (cv dv lv rv : AV) (cs : List Cell) (g : Gr) (ds : List Day) (rs : List Rd) (s : Int) (b1 b2 mb : Nat) (o : AObj) (H : Heap) (hR : Row H cv 7 (cs.map Cell.c)) (hD : Row H dv 3 (ds.map Day.c)) (hL : Ints H lv (lowL cs)) (hA : Ints H rv (lowR ds)) (hd0 : daysErr cs g ds = 0) (hs : g.klo ≤ s ∧ s ≤ g.khi) (hm : H.get mb = some o) (hmb : mb < H.next) (ho : MapO o encW (mapV (wf rs))) (hbig : rs.length ≤ 1000) (hrs : ∀ x ∈ rs, x.ok cs ds = true) (h1 : (H.get b1).bind AObj.cs = some [.map mb]) (h2 : (H.get b2).bind AObj.cs = some [.fn 94 [.agg [cv, I g.slo, I g.shi, I g.klo, I g.khi, I g.melt, dv, I g.slo, I g.klo, lv, rv]] []]) (l1 : b1 < H.next) (l2 : b2 < H.next) : FnN Try.prog (RR (m + 16)) 97 [I s, .ptr b1 0, .ptr b2 0] H fun v H' => v = .bool (aboveB cs g ds rs s) ∧ H' = H := by
  refine fn_okE Try.func97 rfl rfl (by kernel_rfl) (by kernel_rfl) ?_
  obtain ⟨W, hW, hg, hN, hE, hG⟩ := wOf H
  rw [← hW]
  have hlc : lenOf cv = some cs.length := by simpa using hR.len
  have pc := lpl hlc
  have hld : lenOf dv = some ds.length := by simpa using hD.len
  have pd := lpl hld
  have plv := lpl hL.len
  have prv := lpl hA.len
  have hF := fit_soak hd0 hs
  have hFn : cs.length ≤ 8 := hF.n8.2
  have b1W : (W.get b1).bind AObj.cs = some [.map mb] := by rw [hg]; exact h1
  have b2W : (W.get b2).bind AObj.cs = some [.fn 94 [.agg [cv, I g.slo, I g.shi, I g.klo, I g.khi, I g.melt, dv, I g.slo, I g.klo, lv, rv]] []] := by rw [hg]; exact h2
  refine kS ?_; refine kR ?_; refine oA rfl rfl ?_; refine oN ?_; refine kS ?_; refine Ok.drawn [(0, true, []), (1, true, []), (2, true, []), (3, false, [0]), (4, false, [1]), (5, true, []), (6, true, []), (7, true, []), (8, true, []), (9, true, [])] (by kernel_rfl) ?_; refine pS ?_; refine oL rfl rfl (qla3 1) ?_; refine oN ⟨rfl, ?_⟩; refine pS ?_; refine oL rfl rfl (qla3 1) ?_; refine oN ⟨rfl, ?_⟩; refine pS ?_; refine oM rfl rfl ?_; refine oN ⟨rfl, ?_⟩; refine pS ?_; refine oE rfl rfl rfl rfl rfl (c94 (m + 10) cv dv lv rv cs g ds ⟨g.slo, g.klo⟩ s (lowL cs) (lowR ds) _ (hR.ext (hE _ (by (try dsimp only); repeat (first | exact hG | apply Grow.new | (refine Grow.put ?_ _ (by first | omega | (simp only [hNw, hPt]; omega))))))) (hD.ext (hE _ (by (try dsimp only); repeat (first | exact hG | apply Grow.new | (refine Grow.put ?_ _ (by first | omega | (simp only [hNw, hPt]; omega))))))) (hL.ext (hE _ (by (try dsimp only); repeat (first | exact hG | apply Grow.new | (refine Grow.put ?_ _ (by first | omega | (simp only [hNw, hPt]; omega))))))) (hA.ext (hE _ (by (try dsimp only); repeat (first | exact hG | apply Grow.new | (refine Grow.put ?_ _ (by first | omega | (simp only [hNw, hPt]; omega))))))) hF) ?_
  rintro vE HE9 ⟨qE, rE⟩
  have gE : Grow W HE9 := Grow.ret (by (try dsimp only); repeat (first | exact hG | apply Grow.new | (refine Grow.put ?_ _ (by first | omega | (simp only [hNw, hPt]; omega))))) qE
  have pvE := lpl rE.len
  have mE : HE9.get mb = some o := by rw [(hE _ gE).get _ hmb]; exact hm
  have b1E : (HE9.get b1).bind AObj.cs = some [.map mb] := by rw [(hE _ gE).get _ l1]; exact h1
  have b2E : (HE9.get b2).bind AObj.cs = some [.fn 94 [.agg [cv, I g.slo, I g.shi, I g.klo, I g.khi, I g.melt, dv, I g.slo, I g.klo, lv, rv]] []] := by rw [(hE _ gE).get _ l2]; exact h2
  refine oN ⟨(sco (qsa5 1 rfl rfl rfl) rfl), ?_⟩; refine pS ?_; refine OkO.callN rfl rfl rfl rfl rfl (c96 (m + 16) vE ds.length mb (fun i => levP cs g ds ⟨g.slo, s⟩ (lowL cs) (lowR ds) (i + 1)) (fun i => leftD cs g ds ⟨g.slo, s⟩ (lowL cs) (lowR ds) i) (fun i => snowP g.melt ds (lowR ds) g.slo (i + 1)) rs o _ mE (Nat.lt_of_lt_of_le hmb (hE _ gE).next) ho hbig rE (fun i hi => (lev_facts hF (i + 1) (by omega)).1) (fun x hx => rd_in (hrs x hx) hFn)) ?_
  rintro v96 H96 ⟨rfl, rfl⟩
  refine oN ⟨(sco (qsa5 1 rfl rfl rfl) rfl), ?_⟩; refine pS ?_; refine oM rfl rfl ?_; refine oN ⟨rfl, ?_⟩; refine pS ?_; refine OkO.extract rfl rfl rfl ?_; refine oN ⟨rfl, ?_⟩; refine pS ?_; refine OkO.extract rfl rfl rfl ?_; refine oN ⟨rfl, ?_⟩; refine pS ?_; refine oA rfl rfl ?_; refine oN ⟨rfl, ?_⟩; refine pS ?_; refine oA rfl rfl ?_; refine oN ⟨rfl, ?_⟩; refine OkP.nil ?_; refine kS ?_; refine kR ?_; refine oM rfl rfl ?_; refine oA rfl rfl ?_; refine oN ?_
  refine Ok.ret ⟨.inr rfl, ?_⟩
  exact ⟨_, _, back_flat rfl rfl rfl (by rw [← hW]; exact gE), rfl, rfl⟩
end
end Go.EvN

set_option maxRecDepth 100000
set_option linter.unusedSimpArgs false
set_option linter.unusedVariables false
namespace Go.EvN
open Go Go.Proofs Go.Ev
noncomputable section
theorem c98 (m : Nat) (n : Nat) (b1 b2 : Nat) (Pd : Nat → Bool) (H : Heap) (hn : n ≤ 1000000) (hcall : ∀ i : Nat, i < n → ∀ G, Ext H G → FnN Try.prog (RR m) 99 [I (i : Int), .ptr b1 0, .ptr b2 0] G fun v H' => v = .bool (Pd i) ∧ H' = G) : FnN Try.prog (RR m) 98 [I (n : Int), .fn 99 [] [.ptr b1 0, .ptr b2 0]] H fun v H' => ∃ r : Nat, v = I (r : Int) ∧ H' = H ∧ r ≤ n ∧ (r = 0 ∨ Pd (r - 1) = false) ∧ (r = n ∨ Pd r = true) := by
  refine fn_okE Try.func98 rfl rfl (by kernel_rfl) (by kernel_rfl) ?_
  obtain ⟨W, hW, hg, hN, hE, hG⟩ := wOf H
  rw [← hW]
  refine kS ?_; refine kR ?_; refine oA rfl rfl ?_; refine oN ?_; refine kS ?_; refine kR ?_; refine oM rfl rfl ?_; refine oA rfl rfl ?_; refine oA rfl rfl ?_; refine oN ?_; refine kS ?_; refine Ok.block ?_
  refine Ok.loop (fun n9 s_ => ∃ lo hi : Nat, n9 = hi - lo ∧ lo ≤ hi ∧ hi ≤ n ∧ (lo = 0 ∨ Pd (lo - 1) = false) ∧ (hi = n ∨ Pd hi = true) ∧ Has 5 [(1, .fn 99 [] [.ptr b1 0, .ptr b2 0]), (5, I (lo : Int)), (6, I (hi : Int))] s_.T ∧ s_.D = [] ∧ Grow W s_.H) (n) (by unfold loopFuel; omega)
    ⟨0, n, rfl, Nat.zero_le _, Nat.le_refl _, .inl rfl, .inl rfl, Has.of (by kernel_rfl), rfl, hG⟩ ?_
  rintro n9 ⟨T, D, G⟩ ⟨lo, hi, hn9, hlh, hhn, hlo, hhi, ⟨f, hT⟩, hD, hg⟩
  dsimp only at *
  subst hT hD
  have hgn := hg.next
  refine kS ?_; refine kS ?_; refine kR ?_; refine oM rfl rfl ?_; refine oM rfl rfl ?_; refine OkO.bin rfl rfl rfl (bin_lss _ _) ?_; refine oN ?_
  refine Ok.cond rfl (fun h1 => ?_) (fun h1 => ?_)
  · have hlt : lo < hi := by simpa using h1
    have hmid : ((lo + hi) / 2) < n := by omega
    refine Ok.skip ?_; refine Ok.block ?_; refine kS ?_; refine kR ?_; refine oM rfl rfl ?_; refine oM rfl rfl ?_; refine OkO.bin rfl rfl rfl (bin_add (by omega) (by omega)) ?_; refine OkO.convert (k := .u64) rfl (by kernel_rfl) rfl (by first | exact wrapF_u64 (by omega) (by omega) | exact wrapF_i64 (by omega) (by omega)) ?_; refine OkO.bin rfl rfl rfl (bin_shr1 (lo + hi)) ?_; refine OkO.convert (k := .i64) rfl (by kernel_rfl) rfl (by first | exact wrapF_u64 (by omega) (by omega) | exact wrapF_i64 (by omega) (by omega)) ?_; refine oA rfl rfl ?_; refine oN ?_; refine kS ?_; refine kR ?_; refine oM rfl rfl ?_; refine oM rfl rfl ?_; refine OkO.callN rfl rfl rfl rfl rfl (hcall ((lo + hi) / 2) hmid _ (hE _ hg)) ?_
    rintro v20 H20 ⟨rfl, rfl⟩
    refine OkO.un rfl rfl rfl ?_; refine oN ?_
    refine Ok.cond rfl (fun h2 => ?_) (fun h2 => ?_)
    · have hpf : Pd (((lo + hi) / 2) + 1 - 1) = false := by simpa using h2
      refine kR ?_; refine oM rfl rfl ?_; refine OkO.bin rfl rfl rfl (bin_add (by omega) (by omega)) ?_; refine oA rfl rfl ?_; refine oN ?_
      first | exact ⟨hi - (((lo + hi) / 2) + 1), by omega, ((lo + hi) / 2) + 1, hi, rfl, by omega, hhn, .inr hpf, hhi, Has.of (by kernel_rfl), rfl, hg⟩ | exact ⟨((lo + hi) / 2) - lo, by omega, lo, ((lo + hi) / 2), rfl, by omega, by omega, hlo, .inr hpt, Has.of (by kernel_rfl), rfl, hg⟩
    · have hpt : Pd ((lo + hi) / 2) = true := by simpa using h2
      refine kR ?_; refine oM rfl rfl ?_; refine oA rfl rfl ?_; refine oN ?_
      first | exact ⟨hi - (((lo + hi) / 2) + 1), by omega, ((lo + hi) / 2) + 1, hi, rfl, by omega, hhn, .inr hpf, hhi, Has.of (by kernel_rfl), rfl, hg⟩ | exact ⟨((lo + hi) / 2) - lo, by omega, lo, ((lo + hi) / 2), rfl, by omega, by omega, hlo, .inr hpt, Has.of (by kernel_rfl), rfl, hg⟩
  · have hge : lo = hi := by simp at h1; omega
    subst hge
    refine Ok.exit ?_; refine kS ?_; refine kR ?_; refine oM rfl rfl ?_; refine oA rfl rfl ?_; refine oN ?_
    refine Ok.ret ⟨.inr rfl, ?_⟩
    exact ⟨_, _, back_flat rfl rfl rfl (by rw [← hW]; exact hg), lo, rfl, rfl, hhn, hlo, hhi⟩
theorem c99 (m : Nat) (fF : FuncId) (i lo hi : Int) (b1 b2 c1 c2 : Nat) (bv : Bool) (H : Heap) (h1 : (H.get b1).bind AObj.cs = some [.fn fF [] [.ptr c1 0, .ptr c2 0]]) (h2 : (H.get b2).bind AObj.cs = some [I lo, I hi]) (hlo : 0 ≤ lo ∧ lo ≤ 1000000) (hi9 : 0 ≤ i ∧ i ≤ 1000000) (hcall : ∀ G, Ext H G → FnN Try.prog (RR m) fF [I (lo + i), .ptr c1 0, .ptr c2 0] G fun v H' => v = .bool bv ∧ H' = G) : FnN Try.prog (RR m) 99 [I i, .ptr b1 0, .ptr b2 0] H fun v H' => v = .bool bv ∧ H' = H := by
  refine fn_okE Try.func99 rfl rfl (by kernel_rfl) (by kernel_rfl) ?_
  obtain ⟨W, hW, hg, hN, hE, hG⟩ := wOf H
  rw [← hW]
  have w1 : (W.get b1).bind AObj.cs = some [.fn fF [] [.ptr c1 0, .ptr c2 0]] := by rw [hg]; exact h1
  have w2 : (W.get b2).bind AObj.cs = some [I lo, I hi] := by rw [hg]; exact h2
  refine kS ?_; refine kR ?_; refine oA rfl rfl ?_; refine oN ?_; refine kS ?_; refine kR ?_; refine oL rfl rfl (qla3 1) ?_; refine oF (o := 0) rfl (by kernel_rfl) rfl ?_; refine oL rfl rfl (qla3 1) ?_; refine oM rfl rfl ?_; refine OkO.bin rfl rfl rfl (bin_add (by omega) (by omega)) ?_; refine OkO.callN rfl rfl rfl rfl rfl (hcall _ (hE _ hG)) ?_
  rintro v9 H9 ⟨rfl, rfl⟩
  refine oA rfl rfl ?_; refine oN ?_
  refine Ok.ret ⟨.inr rfl, ?_⟩
  exact ⟨_, _, back_flat rfl rfl rfl (by rw [← hW]; first | exact hG | exact (by (try dsimp only); repeat (first | exact hG | apply Grow.new | (refine Grow.put ?_ _ (by first | omega | (simp only [hNw, hPt]; omega)))))), rfl, rfl⟩
theorem c67 (m : Nat) (fF : FuncId) (lo hi9 : Int) (n c1 c2 : Nat) (Pd : Nat → Bool) (H : Heap) (hlo : 0 ≤ lo ∧ lo ≤ 1000000) (hn9 : hi9 = lo + (n : Int) - 1) (hn6 : n ≤ 1000000) (hcall : ∀ i : Nat, i < n → ∀ G, Ext H G → FnN Try.prog (RR m) fF [I (lo + (i : Int)), .ptr c1 0, .ptr c2 0] G fun v H' => v = .bool (Pd i) ∧ H' = G) : FnN Try.prog (RR m) 67 [.agg [I lo, I hi9], .fn fF [] [.ptr c1 0, .ptr c2 0]] H fun v H' => ∃ r : Nat, v = I (lo + (r : Int)) ∧ H' = H ∧ r ≤ n ∧ (r = 0 ∨ Pd (r - 1) = false) ∧ (r = n ∨ Pd r = true) := by
  refine fn_okE Try.func67 rfl rfl (by kernel_rfl) (by kernel_rfl) ?_
  obtain ⟨W, hW, hg, hN, hE, hG⟩ := wOf H
  rw [← hW]
  have hcount : hi9 - lo + 1 = ((n : Nat) : Int) := by omega
  have hXX : ∀ G, Ext ((W.new (.cells [I lo, I hi9] 36)).new (.cells [.fn fF [] [.ptr c1 0, .ptr c2 0]] 135)) G → Ext H G := fun G g => (hE _ ((hG.new _).new _)).trans g
  refine kS ?_; refine kR ?_; refine OkO.box rfl rfl ?_; refine OkO.box rfl rfl ?_; refine oA rfl rfl ?_; refine oN ?_; refine kS ?_; refine Ok.drawn [(0, true, []), (1, true, []), (2, true, []), (3, true, []), (4, true, []), (5, true, []), (6, true, []), (7, true, []), (8, true, []), (9, false, [5, 3, 1]), (10, true, []), (11, true, [])] (by kernel_rfl) ?_; refine pS ?_; refine oF (o := 0) rfl (by kernel_rfl) rfl ?_; refine oN ⟨rfl, ?_⟩; refine pS ?_; refine oL rfl rfl (qla3 1) ?_; refine oN ⟨rfl, ?_⟩; refine pS ?_; refine oF (o := 1) rfl (by kernel_rfl) rfl ?_; refine oN ⟨rfl, ?_⟩; refine pS ?_; refine oL rfl rfl (qla3 1) ?_; refine oN ⟨rfl, ?_⟩; refine pS ?_; refine oF (o := 0) rfl (by kernel_rfl) rfl ?_; refine oN ⟨rfl, ?_⟩; refine pS ?_; refine oL rfl rfl (qla3 1) ?_; refine oN ⟨rfl, ?_⟩; refine pS ?_; refine OkO.bin rfl rfl rfl (bin_sub (by omega) (by omega)) ?_; refine oN ⟨rfl, ?_⟩; refine pS ?_; refine OkO.bin rfl rfl rfl (bin_add (by omega) (by omega)) ?_; refine oN ⟨rfl, ?_⟩; refine pS ?_; refine OkO.makeFunc rfl rfl rfl ?_; refine oN ⟨rfl, ?_⟩; refine pS ?_; refine OkO.callN rfl rfl rfl rfl rfl ((by rw [hcount]; exact c98 m n (W.next + 1) W.next Pd _ hn6 (fun i hi G hG9 => c99 m fF (i : Int) lo hi9 (W.next + 1) W.next c1 c2 _ G (by rw [hG9.get _ (by simp only [hNw]; omega)]; first | (rw [gn0]; rfl) | (simp (disch := first | omega | (simp only [hNw, hPt]; omega)) only [gN] <;> first | rfl | assumption)) (by rw [hG9.get _ (by simp only [hNw]; omega)]; first | (rw [gn1]; rfl) | (simp (disch := first | omega | (simp only [hNw, hPt]; omega)) only [gN] <;> first | rfl | assumption)) hlo (by omega) (fun G3 hG3 => hcall i hi G3 ((hXX G hG9).trans hG3))))) ?_
  rintro v98 H98 ⟨r, rfl, rfl, r1, r2, r3⟩
  refine oN ⟨(sco (qsa0 1 rfl rfl rfl) (sco (qsa0 1 rfl rfl rfl) (sco (qsa0 1 rfl rfl rfl) rfl))), ?_⟩; refine pS ?_; refine OkO.bin rfl rfl rfl (bin_add (by omega) (by omega)) ?_; refine oN ⟨rfl, ?_⟩; refine pS ?_; refine oA rfl rfl ?_; refine oN ⟨rfl, ?_⟩; refine OkP.nil ?_
  refine Ok.ret ⟨.inr rfl, ?_⟩
  exact ⟨_, _, back_flat rfl rfl rfl (by rw [← hW]; exact (by (try dsimp only); repeat (first | exact hG | apply Grow.new | (refine Grow.put ?_ _ (by first | omega | (simp only [hNw, hPt]; omega)))))), r, rfl, rfl, r1, r2, r3⟩
end
end Go.EvN

set_option maxRecDepth 100000
set_option linter.unusedSimpArgs false
set_option linter.unusedVariables false
namespace Go.Ev
open Go Go.Proofs
noncomputable section
theorem c64 (m : Nat) (cv dv rv : AV) (cs : List Cell) (g : Gr) (ds : List Day) (rs : List Rd) (H : Heap) (hR : Row H cv 7 (cs.map Cell.c)) (hbig : cs.length ≤ 1000) (hY : Row H dv 3 (ds.map Day.c)) (hbd : ds.length ≤ 1000) (hZ : Row H rv 4 (rs.map Rd.c)) (hbr : rs.length ≤ 1000) : RR (m + 11) (.fn 64 [.agg [cv, I g.slo, I g.shi, I g.klo, I g.khi, I g.melt], dv, rv]) H = some (I (readErr cs g ds rs), H) := by
  refine (R_fn _ _ _ _ _).trans ?_; refine fn_ok Try.func64 rfl rfl (by kernel_rfl) (by kernel_rfl) ?_
  obtain ⟨W, hW, hg, hN, hE, hG⟩ := wOf H
  rw [← hW]
  have hlc : lenOf cv = some cs.length := by simpa using hR.len
  have hld : lenOf dv = some ds.length := by simpa using hY.len
  have hlr : lenOf rv = some rs.length := by simpa using hZ.len
  have pc := lpl hlc
  have pd := lpl hld
  have hdc : dv.cells = [dv] := (len_one hld).1
  have hdc0 : dv.cells[0]? = some dv := by rw [hdc]; rfl
  refine kS ?_; refine kR ?_; refine OkO.box rfl rfl ?_; refine OkO.box rfl rfl ?_; refine oA rfl rfl ?_; refine oN ?_; refine kS ?_; refine kS ?_; refine kR ?_; refine oL rfl rfl (qlg4 6) ?_; refine oL rfl rfl (qla3 1) ?_; refine oV rfl rfl rfl rfl rfl (c60 (m + 4) cv dv cs g ds _ (hR.ext (hE _ (by (try dsimp only); repeat (first | exact hG | apply Grow.new | (refine Grow.put ?_ _ (by first | omega | (simp only [hNw, hPt]; omega))))))) (by omega) (hY.ext (hE _ (by (try dsimp only); repeat (first | exact hG | apply Grow.new | (refine Grow.put ?_ _ (by first | omega | (simp only [hNw, hPt]; omega))))))) (by omega)) ?_; refine oA rfl rfl ?_; refine oN ?_; refine kS ?_; refine kR ?_; refine oM rfl rfl ?_; refine OkO.bin rfl rfl rfl (bin_neq _ _) ?_; refine oN ?_
  refine Ok.cond rfl (fun h1 => ?_) (fun h1 => ?_)
  · have hde : ¬daysErr cs g ds = 0 := by simpa using h1
    refine kS ?_; refine kR ?_; refine oM rfl rfl ?_; refine oA rfl rfl ?_; refine oN ?_
    refine Ok.ret ⟨.inr rfl, ?_⟩
    exact back_flat rfl (by unfold readErr; rw [if_neg hde]; rfl) rfl (by rw [← hW]; exact (by (try dsimp only); repeat (first | exact hG | apply Grow.new | (refine Grow.put ?_ _ (by first | omega | (simp only [hNw, hPt]; omega))))))
  · have hde : daysErr cs g ds = 0 := by simpa using h1
    refine Ok.skip ?_; refine kS ?_; refine kS ?_; refine kR ?_; refine oM rfl rfl ?_; refine oB rfl rfl rfl qbl ?_; refine OkO.bin rfl rfl rfl (bin_gtr _ _) ?_; refine oN ?_
    refine Ok.cond rfl (fun h2 => ?_) (fun h2 => ?_)
    · have h30 : (30 : Int) < (rs.length : Int) := by simpa using h2
      refine kS ?_; refine kR ?_; refine oA rfl rfl ?_; refine oN ?_
      refine Ok.ret ⟨.inr rfl, ?_⟩
      exact back_flat rfl (by unfold readErr learnErr; rw [if_pos hde, if_pos h30]; rfl) rfl (by rw [← hW]; exact (by (try dsimp only); repeat (first | exact hG | apply Grow.new | (refine Grow.put ?_ _ (by first | omega | (simp only [hNw, hPt]; omega))))))
    · have h30 : ¬(30 : Int) < (rs.length : Int) := by simpa using h2
      refine Ok.skip ?_; refine kS ?_; refine kR ?_; refine OkO.makeFunc rfl rfl rfl ?_; refine oA rfl rfl ?_; refine oN ?_; refine kS ?_; refine kS ?_; refine kR ?_; refine oM rfl rfl ?_; refine oM rfl rfl ?_; refine oV rfl rfl rfl rfl rfl (c90 (m + 6) rv rs cv dv cs g ds W.next (W.next + 1) _ (hZ.ext (hE _ (by (try dsimp only); repeat (first | exact hG | apply Grow.new | (refine Grow.put ?_ _ (by first | omega | (simp only [hNw, hPt]; omega))))))) (by omega) (by first | (rw [gn0]; rfl) | (rw [gn0]; exact congrArg some hdc) | (simp (disch := first | omega | (simp only [hNw, hPt]; omega)) only [gN] <;> first | rfl | assumption | exact congrArg some hdc)) (by first | (rw [gn0]; rfl) | (rw [gn0]; exact congrArg some hdc) | (simp (disch := first | omega | (simp only [hNw, hPt]; omega)) only [gN] <;> first | rfl | assumption | exact congrArg some hdc)) (by simp only [hNw]; omega) (by simp only [hNw]; omega) hlc hld (by omega) (by omega)) ?_; refine OkO.un rfl rfl rfl ?_; refine oN ?_
      refine Ok.cond rfl (fun h3 => ?_) (fun h3 => ?_)
      · have hal : (rs.all fun x => x.ok cs ds) = false := by simpa using h3
        refine kS ?_; refine kR ?_; refine oA rfl rfl ?_; refine oN ?_
        refine Ok.ret ⟨.inr rfl, ?_⟩
        exact back_flat rfl (by unfold readErr learnErr; rw [if_pos hde, if_neg h30, hal]; rfl) rfl (by rw [← hW]; exact (by (try dsimp only); repeat (first | exact hG | apply Grow.new | (refine Grow.put ?_ _ (by first | omega | (simp only [hNw, hPt]; omega))))))
      · have hal : (rs.all fun x => x.ok cs ds) = true := by simpa using h3
        refine Ok.skip ?_; refine kS ?_; refine kS ?_; refine kR ?_; refine oF (o := 1) rfl (by kernel_rfl) rfl ?_; refine oL rfl rfl (qlg4 2) ?_; refine oV rfl rfl rfl rfl rfl (c91 (m + 9) g.slo g.shi _) ?_; refine OkO.un rfl rfl rfl ?_; refine oM rfl rfl ?_
        refine OkO.split (d := 27) rfl (fun g4 => ?_) (fun g4 => ?_)
        · have k1 : decide (g.slo = g.shi) = false := by simpa using g4
          refine oK rfl ?_; refine oK rfl ?_; refine oK rfl ?_; refine oK rfl ?_; refine oK rfl ?_; refine OkO.pick (b := true) rfl rfl (fun _ => rfl) nofun ?_; refine oM rfl rfl ?_; refine oK rfl ?_; refine oK rfl ?_; refine oK rfl ?_; refine oK rfl ?_; refine OkO.pick (b := true) rfl rfl (fun _ => rfl) nofun ?_; refine oN ?_; refine Ok.condT rfl ?_; refine kS ?_; refine kR ?_; refine oA rfl rfl ?_; refine oN ?_
          refine Ok.ret ⟨.inr rfl, ?_⟩
          exact back_flat rfl (by unfold readErr learnErr; rw [if_pos hde, if_neg h30, hal, if_pos rfl]; unfold knownB; rw [k1]; rfl) rfl (by rw [← hW]; exact (by (try dsimp only); repeat (first | exact hG | apply Grow.new | (refine Grow.put ?_ _ (by first | omega | (simp only [hNw, hPt]; omega))))))
        · have k1 : decide (g.slo = g.shi) = true := by simpa using g4
          refine oF (o := 0) rfl (by kernel_rfl) rfl ?_; refine oL rfl rfl (qla3 1) ?_; refine oE rfl rfl rfl rfl rfl (c77 (m + 8) cv cs _ (hR.ext (hE _ (by (try dsimp only); repeat (first | exact hG | apply Grow.new | (refine Grow.put ?_ _ (by first | omega | (simp only [hNw, hPt]; omega))))))) hbig) ?_
          rintro vA HA ⟨qA, rA, cA, fA⟩
          have gA : Grow W HA := Grow.ret (by (try dsimp only); repeat (first | exact hG | apply Grow.new | (refine Grow.put ?_ _ (by first | omega | (simp only [hNw, hPt]; omega))))) qA
          have nA : W.next + 2 ≤ HA.next := by have := qA.ext.next; first | omega | (simp only [hNw] at this; omega)
          have b0HA : (HA.get W.next).bind AObj.cs = some [cv, I g.slo, I g.shi, I g.klo, I g.khi, I g.melt] := by rw [qA.ext.get _ (by first | omega | (simp only [hNw]; omega))]; first | assumption | (simp (disch := first | omega | (simp only [hNw, hPt]; omega)) only [gN] <;> first | rfl | assumption)
          have b1HA : (HA.get (W.next + 1)).bind AObj.cs = some dv.cells := by rw [qA.ext.get _ (by first | omega | (simp only [hNw]; omega))]; first | assumption | (simp (disch := first | omega | (simp only [hNw, hPt]; omega)) only [gN] <;> first | rfl | assumption)
          have rA2 : Row HA vA 2 ((cs.map Cell.lv).map Rg.c) := by rw [List.map_map]; exact rA
          refine oV rfl rfl rfl rfl rfl (c92 (m + 7) vA (cs.map Cell.lv) _ rA2 (by simp; omega)) ?_; refine OkO.un rfl rfl rfl ?_; refine OkO.pick (b := false) rfl rfl nofun (fun _ => rfl) ?_; refine oM rfl rfl ?_
          refine OkO.split (d := 34) rfl (fun g5 => ?_) (fun g5 => ?_)
          · have k2 : (cs.all fun x => decide (x.lo = x.hi)) = false := by (have q : ((cs.map Cell.lv).all fun x => decide (x.lo = x.hi)) = false := by simpa using g5); rw [List.all_map] at q; exact q
            refine oK rfl ?_; refine oK rfl ?_; refine oK rfl ?_; refine oK rfl ?_; refine OkO.pick (b := true) rfl rfl (fun _ => rfl) nofun ?_; refine oN ?_; refine Ok.condT rfl ?_; refine kS ?_; refine kR ?_; refine oA rfl rfl ?_; refine oN ?_
            refine Ok.ret ⟨.inr rfl, ?_⟩
            exact back_flat rfl (by unfold readErr learnErr; rw [if_pos hde, if_neg h30, hal, if_pos rfl]; unfold knownB; rw [k1, k2]; rfl) rfl (by rw [← hW]; exact gA)
          · have k2 : (cs.all fun x => decide (x.lo = x.hi)) = true := by (have q : ((cs.map Cell.lv).all fun x => decide (x.lo = x.hi)) = true := by simpa using g5); rw [List.all_map] at q; exact q
            refine oL rfl rfl (qla3 1) ?_; refine oE rfl rfl rfl rfl rfl (c79 (m + 8) dv ds _ (hY.ext (hE _ gA)) hbd) ?_
            rintro vB HB ⟨qB, rB, cB, fB⟩
            have gB : Grow W HB := Grow.ret gA qB
            have b0HB : (HB.get W.next).bind AObj.cs = some [cv, I g.slo, I g.shi, I g.klo, I g.khi, I g.melt] := by rw [qB.ext.get _ (by first | omega | (simp only [hNw]; omega))]; first | assumption | (simp (disch := first | omega | (simp only [hNw, hPt]; omega)) only [gN] <;> first | rfl | assumption)
            have b1HB : (HB.get (W.next + 1)).bind AObj.cs = some dv.cells := by rw [qB.ext.get _ (by first | omega | (simp only [hNw]; omega))]; first | assumption | (simp (disch := first | omega | (simp only [hNw, hPt]; omega)) only [gN] <;> first | rfl | assumption)
            have rB2 : Row HB vB 2 ((ds.map Day.rn).map Rg.c) := by rw [List.map_map]; exact rB
            refine oV rfl rfl rfl rfl rfl (c92 (m + 7) vB (ds.map Day.rn) _ rB2 (by simp; omega)) ?_; refine OkO.un rfl rfl rfl ?_; refine OkO.pick (b := false) rfl rfl nofun (fun _ => rfl) ?_; refine oN ?_
            refine Ok.cond rfl (fun h6 => ?_) (fun h6 => ?_)
            · have k3 : (ds.all fun x => decide (x.lo = x.hi)) = false := by (have q : ((ds.map Day.rn).all fun x => decide (x.lo = x.hi)) = false := by simpa using h6); rw [List.all_map] at q; exact q
              refine kS ?_; refine kR ?_; refine oA rfl rfl ?_; refine oN ?_
              refine Ok.ret ⟨.inr rfl, ?_⟩
              exact back_flat rfl (by unfold readErr learnErr; rw [if_pos hde, if_neg h30, hal, if_pos rfl]; unfold knownB; rw [k1, k2, k3]; rfl) rfl (by rw [← hW]; exact gB)
            · have k3 : (ds.all fun x => decide (x.lo = x.hi)) = true := by (have q : ((ds.map Day.rn).all fun x => decide (x.lo = x.hi)) = true := by simpa using h6); rw [List.all_map] at q; exact q
              refine Ok.skip ?_; refine kS ?_; refine kR ?_; refine oA rfl rfl ?_; refine oN ?_
              refine Ok.ret ⟨.inr rfl, ?_⟩
              exact back_flat rfl (by unfold readErr learnErr; rw [if_pos hde, if_neg h30, hal, if_pos rfl]; unfold knownB; rw [k1, k2, k3]; rfl) rfl (by rw [← hW]; exact gB)
theorem c35 (m : Nat) (cv dv rv : AV) (cs : List Cell) (g : Gr) (ds : List Day) (rs : List Rd) (H : Heap) (hR : Row H cv 7 (cs.map Cell.c)) (hbig : cs.length ≤ 1000) (hY : Row H dv 3 (ds.map Day.c)) (hbd : ds.length ≤ 1000) (hZ : Row H rv 4 (rs.map Rd.c)) (hbr : rs.length ≤ 1000) : RR (m + 3) (.fn 35 [.agg [cv, I g.slo, I g.shi, I g.klo, I g.khi, I g.melt], dv, rv]) H = some (I (learnErr cs g ds rs), H) := by
  refine (R_fn _ _ _ _ _).trans ?_; refine fn_ok Try.func35 rfl rfl (by kernel_rfl) (by kernel_rfl) ?_
  obtain ⟨W, hW, hg, hN, hE, hG⟩ := wOf H
  rw [← hW]
  have hlc : lenOf cv = some cs.length := by simpa using hR.len
  have hld : lenOf dv = some ds.length := by simpa using hY.len
  have hlr : lenOf rv = some rs.length := by simpa using hZ.len
  have pc := lpl hlc
  have pd := lpl hld
  have hdc : dv.cells = [dv] := (len_one hld).1
  have hdc0 : dv.cells[0]? = some dv := by rw [hdc]; rfl
  refine kS ?_; refine kR ?_; refine OkO.box rfl rfl ?_; refine oA rfl rfl ?_; refine oN ?_; refine kS ?_; refine kS ?_; refine kR ?_; refine oM rfl rfl ?_; refine oB rfl rfl rfl qbl ?_; refine OkO.bin rfl rfl rfl (bin_gtr _ _) ?_; refine oN ?_
  refine Ok.cond rfl (fun h1 => ?_) (fun h1 => ?_)
  · have h30 : (30 : Int) < (rs.length : Int) := by simpa using h1
    refine kS ?_; refine kR ?_; refine oA rfl rfl ?_; refine oN ?_
    refine Ok.ret ⟨.inr rfl, ?_⟩
    exact back_flat rfl (by unfold learnErr; rw [if_pos h30]; rfl) rfl (by rw [← hW]; exact (by (try dsimp only); repeat (first | exact hG | apply Grow.new | (refine Grow.put ?_ _ (by first | omega | (simp only [hNw, hPt]; omega))))))
  · have h30 : ¬(30 : Int) < (rs.length : Int) := by simpa using h1
    refine Ok.skip ?_; refine kS ?_; refine kS ?_; refine kR ?_; refine oA rfl rfl ?_; refine oN ?_; refine Ok.block ?_
    refine Ok.loop (fun n s => ∃ i : Nat, n = rs.length - i ∧ i ≤ rs.length ∧ (∀ j, j < i → ∀ x, rs[j]? = some x → x.ok cs ds = true) ∧ Has 7 [(1, dv), (2, rv), (3, .ptr W.next 0), (6, I 0), (7, I (i : Int))] s.T ∧ s.D = [] ∧ Grow W s.H ∧ (s.H.get W.next).bind AObj.cs = some [cv, I g.slo, I g.shi, I g.klo, I g.khi, I g.melt]) (rs.length) (by unfold loopFuel; omega)
      ⟨0, rfl, Nat.zero_le _, nofun, Has.of (by kernel_rfl), rfl, (by (try dsimp only); repeat (first | exact hG | apply Grow.new | (refine Grow.put ?_ _ (by first | omega | (simp only [hNw, hPt]; omega))))), (by simp (disch := first | omega | (simp only [hNw, hPt]; omega)) only [gN] <;> first | rfl | assumption)⟩ ?_
    rintro n ⟨T, D, G⟩ ⟨i, hn, hi, hall, ⟨f, hT⟩, hD, hg, e0⟩
    dsimp only at *
    subst hT hD
    have hgn := hg.next
    refine kS ?_; refine kS ?_; refine kR ?_; refine oM rfl rfl ?_; refine oM rfl rfl ?_; refine oB rfl rfl rfl qbl ?_; refine OkO.bin rfl rfl rfl (bin_lss _ _) ?_; refine oN ?_
    refine Ok.cond rfl (fun h2 => ?_) (fun h2 => ?_)
    · have hlt : i < rs.length := by simpa using h2
      obtain ⟨bb, off, ccs, i1, i2, i3, i4⟩ := (hZ.ext (hE _ hg)).at_ i rs[i].c (by simp [hlt])
      have j0 : ccs[off + 0]? = some (I rs[i].cell) := seg_get i3 0 (by omega)
      have j1 : ccs[off + 1]? = some (I rs[i].day) := seg_get i3 1 (by omega)
      have j2 : seg ccs (off + 2) 2 = some [I rs[i].lo, I rs[i].hi] := seg_sub i3 2 2 (by omega) (by omega)
      refine Ok.skip ?_; refine kS ?_; refine Ok.block ?_; refine kS ?_; refine Ok.drawn [(0, true, []), (1, true, []), (2, true, []), (3, true, []), (4, true, []), (5, true, []), (6, true, []), (7, true, []), (8, true, []), (9, false, [7, 6]), (10, true, []), (11, true, []), (12, true, []), (13, true, []), (14, true, []), (15, true, []), (16, true, []), (17, true, []), (18, true, []), (19, true, []), (20, false, [18, 7, 6, 4]), (21, true, []), (22, true, []), (23, true, []), (24, true, []), (25, true, []), (26, true, []), (27, true, []), (28, true, []), (29, false, [18, 16, 7, 6, 4]), (30, true, []), (31, true, [])] (by kernel_rfl) ?_; refine pS ?_; refine oM rfl rfl ?_; refine oN ⟨rfl, ?_⟩; refine pS ?_; refine oM rfl rfl ?_; refine oN ⟨rfl, ?_⟩; refine pS ?_; refine qX (sz := 4) (n := i) rfl rfl rfl ?_; refine oN ⟨rfl, ?_⟩; refine pS ?_; refine oF (o := 0) rfl (by kernel_rfl) rfl ?_; refine oN ⟨rfl, ?_⟩; refine pS ?_; refine oL rfl rfl (qla3 1) ?_; refine oN ⟨rfl, ?_⟩; refine pS ?_; refine oF (o := 0) rfl (by kernel_rfl) rfl ?_; refine oN ⟨rfl, ?_⟩; refine pS ?_; refine oL rfl rfl (qla3 1) ?_; refine oN ⟨rfl, ?_⟩; refine pS ?_; refine oB rfl rfl rfl qbl ?_; refine oN ⟨rfl, ?_⟩; refine pS ?_; refine OkO.bin rfl rfl rfl (bin_sub (by omega) (by omega)) ?_; refine oN ⟨rfl, ?_⟩; refine pS ?_; refine oV rfl rfl rfl rfl rfl (c37 _ _ _ _ _) ?_
      refine oN ⟨(sco (svl rfl (ecb rfl rfl qbl) rfl (eqr _ rfl)) (sco (qsa2 1 rfl rfl rfl) rfl)), ?_⟩; refine pS ?_; refine OkO.un rfl rfl rfl ?_; refine oN ⟨rfl, ?_⟩; refine pS ?_; refine oM rfl rfl ?_; refine oN ⟨rfl, ?_⟩
      refine OkP.split (d := 31) rfl (fun g3 => ?_) (fun g3 => ?_)
      · have o1 : inB rs[i].cell 0 ((cs.length : Int) - 1) = false := by simpa using g3
        refine pS ?_; refine oK rfl ?_; refine oN ⟨rfl, ?_⟩; refine pS ?_; refine oK rfl ?_; refine oN ⟨rfl, ?_⟩; refine pS ?_; refine oK rfl ?_; refine oN ⟨rfl, ?_⟩; refine pS ?_; refine oK rfl ?_; refine oN ⟨rfl, ?_⟩; refine pS ?_; refine oK rfl ?_; refine oN ⟨rfl, ?_⟩; refine pS ?_; refine oK rfl ?_; refine oN ⟨rfl, ?_⟩; refine pS ?_; refine oK rfl ?_; refine oN ⟨rfl, ?_⟩; refine pS ?_; refine oK rfl ?_; refine oN ⟨rfl, ?_⟩; refine pS ?_; refine oK rfl ?_
        refine oN ⟨(sco (ssk rfl) (sco (svl rfl (ecb rfl rfl qbl) rfl (eqr _ rfl)) (sco (qsa2 1 rfl rfl rfl) (sco (qsa2 1 rfl rfl rfl) rfl)))), ?_⟩; refine pS ?_; refine oK rfl ?_; refine oN ⟨rfl, ?_⟩; refine pS ?_; refine OkO.pick (b := true) rfl rfl (fun _ => rfl) nofun ?_; refine oN ⟨rfl, ?_⟩; refine pS ?_; refine oM rfl rfl ?_; refine oN ⟨rfl, ?_⟩; refine pS ?_; refine oK rfl ?_; refine oN ⟨rfl, ?_⟩; refine pS ?_; refine oK rfl ?_; refine oN ⟨rfl, ?_⟩; refine pS ?_; refine oK rfl ?_; refine oN ⟨rfl, ?_⟩; refine pS ?_; refine oK rfl ?_; refine oN ⟨rfl, ?_⟩; refine pS ?_; refine oK rfl ?_; refine oN ⟨rfl, ?_⟩; refine pS ?_; refine oK rfl ?_
        refine oN ⟨(sco (ssk rfl) (sco (ssk rfl) (sco (svl rfl (ecb rfl rfl qbl) rfl (eqr _ rfl)) (sco (qsa2 1 rfl rfl rfl) (sco (qsa2 1 rfl rfl rfl) rfl))))), ?_⟩; refine pS ?_; refine oK rfl ?_; refine oN ⟨rfl, ?_⟩; refine pS ?_; refine OkO.pick (b := true) rfl rfl (fun _ => rfl) nofun ?_; refine oN ⟨rfl, ?_⟩; refine OkP.nil ?_; refine Ok.condT rfl ?_; refine kS ?_; refine kR ?_; refine oA rfl rfl ?_; refine oN ?_
        refine Ok.ret ⟨.inr rfl, ?_⟩
        have hal : (rs.all fun x => x.ok cs ds) = false := by rw [List.all_eq_false]; exact ⟨rs[i], List.getElem_mem hlt, by unfold Rd.ok; rw [o1]; simp⟩
        exact back_flat rfl (by unfold learnErr; rw [if_neg h30, hal]; rfl) rfl (by rw [← hW]; exact hg)
      · have o1 : inB rs[i].cell 0 ((cs.length : Int) - 1) = true := by simpa using g3
        refine pS ?_; refine oM rfl rfl ?_; refine oN ⟨rfl, ?_⟩; refine pS ?_; refine oM rfl rfl ?_; refine oN ⟨rfl, ?_⟩; refine pS ?_; refine qX (sz := 4) (n := i) rfl rfl rfl ?_; refine oN ⟨rfl, ?_⟩; refine pS ?_; refine oF (o := 1) rfl (by kernel_rfl) rfl ?_; refine oN ⟨rfl, ?_⟩; refine pS ?_; refine oL rfl rfl (qla3 1) ?_; refine oN ⟨rfl, ?_⟩; refine pS ?_; refine oM rfl rfl ?_; refine oN ⟨rfl, ?_⟩; refine pS ?_; refine oB rfl rfl rfl qbl ?_; refine oN ⟨rfl, ?_⟩; refine pS ?_; refine OkO.bin rfl rfl rfl (bin_sub (by omega) (by omega)) ?_; refine oN ⟨rfl, ?_⟩; refine pS ?_; refine oV rfl rfl rfl rfl rfl (c37 _ _ _ _ _) ?_
        refine oN ⟨(sco (svl rfl (ecb rfl rfl qbl) rfl (eqr _ rfl)) (sco (svl rfl (ecb rfl rfl qbl) rfl (eqr _ rfl)) (sco (qsa2 1 rfl rfl rfl) (sco (qsa2 1 rfl rfl rfl) rfl)))), ?_⟩; refine pS ?_; refine OkO.un rfl rfl rfl ?_; refine oN ⟨rfl, ?_⟩; refine pS ?_; refine OkO.pick (b := false) rfl rfl nofun (fun _ => rfl) ?_; refine oN ⟨rfl, ?_⟩; refine pS ?_; refine oM rfl rfl ?_; refine oN ⟨rfl, ?_⟩
        refine OkP.split (d := 43) rfl (fun g4 => ?_) (fun g4 => ?_)
        · have o2 : inB rs[i].day 0 ((ds.length : Int) - 1) = false := by simpa using g4
          refine pS ?_; refine oK rfl ?_; refine oN ⟨rfl, ?_⟩; refine pS ?_; refine oK rfl ?_; refine oN ⟨rfl, ?_⟩; refine pS ?_; refine oK rfl ?_; refine oN ⟨rfl, ?_⟩; refine pS ?_; refine oK rfl ?_; refine oN ⟨rfl, ?_⟩; refine pS ?_; refine oK rfl ?_; refine oN ⟨rfl, ?_⟩; refine pS ?_; refine oK rfl ?_
          refine oN ⟨(sco (svl rfl (ecb rfl rfl qbl) rfl (eqr _ rfl)) (sco (qsa2 1 rfl rfl rfl) (sco (svl rfl (ecb rfl rfl qbl) rfl (eqr _ rfl)) (sco (qsa2 1 rfl rfl rfl) (sco (qsa2 1 rfl rfl rfl) rfl))))), ?_⟩; refine pS ?_; refine oK rfl ?_; refine oN ⟨rfl, ?_⟩; refine pS ?_; refine OkO.pick (b := true) rfl rfl (fun _ => rfl) nofun ?_; refine oN ⟨rfl, ?_⟩; refine OkP.nil ?_; refine Ok.condT rfl ?_; refine kS ?_; refine kR ?_; refine oA rfl rfl ?_; refine oN ?_
          refine Ok.ret ⟨.inr rfl, ?_⟩
          have hal : (rs.all fun x => x.ok cs ds) = false := by rw [List.all_eq_false]; exact ⟨rs[i], List.getElem_mem hlt, by unfold Rd.ok; rw [o1, o2]; simp⟩
          exact back_flat rfl (by unfold learnErr; rw [if_neg h30, hal]; rfl) rfl (by rw [← hW]; exact hg)
        · have o2 : inB rs[i].day 0 ((ds.length : Int) - 1) = true := by simpa using g4
          refine pS ?_; refine oM rfl rfl ?_; refine oN ⟨rfl, ?_⟩; refine pS ?_; refine oM rfl rfl ?_; refine oN ⟨rfl, ?_⟩; refine pS ?_; refine qX (sz := 4) (n := i) rfl rfl rfl ?_; refine oN ⟨rfl, ?_⟩; refine pS ?_; refine oF (o := 2) rfl (by kernel_rfl) rfl ?_; refine oN ⟨rfl, ?_⟩; refine pS ?_; refine oL rfl rfl (qlg4 2) ?_; refine oN ⟨rfl, ?_⟩; refine pS ?_; refine oV rfl rfl rfl rfl rfl (c57 _ _ _ _ _) ?_
          refine oN ⟨(sco (svl rfl (ecb rfl rfl qbl) rfl (eqr _ rfl)) (sco (qsa2 1 rfl rfl rfl) (sco (svl rfl (ecb rfl rfl qbl) rfl (eqr _ rfl)) (sco (qsa2 1 rfl rfl rfl) (sco (qsa2 1 rfl rfl rfl) rfl))))), ?_⟩; refine pS ?_; refine OkO.un rfl rfl rfl ?_; refine oN ⟨rfl, ?_⟩; refine pS ?_; refine OkO.pick (b := false) rfl rfl nofun (fun _ => rfl) ?_; refine oN ⟨rfl, ?_⟩; refine OkP.nil ?_
          refine Ok.cond rfl (fun h5 => ?_) (fun h5 => ?_)
          · have o3 : okR rs[i].lo rs[i].hi 100000 = false := by simpa using h5
            refine kS ?_; refine kR ?_; refine oA rfl rfl ?_; refine oN ?_
            refine Ok.ret ⟨.inr rfl, ?_⟩
            have hal : (rs.all fun x => x.ok cs ds) = false := by rw [List.all_eq_false]; exact ⟨rs[i], List.getElem_mem hlt, by unfold Rd.ok; rw [o1, o2, o3]; simp⟩
            exact back_flat rfl (by unfold learnErr; rw [if_neg h30, hal]; rfl) rfl (by rw [← hW]; exact hg)
          · have o3 : okR rs[i].lo rs[i].hi 100000 = true := by simpa using h5
            have hok : rs[i].ok cs ds = true := by unfold Rd.ok; rw [o1, o2, o3]; rfl
            refine Ok.skip ?_; refine kR ?_; refine oM rfl rfl ?_; refine OkO.bin rfl rfl rfl (bin_add (by omega) (by omega)) ?_; refine oA rfl rfl ?_; refine oN ?_
            refine ⟨rs.length - (i + 1), by omega, i + 1, rfl, hlt, fun j hj x hx => ?_, Has.of (by kernel_rfl), rfl, hg, e0⟩
            by_cases e : j = i
            · subst e; rw [List.getElem?_eq_getElem hlt] at hx; cases hx; exact hok
            · exact hall j (by omega) x hx
    · have hge : i = rs.length := by simp at h2; omega
      have hal : (rs.all fun x => x.ok cs ds) = true := by rw [List.all_eq_true]; intro x hx; obtain ⟨j, hj, rfl⟩ := List.mem_iff_getElem.1 hx; exact hall j (by omega) _ (List.getElem?_eq_getElem hj)
      refine Ok.exit ?_; refine kS ?_; refine kR ?_; refine oF (o := 1) rfl (by kernel_rfl) rfl ?_; refine oF (o := 0) rfl (by kernel_rfl) rfl ?_; refine oL rfl rfl (qla3 1) ?_; refine oF (o := 1) rfl (by kernel_rfl) rfl ?_; refine oF (o := 1) rfl (by kernel_rfl) rfl ?_; refine oL rfl rfl (qla3 1) ?_; refine OkO.bin rfl rfl rfl (bin_eql _ _) ?_; refine oA rfl rfl ?_; refine oN ?_; refine kS ?_; refine kS ?_; refine kR ?_; refine oA rfl rfl ?_; refine oN ?_; refine Ok.block ?_
      refine Ok.loop (fun n s => ∃ i : Nat, n = cs.length - i ∧ i ≤ cs.length ∧ Has 7 [(1, dv), (2, rv), (3, .ptr W.next 0), (6, I 0), (8, .bool (decide (g.slo = g.shi) && (cs.take i).all fun x => decide (x.lo = x.hi))), (9, I (i : Int))] s.T ∧ s.D = [] ∧ Grow W s.H ∧ (s.H.get W.next).bind AObj.cs = some [cv, I g.slo, I g.shi, I g.klo, I g.khi, I g.melt]) (cs.length) (by unfold loopFuel; omega)
        ⟨0, rfl, Nat.zero_le _, by rw [List.take_zero, List.all_nil, Bool.and_true]; exact Has.of (by kernel_rfl), rfl, hg, e0⟩ ?_
      rintro n ⟨T, D, G⟩ ⟨i, hn, hi, ⟨f, hT⟩, hD, hg, e0⟩
      dsimp only at *
      subst hT hD
      have hgn := hg.next
      refine kS ?_; refine kS ?_; refine kR ?_; refine oM rfl rfl ?_; refine oF (o := 0) rfl (by kernel_rfl) rfl ?_; refine oL rfl rfl (qla3 1) ?_; refine oB rfl rfl rfl qbl ?_; refine OkO.bin rfl rfl rfl (bin_lss _ _) ?_; refine oN ?_
      refine Ok.cond rfl (fun h6 => ?_) (fun h6 => ?_)
      · have hlt : i < cs.length := by simpa using h6
        obtain ⟨bb, off, ccs, i1, i2, i3, i4⟩ := (hR.ext (hE _ hg)).at_ i cs[i].c (by simp [hlt])
        have j0 : ccs[off + 0 + 0]? = some (I cs[i].lo) := seg_get i3 0 (by omega)
        have j1 : ccs[off + 0 + 1]? = some (I cs[i].hi) := seg_get i3 1 (by omega)
        refine Ok.skip ?_; refine kS ?_; refine Ok.block ?_; refine Ok.drawn [(0, true, []), (1, true, []), (2, true, []), (3, true, []), (4, true, []), (5, true, []), (6, true, []), (7, true, []), (8, true, []), (9, true, []), (10, true, []), (11, true, []), (12, true, []), (13, true, []), (14, true, []), (15, true, []), (16, true, []), (17, true, []), (18, false, [])] (by kernel_rfl) ?_; refine pS ?_; refine oM rfl rfl ?_; refine oN ⟨rfl, ?_⟩; refine pS ?_; refine oM rfl rfl ?_; refine oN ⟨rfl, ?_⟩
        refine OkP.split (d := 67) rfl (fun g7 => ?_) (fun g7 => ?_)
        · refine pS ?_
          refine oF (o := 0) rfl (by kernel_rfl) rfl ?_; refine oN ⟨rfl, ?_⟩; refine pS ?_; refine oL rfl rfl (qla3 1) ?_; refine oN ⟨rfl, ?_⟩; refine pS ?_; refine oM rfl rfl ?_; refine oN ⟨rfl, ?_⟩; refine pS ?_; refine qX (sz := 7) (n := i) rfl rfl rfl ?_; refine oN ⟨rfl, ?_⟩; refine pS ?_; refine oF (o := 0) rfl (by kernel_rfl) rfl ?_; refine oN ⟨rfl, ?_⟩; refine pS ?_; refine oF (o := 0) rfl (by kernel_rfl) rfl ?_; refine oN ⟨rfl, ?_⟩; refine pS ?_; refine oL rfl rfl (qla3 1) ?_; refine oN ⟨rfl, ?_⟩; refine pS ?_; refine oF (o := 0) rfl (by kernel_rfl) rfl ?_; refine oN ⟨rfl, ?_⟩; refine pS ?_; refine oL rfl rfl (qla3 1) ?_; refine oN ⟨rfl, ?_⟩; refine pS ?_; refine oM rfl rfl ?_; refine oN ⟨rfl, ?_⟩; refine pS ?_; refine qX (sz := 7) (n := i) rfl rfl rfl ?_; refine oN ⟨rfl, ?_⟩; refine pS ?_; refine oF (o := 0) rfl (by kernel_rfl) rfl ?_; refine oN ⟨rfl, ?_⟩; refine pS ?_; refine oF (o := 1) rfl (by kernel_rfl) rfl ?_; refine oN ⟨rfl, ?_⟩; refine pS ?_; refine oL rfl rfl (qla3 1) ?_; refine oN ⟨rfl, ?_⟩; refine pS ?_; refine OkO.bin rfl rfl rfl (bin_eql _ _) ?_; refine oN ⟨rfl, ?_⟩; refine pS ?_; refine OkO.pick (b := true) rfl rfl (fun _ => rfl) nofun ?_; refine oN ⟨rfl, ?_⟩; refine pS ?_; refine oA rfl rfl ?_; refine oN ⟨rfl, ?_⟩; refine OkP.nil ?_; refine kR ?_; refine oM rfl rfl ?_; refine OkO.bin rfl rfl rfl (bin_add (by omega) (by omega)) ?_; refine oA rfl rfl ?_; refine oN ?_
          refine ⟨cs.length - (i + 1), by omega, i + 1, rfl, hlt, ?_, rfl, hg, e0⟩
          have hk : (decide (g.slo = g.shi) && (cs.take (i + 1)).all fun x => decide (x.lo = x.hi)) = ((decide (g.slo = g.shi) && (cs.take i).all fun x => decide (x.lo = x.hi)) && decide (cs[i].lo = cs[i].hi)) := by rw [List.take_succ_eq_append_getElem hlt, List.all_append, List.all_cons, List.all_nil, Bool.and_true]; simp only [Bool.and_assoc]
          rw [hk, g7]
          first | (rw [Bool.true_and]; exact Has.of (by kernel_rfl)) | (rw [Bool.false_and]; exact Has.of (by kernel_rfl))
        · refine pS ?_
          refine oK rfl ?_; refine oN ⟨rfl, ?_⟩; refine pS ?_; refine oK rfl ?_; refine oN ⟨rfl, ?_⟩; refine pS ?_; refine oK rfl ?_; refine oN ⟨rfl, ?_⟩; refine pS ?_; refine oK rfl ?_; refine oN ⟨rfl, ?_⟩; refine pS ?_; refine oK rfl ?_; refine oN ⟨rfl, ?_⟩; refine pS ?_; refine oK rfl ?_; refine oN ⟨rfl, ?_⟩; refine pS ?_; refine oK rfl ?_; refine oN ⟨rfl, ?_⟩; refine pS ?_; refine oK rfl ?_; refine oN ⟨rfl, ?_⟩; refine pS ?_; refine oK rfl ?_; refine oN ⟨rfl, ?_⟩; refine pS ?_; refine oK rfl ?_; refine oN ⟨rfl, ?_⟩; refine pS ?_; refine oK rfl ?_; refine oN ⟨rfl, ?_⟩; refine pS ?_; refine oK rfl ?_; refine oN ⟨rfl, ?_⟩; refine pS ?_; refine oK rfl ?_; refine oN ⟨rfl, ?_⟩; refine pS ?_; refine oK rfl ?_; refine oN ⟨rfl, ?_⟩; refine pS ?_; refine oK rfl ?_; refine oN ⟨rfl, ?_⟩; refine pS ?_; refine OkO.pick (b := false) rfl rfl nofun (fun _ => rfl) ?_; refine oN ⟨rfl, ?_⟩; refine pS ?_; refine oA rfl rfl ?_; refine oN ⟨rfl, ?_⟩; refine OkP.nil ?_; refine kR ?_; refine oM rfl rfl ?_; refine OkO.bin rfl rfl rfl (bin_add (by omega) (by omega)) ?_; refine oA rfl rfl ?_; refine oN ?_
          refine ⟨cs.length - (i + 1), by omega, i + 1, rfl, hlt, ?_, rfl, hg, e0⟩
          have hk : (decide (g.slo = g.shi) && (cs.take (i + 1)).all fun x => decide (x.lo = x.hi)) = ((decide (g.slo = g.shi) && (cs.take i).all fun x => decide (x.lo = x.hi)) && decide (cs[i].lo = cs[i].hi)) := by rw [List.take_succ_eq_append_getElem hlt, List.all_append, List.all_cons, List.all_nil, Bool.and_true]; simp only [Bool.and_assoc]
          rw [hk, g7]
          first | (rw [Bool.true_and]; exact Has.of (by kernel_rfl)) | (rw [Bool.false_and]; exact Has.of (by kernel_rfl))
      · have hge : i = cs.length := by simp at h6; omega
        subst hge
        rw [List.take_length]
        refine Ok.exit ?_; refine kS ?_; refine kS ?_; refine kR ?_; refine oA rfl rfl ?_; refine oN ?_; refine Ok.block ?_
        refine Ok.loop (fun n s => ∃ i : Nat, n = ds.length - i ∧ i ≤ ds.length ∧ Has 7 [(1, dv), (2, rv), (3, .ptr W.next 0), (6, I 0), (8, .bool ((decide (g.slo = g.shi) && cs.all fun x => decide (x.lo = x.hi)) && (ds.take i).all fun x => decide (x.lo = x.hi))), (10, I (i : Int))] s.T ∧ s.D = [] ∧ Grow W s.H ∧ (s.H.get W.next).bind AObj.cs = some [cv, I g.slo, I g.shi, I g.klo, I g.khi, I g.melt]) (ds.length) (by unfold loopFuel; omega)
          ⟨0, rfl, Nat.zero_le _, by rw [List.take_zero, List.all_nil, Bool.and_true]; exact Has.of (by kernel_rfl), rfl, hg, e0⟩ ?_
        rintro n ⟨T, D, G⟩ ⟨i, hn, hi, ⟨f, hT⟩, hD, hg, e0⟩
        dsimp only at *
        subst hT hD
        have hgn := hg.next
        refine kS ?_; refine kS ?_; refine kR ?_; refine oM rfl rfl ?_; refine oM rfl rfl ?_; refine oB rfl rfl rfl qbl ?_; refine OkO.bin rfl rfl rfl (bin_lss _ _) ?_; refine oN ?_
        refine Ok.cond rfl (fun h8 => ?_) (fun h8 => ?_)
        · have hlt : i < ds.length := by simpa using h8
          obtain ⟨bb, off, ccs, i1, i2, i3, i4⟩ := (hY.ext (hE _ hg)).at_ i ds[i].c (by simp [hlt])
          have j0 : ccs[off + 0 + 0]? = some (I ds[i].lo) := seg_get i3 0 (by omega)
          have j1 : ccs[off + 0 + 1]? = some (I ds[i].hi) := seg_get i3 1 (by omega)
          refine Ok.skip ?_; refine kS ?_; refine Ok.block ?_; refine Ok.drawn [(0, true, []), (1, true, []), (2, true, []), (3, true, []), (4, true, []), (5, true, []), (6, true, []), (7, true, []), (8, true, []), (9, true, []), (10, true, []), (11, true, []), (12, true, []), (13, true, []), (14, true, []), (15, true, []), (16, false, [])] (by kernel_rfl) ?_; refine pS ?_; refine oM rfl rfl ?_; refine oN ⟨rfl, ?_⟩; refine pS ?_; refine oM rfl rfl ?_; refine oN ⟨rfl, ?_⟩
          refine OkP.split (d := 91) rfl (fun g9 => ?_) (fun g9 => ?_)
          · refine pS ?_
            refine oM rfl rfl ?_; refine oN ⟨rfl, ?_⟩; refine pS ?_; refine oM rfl rfl ?_; refine oN ⟨rfl, ?_⟩; refine pS ?_; refine qX (sz := 3) (n := i) rfl rfl rfl ?_; refine oN ⟨rfl, ?_⟩; refine pS ?_; refine oF (o := 0) rfl (by kernel_rfl) rfl ?_; refine oN ⟨rfl, ?_⟩; refine pS ?_; refine oF (o := 0) rfl (by kernel_rfl) rfl ?_; refine oN ⟨rfl, ?_⟩; refine pS ?_; refine oL rfl rfl (qla3 1) ?_; refine oN ⟨rfl, ?_⟩; refine pS ?_; refine oM rfl rfl ?_; refine oN ⟨rfl, ?_⟩; refine pS ?_; refine oM rfl rfl ?_; refine oN ⟨rfl, ?_⟩; refine pS ?_; refine qX (sz := 3) (n := i) rfl rfl rfl ?_; refine oN ⟨rfl, ?_⟩; refine pS ?_; refine oF (o := 0) rfl (by kernel_rfl) rfl ?_; refine oN ⟨rfl, ?_⟩; refine pS ?_; refine oF (o := 1) rfl (by kernel_rfl) rfl ?_; refine oN ⟨rfl, ?_⟩; refine pS ?_; refine oL rfl rfl (qla3 1) ?_; refine oN ⟨rfl, ?_⟩; refine pS ?_; refine OkO.bin rfl rfl rfl (bin_eql _ _) ?_; refine oN ⟨rfl, ?_⟩; refine pS ?_; refine OkO.pick (b := true) rfl rfl (fun _ => rfl) nofun ?_; refine oN ⟨rfl, ?_⟩; refine pS ?_; refine oA rfl rfl ?_; refine oN ⟨rfl, ?_⟩; refine OkP.nil ?_; refine kR ?_; refine oM rfl rfl ?_; refine OkO.bin rfl rfl rfl (bin_add (by omega) (by omega)) ?_; refine oA rfl rfl ?_; refine oN ?_
            refine ⟨ds.length - (i + 1), by omega, i + 1, rfl, hlt, ?_, rfl, hg, e0⟩
            have hk : ((decide (g.slo = g.shi) && cs.all fun x => decide (x.lo = x.hi)) && (ds.take (i + 1)).all fun x => decide (x.lo = x.hi)) = (((decide (g.slo = g.shi) && cs.all fun x => decide (x.lo = x.hi)) && (ds.take i).all fun x => decide (x.lo = x.hi)) && decide (ds[i].lo = ds[i].hi)) := by rw [List.take_succ_eq_append_getElem hlt, List.all_append, List.all_cons, List.all_nil, Bool.and_true]; simp only [Bool.and_assoc]
            rw [hk, g9]
            first | (rw [Bool.true_and]; exact Has.of (by kernel_rfl)) | (rw [Bool.false_and]; exact Has.of (by kernel_rfl))
          · refine pS ?_
            refine oK rfl ?_; refine oN ⟨rfl, ?_⟩; refine pS ?_; refine oK rfl ?_; refine oN ⟨rfl, ?_⟩; refine pS ?_; refine oK rfl ?_; refine oN ⟨rfl, ?_⟩; refine pS ?_; refine oK rfl ?_; refine oN ⟨rfl, ?_⟩; refine pS ?_; refine oK rfl ?_; refine oN ⟨rfl, ?_⟩; refine pS ?_; refine oK rfl ?_; refine oN ⟨rfl, ?_⟩; refine pS ?_; refine oK rfl ?_; refine oN ⟨rfl, ?_⟩; refine pS ?_; refine oK rfl ?_; refine oN ⟨rfl, ?_⟩; refine pS ?_; refine oK rfl ?_; refine oN ⟨rfl, ?_⟩; refine pS ?_; refine oK rfl ?_; refine oN ⟨rfl, ?_⟩; refine pS ?_; refine oK rfl ?_; refine oN ⟨rfl, ?_⟩; refine pS ?_; refine oK rfl ?_; refine oN ⟨rfl, ?_⟩; refine pS ?_; refine oK rfl ?_; refine oN ⟨rfl, ?_⟩; refine pS ?_; refine OkO.pick (b := false) rfl rfl nofun (fun _ => rfl) ?_; refine oN ⟨rfl, ?_⟩; refine pS ?_; refine oA rfl rfl ?_; refine oN ⟨rfl, ?_⟩; refine OkP.nil ?_; refine kR ?_; refine oM rfl rfl ?_; refine OkO.bin rfl rfl rfl (bin_add (by omega) (by omega)) ?_; refine oA rfl rfl ?_; refine oN ?_
            refine ⟨ds.length - (i + 1), by omega, i + 1, rfl, hlt, ?_, rfl, hg, e0⟩
            have hk : ((decide (g.slo = g.shi) && cs.all fun x => decide (x.lo = x.hi)) && (ds.take (i + 1)).all fun x => decide (x.lo = x.hi)) = (((decide (g.slo = g.shi) && cs.all fun x => decide (x.lo = x.hi)) && (ds.take i).all fun x => decide (x.lo = x.hi)) && decide (ds[i].lo = ds[i].hi)) := by rw [List.take_succ_eq_append_getElem hlt, List.all_append, List.all_cons, List.all_nil, Bool.and_true]; simp only [Bool.and_assoc]
            rw [hk, g9]
            first | (rw [Bool.true_and]; exact Has.of (by kernel_rfl)) | (rw [Bool.false_and]; exact Has.of (by kernel_rfl))
        · have hge : i = ds.length := by simp at h8; omega
          subst hge
          rw [List.take_length]
          refine Ok.exit ?_; refine kS ?_; refine kS ?_; refine kR ?_; refine oM rfl rfl ?_; refine OkO.un rfl rfl rfl ?_; refine oN ?_
          refine Ok.cond rfl (fun h10 => ?_) (fun h10 => ?_)
          · have kn : knownB cs g ds = false := by (cases hq : knownB cs g ds with | false => rfl | true => (unfold knownB at hq; rw [hq] at h10; simp at h10))
            refine kS ?_; refine kR ?_; refine oA rfl rfl ?_; refine oN ?_
            refine Ok.ret ⟨.inr rfl, ?_⟩
            exact back_flat rfl (by unfold learnErr; rw [if_neg h30, hal, if_pos rfl, kn]; rfl) rfl (by rw [← hW]; exact hg)
          · have kn : knownB cs g ds = true := by (cases hq : knownB cs g ds with | true => rfl | false => (unfold knownB at hq; rw [hq] at h10; simp at h10))
            refine Ok.skip ?_; refine kS ?_; refine kR ?_; refine oA rfl rfl ?_; refine oN ?_
            refine Ok.ret ⟨.inr rfl, ?_⟩
            exact back_flat rfl (by unfold learnErr; rw [if_neg h30, hal, if_pos rfl, kn]; rfl) rfl (by rw [← hW]; exact hg)
end
end Go.Ev

set_option maxRecDepth 100000
set_option linter.unusedSimpArgs false
set_option linter.unusedVariables false
namespace Go.Ev
open Go Go.Proofs
noncomputable section
def agreesB (cs : List Cell) (g : Gr) (ds : List Day) (rs : List Rd) (s : Int) : Bool := rs.all fun x => inB (lvS cs g ds s x.day x.cell) x.lo x.hi
theorem agrees_eq (cs : List Cell) (g : Gr) (ds : List Day) (rs : List Rd) (s : Int) : agreesB cs g ds rs s = (!belowB cs g ds rs s && !aboveB cs g ds rs s) := by
  unfold agreesB belowB aboveB
  rw [Bool.eq_iff_iff]
  simp only [List.all_eq_true, Bool.and_eq_true, Bool.not_eq_true', List.any_eq_false, decide_eq_true_eq, inB]
  exact ⟨fun h => ⟨fun x hx => by have := h x hx; omega, fun x hx => by have := h x hx; omega⟩, fun ⟨h1, h2⟩ x hx => ⟨by have := h1 x hx; omega, by have := h2 x hx; omega⟩⟩
theorem lvS_mono {cs : List Cell} {g : Gr} {ds : List Day} {rs : List Rd} (hd0 : daysErr cs g ds = 0) {s s' : Int} (h1 : g.klo ≤ s) (h2 : s ≤ s') (h3 : s' ≤ g.khi) {d c : Int} (hd : 0 ≤ d ∧ d < ds.length) : lvS cs g ds s d c ≤ lvS cs g ds s' d c :=
  lev_mono (t' := ⟨g.slo, s⟩) (t := ⟨g.slo, s'⟩) (fit_soak hd0 ⟨by omega, h3⟩) (fit_soak hd0 ⟨h1, by omega⟩) rfl (fun i _ => LeC.refl _) rfl (Int.le_refl _) h2 (LeL.refl _) (LeL.refl _) (d.toNat + 1) (by omega) _
theorem rd_in2 {cs : List Cell} {ds : List Day} {x : Rd} (h : x.ok cs ds = true) : 0 ≤ x.day ∧ x.day < ds.length ∧ 0 ≤ x.cell ∧ x.cell < cs.length := by
  simp [Rd.ok, inB] at h
  omega
theorem below_mono {cs : List Cell} {g : Gr} {ds : List Day} {rs : List Rd} (hd0 : daysErr cs g ds = 0) (hrs : ∀ x ∈ rs, x.ok cs ds = true) {s s' : Int} (h1 : g.klo ≤ s) (h2 : s ≤ s') (h3 : s' ≤ g.khi) (h : belowB cs g ds rs s' = true) : belowB cs g ds rs s = true := by
  unfold belowB at h ⊢
  rw [List.any_eq_true] at h ⊢
  obtain ⟨x, hx, hl⟩ := h
  have := lvS_mono (rs := rs) hd0 h1 h2 h3 (c := x.cell) (by have := rd_in2 (hrs x hx); omega : 0 ≤ x.day ∧ x.day < ds.length)
  refine ⟨x, hx, ?_⟩
  simp only [decide_eq_true_eq] at hl ⊢
  omega
theorem above_mono {cs : List Cell} {g : Gr} {ds : List Day} {rs : List Rd} (hd0 : daysErr cs g ds = 0) (hrs : ∀ x ∈ rs, x.ok cs ds = true) {s s' : Int} (h1 : g.klo ≤ s) (h2 : s ≤ s') (h3 : s' ≤ g.khi) (h : aboveB cs g ds rs s = true) : aboveB cs g ds rs s' = true := by
  unfold aboveB at h ⊢
  rw [List.any_eq_true] at h ⊢
  obtain ⟨x, hx, hl⟩ := h
  have := lvS_mono (rs := rs) hd0 h1 h2 h3 (c := x.cell) (by have := rd_in2 (hrs x hx); omega : 0 ≤ x.day ∧ x.day < ds.length)
  refine ⟨x, hx, ?_⟩
  simp only [decide_eq_true_eq] at hl ⊢
  omega
/-- The soaks that agree are a range. -/
theorem agree_range {cs : List Cell} {g : Gr} {ds : List Day} {rs : List Rd} (hd0 : daysErr cs g ds = 0) (hrs : ∀ x ∈ rs, x.ok cs ds = true) {n r1 r2 : Nat} (hn : g.khi = g.klo + (n : Int) - 1)
    (a1 : r1 ≤ n) (a2 : r1 = 0 ∨ (!belowB cs g ds rs (g.klo + ((r1 - 1 : Nat) : Int))) = false) (a3 : r1 = n ∨ (!belowB cs g ds rs (g.klo + (r1 : Int))) = true)
    (b1 : r2 ≤ n) (b2 : r2 = 0 ∨ aboveB cs g ds rs (g.klo + ((r2 - 1 : Nat) : Int)) = false) (b3 : r2 = n ∨ aboveB cs g ds rs (g.klo + (r2 : Int)) = true) :
    ∀ s, g.klo ≤ s → s ≤ g.khi → (agreesB cs g ds rs s = true ↔ g.klo + (r1 : Int) ≤ s ∧ s ≤ g.klo + (r2 : Int) - 1) := by
  intro s h1 h2
  rw [agrees_eq, Bool.and_eq_true]
  constructor
  · rintro ⟨q1, q2⟩
    constructor
    · rcases a2 with a2 | a2
      · omega
      · refine Int.not_lt.1 fun hlt => ?_
        have : belowB cs g ds rs s = true := below_mono hd0 hrs h1 (by omega : s ≤ g.klo + ((r1 - 1 : Nat) : Int)) (by omega) (by simpa using a2)
        rw [this] at q1; cases q1
    · rcases b3 with b3 | b3
      · omega
      · refine Int.not_lt.1 fun hlt => ?_
        have : aboveB cs g ds rs s = true := above_mono hd0 hrs (by omega) (by omega : g.klo + (r2 : Int) ≤ s) h2 b3
        rw [this] at q2; cases q2
  · rintro ⟨q1, q2⟩
    constructor
    · cases hb : belowB cs g ds rs s with
      | false => rfl
      | true =>
        rcases a3 with a3 | a3
        · omega
        · have := below_mono hd0 hrs (by omega) q1 h2 hb
          rw [this] at a3; cases a3
    · cases hb : aboveB cs g ds rs s with
      | false => rfl
      | true =>
        rcases b2 with b2 | b2
        · omega
        · have := above_mono hd0 hrs h1 (by omega : s ≤ g.klo + ((r2 - 1 : Nat) : Int)) (by omega) hb
          rw [this] at b2; cases b2
theorem c36 (m : Nat) (cv dv rv : AV) (cs : List Cell) (g : Gr) (ds : List Day) (rs : List Rd) (s : Int) (H : Heap) (hR : Row H cv 7 (cs.map Cell.c)) (hbig : cs.length ≤ 1000) (hY : Row H dv 3 (ds.map Day.c)) (hbd : ds.length ≤ 1000) (hZ : Row H rv 4 (rs.map Rd.c)) (hbr : rs.length ≤ 1000) (hrs : ∀ x ∈ rs, x.ok cs ds = true) (hd0 : daysErr cs g ds = 0) (hs : g.klo ≤ s ∧ s ≤ g.khi) : RR (m + 40) (.fn 36 [.agg [cv, I g.slo, I g.shi, I g.klo, I g.khi, I g.melt], dv, rv, I s]) H = some (.bool (agreesB cs g ds rs s), H) := by
  refine (R_fn _ _ _ _ _).trans ?_; refine fn_ok Try.func36 rfl rfl (by kernel_rfl) (by kernel_rfl) ?_
  obtain ⟨W, hW, hg, hN, hE, hG⟩ := wOf H
  rw [← hW]
  have hlc : lenOf cv = some cs.length := by simpa using hR.len
  have hld : lenOf dv = some ds.length := by simpa using hY.len
  have hlr : lenOf rv = some rs.length := by simpa using hZ.len
  have pc := lpl hlc
  have pd := lpl hld
  have hdc : dv.cells = [dv] := (len_one hld).1
  have hdc0 : dv.cells[0]? = some dv := by rw [hdc]; rfl
  have hF := fit_soak hd0 hs
  have hn8 := hF.n8
  have hd30 := hF.d30
  refine kS ?_; refine kR ?_; refine OkO.box rfl rfl ?_; refine oA rfl rfl ?_; refine oN ?_; refine kS ?_; refine kR ?_; refine oL rfl rfl (qlg4 6) ?_; refine oM rfl rfl ?_; refine oE rfl rfl rfl rfl rfl (c29l (m + 38) cv dv cs g ds _ (hR.ext (hE _ (by (try dsimp only); repeat (first | exact hG | apply Grow.new | (refine Grow.put ?_ _ (by first | omega | (simp only [hNw, hPt]; omega))))))) (hY.ext (hE _ (by (try dsimp only); repeat (first | exact hG | apply Grow.new | (refine Grow.put ?_ _ (by first | omega | (simp only [hNw, hPt]; omega))))))) (by omega) hd30) ?_
  rintro vU HU ⟨lvU, rvU, rfl, qU, lU, rU⟩
  have gU : Grow W HU := Grow.ret (by (try dsimp only); repeat (first | exact hG | apply Grow.new | (refine Grow.put ?_ _ (by first | omega | (simp only [hNw, hPt]; omega))))) qU
  have e0U : (HU.get W.next).bind AObj.cs = some [cv, I g.slo, I g.shi, I g.klo, I g.khi, I g.melt] := by rw [qU.ext.get _ (by first | omega | (simp only [hNw]; omega))]; first | assumption | (simp (disch := first | omega | (simp only [hNw, hPt]; omega)) only [gN] <;> first | rfl | assumption)
  have nU : W.next < HU.next := by have := qU.ext.next; simp only [hNw] at this; omega
  have plU := lpl lU.len
  have prU := lpl rU.len
  have olU := len_one lU.len
  have orU := len_one rU.len
  refine OkO.alloc (z := [.int .i64 0, .int .i64 0, .nils, .nils]) rfl (by kernel_rfl) ?_; refine oT rfl rfl rfl (sAc (n := 4) (ag := true) (l := [I g.slo, I g.klo, lvU, rvU]) (by kernel_rfl) (by first | assumption | simp (disch := first | omega | (simp only [hNw, hPt]; omega)) only [gN] <;> first | rfl | assumption) rfl (by show atoms [I g.slo, I g.klo, lvU, rvU] = true; simp [atoms, olU.2, orU.2, show ∀ z, (I z).atom = true from fun _ => rfl]) rfl) ?_; refine oN ?_; refine kS ?_; refine kR ?_; refine oM rfl rfl ?_; refine oF (o := 1) rfl (by kernel_rfl) rfl ?_; refine oT rfl rfl rfl (sAc (n := 1) (ag := false) (by kernel_rfl) (by first | assumption | (simp (disch := first | omega | (simp only [hNw, hPt]; omega)) only [gN] <;> first | rfl | assumption | exact gp0 _ _ _ | exact gn0 _ _)) rfl (by first | rfl | assumption) (by first | rfl | exact spl_set _ _ _ (by first | assumption | omega | (simp; omega)))) ?_; refine oN ?_; refine kS ?_; refine kS ?_; refine kR ?_; refine oA rfl rfl ?_; refine oN ?_; refine Ok.block ?_
  refine Ok.loop (fun n s_ => ∃ i : Nat, n = rs.length - i ∧ i ≤ rs.length ∧ (∀ j, j < i → ∀ x, rs[j]? = some x → inB (lvS cs g ds s x.day x.cell) x.lo x.hi = true) ∧ Has 6 [(1, dv), (2, rv), (4, .ptr W.next 0), (8, .bool false), (9, .ptr HU.next 0), (10, I (i : Int))] s_.T ∧ s_.D = [] ∧ Grow W s_.H ∧ (s_.H.get W.next).bind AObj.cs = some [cv, I g.slo, I g.shi, I g.klo, I g.khi, I g.melt] ∧ (s_.H.get HU.next).bind AObj.cs = some [I g.slo, I s, lvU, rvU] ∧ Ints s_.H lvU (lowL cs) ∧ Ints s_.H rvU (lowR ds) ∧ HU.next < s_.H.next) (rs.length) (by unfold loopFuel; omega)
    ⟨0, rfl, Nat.zero_le _, nofun, Has.of (by kernel_rfl), rfl, (by (try dsimp only); repeat (first | exact gU | apply Grow.new | (refine Grow.put ?_ _ (by first | omega | (simp only [hNw, hPt]; omega))))), by rw [(show Ext HU _ from (by (try dsimp only); repeat (first | exact Ext.refl _ | assumption | apply Ext.new | (refine Ext.put ?_ _ (by first | omega | (simp only [hNw, hPt]; omega)))))).get _ (by omega)]; exact e0U, by rw [gp0]; rfl, lU.ext (show Ext HU _ from (by (try dsimp only); repeat (first | exact Ext.refl _ | assumption | apply Ext.new | (refine Ext.put ?_ _ (by first | omega | (simp only [hNw, hPt]; omega)))))), rU.ext (show Ext HU _ from (by (try dsimp only); repeat (first | exact Ext.refl _ | assumption | apply Ext.new | (refine Ext.put ?_ _ (by first | omega | (simp only [hNw, hPt]; omega)))))), by simp only [hNw, hPt]; omega⟩ ?_
  rintro n ⟨T, D, G⟩ ⟨i, hn, hi, hall, ⟨f, hT⟩, hD, hg, e0, e1, lG, rG, hbn⟩
  dsimp only at *
  subst hT hD
  have hgn := hg.next
  refine kS ?_; refine kS ?_; refine kR ?_; refine oM rfl rfl ?_; refine oM rfl rfl ?_; refine oB rfl rfl rfl qbl ?_; refine OkO.bin rfl rfl rfl (bin_lss _ _) ?_; refine oN ?_
  refine Ok.cond rfl (fun h1 => ?_) (fun h1 => ?_)
  · have hlt : i < rs.length := by simpa using h1
    obtain ⟨bb, off, ccs, i1, i2, i3, i4⟩ := (hZ.ext (hE _ hg)).at_ i rs[i].c (by simp [hlt])
    have j0 : ccs[off + 0]? = some (I rs[i].cell) := seg_get i3 0 (by omega)
    have j1 : ccs[off + 1]? = some (I rs[i].day) := seg_get i3 1 (by omega)
    have j2 : seg ccs (off + 2) 2 = some [I rs[i].lo, I rs[i].hi] := seg_sub i3 2 2 (by omega) (by omega)
    obtain ⟨x1, x2, x3, x4⟩ := rd_in2 (hrs rs[i] (List.getElem_mem hlt))
    obtain ⟨dd, hdd⟩ : ∃ dd : Nat, rs[i].day = dd := ⟨rs[i].day.toNat, by omega⟩
    obtain ⟨cc, hcc⟩ : ∃ cc : Nat, rs[i].cell = cc := ⟨rs[i].cell.toNat, by omega⟩
    have hlv : lvS cs g ds s rs[i].day rs[i].cell = (levP cs g ds ⟨g.slo, s⟩ (lowL cs) (lowR ds) (dd + 1)).getD cc 0 := by unfold lvS; rw [hdd, hcc]; rfl
    have hl8 := (lev_facts hF (dd + 1) (by omega)).1
    refine Ok.skip ?_; refine kS ?_; refine Ok.block ?_; refine kS ?_; refine Ok.drawn [(0, true, []), (1, true, []), (2, true, []), (3, true, []), (4, true, []), (5, true, []), (6, true, []), (7, true, []), (8, true, []), (9, false, [7]), (10, true, []), (11, true, []), (12, true, []), (13, true, []), (14, true, []), (15, true, []), (16, true, [])] (by kernel_rfl) ?_; refine pS ?_; refine oL rfl rfl (qlg4 6) ?_; refine oN ⟨rfl, ?_⟩; refine pS ?_; refine oM rfl rfl ?_; refine oN ⟨rfl, ?_⟩; refine pS ?_; refine oL rfl rfl (qlg4 4) ?_; refine oN ⟨rfl, ?_⟩; refine pS ?_; refine oM rfl rfl ?_; refine oN ⟨rfl, ?_⟩; refine pS ?_; refine oM rfl rfl ?_; refine oN ⟨rfl, ?_⟩; refine pS ?_; refine qX (sz := 4) (n := i) rfl rfl rfl ?_; refine oN ⟨rfl, ?_⟩; refine pS ?_; refine oF (o := 1) rfl (by kernel_rfl) rfl ?_; refine oN ⟨rfl, ?_⟩; refine pS ?_; refine oL rfl rfl (qla3 1) ?_; refine oN ⟨rfl, ?_⟩; refine pS ?_; refine OkO.bin rfl rfl rfl (bin_add (by omega) (by omega)) ?_; refine oN ⟨rfl, ?_⟩; refine pS ?_; refine oE rfl rfl rfl rfl rfl (c26 cv dv lvU rvU cs g ds ⟨g.slo, s⟩ (lowL cs) (lowR ds) hF (dd + 1) _ _ _ (by omega) (by push_cast; omega) (by omega) (hR.ext (hE _ hg)) (hY.ext (hE _ hg)) lG rG) ?_
    rintro vS HS ⟨v6, rfl, qS, inS⟩
    have gS : Grow W HS := Grow.ret hg qS
    have i2S : (HS.get bb).bind AObj.cs = some ccs := by rw [qS.ext.get _ i4]; exact i2
    have e0S : (HS.get W.next).bind AObj.cs = some [cv, I g.slo, I g.shi, I g.klo, I g.khi, I g.melt] := by rw [qS.ext.get _ (by omega)]; exact e0
    have e1S : (HS.get HU.next).bind AObj.cs = some [I g.slo, I s, lvU, rvU] := by rw [qS.ext.get _ hbn]; exact e1
    obtain ⟨yb, yo, ycs, y1, y2, y3, y4⟩ := inS.at_ cc [I ((levP cs g ds ⟨g.slo, s⟩ (lowL cs) (lowR ds) (dd + 1)).getD cc 0)] (by rw [List.getElem?_map, List.getElem?_take_of_lt (by omega), List.getElem?_eq_getElem (by omega), List.getD_eq_getElem?_getD, List.getElem?_eq_getElem (by omega)]; rfl)
    have y5 := seg_one y3
    refine oN ⟨(sco (qsa6 1 rfl rfl rfl) rfl), ?_⟩; refine pS ?_; refine oM rfl rfl ?_; refine oN ⟨rfl, ?_⟩; refine pS ?_; refine OkO.extract rfl rfl rfl ?_; refine oN ⟨rfl, ?_⟩; refine pS ?_; refine OkO.extract rfl rfl rfl ?_; refine oN ⟨rfl, ?_⟩; refine pS ?_; refine OkO.extract rfl rfl rfl ?_; refine oN ⟨rfl, ?_⟩; refine pS ?_; refine oA rfl rfl ?_; refine oN ⟨rfl, ?_⟩; refine pS ?_; refine oA rfl rfl ?_; refine oN ⟨rfl, ?_⟩; refine pS ?_; refine oA rfl rfl ?_; refine oN ⟨rfl, ?_⟩; refine OkP.nil ?_; refine kS ?_; refine Ok.drawn [(0, true, []), (1, true, []), (2, true, []), (3, true, []), (4, true, []), (5, true, []), (6, true, []), (7, true, []), (8, true, []), (9, true, []), (10, true, []), (11, true, []), (12, true, []), (13, false, [10]), (14, true, [])] (by kernel_rfl) ?_; refine pS ?_; refine oM rfl rfl ?_; refine oN ⟨rfl, ?_⟩; refine pS ?_; refine oM rfl rfl ?_; refine oN ⟨rfl, ?_⟩; refine pS ?_; refine qX (sz := 4) (n := i) rfl rfl rfl ?_; refine oN ⟨rfl, ?_⟩; refine pS ?_; refine oF (o := 2) rfl (by kernel_rfl) rfl ?_; refine oN ⟨rfl, ?_⟩; refine pS ?_; refine oL rfl rfl (qlg4 2) ?_; refine oN ⟨rfl, ?_⟩; refine pS ?_; refine oM rfl rfl ?_; refine oN ⟨rfl, ?_⟩; refine pS ?_; refine oM rfl rfl ?_; refine oN ⟨rfl, ?_⟩; refine pS ?_; refine oM rfl rfl ?_; refine oN ⟨rfl, ?_⟩; refine pS ?_; refine qX (sz := 4) (n := i) rfl rfl rfl ?_; refine oN ⟨rfl, ?_⟩; refine pS ?_; refine oF (o := 0) rfl (by kernel_rfl) rfl ?_; refine oN ⟨rfl, ?_⟩; refine pS ?_; refine oL rfl rfl (qla3 1) ?_; refine oN ⟨rfl, ?_⟩; refine pS ?_; refine qX (sz := 1) (n := cc) rfl rfl (congrArg (fun z => some (I z)) hcc) ?_; refine oN ⟨rfl, ?_⟩; refine pS ?_; refine oL rfl rfl (qla3 1) ?_; refine oN ⟨rfl, ?_⟩; refine pS ?_; refine oV rfl rfl rfl rfl rfl (c59 (m + 37) rs[i].lo rs[i].hi ((levP cs g ds ⟨g.slo, s⟩ (lowL cs) (lowR ds) (dd + 1)).getD cc 0) _) ?_
    refine oN ⟨(sco (qsa6 1 rfl rfl rfl) rfl), ?_⟩; refine pS ?_; refine OkO.un rfl rfl rfl ?_; refine oN ⟨rfl, ?_⟩; refine OkP.nil ?_
    refine Ok.cond rfl (fun h2 => ?_) (fun h2 => ?_)
    · have hbad : inB (lvS cs g ds s rs[i].day rs[i].cell) rs[i].lo rs[i].hi = false := by rw [hlv]; simpa using h2
      refine kS ?_; refine kR ?_; refine oA rfl rfl ?_; refine oN ?_
      refine Ok.ret ⟨.inr rfl, ?_⟩
      exact back_flat rfl (congrArg AV.bool (by symm; unfold agreesB; rw [List.all_eq_false]; exact ⟨rs[i], List.getElem_mem hlt, by rw [hbad]; simp⟩)) rfl (by rw [← hW]; exact gS)
    · have hok : inB (lvS cs g ds s rs[i].day rs[i].cell) rs[i].lo rs[i].hi = true := by rw [hlv]; simpa using h2
      refine Ok.skip ?_; refine kR ?_; refine oM rfl rfl ?_; refine OkO.bin rfl rfl rfl (bin_add (by omega) (by omega)) ?_; refine oA rfl rfl ?_; refine oN ?_
      refine ⟨rs.length - (i + 1), by omega, i + 1, rfl, hlt, fun j hj x hx => ?_, Has.of (by kernel_rfl), rfl, gS, e0S, e1S, lG.ext qS.ext, rG.ext qS.ext, Nat.lt_of_lt_of_le hbn qS.ext.next⟩
      by_cases e : j = i
      · subst e; rw [List.getElem?_eq_getElem hlt] at hx; cases hx; exact hok
      · exact hall j (by omega) x hx
  · have hge : i = rs.length := by simp at h1; omega
    refine Ok.exit ?_; refine kS ?_; refine kR ?_; refine oA rfl rfl ?_; refine oN ?_
    refine Ok.ret ⟨.inr rfl, ?_⟩
    exact back_flat rfl (congrArg AV.bool (by symm; unfold agreesB; rw [List.all_eq_true]; intro x hx; obtain ⟨j, hj, rfl⟩ := List.mem_iff_getElem.1 hx; exact hall j (by omega) _ (List.getElem?_eq_getElem hj))) rfl (by rw [← hW]; exact hg)
end
end Go.Ev

set_option maxRecDepth 100000
set_option linter.unusedSimpArgs false
set_option linter.unusedVariables false
namespace Go.EvN
open Go Go.Proofs Go.Ev
noncomputable section
theorem c65 (m : Nat) (cv dv : AV) (cs : List Cell) (g : Gr) (ds : List Day) (rs : List Rd) (n mb : Nat) (o : AObj) (H : Heap) (hR : Row H cv 7 (cs.map Cell.c)) (hbig : cs.length ≤ 1000) (hY : Row H dv 3 (ds.map Day.c)) (hbd : ds.length ≤ 1000) (hbr : rs.length ≤ 1000) (hm : H.get mb = some o) (hmb : mb < H.next) (ho : MapO o encW (mapV (wf rs))) (hrs : ∀ x ∈ rs, x.ok cs ds = true) (hd0 : daysErr cs g ds = 0) (hn9 : g.khi = g.klo + (n : Int) - 1) : FnN Try.prog (RR (m + 26)) 65 [.agg [cv, I g.slo, I g.shi, I g.klo, I g.khi, I g.melt], dv, .map mb] H fun v H' => ∃ r1 r2 : Nat, v = .agg [I (g.klo + (r1 : Int)), I (g.klo + (r2 : Int) - 1)] ∧ H' = H ∧ r1 ≤ n ∧ (r1 = 0 ∨ (!belowB cs g ds rs (g.klo + ((r1 - 1 : Nat) : Int))) = false) ∧ (r1 = n ∨ (!belowB cs g ds rs (g.klo + (r1 : Int))) = true) ∧ r2 ≤ n ∧ (r2 = 0 ∨ aboveB cs g ds rs (g.klo + ((r2 - 1 : Nat) : Int)) = false) ∧ (r2 = n ∨ aboveB cs g ds rs (g.klo + (r2 : Int)) = true) := by
  refine fn_okE Try.func65 rfl rfl (by kernel_rfl) (by kernel_rfl) ?_
  obtain ⟨W, hW, hg, hN, hE, hG⟩ := wOf H
  rw [← hW]
  have hlc : lenOf cv = some cs.length := by simpa using hR.len
  have hld : lenOf dv = some ds.length := by simpa using hY.len
  have pc := lpl hlc
  have pd := lpl hld
  have hdc : dv.cells = [dv] := (len_one hld).1
  have hdc0 : dv.cells[0]? = some dv := by rw [hdc]; rfl
  have hF := fit_of (low_ok hd0)
  have hn8 := hF.n8
  have hk9 := (gf_of hd0).soak
  have hc1 : cv.atom = true := (len_one hlc).2
  have hd1 : dv.atom = true := (len_one hld).2
  refine kS ?_; refine kR ?_; refine OkO.box rfl rfl ?_; refine OkO.box rfl rfl ?_; refine OkO.alloc (z := [.int .i64 0, .int .i64 0]) rfl (by kernel_rfl) ?_; refine oN ?_; refine kS ?_; refine kR ?_; refine OkO.build (z := [.nilf]) (pl := [(0, 1)]) rfl (by kernel_rfl) rfl rfl ?_; refine oL rfl rfl (qlg4 6) ?_; refine oM rfl rfl ?_; refine oE rfl rfl rfl rfl rfl (c93l (m + 23) cv dv cs g ds _ (hR.ext (hE _ (by (try dsimp only); repeat (first | exact hG | apply Grow.new | (refine Grow.put ?_ _ (by first | omega | (simp only [hNw, hPt]; omega))))))) hbig (hY.ext (hE _ (by (try dsimp only); repeat (first | exact hG | apply Grow.new | (refine Grow.put ?_ _ (by first | omega | (simp only [hNw, hPt]; omega))))))) hbd hc1 hd1 (by omega)) ?_
  rintro v93 H93 ⟨lv, rv, rfl, q93, l93, r93⟩
  have g93 : Grow W H93 := Grow.ret (by (try dsimp only); repeat (first | exact hG | apply Grow.new | (refine Grow.put ?_ _ (by first | omega | (simp only [hNw, hPt]; omega))))) q93
  have n93 : W.next + 3 ≤ H93.next := by have := q93.ext.next; simp only [hNw] at this; omega
  have plv := lpl l93.len
  have prv := lpl r93.len
  have b0E : (H93.get W.next).bind AObj.cs = some [cv, I g.slo, I g.shi, I g.klo, I g.khi, I g.melt] := by rw [q93.ext.get _ (by simp only [hNw]; omega)]; first | assumption | (simp (disch := first | omega | (simp only [hNw, hPt]; omega)) only [gN] <;> first | rfl | assumption)
  have b1E : (H93.get (W.next + 1)).bind AObj.cs = some [.map mb] := by rw [q93.ext.get _ (by simp only [hNw]; omega)]; first | assumption | (simp (disch := first | omega | (simp only [hNw, hPt]; omega)) only [gN] <;> first | rfl | assumption)
  have b2E : H93.get (W.next + 2) = some (.cells [I 0, I 0] 36) := by rw [q93.ext.get _ (by simp only [hNw]; omega)]; first | assumption | exact gn0 _ _ | (simp (disch := first | omega | (simp only [hNw, hPt]; omega)) only [gN] <;> first | rfl | assumption)
  refine OkO.makeFunc rfl rfl rfl ?_; refine OkO.alloc (z := [.nilf]) rfl (by kernel_rfl) ?_; refine oT rfl rfl rfl (sAc (n := 1) (ag := false) (l := [.fn 94 [.agg [cv, I g.slo, I g.shi, I g.klo, I g.khi, I g.melt, dv, I g.slo, I g.klo, lv, rv]] []]) (by kernel_rfl) (gn0 _ _) rfl rfl rfl) ?_; refine oN ?_
  have hXE : Ext H93 ((H93.new (.cells [.nilf] 161)).put H93.next (.cells [.fn 94 [.agg [cv, I g.slo, I g.shi, I g.klo, I g.khi, I g.melt, dv, I g.slo, I g.klo, lv, rv]] []] 161)) := (Ext.refl _).new _ |>.put _ (Nat.le_refl _)
  have gX : Grow W ((H93.new (.cells [.nilf] 161)).put H93.next (.cells [.fn 94 [.agg [cv, I g.slo, I g.shi, I g.klo, I g.khi, I g.melt, dv, I g.slo, I g.klo, lv, rv]] []] 161)) := (g93.new _).put _ (by omega)
  have hcap : (((H93.new (.cells [.nilf] 161)).put H93.next (.cells [.fn 94 [.agg [cv, I g.slo, I g.shi, I g.klo, I g.khi, I g.melt, dv, I g.slo, I g.klo, lv, rv]] []] 161)).get H93.next).bind AObj.cs = some [.fn 94 [.agg [cv, I g.slo, I g.shi, I g.klo, I g.khi, I g.melt, dv, I g.slo, I g.klo, lv, rv]] []] := by rw [gp0]; rfl
  have hcN : H93.next < ((H93.new (.cells [.nilf] 161)).put H93.next (.cells [.fn 94 [.agg [cv, I g.slo, I g.shi, I g.klo, I g.khi, I g.melt, dv, I g.slo, I g.klo, lv, rv]] []] 161)).next := by simp
  have b0X : (((H93.new (.cells [.nilf] 161)).put H93.next (.cells [.fn 94 [.agg [cv, I g.slo, I g.shi, I g.klo, I g.khi, I g.melt, dv, I g.slo, I g.klo, lv, rv]] []] 161)).get W.next).bind AObj.cs = some [cv, I g.slo, I g.shi, I g.klo, I g.khi, I g.melt] := by rw [hXE.get _ (by omega)]; exact b0E
  have b2X : ((H93.new (.cells [.nilf] 161)).put H93.next (.cells [.fn 94 [.agg [cv, I g.slo, I g.shi, I g.klo, I g.khi, I g.melt, dv, I g.slo, I g.klo, lv, rv]] []] 161)).get (W.next + 2) = some (.cells [I 0, I 0] 36) := by rw [hXE.get _ (by omega)]; exact b2E
  generalize ((H93.new (.cells [.nilf] 161)).put H93.next (.cells [.fn 94 [.agg [cv, I g.slo, I g.shi, I g.klo, I g.khi, I g.melt, dv, I g.slo, I g.klo, lv, rv]] []] 161)) = X at hXE gX hcap hcN b0X b2X ⊢
  refine kS ?_; refine kR ?_; refine OkO.makeFunc rfl rfl rfl ?_; refine oA rfl rfl ?_; refine oN ?_; refine kS ?_; refine kR ?_; refine OkO.makeFunc rfl rfl rfl ?_; refine oA rfl rfl ?_; refine oN ?_; refine kS ?_; refine Ok.drawn [(0, true, []), (1, true, []), (2, true, []), (4, true, []), (5, true, []), (6, true, []), (3, false, [5]), (7, false, [1]), (8, true, []), (9, true, []), (10, false, [])] (by kernel_rfl) ?_; refine pS ?_; refine oF (o := 3) rfl (by kernel_rfl) rfl ?_; refine oN ⟨rfl, ?_⟩; refine pS ?_; refine oL rfl rfl (qlg4 2) ?_; refine oN ⟨rfl, ?_⟩; refine pS ?_; refine oM rfl rfl ?_; refine oN ⟨rfl, ?_⟩; refine pS ?_; refine oF (o := 3) rfl (by kernel_rfl) rfl ?_; refine oN ⟨rfl, ?_⟩; refine pS ?_; refine oL rfl rfl (qlg4 2) ?_; refine oN ⟨rfl, ?_⟩; refine pS ?_; refine oM rfl rfl ?_; refine oN ⟨rfl, ?_⟩; refine pS ?_; refine OkO.callN rfl rfl rfl rfl rfl (c67 (m + 26) 95 g.klo g.khi n (W.next + 1) H93.next (fun i => !belowB cs g ds rs (g.klo + (i : Int))) _ (by omega) hn9 (by omega) (fun i hi G3 hG3 => c95 (m + 10) cv dv lv rv cs g ds rs (g.klo + (i : Int)) (W.next + 1) H93.next mb o G3 (hR.ext ((hE _ g93).trans (hXE.trans hG3))) (hY.ext ((hE _ g93).trans (hXE.trans hG3))) (l93.ext (hXE.trans hG3)) (r93.ext (hXE.trans hG3)) hd0 (by omega) (by rw [((hE _ g93).trans (hXE.trans hG3)).get _ hmb]; exact hm) (Nat.lt_of_lt_of_le hmb ((hE _ g93).trans (hXE.trans hG3)).next) ho hbr hrs (by rw [(hXE.trans hG3).get _ (by omega)]; exact b1E) (by rw [hG3.get _ hcN]; exact hcap) (Nat.lt_of_lt_of_le (by omega) (hXE.trans hG3).next) (Nat.lt_of_lt_of_le hcN hG3.next))) ?_
  rintro vA HA ⟨r1, rfl, rfl, p1, p2, p3⟩
  refine oN ⟨(sco (qsg7 2 rfl rfl rfl) rfl), ?_⟩; refine pS ?_; refine OkO.callN rfl rfl rfl rfl rfl (c67 (m + 26) 97 g.klo g.khi n (W.next + 1) H93.next (fun i => aboveB cs g ds rs (g.klo + (i : Int))) _ (by omega) hn9 (by omega) (fun i hi G3 hG3 => c97 (m + 10) cv dv lv rv cs g ds rs (g.klo + (i : Int)) (W.next + 1) H93.next mb o G3 (hR.ext ((hE _ g93).trans (hXE.trans hG3))) (hY.ext ((hE _ g93).trans (hXE.trans hG3))) (l93.ext (hXE.trans hG3)) (r93.ext (hXE.trans hG3)) hd0 (by omega) (by rw [((hE _ g93).trans (hXE.trans hG3)).get _ hmb]; exact hm) (Nat.lt_of_lt_of_le hmb ((hE _ g93).trans (hXE.trans hG3)).next) ho hbr hrs (by rw [(hXE.trans hG3).get _ (by omega)]; exact b1E) (by rw [hG3.get _ hcN]; exact hcap) (Nat.lt_of_lt_of_le (by omega) (hXE.trans hG3).next) (Nat.lt_of_lt_of_le hcN hG3.next))) ?_
  rintro vB HB ⟨r2, rfl, rfl, p4, p5, p6⟩
  refine oN ⟨(sco (qsg7 2 rfl rfl rfl) rfl), ?_⟩; refine pS ?_; refine OkO.bin rfl rfl rfl (bin_sub (by omega) (by omega)) ?_; refine oN ⟨rfl, ?_⟩; refine pS ?_; refine OkO.build (z := [.int .i64 0, .int .i64 0]) (pl := [(0, 1), (1, 1)]) rfl (by kernel_rfl) rfl rfl ?_; refine oN ⟨rfl, ?_⟩; refine pS ?_; refine oT rfl rfl rfl (sAc (n := 2) (ag := true) (l := [I (g.klo + (r1 : Int)), I (g.klo + (r2 : Int) - 1)]) (by kernel_rfl) b2X rfl rfl rfl) ?_; refine oN ⟨rfl, ?_⟩; refine OkP.nil ?_
  refine Ok.ret ⟨.inr rfl, ?_⟩
  exact ⟨_, _, back_flat (resV_cell (b := W.next + 2) (off := 0) rfl (ldg (n := 2) (by kernel_rfl) (show ((HB.put (W.next + 2) (.cells [I (g.klo + (r1 : Int)), I (g.klo + (r2 : Int) - 1)] 36)).get (W.next + 2)).bind AObj.cs = some [I (g.klo + (r1 : Int)), I (g.klo + (r2 : Int) - 1)] by rw [gp0]; rfl) rfl) resV_nil) rfl rfl (by rw [← hW]; exact gX.put _ (by first | omega | (simp only [hNw]; omega))), r1, r2, rfl, rfl, p1, p2, p3, p4, p5, p6⟩
end
end Go.EvN

set_option maxRecDepth 100000
set_option linter.unusedSimpArgs false
set_option linter.unusedVariables false
namespace Go.Ev
open Go Go.Proofs
noncomputable section
theorem read_ok {cs : List Cell} {g : Gr} {ds : List Day} {rs : List Rd} (h : readErr cs g ds rs = 0) : daysErr cs g ds = 0 ∧ rs.length ≤ 30 ∧ (∀ x ∈ rs, x.ok cs ds = true) ∧ knownB cs g ds = true := by
  unfold readErr at h
  split at h
  · rename_i h0
    unfold learnErr at h
    split at h
    · cases h
    · rename_i h1
      split at h
      · rename_i h2
        split at h
        · rename_i h3
          exact ⟨h0, by omega, fun x hx => List.all_eq_true.1 h2 x hx, h3⟩
        · cases h
      · cases h
  · rename_i h0; exact absurd h h0
theorem c64w (m : Nat) (cv dv rv : AV) (cs : List Cell) (g : Gr) (ds : List Day) (rs : List Rd) (H : Heap) (hR : Row H cv 7 (cs.map Cell.c)) (hbig : cs.length ≤ 1000) (hY : Row H dv 3 (ds.map Day.c)) (hbd : ds.length ≤ 1000) (hZ : Row H rv 4 (rs.map Rd.c)) (hbr : rs.length ≤ 1000) {e : Int} (hke : readErr cs g ds rs = e) : RR (m + 11) (.fn 64 [.agg [cv, I g.slo, I g.shi, I g.klo, I g.khi, I g.melt], dv, rv]) H = some (I e, H) := by
  rw [← hke]; exact c64 m cv dv rv cs g ds rs H hR hbig hY hbd hZ hbr
theorem c33E (m : Nat) (cv dv rv : AV) (cs : List Cell) (g : Gr) (ds : List Day) (rs : List Rd) (H : Heap) (hR : Row H cv 7 (cs.map Cell.c)) (hbig : cs.length ≤ 1000) (hY : Row H dv 3 (ds.map Day.c)) (hbd : ds.length ≤ 1000) (hZ : Row H rv 4 (rs.map Rd.c)) (hbr : rs.length ≤ 1000) {e : Int} (hke : readErr cs g ds rs = e) (he : ¬e = 0) : RR (m + 41) (.fn 33 [.agg [cv, I g.slo, I g.shi, I g.klo, I g.khi, I g.melt], dv, rv]) H = some (.tup [.agg [I 0, I 0], I e], H) := by
  refine (R_fn _ _ _ _ _).trans ?_; refine fn_ok Try.func33 rfl rfl (by kernel_rfl) (by kernel_rfl) ?_
  obtain ⟨W, hW, hg, hN, hE, hG⟩ := wOf H
  rw [← hW]
  have hlc : lenOf cv = some cs.length := by simpa using hR.len
  have hld : lenOf dv = some ds.length := by simpa using hY.len
  have hlr : lenOf rv = some rs.length := by simpa using hZ.len
  have pc := lpl hlc
  have pd := lpl hld
  have hdc : dv.cells = [dv] := (len_one hld).1
  have hdc0 : dv.cells[0]? = some dv := by rw [hdc]; rfl
  refine kS ?_; refine kR ?_; refine OkO.box rfl rfl ?_; refine OkO.alloc (z := [.int .i64 0, .int .i64 0]) rfl (by kernel_rfl) ?_; refine oA rfl rfl ?_; refine oN ?_; refine kS ?_; refine kS ?_; refine kR ?_; refine oL rfl rfl (qlg4 6) ?_; refine oM rfl rfl ?_; refine oM rfl rfl ?_; refine oV rfl rfl rfl rfl rfl (c64w (m + 29) cv dv rv cs g ds rs _ (hR.ext (hE _ (by (try dsimp only); repeat (first | exact hG | apply Grow.new | (refine Grow.put ?_ _ (by first | omega | (simp only [hNw, hPt]; omega))))))) hbig (hY.ext (hE _ (by (try dsimp only); repeat (first | exact hG | apply Grow.new | (refine Grow.put ?_ _ (by first | omega | (simp only [hNw, hPt]; omega))))))) hbd (hZ.ext (hE _ (by (try dsimp only); repeat (first | exact hG | apply Grow.new | (refine Grow.put ?_ _ (by first | omega | (simp only [hNw, hPt]; omega))))))) hbr hke) ?_; refine oA rfl rfl ?_; refine oN ?_; refine kS ?_; refine kR ?_; refine oM rfl rfl ?_; refine OkO.bin rfl rfl rfl (bin_neq _ _) ?_; refine oN ?_
  refine Ok.cond rfl (fun h1 => ?_) (fun h1 => ?_)
  · refine kS ?_
    refine kR ?_; refine OkO.build (z := [.int .i64 0, .int .i64 0]) (pl := [(0, 1), (1, 1)]) rfl (by kernel_rfl) rfl rfl ?_; refine oM rfl rfl ?_; refine oT rfl rfl rfl (sAc (n := 2) (ag := true) (by kernel_rfl) (by first | assumption | (simp (disch := first | omega | (simp only [hNw, hPt]; omega)) only [gN] <;> first | rfl | assumption | exact gp0 _ _ _ | exact gn0 _ _)) rfl (by first | rfl | assumption) (by first | rfl | exact spl_set _ _ _ (by first | assumption | omega | (simp; omega)))) ?_; refine oA rfl rfl ?_; refine oN ?_
    refine Ok.ret ⟨.inr rfl, ?_⟩
    exact back_flat (resV_cell (b := W.next + 1) (off := 0) rfl (ldg (n := 2) (by kernel_rfl) (by first | exact congrArg (fun z => z.bind AObj.cs) (gp0 _ _ _) | (rw [gp0]; rfl) | (rw [gn1]; rfl) | (simp (disch := first | omega | (simp only [hNw, hPt]; omega)) only [gN] <;> first | rfl | assumption)) rfl) (resV_tmp rfl resV_nil)) rfl rfl (by rw [← hW]; exact (by (try dsimp only); repeat (first | exact hG | apply Grow.new | (refine Grow.put ?_ _ (by first | omega | (simp only [hNw, hPt]; omega))))))
  · exact absurd h1 (by simp [he])
end
end Go.Ev

set_option maxRecDepth 100000
set_option linter.unusedSimpArgs false
set_option linter.unusedVariables false
namespace Go.EvN
open Go Go.Proofs Go.Ev
noncomputable section
theorem c33K (m : Nat) (cv dv rv : AV) (cs : List Cell) (g : Gr) (ds : List Day) (rs : List Rd) (H : Heap) (hR : Row H cv 7 (cs.map Cell.c)) (hbig : cs.length ≤ 1000) (hY : Row H dv 3 (ds.map Day.c)) (hbd : ds.length ≤ 1000) (hZ : Row H rv 4 (rs.map Rd.c)) (hbr : rs.length ≤ 1000) (hke : readErr cs g ds rs = 0) : FnN Try.prog (RR (m + 41)) 33 [.agg [cv, I g.slo, I g.shi, I g.klo, I g.khi, I g.melt], dv, rv] H fun v H' => ∃ a b : Int, g.klo ≤ a ∧ a ≤ g.khi + 1 ∧ g.klo - 1 ≤ b ∧ b ≤ g.khi ∧ (∀ s, g.klo ≤ s → s ≤ g.khi → (agreesB cs g ds rs s = true ↔ a ≤ s ∧ s ≤ b)) ∧ H' = H ∧ ((b < a ∧ v = .tup [.agg [I 0, I 0], I 7]) ∨ (a ≤ b ∧ v = .tup [.agg [I a, I b], I 0])) := by
  refine fn_okE Try.func33 rfl rfl (by kernel_rfl) (by kernel_rfl) ?_
  obtain ⟨W, hW, hg, hN, hE, hG⟩ := wOf H
  rw [← hW]
  have hlc : lenOf cv = some cs.length := by simpa using hR.len
  have hld : lenOf dv = some ds.length := by simpa using hY.len
  have hlr : lenOf rv = some rs.length := by simpa using hZ.len
  have pc := lpl hlc
  have pd := lpl hld
  have hdc : dv.cells = [dv] := (len_one hld).1
  have hdc0 : dv.cells[0]? = some dv := by rw [hdc]; rfl
  obtain ⟨hd0, hl30, hrs, hkn⟩ := read_ok hke
  have hk9 := (gf_of hd0).soak
  obtain ⟨n, hn9⟩ : ∃ n : Nat, g.khi = g.klo + (n : Int) - 1 := ⟨(g.khi - g.klo + 1).toNat, by omega⟩
  refine kS ?_; refine kR ?_; refine OkO.box rfl rfl ?_; refine OkO.alloc (z := [.int .i64 0, .int .i64 0]) rfl (by kernel_rfl) ?_; refine oA rfl rfl ?_; refine oN ?_; refine kS ?_; refine kS ?_; refine kR ?_; refine oL rfl rfl (qlg4 6) ?_; refine oM rfl rfl ?_; refine oM rfl rfl ?_; refine oV rfl rfl rfl rfl rfl (c64w (m + 30) cv dv rv cs g ds rs _ (hR.ext (hE _ (by (try dsimp only); repeat (first | exact hG | apply Grow.new | (refine Grow.put ?_ _ (by first | omega | (simp only [hNw, hPt]; omega))))))) hbig (hY.ext (hE _ (by (try dsimp only); repeat (first | exact hG | apply Grow.new | (refine Grow.put ?_ _ (by first | omega | (simp only [hNw, hPt]; omega))))))) hbd (hZ.ext (hE _ (by (try dsimp only); repeat (first | exact hG | apply Grow.new | (refine Grow.put ?_ _ (by first | omega | (simp only [hNw, hPt]; omega))))))) hbr hke) ?_; refine oA rfl rfl ?_; refine oN ?_; refine kS ?_; refine kR ?_; refine oM rfl rfl ?_; refine OkO.bin rfl rfl rfl (bin_neq _ _) ?_; refine oN ?_
  refine Ok.cond rfl (fun h1 => ?_) (fun h1 => ?_)
  · exact absurd h1 (by simp)
  · refine Ok.skip ?_
    refine kS ?_; refine Ok.drawn [(0, true, []), (1, true, []), (2, true, []), (5, true, [0]), (3, false, [0]), (4, false, []), (6, false, [])] (by kernel_rfl) ?_; refine pS ?_; refine oL rfl rfl (qlg4 6) ?_; refine oN ⟨rfl, ?_⟩; refine pS ?_; refine oM rfl rfl ?_; refine oN ⟨rfl, ?_⟩; refine pS ?_; refine oM rfl rfl ?_; refine oN ⟨rfl, ?_⟩; refine pS ?_; refine OkO.alloc (z := [.int .i64 0, .int .i64 0]) rfl (by kernel_rfl) ?_
    refine oN ⟨(sco (qsg7 6 rfl rfl rfl) rfl), ?_⟩; refine pS ?_; refine oE rfl rfl rfl rfl rfl (c66 (m + 40) rv rs _ (hZ.ext (hE _ (by (try dsimp only); repeat (first | exact hG | apply Grow.new | (refine Grow.put ?_ _ (by first | omega | (simp only [hNw, hPt]; omega))))))) hbr) ?_
    rintro v66 HM ⟨mb, om, rfl, qM, m1, m2, m3, m4⟩
    have gM : Grow W HM := Grow.ret (by (try dsimp only); repeat (first | exact hG | apply Grow.new | (refine Grow.put ?_ _ (by first | omega | (simp only [hNw, hPt]; omega))))) qM
    have b0M : (HM.get W.next).bind AObj.cs = some [cv, I g.slo, I g.shi, I g.klo, I g.khi, I g.melt] := by rw [qM.ext.get _ (by simp only [hNw]; omega)]; first | assumption | (simp (disch := first | omega | (simp only [hNw, hPt]; omega)) only [gN] <;> first | rfl | assumption)
    have b1M : HM.get (W.next + 1) = some (.cells [I 0, I 0] 36) := by rw [qM.ext.get _ (by simp only [hNw]; omega)]; first | assumption | exact gn1 _ _ _ | (simp (disch := first | omega | (simp only [hNw, hPt]; omega)) only [gN] <;> first | rfl | assumption)
    have b2M : HM.get (W.next + 2) = some (.cells [I 0, I 0] 36) := by rw [qM.ext.get _ (by simp only [hNw]; omega)]; first | assumption | exact gn2 _ _ _ _ | (simp (disch := first | omega | (simp only [hNw, hPt]; omega)) only [gN] <;> first | rfl | assumption)
    refine oN ⟨(sco (qsg7 6 rfl rfl rfl) rfl), ?_⟩; refine pS ?_; refine OkO.callN rfl rfl rfl rfl rfl (c65 (m + 15) cv dv cs g ds rs n mb om _ (hR.ext (hE _ gM)) hbig (hY.ext (hE _ gM)) hbd hbr m3 m2 m4 hrs hd0 hn9) ?_
    rintro v65 H65 ⟨r1, r2, rfl, rfl, p1, p2, p3, p4, p5, p6⟩
    have hrange := agree_range hd0 hrs hn9 p1 p2 p3 p4 p5 p6
    refine oN ⟨rfl, ?_⟩; refine pS ?_; refine oT rfl rfl rfl (sAc (n := 2) (ag := true) (by kernel_rfl) (by first | assumption | (simp (disch := first | omega | (simp only [hNw, hPt]; omega)) only [gN] <;> first | rfl | assumption | exact gp0 _ _ _ | exact gn0 _ _)) rfl (by first | rfl | assumption) (by first | rfl | exact spl_set _ _ _ (by first | assumption | omega | (simp; omega)))) ?_; refine oN ⟨rfl, ?_⟩; refine OkP.nil ?_; refine kS ?_; refine kS ?_; refine kR ?_; refine oF (o := 0) rfl (by kernel_rfl) rfl ?_; refine oL rfl rfl (qla3 1) ?_; refine oF (o := 1) rfl (by kernel_rfl) rfl ?_; refine oL rfl rfl (qla3 1) ?_; refine OkO.bin rfl rfl rfl (bin_gtr _ _) ?_; refine oN ?_
    refine Ok.cond rfl (fun h2 => ?_) (fun h2 => ?_)
    · have hba : g.klo + (r2 : Int) - 1 < g.klo + (r1 : Int) := of_decide_eq_true h2
      refine kS ?_; refine kR ?_; refine OkO.build (z := [.int .i64 0, .int .i64 0]) (pl := [(0, 1), (1, 1)]) rfl (by kernel_rfl) rfl rfl ?_; refine oT rfl rfl rfl (sAc (n := 2) (ag := true) (by kernel_rfl) (by first | assumption | (simp (disch := first | omega | (simp only [hNw, hPt]; omega)) only [gN] <;> first | rfl | assumption | exact gp0 _ _ _ | exact gn0 _ _)) rfl (by first | rfl | assumption) (by first | rfl | exact spl_set _ _ _ (by first | assumption | omega | (simp; omega)))) ?_; refine oA rfl rfl ?_; refine oN ?_
      refine Ok.ret ⟨.inr rfl, ?_⟩
      refine ⟨_, _, back_flat (resV_cell (b := W.next + 1) (off := 0) rfl (ldg (n := 2) (by kernel_rfl) (by first | exact congrArg (fun z => z.bind AObj.cs) (gp0 _ _ _) | (rw [gp0]; rfl)) rfl) (resV_tmp rfl resV_nil)) rfl rfl (by rw [← hW]; exact (by (try dsimp only); repeat (first | exact gM | apply Grow.new | (refine Grow.put ?_ _ (by first | omega | (simp only [hNw, hPt]; omega)))))), g.klo + (r1 : Int), g.klo + (r2 : Int) - 1, by omega, by omega, by omega, by omega, hrange, rfl, .inl ⟨hba, rfl⟩⟩
    · have hab : g.klo + (r1 : Int) ≤ g.klo + (r2 : Int) - 1 := by (have := of_decide_eq_false h2); omega
      refine Ok.skip ?_; refine kS ?_; refine kR ?_; refine oL rfl rfl (qlg4 2) ?_; refine oT rfl rfl rfl (sAc (n := 2) (ag := true) (by kernel_rfl) (by first | assumption | (simp (disch := first | omega | (simp only [hNw, hPt]; omega)) only [gN] <;> first | rfl | assumption | exact gp0 _ _ _ | exact gn0 _ _)) rfl (by first | rfl | assumption) (by first | rfl | exact spl_set _ _ _ (by first | assumption | omega | (simp; omega)))) ?_; refine oA rfl rfl ?_; refine oN ?_
      refine Ok.ret ⟨.inr rfl, ?_⟩
      refine ⟨_, _, back_flat (resV_cell (b := W.next + 1) (off := 0) rfl (ldg (n := 2) (by kernel_rfl) (by first | exact congrArg (fun z => z.bind AObj.cs) (gp0 _ _ _) | (rw [gp0]; rfl)) rfl) (resV_tmp rfl resV_nil)) rfl rfl (by rw [← hW]; exact (by (try dsimp only); repeat (first | exact gM | apply Grow.new | (refine Grow.put ?_ _ (by first | omega | (simp only [hNw, hPt]; omega)))))), g.klo + (r1 : Int), g.klo + (r2 : Int) - 1, by omega, by omega, by omega, by omega, hrange, rfl, .inr ⟨hab, rfl⟩⟩
theorem c33T (m : Nat) (cv dv rv : AV) (cs : List Cell) (g : Gr) (ds : List Day) (rs : List Rd) (H : Heap) (hR : Row H cv 7 (cs.map Cell.c)) (hbig : cs.length ≤ 1000) (hY : Row H dv 3 (ds.map Day.c)) (hbd : ds.length ≤ 1000) (hZ : Row H rv 4 (rs.map Rd.c)) (hbr : rs.length ≤ 1000) (hke : readErr cs g ds rs = 0) (hK : ∃ s, g.klo ≤ s ∧ s ≤ g.khi ∧ agreesB cs g ds rs s = true) : FnN Try.prog (RR (m + 41)) 33 [.agg [cv, I g.slo, I g.shi, I g.klo, I g.khi, I g.melt], dv, rv] H fun v H' => ∃ a b : Int, g.klo ≤ a ∧ a ≤ b ∧ b ≤ g.khi ∧ (∀ s, g.klo ≤ s → s ≤ g.khi → (agreesB cs g ds rs s = true ↔ a ≤ s ∧ s ≤ b)) ∧ H' = H ∧ v = .tup [.agg [I a, I b], I 0] :=
  FnN.mono (c33K m cv dv rv cs g ds rs H hR hbig hY hbd hZ hbr hke) fun v H' ⟨a, b, h1, h2, h3, h4, h5, h6, h7⟩ => by
    obtain ⟨s, k1, k2, k3⟩ := hK
    have := (h5 s k1 k2).1 k3
    rcases h7 with h7 | h7
    · exact absurd h7.1 (by omega)
    · exact ⟨a, b, h1, h7.1, h4, h5, h6, h7.2⟩
theorem c33F (m : Nat) (cv dv rv : AV) (cs : List Cell) (g : Gr) (ds : List Day) (rs : List Rd) (H : Heap) (hR : Row H cv 7 (cs.map Cell.c)) (hbig : cs.length ≤ 1000) (hY : Row H dv 3 (ds.map Day.c)) (hbd : ds.length ≤ 1000) (hZ : Row H rv 4 (rs.map Rd.c)) (hbr : rs.length ≤ 1000) (hke : readErr cs g ds rs = 0) (hK : ∀ s, g.klo ≤ s → s ≤ g.khi → agreesB cs g ds rs s = false) : FnN Try.prog (RR (m + 41)) 33 [.agg [cv, I g.slo, I g.shi, I g.klo, I g.khi, I g.melt], dv, rv] H fun v H' => H' = H ∧ v = .tup [.agg [I 0, I 0], I 7] :=
  FnN.mono (c33K m cv dv rv cs g ds rs H hR hbig hY hbd hZ hbr hke) fun v H' ⟨a, b, h1, h2, h3, h4, h5, h6, h7⟩ => by
    rcases h7 with h7 | h7
    · exact ⟨h6, h7.2⟩
    · have := (h5 a h1 (by omega)).2 ⟨Int.le_refl _, h7.1⟩
      rw [hK a h1 (by omega)] at this
      cases this
end
end Go.EvN

set_option maxRecDepth 100000
set_option linter.unusedSimpArgs false
set_option linter.unusedVariables false
namespace Go.Ev
open Go Go.Proofs
noncomputable section
theorem c35w (m : Nat) (cv dv rv : AV) (cs : List Cell) (g : Gr) (ds : List Day) (rs : List Rd) (H : Heap) (hR : Row H cv 7 (cs.map Cell.c)) (hbig : cs.length ≤ 1000) (hY : Row H dv 3 (ds.map Day.c)) (hbd : ds.length ≤ 1000) (hZ : Row H rv 4 (rs.map Rd.c)) (hbr : rs.length ≤ 1000) {e : Int} (hke : learnErr cs g ds rs = e) : RR (m + 3) (.fn 35 [.agg [cv, I g.slo, I g.shi, I g.klo, I g.khi, I g.melt], dv, rv]) H = some (I e, H) := by
  rw [← hke]; exact c35 m cv dv rv cs g ds rs H hR hbig hY hbd hZ hbr
theorem c36w (m : Nat) (cv dv rv : AV) (cs : List Cell) (g : Gr) (ds : List Day) (rs : List Rd) (s : Int) (H : Heap) (hR : Row H cv 7 (cs.map Cell.c)) (hbig : cs.length ≤ 1000) (hY : Row H dv 3 (ds.map Day.c)) (hbd : ds.length ≤ 1000) (hZ : Row H rv 4 (rs.map Rd.c)) (hbr : rs.length ≤ 1000) (hrs : ∀ x ∈ rs, x.ok cs ds = true) (hd0 : daysErr cs g ds = 0) (hs : g.klo ≤ s ∧ s ≤ g.khi) {bv : Bool} (hv : agreesB cs g ds rs s = bv) : RR (m + 40) (.fn 36 [.agg [cv, I g.slo, I g.shi, I g.klo, I g.khi, I g.melt], dv, rv, I s]) H = some (.bool bv, H) := by
  rw [← hv]; exact c36 m cv dv rv cs g ds rs s H hR hbig hY hbd hZ hbr hrs hd0 hs
end
end Go.Ev

set_option maxRecDepth 100000
set_option linter.unusedSimpArgs false
set_option linter.unusedVariables false
namespace Go.EvN
open Go Go.Proofs Go.Ev
noncomputable section
theorem c6A (m : Nat) (cv dv rv : AV) (cs : List Cell) (g : Gr) (ds : List Day) (rs : List Rd) (w : Int) (H : Heap) (hR : Row H cv 7 (cs.map Cell.c)) (hY : Row H dv 3 (ds.map Day.c)) (hZ : Row H rv 4 (rs.map Rd.c)) (hw : 0 ≤ w ∧ w ≤ 65535) {e : Int} (hde : daysErr cs g ds = e) (he : ¬e = 0) : FnN Try.prog (RR (m + 41)) 6 [.agg [cv, I g.slo, I g.shi, I g.klo, I g.khi, I g.melt], dv, rv, U w] H fun v H' => v = .bool true := by
  refine fn_okE Try.func6 rfl rfl (by kernel_rfl) (by kernel_rfl) ?_
  obtain ⟨W, hW, hg, hN, hE, hG⟩ := wOf H
  rw [← hW]
  have hlc : lenOf cv = some cs.length := by simpa using hR.len
  have hld : lenOf dv = some ds.length := by simpa using hY.len
  have hlr : lenOf rv = some rs.length := by simpa using hZ.len
  have pc := lpl hlc
  have pd := lpl hld
  have pr := lpl hlr
  refine kS ?_; refine kR ?_; refine OkO.box rfl rfl ?_; refine oA rfl rfl ?_; refine oN ?_; refine kS ?_; refine kS ?_; refine kR ?_; refine oL rfl rfl (qlg4 6) ?_; refine oM rfl rfl ?_; refine oV rfl rfl rfl rfl rfl (c16 (m + 40) cv dv cs g ds _ (hR.ext (hE _ (by (try dsimp only); repeat (first | exact hG | apply Grow.new | (refine Grow.put ?_ _ (by first | omega | (simp only [hNw, hPt]; omega))))))) (hY.ext (hE _ (by (try dsimp only); repeat (first | exact hG | apply Grow.new | (refine Grow.put ?_ _ (by first | omega | (simp only [hNw, hPt]; omega)))))))) ?_; refine OkO.un rfl rfl rfl ?_; refine oM rfl rfl ?_
  refine OkO.split (d := 17) rfl (fun g1 => ?_) (fun g1 => ?_)
  · refine oK rfl ?_
    refine oK rfl ?_; refine oK rfl ?_; refine OkO.pick (b := true) rfl rfl (fun _ => rfl) nofun ?_; refine oN ?_; refine Ok.condT rfl ?_; refine kS ?_; refine kR ?_; refine oV rfl rfl rfl rfl rfl (rfl) ?_; refine oA rfl rfl ?_; refine oN ?_
    refine Ok.ret ⟨.inr rfl, ?_⟩
    exact ⟨_, _, back_flat rfl rfl rfl (by rw [← hW]; exact (by (try dsimp only); repeat (first | exact hG | apply Grow.new | (refine Grow.put ?_ _ (by first | omega | (simp only [hNw, hPt]; omega)))))), rfl⟩
  · have hth : thinB cs ds = true := by simpa using g1
    unfold thinB at hth
    rw [Bool.and_eq_true] at hth
    have th1 := of_decide_eq_true hth.1
    have th2 := of_decide_eq_true hth.2
    refine oM rfl rfl ?_; refine oB rfl rfl rfl qbl ?_; refine OkO.bin rfl rfl rfl (bin_gtr _ _) ?_; refine OkO.pick (b := false) rfl rfl nofun (fun _ => rfl) ?_; refine oN ?_
    refine Ok.cond rfl (fun h2 => ?_) (fun h2 => ?_)
    · refine kS ?_
      refine kR ?_; refine oV rfl rfl rfl rfl rfl (rfl) ?_; refine oA rfl rfl ?_; refine oN ?_
      refine Ok.ret ⟨.inr rfl, ?_⟩
      exact ⟨_, _, back_flat rfl rfl rfl (by rw [← hW]; exact (by (try dsimp only); repeat (first | exact hG | apply Grow.new | (refine Grow.put ?_ _ (by first | omega | (simp only [hNw, hPt]; omega)))))), rfl⟩
    · have th3 : ¬(35 : Int) < (rs.length : Int) := by simpa using h2
      refine Ok.skip ?_; refine kS ?_; refine kR ?_; refine oL rfl rfl (qlg4 6) ?_; refine oE rfl rfl rfl rfl rfl (c19 (m + 39) cv cs g _ (hR.ext (hE _ (by (try dsimp only); repeat (first | exact hG | apply Grow.new | (refine Grow.put ?_ _ (by first | omega | (simp only [hNw, hPt]; omega))))))) (by omega)) ?_
      rintro vA HA ⟨cvA, rfl, qA, rA, atA⟩
      have gA : Grow W HA := Grow.ret (by (try dsimp only); repeat (first | exact hG | apply Grow.new | (refine Grow.put ?_ _ (by first | omega | (simp only [hNw, hPt]; omega))))) qA
      have nA : W.next + 1 ≤ HA.next := by have := qA.ext.next; first | omega | (simp only [hNw] at this; omega)
      have aA : (HA.get W.next).bind AObj.cs = some [cv, I g.slo, I g.shi, I g.klo, I g.khi, I g.melt] := by rw [qA.ext.get _ (by first | omega | (simp only [hNw]; omega))]; first | assumption | (simp (disch := first | omega | (simp only [hNw, hPt]; omega)) only [gN] <;> first | rfl | assumption)
      refine oM rfl rfl ?_; refine oE rfl rfl rfl rfl rfl (c21 (m + 39) dv ds _ (hY.ext (hE _ gA)) (by omega)) ?_
      rintro dvB HB ⟨qB, rB, atB⟩
      have gB : Grow W HB := Grow.ret gA qB
      have nB : W.next + 1 ≤ HB.next := by have := qB.ext.next; first | omega | (simp only [hNw] at this; omega)
      have aB : (HB.get W.next).bind AObj.cs = some [cv, I g.slo, I g.shi, I g.klo, I g.khi, I g.melt] := by rw [qB.ext.get _ (by first | omega | (simp only [hNw]; omega))]; first | assumption | (simp (disch := first | omega | (simp only [hNw, hPt]; omega)) only [gN] <;> first | rfl | assumption)
      refine oM rfl rfl ?_; refine oE rfl rfl rfl rfl rfl (c34 (m + 39) rv rs _ (hZ.ext (hE _ gB)) (by omega)) ?_
      rintro rvC HC ⟨qC, rC, atC⟩
      have gC : Grow W HC := Grow.ret gB qC
      have nC : W.next + 1 ≤ HC.next := by have := qC.ext.next; first | omega | (simp only [hNw] at this; omega)
      have aC : (HC.get W.next).bind AObj.cs = some [cv, I g.slo, I g.shi, I g.klo, I g.khi, I g.melt] := by rw [qC.ext.get _ (by first | omega | (simp only [hNw]; omega))]; first | assumption | (simp (disch := first | omega | (simp only [hNw, hPt]; omega)) only [gN] <;> first | rfl | assumption)
      refine oV rfl rfl rfl rfl rfl (c33E m cvA dvB rvC cs g ds rs _ (rA.ext (qB.ext.trans qC.ext)) (by omega) (rB.ext qC.ext) (by omega) rC (by omega) (by unfold readErr; rw [if_neg (by rw [hde]; exact he)]; exact hde) he) ?_; refine oM rfl rfl ?_; refine OkO.extract rfl rfl rfl ?_; refine OkO.extract rfl rfl rfl ?_; refine OkO.alloc (z := [.int .i64 0, .int .i64 0]) rfl (by kernel_rfl) ?_; refine oT rfl rfl rfl (sAc (n := 2) (ag := true) (by kernel_rfl) (by first | assumption | (simp (disch := first | omega | (simp only [hNw, hPt]; omega)) only [gN] <;> first | rfl | assumption | exact gp0 _ _ _ | exact gn0 _ _)) rfl (by first | rfl | assumption) (by first | rfl | exact spl_set _ _ _ (by first | assumption | omega | (simp; omega)))) ?_; refine oA rfl rfl ?_; refine oN ?_; refine kS ?_; refine kR ?_; refine oL rfl rfl (qlg4 6) ?_; refine oM rfl rfl ?_; refine oV rfl rfl rfl rfl rfl (c24w (m + 37) cv dv cs g ds _ (hR.ext (hE _ (by (try dsimp only); repeat (first | exact gC | apply Grow.new | (refine Grow.put ?_ _ (by first | omega | (simp only [hNw, hPt]; omega))))))) (by omega) (hY.ext (hE _ (by (try dsimp only); repeat (first | exact gC | apply Grow.new | (refine Grow.put ?_ _ (by first | omega | (simp only [hNw, hPt]; omega))))))) (by omega) hde) ?_; refine oA rfl rfl ?_; refine oN ?_; refine kS ?_; refine kS ?_; refine kR ?_; refine oM rfl rfl ?_; refine OkO.bin rfl rfl rfl (bin_eql _ _) ?_; refine oN ?_
      refine Ok.cond rfl (fun h3 => ?_) (fun h3 => ?_)
      · exact absurd h3 (by simp [he])
      · refine Ok.skip ?_
        refine kS ?_; refine kS ?_; refine kR ?_; refine oM rfl rfl ?_; refine OkO.bin rfl rfl rfl (bin_neq _ _) ?_; refine oN ?_
        refine Ok.cond rfl (fun h4 => ?_) (fun h4 => ?_)
        · refine kS ?_
          refine kR ?_; refine oM rfl rfl ?_; refine oM rfl rfl ?_; refine OkO.bin rfl rfl rfl (bin_eql _ _) ?_; refine oM rfl rfl ?_
          refine OkO.split (d := 47) rfl (fun g5 => ?_) (fun g5 => ?_)
          · refine oL rfl rfl (qlg4 2) ?_
            refine OkO.build (z := [.int .i64 0, .int .i64 0]) (pl := [(0, 1), (1, 1)]) rfl (by kernel_rfl) rfl rfl ?_; refine OkO.binT rfl rfl rfl ((show binT Try.prog .eql 36 (.agg [I 0, I 0]) (.agg [I 0, I 0]) = some (.bool true) by kernel_rfl)) ?_; refine OkO.pick (b := true) rfl rfl (fun _ => rfl) nofun ?_; refine oM rfl rfl ?_
            refine OkO.split (d := 52) rfl (fun g6 => ?_) (fun g6 => ?_)
            · refine oV rfl rfl rfl rfl rfl (rfl) ?_
              refine OkO.pick (b := true) rfl rfl (fun _ => rfl) nofun ?_; refine oA rfl rfl ?_; refine oN ?_
              refine Ok.ret ⟨.inr rfl, ?_⟩
              exact ⟨_, _, back_flat rfl rfl rfl (by rw [← hW]; exact (by (try dsimp only); repeat (first | exact gC | apply Grow.new | (refine Grow.put ?_ _ (by first | omega | (simp only [hNw, hPt]; omega)))))), rfl⟩
            · exact absurd g6 (by simp)
          · exact absurd g5 (by simp)
        · exact absurd h4 (by simp [he])
theorem c6B (m : Nat) (cv dv rv : AV) (cs : List Cell) (g : Gr) (ds : List Day) (rs : List Rd) (w : Int) (H : Heap) (hR : Row H cv 7 (cs.map Cell.c)) (hY : Row H dv 3 (ds.map Day.c)) (hZ : Row H rv 4 (rs.map Rd.c)) (hw : 0 ≤ w ∧ w ≤ 65535) {e : Int} (hde : daysErr cs g ds = 0) (hle : learnErr cs g ds rs = e) (he : ¬e = 0) : FnN Try.prog (RR (m + 41)) 6 [.agg [cv, I g.slo, I g.shi, I g.klo, I g.khi, I g.melt], dv, rv, U w] H fun v H' => v = .bool true := by
  refine fn_okE Try.func6 rfl rfl (by kernel_rfl) (by kernel_rfl) ?_
  obtain ⟨W, hW, hg, hN, hE, hG⟩ := wOf H
  rw [← hW]
  have hlc : lenOf cv = some cs.length := by simpa using hR.len
  have hld : lenOf dv = some ds.length := by simpa using hY.len
  have hlr : lenOf rv = some rs.length := by simpa using hZ.len
  have pc := lpl hlc
  have pd := lpl hld
  have pr := lpl hlr
  refine kS ?_; refine kR ?_; refine OkO.box rfl rfl ?_; refine oA rfl rfl ?_; refine oN ?_; refine kS ?_; refine kS ?_; refine kR ?_; refine oL rfl rfl (qlg4 6) ?_; refine oM rfl rfl ?_; refine oV rfl rfl rfl rfl rfl (c16 (m + 40) cv dv cs g ds _ (hR.ext (hE _ (by (try dsimp only); repeat (first | exact hG | apply Grow.new | (refine Grow.put ?_ _ (by first | omega | (simp only [hNw, hPt]; omega))))))) (hY.ext (hE _ (by (try dsimp only); repeat (first | exact hG | apply Grow.new | (refine Grow.put ?_ _ (by first | omega | (simp only [hNw, hPt]; omega)))))))) ?_; refine OkO.un rfl rfl rfl ?_; refine oM rfl rfl ?_
  refine OkO.split (d := 17) rfl (fun g1 => ?_) (fun g1 => ?_)
  · refine oK rfl ?_
    refine oK rfl ?_; refine oK rfl ?_; refine OkO.pick (b := true) rfl rfl (fun _ => rfl) nofun ?_; refine oN ?_; refine Ok.condT rfl ?_; refine kS ?_; refine kR ?_; refine oV rfl rfl rfl rfl rfl (rfl) ?_; refine oA rfl rfl ?_; refine oN ?_
    refine Ok.ret ⟨.inr rfl, ?_⟩
    exact ⟨_, _, back_flat rfl rfl rfl (by rw [← hW]; exact (by (try dsimp only); repeat (first | exact hG | apply Grow.new | (refine Grow.put ?_ _ (by first | omega | (simp only [hNw, hPt]; omega)))))), rfl⟩
  · have hth : thinB cs ds = true := by simpa using g1
    unfold thinB at hth
    rw [Bool.and_eq_true] at hth
    have th1 := of_decide_eq_true hth.1
    have th2 := of_decide_eq_true hth.2
    refine oM rfl rfl ?_; refine oB rfl rfl rfl qbl ?_; refine OkO.bin rfl rfl rfl (bin_gtr _ _) ?_; refine OkO.pick (b := false) rfl rfl nofun (fun _ => rfl) ?_; refine oN ?_
    refine Ok.cond rfl (fun h2 => ?_) (fun h2 => ?_)
    · refine kS ?_
      refine kR ?_; refine oV rfl rfl rfl rfl rfl (rfl) ?_; refine oA rfl rfl ?_; refine oN ?_
      refine Ok.ret ⟨.inr rfl, ?_⟩
      exact ⟨_, _, back_flat rfl rfl rfl (by rw [← hW]; exact (by (try dsimp only); repeat (first | exact hG | apply Grow.new | (refine Grow.put ?_ _ (by first | omega | (simp only [hNw, hPt]; omega)))))), rfl⟩
    · have th3 : ¬(35 : Int) < (rs.length : Int) := by simpa using h2
      refine Ok.skip ?_; refine kS ?_; refine kR ?_; refine oL rfl rfl (qlg4 6) ?_; refine oE rfl rfl rfl rfl rfl (c19 (m + 39) cv cs g _ (hR.ext (hE _ (by (try dsimp only); repeat (first | exact hG | apply Grow.new | (refine Grow.put ?_ _ (by first | omega | (simp only [hNw, hPt]; omega))))))) (by omega)) ?_
      rintro vA HA ⟨cvA, rfl, qA, rA, atA⟩
      have gA : Grow W HA := Grow.ret (by (try dsimp only); repeat (first | exact hG | apply Grow.new | (refine Grow.put ?_ _ (by first | omega | (simp only [hNw, hPt]; omega))))) qA
      have nA : W.next + 1 ≤ HA.next := by have := qA.ext.next; first | omega | (simp only [hNw] at this; omega)
      have aA : (HA.get W.next).bind AObj.cs = some [cv, I g.slo, I g.shi, I g.klo, I g.khi, I g.melt] := by rw [qA.ext.get _ (by first | omega | (simp only [hNw]; omega))]; first | assumption | (simp (disch := first | omega | (simp only [hNw, hPt]; omega)) only [gN] <;> first | rfl | assumption)
      refine oM rfl rfl ?_; refine oE rfl rfl rfl rfl rfl (c21 (m + 39) dv ds _ (hY.ext (hE _ gA)) (by omega)) ?_
      rintro dvB HB ⟨qB, rB, atB⟩
      have gB : Grow W HB := Grow.ret gA qB
      have nB : W.next + 1 ≤ HB.next := by have := qB.ext.next; first | omega | (simp only [hNw] at this; omega)
      have aB : (HB.get W.next).bind AObj.cs = some [cv, I g.slo, I g.shi, I g.klo, I g.khi, I g.melt] := by rw [qB.ext.get _ (by first | omega | (simp only [hNw]; omega))]; first | assumption | (simp (disch := first | omega | (simp only [hNw, hPt]; omega)) only [gN] <;> first | rfl | assumption)
      refine oM rfl rfl ?_; refine oE rfl rfl rfl rfl rfl (c34 (m + 39) rv rs _ (hZ.ext (hE _ gB)) (by omega)) ?_
      rintro rvC HC ⟨qC, rC, atC⟩
      have gC : Grow W HC := Grow.ret gB qC
      have nC : W.next + 1 ≤ HC.next := by have := qC.ext.next; first | omega | (simp only [hNw] at this; omega)
      have aC : (HC.get W.next).bind AObj.cs = some [cv, I g.slo, I g.shi, I g.klo, I g.khi, I g.melt] := by rw [qC.ext.get _ (by first | omega | (simp only [hNw]; omega))]; first | assumption | (simp (disch := first | omega | (simp only [hNw, hPt]; omega)) only [gN] <;> first | rfl | assumption)
      refine oV rfl rfl rfl rfl rfl (c33E m cvA dvB rvC cs g ds rs _ (rA.ext (qB.ext.trans qC.ext)) (by omega) (rB.ext qC.ext) (by omega) rC (by omega) (by unfold readErr; rw [if_pos hde]; exact hle) he) ?_; refine oM rfl rfl ?_; refine OkO.extract rfl rfl rfl ?_; refine OkO.extract rfl rfl rfl ?_; refine OkO.alloc (z := [.int .i64 0, .int .i64 0]) rfl (by kernel_rfl) ?_; refine oT rfl rfl rfl (sAc (n := 2) (ag := true) (by kernel_rfl) (by first | assumption | (simp (disch := first | omega | (simp only [hNw, hPt]; omega)) only [gN] <;> first | rfl | assumption | exact gp0 _ _ _ | exact gn0 _ _)) rfl (by first | rfl | assumption) (by first | rfl | exact spl_set _ _ _ (by first | assumption | omega | (simp; omega)))) ?_; refine oA rfl rfl ?_; refine oN ?_; refine kS ?_; refine kR ?_; refine oL rfl rfl (qlg4 6) ?_; refine oM rfl rfl ?_; refine oV rfl rfl rfl rfl rfl (c24w (m + 37) cv dv cs g ds _ (hR.ext (hE _ (by (try dsimp only); repeat (first | exact gC | apply Grow.new | (refine Grow.put ?_ _ (by first | omega | (simp only [hNw, hPt]; omega))))))) (by omega) (hY.ext (hE _ (by (try dsimp only); repeat (first | exact gC | apply Grow.new | (refine Grow.put ?_ _ (by first | omega | (simp only [hNw, hPt]; omega))))))) (by omega) hde) ?_; refine oA rfl rfl ?_; refine oN ?_; refine kS ?_; refine kS ?_; refine kR ?_; refine oM rfl rfl ?_; refine OkO.bin rfl rfl rfl (bin_eql _ _) ?_; refine oN ?_
      refine Ok.cond rfl (fun h3 => ?_) (fun h3 => ?_)
      · refine kR ?_
        refine oL rfl rfl (qlg4 6) ?_; refine oM rfl rfl ?_; refine oM rfl rfl ?_; refine oV rfl rfl rfl rfl rfl (c35w (m + 38) cv dv rv cs g ds rs _ (hR.ext (hE _ (by (try dsimp only); repeat (first | exact gC | apply Grow.new | (refine Grow.put ?_ _ (by first | omega | (simp only [hNw, hPt]; omega))))))) (by omega) (hY.ext (hE _ (by (try dsimp only); repeat (first | exact gC | apply Grow.new | (refine Grow.put ?_ _ (by first | omega | (simp only [hNw, hPt]; omega))))))) (by omega) (hZ.ext (hE _ (by (try dsimp only); repeat (first | exact gC | apply Grow.new | (refine Grow.put ?_ _ (by first | omega | (simp only [hNw, hPt]; omega))))))) (by omega) hle) ?_; refine oA rfl rfl ?_; refine oN ?_; refine kS ?_; refine kS ?_; refine kR ?_; refine oM rfl rfl ?_; refine OkO.bin rfl rfl rfl (bin_neq _ _) ?_; refine oN ?_
        refine Ok.cond rfl (fun h4 => ?_) (fun h4 => ?_)
        · refine kS ?_
          refine kR ?_; refine oM rfl rfl ?_; refine oM rfl rfl ?_; refine OkO.bin rfl rfl rfl (bin_eql _ _) ?_; refine oM rfl rfl ?_
          refine OkO.split (d := 47) rfl (fun g5 => ?_) (fun g5 => ?_)
          · refine oL rfl rfl (qlg4 2) ?_
            refine OkO.build (z := [.int .i64 0, .int .i64 0]) (pl := [(0, 1), (1, 1)]) rfl (by kernel_rfl) rfl rfl ?_; refine OkO.binT rfl rfl rfl ((show binT Try.prog .eql 36 (.agg [I 0, I 0]) (.agg [I 0, I 0]) = some (.bool true) by kernel_rfl)) ?_; refine OkO.pick (b := true) rfl rfl (fun _ => rfl) nofun ?_; refine oM rfl rfl ?_
            refine OkO.split (d := 52) rfl (fun g6 => ?_) (fun g6 => ?_)
            · refine oV rfl rfl rfl rfl rfl (rfl) ?_
              refine OkO.pick (b := true) rfl rfl (fun _ => rfl) nofun ?_; refine oA rfl rfl ?_; refine oN ?_
              refine Ok.ret ⟨.inr rfl, ?_⟩
              exact ⟨_, _, back_flat rfl rfl rfl (by rw [← hW]; exact (by (try dsimp only); repeat (first | exact gC | apply Grow.new | (refine Grow.put ?_ _ (by first | omega | (simp only [hNw, hPt]; omega)))))), rfl⟩
            · exact absurd g6 (by simp)
          · exact absurd g5 (by simp)
        · exact absurd h4 (by simp [he])
      · exact absurd h3 (by simp)
theorem c6F (m : Nat) (cv dv rv : AV) (cs : List Cell) (g : Gr) (ds : List Day) (rs : List Rd) (w : Int) (H : Heap) (hR : Row H cv 7 (cs.map Cell.c)) (hY : Row H dv 3 (ds.map Day.c)) (hZ : Row H rv 4 (rs.map Rd.c)) (hw : 0 ≤ w ∧ w ≤ 65535) (hke : readErr cs g ds rs = 0) (hK : ∀ s, g.klo ≤ s → s ≤ g.khi → agreesB cs g ds rs s = false) : FnN Try.prog (RR (m + 41)) 6 [.agg [cv, I g.slo, I g.shi, I g.klo, I g.khi, I g.melt], dv, rv, U w] H fun v H' => v = .bool true := by
  refine fn_okE Try.func6 rfl rfl (by kernel_rfl) (by kernel_rfl) ?_
  obtain ⟨W, hW, hg, hN, hE, hG⟩ := wOf H
  rw [← hW]
  have hlc : lenOf cv = some cs.length := by simpa using hR.len
  have hld : lenOf dv = some ds.length := by simpa using hY.len
  have hlr : lenOf rv = some rs.length := by simpa using hZ.len
  have pc := lpl hlc
  have pd := lpl hld
  have pr := lpl hlr
  obtain ⟨hd0, hl30, hrs, hkn⟩ := read_ok hke
  have hle : learnErr cs g ds rs = 0 := by unfold readErr at hke; rw [if_pos hd0] at hke; exact hke
  have hk9 := (gf_of hd0).soak
  have hm1 := Int.emod_nonneg w (show g.khi - g.klo + 1 ≠ 0 by omega)
  have hm2 := Int.emod_lt_of_pos w (show 0 < g.khi - g.klo + 1 by omega)
  refine kS ?_; refine kR ?_; refine OkO.box rfl rfl ?_; refine oA rfl rfl ?_; refine oN ?_; refine kS ?_; refine kS ?_; refine kR ?_; refine oL rfl rfl (qlg4 6) ?_; refine oM rfl rfl ?_; refine oV rfl rfl rfl rfl rfl (c16 (m + 40) cv dv cs g ds _ (hR.ext (hE _ (by (try dsimp only); repeat (first | exact hG | apply Grow.new | (refine Grow.put ?_ _ (by first | omega | (simp only [hNw, hPt]; omega))))))) (hY.ext (hE _ (by (try dsimp only); repeat (first | exact hG | apply Grow.new | (refine Grow.put ?_ _ (by first | omega | (simp only [hNw, hPt]; omega)))))))) ?_; refine OkO.un rfl rfl rfl ?_; refine oM rfl rfl ?_
  refine OkO.split (d := 17) rfl (fun g1 => ?_) (fun g1 => ?_)
  · refine oK rfl ?_
    refine oK rfl ?_; refine oK rfl ?_; refine OkO.pick (b := true) rfl rfl (fun _ => rfl) nofun ?_; refine oN ?_; refine Ok.condT rfl ?_; refine kS ?_; refine kR ?_; refine oV rfl rfl rfl rfl rfl (rfl) ?_; refine oA rfl rfl ?_; refine oN ?_
    refine Ok.ret ⟨.inr rfl, ?_⟩
    exact ⟨_, _, back_flat rfl rfl rfl (by rw [← hW]; exact (by (try dsimp only); repeat (first | exact hG | apply Grow.new | (refine Grow.put ?_ _ (by first | omega | (simp only [hNw, hPt]; omega)))))), rfl⟩
  · have hth : thinB cs ds = true := by simpa using g1
    unfold thinB at hth
    rw [Bool.and_eq_true] at hth
    have th1 := of_decide_eq_true hth.1
    have th2 := of_decide_eq_true hth.2
    refine oM rfl rfl ?_; refine oB rfl rfl rfl qbl ?_; refine OkO.bin rfl rfl rfl (bin_gtr _ _) ?_; refine OkO.pick (b := false) rfl rfl nofun (fun _ => rfl) ?_; refine oN ?_
    refine Ok.cond rfl (fun h2 => ?_) (fun h2 => ?_)
    · refine kS ?_
      refine kR ?_; refine oV rfl rfl rfl rfl rfl (rfl) ?_; refine oA rfl rfl ?_; refine oN ?_
      refine Ok.ret ⟨.inr rfl, ?_⟩
      exact ⟨_, _, back_flat rfl rfl rfl (by rw [← hW]; exact (by (try dsimp only); repeat (first | exact hG | apply Grow.new | (refine Grow.put ?_ _ (by first | omega | (simp only [hNw, hPt]; omega)))))), rfl⟩
    · have th3 : ¬(35 : Int) < (rs.length : Int) := by simpa using h2
      refine Ok.skip ?_; refine kS ?_; refine kR ?_; refine oL rfl rfl (qlg4 6) ?_; refine oE rfl rfl rfl rfl rfl (c19 (m + 39) cv cs g _ (hR.ext (hE _ (by (try dsimp only); repeat (first | exact hG | apply Grow.new | (refine Grow.put ?_ _ (by first | omega | (simp only [hNw, hPt]; omega))))))) (by omega)) ?_
      rintro vA HA ⟨cvA, rfl, qA, rA, atA⟩
      have gA : Grow W HA := Grow.ret (by (try dsimp only); repeat (first | exact hG | apply Grow.new | (refine Grow.put ?_ _ (by first | omega | (simp only [hNw, hPt]; omega))))) qA
      have nA : W.next + 1 ≤ HA.next := by have := qA.ext.next; first | omega | (simp only [hNw] at this; omega)
      have aA : (HA.get W.next).bind AObj.cs = some [cv, I g.slo, I g.shi, I g.klo, I g.khi, I g.melt] := by rw [qA.ext.get _ (by first | omega | (simp only [hNw]; omega))]; first | assumption | (simp (disch := first | omega | (simp only [hNw, hPt]; omega)) only [gN] <;> first | rfl | assumption)
      refine oM rfl rfl ?_; refine oE rfl rfl rfl rfl rfl (c21 (m + 39) dv ds _ (hY.ext (hE _ gA)) (by omega)) ?_
      rintro dvB HB ⟨qB, rB, atB⟩
      have gB : Grow W HB := Grow.ret gA qB
      have nB : W.next + 1 ≤ HB.next := by have := qB.ext.next; first | omega | (simp only [hNw] at this; omega)
      have aB : (HB.get W.next).bind AObj.cs = some [cv, I g.slo, I g.shi, I g.klo, I g.khi, I g.melt] := by rw [qB.ext.get _ (by first | omega | (simp only [hNw]; omega))]; first | assumption | (simp (disch := first | omega | (simp only [hNw, hPt]; omega)) only [gN] <;> first | rfl | assumption)
      refine oM rfl rfl ?_; refine oE rfl rfl rfl rfl rfl (c34 (m + 39) rv rs _ (hZ.ext (hE _ gB)) (by omega)) ?_
      rintro rvC HC ⟨qC, rC, atC⟩
      have gC : Grow W HC := Grow.ret gB qC
      have nC : W.next + 1 ≤ HC.next := by have := qC.ext.next; first | omega | (simp only [hNw] at this; omega)
      have aC : (HC.get W.next).bind AObj.cs = some [cv, I g.slo, I g.shi, I g.klo, I g.khi, I g.melt] := by rw [qC.ext.get _ (by first | omega | (simp only [hNw]; omega))]; first | assumption | (simp (disch := first | omega | (simp only [hNw, hPt]; omega)) only [gN] <;> first | rfl | assumption)
      refine OkO.callN rfl rfl rfl rfl rfl (c33F m cvA dvB rvC cs g ds rs _ (rA.ext (qB.ext.trans qC.ext)) (by omega) (rB.ext qC.ext) (by omega) rC (by omega) hke hK) ?_
      rintro v33 H33 ⟨rfl, rfl⟩
      refine oM rfl rfl ?_; refine OkO.extract rfl rfl rfl ?_; refine OkO.extract rfl rfl rfl ?_; refine OkO.alloc (z := [.int .i64 0, .int .i64 0]) rfl (by kernel_rfl) ?_; refine oT rfl rfl rfl (sAc (n := 2) (ag := true) (by kernel_rfl) (by first | assumption | (simp (disch := first | omega | (simp only [hNw, hPt]; omega)) only [gN] <;> first | rfl | assumption | exact gp0 _ _ _ | exact gn0 _ _)) rfl (by first | rfl | assumption) (by first | rfl | exact spl_set _ _ _ (by first | assumption | omega | (simp; omega)))) ?_; refine oA rfl rfl ?_; refine oN ?_; refine kS ?_; refine kR ?_; refine oL rfl rfl (qlg4 6) ?_; refine oM rfl rfl ?_; refine oV rfl rfl rfl rfl rfl (c24w (m + 37) cv dv cs g ds _ (hR.ext (hE _ (by (try dsimp only); repeat (first | exact gC | apply Grow.new | (refine Grow.put ?_ _ (by first | omega | (simp only [hNw, hPt]; omega))))))) (by omega) (hY.ext (hE _ (by (try dsimp only); repeat (first | exact gC | apply Grow.new | (refine Grow.put ?_ _ (by first | omega | (simp only [hNw, hPt]; omega))))))) (by omega) hd0) ?_; refine oA rfl rfl ?_; refine oN ?_; refine kS ?_; refine kS ?_; refine kR ?_; refine oM rfl rfl ?_; refine OkO.bin rfl rfl rfl (bin_eql _ _) ?_; refine oN ?_
      refine Ok.cond rfl (fun h3 => ?_) (fun h3 => ?_)
      · refine kR ?_
        refine oL rfl rfl (qlg4 6) ?_; refine oM rfl rfl ?_; refine oM rfl rfl ?_; refine oV rfl rfl rfl rfl rfl (c35w (m + 38) cv dv rv cs g ds rs _ (hR.ext (hE _ (by (try dsimp only); repeat (first | exact gC | apply Grow.new | (refine Grow.put ?_ _ (by first | omega | (simp only [hNw, hPt]; omega))))))) (by omega) (hY.ext (hE _ (by (try dsimp only); repeat (first | exact gC | apply Grow.new | (refine Grow.put ?_ _ (by first | omega | (simp only [hNw, hPt]; omega))))))) (by omega) (hZ.ext (hE _ (by (try dsimp only); repeat (first | exact gC | apply Grow.new | (refine Grow.put ?_ _ (by first | omega | (simp only [hNw, hPt]; omega))))))) (by omega) hle) ?_; refine oA rfl rfl ?_; refine oN ?_; refine kS ?_; refine kS ?_; refine kR ?_; refine oM rfl rfl ?_; refine OkO.bin rfl rfl rfl (bin_neq _ _) ?_; refine oN ?_
        refine Ok.cond rfl (fun h4 => ?_) (fun h4 => ?_)
        · exact absurd h4 (by simp)
        · refine Ok.skip ?_
          refine kS ?_; refine Ok.drawn [(0, true, []), (1, true, []), (2, true, []), (3, true, []), (4, true, []), (5, true, []), (6, true, []), (7, true, []), (8, true, []), (9, true, []), (10, true, []), (11, true, []), (12, true, []), (13, true, []), (14, true, []), (15, true, [])] (by kernel_rfl) ?_; refine pS ?_; refine oF (o := 3) rfl (by kernel_rfl) rfl ?_; refine oN ⟨rfl, ?_⟩; refine pS ?_; refine oF (o := 0) rfl (by kernel_rfl) rfl ?_; refine oN ⟨rfl, ?_⟩; refine pS ?_; refine oL rfl rfl (qla3 1) ?_; refine oN ⟨rfl, ?_⟩; refine pS ?_; refine oM rfl rfl ?_; refine oN ⟨rfl, ?_⟩; refine pS ?_; refine OkO.convert (k := .i64) rfl (by kernel_rfl) rfl (wrapF_i64 (by omega) (by omega)) ?_; refine oN ⟨rfl, ?_⟩; refine pS ?_; refine oF (o := 3) rfl (by kernel_rfl) rfl ?_; refine oN ⟨rfl, ?_⟩; refine pS ?_; refine oF (o := 1) rfl (by kernel_rfl) rfl ?_; refine oN ⟨rfl, ?_⟩; refine pS ?_; refine oL rfl rfl (qla3 1) ?_; refine oN ⟨rfl, ?_⟩; refine pS ?_; refine oF (o := 3) rfl (by kernel_rfl) rfl ?_; refine oN ⟨rfl, ?_⟩; refine pS ?_; refine oF (o := 0) rfl (by kernel_rfl) rfl ?_; refine oN ⟨rfl, ?_⟩; refine pS ?_; refine oL rfl rfl (qla3 1) ?_; refine oN ⟨rfl, ?_⟩; refine pS ?_; refine OkO.bin rfl rfl rfl (bin_sub (by omega) (by omega)) ?_; refine oN ⟨rfl, ?_⟩; refine pS ?_; refine OkO.bin rfl rfl rfl (bin_add (by omega) (by omega)) ?_; refine oN ⟨rfl, ?_⟩; refine pS ?_; refine OkO.bin rfl rfl rfl (bin_rem (by omega) (by omega)) ?_; refine oN ⟨rfl, ?_⟩; refine pS ?_; refine OkO.bin rfl rfl rfl (bin_add (by omega) (by omega)) ?_; refine oN ⟨rfl, ?_⟩; refine pS ?_; refine oA rfl rfl ?_; refine oN ⟨rfl, ?_⟩; refine OkP.nil ?_; refine kS ?_; refine kS ?_; refine kR ?_; refine oM rfl rfl ?_; refine OkO.bin rfl rfl rfl (bin_neq _ _) ?_; refine oN ?_
          refine Ok.cond rfl (fun h5 => ?_) (fun h5 => ?_)
          · refine kS ?_
            refine kR ?_; refine oM rfl rfl ?_; refine OkO.bin rfl rfl rfl (bin_eql _ _) ?_; refine oM rfl rfl ?_
            refine OkO.split (d := 74) rfl (fun g6 => ?_) (fun g6 => ?_)
            · refine oL rfl rfl (qlg4 2) ?_
              refine OkO.build (z := [.int .i64 0, .int .i64 0]) (pl := [(0, 1), (1, 1)]) rfl (by kernel_rfl) rfl rfl ?_; refine OkO.binT rfl rfl rfl ((show binT Try.prog .eql 36 (.agg [I 0, I 0]) (.agg [I 0, I 0]) = some (.bool true) by kernel_rfl)) ?_; refine OkO.pick (b := true) rfl rfl (fun _ => rfl) nofun ?_; refine oM rfl rfl ?_
              refine OkO.split (d := 79) rfl (fun g7 => ?_) (fun g7 => ?_)
              · refine oL rfl rfl (qlg4 6) ?_
                refine oM rfl rfl ?_; refine oM rfl rfl ?_; refine oM rfl rfl ?_; refine oV rfl rfl rfl rfl rfl (c36w (m + 1) cv dv rv cs g ds rs (g.klo + w % (g.khi - g.klo + 1)) _ (hR.ext (hE _ (by (try dsimp only); repeat (first | exact gC | apply Grow.new | (refine Grow.put ?_ _ (by first | omega | (simp only [hNw, hPt]; omega))))))) (by omega) (hY.ext (hE _ (by (try dsimp only); repeat (first | exact gC | apply Grow.new | (refine Grow.put ?_ _ (by first | omega | (simp only [hNw, hPt]; omega))))))) (by omega) (hZ.ext (hE _ (by (try dsimp only); repeat (first | exact gC | apply Grow.new | (refine Grow.put ?_ _ (by first | omega | (simp only [hNw, hPt]; omega))))))) (by omega) hrs hd0 (by omega) (hK _ (by omega) (by omega))) ?_; refine OkO.un rfl rfl rfl ?_; refine OkO.pick (b := true) rfl rfl (fun _ => rfl) nofun ?_; refine oM rfl rfl ?_
                refine OkO.split (d := 87) rfl (fun g8 => ?_) (fun g8 => ?_)
                · refine oL rfl rfl (qlg4 6) ?_
                  refine oM rfl rfl ?_; refine oM rfl rfl ?_; refine oF (o := 3) rfl (by kernel_rfl) rfl ?_; refine oF (o := 0) rfl (by kernel_rfl) rfl ?_; refine oL rfl rfl (qla3 1) ?_; refine oV rfl rfl rfl rfl rfl (c36w (m + 1) cv dv rv cs g ds rs g.klo _ (hR.ext (hE _ (by (try dsimp only); repeat (first | exact gC | apply Grow.new | (refine Grow.put ?_ _ (by first | omega | (simp only [hNw, hPt]; omega))))))) (by omega) (hY.ext (hE _ (by (try dsimp only); repeat (first | exact gC | apply Grow.new | (refine Grow.put ?_ _ (by first | omega | (simp only [hNw, hPt]; omega))))))) (by omega) (hZ.ext (hE _ (by (try dsimp only); repeat (first | exact gC | apply Grow.new | (refine Grow.put ?_ _ (by first | omega | (simp only [hNw, hPt]; omega))))))) (by omega) hrs hd0 (by omega) (hK _ (by omega) (by omega))) ?_; refine OkO.un rfl rfl rfl ?_; refine OkO.pick (b := true) rfl rfl (fun _ => rfl) nofun ?_; refine oM rfl rfl ?_
                  refine OkO.split (d := 97) rfl (fun g9 => ?_) (fun g9 => ?_)
                  · refine oL rfl rfl (qlg4 6) ?_
                    refine oM rfl rfl ?_; refine oM rfl rfl ?_; refine oF (o := 3) rfl (by kernel_rfl) rfl ?_; refine oF (o := 1) rfl (by kernel_rfl) rfl ?_; refine oL rfl rfl (qla3 1) ?_; refine oV rfl rfl rfl rfl rfl (c36w (m + 1) cv dv rv cs g ds rs g.khi _ (hR.ext (hE _ (by (try dsimp only); repeat (first | exact gC | apply Grow.new | (refine Grow.put ?_ _ (by first | omega | (simp only [hNw, hPt]; omega))))))) (by omega) (hY.ext (hE _ (by (try dsimp only); repeat (first | exact gC | apply Grow.new | (refine Grow.put ?_ _ (by first | omega | (simp only [hNw, hPt]; omega))))))) (by omega) (hZ.ext (hE _ (by (try dsimp only); repeat (first | exact gC | apply Grow.new | (refine Grow.put ?_ _ (by first | omega | (simp only [hNw, hPt]; omega))))))) (by omega) hrs hd0 (by omega) (hK _ (by omega) (by omega))) ?_; refine OkO.un rfl rfl rfl ?_; refine OkO.pick (b := true) rfl rfl (fun _ => rfl) nofun ?_; refine oM rfl rfl ?_
                    refine OkO.split (d := 107) rfl (fun g10 => ?_) (fun g10 => ?_)
                    · refine oV rfl rfl rfl rfl rfl (rfl) ?_
                      refine OkO.pick (b := true) rfl rfl (fun _ => rfl) nofun ?_; refine oA rfl rfl ?_; refine oN ?_
                      refine Ok.ret ⟨.inr rfl, ?_⟩
                      exact ⟨_, _, back_flat rfl rfl rfl (by rw [← hW]; exact (by (try dsimp only); repeat (first | exact gC | apply Grow.new | (refine Grow.put ?_ _ (by first | omega | (simp only [hNw, hPt]; omega)))))), rfl⟩
                    · exact absurd g10 (by simp)
                  · exact absurd g9 (by simp)
                · exact absurd g8 (by simp)
              · exact absurd g7 (by simp)
            · exact absurd g6 (by simp)
          · exact absurd h5 (by simp)
      · exact absurd h3 (by simp)
set_option maxHeartbeats 1000000 in
theorem c6T (m : Nat) (cv dv rv : AV) (cs : List Cell) (g : Gr) (ds : List Day) (rs : List Rd) (w : Int) (H : Heap) (hR : Row H cv 7 (cs.map Cell.c)) (hY : Row H dv 3 (ds.map Day.c)) (hZ : Row H rv 4 (rs.map Rd.c)) (hw : 0 ≤ w ∧ w ≤ 65535) (hke : readErr cs g ds rs = 0) (hK : ∃ s, g.klo ≤ s ∧ s ≤ g.khi ∧ agreesB cs g ds rs s = true) : FnN Try.prog (RR (m + 41)) 6 [.agg [cv, I g.slo, I g.shi, I g.klo, I g.khi, I g.melt], dv, rv, U w] H fun v H' => v = .bool true := by
  refine fn_okE Try.func6 rfl rfl (by kernel_rfl) (by kernel_rfl) ?_
  obtain ⟨W, hW, hg, hN, hE, hG⟩ := wOf H
  rw [← hW]
  have hlc : lenOf cv = some cs.length := by simpa using hR.len
  have hld : lenOf dv = some ds.length := by simpa using hY.len
  have hlr : lenOf rv = some rs.length := by simpa using hZ.len
  have pc := lpl hlc
  have pd := lpl hld
  have pr := lpl hlr
  obtain ⟨hd0, hl30, hrs, hkn⟩ := read_ok hke
  have hle : learnErr cs g ds rs = 0 := by unfold readErr at hke; rw [if_pos hd0] at hke; exact hke
  have hk9 := (gf_of hd0).soak
  have hm1 := Int.emod_nonneg w (show g.khi - g.klo + 1 ≠ 0 by omega)
  have hm2 := Int.emod_lt_of_pos w (show 0 < g.khi - g.klo + 1 by omega)
  refine kS ?_; refine kR ?_; refine OkO.box rfl rfl ?_; refine oA rfl rfl ?_; refine oN ?_; refine kS ?_; refine kS ?_; refine kR ?_; refine oL rfl rfl (qlg4 6) ?_; refine oM rfl rfl ?_; refine oV rfl rfl rfl rfl rfl (c16 (m + 40) cv dv cs g ds _ (hR.ext (hE _ (by (try dsimp only); repeat (first | exact hG | apply Grow.new | (refine Grow.put ?_ _ (by first | omega | (simp only [hNw, hPt]; omega))))))) (hY.ext (hE _ (by (try dsimp only); repeat (first | exact hG | apply Grow.new | (refine Grow.put ?_ _ (by first | omega | (simp only [hNw, hPt]; omega)))))))) ?_; refine OkO.un rfl rfl rfl ?_; refine oM rfl rfl ?_
  refine OkO.split (d := 17) rfl (fun g1 => ?_) (fun g1 => ?_)
  · refine oK rfl ?_
    refine oK rfl ?_; refine oK rfl ?_; refine OkO.pick (b := true) rfl rfl (fun _ => rfl) nofun ?_; refine oN ?_; refine Ok.condT rfl ?_; refine kS ?_; refine kR ?_; refine oV rfl rfl rfl rfl rfl (rfl) ?_; refine oA rfl rfl ?_; refine oN ?_
    refine Ok.ret ⟨.inr rfl, ?_⟩
    exact ⟨_, _, back_flat rfl rfl rfl (by rw [← hW]; exact (by (try dsimp only); repeat (first | exact hG | apply Grow.new | (refine Grow.put ?_ _ (by first | omega | (simp only [hNw, hPt]; omega)))))), rfl⟩
  · have hth : thinB cs ds = true := by simpa using g1
    unfold thinB at hth
    rw [Bool.and_eq_true] at hth
    have th1 := of_decide_eq_true hth.1
    have th2 := of_decide_eq_true hth.2
    refine oM rfl rfl ?_; refine oB rfl rfl rfl qbl ?_; refine OkO.bin rfl rfl rfl (bin_gtr _ _) ?_; refine OkO.pick (b := false) rfl rfl nofun (fun _ => rfl) ?_; refine oN ?_
    refine Ok.cond rfl (fun h2 => ?_) (fun h2 => ?_)
    · refine kS ?_
      refine kR ?_; refine oV rfl rfl rfl rfl rfl (rfl) ?_; refine oA rfl rfl ?_; refine oN ?_
      refine Ok.ret ⟨.inr rfl, ?_⟩
      exact ⟨_, _, back_flat rfl rfl rfl (by rw [← hW]; exact (by (try dsimp only); repeat (first | exact hG | apply Grow.new | (refine Grow.put ?_ _ (by first | omega | (simp only [hNw, hPt]; omega)))))), rfl⟩
    · have th3 : ¬(35 : Int) < (rs.length : Int) := by simpa using h2
      refine Ok.skip ?_; refine kS ?_; refine kR ?_; refine oL rfl rfl (qlg4 6) ?_; refine oE rfl rfl rfl rfl rfl (c19 (m + 39) cv cs g _ (hR.ext (hE _ (by (try dsimp only); repeat (first | exact hG | apply Grow.new | (refine Grow.put ?_ _ (by first | omega | (simp only [hNw, hPt]; omega))))))) (by omega)) ?_
      rintro vA HA ⟨cvA, rfl, qA, rA, atA⟩
      have gA : Grow W HA := Grow.ret (by (try dsimp only); repeat (first | exact hG | apply Grow.new | (refine Grow.put ?_ _ (by first | omega | (simp only [hNw, hPt]; omega))))) qA
      have nA : W.next + 1 ≤ HA.next := by have := qA.ext.next; first | omega | (simp only [hNw] at this; omega)
      have aA : (HA.get W.next).bind AObj.cs = some [cv, I g.slo, I g.shi, I g.klo, I g.khi, I g.melt] := by rw [qA.ext.get _ (by first | omega | (simp only [hNw]; omega))]; first | assumption | (simp (disch := first | omega | (simp only [hNw, hPt]; omega)) only [gN] <;> first | rfl | assumption)
      refine oM rfl rfl ?_; refine oE rfl rfl rfl rfl rfl (c21 (m + 39) dv ds _ (hY.ext (hE _ gA)) (by omega)) ?_
      rintro dvB HB ⟨qB, rB, atB⟩
      have gB : Grow W HB := Grow.ret gA qB
      have nB : W.next + 1 ≤ HB.next := by have := qB.ext.next; first | omega | (simp only [hNw] at this; omega)
      have aB : (HB.get W.next).bind AObj.cs = some [cv, I g.slo, I g.shi, I g.klo, I g.khi, I g.melt] := by rw [qB.ext.get _ (by first | omega | (simp only [hNw]; omega))]; first | assumption | (simp (disch := first | omega | (simp only [hNw, hPt]; omega)) only [gN] <;> first | rfl | assumption)
      refine oM rfl rfl ?_; refine oE rfl rfl rfl rfl rfl (c34 (m + 39) rv rs _ (hZ.ext (hE _ gB)) (by omega)) ?_
      rintro rvC HC ⟨qC, rC, atC⟩
      have gC : Grow W HC := Grow.ret gB qC
      have nC : W.next + 1 ≤ HC.next := by have := qC.ext.next; first | omega | (simp only [hNw] at this; omega)
      have aC : (HC.get W.next).bind AObj.cs = some [cv, I g.slo, I g.shi, I g.klo, I g.khi, I g.melt] := by rw [qC.ext.get _ (by first | omega | (simp only [hNw]; omega))]; first | assumption | (simp (disch := first | omega | (simp only [hNw, hPt]; omega)) only [gN] <;> first | rfl | assumption)
      refine OkO.callN rfl rfl rfl rfl rfl (c33T m cvA dvB rvC cs g ds rs _ (rA.ext (qB.ext.trans qC.ext)) (by omega) (rB.ext qC.ext) (by omega) rC (by omega) hke hK) ?_
      rintro v33 H33 ⟨a, b, k1, k2, k3, k4, rfl, rfl⟩
      have kf : ∀ s, g.klo ≤ s → s ≤ g.khi → ¬(a ≤ s ∧ s ≤ b) → agreesB cs g ds rs s = false := fun s q1 q2 q3 => by cases hq : agreesB cs g ds rs s with | false => rfl | true => exact absurd ((k4 s q1 q2).1 hq) q3
      have kin : agreesB cs g ds rs (g.klo + w % (g.khi - g.klo + 1)) = inB (g.klo + w % (g.khi - g.klo + 1)) a b := by rw [Bool.eq_iff_iff, k4 _ (by omega) (by omega)]; simp [inB]
      refine oM rfl rfl ?_; refine OkO.extract rfl rfl rfl ?_; refine OkO.extract rfl rfl rfl ?_; refine OkO.alloc (z := [.int .i64 0, .int .i64 0]) rfl (by kernel_rfl) ?_; refine oT rfl rfl rfl (sAc (n := 2) (ag := true) (by kernel_rfl) (by first | assumption | (simp (disch := first | omega | (simp only [hNw, hPt]; omega)) only [gN] <;> first | rfl | assumption | exact gp0 _ _ _ | exact gn0 _ _)) rfl (by first | rfl | assumption) (by first | rfl | exact spl_set _ _ _ (by first | assumption | omega | (simp; omega)))) ?_; refine oA rfl rfl ?_; refine oN ?_; refine kS ?_; refine kR ?_; refine oL rfl rfl (qlg4 6) ?_; refine oM rfl rfl ?_; refine oV rfl rfl rfl rfl rfl (c24w (m + 37) cv dv cs g ds _ (hR.ext (hE _ (by (try dsimp only); repeat (first | exact gC | apply Grow.new | (refine Grow.put ?_ _ (by first | omega | (simp only [hNw, hPt]; omega))))))) (by omega) (hY.ext (hE _ (by (try dsimp only); repeat (first | exact gC | apply Grow.new | (refine Grow.put ?_ _ (by first | omega | (simp only [hNw, hPt]; omega))))))) (by omega) hd0) ?_; refine oA rfl rfl ?_; refine oN ?_; refine kS ?_; refine kS ?_; refine kR ?_; refine oM rfl rfl ?_; refine OkO.bin rfl rfl rfl (bin_eql _ _) ?_; refine oN ?_
      refine Ok.cond rfl (fun h3 => ?_) (fun h3 => ?_)
      · refine kR ?_
        refine oL rfl rfl (qlg4 6) ?_; refine oM rfl rfl ?_; refine oM rfl rfl ?_; refine oV rfl rfl rfl rfl rfl (c35w (m + 38) cv dv rv cs g ds rs _ (hR.ext (hE _ (by (try dsimp only); repeat (first | exact gC | apply Grow.new | (refine Grow.put ?_ _ (by first | omega | (simp only [hNw, hPt]; omega))))))) (by omega) (hY.ext (hE _ (by (try dsimp only); repeat (first | exact gC | apply Grow.new | (refine Grow.put ?_ _ (by first | omega | (simp only [hNw, hPt]; omega))))))) (by omega) (hZ.ext (hE _ (by (try dsimp only); repeat (first | exact gC | apply Grow.new | (refine Grow.put ?_ _ (by first | omega | (simp only [hNw, hPt]; omega))))))) (by omega) hle) ?_; refine oA rfl rfl ?_; refine oN ?_; refine kS ?_; refine kS ?_; refine kR ?_; refine oM rfl rfl ?_; refine OkO.bin rfl rfl rfl (bin_neq _ _) ?_; refine oN ?_
        refine Ok.cond rfl (fun h4 => ?_) (fun h4 => ?_)
        · exact absurd h4 (by simp)
        · refine Ok.skip ?_
          refine kS ?_; refine Ok.drawn [(0, true, []), (1, true, []), (2, true, []), (3, true, []), (4, true, []), (5, true, []), (6, true, []), (7, true, []), (8, true, []), (9, true, []), (10, true, []), (11, true, []), (12, true, []), (13, true, []), (14, true, []), (15, true, [])] (by kernel_rfl) ?_; refine pS ?_; refine oF (o := 3) rfl (by kernel_rfl) rfl ?_; refine oN ⟨rfl, ?_⟩; refine pS ?_; refine oF (o := 0) rfl (by kernel_rfl) rfl ?_; refine oN ⟨rfl, ?_⟩; refine pS ?_; refine oL rfl rfl (qla3 1) ?_; refine oN ⟨rfl, ?_⟩; refine pS ?_; refine oM rfl rfl ?_; refine oN ⟨rfl, ?_⟩; refine pS ?_; refine OkO.convert (k := .i64) rfl (by kernel_rfl) rfl (wrapF_i64 (by omega) (by omega)) ?_; refine oN ⟨rfl, ?_⟩; refine pS ?_; refine oF (o := 3) rfl (by kernel_rfl) rfl ?_; refine oN ⟨rfl, ?_⟩; refine pS ?_; refine oF (o := 1) rfl (by kernel_rfl) rfl ?_; refine oN ⟨rfl, ?_⟩; refine pS ?_; refine oL rfl rfl (qla3 1) ?_; refine oN ⟨rfl, ?_⟩; refine pS ?_; refine oF (o := 3) rfl (by kernel_rfl) rfl ?_; refine oN ⟨rfl, ?_⟩; refine pS ?_; refine oF (o := 0) rfl (by kernel_rfl) rfl ?_; refine oN ⟨rfl, ?_⟩; refine pS ?_; refine oL rfl rfl (qla3 1) ?_; refine oN ⟨rfl, ?_⟩; refine pS ?_; refine OkO.bin rfl rfl rfl (bin_sub (by omega) (by omega)) ?_; refine oN ⟨rfl, ?_⟩; refine pS ?_; refine OkO.bin rfl rfl rfl (bin_add (by omega) (by omega)) ?_; refine oN ⟨rfl, ?_⟩; refine pS ?_; refine OkO.bin rfl rfl rfl (bin_rem (by omega) (by omega)) ?_; refine oN ⟨rfl, ?_⟩; refine pS ?_; refine OkO.bin rfl rfl rfl (bin_add (by omega) (by omega)) ?_; refine oN ⟨rfl, ?_⟩; refine pS ?_; refine oA rfl rfl ?_; refine oN ⟨rfl, ?_⟩; refine OkP.nil ?_; refine kS ?_; refine kS ?_; refine kR ?_; refine oM rfl rfl ?_; refine OkO.bin rfl rfl rfl (bin_neq _ _) ?_; refine oN ?_
          refine Ok.cond rfl (fun h5 => ?_) (fun h5 => ?_)
          · exact absurd h5 (by simp)
          · refine Ok.skip ?_
            refine kS ?_; refine kS ?_; refine kR ?_; refine oF (o := 0) rfl (by kernel_rfl) rfl ?_; refine oL rfl rfl (qla3 1) ?_; refine oF (o := 1) rfl (by kernel_rfl) rfl ?_; refine oL rfl rfl (qla3 1) ?_; refine OkO.bin rfl rfl rfl (bin_gtr _ _) ?_; refine oM rfl rfl ?_
            refine OkO.split (d := 115) rfl (fun g6 => ?_) (fun g6 => ?_)
            · exact absurd (of_decide_eq_true g6) (by omega)
            · refine oF (o := 0) rfl (by kernel_rfl) rfl ?_
              refine oL rfl rfl (qla3 1) ?_; refine oF (o := 3) rfl (by kernel_rfl) rfl ?_; refine oF (o := 0) rfl (by kernel_rfl) rfl ?_; refine oL rfl rfl (qla3 1) ?_; refine OkO.bin rfl rfl rfl (bin_lss _ _) ?_; refine OkO.pick (b := false) rfl rfl nofun (fun _ => rfl) ?_; refine oM rfl rfl ?_
              refine OkO.split (d := 123) rfl (fun g7 => ?_) (fun g7 => ?_)
              · exact absurd (of_decide_eq_true g7) (by omega)
              · refine oF (o := 1) rfl (by kernel_rfl) rfl ?_
                refine oL rfl rfl (qla3 1) ?_; refine oF (o := 3) rfl (by kernel_rfl) rfl ?_; refine oF (o := 1) rfl (by kernel_rfl) rfl ?_; refine oL rfl rfl (qla3 1) ?_; refine OkO.bin rfl rfl rfl (bin_gtr _ _) ?_; refine OkO.pick (b := false) rfl rfl nofun (fun _ => rfl) ?_; refine oM rfl rfl ?_
                refine OkO.split (d := 131) rfl (fun g8 => ?_) (fun g8 => ?_)
                · exact absurd (of_decide_eq_true g8) (by omega)
                · refine oL rfl rfl (qlg4 6) ?_
                  refine oM rfl rfl ?_; refine oM rfl rfl ?_; refine oF (o := 0) rfl (by kernel_rfl) rfl ?_; refine oL rfl rfl (qla3 1) ?_; refine oV rfl rfl rfl rfl rfl (c36w (m + 1) cv dv rv cs g ds rs a _ (hR.ext (hE _ (by (try dsimp only); repeat (first | exact gC | apply Grow.new | (refine Grow.put ?_ _ (by first | omega | (simp only [hNw, hPt]; omega))))))) (by omega) (hY.ext (hE _ (by (try dsimp only); repeat (first | exact gC | apply Grow.new | (refine Grow.put ?_ _ (by first | omega | (simp only [hNw, hPt]; omega))))))) (by omega) (hZ.ext (hE _ (by (try dsimp only); repeat (first | exact gC | apply Grow.new | (refine Grow.put ?_ _ (by first | omega | (simp only [hNw, hPt]; omega))))))) (by omega) hrs hd0 (by omega) ((k4 a (by omega) (by omega)).2 ⟨by omega, by omega⟩)) ?_; refine OkO.un rfl rfl rfl ?_; refine OkO.pick (b := false) rfl rfl nofun (fun _ => rfl) ?_; refine oM rfl rfl ?_
                  refine OkO.split (d := 140) rfl (fun g9 => ?_) (fun g9 => ?_)
                  · exact absurd g9 (by simp)
                  · refine oL rfl rfl (qlg4 6) ?_
                    refine oM rfl rfl ?_; refine oM rfl rfl ?_; refine oF (o := 1) rfl (by kernel_rfl) rfl ?_; refine oL rfl rfl (qla3 1) ?_; refine oV rfl rfl rfl rfl rfl (c36w (m + 1) cv dv rv cs g ds rs b _ (hR.ext (hE _ (by (try dsimp only); repeat (first | exact gC | apply Grow.new | (refine Grow.put ?_ _ (by first | omega | (simp only [hNw, hPt]; omega))))))) (by omega) (hY.ext (hE _ (by (try dsimp only); repeat (first | exact gC | apply Grow.new | (refine Grow.put ?_ _ (by first | omega | (simp only [hNw, hPt]; omega))))))) (by omega) (hZ.ext (hE _ (by (try dsimp only); repeat (first | exact gC | apply Grow.new | (refine Grow.put ?_ _ (by first | omega | (simp only [hNw, hPt]; omega))))))) (by omega) hrs hd0 (by omega) ((k4 b (by omega) (by omega)).2 ⟨by omega, by omega⟩)) ?_; refine OkO.un rfl rfl rfl ?_; refine OkO.pick (b := false) rfl rfl nofun (fun _ => rfl) ?_; refine oM rfl rfl ?_
                    refine OkO.split (d := 149) rfl (fun g10 => ?_) (fun g10 => ?_)
                    · exact absurd g10 (by simp)
                    · refine oF (o := 0) rfl (by kernel_rfl) rfl ?_
                      refine oL rfl rfl (qla3 1) ?_; refine oF (o := 3) rfl (by kernel_rfl) rfl ?_; refine oF (o := 0) rfl (by kernel_rfl) rfl ?_; refine oL rfl rfl (qla3 1) ?_; refine OkO.bin rfl rfl rfl (bin_gtr _ _) ?_; refine oM rfl rfl ?_
                      refine OkO.split (d := 156) rfl (fun g11 => ?_) (fun g11 => ?_)
                      · have q1 : g.klo < a := of_decide_eq_true g11
                        refine oL rfl rfl (qlg4 6) ?_; refine oM rfl rfl ?_; refine oM rfl rfl ?_; refine oF (o := 0) rfl (by kernel_rfl) rfl ?_; refine oL rfl rfl (qla3 1) ?_; refine OkO.bin rfl rfl rfl (bin_sub (by omega) (by omega)) ?_; refine oV rfl rfl rfl rfl rfl (c36w (m + 1) cv dv rv cs g ds rs (a - 1) _ (hR.ext (hE _ (by (try dsimp only); repeat (first | exact gC | apply Grow.new | (refine Grow.put ?_ _ (by first | omega | (simp only [hNw, hPt]; omega))))))) (by omega) (hY.ext (hE _ (by (try dsimp only); repeat (first | exact gC | apply Grow.new | (refine Grow.put ?_ _ (by first | omega | (simp only [hNw, hPt]; omega))))))) (by omega) (hZ.ext (hE _ (by (try dsimp only); repeat (first | exact gC | apply Grow.new | (refine Grow.put ?_ _ (by first | omega | (simp only [hNw, hPt]; omega))))))) (by omega) hrs hd0 (by omega) (kf _ (by omega) (by omega) (by omega))) ?_; refine OkO.pick (b := true) rfl rfl (fun _ => rfl) nofun ?_; refine OkO.pick (b := false) rfl rfl nofun (fun _ => rfl) ?_; refine oM rfl rfl ?_
                        refine OkO.split (d := 166) rfl (fun g12 => ?_) (fun g12 => ?_)
                        · exact absurd g12 (by simp)
                        · refine oF (o := 1) rfl (by kernel_rfl) rfl ?_
                          refine oL rfl rfl (qla3 1) ?_; refine oF (o := 3) rfl (by kernel_rfl) rfl ?_; refine oF (o := 1) rfl (by kernel_rfl) rfl ?_; refine oL rfl rfl (qla3 1) ?_; refine OkO.bin rfl rfl rfl (bin_lss _ _) ?_; refine oM rfl rfl ?_
                          refine OkO.split (d := 173) rfl (fun g13 => ?_) (fun g13 => ?_)
                          · have q2 : b < g.khi := of_decide_eq_true g13
                            refine oL rfl rfl (qlg4 6) ?_; refine oM rfl rfl ?_; refine oM rfl rfl ?_; refine oF (o := 1) rfl (by kernel_rfl) rfl ?_; refine oL rfl rfl (qla3 1) ?_; refine OkO.bin rfl rfl rfl (bin_add (by omega) (by omega)) ?_; refine oV rfl rfl rfl rfl rfl (c36w (m + 1) cv dv rv cs g ds rs (b + 1) _ (hR.ext (hE _ (by (try dsimp only); repeat (first | exact gC | apply Grow.new | (refine Grow.put ?_ _ (by first | omega | (simp only [hNw, hPt]; omega))))))) (by omega) (hY.ext (hE _ (by (try dsimp only); repeat (first | exact gC | apply Grow.new | (refine Grow.put ?_ _ (by first | omega | (simp only [hNw, hPt]; omega))))))) (by omega) (hZ.ext (hE _ (by (try dsimp only); repeat (first | exact gC | apply Grow.new | (refine Grow.put ?_ _ (by first | omega | (simp only [hNw, hPt]; omega))))))) (by omega) hrs hd0 (by omega) (kf _ (by omega) (by omega) (by omega))) ?_; refine OkO.pick (b := true) rfl rfl (fun _ => rfl) nofun ?_; refine OkO.pick (b := false) rfl rfl nofun (fun _ => rfl) ?_; refine oN ?_
                            refine Ok.cond rfl (fun h14 => ?_) (fun h14 => ?_)
                            · exact absurd h14 (by simp)
                            · refine Ok.skip ?_
                              refine kS ?_; refine Ok.drawn [(0, true, []), (1, true, []), (2, true, []), (3, true, []), (5, true, []), (6, true, []), (7, true, []), (8, true, []), (9, true, []), (4, false, [9, 7]), (10, false, [0]), (11, true, []), (12, true, []), (13, false, [9, 7, 0]), (14, true, []), (15, true, [])] (by kernel_rfl) ?_; refine pS ?_; refine oL rfl rfl (qlg4 6) ?_; refine oN ⟨rfl, ?_⟩; refine pS ?_; refine oM rfl rfl ?_; refine oN ⟨rfl, ?_⟩; refine pS ?_; refine oM rfl rfl ?_; refine oN ⟨rfl, ?_⟩; refine pS ?_; refine oM rfl rfl ?_; refine oN ⟨rfl, ?_⟩; refine pS ?_; refine oM rfl rfl ?_; refine oN ⟨rfl, ?_⟩; refine pS ?_; refine oF (o := 0) rfl (by kernel_rfl) rfl ?_; refine oN ⟨rfl, ?_⟩; refine pS ?_; refine oL rfl rfl (qla3 1) ?_; refine oN ⟨rfl, ?_⟩; refine pS ?_; refine oF (o := 1) rfl (by kernel_rfl) rfl ?_; refine oN ⟨rfl, ?_⟩; refine pS ?_; refine oL rfl rfl (qla3 1) ?_; refine oN ⟨rfl, ?_⟩; refine pS ?_; refine oV rfl rfl rfl rfl rfl (c36w (m + 1) cv dv rv cs g ds rs (g.klo + w % (g.khi - g.klo + 1)) _ (hR.ext (hE _ (by (try dsimp only); repeat (first | exact gC | apply Grow.new | (refine Grow.put ?_ _ (by first | omega | (simp only [hNw, hPt]; omega))))))) (by omega) (hY.ext (hE _ (by (try dsimp only); repeat (first | exact gC | apply Grow.new | (refine Grow.put ?_ _ (by first | omega | (simp only [hNw, hPt]; omega))))))) (by omega) (hZ.ext (hE _ (by (try dsimp only); repeat (first | exact gC | apply Grow.new | (refine Grow.put ?_ _ (by first | omega | (simp only [hNw, hPt]; omega))))))) (by omega) hrs hd0 (by omega) kin) ?_
                              refine oN ⟨(sco (qsa8 1 rfl rfl rfl) (sco (qsa8 1 rfl rfl rfl) rfl)), ?_⟩; refine pS ?_; refine oV rfl rfl rfl rfl rfl (c37 _ _ _ _ _) ?_
                              refine oN ⟨(sco (qsg9 6 rfl rfl rfl) rfl), ?_⟩; refine pS ?_; refine OkO.binT rfl rfl rfl (by rfl) ?_; refine oN ⟨rfl, ?_⟩; refine pS ?_; refine oM rfl rfl ?_; refine oN ⟨rfl, ?_⟩
                              refine OkP.split (d := 195) rfl (fun g15 => ?_) (fun g15 => ?_)
                              · refine pS ?_
                                refine oV rfl rfl rfl rfl rfl (rfl) ?_
                                refine oN ⟨(sco (qsa8 1 rfl rfl rfl) (sco (qsa8 1 rfl rfl rfl) (sco (qsg9 6 rfl rfl rfl) rfl))), ?_⟩; refine pS ?_; refine OkO.pick (b := true) rfl rfl (fun _ => rfl) nofun ?_; refine oN ⟨rfl, ?_⟩; refine pS ?_; refine oA rfl rfl ?_; refine oN ⟨rfl, ?_⟩; refine OkP.nil ?_
                                refine Ok.ret ⟨.inr rfl, ?_⟩
                                exact ⟨_, _, back_flat rfl rfl rfl (by rw [← hW]; exact (by (try dsimp only); repeat (first | exact gC | apply Grow.new | (refine Grow.put ?_ _ (by first | omega | (simp only [hNw, hPt]; omega)))))), rfl⟩
                              · exact absurd g15 (by simp)
                          · refine oK rfl ?_
                            refine oK rfl ?_; refine oK rfl ?_; refine oK rfl ?_; refine oK rfl ?_; refine oK rfl ?_; refine oK rfl ?_; refine OkO.pick (b := false) rfl rfl nofun (fun _ => rfl) ?_; refine OkO.pick (b := false) rfl rfl nofun (fun _ => rfl) ?_; refine oN ?_; refine Ok.condF rfl ?_; refine Ok.skip ?_; refine kS ?_; refine Ok.drawn [(0, true, []), (1, true, []), (2, true, []), (3, true, []), (5, true, []), (6, true, []), (7, true, []), (8, true, []), (9, true, []), (4, false, [9, 7]), (10, false, [0]), (11, true, []), (12, true, []), (13, false, [9, 7, 0]), (14, true, []), (15, true, [])] (by kernel_rfl) ?_; refine pS ?_; refine oL rfl rfl (qlg4 6) ?_; refine oN ⟨rfl, ?_⟩; refine pS ?_; refine oM rfl rfl ?_; refine oN ⟨rfl, ?_⟩; refine pS ?_; refine oM rfl rfl ?_; refine oN ⟨rfl, ?_⟩; refine pS ?_; refine oM rfl rfl ?_; refine oN ⟨rfl, ?_⟩; refine pS ?_; refine oM rfl rfl ?_; refine oN ⟨rfl, ?_⟩; refine pS ?_; refine oF (o := 0) rfl (by kernel_rfl) rfl ?_; refine oN ⟨rfl, ?_⟩; refine pS ?_; refine oL rfl rfl (qla3 1) ?_; refine oN ⟨rfl, ?_⟩; refine pS ?_; refine oF (o := 1) rfl (by kernel_rfl) rfl ?_; refine oN ⟨rfl, ?_⟩; refine pS ?_; refine oL rfl rfl (qla3 1) ?_; refine oN ⟨rfl, ?_⟩; refine pS ?_; refine oV rfl rfl rfl rfl rfl (c36w (m + 1) cv dv rv cs g ds rs (g.klo + w % (g.khi - g.klo + 1)) _ (hR.ext (hE _ (by (try dsimp only); repeat (first | exact gC | apply Grow.new | (refine Grow.put ?_ _ (by first | omega | (simp only [hNw, hPt]; omega))))))) (by omega) (hY.ext (hE _ (by (try dsimp only); repeat (first | exact gC | apply Grow.new | (refine Grow.put ?_ _ (by first | omega | (simp only [hNw, hPt]; omega))))))) (by omega) (hZ.ext (hE _ (by (try dsimp only); repeat (first | exact gC | apply Grow.new | (refine Grow.put ?_ _ (by first | omega | (simp only [hNw, hPt]; omega))))))) (by omega) hrs hd0 (by omega) kin) ?_
                            refine oN ⟨(sco (qsa8 1 rfl rfl rfl) (sco (qsa8 1 rfl rfl rfl) rfl)), ?_⟩; refine pS ?_; refine oV rfl rfl rfl rfl rfl (c37 _ _ _ _ _) ?_
                            refine oN ⟨(sco (qsg9 6 rfl rfl rfl) rfl), ?_⟩; refine pS ?_; refine OkO.binT rfl rfl rfl (by rfl) ?_; refine oN ⟨rfl, ?_⟩; refine pS ?_; refine oM rfl rfl ?_; refine oN ⟨rfl, ?_⟩
                            refine OkP.split (d := 195) rfl (fun g16 => ?_) (fun g16 => ?_)
                            · refine pS ?_
                              refine oV rfl rfl rfl rfl rfl (rfl) ?_
                              refine oN ⟨(sco (qsa8 1 rfl rfl rfl) (sco (qsa8 1 rfl rfl rfl) (sco (qsg9 6 rfl rfl rfl) rfl))), ?_⟩; refine pS ?_; refine OkO.pick (b := true) rfl rfl (fun _ => rfl) nofun ?_; refine oN ⟨rfl, ?_⟩; refine pS ?_; refine oA rfl rfl ?_; refine oN ⟨rfl, ?_⟩; refine OkP.nil ?_
                              refine Ok.ret ⟨.inr rfl, ?_⟩
                              exact ⟨_, _, back_flat rfl rfl rfl (by rw [← hW]; exact (by (try dsimp only); repeat (first | exact gC | apply Grow.new | (refine Grow.put ?_ _ (by first | omega | (simp only [hNw, hPt]; omega)))))), rfl⟩
                            · exact absurd g16 (by simp)
                      · refine oK rfl ?_
                        refine oK rfl ?_; refine oK rfl ?_; refine oK rfl ?_; refine oK rfl ?_; refine oK rfl ?_; refine oK rfl ?_; refine OkO.pick (b := false) rfl rfl nofun (fun _ => rfl) ?_; refine OkO.pick (b := false) rfl rfl nofun (fun _ => rfl) ?_; refine oM rfl rfl ?_; refine oF (o := 1) rfl (by kernel_rfl) rfl ?_; refine oL rfl rfl (qla3 1) ?_; refine oF (o := 3) rfl (by kernel_rfl) rfl ?_; refine oF (o := 1) rfl (by kernel_rfl) rfl ?_; refine oL rfl rfl (qla3 1) ?_; refine OkO.bin rfl rfl rfl (bin_lss _ _) ?_; refine oM rfl rfl ?_
                        refine OkO.split (d := 173) rfl (fun g17 => ?_) (fun g17 => ?_)
                        · have q2 : b < g.khi := of_decide_eq_true g17
                          refine oL rfl rfl (qlg4 6) ?_; refine oM rfl rfl ?_; refine oM rfl rfl ?_; refine oF (o := 1) rfl (by kernel_rfl) rfl ?_; refine oL rfl rfl (qla3 1) ?_; refine OkO.bin rfl rfl rfl (bin_add (by omega) (by omega)) ?_; refine oV rfl rfl rfl rfl rfl (c36w (m + 1) cv dv rv cs g ds rs (b + 1) _ (hR.ext (hE _ (by (try dsimp only); repeat (first | exact gC | apply Grow.new | (refine Grow.put ?_ _ (by first | omega | (simp only [hNw, hPt]; omega))))))) (by omega) (hY.ext (hE _ (by (try dsimp only); repeat (first | exact gC | apply Grow.new | (refine Grow.put ?_ _ (by first | omega | (simp only [hNw, hPt]; omega))))))) (by omega) (hZ.ext (hE _ (by (try dsimp only); repeat (first | exact gC | apply Grow.new | (refine Grow.put ?_ _ (by first | omega | (simp only [hNw, hPt]; omega))))))) (by omega) hrs hd0 (by omega) (kf _ (by omega) (by omega) (by omega))) ?_; refine OkO.pick (b := true) rfl rfl (fun _ => rfl) nofun ?_; refine OkO.pick (b := false) rfl rfl nofun (fun _ => rfl) ?_; refine oN ?_
                          refine Ok.cond rfl (fun h18 => ?_) (fun h18 => ?_)
                          · exact absurd h18 (by simp)
                          · refine Ok.skip ?_
                            refine kS ?_; refine Ok.drawn [(0, true, []), (1, true, []), (2, true, []), (3, true, []), (5, true, []), (6, true, []), (7, true, []), (8, true, []), (9, true, []), (4, false, [9, 7]), (10, false, [0]), (11, true, []), (12, true, []), (13, false, [9, 7, 0]), (14, true, []), (15, true, [])] (by kernel_rfl) ?_; refine pS ?_; refine oL rfl rfl (qlg4 6) ?_; refine oN ⟨rfl, ?_⟩; refine pS ?_; refine oM rfl rfl ?_; refine oN ⟨rfl, ?_⟩; refine pS ?_; refine oM rfl rfl ?_; refine oN ⟨rfl, ?_⟩; refine pS ?_; refine oM rfl rfl ?_; refine oN ⟨rfl, ?_⟩; refine pS ?_; refine oM rfl rfl ?_; refine oN ⟨rfl, ?_⟩; refine pS ?_; refine oF (o := 0) rfl (by kernel_rfl) rfl ?_; refine oN ⟨rfl, ?_⟩; refine pS ?_; refine oL rfl rfl (qla3 1) ?_; refine oN ⟨rfl, ?_⟩; refine pS ?_; refine oF (o := 1) rfl (by kernel_rfl) rfl ?_; refine oN ⟨rfl, ?_⟩; refine pS ?_; refine oL rfl rfl (qla3 1) ?_; refine oN ⟨rfl, ?_⟩; refine pS ?_; refine oV rfl rfl rfl rfl rfl (c36w (m + 1) cv dv rv cs g ds rs (g.klo + w % (g.khi - g.klo + 1)) _ (hR.ext (hE _ (by (try dsimp only); repeat (first | exact gC | apply Grow.new | (refine Grow.put ?_ _ (by first | omega | (simp only [hNw, hPt]; omega))))))) (by omega) (hY.ext (hE _ (by (try dsimp only); repeat (first | exact gC | apply Grow.new | (refine Grow.put ?_ _ (by first | omega | (simp only [hNw, hPt]; omega))))))) (by omega) (hZ.ext (hE _ (by (try dsimp only); repeat (first | exact gC | apply Grow.new | (refine Grow.put ?_ _ (by first | omega | (simp only [hNw, hPt]; omega))))))) (by omega) hrs hd0 (by omega) kin) ?_
                            refine oN ⟨(sco (qsa8 1 rfl rfl rfl) (sco (qsa8 1 rfl rfl rfl) rfl)), ?_⟩; refine pS ?_; refine oV rfl rfl rfl rfl rfl (c37 _ _ _ _ _) ?_
                            refine oN ⟨(sco (qsg9 6 rfl rfl rfl) rfl), ?_⟩; refine pS ?_; refine OkO.binT rfl rfl rfl (by rfl) ?_; refine oN ⟨rfl, ?_⟩; refine pS ?_; refine oM rfl rfl ?_; refine oN ⟨rfl, ?_⟩
                            refine OkP.split (d := 195) rfl (fun g19 => ?_) (fun g19 => ?_)
                            · refine pS ?_
                              refine oV rfl rfl rfl rfl rfl (rfl) ?_
                              refine oN ⟨(sco (qsa8 1 rfl rfl rfl) (sco (qsa8 1 rfl rfl rfl) (sco (qsg9 6 rfl rfl rfl) rfl))), ?_⟩; refine pS ?_; refine OkO.pick (b := true) rfl rfl (fun _ => rfl) nofun ?_; refine oN ⟨rfl, ?_⟩; refine pS ?_; refine oA rfl rfl ?_; refine oN ⟨rfl, ?_⟩; refine OkP.nil ?_
                              refine Ok.ret ⟨.inr rfl, ?_⟩
                              exact ⟨_, _, back_flat rfl rfl rfl (by rw [← hW]; exact (by (try dsimp only); repeat (first | exact gC | apply Grow.new | (refine Grow.put ?_ _ (by first | omega | (simp only [hNw, hPt]; omega)))))), rfl⟩
                            · exact absurd g19 (by simp)
                        · refine oK rfl ?_
                          refine oK rfl ?_; refine oK rfl ?_; refine oK rfl ?_; refine oK rfl ?_; refine oK rfl ?_; refine oK rfl ?_; refine OkO.pick (b := false) rfl rfl nofun (fun _ => rfl) ?_; refine OkO.pick (b := false) rfl rfl nofun (fun _ => rfl) ?_; refine oN ?_; refine Ok.condF rfl ?_; refine Ok.skip ?_; refine kS ?_; refine Ok.drawn [(0, true, []), (1, true, []), (2, true, []), (3, true, []), (5, true, []), (6, true, []), (7, true, []), (8, true, []), (9, true, []), (4, false, [9, 7]), (10, false, [0]), (11, true, []), (12, true, []), (13, false, [9, 7, 0]), (14, true, []), (15, true, [])] (by kernel_rfl) ?_; refine pS ?_; refine oL rfl rfl (qlg4 6) ?_; refine oN ⟨rfl, ?_⟩; refine pS ?_; refine oM rfl rfl ?_; refine oN ⟨rfl, ?_⟩; refine pS ?_; refine oM rfl rfl ?_; refine oN ⟨rfl, ?_⟩; refine pS ?_; refine oM rfl rfl ?_; refine oN ⟨rfl, ?_⟩; refine pS ?_; refine oM rfl rfl ?_; refine oN ⟨rfl, ?_⟩; refine pS ?_; refine oF (o := 0) rfl (by kernel_rfl) rfl ?_; refine oN ⟨rfl, ?_⟩; refine pS ?_; refine oL rfl rfl (qla3 1) ?_; refine oN ⟨rfl, ?_⟩; refine pS ?_; refine oF (o := 1) rfl (by kernel_rfl) rfl ?_; refine oN ⟨rfl, ?_⟩; refine pS ?_; refine oL rfl rfl (qla3 1) ?_; refine oN ⟨rfl, ?_⟩; refine pS ?_; refine oV rfl rfl rfl rfl rfl (c36w (m + 1) cv dv rv cs g ds rs (g.klo + w % (g.khi - g.klo + 1)) _ (hR.ext (hE _ (by (try dsimp only); repeat (first | exact gC | apply Grow.new | (refine Grow.put ?_ _ (by first | omega | (simp only [hNw, hPt]; omega))))))) (by omega) (hY.ext (hE _ (by (try dsimp only); repeat (first | exact gC | apply Grow.new | (refine Grow.put ?_ _ (by first | omega | (simp only [hNw, hPt]; omega))))))) (by omega) (hZ.ext (hE _ (by (try dsimp only); repeat (first | exact gC | apply Grow.new | (refine Grow.put ?_ _ (by first | omega | (simp only [hNw, hPt]; omega))))))) (by omega) hrs hd0 (by omega) kin) ?_
                          refine oN ⟨(sco (qsa8 1 rfl rfl rfl) (sco (qsa8 1 rfl rfl rfl) rfl)), ?_⟩; refine pS ?_; refine oV rfl rfl rfl rfl rfl (c37 _ _ _ _ _) ?_
                          refine oN ⟨(sco (qsg9 6 rfl rfl rfl) rfl), ?_⟩; refine pS ?_; refine OkO.binT rfl rfl rfl (by rfl) ?_; refine oN ⟨rfl, ?_⟩; refine pS ?_; refine oM rfl rfl ?_; refine oN ⟨rfl, ?_⟩
                          refine OkP.split (d := 195) rfl (fun g20 => ?_) (fun g20 => ?_)
                          · refine pS ?_
                            refine oV rfl rfl rfl rfl rfl (rfl) ?_
                            refine oN ⟨(sco (qsa8 1 rfl rfl rfl) (sco (qsa8 1 rfl rfl rfl) (sco (qsg9 6 rfl rfl rfl) rfl))), ?_⟩; refine pS ?_; refine OkO.pick (b := true) rfl rfl (fun _ => rfl) nofun ?_; refine oN ⟨rfl, ?_⟩; refine pS ?_; refine oA rfl rfl ?_; refine oN ⟨rfl, ?_⟩; refine OkP.nil ?_
                            refine Ok.ret ⟨.inr rfl, ?_⟩
                            exact ⟨_, _, back_flat rfl rfl rfl (by rw [← hW]; exact (by (try dsimp only); repeat (first | exact gC | apply Grow.new | (refine Grow.put ?_ _ (by first | omega | (simp only [hNw, hPt]; omega)))))), rfl⟩
                          · exact absurd g20 (by simp)
      · exact absurd h3 (by simp)
theorem c6 (m : Nat) (cv dv rv : AV) (cs : List Cell) (g : Gr) (ds : List Day) (rs : List Rd) (w : Int) (H : Heap) (hR : Row H cv 7 (cs.map Cell.c)) (hY : Row H dv 3 (ds.map Day.c)) (hZ : Row H rv 4 (rs.map Rd.c)) (hw : 0 ≤ w ∧ w ≤ 65535) : FnN Try.prog (RR (m + 41)) 6 [.agg [cv, I g.slo, I g.shi, I g.klo, I g.khi, I g.melt], dv, rv, U w] H fun v _ => v = .bool true := by
  by_cases h1 : daysErr cs g ds = 0
  · by_cases h2 : learnErr cs g ds rs = 0
    · have hke : readErr cs g ds rs = 0 := by unfold readErr; rw [if_pos h1]; exact h2
      by_cases hK : ∃ s, g.klo ≤ s ∧ s ≤ g.khi ∧ agreesB cs g ds rs s = true
      · exact c6T m cv dv rv cs g ds rs w H hR hY hZ hw hke hK
      · exact c6F m cv dv rv cs g ds rs w H hR hY hZ hw hke fun s q1 q2 => by
          cases hq : agreesB cs g ds rs s with
          | false => rfl
          | true => exact absurd ⟨s, q1, q2, hq⟩ hK
    · exact c6B m cv dv rv cs g ds rs w H hR hY hZ hw h1 rfl h2
  · exact c6A m cv dv rv cs g ds rs w H hR hY hZ hw rfl h1
end
end Go.EvN

set_option maxRecDepth 100000
set_option linter.unusedSimpArgs false
set_option linter.unusedVariables false
namespace Go.Ev
open Go Go.Proofs Go.RowKit
noncomputable section
section
variable {H0 : Type} {enc : TypeId × Value → H0} {w : World} {base : Nat} {sp : Nat → Bool} {hd : Bool} {n : Nat}
theorem cells99 : Try.prog.cellsOf 99 = 4 := by kernel_rfl
theorem read_open {c : List Value} {y} (h : DataW.trod enc Try.prog w base sp hd n 99 c = some y) : ∃ b : Rd, ∀ k, toAVs k c = b.c := by
  obtain ⟨xs, k, _, _, hl, hx, hf⟩ := DataW.trod_struct Try.underlying99 h
  rw [cells99] at hl
  match c, hl with
  | [c0, c1, c2, c3], _ =>
    have h0 : DataW.trod enc Try.prog w base sp hd k 3 (([c0, c1, c2, c3].drop 0).take (Try.prog.cellsOf 3)) = xs[0]? := hf 0 _ rfl
    rw [cells3] at h0
    have h1 : DataW.trod enc Try.prog w base sp hd k 3 (([c0, c1, c2, c3].drop 1).take (Try.prog.cellsOf 3)) = xs[1]? := hf 1 _ rfl
    rw [cells3] at h1
    have h2 : DataW.trod enc Try.prog w base sp hd k 24 (([c0, c1, c2, c3].drop 2).take (Try.prog.cellsOf 24)) = xs[2]? := hf 2 _ rfl
    rw [cells24] at h2
    match xs, hx with
    | [x0, x1, x2], _ =>
      obtain ⟨a0, e0⟩ := int_open h0
      obtain ⟨a1, e1⟩ := int_open h1
      obtain ⟨a2, a3, e2⟩ := pair_open h2
      simp at e0 e1 e2
      refine ⟨⟨a0, a1, a2, a3⟩, fun k => ?_⟩
      rw [e0, e1, e2.1, e2.2]
      rfl
theorem reads_open {H : Heap} (hs : Snap w H) {v : Value} {y} (h : DataW.trod enc Try.prog w base sp hd n 63 [v] = some y) : ∃ l : List Rd, Row H (toAV w.heap.size v) 4 (l.map Rd.c) := by
  obtain ⟨l, hR, _, hl⟩ := hs.slice Try.underlying63 cells99 (by decide) h
  obtain ⟨m, hm, hr⟩ := choose_list (R := fun c (b : Rd) => ∀ k, toAVs k c = b.c) l fun c hc => by
    obtain ⟨_, n', y', hy⟩ := hl c hc
    exact read_open hy
  refine ⟨m, ?_⟩
  have : l.map (toAVs w.heap.size) = m.map Rd.c := map_of_get (by simp [hm]) fun i x z h1 h2 => by
    rw [List.getElem?_map, Option.map_eq_some_iff] at h2
    obtain ⟨b, h3, rfl⟩ := h2
    exact hr i x b h1 h3 _
  rwa [this] at hR
theorem read_arg {H : Heap} (hs : Snap w H) {v : Value} {d : DataW H0} {p : List MemPlace} (hv : ∃ a len cap, v = .slice a len cap) (h : DataW.Trod enc Try.prog w base sp hd 63 v d p) :
    ∃ (rv : AV) (rs : List Rd), argAV w.heap.size v = rv ∧ Row H rv 4 (rs.map Rd.c) := by
  obtain ⟨a, len, cap, rfl⟩ := hv
  obtain ⟨fuel, h⟩ := h
  obtain ⟨rs, hR⟩ := reads_open hs (v := .slice a len cap) h
  exact ⟨_, rs, rfl, hR⟩
end
end
end Go.Ev

set_option maxRecDepth 100000
set_option linter.unusedSimpArgs false
set_option linter.unusedVariables false
namespace Go.Ev
open Go Go.Proofs
noncomputable section
/-- Do a slice's cells read so? -/
def rowsB (H : Heap) (v : AV) (sz : Nat) (l : List (List AV)) : Bool :=
  match v with
  | .slice b off len _ => match Nat.beq len l.length, Nat.blt b H.next, (H.get b).bind AObj.cs with
    | true, true, some cs => match seg cs off (len * sz) with
      | some x => AV.eqvs x l.flatten
      | none => false
    | _, _, _ => false
  | .opn b len => match Nat.beq len l.length, Nat.blt b H.next, (H.get b).bind AObj.cs with
    | true, true, some cs => match seg cs 0 (len * sz) with
      | some x => AV.eqvs x l.flatten
      | none => false
    | _, _, _ => false
  | _ => false
def nCs : List Cell := [⟨100, 100, 400, 50, 200, 1, 0⟩, ⟨60, 60, 150, 0, 500, -1, 10⟩]
def nG : Gr := ⟨20, 20, 500, 600, 4⟩
def nDs : List Day := [⟨10, 10, 5⟩]
def nR1 : List Rd := [⟨0, 0, 106, 106⟩]
def nR2 : List Rd := [⟨0, 0, 109, 120⟩]
/-- What Learn says of the examples' readings. -/
def nmL : Rec := fun j H => match j with
  | .fn 33 [.agg (cv :: gs), dv, rv] => match AV.eqvs gs [I 20, I 20, I 500, I 600, I 4], rowsB H cv 7 (nCs.map Cell.c), rowsB H dv 3 (nDs.map Day.c) with
    | true, true, true => match rowsB H rv 4 (nR1.map Rd.c) with
      | true => some (.tup [.agg [I 534, I 566], I 0], H)
      | false => match rowsB H rv 4 (nR2.map Rd.c) with
        | true => some (.tup [.agg [I 0, I 0], I 7], H)
        | false => none
    | _, _, _ => none
  | _ => none
def nmO : Rec := withO nmL (closedO 17 (.bool true))
end
end Go.Ev
namespace Go.EvN
open Go Go.Proofs Go.Ev
noncomputable section
end
end Go.EvN

