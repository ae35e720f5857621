/-
  Functions of the program, reckoned by the evaluator: what each answers, and that it leaves what came in as it was.
-/
import Derived.Test.YtibplmibcbillaaPt34
import Derived.Test.YtibplmibcbillaaPt33
import Derived.Carry
set_option maxRecDepth 100000
set_option linter.unusedSimpArgs false
set_option linter.unusedVariables false
namespace Go.EvN
open Go Go.Proofs Go.Ev
noncomputable section
set_option maxHeartbeats 2000000 in
theorem c13K (m : Nat) (cv dv wv uv : AV) (cs : List Cell) (g : Gr) (ds : List Day) (ws us : List Int) (w : Int) (H : Heap) (hR : Row H cv 7 (cs.map Cell.c)) (hY : Row H dv 3 (ds.map Day.c)) (hWs : Row H wv 1 (ws.map fun w => [U w])) (hws : Upto 65535 ws) (hW3 : Row H uv 1 (us.map fun w => [U w])) (hus : Upto 65535 us) (hw : 0 ≤ w ∧ w ≤ 65535) (hrd : readyB cs g ds = true) (hds : 0 < ds.length) (h30 : us.length ≤ 30) : FnN Try.prog (RR (m + 41)) 13 [.agg [cv, I g.slo, I g.shi, I g.klo, I g.khi, I g.melt], dv, wv, uv, U w] H fun v H' => v = .bool true := by
  refine fn_okE Try.func13 rfl rfl (by kernel_rfl) (by kernel_rfl) ?_
  obtain ⟨W, hW, hg, hN, hE, hG⟩ := wOf H
  rw [← hW]
  have hlc : lenOf cv = some cs.length := by simpa using hR.len
  have pc := lpl hlc
  have hld : lenOf dv = some ds.length := by simpa using hY.len
  have pd := lpl hld
  have hlw : lenOf wv = some ws.length := by simpa using hWs.len
  have hlu : lenOf uv = some us.length := by simpa using hW3.len
  have hd0 := ready_ok hrd
  have hGF := gf_of hd0
  have hg8 := hGF.n8
  have hg30 := hGF.d30
  have hgs := hGF.soak
  refine kS ?_; refine kR ?_; refine OkO.box rfl rfl ?_; refine oA rfl rfl ?_; refine oN ?_; refine kS ?_; refine kS ?_; refine kR ?_; refine oL rfl rfl (qlg8 6) ?_; refine oM rfl rfl ?_; refine oV rfl rfl rfl rfl rfl ((c43 (m + 36) cv dv cs g ds _ (hR.ext (hE _ (by (try dsimp only); repeat (first | exact hG | apply Grow.new | (refine Grow.put ?_ _ (by first | omega | (simp only [hNw, hPt]; omega))))))) (hY.ext (hE _ (by (try dsimp only); repeat (first | exact hG | apply Grow.new | (refine Grow.put ?_ _ (by first | omega | (simp only [hNw, hPt]; omega)))))))).trans (congrArg (fun b => some (AV.bool b, _)) hrd)) ?_; refine OkO.un rfl rfl rfl ?_; refine oM rfl rfl ?_; refine oM rfl rfl ?_; refine oB rfl rfl rfl qbl ?_; refine OkO.bin rfl rfl rfl ((bin_eql _ _).trans (congrArg (fun b => some (AV.bool b)) (show _ = false from (by first | rfl | exact decide_eq_false (by omega) | (simp; done) | (simp; omega) | (simp_all; done))))) ?_; refine OkO.pick (b := false) rfl rfl nofun (fun _ => rfl) ?_; refine oM rfl rfl ?_; refine oM rfl rfl ?_; refine oB rfl rfl rfl qbl ?_; refine OkO.bin rfl rfl rfl ((bin_gtr _ _).trans (congrArg (fun b => some (AV.bool b)) (show _ = false from (by first | rfl | exact decide_eq_false (by omega) | (simp; done) | (simp; omega) | (simp_all; done))))) ?_; refine OkO.pick (b := false) rfl rfl nofun (fun _ => rfl) ?_; refine oN ?_; refine Ok.condF rfl ?_; refine Ok.skip ?_; refine kS ?_; refine kR ?_; refine oL rfl rfl (qlg8 6) ?_; refine oM rfl rfl ?_; refine oM rfl rfl ?_; refine oE rfl rfl rfl rfl rfl (c44 (m + 39) cv dv wv cs g ds ws _ (hR.ext (hE _ (by (try dsimp only); repeat (first | exact hG | apply Grow.new | (refine Grow.put ?_ _ (by first | omega | (simp only [hNw, hPt]; omega))))))) (hY.ext (hE _ (by (try dsimp only); repeat (first | exact hG | apply Grow.new | (refine Grow.put ?_ _ (by first | omega | (simp only [hNw, hPt]; omega))))))) (hWs.ext (hE _ (by (try dsimp only); repeat (first | exact hG | apply Grow.new | (refine Grow.put ?_ _ (by first | omega | (simp only [hNw, hPt]; omega))))))) hws hGF.lim hGF.dlim hGF.n8.2 hGF.d30 hGF.snow hGF.soak) ?_
  rintro v44 H44 ⟨lv, rv, rfl, q44, l44, r44, al, ar⟩
  have g44 : Grow W H44 := Grow.ret (by (try dsimp only); repeat (first | exact hG | apply Grow.new | (refine Grow.put ?_ _ (by first | omega | (simp only [hNw, hPt]; omega))))) q44
  have n44 : W.next + 1 ≤ H44.next := by have := q44.ext.next; simp only [hNw] at this; omega
  have a44 : (H44.get W.next).bind AObj.cs = some [cv, I g.slo, I g.shi, I g.klo, I g.khi, I g.melt] := by rw [q44.ext.get _ (by simp only [hNw]; omega)]; (simp (disch := first | omega | (simp only [hNw, hPt]; omega)) only [gN] <;> first | rfl | assumption)
  have hte := pick_ok ws hd0
  have hsk : g.klo ≤ (pickT g ws).soak ∧ (pickT g ws).soak ≤ g.khi := pick_in hGF.soak.2.1
  generalize pickT g ws = t at *
  generalize pickL cs ws cs.length = lvs at *
  generalize pickR cs ds ws ds.length = rain at *
  have hF := fit_of hte
  have hfl := hF.ll
  have hfr := hF.rl
  have hll : lenOf lv = some lvs.length := by simpa using l44.len
  have hlr : lenOf rv = some rain.length := by simpa using r44.len
  have plv := lpl hll
  have prv := lpl hlr
  refine OkO.alloc (z := [.int .i64 0, .int .i64 0, .nils, .nils]) rfl (by kernel_rfl) ?_; refine oT rfl rfl rfl (sAc (n := 4) (ag := true) (l := [I t.snow, I t.soak, lv, rv]) (by kernel_rfl) (by first | exact gn0 _ _ | assumption) rfl (by show atoms [I t.snow, I t.soak, lv, rv] = true; simp [atoms, al, ar, show ∀ z, (I z).atom = true from fun _ => rfl]) rfl) ?_
  have x44 : Ext H44 ((H44.new (.cells [I 0, I 0, .nils, .nils] 30)).put H44.next (.cells [I t.snow, I t.soak, lv, rv] 30)) := ((Ext.refl _).new _).put _ (Nat.le_refl _)
  have gK0 : Grow W ((H44.new (.cells [I 0, I 0, .nils, .nils] 30)).put H44.next (.cells [I t.snow, I t.soak, lv, rv] 30)) := (g44.new _).put _ (by omega)
  have a0 : (((H44.new (.cells [I 0, I 0, .nils, .nils] 30)).put H44.next (.cells [I t.snow, I t.soak, lv, rv] 30)).get W.next).bind AObj.cs = some [cv, I g.slo, I g.shi, I g.klo, I g.khi, I g.melt] := by rw [x44.get _ (by omega)]; exact a44
  have b0 : (((H44.new (.cells [I 0, I 0, .nils, .nils] 30)).put H44.next (.cells [I t.snow, I t.soak, lv, rv] 30)).get H44.next).bind AObj.cs = some [I t.snow, I t.soak, lv, rv] := by rw [gp0]; rfl
  have n0 : ((H44.new (.cells [I 0, I 0, .nils, .nils] 30)).put H44.next (.cells [I t.snow, I t.soak, lv, rv] 30)).next = H44.next + 1 := by simp only [hPt, hNw]
  have lK : Ints ((H44.new (.cells [I 0, I 0, .nils, .nils] 30)).put H44.next (.cells [I t.snow, I t.soak, lv, rv] 30)) lv lvs := l44.ext x44
  have rK : Ints ((H44.new (.cells [I 0, I 0, .nils, .nils] 30)).put H44.next (.cells [I t.snow, I t.soak, lv, rv] 30)) rv rain := r44.ext x44
  generalize ((H44.new (.cells [I 0, I 0, .nils, .nils] 30)).put H44.next (.cells [I t.snow, I t.soak, lv, rv] 30)) = K0 at x44 gK0 a0 b0 n0 lK rK ⊢
  generalize H44.next = tb at n44 b0 n0 ⊢
  refine oN ?_; refine kS ?_; refine kR ?_; refine oL rfl rfl (qlg8 6) ?_; refine oM rfl rfl ?_; refine oL rfl rfl (qlg8 4) ?_; refine oE rfl rfl rfl rfl rfl (c48 (m + 40) cv dv lv rv cs g ds t lvs rain _ (hR.ext (hE _ gK0)) (hY.ext (hE _ gK0)) lK rK hGF.n8 hGF.d30 hfl hfr) ?_
  rintro v48 H48 ⟨cv', dv', rfl, q48, R48, Y48, ac, ad⟩
  have g48 : Grow W H48 := Grow.ret gK0 q48
  have m48 := q48.ext.next
  refine oM rfl rfl ?_; refine OkO.extract rfl rfl rfl ?_; refine OkO.extract rfl rfl rfl ?_; refine OkO.alloc (z := [.nils, .int .i64 0, .int .i64 0, .int .i64 0, .int .i64 0, .int .i64 0]) rfl (by kernel_rfl) ?_; refine oT rfl rfl rfl (sAc (n := 6) (ag := true) (l := [cv', I t.snow, I t.snow, I g.klo, I g.khi, I g.melt]) (by kernel_rfl) (by first | exact gn0 _ _ | assumption) rfl (by show atoms [cv', I t.snow, I t.snow, I g.klo, I g.khi, I g.melt] = true; simp [atoms, ac, show ∀ z, (I z).atom = true from fun _ => rfl]) rfl) ?_
  have x48 : Ext H48 ((H48.new (.cells [.nils, I 0, I 0, I 0, I 0, I 0] 26)).put H48.next (.cells [cv', I t.snow, I t.snow, I g.klo, I g.khi, I g.melt] 26)) := ((Ext.refl _).new _).put _ (Nat.le_refl _)
  have xK := q48.ext.trans x48
  have gK1 : Grow W ((H48.new (.cells [.nils, I 0, I 0, I 0, I 0, I 0] 26)).put H48.next (.cells [cv', I t.snow, I t.snow, I g.klo, I g.khi, I g.melt] 26)) := (g48.new _).put _ (by omega)
  have a1 : (((H48.new (.cells [.nils, I 0, I 0, I 0, I 0, I 0] 26)).put H48.next (.cells [cv', I t.snow, I t.snow, I g.klo, I g.khi, I g.melt] 26)).get W.next).bind AObj.cs = some [cv, I g.slo, I g.shi, I g.klo, I g.khi, I g.melt] := by rw [xK.get _ (by omega)]; exact a0
  have b1 : (((H48.new (.cells [.nils, I 0, I 0, I 0, I 0, I 0] 26)).put H48.next (.cells [cv', I t.snow, I t.snow, I g.klo, I g.khi, I g.melt] 26)).get tb).bind AObj.cs = some [I t.snow, I t.soak, lv, rv] := by rw [xK.get _ (by omega)]; exact b0
  have k1 : (((H48.new (.cells [.nils, I 0, I 0, I 0, I 0, I 0] 26)).put H48.next (.cells [cv', I t.snow, I t.snow, I g.klo, I g.khi, I g.melt] 26)).get H48.next).bind AObj.cs = some [cv', I t.snow, I t.snow, I g.klo, I g.khi, I g.melt] := by rw [gp0]; rfl
  have n1 : ((H48.new (.cells [.nils, I 0, I 0, I 0, I 0, I 0] 26)).put H48.next (.cells [cv', I t.snow, I t.snow, I g.klo, I g.khi, I g.melt] 26)).next = H48.next + 1 := by simp only [hPt, hNw]
  have RK := R48.ext x48
  have YK := Y48.ext x48
  generalize ((H48.new (.cells [.nils, I 0, I 0, I 0, I 0, I 0] 26)).put H48.next (.cells [cv', I t.snow, I t.snow, I g.klo, I g.khi, I g.melt] 26)) = K1 at x48 xK gK1 a1 b1 k1 n1 RK YK ⊢
  generalize H48.next = kb at m48 k1 n1 ⊢
  have hk0 := kn_days hte
  have hkt := fun s hs => kn_truth (s := s) hte hs
  have hkk : knownB (knP cs lvs cs.length) (knG g t) (knD ds rain ds.length) = true := kn_known
  have hlo : lowL (knP cs lvs cs.length) = lvs := kn_lowL hfl
  have hlr2 : lowR (knD ds rain ds.length) = rain := kn_lowR hfr
  have hkl : (knP cs lvs cs.length).length = cs.length := kn_len
  have hkd : (knD ds rain ds.length).length = ds.length := kn_dlen
  clear R48 Y48
  generalize knP cs lvs cs.length = kc at RK YK hk0 hkt hkk hlo hlr2 hkl hkd
  generalize knD ds rain ds.length = kd at YK hk0 hkt hkk hlr2 hkd
  have hte2 := hkt t.soak hsk
  have hFk : Fit kc (knG g t) kd ⟨(knG g t).slo, t.soak⟩ (lowL kc) (lowR kd) := by rw [hlo, hlr2]; exact fit_of hte2
  have lcv : lenOf cv' = some cs.length := by have := RK.len; simpa [hkl] using this
  have ldv : lenOf dv' = some ds.length := by have := YK.len; simpa [hkd] using this
  have pcv := lpl lcv
  have pdv := lpl ldv
  refine oA rfl rfl ?_; refine oN ?_; refine kS ?_; refine Ok.drawn [(0, true, []), (2, true, []), (4, true, []), (1, false, [4]), (3, false, [4, 0]), (5, false, [0]), (6, false, [4, 0]), (7, true, []), (8, true, []), (9, true, []), (10, true, []), (11, true, []), (12, true, []), (13, true, []), (14, true, []), (15, true, [])] (by kernel_rfl) ?_; refine pS ?_; refine oL rfl rfl (qlg8 6) ?_; refine oN ⟨rfl, ?_⟩; refine pS ?_; refine oM rfl rfl ?_; refine oN ⟨rfl, ?_⟩; refine pS ?_; refine oL rfl rfl (qlg8 4) ?_; refine oN ⟨rfl, ?_⟩; refine pS ?_; refine oE rfl rfl rfl rfl rfl (c19 (m + 39) cv' kc (knG g t) _ RK (by omega)) ?_
  rintro v19 H19 ⟨c2, rfl, q19, r19, at19⟩
  have g19 : Grow W H19 := Grow.ret gK1 q19
  have x19 := q19.ext
  have b19 : (H19.get tb).bind AObj.cs = some [I t.snow, I t.soak, lv, rv] := by rw [x19.get _ (by omega)]; exact b1
  have k19 : (H19.get kb).bind AObj.cs = some [cv', I t.snow, I t.snow, I g.klo, I g.khi, I g.melt] := by rw [x19.get _ (by omega)]; exact k1
  refine oN ⟨(sco (qsg9 4 rfl rfl rfl) rfl), ?_⟩; refine pS ?_; refine oE rfl rfl rfl rfl rfl (c21 (m + 39) dv' kd _ (YK.ext x19) (by omega)) ?_
  rintro d2 H21 ⟨q21, r21, at21⟩
  have g21 : Grow W H21 := Grow.ret g19 q21
  have x21 := x19.trans q21.ext
  have b21 : (H21.get tb).bind AObj.cs = some [I t.snow, I t.soak, lv, rv] := by rw [x21.get _ (by omega)]; exact b1
  have k21 : (H21.get kb).bind AObj.cs = some [cv', I t.snow, I t.snow, I g.klo, I g.khi, I g.melt] := by rw [x21.get _ (by omega)]; exact k1
  refine oN ⟨(sco (qsg9 4 rfl rfl rfl) (sco (qsg9 6 rfl rfl rfl) rfl)), ?_⟩; refine pS ?_; refine oE rfl rfl rfl rfl rfl (c22 (m + 39) lv rv t lvs rain _ (lK.ext (xK.trans x21)) (by omega) (rK.ext (xK.trans x21)) (by omega)) ?_
  rintro v22 H22 ⟨lv2, rv2, rfl, q22, l22, r22⟩
  have g22 : Grow W H22 := Grow.ret g21 q22
  have x22 := x21.trans q22.ext
  have b22 : (H22.get tb).bind AObj.cs = some [I t.snow, I t.soak, lv, rv] := by rw [x22.get _ (by omega)]; exact b1
  have k22 : (H22.get kb).bind AObj.cs = some [cv', I t.snow, I t.snow, I g.klo, I g.khi, I g.melt] := by rw [x22.get _ (by omega)]; exact k1
  refine oN ⟨(sco (qsg9 6 rfl rfl rfl) rfl), ?_⟩; refine pS ?_; refine oE rfl rfl rfl rfl rfl (c20 (m + 33) c2 d2 lv2 rv2 kc (knG g t) kd t lvs rain _ (r19.ext (q21.ext.trans q22.ext)) (by omega) (r21.ext q22.ext) (by omega) l22 (by omega) r22 (by omega) hte2) ?_
  rintro v20 H20 ⟨v6, v7, rfl, q20, ls20, in20⟩
  have g20 : Grow W H20 := Grow.ret g22 q20
  have x20 := x21.trans (q22.ext.trans q20.ext)
  obtain ⟨vs, hv6, hvl, hvr⟩ := id ls20
  have hrl : vs.length = ds.length := by rw [hvl]; simp [rowsR, hkd]
  have l6 : lenOf v6 = some ds.length := by rw [hv6.len]; simp [hrl]
  have p6 := lpl l6
  have a20 : (H20.get W.next).bind AObj.cs = some [cv, I g.slo, I g.shi, I g.klo, I g.khi, I g.melt] := by rw [x20.get _ (by omega)]; exact a1
  have b20 : (H20.get tb).bind AObj.cs = some [I t.snow, I t.soak, lv, rv] := by rw [x20.get _ (by omega)]; exact b1
  have k20 : (H20.get kb).bind AObj.cs = some [cv', I t.snow, I t.snow, I g.klo, I g.khi, I g.melt] := by rw [x20.get _ (by omega)]; exact k1
  obtain ⟨rs, hrs⟩ : ∃ rs, rs = us.map (rdOf kc (knG g t) kd t.soak cs.length ds.length) := ⟨_, rfl⟩
  have hrsl : rs.length = us.length := by rw [hrs]; simp
  obtain ⟨hrok, hrag⟩ := rds_ok (ws := us) hFk hkl.symm hkd.symm (by omega) hds hus
  rw [← hrs] at hrok hrag
  have hn20 := x20.next
  refine oN ⟨(sco (qsg9 4 rfl rfl rfl) (sco (qsg9 6 rfl rfl rfl) rfl)), ?_⟩; refine pS ?_; refine oM rfl rfl ?_; refine oN ⟨rfl, ?_⟩; refine pS ?_; refine OkO.extract rfl rfl rfl ?_; refine oN ⟨rfl, ?_⟩; refine pS ?_; refine OkO.extract rfl rfl rfl ?_; refine oN ⟨rfl, ?_⟩; refine pS ?_; refine OkO.extract rfl rfl rfl ?_; refine oN ⟨rfl, ?_⟩; refine pS ?_; refine OkO.extract rfl rfl rfl ?_; refine oN ⟨rfl, ?_⟩; refine pS ?_; refine oA rfl rfl ?_; refine oN ⟨rfl, ?_⟩; refine pS ?_; refine oA rfl rfl ?_; refine oN ⟨rfl, ?_⟩; refine pS ?_; refine oA rfl rfl ?_; refine oN ⟨rfl, ?_⟩; refine pS ?_; refine oA rfl rfl ?_; refine oN ⟨rfl, ?_⟩; refine OkP.nil ?_; refine kS ?_; refine kS ?_; refine kR ?_; refine oM rfl rfl ?_; refine OkO.bin rfl rfl rfl ((bin_neq _ _).trans (congrArg (fun b => some (AV.bool b)) (show _ = false from (by first | rfl | exact decide_eq_false (by omega) | (simp; done) | (simp; omega) | (simp_all; done))))) ?_; refine oM rfl rfl ?_; refine oM rfl rfl ?_; refine oB rfl rfl rfl qbl ?_; refine oM rfl rfl ?_; refine oB rfl rfl rfl qbl ?_; refine OkO.bin rfl rfl rfl ((bin_neq _ _).trans (congrArg (fun b => some (AV.bool b)) (show _ = false from (by first | rfl | exact decide_eq_false (by omega) | (simp; done) | (simp; omega) | (simp_all; done))))) ?_; refine OkO.pick (b := false) rfl rfl nofun (fun _ => rfl) ?_; refine oN ?_; refine Ok.condF rfl ?_; refine Ok.skip ?_; refine kS ?_; refine kR ?_; refine oA rfl rfl ?_; refine oN ?_; refine kS ?_; refine kS ?_; refine kR ?_; refine oA rfl rfl ?_; refine oN ?_; refine Ok.block ?_
  refine Ok.loop (fun n s => ∃ (i : Nat) (v18 : AV), n = rs.length - i ∧ i ≤ rs.length ∧ Mine H20.next s.H v18 99 4 ((rs.take i).map Rd.c).flatten ∧ Has 9 [(1, dv), (3, uv), (4, U w), (5, .ptr W.next 0), (11, .ptr tb 0), (12, .ptr kb 0), (13, dv'), (14, v6), (18, v18), (19, I (i : Int))] s.T ∧ s.D = [] ∧ Grow W s.H ∧ Ext H20 s.H) (rs.length) (by unfold loopFuel; omega)
    ⟨0, .nils, rfl, Nat.zero_le _, Mine.nil _ _ _ _, Has.of (by kernel_rfl), rfl, g20, Ext.refl _⟩ ?_
  rintro n ⟨T, D, G⟩ ⟨i, v18, hn, hi, hm, ⟨f, hT⟩, hD, hg, hx⟩
  dsimp only at *
  subst hT hD
  have hgn := hg.next
  have xg := x20.trans hx
  have hnx := hx.next
  have ag : (G.get W.next).bind AObj.cs = some [cv, I g.slo, I g.shi, I g.klo, I g.khi, I g.melt] := by rw [xg.get _ (by omega)]; exact a1
  have bg : (G.get tb).bind AObj.cs = some [I t.snow, I t.soak, lv, rv] := by rw [xg.get _ (by omega)]; exact b1
  have kg : (G.get kb).bind AObj.cs = some [cv', I t.snow, I t.snow, I g.klo, I g.khi, I g.melt] := by rw [xg.get _ (by omega)]; exact k1
  refine kS ?_; refine kS ?_; refine kR ?_; refine oM rfl rfl ?_; refine oM rfl rfl ?_; refine oB rfl rfl rfl qbl ?_; refine OkO.bin rfl rfl rfl (bin_lss _ _) ?_; refine oN ?_
  refine Ok.cond rfl (fun h1 => ?_) (fun h1 => ?_)
  · have hlt : i < us.length := by simpa using h1
    have hlr9 : i < rs.length := by omega
    obtain ⟨w0, hw0⟩ : ∃ w0, us[i] = w0 := ⟨_, rfl⟩
    obtain ⟨wb, wo, wcs, w1, w2w, w3, w4⟩ := (hW3.ext (hE _ hg)).at_ i [U w0] (by simp [hlt, hw0])
    have w5 := seg_one w3
    have hwb : 0 ≤ w0 ∧ w0 ≤ 65535 := by rw [← hw0]; exact hus _ (List.getElem_mem hlt)
    have c1 := Int.emod_nonneg w0 (b := (cs.length : Int)) (by omega)
    have c2 := Int.emod_lt_of_pos w0 (b := (cs.length : Int)) (by omega)
    have d1 := Int.emod_nonneg (w0 / 8) (b := (ds.length : Int)) (by omega)
    have d2 := Int.emod_lt_of_pos (w0 / 8) (b := (ds.length : Int)) (by omega)
    obtain ⟨c, hc⟩ : ∃ c : Nat, w0 % (cs.length : Int) = (c : Int) := ⟨_, (Int.toNat_of_nonneg c1).symm⟩
    obtain ⟨d, hd⟩ : ∃ d : Nat, w0 / 8 % (ds.length : Int) = (d : Int) := ⟨_, (Int.toNat_of_nonneg d1).symm⟩
    have hcl : c < cs.length := by omega
    have hdl : d < ds.length := by omega
    have hri : rs[i] = rdOf kc (knG g t) kd t.soak cs.length ds.length w0 := by simp only [hrs, List.getElem_map, hw0]
    have hrw : Ints H20 (vs[d]'(by omega)) ((levP kc (knG g t) kd t lvs rain (d + 1)).take kc.length) := hvr d _ _ (List.getElem?_eq_getElem (by omega)) (by rw [rowsR, List.getElem?_map, List.getElem?_range (by omega)]; rfl)
    have hlv : (levP kc (knG g t) kd t lvs rain (d + 1)).length = 8 ∧ Upto 100000 (levP kc (knG g t) kd t lvs rain (d + 1)) := lev_facts (fit_of hte2) (d + 1) (by omega)
    obtain ⟨L, hL⟩ : ∃ L, L = lvS kc (knG g t) kd t.soak (w0 / 8 % (ds.length : Int)) (w0 % (cs.length : Int)) := ⟨_, rfl⟩
    have hL2 : (levP kc (knG g t) kd t lvs rain (d + 1)).getD c 0 = L := by rw [hL, hc, hd]; unfold lvS; rw [hlo, hlr2]; rfl
    have hLb : 0 ≤ L ∧ L ≤ 100000 := by have := hlv.2.getD (by omega) c; rw [← hL2]; exact this
    obtain ⟨bb, off, ccs, i1, i2w, i3, i4⟩ := hv6.at_ d [vs[d]'(by omega)] (by rw [List.getElem?_map, List.getElem?_eq_getElem (by omega)]; rfl)
    have i5 := seg_one i3
    have i2 : (G.get bb).bind AObj.cs = some ccs := by rw [hx.get _ i4]; exact i2w
    have i4g : bb < G.next := by omega
    obtain ⟨lb, lo, lcs, j1, j2w, j3, j4⟩ := hrw.at_ c [I ((levP kc (knG g t) kd t lvs rain (d + 1)).getD c 0)] (by rw [List.getElem?_map, List.getElem?_take, if_pos (by omega), List.getElem?_eq_getElem (by omega), getD_lt (by omega)]; rfl)
    rw [hL2] at j3
    have j5 := seg_one j3
    have j2 : (G.get lb).bind AObj.cs = some lcs := by rw [hx.get _ j4]; exact j2w
    have j4g : lb < G.next := by omega
    have lri : lenOf (vs[d]'(by omega)) = some cs.length := by rw [hrw.len]; simp; omega
    have hml : ((rs.take i).map Rd.c).flatten.length = i * 4 := by rw [flat_len _ 4 (fun x hx => by simp only [List.mem_map] at hx; obtain ⟨y, _, rfl⟩ := hx; rfl)]; simp; omega
    refine Ok.skip ?_; refine kS ?_; refine Ok.block ?_; refine kS ?_; refine kR ?_; refine oM rfl rfl ?_; refine oM rfl rfl ?_; refine qX (sz := 1) (n := i) rfl rfl rfl ?_; refine oL rfl rfl (qla7 1) ?_; refine OkO.convert (k := .i64) rfl (by kernel_rfl) rfl (wrapF_i64 (by omega) (by omega)) ?_; refine oA rfl rfl ?_; refine oN ?_; refine kS ?_; refine Ok.drawn [(0, true, []), (1, true, []), (2, true, []), (3, true, []), (4, true, []), (5, true, []), (6, true, []), (7, true, []), (8, true, []), (9, true, []), (10, true, []), (11, true, [8, 3, 2]), (12, false, [])] (by kernel_rfl) ?_; refine pS ?_; refine oM rfl rfl ?_; refine oN ⟨rfl, ?_⟩; refine pS ?_; refine oF (o := 0) rfl (by kernel_rfl) rfl ?_; refine oN ⟨rfl, ?_⟩; refine pS ?_; refine oL rfl rfl (qla7 1) ?_; refine oN ⟨rfl, ?_⟩; refine pS ?_; refine oB rfl rfl rfl qbl ?_; refine oN ⟨rfl, ?_⟩; refine pS ?_; refine OkO.bin rfl rfl rfl (bin_rem (by omega) (by omega)) ?_; refine oN ⟨rfl, ?_⟩; refine pS ?_; refine oM rfl rfl ?_; refine oN ⟨rfl, ?_⟩; refine pS ?_; refine OkO.bin rfl rfl rfl (bin_quo (by omega) (by omega) (by omega)) ?_; refine oN ⟨rfl, ?_⟩; refine pS ?_; refine oM rfl rfl ?_; refine oN ⟨rfl, ?_⟩; refine pS ?_; refine oB rfl rfl rfl qbl ?_; refine oN ⟨rfl, ?_⟩; refine pS ?_; refine OkO.bin rfl rfl rfl (bin_rem (by omega) (by omega)) ?_; refine oN ⟨rfl, ?_⟩; refine pS ?_; refine OkO.build (z := [.int .i64 0, .int .i64 0, .int .i64 0, .int .i64 0]) (pl := [(0, 1), (1, 1), (2, 2)]) rfl (by kernel_rfl) rfl rfl ?_; refine oN ⟨rfl, ?_⟩; refine pS ?_; refine OkO.alloc (z := [.int .i64 0, .int .i64 0, .int .i64 0, .int .i64 0]) rfl (by kernel_rfl) ?_
    refine oN ⟨(sco (svl rfl (ecb rfl rfl qbl) rfl (eqr _ rfl)) (sco (svl rfl (ecb rfl rfl qbl) rfl (eqr _ rfl)) (sco (qsa10 1 rfl rfl rfl) rfl))), ?_⟩; refine pS ?_; refine oT rfl rfl rfl (sAc (n := 4) (ag := true) (by kernel_rfl) (by first | assumption | (simp (disch := first | omega | (simp only [hNw, hPt]; omega)) only [gN] <;> first | rfl | assumption | exact gp0 _ _ _ | exact gn0 _ _)) rfl (by first | rfl | assumption) (by first | rfl | exact spl_set _ _ _ (by first | assumption | omega | (simp; omega)))) ?_; refine oN ⟨rfl, ?_⟩; refine OkP.nil ?_; refine kS ?_; refine kS ?_; refine Ok.drawn [(0, true, []), (1, true, []), (2, true, []), (3, true, []), (4, true, []), (5, true, []), (6, true, []), (7, true, []), (8, true, []), (9, true, [])] (by kernel_rfl) ?_; refine pS ?_; refine oM rfl rfl ?_; refine oN ⟨rfl, ?_⟩; refine pS ?_; refine oF (o := 1) rfl (by kernel_rfl) rfl ?_; refine oN ⟨rfl, ?_⟩; refine pS ?_; refine oL rfl rfl (qla7 1) ?_; refine oN ⟨rfl, ?_⟩; refine pS ?_; refine qX (sz := 1) (n := d) rfl rfl (congrArg (fun z => some (I z)) hd) ?_; refine oN ⟨rfl, ?_⟩; refine pS ?_; refine oL rfl rfl (qla7 1) ?_; refine oN ⟨rfl, ?_⟩; refine pS ?_; refine oB rfl rfl rfl qbl ?_; refine oN ⟨rfl, ?_⟩; refine pS ?_; refine oF (o := 0) rfl (by kernel_rfl) rfl ?_; refine oN ⟨rfl, ?_⟩; refine pS ?_; refine oL rfl rfl (qla7 1) ?_; refine oN ⟨rfl, ?_⟩; refine pS ?_; refine oB rfl rfl rfl qbl ?_; refine oN ⟨rfl, ?_⟩; refine pS ?_; refine OkO.bin rfl rfl rfl ((bin_neq _ _).trans (congrArg (fun b => some (AV.bool b)) (show _ = false from (by first | rfl | exact decide_eq_false (by omega) | (simp; done) | (simp; omega) | (simp_all; done))))) ?_; refine oN ⟨rfl, ?_⟩; refine OkP.nil ?_; refine Ok.condF rfl ?_; refine Ok.skip ?_; refine kS ?_; refine Ok.drawn [(0, true, []), (1, true, []), (2, true, []), (3, true, []), (4, true, []), (5, true, []), (6, true, []), (7, true, []), (8, true, []), (9, true, [])] (by kernel_rfl) ?_; refine pS ?_; refine oM rfl rfl ?_; refine oN ⟨rfl, ?_⟩; refine pS ?_; refine oF (o := 1) rfl (by kernel_rfl) rfl ?_; refine oN ⟨rfl, ?_⟩; refine pS ?_; refine oL rfl rfl (qla7 1) ?_; refine oN ⟨rfl, ?_⟩; refine pS ?_; refine qX (sz := 1) (n := d) rfl rfl (congrArg (fun z => some (I z)) hd) ?_; refine oN ⟨rfl, ?_⟩; refine pS ?_; refine oL rfl rfl (qla7 1) ?_; refine oN ⟨rfl, ?_⟩; refine pS ?_; refine oF (o := 0) rfl (by kernel_rfl) rfl ?_; refine oN ⟨rfl, ?_⟩; refine pS ?_; refine oL rfl rfl (qla7 1) ?_; refine oN ⟨rfl, ?_⟩; refine pS ?_; refine qX (sz := 1) (n := c) rfl rfl (congrArg (fun z => some (I z)) hc) ?_; refine oN ⟨rfl, ?_⟩; refine pS ?_; refine oL rfl rfl (qla7 1) ?_; refine oN ⟨rfl, ?_⟩; refine pS ?_; refine oA rfl rfl ?_; refine oN ⟨rfl, ?_⟩; refine OkP.nil ?_; refine kS ?_; refine kS ?_; refine kR ?_; refine oM rfl rfl ?_; refine OkO.bin rfl rfl rfl ((bin_lss _ _).trans (congrArg (fun b => some (AV.bool b)) (show _ = false from (by first | rfl | exact decide_eq_false (by omega) | (simp; done) | (simp; omega) | (simp_all; done))))) ?_; refine oM rfl rfl ?_; refine oM rfl rfl ?_; refine OkO.bin rfl rfl rfl ((bin_gtr _ _).trans (congrArg (fun b => some (AV.bool b)) (show _ = false from (by first | rfl | exact decide_eq_false (by omega) | (simp; done) | (simp; omega) | (simp_all; done))))) ?_; refine OkO.pick (b := false) rfl rfl nofun (fun _ => rfl) ?_; refine oN ?_; refine Ok.condF rfl ?_; refine Ok.skip ?_; refine kS ?_; refine kR ?_; refine oM rfl rfl ?_; refine oM rfl rfl ?_; refine OkO.bin rfl rfl rfl (bin_quo (by omega) (by omega) (by omega)) ?_; refine OkO.bin rfl rfl rfl (bin_rem (by omega) (by omega)) ?_; refine OkO.bin rfl rfl rfl (bin_sub (by omega) (by omega)) ?_; refine oB rfl rfl rfl (builtin_max2 _ _) ?_; refine oM rfl rfl ?_; refine oM rfl rfl ?_; refine OkO.bin rfl rfl rfl (bin_quo (by omega) (by omega) (by omega)) ?_; refine OkO.bin rfl rfl rfl (bin_rem (by omega) (by omega)) ?_; refine OkO.bin rfl rfl rfl (bin_add (by omega) (by omega)) ?_; refine oB rfl rfl rfl (builtin_min2 _ _) ?_; refine OkO.build (z := [.int .i64 0, .int .i64 0]) (pl := [(0, 1), (1, 1)]) rfl (by kernel_rfl) rfl rfl ?_; refine oF (o := 2) rfl (by kernel_rfl) rfl ?_; refine oT rfl rfl rfl (sAc (n := 2) (ag := true) (by kernel_rfl) (by first | assumption | (simp (disch := first | omega | (simp only [hNw, hPt]; omega)) only [gN] <;> first | rfl | assumption | exact gp0 _ _ _ | exact gn0 _ _)) rfl (by first | rfl | assumption) (by first | rfl | exact spl_set _ _ _ (by first | assumption | omega | (simp; omega)))) ?_; refine oN ?_; refine kR ?_; refine oM rfl rfl ?_; refine oL rfl rfl (qlg8 4) ?_; refine OkO.buildSlice (el := 99) (sz := 4) (z := [.int .i64 0, .int .i64 0, .int .i64 0, .int .i64 0]) rfl (by kernel_rfl) (by decide) rfl rfl ?_; refine OkO.builtinE rfl rfl rfl (Mine.app2 (W := W) (k0 := H20.next) (sz := 4) (by_ := 32) (e := 99) (n := 1) (new := [I (w0 % (cs.length : Int)), I (w0 / 8 % (ds.length : Int)), I (max 0 (L - w0 / 256 % 4)), I (min 100000 (L + w0 / 1024 % 4))]) (hm.to (by (try dsimp only); repeat (first | exact Ext.refl _ | assumption | apply Ext.new | (refine Ext.put ?_ _ (by first | omega | (simp only [hNw, hPt]; omega)))))) (by (try dsimp only); repeat (first | (first | exact hg | exact hG) | apply Grow.new | (refine Grow.put ?_ _ (by first | omega | (simp only [hNw, hPt]; omega))))) (by have := g20.next; omega) (by first | omega | (simp only [hNw, hPt]; omega)) (by kernel_rfl) (by kernel_rfl) (elems_new (n := 1) (sz := 4) rfl) rfl rfl (by rw [hml]; omega) (by omega) (by omega) rfl) ?_
    rintro v2 G2 ⟨q1, q2, q3, q4, q5, q6⟩
    have kk := fun j (hj : j < H20.next) => q4 j (by first | omega | (simp only [hNw, hPt]; omega)) (fun m hm2 => by have := hm.far hj m; exact absurd hm2 this)
    have gn : ∀ j, j < H20.next → G2.get j = G.get j := fun j hj => by rw [kk j hj, gno _ _ _ (by simp only [hNw, hPt]; omega), gpo _ _ _ _ (by omega), gpo _ _ _ _ (by omega), gno _ _ _ (by omega)]
    refine oA rfl rfl ?_; refine oN ?_; refine kR ?_; refine oM rfl rfl ?_; refine OkO.bin rfl rfl rfl (bin_add (by omega) (by omega)) ?_; refine oA rfl rfl ?_; refine oN ?_
    have e9 : ((rs.take (i + 1)).map Rd.c).flatten = ((rs.take i).map Rd.c).flatten ++ [I (w0 % (cs.length : Int)), I (w0 / 8 % (ds.length : Int)), I (max 0 (L - w0 / 256 % 4)), I (min 100000 (L + w0 / 1024 % 4))] := by rw [flat_take _ _ _ hlr9, hri, hL]; rfl
    refine ⟨rs.length - (i + 1), by omega, i + 1, v2, rfl, hlr9, ?_, Has.of (by kernel_rfl), rfl, q2, ⟨(show H20.next ≤ G2.next by have q3n := q3.next; simp only [hNw, hPt] at q3n; omega), fun j hj => by rw [gn j hj]; exact hx.get j hj⟩⟩
    rw [e9]; exact q1
  · have hge : i = rs.length := by simp at h1; omega
    subst hge
    rw [List.take_length] at hm
    have zr : Row G v18 4 (rs.map Rd.c) := hm.row (fun x hx => by simp only [List.mem_map] at hx; obtain ⟨y, _, rfl⟩ := hx; rfl) (by omega)
    have zc := hm.cut
    have l18 : lenOf v18 = some rs.length := by simpa using zr.len
    have p18 := lpl l18
    have hx0 := hx
    refine Ok.exit ?_; refine kS ?_; refine kR ?_; refine oL rfl rfl (qlg8 6) ?_; refine oE rfl rfl rfl rfl rfl (c19 (m + 39) cv' kc (knG g t) _ (RK.ext xg) (by omega)) ?_
    rintro v19b H19b ⟨c2b, rfl, q19b, r19b, at19b⟩
    have g19b : Grow W H19b := Grow.ret hg q19b
    have x19b := xg.trans q19b.ext
    have y19b := q19b.ext
    refine oM rfl rfl ?_; refine oE rfl rfl rfl rfl rfl (c21 (m + 39) dv' kd _ (YK.ext x19b) (by omega)) ?_
    rintro d2b H21b ⟨q21b, r21b, at21b⟩
    have g21b : Grow W H21b := Grow.ret g19b q21b
    have x21b := x19b.trans q21b.ext
    have y21b := y19b.trans q21b.ext
    refine oM rfl rfl ?_; refine oE rfl rfl rfl rfl rfl (c34 (m + 39) v18 rs _ (zr.ext y21b) (by first | omega | (simp; omega))) ?_
    rintro z2b H34b ⟨q34b, r34b, at34b⟩
    have g34b : Grow W H34b := Grow.ret g21b q34b
    have x34b := x21b.trans q34b.ext
    have y34b := y21b.trans q34b.ext
    refine OkO.callN rfl rfl rfl rfl rfl (c33T m c2b d2b z2b kc (knG g t) kd rs _ (r19b.ext (q21b.ext.trans q34b.ext)) (by omega) (r21b.ext q34b.ext) (by omega) r34b (by first | omega | (simp; omega)) (read_okI hk0 hkk (by omega) hrok) ⟨t.soak, hsk.1, hsk.2, hrag⟩) ?_
    rintro v33b H33b ⟨a, b, p1b, p2b, p3b, p4b, rfl, rfl⟩
    have hta := (p4b t.soak hsk.1 hsk.2).1 hrag
    have q1b : g.klo ≤ a := p1b
    have q3b : b ≤ g.khi := p3b
    have m33 := y34b.next
    refine oM rfl rfl ?_; refine OkO.extract rfl rfl rfl ?_; refine OkO.extract rfl rfl rfl ?_; refine OkO.alloc (z := [.int .i64 0, .int .i64 0]) rfl (by kernel_rfl) ?_; refine oT rfl rfl rfl (sAc (l := [I a, I b]) (n := 2) (ag := true) (by kernel_rfl) (by first | assumption | (simp (disch := first | omega | (simp only [hNw, hPt]; omega)) only [gN] <;> first | rfl | assumption | exact gp0 _ _ _ | exact gn0 _ _)) rfl (by first | rfl | assumption) (by first | rfl | exact spl_set _ _ _ (by first | assumption | omega | (simp; omega)))) ?_
    have x33 : Ext H33b ((H33b.new (.cells [I 0, I 0] 36)).put H33b.next (.cells [I a, I b] 36)) := ((Ext.refl _).new _).put _ (Nat.le_refl _)
    have gK3 : Grow W ((H33b.new (.cells [I 0, I 0] 36)).put H33b.next (.cells [I a, I b] 36)) := (g34b.new _).put _ (by have := g34b.next; omega)
    have xg3 := x34b.trans x33
    have xG3 := y34b.trans x33
    have n3 : ((H33b.new (.cells [I 0, I 0] 36)).put H33b.next (.cells [I a, I b] 36)).next = H33b.next + 1 := by simp only [hPt, hNw]
    have r3 : (((H33b.new (.cells [I 0, I 0] 36)).put H33b.next (.cells [I a, I b] 36)).get H33b.next).bind AObj.cs = some [I a, I b] := by rw [gp0]; rfl
    have a3 : (((H33b.new (.cells [I 0, I 0] 36)).put H33b.next (.cells [I a, I b] 36)).get W.next).bind AObj.cs = some [cv, I g.slo, I g.shi, I g.klo, I g.khi, I g.melt] := by rw [xg3.get _ (by omega)]; exact a1
    have b3 : (((H33b.new (.cells [I 0, I 0] 36)).put H33b.next (.cells [I a, I b] 36)).get tb).bind AObj.cs = some [I t.snow, I t.soak, lv, rv] := by rw [xg3.get _ (by omega)]; exact b1
    have k3 : (((H33b.new (.cells [I 0, I 0] 36)).put H33b.next (.cells [I a, I b] 36)).get kb).bind AObj.cs = some [cv', I t.snow, I t.snow, I g.klo, I g.khi, I g.melt] := by rw [xg3.get _ (by omega)]; exact k1
    have zr3 := zr.ext xG3
    have zc3 := zc.ext xG3
    generalize ((H33b.new (.cells [I 0, I 0] 36)).put H33b.next (.cells [I a, I b] 36)) = K3 at x33 gK3 xg3 xG3 n3 r3 a3 b3 k3 zr3 zc3 ⊢
    generalize H33b.next = rb at m33 n3 r3 ⊢
    refine oA rfl rfl ?_; refine oN ?_; refine kS ?_; refine kS ?_; refine kR ?_; refine oM rfl rfl ?_; refine OkO.bin rfl rfl rfl ((bin_neq _ _).trans (congrArg (fun b => some (AV.bool b)) (show _ = false from (by first | rfl | exact decide_eq_false (by omega) | (simp; done) | (simp; omega) | (simp_all; done))))) ?_; refine oM rfl rfl ?_; refine oF (o := 1) rfl (by kernel_rfl) rfl ?_; refine oL rfl rfl (qla7 1) ?_; refine oF (o := 0) rfl (by kernel_rfl) rfl ?_; refine oL rfl rfl (qla7 1) ?_; refine OkO.bin rfl rfl rfl ((bin_lss _ _).trans (congrArg (fun b => some (AV.bool b)) (show _ = false from (by first | rfl | exact decide_eq_false (by omega) | (simp; done) | (simp; omega) | (simp_all; done))))) ?_; refine OkO.pick (b := false) rfl rfl nofun (fun _ => rfl) ?_; refine oM rfl rfl ?_; refine oF (o := 1) rfl (by kernel_rfl) rfl ?_; refine oL rfl rfl (qla7 1) ?_; refine oF (o := 1) rfl (by kernel_rfl) rfl ?_; refine oL rfl rfl (qla7 1) ?_; refine OkO.bin rfl rfl rfl ((bin_gtr _ _).trans (congrArg (fun b => some (AV.bool b)) (show _ = false from (by first | rfl | exact decide_eq_false (by omega) | (simp; done) | (simp; omega) | (simp_all; done))))) ?_; refine OkO.pick (b := false) rfl rfl nofun (fun _ => rfl) ?_; refine oM rfl rfl ?_; refine oF (o := 0) rfl (by kernel_rfl) rfl ?_; refine oL rfl rfl (qla7 1) ?_; refine oF (o := 3) rfl (by kernel_rfl) rfl ?_; refine oF (o := 0) rfl (by kernel_rfl) rfl ?_; refine oL rfl rfl (qla7 1) ?_; refine OkO.bin rfl rfl rfl ((bin_lss _ _).trans (congrArg (fun b => some (AV.bool b)) (show _ = false from (by first | rfl | exact decide_eq_false (by omega) | (simp; done) | (simp; omega) | (simp_all; done))))) ?_; refine OkO.pick (b := false) rfl rfl nofun (fun _ => rfl) ?_; refine oM rfl rfl ?_; refine oF (o := 1) rfl (by kernel_rfl) rfl ?_; refine oL rfl rfl (qla7 1) ?_; refine oF (o := 3) rfl (by kernel_rfl) rfl ?_; refine oF (o := 1) rfl (by kernel_rfl) rfl ?_; refine oL rfl rfl (qla7 1) ?_; refine OkO.bin rfl rfl rfl ((bin_gtr _ _).trans (congrArg (fun b => some (AV.bool b)) (show _ = false from (by first | rfl | exact decide_eq_false (by omega) | (simp; done) | (simp; omega) | (simp_all; done))))) ?_; refine OkO.pick (b := false) rfl rfl nofun (fun _ => rfl) ?_; refine oN ?_; refine Ok.condF rfl ?_; refine Ok.skip ?_; refine Ok.join (fun s => Has 9 [(4, U w), (5, .ptr W.next 0), (11, .ptr tb 0), (12, .ptr kb 0), (13, dv'), (14, v6), (18, v18), (23, .ptr rb 0)] s.T ∧ s.D = [] ∧ Grow W s.H ∧ Ext K3 s.H) ?_ ?_
    · refine kS ?_
      refine kR ?_; refine oM rfl rfl ?_; refine oB rfl rfl rfl qbl ?_; refine OkO.bin rfl rfl rfl (bin_gtr _ _) ?_; refine oN ?_
      refine Ok.cond rfl (fun h2 => ?_) (fun h2 => ?_)
      · have hpos : 0 < rs.length := by simpa using h2
        obtain ⟨vf, hsl, hvf⟩ := slice_cut (k := 1) zc3 zr3 (by simp; omega) (by omega)
        have lvf : lenOf vf = some (rs.length - 1) := by simpa using (hvf _ zr3).len
        have y0f : Ext K3 (K3.new (.cells [I 0, I 0] 36)) := (Ext.refl _).new _
        refine kS ?_; refine Ok.drawn [(0, true, []), (2, true, []), (4, true, []), (5, true, []), (11, true, [5, 0]), (1, false, [5]), (3, false, [5, 0]), (6, false, [0]), (7, false, [5, 0]), (8, true, []), (9, true, []), (10, true, []), (12, false, []), (13, true, [])] (by kernel_rfl) ?_; refine pS ?_; refine oL rfl rfl (qlg8 6) ?_; refine oN ⟨rfl, ?_⟩; refine pS ?_; refine oM rfl rfl ?_; refine oN ⟨rfl, ?_⟩; refine pS ?_; refine oM rfl rfl ?_; refine oN ⟨rfl, ?_⟩; refine pS ?_; refine OkO.sliceF (sz := 4) (k := 1) rfl (by kernel_rfl) rfl rfl (hsl _ (Ext.refl _)) ?_; refine oN ⟨rfl, ?_⟩; refine pS ?_; refine OkO.alloc (z := [.int .i64 0, .int .i64 0]) rfl (by kernel_rfl) ?_
        refine oN ⟨(sco (still_sliceF (sz := 4) (k := 1) rfl (by kernel_rfl) rfl rfl (hsl _ (by first | exact y0f | exact y19f | exact y21f | exact y34f)) rfl (eqr _ (lpl lvf))) (sco (qsg9 6 rfl rfl rfl) rfl)), ?_⟩; refine pS ?_; refine oE rfl rfl rfl rfl rfl (c19 (m + 39) cv' kc (knG g t) _ (RK.ext (xg3.new _)) (by omega)) ?_
        rintro v19f H19f ⟨c2f, rfl, q19f, r19f, at19f⟩
        have g19f : Grow W H19f := Grow.ret (gK3.new _) q19f
        have x19f := (xg3.new _).trans q19f.ext
        have y19f := y0f.trans q19f.ext
        have k19f : (H19f.get kb).bind AObj.cs = some [cv', I t.snow, I t.snow, I g.klo, I g.khi, I g.melt] := by rw [x19f.get _ (by omega)]; exact k1
        refine oN ⟨(sco (still_sliceF (sz := 4) (k := 1) rfl (by kernel_rfl) rfl rfl (hsl _ (by first | exact y0f | exact y19f | exact y21f | exact y34f)) rfl (eqr _ (lpl lvf))) rfl), ?_⟩; refine pS ?_; refine oE rfl rfl rfl rfl rfl (c21 (m + 39) dv' kd _ (YK.ext x19f) (by omega)) ?_
        rintro d2f H21f ⟨q21f, r21f, at21f⟩
        have g21f : Grow W H21f := Grow.ret g19f q21f
        have x21f := x19f.trans q21f.ext
        have y21f := y19f.trans q21f.ext
        have k21f : (H21f.get kb).bind AObj.cs = some [cv', I t.snow, I t.snow, I g.klo, I g.khi, I g.melt] := by rw [x21f.get _ (by omega)]; exact k1
        refine oN ⟨(sco (still_sliceF (sz := 4) (k := 1) rfl (by kernel_rfl) rfl rfl (hsl _ (by first | exact y0f | exact y19f | exact y21f | exact y34f)) rfl (eqr _ (lpl lvf))) (sco (qsg9 6 rfl rfl rfl) rfl)), ?_⟩; refine pS ?_; refine oE rfl rfl rfl rfl rfl (c34 (m + 39) vf (rs.drop 1) _ (by rw [List.map_drop]; exact hvf _ (zr3.ext y21f)) (by first | omega | (simp; omega))) ?_
        rintro z2f H34f ⟨q34f, r34f, at34f⟩
        have g34f : Grow W H34f := Grow.ret g21f q34f
        have x34f := x21f.trans q34f.ext
        have y34f := y21f.trans q34f.ext
        have k34f : (H34f.get kb).bind AObj.cs = some [cv', I t.snow, I t.snow, I g.klo, I g.khi, I g.melt] := by rw [x34f.get _ (by omega)]; exact k1
        refine oN ⟨(sco (qsg9 6 rfl rfl rfl) rfl), ?_⟩; refine pS ?_; refine OkO.callN rfl rfl rfl rfl rfl (c33T m c2f d2f z2f kc (knG g t) kd (rs.drop 1) _ (r19f.ext (q21f.ext.trans q34f.ext)) (by omega) (r21f.ext q34f.ext) (by omega) r34f (by first | omega | (simp; omega)) (read_okI hk0 hkk (by simp; omega) (fun x hx => hrok x (List.mem_of_mem_drop hx))) ⟨t.soak, hsk.1, hsk.2, agrees_drop hrag⟩) ?_
        rintro v33f H33f ⟨fa, fb, p1f, p2f, p3f, p4f, rfl, rfl⟩
        have hfa := (p4f a (by omega) (by omega)).1 (agrees_drop ((p4b a (by omega) (by omega)).2 ⟨by omega, by omega⟩))
        have hfb := (p4f b (by omega) (by omega)).1 (agrees_drop ((p4b b (by omega) (by omega)).2 ⟨by omega, by omega⟩))
        have mf := y34f.next
        have z0f := q19f.ext.trans (q21f.ext.trans q34f.ext)
        have s0f : H33f.get K3.next = some (.cells [I 0, I 0] 36) := by rw [z0f.get _ (by simp only [hNw]; omega)]; exact gn0 _ _
        have aKf := gK3.next
        have af : (H33f.get W.next).bind AObj.cs = some [cv, I g.slo, I g.shi, I g.klo, I g.khi, I g.melt] := by rw [x34f.get _ (by omega)]; exact a1
        have bf : (H33f.get tb).bind AObj.cs = some [I t.snow, I t.soak, lv, rv] := by rw [x34f.get _ (by omega)]; exact b1
        have kf : (H33f.get kb).bind AObj.cs = some [cv', I t.snow, I t.snow, I g.klo, I g.khi, I g.melt] := by rw [x34f.get _ (by omega)]; exact k1
        have rf : (H33f.get rb).bind AObj.cs = some [I a, I b] := by rw [y34f.get _ (by omega)]; exact r3
        refine oN ⟨(sco (still_sliceF (sz := 4) (k := 1) rfl (by kernel_rfl) rfl rfl (hsl _ (by first | exact y0f | exact y19f | exact y21f | exact y34f)) rfl (eqr _ (lpl lvf))) (sco (qsg9 6 rfl rfl rfl) rfl)), ?_⟩; refine pS ?_; refine oM rfl rfl ?_; refine oN ⟨rfl, ?_⟩; refine pS ?_; refine OkO.extract rfl rfl rfl ?_; refine oN ⟨rfl, ?_⟩; refine pS ?_; refine OkO.extract rfl rfl rfl ?_; refine oN ⟨rfl, ?_⟩; refine pS ?_; refine oT rfl rfl rfl (sAc (l := [I fa, I fb]) (n := 2) (ag := true) (by kernel_rfl) (by first | assumption | (simp (disch := first | omega | (simp only [hNw, hPt]; omega)) only [gN] <;> first | rfl | assumption | exact gp0 _ _ _ | exact gn0 _ _)) rfl (by first | rfl | assumption) (by first | rfl | exact spl_set _ _ _ (by first | assumption | omega | (simp; omega)))) ?_; refine oN ⟨rfl, ?_⟩; refine pS ?_; refine oA rfl rfl ?_; refine oN ⟨rfl, ?_⟩; refine OkP.nil ?_; refine kS ?_; refine kR ?_; refine oM rfl rfl ?_; refine OkO.bin rfl rfl rfl ((bin_neq _ _).trans (congrArg (fun b => some (AV.bool b)) (show _ = false from (by first | rfl | exact decide_eq_false (by omega) | (simp; done) | (simp; omega) | (simp_all; done))))) ?_; refine oM rfl rfl ?_; refine oF (o := 0) rfl (by kernel_rfl) rfl ?_; refine oL rfl rfl (qla7 1) ?_; refine oF (o := 0) rfl (by kernel_rfl) rfl ?_; refine oL rfl rfl (qla7 1) ?_; refine OkO.bin rfl rfl rfl ((bin_gtr _ _).trans (congrArg (fun b => some (AV.bool b)) (show _ = false from (by first | rfl | exact decide_eq_false (by omega) | (simp; done) | (simp; omega) | (simp_all; done))))) ?_; refine OkO.pick (b := false) rfl rfl nofun (fun _ => rfl) ?_; refine oM rfl rfl ?_; refine oF (o := 1) rfl (by kernel_rfl) rfl ?_; refine oL rfl rfl (qla7 1) ?_; refine oF (o := 1) rfl (by kernel_rfl) rfl ?_; refine oL rfl rfl (qla7 1) ?_; refine OkO.bin rfl rfl rfl ((bin_lss _ _).trans (congrArg (fun b => some (AV.bool b)) (show _ = false from (by first | rfl | exact decide_eq_false (by omega) | (simp; done) | (simp; omega) | (simp_all; done))))) ?_; refine OkO.pick (b := false) rfl rfl nofun (fun _ => rfl) ?_; refine oN ?_; refine Ok.condF rfl ?_; refine Ok.skip ?_
        exact ⟨rfl, Has.of (by kernel_rfl), rfl, (by (try dsimp only); repeat (first | exact g34f | exact gK3 | exact hG | apply Grow.new | (refine Grow.put ?_ _ (by first | omega | (simp only [hNw, hPt]; omega))))), (by first | exact Ext.refl _ | exact y34f.put _ (Nat.le_refl _))⟩
      · refine Ok.skip ?_
        exact ⟨rfl, Has.of (by kernel_rfl), rfl, (by (try dsimp only); repeat (first | exact g34f | exact gK3 | exact hG | apply Grow.new | (refine Grow.put ?_ _ (by first | omega | (simp only [hNw, hPt]; omega))))), (by first | exact Ext.refl _ | exact y34f.put _ (Nat.le_refl _))⟩
    · rintro ⟨T, D, G⟩ ⟨⟨f, hT⟩, hD, hg, hx⟩
      dsimp only at *
      subst hT hD
      have hgn := hg.next
      have mx := hx.next
      have b5 : (G.get tb).bind AObj.cs = some [I t.snow, I t.soak, lv, rv] := by rw [hx.get _ (by omega)]; exact b3
      have a5 : (G.get W.next).bind AObj.cs = some [cv, I g.slo, I g.shi, I g.klo, I g.khi, I g.melt] := by rw [hx.get _ (by omega)]; exact a3
      have hp2 : g.klo ≤ (pickI g.klo g.khi w) ∧ (pickI g.klo g.khi w) ≤ g.khi := pick_in hGF.soak.2.1
      refine kS ?_; refine kR ?_; refine oL rfl rfl (qlg8 4) ?_; refine OkO.alloc (z := [.int .i64 0, .int .i64 0, .nils, .nils]) rfl (by kernel_rfl) ?_; refine oT rfl rfl rfl (sAc (n := 4) (ag := true) (l := [I t.snow, I t.soak, lv, rv]) (by kernel_rfl) (by first | exact gn0 _ _ | assumption) rfl (by show atoms [I t.snow, I t.soak, lv, rv] = true; simp [atoms, al, ar, show ∀ z, (I z).atom = true from fun _ => rfl]) rfl) ?_; refine oN ?_; refine kS ?_; refine kR ?_; refine oF (o := 3) rfl (by kernel_rfl) rfl ?_; refine oL rfl rfl (qlg8 2) ?_; refine oM rfl rfl ?_; refine oV rfl rfl rfl rfl rfl (c49 (m + 40) g.klo g.khi w _ (by omega) hw) ?_; refine oF (o := 1) rfl (by kernel_rfl) rfl ?_; refine oT rfl rfl rfl (sAc (l := [I t.snow, I (pickI g.klo g.khi w), lv, rv]) (n := 1) (ag := false) (by kernel_rfl) (by first | assumption | (simp (disch := first | omega | (simp only [hNw, hPt]; omega)) only [gN] <;> first | rfl | assumption | exact gp0 _ _ _ | exact gn0 _ _)) rfl (by first | rfl | assumption) (by first | rfl | exact spl_set _ _ _ (by first | assumption | omega | (simp; omega)))) ?_
      have xg4 : Ext G (((G.new (.cells [I 0, I 0, .nils, .nils] 30)).put G.next (.cells [I t.snow, I t.soak, lv, rv] 30)).put G.next (.cells [I t.snow, I (pickI g.klo g.khi w), lv, rv] 30)) := (((Ext.refl _).new _).put _ (Nat.le_refl _)).put _ (Nat.le_refl _)
      have gK4 : Grow W (((G.new (.cells [I 0, I 0, .nils, .nils] 30)).put G.next (.cells [I t.snow, I t.soak, lv, rv] 30)).put G.next (.cells [I t.snow, I (pickI g.klo g.khi w), lv, rv] 30)) := ((hg.new _).put _ hgn).put _ hgn
      have x4 := (xg3.trans hx).trans xg4
      have x34 := hx.trans xg4
      have n4 : (((G.new (.cells [I 0, I 0, .nils, .nils] 30)).put G.next (.cells [I t.snow, I t.soak, lv, rv] 30)).put G.next (.cells [I t.snow, I (pickI g.klo g.khi w), lv, rv] 30)).next = G.next + 1 := by simp only [hPt, hNw]
      have o4 : ((((G.new (.cells [I 0, I 0, .nils, .nils] 30)).put G.next (.cells [I t.snow, I t.soak, lv, rv] 30)).put G.next (.cells [I t.snow, I (pickI g.klo g.khi w), lv, rv] 30)).get G.next).bind AObj.cs = some [I t.snow, I (pickI g.klo g.khi w), lv, rv] := by rw [gp0]; rfl
      have a4 : ((((G.new (.cells [I 0, I 0, .nils, .nils] 30)).put G.next (.cells [I t.snow, I t.soak, lv, rv] 30)).put G.next (.cells [I t.snow, I (pickI g.klo g.khi w), lv, rv] 30)).get W.next).bind AObj.cs = some [cv, I g.slo, I g.shi, I g.klo, I g.khi, I g.melt] := by rw [x4.get _ (by omega)]; exact a1
      have b4 : ((((G.new (.cells [I 0, I 0, .nils, .nils] 30)).put G.next (.cells [I t.snow, I t.soak, lv, rv] 30)).put G.next (.cells [I t.snow, I (pickI g.klo g.khi w), lv, rv] 30)).get tb).bind AObj.cs = some [I t.snow, I t.soak, lv, rv] := by rw [x4.get _ (by omega)]; exact b1
      have k4 : ((((G.new (.cells [I 0, I 0, .nils, .nils] 30)).put G.next (.cells [I t.snow, I t.soak, lv, rv] 30)).put G.next (.cells [I t.snow, I (pickI g.klo g.khi w), lv, rv] 30)).get kb).bind AObj.cs = some [cv', I t.snow, I t.snow, I g.klo, I g.khi, I g.melt] := by rw [x4.get _ (by omega)]; exact k1
      have r4 : ((((G.new (.cells [I 0, I 0, .nils, .nils] 30)).put G.next (.cells [I t.snow, I t.soak, lv, rv] 30)).put G.next (.cells [I t.snow, I (pickI g.klo g.khi w), lv, rv] 30)).get rb).bind AObj.cs = some [I a, I b] := by rw [x34.get _ (by omega)]; exact r3
      generalize (((G.new (.cells [I 0, I 0, .nils, .nils] 30)).put G.next (.cells [I t.snow, I t.soak, lv, rv] 30)).put G.next (.cells [I t.snow, I (pickI g.klo g.khi w), lv, rv] 30)) = K4 at xg4 gK4 x4 x34 n4 o4 a4 b4 k4 r4 ⊢
      generalize hob : G.next = ob at hgn n4 o4 ⊢
      have hob3 : K3.next ≤ ob := by rw [← hob]; exact hx.next
      refine oN ?_; refine kS ?_; refine Ok.drawn [(0, true, []), (2, true, []), (4, true, []), (1, false, [4]), (3, false, [4, 0]), (5, false, [0]), (6, false, [4, 0]), (7, true, []), (8, true, []), (9, true, []), (10, true, []), (11, true, []), (12, true, []), (13, true, []), (14, true, []), (15, true, [])] (by kernel_rfl) ?_; refine pS ?_; refine oL rfl rfl (qlg8 6) ?_; refine oN ⟨rfl, ?_⟩; refine pS ?_; refine oM rfl rfl ?_; refine oN ⟨rfl, ?_⟩; refine pS ?_; refine oL rfl rfl (qlg8 4) ?_; refine oN ⟨rfl, ?_⟩; refine pS ?_; refine oE rfl rfl rfl rfl rfl (c19 (m + 39) cv' kc (knG g t) _ (RK.ext x4) (by omega)) ?_
      rintro v19d H19d ⟨c2d, rfl, q19d, r19d, at19d⟩
      have g19d : Grow W H19d := Grow.ret gK4 q19d
      have x19d := (x4.trans q19d.ext)
      have b19d : (H19d.get tb).bind AObj.cs = some [I t.snow, I t.soak, lv, rv] := by rw [x19d.get _ (by omega)]; exact b1
      have k19d : (H19d.get kb).bind AObj.cs = some [cv', I t.snow, I t.snow, I g.klo, I g.khi, I g.melt] := by rw [x19d.get _ (by omega)]; exact k1
      have o19d : (H19d.get ob).bind AObj.cs = some [I t.snow, I (pickI g.klo g.khi w), lv, rv] := by rw [q19d.ext.get _ (by omega)]; exact o4
      refine oN ⟨(sco (qsg9 4 rfl rfl rfl) rfl), ?_⟩; refine pS ?_; refine oE rfl rfl rfl rfl rfl (c21 (m + 39) dv' kd _ (YK.ext x19d) (by omega)) ?_
      rintro d2d H21d ⟨q21d, r21d, at21d⟩
      have g21d : Grow W H21d := Grow.ret g19d q21d
      have x21d := x19d.trans q21d.ext
      have b21d : (H21d.get tb).bind AObj.cs = some [I t.snow, I t.soak, lv, rv] := by rw [x21d.get _ (by omega)]; exact b1
      have k21d : (H21d.get kb).bind AObj.cs = some [cv', I t.snow, I t.snow, I g.klo, I g.khi, I g.melt] := by rw [x21d.get _ (by omega)]; exact k1
      have o21d : (H21d.get ob).bind AObj.cs = some [I t.snow, I (pickI g.klo g.khi w), lv, rv] := by rw [(q19d.ext.trans q21d.ext).get _ (by omega)]; exact o4
      refine oN ⟨(sco (qsg9 4 rfl rfl rfl) (sco (qsg9 6 rfl rfl rfl) rfl)), ?_⟩; refine pS ?_; refine oE rfl rfl rfl rfl rfl (c22 (m + 39) lv rv ⟨t.snow, (pickI g.klo g.khi w)⟩ lvs rain _ (lK.ext (xK.trans x21d)) (by omega) (rK.ext (xK.trans x21d)) (by omega)) ?_
      rintro v22d H22d ⟨lv2d, rv2d, rfl, q22d, l22d, r22d⟩
      have g22d : Grow W H22d := Grow.ret g21d q22d
      have x22d := x21d.trans q22d.ext
      have b22d : (H22d.get tb).bind AObj.cs = some [I t.snow, I t.soak, lv, rv] := by rw [x22d.get _ (by omega)]; exact b1
      have k22d : (H22d.get kb).bind AObj.cs = some [cv', I t.snow, I t.snow, I g.klo, I g.khi, I g.melt] := by rw [x22d.get _ (by omega)]; exact k1
      refine oN ⟨(sco (qsg9 6 rfl rfl rfl) rfl), ?_⟩; refine pS ?_; refine oE rfl rfl rfl rfl rfl (c20 (m + 33) c2d d2d lv2d rv2d kc (knG g t) kd ⟨t.snow, (pickI g.klo g.khi w)⟩ lvs rain _ (r19d.ext (q21d.ext.trans q22d.ext)) (by omega) (r21d.ext q22d.ext) (by omega) l22d (by omega) r22d (by omega) (hkt (pickI g.klo g.khi w) hp2)) ?_
      rintro v20d H20d ⟨v6d, v7d, rfl, q20d, ls20d, in20d⟩
      have g20d : Grow W H20d := Grow.ret g22d q20d
      have x20d := x21d.trans (q22d.ext.trans q20d.ext)
      obtain ⟨vsd, hv6d, hvld, hvrd⟩ := id ls20d
      have hrld : vsd.length = ds.length := by rw [hvld]; simp [rowsR, hkd]
      have l6d : lenOf v6d = some ds.length := by rw [hv6d.len]; simp [hrld]
      have p6d := lpl l6d
      have ae : (H20d.get W.next).bind AObj.cs = some [cv, I g.slo, I g.shi, I g.klo, I g.khi, I g.melt] := by rw [x20d.get _ (by omega)]; exact a1
      have be : (H20d.get tb).bind AObj.cs = some [I t.snow, I t.soak, lv, rv] := by rw [x20d.get _ (by omega)]; exact b1
      have ke : (H20d.get kb).bind AObj.cs = some [cv', I t.snow, I t.snow, I g.klo, I g.khi, I g.melt] := by rw [x20d.get _ (by omega)]; exact k1
      have y20d := q19d.ext.trans (q21d.ext.trans (q22d.ext.trans q20d.ext))
      have rd_ : (H20d.get rb).bind AObj.cs = some [I a, I b] := by rw [y20d.get _ (by omega)]; exact r4
      have od_ : (H20d.get ob).bind AObj.cs = some [I t.snow, I (pickI g.klo g.khi w), lv, rv] := by rw [y20d.get _ (by omega)]; exact o4
      have zrd := zr3.ext (x34.trans y20d)
      have lsR := ls20.ext (((hx0.trans xG3).trans x34).trans y20d)
      have hB : agreesB kc (knG g t) kd rs (pickI g.klo g.khi w) = (decide (a ≤ (pickI g.klo g.khi w)) && decide ((pickI g.klo g.khi w) ≤ b)) := by rw [Bool.eq_iff_iff, p4b _ hp2.1 hp2.2]; simp
      refine oN ⟨(sco (qsg9 4 rfl rfl rfl) (sco (qsg9 6 rfl rfl rfl) rfl)), ?_⟩; refine pS ?_; refine oM rfl rfl ?_; refine oN ⟨rfl, ?_⟩; refine pS ?_; refine OkO.extract rfl rfl rfl ?_; refine oN ⟨rfl, ?_⟩; refine pS ?_; refine OkO.extract rfl rfl rfl ?_; refine oN ⟨rfl, ?_⟩; refine pS ?_; refine OkO.extract rfl rfl rfl ?_; refine oN ⟨rfl, ?_⟩; refine pS ?_; refine OkO.extract rfl rfl rfl ?_; refine oN ⟨rfl, ?_⟩; refine pS ?_; refine oA rfl rfl ?_; refine oN ⟨rfl, ?_⟩; refine pS ?_; refine oA rfl rfl ?_; refine oN ⟨rfl, ?_⟩; refine pS ?_; refine oA rfl rfl ?_; refine oN ⟨rfl, ?_⟩; refine pS ?_; refine oA rfl rfl ?_; refine oN ⟨rfl, ?_⟩; refine OkP.nil ?_; refine kS ?_; refine kS ?_; refine kR ?_; refine oM rfl rfl ?_; refine OkO.bin rfl rfl rfl ((bin_neq _ _).trans (congrArg (fun b => some (AV.bool b)) (show _ = false from (by first | rfl | exact decide_eq_false (by omega) | (simp; done) | (simp; omega) | (simp_all; done))))) ?_; refine oM rfl rfl ?_; refine oM rfl rfl ?_; refine oM rfl rfl ?_; refine oV rfl rfl rfl rfl rfl (c45 (m + 40) v6 v6d _ _ _ lsR ls20d (same_rows (fit_of hte2) (fit_of (hkt (pickI g.klo g.khi w) hp2))) (by simp [rowsR]; omega)) ?_; refine OkO.un rfl rfl rfl ?_; refine OkO.pick (b := false) rfl rfl nofun (fun _ => rfl) ?_; refine oN ?_; refine Ok.condF rfl ?_; refine Ok.skip ?_; refine kS ?_; refine kR ?_; refine oA rfl rfl ?_; refine oN ?_; refine kS ?_; refine kS ?_; refine kR ?_; refine oA rfl rfl ?_; refine oN ?_; refine Ok.block ?_
      refine Ok.loop (fun n s => ∃ i : Nat, n = rs.length - i ∧ i ≤ rs.length ∧ H20d = s.H ∧ Has 9 [(18, v18), (23, .ptr rb 0), (27, .ptr ob 0), (28, v6d), (32, .bool (agreesB kc (knG g t) kd (rs.take i) (pickI g.klo g.khi w))), (33, I (i : Int))] s.T ∧ s.D = [] ∧ Grow W s.H) (rs.length) (by unfold loopFuel; omega)
        ⟨0, rfl, Nat.zero_le _, rfl, Has.of (by kernel_rfl), rfl, g20d⟩ ?_
      rintro n ⟨T, D, G⟩ ⟨i, hn, hi, hH, ⟨f, hT⟩, hD, hg⟩
      dsimp only at *
      subst hT hD
      have hgn := hg.next
      subst hH
      refine kS ?_; refine kS ?_; refine kR ?_; refine oM rfl rfl ?_; refine oM rfl rfl ?_; refine oB rfl rfl rfl qbl ?_; refine OkO.bin rfl rfl rfl (bin_lss _ _) ?_; refine oN ?_
      refine Ok.cond rfl (fun h3 => ?_) (fun h3 => ?_)
      · have hlt : i < rs.length := by simpa using h3
        have hin := rd_in2 (hrok _ (List.getElem_mem hlt))
        obtain ⟨c, hc⟩ : ∃ c : Nat, rs[i].cell = (c : Int) := ⟨_, (Int.toNat_of_nonneg hin.2.2.1).symm⟩
        obtain ⟨d, hd⟩ : ∃ d : Nat, rs[i].day = (d : Int) := ⟨_, (Int.toNat_of_nonneg hin.1).symm⟩
        have hcl : c < cs.length := by omega
        have hdl : d < ds.length := by omega
        obtain ⟨zb, zo, zcs, z1, z2, z3, z4⟩ := zrd.at_ i rs[i].c (by simp [hlt])
        have z5 : zcs[zo + 1]? = some (I rs[i].day) := seg_get z3 1 (by omega)
        have z6 : zcs[zo + 0]? = some (I rs[i].cell) := seg_get z3 0 (by omega)
        have z7 : zcs[zo + 2 + 0]? = some (I rs[i].lo) := seg_get z3 2 (by omega)
        have z8 : zcs[zo + 2 + 1]? = some (I rs[i].hi) := seg_get z3 3 (by omega)
        have hrw : Ints H20d (vsd[d]'(by omega)) ((levP kc (knG g t) kd ⟨t.snow, (pickI g.klo g.khi w)⟩ lvs rain (d + 1)).take kc.length) := hvrd d _ _ (List.getElem?_eq_getElem (by omega)) (by rw [rowsR, List.getElem?_map, List.getElem?_range (by omega)]; rfl)
        have hlv := lev_facts (fit_of (hkt (pickI g.klo g.khi w) hp2)) (d + 1) (by omega)
        obtain ⟨L, hL⟩ : ∃ L, L = lvS kc (knG g t) kd (pickI g.klo g.khi w) rs[i].day rs[i].cell := ⟨_, rfl⟩
        have hL2 : (levP kc (knG g t) kd ⟨t.snow, (pickI g.klo g.khi w)⟩ lvs rain (d + 1)).getD c 0 = L := by rw [hL, hc, hd]; unfold lvS; rw [hlo, hlr2]; rfl
        obtain ⟨bb, off, ccs, i1, i2, i3, i4⟩ := hv6d.at_ d [vsd[d]'(by omega)] (by rw [List.getElem?_map, List.getElem?_eq_getElem (by omega)]; rfl)
        have i5 := seg_one i3
        obtain ⟨lb, lo, lcs, j1, j2, j3, j4⟩ := hrw.at_ c [I ((levP kc (knG g t) kd ⟨t.snow, (pickI g.klo g.khi w)⟩ lvs rain (d + 1)).getD c 0)] (by rw [List.getElem?_map, List.getElem?_take, if_pos (by omega), List.getElem?_eq_getElem (by omega), getD_lt (by omega)]; rfl)
        rw [hL2] at j3
        have j5 := seg_one j3
        refine Ok.skip ?_; refine kS ?_; refine Ok.block ?_; refine kS ?_; refine Ok.drawn [(0, true, []), (1, true, []), (2, true, []), (3, true, []), (4, true, []), (5, true, []), (6, true, []), (7, true, []), (8, true, []), (9, true, []), (10, true, []), (11, true, []), (12, true, []), (13, true, []), (14, true, []), (15, true, [])] (by kernel_rfl) ?_; refine pS ?_; refine oM rfl rfl ?_; refine oN ⟨rfl, ?_⟩; refine pS ?_; refine oM rfl rfl ?_; refine oN ⟨rfl, ?_⟩; refine pS ?_; refine oM rfl rfl ?_; refine oN ⟨rfl, ?_⟩; refine pS ?_; refine qX (sz := 4) (n := i) rfl rfl rfl ?_; refine oN ⟨rfl, ?_⟩; refine pS ?_; refine oF (o := 1) rfl (by kernel_rfl) rfl ?_; refine oN ⟨rfl, ?_⟩; refine pS ?_; refine oL rfl rfl (qla7 1) ?_; refine oN ⟨rfl, ?_⟩; refine pS ?_; refine qX (sz := 1) (n := d) rfl rfl (congrArg (fun z => some (I z)) hd) ?_; refine oN ⟨rfl, ?_⟩; refine pS ?_; refine oL rfl rfl (qla7 1) ?_; refine oN ⟨rfl, ?_⟩; refine pS ?_; refine oM rfl rfl ?_; refine oN ⟨rfl, ?_⟩; refine pS ?_; refine oM rfl rfl ?_; refine oN ⟨rfl, ?_⟩; refine pS ?_; refine qX (sz := 4) (n := i) rfl rfl rfl ?_; refine oN ⟨rfl, ?_⟩; refine pS ?_; refine oF (o := 0) rfl (by kernel_rfl) rfl ?_; refine oN ⟨rfl, ?_⟩; refine pS ?_; refine oL rfl rfl (qla7 1) ?_; refine oN ⟨rfl, ?_⟩; refine pS ?_; refine qX (sz := 1) (n := c) rfl rfl (congrArg (fun z => some (I z)) hc) ?_; refine oN ⟨rfl, ?_⟩; refine pS ?_; refine oL rfl rfl (qla7 1) ?_; refine oN ⟨rfl, ?_⟩; refine pS ?_; refine oA rfl rfl ?_; refine oN ⟨rfl, ?_⟩; refine OkP.nil ?_; refine kR ?_; refine oM rfl rfl ?_; refine oM rfl rfl ?_
        refine OkO.split (d := 267) rfl (fun g4 => ?_) (fun g4 => ?_)
        · refine oM rfl rfl ?_
          refine oM rfl rfl ?_; refine oM rfl rfl ?_; refine qX (sz := 4) (n := i) rfl rfl rfl ?_; refine oF (o := 2) rfl (by kernel_rfl) rfl ?_; refine oF (o := 0) rfl (by kernel_rfl) rfl ?_; refine oL rfl rfl (qla7 1) ?_; refine OkO.bin rfl rfl rfl (bin_geq _ _) ?_; refine OkO.pick (b := true) rfl rfl (fun _ => rfl) nofun ?_; refine oM rfl rfl ?_
          refine OkO.split (d := 277) rfl (fun g5 => ?_) (fun g5 => ?_)
          · refine oM rfl rfl ?_
            refine oM rfl rfl ?_; refine oM rfl rfl ?_; refine qX (sz := 4) rfl rfl rfl ?_; refine oF (o := 2) rfl (by kernel_rfl) rfl ?_; refine oF (o := 1) rfl (by kernel_rfl) rfl ?_; refine oL rfl rfl (qla7 1) ?_; refine OkO.bin rfl rfl rfl (bin_leq _ _) ?_; refine OkO.pick (b := true) rfl rfl (fun _ => rfl) nofun ?_; refine oA rfl rfl ?_; refine oN ?_; refine kR ?_; refine oM rfl rfl ?_; refine OkO.bin rfl rfl rfl (bin_add (by omega) (by omega)) ?_; refine oA rfl rfl ?_; refine oN ?_
            refine ⟨rs.length - (i + 1), by omega, i + 1, rfl, hlt, rfl, ?_, rfl, g20d⟩
            have hk : (agreesB kc (knG g t) kd (rs.take (i + 1)) (pickI g.klo g.khi w)) = ((agreesB kc (knG g t) kd (rs.take i) (pickI g.klo g.khi w)) && (decide (rs[i].lo ≤ L) && decide (L ≤ rs[i].hi))) := by unfold agreesB; rw [List.take_succ_eq_append_getElem hlt, List.all_append, List.all_cons, List.all_nil, Bool.and_true, ← hL]; rfl
            first | (rw [hk, g4, show decide (rs[i].lo ≤ L) = true from g5]; exact Has.of (by kernel_rfl)) | (rw [hk, g4, show decide (rs[i].lo ≤ L) = false from g5]; exact Has.of (by kernel_rfl)) | (rw [hk, g4]; exact Has.of (by kernel_rfl))
          · refine oK rfl ?_
            refine oK rfl ?_; refine oK rfl ?_; refine oK rfl ?_; refine oK rfl ?_; refine oK rfl ?_; refine oK rfl ?_; refine oK rfl ?_; refine OkO.pick (b := false) rfl rfl nofun (fun _ => rfl) ?_; refine oA rfl rfl ?_; refine oN ?_; refine kR ?_; refine oM rfl rfl ?_; refine OkO.bin rfl rfl rfl (bin_add (by omega) (by omega)) ?_; refine oA rfl rfl ?_; refine oN ?_
            refine ⟨rs.length - (i + 1), by omega, i + 1, rfl, hlt, rfl, ?_, rfl, g20d⟩
            have hk : (agreesB kc (knG g t) kd (rs.take (i + 1)) (pickI g.klo g.khi w)) = ((agreesB kc (knG g t) kd (rs.take i) (pickI g.klo g.khi w)) && (decide (rs[i].lo ≤ L) && decide (L ≤ rs[i].hi))) := by unfold agreesB; rw [List.take_succ_eq_append_getElem hlt, List.all_append, List.all_cons, List.all_nil, Bool.and_true, ← hL]; rfl
            first | (rw [hk, g4, show decide (rs[i].lo ≤ L) = true from g5]; exact Has.of (by kernel_rfl)) | (rw [hk, g4, show decide (rs[i].lo ≤ L) = false from g5]; exact Has.of (by kernel_rfl)) | (rw [hk, g4]; exact Has.of (by kernel_rfl))
        · refine oK rfl ?_
          refine oK rfl ?_; refine oK rfl ?_; refine oK rfl ?_; refine oK rfl ?_; refine oK rfl ?_; refine oK rfl ?_; refine oK rfl ?_; refine OkO.pick (b := false) rfl rfl nofun (fun _ => rfl) ?_; refine oM rfl rfl ?_; refine oK rfl ?_; refine oK rfl ?_; refine oK rfl ?_; refine oK rfl ?_; refine oK rfl ?_; refine oK rfl ?_; refine oK rfl ?_; refine oK rfl ?_; refine OkO.pick (b := false) rfl rfl nofun (fun _ => rfl) ?_; refine oA rfl rfl ?_; refine oN ?_; refine kR ?_; refine oM rfl rfl ?_; refine OkO.bin rfl rfl rfl (bin_add (by omega) (by omega)) ?_; refine oA rfl rfl ?_; refine oN ?_
          refine ⟨rs.length - (i + 1), by omega, i + 1, rfl, hlt, rfl, ?_, rfl, g20d⟩
          have hk : (agreesB kc (knG g t) kd (rs.take (i + 1)) (pickI g.klo g.khi w)) = ((agreesB kc (knG g t) kd (rs.take i) (pickI g.klo g.khi w)) && (decide (rs[i].lo ≤ L) && decide (L ≤ rs[i].hi))) := by unfold agreesB; rw [List.take_succ_eq_append_getElem hlt, List.all_append, List.all_cons, List.all_nil, Bool.and_true, ← hL]; rfl
          first | (rw [hk, g4, show decide (rs[i].lo ≤ L) = true from g5]; exact Has.of (by kernel_rfl)) | (rw [hk, g4, show decide (rs[i].lo ≤ L) = false from g5]; exact Has.of (by kernel_rfl)) | (rw [hk, g4]; exact Has.of (by kernel_rfl))
      · have hge : i = rs.length := by simp at h3; omega
        subst hge
        rw [List.take_length]
        refine Ok.exit ?_; refine kS ?_; refine kR ?_; refine oM rfl rfl ?_; refine oF (o := 1) rfl (by kernel_rfl) rfl ?_; refine oL rfl rfl (qla7 1) ?_; refine oF (o := 0) rfl (by kernel_rfl) rfl ?_; refine oL rfl rfl (qla7 1) ?_; refine OkO.bin rfl rfl rfl (bin_geq _ _) ?_; refine oM rfl rfl ?_
        refine OkO.split (d := 293) rfl (fun g6 => ?_) (fun g6 => ?_)
        · refine oF (o := 1) rfl (by kernel_rfl) rfl ?_
          refine oL rfl rfl (qla7 1) ?_; refine oF (o := 1) rfl (by kernel_rfl) rfl ?_; refine oL rfl rfl (qla7 1) ?_; refine OkO.bin rfl rfl rfl (bin_leq _ _) ?_; refine OkO.pick (b := true) rfl rfl (fun _ => rfl) nofun ?_; refine OkO.binT rfl rfl rfl (bin_eqlB _ _) ?_; refine oM rfl rfl ?_
          refine OkO.split (d := 301) rfl (fun g7 => ?_) (fun g7 => ?_)
          · refine oV rfl rfl rfl rfl rfl (rfl) ?_
            refine OkO.pick (b := true) rfl rfl (fun _ => rfl) nofun ?_; refine oA rfl rfl ?_; refine oN ?_
            refine Ok.ret ⟨.inr rfl, ?_⟩
            exact ⟨_, _, back_flat rfl rfl rfl (by rw [← hW]; exact g20d), rfl⟩
          · exact absurd g7 (by rw [hB, show decide (a ≤ (pickI g.klo g.khi w)) = true from decide_eq_true (of_decide_eq_true g6)]; simp)
        · refine oK rfl ?_
          refine oK rfl ?_; refine oK rfl ?_; refine oK rfl ?_; refine oK rfl ?_; refine OkO.pick (b := false) rfl rfl nofun (fun _ => rfl) ?_; refine OkO.binT rfl rfl rfl (bin_eqlB _ _) ?_; refine oM rfl rfl ?_
          refine OkO.split (d := 301) rfl (fun g8 => ?_) (fun g8 => ?_)
          · refine oV rfl rfl rfl rfl rfl (rfl) ?_
            refine OkO.pick (b := true) rfl rfl (fun _ => rfl) nofun ?_; refine oA rfl rfl ?_; refine oN ?_
            refine Ok.ret ⟨.inr rfl, ?_⟩
            exact ⟨_, _, back_flat rfl rfl rfl (by rw [← hW]; exact g20d), rfl⟩
          · exact absurd g8 (by rw [hB, show decide (a ≤ (pickI g.klo g.khi w)) = false from decide_eq_false (of_decide_eq_false g6)]; simp)

theorem c13 (m : Nat) (cv dv wv uv : AV) (cs : List Cell) (g : Gr) (ds : List Day) (ws us : List Int) (w : Int) (H : Heap) (hR : Row H cv 7 (cs.map Cell.c)) (hY : Row H dv 3 (ds.map Day.c)) (hWs : Row H wv 1 (ws.map fun w => [U w])) (hws : Upto 65535 ws) (hW3 : Row H uv 1 (us.map fun w => [U w])) (hus : Upto 65535 us) (hw : 0 ≤ w ∧ w ≤ 65535) : FnN Try.prog (RR (m + 41)) 13 [.agg [cv, I g.slo, I g.shi, I g.klo, I g.khi, I g.melt], dv, wv, uv, U w] H fun v _ => v = .bool true := by
  by_cases h : readyB cs g ds = true ∧ ds.length ≠ 0 ∧ us.length ≤ 30
  · exact c13K m cv dv wv uv cs g ds ws us w H hR hY hWs hws hW3 hus hw h.1 (Nat.pos_of_ne_zero h.2.1) h.2.2
  · exact c13W m cv dv wv uv cs g ds ws us w H hR hY hWs hws hW3 hus hw h
end
end Go.EvN

set_option linter.unusedVariables false
namespace Go.Ev
open Go Go.Proofs Go.ChangeShapes Go.WideShapes Go.RowKit
variable {H : Type} {enc : TypeId × Value → H} {P : Program} {w : World} {base : Nat} {spare : Nat → Bool} {held : Bool}
/-- Five parameters, each read for itself. -/
theorem trodAll_five {t0 t1 t2 t3 t4 : TypeId} {args : Array Value} {ds : List (DataW H)} {ps : List MemPlace} (h : DataW.TrodAll enc P w base spare held [t0, t1, t2, t3, t4] args.toList ds ps) :
    ∃ v0 v1 v2 v3 v4 d0 d1 d2 d3 d4 p0 p1 p2 p3 p4, args = #[v0, v1, v2, v3, v4] ∧ ds = [d0, d1, d2, d3, d4] ∧ ps = p0 ++ p1 ++ p2 ++ p3 ++ p4 ∧ DataW.Trod enc P w base spare held t0 v0 d0 p0 ∧ DataW.Trod enc P w base spare held t1 v1 d1 p1 ∧ DataW.Trod enc P w base spare held t2 v2 d2 p2 ∧ DataW.Trod enc P w base spare held t3 v3 d3 p3 ∧ DataW.Trod enc P w base spare held t4 v4 d4 p4 := by
  obtain ⟨v0, r0, d0, s0, p0, q0, hargs, rfl, rfl, h0, k0⟩ := trodAll_cons h
  obtain ⟨v1, r1, d1, s1, p1, q1, rfl, rfl, rfl, h1, k1⟩ := trodAll_cons k0
  obtain ⟨v2, r2, d2, s2, p2, q2, rfl, rfl, rfl, h2, k2⟩ := trodAll_cons k1
  obtain ⟨v3, v4, d3, d4, p3, p4, _, _, e1, rfl, rfl, h3, h4⟩ : ∃ v3 v4 d3 d4 p3 p4, ∃ (_ _ : Unit), r2 = [v3, v4] ∧ s2 = [d3, d4] ∧ q2 = p3 ++ p4 ∧ DataW.Trod enc P w base spare held t3 v3 d3 p3 ∧ DataW.Trod enc P w base spare held t4 v4 d4 p4 := by
    obtain ⟨v3, r3, d3, s3, p3, q3, rfl, rfl, rfl, h3, k3⟩ := trodAll_cons k2
    obtain ⟨v4, r4, d4, s4, p4, q4, rfl, rfl, rfl, h4, k4⟩ := trodAll_cons k3
    obtain ⟨rfl, rfl, rfl⟩ := trodAll_nil k4
    exact ⟨v3, v4, d3, d4, p3, p4, (), (), rfl, rfl, by simp, h3, h4⟩
  subst e1
  exact ⟨v0, v1, v2, v3, v4, d0, d1, d2, d3, d4, p0, p1, p2, p3, p4, by cases args; simp_all, rfl, by simp, h0, h1, h2, h3, h4⟩
theorem trodAll_mk5 {t0 t1 t2 t3 t4 : TypeId} {v0 v1 v2 v3 v4 : Value} {d0 d1 d2 d3 d4 : DataW H} {p0 p1 p2 p3 p4 : List MemPlace} (h0 : DataW.Trod enc P w base spare held t0 v0 d0 p0) (h1 : DataW.Trod enc P w base spare held t1 v1 d1 p1)
    (h2 : DataW.Trod enc P w base spare held t2 v2 d2 p2) (h3 : DataW.Trod enc P w base spare held t3 v3 d3 p3) (h4 : DataW.Trod enc P w base spare held t4 v4 d4 p4) :
    DataW.TrodAll enc P w base spare held [t0, t1, t2, t3, t4] [v0, v1, v2, v3, v4] [d0, d1, d2, d3, d4] (p0 ++ (p1 ++ (p2 ++ (p3 ++ p4)))) :=
  ⟨p0, p1 ++ (p2 ++ (p3 ++ p4)), h0, trodAll_mk4 h1 h2 h3 h4, rfl⟩
end Go.Ev

