/-
  Functions of the program, reckoned by the evaluator: what each answers, and that it leaves what came in as it was.
-/
import Derived.Test.YtfhomicfhgiidaaPt27
set_option maxRecDepth 100000
set_option linter.unusedSimpArgs false
set_option linter.unusedVariables false
namespace Go.Ev
open Go Go.Proofs
noncomputable section
theorem back_marksA {P : Program} {fn : Func} {H : Heap} {T : Tr AV} {ds : List Nat} {G : Heap} {vs : List AV} {v : AV} {S : AV → Heap → Prop} (hnd : ds.Nodup) (hdef : ∀ d ∈ ds, G.get d = some .defd) (hr : ∀ G' : Heap, (∀ n, n ∉ ds → G'.get n = G.get n) → resV P T G' fn.results.toList = some vs) (hv : resOf vs = v)
    (hg : Grow ⟨H.t, H.next, H.next⟩ G) (hds : ∀ d ∈ ds, H.next ≤ d) (k : ∀ H', Ret H H' → (H' = H ∧ v.flat = true ∨ ((∀ n, n ∉ ds → H'.get n = G.get n) ∧ H'.next = G.next)) → S v H') : ∃ v H', evBack P fn H ⟨T, ds, G⟩ = some (v, H') ∧ S v H' := by
  rw [back_marks ds G hnd hdef]
  refine back_newA (hr _ fun n hn => shutAll_get ds hn G) hv (shutAll_grow (W := ⟨H.t, H.next, H.next⟩) ds hds G hg) fun H' p1 p2 => k H' p1 ?_
  rcases p2 with p2 | ⟨p2, p3⟩
  · exact .inl p2
  · exact .inr ⟨fun n hn => (p2 n).trans (shutAll_get ds hn G), p3.trans (shutAll_next ds G)⟩
theorem rep_bool : ∀ n, rep [AV.bool false] n = (List.replicate n false).map AV.bool
  | 0 => rfl
  | n + 1 => by
    show [AV.bool false] ++ rep [AV.bool false] n = _
    rw [rep_bool n]
    rfl
theorem mv_start (pr : Nat → Nat → Int) (N n : Nat) {least : Int} (hl : 1 ≤ least) : MvOk pr N n least 0 0 0 (List.replicate N false) := by
  refine ⟨by simp, fun col hcol => ?_⟩
  rw [List.getD_eq_getElem?_getD, List.getElem?_replicate, if_pos hcol]
  simp only [Option.getD_some, Bool.false_eq_true, false_iff]
  rintro ⟨la, a, j, h1, _⟩
  omega
def mvK (mv : List Bool) (k : Nat) : List Nat := (List.range k).filter fun c => mv.getD c false
theorem mvK_yes {mv : List Bool} {k : Nat} (h : mv.getD k false = true) : (mvK mv (k + 1)).map (fun (c : Nat) => I (c : Int)) = (mvK mv k).map (fun (c : Nat) => I (c : Int)) ++ [I (k : Int)] := by
  unfold mvK
  rw [List.range_succ, List.filter_append, List.map_append]
  simp only [List.filter_cons, List.filter_nil]
  rw [if_pos h]
  rfl
theorem mvK_no {mv : List Bool} {k : Nat} (h : mv.getD k false = false) : mvK mv (k + 1) = mvK mv k := by
  unfold mvK
  rw [List.range_succ, List.filter_append]
  simp only [List.filter_cons, List.filter_nil]
  rw [if_neg (by rw [h]; simp), List.append_nil]
theorem mvK_len (mv : List Bool) (k : Nat) : (mvK mv k).length ≤ k := by
  have := List.length_filter_le (fun c => mv.getD c false) (List.range k)
  rw [List.length_range] at this
  exact this
theorem mvK_mem {mv : List Bool} {k col : Nat} : col ∈ mvK mv k ↔ col < k ∧ mv.getD col false = true := by
  unfold mvK
  rw [List.mem_filter, List.mem_range]
theorem mvK_sort (mv : List Bool) (k : Nat) : (mvK mv k).Pairwise (· < ·) := List.Pairwise.filter _ List.pairwise_lt_range
theorem Row.keep {H G : Heap} {v : AV} {sz : Nat} {l : List (List AV)} (h : Row H v sz l) (hn : H.next ≤ G.next) (hg : ∀ j, j < H.next → G.get j = H.get j) : Row G v sz l := h.ext ⟨hn, hg⟩
theorem c82 (m : Nat) (n : Nat) (cv pv : AV) (cols : List (List Bed)) (least : Int) (pr : Nat → Nat → Int) (H : Heap) (hM : Mat H cv cols) (hcl : ∀ c ∈ cols, c.length = n) (hN9 : cols.length ≤ 100) (hn9 : 1 ≤ n ∧ n ≤ 1000) (hls : 1 ≤ least ∧ least ≤ 4) (hB : PrB pr) (hP : CallP (m + 106) pv H cols.length n pr) : ∃ v H', RR (m + 108) (.fn 82 [.agg [cv, I least], pv]) H = some (v, H') ∧ ∃ rs : List Nat, Ret H H' ∧ Mine H.next H' v 3 1 (rs.map fun (c : Nat) => I (c : Int)) ∧ (∀ col, col ∈ rs ↔ col < cols.length ∧ HitS pr cols.length n least col) ∧ rs.Pairwise (· < ·) := by
  show ∃ v H', evFn Try.prog (RR (m + 107)) 82 [.agg [cv, I least], pv] H = some (v, H') ∧ ∃ rs : List Nat, Ret H H' ∧ Mine H.next H' v 3 1 (rs.map fun (c : Nat) => I (c : Int)) ∧ (∀ col, col ∈ rs ↔ col < cols.length ∧ HitS pr cols.length n least col) ∧ rs.Pairwise (· < ·)
  refine fn_okE Try.func82 rfl rfl (by kernel_rfl) (by kernel_rfl) ?_
  obtain ⟨W, hW⟩ : ∃ W : Heap, W = ⟨H.t, H.next, H.next⟩ := ⟨_, rfl⟩
  have hg : ∀ n, W.get n = H.get n := fun n => by rw [hW]; rfl
  have hN : W.next = H.next := by rw [hW]
  have hE : ∀ G, Grow W G → Ext H G := fun G g => ⟨by rw [← hN]; exact g.next, fun n k => by rw [g.get n (by rw [hN]; exact k), hg]⟩
  have hG : Grow W W := Grow.refl (by rw [hW]; exact Nat.le_refl _)
  rw [← hW]
  obtain ⟨vs, hR, hvl, hv⟩ := id hM
  have hlen : lenOf cv = some cols.length := by rw [← hvl]; simpa using hR.len
  have pc : cv.plain = true := lpl hlen
  refine Ok.seq ?_
  refine Ok.region ?_
  refine OkO.box rfl rfl ?_
  refine OkO.assign rfl rfl ?_
  refine OkO.nil ?_
  refine Ok.seq ?_
  refine Ok.region ?_
  refine OkO.fieldAddr (o := 0) rfl (by kernel_rfl) rfl ?_
  refine OkO.load rfl rfl (lda (n := 1) (by kernel_rfl) (by first | assumption | (simp (disch := first | omega | (simp only [hNw, hPt]; omega)) only [gn0, gn1, gn2, gn3, gn4, gn5, gp0, gno, gpo] <;> first | rfl | assumption | exact gp0 _ _ _ | exact gn0 _ _)) (by first | rfl | assumption)) ?_
  refine OkO.builtin rfl rfl rfl (bln (by kernel_rfl) (by first | assumption | rfl)) ?_
  refine OkO.makeSlice (el := 4) (sz := 1) (z := [.bool false]) (n := cols.length) (by_ := 1) rfl (by kernel_rfl) (by kernel_rfl) (by omega) rfl rfl (by omega) ?_
  refine OkO.alloc (z := [.nils]) rfl (by kernel_rfl) ?_
  refine OkO.store rfl rfl rfl (stc (n := 1) (ag := false) (by kernel_rfl) (by first | assumption | (simp (disch := first | omega | (simp only [hNw, hPt]; omega)) only [gn0, gn1, gn2, gn3, gn4, gn5, gp0, gno, gpo] <;> first | rfl | assumption | exact gp0 _ _ _ | exact gn0 _ _)) rfl (by first | rfl | assumption) (by first | rfl | exact spl_set _ _ _ (by first | assumption | omega | (simp; omega)))) ?_
  refine OkO.nil ?_
  refine Ok.seq ?_
  refine Ok.seq ?_
  refine Ok.region ?_
  refine OkO.fieldAddr (o := 0) rfl (by kernel_rfl) rfl ?_
  refine OkO.load rfl rfl (lda (n := 1) (by kernel_rfl) (by first | assumption | (simp (disch := first | omega | (simp only [hNw, hPt]; omega)) only [gn0, gn1, gn2, gn3, gn4, gn5, gp0, gno, gpo] <;> first | rfl | assumption | exact gp0 _ _ _ | exact gn0 _ _)) (by first | rfl | assumption)) ?_
  refine OkO.builtin rfl rfl rfl (bln (by kernel_rfl) (by first | assumption | rfl)) ?_
  refine OkO.move rfl rfl ?_
  refine OkO.nil ?_
  refine Ok.block ?_
  refine Ok.loop (fun n9 s_ => ∃ (i : Nat) (mv : List Bool), n9 = cols.length - i ∧ i ≤ cols.length ∧ Grow W s_.H ∧ W.next + 3 ≤ s_.H.next ∧ s_.H.get W.next = some (.cells [cv, I least] 35) ∧ s_.H.get (W.next + 1) = some (.cells (mv.map AV.bool) 4) ∧ s_.H.get (W.next + 2) = some (.cells [.slice (W.next + 1) 0 cols.length cols.length] 159) ∧ MvOk pr cols.length n least i 0 0 mv ∧ Has 6 [(1, pv), (2, .ptr W.next 0), (5, .ptr (W.next + 2) 0), (19, I (cols.length : Int)), (20, I (i : Int))] s_.T ∧ s_.D.Nodup ∧ ∀ d ∈ s_.D, W.next + 3 ≤ d ∧ d < s_.H.next ∧ s_.H.get d = some .defd) (cols.length) (by unfold loopFuel; omega)
    ⟨0, List.replicate cols.length false, rfl, Nat.zero_le _, (by (try dsimp only); repeat (first | exact hg | exact hG | apply Grow.new | (refine Grow.put ?_ _ (by first | omega | (simp only [hNw, hPt]; omega))))), (by first | omega | (simp only [hNw, hPt]; omega)), (by first | assumption | (simp (disch := first | omega | (simp only [hNw, hPt]; omega)) only [gn0, gn1, gn2, gn3, gn4, gn5, gp0, gno, gpo] <;> first | rfl | assumption | exact gp0 _ _ _ | exact gn0 _ _)), (by rw [← rep_bool] <;> (first | assumption | (simp (disch := first | omega | (simp only [hNw, hPt]; omega)) only [gn0, gn1, gn2, gn3, gn4, gn5, gp0, gno, gpo] <;> first | rfl | assumption | exact gp0 _ _ _ | exact gn0 _ _))), (by first | assumption | (simp (disch := first | omega | (simp only [hNw, hPt]; omega)) only [gn0, gn1, gn2, gn3, gn4, gn5, gp0, gno, gpo] <;> first | rfl | assumption | exact gp0 _ _ _ | exact gn0 _ _)), mv_start _ _ _ hls.1, Has.of (by kernel_rfl), .nil, nofun⟩ ?_
  rintro n9 ⟨T, D, G⟩ ⟨i, mv, hn, hi, hg, hgx, f0, f1, f2, hmv, ⟨f, hT⟩, hD1, hD2⟩
  dsimp only at *
  subst hT
  have hgn := hg.next
  have e0 : (G.get W.next).bind AObj.cs = some [cv, I least] := by rw [f0]; rfl
  have e2 : (G.get (W.next + 2)).bind AObj.cs = some [.slice (W.next + 1) 0 cols.length cols.length] := by rw [f2]; rfl
  refine Ok.seq ?_
  refine Ok.region ?_
  refine OkO.bin rfl rfl rfl (bin_lss _ _) ?_
  refine OkO.nil ?_
  refine Ok.seq ?_
  refine Ok.cond rfl (fun h1 => ?_) (fun h1 => ?_)
  · -- yes h1
    have hil : i < cols.length := by simpa using h1
    refine Ok.skip ?_
    refine Ok.seq ?_
    refine Ok.block ?_
    refine Ok.seq ?_
    refine Ok.region ?_
    refine OkO.move rfl rfl ?_
    refine OkO.alloc (z := [.int .i64 0]) rfl (by kernel_rfl) ?_
    refine OkO.store rfl rfl rfl (stc (n := 1) (ag := false) (by kernel_rfl) (by first | assumption | (simp (disch := first | omega | (simp only [hNw, hPt]; omega)) only [gn0, gn1, gn2, gn3, gn4, gn5, gp0, gno, gpo] <;> first | rfl | assumption | exact gp0 _ _ _ | exact gn0 _ _)) rfl (by first | rfl | assumption) (by first | rfl | exact spl_set _ _ _ (by first | assumption | omega | (simp; omega)))) ?_
    refine OkO.nil ?_
    refine Ok.seq ?_
    refine Ok.region ?_
    refine OkO.load rfl rfl (ldg (n := 2) (by kernel_rfl) (by first | assumption | (simp (disch := first | omega | (simp only [hNw, hPt]; omega)) only [gn0, gn1, gn2, gn3, gn4, gn5, gp0, gno, gpo] <;> first | rfl | assumption | exact gp0 _ _ _ | exact gn0 _ _)) (by first | rfl | assumption)) ?_
    refine OkO.load rfl rfl (lda (n := 1) (by kernel_rfl) (by first | assumption | (simp (disch := first | omega | (simp only [hNw, hPt]; omega)) only [gn0, gn1, gn2, gn3, gn4, gn5, gp0, gno, gpo] <;> first | rfl | assumption | exact gp0 _ _ _ | exact gn0 _ _)) (by first | rfl | assumption)) ?_
    refine OkO.move rfl rfl ?_
    refine OkO.callE rfl rfl rfl rfl rfl (c97 (m + 103) i n cv pv cols least pr _ (hM.ext (hE _ (by (try dsimp only); repeat (first | exact hg | exact hG | apply Grow.new | (refine Grow.put ?_ _ (by first | omega | (simp only [hNw, hPt]; omega))))))) hcl (by omega) hN9 hn9 hB (hP.ext (hE _ (by (try dsimp only); repeat (first | exact hg | exact hG | apply Grow.new | (refine Grow.put ?_ _ (by first | omega | (simp only [hNw, hPt]; omega)))))))) ?_ -- "(sackung/slope.Slope).sumsTo"
    rintro v97 H97 ⟨mb, o, rfl, q97, m1, m2, m3, m4⟩
    have n97 := q97.ext.next
    simp only [hNw, hPt] at n97 m1
    have a0 : H97.get (W.next) = some (.cells [cv, I least] 35) := by rw [q97.ext.get _ (by first | omega | (simp only [hNw, hPt]; omega))]; first | (rw [gn0]; rfl) | (simp (disch := first | omega | (simp only [hNw, hPt]; omega)) only [gn0, gn1, gn2, gn3, gn4, gn5, gp0, gno, gpo] <;> first | rfl | assumption | exact gp0 _ _ _ | exact gn0 _ _)
    have a1 : H97.get (W.next + 1) = some (.cells (mv.map AV.bool) 4) := by rw [q97.ext.get _ (by first | omega | (simp only [hNw, hPt]; omega))]; first | (rw [gn0]; rfl) | (simp (disch := first | omega | (simp only [hNw, hPt]; omega)) only [gn0, gn1, gn2, gn3, gn4, gn5, gp0, gno, gpo] <;> first | rfl | assumption | exact gp0 _ _ _ | exact gn0 _ _)
    have a2 : H97.get (W.next + 2) = some (.cells [.slice (W.next + 1) 0 cols.length cols.length] 159) := by rw [q97.ext.get _ (by first | omega | (simp only [hNw, hPt]; omega))]; first | (rw [gn0]; rfl) | (simp (disch := first | omega | (simp only [hNw, hPt]; omega)) only [gn0, gn1, gn2, gn3, gn4, gn5, gp0, gno, gpo] <;> first | rfl | assumption | exact gp0 _ _ _ | exact gn0 _ _)
    have am : H97.get (G.next) = some (.cells [I (i : Int)] 3) := by rw [q97.ext.get _ (by first | omega | (simp only [hNw, hPt]; omega))]; first | (rw [gn0]; rfl) | (simp (disch := first | omega | (simp only [hNw, hPt]; omega)) only [gn0, gn1, gn2, gn3, gn4, gn5, gp0, gno, gpo] <;> first | rfl | assumption | exact gp0 _ _ _ | exact gn0 _ _)
    have b0 : (H97.get W.next).bind AObj.cs = some [cv, I least] := by rw [a0]; rfl
    have bm : (H97.get G.next).bind AObj.cs = some [I (i : Int)] := by rw [am]; rfl
    have g97 : Grow W H97 := Grow.ret (by (try dsimp only); repeat (first | exact hg | exact hG | apply Grow.new | (refine Grow.put ?_ _ (by first | omega | (simp only [hNw, hPt]; omega))))) q97
    have hd97 : ∀ d, W.next + 3 ≤ d → d < G.next → H97.get d = G.get d := fun d d1 d2 => by (rw [q97.ext.get _ (by first | omega | (simp only [hNw, hPt]; omega))]; simp (disch := first | omega | (simp only [hNw, hPt]; omega)) only [gno, gpo])
    refine OkO.alloc (z := [.nilm]) rfl (by kernel_rfl) ?_
    refine OkO.store rfl rfl rfl (stc (n := 1) (ag := false) (by kernel_rfl) (by first | assumption | (simp (disch := first | omega | (simp only [hNw, hPt]; omega)) only [gn0, gn1, gn2, gn3, gn4, gn5, gp0, gno, gpo] <;> first | rfl | assumption | exact gp0 _ _ _ | exact gn0 _ _)) rfl (by first | rfl | assumption) (by first | rfl | exact spl_set _ _ _ (by first | assumption | omega | (simp; omega)))) ?_
    refine OkO.nil ?_
    refine Ok.seq ?_
    refine Ok.region ?_
    refine OkO.load rfl rfl (ldg (n := 2) (by kernel_rfl) (by first | assumption | (simp (disch := first | omega | (simp only [hNw, hPt]; omega)) only [gn0, gn1, gn2, gn3, gn4, gn5, gp0, gno, gpo] <;> first | rfl | assumption | exact gp0 _ _ _ | exact gn0 _ _)) (by first | rfl | assumption)) ?_
    refine OkO.load rfl rfl (lda (n := 1) (by kernel_rfl) (by first | assumption | (simp (disch := first | omega | (simp only [hNw, hPt]; omega)) only [gn0, gn1, gn2, gn3, gn4, gn5, gp0, gno, gpo] <;> first | rfl | assumption | exact gp0 _ _ _ | exact gn0 _ _)) (by first | rfl | assumption)) ?_
    refine OkO.callE rfl rfl rfl rfl rfl (c98 (m + 106) cv least i _) ?_ -- "(sackung/slope.Slope).starts"
    rintro v98 H98 ⟨rfl, q98, s1, s2, s3⟩
    simp only [hNw, hPt] at s1 s2 s3
    have x0 : H98.get (W.next) = some (.cells [cv, I least] 35) := by rw [q98.ext.get _ (by first | omega | (simp only [hNw, hPt]; omega))]; first | (rw [gn0]; rfl) | (simp (disch := first | omega | (simp only [hNw, hPt]; omega)) only [gn0, gn1, gn2, gn3, gn4, gn5, gp0, gno, gpo] <;> first | rfl | assumption | exact gp0 _ _ _ | exact gn0 _ _)
    have x1 : H98.get (W.next + 1) = some (.cells (mv.map AV.bool) 4) := by rw [q98.ext.get _ (by first | omega | (simp only [hNw, hPt]; omega))]; first | (rw [gn0]; rfl) | (simp (disch := first | omega | (simp only [hNw, hPt]; omega)) only [gn0, gn1, gn2, gn3, gn4, gn5, gp0, gno, gpo] <;> first | rfl | assumption | exact gp0 _ _ _ | exact gn0 _ _)
    have x2 : H98.get (W.next + 2) = some (.cells [.slice (W.next + 1) 0 cols.length cols.length] 159) := by rw [q98.ext.get _ (by first | omega | (simp only [hNw, hPt]; omega))]; first | (rw [gn0]; rfl) | (simp (disch := first | omega | (simp only [hNw, hPt]; omega)) only [gn0, gn1, gn2, gn3, gn4, gn5, gp0, gno, gpo] <;> first | rfl | assumption | exact gp0 _ _ _ | exact gn0 _ _)
    have xm : H98.get (G.next) = some (.cells [I (i : Int)] 3) := by rw [q98.ext.get _ (by first | omega | (simp only [hNw, hPt]; omega))]; first | (rw [gn0]; rfl) | (simp (disch := first | omega | (simp only [hNw, hPt]; omega)) only [gn0, gn1, gn2, gn3, gn4, gn5, gp0, gno, gpo] <;> first | rfl | assumption | exact gp0 _ _ _ | exact gn0 _ _)
    have xp : H98.get (H97.next) = some (.cells [.map mb] 147) := by rw [q98.ext.get _ (by first | omega | (simp only [hNw, hPt]; omega))]; first | (rw [gn0]; rfl) | (simp (disch := first | omega | (simp only [hNw, hPt]; omega)) only [gn0, gn1, gn2, gn3, gn4, gn5, gp0, gno, gpo] <;> first | rfl | assumption | exact gp0 _ _ _ | exact gn0 _ _)
    have xo : H98.get (mb) = some o := by rw [q98.ext.get _ (by first | omega | (simp only [hNw, hPt]; omega))]; first | (rw [gn0]; rfl) | (simp (disch := first | omega | (simp only [hNw, hPt]; omega)) only [gn0, gn1, gn2, gn3, gn4, gn5, gp0, gno, gpo] <;> first | rfl | assumption | exact gp0 _ _ _ | exact gn0 _ _)
    have g98 : Grow W H98 := Grow.ret (by (try dsimp only); repeat (first | exact g97 | apply Grow.new | (refine Grow.put ?_ _ (by first | omega | (simp only [hNw, hPt]; omega))))) q98
    have hd98 : ∀ d, W.next + 3 ≤ d → d < G.next → H98.get d = G.get d := fun d d1 d2 => by (rw [q98.ext.get _ (by first | omega | (simp only [hNw, hPt]; omega))]; simp (disch := first | omega | (simp only [hNw, hPt]; omega)) only [gno, gpo]; exact hd97 d d1 d2)
    refine OkO.nil ?_
    refine Ok.block ?_
    refine Ok.rangeX rfl rfl (fun T0 hT0 => ?_)
    have hH : Has 6 [(2, .ptr W.next 0), (5, .ptr (W.next + 2) 0), (6, .ptr G.next 0), (7, .ptr H97.next 0)] T0 := by rw [hT0]; exact Has.of (by kernel_rfl)
    have s3b : H98.next = H97.next + 3 := by omega
    obtain ⟨C, hC⟩ : ∃ C : Nat, (C : Int) = max ((i : Int) - least + 2) 0 := ⟨(max ((i : Int) - least + 2) 0).toNat, by omega⟩
    have hJ0 : BelJ H98 W.next H97.next pr cols.length n least i T0 0 0 ((H98.new .defd).new (.loop .ready none T0 [30] as82 bd82 (H97.next + 3))) := ⟨⟨by simp only [hNw]; omega, by simp only [hNw]; omega⟩, fun j j1 j2 => by rw [gno _ _ _ (by simp only [hNw]; omega), gno _ _ _ (by omega)], by rw [gno _ _ _ (by simp only [hNw]; omega), ← s3b]; exact gn0 _ _, by rw [show H97.next + 4 = H98.next + 1 from by omega]; exact gn1 _ _ _, ⟨mv, by rw [gno _ _ _ (by simp only [hNw]; omega), gno _ _ _ (by omega)]; exact x1, hmv⟩⟩
    have hMX : Mat H98 cv cols := hM.ext (hE _ g98)
    obtain ⟨v3, H3, k1, k2, k3⟩ := c108 (m + 106) (H97.next + 4) (H97.next + 2) (H97.next + 1) W.next i n C cv least cols (BelJ H98 W.next H97.next pr cols.length n least i T0) (fun _ => False) ((H98.new .defd).new (.loop .ready none T0 [30] as82 bd82 (H97.next + 3))) (fun _ _ _ _ h x => h.to (by omega) x) (fun _ _ h _ => h.elim) (fun c k G9 h => ⟨by rw [h.get _ (by omega) (by omega), s2]; rfl, by rw [h.get _ (by omega) (by omega), s1]; rfl, by have := h.nx; omega, hM.ext ⟨by have := h.nx; have := g98.next; omega, fun j hj => (h.get _ (by have := g98.next; omega) (by omega)).trans ((hE _ g98).get j hj)⟩⟩) (fun c G9 _ h => ⟨h.nx, h.get, h.b3, h.b4, by (obtain ⟨mv9, p1, p2, p3⟩ := h.mv; exact ⟨mv9, p1, p2, fun col hcol => (p3 col hcol).trans Hit.col⟩)⟩) (fun c k G9 hc hk hj hl => by (obtain ⟨v9, H9, t1, t2, t3⟩ := r82 (m + 105) W.next G.next H97.next W.next c k i n cols.length mb cv least cols pr o T0 H98 G9 x0 x2 xm xp xo s3b (by omega) (by omega) (by omega) (by omega) hMX (by omega) hN9 hn9 m4 hls hH hj hl (Nat.le_refl _) hk (by omega); exact ⟨v9, H9, t1, ⟨true, t2, .inl ⟨rfl, t3.1⟩⟩, t3.2⟩)) hJ0 (by show W.next ≤ H98.lo; exact g98.lo) (by omega) hC (by omega) hcl hn9 hN9 (by omega) hls
    -- ranged
    rw [s3b]
    rcases k2 with k2 | k2
    rotate_left
    · exact k2.elim
    have kn := k2.nx
    refine ⟨v3, H3, k1, _, _, T0, [30], as82, bd82, H97.next + 3, k2.b4, .inl ⟨rfl, rfl, ?_⟩⟩
    have g3 : Grow W H3 := ⟨by have := g98.next; omega, fun j hj => (k2.get _ (by have := g98.next; omega) (by omega)).trans (g98.get j hj), k3⟩
    have y0 := (k2.get W.next (by omega) (by omega)).trans x0
    obtain ⟨mv3, y1, hmv3⟩ := k2.mv
    have y2 := (k2.get (W.next + 2) (by omega) (by omega)).trans x2
    have yd := k2.b3
    have hd3 : ∀ d, W.next + 3 ≤ d → d < G.next → H3.get d = G.get d := fun d d1 d2 => (k2.get d (by omega) (by omega)).trans (hd98 d d1 d2)
    clear k1
    refine Ok.region ?_
    refine OkO.bin rfl rfl rfl (bin_add (by omega) (by omega)) ?_
    refine OkO.move rfl rfl ?_
    refine OkO.nil ?_
    refine ⟨cols.length - (i + 1), by omega, i + 1, mv3, rfl, by omega, (by (try dsimp only); repeat (first | exact g3 | apply Grow.new | (refine Grow.put ?_ _ (by first | omega | (simp only [hNw, hPt]; omega))))), (by first | omega | (simp only [hNw, hPt]; omega)), (by first | assumption | (simp (disch := first | omega | (simp only [hNw, hPt]; omega)) only [gn0, gn1, gn2, gn3, gn4, gn5, gp0, gno, gpo] <;> first | rfl | assumption | exact gp0 _ _ _ | exact gn0 _ _)), (by first | assumption | (simp (disch := first | omega | (simp only [hNw, hPt]; omega)) only [gn0, gn1, gn2, gn3, gn4, gn5, gp0, gno, gpo] <;> first | rfl | assumption | exact gp0 _ _ _ | exact gn0 _ _)), (by first | assumption | (simp (disch := first | omega | (simp only [hNw, hPt]; omega)) only [gn0, gn1, gn2, gn3, gn4, gn5, gp0, gno, gpo] <;> first | rfl | assumption | exact gp0 _ _ _ | exact gn0 _ _)), ⟨hmv3.1, fun col hcol => (hmv3.2 col hcol).trans (Hit.last hC hls.1)⟩, Has.of (by kernel_rfl), ?_, ?_⟩
    · exact List.nodup_cons.2 ⟨fun h9 => by have := (hD2 _ h9).2.1; omega, hD1⟩
    · intro d hd
      rcases List.mem_cons.1 hd with rfl | hd
      · exact ⟨by omega, (by first | omega | (simp only [hNw, hPt]; omega)), (by first | assumption | (simp (disch := first | omega | (simp only [hNw, hPt]; omega)) only [gn0, gn1, gn2, gn3, gn4, gn5, gp0, gno, gpo] <;> first | rfl | assumption | exact gp0 _ _ _ | exact gn0 _ _))⟩
      · obtain ⟨d1, d2, d3⟩ := hD2 d hd
        exact ⟨d1, (by first | omega | (simp only [hNw, hPt]; omega)), by rw [gpo _ _ _ _ (by omega), gpo _ _ _ _ (by omega), hd3 d d1 d2]; exact d3⟩
  · -- no h1
    have hil : i = cols.length := by (have : ¬ i < cols.length := by simpa using h1); omega
    refine Ok.exit ?_
    refine Ok.seq ?_
    refine Ok.region ?_
    refine OkO.assign rfl rfl ?_
    refine OkO.nil ?_
    refine Ok.seq ?_
    refine Ok.seq ?_
    refine Ok.region ?_
    refine OkO.load rfl rfl (lda (n := 1) (by kernel_rfl) (by first | assumption | (simp (disch := first | omega | (simp only [hNw, hPt]; omega)) only [gn0, gn1, gn2, gn3, gn4, gn5, gp0, gno, gpo] <;> first | rfl | assumption | exact gp0 _ _ _ | exact gn0 _ _)) (by first | rfl | assumption)) ?_
    refine OkO.builtin rfl rfl rfl (bln (by kernel_rfl) (by first | assumption | rfl)) ?_
    refine OkO.move rfl rfl ?_
    refine OkO.nil ?_
    refine Ok.block ?_
    obtain ⟨G1, hG1⟩ : ∃ G1, G1 = G := ⟨_, rfl⟩
    subst hG1
    obtain ⟨D1, hD3⟩ : ∃ D1, D1 = D := ⟨_, rfl⟩
    subst hD3
    refine Ok.loop (fun n8 s_ => ∃ (k : Nat) (rv : AV), n8 = cols.length - k ∧ k ≤ cols.length ∧ Grow W s_.H ∧ Mine G1.next s_.H rv 3 1 ((mvK mv k).map fun (c : Nat) => I (c : Int)) ∧ G1.next ≤ s_.H.next ∧ (∀ j, j < G1.next → s_.H.get j = G1.get j) ∧ Has 6 [(10, rv), (46, .slice (W.next + 1) 0 cols.length cols.length), (47, I (cols.length : Int)), (48, I (k : Int))] s_.T ∧ s_.D = D1) (cols.length) (by unfold loopFuel; omega)
      ⟨0, .nils, rfl, Nat.zero_le _, hg, Mine.nil _ _ _ _, Nat.le_refl _, fun _ _ => rfl, Has.of (by kernel_rfl), rfl⟩ ?_
    rintro n8 ⟨T, D2, G⟩ ⟨k, rv, hn2, hk, hg, hm, hgx2, hold, ⟨f, hT⟩, hD⟩
    dsimp only at *
    subst hT hD
    have hgn := hg.next
    have e1 : (G.get (W.next + 1)).bind AObj.cs = some (mv.map AV.bool) := by rw [hold _ (by omega), f1]; rfl
    refine Ok.seq ?_
    refine Ok.region ?_
    refine OkO.bin rfl rfl rfl (bin_lss _ _) ?_
    refine OkO.nil ?_
    refine Ok.seq ?_
    refine Ok.cond rfl (fun h2 => ?_) (fun h2 => ?_)
    · -- yes h2
      have hkl : k < cols.length := by simpa using h2
      have hmvl := hmv.1
      have hval : (mv.map AV.bool)[0 + k * 1]? = some (.bool (mv.getD k false)) := by rw [Nat.zero_add, Nat.mul_one, List.getElem?_map, List.getElem?_eq_getElem (by omega)]; simp [show k < mv.length by omega]
      refine Ok.skip ?_
      refine Ok.seq ?_
      refine Ok.block ?_
      refine Ok.seq ?_
      refine Ok.region ?_
      refine OkO.move rfl rfl ?_
      refine OkO.index (sz := 1) (n := k) rfl rfl rfl (by kernel_rfl) (by first | assumption | rfl | exact slAt_slice (by omega) | exact slAt_opn (by omega)) ?_ -- index ('Go.Operand.tmp', 46) ('Go.Operand.tmp', 48)
      refine OkO.load rfl rfl (lda (n := 1) (by kernel_rfl) (by first | assumption | (simp (disch := first | omega | (simp only [hNw, hPt]; omega)) only [gn0, gn1, gn2, gn3, gn4, gn5, gp0, gno, gpo] <;> first | rfl | assumption | exact gp0 _ _ _ | exact gn0 _ _)) (by first | rfl | assumption)) ?_
      refine OkO.assign rfl rfl ?_
      refine OkO.assign rfl rfl ?_
      refine OkO.nil ?_
      refine Ok.seq ?_
      refine Ok.region ?_
      refine OkO.move rfl rfl ?_
      refine OkO.nil ?_
      refine Ok.cond rfl (fun h3 => ?_) (fun h3 => ?_)
      · -- yes h3
        have hbt : mv.getD k false = true := h3
        refine Ok.region ?_
        refine OkO.move rfl rfl ?_
        refine OkO.move rfl rfl ?_
        refine OkO.buildSlice (el := 3) (sz := 1) (z := [.int .i64 0]) rfl (by kernel_rfl) (by decide) rfl rfl ?_
        refine OkO.builtinE rfl rfl rfl (Mine.app2 (W := W) (k0 := G1.next) (sz := 1) (by_ := 8) (e := 3) (n := 1) (new := [I (k : Int)]) (hm.to (by (try dsimp only); repeat (first | exact Ext.refl _ | assumption | apply Ext.new | (refine Ext.put ?_ _ (by first | omega | (simp only [hNw, hPt]; omega)))))) (by (try dsimp only); repeat (first | exact hg | exact hG | apply Grow.new | (refine Grow.put ?_ _ (by first | omega | (simp only [hNw, hPt]; omega))))) (by omega) (by first | omega | (simp only [hNw, hPt]; omega)) (by kernel_rfl) (by kernel_rfl) (elems_new (n := 1) (sz := 1) rfl) rfl rfl (by rw [List.length_map]; have := mvK_len mv k; omega) (by omega) (by omega) rfl) ?_
        rintro v2 G2 ⟨q1, q2, q4, q5, q6, q7⟩
        simp only [hNw, hPt] at q6
        refine OkO.assign rfl rfl ?_
        refine OkO.nil ?_
        refine Ok.region ?_
        refine OkO.bin rfl rfl rfl (bin_add (by omega) (by omega)) ?_
        refine OkO.move rfl rfl ?_
        refine OkO.nil ?_
        first | exact ⟨cols.length - (k + 1), by omega, k + 1, v2, rfl, by omega, q2, by rw [mvK_yes hbt]; exact q1, (by (try dsimp only); omega), (fun j hj => by rw [q4.get _ hj (by simp only [hNw]; omega), gno _ _ _ (by omega)]; exact hold j hj), Has.of (by kernel_rfl), rfl⟩ | exact ⟨cols.length - (k + 1), by omega, k + 1, rv, rfl, by omega, hg, by rw [mvK_no hbt]; exact hm, hgx2, hold, Has.of (by kernel_rfl), rfl⟩
      · -- no h3
        have hbt : mv.getD k false = false := h3
        refine Ok.skip ?_
        refine Ok.region ?_
        refine OkO.bin rfl rfl rfl (bin_add (by omega) (by omega)) ?_
        refine OkO.move rfl rfl ?_
        refine OkO.nil ?_
        first | exact ⟨cols.length - (k + 1), by omega, k + 1, v2, rfl, by omega, q2, by rw [mvK_yes hbt]; exact q1, (by (try dsimp only); omega), (fun j hj => by rw [q4.get _ hj (by simp only [hNw]; omega), gno _ _ _ (by omega)]; exact hold j hj), Has.of (by kernel_rfl), rfl⟩ | exact ⟨cols.length - (k + 1), by omega, k + 1, rv, rfl, by omega, hg, by rw [mvK_no hbt]; exact hm, hgx2, hold, Has.of (by kernel_rfl), rfl⟩
    · -- no h2
      have hkn : k = cols.length := by (have : ¬ k < cols.length := by simpa using h2); omega
      refine Ok.exit ?_
      refine Ok.seq ?_
      refine Ok.region ?_
      refine OkO.move rfl rfl ?_
      refine OkO.assign rfl rfl ?_
      refine OkO.nil ?_
      refine Ok.ret ⟨.inr rfl, ?_⟩
      refine back_marksA (ds := _) hD1 (fun d hd => ?_) (fun G9 hG9 => resV_tmp rfl resV_nil) rfl (by rw [← hW]; exact hg) (fun d hd => by have := (hD2 d hd).1; omega) (fun H9 p1 p2 => ⟨mvK mv cols.length, p1, ?_, fun col => ?_, mvK_sort _ _⟩)
      · obtain ⟨d1, d2, d3⟩ := hD2 d hd
        rw [hold d d2]; exact d3
      · rw [hkn] at hm
        rcases hm with h9 | ⟨b9, m9, a1, a2, a3, a4, a5⟩
        · exact .inl h9
        · rcases p2 with ⟨_, hf⟩ | ⟨p2, p3⟩
          · simp only [resOf] at hf; rw [a1] at hf; cases hf
          · exact .inr ⟨b9, m9, by simp only [resOf]; exact a1, by rw [p2 b9 (fun h9 => by have := (hD2 _ h9).2.1; omega)]; exact a2, a3, by omega, by rw [p3]; exact a5⟩
      · rw [mvK_mem]
        constructor
        · rintro ⟨h9, h8⟩
          exact ⟨h9, (hit_all hls.1).1 (by rw [hil] at hmv; exact (hmv.2 col h9).1 h8)⟩
        · rintro ⟨h9, h8⟩
          exact ⟨h9, by rw [hil] at hmv; exact (hmv.2 col h9).2 ((hit_all hls.1).2 h8)⟩
end
end Go.Ev

set_option maxRecDepth 100000
set_option linter.unusedSimpArgs false
set_option linter.unusedVariables false
namespace Go.Ev
open Go Go.Proofs
noncomputable section
def costS (fa : Int) (b : Bed) : Int := 1000 * strong b - fa * b.dr
def prS (cols : List (List Bed)) (fa : Int) (c k : Nat) : Int := costS fa (bedAt cols c k)
def facS (cols : List (List Bed)) (fr : Nat) (us : List Nat) : Int := factorOf (sumB strong (bedsW cols fr us)) (drive (bedsW cols fr us))
theorem c71s (m : Nat) (cv : AV) (cols : List (List Bed)) (least fa : Int) (c k : Nat) (col : List Bed) (bed : Bed) (H : Heap) (hM : Mat H cv cols) (hp1 : cols[c]? = some col) (hp2 : col[k]? = some bed) (hok : bed.ok = true) (hc9 : c ≤ 1000) (hk9 : k ≤ 1000) (hfa : 0 ≤ fa ∧ fa ≤ 10000) : RR (m + 4) (.fn 71 [.agg [cv, I least, I fa, .fn 67 [] []], .agg [I (c : Int), I (k : Int)]]) H = some (I (costS fa bed), H) := by
  refine (R_fn _ _ _ _ _).trans ?_
  refine fn_ok Try.func71 rfl rfl (by kernel_rfl) (by kernel_rfl) ?_
  obtain ⟨W, hW⟩ : ∃ W : Heap, W = ⟨H.t, H.next, H.next⟩ := ⟨_, rfl⟩
  have hg : ∀ n, W.get n = H.get n := fun n => by rw [hW]; rfl
  have hN : W.next = H.next := by rw [hW]
  have hE : ∀ G, Grow W G → Ext H G := fun G g => ⟨by rw [← hN]; exact g.next, fun n k => by rw [g.get n (by rw [hN]; exact k), hg]⟩
  have hG : Grow W W := Grow.refl (by rw [hW]; exact Nat.le_refl _)
  rw [← hW]
  obtain ⟨vs, hR, hvl, hv⟩ := hM
  have hlen : lenOf cv = some vs.length := by simpa using hR.len
  have pc : cv.plain = true := lpl hR.len
  have hcl : c < vs.length := by rw [hvl]; exact (List.getElem?_eq_some_iff.1 hp1).1
  have hbl : k < col.length := (List.getElem?_eq_some_iff.1 hp2).1
  have hlim := Bed.ok_lim hok
  have hwb := strong_bd hok
  have hmb := mul_bd hfa ⟨hlim.1.1, hlim.1.2⟩
  have hwd : strong bed = holds bed.no bed.fh bed.ch bed.wl := rfl
  unfold Bed.lim at hlim
  obtain ⟨cb, co, ccs, j1, j20, j3, j4⟩ := hR.at_ c [vs[c]] (by simp [hcl])
  have j5 := seg_one j3
  have hcol := hv c vs[c] col (by simp [hcl]) hp1
  have hlcol : lenOf vs[c] = some col.length := by simpa using hcol.len
  obtain ⟨bb, bo, bcs, k1, k20, k3, k4⟩ := hcol.at_ k bed.c (by rw [List.getElem?_map, hp2]; rfl)
  have j2 : (W.get cb).bind AObj.cs = some ccs := by rw [hg]; exact j20
  have k2 : (W.get bb).bind AObj.cs = some bcs := by rw [hg]; exact k20
  have k5 : bcs[bo + 0]? = some (I bed.dr) := seg_get k3 0 (by omega)
  have hne : bb ≠ W.next + 2 := by omega
  refine Ok.seq ?_
  refine Ok.region ?_
  refine OkO.box rfl rfl ?_
  refine OkO.box rfl rfl ?_
  refine OkO.assign rfl rfl ?_
  refine OkO.nil ?_
  refine Ok.seq ?_
  refine Ok.drawn [(0, true, []), (1, true, []), (2, true, []), (3, true, []), (4, true, []), (5, true, []), (6, true, []), (7, true, []), (8, true, []), (9, true, []), (10, true, []), (11, true, [10, 8, 6, 4, 2]), (12, false, [])] (by kernel_rfl) ?_
  refine OkP.step ?_
  refine OkO.fieldAddr (o := 0) rfl (by kernel_rfl) rfl ?_
  refine OkO.nil ⟨rfl, ?_⟩
  refine OkP.step ?_
  refine OkO.fieldAddr (o := 0) rfl (by kernel_rfl) rfl ?_
  refine OkO.nil ⟨rfl, ?_⟩
  refine OkP.step ?_
  refine OkO.load rfl rfl (lda (n := 1) (by kernel_rfl) (by first | assumption | (simp (disch := first | omega | (simp only [hNw, hPt]; omega)) only [gn0, gn1, gn2, gn3, gn4, gn5, gp0, gno, gpo] <;> first | rfl | assumption | exact gp0 _ _ _ | exact gn0 _ _)) (by first | rfl | assumption)) ?_
  refine OkO.nil ⟨rfl, ?_⟩
  refine OkP.step ?_
  refine OkO.fieldAddr (o := 0) rfl (by kernel_rfl) rfl ?_
  refine OkO.nil ⟨rfl, ?_⟩
  refine OkP.step ?_
  refine OkO.load rfl rfl (lda (n := 1) (by kernel_rfl) (by first | assumption | (simp (disch := first | omega | (simp only [hNw, hPt]; omega)) only [gn0, gn1, gn2, gn3, gn4, gn5, gp0, gno, gpo] <;> first | rfl | assumption | exact gp0 _ _ _ | exact gn0 _ _)) (by first | rfl | assumption)) ?_
  refine OkO.nil ⟨rfl, ?_⟩
  refine OkP.step ?_
  refine OkO.index (sz := 1) (n := c) rfl rfl rfl (by kernel_rfl) (by first | assumption | rfl | exact slAt_slice (by omega) | exact slAt_opn (by omega)) ?_ -- index ('Go.Operand.tmp', 8) ('Go.Operand.tmp', 10)
  refine OkO.nil ⟨rfl, ?_⟩
  refine OkP.step ?_
  refine OkO.load rfl rfl (lda (n := 1) (by kernel_rfl) (by first | assumption | (simp (disch := first | omega | (simp only [hNw, hPt]; omega)) only [gn0, gn1, gn2, gn3, gn4, gn5, gp0, gno, gpo] <;> first | rfl | assumption | exact gp0 _ _ _ | exact gn0 _ _)) (by first | rfl | assumption)) ?_
  refine OkO.nil ⟨rfl, ?_⟩
  refine OkP.step ?_
  refine OkO.fieldAddr (o := 1) rfl (by kernel_rfl) rfl ?_
  refine OkO.nil ⟨rfl, ?_⟩
  refine OkP.step ?_
  refine OkO.load rfl rfl (lda (n := 1) (by kernel_rfl) (by first | assumption | (simp (disch := first | omega | (simp only [hNw, hPt]; omega)) only [gn0, gn1, gn2, gn3, gn4, gn5, gp0, gno, gpo] <;> first | rfl | assumption | exact gp0 _ _ _ | exact gn0 _ _)) (by first | rfl | assumption)) ?_
  refine OkO.nil ⟨rfl, ?_⟩
  refine OkP.step ?_
  refine OkO.index (sz := 8) (n := k) rfl rfl rfl (by kernel_rfl) (by first | assumption | rfl | exact slAt_slice (by omega) | exact slAt_opn (by omega)) ?_ -- index ('Go.Operand.tmp', 12) ('Go.Operand.tmp', 14)
  refine OkO.nil ⟨rfl, ?_⟩
  refine OkP.step ?_
  refine OkO.load rfl rfl (ldg (n := 8) (by kernel_rfl) (by first | assumption | (simp (disch := first | omega | (simp only [hNw, hPt]; omega)) only [gn0, gn1, gn2, gn3, gn4, gn5, gp0, gno, gpo] <;> first | rfl | assumption | exact gp0 _ _ _ | exact gn0 _ _)) (by first | rfl | assumption)) ?_
  refine OkO.nil ⟨rfl, ?_⟩
  refine OkP.step ?_
  refine OkO.alloc (z := [.int .i64 0, .int .i64 0, .int .i64 0, .int .i64 0, .int .i64 0, .int .i64 0, .int .i64 0, .int .i64 0]) rfl (by kernel_rfl) ?_
  refine OkO.nil ⟨(sco (sld rfl rfl (ldg (n := 8) (by kernel_rfl) (by first | assumption | (simp (disch := first | omega | (simp only [hNw, hPt]; omega)) only [gn0, gn1, gn2, gn3, gn4, gn5, gp0, gno, gpo] <;> first | rfl | assumption | exact gp0 _ _ _ | exact gn0 _ _)) (by first | rfl | assumption)) rfl (eqr _ (by first | rfl | exact lpl (by assumption) | (simp [AV.plain, AV.plains, AV.cells, AV.plain])))) (sco (sld rfl rfl (lda (n := 1) (by kernel_rfl) (by first | assumption | (simp (disch := first | omega | (simp only [hNw, hPt]; omega)) only [gn0, gn1, gn2, gn3, gn4, gn5, gp0, gno, gpo] <;> first | rfl | assumption | exact gp0 _ _ _ | exact gn0 _ _)) (by first | rfl | assumption)) rfl (eqr _ (by first | rfl | exact lpl (by assumption) | (simp [AV.plain, AV.plains, AV.cells, AV.plain])))) (sco (sld rfl rfl (lda (n := 1) (by kernel_rfl) (by first | assumption | (simp (disch := first | omega | (simp only [hNw, hPt]; omega)) only [gn0, gn1, gn2, gn3, gn4, gn5, gp0, gno, gpo] <;> first | rfl | assumption | exact gp0 _ _ _ | exact gn0 _ _)) (by first | rfl | assumption)) rfl (eqr _ (by first | rfl | exact lpl (by assumption) | (simp [AV.plain, AV.plains, AV.cells, AV.plain])))) (sco (sld rfl rfl (lda (n := 1) (by kernel_rfl) (by first | assumption | (simp (disch := first | omega | (simp only [hNw, hPt]; omega)) only [gn0, gn1, gn2, gn3, gn4, gn5, gp0, gno, gpo] <;> first | rfl | assumption | exact gp0 _ _ _ | exact gn0 _ _)) (by first | rfl | assumption)) rfl (eqr _ (by first | rfl | exact lpl (by assumption) | (simp [AV.plain, AV.plains, AV.cells, AV.plain])))) (sco (sld rfl rfl (lda (n := 1) (by kernel_rfl) (by first | assumption | (simp (disch := first | omega | (simp only [hNw, hPt]; omega)) only [gn0, gn1, gn2, gn3, gn4, gn5, gp0, gno, gpo] <;> first | rfl | assumption | exact gp0 _ _ _ | exact gn0 _ _)) (by first | rfl | assumption)) rfl (eqr _ (by first | rfl | exact lpl (by assumption) | (simp [AV.plain, AV.plains, AV.cells, AV.plain])))) rfl))))), ?_⟩
  refine OkP.step ?_
  refine OkO.store rfl rfl rfl (stc (n := 8) (ag := true) (by kernel_rfl) (by first | assumption | (simp (disch := first | omega | (simp only [hNw, hPt]; omega)) only [gn0, gn1, gn2, gn3, gn4, gn5, gp0, gno, gpo] <;> first | rfl | assumption | exact gp0 _ _ _ | exact gn0 _ _)) rfl (by first | rfl | assumption) (by first | rfl | exact spl_set _ _ _ (by first | assumption | omega | (simp; omega)))) ?_
  refine OkO.nil ⟨rfl, ?_⟩
  refine OkP.nil ?_
  refine Ok.seq ?_
  refine Ok.drawn [(0, true, []), (1, true, []), (2, true, []), (3, true, []), (7, true, []), (8, true, []), (9, true, []), (10, true, []), (11, true, []), (4, false, [10, 8, 0]), (5, false, [10, 8, 3, 2]), (6, true, []), (12, true, []), (13, true, [])] (by kernel_rfl) ?_
  refine OkP.step ?_
  refine OkO.load rfl rfl (ldg (n := 8) (by kernel_rfl) (by first | assumption | (simp (disch := first | omega | (simp only [hNw, hPt]; omega)) only [gn0, gn1, gn2, gn3, gn4, gn5, gp0, gno, gpo] <;> first | rfl | assumption | exact gp0 _ _ _ | exact gn0 _ _)) (by first | rfl | assumption)) ?_
  refine OkO.nil ⟨rfl, ?_⟩
  refine OkP.step ?_
  refine OkO.fieldAddr (o := 3) rfl (by kernel_rfl) rfl ?_
  refine OkO.nil ⟨rfl, ?_⟩
  refine OkP.step ?_
  refine OkO.load rfl rfl (lda (n := 1) (by kernel_rfl) (by first | assumption | (simp (disch := first | omega | (simp only [hNw, hPt]; omega)) only [gn0, gn1, gn2, gn3, gn4, gn5, gp0, gno, gpo] <;> first | rfl | assumption | exact gp0 _ _ _ | exact gn0 _ _)) (by first | rfl | assumption)) ?_
  refine OkO.nil ⟨rfl, ?_⟩
  refine OkP.step ?_
  refine OkO.load rfl rfl (ldg (n := 8) (by kernel_rfl) (by first | assumption | (simp (disch := first | omega | (simp only [hNw, hPt]; omega)) only [gn0, gn1, gn2, gn3, gn4, gn5, gp0, gno, gpo] <;> first | rfl | assumption | exact gp0 _ _ _ | exact gn0 _ _)) (by first | rfl | assumption)) ?_
  refine OkO.nil ⟨rfl, ?_⟩
  refine OkP.step ?_
  refine OkO.fieldAddr (o := 2) rfl (by kernel_rfl) rfl ?_
  refine OkO.nil ⟨rfl, ?_⟩
  refine OkP.step ?_
  refine OkO.load rfl rfl (lda (n := 1) (by kernel_rfl) (by first | assumption | (simp (disch := first | omega | (simp only [hNw, hPt]; omega)) only [gn0, gn1, gn2, gn3, gn4, gn5, gp0, gno, gpo] <;> first | rfl | assumption | exact gp0 _ _ _ | exact gn0 _ _)) (by first | rfl | assumption)) ?_
  refine OkO.nil ⟨rfl, ?_⟩
  refine OkP.step ?_
  refine OkO.fieldAddr (o := 0) rfl (by kernel_rfl) rfl ?_
  refine OkO.nil ⟨rfl, ?_⟩
  refine OkP.step ?_
  refine OkO.load rfl rfl (lda (n := 1) (by kernel_rfl) (by first | assumption | (simp (disch := first | omega | (simp only [hNw, hPt]; omega)) only [gn0, gn1, gn2, gn3, gn4, gn5, gp0, gno, gpo] <;> first | rfl | assumption | exact gp0 _ _ _ | exact gn0 _ _)) (by first | rfl | assumption)) ?_
  refine OkO.nil ⟨rfl, ?_⟩
  refine OkP.step ?_
  refine OkO.bin rfl rfl rfl (bin_mul (by omega) (by omega)) ?_
  refine OkO.nil ⟨rfl, ?_⟩
  refine OkP.step ?_
  refine OkO.callV rfl rfl rfl rfl rfl (c67 m bed _) ?_
  refine OkO.nil ⟨(sco (sld rfl rfl (lda (n := 1) (by kernel_rfl) (by first | assumption | (simp (disch := first | omega | (simp only [hNw, hPt]; omega)) only [gn0, gn1, gn2, gn3, gn4, gn5, gp0, gno, gpo] <;> first | rfl | assumption | exact gp0 _ _ _ | exact gn0 _ _)) (by first | rfl | assumption)) rfl (eqr _ (by first | rfl | exact lpl (by assumption) | (simp [AV.plain, AV.plains, AV.cells, AV.plain])))) (sco (sld rfl rfl (lda (n := 1) (by kernel_rfl) (by first | assumption | (simp (disch := first | omega | (simp only [hNw, hPt]; omega)) only [gn0, gn1, gn2, gn3, gn4, gn5, gp0, gno, gpo] <;> first | rfl | assumption | exact gp0 _ _ _ | exact gn0 _ _)) (by first | rfl | assumption)) rfl (eqr _ (by first | rfl | exact lpl (by assumption) | (simp [AV.plain, AV.plains, AV.cells, AV.plain])))) (sco (sld rfl rfl (ldg (n := 8) (by kernel_rfl) (by first | assumption | (simp (disch := first | omega | (simp only [hNw, hPt]; omega)) only [gn0, gn1, gn2, gn3, gn4, gn5, gp0, gno, gpo] <;> first | rfl | assumption | exact gp0 _ _ _ | exact gn0 _ _)) (by first | rfl | assumption)) rfl (eqr _ (by first | rfl | exact lpl (by assumption) | (simp [AV.plain, AV.plains, AV.cells, AV.plain])))) rfl))), ?_⟩
  refine OkP.step ?_
  refine OkO.callV rfl rfl rfl rfl rfl (c62 (m + 2) bed bed.fh bed.ch bed.wl _ (by omega) (by omega) (by omega) (by omega)) ?_ -- "(sackung/slope.Bed).holds"
  refine OkO.nil ⟨(sco (sld rfl rfl (lda (n := 1) (by kernel_rfl) (by first | assumption | (simp (disch := first | omega | (simp only [hNw, hPt]; omega)) only [gn0, gn1, gn2, gn3, gn4, gn5, gp0, gno, gpo] <;> first | rfl | assumption | exact gp0 _ _ _ | exact gn0 _ _)) (by first | rfl | assumption)) rfl (eqr _ (by first | rfl | exact lpl (by assumption) | (simp [AV.plain, AV.plains, AV.cells, AV.plain])))) (sco (sld rfl rfl (lda (n := 1) (by kernel_rfl) (by first | assumption | (simp (disch := first | omega | (simp only [hNw, hPt]; omega)) only [gn0, gn1, gn2, gn3, gn4, gn5, gp0, gno, gpo] <;> first | rfl | assumption | exact gp0 _ _ _ | exact gn0 _ _)) (by first | rfl | assumption)) rfl (eqr _ (by first | rfl | exact lpl (by assumption) | (simp [AV.plain, AV.plains, AV.cells, AV.plain])))) (sco (sld rfl rfl (ldg (n := 8) (by kernel_rfl) (by first | assumption | (simp (disch := first | omega | (simp only [hNw, hPt]; omega)) only [gn0, gn1, gn2, gn3, gn4, gn5, gp0, gno, gpo] <;> first | rfl | assumption | exact gp0 _ _ _ | exact gn0 _ _)) (by first | rfl | assumption)) rfl (eqr _ (by first | rfl | exact lpl (by assumption) | (simp [AV.plain, AV.plains, AV.cells, AV.plain])))) (sco (sld rfl rfl (lda (n := 1) (by kernel_rfl) (by first | assumption | (simp (disch := first | omega | (simp only [hNw, hPt]; omega)) only [gn0, gn1, gn2, gn3, gn4, gn5, gp0, gno, gpo] <;> first | rfl | assumption | exact gp0 _ _ _ | exact gn0 _ _)) (by first | rfl | assumption)) rfl (eqr _ (by first | rfl | exact lpl (by assumption) | (simp [AV.plain, AV.plains, AV.cells, AV.plain])))) rfl)))), ?_⟩
  refine OkP.step ?_
  refine OkO.bin rfl rfl rfl (bin_mul (by omega) (by omega)) ?_
  refine OkO.nil ⟨rfl, ?_⟩
  refine OkP.step ?_
  refine OkO.bin rfl rfl rfl (bin_sub (by omega) (by omega)) ?_
  refine OkO.nil ⟨rfl, ?_⟩
  refine OkP.step ?_
  refine OkO.assign rfl rfl ?_
  refine OkO.nil ⟨rfl, ?_⟩
  refine OkP.nil ?_
  refine Ok.ret ⟨.inr rfl, ?_⟩
  exact back_flat rfl (congrArg (AV.int .i64) (by unfold costS; rw [hwd])) rfl (by rw [← hW]; exact (by (try dsimp only); repeat (first | exact hG | apply Grow.new | (refine Grow.put ?_ _ (by first | omega | (simp only [hNw, hPt]; omega))))))
theorem prS_bd {cols : List (List Bed)} (h : BedsOk cols) {fa : Int} (hf : 0 ≤ fa ∧ fa ≤ 10000) : PrB (prS cols fa) := fun c k => by
  have hb := bedAt_ok h c k
  have h1 := strong_bd hb
  have h2 := Bed.ok_lim hb
  unfold Bed.lim at h2
  have h3 := mul_bd hf ⟨h2.1.1, h2.1.2⟩
  unfold prS costS
  omega
theorem callP_strong (m : Nat) (cv : AV) (cols : List (List Bed)) (least fa : Int) (n : Nat) (H : Heap) (hM : Mat H cv cols) (hcl : ∀ c ∈ cols, c.length = n) (hok : BedsOk cols) (hN9 : cols.length ≤ 100) (hn9 : n ≤ 1000) (hf : 0 ≤ fa ∧ fa ≤ 10000) :
    CallP (m + 4) (.fn 71 [.agg [cv, I least, I fa, .fn 67 [] []]] []) H cols.length n (prS cols fa) := fun c k hc hk => by
  obtain ⟨col, h1, h2⟩ := bedAt_get hcl hc hk
  exact ⟨71, _, rfl, fun G hG => c71s m cv cols least fa c k col _ G (hM.ext hG) h1 h2 (bedAt_ok hok c k) (by omega) (by omega) hf⟩
theorem walkS (cols : List (List Bed)) (fa : Int) : ∀ (us : List Nat) (c : Nat), walkSum (prS cols fa) c us = 1000 * sumB strong (bedsW cols c us) - fa * drive (bedsW cols c us)
  | [], _ => by simp [walkSum, bedsW, sumB, drive]
  | k :: l, c => by
    rw [walkSum, walkS cols fa l (c + 1), bedsW]
    simp only [prS, costS, sumB, drive, List.map_cons, List.sum_cons, Int.mul_add]
    omega
theorem held_ns {cols : List (List Bed)} (h : BedsOk cols) (fr : Nat) (us : List Nat) : 0 ≤ sumB strong (bedsW cols fr us) := (sumB_bd strong _ fun b hb => strong_bd (bedsW_ok h us fr b hb)).1
theorem belowS_iff {cols : List (List Bed)} (h : BedsOk cols) {fa : Int} (hf : 0 ≤ fa ∧ fa ≤ 10000) (fr : Nat) (us : List Nat) : walkSum (prS cols fa) fr us < 0 ↔ 1 ≤ drive (bedsW cols fr us) ∧ facS cols fr us < fa := by
  rw [walkS]
  exact below_fac (held_ns h fr us) hf
theorem weak_strong {b : Bed} (hb : b.ok = true) : weak b ≤ strong b := by
  have hl := Bed.ok_lim hb
  unfold Bed.lim at hl
  unfold weak strong
  exact holds_mono (by omega) (by omega) (by omega)
theorem sum_ws : ∀ (L : List Bed), (∀ b ∈ L, b.ok = true) → sumB weak L ≤ sumB strong L
  | [], _ => Int.le_refl _
  | b :: L, h => by
    have h1 := sum_ws L fun x hx => h x (by simp [hx])
    have h2 := weak_strong (h b (by simp))
    unfold sumB at h1 ⊢
    simp only [List.map_cons, List.sum_cons]
    omega
theorem hit_weak {cols : List (List Bed)} {fa least : Int} {n col : Nat} (hok : BedsOk cols) (h : HitS (prS cols fa) cols.length n least col) : HitS (prC cols fa) cols.length n least col := by
  obtain ⟨fr, us, hs, hw, h1, h2⟩ := h
  refine ⟨fr, us, hs, ?_, h1, h2⟩
  have h3 := sum_ws _ fun b hb => bedsW_ok hok us fr b hb
  rw [walkS] at hw
  rw [walkC]
  omega
theorem Mine.low {k0 k1 : Nat} {G : Heap} {v : AV} {e : TypeId} {sz : Nat} {cs : List AV} (h : Mine k1 G v e sz cs) (hk : k0 ≤ k1) : Mine k0 G v e sz cs := by
  rcases h with h | ⟨b, n, a1, a2, a3, a4, a5⟩
  · exact .inl h
  · exact .inr ⟨b, n, a1, a2, a3, by omega, a5⟩
theorem flat3 {a b c : AV} (h : (AV.tup [a, b, c]).flat = true) : a.flat = true ∧ b.flat = true := by
  have h1 : AV.flats [a, b, c] = true := h
  unfold AV.flats at h1
  cases ha : a.flat with
  | false => rw [ha] at h1; cases h1
  | true =>
    rw [ha] at h1
    have h2 : AV.flats [b, c] = true := h1
    unfold AV.flats at h2
    cases hb : b.flat with
    | false => rw [hb] at h2; cases h2
    | true => exact ⟨rfl, rfl⟩
theorem Mine.backT {H G H' : Heap} {v V : AV} {e : TypeId} {sz : Nat} {cs : List AV} (hm : Mine H.next G v e sz cs) (r : (H' = H ∧ V.flat = true) ∨ ((∀ n, H'.get n = G.get n) ∧ H'.next = G.next)) (hv : V.flat = true → v.flat = true) : Mine H.next H' v e sz cs := by
  rcases hm with h | ⟨b, n, a1, a2, a3, a4, a5⟩
  · exact .inl h
  · rcases r with ⟨_, hf⟩ | ⟨p2, p3⟩
    · have := hv hf
      rw [a1] at this
      cases this
    · exact .inr ⟨b, n, a1, by rw [p2 b]; exact a2, a3, a4, by rw [p3]; exact a5⟩
/-- The columns that a factor's walk meets. -/
def MovesAt (pr : Nat → Nat → Int) (N n : Nat) (least : Int) (rs : List Nat) : Prop := (∀ col, col ∈ rs ↔ col < N ∧ HitS pr N n least col) ∧ rs.Pairwise (· < ·)
theorem MovesAt.sub {cols : List (List Bed)} {fa least : Int} {n : Nat} {aa bb : List Nat} (hok : BedsOk cols) (ha : MovesAt (prS cols fa) cols.length n least aa) (hb : MovesAt (prC cols fa) cols.length n least bb) {x : Nat} (h : x ∈ aa) : x ∈ bb :=
  (hb.1 x).2 ⟨((ha.1 x).1 h).1, hit_weak hok ((ha.1 x).1 h).2⟩
theorem MovesAt.nil_iff {pr : Nat → Nat → Int} {N n : Nat} {least : Int} {rs : List Nat} (h : MovesAt pr N n least rs) : rs = [] ↔ belowB N n least pr = false := by
  rw [belowB_false]
  constructor
  · intro h0 fr us hs
    by_cases hw : 0 ≤ walkSum pr fr us
    · exact hw
    · exfalso
      have : fr ∈ rs := (h.1 fr).2 ⟨by have := hs.2.2.2; have := List.length_pos_iff.2 hs.2.1; omega, fr, us, hs, by omega, Nat.le_refl _, by have := List.length_pos_iff.2 hs.2.1; omega⟩
      rw [h0] at this
      cases this
  · intro h0
    rw [List.eq_nil_iff_forall_not_mem]
    intro x hx
    obtain ⟨_, fr, us, hs, hw, _⟩ := (h.1 x).1 hx
    have := h0 fr us hs
    omega
theorem sort_len {N : Nat} : ∀ (rs : List Nat) (lo : Nat), rs.Pairwise (· < ·) → (∀ x ∈ rs, lo ≤ x ∧ x < N) → rs.length ≤ N - lo
  | [], _, _, _ => Nat.zero_le _
  | a :: l, lo, h, hb => by
    have h1 := hb a (by simp)
    obtain ⟨h2, h3⟩ := List.pairwise_cons.1 h
    have := sort_len l (a + 1) h3 fun x hx => ⟨h2 x hx, (hb x (by simp [hx])).2⟩
    simp only [List.length_cons]
    omega
theorem MovesAt.len {pr : Nat → Nat → Int} {N n : Nat} {least : Int} {rs : List Nat} (h : MovesAt pr N n least rs) : rs.length ≤ N := by
  have := sort_len rs 0 h.2 (fun x hx => ⟨Nat.zero_le _, ((h.1 x).1 hx).1⟩)
  omega
theorem c56 (m : Nat) (uv : AV) (us : List Nat) (x : Nat) (H : Heap) (hU : Row H uv 1 (us.map fun (k : Nat) => [I (k : Int)])) (hl9 : us.length ≤ 1000) : RR (m + 1) (.fn 56 [uv, I (x : Int)]) H = some (.bool (decide (x ∈ us)), H) := by
  refine (R_fn _ _ _ _ _).trans ?_
  refine fn_ok Try.func56 rfl rfl (by kernel_rfl) (by kernel_rfl) ?_
  obtain ⟨W, hW⟩ : ∃ W : Heap, W = ⟨H.t, H.next, H.next⟩ := ⟨_, rfl⟩
  have hg : ∀ n, W.get n = H.get n := fun n => by rw [hW]; rfl
  have hN : W.next = H.next := by rw [hW]
  have hE : ∀ G, Grow W G → Ext H G := fun G g => ⟨by rw [← hN]; exact g.next, fun n k => by rw [g.get n (by rw [hN]; exact k), hg]⟩
  have hG : Grow W W := Grow.refl (by rw [hW]; exact Nat.le_refl _)
  rw [← hW]
  have hul : lenOf uv = some us.length := by simpa using hU.len
  have pu : uv.plain = true := lpl hul
  have hUW : Row W uv 1 (us.map fun (k : Nat) => [I (k : Int)]) := hU.ext ⟨by omega, fun j _ => hg j⟩
  refine Ok.seq ?_
  refine Ok.region ?_
  refine OkO.assign rfl rfl ?_
  refine OkO.nil ?_
  refine Ok.seq ?_
  refine Ok.seq ?_
  refine Ok.region ?_
  refine OkO.assign rfl rfl ?_
  refine OkO.nil ?_
  refine Ok.block ?_
  refine Ok.loop (fun n9 s_ => ∃ i : Nat, n9 = us.length - i ∧ i ≤ us.length ∧ (∀ j, j < i → us[j]? ≠ some x) ∧ Has 5 [(0, uv), (1, I (x : Int)), (5, I (i : Int))] s_.T ∧ s_.D = [] ∧ Grow W s_.H) (us.length) (by unfold loopFuel; omega)
    ⟨0, rfl, Nat.zero_le _, fun j h => by omega, Has.of (by kernel_rfl), rfl, hG⟩ ?_
  rintro n9 ⟨T, D, G⟩ ⟨i, hn9, hi, hno, ⟨f, hT⟩, hD, hg⟩
  dsimp only at *
  subst hT hD
  have hgn := hg.next
  refine Ok.seq ?_
  refine Ok.seq ?_
  refine Ok.region ?_
  refine OkO.move rfl rfl ?_
  refine OkO.move rfl rfl ?_
  refine OkO.builtin rfl rfl rfl (bln (by kernel_rfl) (by first | assumption | rfl)) ?_
  refine OkO.bin rfl rfl rfl (bin_lss _ _) ?_
  refine OkO.nil ?_
  refine Ok.cond rfl (fun h1 => ?_) (fun h1 => ?_)
  · -- yes h1
    have hil : i < us.length := by simpa using h1
    obtain ⟨y, hy⟩ : ∃ y, us[i]? = some y := ⟨_, List.getElem?_eq_getElem hil⟩
    obtain ⟨ub, uo, ucs, u1, u2, u3, u4⟩ := (hUW.grow hg).at_ i [I (y : Int)] (by rw [List.getElem?_map, hy]; rfl)
    have u5 := seg_one u3
    refine Ok.skip ?_
    refine Ok.seq ?_
    refine Ok.block ?_
    refine Ok.seq ?_
    refine Ok.region ?_
    refine OkO.move rfl rfl ?_
    refine OkO.move rfl rfl ?_
    refine OkO.index (sz := 1) (n := i) rfl rfl rfl (by kernel_rfl) (by first | assumption | rfl | exact slAt_slice (by omega) | exact slAt_opn (by omega)) ?_ -- index ('Go.Operand.tmp', 12) ('Go.Operand.tmp', 13)
    refine OkO.load rfl rfl (lda (n := 1) (by kernel_rfl) (by first | assumption | (simp (disch := first | omega | (simp only [hNw, hPt]; omega)) only [gn0, gn1, gn2, gn3, gn4, gn5, gp0, gno, gpo] <;> first | rfl | assumption | exact gp0 _ _ _ | exact gn0 _ _)) (by first | rfl | assumption)) ?_
    refine OkO.move rfl rfl ?_
    refine OkO.bin rfl rfl rfl (bin_eql _ _) ?_
    refine OkO.nil ?_
    refine Ok.cond rfl (fun h2 => ?_) (fun h2 => ?_)
    · -- yes h2
      have hyx : y = x := by (have : (y : Int) = (x : Int) := by simpa using h2); omega
      subst hyx
      refine Ok.seq ?_
      refine Ok.region ?_
      refine OkO.assign rfl rfl ?_
      refine OkO.nil ?_
      refine Ok.ret ⟨.inr rfl, ?_⟩
      exact back_flat rfl (congrArg AV.bool (by simpa using List.mem_of_getElem? hy)) rfl (by rw [← hW]; exact hg)
    · -- no h2
      have hyx : y ≠ x := by (have : ¬ (y : Int) = (x : Int) := by simpa using h2); omega
      have hne : us[i]? ≠ some x := by rw [hy]; simpa using hyx
      refine Ok.skip ?_
      refine Ok.region ?_
      refine OkO.move rfl rfl ?_
      refine OkO.bin rfl rfl rfl (bin_add (by omega) (by omega)) ?_
      refine OkO.assign rfl rfl ?_
      refine OkO.nil ?_
      exact ⟨us.length - (i + 1), by omega, i + 1, rfl, by omega, fun j hj => by (by_cases hji : j = i); (· subst hji; exact hne); (· exact hno j (by omega)), Has.of (by kernel_rfl), rfl, hg⟩
  · -- no h1
    have hil : i = us.length := by (have : ¬ i < us.length := by simpa using h1); omega
    refine Ok.exit ?_
    refine Ok.seq ?_
    refine Ok.region ?_
    refine OkO.assign rfl rfl ?_
    refine OkO.nil ?_
    refine Ok.ret ⟨.inr rfl, ?_⟩
    exact back_flat rfl (congrArg AV.bool (by (have hnm : ¬ x ∈ us := fun hm => by (obtain ⟨j, hj, hje⟩ := List.getElem_of_mem hm); exact hno j (by omega) (by rw [List.getElem?_eq_getElem hj, hje])); simp [hnm])) rfl (by rw [← hW]; exact hg)
theorem c45 (m : Nat) (cv : AV) (cols : List (List Bed)) (least fa : Int) (H : Heap) (hM : Mat H cv cols) (hv : slOk cols least = true) (hf : 0 ≤ fa ∧ fa ≤ 10000) : ∃ v H', RR (m + 209) (.fn 45 [.agg [cv, I least], I fa]) H = some (v, H') ∧ ∃ (aa bb : List Nat) (av bv : AV), v = .tup [av, bv, I 0] ∧ Ret H H' ∧ Mine H.next H' av 3 1 (aa.map fun (k : Nat) => I (k : Int)) ∧ Mine H.next H' bv 3 1 (bb.map fun (k : Nat) => I (k : Int)) ∧ MovesAt (prS cols fa) cols.length (cols.headD []).length least aa ∧ MovesAt (prC cols fa) cols.length (cols.headD []).length least bb := by
  show ∃ v H', evFn Try.prog (RR (m + 208)) 45 [.agg [cv, I least], I fa] H = some (v, H') ∧ ∃ (aa bb : List Nat) (av bv : AV), v = .tup [av, bv, I 0] ∧ Ret H H' ∧ Mine H.next H' av 3 1 (aa.map fun (k : Nat) => I (k : Int)) ∧ Mine H.next H' bv 3 1 (bb.map fun (k : Nat) => I (k : Int)) ∧ MovesAt (prS cols fa) cols.length (cols.headD []).length least aa ∧ MovesAt (prC cols fa) cols.length (cols.headD []).length least bb
  refine fn_okE Try.func45 rfl rfl (by kernel_rfl) (by kernel_rfl) ?_
  obtain ⟨W, hW⟩ : ∃ W : Heap, W = ⟨H.t, H.next, H.next⟩ := ⟨_, rfl⟩
  have hg : ∀ n, W.get n = H.get n := fun n => by rw [hW]; rfl
  have hN : W.next = H.next := by rw [hW]
  have hE : ∀ G, Grow W G → Ext H G := fun G g => ⟨by rw [← hN]; exact g.next, fun n k => by rw [g.get n (by rw [hN]; exact k), hg]⟩
  have hG : Grow W W := Grow.refl (by rw [hW]; exact Nat.le_refl _)
  rw [← hW]
  have hsf := slOk_facts hv
  have pc : cv.plain = true := by obtain ⟨vs, hR, _, _⟩ := hM; exact lpl hR.len
  refine Ok.seq ?_
  refine Ok.region ?_
  refine OkO.box rfl rfl ?_
  refine OkO.assign rfl rfl ?_
  refine OkO.assign rfl rfl ?_
  refine OkO.assign rfl rfl ?_
  refine OkO.nil ?_
  refine Ok.seq ?_
  refine Ok.seq ?_
  refine Ok.region ?_
  refine OkO.load rfl rfl (ldg (n := 2) (by kernel_rfl) (by first | assumption | (simp (disch := first | omega | (simp only [hNw, hPt]; omega)) only [gn0, gn1, gn2, gn3, gn4, gn5, gp0, gno, gpo] <;> first | rfl | assumption | exact gp0 _ _ _ | exact gn0 _ _)) (by first | rfl | assumption)) ?_
  refine OkO.move rfl rfl ?_
  refine OkO.callV rfl rfl rfl rfl rfl ((c76 (m + 199) cv cols least fa _ (hM.ext (hE _ (by (try dsimp only); repeat (first | exact hG | apply Grow.new | (refine Grow.put ?_ _ (by first | omega | (simp only [hNw, hPt]; omega)))))))).trans (by rw [if_pos hv, if_pos (show inB fa 0 10000 = true by simp [inB]; omega)])) ?_ -- "sackung/slope.checkFactor"
  refine OkO.assign rfl rfl ?_
  refine OkO.nil ?_
  refine Ok.seq ?_
  refine Ok.region ?_
  refine OkO.move rfl rfl ?_
  refine OkO.bin rfl rfl rfl (bin_neq _ _) ?_
  refine OkO.nil ?_
  refine Ok.cond rfl (fun h1 => ?_) (fun h1 => ?_)
  · -- yes h1
    exact absurd h1 (by simp)
  · -- no h1
    refine Ok.skip ?_
    refine Ok.seq ?_
    refine Ok.region ?_
    refine OkO.load rfl rfl (ldg (n := 2) (by kernel_rfl) (by first | assumption | (simp (disch := first | omega | (simp only [hNw, hPt]; omega)) only [gn0, gn1, gn2, gn3, gn4, gn5, gp0, gno, gpo] <;> first | rfl | assumption | exact gp0 _ _ _ | exact gn0 _ _)) (by first | rfl | assumption)) ?_
    refine OkO.load rfl rfl (ldg (n := 2) (by kernel_rfl) (by first | assumption | (simp (disch := first | omega | (simp only [hNw, hPt]; omega)) only [gn0, gn1, gn2, gn3, gn4, gn5, gp0, gno, gpo] <;> first | rfl | assumption | exact gp0 _ _ _ | exact gn0 _ _)) (by first | rfl | assumption)) ?_
    refine OkO.move rfl rfl ?_
    refine OkO.build (z := [.nils, .int .i64 0, .int .i64 0, .nilf]) (pl := [(0, 2), (2, 1), (3, 1)]) rfl (by kernel_rfl) rfl rfl ?_
    refine OkO.makeFunc rfl rfl rfl ?_
    refine OkO.callE rfl rfl rfl rfl rfl (c82 (m + 100) (cols.headD []).length cv _ cols least (prS cols fa) _ (hM.ext (hE _ (by (try dsimp only); repeat (first | exact hG | apply Grow.new | (refine Grow.put ?_ _ (by first | omega | (simp only [hNw, hPt]; omega))))))) (lens_of hv) (by omega) (by omega) (by omega) (prS_bd (bedsOk_of hv) hf) (callP_strong (m + 202) cv cols least fa (cols.headD []).length _ (hM.ext (hE _ (by (try dsimp only); repeat (first | exact hG | apply Grow.new | (refine Grow.put ?_ _ (by first | omega | (simp only [hNw, hPt]; omega))))))) (lens_of hv) (bedsOk_of hv) (by omega) (by omega) hf)) ?_ -- "(sackung/slope.Slope).below"
    rintro av Ha ⟨aa, qa, hma, as1, as2⟩
    have n1 := qa.ext.next
    try simp only [hNw, hPt] at n1
    have gg1 : Grow W Ha := Grow.ret (by (try dsimp only); repeat (first | exact hG | apply Grow.new | (refine Grow.put ?_ _ (by first | omega | (simp only [hNw, hPt]; omega))))) qa
    have a1 : (Ha.get (W.next)).bind AObj.cs = some [cv, I least] := by rw [qa.ext.get _ (by first | omega | (simp only [hNw, hPt]; omega))]; first | assumption | (rw [gn0]; rfl) | (rw [get_put_eq] <;> rfl) | (simp (disch := first | omega | (simp only [hNw, hPt]; omega)) only [gn0, gn1, gn2, gn3, gn4, gn5, gp0, gno, gpo] <;> first | rfl | assumption | (rw [get_put_eq] <;> rfl))
    have hma1 := hma.fr
    have oa := hma.one
    refine OkO.assign rfl rfl ?_
    refine OkO.nil ?_
    refine Ok.seq ?_
    refine Ok.region ?_
    refine OkO.load rfl rfl (ldg (n := 2) (by kernel_rfl) (by first | assumption | (simp (disch := first | omega | (simp only [hNw, hPt]; omega)) only [gn0, gn1, gn2, gn3, gn4, gn5, gp0, gno, gpo] <;> first | rfl | assumption | exact gp0 _ _ _ | exact gn0 _ _)) (by first | rfl | assumption)) ?_
    refine OkO.load rfl rfl (ldg (n := 2) (by kernel_rfl) (by first | assumption | (simp (disch := first | omega | (simp only [hNw, hPt]; omega)) only [gn0, gn1, gn2, gn3, gn4, gn5, gp0, gno, gpo] <;> first | rfl | assumption | exact gp0 _ _ _ | exact gn0 _ _)) (by first | rfl | assumption)) ?_
    refine OkO.move rfl rfl ?_
    refine OkO.build (z := [.nils, .int .i64 0, .int .i64 0, .nilf]) (pl := [(0, 2), (2, 1), (3, 1)]) rfl (by kernel_rfl) rfl rfl ?_
    refine OkO.makeFunc rfl rfl rfl ?_
    refine OkO.callE rfl rfl rfl rfl rfl (c82 (m + 100) (cols.headD []).length cv _ cols least (prC cols fa) _ (hM.ext (hE _ (by (try dsimp only); repeat (first | exact gg1 | apply Grow.new | (refine Grow.put ?_ _ (by first | omega | (simp only [hNw, hPt]; omega))))))) (lens_of hv) (by omega) (by omega) (by omega) (prC_bd (bedsOk_of hv) hf) (callP_cost (m + 202) cv cols least fa (cols.headD []).length _ (hM.ext (hE _ (by (try dsimp only); repeat (first | exact gg1 | apply Grow.new | (refine Grow.put ?_ _ (by first | omega | (simp only [hNw, hPt]; omega))))))) (lens_of hv) (bedsOk_of hv) (by omega) (by omega) hf)) ?_ -- "(sackung/slope.Slope).below"
    rintro bv Hb ⟨bb, qb, hmb, bs1, bs2⟩
    have n2 := qb.ext.next
    try simp only [hNw, hPt] at n2
    have gg2 : Grow W Hb := Grow.ret (by (try dsimp only); repeat (first | exact gg1 | apply Grow.new | (refine Grow.put ?_ _ (by first | omega | (simp only [hNw, hPt]; omega))))) qb
    have a2 : (Hb.get (W.next)).bind AObj.cs = some [cv, I least] := by rw [qb.ext.get _ (by first | omega | (simp only [hNw, hPt]; omega))]; first | assumption | (rw [gn0]; rfl) | (rw [get_put_eq] <;> rfl) | (simp (disch := first | omega | (simp only [hNw, hPt]; omega)) only [gn0, gn1, gn2, gn3, gn4, gn5, gp0, gno, gpo] <;> first | rfl | assumption | (rw [get_put_eq] <;> rfl))
    have ob := hmb.one
    refine OkO.assign rfl rfl ?_
    refine OkO.nil ?_
    refine Ok.seq ?_
    refine Ok.region ?_
    refine OkO.move rfl rfl ?_
    refine OkO.move rfl rfl ?_
    refine OkO.assign rfl rfl ?_
    refine OkO.assign rfl rfl ?_
    refine OkO.assign rfl rfl ?_
    refine OkO.nil ?_
    refine Ok.ret ⟨.inr rfl, ?_⟩
    refine back_newA rfl rfl (by rw [← hW]; exact (by (try dsimp only); repeat (first | exact gg2 | apply Grow.new | (refine Grow.put ?_ _ (by first | omega | (simp only [hNw, hPt]; omega)))))) (fun H9 p1 p2 => ⟨aa, bb, av, bv, rfl, p1, ?_, ?_, ⟨as1, as2⟩, ⟨bs1, bs2⟩⟩)
    · exact ((hma.to qb.ext).low (by simp only [hNw]; omega)).backT p2 (fun h9 => (flat3 h9).1)
    · exact (hmb.low (by omega)).backT p2 (fun h9 => (flat3 h9).2)
end
end Go.Ev

set_option maxRecDepth 100000
set_option linter.unusedSimpArgs false
set_option linter.unusedVariables false
namespace Go.Ev
open Go Go.Proofs
noncomputable section
theorem nil_low {B : Bool} {bb : List Nat} {z fa : Int} (h1 : B = true ↔ (0 : Int) = 0 ∧ z < fa) (h2 : bb = [] ↔ B = false) : bb.length = 0 ↔ fa ≤ z := by
  rw [List.length_eq_zero_iff, h2]
  cases B with
  | true =>
    have := (h1.1 rfl).2
    constructor
    · intro h; cases h
    · intro h; omega
  | false =>
    refine ⟨fun _ => ?_, fun _ => rfl⟩
    by_cases h : fa ≤ z
    · exact h
    · have := h1.2 ⟨rfl, by omega⟩
      cases this
theorem nil_none {B : Bool} {bb : List Nat} {z fa : Int} (h1 : B = true ↔ (7 : Int) = 0 ∧ z < fa) (h2 : bb = [] ↔ B = false) : bb.length = 0 := by
  rw [List.length_eq_zero_iff, h2]
  cases B with
  | true => exact absurd (h1.1 rfl).1 (by omega)
  | false => rfl
theorem c14L (m : Nat) (cv wv : AV) (cols : List (List Bed)) (least fw : Int) (ws : List Int) (H : Heap) (hM : Mat H cv cols) (hWs : Row H wv 1 (ws.map fun w => [U8 w])) (hws : Upto 255 ws) (hfw : 0 ≤ fw ∧ fw ≤ 65535) (hth : thinB cols = true) (hv : slOk cols least = true) (hlc : least ≤ cols.length) (hrd : readyS cols least = true) (hcase : ¬ NoneAt cols (cols.headD []).length least) : RR (m + 212) (.fn 14 [.agg [cv, I least], wv, U16 fw]) H = some (.bool true, H) := by
  refine (R_fn _ _ _ _ _).trans ?_
  refine fn_ok Try.func14 rfl rfl (by kernel_rfl) (by kernel_rfl) ?_
  obtain ⟨W, hW⟩ : ∃ W : Heap, W = ⟨H.t, H.next, H.next⟩ := ⟨_, rfl⟩
  have hg : ∀ n, W.get n = H.get n := fun n => by rw [hW]; rfl
  have hN : W.next = H.next := by rw [hW]
  have hE : ∀ G, Grow W G → Ext H G := fun G g => ⟨by rw [← hN]; exact g.next, fun n k => by rw [g.get n (by rw [hN]; exact k), hg]⟩
  have hG : Grow W W := Grow.refl (by rw [hW]; exact Nat.le_refl _)
  rw [← hW]
  have pc : cv.plain = true := by obtain ⟨vs, hR, _, _⟩ := hM; exact lpl hR.len
  have ps : AV.plain (.agg [cv, I least]) = true := by simp [AV.plain, AV.plains, pc]
  have hsf := slOk_facts hv
  have hfm1 := Int.emod_nonneg fw (b := 10001) (by omega)
  have hfm2 := Int.emod_lt_of_pos fw (b := 10001) (by omega)
  refine Ok.seq ?_
  refine Ok.region ?_
  refine OkO.box rfl rfl ?_
  refine OkO.assign rfl rfl ?_
  refine OkO.nil ?_
  refine Ok.seq ?_
  refine Ok.seq ?_
  refine Ok.region ?_
  refine OkO.load rfl rfl (ldg (n := 2) (by kernel_rfl) (by first | assumption | (simp (disch := first | omega | (simp only [hNw, hPt]; omega)) only [gn0, gn1, gn2, gn3, gn4, gn5, gp0, gno, gpo] <;> first | rfl | assumption | exact gp0 _ _ _ | exact gn0 _ _)) (by first | rfl | assumption)) ?_
  refine OkO.callV rfl rfl rfl rfl rfl ((c51 (m + 208) cv cols least _ (hM.ext (hE _ (by (try dsimp only); repeat (first | exact hG | apply Grow.new | (refine Grow.put ?_ _ (by first | omega | (simp only [hNw, hPt]; omega)))))))).trans (by rw [hrd])) ?_ -- "sackung/sackunglaw01.ready"
  refine OkO.un rfl rfl rfl ?_
  refine OkO.nil ?_
  refine Ok.cond rfl (fun h1 => ?_) (fun h1 => ?_)
  · -- yes h1
    exact absurd h1 (by simp)
  · -- no h1
    refine Ok.skip ?_
    refine Ok.seq ?_
    refine Ok.region ?_
    refine OkO.move rfl rfl ?_
    refine OkO.convert (k := .i64) rfl (by kernel_rfl) rfl (wrapF_i64 (by omega) (by omega)) ?_
    refine OkO.bin rfl rfl rfl (bin_rem (by omega) (by omega)) ?_
    refine OkO.assign rfl rfl ?_
    refine OkO.nil ?_
    refine Ok.seq ?_
    refine Ok.region ?_
    refine OkO.load rfl rfl (ldg (n := 2) (by kernel_rfl) (by first | assumption | (simp (disch := first | omega | (simp only [hNw, hPt]; omega)) only [gn0, gn1, gn2, gn3, gn4, gn5, gp0, gno, gpo] <;> first | rfl | assumption | exact gp0 _ _ _ | exact gn0 _ _)) (by first | rfl | assumption)) ?_
    refine OkO.callE rfl rfl rfl rfl rfl (c19 (m + 209) cv cols least _ (hM.ext (hE _ (by (try dsimp only); repeat (first | exact hG | apply Grow.new | (refine Grow.put ?_ _ (by first | omega | (simp only [hNw, hPt]; omega))))))) hth) ?_ -- "sackung/sackunglaw01.Slope"
    rintro _ Ha1 ⟨cv1, rfl, qa1, fa1⟩
    have n1 := qa1.ext.next
    try simp only [hNw, hPt] at n1
    have gg1 : Grow W Ha1 := Grow.ret (by (try dsimp only); repeat (first | exact hG | apply Grow.new | (refine Grow.put ?_ _ (by first | omega | (simp only [hNw, hPt]; omega))))) qa1
    have a1 : (Ha1.get (W.next)).bind AObj.cs = some [cv, I least] := by rw [qa1.ext.get _ (by first | omega | (simp only [hNw, hPt]; omega))]; first | assumption | (rw [gn0]; rfl) | (rw [get_put_eq] <;> rfl) | (simp (disch := first | omega | (simp only [hNw, hPt]; omega)) only [gn0, gn1, gn2, gn3, gn4, gn5, gp0, gno, gpo] <;> first | rfl | assumption | (rw [get_put_eq] <;> rfl))
    have ma1 := fa1.now (Nat.le_refl _)
    refine OkO.move rfl rfl ?_
    refine OkO.callE rfl rfl rfl rfl rfl (c45 (m + 2) cv1 cols least (fw % 10001) _ ma1 hv (by omega)) ?_ -- "sackung/slope.Moves"
    rintro _ Hm ⟨aa, bb, av, bv, rfl, qm, hma, hmb, mva, mvb⟩
    have n2 := qm.ext.next
    try simp only [hNw, hPt] at n2
    have gg2 : Grow W Hm := Grow.ret (by (try dsimp only); repeat (first | exact gg1 | apply Grow.new | (refine Grow.put ?_ _ (by first | omega | (simp only [hNw, hPt]; omega))))) qm
    have a2 : (Hm.get (W.next)).bind AObj.cs = some [cv, I least] := by rw [qm.ext.get _ (by first | omega | (simp only [hNw, hPt]; omega))]; first | assumption | (rw [gn0]; rfl) | (rw [get_put_eq] <;> rfl) | (simp (disch := first | omega | (simp only [hNw, hPt]; omega)) only [gn0, gn1, gn2, gn3, gn4, gn5, gp0, gno, gpo] <;> first | rfl | assumption | (rw [get_put_eq] <;> rfl))
    have hRa : Row Hm av 1 (aa.map fun (k : Nat) => [I (k : Int)]) := Mine.row (by rw [flatN]; exact hma) (fun x hx => by simp only [List.mem_map] at hx; obtain ⟨y, _, rfl⟩ := hx; rfl) (by omega)
    have hRb : Row Hm bv 1 (bb.map fun (k : Nat) => [I (k : Int)]) := Mine.row (by rw [flatN]; exact hmb) (fun x hx => by simp only [List.mem_map] at hx; obtain ⟨y, _, rfl⟩ := hx; rfl) (by omega)
    have hal : lenOf av = some aa.length := by simpa using hRa.len
    have hbl : lenOf bv = some bb.length := by simpa using hRb.len
    have pav := lpl hal
    have pbv := lpl hbl
    have hal9 := mva.len
    have hbl9 := mvb.len
    refine OkO.move rfl rfl ?_
    refine OkO.extract rfl rfl rfl ?_
    refine OkO.extract rfl rfl rfl ?_
    refine OkO.extract rfl rfl rfl ?_
    refine OkO.assign rfl rfl ?_
    refine OkO.assign rfl rfl ?_
    refine OkO.assign rfl rfl ?_
    refine OkO.nil ?_
    refine Ok.seq ?_
    refine Ok.region ?_
    refine OkO.load rfl rfl (ldg (n := 2) (by kernel_rfl) (by first | assumption | (simp (disch := first | omega | (simp only [hNw, hPt]; omega)) only [gn0, gn1, gn2, gn3, gn4, gn5, gp0, gno, gpo] <;> first | rfl | assumption | exact gp0 _ _ _ | exact gn0 _ _)) (by first | rfl | assumption)) ?_
    refine OkO.callE rfl rfl rfl rfl rfl (c19 (m + 209) cv cols least _ (hM.ext (hE _ (by (try dsimp only); repeat (first | exact gg2 | apply Grow.new | (refine Grow.put ?_ _ (by first | omega | (simp only [hNw, hPt]; omega))))))) hth) ?_ -- "sackung/sackunglaw01.Slope"
    rintro _ Ha2 ⟨cv2, rfl, qa2, fa2⟩
    have n3 := qa2.ext.next
    try simp only [hNw, hPt] at n3
    have gg3 : Grow W Ha2 := Grow.ret (by (try dsimp only); repeat (first | exact gg2 | apply Grow.new | (refine Grow.put ?_ _ (by first | omega | (simp only [hNw, hPt]; omega))))) qa2
    have a3 : (Ha2.get (W.next)).bind AObj.cs = some [cv, I least] := by rw [qa2.ext.get _ (by first | omega | (simp only [hNw, hPt]; omega))]; first | assumption | (rw [gn0]; rfl) | (rw [get_put_eq] <;> rfl) | (simp (disch := first | omega | (simp only [hNw, hPt]; omega)) only [gn0, gn1, gn2, gn3, gn4, gn5, gp0, gno, gpo] <;> first | rfl | assumption | (rw [get_put_eq] <;> rfl))
    have exHm3 : Ext Hm Ha2 := Ext.trans (by (try dsimp only); repeat (first | exact Ext.refl _ | exact Ext.refl _ | apply Ext.new | (refine Ext.put ?_ _ (by first | omega | (simp only [hNw, hPt]; omega))))) qa2.ext
    have ma2 := fa2.now (Nat.le_refl _)
    refine OkO.callE rfl rfl rfl rfl rfl (c31' m cv2 cols least _ ma2 hv) ?_ -- "sackung/slope.Worst"
    rintro _ Hw ⟨qw, x31, y31, z31, e31, rfl, at31, hd31⟩
    have n4 := qw.ext.next
    try simp only [hNw, hPt] at n4
    have gg4 : Grow W Hw := Grow.ret (by (try dsimp only); repeat (first | exact gg3 | apply Grow.new | (refine Grow.put ?_ _ (by first | omega | (simp only [hNw, hPt]; omega))))) qw
    have a4 : (Hw.get (W.next)).bind AObj.cs = some [cv, I least] := by rw [qw.ext.get _ (by first | omega | (simp only [hNw, hPt]; omega))]; first | assumption | (rw [gn0]; rfl) | (rw [get_put_eq] <;> rfl) | (simp (disch := first | omega | (simp only [hNw, hPt]; omega)) only [gn0, gn1, gn2, gn3, gn4, gn5, gp0, gno, gpo] <;> first | rfl | assumption | (rw [get_put_eq] <;> rfl))
    have exHm4 : Ext Hm Hw := Ext.trans (by (try dsimp only); repeat (first | exact exHm3 | exact Ext.refl _ | apply Ext.new | (refine Ext.put ?_ _ (by first | omega | (simp only [hNw, hPt]; omega))))) qw.ext
    have w31 := worstIs_of hd31
    obtain ⟨he31, hlow⟩ : e31 = 0 ∧ ∃ fr us, LowAt cols (cols.headD []).length least z31 fr us := by (rcases w31 with h | ⟨_, _, h⟩); (· exact h); (· exact absurd h hcase)
    subst he31
    have hwb := worst_below (fa := fw % 10001) (bedsOk_of hv) w31 (by omega)
    have hnb := mvb.nil_iff
    have hzb := nil_low hwb hnb
    refine OkO.move rfl rfl ?_
    refine OkO.extract rfl rfl rfl ?_
    refine OkO.extract rfl rfl rfl ?_
    refine OkO.extract rfl rfl rfl ?_
    refine OkO.alloc (z := [.int .i64 0, .nils]) rfl (by kernel_rfl) ?_
    refine OkO.store rfl rfl rfl (stc (n := 2) (ag := true) (by kernel_rfl) (by first | assumption | (simp (disch := first | omega | (simp only [hNw, hPt]; omega)) only [gn0, gn1, gn2, gn3, gn4, gn5, gp0, gno, gpo] <;> first | rfl | assumption | exact gp0 _ _ _ | exact gn0 _ _)) rfl (by first | rfl | assumption) (by first | rfl | exact spl_set _ _ _ (by first | assumption | omega | (simp; omega)))) ?_
    refine OkO.assign rfl rfl ?_
    refine OkO.assign rfl rfl ?_
    refine OkO.nil ?_
    refine Ok.seq ?_
    refine Ok.seq ?_
    refine Ok.region ?_
    refine OkO.move rfl rfl ?_
    refine OkO.bin rfl rfl rfl (bin_neq _ _) ?_
    refine OkO.move rfl rfl ?_
    refine OkO.move rfl rfl ?_
    refine OkO.bin rfl rfl rfl (bin_neq _ _) ?_
    refine OkO.move rfl rfl ?_
    refine OkO.skip rfl ?_
    refine OkO.skip rfl ?_
    refine OkO.pick (b := false) rfl rfl nofun (fun _ => rfl) ?_
    refine OkO.pick (b := false) rfl rfl nofun (fun _ => rfl) ?_
    refine OkO.move rfl rfl ?_
    refine OkO.move rfl rfl ?_
    refine OkO.builtin rfl rfl rfl (bln (by kernel_rfl) (by first | assumption | rfl)) ?_
    refine OkO.bin rfl rfl rfl (bin_eql _ _) ?_
    refine OkO.move rfl rfl ?_
    refine OkO.bin rfl rfl rfl (bin_eql _ _) ?_
    refine OkO.move rfl rfl ?_
    refine OkO.move rfl rfl ?_
    refine OkO.move rfl rfl ?_
    refine OkO.bin rfl rfl rfl (bin_geq _ _) ?_
    refine OkO.pick (b := false) rfl rfl nofun (fun _ => rfl) ?_
    refine OkO.binT rfl rfl rfl (by rfl) ?_
    refine OkO.pick (b := false) rfl rfl nofun (fun _ => rfl) ?_
    refine OkO.nil ?_
    refine Ok.cond rfl (fun h2 => ?_) (fun h2 => ?_)
    · -- yes h2
      have e9 : ((bb.length : Int) = 0) ↔ fw % 10001 ≤ z31 := by (rw [← hzb]; omega)
      have e8 : decide ((bb.length : Int) = 0) = decide (fw % 10001 ≤ z31) := by (by_cases h : fw % 10001 ≤ z31); (· rw [decide_eq_true (e9.2 h), decide_eq_true h]); (· rw [decide_eq_false (fun h9 => h (e9.1 h9)), decide_eq_false h])
      exact absurd h2 (by rw [e8]; simp)
    · -- no h2
      refine Ok.skip ?_
      refine Ok.seq ?_
      refine Ok.seq ?_
      refine Ok.region ?_
      refine OkO.assign rfl rfl ?_
      refine OkO.nil ?_
      refine Ok.block ?_
      refine Ok.loop (fun n9 s_ => ∃ i : Nat, n9 = aa.length - i ∧ i ≤ aa.length ∧ Has 8 [(1, wv), (3, .ptr W.next 0), (7, I (fw % 10001)), (8, av), (9, bv), (14, I (i : Int))] s_.T ∧ s_.D = [] ∧ Grow W s_.H ∧ W.next + 1 ≤ s_.H.next ∧ (s_.H.get W.next).bind AObj.cs = some [cv, I least] ∧ Row s_.H av 1 (aa.map fun (k : Nat) => [I (k : Int)]) ∧ Row s_.H bv 1 (bb.map fun (k : Nat) => [I (k : Int)])) (aa.length) (by unfold loopFuel; omega)
        ⟨0, rfl, Nat.zero_le _, Has.of (by kernel_rfl), rfl, (by (try dsimp only); repeat (first | exact gg4 | apply Grow.new | (refine Grow.put ?_ _ (by first | omega | (simp only [hNw, hPt]; omega))))), (by first | omega | (simp only [hNw, hPt]; omega)), (by first | assumption | (rw [gn0]; rfl) | (rw [get_put_eq] <;> rfl) | (simp (disch := first | omega | (simp only [hNw, hPt]; omega)) only [gn0, gn1, gn2, gn3, gn4, gn5, gp0, gno, gpo] <;> first | rfl | assumption | (rw [get_put_eq] <;> rfl))), hRa.ext (by (try dsimp only); repeat (first | exact exHm4 | exact Ext.refl _ | apply Ext.new | (refine Ext.put ?_ _ (by first | omega | (simp only [hNw, hPt]; omega))))), hRb.ext (by (try dsimp only); repeat (first | exact exHm4 | exact Ext.refl _ | apply Ext.new | (refine Ext.put ?_ _ (by first | omega | (simp only [hNw, hPt]; omega)))))⟩ ?_
      rintro n9 ⟨T, D, G⟩ ⟨i, hn9, hi, ⟨f, hT⟩, hD, hg, hgx, f0, hra, hrb⟩
      dsimp only at *
      subst hT hD
      have hgn := hg.next
      refine Ok.seq ?_
      refine Ok.seq ?_
      refine Ok.region ?_
      refine OkO.move rfl rfl ?_
      refine OkO.move rfl rfl ?_
      refine OkO.builtin rfl rfl rfl (bln (by kernel_rfl) (by first | assumption | rfl)) ?_
      refine OkO.bin rfl rfl rfl (bin_lss _ _) ?_
      refine OkO.nil ?_
      refine Ok.cond rfl (fun h3 => ?_) (fun h3 => ?_)
      · -- yes h3
        have hil : i < aa.length := by simpa using h3
        obtain ⟨y, hy⟩ : ∃ y, aa[i]? = some y := ⟨_, List.getElem?_eq_getElem hil⟩
        obtain ⟨ub, uo, ucs, u1, u2, u3, u4⟩ := hra.at_ i [I (y : Int)] (by rw [List.getElem?_map, hy]; rfl)
        have u5 := seg_one u3
        refine Ok.skip ?_
        refine Ok.seq ?_
        refine Ok.block ?_
        refine Ok.seq ?_
        refine Ok.drawn [(0, true, []), (1, true, []), (2, true, []), (3, true, []), (4, true, []), (5, false, []), (6, true, []), (7, true, []), (8, true, []), (9, true, []), (10, true, []), (11, true, []), (12, true, []), (13, true, []), (14, true, []), (15, true, []), (16, true, []), (17, true, []), (18, true, []), (19, true, []), (20, true, []), (21, true, []), (22, true, [])] (by kernel_rfl) ?_
        refine OkP.step ?_
        refine OkO.move rfl rfl ?_
        refine OkO.nil ⟨rfl, ?_⟩
        refine OkP.step ?_
        refine OkO.move rfl rfl ?_
        refine OkO.nil ⟨rfl, ?_⟩
        refine OkP.step ?_
        refine OkO.move rfl rfl ?_
        refine OkO.nil ⟨rfl, ?_⟩
        refine OkP.step ?_
        refine OkO.index (sz := 1) (n := i) rfl rfl rfl (by kernel_rfl) (by first | assumption | rfl | exact slAt_slice (by omega) | exact slAt_opn (by omega)) ?_ -- index ('Go.Operand.tmp', 71) ('Go.Operand.tmp', 72)
        refine OkO.nil ⟨rfl, ?_⟩
        refine OkP.step ?_
        refine OkO.load rfl rfl (lda (n := 1) (by kernel_rfl) (by first | assumption | (simp (disch := first | omega | (simp only [hNw, hPt]; omega)) only [gn0, gn1, gn2, gn3, gn4, gn5, gp0, gno, gpo] <;> first | rfl | assumption | exact gp0 _ _ _ | exact gn0 _ _)) (by first | rfl | assumption)) ?_
        refine OkO.nil ⟨rfl, ?_⟩
        refine OkP.step ?_
        refine OkO.callV rfl rfl rfl rfl rfl ((c56 (m + 210) bv bb y G hrb (by omega)).trans (by rw [show decide (y ∈ bb) = true from by simpa using mva.sub (bedsOk_of hv) mvb (List.mem_of_getElem? hy)])) ?_ -- "sackung/sackunglaw01.has"
        refine OkO.nil ⟨rfl, ?_⟩
        refine OkP.step ?_
        refine OkO.un rfl rfl rfl ?_
        refine OkO.nil ⟨rfl, ?_⟩
        refine OkP.step ?_
        refine OkO.move rfl rfl ?_
        refine OkO.nil ⟨rfl, ?_⟩
        refine OkP.split (d := 77) rfl (fun g4 => ?_) (fun g4 => ?_)
        · -- true g4
          exact absurd g4 (by simp)
        · -- false g4
          refine OkP.step ?_
          refine OkO.move rfl rfl ?_
          refine OkO.nil ⟨rfl, ?_⟩
          refine OkP.step ?_
          refine OkO.bin rfl rfl rfl (bin_gtr _ _) ?_
          refine OkO.nil ⟨rfl, ?_⟩
          refine OkP.step ?_
          refine OkO.move rfl rfl ?_
          refine OkO.nil ⟨rfl, ?_⟩
          refine OkP.split (d := 80) rfl (fun g5 => ?_) (fun g5 => ?_)
          · -- true g5
            have hi0 : 0 < i := by simpa using g5
            obtain ⟨y0, hy0⟩ : ∃ y0, aa[i - 1]? = some y0 := ⟨_, List.getElem?_eq_getElem (by omega)⟩
            obtain ⟨vb, vo, vcs, v1, v2, v3, v4⟩ := hra.at_ (i - 1) [I (y0 : Int)] (by rw [List.getElem?_map, hy0]; rfl)
            have v5 := seg_one v3
            have hyy : y0 < y := by (have h9 := List.pairwise_iff_getElem.1 mva.2 (i - 1) i (by omega) hil (by omega)); (rw [List.getElem?_eq_getElem (by omega)] at hy hy0); (cases hy; cases hy0; exact h9)
            refine OkP.step ?_
            refine OkO.move rfl rfl ?_
            refine OkO.nil ⟨rfl, ?_⟩
            refine OkP.step ?_
            refine OkO.move rfl rfl ?_
            refine OkO.nil ⟨rfl, ?_⟩
            refine OkP.step ?_
            refine OkO.index (sz := 1) (n := i) rfl rfl rfl (by kernel_rfl) (by first | assumption | rfl | exact slAt_slice (by omega) | exact slAt_opn (by omega)) ?_ -- index ('Go.Operand.tmp', 81) ('Go.Operand.tmp', 82)
            refine OkO.nil ⟨rfl, ?_⟩
            refine OkP.step ?_
            refine OkO.load rfl rfl (lda (n := 1) (by kernel_rfl) (by first | assumption | (simp (disch := first | omega | (simp only [hNw, hPt]; omega)) only [gn0, gn1, gn2, gn3, gn4, gn5, gp0, gno, gpo] <;> first | rfl | assumption | exact gp0 _ _ _ | exact gn0 _ _)) (by first | rfl | assumption)) ?_
            refine OkO.nil ⟨rfl, ?_⟩
            refine OkP.step ?_
            refine OkO.move rfl rfl ?_
            refine OkO.nil ⟨rfl, ?_⟩
            refine OkP.step ?_
            refine OkO.move rfl rfl ?_
            refine OkO.nil ⟨rfl, ?_⟩
            refine OkP.step ?_
            refine OkO.bin rfl rfl rfl (bin_sub (by omega) (by omega)) ?_
            refine OkO.nil ⟨rfl, ?_⟩
            refine OkP.step ?_
            refine OkO.index (sz := 1) (n := i - 1) rfl rfl (congrArg (fun z => some (I z)) (by omega)) (by kernel_rfl) (by first | assumption | rfl | exact slAt_slice (by omega) | exact slAt_opn (by omega)) ?_ -- index ('Go.Operand.tmp', 85) ('Go.Operand.tmp', 87)
            refine OkO.nil ⟨rfl, ?_⟩
            refine OkP.step ?_
            refine OkO.load rfl rfl (lda (n := 1) (by kernel_rfl) (by first | assumption | (simp (disch := first | omega | (simp only [hNw, hPt]; omega)) only [gn0, gn1, gn2, gn3, gn4, gn5, gp0, gno, gpo] <;> first | rfl | assumption | exact gp0 _ _ _ | exact gn0 _ _)) (by first | rfl | assumption)) ?_
            refine OkO.nil ⟨rfl, ?_⟩
            refine OkP.step ?_
            refine OkO.bin rfl rfl rfl (bin_leq _ _) ?_
            refine OkO.nil ⟨rfl, ?_⟩
            refine OkP.step ?_
            refine OkO.pick (b := true) rfl rfl (fun _ => rfl) nofun ?_
            refine OkO.nil ⟨rfl, ?_⟩
            refine OkP.step ?_
            refine OkO.pick (b := false) rfl rfl nofun (fun _ => rfl) ?_
            refine OkO.nil ⟨rfl, ?_⟩
            refine OkP.nil ?_
            refine Ok.cond rfl (fun h6 => ?_) (fun h6 => ?_)
            · -- yes h6
              exact absurd h6 (by simp; omega)
            · -- no h6
              refine Ok.skip ?_
              refine Ok.region ?_
              refine OkO.move rfl rfl ?_
              refine OkO.bin rfl rfl rfl (bin_add (by omega) (by omega)) ?_
              refine OkO.assign rfl rfl ?_
              refine OkO.nil ?_
              exact ⟨aa.length - (i + 1), by omega, i + 1, rfl, by omega, Has.of (by kernel_rfl), rfl, hg, hgx, f0, hra, hrb⟩
          · -- false g5
            refine OkP.step ?_
            refine OkO.skip rfl ?_
            refine OkO.nil ⟨rfl, ?_⟩
            refine OkP.step ?_
            refine OkO.skip rfl ?_
            refine OkO.nil ⟨rfl, ?_⟩
            refine OkP.step ?_
            refine OkO.skip rfl ?_
            refine OkO.nil ⟨rfl, ?_⟩
            refine OkP.step ?_
            refine OkO.skip rfl ?_
            refine OkO.nil ⟨rfl, ?_⟩
            refine OkP.step ?_
            refine OkO.skip rfl ?_
            refine OkO.nil ⟨rfl, ?_⟩
            refine OkP.step ?_
            refine OkO.skip rfl ?_
            refine OkO.nil ⟨rfl, ?_⟩
            refine OkP.step ?_
            refine OkO.skip rfl ?_
            refine OkO.nil ⟨rfl, ?_⟩
            refine OkP.step ?_
            refine OkO.skip rfl ?_
            refine OkO.nil ⟨rfl, ?_⟩
            refine OkP.step ?_
            refine OkO.skip rfl ?_
            refine OkO.nil ⟨rfl, ?_⟩
            refine OkP.step ?_
            refine OkO.skip rfl ?_
            refine OkO.nil ⟨rfl, ?_⟩
            refine OkP.step ?_
            refine OkO.pick (b := false) rfl rfl nofun (fun _ => rfl) ?_
            refine OkO.nil ⟨rfl, ?_⟩
            refine OkP.step ?_
            refine OkO.pick (b := false) rfl rfl nofun (fun _ => rfl) ?_
            refine OkO.nil ⟨rfl, ?_⟩
            refine OkP.nil ?_
            refine Ok.condF rfl ?_
            refine Ok.skip ?_
            refine Ok.region ?_
            refine OkO.move rfl rfl ?_
            refine OkO.bin rfl rfl rfl (bin_add (by omega) (by omega)) ?_
            refine OkO.assign rfl rfl ?_
            refine OkO.nil ?_
            exact ⟨aa.length - (i + 1), by omega, i + 1, rfl, by omega, Has.of (by kernel_rfl), rfl, hg, hgx, f0, hra, hrb⟩
      · -- no h3
        have hil : i = aa.length := by (have : ¬ i < aa.length := by simpa using h3); omega
        refine Ok.exit ?_
        refine Ok.seq ?_
        refine Ok.region ?_
        refine OkO.load rfl rfl (ldg (n := 2) (by kernel_rfl) (by first | assumption | (simp (disch := first | omega | (simp only [hNw, hPt]; omega)) only [gn0, gn1, gn2, gn3, gn4, gn5, gp0, gno, gpo] <;> first | rfl | assumption | exact gp0 _ _ _ | exact gn0 _ _)) (by first | rfl | assumption)) ?_
        refine OkO.move rfl rfl ?_
        refine OkO.callE rfl rfl rfl rfl rfl (c52 (m + 209) (cols.headD []).length cv wv cols least ws _ (hM.ext (hE _ (by (try dsimp only); repeat (first | exact hg | apply Grow.new | (refine Grow.put ?_ _ (by first | omega | (simp only [hNw, hPt]; omega))))))) (hWs.ext (hE _ (by (try dsimp only); repeat (first | exact hg | apply Grow.new | (refine Grow.put ?_ _ (by first | omega | (simp only [hNw, hPt]; omega))))))) hws hv rfl hlc) ?_ -- "sackung/sackunglaw01.Path"
        rintro v52 H52 ⟨fr, us, bu, rfl, q52, m52, nn52, hs, hlu⟩
        have n1 := q52.ext.next
        try simp only [hNw, hPt] at n1
        have gg1 : Grow W H52 := Grow.ret (by (try dsimp only); repeat (first | exact hg | apply Grow.new | (refine Grow.put ?_ _ (by first | omega | (simp only [hNw, hPt]; omega))))) q52
        have b1 : (H52.get (W.next)).bind AObj.cs = some [cv, I least] := by rw [q52.ext.get _ (by first | omega | (simp only [hNw, hPt]; omega))]; first | assumption | (rw [gn0]; rfl) | (rw [get_put_eq] <;> rfl) | (simp (disch := first | omega | (simp only [hNw, hPt]; omega)) only [gn0, gn1, gn2, gn3, gn4, gn5, gp0, gno, gpo] <;> first | rfl | assumption | (rw [get_put_eq] <;> rfl))
        have exG1 : Ext G H52 := Ext.trans (by (try dsimp only); repeat (first | exact Ext.refl _ | exact Ext.refl _ | apply Ext.new | (refine Ext.put ?_ _ (by first | omega | (simp only [hNw, hPt]; omega))))) q52.ext
        have hone : bu.cells = [bu] ∧ bu.atom = true := m52.one
        have hat : atoms [I (fr : Int), bu] = true := by (rw [atoms, atoms, hone.2]; rfl)
        have hU : Row H52 bu 1 (us.map fun (k : Nat) => [I (k : Int)]) := Mine.row (by rw [flatN]; exact m52) (fun x hx => by simp only [List.mem_map] at hx; obtain ⟨y, _, rfl⟩ := hx; rfl) (by omega)
        have hul : lenOf bu = some us.length := by simpa using hU.len
        have pbu := lpl hU.len
        have pu : AV.plain (.agg [I (fr : Int), bu]) = true := by simp [AV.plain, AV.plains, pbu]
        have hs4 : fr + us.length ≤ cols.length := hs.2.2.2
        have hsp := span_W hv hs
        obtain ⟨sa, sb, se, hspv⟩ : ∃ sa sb se, spW cols fr us = (sa, sb, se) := ⟨_, _, _, rfl⟩
        rw [hspv] at hsp
        have hcs : (1 ≤ drive (bedsW cols fr us) ∧ sa = facW cols fr us ∧ sb = facS cols fr us ∧ se = 0) ∨ (¬ 1 ≤ drive (bedsW cols fr us) ∧ se = 7) := by (unfold spW at hspv); (split at hspv); (· cases hspv; exact .inl ⟨by assumption, rfl, rfl, rfl⟩); (· cases hspv; exact .inr ⟨by assumption, rfl⟩)
        refine OkO.alloc (z := [.int .i64 0, .nils]) rfl (by kernel_rfl) ?_
        refine OkO.store rfl rfl rfl (stc (n := 2) (ag := true) (by kernel_rfl) (by first | assumption | (simp (disch := first | omega | (simp only [hNw, hPt]; omega)) only [gn0, gn1, gn2, gn3, gn4, gn5, gp0, gno, gpo] <;> first | rfl | assumption | exact gp0 _ _ _ | exact gn0 _ _)) rfl (by first | rfl | assumption) (by first | rfl | exact spl_set _ _ _ (by first | assumption | omega | (simp; omega)))) ?_
        refine OkO.nil ?_
        refine Ok.seq ?_
        refine Ok.drawn [(0, true, []), (2, true, []), (8, true, [2, 0]), (1, false, [2]), (3, false, [0]), (4, false, [2, 0]), (5, true, []), (6, true, []), (7, true, []), (9, false, []), (10, true, [])] (by kernel_rfl) ?_
        refine OkP.step ?_
        refine OkO.load rfl rfl (ldg (n := 2) (by kernel_rfl) (by first | assumption | (simp (disch := first | omega | (simp only [hNw, hPt]; omega)) only [gn0, gn1, gn2, gn3, gn4, gn5, gp0, gno, gpo] <;> first | rfl | assumption | exact gp0 _ _ _ | exact gn0 _ _)) (by first | rfl | assumption)) ?_
        refine OkO.nil ⟨rfl, ?_⟩
        refine OkP.step ?_
        refine OkO.load rfl rfl (ldg (n := 2) (by kernel_rfl) (by first | assumption | (simp (disch := first | omega | (simp only [hNw, hPt]; omega)) only [gn0, gn1, gn2, gn3, gn4, gn5, gp0, gno, gpo] <;> first | rfl | assumption | exact gp0 _ _ _ | exact gn0 _ _)) (by first | rfl | assumption)) ?_
        refine OkO.nil ⟨rfl, ?_⟩
        refine OkP.step ?_
        refine OkO.alloc (z := [.int .i64 0, .int .i64 0]) rfl (by kernel_rfl) ?_
        refine OkO.nil ⟨(sco (sld rfl rfl (ldg (n := 2) (by kernel_rfl) (by first | assumption | (simp (disch := first | omega | (simp only [hNw, hPt]; omega)) only [gn0, gn1, gn2, gn3, gn4, gn5, gp0, gno, gpo] <;> first | rfl | assumption | exact gp0 _ _ _ | exact gn0 _ _)) (by first | rfl | assumption)) rfl (eqr _ (by first | rfl | exact ps | exact pu | exact lpl (by assumption) | (simp [AV.plain, AV.plains, AV.cells, pc, pav, pbv])))) (sco (sld rfl rfl (ldg (n := 2) (by kernel_rfl) (by first | assumption | (simp (disch := first | omega | (simp only [hNw, hPt]; omega)) only [gn0, gn1, gn2, gn3, gn4, gn5, gp0, gno, gpo] <;> first | rfl | assumption | exact gp0 _ _ _ | exact gn0 _ _)) (by first | rfl | assumption)) rfl (eqr _ (by first | rfl | exact ps | exact pu | exact lpl (by assumption) | (simp [AV.plain, AV.plains, AV.cells, pc, pav, pbv])))) rfl)), ?_⟩
        refine OkP.step ?_
        refine OkO.callE rfl rfl rfl rfl rfl (c19 (m + 209) cv cols least _ (hM.ext (hE _ (by (try dsimp only); repeat (first | exact gg1 | apply Grow.new | (refine Grow.put ?_ _ (by first | omega | (simp only [hNw, hPt]; omega))))))) hth) ?_ -- "sackung/sackunglaw01.Slope"
        rintro _ Ha3 ⟨cv3, rfl, qa3, fa3⟩
        have n2 := qa3.ext.next
        try simp only [hNw, hPt] at n2
        have gg2 : Grow W Ha3 := Grow.ret (by (try dsimp only); repeat (first | exact gg1 | apply Grow.new | (refine Grow.put ?_ _ (by first | omega | (simp only [hNw, hPt]; omega))))) qa3
        have b2 : (Ha3.get (W.next)).bind AObj.cs = some [cv, I least] := by rw [qa3.ext.get _ (by first | omega | (simp only [hNw, hPt]; omega))]; first | assumption | (rw [gn0]; rfl) | (rw [get_put_eq] <;> rfl) | (simp (disch := first | omega | (simp only [hNw, hPt]; omega)) only [gn0, gn1, gn2, gn3, gn4, gn5, gp0, gno, gpo] <;> first | rfl | assumption | (rw [get_put_eq] <;> rfl))
        have u2 : (Ha3.get (H52.next)).bind AObj.cs = some [I (fr : Int), bu] := by rw [qa3.ext.get _ (by first | omega | (simp only [hNw, hPt]; omega))]; first | assumption | (rw [gn0]; rfl) | (rw [get_put_eq] <;> rfl) | (simp (disch := first | omega | (simp only [hNw, hPt]; omega)) only [gn0, gn1, gn2, gn3, gn4, gn5, gp0, gno, gpo] <;> first | rfl | assumption | (rw [get_put_eq] <;> rfl))
        have o2 : Ha3.get (H52.next + 1) = some (.cells [I 0, I 0] 47) := by rw [qa3.ext.get _ (by first | omega | (simp only [hNw, hPt]; omega))]; first | assumption | exact gn0 _ _ | (simp (disch := first | omega | (simp only [hNw, hPt]; omega)) only [gn0, gn1, gn2, gn3, gn4, gn5, gp0, gno, gpo] <;> first | rfl | assumption | exact gp0 _ _ _ | exact gn0 _ _)
        have exG2 : Ext G Ha3 := Ext.trans (by (try dsimp only); repeat (first | exact exG1 | exact Ext.refl _ | apply Ext.new | (refine Ext.put ?_ _ (by first | omega | (simp only [hNw, hPt]; omega))))) qa3.ext
        have exH522 : Ext H52 Ha3 := Ext.trans (by (try dsimp only); repeat (first | exact Ext.refl _ | exact Ext.refl _ | apply Ext.new | (refine Ext.put ?_ _ (by first | omega | (simp only [hNw, hPt]; omega))))) qa3.ext
        have ma3 := fa3.now (Nat.le_refl _)
        refine OkO.nil ⟨(sco (sld rfl rfl (ldg (n := 2) (by kernel_rfl) (by first | assumption | (simp (disch := first | omega | (simp only [hNw, hPt]; omega)) only [gn0, gn1, gn2, gn3, gn4, gn5, gp0, gno, gpo] <;> first | rfl | assumption | exact gp0 _ _ _ | exact gn0 _ _)) (by first | rfl | assumption)) rfl (eqr _ (by first | rfl | exact ps | exact pu | exact lpl (by assumption) | (simp [AV.plain, AV.plains, AV.cells, pc, pav, pbv])))) rfl), ?_⟩
        refine OkP.step ?_
        refine OkO.callE rfl rfl rfl rfl rfl (c21 (m + 209) bu (fr : Int) (ofN us) _ (ints_N (hU.ext (by (try dsimp only); repeat (first | exact exH522 | exact Ext.refl _ | apply Ext.new | (refine Ext.put ?_ _ (by first | omega | (simp only [hNw, hPt]; omega))))))) (by rw [ofN_len]; omega)) ?_ -- "sackung/sackunglaw01.Surface"
        rintro _ Hb1 ⟨bu1, rfl, qb1, fb1⟩
        have n3 := qb1.ext.next
        try simp only [hNw, hPt] at n3
        have gg3 : Grow W Hb1 := Grow.ret (by (try dsimp only); repeat (first | exact gg2 | apply Grow.new | (refine Grow.put ?_ _ (by first | omega | (simp only [hNw, hPt]; omega))))) qb1
        have b3 : (Hb1.get (W.next)).bind AObj.cs = some [cv, I least] := by rw [qb1.ext.get _ (by first | omega | (simp only [hNw, hPt]; omega))]; first | assumption | (rw [gn0]; rfl) | (rw [get_put_eq] <;> rfl) | (simp (disch := first | omega | (simp only [hNw, hPt]; omega)) only [gn0, gn1, gn2, gn3, gn4, gn5, gp0, gno, gpo] <;> first | rfl | assumption | (rw [get_put_eq] <;> rfl))
        have u3 : (Hb1.get (H52.next)).bind AObj.cs = some [I (fr : Int), bu] := by rw [qb1.ext.get _ (by first | omega | (simp only [hNw, hPt]; omega))]; first | assumption | (rw [gn0]; rfl) | (rw [get_put_eq] <;> rfl) | (simp (disch := first | omega | (simp only [hNw, hPt]; omega)) only [gn0, gn1, gn2, gn3, gn4, gn5, gp0, gno, gpo] <;> first | rfl | assumption | (rw [get_put_eq] <;> rfl))
        have o3 : Hb1.get (H52.next + 1) = some (.cells [I 0, I 0] 47) := by rw [qb1.ext.get _ (by first | omega | (simp only [hNw, hPt]; omega))]; first | assumption | exact gn0 _ _ | (simp (disch := first | omega | (simp only [hNw, hPt]; omega)) only [gn0, gn1, gn2, gn3, gn4, gn5, gp0, gno, gpo] <;> first | rfl | assumption | exact gp0 _ _ _ | exact gn0 _ _)
        have exG3 : Ext G Hb1 := Ext.trans (by (try dsimp only); repeat (first | exact exG2 | exact Ext.refl _ | apply Ext.new | (refine Ext.put ?_ _ (by first | omega | (simp only [hNw, hPt]; omega))))) qb1.ext
        have exH523 : Ext H52 Hb1 := Ext.trans (by (try dsimp only); repeat (first | exact exH522 | exact Ext.refl _ | apply Ext.new | (refine Ext.put ?_ _ (by first | omega | (simp only [hNw, hPt]; omega))))) qb1.ext
        have mb1 := ma3.ext qb1.ext
        have ib1 := fb1.now (Nat.le_refl _)
        refine OkO.nil ⟨(sco (sld rfl rfl (ldg (n := 2) (by kernel_rfl) (by first | assumption | (simp (disch := first | omega | (simp only [hNw, hPt]; omega)) only [gn0, gn1, gn2, gn3, gn4, gn5, gp0, gno, gpo] <;> first | rfl | assumption | exact gp0 _ _ _ | exact gn0 _ _)) (by first | rfl | assumption)) rfl (eqr _ (by first | rfl | exact ps | exact pu | exact lpl (by assumption) | (simp [AV.plain, AV.plains, AV.cells, pc, pav, pbv])))) rfl), ?_⟩
        refine OkP.step ?_
        have h27 := c27 (m + 202) cv3 bu1 cols least (fr : Int) (ofN us) Hb1 mb1 ib1.1 ib1.2 (by rw [ofN_len]; omega)
        rw [hsp] at h27
        refine OkO.callV rfl rfl rfl rfl rfl (h27) ?_ -- "sackung/slope.Span"
        refine OkO.nil ⟨(sco (sld rfl rfl (ldg (n := 2) (by kernel_rfl) (by first | assumption | (simp (disch := first | omega | (simp only [hNw, hPt]; omega)) only [gn0, gn1, gn2, gn3, gn4, gn5, gp0, gno, gpo] <;> first | rfl | assumption | exact gp0 _ _ _ | exact gn0 _ _)) (by first | rfl | assumption)) rfl (eqr _ (by first | rfl | exact ps | exact pu | exact lpl (by assumption) | (simp [AV.plain, AV.plains, AV.cells, pc, pav, pbv])))) (sco (sld rfl rfl (ldg (n := 2) (by kernel_rfl) (by first | assumption | (simp (disch := first | omega | (simp only [hNw, hPt]; omega)) only [gn0, gn1, gn2, gn3, gn4, gn5, gp0, gno, gpo] <;> first | rfl | assumption | exact gp0 _ _ _ | exact gn0 _ _)) (by first | rfl | assumption)) rfl (eqr _ (by first | rfl | exact ps | exact pu | exact lpl (by assumption) | (simp [AV.plain, AV.plains, AV.cells, pc, pav, pbv])))) rfl)), ?_⟩
        refine OkP.step ?_
        refine OkO.move rfl rfl ?_
        refine OkO.nil ⟨rfl, ?_⟩
        refine OkP.step ?_
        refine OkO.extract rfl rfl rfl ?_
        refine OkO.nil ⟨rfl, ?_⟩
        refine OkP.step ?_
        refine OkO.extract rfl rfl rfl ?_
        refine OkO.nil ⟨rfl, ?_⟩
        refine OkP.step ?_
        refine OkO.store rfl rfl rfl (stc (n := 2) (ag := true) (by kernel_rfl) (by first | assumption | (simp (disch := first | omega | (simp only [hNw, hPt]; omega)) only [gn0, gn1, gn2, gn3, gn4, gn5, gp0, gno, gpo] <;> first | rfl | assumption | exact gp0 _ _ _ | exact gn0 _ _)) rfl (by first | rfl | assumption) (by first | rfl | exact spl_set _ _ _ (by first | assumption | omega | (simp; omega)))) ?_
        refine OkO.nil ⟨rfl, ?_⟩
        refine OkP.step ?_
        refine OkO.assign rfl rfl ?_
        refine OkO.nil ⟨rfl, ?_⟩
        refine OkP.nil ?_
        refine Ok.seq ?_
        refine Ok.seq ?_
        refine Ok.region ?_
        refine OkO.move rfl rfl ?_
        refine OkO.bin rfl rfl rfl (bin_neq _ _) ?_
        refine OkO.nil ?_
        refine Ok.cond rfl (fun h7 => ?_) (fun h7 => ?_)
        · -- yes h7
          refine Ok.seq ?_
          refine Ok.region ?_
          refine OkO.move rfl rfl ?_
          refine OkO.bin rfl rfl rfl (bin_eql _ _) ?_
          refine OkO.move rfl rfl ?_
          refine OkO.split (d := 108) rfl (fun g8 => ?_) (fun g8 => ?_)
          · -- true g8
            refine OkO.callV rfl rfl rfl rfl rfl (rfl) ?_ -- "sackung/sackunglaw01.wakes"
            refine OkO.pick (b := true) rfl rfl (fun _ => rfl) nofun ?_
            refine OkO.assign rfl rfl ?_
            refine OkO.nil ?_
            refine Ok.ret ⟨.inr rfl, ?_⟩
            exact back_flat rfl rfl rfl (by rw [← hW]; exact (by (try dsimp only); repeat (first | exact gg3 | apply Grow.new | (refine Grow.put ?_ _ (by first | omega | (simp only [hNw, hPt]; omega))))))
          · -- false g8
            have hse : se = 7 := by (rcases hcs with h | h); (· (have h5 := h.2.2.2); simp [h5] at h7); (· exact h.2)
            exact absurd g8 (by simp [hse])
        · -- no h7
          have hse : se = 0 := by (have h9 : ¬ ¬ se = 0 := by simpa using h7); omega
          obtain ⟨hyd, hsa, hsb⟩ : 1 ≤ drive (bedsW cols fr us) ∧ sa = facW cols fr us ∧ sb = facS cols fr us := by (rcases hcs with h | h); (· exact ⟨h.1, h.2.1, h.2.2.1⟩); (· (have := h.2); omega)
          refine Ok.skip ?_
          refine Ok.seq ?_
          refine Ok.seq ?_
          refine Ok.region ?_
          refine OkO.assign rfl rfl ?_
          refine OkO.nil ?_
          refine Ok.block ?_
          refine Ok.loop (fun n8 s_ => ∃ i : Nat, n8 = us.length - i ∧ i ≤ us.length ∧ Has 8 [(7, I (fw % 10001)), (8, av), (9, bv), (15, .ptr H52.next 0), (16, .ptr (H52.next + 1) 0), (18, I (i : Int))] s_.T ∧ s_.D = [] ∧ Grow W s_.H ∧ (s_.H.get H52.next).bind AObj.cs = some [I (fr : Int), bu] ∧ (s_.H.get (H52.next + 1)).bind AObj.cs = some [I sa, I sb] ∧ Row s_.H av 1 (aa.map fun (k : Nat) => [I (k : Int)]) ∧ Row s_.H bv 1 (bb.map fun (k : Nat) => [I (k : Int)])) (us.length) (by unfold loopFuel; omega)
            ⟨0, rfl, Nat.zero_le _, Has.of (by kernel_rfl), rfl, (by (try dsimp only); repeat (first | exact gg3 | apply Grow.new | (refine Grow.put ?_ _ (by first | omega | (simp only [hNw, hPt]; omega))))), (by first | assumption | (rw [gn0]; rfl) | (rw [get_put_eq] <;> rfl) | (simp (disch := first | omega | (simp only [hNw, hPt]; omega)) only [gn0, gn1, gn2, gn3, gn4, gn5, gp0, gno, gpo] <;> first | rfl | assumption | (rw [get_put_eq] <;> rfl))), (by first | assumption | (rw [gn0]; rfl) | (rw [get_put_eq] <;> rfl) | (simp (disch := first | omega | (simp only [hNw, hPt]; omega)) only [gn0, gn1, gn2, gn3, gn4, gn5, gp0, gno, gpo] <;> first | rfl | assumption | (rw [get_put_eq] <;> rfl))), hra.ext (by (try dsimp only); repeat (first | exact exG3 | exact Ext.refl _ | apply Ext.new | (refine Ext.put ?_ _ (by first | omega | (simp only [hNw, hPt]; omega))))), hrb.ext (by (try dsimp only); repeat (first | exact exG3 | exact Ext.refl _ | apply Ext.new | (refine Ext.put ?_ _ (by first | omega | (simp only [hNw, hPt]; omega)))))⟩ ?_
          rintro n8 ⟨T, D, G⟩ ⟨i2, hn8, hi2, ⟨f, hT⟩, hD, hg, y0, y1, hra, hrb⟩
          dsimp only at *
          subst hT hD
          have hgn := hg.next
          refine Ok.seq ?_
          refine Ok.seq ?_
          refine Ok.region ?_
          refine OkO.move rfl rfl ?_
          refine OkO.fieldAddr (o := 1) rfl (by kernel_rfl) rfl ?_
          refine OkO.load rfl rfl (lda (n := 1) (by kernel_rfl) (by first | assumption | (simp (disch := first | omega | (simp only [hNw, hPt]; omega)) only [gn0, gn1, gn2, gn3, gn4, gn5, gp0, gno, gpo] <;> first | rfl | assumption | exact gp0 _ _ _ | exact gn0 _ _)) (by first | rfl | assumption)) ?_
          refine OkO.builtin rfl rfl rfl (bln (by kernel_rfl) (by first | assumption | rfl)) ?_
          refine OkO.bin rfl rfl rfl (bin_lss _ _) ?_
          refine OkO.nil ?_
          refine Ok.cond rfl (fun h9 => ?_) (fun h9 => ?_)
          · -- yes h9
            have hil2 : i2 < us.length := by simpa using h9
            refine Ok.skip ?_
            refine Ok.seq ?_
            refine Ok.block ?_
            refine Ok.seq ?_
            refine Ok.region ?_
            refine OkO.fieldAddr (o := 0) rfl (by kernel_rfl) rfl ?_
            refine OkO.load rfl rfl (lda (n := 1) (by kernel_rfl) (by first | assumption | (simp (disch := first | omega | (simp only [hNw, hPt]; omega)) only [gn0, gn1, gn2, gn3, gn4, gn5, gp0, gno, gpo] <;> first | rfl | assumption | exact gp0 _ _ _ | exact gn0 _ _)) (by first | rfl | assumption)) ?_
            refine OkO.move rfl rfl ?_
            refine OkO.bin rfl rfl rfl (bin_lss _ _) ?_
            refine OkO.move rfl rfl ?_
            refine OkO.split (d := 122) rfl (fun g10 => ?_) (fun g10 => ?_)
            · -- true g10
              have inb : fr + i2 ∈ bb := (mvb.1 _).2 ⟨by omega, fr, us, hs, (below_iff (bedsOk_of hv) (by omega) fr us).2 ⟨hyd, by (have h9 : sa < fw % 10001 := by simpa using g10); omega⟩, by omega, by omega⟩
              refine OkO.move rfl rfl ?_
              refine OkO.fieldAddr (o := 0) rfl (by kernel_rfl) rfl ?_
              refine OkO.load rfl rfl (lda (n := 1) (by kernel_rfl) (by first | assumption | (simp (disch := first | omega | (simp only [hNw, hPt]; omega)) only [gn0, gn1, gn2, gn3, gn4, gn5, gp0, gno, gpo] <;> first | rfl | assumption | exact gp0 _ _ _ | exact gn0 _ _)) (by first | rfl | assumption)) ?_
              refine OkO.move rfl rfl ?_
              refine OkO.bin rfl rfl rfl (bin_add (by omega) (by omega)) ?_
              refine OkO.callV rfl rfl rfl rfl rfl ((by rw [show (fr : Int) + (i2 : Int) = ((fr + i2 : Nat) : Int) from by push_cast; rfl]; exact (c56 (m + 210) bv bb (fr + i2) G hrb (by omega)).trans (by rw [show decide (fr + i2 ∈ bb) = true from by simpa using inb]))) ?_ -- "sackung/sackunglaw01.has"
              refine OkO.un rfl rfl rfl ?_
              refine OkO.pick (b := true) rfl rfl (fun _ => rfl) nofun ?_
              refine OkO.move rfl rfl ?_
              refine OkO.split (d := 131) rfl (fun g11 => ?_) (fun g11 => ?_)
              · -- true g11
                exact absurd g11 (by simp)
              · -- false g11
                refine OkO.fieldAddr (o := 1) rfl (by kernel_rfl) rfl ?_
                refine OkO.load rfl rfl (lda (n := 1) (by kernel_rfl) (by first | assumption | (simp (disch := first | omega | (simp only [hNw, hPt]; omega)) only [gn0, gn1, gn2, gn3, gn4, gn5, gp0, gno, gpo] <;> first | rfl | assumption | exact gp0 _ _ _ | exact gn0 _ _)) (by first | rfl | assumption)) ?_
                refine OkO.move rfl rfl ?_
                refine OkO.bin rfl rfl rfl (bin_lss _ _) ?_
                refine OkO.move rfl rfl ?_
                refine OkO.split (d := 136) rfl (fun g12 => ?_) (fun g12 => ?_)
                · -- true g12
                  have ina : fr + i2 ∈ aa := (mva.1 _).2 ⟨by omega, fr, us, hs, (belowS_iff (bedsOk_of hv) (by omega) fr us).2 ⟨hyd, by (have h9 : sb < fw % 10001 := by simpa using g12); omega⟩, by omega, by omega⟩
                  refine OkO.move rfl rfl ?_
                  refine OkO.fieldAddr (o := 0) rfl (by kernel_rfl) rfl ?_
                  refine OkO.load rfl rfl (lda (n := 1) (by kernel_rfl) (by first | assumption | (simp (disch := first | omega | (simp only [hNw, hPt]; omega)) only [gn0, gn1, gn2, gn3, gn4, gn5, gp0, gno, gpo] <;> first | rfl | assumption | exact gp0 _ _ _ | exact gn0 _ _)) (by first | rfl | assumption)) ?_
                  refine OkO.move rfl rfl ?_
                  refine OkO.bin rfl rfl rfl (bin_add (by omega) (by omega)) ?_
                  refine OkO.callV rfl rfl rfl rfl rfl ((by rw [show (fr : Int) + (i2 : Int) = ((fr + i2 : Nat) : Int) from by push_cast; rfl]; exact (c56 (m + 210) av aa (fr + i2) G hra (by omega)).trans (by rw [show decide (fr + i2 ∈ aa) = true from by simpa using ina]))) ?_ -- "sackung/sackunglaw01.has"
                  refine OkO.un rfl rfl rfl ?_
                  refine OkO.pick (b := true) rfl rfl (fun _ => rfl) nofun ?_
                  refine OkO.pick (b := false) rfl rfl nofun (fun _ => rfl) ?_
                  refine OkO.nil ?_
                  refine Ok.cond rfl (fun h13 => ?_) (fun h13 => ?_)
                  · -- yes h13
                    exact absurd h13 (by simp)
                  · -- no h13
                    refine Ok.skip ?_
                    refine Ok.region ?_
                    refine OkO.move rfl rfl ?_
                    refine OkO.bin rfl rfl rfl (bin_add (by omega) (by omega)) ?_
                    refine OkO.assign rfl rfl ?_
                    refine OkO.nil ?_
                    exact ⟨us.length - (i2 + 1), by omega, i2 + 1, rfl, by omega, Has.of (by kernel_rfl), rfl, hg, y0, y1, hra, hrb⟩
                · -- false g12
                  refine OkO.skip rfl ?_
                  refine OkO.skip rfl ?_
                  refine OkO.skip rfl ?_
                  refine OkO.skip rfl ?_
                  refine OkO.skip rfl ?_
                  refine OkO.skip rfl ?_
                  refine OkO.skip rfl ?_
                  refine OkO.pick (b := false) rfl rfl nofun (fun _ => rfl) ?_
                  refine OkO.pick (b := false) rfl rfl nofun (fun _ => rfl) ?_
                  refine OkO.nil ?_
                  refine Ok.condF rfl ?_
                  refine Ok.skip ?_
                  refine Ok.region ?_
                  refine OkO.move rfl rfl ?_
                  refine OkO.bin rfl rfl rfl (bin_add (by omega) (by omega)) ?_
                  refine OkO.assign rfl rfl ?_
                  refine OkO.nil ?_
                  exact ⟨us.length - (i2 + 1), by omega, i2 + 1, rfl, by omega, Has.of (by kernel_rfl), rfl, hg, y0, y1, hra, hrb⟩
            · -- false g10
              refine OkO.skip rfl ?_
              refine OkO.skip rfl ?_
              refine OkO.skip rfl ?_
              refine OkO.skip rfl ?_
              refine OkO.skip rfl ?_
              refine OkO.skip rfl ?_
              refine OkO.skip rfl ?_
              refine OkO.pick (b := false) rfl rfl nofun (fun _ => rfl) ?_
              refine OkO.move rfl rfl ?_
              refine OkO.fieldAddr (o := 1) rfl (by kernel_rfl) rfl ?_
              refine OkO.load rfl rfl (lda (n := 1) (by kernel_rfl) (by first | assumption | (simp (disch := first | omega | (simp only [hNw, hPt]; omega)) only [gn0, gn1, gn2, gn3, gn4, gn5, gp0, gno, gpo] <;> first | rfl | assumption | exact gp0 _ _ _ | exact gn0 _ _)) (by first | rfl | assumption)) ?_
              refine OkO.move rfl rfl ?_
              refine OkO.bin rfl rfl rfl (bin_lss _ _) ?_
              refine OkO.move rfl rfl ?_
              refine OkO.split (d := 136) rfl (fun g14 => ?_) (fun g14 => ?_)
              · -- true g14
                have ina : fr + i2 ∈ aa := (mva.1 _).2 ⟨by omega, fr, us, hs, (belowS_iff (bedsOk_of hv) (by omega) fr us).2 ⟨hyd, by (have h9 : sb < fw % 10001 := by simpa using g14); omega⟩, by omega, by omega⟩
                refine OkO.move rfl rfl ?_
                refine OkO.fieldAddr (o := 0) rfl (by kernel_rfl) rfl ?_
                refine OkO.load rfl rfl (lda (n := 1) (by kernel_rfl) (by first | assumption | (simp (disch := first | omega | (simp only [hNw, hPt]; omega)) only [gn0, gn1, gn2, gn3, gn4, gn5, gp0, gno, gpo] <;> first | rfl | assumption | exact gp0 _ _ _ | exact gn0 _ _)) (by first | rfl | assumption)) ?_
                refine OkO.move rfl rfl ?_
                refine OkO.bin rfl rfl rfl (bin_add (by omega) (by omega)) ?_
                refine OkO.callV rfl rfl rfl rfl rfl ((by rw [show (fr : Int) + (i2 : Int) = ((fr + i2 : Nat) : Int) from by push_cast; rfl]; exact (c56 (m + 210) av aa (fr + i2) G hra (by omega)).trans (by rw [show decide (fr + i2 ∈ aa) = true from by simpa using ina]))) ?_ -- "sackung/sackunglaw01.has"
                refine OkO.un rfl rfl rfl ?_
                refine OkO.pick (b := true) rfl rfl (fun _ => rfl) nofun ?_
                refine OkO.pick (b := false) rfl rfl nofun (fun _ => rfl) ?_
                refine OkO.nil ?_
                refine Ok.cond rfl (fun h15 => ?_) (fun h15 => ?_)
                · -- yes h15
                  exact absurd h15 (by simp)
                · -- no h15
                  refine Ok.skip ?_
                  refine Ok.region ?_
                  refine OkO.move rfl rfl ?_
                  refine OkO.bin rfl rfl rfl (bin_add (by omega) (by omega)) ?_
                  refine OkO.assign rfl rfl ?_
                  refine OkO.nil ?_
                  exact ⟨us.length - (i2 + 1), by omega, i2 + 1, rfl, by omega, Has.of (by kernel_rfl), rfl, hg, y0, y1, hra, hrb⟩
              · -- false g14
                refine OkO.skip rfl ?_
                refine OkO.skip rfl ?_
                refine OkO.skip rfl ?_
                refine OkO.skip rfl ?_
                refine OkO.skip rfl ?_
                refine OkO.skip rfl ?_
                refine OkO.skip rfl ?_
                refine OkO.pick (b := false) rfl rfl nofun (fun _ => rfl) ?_
                refine OkO.pick (b := false) rfl rfl nofun (fun _ => rfl) ?_
                refine OkO.nil ?_
                refine Ok.condF rfl ?_
                refine Ok.skip ?_
                refine Ok.region ?_
                refine OkO.move rfl rfl ?_
                refine OkO.bin rfl rfl rfl (bin_add (by omega) (by omega)) ?_
                refine OkO.assign rfl rfl ?_
                refine OkO.nil ?_
                exact ⟨us.length - (i2 + 1), by omega, i2 + 1, rfl, by omega, Has.of (by kernel_rfl), rfl, hg, y0, y1, hra, hrb⟩
          · -- no h9
            refine Ok.exit ?_
            refine Ok.seq ?_
            refine Ok.region ?_
            refine OkO.callV rfl rfl rfl rfl rfl (rfl) ?_ -- "sackung/sackunglaw01.wakes"
            refine OkO.assign rfl rfl ?_
            refine OkO.nil ?_
            refine Ok.ret ⟨.inr rfl, ?_⟩
            exact back_flat rfl rfl rfl (by rw [← hW]; exact hg)
theorem c14N (m : Nat) (cv wv : AV) (cols : List (List Bed)) (least fw : Int) (ws : List Int) (H : Heap) (hM : Mat H cv cols) (hWs : Row H wv 1 (ws.map fun w => [U8 w])) (hws : Upto 255 ws) (hfw : 0 ≤ fw ∧ fw ≤ 65535) (hth : thinB cols = true) (hv : slOk cols least = true) (hlc : least ≤ cols.length) (hrd : readyS cols least = true) (hcase : NoneAt cols (cols.headD []).length least) : RR (m + 212) (.fn 14 [.agg [cv, I least], wv, U16 fw]) H = some (.bool true, H) := by
  refine (R_fn _ _ _ _ _).trans ?_
  refine fn_ok Try.func14 rfl rfl (by kernel_rfl) (by kernel_rfl) ?_
  obtain ⟨W, hW⟩ : ∃ W : Heap, W = ⟨H.t, H.next, H.next⟩ := ⟨_, rfl⟩
  have hg : ∀ n, W.get n = H.get n := fun n => by rw [hW]; rfl
  have hN : W.next = H.next := by rw [hW]
  have hE : ∀ G, Grow W G → Ext H G := fun G g => ⟨by rw [← hN]; exact g.next, fun n k => by rw [g.get n (by rw [hN]; exact k), hg]⟩
  have hG : Grow W W := Grow.refl (by rw [hW]; exact Nat.le_refl _)
  rw [← hW]
  have pc : cv.plain = true := by obtain ⟨vs, hR, _, _⟩ := hM; exact lpl hR.len
  have ps : AV.plain (.agg [cv, I least]) = true := by simp [AV.plain, AV.plains, pc]
  have hsf := slOk_facts hv
  have hfm1 := Int.emod_nonneg fw (b := 10001) (by omega)
  have hfm2 := Int.emod_lt_of_pos fw (b := 10001) (by omega)
  refine Ok.seq ?_
  refine Ok.region ?_
  refine OkO.box rfl rfl ?_
  refine OkO.assign rfl rfl ?_
  refine OkO.nil ?_
  refine Ok.seq ?_
  refine Ok.seq ?_
  refine Ok.region ?_
  refine OkO.load rfl rfl (ldg (n := 2) (by kernel_rfl) (by first | assumption | (simp (disch := first | omega | (simp only [hNw, hPt]; omega)) only [gn0, gn1, gn2, gn3, gn4, gn5, gp0, gno, gpo] <;> first | rfl | assumption | exact gp0 _ _ _ | exact gn0 _ _)) (by first | rfl | assumption)) ?_
  refine OkO.callV rfl rfl rfl rfl rfl ((c51 (m + 208) cv cols least _ (hM.ext (hE _ (by (try dsimp only); repeat (first | exact hG | apply Grow.new | (refine Grow.put ?_ _ (by first | omega | (simp only [hNw, hPt]; omega)))))))).trans (by rw [hrd])) ?_ -- "sackung/sackunglaw01.ready"
  refine OkO.un rfl rfl rfl ?_
  refine OkO.nil ?_
  refine Ok.cond rfl (fun h1 => ?_) (fun h1 => ?_)
  · -- yes h1
    exact absurd h1 (by simp)
  · -- no h1
    refine Ok.skip ?_
    refine Ok.seq ?_
    refine Ok.region ?_
    refine OkO.move rfl rfl ?_
    refine OkO.convert (k := .i64) rfl (by kernel_rfl) rfl (wrapF_i64 (by omega) (by omega)) ?_
    refine OkO.bin rfl rfl rfl (bin_rem (by omega) (by omega)) ?_
    refine OkO.assign rfl rfl ?_
    refine OkO.nil ?_
    refine Ok.seq ?_
    refine Ok.region ?_
    refine OkO.load rfl rfl (ldg (n := 2) (by kernel_rfl) (by first | assumption | (simp (disch := first | omega | (simp only [hNw, hPt]; omega)) only [gn0, gn1, gn2, gn3, gn4, gn5, gp0, gno, gpo] <;> first | rfl | assumption | exact gp0 _ _ _ | exact gn0 _ _)) (by first | rfl | assumption)) ?_
    refine OkO.callE rfl rfl rfl rfl rfl (c19 (m + 209) cv cols least _ (hM.ext (hE _ (by (try dsimp only); repeat (first | exact hG | apply Grow.new | (refine Grow.put ?_ _ (by first | omega | (simp only [hNw, hPt]; omega))))))) hth) ?_ -- "sackung/sackunglaw01.Slope"
    rintro _ Ha1 ⟨cv1, rfl, qa1, fa1⟩
    have n1 := qa1.ext.next
    try simp only [hNw, hPt] at n1
    have gg1 : Grow W Ha1 := Grow.ret (by (try dsimp only); repeat (first | exact hG | apply Grow.new | (refine Grow.put ?_ _ (by first | omega | (simp only [hNw, hPt]; omega))))) qa1
    have a1 : (Ha1.get (W.next)).bind AObj.cs = some [cv, I least] := by rw [qa1.ext.get _ (by first | omega | (simp only [hNw, hPt]; omega))]; first | assumption | (rw [gn0]; rfl) | (rw [get_put_eq] <;> rfl) | (simp (disch := first | omega | (simp only [hNw, hPt]; omega)) only [gn0, gn1, gn2, gn3, gn4, gn5, gp0, gno, gpo] <;> first | rfl | assumption | (rw [get_put_eq] <;> rfl))
    have ma1 := fa1.now (Nat.le_refl _)
    refine OkO.move rfl rfl ?_
    refine OkO.callE rfl rfl rfl rfl rfl (c45 (m + 2) cv1 cols least (fw % 10001) _ ma1 hv (by omega)) ?_ -- "sackung/slope.Moves"
    rintro _ Hm ⟨aa, bb, av, bv, rfl, qm, hma, hmb, mva, mvb⟩
    have n2 := qm.ext.next
    try simp only [hNw, hPt] at n2
    have gg2 : Grow W Hm := Grow.ret (by (try dsimp only); repeat (first | exact gg1 | apply Grow.new | (refine Grow.put ?_ _ (by first | omega | (simp only [hNw, hPt]; omega))))) qm
    have a2 : (Hm.get (W.next)).bind AObj.cs = some [cv, I least] := by rw [qm.ext.get _ (by first | omega | (simp only [hNw, hPt]; omega))]; first | assumption | (rw [gn0]; rfl) | (rw [get_put_eq] <;> rfl) | (simp (disch := first | omega | (simp only [hNw, hPt]; omega)) only [gn0, gn1, gn2, gn3, gn4, gn5, gp0, gno, gpo] <;> first | rfl | assumption | (rw [get_put_eq] <;> rfl))
    have hRa : Row Hm av 1 (aa.map fun (k : Nat) => [I (k : Int)]) := Mine.row (by rw [flatN]; exact hma) (fun x hx => by simp only [List.mem_map] at hx; obtain ⟨y, _, rfl⟩ := hx; rfl) (by omega)
    have hRb : Row Hm bv 1 (bb.map fun (k : Nat) => [I (k : Int)]) := Mine.row (by rw [flatN]; exact hmb) (fun x hx => by simp only [List.mem_map] at hx; obtain ⟨y, _, rfl⟩ := hx; rfl) (by omega)
    have hal : lenOf av = some aa.length := by simpa using hRa.len
    have hbl : lenOf bv = some bb.length := by simpa using hRb.len
    have pav := lpl hal
    have pbv := lpl hbl
    have hal9 := mva.len
    have hbl9 := mvb.len
    refine OkO.move rfl rfl ?_
    refine OkO.extract rfl rfl rfl ?_
    refine OkO.extract rfl rfl rfl ?_
    refine OkO.extract rfl rfl rfl ?_
    refine OkO.assign rfl rfl ?_
    refine OkO.assign rfl rfl ?_
    refine OkO.assign rfl rfl ?_
    refine OkO.nil ?_
    refine Ok.seq ?_
    refine Ok.region ?_
    refine OkO.load rfl rfl (ldg (n := 2) (by kernel_rfl) (by first | assumption | (simp (disch := first | omega | (simp only [hNw, hPt]; omega)) only [gn0, gn1, gn2, gn3, gn4, gn5, gp0, gno, gpo] <;> first | rfl | assumption | exact gp0 _ _ _ | exact gn0 _ _)) (by first | rfl | assumption)) ?_
    refine OkO.callE rfl rfl rfl rfl rfl (c19 (m + 209) cv cols least _ (hM.ext (hE _ (by (try dsimp only); repeat (first | exact gg2 | apply Grow.new | (refine Grow.put ?_ _ (by first | omega | (simp only [hNw, hPt]; omega))))))) hth) ?_ -- "sackung/sackunglaw01.Slope"
    rintro _ Ha2 ⟨cv2, rfl, qa2, fa2⟩
    have n3 := qa2.ext.next
    try simp only [hNw, hPt] at n3
    have gg3 : Grow W Ha2 := Grow.ret (by (try dsimp only); repeat (first | exact gg2 | apply Grow.new | (refine Grow.put ?_ _ (by first | omega | (simp only [hNw, hPt]; omega))))) qa2
    have a3 : (Ha2.get (W.next)).bind AObj.cs = some [cv, I least] := by rw [qa2.ext.get _ (by first | omega | (simp only [hNw, hPt]; omega))]; first | assumption | (rw [gn0]; rfl) | (rw [get_put_eq] <;> rfl) | (simp (disch := first | omega | (simp only [hNw, hPt]; omega)) only [gn0, gn1, gn2, gn3, gn4, gn5, gp0, gno, gpo] <;> first | rfl | assumption | (rw [get_put_eq] <;> rfl))
    have exHm3 : Ext Hm Ha2 := Ext.trans (by (try dsimp only); repeat (first | exact Ext.refl _ | exact Ext.refl _ | apply Ext.new | (refine Ext.put ?_ _ (by first | omega | (simp only [hNw, hPt]; omega))))) qa2.ext
    have ma2 := fa2.now (Nat.le_refl _)
    refine OkO.callE rfl rfl rfl rfl rfl (c31' m cv2 cols least _ ma2 hv) ?_ -- "sackung/slope.Worst"
    rintro _ Hw ⟨qw, x31, y31, z31, e31, rfl, at31, hd31⟩
    have n4 := qw.ext.next
    try simp only [hNw, hPt] at n4
    have gg4 : Grow W Hw := Grow.ret (by (try dsimp only); repeat (first | exact gg3 | apply Grow.new | (refine Grow.put ?_ _ (by first | omega | (simp only [hNw, hPt]; omega))))) qw
    have a4 : (Hw.get (W.next)).bind AObj.cs = some [cv, I least] := by rw [qw.ext.get _ (by first | omega | (simp only [hNw, hPt]; omega))]; first | assumption | (rw [gn0]; rfl) | (rw [get_put_eq] <;> rfl) | (simp (disch := first | omega | (simp only [hNw, hPt]; omega)) only [gn0, gn1, gn2, gn3, gn4, gn5, gp0, gno, gpo] <;> first | rfl | assumption | (rw [get_put_eq] <;> rfl))
    have exHm4 : Ext Hm Hw := Ext.trans (by (try dsimp only); repeat (first | exact exHm3 | exact Ext.refl _ | apply Ext.new | (refine Ext.put ?_ _ (by first | omega | (simp only [hNw, hPt]; omega))))) qw.ext
    have w31 := worstIs_of hd31
    obtain ⟨he31, hz31⟩ : e31 = 7 ∧ z31 = 0 := by (rcases w31 with ⟨_, fr, us, h⟩ | ⟨h, h2, _⟩); (· exact absurd (hcase fr us h.1) (by have := h.2.1; omega)); (· exact ⟨h, h2⟩)
    subst he31
    have hwb := worst_below (fa := fw % 10001) (bedsOk_of hv) w31 (by omega)
    have hnb := mvb.nil_iff
    have hzb := nil_none hwb hnb
    refine OkO.move rfl rfl ?_
    refine OkO.extract rfl rfl rfl ?_
    refine OkO.extract rfl rfl rfl ?_
    refine OkO.extract rfl rfl rfl ?_
    refine OkO.alloc (z := [.int .i64 0, .nils]) rfl (by kernel_rfl) ?_
    refine OkO.store rfl rfl rfl (stc (n := 2) (ag := true) (by kernel_rfl) (by first | assumption | (simp (disch := first | omega | (simp only [hNw, hPt]; omega)) only [gn0, gn1, gn2, gn3, gn4, gn5, gp0, gno, gpo] <;> first | rfl | assumption | exact gp0 _ _ _ | exact gn0 _ _)) rfl (by first | rfl | assumption) (by first | rfl | exact spl_set _ _ _ (by first | assumption | omega | (simp; omega)))) ?_
    refine OkO.assign rfl rfl ?_
    refine OkO.assign rfl rfl ?_
    refine OkO.nil ?_
    refine Ok.seq ?_
    refine Ok.seq ?_
    refine Ok.region ?_
    refine OkO.move rfl rfl ?_
    refine OkO.bin rfl rfl rfl (bin_neq _ _) ?_
    refine OkO.move rfl rfl ?_
    refine OkO.move rfl rfl ?_
    refine OkO.bin rfl rfl rfl (bin_neq _ _) ?_
    refine OkO.move rfl rfl ?_
    refine OkO.move rfl rfl ?_
    refine OkO.bin rfl rfl rfl (bin_neq _ _) ?_
    refine OkO.pick (b := true) rfl rfl (fun _ => rfl) nofun ?_
    refine OkO.pick (b := false) rfl rfl nofun (fun _ => rfl) ?_
    refine OkO.move rfl rfl ?_
    refine OkO.move rfl rfl ?_
    refine OkO.builtin rfl rfl rfl (bln (by kernel_rfl) (by first | assumption | rfl)) ?_
    refine OkO.bin rfl rfl rfl (bin_eql _ _) ?_
    refine OkO.move rfl rfl ?_
    refine OkO.bin rfl rfl rfl (bin_eql _ _) ?_
    refine OkO.move rfl rfl ?_
    refine OkO.skip rfl ?_
    refine OkO.skip rfl ?_
    refine OkO.skip rfl ?_
    refine OkO.pick (b := true) rfl rfl (fun _ => rfl) nofun ?_
    refine OkO.binT rfl rfl rfl (by rfl) ?_
    refine OkO.pick (b := false) rfl rfl nofun (fun _ => rfl) ?_
    refine OkO.nil ?_
    refine Ok.cond rfl (fun h2 => ?_) (fun h2 => ?_)
    · -- yes h2
      exact absurd h2 (by simp [hzb])
    · -- no h2
      refine Ok.skip ?_
      refine Ok.seq ?_
      refine Ok.seq ?_
      refine Ok.region ?_
      refine OkO.assign rfl rfl ?_
      refine OkO.nil ?_
      refine Ok.block ?_
      refine Ok.loop (fun n9 s_ => ∃ i : Nat, n9 = aa.length - i ∧ i ≤ aa.length ∧ Has 8 [(1, wv), (3, .ptr W.next 0), (7, I (fw % 10001)), (8, av), (9, bv), (14, I (i : Int))] s_.T ∧ s_.D = [] ∧ Grow W s_.H ∧ W.next + 1 ≤ s_.H.next ∧ (s_.H.get W.next).bind AObj.cs = some [cv, I least] ∧ Row s_.H av 1 (aa.map fun (k : Nat) => [I (k : Int)]) ∧ Row s_.H bv 1 (bb.map fun (k : Nat) => [I (k : Int)])) (aa.length) (by unfold loopFuel; omega)
        ⟨0, rfl, Nat.zero_le _, Has.of (by kernel_rfl), rfl, (by (try dsimp only); repeat (first | exact gg4 | apply Grow.new | (refine Grow.put ?_ _ (by first | omega | (simp only [hNw, hPt]; omega))))), (by first | omega | (simp only [hNw, hPt]; omega)), (by first | assumption | (rw [gn0]; rfl) | (rw [get_put_eq] <;> rfl) | (simp (disch := first | omega | (simp only [hNw, hPt]; omega)) only [gn0, gn1, gn2, gn3, gn4, gn5, gp0, gno, gpo] <;> first | rfl | assumption | (rw [get_put_eq] <;> rfl))), hRa.ext (by (try dsimp only); repeat (first | exact exHm4 | exact Ext.refl _ | apply Ext.new | (refine Ext.put ?_ _ (by first | omega | (simp only [hNw, hPt]; omega))))), hRb.ext (by (try dsimp only); repeat (first | exact exHm4 | exact Ext.refl _ | apply Ext.new | (refine Ext.put ?_ _ (by first | omega | (simp only [hNw, hPt]; omega)))))⟩ ?_
      rintro n9 ⟨T, D, G⟩ ⟨i, hn9, hi, ⟨f, hT⟩, hD, hg, hgx, f0, hra, hrb⟩
      dsimp only at *
      subst hT hD
      have hgn := hg.next
      refine Ok.seq ?_
      refine Ok.seq ?_
      refine Ok.region ?_
      refine OkO.move rfl rfl ?_
      refine OkO.move rfl rfl ?_
      refine OkO.builtin rfl rfl rfl (bln (by kernel_rfl) (by first | assumption | rfl)) ?_
      refine OkO.bin rfl rfl rfl (bin_lss _ _) ?_
      refine OkO.nil ?_
      refine Ok.cond rfl (fun h3 => ?_) (fun h3 => ?_)
      · -- yes h3
        have hil : i < aa.length := by simpa using h3
        obtain ⟨y, hy⟩ : ∃ y, aa[i]? = some y := ⟨_, List.getElem?_eq_getElem hil⟩
        obtain ⟨ub, uo, ucs, u1, u2, u3, u4⟩ := hra.at_ i [I (y : Int)] (by rw [List.getElem?_map, hy]; rfl)
        have u5 := seg_one u3
        refine Ok.skip ?_
        refine Ok.seq ?_
        refine Ok.block ?_
        refine Ok.seq ?_
        refine Ok.drawn [(0, true, []), (1, true, []), (2, true, []), (3, true, []), (4, true, []), (5, false, []), (6, true, []), (7, true, []), (8, true, []), (9, true, []), (10, true, []), (11, true, []), (12, true, []), (13, true, []), (14, true, []), (15, true, []), (16, true, []), (17, true, []), (18, true, []), (19, true, []), (20, true, []), (21, true, []), (22, true, [])] (by kernel_rfl) ?_
        refine OkP.step ?_
        refine OkO.move rfl rfl ?_
        refine OkO.nil ⟨rfl, ?_⟩
        refine OkP.step ?_
        refine OkO.move rfl rfl ?_
        refine OkO.nil ⟨rfl, ?_⟩
        refine OkP.step ?_
        refine OkO.move rfl rfl ?_
        refine OkO.nil ⟨rfl, ?_⟩
        refine OkP.step ?_
        refine OkO.index (sz := 1) (n := i) rfl rfl rfl (by kernel_rfl) (by first | assumption | rfl | exact slAt_slice (by omega) | exact slAt_opn (by omega)) ?_ -- index ('Go.Operand.tmp', 71) ('Go.Operand.tmp', 72)
        refine OkO.nil ⟨rfl, ?_⟩
        refine OkP.step ?_
        refine OkO.load rfl rfl (lda (n := 1) (by kernel_rfl) (by first | assumption | (simp (disch := first | omega | (simp only [hNw, hPt]; omega)) only [gn0, gn1, gn2, gn3, gn4, gn5, gp0, gno, gpo] <;> first | rfl | assumption | exact gp0 _ _ _ | exact gn0 _ _)) (by first | rfl | assumption)) ?_
        refine OkO.nil ⟨rfl, ?_⟩
        refine OkP.step ?_
        refine OkO.callV rfl rfl rfl rfl rfl ((c56 (m + 210) bv bb y G hrb (by omega)).trans (by rw [show decide (y ∈ bb) = true from by simpa using mva.sub (bedsOk_of hv) mvb (List.mem_of_getElem? hy)])) ?_ -- "sackung/sackunglaw01.has"
        refine OkO.nil ⟨rfl, ?_⟩
        refine OkP.step ?_
        refine OkO.un rfl rfl rfl ?_
        refine OkO.nil ⟨rfl, ?_⟩
        refine OkP.step ?_
        refine OkO.move rfl rfl ?_
        refine OkO.nil ⟨rfl, ?_⟩
        refine OkP.split (d := 77) rfl (fun g4 => ?_) (fun g4 => ?_)
        · -- true g4
          exact absurd g4 (by simp)
        · -- false g4
          refine OkP.step ?_
          refine OkO.move rfl rfl ?_
          refine OkO.nil ⟨rfl, ?_⟩
          refine OkP.step ?_
          refine OkO.bin rfl rfl rfl (bin_gtr _ _) ?_
          refine OkO.nil ⟨rfl, ?_⟩
          refine OkP.step ?_
          refine OkO.move rfl rfl ?_
          refine OkO.nil ⟨rfl, ?_⟩
          refine OkP.split (d := 80) rfl (fun g5 => ?_) (fun g5 => ?_)
          · -- true g5
            have hi0 : 0 < i := by simpa using g5
            obtain ⟨y0, hy0⟩ : ∃ y0, aa[i - 1]? = some y0 := ⟨_, List.getElem?_eq_getElem (by omega)⟩
            obtain ⟨vb, vo, vcs, v1, v2, v3, v4⟩ := hra.at_ (i - 1) [I (y0 : Int)] (by rw [List.getElem?_map, hy0]; rfl)
            have v5 := seg_one v3
            have hyy : y0 < y := by (have h9 := List.pairwise_iff_getElem.1 mva.2 (i - 1) i (by omega) hil (by omega)); (rw [List.getElem?_eq_getElem (by omega)] at hy hy0); (cases hy; cases hy0; exact h9)
            refine OkP.step ?_
            refine OkO.move rfl rfl ?_
            refine OkO.nil ⟨rfl, ?_⟩
            refine OkP.step ?_
            refine OkO.move rfl rfl ?_
            refine OkO.nil ⟨rfl, ?_⟩
            refine OkP.step ?_
            refine OkO.index (sz := 1) (n := i) rfl rfl rfl (by kernel_rfl) (by first | assumption | rfl | exact slAt_slice (by omega) | exact slAt_opn (by omega)) ?_ -- index ('Go.Operand.tmp', 81) ('Go.Operand.tmp', 82)
            refine OkO.nil ⟨rfl, ?_⟩
            refine OkP.step ?_
            refine OkO.load rfl rfl (lda (n := 1) (by kernel_rfl) (by first | assumption | (simp (disch := first | omega | (simp only [hNw, hPt]; omega)) only [gn0, gn1, gn2, gn3, gn4, gn5, gp0, gno, gpo] <;> first | rfl | assumption | exact gp0 _ _ _ | exact gn0 _ _)) (by first | rfl | assumption)) ?_
            refine OkO.nil ⟨rfl, ?_⟩
            refine OkP.step ?_
            refine OkO.move rfl rfl ?_
            refine OkO.nil ⟨rfl, ?_⟩
            refine OkP.step ?_
            refine OkO.move rfl rfl ?_
            refine OkO.nil ⟨rfl, ?_⟩
            refine OkP.step ?_
            refine OkO.bin rfl rfl rfl (bin_sub (by omega) (by omega)) ?_
            refine OkO.nil ⟨rfl, ?_⟩
            refine OkP.step ?_
            refine OkO.index (sz := 1) (n := i - 1) rfl rfl (congrArg (fun z => some (I z)) (by omega)) (by kernel_rfl) (by first | assumption | rfl | exact slAt_slice (by omega) | exact slAt_opn (by omega)) ?_ -- index ('Go.Operand.tmp', 85) ('Go.Operand.tmp', 87)
            refine OkO.nil ⟨rfl, ?_⟩
            refine OkP.step ?_
            refine OkO.load rfl rfl (lda (n := 1) (by kernel_rfl) (by first | assumption | (simp (disch := first | omega | (simp only [hNw, hPt]; omega)) only [gn0, gn1, gn2, gn3, gn4, gn5, gp0, gno, gpo] <;> first | rfl | assumption | exact gp0 _ _ _ | exact gn0 _ _)) (by first | rfl | assumption)) ?_
            refine OkO.nil ⟨rfl, ?_⟩
            refine OkP.step ?_
            refine OkO.bin rfl rfl rfl (bin_leq _ _) ?_
            refine OkO.nil ⟨rfl, ?_⟩
            refine OkP.step ?_
            refine OkO.pick (b := true) rfl rfl (fun _ => rfl) nofun ?_
            refine OkO.nil ⟨rfl, ?_⟩
            refine OkP.step ?_
            refine OkO.pick (b := false) rfl rfl nofun (fun _ => rfl) ?_
            refine OkO.nil ⟨rfl, ?_⟩
            refine OkP.nil ?_
            refine Ok.cond rfl (fun h6 => ?_) (fun h6 => ?_)
            · -- yes h6
              exact absurd h6 (by simp; omega)
            · -- no h6
              refine Ok.skip ?_
              refine Ok.region ?_
              refine OkO.move rfl rfl ?_
              refine OkO.bin rfl rfl rfl (bin_add (by omega) (by omega)) ?_
              refine OkO.assign rfl rfl ?_
              refine OkO.nil ?_
              exact ⟨aa.length - (i + 1), by omega, i + 1, rfl, by omega, Has.of (by kernel_rfl), rfl, hg, hgx, f0, hra, hrb⟩
          · -- false g5
            refine OkP.step ?_
            refine OkO.skip rfl ?_
            refine OkO.nil ⟨rfl, ?_⟩
            refine OkP.step ?_
            refine OkO.skip rfl ?_
            refine OkO.nil ⟨rfl, ?_⟩
            refine OkP.step ?_
            refine OkO.skip rfl ?_
            refine OkO.nil ⟨rfl, ?_⟩
            refine OkP.step ?_
            refine OkO.skip rfl ?_
            refine OkO.nil ⟨rfl, ?_⟩
            refine OkP.step ?_
            refine OkO.skip rfl ?_
            refine OkO.nil ⟨rfl, ?_⟩
            refine OkP.step ?_
            refine OkO.skip rfl ?_
            refine OkO.nil ⟨rfl, ?_⟩
            refine OkP.step ?_
            refine OkO.skip rfl ?_
            refine OkO.nil ⟨rfl, ?_⟩
            refine OkP.step ?_
            refine OkO.skip rfl ?_
            refine OkO.nil ⟨rfl, ?_⟩
            refine OkP.step ?_
            refine OkO.skip rfl ?_
            refine OkO.nil ⟨rfl, ?_⟩
            refine OkP.step ?_
            refine OkO.skip rfl ?_
            refine OkO.nil ⟨rfl, ?_⟩
            refine OkP.step ?_
            refine OkO.pick (b := false) rfl rfl nofun (fun _ => rfl) ?_
            refine OkO.nil ⟨rfl, ?_⟩
            refine OkP.step ?_
            refine OkO.pick (b := false) rfl rfl nofun (fun _ => rfl) ?_
            refine OkO.nil ⟨rfl, ?_⟩
            refine OkP.nil ?_
            refine Ok.condF rfl ?_
            refine Ok.skip ?_
            refine Ok.region ?_
            refine OkO.move rfl rfl ?_
            refine OkO.bin rfl rfl rfl (bin_add (by omega) (by omega)) ?_
            refine OkO.assign rfl rfl ?_
            refine OkO.nil ?_
            exact ⟨aa.length - (i + 1), by omega, i + 1, rfl, by omega, Has.of (by kernel_rfl), rfl, hg, hgx, f0, hra, hrb⟩
      · -- no h3
        have hil : i = aa.length := by (have : ¬ i < aa.length := by simpa using h3); omega
        refine Ok.exit ?_
        refine Ok.seq ?_
        refine Ok.region ?_
        refine OkO.load rfl rfl (ldg (n := 2) (by kernel_rfl) (by first | assumption | (simp (disch := first | omega | (simp only [hNw, hPt]; omega)) only [gn0, gn1, gn2, gn3, gn4, gn5, gp0, gno, gpo] <;> first | rfl | assumption | exact gp0 _ _ _ | exact gn0 _ _)) (by first | rfl | assumption)) ?_
        refine OkO.move rfl rfl ?_
        refine OkO.callE rfl rfl rfl rfl rfl (c52 (m + 209) (cols.headD []).length cv wv cols least ws _ (hM.ext (hE _ (by (try dsimp only); repeat (first | exact hg | apply Grow.new | (refine Grow.put ?_ _ (by first | omega | (simp only [hNw, hPt]; omega))))))) (hWs.ext (hE _ (by (try dsimp only); repeat (first | exact hg | apply Grow.new | (refine Grow.put ?_ _ (by first | omega | (simp only [hNw, hPt]; omega))))))) hws hv rfl hlc) ?_ -- "sackung/sackunglaw01.Path"
        rintro v52 H52 ⟨fr, us, bu, rfl, q52, m52, nn52, hs, hlu⟩
        have n1 := q52.ext.next
        try simp only [hNw, hPt] at n1
        have gg1 : Grow W H52 := Grow.ret (by (try dsimp only); repeat (first | exact hg | apply Grow.new | (refine Grow.put ?_ _ (by first | omega | (simp only [hNw, hPt]; omega))))) q52
        have b1 : (H52.get (W.next)).bind AObj.cs = some [cv, I least] := by rw [q52.ext.get _ (by first | omega | (simp only [hNw, hPt]; omega))]; first | assumption | (rw [gn0]; rfl) | (rw [get_put_eq] <;> rfl) | (simp (disch := first | omega | (simp only [hNw, hPt]; omega)) only [gn0, gn1, gn2, gn3, gn4, gn5, gp0, gno, gpo] <;> first | rfl | assumption | (rw [get_put_eq] <;> rfl))
        have exG1 : Ext G H52 := Ext.trans (by (try dsimp only); repeat (first | exact Ext.refl _ | exact Ext.refl _ | apply Ext.new | (refine Ext.put ?_ _ (by first | omega | (simp only [hNw, hPt]; omega))))) q52.ext
        have hone : bu.cells = [bu] ∧ bu.atom = true := m52.one
        have hat : atoms [I (fr : Int), bu] = true := by (rw [atoms, atoms, hone.2]; rfl)
        have hU : Row H52 bu 1 (us.map fun (k : Nat) => [I (k : Int)]) := Mine.row (by rw [flatN]; exact m52) (fun x hx => by simp only [List.mem_map] at hx; obtain ⟨y, _, rfl⟩ := hx; rfl) (by omega)
        have hul : lenOf bu = some us.length := by simpa using hU.len
        have pbu := lpl hU.len
        have pu : AV.plain (.agg [I (fr : Int), bu]) = true := by simp [AV.plain, AV.plains, pbu]
        have hs4 : fr + us.length ≤ cols.length := hs.2.2.2
        have hsp := span_W hv hs
        obtain ⟨sa, sb, se, hspv⟩ : ∃ sa sb se, spW cols fr us = (sa, sb, se) := ⟨_, _, _, rfl⟩
        rw [hspv] at hsp
        have hcs : (1 ≤ drive (bedsW cols fr us) ∧ sa = facW cols fr us ∧ sb = facS cols fr us ∧ se = 0) ∨ (¬ 1 ≤ drive (bedsW cols fr us) ∧ se = 7) := by (unfold spW at hspv); (split at hspv); (· cases hspv; exact .inl ⟨by assumption, rfl, rfl, rfl⟩); (· cases hspv; exact .inr ⟨by assumption, rfl⟩)
        refine OkO.alloc (z := [.int .i64 0, .nils]) rfl (by kernel_rfl) ?_
        refine OkO.store rfl rfl rfl (stc (n := 2) (ag := true) (by kernel_rfl) (by first | assumption | (simp (disch := first | omega | (simp only [hNw, hPt]; omega)) only [gn0, gn1, gn2, gn3, gn4, gn5, gp0, gno, gpo] <;> first | rfl | assumption | exact gp0 _ _ _ | exact gn0 _ _)) rfl (by first | rfl | assumption) (by first | rfl | exact spl_set _ _ _ (by first | assumption | omega | (simp; omega)))) ?_
        refine OkO.nil ?_
        refine Ok.seq ?_
        refine Ok.drawn [(0, true, []), (2, true, []), (8, true, [2, 0]), (1, false, [2]), (3, false, [0]), (4, false, [2, 0]), (5, true, []), (6, true, []), (7, true, []), (9, false, []), (10, true, [])] (by kernel_rfl) ?_
        refine OkP.step ?_
        refine OkO.load rfl rfl (ldg (n := 2) (by kernel_rfl) (by first | assumption | (simp (disch := first | omega | (simp only [hNw, hPt]; omega)) only [gn0, gn1, gn2, gn3, gn4, gn5, gp0, gno, gpo] <;> first | rfl | assumption | exact gp0 _ _ _ | exact gn0 _ _)) (by first | rfl | assumption)) ?_
        refine OkO.nil ⟨rfl, ?_⟩
        refine OkP.step ?_
        refine OkO.load rfl rfl (ldg (n := 2) (by kernel_rfl) (by first | assumption | (simp (disch := first | omega | (simp only [hNw, hPt]; omega)) only [gn0, gn1, gn2, gn3, gn4, gn5, gp0, gno, gpo] <;> first | rfl | assumption | exact gp0 _ _ _ | exact gn0 _ _)) (by first | rfl | assumption)) ?_
        refine OkO.nil ⟨rfl, ?_⟩
        refine OkP.step ?_
        refine OkO.alloc (z := [.int .i64 0, .int .i64 0]) rfl (by kernel_rfl) ?_
        refine OkO.nil ⟨(sco (sld rfl rfl (ldg (n := 2) (by kernel_rfl) (by first | assumption | (simp (disch := first | omega | (simp only [hNw, hPt]; omega)) only [gn0, gn1, gn2, gn3, gn4, gn5, gp0, gno, gpo] <;> first | rfl | assumption | exact gp0 _ _ _ | exact gn0 _ _)) (by first | rfl | assumption)) rfl (eqr _ (by first | rfl | exact ps | exact pu | exact lpl (by assumption) | (simp [AV.plain, AV.plains, AV.cells, pc, pav, pbv])))) (sco (sld rfl rfl (ldg (n := 2) (by kernel_rfl) (by first | assumption | (simp (disch := first | omega | (simp only [hNw, hPt]; omega)) only [gn0, gn1, gn2, gn3, gn4, gn5, gp0, gno, gpo] <;> first | rfl | assumption | exact gp0 _ _ _ | exact gn0 _ _)) (by first | rfl | assumption)) rfl (eqr _ (by first | rfl | exact ps | exact pu | exact lpl (by assumption) | (simp [AV.plain, AV.plains, AV.cells, pc, pav, pbv])))) rfl)), ?_⟩
        refine OkP.step ?_
        refine OkO.callE rfl rfl rfl rfl rfl (c19 (m + 209) cv cols least _ (hM.ext (hE _ (by (try dsimp only); repeat (first | exact gg1 | apply Grow.new | (refine Grow.put ?_ _ (by first | omega | (simp only [hNw, hPt]; omega))))))) hth) ?_ -- "sackung/sackunglaw01.Slope"
        rintro _ Ha3 ⟨cv3, rfl, qa3, fa3⟩
        have n2 := qa3.ext.next
        try simp only [hNw, hPt] at n2
        have gg2 : Grow W Ha3 := Grow.ret (by (try dsimp only); repeat (first | exact gg1 | apply Grow.new | (refine Grow.put ?_ _ (by first | omega | (simp only [hNw, hPt]; omega))))) qa3
        have b2 : (Ha3.get (W.next)).bind AObj.cs = some [cv, I least] := by rw [qa3.ext.get _ (by first | omega | (simp only [hNw, hPt]; omega))]; first | assumption | (rw [gn0]; rfl) | (rw [get_put_eq] <;> rfl) | (simp (disch := first | omega | (simp only [hNw, hPt]; omega)) only [gn0, gn1, gn2, gn3, gn4, gn5, gp0, gno, gpo] <;> first | rfl | assumption | (rw [get_put_eq] <;> rfl))
        have u2 : (Ha3.get (H52.next)).bind AObj.cs = some [I (fr : Int), bu] := by rw [qa3.ext.get _ (by first | omega | (simp only [hNw, hPt]; omega))]; first | assumption | (rw [gn0]; rfl) | (rw [get_put_eq] <;> rfl) | (simp (disch := first | omega | (simp only [hNw, hPt]; omega)) only [gn0, gn1, gn2, gn3, gn4, gn5, gp0, gno, gpo] <;> first | rfl | assumption | (rw [get_put_eq] <;> rfl))
        have o2 : Ha3.get (H52.next + 1) = some (.cells [I 0, I 0] 47) := by rw [qa3.ext.get _ (by first | omega | (simp only [hNw, hPt]; omega))]; first | assumption | exact gn0 _ _ | (simp (disch := first | omega | (simp only [hNw, hPt]; omega)) only [gn0, gn1, gn2, gn3, gn4, gn5, gp0, gno, gpo] <;> first | rfl | assumption | exact gp0 _ _ _ | exact gn0 _ _)
        have exG2 : Ext G Ha3 := Ext.trans (by (try dsimp only); repeat (first | exact exG1 | exact Ext.refl _ | apply Ext.new | (refine Ext.put ?_ _ (by first | omega | (simp only [hNw, hPt]; omega))))) qa3.ext
        have exH522 : Ext H52 Ha3 := Ext.trans (by (try dsimp only); repeat (first | exact Ext.refl _ | exact Ext.refl _ | apply Ext.new | (refine Ext.put ?_ _ (by first | omega | (simp only [hNw, hPt]; omega))))) qa3.ext
        have ma3 := fa3.now (Nat.le_refl _)
        refine OkO.nil ⟨(sco (sld rfl rfl (ldg (n := 2) (by kernel_rfl) (by first | assumption | (simp (disch := first | omega | (simp only [hNw, hPt]; omega)) only [gn0, gn1, gn2, gn3, gn4, gn5, gp0, gno, gpo] <;> first | rfl | assumption | exact gp0 _ _ _ | exact gn0 _ _)) (by first | rfl | assumption)) rfl (eqr _ (by first | rfl | exact ps | exact pu | exact lpl (by assumption) | (simp [AV.plain, AV.plains, AV.cells, pc, pav, pbv])))) rfl), ?_⟩
        refine OkP.step ?_
        refine OkO.callE rfl rfl rfl rfl rfl (c21 (m + 209) bu (fr : Int) (ofN us) _ (ints_N (hU.ext (by (try dsimp only); repeat (first | exact exH522 | exact Ext.refl _ | apply Ext.new | (refine Ext.put ?_ _ (by first | omega | (simp only [hNw, hPt]; omega))))))) (by rw [ofN_len]; omega)) ?_ -- "sackung/sackunglaw01.Surface"
        rintro _ Hb1 ⟨bu1, rfl, qb1, fb1⟩
        have n3 := qb1.ext.next
        try simp only [hNw, hPt] at n3
        have gg3 : Grow W Hb1 := Grow.ret (by (try dsimp only); repeat (first | exact gg2 | apply Grow.new | (refine Grow.put ?_ _ (by first | omega | (simp only [hNw, hPt]; omega))))) qb1
        have b3 : (Hb1.get (W.next)).bind AObj.cs = some [cv, I least] := by rw [qb1.ext.get _ (by first | omega | (simp only [hNw, hPt]; omega))]; first | assumption | (rw [gn0]; rfl) | (rw [get_put_eq] <;> rfl) | (simp (disch := first | omega | (simp only [hNw, hPt]; omega)) only [gn0, gn1, gn2, gn3, gn4, gn5, gp0, gno, gpo] <;> first | rfl | assumption | (rw [get_put_eq] <;> rfl))
        have u3 : (Hb1.get (H52.next)).bind AObj.cs = some [I (fr : Int), bu] := by rw [qb1.ext.get _ (by first | omega | (simp only [hNw, hPt]; omega))]; first | assumption | (rw [gn0]; rfl) | (rw [get_put_eq] <;> rfl) | (simp (disch := first | omega | (simp only [hNw, hPt]; omega)) only [gn0, gn1, gn2, gn3, gn4, gn5, gp0, gno, gpo] <;> first | rfl | assumption | (rw [get_put_eq] <;> rfl))
        have o3 : Hb1.get (H52.next + 1) = some (.cells [I 0, I 0] 47) := by rw [qb1.ext.get _ (by first | omega | (simp only [hNw, hPt]; omega))]; first | assumption | exact gn0 _ _ | (simp (disch := first | omega | (simp only [hNw, hPt]; omega)) only [gn0, gn1, gn2, gn3, gn4, gn5, gp0, gno, gpo] <;> first | rfl | assumption | exact gp0 _ _ _ | exact gn0 _ _)
        have exG3 : Ext G Hb1 := Ext.trans (by (try dsimp only); repeat (first | exact exG2 | exact Ext.refl _ | apply Ext.new | (refine Ext.put ?_ _ (by first | omega | (simp only [hNw, hPt]; omega))))) qb1.ext
        have exH523 : Ext H52 Hb1 := Ext.trans (by (try dsimp only); repeat (first | exact exH522 | exact Ext.refl _ | apply Ext.new | (refine Ext.put ?_ _ (by first | omega | (simp only [hNw, hPt]; omega))))) qb1.ext
        have mb1 := ma3.ext qb1.ext
        have ib1 := fb1.now (Nat.le_refl _)
        refine OkO.nil ⟨(sco (sld rfl rfl (ldg (n := 2) (by kernel_rfl) (by first | assumption | (simp (disch := first | omega | (simp only [hNw, hPt]; omega)) only [gn0, gn1, gn2, gn3, gn4, gn5, gp0, gno, gpo] <;> first | rfl | assumption | exact gp0 _ _ _ | exact gn0 _ _)) (by first | rfl | assumption)) rfl (eqr _ (by first | rfl | exact ps | exact pu | exact lpl (by assumption) | (simp [AV.plain, AV.plains, AV.cells, pc, pav, pbv])))) rfl), ?_⟩
        refine OkP.step ?_
        have h27 := c27 (m + 202) cv3 bu1 cols least (fr : Int) (ofN us) Hb1 mb1 ib1.1 ib1.2 (by rw [ofN_len]; omega)
        rw [hsp] at h27
        refine OkO.callV rfl rfl rfl rfl rfl (h27) ?_ -- "sackung/slope.Span"
        refine OkO.nil ⟨(sco (sld rfl rfl (ldg (n := 2) (by kernel_rfl) (by first | assumption | (simp (disch := first | omega | (simp only [hNw, hPt]; omega)) only [gn0, gn1, gn2, gn3, gn4, gn5, gp0, gno, gpo] <;> first | rfl | assumption | exact gp0 _ _ _ | exact gn0 _ _)) (by first | rfl | assumption)) rfl (eqr _ (by first | rfl | exact ps | exact pu | exact lpl (by assumption) | (simp [AV.plain, AV.plains, AV.cells, pc, pav, pbv])))) (sco (sld rfl rfl (ldg (n := 2) (by kernel_rfl) (by first | assumption | (simp (disch := first | omega | (simp only [hNw, hPt]; omega)) only [gn0, gn1, gn2, gn3, gn4, gn5, gp0, gno, gpo] <;> first | rfl | assumption | exact gp0 _ _ _ | exact gn0 _ _)) (by first | rfl | assumption)) rfl (eqr _ (by first | rfl | exact ps | exact pu | exact lpl (by assumption) | (simp [AV.plain, AV.plains, AV.cells, pc, pav, pbv])))) rfl)), ?_⟩
        refine OkP.step ?_
        refine OkO.move rfl rfl ?_
        refine OkO.nil ⟨rfl, ?_⟩
        refine OkP.step ?_
        refine OkO.extract rfl rfl rfl ?_
        refine OkO.nil ⟨rfl, ?_⟩
        refine OkP.step ?_
        refine OkO.extract rfl rfl rfl ?_
        refine OkO.nil ⟨rfl, ?_⟩
        refine OkP.step ?_
        refine OkO.store rfl rfl rfl (stc (n := 2) (ag := true) (by kernel_rfl) (by first | assumption | (simp (disch := first | omega | (simp only [hNw, hPt]; omega)) only [gn0, gn1, gn2, gn3, gn4, gn5, gp0, gno, gpo] <;> first | rfl | assumption | exact gp0 _ _ _ | exact gn0 _ _)) rfl (by first | rfl | assumption) (by first | rfl | exact spl_set _ _ _ (by first | assumption | omega | (simp; omega)))) ?_
        refine OkO.nil ⟨rfl, ?_⟩
        refine OkP.step ?_
        refine OkO.assign rfl rfl ?_
        refine OkO.nil ⟨rfl, ?_⟩
        refine OkP.nil ?_
        refine Ok.seq ?_
        refine Ok.seq ?_
        refine Ok.region ?_
        refine OkO.move rfl rfl ?_
        refine OkO.bin rfl rfl rfl (bin_neq _ _) ?_
        refine OkO.nil ?_
        refine Ok.cond rfl (fun h7 => ?_) (fun h7 => ?_)
        · -- yes h7
          refine Ok.seq ?_
          refine Ok.region ?_
          refine OkO.move rfl rfl ?_
          refine OkO.bin rfl rfl rfl (bin_eql _ _) ?_
          refine OkO.move rfl rfl ?_
          refine OkO.split (d := 108) rfl (fun g8 => ?_) (fun g8 => ?_)
          · -- true g8
            refine OkO.callV rfl rfl rfl rfl rfl (rfl) ?_ -- "sackung/sackunglaw01.wakes"
            refine OkO.pick (b := true) rfl rfl (fun _ => rfl) nofun ?_
            refine OkO.assign rfl rfl ?_
            refine OkO.nil ?_
            refine Ok.ret ⟨.inr rfl, ?_⟩
            exact back_flat rfl rfl rfl (by rw [← hW]; exact (by (try dsimp only); repeat (first | exact gg3 | apply Grow.new | (refine Grow.put ?_ _ (by first | omega | (simp only [hNw, hPt]; omega))))))
          · -- false g8
            have hse : se = 7 := by (rcases hcs with h | h); (· (have h5 := h.2.2.2); simp [h5] at h7); (· exact h.2)
            exact absurd g8 (by simp [hse])
        · -- no h7
          have hse : se = 0 := by (have h9 : ¬ ¬ se = 0 := by simpa using h7); omega
          exact absurd hcs (by (rintro (h | h)); (· (have h5 := hcase fr us hs); (have h6 := h.1); omega); (· (have h6 := h.2); omega))
theorem c14W (m : Nat) (cv wv : AV) (cols : List (List Bed)) (least fw : Int) (ws : List Int) (H : Heap) (hM : Mat H cv cols) (hWs : Row H wv 1 (ws.map fun w => [U8 w])) (hws : Upto 255 ws) (hfw : 0 ≤ fw ∧ fw ≤ 65535) (hrd : readyS cols least = false) : RR (m + 212) (.fn 14 [.agg [cv, I least], wv, U16 fw]) H = some (.bool true, H) := by
  refine (R_fn _ _ _ _ _).trans ?_
  refine fn_ok Try.func14 rfl rfl (by kernel_rfl) (by kernel_rfl) ?_
  obtain ⟨W, hW⟩ : ∃ W : Heap, W = ⟨H.t, H.next, H.next⟩ := ⟨_, rfl⟩
  have hg : ∀ n, W.get n = H.get n := fun n => by rw [hW]; rfl
  have hN : W.next = H.next := by rw [hW]
  have hE : ∀ G, Grow W G → Ext H G := fun G g => ⟨by rw [← hN]; exact g.next, fun n k => by rw [g.get n (by rw [hN]; exact k), hg]⟩
  have hG : Grow W W := Grow.refl (by rw [hW]; exact Nat.le_refl _)
  rw [← hW]
  refine Ok.seq ?_
  refine Ok.region ?_
  refine OkO.box rfl rfl ?_
  refine OkO.assign rfl rfl ?_
  refine OkO.nil ?_
  refine Ok.seq ?_
  refine Ok.seq ?_
  refine Ok.region ?_
  refine OkO.load rfl rfl (ldg (n := 2) (by kernel_rfl) (by first | assumption | (simp (disch := first | omega | (simp only [hNw, hPt]; omega)) only [gn0, gn1, gn2, gn3, gn4, gn5, gp0, gno, gpo] <;> first | rfl | assumption | exact gp0 _ _ _ | exact gn0 _ _)) (by first | rfl | assumption)) ?_
  refine OkO.callV rfl rfl rfl rfl rfl ((c51 (m + 208) cv cols least _ (hM.ext (hE _ (by (try dsimp only); repeat (first | exact hG | apply Grow.new | (refine Grow.put ?_ _ (by first | omega | (simp only [hNw, hPt]; omega)))))))).trans (by rw [hrd])) ?_ -- "sackung/sackunglaw01.ready"
  refine OkO.un rfl rfl rfl ?_
  refine OkO.nil ?_
  refine Ok.cond rfl (fun h1 => ?_) (fun h1 => ?_)
  · -- yes h1
    refine Ok.seq ?_
    refine Ok.region ?_
    refine OkO.callV rfl rfl rfl rfl rfl (rfl) ?_ -- "sackung/sackunglaw01.wakes"
    refine OkO.assign rfl rfl ?_
    refine OkO.nil ?_
    refine Ok.ret ⟨.inr rfl, ?_⟩
    exact back_flat rfl rfl rfl (by rw [← hW]; exact (by (try dsimp only); repeat (first | exact hG | apply Grow.new | (refine Grow.put ?_ _ (by first | omega | (simp only [hNw, hPt]; omega))))))
  · -- no h1
    exact absurd h1 (by simp)
theorem c14 (m : Nat) (cv wv : AV) (cols : List (List Bed)) (least fw : Int) (ws : List Int) (H : Heap) (hM : Mat H cv cols) (hWs : Row H wv 1 (ws.map fun w => [U8 w])) (hws : Upto 255 ws) (hfw : 0 ≤ fw ∧ fw ≤ 65535) : RR (m + 212) (.fn 14 [.agg [cv, I least], wv, U16 fw]) H = some (.bool true, H) := by
  cases hrd : readyS cols least with
  | false => exact c14W m cv wv cols least fw ws H hM hWs hws hfw hrd
  | true =>
    obtain ⟨h1, h2, h3⟩ := ready_facts hrd
    by_cases hn : NoneAt cols (cols.headD []).length least
    · exact c14N m cv wv cols least fw ws H hM hWs hws hfw h1 h2 h3 hrd hn
    · exact c14L m cv wv cols least fw ws H hM hWs hws hfw h1 h2 h3 hrd hn
end
end Go.Ev

