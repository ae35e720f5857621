/-
  Functions of the program, reckoned by the evaluator: what each answers, and that it leaves what came in as it was.
-/
import Derived.Test.YtfhomicfhgiidaaPt26
import Derived.Carry
set_option maxRecDepth 100000
set_option linter.unusedSimpArgs false
set_option linter.unusedVariables false
namespace Go.Ev
open Go Go.Proofs
noncomputable section
noncomputable def as107 : Code := match Try.f107.body.bind rangeOf with | some r => r.1 | none => .skip
noncomputable def bd107 : Code := match Try.f107.body.bind rangeOf with | some r => r.2 | none => .skip
/-- May a bed follow another one, of so many? -/
def Nxt (n k j : Nat) : Prop := j < n ∧ j ≤ k + 1 ∧ k ≤ j + 1
/-- The best of those that were looked at. -/
def Bst (g : Nat → Int) (n k j x : Nat) : Prop := Nxt n k x ∧ g x ≤ g k ∧ ∀ i, k - 1 ≤ i → i < j → g x ≤ g i
structure AftJ (W : Heap) (N sb c : Nat) (cv : AV) (least : Int) (g : Nat → Int) (k n : Nat) (T0 : Tr AV) (j : Nat) (G : Heap) : Prop where
  ext : Ext W G
  nx : N + 9 ≤ G.next
  b2 : G.get (N + 2) = some (.cells [.map sb] 147)
  b3 : G.get (N + 3) = some (.cells [I 0, I 0] 145)
  b4 : ∃ x : Nat, G.get (N + 4) = some (.cells [I ((c + 1 : Nat) : Int), I (x : Int)] 145) ∧ Bst g n k j x
  b5 : G.get (N + 5) = some (.cells [I (k : Int)] 3)
  b6 : G.get (N + 6) = some (.cells [I (n : Int)] 3)
  b7 : G.get (N + 7) = some .defd
  b8 : G.get (N + 8) = some (.loop .ready none T0 [26] as107 bd107 (N + 7))
theorem AftJ.to {W : Heap} {N sb c : Nat} {cv : AV} {least : Int} {g : Nat → Int} {k n : Nat} {T0 : Tr AV} {j : Nat} {G G' : Heap} (h : AftJ W N sb c cv least g k n T0 j G) (e : Ext G G') : AftJ W N sb c cv least g k n T0 j G' := by
  have hn := h.nx
  obtain ⟨x, h4, h4b⟩ := h.b4
  exact ⟨h.ext.trans e, Nat.le_trans hn e.next, by rw [e.get _ (by omega)]; exact h.b2, by rw [e.get _ (by omega)]; exact h.b3, ⟨x, by rw [e.get _ (by omega)]; exact h4, h4b⟩, by rw [e.get _ (by omega)]; exact h.b5, by rw [e.get _ (by omega)]; exact h.b6, by rw [e.get _ (by omega)]; exact h.b7, by rw [e.get _ (by omega)]; exact h.b8⟩
theorem r107 (m N : Nat) (sb c k n j : Nat) (cv : AV) (least : Int) (g : Nat → Int) (f : Nat × Nat → Option AV) (o : AObj) (T0 : Tr AV) (W G : Heap) (hN : W.next = N) (hH : Has 6 [(3, .ptr N 0), (4, .ptr (N + 1) 0), (5, .ptr (N + 2) 0), (6, .ptr (N + 3) 0), (7, .ptr (N + 4) 0)] T0) (hJ : AftJ W N sb c cv least g k n T0 j G) (hlo : N ≤ G.lo)
    (hs0 : W.get sb = some o) (hsl : sb < W.next) (ho : MapO o encP f) (hf : ∀ i, i < n → f (c + 1, i) = some (I (g i))) (hjn : j < n) (hj1 : j ≤ k + 1) (hj2 : k ≤ j + 1) :
    ∃ v H', RR (m + 1) (.round (N + 8) [I (j : Int)]) G = some (v, H') ∧ v = .bool true ∧ AftJ W N sb c cv least g k n T0 (j + 1) H' ∧ N ≤ H'.lo ∧ H'.lo ≤ N + 8 ∧ G.next ≤ H'.next := by
  show ∃ v H', evRound Try.prog (RR m) (N + 8) [I (j : Int)] G = some (v, H') ∧ v = .bool true ∧ AftJ W N sb c cv least g k n T0 (j + 1) H' ∧ N ≤ H'.lo ∧ H'.lo ≤ N + 8 ∧ G.next ≤ H'.next
  subst hN
  obtain ⟨fr, hT⟩ := hH
  subst hT
  obtain ⟨N, hN⟩ : ∃ N, N = W.next := ⟨_, rfl⟩
  rw [← hN] at hJ hlo hsl ⊢
  have hg : Grow W G := ⟨hJ.ext.next, hJ.ext.get, by omega⟩
  have hn9 := hJ.nx
  have f2 := hJ.b2
  have f3 := hJ.b3
  obtain ⟨x, f4, hx1, hx2, hx3⟩ := hJ.b4
  have f5 := hJ.b5
  have f6 := hJ.b6
  have f7 := hJ.b7
  have f8 := hJ.b8
  have hsb : G.get sb = some o := by rw [hJ.ext.get _ (by omega)]; exact hs0
  have hfj := hf j hjn
  have hfx := hf x hx1.1
  have e2 : (G.get (N + 2)).bind AObj.cs = some [.map sb] := by rw [f2]; rfl
  have e4 : (G.get (N + 4)).bind AObj.cs = some [I ((c + 1 : Nat) : Int), I (x : Int)] := by rw [f4]; rfl
  refine round_okX f8 rfl ?_; refine kR ?_; refine oA rfl rfl ?_; refine oN ?_
  refine ⟨rfl, _, _, _, _, _, _, f8, ?_⟩; refine Ok.block ?_; refine kS ?_; refine kR ?_; refine oF (o := 0) rfl (by kernel_rfl) rfl ?_; refine oL rfl rfl (qla0 1) ?_; refine oM rfl rfl ?_; refine OkO.build (z := [.int .i64 0, .int .i64 0]) (pl := [(0, 1), (1, 1)]) rfl (by kernel_rfl) rfl rfl ?_; refine OkO.alloc (z := [.int .i64 0, .int .i64 0]) rfl (by kernel_rfl) ?_; refine oT rfl rfl rfl (sAc (n := 2) (ag := true) (by kernel_rfl) (by first | assumption | (simp (disch := first | omega | (simp only [hNw, hPt]; omega)) only [gN] <;> first | rfl | assumption | exact gp0 _ _ _ | exact gn0 _ _)) rfl (by first | rfl | assumption) (by first | rfl | exact spl_set _ _ _ (by first | assumption | (simp; omega)))) ?_; refine oN ?_; refine kS ?_; refine Ok.drawn [(0, true, []), (1, true, []), (2, true, []), (3, true, []), (4, true, []), (5, true, []), (6, true, [])] (by kernel_rfl) ?_; refine pS ?_; refine oL rfl rfl (qla0 1) ?_; refine oN ⟨rfl, ?_⟩; refine pS ?_; refine oL rfl rfl (qlg7 2) ?_; refine oN ⟨rfl, ?_⟩; refine pS ?_; refine OkO.lookup (o := o) (f := f) (c + 1, j) (I (g j)) rfl mapT147 keysP rfl rfl (by first | exact hsb | (simp (disch := first | omega | (simp only [hNw, hPt]; omega)) only [gN] <;> first | rfl | assumption)) ho (by first | rw [hfj] | rw [hfx]) ?_; refine oN ⟨rfl, ?_⟩; refine pS ?_; refine oL rfl rfl (qla0 1) ?_; refine oN ⟨rfl, ?_⟩; refine pS ?_; refine oL rfl rfl (qlg7 2) ?_; refine oN ⟨rfl, ?_⟩; refine pS ?_; refine OkO.lookup (o := o) (f := f) (c + 1, x) (I (g x)) rfl mapT147 keysP rfl rfl (by first | exact hsb | (simp (disch := first | omega | (simp only [hNw, hPt]; omega)) only [gN] <;> first | rfl | assumption)) ho (by first | rw [hfj] | rw [hfx]) ?_; refine oN ⟨rfl, ?_⟩; refine pS ?_; refine OkO.bin rfl rfl rfl (bin_lss _ _) ?_; refine oN ⟨rfl, ?_⟩; refine OkP.nil ?_
  refine Ok.cond rfl (fun h1 => ?_) (fun h1 => ?_)
  · have hlt : g j < g x := by simpa using h1
    have hbst : Bst g n k (j + 1) j := ⟨⟨hjn, hj1, hj2⟩, by omega, fun i i1 i2 => by (rcases Nat.lt_or_ge i j with q | q); (· have := hx3 i i1 q; omega); (· rw [show i = j from by omega]; exact Int.le_refl _)⟩
    refine kR ?_; refine oL rfl rfl (qlg7 2) ?_; refine oT rfl rfl rfl (sAc (n := 2) (ag := true) (by kernel_rfl) (by first | assumption | (simp (disch := first | omega | (simp only [hNw, hPt]; omega)) only [gN] <;> first | rfl | assumption | exact gp0 _ _ _ | exact gn0 _ _)) rfl (by first | rfl | assumption) (by first | rfl | exact spl_set _ _ _ (by first | assumption | (simp; omega)))) ?_; refine oN ?_
    refine ⟨_, _, _, _, _, _, _, (by first | assumption | (simp (disch := first | omega | (simp only [hNw, hPt]; omega)) only [gN] <;> first | rfl | assumption | exact gp0 _ _ _ | exact gn0 _ _)), .inl ⟨rfl, rfl, ⟨(Grow.ext (W := W) (by (try dsimp only); repeat (first | exact hg | apply Grow.new | (refine Grow.put ?_ _ (by first | omega | (simp only [hNw, hPt]; omega)))))), by simp only [hNw, hPt]; omega, (by first | assumption | (simp (disch := first | omega | (simp only [hNw, hPt]; omega)) only [gN] <;> first | rfl | assumption | exact gp0 _ _ _ | exact gn0 _ _)), (by first | assumption | (simp (disch := first | omega | (simp only [hNw, hPt]; omega)) only [gN] <;> first | rfl | assumption | exact gp0 _ _ _ | exact gn0 _ _)), ⟨j, (by first | assumption | (simp (disch := first | omega | (simp only [hNw, hPt]; omega)) only [gN] <;> first | rfl | assumption | exact gp0 _ _ _ | exact gn0 _ _)), hbst⟩, (by first | assumption | (simp (disch := first | omega | (simp only [hNw, hPt]; omega)) only [gN] <;> first | rfl | assumption | exact gp0 _ _ _ | exact gn0 _ _)), (by first | assumption | (simp (disch := first | omega | (simp only [hNw, hPt]; omega)) only [gN] <;> first | rfl | assumption | exact gp0 _ _ _ | exact gn0 _ _)), (by first | assumption | (simp (disch := first | omega | (simp only [hNw, hPt]; omega)) only [gN] <;> first | rfl | assumption | exact gp0 _ _ _ | exact gn0 _ _)), (by first | assumption | (simp (disch := first | omega | (simp only [hNw, hPt]; omega)) only [gN] <;> first | rfl | assumption | exact gp0 _ _ _ | exact gn0 _ _))⟩, (Nat.le_trans (Nat.le_of_eq hN) (Grow.lo (W := W) (by (try dsimp only); repeat (first | exact hg | apply Grow.new | (refine Grow.put ?_ _ (by first | omega | (simp only [hNw, hPt]; omega))))))), by simp only [Heap.lo_put, Heap.lo_new]; omega, by simp only [hNw, hPt]; omega⟩⟩
  · have hlt : g x ≤ g j := by simpa using h1
    have hbst : Bst g n k (j + 1) x := ⟨hx1, hx2, fun i i1 i2 => by (rcases Nat.lt_or_ge i j with q | q); (· exact hx3 i i1 q); (· rw [show i = j from by omega]; exact hlt)⟩
    refine Ok.skip ?_
    refine ⟨_, _, _, _, _, _, _, (by first | assumption | (simp (disch := first | omega | (simp only [hNw, hPt]; omega)) only [gN] <;> first | rfl | assumption | exact gp0 _ _ _ | exact gn0 _ _)), .inl ⟨rfl, rfl, ⟨(Grow.ext (W := W) (by (try dsimp only); repeat (first | exact hg | apply Grow.new | (refine Grow.put ?_ _ (by first | omega | (simp only [hNw, hPt]; omega)))))), by simp only [hNw, hPt]; omega, (by first | assumption | (simp (disch := first | omega | (simp only [hNw, hPt]; omega)) only [gN] <;> first | rfl | assumption | exact gp0 _ _ _ | exact gn0 _ _)), (by first | assumption | (simp (disch := first | omega | (simp only [hNw, hPt]; omega)) only [gN] <;> first | rfl | assumption | exact gp0 _ _ _ | exact gn0 _ _)), ⟨x, (by first | assumption | (simp (disch := first | omega | (simp only [hNw, hPt]; omega)) only [gN] <;> first | rfl | assumption | exact gp0 _ _ _ | exact gn0 _ _)), hbst⟩, (by first | assumption | (simp (disch := first | omega | (simp only [hNw, hPt]; omega)) only [gN] <;> first | rfl | assumption | exact gp0 _ _ _ | exact gn0 _ _)), (by first | assumption | (simp (disch := first | omega | (simp only [hNw, hPt]; omega)) only [gN] <;> first | rfl | assumption | exact gp0 _ _ _ | exact gn0 _ _)), (by first | assumption | (simp (disch := first | omega | (simp only [hNw, hPt]; omega)) only [gN] <;> first | rfl | assumption | exact gp0 _ _ _ | exact gn0 _ _)), (by first | assumption | (simp (disch := first | omega | (simp only [hNw, hPt]; omega)) only [gN] <;> first | rfl | assumption | exact gp0 _ _ _ | exact gn0 _ _))⟩, (Nat.le_trans (Nat.le_of_eq hN) (Grow.lo (W := W) (by (try dsimp only); repeat (first | exact hg | apply Grow.new | (refine Grow.put ?_ _ (by first | omega | (simp only [hNw, hPt]; omega))))))), by simp only [Heap.lo_put, Heap.lo_new]; omega, by simp only [hNw, hPt]; omega⟩⟩
theorem c107 (m : Nat) (sb c k n : Nat) (cv : AV) (least : Int) (cols : List (List Bed)) (col : List Bed) (g : Nat → Int) (f : Nat × Nat → Option AV) (o : AObj) (H : Heap) (hM : Mat H cv cols) (hp1 : cols[c + 1]? = some col) (hcn : col.length = n) (hsb : H.get sb = some o) (hsl : sb < H.next) (ho : MapO o encP f) (hf : ∀ i, i < n → f (c + 1, i) = some (I (g i))) (hkn : k < n) (hn9 : n ≤ 1000) (hc9 : c ≤ 1000) : ∃ v H', RR (m + 3) (.fn 107 [.agg [cv, I least], encP (c, k), .map sb]) H = some (v, H') ∧ ∃ x : Nat, v = encP (c + 1, x) ∧ H' = H ∧ Nxt n k x ∧ ∀ i, Nxt n k i → g x ≤ g i := by
  show ∃ v H', evFn Try.prog (RR (m + 2)) 107 [.agg [cv, I least], encP (c, k), .map sb] H = some (v, H') ∧ ∃ x : Nat, v = encP (c + 1, x) ∧ H' = H ∧ Nxt n k x ∧ ∀ i, Nxt n k i → g x ≤ g i
  refine fn_okE Try.func107 rfl rfl (by kernel_rfl) (by kernel_rfl) ?_
  obtain ⟨W, hW, hg, hN, hE, hG⟩ := wOf H
  rw [← hW]
  obtain ⟨vs, hR, hvl, hv⟩ := hM
  have hlen : lenOf cv = some vs.length := by simpa using hR.len
  have pc : cv.plain = true := lpl hR.len
  have hcl : c + 1 < vs.length := by rw [hvl]; exact (List.getElem?_eq_some_iff.1 hp1).1
  obtain ⟨cb, co, ccs, j1, j20, j3, j4⟩ := hR.at_ (c + 1) [vs[c + 1]] (by simp [hcl])
  have j5 := seg_one j3
  have hcol := hv (c + 1) vs[c + 1] col (by simp [hcl]) hp1
  have hlcol : lenOf vs[c + 1] = some n := by rw [← hcn]; simpa using hcol.len
  have j2 : (W.get cb).bind AObj.cs = some ccs := by rw [hg]; exact j20
  refine kS ?_; refine kR ?_; refine OkO.box rfl rfl ?_; refine OkO.box rfl rfl ?_; refine OkO.box rfl rfl ?_; refine OkO.alloc (z := [.int .i64 0, .int .i64 0]) rfl (by kernel_rfl) ?_; refine oN ?_; refine kS ?_; refine kR ?_; refine oF (o := 0) rfl (by kernel_rfl) rfl ?_; refine oL rfl rfl (qla0 1) ?_; refine OkO.bin rfl rfl rfl (bin_add (by omega) (by omega)) ?_; refine oF (o := 1) rfl (by kernel_rfl) rfl ?_; refine oL rfl rfl (qla0 1) ?_; refine OkO.build (z := [.int .i64 0, .int .i64 0]) (pl := [(0, 1), (1, 1)]) rfl (by kernel_rfl) rfl rfl ?_; refine OkO.alloc (z := [.int .i64 0, .int .i64 0]) rfl (by kernel_rfl) ?_; refine oT rfl rfl rfl (sAc (n := 2) (ag := true) (by kernel_rfl) (by first | assumption | (simp (disch := first | omega | (simp only [hNw, hPt]; omega)) only [gN] <;> first | rfl | assumption | exact gp0 _ _ _ | exact gn0 _ _)) rfl (by first | rfl | assumption) (by first | rfl | exact spl_set _ _ _ (by first | assumption | (simp; omega)))) ?_; refine oN ?_; refine kS ?_; refine kS ?_; refine Ok.drawn [(0, true, []), (1, true, []), (2, true, []), (3, true, []), (4, true, []), (5, true, []), (6, true, []), (7, true, []), (8, true, []), (9, false, [7, 5, 3])] (by kernel_rfl) ?_; refine pS ?_; refine oF (o := 1) rfl (by kernel_rfl) rfl ?_; refine oN ⟨rfl, ?_⟩; refine pS ?_; refine oL rfl rfl (qla0 1) ?_; refine oN ⟨rfl, ?_⟩; refine pS ?_; refine oF (o := 0) rfl (by kernel_rfl) rfl ?_; refine oN ⟨rfl, ?_⟩; refine pS ?_; refine oL rfl rfl (qla0 1) ?_; refine oN ⟨rfl, ?_⟩; refine pS ?_; refine oF (o := 0) rfl (by kernel_rfl) rfl ?_; refine oN ⟨rfl, ?_⟩; refine pS ?_; refine oL rfl rfl (qla0 1) ?_; refine oN ⟨rfl, ?_⟩; refine pS ?_; refine qX (sz := 1) (n := c + 1) rfl rfl rfl ?_; refine oN ⟨rfl, ?_⟩; refine pS ?_; refine oL rfl rfl (qla0 1) ?_; refine oN ⟨rfl, ?_⟩; refine pS ?_; refine oB rfl rfl rfl qbl ?_; refine oN ⟨rfl, ?_⟩; refine pS ?_; refine oE rfl rfl rfl rfl rfl (c111 (m + 1) k n _) ?_
  rintro v111 H111 ⟨rfl, q111, z5, z6, n111⟩
  simp only [hNw, hPt] at z5 z6 n111
  have z2 : H111.get (W.next + 2) = some (.cells [.map sb] 147) := by rw [q111.ext.get _ (by simp only [hNw, hPt]; omega)]; first | exact gn0 _ _ | (simp (disch := first | omega | (simp only [hNw, hPt]; omega)) only [gN] <;> first | rfl | assumption | exact gp0 _ _ _)
  have z3 : H111.get (W.next + 3) = some (.cells [I 0, I 0] 145) := by rw [q111.ext.get _ (by simp only [hNw, hPt]; omega)]; first | exact gn0 _ _ | (simp (disch := first | omega | (simp only [hNw, hPt]; omega)) only [gN] <;> first | rfl | assumption | exact gp0 _ _ _)
  have z4 : H111.get (W.next + 4) = some (.cells [I ((c + 1 : Nat) : Int), I (k : Int)] 145) := by rw [q111.ext.get _ (by simp only [hNw, hPt]; omega)]; first | exact gn0 _ _ | (simp (disch := first | omega | (simp only [hNw, hPt]; omega)) only [gN] <;> first | rfl | assumption | exact gp0 _ _ _)
  have y0 : (H111.get W.next).bind AObj.cs = some [cv, I least] := by rw [q111.ext.get _ (by simp only [hNw, hPt]; omega)]; (first | (rw [gn0]; rfl) | (simp (disch := first | omega | (simp only [hNw, hPt]; omega)) only [gN] <;> first | rfl | assumption))
  have y1 : (H111.get (W.next + 1)).bind AObj.cs = some [I (c : Int), I (k : Int)] := by rw [q111.ext.get _ (by simp only [hNw, hPt]; omega)]; (first | (rw [gn0]; rfl) | (simp (disch := first | omega | (simp only [hNw, hPt]; omega)) only [gN] <;> first | rfl | assumption))
  have y4 : (H111.get (W.next + 4)).bind AObj.cs = some [I ((c + 1 : Nat) : Int), I (k : Int)] := by rw [z4]; rfl
  have ycb : (H111.get cb).bind AObj.cs = some ccs := by rw [q111.ext.get _ (by simp only [hNw, hPt]; omega)]; (first | (rw [gn0]; rfl) | (simp (disch := first | omega | (simp only [hNw, hPt]; omega)) only [gN] <;> first | rfl | assumption))
  have g111 : Grow W H111 := Grow.ret (by (try dsimp only); repeat (first | exact hG | apply Grow.new | (refine Grow.put ?_ _ (by first | omega | (simp only [hNw, hPt]; omega))))) q111
  have x111 : Ext W H111 := g111.ext
  refine oN ⟨(sco (qsa3 1 rfl rfl rfl) (sco (qsa3 1 rfl rfl rfl) (sco (qsa3 1 rfl rfl rfl) rfl))), ?_⟩; refine OkP.nil ?_; refine Ok.block ?_
  refine Ok.rangeX rfl rfl (fun T0 hT0 => ?_)
  have hH : Has 6 [(3, .ptr W.next 0), (4, .ptr (W.next + 1) 0), (5, .ptr (W.next + 2) 0), (6, .ptr (W.next + 3) 0), (7, .ptr (W.next + 4) 0)] T0 := by rw [hT0]; exact Has.of (by kernel_rfl)
  have hJ0 : AftJ W W.next sb c cv least g k n T0 (k - 1) ((H111.new .defd).new (.loop .ready none T0 [26] as107 bd107 (W.next + 7))) := ⟨(x111.new _).new _, by simp only [hNw]; omega, by rw [gno _ _ _ (by simp only [hNw]; omega), gno _ _ _ (by omega)]; exact z2, by rw [gno _ _ _ (by simp only [hNw]; omega), gno _ _ _ (by omega)]; exact z3, ⟨k, by rw [gno _ _ _ (by simp only [hNw]; omega), gno _ _ _ (by omega)]; exact z4, ⟨hkn, by omega, by omega⟩, Int.le_refl _, fun i i1 i2 => absurd i2 (by omega)⟩, by rw [gno _ _ _ (by simp only [hNw]; omega), gno _ _ _ (by omega)]; exact z5, by rw [gno _ _ _ (by simp only [hNw]; omega), gno _ _ _ (by omega)]; exact z6, by rw [gno _ _ _ (by simp only [hNw]; omega), show W.next + 7 = H111.next from by omega]; exact gn0 _ _, by rw [show W.next + 8 = H111.next + 1 from by omega]; exact gn1 _ _ _⟩
  have hs0 : W.get sb = some o := by rw [hg]; exact hsb
  obtain ⟨v3, H3, k1, k2, k3⟩ := c112 (m + 1) (W.next + 8) (W.next + 5) (W.next + 6) W.next k n (AftJ W W.next sb c cv least g k n T0) ((H111.new .defd).new (.loop .ready none T0 [26] as107 bd107 (W.next + 7))) (fun i G G' h x => h.to x) (fun i G h => ⟨by rw [h.b5]; rfl, by rw [h.b6]; rfl, by have := h.nx; omega⟩) (fun i G i1 i2 i3 hj hk => r107 m W.next sb c k n i cv least g f o T0 W G rfl hH hj hk hs0 (by omega) ho hf i1 i2 i3) hJ0 (by show W.next ≤ H111.lo; exact g111.lo) (by omega) hkn hn9
  have kn := k2.nx
  obtain ⟨x, y4, hx1, hx2, hx3⟩ := k2.b4
  have y3 := k2.b3
  rw [n111]
  refine ⟨v3, H3, k1, _, _, T0, [26], as107, bd107, W.next + 7, k2.b8, .inl ⟨rfl, rfl, ?_⟩⟩
  have g3 : Grow W H3 := ⟨k2.ext.next, k2.ext.get, k3⟩
  have y4b : (H3.get (W.next + 4)).bind AObj.cs = some [I ((c + 1 : Nat) : Int), I (x : Int)] := by rw [y4]; rfl
  have y7 := k2.b7
  clear k1
  refine kS ?_; refine kR ?_; refine oL rfl rfl (qlg7 2) ?_; refine oT rfl rfl rfl (sAc (n := 2) (ag := true) (by kernel_rfl) (by first | assumption | (simp (disch := first | omega | (simp only [hNw, hPt]; omega)) only [gN] <;> first | rfl | assumption | exact gp0 _ _ _ | exact gn0 _ _)) rfl (by first | rfl | assumption) (by first | rfl | exact spl_set _ _ _ (by first | assumption | (simp; omega)))) ?_; refine oN ?_
  refine Ok.ret ⟨.inr rfl, ?_⟩
  rw [back_mark (d := W.next + 7) (by first | assumption | (simp (disch := first | omega | (simp only [hNw, hPt]; omega)) only [gN] <;> first | rfl | assumption | exact gp0 _ _ _ | exact gn0 _ _))]
  exact ⟨_, _, back_flat (resV_cell rfl (qlg7 2) resV_nil) rfl rfl (by rw [← hW]; exact (by (try dsimp only); repeat (first | exact g3 | apply Grow.new | (refine Grow.put ?_ _ (by first | omega | (simp only [hNw, hPt]; omega)))))), x, rfl, rfl, hx1, fun i i1 => hx3 i (by have := i1.2.2; omega) (by have := i1.1; have := i1.2.1; omega)⟩
end
end Go.Ev

set_option maxRecDepth 100000
set_option linter.unusedSimpArgs false
set_option linter.unusedVariables false
namespace Go.Ev
open Go Go.Proofs
noncomputable section
/-- The least that a bed may be followed by. -/
def minN (g : Nat → Int) (n k : Nat) : Int := min (g k) (min (if 1 ≤ k then g (k - 1) else g k) (if k + 1 < n then g (k + 1) else g k))
theorem minN_of {g : Nat → Int} {n k x : Nat} (hk : k < n) (hx : Nxt n k x) (h : ∀ i, Nxt n k i → g x ≤ g i) : g x = minN g n k := by
  unfold minN
  have h0 := h k ⟨hk, by omega, by omega⟩
  obtain ⟨x1, x2, x3⟩ := hx
  have ha : 1 ≤ k → g x ≤ g (k - 1) := fun q => h (k - 1) ⟨by omega, by omega, by omega⟩
  have hb : k + 1 < n → g x ≤ g (k + 1) := fun q => h (k + 1) ⟨q, by omega, by omega⟩
  have hc : x = k ∨ (1 ≤ k ∧ x = k - 1) ∨ (k + 1 < n ∧ x = k + 1) := by omega
  split <;> split <;> rename_i p q
  · have := ha p; have := hb q
    rcases hc with rfl | ⟨_, rfl⟩ | ⟨_, rfl⟩ <;> omega
  · have := ha p
    rcases hc with rfl | ⟨_, rfl⟩ | ⟨q2, rfl⟩
    · omega
    · omega
    · exact absurd q2 q
  · have := hb q
    rcases hc with rfl | ⟨p2, rfl⟩ | ⟨_, rfl⟩
    · omega
    · exact absurd p2 p
    · omega
  · rcases hc with rfl | ⟨p2, rfl⟩ | ⟨q2, rfl⟩
    · omega
    · exact absurd p2 p
    · exact absurd q2 q
theorem minN_le {g : Nat → Int} {n k i : Nat} (hi : Nxt n k i) : minN g n k ≤ g i := by
  obtain ⟨x1, x2, x3⟩ := hi
  unfold minN
  have hc : i = k ∨ (1 ≤ k ∧ i = k - 1) ∨ (k + 1 < n ∧ i = k + 1) := by omega
  rcases hc with rfl | ⟨p, rfl⟩ | ⟨q, rfl⟩
  · omega
  · rw [if_pos p]; omega
  · rw [if_pos q]; omega
theorem minN_bd {g : Nat → Int} {n k : Nat} {B : Int} (hk : k < n) (h : ∀ i, i < n → -B ≤ g i ∧ g i ≤ B) : -B ≤ minN g n k ∧ minN g n k ≤ B := by
  unfold minN
  have h0 := h k hk
  have ha : 1 ≤ k → -B ≤ g (k - 1) ∧ g (k - 1) ≤ B := fun q => h (k - 1) (by omega)
  have hb : k + 1 < n → -B ≤ g (k + 1) ∧ g (k + 1) ≤ B := fun q => h (k + 1) q
  split <;> split <;> rename_i p q
  · have := ha p; have := hb q; omega
  · have := ha p; omega
  · have := hb q; omega
  · omega
/-- The least sum of prices from a bed, so many columns ahead of the last one. -/
def sumR (pr : Nat → Nat → Int) (n last : Nat) : Nat → Nat → Int
  | 0, k => pr last k
  | d + 1, k => pr (last - (d + 1)) k + minN (sumR pr n last d) n k
def PrB (pr : Nat → Nat → Int) : Prop := ∀ c k, -10000000000 ≤ pr c k ∧ pr c k ≤ 10000000000
theorem sumR_bd {pr : Nat → Nat → Int} (h : PrB pr) (n last : Nat) : ∀ (d k : Nat), k < n → -(10000000000 * ((d : Int) + 1)) ≤ sumR pr n last d k ∧ sumR pr n last d k ≤ 10000000000 * ((d : Int) + 1)
  | 0, k, _ => by have := h last k; rw [sumR]; constructor <;> omega
  | d + 1, k, hk => by
    have h1 := h (last - (d + 1)) k
    have h2 := minN_bd (g := sumR pr n last d) (n := n) (k := k) (B := 10000000000 * ((d : Int) + 1)) hk fun i hi => sumR_bd h n last d i hi
    rw [sumR]
    push_cast
    constructor <;> omega
/-- What the sums hold when so many columns are done, and so many beds of the next one. -/
def sumF (pr : Nat → Nat → Int) (n last i k : Nat) (p : Nat × Nat) : Option AV :=
  if p.2 < n ∧ p.1 ≤ last ∧ (last < p.1 + i ∨ (p.1 + i = last ∧ p.2 < k)) then some (I (sumR pr n last (last - p.1) p.2)) else none
theorem sumF_upd {pr : Nat → Nat → Int} {n last i k c : Nat} (hc : c + i = last) (hk : k < n) (p : Nat × Nat) : updK (sumF pr n last i k) (c, k) (I (sumR pr n last (last - c) k)) p = sumF pr n last i (k + 1) p := by
  obtain ⟨a, b⟩ := p
  unfold updK sumF
  by_cases h : (a, b) = (c, k)
  · cases h
    rw [if_pos rfl, if_pos ⟨hk, by omega, .inr ⟨hc, by omega⟩⟩]
  · rw [if_neg h]
    have h2 : ¬ (a = c ∧ b = k) := fun q => h (by rw [q.1, q.2])
    dsimp only
    by_cases h3 : b < n ∧ a ≤ last ∧ (last < a + i ∨ a + i = last ∧ b < k)
    · rw [if_pos h3, if_pos (by omega)]
    · rw [if_neg h3, if_neg (by omega)]
theorem sumF_next {pr : Nat → Nat → Int} {n last i : Nat} (p : Nat × Nat) : sumF pr n last i n p = sumF pr n last (i + 1) 0 p := by
  obtain ⟨a, b⟩ := p
  unfold sumF
  dsimp only
  by_cases h3 : b < n ∧ a ≤ last ∧ (last < a + i ∨ a + i = last ∧ b < n)
  · rw [if_pos h3, if_pos (by omega)]
  · rw [if_neg h3, if_neg (by omega)]
theorem sumF_none {pr : Nat → Nat → Int} {n last : Nat} (p : Nat × Nat) : (fun _ => none : Nat × Nat → Option AV) p = sumF pr n last 0 0 p := by
  unfold sumF
  rw [if_neg (by omega)]
theorem updK_twice {κ : Type} [DecidableEq κ] (f : κ → Option AV) (k : κ) (v w : AV) : updK (updK f k v) k w = updK f k w := by
  funext p
  unfold updK
  split <;> rfl
theorem updK_at {κ : Type} [DecidableEq κ] (f : κ → Option AV) (k : κ) (v : AV) : updK f k v k = some v := by unfold updK; rw [if_pos rfl]
theorem updK_ne {κ : Type} [DecidableEq κ] (f : κ → Option AV) {k p : κ} (v : AV) (h : p ≠ k) : updK f k v p = f p := by unfold updK; rw [if_neg h]
/-- A function that says a bed's price, whatever has been laid since. -/
def CallP (m : Nat) (pv : AV) (H : Heap) (N n : Nat) (pr : Nat → Nat → Int) : Prop := ∀ c k, c < N → k < n → ∃ f bs, Go.Ev.callV pv [encP (c, k)] = some (.fn f bs) ∧ ∀ G, Ext H G → RR m (.fn f bs) G = some (I (pr c k), G)
theorem CallP.ext {m : Nat} {pv : AV} {H G : Heap} {N n : Nat} {pr : Nat → Nat → Int} (h : CallP m pv H N n pr) (g : Ext H G) : CallP m pv G N n pr := fun c k h1 h2 => let ⟨f, bs, h3, h4⟩ := h c k h1 h2; ⟨f, bs, h3, fun X hX => h4 X (g.trans hX)⟩
theorem c97 (m : Nat) (last n : Nat) (cv pv : AV) (cols : List (List Bed)) (least : Int) (pr : Nat → Nat → Int) (H : Heap) (hM : Mat H cv cols) (hcl : ∀ c ∈ cols, c.length = n) (hlast : last < cols.length) (hN9 : cols.length ≤ 100) (hn9 : 1 ≤ n ∧ n ≤ 1000) (hB : PrB pr) (hP : CallP (m + 3) pv H cols.length n pr) : ∃ v H', RR (m + 4) (.fn 97 [.agg [cv, I least], I (last : Int), pv]) H = some (v, H') ∧ ∃ b o, v = .map b ∧ Ret H H' ∧ H.next ≤ b ∧ b < H'.next ∧ H'.get b = some o ∧ MapO o encP (sumF pr n last (last + 1) 0) := by
  show ∃ v H', evFn Try.prog (RR (m + 3)) 97 [.agg [cv, I least], I (last : Int), pv] H = some (v, H') ∧ ∃ b o, v = .map b ∧ Ret H H' ∧ H.next ≤ b ∧ b < H'.next ∧ H'.get b = some o ∧ MapO o encP (sumF pr n last (last + 1) 0)
  refine fn_okE Try.func97 rfl rfl (by kernel_rfl) (by kernel_rfl) ?_
  obtain ⟨W, hW, hg, hN, hE, hG⟩ := wOf H
  rw [← hW]
  have hg0 : ∀ j, W.get j = H.get j := hg
  refine kS ?_; refine kR ?_; refine OkO.box rfl rfl ?_; refine oA rfl rfl ?_; refine oN ?_; refine kS ?_; refine kR ?_; refine OkO.makeMap rfl ?_; refine oA rfl rfl ?_; refine oN ?_; refine kS ?_; refine kS ?_; refine kR ?_; refine oM rfl rfl ?_; refine oA rfl rfl ?_; refine oN ?_; refine Ok.block ?_
  refine Ok.loop (fun n9 s_ => ∃ (i : Nat) (z : Int) (o : AObj), n9 = last + 1 - i ∧ i ≤ last + 1 ∧ z = (last : Int) - (i : Int) ∧ Grow W s_.H ∧ W.next + 2 ≤ s_.H.next ∧ s_.H.get W.next = some (.cells [cv, I least] 35) ∧ s_.H.get (W.next + 1) = some o ∧ MapO o encP (sumF pr n last i 0) ∧ Has 6 [(1, I (last : Int)), (2, pv), (3, .ptr W.next 0), (7, .map (W.next + 1)), (8, I z)] s_.T ∧ s_.D = []) (last + 1) (by unfold loopFuel; omega)
    ⟨0, (last : Int), .map [] 0, rfl, Nat.zero_le _, by omega, (by (try dsimp only); repeat (first | exact hg | exact hG | apply Grow.new | (refine Grow.put ?_ _ (by first | omega | (simp only [hNw, hPt]; omega))))), (by simp only [hNw, hPt]; omega), (by first | assumption | (simp (disch := first | omega | (simp only [hNw, hPt]; omega)) only [gN] <;> first | rfl | assumption | exact gp0 _ _ _ | exact gn0 _ _)), (by first | assumption | (simp (disch := first | omega | (simp only [hNw, hPt]; omega)) only [gN] <;> first | rfl | assumption | exact gp0 _ _ _ | exact gn0 _ _)), MapO.nil.congr sumF_none, Has.of (by kernel_rfl), rfl⟩ ?_
  rintro n9 ⟨T, D, G⟩ ⟨i, z, o, hn, hi, hz, hg, hgx, f0, f1, ho, ⟨f, hT⟩, hD⟩
  dsimp only at *
  subst hT hD
  have hgn := hg.next
  have e0 : (G.get W.next).bind AObj.cs = some [cv, I least] := by rw [f0]; rfl
  refine kS ?_; refine kS ?_; refine kR ?_; refine oM rfl rfl ?_; refine OkO.bin rfl rfl rfl (bin_geq _ _) ?_; refine oN ?_
  refine Ok.cond rfl (fun h1 => ?_) (fun h1 => ?_)
  · obtain ⟨c, rfl⟩ : ∃ c : Nat, z = (c : Int) := ⟨last - i, by (have : (0 : Int) ≤ z := by simpa using h1); omega⟩
    have hci : c + i = last := by omega
    obtain ⟨vs, hR, hvl, hv⟩ := id hM
    have hlen : lenOf cv = some vs.length := by simpa using hR.len
    have hcl9 : c < vs.length := by omega
    obtain ⟨cb, co, ccs, j1, j20, j3, j4⟩ := hR.at_ c [vs[c]] (by simp [hcl9])
    have j5 := seg_one j3
    obtain ⟨col, hcol⟩ : ∃ col, cols[c]? = some col := ⟨_, List.getElem?_eq_getElem (by omega)⟩
    have hcn := hcl col (List.mem_of_getElem? hcol)
    have hrow := hv c vs[c] col (by simp [hcl9]) hcol
    have hlcol : lenOf vs[c] = some n := by rw [← hcn]; simpa using hrow.len
    have j2 : (G.get cb).bind AObj.cs = some ccs := by rw [hg.get _ (by omega), hg0]; exact j20
    refine Ok.skip ?_; refine kS ?_; refine Ok.block ?_; refine kS ?_; refine kR ?_; refine oF (o := 0) rfl (by kernel_rfl) rfl ?_; refine oL rfl rfl (qla0 1) ?_; refine oM rfl rfl ?_; refine qX (sz := 1) (n := c) rfl rfl rfl ?_; refine oL rfl rfl (qla0 1) ?_; refine oB rfl rfl rfl qbl ?_; refine oM rfl rfl ?_; refine oN ?_; refine Ok.block ?_
    refine Ok.loop (fun n8 s_ => ∃ (k : Nat) (o : AObj), n8 = n - k ∧ k ≤ n ∧ Grow W s_.H ∧ W.next + 2 ≤ s_.H.next ∧ s_.H.get W.next = some (.cells [cv, I least] 35) ∧ s_.H.get (W.next + 1) = some o ∧ MapO o encP (sumF pr n last i k) ∧ Has 6 [(1, I (last : Int)), (2, pv), (3, .ptr W.next 0), (7, .map (W.next + 1)), (8, I (c : Int)), (22, I (n : Int)), (23, I (k : Int))] s_.T ∧ s_.D = []) (n) (by unfold loopFuel; omega)
      ⟨0, o, rfl, Nat.zero_le _, hg, hgx, f0, f1, ho, Has.of (by kernel_rfl), rfl⟩ ?_
    rintro n8 ⟨T, D, G⟩ ⟨k, o, hn2, hk, hg, hgx, f0, f1, ho, ⟨f, hT⟩, hD⟩
    dsimp only at *
    subst hT hD
    have hgn := hg.next
    have e0 : (G.get W.next).bind AObj.cs = some [cv, I least] := by rw [f0]; rfl
    refine kS ?_; refine kR ?_; refine OkO.bin rfl rfl rfl (bin_lss _ _) ?_; refine oN ?_; refine kS ?_
    refine Ok.cond rfl (fun h2 => ?_) (fun h2 => ?_)
    · have hkn : k < n := by simpa using h2
      obtain ⟨pf, pbs, hp1, hp2⟩ := hP c k (by omega) hkn
      refine Ok.skip ?_; refine kS ?_; refine Ok.block ?_; refine kS ?_; refine kR ?_; refine oM rfl rfl ?_; refine oA rfl rfl ?_; refine oN ?_; refine kS ?_; refine kR ?_; refine oM rfl rfl ?_; refine oM rfl rfl ?_; refine OkO.build (z := [.int .i64 0, .int .i64 0]) (pl := [(0, 1), (1, 1)]) rfl (by kernel_rfl) rfl rfl ?_; refine OkO.alloc (z := [.int .i64 0, .int .i64 0]) rfl (by kernel_rfl) ?_; refine oT rfl rfl rfl (sAc (n := 2) (ag := true) (by kernel_rfl) (by first | assumption | (simp (disch := first | omega | (simp only [hNw, hPt]; omega)) only [gN] <;> first | rfl | assumption | exact gp0 _ _ _ | exact gn0 _ _)) rfl (by first | rfl | assumption) (by first | rfl | exact spl_set _ _ _ (by first | assumption | (simp; omega)))) ?_; refine oN ?_; refine kS ?_; refine Ok.drawn [(0, true, []), (1, true, []), (2, true, []), (3, true, []), (4, false, [1]), (5, false, [])] (by kernel_rfl) ?_; refine pS ?_; refine oM rfl rfl ?_; refine oN ⟨rfl, ?_⟩; refine pS ?_; refine oL rfl rfl (qlg7 2) ?_; refine oN ⟨rfl, ?_⟩; refine pS ?_; refine oM rfl rfl ?_; refine oN ⟨rfl, ?_⟩; refine pS ?_; refine oL rfl rfl (qlg7 2) ?_; refine oN ⟨rfl, ?_⟩; refine pS ?_; refine oV rfl rfl rfl rfl hp1 (hp2 _ (hE _ (by (try dsimp only); repeat (first | exact hg | exact hG | apply Grow.new | (refine Grow.put ?_ _ (by first | omega | (simp only [hNw, hPt]; omega))))))) ?_
      refine oN ⟨(sco (qsg4 2 rfl rfl rfl) rfl), ?_⟩; refine pS ?_
      refine OkO.mapUpdate (f := sumF pr n last i k) (o := o) (c, k) rfl mapT147 keysP rfl rfl rfl (by first | assumption | (simp (disch := first | omega | (simp only [hNw, hPt]; omega)) only [gN] <;> first | rfl | assumption | exact gp0 _ _ _ | exact gn0 _ _)) ho (fun o1 ho1 => ?_)
      refine oN ⟨rfl, ?_⟩; refine OkP.nil ?_; refine kS ?_; refine kR ?_; refine oM rfl rfl ?_; refine oM rfl rfl ?_; refine OkO.bin rfl rfl rfl (bin_lss _ _) ?_; refine oN ?_
      refine Ok.cond rfl (fun h3 => ?_) (fun h3 => ?_)
      · have hcl3 : c < last := by simpa using h3
        obtain ⟨col9, hcol9⟩ : ∃ col, cols[c + 1]? = some col := ⟨_, List.getElem?_eq_getElem (by omega)⟩
        have hf1 : ∀ j, j < n → updK (sumF pr n last i k) (c, k) (I (pr c k)) (c + 1, j) = some (I (sumR pr n last (last - (c + 1)) j)) := fun j hj => by (rw [updK_ne _ _ (by simp)]; unfold sumF; rw [if_pos ⟨hj, by show c + 1 ≤ last; omega, .inl (by show last < c + 1 + i; omega)⟩])
        have hb9 := hB c k
        have hsr : sumR pr n last (last - c) k = pr c k + minN (sumR pr n last (last - (c + 1))) n k := by (rw [show last - c = (last - (c + 1)) + 1 from by omega, sumR, show last - (last - (c + 1) + 1) = c from by omega])
        refine Ok.drawn [(0, true, []), (1, true, []), (2, true, []), (3, true, []), (4, true, []), (5, true, []), (6, true, []), (7, false, [2, 1]), (8, true, []), (9, true, []), (10, false, [2]), (11, true, []), (12, false, [])] (by kernel_rfl) ?_; refine pS ?_; refine oM rfl rfl ?_; refine oN ⟨rfl, ?_⟩; refine pS ?_; refine oL rfl rfl (qlg7 2) ?_; refine oN ⟨rfl, ?_⟩; refine pS ?_; refine OkO.lookup (o := o1) (f := updK (sumF pr n last i k) (c, k) (I (pr c k))) (c, k) (I (pr c k)) rfl mapT147 keysP rfl rfl (by first | assumption | (simp (disch := first | omega | (simp only [hNw, hPt]; omega)) only [gN] <;> first | rfl | assumption | exact gp0 _ _ _ | exact gn0 _ _)) ho1 (by rw [updK_at]) ?_; refine oN ⟨rfl, ?_⟩; refine pS ?_; refine oM rfl rfl ?_; refine oN ⟨rfl, ?_⟩; refine pS ?_; refine oL rfl rfl (qlg7 2) ?_; refine oN ⟨rfl, ?_⟩; refine pS ?_; refine oL rfl rfl (qlg7 2) ?_; refine oN ⟨rfl, ?_⟩; refine pS ?_; refine oM rfl rfl ?_; refine oN ⟨rfl, ?_⟩; refine pS ?_; refine oE rfl rfl rfl rfl rfl (c107 m (W.next + 1) c k n cv least cols col9 (sumR pr n last (last - (c + 1))) _ o1 _ (hM.ext (hE _ (by (try dsimp only); repeat (first | exact hg | exact hG | apply Grow.new | (refine Grow.put ?_ _ (by first | omega | (simp only [hNw, hPt]; omega))))))) hcol9 (hcl col9 (List.mem_of_getElem? hcol9)) (by first | assumption | (simp (disch := first | omega | (simp only [hNw, hPt]; omega)) only [gN] <;> first | rfl | assumption | exact gp0 _ _ _ | exact gn0 _ _)) (by simp only [hNw, hPt]; omega) ho1 hf1 hkn (by omega) (by omega)) ?_
        rintro v107 H107 ⟨x, rfl, rfl, hx1, hx2⟩
        have hx3 := minN_of hkn hx1 hx2
        have hbx := sumR_bd hB n last (last - (c + 1)) x hx1.1
        refine oN ⟨(sco (still_lookup rfl (evLookup_val (o := o1) (f := updK (sumF pr n last i k) (c, k) (I (pr c k))) (c, k) mapT147 keysP rfl rfl (by first | assumption | (simp (disch := first | omega | (simp only [hNw, hPt]; omega)) only [gN] <;> first | rfl | assumption | exact gp0 _ _ _ | exact gn0 _ _)) ho1 (by rw [updK_at])) rfl (eqr _ rfl)) (sco (qsg4 2 rfl rfl rfl) rfl)), ?_⟩; refine pS ?_; refine OkO.lookup (o := o1) (f := updK (sumF pr n last i k) (c, k) (I (pr c k))) (c + 1, x) (I (sumR pr n last (last - (c + 1)) x)) rfl mapT147 keysP rfl rfl (by first | assumption | (simp (disch := first | omega | (simp only [hNw, hPt]; omega)) only [gN] <;> first | rfl | assumption | exact gp0 _ _ _ | exact gn0 _ _)) ho1 (by rw [hf1 x hx1.1]) ?_; refine oN ⟨rfl, ?_⟩; refine pS ?_; refine OkO.bin rfl rfl rfl (bin_add (by omega) (by omega)) ?_; refine oN ⟨rfl, ?_⟩; refine pS ?_
        refine OkO.mapEntry (o := o1) (f := updK (sumF pr n last i k) (c, k) (I (pr c k))) (c, k) rfl mapT147 keysP rfl rfl (by first | assumption | (simp (disch := first | omega | (simp only [hNw, hPt]; omega)) only [gN] <;> first | rfl | assumption | exact gp0 _ _ _ | exact gn0 _ _)) ho1 (fun o2 born ho2 => ?_)
        refine oN ⟨(sco (still_lookup rfl (evLookup_val (o := o2) (f := updK (updK (sumF pr n last i k) (c, k) (I (pr c k))) (c, k) (((updK (sumF pr n last i k) (c, k) (I (pr c k))) (c, k)).getD (I 0))) (c, k) mapT147 keysP rfl rfl (by first | assumption | (simp (disch := first | omega | (simp only [hNw, hPt]; omega)) only [gN] <;> first | rfl | assumption | exact gp0 _ _ _ | exact gn0 _ _)) ho2.map (by simp only [updK_at, Option.getD_some])) rfl (eqr _ rfl)) rfl), ?_⟩; refine pS ?_; refine OkO.extract rfl rfl rfl ?_; refine oN ⟨rfl, ?_⟩; refine pS ?_
        refine OkO.entryStore (o := o2) (n := born) (key := (c, k)) (f := updK (updK (sumF pr n last i k) (c, k) (I (pr c k))) (c, k) (((updK (sumF pr n last i k) (c, k) (I (pr c k))) (c, k)).getD (I 0))) rfl rfl rfl rfl (by first | assumption | (simp (disch := first | omega | (simp only [hNw, hPt]; omega)) only [gN] <;> first | rfl | assumption | exact gp0 _ _ _ | exact gn0 _ _)) ho2 (fun o3 ho3 => ?_)
        refine oN ⟨rfl, ?_⟩; refine OkP.nil ?_; refine kR ?_; refine OkO.bin rfl rfl rfl (bin_add (by omega) (by omega)) ?_; refine oM rfl rfl ?_; refine oN ?_
        refine ⟨n - (k + 1), by omega, k + 1, o3, rfl, by omega, (by (try dsimp only); repeat (first | exact hg | exact hG | apply Grow.new | (refine Grow.put ?_ _ (by first | omega | (simp only [hNw, hPt]; omega))))), (by simp only [hNw, hPt]; omega), (by first | assumption | (simp (disch := first | omega | (simp only [hNw, hPt]; omega)) only [gN] <;> first | rfl | assumption | exact gp0 _ _ _ | exact gn0 _ _)), (by first | assumption | (simp (disch := first | omega | (simp only [hNw, hPt]; omega)) only [gN] <;> first | rfl | assumption | exact gp0 _ _ _ | exact gn0 _ _)), by rw [updK_twice, updK_twice] at ho3; exact ho3.congr (fun p => by rw [← sumF_upd hci hkn p, hsr, ← hx3]), Has.of (by kernel_rfl), rfl⟩
      · have hcl3 : c = last := by (have : ¬ c < last := by simpa using h3); omega
        refine Ok.skip ?_; refine kR ?_; refine OkO.bin rfl rfl rfl (bin_add (by omega) (by omega)) ?_; refine oM rfl rfl ?_; refine oN ?_
        refine ⟨n - (k + 1), by omega, k + 1, o1, rfl, by omega, (by (try dsimp only); repeat (first | exact hg | exact hG | apply Grow.new | (refine Grow.put ?_ _ (by first | omega | (simp only [hNw, hPt]; omega))))), (by simp only [hNw, hPt]; omega), (by first | assumption | (simp (disch := first | omega | (simp only [hNw, hPt]; omega)) only [gN] <;> first | rfl | assumption | exact gp0 _ _ _ | exact gn0 _ _)), (by first | assumption | (simp (disch := first | omega | (simp only [hNw, hPt]; omega)) only [gN] <;> first | rfl | assumption | exact gp0 _ _ _ | exact gn0 _ _)), ho1.congr (fun p => by rw [← sumF_upd hci hkn p, hcl3, Nat.sub_self, sumR]), Has.of (by kernel_rfl), rfl⟩
    · have hkn : k = n := by (have : ¬ k < n := by simpa using h2); omega
      subst hkn
      refine Ok.exit ?_; refine kR ?_; refine oM rfl rfl ?_; refine OkO.bin rfl rfl rfl (bin_sub (by omega) (by omega)) ?_; refine oA rfl rfl ?_; refine oN ?_
      refine ⟨last + 1 - (i + 1), by omega, i + 1, (c : Int) - 1, o, rfl, by omega, by omega, hg, hgx, f0, f1, ho.congr (fun p => sumF_next p), Has.of (by kernel_rfl), rfl⟩
  · have hz1 : i = last + 1 := by (have : ¬ (0 : Int) ≤ z := by simpa using h1); omega
    refine Ok.exit ?_; refine kS ?_; refine kR ?_; refine oM rfl rfl ?_; refine oA rfl rfl ?_; refine oN ?_
    refine Ok.ret ⟨.inr rfl, ?_⟩
    exact back_newQ (resV_tmp rfl resV_nil) rfl (by rw [← hW]; exact (by (try dsimp only); repeat (first | exact hg | exact hG | apply Grow.new | (refine Grow.put ?_ _ (by first | omega | (simp only [hNw, hPt]; omega)))))) rfl (fun H' p1 p2 p3 => ⟨W.next + 1, o, rfl, p1, by omega, by omega, by rw [p2]; exact f1, ho.congr (fun p => by rw [hz1])⟩)
end
end Go.Ev

set_option maxRecDepth 100000
set_option linter.unusedSimpArgs false
set_option linter.unusedVariables false
namespace Go.Ev
open Go Go.Proofs
noncomputable section
theorem back_any2 {P : Program} {fn : Func} {H : Heap} {T : Tr AV} {G : Heap} {vs : List AV} {v : AV} (hr : resV P T G fn.results.toList = some vs) (hv : resOf vs = v) (hlo : G.lo < H.next) :
    ∃ H', evBack P fn H ⟨T, [], G⟩ = some (v, H') ∧ (∀ n, H'.get n = G.get n) ∧ H'.next = G.next ∧ (∀ k, k ≤ H.lo → k ≤ G.lo → k ≤ H'.lo) ∧ H'.lo ≤ G.lo := by
  have e : evBack P fn H ⟨T, [], G⟩ = some (leave H v G) := by
    unfold evBack
    show (match some G with | some H' => (match resV P T H' fn.results.toList with | some vs => some (leave H (resOf vs) H') | none => none) | none => none) = _
    dsimp only
    rw [hr]
    dsimp only
    rw [hv]
  have hk : ∀ k, k ≤ H.lo → k ≤ G.lo → k ≤ @Bool.rec (fun _ => Nat) G.lo H.lo (Nat.ble H.lo G.lo) := fun k h1 h2 => by
    cases Nat.ble H.lo G.lo with
    | true => exact h1
    | false => exact h2
  have hk2 : @Bool.rec (fun _ => Nat) G.lo H.lo (Nat.ble H.lo G.lo) ≤ G.lo := by
    cases hb : Nat.ble H.lo G.lo with
    | true => exact Nat.le_of_ble_eq_true hb
    | false => exact Nat.le_refl _
  unfold leave at e
  rw [show Nat.ble H.next G.lo = false from by cases hb : Nat.ble H.next G.lo with | false => rfl | true => (have := Nat.le_of_ble_eq_true hb; omega)] at e
  exact ⟨_, e, fun _ => rfl, rfl, hk, hk2⟩
/-- Beds that follow each other. -/
def Walk (n : Nat) : List Nat → Prop
  | [] => True
  | [k] => k < n
  | k :: j :: l => k < n ∧ Nxt n k j ∧ Walk n (j :: l)
def walkSum (pr : Nat → Nat → Int) : Nat → List Nat → Int
  | _, [] => 0
  | c, k :: l => pr c k + walkSum pr (c + 1) l
theorem Walk.head {n k : Nat} {l : List Nat} (h : Walk n (k :: l)) : k < n := by
  cases l with
  | nil => exact h
  | cons j l => exact h.1
/-- No walk to the last column costs less than the least sum. -/
theorem sumR_le {pr : Nat → Nat → Int} {n last : Nat} : ∀ (l : List Nat) (k c : Nat), Walk n (k :: l) → c + l.length = last → sumR pr n last l.length k ≤ walkSum pr c (k :: l)
  | [], k, c, h, hc => by
    simp only [List.length_nil, Nat.add_zero] at hc
    subst hc
    simp [sumR, walkSum]
  | j :: l, k, c, h, hc => by
    simp only [List.length_cons] at hc ⊢
    have h1 := sumR_le (pr := pr) (n := n) (last := last) l j (c + 1) h.2.2 (by omega)
    have h2 := minN_le (g := sumR pr n last l.length) h.2.1
    rw [sumR, walkSum, show last - (l.length + 1) = c from by omega]
    omega
/-- What a walk along the sums has made. -/
structure FolJ (W : Heap) (N : Nat) (cv : AV) (least : Int) (last mb fr : Nat) (us : List Nat) (G : Heap) : Prop where
  gr : Grow W G
  nx : N + 7 ≤ G.next
  b0 : G.get N = some (.cells [cv, I least] 35)
  b2 : G.get (N + 2) = some (.cells [I (last : Int)] 3)
  b3 : G.get (N + 3) = some (.cells [.map mb] 147)
  b4 : G.get (N + 4) = some (.cells [I 0, .nils] 39)
  b5 : ∃ bv, G.get (N + 5) = some (.cells [I (fr : Int), bv] 39) ∧ Mine (N + 7) G bv 3 1 (us.map fun (k : Nat) => I (k : Int))
  b6 : G.get (N + 6) = some (.cells [.fn 109 [] [.ptr (N + 5) 0, .ptr (N + 2) 0, .ptr (N + 6) 0, .ptr N 0, .ptr (N + 3) 0]] 162)
theorem FolJ.same {W : Heap} {N : Nat} {cv : AV} {least : Int} {last mb fr : Nat} {us : List Nat} {G G' : Heap} (h : FolJ W N cv least last mb fr us G) (hg : ∀ n, G'.get n = G.get n) (hn : G'.next = G.next) (hl : W.next ≤ G'.lo) : FolJ W N cv least last mb fr us G' := by
  obtain ⟨bv, h5, h5b⟩ := h.b5
  exact ⟨⟨by rw [hn]; exact h.gr.next, fun n k => by rw [hg]; exact h.gr.get n k, hl⟩, by rw [hn]; exact h.nx, by rw [hg]; exact h.b0, by rw [hg]; exact h.b2, by rw [hg]; exact h.b3, by rw [hg]; exact h.b4, ⟨bv, by rw [hg]; exact h5, h5b.to ⟨by omega, fun n _ => hg n⟩⟩, by rw [hg]; exact h.b6⟩
theorem Mine.lt {k0 : Nat} {G : Heap} {v : AV} {e : TypeId} {sz : Nat} {cs : List AV} (h : Mine k0 G v e sz cs) {b m : Nat} (hv : v = .opn b m) : b < G.next := by
  rcases h with ⟨h, _⟩ | ⟨b', m', h1, _, _, _, h5⟩
  · rw [h] at hv; cases hv
  · rw [h1] at hv; cases hv; exact h5
theorem Mine.put {k0 : Nat} {G : Heap} {v : AV} {e : TypeId} {sz : Nat} {cs : List AV} (h : Mine k0 G v e sz cs) {n : Nat} (o : AObj) (hn : n < k0) : Mine k0 (G.put n o) v e sz cs := by
  rcases h with h | ⟨b, m, h1, h2, h3, h4, h5⟩
  · exact .inl h
  · exact .inr ⟨b, m, h1, by rw [gpo _ _ _ _ (by omega)]; exact h2, h3, h4, by simpa using h5⟩
theorem c109 (N last n mb fr : Nat) (cv : AV) (least : Int) (cols : List (List Bed)) (pr : Nat → Nat → Int) (o : AObj) (W0 : Heap) (hM : Mat W0 cv cols) (hcl : ∀ c ∈ cols, c.length = n) (hlast : last < cols.length) (hN9 : cols.length ≤ 100) (hn9 : 1 ≤ n ∧ n ≤ 1000) (ho0 : W0.get mb = some o) (hmb : mb < W0.next) (hNW : W0.next = N) (ho : MapO o encP (sumF pr n last (last + 1) 0)) :
    ∀ (d F c k : Nat) (us : List Nat) (H : Heap), d ≤ F → c + d = last → k < n → us.length + d ≤ 1000 → FolJ W0 N cv least last mb fr us H → ∃ v H', RR (F + 4) (.fn 109 [encP (c, k), .ptr (N + 5) 0, .ptr (N + 2) 0, .ptr (N + 6) 0, .ptr N 0, .ptr (N + 3) 0]) H = some (v, H') ∧ v = .tup [] ∧ ∃ path, FolJ W0 N cv least last mb fr (us ++ path) H' ∧ H'.lo ≤ N + 5 ∧ Walk n path ∧ path.length = d + 1 ∧ path.head? = some k ∧ walkSum pr c path = sumR pr n last d k ∧ ∀ j, j < H.next → j ≠ N + 5 → (∀ m, H.get (N + 5) ≠ some (.cells [I (fr : Int), .opn j m] 39)) → H'.get j = H.get j := by
  intro d
  induction d using Nat.strongRecOn with
  | ind d ih =>
  intro F c k us H hF hcd hkn hul hJ
  show ∃ v H', evFn Try.prog (RR (F + 3)) 109 [encP (c, k), .ptr (N + 5) 0, .ptr (N + 2) 0, .ptr (N + 6) 0, .ptr N 0, .ptr (N + 3) 0] H = some (v, H') ∧ v = .tup [] ∧ ∃ path, FolJ W0 N cv least last mb fr (us ++ path) H' ∧ H'.lo ≤ N + 5 ∧ Walk n path ∧ path.length = d + 1 ∧ path.head? = some k ∧ walkSum pr c path = sumR pr n last d k ∧ ∀ j, j < H.next → j ≠ N + 5 → (∀ m, H.get (N + 5) ≠ some (.cells [I (fr : Int), .opn j m] 39)) → H'.get j = H.get j
  refine fn_okE Try.func109 rfl rfl (by kernel_rfl) (by kernel_rfl) ?_
  obtain ⟨W, hW, hg, hN, hE, hG⟩ := wOf H
  rw [← hW]
  have hgr : Grow W0 W := by rw [hW]; exact ⟨hJ.gr.next, fun n k => hJ.gr.get n k, hJ.gr.next⟩
  have hgr0 := hJ.gr
  have hgW : ∀ G, Grow W G → Grow W0 G := fun G g => ⟨Nat.le_trans hgr.next g.next, fun n k => (g.get n (Nat.lt_of_lt_of_le k hgr.next)).trans (hgr.get n k), Nat.le_trans hgr.next g.lo⟩
  have hnx := hJ.nx
  have pc : cv.plain = true := by obtain ⟨vs, hR, _, _⟩ := hM; exact lpl hR.len
  have f0 : W.get N = _ := (hg _).trans hJ.b0
  have f2 : W.get (N + 2) = _ := (hg _).trans hJ.b2
  have f3 : W.get (N + 3) = _ := (hg _).trans hJ.b3
  have f4 : W.get (N + 4) = _ := (hg _).trans hJ.b4
  obtain ⟨bv, f5', hm'⟩ := hJ.b5
  have f5 : W.get (N + 5) = _ := (hg _).trans f5'
  have e5w : (W.get (N + 5)).bind AObj.cs = some [I (fr : Int), bv] := by rw [f5]; rfl
  have f6 : W.get (N + 6) = _ := (hg _).trans hJ.b6
  have hmW : Mine (N + 7) W bv 3 1 (us.map fun (k : Nat) => I (k : Int)) := hm'.to ⟨by omega, fun n _ => hg n⟩
  refine kS ?_; refine kR ?_; refine OkO.box rfl rfl ?_; refine oN ?_; refine kS ?_; refine kR ?_; refine oF (o := 1) rfl (by kernel_rfl) rfl ?_; refine oL rfl rfl (qla0 1) ?_; refine oF (o := 1) rfl (by kernel_rfl) rfl ?_; refine oL rfl rfl (qla0 1) ?_; refine OkO.buildSlice (el := 3) (sz := 1) (z := [.int .i64 0]) rfl (by kernel_rfl) (by decide) rfl rfl ?_; refine OkO.builtinE rfl rfl rfl (Mine.app2 (W := W0) (k0 := N + 7) (sz := 1) (by_ := 8) (e := 3) (n := 1) (new := [I (k : Int)]) (hmW.to (Grow.ext (W := W) (by (try dsimp only); repeat (first | exact hG | apply Grow.new | (refine Grow.put ?_ _ (by first | omega | (simp only [hNw, hPt]; omega))))))) (hgW _ ((by (try dsimp only); repeat (first | exact hG | apply Grow.new | (refine Grow.put ?_ _ (by first | omega | (simp only [hNw, hPt]; omega))))))) (by omega) (by simp only [hNw, hPt]; omega) (by kernel_rfl) (by kernel_rfl) (elems_new (n := 1) (sz := 1) rfl) rfl rfl (by rw [List.length_map]; omega) (by omega) (by omega) rfl) ?_
  rintro v2 G2 ⟨q1, q2, q4, q5, q6, q7⟩
  simp only [hNw, hPt] at q6
  have z0 : G2.get N = some (.cells [cv, I least] 35) := by rw [q4.get _ (by omega) (by simp only [hNw, hPt]; omega)]; (simp (disch := first | omega | (simp only [hNw, hPt]; omega)) only [gN] <;> first | rfl | assumption)
  have z2 : G2.get (N + 2) = some (.cells [I (last : Int)] 3) := by rw [q4.get _ (by omega) (by simp only [hNw, hPt]; omega)]; (simp (disch := first | omega | (simp only [hNw, hPt]; omega)) only [gN] <;> first | rfl | assumption)
  have z3 : G2.get (N + 3) = some (.cells [.map mb] 147) := by rw [q4.get _ (by omega) (by simp only [hNw, hPt]; omega)]; (simp (disch := first | omega | (simp only [hNw, hPt]; omega)) only [gN] <;> first | rfl | assumption)
  have z4 : G2.get (N + 4) = some (.cells [I 0, .nils] 39) := by rw [q4.get _ (by omega) (by simp only [hNw, hPt]; omega)]; (simp (disch := first | omega | (simp only [hNw, hPt]; omega)) only [gN] <;> first | rfl | assumption)
  have z5 : G2.get (N + 5) = some (.cells [I (fr : Int), bv] 39) := by rw [q4.get _ (by omega) (by simp only [hNw, hPt]; omega)]; (simp (disch := first | omega | (simp only [hNw, hPt]; omega)) only [gN] <;> first | rfl | assumption)
  have z6 : G2.get (N + 6) = some (.cells [.fn 109 [] [.ptr (N + 5) 0, .ptr (N + 2) 0, .ptr (N + 6) 0, .ptr N 0, .ptr (N + 3) 0]] 162) := by rw [q4.get _ (by omega) (by simp only [hNw, hPt]; omega)]; (simp (disch := first | omega | (simp only [hNw, hPt]; omega)) only [gN] <;> first | rfl | assumption)
  have zt : G2.get W.next = some (.cells [I (c : Int), I (k : Int)] 145) := by rw [q5 _ (by simp only [hNw, hPt]; omega) (fun m9 h9 => by rw [h9] at hmW; have := hmW.lt rfl; omega)]; first | exact gn0 _ _ | (simp (disch := first | omega | (simp only [hNw, hPt]; omega)) only [gN] <;> first | rfl | assumption)
  obtain ⟨mm, hv2⟩ := q7
  subst hv2
  have e0 : (G2.get N).bind AObj.cs = some [cv, I least] := by rw [z0]; rfl
  have e2 : (G2.get (N + 2)).bind AObj.cs = some [I (last : Int)] := by rw [z2]; rfl
  have e3 : (G2.get (N + 3)).bind AObj.cs = some [.map mb] := by rw [z3]; rfl
  have et : (G2.get W.next).bind AObj.cs = some [I (c : Int), I (k : Int)] := by rw [zt]; rfl
  have e5 : (G2.get (N + 5)).bind AObj.cs = some [I (fr : Int), bv] := by rw [z5]; rfl
  have e6 : (G2.get (N + 6)).bind AObj.cs = some [.fn 109 [] [.ptr (N + 5) 0, .ptr (N + 2) 0, .ptr (N + 6) 0, .ptr N 0, .ptr (N + 3) 0]] := by rw [z6]; rfl
  refine oF (o := 1) rfl (by kernel_rfl) rfl ?_; refine oT rfl rfl rfl (sAc (n := 1) (ag := false) (by kernel_rfl) (by first | assumption | (simp (disch := first | omega | (simp only [hNw, hPt]; omega)) only [gN] <;> first | rfl | assumption | exact gp0 _ _ _ | exact gn0 _ _)) rfl (by first | rfl | assumption) (by first | rfl | exact spl_set _ _ _ (by first | assumption | (simp; omega)))) ?_; refine oN ?_; refine kS ?_; refine kR ?_; refine oF (o := 0) rfl (by kernel_rfl) rfl ?_; refine oL rfl rfl (qla0 1) ?_; refine oL rfl rfl (qla0 1) ?_; refine OkO.bin rfl rfl rfl (bin_lss _ _) ?_; refine oN ?_
  refine Ok.cond rfl (fun h1 => ?_) (fun h1 => ?_)
  · have hcl3 : c < last := by simpa using h1
    obtain ⟨F1, rfl⟩ : ∃ F1, F = F1 + 1 := ⟨F - 1, by omega⟩
    obtain ⟨col9, hcol9⟩ : ∃ col, cols[c + 1]? = some col := ⟨_, List.getElem?_eq_getElem (by omega)⟩
    have hf1 : ∀ j, j < n → sumF pr n last (last + 1) 0 (c + 1, j) = some (I (sumR pr n last (d - 1) j)) := fun j hj => by (unfold sumF; rw [if_pos ⟨hj, by show c + 1 ≤ last; omega, .inl (by show last < c + 1 + (last + 1); omega)⟩, show last - (c + 1) = d - 1 from by omega])
    have hfb : FolJ W0 N cv least last mb fr (us ++ [k]) (G2.put (N + 5 + 0) (.cells [I (fr : Int), .opn _ mm] 39)) := ⟨q2.put _ (by omega), (by simp only [hNw, hPt]; omega), (by first | assumption | (simp (disch := first | omega | (simp only [hNw, hPt]; omega)) only [gN] <;> first | rfl | assumption | exact gp0 _ _ _ | exact gn0 _ _)), (by first | assumption | (simp (disch := first | omega | (simp only [hNw, hPt]; omega)) only [gN] <;> first | rfl | assumption | exact gp0 _ _ _ | exact gn0 _ _)), (by first | assumption | (simp (disch := first | omega | (simp only [hNw, hPt]; omega)) only [gN] <;> first | rfl | assumption | exact gp0 _ _ _ | exact gn0 _ _)), (by first | assumption | (simp (disch := first | omega | (simp only [hNw, hPt]; omega)) only [gN] <;> first | rfl | assumption | exact gp0 _ _ _ | exact gn0 _ _)), ⟨_, (by first | assumption | (simp (disch := first | omega | (simp only [hNw, hPt]; omega)) only [gN] <;> first | rfl | assumption | exact gp0 _ _ _ | exact gn0 _ _)), by rw [List.map_append]; exact q1.put _ (by omega)⟩, (by first | assumption | (simp (disch := first | omega | (simp only [hNw, hPt]; omega)) only [gN] <;> first | rfl | assumption | exact gp0 _ _ _ | exact gn0 _ _))⟩
    refine Ok.drawn [(0, true, []), (1, true, []), (2, true, []), (3, true, []), (4, false, [0]), (5, false, [3, 2, 1])] (by kernel_rfl) ?_; refine pS ?_; refine oL rfl rfl (qla0 1) ?_; refine oN ⟨rfl, ?_⟩; refine pS ?_; refine oL rfl rfl (qlg7 2) ?_; refine oN ⟨rfl, ?_⟩; refine pS ?_; refine oL rfl rfl (qlg7 2) ?_; refine oN ⟨rfl, ?_⟩; refine pS ?_; refine oL rfl rfl (qla0 1) ?_; refine oN ⟨rfl, ?_⟩; refine pS ?_; refine oE rfl rfl rfl rfl rfl (c107 (F1 + 1) mb c k n cv least cols col9 (sumR pr n last (d - 1)) _ o _ (hM.ext (Grow.ext hfb.gr)) hcol9 (hcl col9 (List.mem_of_getElem? hcol9)) ((hfb.gr.get _ hmb).trans ho0) (Nat.lt_of_lt_of_le hmb hfb.gr.next) ho hf1 hkn (by omega) (by omega)) ?_
    rintro v107 H107 ⟨x, rfl, rfl, hx1, hx2⟩
    have hx3 := minN_of hkn hx1 hx2
    refine oN ⟨(sco (qsa5 1 rfl rfl rfl) rfl), ?_⟩; refine pS ?_; refine oE rfl rfl rfl rfl rfl (ih (d - 1) (by omega) F1 (c + 1) x (us ++ [k]) _ (by omega) (by omega) hx1.1 (by rw [List.length_append]; simp; omega) hfb) ?_
    rintro v9 H9 ⟨rfl, path, hpf, hpl, hp1, hp2, hp3, hp4, hp5⟩
    have y0 : (H9.get N).bind AObj.cs = some [cv, I least] := by rw [hpf.b0]; rfl
    have y3 : (H9.get (N + 3)).bind AObj.cs = some [.map mb] := by rw [hpf.b3]; rfl
    have yt : (H9.get W.next).bind AObj.cs = some [I (c : Int), I (k : Int)] := by rw [hp5 _ (by simp only [hNw, hPt]; omega) (by omega) (fun m9 h9 => by rw [show N + 5 = N + 5 + 0 from rfl, gp0] at h9; simp [AV.cells] at h9; omega), gpo _ _ _ _ (by omega)]; exact et
    refine oN ⟨(sco (qsa5 1 rfl rfl rfl) (sco (qsg6 2 rfl rfl rfl) (sco (qsg6 2 rfl rfl rfl) rfl))), ?_⟩; refine OkP.nil ?_
    refine ⟨.inl rfl, ?_⟩
    obtain ⟨H8, r1, r2, r3, r4, r5⟩ := back_any2 (H := H) (T := _) (G := H9) (fn := Try.f109) (P := Try.prog) (vs := []) rfl rfl (by omega)
    refine ⟨_, H8, r1, rfl, k :: path, ?_, by omega, ?_, by simp [hp2]; omega, rfl, ?_, ?_⟩
    · rw [List.append_assoc] at hpf; exact hpf.same r2 r3 (r4 _ hgr0.lo hpf.gr.lo)
    · cases path with | nil => simp at hp2 | cons j l => (simp at hp3; subst hp3; exact ⟨hkn, hx1, hp1⟩)
    · rw [walkSum, hp4, hx3, show d = (d - 1) + 1 from by omega, sumR, show last - (d - 1 + 1) = c from by omega, Nat.add_sub_cancel]
    · intro j j1 j2 j3
      have hbj : ∀ m, bv ≠ .opn j m := fun m9 h9 => j3 m9 (by rw [f5', h9])
      have hj2 : G2.get j = H.get j := by rw [q5 j (by simp only [hNw, hPt]; omega) hbj]; simp (disch := first | omega | (simp only [hNw, hPt]; omega)) only [gno]; exact hg j
      rw [r2, hp5 j (by simp only [hPt]; omega) j2 (fun m9 h9 => by rw [show N + 5 = N + 5 + 0 from rfl, gp0] at h9; simp [AV.cells] at h9; omega), gpo _ _ _ _ (by omega)]; exact hj2
  · have hcl3 : c = last := by (have : ¬ c < last := by simpa using h1); omega
    have hfb : FolJ W0 N cv least last mb fr (us ++ [k]) (G2.put (N + 5 + 0) (.cells [I (fr : Int), .opn _ mm] 39)) := ⟨q2.put _ (by omega), (by simp only [hNw, hPt]; omega), (by first | assumption | (simp (disch := first | omega | (simp only [hNw, hPt]; omega)) only [gN] <;> first | rfl | assumption | exact gp0 _ _ _ | exact gn0 _ _)), (by first | assumption | (simp (disch := first | omega | (simp only [hNw, hPt]; omega)) only [gN] <;> first | rfl | assumption | exact gp0 _ _ _ | exact gn0 _ _)), (by first | assumption | (simp (disch := first | omega | (simp only [hNw, hPt]; omega)) only [gN] <;> first | rfl | assumption | exact gp0 _ _ _ | exact gn0 _ _)), (by first | assumption | (simp (disch := first | omega | (simp only [hNw, hPt]; omega)) only [gN] <;> first | rfl | assumption | exact gp0 _ _ _ | exact gn0 _ _)), ⟨_, (by first | assumption | (simp (disch := first | omega | (simp only [hNw, hPt]; omega)) only [gN] <;> first | rfl | assumption | exact gp0 _ _ _ | exact gn0 _ _)), by rw [List.map_append]; exact q1.put _ (by omega)⟩, (by first | assumption | (simp (disch := first | omega | (simp only [hNw, hPt]; omega)) only [gN] <;> first | rfl | assumption | exact gp0 _ _ _ | exact gn0 _ _))⟩
    refine Ok.skip ?_
    refine ⟨.inl rfl, ?_⟩
    obtain ⟨H8, r1, r2, r3, r4, r5⟩ := back_any2 (H := H) (T := _) (G := (G2.put (N + 5) (.cells [I (fr : Int), .opn (W.next + 2) mm] 39))) (fn := Try.f109) (P := Try.prog) (vs := []) rfl rfl (by (try dsimp only); rw [Heap.lo_put]; omega)
    refine ⟨_, H8, r1, rfl, [k], ?_, ?_, hkn, by simp; omega, rfl, ?_, ?_⟩
    · exact hfb.same r2 r3 (r4 _ hgr0.lo hfb.gr.lo)
    · refine Nat.le_trans r5 ?_; (try dsimp only); rw [Heap.lo_put]; omega
    · rw [walkSum, walkSum, show d = 0 from by omega, sumR, hcl3]; omega
    · intro j j1 j2 j3
      have hbj : ∀ m, bv ≠ .opn j m := fun m9 h9 => j3 m9 (by rw [f5', h9])
      have hj2 : G2.get j = H.get j := by rw [q5 j (by simp only [hNw, hPt]; omega) hbj]; simp (disch := first | omega | (simp only [hNw, hPt]; omega)) only [gno]; exact hg j
      rw [r2, gpo _ _ _ _ (by omega)]; exact hj2
end
end Go.Ev

set_option maxRecDepth 100000
set_option linter.unusedSimpArgs false
set_option linter.unusedVariables false
namespace Go.Ev
open Go Go.Proofs
noncomputable section
theorem c99 (m : Nat) (last n mb c k d : Nat) (cv : AV) (least : Int) (cols : List (List Bed)) (pr : Nat → Nat → Int) (o : AObj) (H : Heap) (hM : Mat H cv cols) (hcl : ∀ c ∈ cols, c.length = n) (hlast : last < cols.length) (hN9 : cols.length ≤ 100) (hn9 : 1 ≤ n ∧ n ≤ 1000) (ho0 : H.get mb = some o) (hmb : mb < H.next) (ho : MapO o encP (sumF pr n last (last + 1) 0)) (hcd : c + d = last) (hkn : k < n) : ∃ v H', RR (m + 105) (.fn 99 [.agg [cv, I least], encP (c, k), I (last : Int), .map mb]) H = some (v, H') ∧ ∃ bv path, v = .agg [I (c : Int), bv] ∧ Ret H H' ∧ Mine H.next H' bv 3 1 (path.map fun (k : Nat) => I (k : Int)) ∧ bv ≠ .nils ∧ Walk n path ∧ path.length = d + 1 ∧ walkSum pr c path = sumR pr n last d k := by
  show ∃ v H', evFn Try.prog (RR (m + 104)) 99 [.agg [cv, I least], encP (c, k), I (last : Int), .map mb] H = some (v, H') ∧ ∃ bv path, v = .agg [I (c : Int), bv] ∧ Ret H H' ∧ Mine H.next H' bv 3 1 (path.map fun (k : Nat) => I (k : Int)) ∧ bv ≠ .nils ∧ Walk n path ∧ path.length = d + 1 ∧ walkSum pr c path = sumR pr n last d k
  refine fn_okE Try.func99 rfl rfl (by kernel_rfl) (by kernel_rfl) ?_
  obtain ⟨W, hW, hg, hN, hE, hG⟩ := wOf H
  rw [← hW]
  refine kS ?_; refine kR ?_; refine OkO.box rfl rfl ?_; refine OkO.box rfl rfl ?_; refine OkO.box rfl rfl ?_; refine OkO.box rfl rfl ?_; refine OkO.alloc (z := [.int .i64 0, .nils]) rfl (by kernel_rfl) ?_; refine oN ?_; refine kS ?_; refine kR ?_; refine oF (o := 0) rfl (by kernel_rfl) rfl ?_; refine oL rfl rfl (qla0 1) ?_; refine OkO.build (z := [.int .i64 0, .nils]) (pl := [(0, 1), (1, 1)]) rfl (by kernel_rfl) rfl rfl ?_; refine OkO.alloc (z := [.int .i64 0, .nils]) rfl (by kernel_rfl) ?_; refine oT rfl rfl rfl (sAc (n := 2) (ag := true) (by kernel_rfl) (by first | assumption | (simp (disch := first | omega | (simp only [hNw, hPt]; omega)) only [gN] <;> first | rfl | assumption | exact gp0 _ _ _ | exact gn0 _ _)) rfl (by first | rfl | assumption) (by first | rfl | exact spl_set _ _ _ (by first | assumption | (simp; omega)))) ?_; refine oN ?_; refine kS ?_; refine kR ?_; refine OkO.alloc (z := [.nilf]) rfl (by kernel_rfl) ?_; refine oN ?_; refine kS ?_; refine kR ?_; refine OkO.makeFunc rfl rfl rfl ?_; refine oT rfl rfl rfl (sAc (n := 1) (ag := false) (by kernel_rfl) (by first | assumption | (simp (disch := first | omega | (simp only [hNw, hPt]; omega)) only [gN] <;> first | rfl | assumption | exact gp0 _ _ _ | exact gn0 _ _)) rfl (by first | rfl | assumption) (by first | rfl | exact spl_set _ _ _ (by first | assumption | (simp; omega)))) ?_; refine oN ?_; refine kS ?_; refine kR ?_; refine oL rfl rfl (qla0 1) ?_; refine oL rfl rfl (qlg7 2) ?_
  have hfj : ∀ GG : Heap, Grow W GG → W.next + 7 ≤ GG.next → GG.get W.next = some (.cells [cv, I least] 35) → GG.get (W.next + 2) = some (.cells [I (last : Int)] 3) → GG.get (W.next + 3) = some (.cells [.map mb] 147) → GG.get (W.next + 4) = some (.cells [I 0, .nils] 39) → GG.get (W.next + 5) = some (.cells [I (c : Int), .nils] 39) → GG.get (W.next + 6) = some (.cells [.fn 109 [] [.ptr (W.next + 5) 0, .ptr (W.next + 2) 0, .ptr (W.next + 6) 0, .ptr W.next 0, .ptr (W.next + 3) 0]] 162) → FolJ W W.next cv least last mb c [] GG := fun GG a1 a2 a3 a4 a5 a6 a7 a8 => ⟨a1, a2, a3, a4, a5, a6, ⟨.nils, a7, Mine.nil _ _ _ _⟩, a8⟩
  refine oE rfl rfl rfl rfl rfl (c109 W.next last n mb c cv least cols pr o W (hM.ext (hE _ hG)) hcl hlast hN9 hn9 (by rw [hg]; exact ho0) (by omega) rfl ho d (m + 100) c k [] _ (by omega) hcd hkn (by simp; omega) (hfj _ (by (try dsimp only); repeat (first | exact hG | apply Grow.new | (refine Grow.put ?_ _ (by first | omega | (simp only [hNw, hPt]; omega))))) (by simp only [hNw, hPt]; omega) (by first | assumption | (simp (disch := first | omega | (simp only [hNw, hPt]; omega)) only [gN] <;> first | rfl | assumption | exact gp0 _ _ _ | exact gn0 _ _)) (by first | assumption | (simp (disch := first | omega | (simp only [hNw, hPt]; omega)) only [gN] <;> first | rfl | assumption | exact gp0 _ _ _ | exact gn0 _ _)) (by first | assumption | (simp (disch := first | omega | (simp only [hNw, hPt]; omega)) only [gN] <;> first | rfl | assumption | exact gp0 _ _ _ | exact gn0 _ _)) (by first | assumption | (simp (disch := first | omega | (simp only [hNw, hPt]; omega)) only [gN] <;> first | rfl | assumption | exact gp0 _ _ _ | exact gn0 _ _)) (by first | assumption | (simp (disch := first | omega | (simp only [hNw, hPt]; omega)) only [gN] <;> first | rfl | assumption | exact gp0 _ _ _ | exact gn0 _ _)) (by first | assumption | (simp (disch := first | omega | (simp only [hNw, hPt]; omega)) only [gN] <;> first | rfl | assumption | exact gp0 _ _ _ | exact gn0 _ _)))) ?_
  rintro v9 H9 ⟨rfl, path, hpf, hpl, hp1, hp2, hp3, hp4, hp5⟩
  rw [List.nil_append] at hpf
  obtain ⟨bv, g5, gm⟩ := hpf.b5
  have gnx := hpf.nx
  have e5 : (H9.get (W.next + 5)).bind AObj.cs = some [I (c : Int), bv] := by rw [g5]; rfl
  have g4 := hpf.b4
  have hnn : bv ≠ .nils := by (rcases gm with ⟨_, h⟩ | ⟨_, _, h, _⟩); (· cases path with | nil => simp at hp2 | cons _ _ => simp at h); (· rw [h]; simp)
  have hfl : bv.flat = false := by (rcases gm with ⟨h, _⟩ | ⟨_, _, h, _⟩); (· exact absurd h hnn); (· rw [h]; rfl)
  have gm2 : ∀ H2 : Heap, (∀ n, H2.get n = Heap.get (H9.put (W.next + 4) (.cells [I (c : Int), bv] 39)) n) → H2.next = Heap.next (H9.put (W.next + 4) (.cells [I (c : Int), bv] 39)) → Mine H.next H2 bv 3 1 (path.map fun (k : Nat) => I (k : Int)) := fun H2 a1 a2 => by (rcases gm with h | ⟨b9, m9, h1, h2, h3, h4, h5⟩); (· exact .inl h); (· exact .inr ⟨b9, m9, h1, by rw [a1, gpo _ _ _ _ (by omega)]; exact h2, h3, by omega, by rw [a2, hPt]; exact h5⟩)
  have hone : bv.cells = [bv] ∧ bv.atom = true := gm.one
  have h0b : Nat.beq (AV.agg [I (c : Int), bv]).cells.length 2 = true := rfl
  have hat : atoms [I (c : Int), bv] = true := by (rw [atoms, atoms, hone.2]; rfl)
  refine oN ?_; refine kS ?_; refine kR ?_; refine oL rfl rfl (qlg7 2) ?_; refine oT rfl rfl rfl (sAc (n := 2) (ag := true) (by kernel_rfl) (by first | assumption | (simp (disch := first | omega | (simp only [hNw, hPt]; omega)) only [gN] <;> first | rfl | assumption | exact gp0 _ _ _ | exact gn0 _ _)) rfl (by first | rfl | assumption) (by first | rfl | exact spl_set _ _ _ (by first | assumption | (simp; omega)))) ?_; refine oN ?_
  refine Ok.ret ⟨.inr rfl, ?_⟩
  exact back_newQ (resV_cell rfl (qlg7 2) resV_nil) rfl (by rw [← hW]; exact (by (try dsimp only); repeat (first | exact hpf.gr | apply Grow.new | (refine Grow.put ?_ _ (by first | omega | (simp only [hNw, hPt]; omega)))))) (by simp [resOf, AV.flat, AV.flats, hfl]) (fun H' p1 p2 p3 => ⟨bv, path, rfl, p1, gm2 H' p2 p3, hnn, hp1, hp2, hp4⟩)
end
end Go.Ev

set_option maxRecDepth 100000
set_option linter.unusedSimpArgs false
set_option linter.unusedVariables false
namespace Go.Ev
open Go Go.Proofs
noncomputable section
theorem c98 (m : Nat) (cv : AV) (least : Int) (last : Int) (H : Heap)  : ∃ v H', RR (m + 1) (.fn 98 [.agg [cv, I least], I last]) H = some (v, H') ∧ v = .fn 108 [] [.ptr (H.next + 1) 0, .ptr H.next 0] ∧ Ret H H' ∧ H'.get H.next = some (.cells [cv, I least] 35) ∧ H'.get (H.next + 1) = some (.cells [I last] 3) ∧ H'.next = H.next + 2 := by
  show ∃ v H', evFn Try.prog (RR (m + 0)) 98 [.agg [cv, I least], I last] H = some (v, H') ∧ v = .fn 108 [] [.ptr (H.next + 1) 0, .ptr H.next 0] ∧ Ret H H' ∧ H'.get H.next = some (.cells [cv, I least] 35) ∧ H'.get (H.next + 1) = some (.cells [I last] 3) ∧ H'.next = H.next + 2
  refine fn_okE Try.func98 rfl rfl (by kernel_rfl) (by kernel_rfl) ?_
  obtain ⟨W, hW, hg, hN, hE, hG⟩ := wOf H
  rw [← hW]
  refine kS ?_; refine kR ?_; refine OkO.box rfl rfl ?_; refine OkO.box rfl rfl ?_; refine oA rfl rfl ?_; refine oN ?_; refine kS ?_; refine kR ?_; refine OkO.makeFunc rfl rfl rfl ?_; refine oA rfl rfl ?_; refine oN ?_
  refine Ok.ret ⟨.inr rfl, ?_⟩
  exact back_newQ (resV_tmp rfl resV_nil) (by rw [← hN]; rfl) (by rw [← hW]; exact (by (try dsimp only); repeat (first | exact hG | apply Grow.new | (refine Grow.put ?_ _ (by first | omega | (simp only [hNw, hPt]; omega)))))) rfl (fun H' p1 p2 p3 => ⟨rfl, p1, by rw [p2, ← hN, gno _ _ _ (by simp only [hNw]; omega)]; exact gn0 _ _, by rw [p2, ← hN]; exact gn1 _ _ _, by rw [p3, ← hN]; rfl⟩)
theorem c108 (m : Nat) (l pl ps K last n C : Nat) (cv : AV) (least : Int) (cols : List (List Bed)) (J : Nat → Nat → Heap → Prop) (S : Heap → Prop) (H : Heap) (hst : ∀ c k G G', J c k G → Ext G G' → J c k G') (hss : ∀ G G', S G → Ext G G' → S G') (hJ : ∀ c k G, J c k G → (G.get pl).bind AObj.cs = some [I (last : Int)] ∧ (G.get ps).bind AObj.cs = some [cv, I least] ∧ l < G.next ∧ Mat G cv cols)
 (hnext : ∀ c G, c < C → J c n G → J (c + 1) 0 G)
 (hrd : ∀ c k G, c < C → k < n → J c k G → K ≤ G.lo → ∃ v H', RR m (.round l [encP (c, k)]) G = some (v, H') ∧ (∃ b, v = .bool b ∧ ((b = true ∧ J c (k + 1) H') ∨ (b = false ∧ S H'))) ∧ K ≤ H'.lo ∧ H'.lo ≤ l ∧ G.next ≤ H'.next)
 (h0 : J 0 0 H) (hK : K ≤ H.lo) (hKl : K ≤ l) (hC : (C : Int) = max ((last : Int) - least + 2) 0) (hCn : C ≤ cols.length) (hcl : ∀ c ∈ cols, c.length = n) (hn9 : 1 ≤ n ∧ n ≤ 1000) (hN9 : cols.length ≤ 100) (hl9 : last ≤ 100) (hls : 1 ≤ least ∧ least ≤ 4) : ∃ v H', RR (m + 1) (.fn 108 [.yield l, .ptr pl 0, .ptr ps 0]) H = some (v, H') ∧ (J C 0 H' ∨ S H') ∧ K ≤ H'.lo := by
  show ∃ v H', evFn Try.prog (RR (m + 0)) 108 [.yield l, .ptr pl 0, .ptr ps 0] H = some (v, H') ∧ (J C 0 H' ∨ S H') ∧ K ≤ H'.lo
  refine fn_okE Try.func108 rfl rfl (by kernel_rfl) (by kernel_rfl) ?_
  obtain ⟨W, hW, hg, hN, hE, hG⟩ := wOf H
  rw [← hW]
  clear hE hG
  have hJW : J 0 0 W := hst _ _ H W h0 ⟨by omega, fun n _ => hg n⟩
  obtain ⟨w1, w2, w3, w4⟩ := hJ _ _ W hJW
  have hKW : K ≤ W.lo := by rw [hW]; show K ≤ H.next; omega
  refine kS ?_; refine kR ?_; refine oL rfl rfl (qla0 1) ?_; refine oF (o := 1) rfl (by kernel_rfl) rfl ?_; refine oL rfl rfl (qla0 1) ?_; refine OkO.bin rfl rfl rfl (bin_sub (by omega) (by omega)) ?_; refine OkO.bin rfl rfl rfl (bin_add (by omega) (by omega)) ?_; refine oM rfl rfl ?_; refine oN ?_; refine Ok.block ?_
  obtain ⟨z9, hz9⟩ : ∃ z9 : Int, z9 = (last : Int) - least + 2 := ⟨_, rfl⟩
  rw [← hz9]
  refine Ok.loop (fun n9 s_ => ∃ c : Nat, n9 = C - c ∧ c ≤ C ∧ J c 0 s_.H ∧ K ≤ s_.H.lo ∧ (0 < c → s_.H.lo ≤ l) ∧ W.next ≤ s_.H.next ∧ Has 6 [(0, .yield l), (1, .ptr pl 0), (2, .ptr ps 0), (10, I z9), (11, I (c : Int))] s_.T ∧ s_.D = []) (C) (by unfold loopFuel; omega)
    ⟨0, rfl, Nat.zero_le _, hJW, hKW, nofun, Nat.le_refl _, Has.of (by kernel_rfl), rfl⟩ ?_
  rintro n9 ⟨T, D, G⟩ ⟨c, hn, hcC, hji, hKG, hlo, hgn, ⟨f, hT⟩, hD⟩
  dsimp only at *
  subst hT hD
  obtain ⟨j1, j2, j3, j4⟩ := hJ c 0 G hji
  refine kS ?_; refine kR ?_; refine OkO.bin rfl rfl rfl (bin_lss _ _) ?_; refine oN ?_; refine kS ?_
  refine Ok.cond rfl (fun h1 => ?_) (fun h1 => ?_)
  · have hcC1 : c < C := by (have : (c : Int) < z9 := by simpa using h1); omega
    obtain ⟨vs, hR, hvl, hv⟩ := id j4
    have hlen : lenOf cv = some vs.length := by simpa using hR.len
    have hcl9 : c < vs.length := by omega
    obtain ⟨cb, co, ccs, i1, i2, i3, i4⟩ := hR.at_ c [vs[c]] (by simp [hcl9])
    have i5 := seg_one i3
    obtain ⟨col, hcol⟩ : ∃ col, cols[c]? = some col := ⟨_, List.getElem?_eq_getElem (by omega)⟩
    have hcn := hcl col (List.mem_of_getElem? hcol)
    have hrow := hv c vs[c] col (by simp [hcl9]) hcol
    have hlcol : lenOf vs[c] = some n := by rw [← hcn]; simpa using hrow.len
    refine Ok.skip ?_; refine kS ?_; refine Ok.block ?_; refine kS ?_; refine kR ?_; refine oM rfl rfl ?_; refine oA rfl rfl ?_; refine oN ?_; refine kS ?_; refine kR ?_; refine oF (o := 0) rfl (by kernel_rfl) rfl ?_; refine oL rfl rfl (qla0 1) ?_; refine oM rfl rfl ?_; refine qX (sz := 1) (n := c) rfl rfl rfl ?_; refine oL rfl rfl (qla0 1) ?_; refine oB rfl rfl rfl qbl ?_; refine oM rfl rfl ?_; refine oN ?_; refine Ok.block ?_
    refine Ok.loop (fun n8 s_ => ∃ k : Nat, n8 = n - k ∧ k ≤ n ∧ J c k s_.H ∧ K ≤ s_.H.lo ∧ (0 < c ∨ 0 < k → s_.H.lo ≤ l) ∧ W.next ≤ s_.H.next ∧ Has 6 [(0, .yield l), (1, .ptr pl 0), (2, .ptr ps 0), (4, I (c : Int)), (10, I z9), (11, I (c : Int)), (19, I (n : Int)), (20, I (k : Int))] s_.T ∧ s_.D = []) (n) (by unfold loopFuel; omega)
      ⟨0, rfl, Nat.zero_le _, hji, hKG, fun h => hlo (by omega), hgn, Has.of (by kernel_rfl), rfl⟩ ?_
    rintro n8 ⟨T, D, G⟩ ⟨k, hn2, hk, hji, hKG, hlo, hgn, ⟨f, hT⟩, hD⟩
    dsimp only at *
    subst hT hD
    obtain ⟨j1, j2, j3, j4⟩ := hJ c k G hji
    refine kS ?_; refine kR ?_; refine OkO.bin rfl rfl rfl (bin_lss _ _) ?_; refine oN ?_; refine kS ?_
    refine Ok.cond rfl (fun h2 => ?_) (fun h2 => ?_)
    · have hkn : k < n := by simpa using h2
      refine Ok.skip ?_; refine kS ?_; refine Ok.block ?_; refine kS ?_; refine kR ?_; refine oM rfl rfl ?_; refine oA rfl rfl ?_; refine oN ?_; refine kS ?_; refine kR ?_; refine oM rfl rfl ?_; refine oM rfl rfl ?_; refine oM rfl rfl ?_; refine OkO.build (z := [.int .i64 0, .int .i64 0]) (pl := [(0, 1), (1, 1)]) rfl (by kernel_rfl) rfl rfl ?_; refine OkO.roundE rfl rfl rfl rfl (hrd c k _ (by omega) (by omega) hji hKG) ?_
      rintro v H2 ⟨⟨b9, rfl, hbb⟩, jn2, jn3, jn4⟩
      refine OkO.un rfl rfl rfl ?_; refine oN ?_
      refine Ok.cond rfl (fun h3 => ?_) (fun h3 => ?_)
      · have hb : b9 = false := by simpa using h3
        refine Ok.ret ⟨.inr rfl, ?_⟩
        have hs2 : S H2 := by (rcases hbb with ⟨h, _⟩ | ⟨_, h⟩); (· rw [hb] at h; cases h); (· exact h)
        obtain ⟨H3, q1, q2, q3, q4, q5⟩ := back_any2 (H := H) (T := _) (G := H2) (fn := Try.f108) (P := Try.prog) (vs := []) rfl rfl (by omega)
        exact ⟨_, H3, q1, .inr (hss _ _ hs2 ⟨by omega, fun n _ => q2 n⟩), q4 K hK jn2⟩
      · have hb : b9 = true := by simpa using h3
        have jn1 : J c (k + 1) H2 := by (rcases hbb with ⟨_, h⟩ | ⟨h, _⟩); (· exact h); (· rw [hb] at h; cases h)
        refine Ok.skip ?_; refine kR ?_; refine OkO.bin rfl rfl rfl (bin_add (by omega) (by omega)) ?_; refine oM rfl rfl ?_; refine oN ?_
        refine ⟨n - (k + 1), by omega, k + 1, rfl, by omega, jn1, jn2, fun _ => jn3, ?_, Has.of (by kernel_rfl), rfl⟩
        show W.next ≤ H2.next; omega
    · have hkn : k = n := by (have : ¬ k < n := by simpa using h2); omega
      refine Ok.exit ?_; refine kR ?_; refine OkO.bin rfl rfl rfl (bin_add (by omega) (by omega)) ?_; refine oM rfl rfl ?_; refine oN ?_
      refine ⟨C - (c + 1), by omega, c + 1, rfl, by omega, hnext c _ (by omega) (by rw [← hkn]; exact hji), hKG, fun _ => hlo (by omega), hgn, Has.of (by kernel_rfl), rfl⟩
  · have hge : c = C := by (have : ¬ (c : Int) < z9 := by simpa using h1); omega
    refine Ok.exit ?_
    refine ⟨.inl rfl, ?_⟩
    subst hge
    obtain ⟨H2, q1, q2⟩ := back_any (H := H) (T := _) (G := G) (fn := Try.f108) (P := Try.prog) (vs := []) rfl rfl
    refine ⟨_, H2, q1, ?_⟩
    rcases q2 with ⟨q2, q3⟩ | ⟨q2, q3, q4⟩
    · by_cases hz : c = 0
      · rw [q2, hz]; exact ⟨.inl h0, hK⟩
      · exact absurd (hlo (by omega)) (by omega)
    · exact ⟨.inl (hst _ _ G H2 hji ⟨by omega, fun n _ => q2 n⟩), q4 K hK hKG⟩
end
end Go.Ev

set_option maxRecDepth 100000
set_option linter.unusedSimpArgs false
set_option linter.unusedVariables false
namespace Go.Ev
open Go Go.Proofs
noncomputable section
/-- Marks that are shut at a call's end. -/
def shutAll (ds : List Nat) (G : Heap) : Heap := ds.foldl (fun G d => G.put d .shut) G
theorem shutAll_next (ds : List Nat) : ∀ G, (shutAll ds G).next = G.next := by
  induction ds with
  | nil => intro G; rfl
  | cons d ds ih => intro G; exact (ih _).trans (hPt _ _ _)
theorem shutAll_get (ds : List Nat) {n : Nat} (h : n ∉ ds) : ∀ G, (shutAll ds G).get n = G.get n := by
  induction ds with
  | nil => intro G; rfl
  | cons d ds ih =>
    intro G
    simp only [List.mem_cons, not_or] at h
    exact (ih h.2 _).trans (gpo _ _ _ _ h.1)
theorem shutAll_grow {W : Heap} (ds : List Nat) (h : ∀ d ∈ ds, W.next ≤ d) : ∀ G, Grow W G → Grow W (shutAll ds G) := by
  induction ds with
  | nil => intro G g; exact g
  | cons d ds ih => intro G g; exact ih (fun x hx => h x (by simp [hx])) _ (g.put _ (h d (by simp)))
theorem back_marks {P : Program} {fn : Func} {H : Heap} {T : Tr AV} : ∀ (ds : List Nat) (G : Heap), ds.Nodup → (∀ d ∈ ds, G.get d = some .defd) → evBack P fn H ⟨T, ds, G⟩ = evBack P fn H ⟨T, [], shutAll ds G⟩ := by
  intro ds G hn hd
  have e : shuts ds G = some (shutAll ds G) := by
    induction ds generalizing G with
    | nil => rfl
    | cons d ds ih =>
      unfold shuts
      rw [hd d (by simp)]
      dsimp only
      rw [List.nodup_cons] at hn
      exact ih (G.put d .shut) hn.2 (fun x hx => by rw [gpo _ _ _ _ (fun e => hn.1 (by rw [← e]; exact hx))]; exact hd x (by simp [hx]))
  unfold evBack
  dsimp only
  rw [e]
  rfl
noncomputable def as72 : Code := match Try.f72.body.bind rangeOf with | some r => r.1 | none => .skip
noncomputable def bd72 : Code := match Try.f72.body.bind rangeOf with | some r => r.2 | none => .skip
/-- Nothing found yet. -/
structure FindJ (X : Heap) (Pq : Nat) (pr : Nat → Nat → Int) (n last : Nat) (T0 : Tr AV) (c k : Nat) (G : Heap) : Prop where
  ext : Ext X G
  nx : Pq + 5 ≤ G.next
  b3 : G.get (Pq + 3) = some .defd
  b4 : G.get (Pq + 4) = some (.loop .ready none T0 [22] as72 bd72 (Pq + 3))
  no : ∀ a i, (a < c ∨ (a = c ∧ i < k)) → i < n → a ≤ last → 0 ≤ sumR pr n last (last - a) i
/-- A surface found. -/
structure FindS (X : Heap) (N Pq : Nat) (pr : Nat → Nat → Int) (n last : Nat) (least : Int) (T0 : Tr AV) (G : Heap) : Prop where
  nx : Pq + 5 ≤ G.next
  get : ∀ j, j < Pq + 3 → j ≠ N + 1 → j ≠ N + 2 → G.get j = X.get j
  b3 : G.get (Pq + 3) = some .defd
  b4 : G.get (Pq + 4) = some (.loop .done (some (.exit 0)) T0 [22] as72 bd72 (Pq + 3))
  b2 : G.get (N + 2) = some (.cells [.bool true] 4)
  b1 : ∃ (fr : Nat) (us : List Nat) (bv : AV), G.get (N + 1) = some (.cells [I (fr : Int), bv] 39) ∧ Mine (Pq + 5) G bv 3 1 (us.map fun (k : Nat) => I (k : Int)) ∧ bv ≠ .nils ∧ Walk n us ∧ least ≤ us.length ∧ us ≠ [] ∧ fr + us.length = last + 1 ∧ walkSum pr fr us < 0
theorem FindJ.to {X : Heap} {Pq : Nat} {pr : Nat → Nat → Int} {n last : Nat} {T0 : Tr AV} {c k : Nat} {G G' : Heap} (h : FindJ X Pq pr n last T0 c k G) (e : Ext G G') : FindJ X Pq pr n last T0 c k G' := by
  have hn := h.nx
  exact ⟨h.ext.trans e, Nat.le_trans hn e.next, by rw [e.get _ (by omega)]; exact h.b3, by rw [e.get _ (by omega)]; exact h.b4, h.no⟩
theorem FindS.to {X : Heap} {N Pq : Nat} {pr : Nat → Nat → Int} {n last : Nat} {least : Int} {T0 : Tr AV} {G G' : Heap} (h : FindS X N Pq pr n last least T0 G) (hNP : N + 3 ≤ Pq) (e : Ext G G') : FindS X N Pq pr n last least T0 G' := by
  have hn := h.nx
  obtain ⟨fr, us, bv, h1, h2, h3⟩ := h.b1
  exact ⟨Nat.le_trans hn e.next, fun j a1 a2 a3 => by rw [e.get _ (by omega)]; exact h.get j a1 a2 a3, by rw [e.get _ (by omega)]; exact h.b3, by rw [e.get _ (by omega)]; exact h.b4, by rw [e.get _ (by omega)]; exact h.b2, fr, us, bv, by rw [e.get _ (by omega)]; exact h1, h2.to e, h3⟩
theorem Mine.ge {k0 k1 : Nat} {G : Heap} {v : AV} {e : TypeId} {sz : Nat} {cs : List AV} (h : Mine k0 G v e sz cs) (hk : k1 ≤ k0) : Mine k1 G v e sz cs := by
  rcases h with h | ⟨b, m, h1, h2, h3, h4, h5⟩
  · exact .inl h
  · exact .inr ⟨b, m, h1, h2, h3, by omega, h5⟩
theorem r72 (m N Mq Pq K c k last n mb : Nat) (cv : AV) (least : Int) (cols : List (List Bed)) (pr : Nat → Nat → Int) (o : AObj) (T0 : Tr AV) (X G : Heap) (hx0 : X.get N = some (.cells [cv, I least] 35)) (hx1 : X.get (N + 1) = some (.cells [I 0, .nils] 39)) (hx2 : X.get (N + 2) = some (.cells [.bool false] 4)) (hxm : X.get Mq = some (.cells [I (last : Int)] 3)) (hxp : X.get Pq = some (.cells [.map mb] 147)) (hxo : X.get mb = some o) (hXn : X.next = Pq + 3) (hN1 : N + 3 ≤ Mq) (hM1 : Mq < Pq) (hmb : mb < Pq) (hM : Mat X cv cols) (hcl : ∀ c ∈ cols, c.length = n) (hlast : last < cols.length) (hN9 : cols.length ≤ 100) (hn9 : 1 ≤ n ∧ n ≤ 1000) (ho : MapO o encP (sumF pr n last (last + 1) 0)) (hls : 1 ≤ least ∧ least ≤ 4) (hH : Has 6 [(2, .ptr N 0), (4, .ptr (N + 1) 0), (5, .ptr (N + 2) 0), (6, .ptr Mq 0), (7, .ptr Pq 0)] T0) (hJ : FindJ X Pq pr n last T0 c k G) (hlo : K ≤ G.lo) (hK : K ≤ N) (hkn : k < n) (hcC : (c : Int) < (last : Int) - least + 2) :
    ∃ v H', RR (m + 106) (.round (Pq + 4) [encP (c, k)]) G = some (v, H') ∧ (∃ b, v = .bool b ∧ ((b = true ∧ FindJ X Pq pr n last T0 c (k + 1) H') ∨ (b = false ∧ FindS X N Pq pr n last least T0 H'))) ∧ K ≤ H'.lo ∧ H'.lo ≤ Pq + 4 ∧ G.next ≤ H'.next := by
  show ∃ v H', evRound Try.prog (RR (m + 105)) (Pq + 4) [encP (c, k)] G = some (v, H') ∧ (∃ b, v = .bool b ∧ ((b = true ∧ FindJ X Pq pr n last T0 c (k + 1) H') ∨ (b = false ∧ FindS X N Pq pr n last least T0 H'))) ∧ K ≤ H'.lo ∧ H'.lo ≤ Pq + 4 ∧ G.next ≤ H'.next
  obtain ⟨fr, hT⟩ := hH
  subst hT
  have hnx := hJ.nx
  have hxn := hJ.ext.next
  have f0 : G.get N = _ := (hJ.ext.get _ (by omega)).trans hx0
  have f1 : G.get (N + 1) = _ := (hJ.ext.get _ (by omega)).trans hx1
  have f2 : G.get (N + 2) = _ := (hJ.ext.get _ (by omega)).trans hx2
  have fm : G.get Mq = _ := (hJ.ext.get _ (by omega)).trans hxm
  have fp : G.get Pq = _ := (hJ.ext.get _ (by omega)).trans hxp
  have e0o : G.get mb = some o := (hJ.ext.get _ (by omega)).trans hxo
  have f3 := hJ.b3
  have f4 := hJ.b4
  have e0 : (G.get N).bind AObj.cs = some [cv, I least] := by rw [f0]; rfl
  have em : (G.get Mq).bind AObj.cs = some [I (last : Int)] := by rw [fm]; rfl
  have ep : (G.get Pq).bind AObj.cs = some [.map mb] := by rw [fp]; rfl
  have pc : cv.plain = true := by obtain ⟨vs, hR, _, _⟩ := hM; exact lpl hR.len
  have hsf : sumF pr n last (last + 1) 0 (c, k) = some (I (sumR pr n last (last - c) k)) := by unfold sumF; rw [if_pos ⟨hkn, by show c ≤ last; omega, .inl (by show last < c + (last + 1); omega)⟩]
  refine round_okX f4 rfl ?_; refine kR ?_; refine OkO.alloc (z := [.int .i64 0, .int .i64 0]) rfl (by kernel_rfl) ?_; refine oT rfl rfl rfl (sAc (n := 2) (ag := true) (by kernel_rfl) (by first | assumption | (simp (disch := first | omega | (simp only [hNw, hPt]; omega)) only [gN] <;> first | rfl | assumption | exact gp0 _ _ _ | exact gn0 _ _)) rfl (by first | rfl | assumption) (by first | rfl | exact spl_set _ _ _ (by first | assumption | (simp; omega)))) ?_; refine oN ?_
  refine ⟨rfl, _, _, _, _, _, _, (by first | assumption | (simp (disch := first | omega | (simp only [hNw, hPt]; omega)) only [gN] <;> first | rfl | assumption | exact gp0 _ _ _ | exact gn0 _ _)), ?_⟩; refine Ok.block ?_; refine kS ?_; refine kR ?_; refine oL rfl rfl (qla0 1) ?_; refine oL rfl rfl (qlg7 2) ?_; refine OkO.lookup (o := o) (f := sumF pr n last (last + 1) 0) (c, k) (I (sumR pr n last (last - c) k)) rfl mapT147 keysP rfl rfl (by first | exact e0o | (simp (disch := first | omega | (simp only [hNw, hPt]; omega)) only [gN] <;> first | rfl | assumption)) ho (by rw [hsf]) ?_; refine OkO.bin rfl rfl rfl (bin_lss _ _) ?_; refine oN ?_
  refine Ok.cond rfl (fun h1 => ?_) (fun h1 => ?_)
  · have hlt : sumR pr n last (last - c) k < 0 := by simpa using h1
    refine kS ?_; refine kR ?_; refine oL rfl rfl (qlg7 2) ?_; refine oL rfl rfl (qlg7 2) ?_; refine oL rfl rfl (qla0 1) ?_; refine oL rfl rfl (qla0 1) ?_; refine oE rfl rfl rfl rfl rfl (c99 m last n mb c k (last - c) cv least cols pr o _ (hM.ext (by (try dsimp only); repeat (first | exact hJ.ext | apply Ext.new | (refine Ext.put ?_ _ (by first | omega | (simp only [hNw, hPt]; omega)))))) hcl hlast hN9 hn9 (by first | exact e0o | (simp (disch := first | omega | (simp only [hNw, hPt]; omega)) only [gN] <;> first | rfl | assumption)) (by simp only [hNw, hPt]; omega) ho (by omega) hkn) ?_
    rintro v99 H99 ⟨bv, path, rfl, q99, qm, qn, qw, ql, qs⟩
    have hone : bv.cells = [bv] ∧ bv.atom = true := qm.one
    have h0b : Nat.beq (AV.agg [I (c : Int), bv]).cells.length 2 = true := rfl
    have hat : atoms [I (c : Int), bv] = true := by (rw [atoms, atoms, hone.2]; rfl)
    have z1 : H99.get (N + 1) = some (.cells [I 0, .nils] 39) := by rw [q99.ext.get _ (by simp only [hNw, hPt]; omega)]; (simp (disch := first | omega | (simp only [hNw, hPt]; omega)) only [gN] <;> first | rfl | assumption)
    have z2 : H99.get (N + 2) = some (.cells [.bool false] 4) := by rw [q99.ext.get _ (by simp only [hNw, hPt]; omega)]; (simp (disch := first | omega | (simp only [hNw, hPt]; omega)) only [gN] <;> first | rfl | assumption)
    have z3 : H99.get (Pq + 3) = some .defd := by rw [q99.ext.get _ (by simp only [hNw, hPt]; omega)]; (simp (disch := first | omega | (simp only [hNw, hPt]; omega)) only [gN] <;> first | rfl | assumption)
    have z4 : H99.get (Pq + 4) = some (.loop .busy none (mkT 6 0 1 (upd fr [(2, .ptr N 0), (4, .ptr (N + 1) 0), (5, .ptr (N + 2) 0), (6, .ptr Mq 0), (7, .ptr Pq 0)])) [22] as72 bd72 (Pq + 3)) := by rw [q99.ext.get _ (by simp only [hNw, hPt]; omega)]; (simp (disch := first | omega | (simp only [hNw, hPt]; omega)) only [gN] <;> first | rfl | assumption | exact gp0 _ _ _)
    have n99 := q99.ext.next
    simp only [hNw, hPt] at n99
    have hXe : ∀ j, j < Pq + 3 → H99.get j = X.get j := fun j hj => by rw [q99.ext.get _ (by simp only [hNw, hPt]; omega)]; simp (disch := first | omega | (simp only [hNw, hPt]; omega)) only [gno, gpo]; exact hJ.ext.get j (by omega)
    have qm2 := qm
    simp only [hNw, hPt] at qm2
    refine oT rfl rfl rfl (sAc (n := 2) (ag := true) (by kernel_rfl) (by first | assumption | (simp (disch := first | omega | (simp only [hNw, hPt]; omega)) only [gN] <;> first | rfl | assumption | exact gp0 _ _ _ | exact gn0 _ _)) rfl (by first | rfl | assumption) (by first | rfl | exact spl_set _ _ _ (by first | assumption | (simp; omega)))) ?_; refine oT rfl rfl rfl (sAc (n := 1) (ag := false) (by kernel_rfl) (by first | assumption | (simp (disch := first | omega | (simp only [hNw, hPt]; omega)) only [gN] <;> first | rfl | assumption | exact gp0 _ _ _ | exact gn0 _ _)) rfl (by first | rfl | assumption) (by first | rfl | exact spl_set _ _ _ (by first | assumption | (simp; omega)))) ?_; refine oN ?_; refine Ok.exit ?_
    refine ⟨_, _, _, _, _, _, _, (by first | assumption | (simp (disch := first | omega | (simp only [hNw, hPt]; omega)) only [gN] <;> first | rfl | assumption | exact gp0 _ _ _ | exact gn0 _ _)), .inr ⟨0, rfl, ?_⟩⟩
    refine ⟨⟨false, rfl, .inr ⟨rfl, ?_⟩⟩, ?_, ?_, ?_⟩
    · refine ⟨(by simp only [hNw, hPt]; omega), fun j a1 a2 a3 => ?_, (by first | assumption | (simp (disch := first | omega | (simp only [hNw, hPt]; omega)) only [gN] <;> first | rfl | assumption | exact gp0 _ _ _ | exact gn0 _ _)), (by first | assumption | (simp (disch := first | omega | (simp only [hNw, hPt]; omega)) only [gN] <;> first | rfl | assumption | exact gp0 _ _ _ | exact gn0 _ _)), (by first | assumption | (simp (disch := first | omega | (simp only [hNw, hPt]; omega)) only [gN] <;> first | rfl | assumption | exact gp0 _ _ _ | exact gn0 _ _)), c, path, bv, (by first | assumption | (simp (disch := first | omega | (simp only [hNw, hPt]; omega)) only [gN] <;> first | rfl | assumption | exact gp0 _ _ _ | exact gn0 _ _)), ?_, qn, qw, by rw [ql]; omega, by (intro h9; rw [h9] at ql; simp at ql), by rw [ql]; omega, by rw [qs]; exact hlt⟩
      · simp (disch := first | omega | (simp only [hNw, hPt]; omega)) only [gno, gpo]; exact hXe j a1
      · refine Mine.put (Mine.put (Mine.put ?_ _ (by omega)) _ (by omega)) _ (by omega); exact qm2.ge (by omega)
    · have hlq : K ≤ H99.lo := q99.lo _ (by (try dsimp only); simp only [Heap.lo_put, Heap.lo_new]; omega) (by simp only [hNw, hPt]; omega)
      simp only [Heap.lo_put, Heap.lo_new]; omega
    · simp only [Heap.lo_put, Heap.lo_new]; omega
    · simp only [hPt]; omega
  · have hge : 0 ≤ sumR pr n last (last - c) k := by simpa using h1
    refine Ok.skip ?_
    refine ⟨_, _, _, _, _, _, _, (by first | assumption | (simp (disch := first | omega | (simp only [hNw, hPt]; omega)) only [gN] <;> first | rfl | assumption | exact gp0 _ _ _ | exact gn0 _ _)), .inl ⟨rfl, ⟨true, rfl, .inl ⟨rfl, (by (try dsimp only); repeat (first | exact hJ.ext | apply Ext.new | (refine Ext.put ?_ _ (by first | omega | (simp only [hNw, hPt]; omega))))), (by simp only [hNw, hPt]; omega), (by first | assumption | (simp (disch := first | omega | (simp only [hNw, hPt]; omega)) only [gN] <;> first | rfl | assumption | exact gp0 _ _ _ | exact gn0 _ _)), (by first | assumption | (simp (disch := first | omega | (simp only [hNw, hPt]; omega)) only [gN] <;> first | rfl | assumption | exact gp0 _ _ _ | exact gn0 _ _)), fun a i a1 a2 a3 => ?_⟩⟩, ?_, ?_, (by simp only [hNw, hPt]; omega)⟩⟩
    · by_cases q : a = c ∧ i = k
      · rw [q.1, q.2]; exact hge
      · exact hJ.no a i (by omega) a2 a3
    · simp only [Heap.lo_put, Heap.lo_new]; omega
    · simp only [Heap.lo_put, Heap.lo_new]; omega
end
end Go.Ev

set_option maxRecDepth 100000
set_option linter.unusedSimpArgs false
set_option linter.unusedVariables false
namespace Go.Ev
open Go Go.Proofs
noncomputable section
theorem back_marksN {P : Program} {fn : Func} {H : Heap} {T : Tr AV} {ds : List Nat} {G : Heap} {vs : List AV} {v : AV} {S : AV → Heap → Prop} (hnd : ds.Nodup) (hdef : ∀ d ∈ ds, G.get d = some .defd) (hr : ∀ G' : Heap, (∀ n, n ∉ ds → G'.get n = G.get n) → resV P T G' fn.results.toList = some vs) (hv : resOf vs = v)
    (hg : Grow ⟨H.t, H.next, H.next⟩ G) (hds : ∀ d ∈ ds, H.next ≤ d) (hf : v.flat = false) (k : ∀ H', Ret H H' → (∀ n, n ∉ ds → H'.get n = G.get n) → H'.next = G.next → S v H') : ∃ v H', evBack P fn H ⟨T, ds, G⟩ = some (v, H') ∧ S v H' := by
  rw [back_marks ds G hnd hdef]
  exact back_newQ (hr _ fun n hn => shutAll_get ds hn G) hv (shutAll_grow (W := ⟨H.t, H.next, H.next⟩) ds hds G hg) hf fun H' p1 p2 p3 => k H' p1 (fun n hn => (p2 n).trans (shutAll_get ds hn G)) (p3.trans (shutAll_next ds G))
theorem back_marksF {P : Program} {fn : Func} {H : Heap} {T : Tr AV} {ds : List Nat} {G : Heap} {vs : List AV} {v : AV} (hnd : ds.Nodup) (hdef : ∀ d ∈ ds, G.get d = some .defd) (hr : ∀ G' : Heap, (∀ n, n ∉ ds → G'.get n = G.get n) → resV P T G' fn.results.toList = some vs) (hv : resOf vs = v)
    (hg : Grow ⟨H.t, H.next, H.next⟩ G) (hds : ∀ d ∈ ds, H.next ≤ d) (hf : v.flat = true) : evBack P fn H ⟨T, ds, G⟩ = some (v, H) := by
  rw [back_marks ds G hnd hdef]
  exact back_flat (hr _ fun n hn => shutAll_get ds hn G) hv hf (shutAll_grow (W := ⟨H.t, H.next, H.next⟩) ds hds G hg)
theorem c72 (m : Nat) (n : Nat) (cv pv : AV) (cols : List (List Bed)) (least : Int) (pr : Nat → Nat → Int) (H : Heap) (hM : Mat H cv cols) (hcl : ∀ c ∈ cols, c.length = n) (hN9 : cols.length ≤ 100) (hn9 : 1 ≤ n ∧ n ≤ 1000) (hls : 1 ≤ least ∧ least ≤ 4) (hB : PrB pr) (hP : CallP (m + 106) pv H cols.length n pr) : ∃ v H', RR (m + 108) (.fn 72 [.agg [cv, I least], pv]) H = some (v, H') ∧ ((∃ (fr : Nat) (us : List Nat) (bv : AV), v = .tup [.agg [I (fr : Int), bv], .bool true] ∧ Ret H H' ∧ Mine H.next H' bv 3 1 (us.map fun (k : Nat) => I (k : Int)) ∧ bv ≠ .nils ∧ Walk n us ∧ least ≤ us.length ∧ us ≠ [] ∧ fr + us.length ≤ cols.length ∧ walkSum pr fr us < 0) ∨ (v = .tup [.agg [I 0, .nils], .bool false] ∧ H' = H ∧ (∀ (fr : Nat) us, Walk n us → us ≠ [] → least ≤ us.length → fr + us.length ≤ cols.length → 0 ≤ walkSum pr fr us))) := by
  show ∃ v H', evFn Try.prog (RR (m + 107)) 72 [.agg [cv, I least], pv] H = some (v, H') ∧ ((∃ (fr : Nat) (us : List Nat) (bv : AV), v = .tup [.agg [I (fr : Int), bv], .bool true] ∧ Ret H H' ∧ Mine H.next H' bv 3 1 (us.map fun (k : Nat) => I (k : Int)) ∧ bv ≠ .nils ∧ Walk n us ∧ least ≤ us.length ∧ us ≠ [] ∧ fr + us.length ≤ cols.length ∧ walkSum pr fr us < 0) ∨ (v = .tup [.agg [I 0, .nils], .bool false] ∧ H' = H ∧ (∀ (fr : Nat) us, Walk n us → us ≠ [] → least ≤ us.length → fr + us.length ≤ cols.length → 0 ≤ walkSum pr fr us)))
  refine fn_okE Try.func72 rfl rfl (by kernel_rfl) (by kernel_rfl) ?_
  obtain ⟨W, hW, hg, hN, hE, hG⟩ := wOf H
  rw [← hW]
  obtain ⟨vs, hR, hvl, hv⟩ := id hM
  have hlen : lenOf cv = some cols.length := by rw [← hvl]; simpa using hR.len
  have pc : cv.plain = true := lpl hR.len
  refine kS ?_; refine kR ?_; refine OkO.box rfl rfl ?_; refine OkO.alloc (z := [.int .i64 0, .nils]) rfl (by kernel_rfl) ?_; refine OkO.alloc (z := [.bool false]) rfl (by kernel_rfl) ?_; refine oN ?_; refine Ok.scope ?_; refine kS ?_; refine Ok.label ?_; refine kS ?_; refine kS ?_; refine kR ?_; refine oF (o := 0) rfl (by kernel_rfl) rfl ?_; refine oL rfl rfl (qla0 1) ?_; refine oB rfl rfl rfl qbl ?_; refine oM rfl rfl ?_; refine oN ?_; refine Ok.block ?_
  refine Ok.loop (fun n9 s_ => ∃ i : Nat, n9 = cols.length - i ∧ i ≤ cols.length ∧ Grow W s_.H ∧ W.next + 3 ≤ s_.H.next ∧ s_.H.get W.next = some (.cells [cv, I least] 35) ∧ s_.H.get (W.next + 1) = some (.cells [I 0, .nils] 39) ∧ s_.H.get (W.next + 2) = some (.cells [.bool false] 4) ∧ (∀ la a k : Nat, la < i → (a : Int) + least ≤ (la : Int) + 1 → k < n → 0 ≤ sumR pr n la (la - a) k) ∧ Has 6 [(1, pv), (2, .ptr W.next 0), (4, .ptr (W.next + 1) 0), (5, .ptr (W.next + 2) 0), (11, I (cols.length : Int)), (12, I (i : Int))] s_.T ∧ s_.D.Nodup ∧ ∀ d ∈ s_.D, W.next + 3 ≤ d ∧ d < s_.H.next ∧ s_.H.get d = some .defd) (cols.length) (by unfold loopFuel; omega)
    ⟨0, rfl, Nat.zero_le _, (by (try dsimp only); repeat (first | exact hg | exact hG | apply Grow.new | (refine Grow.put ?_ _ (by first | omega | (simp only [hNw, hPt]; omega))))), (by simp only [hNw, hPt]; omega), (by first | assumption | (simp (disch := first | omega | (simp only [hNw, hPt]; omega)) only [gN] <;> first | rfl | assumption | exact gp0 _ _ _ | exact gn0 _ _)), (by first | assumption | (simp (disch := first | omega | (simp only [hNw, hPt]; omega)) only [gN] <;> first | rfl | assumption | exact gp0 _ _ _ | exact gn0 _ _)), (by first | assumption | (simp (disch := first | omega | (simp only [hNw, hPt]; omega)) only [gN] <;> first | rfl | assumption | exact gp0 _ _ _ | exact gn0 _ _)), fun _ _ _ h => absurd h (by omega), Has.of (by kernel_rfl), .nil, nofun⟩ ?_
  rintro n9 ⟨T, D, G⟩ ⟨i, hn, hi, hg, hgx, f0, f1, f2, hno, ⟨f, hT⟩, hD1, hD2⟩
  dsimp only at *
  subst hT
  have hgn := hg.next
  have e0 : (G.get W.next).bind AObj.cs = some [cv, I least] := by rw [f0]; rfl
  have e1 : (G.get (W.next + 1)).bind AObj.cs = some [I 0, .nils] := by rw [f1]; rfl
  have e2 : (G.get (W.next + 2)).bind AObj.cs = some [.bool false] := by rw [f2]; rfl
  refine kS ?_; refine kR ?_; refine OkO.bin rfl rfl rfl (bin_lss _ _) ?_; refine oN ?_; refine kS ?_
  refine Ok.cond rfl (fun h1 => ?_) (fun h1 => ?_)
  · have hil : i < cols.length := by simpa using h1
    refine Ok.skip ?_; refine kS ?_; refine Ok.block ?_; refine kS ?_; refine kR ?_; refine oM rfl rfl ?_; refine OkO.alloc (z := [.int .i64 0]) rfl (by kernel_rfl) ?_; refine oT rfl rfl rfl (sAc (n := 1) (ag := false) (by kernel_rfl) (by first | assumption | (simp (disch := first | omega | (simp only [hNw, hPt]; omega)) only [gN] <;> first | rfl | assumption | exact gp0 _ _ _ | exact gn0 _ _)) rfl (by first | rfl | assumption) (by first | rfl | exact spl_set _ _ _ (by first | assumption | (simp; omega)))) ?_; refine oN ?_; refine kS ?_; refine kR ?_; refine oL rfl rfl (qlg7 2) ?_; refine oL rfl rfl (qla0 1) ?_; refine oM rfl rfl ?_; refine oE rfl rfl rfl rfl rfl (c97 (m + 103) i n cv pv cols least pr _ (hM.ext (hE _ (by (try dsimp only); repeat (first | exact hg | exact hG | apply Grow.new | (refine Grow.put ?_ _ (by first | omega | (simp only [hNw, hPt]; omega))))))) hcl (by omega) hN9 hn9 hB (hP.ext (hE _ (by (try dsimp only); repeat (first | exact hg | exact hG | apply Grow.new | (refine Grow.put ?_ _ (by first | omega | (simp only [hNw, hPt]; omega)))))))) ?_
    rintro v97 H97 ⟨mb, o, rfl, q97, m1, m2, m3, m4⟩
    have n97 := q97.ext.next
    simp only [hNw, hPt] at n97 m1
    have a0 : H97.get (W.next) = some (.cells [cv, I least] 35) := by rw [q97.ext.get _ (by simp only [hNw, hPt]; omega)]; first | (rw [gn0]; rfl) | (simp (disch := first | omega | (simp only [hNw, hPt]; omega)) only [gN] <;> first | rfl | assumption | exact gp0 _ _ _ | exact gn0 _ _)
    have a1 : H97.get (W.next + 1) = some (.cells [I 0, .nils] 39) := by rw [q97.ext.get _ (by simp only [hNw, hPt]; omega)]; first | (rw [gn0]; rfl) | (simp (disch := first | omega | (simp only [hNw, hPt]; omega)) only [gN] <;> first | rfl | assumption | exact gp0 _ _ _ | exact gn0 _ _)
    have a2 : H97.get (W.next + 2) = some (.cells [.bool false] 4) := by rw [q97.ext.get _ (by simp only [hNw, hPt]; omega)]; first | (rw [gn0]; rfl) | (simp (disch := first | omega | (simp only [hNw, hPt]; omega)) only [gN] <;> first | rfl | assumption | exact gp0 _ _ _ | exact gn0 _ _)
    have am : H97.get (G.next) = some (.cells [I (i : Int)] 3) := by rw [q97.ext.get _ (by simp only [hNw, hPt]; omega)]; first | (rw [gn0]; rfl) | (simp (disch := first | omega | (simp only [hNw, hPt]; omega)) only [gN] <;> first | rfl | assumption | exact gp0 _ _ _ | exact gn0 _ _)
    have b0 : (H97.get W.next).bind AObj.cs = some [cv, I least] := by rw [a0]; rfl
    have bm : (H97.get G.next).bind AObj.cs = some [I (i : Int)] := by rw [am]; rfl
    have g97 : Grow W H97 := Grow.ret (by (try dsimp only); repeat (first | exact hg | exact hG | apply Grow.new | (refine Grow.put ?_ _ (by first | omega | (simp only [hNw, hPt]; omega))))) q97
    have hd97 : ∀ d, W.next + 3 ≤ d → d < G.next → H97.get d = G.get d := fun d d1 d2 => by (rw [q97.ext.get _ (by simp only [hNw, hPt]; omega)]; simp (disch := first | omega | (simp  [hNw, hPt]; omega)) only [gno, gpo])
    refine OkO.alloc (z := [.nilm]) rfl (by kernel_rfl) ?_; refine oT rfl rfl rfl (sAc (n := 1) (ag := false) (by kernel_rfl) (by first | assumption | (simp (disch := first | omega | (simp only [hNw, hPt]; omega)) only [gN] <;> first | rfl | assumption | exact gp0 _ _ _ | exact gn0 _ _)) rfl (by first | rfl | assumption) (by first | rfl | exact spl_set _ _ _ (by first | assumption | (simp; omega)))) ?_; refine oN ?_; refine kS ?_; refine kR ?_; refine oL rfl rfl (qlg7 2) ?_; refine oL rfl rfl (qla0 1) ?_; refine oE rfl rfl rfl rfl rfl (c98 (m + 106) cv least i _) ?_
    rintro v98 H98 ⟨rfl, q98, s1, s2, s3⟩
    simp only [hNw, hPt] at s1 s2 s3
    have x0 : H98.get (W.next) = some (.cells [cv, I least] 35) := by rw [q98.ext.get _ (by simp only [hNw, hPt]; omega)]; first | (rw [gn0]; rfl) | (simp (disch := first | omega | (simp only [hNw, hPt]; omega)) only [gN] <;> first | rfl | assumption | exact gp0 _ _ _ | exact gn0 _ _)
    have x1 : H98.get (W.next + 1) = some (.cells [I 0, .nils] 39) := by rw [q98.ext.get _ (by simp only [hNw, hPt]; omega)]; first | (rw [gn0]; rfl) | (simp (disch := first | omega | (simp only [hNw, hPt]; omega)) only [gN] <;> first | rfl | assumption | exact gp0 _ _ _ | exact gn0 _ _)
    have x2 : H98.get (W.next + 2) = some (.cells [.bool false] 4) := by rw [q98.ext.get _ (by simp only [hNw, hPt]; omega)]; first | (rw [gn0]; rfl) | (simp (disch := first | omega | (simp only [hNw, hPt]; omega)) only [gN] <;> first | rfl | assumption | exact gp0 _ _ _ | exact gn0 _ _)
    have xm : H98.get (G.next) = some (.cells [I (i : Int)] 3) := by rw [q98.ext.get _ (by simp only [hNw, hPt]; omega)]; first | (rw [gn0]; rfl) | (simp (disch := first | omega | (simp only [hNw, hPt]; omega)) only [gN] <;> first | rfl | assumption | exact gp0 _ _ _ | exact gn0 _ _)
    have xp : H98.get (H97.next) = some (.cells [.map mb] 147) := by rw [q98.ext.get _ (by simp only [hNw, hPt]; omega)]; first | (rw [gn0]; rfl) | (simp (disch := first | omega | (simp only [hNw, hPt]; omega)) only [gN] <;> first | rfl | assumption | exact gp0 _ _ _ | exact gn0 _ _)
    have xo : H98.get (mb) = some o := by rw [q98.ext.get _ (by simp only [hNw, hPt]; omega)]; first | (rw [gn0]; rfl) | (simp (disch := first | omega | (simp only [hNw, hPt]; omega)) only [gN] <;> first | rfl | assumption | exact gp0 _ _ _ | exact gn0 _ _)
    have g98 : Grow W H98 := Grow.ret (by (try dsimp only); repeat (first | exact g97 | apply Grow.new | (refine Grow.put ?_ _ (by first | omega | (simp only [hNw, hPt]; omega))))) q98
    have hd98 : ∀ d, W.next + 3 ≤ d → d < G.next → H98.get d = G.get d := fun d d1 d2 => by (rw [q98.ext.get _ (by simp only [hNw, hPt]; omega)]; simp (disch := first | omega | (simp only [hNw, hPt]; omega)) only [gno, gpo]; exact hd97 d d1 d2)
    refine oN ?_; refine Ok.block ?_
    refine Ok.rangeX rfl rfl (fun T0 hT0 => ?_)
    have hH : Has 6 [(2, .ptr W.next 0), (4, .ptr (W.next + 1) 0), (5, .ptr (W.next + 2) 0), (6, .ptr G.next 0), (7, .ptr H97.next 0)] T0 := by rw [hT0]; exact Has.of (by kernel_rfl)
    have s3b : H98.next = H97.next + 3 := by omega
    obtain ⟨C, hC⟩ : ∃ C : Nat, (C : Int) = max ((i : Int) - least + 2) 0 := ⟨(max ((i : Int) - least + 2) 0).toNat, by omega⟩
    have hJ0 : FindJ H98 H97.next pr n i T0 0 0 ((H98.new .defd).new (.loop .ready none T0 [22] as72 bd72 (H97.next + 3))) := ⟨((Ext.refl _).new _).new _, by simp only [hNw]; omega, by rw [gno _ _ _ (by simp only [hNw]; omega), ← s3b]; exact gn0 _ _, by rw [show H97.next + 4 = H98.next + 1 from by omega]; exact gn1 _ _ _, fun a j a1 => absurd a1 (by omega)⟩
    have hMX : Mat H98 cv cols := hM.ext (hE _ g98)
    obtain ⟨v3, H3, k1, k2, k3⟩ := c108 (m + 106) (H97.next + 4) (H97.next + 2) (H97.next + 1) W.next i n C cv least cols (FindJ H98 H97.next pr n i T0) (FindS H98 W.next H97.next pr n i least T0) ((H98.new .defd).new (.loop .ready none T0 [22] as72 bd72 (H97.next + 3))) (fun _ _ _ _ h x => h.to x) (fun _ _ h x => h.to (by omega) x) (fun c k G9 h => ⟨by rw [h.ext.get _ (by omega), s2]; rfl, by rw [h.ext.get _ (by omega), s1]; rfl, by have := h.nx; omega, hMX.ext h.ext⟩) (fun c G9 _ h => ⟨h.ext, h.nx, h.b3, h.b4, fun a j a1 a2 a3 => h.no a j (by omega) a2 a3⟩) (fun c k G9 hc hk hj hl => r72 m W.next G.next H97.next W.next c k i n mb cv least cols pr o T0 H98 G9 x0 x1 x2 xm xp xo s3b (by omega) (by omega) (by omega) hMX hcl (by omega) hN9 hn9 m4 hls hH hj hl (Nat.le_refl _) hk (by omega)) hJ0 (by show W.next ≤ H98.lo; exact g98.lo) (by omega) hC (by omega) hcl hn9 hN9 (by omega) hls
    rw [s3b]
    rcases k2 with k2 | k2
    · have kn := k2.nx
      refine ⟨v3, H3, k1, _, _, T0, [22], as72, bd72, H97.next + 3, k2.b4, .inl ⟨rfl, rfl, ?_⟩⟩
      have g3 : Grow W H3 := ⟨Nat.le_trans g98.next k2.ext.next, fun j hj => (k2.ext.get _ (by have := g98.next; omega)).trans (g98.get j hj), k3⟩
      have y0 := (k2.ext.get W.next (by omega)).trans x0
      have y1 := (k2.ext.get (W.next + 1) (by omega)).trans x1
      have y2 := (k2.ext.get (W.next + 2) (by omega)).trans x2
      have yd := k2.b3
      have hd3 : ∀ d, W.next + 3 ≤ d → d < G.next → H3.get d = G.get d := fun d d1 d2 => (k2.ext.get d (by omega)).trans (hd98 d d1 d2)
      clear k1
      refine kR ?_; refine OkO.bin rfl rfl rfl (bin_add (by omega) (by omega)) ?_; refine oM rfl rfl ?_; refine oN ?_
      refine ⟨cols.length - (i + 1), by omega, i + 1, rfl, by omega, (by (try dsimp only); repeat (first | exact g3 | apply Grow.new | (refine Grow.put ?_ _ (by first | omega | (simp only [hNw, hPt]; omega))))), (by simp only [hNw, hPt]; omega), (by first | assumption | (simp (disch := first | omega | (simp only [hNw, hPt]; omega)) only [gN] <;> first | rfl | assumption | exact gp0 _ _ _ | exact gn0 _ _)), (by first | assumption | (simp (disch := first | omega | (simp only [hNw, hPt]; omega)) only [gN] <;> first | rfl | assumption | exact gp0 _ _ _ | exact gn0 _ _)), (by first | assumption | (simp (disch := first | omega | (simp only [hNw, hPt]; omega)) only [gN] <;> first | rfl | assumption | exact gp0 _ _ _ | exact gn0 _ _)), fun la a j l1 l2 l3 => ?_, Has.of (by kernel_rfl), ?_, ?_⟩
      · by_cases hla : la = i
        · rw [hla] at l2 ⊢; exact k2.no a j (by omega) l3 (by omega)
        · exact hno la a j (by omega) l2 l3
      · exact List.nodup_cons.2 ⟨fun h9 => by have := (hD2 _ h9).2.1; omega, hD1⟩
      · intro d hd
        rcases List.mem_cons.1 hd with rfl | hd
        · exact ⟨by omega, (by simp only [hNw, hPt]; omega), (by first | assumption | (simp (disch := first | omega | (simp only [hNw, hPt]; omega)) only [gN] <;> first | rfl | assumption | exact gp0 _ _ _ | exact gn0 _ _))⟩
        · obtain ⟨d1, d2, d3⟩ := hD2 d hd
          exact ⟨d1, (by simp only [hNw, hPt]; omega), by rw [gpo _ _ _ _ (by omega), gpo _ _ _ _ (by omega), hd3 d d1 d2]; exact d3⟩
    · obtain ⟨fr, us, bv, e1, e2, e3, e4, e5, e6, e7, e8⟩ := k2.b1
      have kn := k2.nx
      refine ⟨v3, H3, k1, _, _, T0, [22], as72, bd72, H97.next + 3, k2.b4, .inr ⟨0, rfl, rfl, ?_⟩⟩
      have g3 : Grow W H3 := ⟨by have := g98.next; omega, fun j hj => (k2.get _ (by have := g98.next; omega) (by omega) (by omega)).trans (g98.get j hj), k3⟩
      have y1 := e1
      have y2 := k2.b2
      have yd := k2.b3
      have hd3 : ∀ d, W.next + 3 ≤ d → d < G.next → H3.get d = G.get d := fun d d1 d2 => (k2.get d (by omega) (by omega) (by omega)).trans (hd98 d d1 d2)
      have y1b : (H3.get (W.next + 1)).bind AObj.cs = some [I (fr : Int), bv] := by rw [e1]; rfl
      have y2b : (H3.get (W.next + 2)).bind AObj.cs = some [.bool true] := by rw [y2]; rfl
      have hone : bv.cells = [bv] ∧ bv.atom = true := e2.one
      have hat : atoms [I (fr : Int), bv] = true := by (rw [atoms, atoms, hone.2]; rfl)
      have hfl : bv.flat = false := by (rcases e2 with ⟨h, _⟩ | ⟨_, _, h, _⟩); (· exact absurd h e3); (· rw [h]; rfl)
      clear k1
      refine kS ?_; refine Ok.drawn [(0, true, []), (1, true, []), (2, false, [1]), (3, false, [])] (by kernel_rfl) ?_; refine pS ?_; refine oL rfl rfl (qlg7 2) ?_; refine oN ⟨rfl, ?_⟩; refine pS ?_; refine oL rfl rfl (qla0 1) ?_; refine oN ⟨rfl, ?_⟩; refine pS ?_; refine oT rfl rfl rfl (sAc (n := 2) (ag := true) (by kernel_rfl) (by first | assumption | (simp (disch := first | omega | (simp only [hNw, hPt]; omega)) only [gN] <;> first | rfl | assumption | exact gp0 _ _ _ | exact gn0 _ _)) rfl (by first | rfl | assumption) (by first | rfl | exact spl_set _ _ _ (by first | assumption | (simp; omega)))) ?_
      refine oN ⟨(sco (qsa5 1 rfl rfl rfl) rfl), ?_⟩; refine pS ?_; refine oT rfl rfl rfl (sAc (n := 1) (ag := false) (by kernel_rfl) (by first | assumption | (simp (disch := first | omega | (simp only [hNw, hPt]; omega)) only [gN] <;> first | rfl | assumption | exact gp0 _ _ _ | exact gn0 _ _)) rfl (by first | rfl | assumption) (by first | rfl | exact spl_set _ _ _ (by first | assumption | (simp; omega)))) ?_; refine oN ⟨rfl, ?_⟩; refine OkP.nil ?_
      refine Ok.ret ⟨.inr rfl, ?_⟩
      refine back_marksN (ds := (H97.next + 3) :: D) (v := .tup [.agg [I (fr : Int), bv], .bool true]) (List.nodup_cons.2 ⟨fun h9 => by have := (hD2 _ h9).2.1; omega, hD1⟩) (fun d hd => ?_) (fun G9 hG9 => resV_cell rfl (ldg (n := 2) (by kernel_rfl) (by rw [hG9 (W.next + 1) (fun h9 => by (rcases List.mem_cons.1 h9 with q | q); (· omega); (· have := (hD2 _ q).1; omega))]; first | (rw [gn0]; rfl) | (simp (disch := first | omega | (simp only [hNw, hPt]; omega)) only [gN] <;> first | rfl | assumption | exact gp0 _ _ _ | exact gn0 _ _)) (by first | rfl | assumption)) (resV_cell rfl (lda (n := 1) (by kernel_rfl) (by rw [hG9 (W.next + 2) (fun h9 => by (rcases List.mem_cons.1 h9 with q | q); (· omega); (· have := (hD2 _ q).1; omega))]; first | (rw [gn0]; rfl) | (simp (disch := first | omega | (simp only [hNw, hPt]; omega)) only [gN] <;> first | rfl | assumption | exact gp0 _ _ _ | exact gn0 _ _)) (by first | rfl | assumption)) resV_nil)) rfl (by rw [← hW]; exact (by (try dsimp only); repeat (first | exact g3 | apply Grow.new | (refine Grow.put ?_ _ (by first | omega | (simp only [hNw, hPt]; omega)))))) (fun d hd => ?_) (by simp [AV.flat, AV.flats, hfl]) (fun H9 p1 p2 p3 => .inl ⟨fr, us, bv, rfl, p1, ?_, e3, e4, e5, e6, by omega, e8⟩)
      · rcases List.mem_cons.1 hd with rfl | hd
        · first | (rw [gn0]; rfl) | (simp (disch := first | omega | (simp only [hNw, hPt]; omega)) only [gN] <;> first | rfl | assumption | exact gp0 _ _ _ | exact gn0 _ _)
        · obtain ⟨d1, d2, d3⟩ := hD2 d hd
          simp (disch := first | omega | (simp only [hNw, hPt]; omega)) only [gno, gpo]; rw [hd3 d d1 d2]; exact d3
      · rcases List.mem_cons.1 hd with rfl | hd
        · omega
        · have := (hD2 d hd).1; omega
      · rcases e2 with ⟨h, _⟩ | ⟨b9, m9, h1, h2, h3, h4, h5⟩
        · exact absurd h e3
        · refine .inr ⟨b9, m9, h1, ?_, h3, by omega, by rw [p3]; simp only [hNw, hPt]; exact h5⟩
          rw [p2 b9 (fun h9 => by (rcases List.mem_cons.1 h9 with q | q); (· omega); (· have := (hD2 _ q).2.1; omega))]
          simp (disch := first | omega | (simp only [hNw, hPt]; omega)) only [gno, gpo]; exact h2
  · have hil : i = cols.length := by (have : ¬ i < cols.length := by simpa using h1); omega
    refine Ok.exit ?_; refine kS ?_; refine Ok.drawn [(0, true, []), (1, true, []), (2, false, [1]), (3, false, [])] (by kernel_rfl) ?_; refine pS ?_; refine oL rfl rfl (qlg7 2) ?_; refine oN ⟨rfl, ?_⟩; refine pS ?_; refine oL rfl rfl (qla0 1) ?_; refine oN ⟨rfl, ?_⟩; refine pS ?_; refine oT rfl rfl rfl (sAc (n := 2) (ag := true) (by kernel_rfl) (by first | assumption | (simp (disch := first | omega | (simp only [hNw, hPt]; omega)) only [gN] <;> first | rfl | assumption | exact gp0 _ _ _ | exact gn0 _ _)) rfl (by first | rfl | assumption) (by first | rfl | exact spl_set _ _ _ (by first | assumption | (simp; omega)))) ?_
    refine oN ⟨(sco (qsa5 1 rfl rfl rfl) rfl), ?_⟩; refine pS ?_; refine oT rfl rfl rfl (sAc (n := 1) (ag := false) (by kernel_rfl) (by first | assumption | (simp (disch := first | omega | (simp only [hNw, hPt]; omega)) only [gN] <;> first | rfl | assumption | exact gp0 _ _ _ | exact gn0 _ _)) rfl (by first | rfl | assumption) (by first | rfl | exact spl_set _ _ _ (by first | assumption | (simp; omega)))) ?_; refine oN ⟨rfl, ?_⟩; refine OkP.nil ?_
    refine Ok.ret ⟨.inr rfl, ?_⟩
    refine ⟨.tup [.agg [I 0, .nils], .bool false], H, back_marksF hD1 (fun d hd => by (obtain ⟨d1, d2, d3⟩ := hD2 d hd); (simp (disch := first | omega | (simp only [hNw, hPt]; omega)) only [gno, gpo]); exact d3) (fun G9 hG9 => resV_cell rfl (ldg (n := 2) (by kernel_rfl) (by rw [hG9 (W.next + 1) (fun h9 => by have := (hD2 _ h9).1; omega)]; first | (rw [gn0]; rfl) | (simp (disch := first | omega | (simp only [hNw, hPt]; omega)) only [gN] <;> first | rfl | assumption | exact gp0 _ _ _ | exact gn0 _ _)) (by first | rfl | assumption)) (resV_cell rfl (lda (n := 1) (by kernel_rfl) (by rw [hG9 (W.next + 2) (fun h9 => by have := (hD2 _ h9).1; omega)]; first | (rw [gn0]; rfl) | (simp (disch := first | omega | (simp only [hNw, hPt]; omega)) only [gN] <;> first | rfl | assumption | exact gp0 _ _ _ | exact gn0 _ _)) (by first | rfl | assumption)) resV_nil)) rfl (by rw [← hW]; exact (by (try dsimp only); repeat (first | exact hg | exact hG | apply Grow.new | (refine Grow.put ?_ _ (by first | omega | (simp only [hNw, hPt]; omega)))))) (fun d hd => by have := (hD2 d hd).1; omega) rfl, .inr ⟨rfl, rfl, fun fr us u1 u2 u3 u4 => ?_⟩⟩
    cases us with
    | nil => exact absurd rfl u2
    | cons k9 l9 =>
      have h1 := sumR_le (pr := pr) (n := n) (last := fr + l9.length) l9 k9 fr u1 rfl
      simp only [List.length_cons] at u3 u4
      have h2 := hno (fr + l9.length) fr k9 (by omega) (by omega) u1.head
      rw [Nat.add_sub_cancel_left] at h2
      omega
end
end Go.Ev

set_option maxRecDepth 100000
set_option linter.unusedSimpArgs false
set_option linter.unusedVariables false
namespace Go.Ev
open Go Go.Proofs
noncomputable section
/-- A function that answers for each number below some. -/
def CallI (m : Nat) (fv : AV) (H : Heap) (n : Nat) (Pd : Nat → Bool) : Prop := ∀ i, i < n → ∃ f bs, Go.Ev.callV fv [I (i : Int)] = some (.fn f bs) ∧ ∀ G, Ext H G → RR m (.fn f bs) G = some (.bool (Pd i), G)
/-- A bed of a slope. -/
def bedAt (cols : List (List Bed)) (c k : Nat) : Bed := (cols.getD c []).getD k ⟨0, 0, 0, 0, 0, 0, 0, 0⟩
def BedsOk (cols : List (List Bed)) : Prop := ∀ c ∈ cols, ∀ b ∈ c, b.ok = true
theorem bedAt_ok {cols : List (List Bed)} (h : BedsOk cols) (c k : Nat) : (bedAt cols c k).ok = true := by
  unfold bedAt
  rw [List.getD_eq_getElem?_getD, List.getD_eq_getElem?_getD]
  cases hc : cols[c]? with
  | none => rfl
  | some col =>
    dsimp only [Option.getD_some]
    cases hk : col[k]? with
    | none => rfl
    | some bd => exact h col (List.mem_of_getElem? hc) bd (List.mem_of_getElem? hk)
def prC (cols : List (List Bed)) (fa : Int) (c k : Nat) : Int := costOf fa (bedAt cols c k)
def prL (cols : List (List Bed)) (c k : Nat) : Int := -(bedAt cols c k).dr
theorem prC_bd {cols : List (List Bed)} (h : BedsOk cols) {fa : Int} (hf : 0 ≤ fa ∧ fa ≤ 10000) : PrB (prC cols fa) := fun c k => by
  have hb := bedAt_ok h c k
  have h1 := weak_bd hb
  have h2 := Bed.ok_lim hb
  unfold Bed.lim at h2
  have h3 := mul_bd hf ⟨h2.1.1, h2.1.2⟩
  unfold prC costOf
  omega
theorem bedAt_get {cols : List (List Bed)} {n c k : Nat} (hcl : ∀ c ∈ cols, c.length = n) (hc : c < cols.length) (hk : k < n) : ∃ col, cols[c]? = some col ∧ col[k]? = some (bedAt cols c k) := by
  have h1 := hcl cols[c] (List.getElem_mem hc)
  refine ⟨cols[c], List.getElem?_eq_getElem hc, ?_⟩
  unfold bedAt
  rw [List.getD_eq_getElem?_getD, List.getD_eq_getElem?_getD, List.getElem?_eq_getElem hc]
  simp [h1, hk]
theorem callP_cost (m : Nat) (cv : AV) (cols : List (List Bed)) (least fa : Int) (n : Nat) (H : Heap) (hM : Mat H cv cols) (hcl : ∀ c ∈ cols, c.length = n) (hok : BedsOk cols) (hN9 : cols.length ≤ 100) (hn9 : n ≤ 1000) (hf : 0 ≤ fa ∧ fa ≤ 10000) :
    CallP (m + 4) (.fn 71 [.agg [cv, I least, I fa, .fn 66 [] []]] []) H cols.length n (prC cols fa) := fun c k hc hk => by
  obtain ⟨col, h1, h2⟩ := bedAt_get hcl hc hk
  exact ⟨71, _, rfl, fun G hG => c71 m cv cols least fa c k col _ G (hM.ext hG) h1 h2 (bedAt_ok hok c k) (by omega) (by omega) hf⟩
/-- A surface of a slope of so many columns and beds. -/
def Surf (N n : Nat) (least : Int) (fr : Nat) (us : List Nat) : Prop := Walk n us ∧ us ≠ [] ∧ least ≤ us.length ∧ fr + us.length ≤ N
open Classical in
/-- Is some surface's sum of prices below 0? -/
noncomputable def belowB (N n : Nat) (least : Int) (pr : Nat → Nat → Int) : Bool := decide (∃ fr us, Surf N n least fr us ∧ walkSum pr fr us < 0)
theorem belowB_true {N n : Nat} {least : Int} {pr : Nat → Nat → Int} : belowB N n least pr = true ↔ ∃ fr us, Surf N n least fr us ∧ walkSum pr fr us < 0 := by unfold belowB; simp
theorem belowB_false {N n : Nat} {least : Int} {pr : Nat → Nat → Int} : belowB N n least pr = false ↔ ∀ fr us, Surf N n least fr us → 0 ≤ walkSum pr fr us := by
  unfold belowB
  rw [decide_eq_false_iff_not]
  constructor
  · intro h fr us hs
    by_cases h1 : 0 ≤ walkSum pr fr us
    · exact h1
    · exact absurd ⟨fr, us, hs, by omega⟩ h
  · rintro h ⟨fr, us, hs, h1⟩
    have := h fr us hs
    omega
theorem c72b (m n : Nat) (cv pv : AV) (cols : List (List Bed)) (least : Int) (pr : Nat → Nat → Int) (H : Heap) (hM : Mat H cv cols) (hcl : ∀ c ∈ cols, c.length = n) (hN9 : cols.length ≤ 100) (hn9 : 1 ≤ n ∧ n ≤ 1000) (hls : 1 ≤ least ∧ least ≤ 4) (hB : PrB pr) (hP : CallP (m + 106) pv H cols.length n pr) :
    ∃ v H', RR (m + 108) (.fn 72 [.agg [cv, I least], pv]) H = some (v, H') ∧ Ret H H' ∧ ∃ x y, v = .tup [.agg [x, y], .bool (belowB cols.length n least pr)] ∧ atoms [x, y] = true ∧
      ((∃ (fr : Nat) (us : List Nat), x = I (fr : Int) ∧ belowB cols.length n least pr = true ∧ Mine H.next H' y 3 1 (us.map fun (k : Nat) => I (k : Int)) ∧ y ≠ .nils ∧ Surf cols.length n least fr us ∧ walkSum pr fr us < 0) ∨ (x = I 0 ∧ y = .nils ∧ H' = H ∧ belowB cols.length n least pr = false)) := by
  obtain ⟨v, H', h1, h2⟩ := c72 m n cv pv cols least pr H hM hcl hN9 hn9 hls hB hP
  rcases h2 with ⟨fr, us, bv, rfl, q72, qm, qn, qw, ql, qs, qf, qp⟩ | ⟨rfl, rfl, hno⟩
  · have hb : belowB cols.length n least pr = true := belowB_true.2 ⟨fr, us, ⟨qw, qs, ql, qf⟩, qp⟩
    exact ⟨_, H', h1, q72, I (fr : Int), bv, by rw [hb], by (rw [atoms, atoms, qm.one.2]; rfl), .inl ⟨fr, us, rfl, hb, qm, qn, ⟨qw, qs, ql, qf⟩, qp⟩⟩
  · have hb : belowB cols.length n least pr = false := belowB_false.2 (fun fr us hs => hno fr us hs.1 hs.2.1 hs.2.2.1 hs.2.2.2)
    exact ⟨_, H', h1, Ret.refl _, I 0, .nils, by rw [hb], rfl, .inr ⟨rfl, rfl, rfl, hb⟩⟩
theorem c70 (m : Nat) (n : Nat) (cv : AV) (cols : List (List Bed)) (least fa : Int) (H : Heap) (hM : Mat H cv cols) (hcl : ∀ c ∈ cols, c.length = n) (hN9 : cols.length ≤ 100) (hn9 : 1 ≤ n ∧ n ≤ 1000) (hls : 1 ≤ least ∧ least ≤ 4) (hok : BedsOk cols) (hf : 0 ≤ fa ∧ fa ≤ 10000) : RR (m + 209) (.fn 70 [.agg [cv, I least], I fa]) H = some (.bool (belowB cols.length n least (prC cols fa)), H) := by
  refine (R_fn _ _ _ _ _).trans ?_; refine fn_ok Try.func70 rfl rfl (by kernel_rfl) (by kernel_rfl) ?_
  obtain ⟨W, hW, hg, hN, hE, hG⟩ := wOf H
  rw [← hW]
  have pc : cv.plain = true := by obtain ⟨vs, hR, _, _⟩ := hM; exact lpl hR.len
  refine kS ?_; refine kR ?_; refine OkO.box rfl rfl ?_; refine oA rfl rfl ?_; refine oN ?_; refine kS ?_; refine kR ?_; refine oL rfl rfl (qlg7 2) ?_; refine oL rfl rfl (qlg7 2) ?_; refine oM rfl rfl ?_; refine OkO.build (z := [.nils, .int .i64 0, .int .i64 0, .nilf]) (pl := [(0, 2), (2, 1), (3, 1)]) rfl (by kernel_rfl) rfl rfl ?_; refine OkO.makeFunc rfl rfl rfl ?_; refine oE rfl rfl rfl rfl rfl (c72b (m + 100) n cv _ cols least (prC cols fa) _ (hM.ext (hE _ (by (try dsimp only); repeat (first | exact hG | apply Grow.new | (refine Grow.put ?_ _ (by first | omega | (simp only [hNw, hPt]; omega))))))) hcl hN9 hn9 hls (prC_bd hok hf) (callP_cost (m + 202) cv cols least fa n _ (hM.ext (hE _ (by (try dsimp only); repeat (first | exact hG | apply Grow.new | (refine Grow.put ?_ _ (by first | omega | (simp only [hNw, hPt]; omega))))))) hcl hok hN9 hn9.2 hf)) ?_
  rintro v72 H72 ⟨q72, x72, y72, rfl, hu1, _⟩
  have g72 : Grow W H72 := Grow.ret (by (try dsimp only); repeat (first | exact hG | apply Grow.new | (refine Grow.put ?_ _ (by first | omega | (simp only [hNw, hPt]; omega))))) q72
  have n72 := g72.next
  refine oM rfl rfl ?_; refine OkO.extract rfl rfl rfl ?_; refine OkO.extract rfl rfl rfl ?_; refine OkO.alloc (z := [.int .i64 0, .nils]) rfl (by kernel_rfl) ?_; refine oT rfl rfl rfl (sAc (n := 2) (ag := true) (by kernel_rfl) (by first | assumption | (simp (disch := first | omega | (simp only [hNw, hPt]; omega)) only [gN] <;> first | rfl | assumption | exact gp0 _ _ _ | exact gn0 _ _)) rfl (by first | rfl | assumption) (by first | rfl | exact spl_set _ _ _ (by first | assumption | (simp; omega)))) ?_; refine oA rfl rfl ?_; refine oN ?_; refine kS ?_; refine kR ?_; refine oM rfl rfl ?_; refine oA rfl rfl ?_; refine oN ?_
  refine Ok.ret ⟨.inr rfl, ?_⟩
  exact back_flat (resV_tmp rfl resV_nil) rfl rfl (by rw [← hW]; exact (by (try dsimp only); repeat (first | exact g72 | apply Grow.new | (refine Grow.put ?_ _ (by first | omega | (simp only [hNw, hPt]; omega))))))
end
end Go.Ev

set_option maxRecDepth 100000
set_option linter.unusedSimpArgs false
set_option linter.unusedVariables false
namespace Go.Ev
open Go Go.Proofs
noncomputable section
/-- The beds of a walk. -/
def bedsW (cols : List (List Bed)) : Nat → List Nat → List Bed
  | _, [] => []
  | c, k :: l => bedAt cols c k :: bedsW cols (c + 1) l
theorem bedsW_len (cols : List (List Bed)) : ∀ (us : List Nat) (c : Nat), (bedsW cols c us).length = us.length
  | [], _ => rfl
  | k :: l, c => by rw [bedsW, List.length_cons, List.length_cons, bedsW_len cols l]
theorem bedsW_ok {cols : List (List Bed)} (h : BedsOk cols) : ∀ (us : List Nat) (c : Nat), ∀ b ∈ bedsW cols c us, b.ok = true
  | [], _ => nofun
  | k :: l, c => fun b hb => by
    rcases List.mem_cons.1 hb with rfl | hb
    · exact bedAt_ok h _ _
    · exact bedsW_ok h l (c + 1) b hb
theorem walkC (cols : List (List Bed)) (fa : Int) : ∀ (us : List Nat) (c : Nat), walkSum (prC cols fa) c us = 1000 * sumB weak (bedsW cols c us) - fa * drive (bedsW cols c us)
  | [], _ => by simp [walkSum, bedsW, sumB, drive]
  | k :: l, c => by
    rw [walkSum, walkC cols fa l (c + 1), bedsW]
    simp only [prC, costOf, sumB, drive, List.map_cons, List.sum_cons, Int.mul_add]
    omega
/-- The factor that a surface has at least. -/
def facW (cols : List (List Bed)) (fr : Nat) (us : List Nat) : Int := factorOf (sumB weak (bedsW cols fr us)) (drive (bedsW cols fr us))
theorem held_nn {cols : List (List Bed)} (h : BedsOk cols) (fr : Nat) (us : List Nat) : 0 ≤ sumB weak (bedsW cols fr us) := (sumB_bd weak _ fun b hb => weak_bd (bedsW_ok h us fr b hb)).1
theorem facW_bd {cols : List (List Bed)} (h : BedsOk cols) {fr : Nat} {us : List Nat} (hd : 1 ≤ drive (bedsW cols fr us)) : 0 ≤ facW cols fr us ∧ facW cols fr us ≤ 10000 := by
  refine ⟨factorOf_nn (held_nn h fr us) (by omega), ?_⟩
  unfold facW factorOf
  omega
theorem below_fac {held dr fa : Int} (h1 : 0 ≤ held) (hf : 0 ≤ fa ∧ fa ≤ 10000) : 1000 * held - fa * dr < 0 ↔ 1 ≤ dr ∧ factorOf held dr < fa := by
  unfold factorOf
  constructor
  · intro h
    have hd : 1 ≤ dr := by
      by_cases hd : 1 ≤ dr
      · exact hd
      · have := Int.mul_nonneg hf.1 (show 0 ≤ -dr by omega)
        rw [Int.mul_neg] at this
        omega
    refine ⟨hd, ?_⟩
    have h2 : 1000 * held / dr < fa := Int.ediv_lt_of_lt_mul (by omega) (by omega)
    omega
  · rintro ⟨hd, h⟩
    have h2 : 1000 * held / dr < fa := by omega
    have h3 := Int.lt_mul_of_ediv_lt (by omega) h2
    omega
theorem below_iff {cols : List (List Bed)} (h : BedsOk cols) {fa : Int} (hf : 0 ≤ fa ∧ fa ≤ 10000) (fr : Nat) (us : List Nat) : walkSum (prC cols fa) fr us < 0 ↔ 1 ≤ drive (bedsW cols fr us) ∧ facW cols fr us < fa := by
  rw [walkC]
  exact below_fac (held_nn h fr us) hf
/-- The least factor of a slope, and a surface that has it. -/
def LowAt (cols : List (List Bed)) (n : Nat) (least : Int) (z : Int) (fr : Nat) (us : List Nat) : Prop :=
  Surf cols.length n least fr us ∧ 1 ≤ drive (bedsW cols fr us) ∧ facW cols fr us = z ∧ ∀ fr us, Surf cols.length n least fr us → 1 ≤ drive (bedsW cols fr us) → z ≤ facW cols fr us
def NoneAt (cols : List (List Bed)) (n : Nat) (least : Int) : Prop := ∀ fr us, Surf cols.length n least fr us → drive (bedsW cols fr us) < 1
end
end Go.Ev

set_option maxRecDepth 100000
set_option linter.unusedSimpArgs false
set_option linter.unusedVariables false
namespace Go.Ev
open Go Go.Proofs
noncomputable section
def U8 (w : Int) : AV := .int .u8 w
def U16 (w : Int) : AV := .int .u16 w
def Upto (k : Int) (l : List Int) : Prop := ∀ x ∈ l, 0 ≤ x ∧ x ≤ k
def readyS (cols : List (List Bed)) (least : Int) : Bool := thinB cols && (slOk cols least && decide (least ≤ (cols.length : Int)))
theorem Walk.snoc {n b : Nat} : ∀ {us : List Nat}, Walk n us → b < n → (∀ k, us.getLast? = some k → Nxt n k b) → Walk n (us ++ [b])
  | [], _, hb, _ => hb
  | [k], h, hb, hl => ⟨h, hl k rfl, hb⟩
  | k :: j :: l, h, hb, hl => ⟨h.1, h.2.1, Walk.snoc (us := j :: l) h.2.2 hb (fun q hq => hl q (by simpa using hq))⟩
def pickI (lo hi w : Int) : Int := lo + w % (hi - lo + 1)
end
end Go.Ev

set_option maxRecDepth 100000
set_option linter.unusedSimpArgs false
set_option linter.unusedVariables false
namespace Go.Ev
open Go Go.Proofs
noncomputable section
theorem Walk.lt {n : Nat} : ∀ {us : List Nat}, Walk n us → ∀ (i : Nat) (h : i < us.length), us[i] < n
  | [k], h, 0, _ => h
  | k :: j :: l, h, 0, _ => h.1
  | k :: j :: l, h, i + 1, hi => Walk.lt (us := j :: l) h.2.2 i (by simpa using hi)
theorem flatN (us : List Nat) : (us.map fun (k : Nat) => [I (k : Int)]).flatten = us.map fun (k : Nat) => I (k : Int) := by induction us with | nil => rfl | cons a l ih => simp [ih]
theorem len_cells {v : AV} {n : Nat} (h : lenOf v = some n) : v.cells = [v] := by
  cases v with
  | raw x => cases x <;> first | rfl | (simp [lenOf] at h)
  | agg l => simp [lenOf] at h
  | _ => rfl
end
end Go.Ev

set_option maxRecDepth 100000
set_option linter.unusedSimpArgs false
set_option linter.unusedVariables false
namespace Go.Ev
open Go Go.Proofs
noncomputable section
theorem bedsW_get {cols : List (List Bed)} : ∀ (us : List Nat) (c j : Nat) (h : j < us.length), (bedsW cols c us)[j]? = some (bedAt cols (c + j) us[j])
  | k :: l, c, 0, _ => rfl
  | k :: l, c, j + 1, h => by
    rw [bedsW, List.getElem?_cons_succ, bedsW_get l (c + 1) j (by simpa using h)]
    simp only [List.getElem_cons_succ]
    rw [show c + 1 + j = c + (j + 1) from by omega]
end
end Go.Ev

set_option maxRecDepth 100000
set_option linter.unusedSimpArgs false
set_option linter.unusedVariables false
namespace Go.Ev
open Go Go.Proofs
noncomputable section
def ofN (us : List Nat) : List Int := us.map fun (k : Nat) => (k : Int)
theorem ofN_len (us : List Nat) : (ofN us).length = us.length := by simp [ofN]
theorem ofN_get (us : List Nat) (i : Nat) (h : i < us.length) : (ofN us).getD i 0 = (us[i] : Int) := by simp [ofN, h]
theorem ints_N {H : Heap} {v : AV} {us : List Nat} (h : Row H v 1 (us.map fun (k : Nat) => [I (k : Int)])) : Ints H v (ofN us) := by
  unfold Ints ofN
  rw [List.map_map]
  exact h
theorem Walk.adj {n : Nat} : ∀ {us : List Nat}, Walk n us → ∀ (i : Nat) (h : i + 1 < us.length), Nxt n us[i] us[i + 1]
  | k :: j :: l, h, 0, _ => h.2.1
  | k :: j :: l, h, i + 1, hi => Walk.adj (us := j :: l) h.2.2 i (by simpa using hi)
theorem walk_of {n : Nat} : ∀ {us : List Nat}, (∀ (i : Nat) (h : i < us.length), us[i] < n) → (∀ (i : Nat) (h : i + 1 < us.length), Nxt n us[i] us[i + 1]) → Walk n us
  | [], _, _ => trivial
  | [k], h, _ => h 0 (by simp)
  | k :: j :: l, h, h2 => ⟨h 0 (by simp), h2 0 (by simp), walk_of (us := j :: l) (fun i hi => h (i + 1) (by simpa using hi)) fun i hi => h2 (i + 1) (by simpa using hi)⟩
theorem surf_B {cols : List (List Bed)} {least : Int} {fr : Nat} {us : List Nat} (hv : slOk cols least = true) (h : Surf cols.length (cols.headD []).length least fr us) : surfB cols least (fr : Int) (ofN us) = true := by
  obtain ⟨h1, h2, h3, h4⟩ := h
  have hf := slOk_facts hv
  have hl : 0 < us.length := List.length_pos_iff.2 h2
  unfold surfB
  simp only [Bool.and_eq_true]
  refine ⟨⟨⟨?_, ?_⟩, ?_⟩, ?_⟩
  · simp [inB]; omega
  · simp [inB, ofN_len]; omega
  · rw [List.all_eq_true]
    intro u hu
    obtain ⟨k, hk, rfl⟩ := List.mem_map.1 hu
    obtain ⟨i, hi, rfl⟩ := List.mem_iff_getElem.1 hk
    have := h1.lt i hi
    simp only [inB, Bool.and_eq_true, decide_eq_true_eq]; omega
  · unfold adjB
    rw [List.all_eq_true]
    intro i hi
    rw [List.mem_range, ofN_len] at hi
    rw [ofN_get us (i + 1) (by omega), ofN_get us i (by omega)]
    obtain ⟨_, a, b⟩ := h1.adj i (by omega)
    simp [inB]; omega
theorem surf_N {cols : List (List Bed)} {least fr : Int} {us : List Int} (hv : slOk cols least = true) (h : surfB cols least fr us = true) : ∃ (f0 : Nat) (us2 : List Nat), fr = (f0 : Int) ∧ us = ofN us2 ∧ Surf cols.length (cols.headD []).length least f0 us2 := by
  have hf := slOk_facts hv
  unfold surfB at h
  simp only [Bool.and_eq_true] at h
  obtain ⟨⟨⟨h1, h2⟩, h3⟩, h4⟩ := h
  simp [inB] at h1 h2
  rw [List.all_eq_true] at h3
  have h3' : ∀ u ∈ us, 0 ≤ u ∧ u ≤ ((cols.headD []).length : Int) - 1 := fun u hu => by have := h3 u hu; simpa [inB] using this
  have hus : us = ofN (us.map Int.toNat) := by
    unfold ofN
    rw [List.map_map]
    conv => lhs; rw [← List.map_id us]
    apply List.map_congr_left
    intro u hu
    have := h3' u hu
    simp; omega
  refine ⟨fr.toNat, us.map Int.toNat, by omega, hus, walk_of (fun i hi => ?_) (fun i hi => ?_), ?_, by simp; omega, by simp; omega⟩
  · simp only [List.length_map] at hi
    have := h3' us[i] (List.getElem_mem hi)
    simp only [List.getElem_map]; omega
  · simp only [List.length_map] at hi
    unfold adjB at h4
    rw [List.all_eq_true] at h4
    have h5 := h4 i (List.mem_range.2 (by omega))
    have e1 : us.getD (i + 1) 0 = us[i + 1] := by simp [hi]
    have e2 : us.getD i 0 = us[i] := by simp [show i < us.length by omega]
    rw [e1, e2] at h5
    simp [inB] at h5
    have a := h3' us[i] (List.getElem_mem (by omega))
    have b := h3' us[i + 1] (List.getElem_mem hi)
    simp only [List.getElem_map]
    exact ⟨by omega, by omega, by omega⟩
  · intro e
    have : us.length = 0 := by have := congrArg List.length e; simpa using this
    omega
theorem bedsOk_of {cols : List (List Bed)} {least : Int} (hv : slOk cols least = true) : BedsOk cols := fun c hc b hb => ((slOk_facts hv).2.2.2.2.2.2 c hc).2 b hb
theorem lens_of {cols : List (List Bed)} {least : Int} (hv : slOk cols least = true) : ∀ c ∈ cols, c.length = (cols.headD []).length := fun c hc => ((slOk_facts hv).2.2.2.2.2.2 c hc).1
theorem holds_mono {no f f' c c' w w' : Int} (hf : 0 ≤ f ∧ f ≤ f') (hc : c ≤ c') (hw : w' ≤ w) : holds no f c w ≤ holds no f' c' w' := by
  unfold holds
  have h1 : max (no - w) 0 ≤ max (no - w') 0 := by omega
  have h0 : 0 ≤ max (no - w) 0 := by omega
  have h2 : max (no - w) 0 * f ≤ max (no - w') 0 * f' := Int.mul_le_mul h1 hf.2 hf.1 (by omega)
  have h3 := Int.ediv_le_ediv (show (0 : Int) < 1000 by omega) h2
  omega
theorem picks_W {cols : List (List Bed)} {n : Nat} (hcl : ∀ c ∈ cols, c.length = n) {fr : Nat} {us : List Nat} (h : Walk n us) (hf : fr + us.length ≤ cols.length) : Picks cols fr us (bedsW cols fr us) := by
  refine ⟨bedsW_len cols us fr, fun i u hu => ?_⟩
  have hi := (List.getElem?_eq_some_iff.1 hu).1
  have hu2 : us[i] = u := (List.getElem?_eq_some_iff.1 hu).2
  have hlt := h.lt i hi
  obtain ⟨col, h1, h2⟩ := bedAt_get (c := fr + i) (k := u) hcl (by omega) (by omega)
  exact ⟨col, _, h1, h2, by rw [bedsW_get us fr i hi, hu2]⟩
end
end Go.Ev

set_option maxRecDepth 100000
set_option linter.unusedSimpArgs false
set_option linter.unusedVariables false
namespace Go.Ev
open Go Go.Proofs
noncomputable section
/-- What a surface's Span is. -/
def spW (cols : List (List Bed)) (fr : Nat) (us : List Nat) : Int × Int × Int := if 1 ≤ drive (bedsW cols fr us) then (facW cols fr us, factorOf (sumB strong (bedsW cols fr us)) (drive (bedsW cols fr us)), 0) else (0, 0, 7)
def faW (cols : List (List Bed)) (fr : Nat) (us : List Nat) (R : List Rl) : Int × Int := if 1 ≤ drive (bedsW cols fr us) then (factorOf (held (bedsW cols fr us) R) (drive (bedsW cols fr us)), 0) else (0, 7)
end
end Go.Ev

set_option maxRecDepth 100000
set_option linter.unusedSimpArgs false
set_option linter.unusedVariables false
namespace Go.Ev
open Go Go.Proofs
noncomputable section
section
open Go.ChangeShapes Go.WideShapes Go.RowKit
variable {H0 : Type} {enc : TypeId × Value → H0} {w : World} {base n : Nat} {sp : Nat → Bool} {hd : Bool}
theorem u8_open {c : List Value} {y} (h : DataW.trod enc Try.prog w base sp hd n 5 c = some y) : ∃ x : Int, c = [.int .u8 x] ∧ 0 ≤ x ∧ x ≤ 255 := by
  obtain ⟨x, h1, _, hw⟩ := DataW.trod_int Try.underlying5 h
  refine ⟨x, h1, ?_⟩
  have h2 : (decide (IntKind.min .u8 ≤ x) && decide (x ≤ IntKind.max .u8)) = true := hw
  rw [Bool.and_eq_true] at h2
  have h3 := of_decide_eq_true h2.1
  have h4 := of_decide_eq_true h2.2
  have e1 : IntKind.min .u8 = 0 := by decide
  have e2 : IntKind.max .u8 = 255 := by decide
  omega
theorem u8_arg {H : Heap} (hs : Snap w H) {v : Value} {d : DataW H0} {p : List MemPlace} (hv : ∃ n, v = .int .u8 n) (h : DataW.Trod enc Try.prog w base sp hd 5 v d p) : ∃ x : Int, argAV w.heap.size v = .int .u8 x ∧ 0 ≤ x ∧ x ≤ 255 := by
  obtain ⟨n, rfl⟩ := hv
  obtain ⟨fuel, h⟩ := h
  obtain ⟨x, h1, hb⟩ := u8_open h
  have h1' : ([Value.int .u8 n] : List Value) = [.int .u8 x] := h1
  have e0 : n = x := by simpa using h1'
  subst e0
  exact ⟨n, rfl, hb⟩
end
end
end Go.Ev

set_option maxRecDepth 100000
set_option linter.unusedSimpArgs false
set_option linter.unusedVariables false
namespace Go.Ev
open Go Go.Proofs
noncomputable section
/-- What is appended to an empty slice that was just made, if it is anything. -/
theorem app_lit2 {P : Program} {G : Heap} {t u e el : TypeId} {sz by_ : Nat} {x : AV} {rows : List (List AV)} (hu : isSlice P u = true) (ht : elemTI P t = some (e, sz, by_)) (hr : Row (G.new (.cells [] el)) x sz rows) (hs : ∀ y ∈ rows, y.length = sz)
    (hb : rows.length * (by_ + 1) ≤ 4294967296) (hz : 0 < sz) (ha : atoms rows.flatten = true) (hn : 0 < rows.length) :
    builtinF P (G.new (.cells [] el)) .append [t, u] [.slice G.next 0 0 0, x] = some (.val (.opn (G.next + 1) rows.length) ((G.new (.cells [] el)).new (.opn rows.flatten e sz))) := by
  have he := hr.elems hs
  have hl := hr.len
  have e1 : builtinF P (G.new (.cells [] el)) .append [t, u] [.slice G.next 0 0 0, x] = (append P (G.new (.cells [] el)) t (.slice G.next 0 0 0) x).map fun (v, H) => .val v H := by
    show (appendT P _ t u _ x).map _ = _
    unfold appendT
    unfold isSlice at hu
    split at hu
    · rename_i e; rw [e]
    · cases hu
  have e2 := append_go (s := .slice G.next 0 0 0) ht he hl rfl (by simpa using hb) hz ha
  rw [e1, e2]
  unfold append.appendGo
  dsimp only
  rw [show Nat.ble (0 + rows.length) 0 = false from by cases h : Nat.ble (0 + rows.length) 0 with | false => rfl | true => (have := Nat.le_of_ble_eq_true h; omega)]
  dsimp only
  rw [show elems (G.new (.cells [] el)) (.slice G.next 0 0 0) sz = some [] from rfl]
  simp
/-- A bed with more water. -/
def wet1 (more : Int) (b : Bed) : Bed := { b with wh := min 100000 (b.wh + more) }
def wetC (more : Int) (c : List Bed) : List Bed := c.map (wet1 more)
def wetS (more : Int) (cols : List (List Bed)) : List (List Bed) := cols.map (wetC more)
def wetK (more : Int) (c : List Bed) (k : Nat) : List Bed := wetC more (c.take k) ++ c.drop k
/-- A slope in blocks of its own: each column in one, none of them older than a name. -/
structure OwnS (k0 : Nat) (H : Heap) (cv : AV) (n : Nat) (cols : List (List Bed)) (bs : List Nat) : Prop where
  len : bs.length = cols.length
  nd : bs.Nodup
  out : Mine k0 H cv 97 1 (bs.map fun b => AV.opn b n)
  col : ∀ (i b : Nat) c, bs[i]? = some b → cols[i]? = some c → H.get b = some (.opn (c.map Bed.c).flatten 100 8) ∧ c.length = n
  ge : ∀ b ∈ bs, k0 ≤ b ∧ b < H.next ∧ ∀ m, cv ≠ .opn b m
theorem OwnS.to {k0 : Nat} {H G : Heap} {cv : AV} {n : Nat} {cols : List (List Bed)} {bs : List Nat} (h : OwnS k0 H cv n cols bs) (g : Ext H G) : OwnS k0 G cv n cols bs :=
  ⟨h.len, h.nd, h.out.to g, fun i b c h1 h2 => ⟨by rw [g.get b (h.ge b (List.mem_of_getElem? h1)).2.1]; exact (h.col i b c h1 h2).1, (h.col i b c h1 h2).2⟩, fun b hb => ⟨(h.ge b hb).1, Nat.lt_of_lt_of_le (h.ge b hb).2.1 g.next, (h.ge b hb).2.2⟩⟩
theorem OwnS.put {k0 : Nat} {H : Heap} {cv : AV} {n : Nat} {cols : List (List Bed)} {bs : List Nat} (h : OwnS k0 H cv n cols bs) {m : Nat} (o : AObj) (hm : m < k0) : OwnS k0 (H.put m o) cv n cols bs :=
  ⟨h.len, h.nd, h.out.put o hm, fun i b c h1 h2 => ⟨by rw [gpo _ _ _ _ (by have := (h.ge b (List.mem_of_getElem? h1)).1; omega)]; exact (h.col i b c h1 h2).1, (h.col i b c h1 h2).2⟩, fun b hb => ⟨(h.ge b hb).1, by rw [hPt]; exact (h.ge b hb).2.1, (h.ge b hb).2.2⟩⟩
theorem OwnS.fr {k0 : Nat} {H : Heap} {cv : AV} {n : Nat} {cols : List (List Bed)} {bs : List Nat} (h : OwnS k0 H cv n cols bs) : Fr k0 H.next H fun X => OwnS k0 X cv n cols bs := by
  intro X h1 h2
  exact ⟨h.len, h.nd, h.out.fr X h1 h2, fun i b c a1 a2 => ⟨by obtain ⟨g1, g2, _⟩ := h.ge b (List.mem_of_getElem? a1); rw [h2 b g1 g2]; exact (h.col i b c a1 a2).1, (h.col i b c a1 a2).2⟩, fun b hb => ⟨(h.ge b hb).1, Nat.lt_of_lt_of_le (h.ge b hb).2.1 h1, (h.ge b hb).2.2⟩⟩
theorem slAt_opn {b n sz k : Nat} (h : k < n) : slAt (.opn b n) sz k = some (b, k * sz) := by simp [slAt, h]
theorem OwnS.snoc {k0 : Nat} {G0 G G2 : Heap} {ov : AV} {n : Nat} {cols : List (List Bed)} {bs : List Nat} {c : List Bed} {B P Q mm : Nat} (h : OwnS k0 G0 ov n cols bs) (hk : k0 ≤ G0.next) (hB : G0.next ≤ B) (hBQ : B < Q) (hQP : Q ≤ P) (hP : P < G2.next)
    (hx : Ext G0 G) (hq : ∀ j, j < Q → (∀ m, ov ≠ .opn j m) → G2.get j = G.get j) (hc : G.get B = some (.opn (c.map Bed.c).flatten 100 8)) (hn : c.length = n) (hm : Mine k0 G2 (.opn P mm) 97 1 ((bs ++ [B]).map fun b => AV.opn b n)) : OwnS k0 G2 (.opn P mm) n (cols ++ [c]) (bs ++ [B]) := by
  have hlt : ∀ j m, G0.next ≤ j → ov ≠ .opn j m := fun j m hj he => by have := h.out.lt he; omega
  refine ⟨by simp [h.len], ?_, hm, fun i b d h1 h2 => ?_, fun b hb => ?_⟩
  · rw [List.nodup_append]
    refine ⟨h.nd, by simp, fun a ha d hd e => ?_⟩
    simp at hd
    have := (h.ge a ha).2.1
    omega
  · rcases Nat.lt_or_ge i bs.length with q | q
    · rw [List.getElem?_append_left q] at h1
      rw [List.getElem?_append_left (by rw [← h.len]; exact q)] at h2
      obtain ⟨a1, a2, a3⟩ := h.ge b (List.mem_of_getElem? h1)
      obtain ⟨b1, b2⟩ := h.col i b d h1 h2
      exact ⟨by rw [hq b (by omega) a3, hx.get b a2]; exact b1, b2⟩
    · rw [List.getElem?_append_right q] at h1
      rw [List.getElem?_append_right (by rw [← h.len]; exact q)] at h2
      have h0 : i - bs.length = 0 := by have := (List.getElem?_eq_some_iff.1 h1).1; simp at this; omega
      have h00 : i - cols.length = 0 := by rw [← h.len]; exact h0
      rw [h0] at h1
      rw [h00] at h2
      simp at h1 h2
      subst h1 h2
      exact ⟨by rw [hq _ hBQ (fun m => hlt _ m hB)]; exact hc, hn⟩
  · rcases List.mem_append.1 hb with hb | hb
    · obtain ⟨a1, a2, a3⟩ := h.ge b hb
      exact ⟨a1, by omega, fun m e => by have := (AV.opn.inj e).1; omega⟩
    · simp at hb
      subst hb
      exact ⟨by omega, by omega, fun m e => by have := (AV.opn.inj e).1; omega⟩
theorem OwnS.low {k0 k1 : Nat} {H : Heap} {cv : AV} {n : Nat} {cols : List (List Bed)} {bs : List Nat} (h : OwnS k0 H cv n cols bs) (hk : k1 ≤ k0) : OwnS k1 H cv n cols bs :=
  ⟨h.len, h.nd, h.out.ge hk, h.col, fun b hb => ⟨Nat.le_trans hk (h.ge b hb).1, (h.ge b hb).2⟩⟩
end
end Go.Ev

set_option maxRecDepth 100000
set_option linter.unusedSimpArgs false
set_option linter.unusedVariables false
namespace Go.Ev
open Go Go.Proofs
noncomputable section
/-- A slope in blocks of its own: each column in one, none of them older than a name. -/
structure OwnP (k0 : Nat) (H : Heap) (cv : AV) (n : Nat) (cols : List (List Bed)) (bs : List Nat) : Prop where
  len : bs.length = cols.length
  nd : bs.Nodup
  out : Mine k0 H cv 86 1 (bs.map fun b => AV.opn b n)
  col : ∀ (i b : Nat) c, bs[i]? = some b → cols[i]? = some c → H.get b = some (.opn (c.map Bed.c).flatten 85 8) ∧ c.length = n
  ge : ∀ b ∈ bs, k0 ≤ b ∧ b < H.next ∧ ∀ m, cv ≠ .opn b m
theorem OwnP.to {k0 : Nat} {H G : Heap} {cv : AV} {n : Nat} {cols : List (List Bed)} {bs : List Nat} (h : OwnP k0 H cv n cols bs) (g : Ext H G) : OwnP k0 G cv n cols bs :=
  ⟨h.len, h.nd, h.out.to g, fun i b c h1 h2 => ⟨by rw [g.get b (h.ge b (List.mem_of_getElem? h1)).2.1]; exact (h.col i b c h1 h2).1, (h.col i b c h1 h2).2⟩, fun b hb => ⟨(h.ge b hb).1, Nat.lt_of_lt_of_le (h.ge b hb).2.1 g.next, (h.ge b hb).2.2⟩⟩
theorem OwnP.put {k0 : Nat} {H : Heap} {cv : AV} {n : Nat} {cols : List (List Bed)} {bs : List Nat} (h : OwnP k0 H cv n cols bs) {m : Nat} (o : AObj) (hm : m < k0) : OwnP k0 (H.put m o) cv n cols bs :=
  ⟨h.len, h.nd, h.out.put o hm, fun i b c h1 h2 => ⟨by rw [gpo _ _ _ _ (by have := (h.ge b (List.mem_of_getElem? h1)).1; omega)]; exact (h.col i b c h1 h2).1, (h.col i b c h1 h2).2⟩, fun b hb => ⟨(h.ge b hb).1, by rw [hPt]; exact (h.ge b hb).2.1, (h.ge b hb).2.2⟩⟩
theorem OwnP.fr {k0 : Nat} {H : Heap} {cv : AV} {n : Nat} {cols : List (List Bed)} {bs : List Nat} (h : OwnP k0 H cv n cols bs) : Fr k0 H.next H fun X => OwnP k0 X cv n cols bs := by
  intro X h1 h2
  exact ⟨h.len, h.nd, h.out.fr X h1 h2, fun i b c a1 a2 => ⟨by obtain ⟨g1, g2, _⟩ := h.ge b (List.mem_of_getElem? a1); rw [h2 b g1 g2]; exact (h.col i b c a1 a2).1, (h.col i b c a1 a2).2⟩, fun b hb => ⟨(h.ge b hb).1, Nat.lt_of_lt_of_le (h.ge b hb).2.1 h1, (h.ge b hb).2.2⟩⟩
theorem OwnP.snoc {k0 : Nat} {G0 G G2 : Heap} {ov : AV} {n : Nat} {cols : List (List Bed)} {bs : List Nat} {c : List Bed} {B P Q mm : Nat} (h : OwnP k0 G0 ov n cols bs) (hk : k0 ≤ G0.next) (hB : G0.next ≤ B) (hBQ : B < Q) (hQP : Q ≤ P) (hP : P < G2.next)
    (hx : Ext G0 G) (hq : ∀ j, j < Q → (∀ m, ov ≠ .opn j m) → G2.get j = G.get j) (hc : G.get B = some (.opn (c.map Bed.c).flatten 85 8)) (hn : c.length = n) (hm : Mine k0 G2 (.opn P mm) 86 1 ((bs ++ [B]).map fun b => AV.opn b n)) : OwnP k0 G2 (.opn P mm) n (cols ++ [c]) (bs ++ [B]) := by
  have hlt : ∀ j m, G0.next ≤ j → ov ≠ .opn j m := fun j m hj he => by have := h.out.lt he; omega
  refine ⟨by simp [h.len], ?_, hm, fun i b d h1 h2 => ?_, fun b hb => ?_⟩
  · rw [List.nodup_append]
    refine ⟨h.nd, by simp, fun a ha d hd e => ?_⟩
    simp at hd
    have := (h.ge a ha).2.1
    omega
  · rcases Nat.lt_or_ge i bs.length with q | q
    · rw [List.getElem?_append_left q] at h1
      rw [List.getElem?_append_left (by rw [← h.len]; exact q)] at h2
      obtain ⟨a1, a2, a3⟩ := h.ge b (List.mem_of_getElem? h1)
      obtain ⟨b1, b2⟩ := h.col i b d h1 h2
      exact ⟨by rw [hq b (by omega) a3, hx.get b a2]; exact b1, b2⟩
    · rw [List.getElem?_append_right q] at h1
      rw [List.getElem?_append_right (by rw [← h.len]; exact q)] at h2
      have h0 : i - bs.length = 0 := by have := (List.getElem?_eq_some_iff.1 h1).1; simp at this; omega
      have h00 : i - cols.length = 0 := by rw [← h.len]; exact h0
      rw [h0] at h1
      rw [h00] at h2
      simp at h1 h2
      subst h1 h2
      exact ⟨by rw [hq _ hBQ (fun m => hlt _ m hB)]; exact hc, hn⟩
  · rcases List.mem_append.1 hb with hb | hb
    · obtain ⟨a1, a2, a3⟩ := h.ge b hb
      exact ⟨a1, by omega, fun m e => by have := (AV.opn.inj e).1; omega⟩
    · simp at hb
      subst hb
      exact ⟨by omega, by omega, fun m e => by have := (AV.opn.inj e).1; omega⟩
theorem OwnP.low {k0 k1 : Nat} {H : Heap} {cv : AV} {n : Nat} {cols : List (List Bed)} {bs : List Nat} (h : OwnP k0 H cv n cols bs) (hk : k1 ≤ k0) : OwnP k1 H cv n cols bs :=
  ⟨h.len, h.nd, h.out.ge hk, h.col, fun b hb => ⟨Nat.le_trans hk (h.ge b hb).1, (h.ge b hb).2⟩⟩
theorem c76 (m : Nat) (cv : AV) (cols : List (List Bed)) (least fa : Int) (H : Heap) (hM : Mat H cv cols) : RR (m + 9) (.fn 76 [.agg [cv, I least], I fa]) H = some (I (if slOk cols least = true then (if inB fa 0 10000 = true then 0 else 2) else 1), H) := by
  refine (R_fn _ _ _ _ _).trans ?_; refine fn_ok Try.func76 rfl rfl (by kernel_rfl) (by kernel_rfl) ?_
  obtain ⟨W, hW, hg, hN, hE, hG⟩ := wOf H
  rw [← hW]
  refine kS ?_; refine kR ?_; refine OkO.box rfl rfl ?_; refine oA rfl rfl ?_; refine oN ?_; refine kS ?_; refine kS ?_; refine kR ?_; refine oL rfl rfl (qlg7 2) ?_; refine oV rfl rfl rfl rfl rfl (c18 (m + 1) cv cols least _ (hM.ext (hE _ (by (try dsimp only); repeat (first | exact hG | apply Grow.new | (refine Grow.put ?_ _ (by first | omega | (simp only [hNw, hPt]; omega)))))))) ?_; refine oA rfl rfl ?_; refine oN ?_; refine kS ?_; refine kR ?_; refine oM rfl rfl ?_; refine OkO.bin rfl rfl rfl (bin_neq _ _) ?_; refine oN ?_
  refine Ok.cond rfl (fun h1 => ?_) (fun h1 => ?_)
  · have hs : ¬ slOk cols least = true := by (intro h9; rw [if_pos h9] at h1; simp at h1)
    refine kS ?_; refine kR ?_; refine oM rfl rfl ?_; refine oA rfl rfl ?_; refine oN ?_
    refine Ok.ret ⟨.inr rfl, ?_⟩
    exact back_flat rfl (congrArg (AV.int .i64) (by rw [if_neg hs, if_neg hs])) rfl (by rw [← hW]; exact (by (try dsimp only); repeat (first | exact hG | apply Grow.new | (refine Grow.put ?_ _ (by first | omega | (simp only [hNw, hPt]; omega))))))
  · refine Ok.skip ?_
    refine kS ?_; refine kS ?_; refine kR ?_; refine OkO.build (z := [.int .i64 0, .int .i64 0]) (pl := [(0, 1), (1, 1)]) rfl (by kernel_rfl) rfl rfl ?_; refine oM rfl rfl ?_; refine oV rfl rfl rfl rfl rfl (c88 (m + 7) 0 10000 fa _) ?_; refine OkO.un rfl rfl rfl ?_; refine oN ?_
    refine Ok.cond rfl (fun h2 => ?_) (fun h2 => ?_)
    · have hs : slOk cols least = true := by (by_cases h9 : slOk cols least = true; exact h9; rw [if_neg h9] at h1; simp at h1)
      have hi : ¬ inB fa 0 10000 = true := by simpa using h2
      refine kS ?_; refine kR ?_; refine oA rfl rfl ?_; refine oN ?_
      refine Ok.ret ⟨.inr rfl, ?_⟩
      exact back_flat rfl (congrArg (AV.int .i64) (by rw [if_pos hs, if_neg hi])) rfl (by rw [← hW]; exact (by (try dsimp only); repeat (first | exact hG | apply Grow.new | (refine Grow.put ?_ _ (by first | omega | (simp only [hNw, hPt]; omega))))))
    · have hs : slOk cols least = true := by (by_cases h9 : slOk cols least = true; exact h9; rw [if_neg h9] at h1; simp at h1)
      have hi : inB fa 0 10000 = true := by simpa using h2
      refine Ok.skip ?_; refine kS ?_; refine kR ?_; refine oA rfl rfl ?_; refine oN ?_
      refine Ok.ret ⟨.inr rfl, ?_⟩
      exact back_flat rfl (congrArg (AV.int .i64) (by rw [if_pos hs, if_pos hi])) rfl (by rw [← hW]; exact (by (try dsimp only); repeat (first | exact hG | apply Grow.new | (refine Grow.put ?_ _ (by first | omega | (simp only [hNw, hPt]; omega))))))
def reachE (cols : List (List Bed)) (least fa : Int) : Int := if slOk cols least = true then (if inB fa 0 10000 = true then (if belowB cols.length (cols.headD []).length least (prC cols fa) = true then 10 else 0) else 2) else 1
theorem c74 (m : Nat) (cv : AV) (cols : List (List Bed)) (least fa : Int) (H : Heap) (hM : Mat H cv cols) : RR (m + 210) (.fn 74 [.agg [cv, I least], I fa]) H = some (I (reachE cols least fa), H) := by
  refine (R_fn _ _ _ _ _).trans ?_; refine fn_ok Try.func74 rfl rfl (by kernel_rfl) (by kernel_rfl) ?_
  obtain ⟨W, hW, hg, hN, hE, hG⟩ := wOf H
  rw [← hW]
  have pc : cv.plain = true := by obtain ⟨vs, hR, _, _⟩ := hM; exact lpl hR.len
  refine kS ?_; refine kR ?_; refine OkO.box rfl rfl ?_; refine oA rfl rfl ?_; refine oN ?_; refine kS ?_; refine kS ?_; refine kR ?_; refine oL rfl rfl (qlg7 2) ?_; refine oM rfl rfl ?_; refine oV rfl rfl rfl rfl rfl (c76 (m + 200) cv cols least fa _ (hM.ext (hE _ (by (try dsimp only); repeat (first | exact hG | apply Grow.new | (refine Grow.put ?_ _ (by first | omega | (simp only [hNw, hPt]; omega)))))))) ?_; refine oA rfl rfl ?_; refine oN ?_; refine kS ?_; refine kR ?_; refine oM rfl rfl ?_; refine OkO.bin rfl rfl rfl (bin_neq _ _) ?_; refine oN ?_
  refine Ok.cond rfl (fun h1 => ?_) (fun h1 => ?_)
  · have hr : reachE cols least fa = (if slOk cols least = true then (if inB fa 0 10000 = true then 0 else 2) else 1) := by (unfold reachE; by_cases a9 : slOk cols least = true); (· rw [if_pos a9, if_pos a9]; by_cases b9 : inB fa 0 10000 = true; (rw [if_pos a9, if_pos b9] at h1; simp at h1); (rw [if_neg b9, if_neg b9])); (· rw [if_neg a9, if_neg a9])
    refine kS ?_; refine kR ?_; refine oM rfl rfl ?_; refine oA rfl rfl ?_; refine oN ?_
    refine Ok.ret ⟨.inr rfl, ?_⟩
    exact back_flat rfl (congrArg (AV.int .i64) hr.symm) rfl (by rw [← hW]; exact (by (try dsimp only); repeat (first | exact hG | apply Grow.new | (refine Grow.put ?_ _ (by first | omega | (simp only [hNw, hPt]; omega))))))
  · have hs : slOk cols least = true := by (by_cases h9 : slOk cols least = true; exact h9; rw [if_neg h9] at h1; simp at h1)
    have hi : inB fa 0 10000 = true := by (rw [if_pos hs] at h1; by_cases h9 : inB fa 0 10000 = true; exact h9; rw [if_neg h9] at h1; simp at h1)
    have hif : 0 ≤ fa ∧ fa ≤ 10000 := by simpa [inB] using hi
    have hsf := slOk_facts hs
    refine Ok.skip ?_; refine kS ?_; refine kS ?_; refine kR ?_; refine oL rfl rfl (qlg7 2) ?_; refine oM rfl rfl ?_; refine oV rfl rfl rfl rfl rfl (c70 m (cols.headD []).length cv cols least fa _ (hM.ext (hE _ (by (try dsimp only); repeat (first | exact hG | apply Grow.new | (refine Grow.put ?_ _ (by first | omega | (simp only [hNw, hPt]; omega))))))) (lens_of hs) (by omega) (by omega) (by omega) (bedsOk_of hs) hif) ?_; refine oN ?_
    refine Ok.cond rfl (fun h2 => ?_) (fun h2 => ?_)
    · refine kS ?_
      refine kR ?_; refine oA rfl rfl ?_; refine oN ?_
      refine Ok.ret ⟨.inr rfl, ?_⟩
      exact back_flat rfl (congrArg (AV.int .i64) (by unfold reachE; rw [if_pos hs, if_pos hi, if_pos h2])) rfl (by rw [← hW]; exact (by (try dsimp only); repeat (first | exact hG | apply Grow.new | (refine Grow.put ?_ _ (by first | omega | (simp only [hNw, hPt]; omega))))))
    · refine Ok.skip ?_
      refine kS ?_; refine kR ?_; refine oA rfl rfl ?_; refine oN ?_
      refine Ok.ret ⟨.inr rfl, ?_⟩
      exact back_flat rfl (congrArg (AV.int .i64) (by unfold reachE; rw [if_pos hs, if_pos hi, if_neg (by rw [h2]; simp)])) rfl (by rw [← hW]; exact (by (try dsimp only); repeat (first | exact hG | apply Grow.new | (refine Grow.put ?_ _ (by first | omega | (simp only [hNw, hPt]; omega))))))
end
end Go.Ev

set_option maxRecDepth 100000
set_option linter.unusedSimpArgs false
set_option linter.unusedVariables false
namespace Go.Ev
open Go Go.Proofs
noncomputable section
/-- What Worst says of a slope. -/
def WorstIs (cols : List (List Bed)) (least e z : Int) : Prop := (e = 0 ∧ ∃ fr us, LowAt cols (cols.headD []).length least z fr us) ∨ (e = 7 ∧ z = 0 ∧ NoneAt cols (cols.headD []).length least)
theorem worst_below {cols : List (List Bed)} {least e z fa : Int} (hok : BedsOk cols) (h : WorstIs cols least e z) (hf : 0 ≤ fa ∧ fa ≤ 10000) : belowB cols.length (cols.headD []).length least (prC cols fa) = true ↔ e = 0 ∧ z < fa := by
  rw [belowB_true]
  constructor
  · rintro ⟨fr, us, hs, hw⟩
    obtain ⟨h1, h2⟩ := (below_iff hok hf fr us).1 hw
    rcases h with ⟨he, fr9, us9, hl⟩ | ⟨he, _, hn⟩
    · have := hl.2.2.2 fr us hs h1
      exact ⟨he, by omega⟩
    · have := hn fr us hs
      omega
  · rintro ⟨he, hz⟩
    rcases h with ⟨_, fr, us, hl⟩ | ⟨h7, _⟩
    · exact ⟨fr, us, hl.1, (below_iff hok hf fr us).2 ⟨hl.2.1, by rw [hl.2.2.1]; exact hz⟩⟩
    · omega
/-- Is a slope with so much more water below a factor? -/
def wetB (cols : List (List Bed)) (least fa w : Int) : Bool := belowB cols.length (cols.headD []).length least (prC (wetS w cols) fa)
end
end Go.Ev

set_option maxRecDepth 100000
set_option linter.unusedSimpArgs false
set_option linter.unusedVariables false
namespace Go.Ev
open Go Go.Proofs
noncomputable section
end
end Go.Ev

set_option maxRecDepth 100000
set_option linter.unusedSimpArgs false
set_option linter.unusedVariables false
namespace Go.Ev
open Go Go.Proofs
noncomputable section
def mapK (f : Bed → Bed) (c : List Bed) (k : Nat) : List Bed := (c.take k).map f ++ c.drop k
def setDr (d : Int) (b : Bed) : Bed := { b with dr := d }
def I16 (d : Int) : AV := .int .i16 d
section
open Go.ChangeShapes Go.WideShapes Go.RowKit
variable {H0 : Type} {enc : TypeId × Value → H0} {w : World} {base n : Nat} {sp : Nat → Bool} {hd : Bool}
end
end
end Go.Ev

set_option maxRecDepth 100000
set_option linter.unusedSimpArgs false
set_option linter.unusedVariables false
namespace Go.Ev
open Go Go.Proofs
noncomputable section
/-- One number of a bed changed for the better. -/
def chg (w n : Int) (b : Bed) : Bed :=
  if w % 5 = 0 then { b with fl := min b.fh (b.fl + n) } else if w % 5 = 1 then { b with cl := min b.ch (b.cl + n) } else if w % 5 = 2 then { b with dr := max (-100000) (b.dr - n) } else if w % 5 = 3 then { b with wh := max b.wl (b.wh - n) } else { b with fh := max b.fl (b.fh - n) }
def Better (p : Prop) (b b' : Bed) : Prop := b'.dr ≤ b.dr ∧ weak b ≤ weak b' ∧ (p → b'.dr = b.dr ∧ strong b' ≤ strong b)
theorem Better.refl (p : Prop) (b : Bed) : Better p b b := ⟨Int.le_refl _, Int.le_refl _, fun _ => ⟨rfl, Int.le_refl _⟩⟩
/-- A slope with one bed changed. -/
def setAt (cols : List (List Bed)) (i k : Nat) (b' : Bed) : List (List Bed) := cols.set i ((cols.getD i []).set k b')
end
end Go.Ev

set_option linter.unusedVariables false
namespace Go.Ev
open Go Go.Proofs Go.ChangeShapes Go.WideShapes Go.RowKit
variable {H : Type} {enc : TypeId × Value → H} {P : Program} {w : World} {base : Nat} {spare : Nat → Bool} {held : Bool}
theorem trodAll_mk6 {t0 t1 t2 t3 t4 t5 : TypeId} {v0 v1 v2 v3 v4 v5 : Value} {d0 d1 d2 d3 d4 d5 : DataW H} {p0 p1 p2 p3 p4 p5 : List MemPlace} (h0 : DataW.Trod enc P w base spare held t0 v0 d0 p0) (h1 : DataW.Trod enc P w base spare held t1 v1 d1 p1)
    (h2 : DataW.Trod enc P w base spare held t2 v2 d2 p2) (h3 : DataW.Trod enc P w base spare held t3 v3 d3 p3) (h4 : DataW.Trod enc P w base spare held t4 v4 d4 p4) (h5 : DataW.Trod enc P w base spare held t5 v5 d5 p5) :
    DataW.TrodAll enc P w base spare held [t0, t1, t2, t3, t4, t5] [v0, v1, v2, v3, v4, v5] [d0, d1, d2, d3, d4, d5] (p0 ++ (p1 ++ (p2 ++ (p3 ++ (p4 ++ p5))))) :=
  ⟨p0, p1 ++ (p2 ++ (p3 ++ (p4 ++ p5))), h0, ⟨p1, p2 ++ (p3 ++ (p4 ++ p5)), h1, trodAll_mk4 h2 h3 h4 h5, rfl⟩, rfl⟩
end Go.Ev

set_option maxRecDepth 100000
set_option linter.unusedSimpArgs false
set_option linter.unusedVariables false
namespace Go.Ev
open Go Go.Proofs
noncomputable section
/-- Is a column one of a surface below 0 that was looked at so far? -/
def Hit (pr : Nat → Nat → Int) (n : Nat) (least : Int) (i c k col : Nat) : Prop :=
  ∃ la a j : Nat, ((la < i ∧ (a : Int) + least ≤ (la : Int) + 1) ∨ (la = i ∧ (a < c ∨ (a = c ∧ j < k)))) ∧ j < n ∧ a ≤ la ∧ sumR pr n la (la - a) j < 0 ∧ a ≤ col ∧ col ≤ la
def MvOk (pr : Nat → Nat → Int) (N n : Nat) (least : Int) (i c k : Nat) (mv : List Bool) : Prop := mv.length = N ∧ ∀ col, col < N → (mv.getD col false = true ↔ Hit pr n least i c k col)
/-- From a place on, so many are set. -/
def setR (mv : List Bool) (c : Nat) : Nat → List Bool
  | 0 => mv
  | q + 1 => (setR mv c q).set (c + q) true
theorem Hit.step {pr : Nat → Nat → Int} {n : Nat} {least : Int} {i c k col : Nat} (hk : k < n) (hci : c ≤ i) : Hit pr n least i c (k + 1) col ↔ Hit pr n least i c k col ∨ (sumR pr n i (i - c) k < 0 ∧ c ≤ col ∧ col ≤ i) := by
  constructor
  · rintro ⟨la, a, j, h1, h2, h3, h4, h5, h6⟩
    by_cases e : la = i ∧ a = c ∧ j = k
    · obtain ⟨rfl, rfl, rfl⟩ := e
      exact .inr ⟨h4, h5, h6⟩
    · exact .inl ⟨la, a, j, by omega, h2, h3, h4, h5, h6⟩
  · rintro (⟨la, a, j, h1, h2⟩ | ⟨h1, h2, h3⟩)
    · exact ⟨la, a, j, by omega, h2⟩
    · exact ⟨i, c, k, .inr ⟨rfl, .inr ⟨rfl, by omega⟩⟩, hk, hci, h1, h2, h3⟩
theorem Hit.col {pr : Nat → Nat → Int} {n : Nat} {least : Int} {i c col : Nat} : Hit pr n least i c n col ↔ Hit pr n least i (c + 1) 0 col := by
  constructor
  · rintro ⟨la, a, j, h1, h2, h3⟩
    exact ⟨la, a, j, by omega, h2, h3⟩
  · rintro ⟨la, a, j, h1, h2, h3⟩
    exact ⟨la, a, j, by omega, h2, h3⟩
theorem Hit.last {pr : Nat → Nat → Int} {n C : Nat} {least : Int} {i col : Nat} (hC : (C : Int) = max ((i : Int) - least + 2) 0) (hl : 1 ≤ least) : Hit pr n least i C 0 col ↔ Hit pr n least (i + 1) 0 0 col := by
  constructor
  · rintro ⟨la, a, j, h1, h2, h3⟩
    exact ⟨la, a, j, by omega, h2, h3⟩
  · rintro ⟨la, a, j, h1, h2, h3⟩
    exact ⟨la, a, j, by omega, h2, h3⟩
/-- The columns of surfaces below 0. -/
def HitS (pr : Nat → Nat → Int) (N n : Nat) (least : Int) (col : Nat) : Prop := ∃ (fr : Nat) (us : List Nat), Surf N n least fr us ∧ walkSum pr fr us < 0 ∧ fr ≤ col ∧ col < fr + us.length
noncomputable def as82 : Code := match Try.f82.body.bind rangeOf with | some r => r.1 | none => .skip
noncomputable def bd82 : Code := match Try.f82.body.bind rangeOf with | some r => r.2 | none => .skip
structure BelJ (X : Heap) (N Pq : Nat) (pr : Nat → Nat → Int) (Nc n : Nat) (least : Int) (last : Nat) (T0 : Tr AV) (c k : Nat) (G : Heap) : Prop where
  nx : X.next ≤ G.next ∧ Pq + 5 ≤ G.next
  get : ∀ j, j < Pq + 3 → j ≠ N + 1 → G.get j = X.get j
  b3 : G.get (Pq + 3) = some .defd
  b4 : G.get (Pq + 4) = some (.loop .ready none T0 [30] as82 bd82 (Pq + 3))
  mv : ∃ mv, G.get (N + 1) = some (.cells (mv.map AV.bool) 4) ∧ MvOk pr Nc n least last c k mv
theorem BelJ.to {X : Heap} {N Pq : Nat} {pr : Nat → Nat → Int} {Nc n : Nat} {least : Int} {last : Nat} {T0 : Tr AV} {c k : Nat} {G G' : Heap} (h : BelJ X N Pq pr Nc n least last T0 c k G) (hN : N + 1 < Pq + 3) (e : Ext G G') : BelJ X N Pq pr Nc n least last T0 c k G' := by
  have hn := h.nx
  have hn2 := e.next
  obtain ⟨mv, h1, h2⟩ := h.mv
  exact ⟨⟨by omega, by omega⟩, fun j a1 a2 => by rw [e.get _ (by omega)]; exact h.get j a1 a2, by rw [e.get _ (by omega)]; exact h.b3, by rw [e.get _ (by omega)]; exact h.b4, ⟨mv, by rw [e.get _ (by omega)]; exact h1, h2⟩⟩
end
end Go.Ev

set_option maxRecDepth 100000
set_option linter.unusedSimpArgs false
set_option linter.unusedVariables false
namespace Go.Ev
open Go Go.Proofs
noncomputable section
def mvK (mv : List Bool) (k : Nat) : List Nat := (List.range k).filter fun c => mv.getD c false
theorem Row.keep {H G : Heap} {v : AV} {sz : Nat} {l : List (List AV)} (h : Row H v sz l) (hn : H.next ≤ G.next) (hg : ∀ j, j < H.next → G.get j = H.get j) : Row G v sz l := h.ext ⟨hn, hg⟩
end
end Go.Ev

set_option maxRecDepth 100000
set_option linter.unusedSimpArgs false
set_option linter.unusedVariables false
namespace Go.Ev
open Go Go.Proofs
noncomputable section
def costS (fa : Int) (b : Bed) : Int := 1000 * strong b - fa * b.dr
def prS (cols : List (List Bed)) (fa : Int) (c k : Nat) : Int := costS fa (bedAt cols c k)
def facS (cols : List (List Bed)) (fr : Nat) (us : List Nat) : Int := factorOf (sumB strong (bedsW cols fr us)) (drive (bedsW cols fr us))
theorem walkS (cols : List (List Bed)) (fa : Int) : ∀ (us : List Nat) (c : Nat), walkSum (prS cols fa) c us = 1000 * sumB strong (bedsW cols c us) - fa * drive (bedsW cols c us)
  | [], _ => by simp [walkSum, bedsW, sumB, drive]
  | k :: l, c => by
    rw [walkSum, walkS cols fa l (c + 1), bedsW]
    simp only [prS, costS, sumB, drive, List.map_cons, List.sum_cons, Int.mul_add]
    omega
theorem weak_strong {b : Bed} (hb : b.ok = true) : weak b ≤ strong b := by
  have hl := Bed.ok_lim hb
  unfold Bed.lim at hl
  unfold weak strong
  exact holds_mono (by omega) (by omega) (by omega)
theorem sum_ws : ∀ (L : List Bed), (∀ b ∈ L, b.ok = true) → sumB weak L ≤ sumB strong L
  | [], _ => Int.le_refl _
  | b :: L, h => by
    have h1 := sum_ws L fun x hx => h x (by simp [hx])
    have h2 := weak_strong (h b (by simp))
    unfold sumB at h1 ⊢
    simp only [List.map_cons, List.sum_cons]
    omega
theorem hit_weak {cols : List (List Bed)} {fa least : Int} {n col : Nat} (hok : BedsOk cols) (h : HitS (prS cols fa) cols.length n least col) : HitS (prC cols fa) cols.length n least col := by
  obtain ⟨fr, us, hs, hw, h1, h2⟩ := h
  refine ⟨fr, us, hs, ?_, h1, h2⟩
  have h3 := sum_ws _ fun b hb => bedsW_ok hok us fr b hb
  rw [walkS] at hw
  rw [walkC]
  omega
theorem Mine.low {k0 k1 : Nat} {G : Heap} {v : AV} {e : TypeId} {sz : Nat} {cs : List AV} (h : Mine k1 G v e sz cs) (hk : k0 ≤ k1) : Mine k0 G v e sz cs := by
  rcases h with h | ⟨b, n, a1, a2, a3, a4, a5⟩
  · exact .inl h
  · exact .inr ⟨b, n, a1, a2, a3, by omega, a5⟩
theorem Mine.backT {H G H' : Heap} {v V : AV} {e : TypeId} {sz : Nat} {cs : List AV} (hm : Mine H.next G v e sz cs) (r : (H' = H ∧ V.flat = true) ∨ ((∀ n, H'.get n = G.get n) ∧ H'.next = G.next)) (hv : V.flat = true → v.flat = true) : Mine H.next H' v e sz cs := by
  rcases hm with h | ⟨b, n, a1, a2, a3, a4, a5⟩
  · exact .inl h
  · rcases r with ⟨_, hf⟩ | ⟨p2, p3⟩
    · have := hv hf
      rw [a1] at this
      cases this
    · exact .inr ⟨b, n, a1, by rw [p2 b]; exact a2, a3, a4, by rw [p3]; exact a5⟩
/-- The columns that a factor's walk meets. -/
def MovesAt (pr : Nat → Nat → Int) (N n : Nat) (least : Int) (rs : List Nat) : Prop := (∀ col, col ∈ rs ↔ col < N ∧ HitS pr N n least col) ∧ rs.Pairwise (· < ·)
theorem MovesAt.sub {cols : List (List Bed)} {fa least : Int} {n : Nat} {aa bb : List Nat} (hok : BedsOk cols) (ha : MovesAt (prS cols fa) cols.length n least aa) (hb : MovesAt (prC cols fa) cols.length n least bb) {x : Nat} (h : x ∈ aa) : x ∈ bb :=
  (hb.1 x).2 ⟨((ha.1 x).1 h).1, hit_weak hok ((ha.1 x).1 h).2⟩
theorem sort_len {N : Nat} : ∀ (rs : List Nat) (lo : Nat), rs.Pairwise (· < ·) → (∀ x ∈ rs, lo ≤ x ∧ x < N) → rs.length ≤ N - lo
  | [], _, _, _ => Nat.zero_le _
  | a :: l, lo, h, hb => by
    have h1 := hb a (by simp)
    obtain ⟨h2, h3⟩ := List.pairwise_cons.1 h
    have := sort_len l (a + 1) h3 fun x hx => ⟨h2 x hx, (hb x (by simp [hx])).2⟩
    simp only [List.length_cons]
    omega
theorem MovesAt.len {pr : Nat → Nat → Int} {N n : Nat} {least : Int} {rs : List Nat} (h : MovesAt pr N n least rs) : rs.length ≤ N := by
  have := sort_len rs 0 h.2 (fun x hx => ⟨Nat.zero_le _, ((h.1 x).1 hx).1⟩)
  omega
end
end Go.Ev

set_option maxRecDepth 100000
set_option linter.unusedSimpArgs false
set_option linter.unusedVariables false
namespace Go.Ev
open Go Go.Proofs
noncomputable section
end
end Go.Ev

set_option maxRecDepth 100000
set_option linter.unusedSimpArgs false
set_option linter.unusedVariables false
namespace Go.Ev
open Go Go.Proofs
noncomputable section
def ints (us : List Nat) : List AV := us.map fun (k : Nat) => I (k : Int)
theorem atoms_nat : ∀ (us : List Nat), atoms (us.map fun (k : Nat) => I (k : Int)) = true
  | [] => rfl
  | _ :: l => atoms_nat l
/-- What is appended to a slice of one's own, be it nothing. -/
theorem Mine.app3 {P : Program} {W G : Heap} {k0 : Nat} {t u e : TypeId} {sz by_ n : Nat} {v x : AV} {cs new : List AV} (h : Mine k0 G v e sz cs) (hg : Grow W G) (hk : W.next ≤ k0) (hk2 : k0 ≤ G.next) (hu : isSlice P u = true) (ht : elemTI P t = some (e, sz, by_))
    (hx : elems G x sz = some new) (hn : lenOf x = some n) (hl : new.length = n * sz) (hb : (cs.length + n) * (by_ + 1) ≤ 4294967296) (hz : 0 < sz) (ha : atoms new = true) :
    ∃ v' G', builtinF P G .append [t, u] [v, x] = some (.val v' G') ∧ Mine k0 G' v' e sz (cs ++ new) ∧ Grow W G' ∧ G.next ≤ G'.next ∧ (∀ j, j < G.next → (∀ m, v ≠ .opn j m) → G'.get j = G.get j) := by
  by_cases h0 : 0 < n
  · obtain ⟨v', G', h1, h2, h3, _, h5, h6, _⟩ := h.app2 hg hk hk2 hu ht hx hn hl hb hz h0 ha
    exact ⟨v', G', h1, h2, h3, by omega, h5⟩
  · have hn0 : n = 0 := by omega
    subst hn0
    have hnew : new = [] := List.eq_nil_of_length_eq_zero (by omega)
    subst hnew
    refine ⟨v, G, ?_, by rw [List.append_nil]; exact h, hg, Nat.le_refl _, fun _ _ _ => rfl⟩
    obtain ⟨m, hm, hml⟩ := h.len
    have hb' : (m + 0) * (by_ + 1) ≤ 4294967296 := by
      have h1 : m ≤ cs.length := by rw [hml]; exact Nat.le_mul_of_pos_right m hz
      exact Nat.le_trans (Nat.mul_le_mul_right _ (by omega)) hb
    have e1 : builtinF P G .append [t, u] [v, x] = (append P G t v x).map fun (v, H) => .val v H := by
      show (appendT P G t u v x).map _ = _
      unfold appendT
      unfold isSlice at hu
      split at hu
      · rename_i e; rw [e]
      · cases hu
    rw [e1, append_go ht hx hn hm hb' hz ha]
    rcases h with ⟨rfl, rfl⟩ | ⟨b, k, rfl, hg1, hl1, hb1, hb2⟩
    · rfl
    · unfold append.appendGo
      dsimp only
      rw [hg1]
      dsimp only
      rw [show Nat.beq sz sz = true from by simp, show Nat.beq e e = true from by simp, show Nat.beq cs.length (k * sz) = true from by simp [hl1]]
      rfl
/-- A copy of some numbers, as it is before one more is put behind it. -/
def Lead (G : Heap) (b : Nat) (v : AV) (G' : Heap) (us : List Nat) : Prop :=
  (us = [] ∧ v = .slice G.next 0 0 0 ∧ G' = ((G.new (.cells [] 3)).new (.cells [I (b : Int)] 3)).put G.next (.cells [] 3)) ∨ (us ≠ [] ∧ v = .opn (G.next + 2) us.length ∧ G' = ((G.new (.cells [] 3)).new (.cells [I (b : Int)] 3)).new (.opn (ints us) 3 1))
theorem Lead.old {G G' : Heap} {b : Nat} {v : AV} {us : List Nat} (h : Lead G b v G' us) {j : Nat} (hj : j < G.next) : G'.get j = G.get j := by
  rcases h with ⟨_, _, rfl⟩ | ⟨_, _, rfl⟩
  · rw [gpo _ _ _ _ (by omega), gno _ _ _ (by simp; omega), gno _ _ _ (by omega)]
  · rw [gno _ _ _ (by simp; omega), gno _ _ _ (by simp; omega), gno _ _ _ (by omega)]
theorem lit_copy {G : Heap} {x : AV} {us : List Nat} {b : Nat} (hr : Row ((G.new (.cells [] 3)).new (.cells [I (b : Int)] 3)) x 1 (us.map fun (k : Nat) => [I (k : Int)])) (hl : us.length ≤ 1000) :
    ∃ v' G', builtinF Try.prog ((G.new (.cells [] 3)).new (.cells [I (b : Int)] 3)) .append [25, 25] [.slice G.next 0 0 0, x] = some (.val v' G') ∧ Lead G b v' G' us := by
  have hs : ∀ y ∈ us.map (fun (k : Nat) => [I (k : Int)]), y.length = 1 := fun y hy => by
    obtain ⟨k, _, rfl⟩ := List.mem_map.1 hy
    rfl
  have e1 : builtinF Try.prog ((G.new (.cells [] 3)).new (.cells [I (b : Int)] 3)) .append [25, 25] [.slice G.next 0 0 0, x] = (append Try.prog ((G.new (.cells [] 3)).new (.cells [I (b : Int)] 3)) 25 (.slice G.next 0 0 0) x).map fun (v, H) => .val v H := by
    show (appendT Try.prog _ 25 25 _ x).map _ = _
    rfl
  have hlx : lenOf x = some us.length := by simpa using hr.len
  have e2 := append_go (P := Try.prog) (t := 25) (e := 3) (sz := 1) (by_ := 8) (s := .slice G.next 0 0 0) (m := 0) (n := us.length) (by kernel_rfl) (hr.elems hs) hlx rfl (by omega) (by omega) (by rw [flatN]; exact atoms_nat _)
  rw [flatN] at e2
  cases us with
  | nil =>
    refine ⟨.slice G.next 0 0 0, ((G.new (.cells [] 3)).new (.cells [I (b : Int)] 3)).put G.next (.cells [] 3), ?_, .inl ⟨rfl, rfl, rfl⟩⟩
    rw [e1, e2]
    unfold append.appendGo
    have e3 : ((G.new (.cells [] 3)).new (.cells [I (b : Int)] 3)).get G.next = some (.cells [] 3) := by rw [gno _ _ _ (by simp)]; exact gn0 _ _
    simp [e3, spl]
  | cons k l =>
    refine ⟨.opn (G.next + 2) (k :: l).length, _, ?_, .inr ⟨by simp, rfl, rfl⟩⟩
    rw [e1, e2]
    unfold append.appendGo
    dsimp only
    rw [show Nat.ble (0 + (k :: l).length) 0 = false from by cases h : Nat.ble (0 + (k :: l).length) 0 with | false => rfl | true => (have := Nat.le_of_ble_eq_true h; simp at this)]
    dsimp only
    rw [show elems ((G.new (.cells [] 3)).new (.cells [I (b : Int)] 3)) (.slice G.next 0 0 0) 1 = some [] from rfl]
    simp [ints]
theorem lead_app {W G G' : Heap} {v : AV} {us : List Nat} {b : Nat} (h : Lead G b v G' us) (hg : Grow W G) (hl : us.length ≤ 1000) :
    ∃ v2 G2, builtinF Try.prog G' .append [25, 25] [v, .slice (G.next + 1) 0 1 1] = some (.val v2 G2) ∧ Mine G.next G2 v2 3 1 (ints (us ++ [b])) ∧ Grow W G2 ∧ G.next ≤ G2.next ∧ (∃ bk mm, v2 = .opn bk mm) ∧ ∀ j, j < G.next → G2.get j = G.get j := by
  have hrow : G'.get (G.next + 1) = some (.cells [I (b : Int)] 3) → G.next + 1 < G'.next → elems G' (.slice (G.next + 1) 0 1 1) 1 = some [I (b : Int)] := fun h1 h2 => by
    have hr : Row G' (.slice (G.next + 1) 0 1 1) 1 [[I (b : Int)]] := ⟨rfl, fun i x hx => by
      cases i with
      | zero =>
        simp at hx
        subst hx
        exact ⟨G.next + 1, 0, [I (b : Int)], rfl, by rw [h1]; rfl, rfl, h2⟩
      | succ i => simp at hx⟩
    exact hr.elems (fun y hy => by simp at hy; rw [hy]; rfl)
  rcases h with ⟨rfl, rfl, rfl⟩ | ⟨hne, rfl, rfl⟩
  · have hx := hrow (by rw [gpo _ _ _ _ (by omega)]; exact gn1 G _ _) (by simp)
    have e1 : builtinF Try.prog (((G.new (.cells [] 3)).new (.cells [I (b : Int)] 3)).put G.next (.cells [] 3)) .append [25, 25] [.slice G.next 0 0 0, .slice (G.next + 1) 0 1 1] = (append Try.prog (((G.new (.cells [] 3)).new (.cells [I (b : Int)] 3)).put G.next (.cells [] 3)) 25 (.slice G.next 0 0 0) (.slice (G.next + 1) 0 1 1)).map fun (v, H) => .val v H := by
      show (appendT Try.prog _ 25 25 _ _).map _ = _
      rfl
    have e2 := append_go (P := Try.prog) (t := 25) (e := 3) (sz := 1) (by_ := 8) (s := .slice G.next 0 0 0) (m := 0) (n := 1) (by kernel_rfl) hx rfl rfl (by simp) (by omega) rfl
    refine ⟨.opn (G.next + 2) 1, ((((G.new (.cells [] 3)).new (.cells [I (b : Int)] 3)).put G.next (.cells [] 3)).new (.opn [I (b : Int)] 3 1)), ?_, .inr ⟨G.next + 2, 1, rfl, gn0 (((G.new (.cells [] 3)).new (.cells [I (b : Int)] 3)).put G.next (.cells [] 3)) _, rfl, by omega, by simp⟩, (((hg.new _).new _).put _ (by have := hg.next; omega)).new _, by simp; omega, ⟨_, _, rfl⟩, fun j hj => ?_⟩
    · rw [e1, e2]
      unfold append.appendGo
      simp [elems, lenOf]
    · rw [gno _ _ _ (by simp; omega), gpo _ _ _ _ (by omega), gno _ _ _ (by simp; omega), gno _ _ _ (by omega)]
  · have hx := hrow (by rw [gno _ _ _ (by simp)]; exact gn1 G _ _) (by simp only [hNw]; omega)
    have hm : Mine G.next (((G.new (.cells [] 3)).new (.cells [I (b : Int)] 3)).new (.opn (ints us) 3 1)) (.opn (G.next + 2) us.length) 3 1 (ints us) := .inr ⟨G.next + 2, us.length, rfl, gn0 ((G.new (.cells [] 3)).new (.cells [I (b : Int)] 3)) _, by simp [ints], by omega, by simp⟩
    obtain ⟨v2, G2, h1, h2, h3, _, h5, h6, mm9, h7⟩ := hm.app2 (P := Try.prog) (W := W) (t := 25) (u := 25) (by_ := 8) (n := 1) (new := [I (b : Int)]) (((hg.new _).new _).new _) hg.next (by simp; omega) (by kernel_rfl) (by kernel_rfl) hx rfl rfl (by simp only [ints, List.length_map]; omega) (by omega) (by omega) rfl
    refine ⟨v2, G2, h1, by (have e : ints (us ++ [b]) = ints us ++ [I (b : Int)] := by simp [ints]); rw [e]; exact h2, h3, by rw [h6]; simp; omega, ⟨_, mm9, h7⟩, fun j hj => ?_⟩
    rw [h5 j (by simp; omega) (fun m e => by cases e; omega), gno _ _ _ (by simp; omega), gno _ _ _ (by simp; omega), gno _ _ _ (by omega)]
/-- Surfaces that begin at a column: a slice of one's own. -/
def cellsOf (fr : Nat) (bvs : List AV) : List AV := (bvs.map fun x => [I (fr : Int), x]).flatten
def Srf (k0 : Nat) (G : Heap) (v : AV) (fr : Nat) (bvs : List AV) (L : List (List Nat)) : Prop :=
  Mine k0 G v 27 2 (cellsOf fr bvs) ∧ bvs.length = L.length ∧ ∀ (j : Nat) x u, bvs[j]? = some x → L[j]? = some u → Mine 0 G x 3 1 (ints u)
theorem cellsOf_len (fr : Nat) (bvs : List AV) : (cellsOf fr bvs).length = bvs.length * 2 := by
  unfold cellsOf
  rw [flatten_len _ 2 (fun x hx => by obtain ⟨y, _, rfl⟩ := List.mem_map.1 hx; rfl), List.length_map]
theorem cellsOf_app (fr : Nat) (a c : List AV) : cellsOf fr (a ++ c) = cellsOf fr a ++ cellsOf fr c := by simp [cellsOf]
theorem Mine.off {k0 : Nat} {G G' : Heap} {x v : AV} {e e' : TypeId} {sz sz' : Nat} {cs cs' : List AV} (h : Mine 0 G x e sz cs) (hv : Mine k0 G v e' sz' cs') (hne : sz ≠ sz') (hn : G.next ≤ G'.next) (hg : ∀ j, j < G.next → (∀ m, v ≠ .opn j m) → G'.get j = G.get j) : Mine 0 G' x e sz cs := by
  rcases h with h | ⟨b, n, a1, a2, a3, a4, a5⟩
  · exact .inl h
  · refine .inr ⟨b, n, a1, ?_, a3, a4, by omega⟩
    rw [hg b a5 ?_]
    · exact a2
    · intro m hm
      rcases hv with ⟨h, _⟩ | ⟨b2, n2, c1, c2, _⟩
      · rw [h] at hm; cases hm
      · rw [c1] at hm
        cases hm
        rw [a2] at c2
        cases c2
        exact hne rfl
theorem atoms_app : ∀ (a c : List AV), atoms a = true → atoms c = true → atoms (a ++ c) = true
  | [], _, _, h => h
  | x :: l, c, h1, h2 => by
    rw [List.cons_append, atoms]
    rw [atoms] at h1
    cases hx : x.atom with
    | false => rw [hx] at h1; cases h1
    | true =>
      rw [hx] at h1
      exact atoms_app l c h1 h2
theorem Srf.atoms {k0 : Nat} {G : Heap} {v : AV} {fr : Nat} {bvs : List AV} {L : List (List Nat)} (h : Srf k0 G v fr bvs L) : Go.Ev.atoms (cellsOf fr bvs) = true := by
  have key : ∀ (l : List AV), (∀ x ∈ l, x.atom = true) → Go.Ev.atoms (cellsOf fr l) = true := by
    intro l
    induction l with
    | nil => intro _; rfl
    | cons a l ih =>
      intro hl
      have e : cellsOf fr (a :: l) = [I (fr : Int), a] ++ cellsOf fr l := rfl
      rw [e]
      refine atoms_app _ _ ?_ (ih fun x hx => hl x (by simp [hx]))
      rw [Go.Ev.atoms, Go.Ev.atoms, hl a (by simp)]
      rfl
  refine key _ fun x hx => ?_
  obtain ⟨j, hj, rfl⟩ := List.getElem_of_mem hx
  exact (h.2.2 j _ _ (List.getElem?_eq_getElem hj) (List.getElem?_eq_getElem (by have := h.2.1; omega))).one.2
theorem Srf.add {k0 k1 : Nat} {H9 G3 : Heap} {v v9 v3 : AV} {fr : Nat} {bvs bvs9 : List AV} {L L9 : List (List Nat)} (h : Srf k0 H9 v fr bvs L) (h9 : Srf k1 H9 v9 fr bvs9 L9) (hm : Mine k0 G3 v3 27 2 (cellsOf fr bvs ++ cellsOf fr bvs9)) (hn : H9.next ≤ G3.next)
    (hg : ∀ j, j < H9.next → (∀ m, v ≠ .opn j m) → G3.get j = H9.get j) : Srf k0 G3 v3 fr (bvs ++ bvs9) (L ++ L9) := by
  refine ⟨by rw [cellsOf_app]; exact hm, by rw [List.length_append, List.length_append, h.2.1, h9.2.1], fun j x u hx hu => ?_⟩
  by_cases hj : j < bvs.length
  · rw [List.getElem?_append_left hj] at hx
    rw [List.getElem?_append_left (by rw [← h.2.1]; exact hj)] at hu
    exact (h.2.2 j x u hx hu).off h.1 (by decide) hn hg
  · rw [List.getElem?_append_right (by omega)] at hx
    rw [List.getElem?_append_right (by rw [← h.2.1]; omega), ← h.2.1] at hu
    exact (h9.2.2 _ x u hx hu).off h.1 (by decide) hn hg
theorem Srf.to {k0 : Nat} {G G' : Heap} {v : AV} {fr : Nat} {bvs : List AV} {L : List (List Nat)} (h : Srf k0 G v fr bvs L) (g : Ext G G') : Srf k0 G' v fr bvs L := ⟨h.1.to g, h.2.1, fun j x u hx hu => (h.2.2 j x u hx hu).to g⟩
theorem Srf.elems {k0 : Nat} {G : Heap} {v : AV} {fr : Nat} {bvs : List AV} {L : List (List Nat)} (h : Srf k0 G v fr bvs L) : elems G v 2 = some (cellsOf fr bvs) ∧ lenOf v = some bvs.length := by
  have hs : ∀ x ∈ bvs.map (fun x => [I (fr : Int), x]), x.length = 2 := fun x hx => by obtain ⟨y, _, rfl⟩ := List.mem_map.1 hx; rfl
  have hr := Mine.row (l := bvs.map fun x => [I (fr : Int), x]) h.1 hs (by omega)
  exact ⟨hr.elems hs, by simpa using hr.len⟩
theorem Srf.back {H G H' : Heap} {v : AV} {fr : Nat} {bvs : List AV} {L : List (List Nat)} (h : Srf H.next G v fr bvs L) (r : (H' = H ∧ v.flat = true) ∨ ((∀ n, H'.get n = G.get n) ∧ H'.next = G.next)) : Srf H.next H' v fr bvs L := by
  rcases r with ⟨e, hf⟩ | ⟨r1, r2⟩
  · have hb : bvs = [] := by
      rcases h.1 with ⟨_, h1⟩ | ⟨b, n, h1, _⟩
      · have := cellsOf_len fr bvs
        rw [h1] at this
        exact List.eq_nil_of_length_eq_zero (by simp at this; omega)
      · rw [h1] at hf; cases hf
    subst hb
    refine ⟨h.1.backT (V := v) (.inl ⟨e, hf⟩) id, h.2.1, fun j x u hx _ => by simp at hx⟩
  · have g : Ext G H' := ⟨by omega, fun j _ => r1 j⟩
    exact h.to g
end
end Go.Ev

