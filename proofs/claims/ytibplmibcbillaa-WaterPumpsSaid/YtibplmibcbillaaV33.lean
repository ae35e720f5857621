/-
  Functions of the program, reckoned by the evaluator: what each answers, and that it leaves what came in as it was (part 33).
-/
import Derived.Test.YtibplmibcbillaaV17
set_option maxRecDepth 100000
set_option linter.unusedSimpArgs false
set_option linter.unusedVariables false
namespace Go.Ev
open Go Go.Proofs
noncomputable section
theorem Row.atom {H : Heap} {v : AV} {sz : Nat} {l : List (List AV)} (h : Row H v sz l) (hl : 0 < l.length) : v.atom = true := by
  obtain ⟨b, off, cs, h1, _⟩ := h.at_ 0 l[0] (by simp [hl])
  cases v <;> first | rfl | (simp [slAt] at h1)
theorem app_lit3 {P : Program} {G : Heap} {t u e el : TypeId} {sz by_ : Nat} {x : AV} {rows : List (List AV)} (hu : isSlice P u = true) (ht : elemTI P t = some (e, sz, by_)) (hr : Row (G.new (.cells [] el)) x sz rows) (hs : ∀ y ∈ rows, y.length = sz)
    (hb : rows.length * (by_ + 1) ≤ 4294967296) (hz : 0 < sz) (ha : atoms rows.flatten = true) (hn : 0 < rows.length) {b n : Nat} (hbn : G.next + 1 = b) (hnn : rows.length = n) :
    ∃ v' G', builtinF P (G.new (.cells [] el)) .append [t, u] [.slice G.next 0 0 0, x] = some (.val v' G') ∧ v' = .opn b n ∧ G'.get b = some (.opn rows.flatten e sz) ∧ G'.next = b + 1 ∧ (∀ j, j < b → G'.get j = (G.new (.cells [] el)).get j) ∧ ∀ W, Grow W G → Grow W G' := by
  subst hbn hnn
  refine ⟨_, _, app_lit2 hu ht hr hs hb hz ha hn, rfl, ?_, rfl, fun j hj => ?_, fun W h => (h.new _).new _⟩
  · rw [show G.next + 1 = (G.new (.cells [] el)).next from rfl, gn0]
  · exact gno _ _ _ (by simp only [hNw]; omega)
theorem storeAt_opn {P : Program} {H : Heap} {t : TypeId} {b off n : Nat} {v : AV} {ag : Bool} {cs l : List AV} {e : TypeId} {sz : Nat} (hs : shape P t = some (ag, n)) (hb : H.get b = some (.opn cs e sz)) (hn : Nat.beq v.cells.length n = true) (hat : atoms v.cells = true)
    (hl : spl cs off v.cells = some l) : storeAt P H t b off v = some (H.put b (.opn l e sz)) := by
  unfold shape at hs
  simp only [Option.map_eq_some_iff, Prod.mk.injEq] at hs
  obtain ⟨ti, h1, h2, h3⟩ := hs
  unfold storeAt
  rw [h1, hb]
  dsimp only
  rw [h3, hn, hat]
  dsimp only
  rw [hl]
  rfl
def setP (cs : List Cell) (k : Nat) (p : Int) : List Cell := cs.set k { cs.getD k default with pump := p }
theorem setP_len {cs : List Cell} {k : Nat} {p : Int} : (setP cs k p).length = cs.length := by simp [setP]
theorem spl_mid (A B C : List AV) (x y : AV) (off : Nat) (ho : off = A.length + B.length) : spl (A ++ (B ++ ([x] ++ C))) off [y] = some (A ++ (B ++ ([y] ++ C))) := by
  subst ho
  unfold spl
  rw [Nat.ble_eq_true_of_le (by simp; omega)]
  dsimp only
  congr 1
  have e1 : A ++ (B ++ ([x] ++ C)) = (A ++ B) ++ ([x] ++ C) := by simp
  have e2 : A ++ (B ++ ([x] ++ C)) = (A ++ B ++ [x]) ++ C := by simp
  have h1 : (A ++ (B ++ ([x] ++ C))).take (A.length + B.length) = A ++ B := by rw [e1]; exact List.take_left' (by simp)
  have h2 : (A ++ (B ++ ([x] ++ C))).drop (A.length + B.length + [y].length) = C := by rw [e2]; exact List.drop_left' (by simp; omega)
  rw [h1, h2]
  simp
theorem atoms_app : ∀ (a b : List AV), atoms (a ++ b) = (atoms a && atoms b)
  | [], b => by simp [atoms]
  | x :: a, b => by
    rw [List.cons_append, atoms, atoms, atoms_app a b]
    cases x.atom <;> rfl
theorem atoms_cells : ∀ cs : List Cell, atoms ((cs.map Cell.c).flatten) = true
  | [] => rfl
  | c :: cs => by rw [List.map_cons, List.flatten_cons, atoms_app, atoms_cells cs]; rfl
theorem spl_pump (cs : List Cell) (k : Nat) (p : Int) (h : k < cs.length) : spl ((cs.map Cell.c).flatten) (k * 7 + 6) (I p).cells = some (((setP cs k p).map Cell.c).flatten) := by
  have hl : ((cs.take k).map Cell.c).flatten.length = k * 7 := by rw [flat_len _ 7 (fun x hx => by simp only [List.mem_map] at hx; obtain ⟨y, _, rfl⟩ := hx; rfl)]; simp; omega
  have e1 : (cs.map Cell.c).flatten = ((cs.take k).map Cell.c).flatten ++ ([I cs[k].lo, I cs[k].hi, I cs[k].cap, I cs[k].keep, I cs[k].pass, I cs[k].to] ++ ([I cs[k].pump] ++ ((cs.drop (k + 1)).map Cell.c).flatten)) := by
    conv => lhs; rw [← List.take_append_drop k cs, List.drop_eq_getElem_cons h, List.map_append, List.flatten_append, List.map_cons, List.flatten_cons]
    rfl
  have e2 : ((setP cs k p).map Cell.c).flatten = ((cs.take k).map Cell.c).flatten ++ ([I cs[k].lo, I cs[k].hi, I cs[k].cap, I cs[k].keep, I cs[k].pass, I cs[k].to] ++ ([I p] ++ ((cs.drop (k + 1)).map Cell.c).flatten)) := by
    unfold setP
    rw [List.set_eq_take_append_cons_drop, if_pos h, List.map_append, List.flatten_append, List.map_cons, List.flatten_cons]
    rw [show cs.getD k default = cs[k] from by simp [h]]
    rfl
  rw [e1, e2]
  exact spl_mid _ _ _ _ _ _ (by rw [hl]; rfl)
theorem c47 (m : Nat) (cv : AV) (cs : List Cell) (g : Gr) (k : Nat) (p : Int) (H : Heap) (hR : Row H cv 7 (cs.map Cell.c)) (hbig : cs.length ≤ 1000) (hk : k < cs.length) : ∃ v H', RR (m + 1) (.fn 47 [.agg [cv, I g.slo, I g.shi, I g.klo, I g.khi, I g.melt], I (k : Int), I p]) H = some (v, H') ∧ ∃ cv', v = .agg [cv', I g.slo, I g.shi, I g.klo, I g.khi, I g.melt] ∧ Ret H H' ∧ Fr H.next H'.next H' (fun X => Row X cv' 7 ((setP cs k p).map Cell.c)) := by
  show ∃ v H', evFn Try.prog (RR (m + 0)) 47 [.agg [cv, I g.slo, I g.shi, I g.klo, I g.khi, I g.melt], I (k : Int), I p] H = some (v, H') ∧ ∃ cv', v = .agg [cv', I g.slo, I g.shi, I g.klo, I g.khi, I g.melt] ∧ Ret H H' ∧ Fr H.next H'.next H' (fun X => Row X cv' 7 ((setP cs k p).map Cell.c))
  refine fn_okE Try.func47 rfl rfl (by kernel_rfl) (by kernel_rfl) ?_
  obtain ⟨W, hW⟩ : ∃ W : Heap, W = ⟨H.t, H.next, H.next⟩ := ⟨_, rfl⟩
  have hg : ∀ n, W.get n = H.get n := fun n => by rw [hW]; rfl
  have hN : W.next = H.next := by rw [hW]
  have hE : ∀ G, Grow W G → Ext H G := fun G g => ⟨by rw [← hN]; exact g.next, fun n k => by rw [g.get n (by rw [hN]; exact k), hg]⟩
  have hG : Grow W W := Grow.refl (by rw [hW]; exact Nat.le_refl _)
  rw [← hW]
  have hlc : lenOf cv = some cs.length := by simpa using hR.len
  have pc := lpl hlc
  have hat := hR.atom (by simp; omega)
  have hsa : slAt (.opn (W.next + 4) cs.length) 7 k = some (W.next + 4, k * 7) := by (unfold slAt; dsimp only; rw [if_pos hk])
  have spp := spl_pump cs k p hk
  refine Ok.seq ?_
  refine Ok.region ?_
  refine OkO.box rfl rfl ?_
  refine OkO.alloc (z := [.nils, .int .i64 0, .int .i64 0, .int .i64 0, .int .i64 0, .int .i64 0]) rfl (by kernel_rfl) ?_
  refine OkO.nil ?_
  refine Ok.seq ?_
  refine Ok.region ?_
  refine OkO.load rfl rfl (ldg (n := 6) (by kernel_rfl) (by first | assumption | (simp (disch := first | omega | (simp only [hNw, hPt]; omega)) only [gn0, gn1, gn2, gn3, gn4, gn5, gp0, gno, gpo] <;> first | rfl | assumption)) (by first | rfl | assumption)) ?_
  refine OkO.alloc (z := [.nils, .int .i64 0, .int .i64 0, .int .i64 0, .int .i64 0, .int .i64 0]) rfl (by kernel_rfl) ?_
  refine OkO.store rfl rfl rfl (stc (n := 6) (ag := true) (l := [cv, I g.slo, I g.shi, I g.klo, I g.khi, I g.melt]) (by kernel_rfl) (by first | assumption | simp (disch := first | omega | (simp only [hNw, hPt]; omega)) only [gn0, gn1, gn2, gn3, gn4, gn5, gp0, gno, gpo] <;> first | rfl | assumption) rfl (by show atoms [cv, I g.slo, I g.shi, I g.klo, I g.khi, I g.melt] = true; simp [atoms, hat, show ∀ z, (I z).atom = true from fun _ => rfl]) rfl) ?_
  refine OkO.nil ?_
  refine Ok.seq ?_
  refine Ok.region ?_
  refine OkO.buildSlice (el := 91) (sz := 7) (z := [.int .i64 0, .int .i64 0, .int .i64 0, .int .i64 0, .int .i64 0, .int .i64 0, .int .i64 0]) rfl (by kernel_rfl) (by decide) rfl rfl ?_
  refine OkO.fieldAddr (o := 0) rfl (by kernel_rfl) rfl ?_
  refine OkO.load rfl rfl (lda (n := 1) (by kernel_rfl) (by first | assumption | (simp (disch := first | omega | (simp only [hNw, hPt]; omega)) only [gn0, gn1, gn2, gn3, gn4, gn5, gp0, gno, gpo] <;> first | rfl | assumption)) (by first | rfl | assumption)) ?_
  refine OkO.builtinE rfl rfl rfl (app_lit3 (el := 91) (sz := 7) (by_ := 56) (e := 91) (rows := cs.map Cell.c) (b := W.next + 4) (n := cs.length) (by kernel_rfl) (by kernel_rfl) ((hR.ext (hE _ (by (try dsimp only); repeat (first | exact hG | apply Grow.new | (refine Grow.put ?_ _ (by first | omega | (simp only [hNw, hPt]; omega))))))).ext (Grow.toNew _ _)) (fun x hx => by simp only [List.mem_map] at hx; obtain ⟨y, _, rfl⟩ := hx; rfl) (by simp; omega) (by omega) (atoms_cells cs) (by simpa using (by omega : 0 < cs.length)) (by simp only [hNw, hPt]) (by simp)) ?_
  rintro v2 G2 ⟨rfl, f1, f2, f3, f4⟩
  simp only [hNw, hPt, Nat.add_assoc, Nat.reduceAdd] at f3 ⊢
  have y2 : G2.get (W.next + 2) = some (.cells [cv, I g.slo, I g.shi, I g.klo, I g.khi, I g.melt] 26) := by rw [f3 _ (by omega)]; (simp (disch := first | omega | (simp only [hNw, hPt]; omega)) only [gn0, gn1, gn2, gn3, gn4, gn5, gp0, gno, gpo] <;> first | rfl | assumption)
  have y1 : G2.get (W.next + 1) = some (.cells [.nils, I 0, I 0, I 0, I 0, I 0] 26) := by rw [f3 _ (by omega)]; (simp (disch := first | omega | (simp only [hNw, hPt]; omega)) only [gn0, gn1, gn2, gn3, gn4, gn5, gp0, gno, gpo] <;> first | rfl | assumption)
  have gG2 : Grow W G2 := f4 W (by (try dsimp only); repeat (first | exact hG | apply Grow.new | (refine Grow.put ?_ _ (by first | omega | (simp only [hNw, hPt]; omega)))))
  refine OkO.fieldAddr (o := 0) rfl (by kernel_rfl) rfl ?_
  refine OkO.store rfl rfl rfl (stc (n := 1) (ag := false) (by kernel_rfl) (by first | assumption | (simp (disch := first | omega | (simp only [hNw, hPt]; omega)) only [gn0, gn1, gn2, gn3, gn4, gn5, gp0, gno, gpo] <;> first | rfl | assumption)) rfl rfl (by first | rfl | exact spl_set _ _ _ (by first | assumption | (simp; omega)))) ?_
  refine OkO.nil ?_
  refine Ok.seq ?_
  refine Ok.region ?_
  refine OkO.fieldAddr (o := 0) rfl (by kernel_rfl) rfl ?_
  refine OkO.load rfl rfl (lda (n := 1) (by kernel_rfl) (by first | assumption | (simp (disch := first | omega | (simp only [hNw, hPt]; omega)) only [gn0, gn1, gn2, gn3, gn4, gn5, gp0, gno, gpo] <;> first | rfl | assumption)) (by first | rfl | assumption)) ?_
  refine OkO.move rfl rfl ?_
  refine OkO.move rfl rfl ?_
  refine OkO.index (sz := 7) (n := k) rfl rfl rfl (by kernel_rfl) (by first | assumption | rfl | exact slAt_slice (by omega)) ?_ -- index ('Go.Operand.tmp', 15) ('Go.Operand.tmp', 16)
  refine OkO.fieldAddr (o := 6) rfl (by kernel_rfl) rfl ?_
  refine OkO.store rfl rfl rfl (storeAt_opn (n := 1) (ag := false) (e := 91) (sz := 7) (by kernel_rfl) (by rw [gpo _ _ _ _ (by omega)]; exact f1) rfl rfl spp) ?_
  refine OkO.nil ?_
  refine Ok.seq ?_
  refine Ok.region ?_
  refine OkO.load rfl rfl (ldg (n := 6) (by kernel_rfl) (by first | assumption | (simp (disch := first | omega | (simp only [hNw, hPt]; omega)) only [gn0, gn1, gn2, gn3, gn4, gn5, gp0, gno, gpo] <;> first | rfl | assumption)) (by first | rfl | assumption)) ?_
  refine OkO.store rfl rfl rfl (stc (n := 6) (ag := true) (by kernel_rfl) (by first | assumption | (simp (disch := first | omega | (simp only [hNw, hPt]; omega)) only [gn0, gn1, gn2, gn3, gn4, gn5, gp0, gno, gpo] <;> first | rfl | assumption)) rfl rfl (by first | rfl | exact spl_set _ _ _ (by first | assumption | (simp; omega)))) ?_
  refine OkO.nil ?_
  refine Ok.ret ⟨.inr rfl, ?_⟩
  refine back_newA (resV_cell (b := W.next + 1) (off := 0) rfl (ldg (n := 6) (by kernel_rfl) (by rw [gp0]; rfl) rfl) resV_nil) rfl (by rw [← hW]; exact Grow.put (Grow.put (Grow.put gG2 _ (by omega)) _ (by omega)) _ (by omega)) (fun H2 r2 r3 => ⟨.opn (W.next + 4) cs.length, rfl, r2, ?_⟩)
  have hmp : Mine W.next (((G2.put (W.next + 2) (.cells [.opn (W.next + 4) cs.length, I g.slo, I g.shi, I g.klo, I g.khi, I g.melt] 26)).put (W.next + 4) (.opn ((setP cs k p).map Cell.c).flatten 91 7)).put (W.next + 1) (.cells [.opn (W.next + 4) cs.length, I g.slo, I g.shi, I g.klo, I g.khi, I g.melt] 26)) (.opn (W.next + 4) cs.length) 91 7 ((setP cs k p).map Cell.c).flatten := .inr ⟨W.next + 4, cs.length, rfl, by rw [gpo _ _ _ _ (by omega), gp0], by rw [flat_len _ 7 (fun x hx => by simp only [List.mem_map] at hx; obtain ⟨y, _, rfl⟩ := hx; rfl)]; simp [setP_len], by omega, by simp only [hPt]; omega⟩
  exact Mine.backF (H := H) (by rw [← hN]; exact hmp) (fun x hx => by simp only [List.mem_map] at hx; obtain ⟨y, _, rfl⟩ := hx; rfl) (by omega) (r3.imp (fun h => ⟨h.1, flatA h.2⟩) id)
end
end Go.Ev
