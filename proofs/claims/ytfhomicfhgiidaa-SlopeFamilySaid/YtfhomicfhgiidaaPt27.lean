/-
  Functions of the program, reckoned by the evaluator: what each answers, and that it leaves what came in as it was.
-/
import Derived.Test.YtfhomicfhgiidaaPt26
set_option maxRecDepth 100000
set_option linter.unusedSimpArgs false
set_option linter.unusedVariables false
namespace Go.Ev
open Go Go.Proofs
noncomputable section
/-- Marks that are shut at a call's end. -/
def shutAll (ds : List Nat) (G : Heap) : Heap := ds.foldl (fun G d => G.put d .shut) G
theorem shutAll_next (ds : List Nat) : ∀ G, (shutAll ds G).next = G.next := by
  induction ds with
  | nil => intro G; rfl
  | cons d ds ih => intro G; exact (ih _).trans (hPt _ _ _)
theorem shutAll_get (ds : List Nat) {n : Nat} (h : n ∉ ds) : ∀ G, (shutAll ds G).get n = G.get n := by
  induction ds with
  | nil => intro G; rfl
  | cons d ds ih =>
    intro G
    simp only [List.mem_cons, not_or] at h
    exact (ih h.2 _).trans (gpo _ _ _ _ h.1)
theorem shutAll_grow {W : Heap} (ds : List Nat) (h : ∀ d ∈ ds, W.next ≤ d) : ∀ G, Grow W G → Grow W (shutAll ds G) := by
  induction ds with
  | nil => intro G g; exact g
  | cons d ds ih => intro G g; exact ih (fun x hx => h x (by simp [hx])) _ (g.put _ (h d (by simp)))
theorem back_marks {P : Program} {fn : Func} {H : Heap} {T : Tr AV} : ∀ (ds : List Nat) (G : Heap), ds.Nodup → (∀ d ∈ ds, G.get d = some .defd) → evBack P fn H ⟨T, ds, G⟩ = evBack P fn H ⟨T, [], shutAll ds G⟩ := by
  intro ds G hn hd
  have e : shuts ds G = some (shutAll ds G) := by
    induction ds generalizing G with
    | nil => rfl
    | cons d ds ih =>
      unfold shuts
      rw [hd d (by simp)]
      dsimp only
      rw [List.nodup_cons] at hn
      exact ih (G.put d .shut) hn.2 (fun x hx => by rw [gpo _ _ _ _ (fun e => hn.1 (by rw [← e]; exact hx))]; exact hd x (by simp [hx]))
  unfold evBack
  dsimp only
  rw [e]
  rfl
noncomputable def as72 : Code := match Try.f72.body.bind rangeOf with | some r => r.1 | none => .skip
noncomputable def bd72 : Code := match Try.f72.body.bind rangeOf with | some r => r.2 | none => .skip
/-- Nothing found yet. -/
structure FindJ (X : Heap) (Pq : Nat) (pr : Nat → Nat → Int) (n last : Nat) (T0 : Tr AV) (c k : Nat) (G : Heap) : Prop where
  ext : Ext X G
  nx : Pq + 5 ≤ G.next
  b3 : G.get (Pq + 3) = some .defd
  b4 : G.get (Pq + 4) = some (.loop .ready none T0 [22] as72 bd72 (Pq + 3))
  no : ∀ a i, (a < c ∨ (a = c ∧ i < k)) → i < n → a ≤ last → 0 ≤ sumR pr n last (last - a) i
/-- A surface found. -/
structure FindS (X : Heap) (N Pq : Nat) (pr : Nat → Nat → Int) (n last : Nat) (least : Int) (T0 : Tr AV) (G : Heap) : Prop where
  nx : Pq + 5 ≤ G.next
  get : ∀ j, j < Pq + 3 → j ≠ N + 1 → j ≠ N + 2 → G.get j = X.get j
  b3 : G.get (Pq + 3) = some .defd
  b4 : G.get (Pq + 4) = some (.loop .done (some (.exit 0)) T0 [22] as72 bd72 (Pq + 3))
  b2 : G.get (N + 2) = some (.cells [.bool true] 4)
  b1 : ∃ (fr : Nat) (us : List Nat) (bv : AV), G.get (N + 1) = some (.cells [I (fr : Int), bv] 39) ∧ Mine (Pq + 5) G bv 3 1 (us.map fun (k : Nat) => I (k : Int)) ∧ bv ≠ .nils ∧ Walk n us ∧ least ≤ us.length ∧ us ≠ [] ∧ fr + us.length = last + 1 ∧ walkSum pr fr us < 0
theorem FindJ.to {X : Heap} {Pq : Nat} {pr : Nat → Nat → Int} {n last : Nat} {T0 : Tr AV} {c k : Nat} {G G' : Heap} (h : FindJ X Pq pr n last T0 c k G) (e : Ext G G') : FindJ X Pq pr n last T0 c k G' := by
  have hn := h.nx
  exact ⟨h.ext.trans e, Nat.le_trans hn e.next, by rw [e.get _ (by omega)]; exact h.b3, by rw [e.get _ (by omega)]; exact h.b4, h.no⟩
theorem FindS.to {X : Heap} {N Pq : Nat} {pr : Nat → Nat → Int} {n last : Nat} {least : Int} {T0 : Tr AV} {G G' : Heap} (h : FindS X N Pq pr n last least T0 G) (hNP : N + 3 ≤ Pq) (e : Ext G G') : FindS X N Pq pr n last least T0 G' := by
  have hn := h.nx
  obtain ⟨fr, us, bv, h1, h2, h3⟩ := h.b1
  exact ⟨Nat.le_trans hn e.next, fun j a1 a2 a3 => by rw [e.get _ (by omega)]; exact h.get j a1 a2 a3, by rw [e.get _ (by omega)]; exact h.b3, by rw [e.get _ (by omega)]; exact h.b4, by rw [e.get _ (by omega)]; exact h.b2, fr, us, bv, by rw [e.get _ (by omega)]; exact h1, h2.to e, h3⟩
theorem Mine.ge {k0 k1 : Nat} {G : Heap} {v : AV} {e : TypeId} {sz : Nat} {cs : List AV} (h : Mine k0 G v e sz cs) (hk : k1 ≤ k0) : Mine k1 G v e sz cs := by
  rcases h with h | ⟨b, m, h1, h2, h3, h4, h5⟩
  · exact .inl h
  · exact .inr ⟨b, m, h1, h2, h3, by omega, h5⟩
theorem r72 (m N Mq Pq K c k last n mb : Nat) (cv : AV) (least : Int) (cols : List (List Bed)) (pr : Nat → Nat → Int) (o : AObj) (T0 : Tr AV) (X G : Heap) (hx0 : X.get N = some (.cells [cv, I least] 35)) (hx1 : X.get (N + 1) = some (.cells [I 0, .nils] 39)) (hx2 : X.get (N + 2) = some (.cells [.bool false] 4)) (hxm : X.get Mq = some (.cells [I (last : Int)] 3)) (hxp : X.get Pq = some (.cells [.map mb] 147)) (hxo : X.get mb = some o) (hXn : X.next = Pq + 3) (hN1 : N + 3 ≤ Mq) (hM1 : Mq < Pq) (hmb : mb < Pq) (hM : Mat X cv cols) (hcl : ∀ c ∈ cols, c.length = n) (hlast : last < cols.length) (hN9 : cols.length ≤ 100) (hn9 : 1 ≤ n ∧ n ≤ 1000) (ho : MapO o encP (sumF pr n last (last + 1) 0)) (hls : 1 ≤ least ∧ least ≤ 4) (hH : Has 6 [(2, .ptr N 0), (4, .ptr (N + 1) 0), (5, .ptr (N + 2) 0), (6, .ptr Mq 0), (7, .ptr Pq 0)] T0) (hJ : FindJ X Pq pr n last T0 c k G) (hlo : K ≤ G.lo) (hK : K ≤ N) (hkn : k < n) (hcC : (c : Int) < (last : Int) - least + 2) :
    ∃ v H', RR (m + 106) (.round (Pq + 4) [encP (c, k)]) G = some (v, H') ∧ (∃ b, v = .bool b ∧ ((b = true ∧ FindJ X Pq pr n last T0 c (k + 1) H') ∨ (b = false ∧ FindS X N Pq pr n last least T0 H'))) ∧ K ≤ H'.lo ∧ H'.lo ≤ Pq + 4 ∧ G.next ≤ H'.next := by
  show ∃ v H', evRound Try.prog (RR (m + 105)) (Pq + 4) [encP (c, k)] G = some (v, H') ∧ (∃ b, v = .bool b ∧ ((b = true ∧ FindJ X Pq pr n last T0 c (k + 1) H') ∨ (b = false ∧ FindS X N Pq pr n last least T0 H'))) ∧ K ≤ H'.lo ∧ H'.lo ≤ Pq + 4 ∧ G.next ≤ H'.next
  obtain ⟨fr, hT⟩ := hH
  subst hT
  have hnx := hJ.nx
  have hxn := hJ.ext.next
  have f0 : G.get N = _ := (hJ.ext.get _ (by omega)).trans hx0
  have f1 : G.get (N + 1) = _ := (hJ.ext.get _ (by omega)).trans hx1
  have f2 : G.get (N + 2) = _ := (hJ.ext.get _ (by omega)).trans hx2
  have fm : G.get Mq = _ := (hJ.ext.get _ (by omega)).trans hxm
  have fp : G.get Pq = _ := (hJ.ext.get _ (by omega)).trans hxp
  have e0o : G.get mb = some o := (hJ.ext.get _ (by omega)).trans hxo
  have f3 := hJ.b3
  have f4 := hJ.b4
  have e0 : (G.get N).bind AObj.cs = some [cv, I least] := by rw [f0]; rfl
  have em : (G.get Mq).bind AObj.cs = some [I (last : Int)] := by rw [fm]; rfl
  have ep : (G.get Pq).bind AObj.cs = some [.map mb] := by rw [fp]; rfl
  have pc : cv.plain = true := by obtain ⟨vs, hR, _, _⟩ := hM; exact lpl hR.len
  have hsf : sumF pr n last (last + 1) 0 (c, k) = some (I (sumR pr n last (last - c) k)) := by unfold sumF; rw [if_pos ⟨hkn, by show c ≤ last; omega, .inl (by show last < c + (last + 1); omega)⟩]
  refine round_okX f4 rfl ?_
  refine Ok.region ?_
  refine OkO.alloc (z := [.int .i64 0, .int .i64 0]) rfl (by kernel_rfl) ?_
  refine OkO.store rfl rfl rfl (stc (n := 2) (ag := true) (by kernel_rfl) (by first | assumption | (simp (disch := first | omega | (simp only [hNw, hPt]; omega)) only [gn0, gn1, gn2, gn3, gn4, gn5, gp0, gno, gpo] <;> first | rfl | assumption | exact gp0 _ _ _ | exact gn0 _ _)) rfl (by first | rfl | assumption) (by first | rfl | exact spl_set _ _ _ (by first | assumption | (simp; omega)))) ?_
  refine OkO.nil ?_
  refine ⟨rfl, _, _, _, _, _, _, (by first | assumption | (simp (disch := first | omega | (simp only [hNw, hPt]; omega)) only [gn0, gn1, gn2, gn3, gn4, gn5, gp0, gno, gpo] <;> first | rfl | assumption | exact gp0 _ _ _ | exact gn0 _ _)), ?_⟩
  refine Ok.block ?_
  refine Ok.seq ?_
  refine Ok.region ?_
  refine OkO.load rfl rfl (lda (n := 1) (by kernel_rfl) (by first | assumption | (simp (disch := first | omega | (simp only [hNw, hPt]; omega)) only [gn0, gn1, gn2, gn3, gn4, gn5, gp0, gno, gpo] <;> first | rfl | assumption | exact gp0 _ _ _ | exact gn0 _ _)) (by first | rfl | assumption)) ?_
  refine OkO.load rfl rfl (ldg (n := 2) (by kernel_rfl) (by first | assumption | (simp (disch := first | omega | (simp only [hNw, hPt]; omega)) only [gn0, gn1, gn2, gn3, gn4, gn5, gp0, gno, gpo] <;> first | rfl | assumption | exact gp0 _ _ _ | exact gn0 _ _)) (by first | rfl | assumption)) ?_
  refine OkO.lookup (o := o) (f := sumF pr n last (last + 1) 0) (c, k) (I (sumR pr n last (last - c) k)) rfl mapT147 keysP rfl rfl (by first | exact e0o | (simp (disch := first | omega | (simp only [hNw, hPt]; omega)) only [gn0, gn1, gn2, gn3, gn4, gn5, gp0, gno, gpo] <;> first | rfl | assumption)) ho (by rw [hsf]) ?_
  refine OkO.bin rfl rfl rfl (bin_lss _ _) ?_
  refine OkO.nil ?_
  refine Ok.cond rfl (fun h1 => ?_) (fun h1 => ?_)
  · -- yes h1
    have hlt : sumR pr n last (last - c) k < 0 := by simpa using h1
    refine Ok.seq ?_
    refine Ok.region ?_
    refine OkO.load rfl rfl (ldg (n := 2) (by kernel_rfl) (by first | assumption | (simp (disch := first | omega | (simp only [hNw, hPt]; omega)) only [gn0, gn1, gn2, gn3, gn4, gn5, gp0, gno, gpo] <;> first | rfl | assumption | exact gp0 _ _ _ | exact gn0 _ _)) (by first | rfl | assumption)) ?_
    refine OkO.load rfl rfl (ldg (n := 2) (by kernel_rfl) (by first | assumption | (simp (disch := first | omega | (simp only [hNw, hPt]; omega)) only [gn0, gn1, gn2, gn3, gn4, gn5, gp0, gno, gpo] <;> first | rfl | assumption | exact gp0 _ _ _ | exact gn0 _ _)) (by first | rfl | assumption)) ?_
    refine OkO.load rfl rfl (lda (n := 1) (by kernel_rfl) (by first | assumption | (simp (disch := first | omega | (simp only [hNw, hPt]; omega)) only [gn0, gn1, gn2, gn3, gn4, gn5, gp0, gno, gpo] <;> first | rfl | assumption | exact gp0 _ _ _ | exact gn0 _ _)) (by first | rfl | assumption)) ?_
    refine OkO.load rfl rfl (lda (n := 1) (by kernel_rfl) (by first | assumption | (simp (disch := first | omega | (simp only [hNw, hPt]; omega)) only [gn0, gn1, gn2, gn3, gn4, gn5, gp0, gno, gpo] <;> first | rfl | assumption | exact gp0 _ _ _ | exact gn0 _ _)) (by first | rfl | assumption)) ?_
    refine OkO.callE rfl rfl rfl rfl rfl (c99 m last n mb c k (last - c) cv least cols pr o _ (hM.ext (by (try dsimp only); repeat (first | exact hJ.ext | apply Ext.new | (refine Ext.put ?_ _ (by first | omega | (simp only [hNw, hPt]; omega)))))) hcl hlast hN9 hn9 (by first | exact e0o | (simp (disch := first | omega | (simp only [hNw, hPt]; omega)) only [gn0, gn1, gn2, gn3, gn4, gn5, gp0, gno, gpo] <;> first | rfl | assumption)) (by simp only [hNw, hPt]; omega) ho (by omega) hkn) ?_ -- "(sackung/slope.Slope).follow"
    rintro v99 H99 ⟨bv, path, rfl, q99, qm, qn, qw, ql, qs⟩
    have hone : bv.cells = [bv] ∧ bv.atom = true := qm.one
    have h0b : Nat.beq (AV.agg [I (c : Int), bv]).cells.length 2 = true := rfl
    have hat : atoms [I (c : Int), bv] = true := by (rw [atoms, atoms, hone.2]; rfl)
    have z1 : H99.get (N + 1) = some (.cells [I 0, .nils] 39) := by rw [q99.ext.get _ (by simp only [hNw, hPt]; omega)]; (simp (disch := first | omega | (simp only [hNw, hPt]; omega)) only [gn0, gn1, gn2, gn3, gn4, gn5, gp0, gno, gpo] <;> first | rfl | assumption)
    have z2 : H99.get (N + 2) = some (.cells [.bool false] 4) := by rw [q99.ext.get _ (by simp only [hNw, hPt]; omega)]; (simp (disch := first | omega | (simp only [hNw, hPt]; omega)) only [gn0, gn1, gn2, gn3, gn4, gn5, gp0, gno, gpo] <;> first | rfl | assumption)
    have z3 : H99.get (Pq + 3) = some .defd := by rw [q99.ext.get _ (by simp only [hNw, hPt]; omega)]; (simp (disch := first | omega | (simp only [hNw, hPt]; omega)) only [gn0, gn1, gn2, gn3, gn4, gn5, gp0, gno, gpo] <;> first | rfl | assumption)
    have z4 : H99.get (Pq + 4) = some (.loop .busy none (mkT 6 0 1 (upd fr [(2, .ptr N 0), (4, .ptr (N + 1) 0), (5, .ptr (N + 2) 0), (6, .ptr Mq 0), (7, .ptr Pq 0)])) [22] as72 bd72 (Pq + 3)) := by rw [q99.ext.get _ (by simp only [hNw, hPt]; omega)]; (simp (disch := first | omega | (simp only [hNw, hPt]; omega)) only [gn0, gn1, gn2, gn3, gn4, gn5, gp0, gno, gpo] <;> first | rfl | assumption | exact gp0 _ _ _)
    have n99 := q99.ext.next
    simp only [hNw, hPt] at n99
    have hXe : ∀ j, j < Pq + 3 → H99.get j = X.get j := fun j hj => by rw [q99.ext.get _ (by simp only [hNw, hPt]; omega)]; simp (disch := first | omega | (simp only [hNw, hPt]; omega)) only [gno, gpo]; exact hJ.ext.get j (by omega)
    have qm2 := qm
    simp only [hNw, hPt] at qm2
    refine OkO.store rfl rfl rfl (stc (n := 2) (ag := true) (by kernel_rfl) (by first | assumption | (simp (disch := first | omega | (simp only [hNw, hPt]; omega)) only [gn0, gn1, gn2, gn3, gn4, gn5, gp0, gno, gpo] <;> first | rfl | assumption | exact gp0 _ _ _ | exact gn0 _ _)) rfl (by first | rfl | assumption) (by first | rfl | exact spl_set _ _ _ (by first | assumption | (simp; omega)))) ?_
    refine OkO.store rfl rfl rfl (stc (n := 1) (ag := false) (by kernel_rfl) (by first | assumption | (simp (disch := first | omega | (simp only [hNw, hPt]; omega)) only [gn0, gn1, gn2, gn3, gn4, gn5, gp0, gno, gpo] <;> first | rfl | assumption | exact gp0 _ _ _ | exact gn0 _ _)) rfl (by first | rfl | assumption) (by first | rfl | exact spl_set _ _ _ (by first | assumption | (simp; omega)))) ?_
    refine OkO.nil ?_
    refine Ok.exit ?_
    refine ⟨_, _, _, _, _, _, _, (by first | assumption | (simp (disch := first | omega | (simp only [hNw, hPt]; omega)) only [gn0, gn1, gn2, gn3, gn4, gn5, gp0, gno, gpo] <;> first | rfl | assumption | exact gp0 _ _ _ | exact gn0 _ _)), .inr ⟨0, rfl, ?_⟩⟩
    refine ⟨⟨false, rfl, .inr ⟨rfl, ?_⟩⟩, ?_, ?_, ?_⟩
    · refine ⟨(by simp only [hNw, hPt]; omega), fun j a1 a2 a3 => ?_, (by first | assumption | (simp (disch := first | omega | (simp only [hNw, hPt]; omega)) only [gn0, gn1, gn2, gn3, gn4, gn5, gp0, gno, gpo] <;> first | rfl | assumption | exact gp0 _ _ _ | exact gn0 _ _)), (by first | assumption | (simp (disch := first | omega | (simp only [hNw, hPt]; omega)) only [gn0, gn1, gn2, gn3, gn4, gn5, gp0, gno, gpo] <;> first | rfl | assumption | exact gp0 _ _ _ | exact gn0 _ _)), (by first | assumption | (simp (disch := first | omega | (simp only [hNw, hPt]; omega)) only [gn0, gn1, gn2, gn3, gn4, gn5, gp0, gno, gpo] <;> first | rfl | assumption | exact gp0 _ _ _ | exact gn0 _ _)), c, path, bv, (by first | assumption | (simp (disch := first | omega | (simp only [hNw, hPt]; omega)) only [gn0, gn1, gn2, gn3, gn4, gn5, gp0, gno, gpo] <;> first | rfl | assumption | exact gp0 _ _ _ | exact gn0 _ _)), ?_, qn, qw, by rw [ql]; omega, by (intro h9; rw [h9] at ql; simp at ql), by rw [ql]; omega, by rw [qs]; exact hlt⟩
      · simp (disch := first | omega | (simp only [hNw, hPt]; omega)) only [gno, gpo]; exact hXe j a1
      · refine Mine.put (Mine.put (Mine.put ?_ _ (by omega)) _ (by omega)) _ (by omega); exact qm2.ge (by omega)
    · have hlq : K ≤ H99.lo := q99.lo _ (by (try dsimp only); simp only [Heap.lo_put, Heap.lo_new]; omega) (by simp only [hNw, hPt]; omega)
      simp only [Heap.lo_put, Heap.lo_new]; omega
    · simp only [Heap.lo_put, Heap.lo_new]; omega
    · simp only [hPt]; omega
  · -- no h1
    have hge : 0 ≤ sumR pr n last (last - c) k := by simpa using h1
    refine Ok.skip ?_
    refine ⟨_, _, _, _, _, _, _, (by first | assumption | (simp (disch := first | omega | (simp only [hNw, hPt]; omega)) only [gn0, gn1, gn2, gn3, gn4, gn5, gp0, gno, gpo] <;> first | rfl | assumption | exact gp0 _ _ _ | exact gn0 _ _)), .inl ⟨rfl, ⟨true, rfl, .inl ⟨rfl, (by (try dsimp only); repeat (first | exact hJ.ext | apply Ext.new | (refine Ext.put ?_ _ (by first | omega | (simp only [hNw, hPt]; omega))))), (by simp only [hNw, hPt]; omega), (by first | assumption | (simp (disch := first | omega | (simp only [hNw, hPt]; omega)) only [gn0, gn1, gn2, gn3, gn4, gn5, gp0, gno, gpo] <;> first | rfl | assumption | exact gp0 _ _ _ | exact gn0 _ _)), (by first | assumption | (simp (disch := first | omega | (simp only [hNw, hPt]; omega)) only [gn0, gn1, gn2, gn3, gn4, gn5, gp0, gno, gpo] <;> first | rfl | assumption | exact gp0 _ _ _ | exact gn0 _ _)), fun a i a1 a2 a3 => ?_⟩⟩, ?_, ?_, (by simp only [hNw, hPt]; omega)⟩⟩
    · by_cases q : a = c ∧ i = k
      · rw [q.1, q.2]; exact hge
      · exact hJ.no a i (by omega) a2 a3
    · simp only [Heap.lo_put, Heap.lo_new]; omega
    · simp only [Heap.lo_put, Heap.lo_new]; omega
end
end Go.Ev

set_option maxRecDepth 100000
set_option linter.unusedSimpArgs false
set_option linter.unusedVariables false
namespace Go.Ev
open Go Go.Proofs
noncomputable section
theorem back_marksN {P : Program} {fn : Func} {H : Heap} {T : Tr AV} {ds : List Nat} {G : Heap} {vs : List AV} {v : AV} {S : AV → Heap → Prop} (hnd : ds.Nodup) (hdef : ∀ d ∈ ds, G.get d = some .defd) (hr : ∀ G' : Heap, (∀ n, n ∉ ds → G'.get n = G.get n) → resV P T G' fn.results.toList = some vs) (hv : resOf vs = v)
    (hg : Grow ⟨H.t, H.next, H.next⟩ G) (hds : ∀ d ∈ ds, H.next ≤ d) (hf : v.flat = false) (k : ∀ H', Ret H H' → (∀ n, n ∉ ds → H'.get n = G.get n) → H'.next = G.next → S v H') : ∃ v H', evBack P fn H ⟨T, ds, G⟩ = some (v, H') ∧ S v H' := by
  rw [back_marks ds G hnd hdef]
  exact back_newQ (hr _ fun n hn => shutAll_get ds hn G) hv (shutAll_grow (W := ⟨H.t, H.next, H.next⟩) ds hds G hg) hf fun H' p1 p2 p3 => k H' p1 (fun n hn => (p2 n).trans (shutAll_get ds hn G)) (p3.trans (shutAll_next ds G))
theorem back_marksF {P : Program} {fn : Func} {H : Heap} {T : Tr AV} {ds : List Nat} {G : Heap} {vs : List AV} {v : AV} (hnd : ds.Nodup) (hdef : ∀ d ∈ ds, G.get d = some .defd) (hr : ∀ G' : Heap, (∀ n, n ∉ ds → G'.get n = G.get n) → resV P T G' fn.results.toList = some vs) (hv : resOf vs = v)
    (hg : Grow ⟨H.t, H.next, H.next⟩ G) (hds : ∀ d ∈ ds, H.next ≤ d) (hf : v.flat = true) : evBack P fn H ⟨T, ds, G⟩ = some (v, H) := by
  rw [back_marks ds G hnd hdef]
  exact back_flat (hr _ fun n hn => shutAll_get ds hn G) hv hf (shutAll_grow (W := ⟨H.t, H.next, H.next⟩) ds hds G hg)
theorem c72 (m : Nat) (n : Nat) (cv pv : AV) (cols : List (List Bed)) (least : Int) (pr : Nat → Nat → Int) (H : Heap) (hM : Mat H cv cols) (hcl : ∀ c ∈ cols, c.length = n) (hN9 : cols.length ≤ 100) (hn9 : 1 ≤ n ∧ n ≤ 1000) (hls : 1 ≤ least ∧ least ≤ 4) (hB : PrB pr) (hP : CallP (m + 106) pv H cols.length n pr) : ∃ v H', RR (m + 108) (.fn 72 [.agg [cv, I least], pv]) H = some (v, H') ∧ ((∃ (fr : Nat) (us : List Nat) (bv : AV), v = .tup [.agg [I (fr : Int), bv], .bool true] ∧ Ret H H' ∧ Mine H.next H' bv 3 1 (us.map fun (k : Nat) => I (k : Int)) ∧ bv ≠ .nils ∧ Walk n us ∧ least ≤ us.length ∧ us ≠ [] ∧ fr + us.length ≤ cols.length ∧ walkSum pr fr us < 0) ∨ (v = .tup [.agg [I 0, .nils], .bool false] ∧ H' = H ∧ (∀ (fr : Nat) us, Walk n us → us ≠ [] → least ≤ us.length → fr + us.length ≤ cols.length → 0 ≤ walkSum pr fr us))) := by
  show ∃ v H', evFn Try.prog (RR (m + 107)) 72 [.agg [cv, I least], pv] H = some (v, H') ∧ ((∃ (fr : Nat) (us : List Nat) (bv : AV), v = .tup [.agg [I (fr : Int), bv], .bool true] ∧ Ret H H' ∧ Mine H.next H' bv 3 1 (us.map fun (k : Nat) => I (k : Int)) ∧ bv ≠ .nils ∧ Walk n us ∧ least ≤ us.length ∧ us ≠ [] ∧ fr + us.length ≤ cols.length ∧ walkSum pr fr us < 0) ∨ (v = .tup [.agg [I 0, .nils], .bool false] ∧ H' = H ∧ (∀ (fr : Nat) us, Walk n us → us ≠ [] → least ≤ us.length → fr + us.length ≤ cols.length → 0 ≤ walkSum pr fr us)))
  refine fn_okE Try.func72 rfl rfl (by kernel_rfl) (by kernel_rfl) ?_
  obtain ⟨W, hW⟩ : ∃ W : Heap, W = ⟨H.t, H.next, H.next⟩ := ⟨_, rfl⟩
  have hg : ∀ n, W.get n = H.get n := fun n => by rw [hW]; rfl
  have hN : W.next = H.next := by rw [hW]
  have hE : ∀ G, Grow W G → Ext H G := fun G g => ⟨by rw [← hN]; exact g.next, fun n k => by rw [g.get n (by rw [hN]; exact k), hg]⟩
  have hG : Grow W W := Grow.refl (by rw [hW]; exact Nat.le_refl _)
  rw [← hW]
  obtain ⟨vs, hR, hvl, hv⟩ := id hM
  have hlen : lenOf cv = some cols.length := by rw [← hvl]; simpa using hR.len
  have pc : cv.plain = true := lpl hR.len
  refine Ok.seq ?_
  refine Ok.region ?_
  refine OkO.box rfl rfl ?_
  refine OkO.alloc (z := [.int .i64 0, .nils]) rfl (by kernel_rfl) ?_
  refine OkO.alloc (z := [.bool false]) rfl (by kernel_rfl) ?_
  refine OkO.nil ?_
  refine Ok.scope ?_
  refine Ok.seq ?_
  refine Ok.label ?_
  refine Ok.seq ?_
  refine Ok.seq ?_
  refine Ok.region ?_
  refine OkO.fieldAddr (o := 0) rfl (by kernel_rfl) rfl ?_
  refine OkO.load rfl rfl (lda (n := 1) (by kernel_rfl) (by first | assumption | (simp (disch := first | omega | (simp only [hNw, hPt]; omega)) only [gn0, gn1, gn2, gn3, gn4, gn5, gp0, gno, gpo] <;> first | rfl | assumption | exact gp0 _ _ _ | exact gn0 _ _)) (by first | rfl | assumption)) ?_
  refine OkO.builtin rfl rfl rfl (bln (by kernel_rfl) (by first | assumption | rfl)) ?_
  refine OkO.move rfl rfl ?_
  refine OkO.nil ?_
  refine Ok.block ?_
  refine Ok.loop (fun n9 s_ => ∃ i : Nat, n9 = cols.length - i ∧ i ≤ cols.length ∧ Grow W s_.H ∧ W.next + 3 ≤ s_.H.next ∧ s_.H.get W.next = some (.cells [cv, I least] 35) ∧ s_.H.get (W.next + 1) = some (.cells [I 0, .nils] 39) ∧ s_.H.get (W.next + 2) = some (.cells [.bool false] 4) ∧ (∀ la a k : Nat, la < i → (a : Int) + least ≤ (la : Int) + 1 → k < n → 0 ≤ sumR pr n la (la - a) k) ∧ Has 6 [(1, pv), (2, .ptr W.next 0), (4, .ptr (W.next + 1) 0), (5, .ptr (W.next + 2) 0), (11, I (cols.length : Int)), (12, I (i : Int))] s_.T ∧ s_.D.Nodup ∧ ∀ d ∈ s_.D, W.next + 3 ≤ d ∧ d < s_.H.next ∧ s_.H.get d = some .defd) (cols.length) (by unfold loopFuel; omega)
    ⟨0, rfl, Nat.zero_le _, (by (try dsimp only); repeat (first | exact hg | exact hG | apply Grow.new | (refine Grow.put ?_ _ (by first | omega | (simp only [hNw, hPt]; omega))))), (by simp only [hNw, hPt]; omega), (by first | assumption | (simp (disch := first | omega | (simp only [hNw, hPt]; omega)) only [gn0, gn1, gn2, gn3, gn4, gn5, gp0, gno, gpo] <;> first | rfl | assumption | exact gp0 _ _ _ | exact gn0 _ _)), (by first | assumption | (simp (disch := first | omega | (simp only [hNw, hPt]; omega)) only [gn0, gn1, gn2, gn3, gn4, gn5, gp0, gno, gpo] <;> first | rfl | assumption | exact gp0 _ _ _ | exact gn0 _ _)), (by first | assumption | (simp (disch := first | omega | (simp only [hNw, hPt]; omega)) only [gn0, gn1, gn2, gn3, gn4, gn5, gp0, gno, gpo] <;> first | rfl | assumption | exact gp0 _ _ _ | exact gn0 _ _)), fun _ _ _ h => absurd h (by omega), Has.of (by kernel_rfl), .nil, nofun⟩ ?_
  rintro n9 ⟨T, D, G⟩ ⟨i, hn, hi, hg, hgx, f0, f1, f2, hno, ⟨f, hT⟩, hD1, hD2⟩
  dsimp only at *
  subst hT
  have hgn := hg.next
  have e0 : (G.get W.next).bind AObj.cs = some [cv, I least] := by rw [f0]; rfl
  have e1 : (G.get (W.next + 1)).bind AObj.cs = some [I 0, .nils] := by rw [f1]; rfl
  have e2 : (G.get (W.next + 2)).bind AObj.cs = some [.bool false] := by rw [f2]; rfl
  refine Ok.seq ?_
  refine Ok.region ?_
  refine OkO.bin rfl rfl rfl (bin_lss _ _) ?_
  refine OkO.nil ?_
  refine Ok.seq ?_
  refine Ok.cond rfl (fun h1 => ?_) (fun h1 => ?_)
  · -- yes h1
    have hil : i < cols.length := by simpa using h1
    refine Ok.skip ?_
    refine Ok.seq ?_
    refine Ok.block ?_
    refine Ok.seq ?_
    refine Ok.region ?_
    refine OkO.move rfl rfl ?_
    refine OkO.alloc (z := [.int .i64 0]) rfl (by kernel_rfl) ?_
    refine OkO.store rfl rfl rfl (stc (n := 1) (ag := false) (by kernel_rfl) (by first | assumption | (simp (disch := first | omega | (simp only [hNw, hPt]; omega)) only [gn0, gn1, gn2, gn3, gn4, gn5, gp0, gno, gpo] <;> first | rfl | assumption | exact gp0 _ _ _ | exact gn0 _ _)) rfl (by first | rfl | assumption) (by first | rfl | exact spl_set _ _ _ (by first | assumption | (simp; omega)))) ?_
    refine OkO.nil ?_
    refine Ok.seq ?_
    refine Ok.region ?_
    refine OkO.load rfl rfl (ldg (n := 2) (by kernel_rfl) (by first | assumption | (simp (disch := first | omega | (simp only [hNw, hPt]; omega)) only [gn0, gn1, gn2, gn3, gn4, gn5, gp0, gno, gpo] <;> first | rfl | assumption | exact gp0 _ _ _ | exact gn0 _ _)) (by first | rfl | assumption)) ?_
    refine OkO.load rfl rfl (lda (n := 1) (by kernel_rfl) (by first | assumption | (simp (disch := first | omega | (simp only [hNw, hPt]; omega)) only [gn0, gn1, gn2, gn3, gn4, gn5, gp0, gno, gpo] <;> first | rfl | assumption | exact gp0 _ _ _ | exact gn0 _ _)) (by first | rfl | assumption)) ?_
    refine OkO.move rfl rfl ?_
    refine OkO.callE rfl rfl rfl rfl rfl (c97 (m + 103) i n cv pv cols least pr _ (hM.ext (hE _ (by (try dsimp only); repeat (first | exact hg | exact hG | apply Grow.new | (refine Grow.put ?_ _ (by first | omega | (simp only [hNw, hPt]; omega))))))) hcl (by omega) hN9 hn9 hB (hP.ext (hE _ (by (try dsimp only); repeat (first | exact hg | exact hG | apply Grow.new | (refine Grow.put ?_ _ (by first | omega | (simp only [hNw, hPt]; omega)))))))) ?_ -- "(sackung/slope.Slope).sumsTo"
    rintro v97 H97 ⟨mb, o, rfl, q97, m1, m2, m3, m4⟩
    have n97 := q97.ext.next
    simp only [hNw, hPt] at n97 m1
    have a0 : H97.get (W.next) = some (.cells [cv, I least] 35) := by rw [q97.ext.get _ (by simp only [hNw, hPt]; omega)]; first | (rw [gn0]; rfl) | (simp (disch := first | omega | (simp only [hNw, hPt]; omega)) only [gn0, gn1, gn2, gn3, gn4, gn5, gp0, gno, gpo] <;> first | rfl | assumption | exact gp0 _ _ _ | exact gn0 _ _)
    have a1 : H97.get (W.next + 1) = some (.cells [I 0, .nils] 39) := by rw [q97.ext.get _ (by simp only [hNw, hPt]; omega)]; first | (rw [gn0]; rfl) | (simp (disch := first | omega | (simp only [hNw, hPt]; omega)) only [gn0, gn1, gn2, gn3, gn4, gn5, gp0, gno, gpo] <;> first | rfl | assumption | exact gp0 _ _ _ | exact gn0 _ _)
    have a2 : H97.get (W.next + 2) = some (.cells [.bool false] 4) := by rw [q97.ext.get _ (by simp only [hNw, hPt]; omega)]; first | (rw [gn0]; rfl) | (simp (disch := first | omega | (simp only [hNw, hPt]; omega)) only [gn0, gn1, gn2, gn3, gn4, gn5, gp0, gno, gpo] <;> first | rfl | assumption | exact gp0 _ _ _ | exact gn0 _ _)
    have am : H97.get (G.next) = some (.cells [I (i : Int)] 3) := by rw [q97.ext.get _ (by simp only [hNw, hPt]; omega)]; first | (rw [gn0]; rfl) | (simp (disch := first | omega | (simp only [hNw, hPt]; omega)) only [gn0, gn1, gn2, gn3, gn4, gn5, gp0, gno, gpo] <;> first | rfl | assumption | exact gp0 _ _ _ | exact gn0 _ _)
    have b0 : (H97.get W.next).bind AObj.cs = some [cv, I least] := by rw [a0]; rfl
    have bm : (H97.get G.next).bind AObj.cs = some [I (i : Int)] := by rw [am]; rfl
    have g97 : Grow W H97 := Grow.ret (by (try dsimp only); repeat (first | exact hg | exact hG | apply Grow.new | (refine Grow.put ?_ _ (by first | omega | (simp only [hNw, hPt]; omega))))) q97
    have hd97 : ∀ d, W.next + 3 ≤ d → d < G.next → H97.get d = G.get d := fun d d1 d2 => by (rw [q97.ext.get _ (by simp only [hNw, hPt]; omega)]; simp (disch := first | omega | (simp  [hNw, hPt]; omega)) only [gno, gpo])
    refine OkO.alloc (z := [.nilm]) rfl (by kernel_rfl) ?_
    refine OkO.store rfl rfl rfl (stc (n := 1) (ag := false) (by kernel_rfl) (by first | assumption | (simp (disch := first | omega | (simp only [hNw, hPt]; omega)) only [gn0, gn1, gn2, gn3, gn4, gn5, gp0, gno, gpo] <;> first | rfl | assumption | exact gp0 _ _ _ | exact gn0 _ _)) rfl (by first | rfl | assumption) (by first | rfl | exact spl_set _ _ _ (by first | assumption | (simp; omega)))) ?_
    refine OkO.nil ?_
    refine Ok.seq ?_
    refine Ok.region ?_
    refine OkO.load rfl rfl (ldg (n := 2) (by kernel_rfl) (by first | assumption | (simp (disch := first | omega | (simp only [hNw, hPt]; omega)) only [gn0, gn1, gn2, gn3, gn4, gn5, gp0, gno, gpo] <;> first | rfl | assumption | exact gp0 _ _ _ | exact gn0 _ _)) (by first | rfl | assumption)) ?_
    refine OkO.load rfl rfl (lda (n := 1) (by kernel_rfl) (by first | assumption | (simp (disch := first | omega | (simp only [hNw, hPt]; omega)) only [gn0, gn1, gn2, gn3, gn4, gn5, gp0, gno, gpo] <;> first | rfl | assumption | exact gp0 _ _ _ | exact gn0 _ _)) (by first | rfl | assumption)) ?_
    refine OkO.callE rfl rfl rfl rfl rfl (c98 (m + 106) cv least i _) ?_ -- "(sackung/slope.Slope).starts"
    rintro v98 H98 ⟨rfl, q98, s1, s2, s3⟩
    simp only [hNw, hPt] at s1 s2 s3
    have x0 : H98.get (W.next) = some (.cells [cv, I least] 35) := by rw [q98.ext.get _ (by simp only [hNw, hPt]; omega)]; first | (rw [gn0]; rfl) | (simp (disch := first | omega | (simp only [hNw, hPt]; omega)) only [gn0, gn1, gn2, gn3, gn4, gn5, gp0, gno, gpo] <;> first | rfl | assumption | exact gp0 _ _ _ | exact gn0 _ _)
    have x1 : H98.get (W.next + 1) = some (.cells [I 0, .nils] 39) := by rw [q98.ext.get _ (by simp only [hNw, hPt]; omega)]; first | (rw [gn0]; rfl) | (simp (disch := first | omega | (simp only [hNw, hPt]; omega)) only [gn0, gn1, gn2, gn3, gn4, gn5, gp0, gno, gpo] <;> first | rfl | assumption | exact gp0 _ _ _ | exact gn0 _ _)
    have x2 : H98.get (W.next + 2) = some (.cells [.bool false] 4) := by rw [q98.ext.get _ (by simp only [hNw, hPt]; omega)]; first | (rw [gn0]; rfl) | (simp (disch := first | omega | (simp only [hNw, hPt]; omega)) only [gn0, gn1, gn2, gn3, gn4, gn5, gp0, gno, gpo] <;> first | rfl | assumption | exact gp0 _ _ _ | exact gn0 _ _)
    have xm : H98.get (G.next) = some (.cells [I (i : Int)] 3) := by rw [q98.ext.get _ (by simp only [hNw, hPt]; omega)]; first | (rw [gn0]; rfl) | (simp (disch := first | omega | (simp only [hNw, hPt]; omega)) only [gn0, gn1, gn2, gn3, gn4, gn5, gp0, gno, gpo] <;> first | rfl | assumption | exact gp0 _ _ _ | exact gn0 _ _)
    have xp : H98.get (H97.next) = some (.cells [.map mb] 147) := by rw [q98.ext.get _ (by simp only [hNw, hPt]; omega)]; first | (rw [gn0]; rfl) | (simp (disch := first | omega | (simp only [hNw, hPt]; omega)) only [gn0, gn1, gn2, gn3, gn4, gn5, gp0, gno, gpo] <;> first | rfl | assumption | exact gp0 _ _ _ | exact gn0 _ _)
    have xo : H98.get (mb) = some o := by rw [q98.ext.get _ (by simp only [hNw, hPt]; omega)]; first | (rw [gn0]; rfl) | (simp (disch := first | omega | (simp only [hNw, hPt]; omega)) only [gn0, gn1, gn2, gn3, gn4, gn5, gp0, gno, gpo] <;> first | rfl | assumption | exact gp0 _ _ _ | exact gn0 _ _)
    have g98 : Grow W H98 := Grow.ret (by (try dsimp only); repeat (first | exact g97 | apply Grow.new | (refine Grow.put ?_ _ (by first | omega | (simp only [hNw, hPt]; omega))))) q98
    have hd98 : ∀ d, W.next + 3 ≤ d → d < G.next → H98.get d = G.get d := fun d d1 d2 => by (rw [q98.ext.get _ (by simp only [hNw, hPt]; omega)]; simp (disch := first | omega | (simp only [hNw, hPt]; omega)) only [gno, gpo]; exact hd97 d d1 d2)
    refine OkO.nil ?_
    refine Ok.block ?_
    refine Ok.rangeX rfl rfl (fun T0 hT0 => ?_)
    have hH : Has 6 [(2, .ptr W.next 0), (4, .ptr (W.next + 1) 0), (5, .ptr (W.next + 2) 0), (6, .ptr G.next 0), (7, .ptr H97.next 0)] T0 := by rw [hT0]; exact Has.of (by kernel_rfl)
    have s3b : H98.next = H97.next + 3 := by omega
    obtain ⟨C, hC⟩ : ∃ C : Nat, (C : Int) = max ((i : Int) - least + 2) 0 := ⟨(max ((i : Int) - least + 2) 0).toNat, by omega⟩
    have hJ0 : FindJ H98 H97.next pr n i T0 0 0 ((H98.new .defd).new (.loop .ready none T0 [22] as72 bd72 (H97.next + 3))) := ⟨((Ext.refl _).new _).new _, by simp only [hNw]; omega, by rw [gno _ _ _ (by simp only [hNw]; omega), ← s3b]; exact gn0 _ _, by rw [show H97.next + 4 = H98.next + 1 from by omega]; exact gn1 _ _ _, fun a j a1 => absurd a1 (by omega)⟩
    have hMX : Mat H98 cv cols := hM.ext (hE _ g98)
    obtain ⟨v3, H3, k1, k2, k3⟩ := c108 (m + 106) (H97.next + 4) (H97.next + 2) (H97.next + 1) W.next i n C cv least cols (FindJ H98 H97.next pr n i T0) (FindS H98 W.next H97.next pr n i least T0) ((H98.new .defd).new (.loop .ready none T0 [22] as72 bd72 (H97.next + 3))) (fun _ _ _ _ h x => h.to x) (fun _ _ h x => h.to (by omega) x) (fun c k G9 h => ⟨by rw [h.ext.get _ (by omega), s2]; rfl, by rw [h.ext.get _ (by omega), s1]; rfl, by have := h.nx; omega, hMX.ext h.ext⟩) (fun c G9 _ h => ⟨h.ext, h.nx, h.b3, h.b4, fun a j a1 a2 a3 => h.no a j (by omega) a2 a3⟩) (fun c k G9 hc hk hj hl => r72 m W.next G.next H97.next W.next c k i n mb cv least cols pr o T0 H98 G9 x0 x1 x2 xm xp xo s3b (by omega) (by omega) (by omega) hMX hcl (by omega) hN9 hn9 m4 hls hH hj hl (Nat.le_refl _) hk (by omega)) hJ0 (by show W.next ≤ H98.lo; exact g98.lo) (by omega) hC (by omega) hcl hn9 hN9 (by omega) hls
    rw [s3b]
    rcases k2 with k2 | k2
    · -- to its end
      have kn := k2.nx
      refine ⟨v3, H3, k1, _, _, T0, [22], as72, bd72, H97.next + 3, k2.b4, .inl ⟨rfl, rfl, ?_⟩⟩
      have g3 : Grow W H3 := ⟨Nat.le_trans g98.next k2.ext.next, fun j hj => (k2.ext.get _ (by have := g98.next; omega)).trans (g98.get j hj), k3⟩
      have y0 := (k2.ext.get W.next (by omega)).trans x0
      have y1 := (k2.ext.get (W.next + 1) (by omega)).trans x1
      have y2 := (k2.ext.get (W.next + 2) (by omega)).trans x2
      have yd := k2.b3
      have hd3 : ∀ d, W.next + 3 ≤ d → d < G.next → H3.get d = G.get d := fun d d1 d2 => (k2.ext.get d (by omega)).trans (hd98 d d1 d2)
      clear k1
      refine Ok.region ?_
      refine OkO.bin rfl rfl rfl (bin_add (by omega) (by omega)) ?_
      refine OkO.move rfl rfl ?_
      refine OkO.nil ?_
      refine ⟨cols.length - (i + 1), by omega, i + 1, rfl, by omega, (by (try dsimp only); repeat (first | exact g3 | apply Grow.new | (refine Grow.put ?_ _ (by first | omega | (simp only [hNw, hPt]; omega))))), (by simp only [hNw, hPt]; omega), (by first | assumption | (simp (disch := first | omega | (simp only [hNw, hPt]; omega)) only [gn0, gn1, gn2, gn3, gn4, gn5, gp0, gno, gpo] <;> first | rfl | assumption | exact gp0 _ _ _ | exact gn0 _ _)), (by first | assumption | (simp (disch := first | omega | (simp only [hNw, hPt]; omega)) only [gn0, gn1, gn2, gn3, gn4, gn5, gp0, gno, gpo] <;> first | rfl | assumption | exact gp0 _ _ _ | exact gn0 _ _)), (by first | assumption | (simp (disch := first | omega | (simp only [hNw, hPt]; omega)) only [gn0, gn1, gn2, gn3, gn4, gn5, gp0, gno, gpo] <;> first | rfl | assumption | exact gp0 _ _ _ | exact gn0 _ _)), fun la a j l1 l2 l3 => ?_, Has.of (by kernel_rfl), ?_, ?_⟩
      · by_cases hla : la = i
        · rw [hla] at l2 ⊢; exact k2.no a j (by omega) l3 (by omega)
        · exact hno la a j (by omega) l2 l3
      · exact List.nodup_cons.2 ⟨fun h9 => by have := (hD2 _ h9).2.1; omega, hD1⟩
      · intro d hd
        rcases List.mem_cons.1 hd with rfl | hd
        · exact ⟨by omega, (by simp only [hNw, hPt]; omega), (by first | assumption | (simp (disch := first | omega | (simp only [hNw, hPt]; omega)) only [gn0, gn1, gn2, gn3, gn4, gn5, gp0, gno, gpo] <;> first | rfl | assumption | exact gp0 _ _ _ | exact gn0 _ _))⟩
        · obtain ⟨d1, d2, d3⟩ := hD2 d hd
          exact ⟨d1, (by simp only [hNw, hPt]; omega), by rw [gpo _ _ _ _ (by omega), gpo _ _ _ _ (by omega), hd3 d d1 d2]; exact d3⟩
    · -- left
      obtain ⟨fr, us, bv, e1, e2, e3, e4, e5, e6, e7, e8⟩ := k2.b1
      have kn := k2.nx
      refine ⟨v3, H3, k1, _, _, T0, [22], as72, bd72, H97.next + 3, k2.b4, .inr ⟨0, rfl, rfl, ?_⟩⟩
      have g3 : Grow W H3 := ⟨by have := g98.next; omega, fun j hj => (k2.get _ (by have := g98.next; omega) (by omega) (by omega)).trans (g98.get j hj), k3⟩
      have y1 := e1
      have y2 := k2.b2
      have yd := k2.b3
      have hd3 : ∀ d, W.next + 3 ≤ d → d < G.next → H3.get d = G.get d := fun d d1 d2 => (k2.get d (by omega) (by omega) (by omega)).trans (hd98 d d1 d2)
      have y1b : (H3.get (W.next + 1)).bind AObj.cs = some [I (fr : Int), bv] := by rw [e1]; rfl
      have y2b : (H3.get (W.next + 2)).bind AObj.cs = some [.bool true] := by rw [y2]; rfl
      have hone : bv.cells = [bv] ∧ bv.atom = true := e2.one
      have hat : atoms [I (fr : Int), bv] = true := by (rw [atoms, atoms, hone.2]; rfl)
      have hfl : bv.flat = false := by (rcases e2 with ⟨h, _⟩ | ⟨_, _, h, _⟩); (· exact absurd h e3); (· rw [h]; rfl)
      clear k1
      refine Ok.seq ?_
      refine Ok.drawn [(0, true, []), (1, true, []), (2, false, [1]), (3, false, [])] (by kernel_rfl) ?_
      refine OkP.step ?_
      refine OkO.load rfl rfl (ldg (n := 2) (by kernel_rfl) (by first | assumption | (simp (disch := first | omega | (simp only [hNw, hPt]; omega)) only [gn0, gn1, gn2, gn3, gn4, gn5, gp0, gno, gpo] <;> first | rfl | assumption | exact gp0 _ _ _ | exact gn0 _ _)) (by first | rfl | assumption)) ?_
      refine OkO.nil ⟨rfl, ?_⟩
      refine OkP.step ?_
      refine OkO.load rfl rfl (lda (n := 1) (by kernel_rfl) (by first | assumption | (simp (disch := first | omega | (simp only [hNw, hPt]; omega)) only [gn0, gn1, gn2, gn3, gn4, gn5, gp0, gno, gpo] <;> first | rfl | assumption | exact gp0 _ _ _ | exact gn0 _ _)) (by first | rfl | assumption)) ?_
      refine OkO.nil ⟨rfl, ?_⟩
      refine OkP.step ?_
      refine OkO.store rfl rfl rfl (stc (n := 2) (ag := true) (by kernel_rfl) (by first | assumption | (simp (disch := first | omega | (simp only [hNw, hPt]; omega)) only [gn0, gn1, gn2, gn3, gn4, gn5, gp0, gno, gpo] <;> first | rfl | assumption | exact gp0 _ _ _ | exact gn0 _ _)) rfl (by first | rfl | assumption) (by first | rfl | exact spl_set _ _ _ (by first | assumption | (simp; omega)))) ?_
      refine OkO.nil ⟨(sco (sld rfl rfl (lda (n := 1) (by kernel_rfl) (by first | assumption | (simp (disch := first | omega | (simp only [hNw, hPt]; omega)) only [gn0, gn1, gn2, gn3, gn4, gn5, gp0, gno, gpo] <;> first | rfl | assumption | exact gp0 _ _ _ | exact gn0 _ _)) (by first | rfl | assumption)) rfl (eqr _ (by first | rfl | exact lpl (by assumption) | (simp [AV.plain, AV.plains, AV.cells, pc])))) rfl), ?_⟩
      refine OkP.step ?_
      refine OkO.store rfl rfl rfl (stc (n := 1) (ag := false) (by kernel_rfl) (by first | assumption | (simp (disch := first | omega | (simp only [hNw, hPt]; omega)) only [gn0, gn1, gn2, gn3, gn4, gn5, gp0, gno, gpo] <;> first | rfl | assumption | exact gp0 _ _ _ | exact gn0 _ _)) rfl (by first | rfl | assumption) (by first | rfl | exact spl_set _ _ _ (by first | assumption | (simp; omega)))) ?_
      refine OkO.nil ⟨rfl, ?_⟩
      refine OkP.nil ?_
      refine Ok.ret ⟨.inr rfl, ?_⟩
      refine back_marksN (ds := (H97.next + 3) :: D) (v := .tup [.agg [I (fr : Int), bv], .bool true]) (List.nodup_cons.2 ⟨fun h9 => by have := (hD2 _ h9).2.1; omega, hD1⟩) (fun d hd => ?_) (fun G9 hG9 => resV_cell rfl (ldg (n := 2) (by kernel_rfl) (by rw [hG9 (W.next + 1) (fun h9 => by (rcases List.mem_cons.1 h9 with q | q); (· omega); (· have := (hD2 _ q).1; omega))]; first | (rw [gn0]; rfl) | (simp (disch := first | omega | (simp only [hNw, hPt]; omega)) only [gn0, gn1, gn2, gn3, gn4, gn5, gp0, gno, gpo] <;> first | rfl | assumption | exact gp0 _ _ _ | exact gn0 _ _)) (by first | rfl | assumption)) (resV_cell rfl (lda (n := 1) (by kernel_rfl) (by rw [hG9 (W.next + 2) (fun h9 => by (rcases List.mem_cons.1 h9 with q | q); (· omega); (· have := (hD2 _ q).1; omega))]; first | (rw [gn0]; rfl) | (simp (disch := first | omega | (simp only [hNw, hPt]; omega)) only [gn0, gn1, gn2, gn3, gn4, gn5, gp0, gno, gpo] <;> first | rfl | assumption | exact gp0 _ _ _ | exact gn0 _ _)) (by first | rfl | assumption)) resV_nil)) rfl (by rw [← hW]; exact (by (try dsimp only); repeat (first | exact g3 | apply Grow.new | (refine Grow.put ?_ _ (by first | omega | (simp only [hNw, hPt]; omega)))))) (fun d hd => ?_) (by simp [AV.flat, AV.flats, hfl]) (fun H9 p1 p2 p3 => .inl ⟨fr, us, bv, rfl, p1, ?_, e3, e4, e5, e6, by omega, e8⟩)
      · rcases List.mem_cons.1 hd with rfl | hd
        · first | (rw [gn0]; rfl) | (simp (disch := first | omega | (simp only [hNw, hPt]; omega)) only [gn0, gn1, gn2, gn3, gn4, gn5, gp0, gno, gpo] <;> first | rfl | assumption | exact gp0 _ _ _ | exact gn0 _ _)
        · obtain ⟨d1, d2, d3⟩ := hD2 d hd
          simp (disch := first | omega | (simp only [hNw, hPt]; omega)) only [gno, gpo]; rw [hd3 d d1 d2]; exact d3
      · rcases List.mem_cons.1 hd with rfl | hd
        · omega
        · have := (hD2 d hd).1; omega
      · rcases e2 with ⟨h, _⟩ | ⟨b9, m9, h1, h2, h3, h4, h5⟩
        · exact absurd h e3
        · refine .inr ⟨b9, m9, h1, ?_, h3, by omega, by rw [p3]; simp only [hNw, hPt]; exact h5⟩
          rw [p2 b9 (fun h9 => by (rcases List.mem_cons.1 h9 with q | q); (· omega); (· have := (hD2 _ q).2.1; omega))]
          simp (disch := first | omega | (simp only [hNw, hPt]; omega)) only [gno, gpo]; exact h2
  · -- no h1
    have hil : i = cols.length := by (have : ¬ i < cols.length := by simpa using h1); omega
    refine Ok.exit ?_
    refine Ok.seq ?_
    refine Ok.drawn [(0, true, []), (1, true, []), (2, false, [1]), (3, false, [])] (by kernel_rfl) ?_
    refine OkP.step ?_
    refine OkO.load rfl rfl (ldg (n := 2) (by kernel_rfl) (by first | assumption | (simp (disch := first | omega | (simp only [hNw, hPt]; omega)) only [gn0, gn1, gn2, gn3, gn4, gn5, gp0, gno, gpo] <;> first | rfl | assumption | exact gp0 _ _ _ | exact gn0 _ _)) (by first | rfl | assumption)) ?_
    refine OkO.nil ⟨rfl, ?_⟩
    refine OkP.step ?_
    refine OkO.load rfl rfl (lda (n := 1) (by kernel_rfl) (by first | assumption | (simp (disch := first | omega | (simp only [hNw, hPt]; omega)) only [gn0, gn1, gn2, gn3, gn4, gn5, gp0, gno, gpo] <;> first | rfl | assumption | exact gp0 _ _ _ | exact gn0 _ _)) (by first | rfl | assumption)) ?_
    refine OkO.nil ⟨rfl, ?_⟩
    refine OkP.step ?_
    refine OkO.store rfl rfl rfl (stc (n := 2) (ag := true) (by kernel_rfl) (by first | assumption | (simp (disch := first | omega | (simp only [hNw, hPt]; omega)) only [gn0, gn1, gn2, gn3, gn4, gn5, gp0, gno, gpo] <;> first | rfl | assumption | exact gp0 _ _ _ | exact gn0 _ _)) rfl (by first | rfl | assumption) (by first | rfl | exact spl_set _ _ _ (by first | assumption | (simp; omega)))) ?_
    refine OkO.nil ⟨(sco (sld rfl rfl (lda (n := 1) (by kernel_rfl) (by first | assumption | (simp (disch := first | omega | (simp only [hNw, hPt]; omega)) only [gn0, gn1, gn2, gn3, gn4, gn5, gp0, gno, gpo] <;> first | rfl | assumption | exact gp0 _ _ _ | exact gn0 _ _)) (by first | rfl | assumption)) rfl (eqr _ (by first | rfl | exact lpl (by assumption) | (simp [AV.plain, AV.plains, AV.cells, pc])))) rfl), ?_⟩
    refine OkP.step ?_
    refine OkO.store rfl rfl rfl (stc (n := 1) (ag := false) (by kernel_rfl) (by first | assumption | (simp (disch := first | omega | (simp only [hNw, hPt]; omega)) only [gn0, gn1, gn2, gn3, gn4, gn5, gp0, gno, gpo] <;> first | rfl | assumption | exact gp0 _ _ _ | exact gn0 _ _)) rfl (by first | rfl | assumption) (by first | rfl | exact spl_set _ _ _ (by first | assumption | (simp; omega)))) ?_
    refine OkO.nil ⟨rfl, ?_⟩
    refine OkP.nil ?_
    refine Ok.ret ⟨.inr rfl, ?_⟩
    refine ⟨.tup [.agg [I 0, .nils], .bool false], H, back_marksF hD1 (fun d hd => by (obtain ⟨d1, d2, d3⟩ := hD2 d hd); (simp (disch := first | omega | (simp only [hNw, hPt]; omega)) only [gno, gpo]); exact d3) (fun G9 hG9 => resV_cell rfl (ldg (n := 2) (by kernel_rfl) (by rw [hG9 (W.next + 1) (fun h9 => by have := (hD2 _ h9).1; omega)]; first | (rw [gn0]; rfl) | (simp (disch := first | omega | (simp only [hNw, hPt]; omega)) only [gn0, gn1, gn2, gn3, gn4, gn5, gp0, gno, gpo] <;> first | rfl | assumption | exact gp0 _ _ _ | exact gn0 _ _)) (by first | rfl | assumption)) (resV_cell rfl (lda (n := 1) (by kernel_rfl) (by rw [hG9 (W.next + 2) (fun h9 => by have := (hD2 _ h9).1; omega)]; first | (rw [gn0]; rfl) | (simp (disch := first | omega | (simp only [hNw, hPt]; omega)) only [gn0, gn1, gn2, gn3, gn4, gn5, gp0, gno, gpo] <;> first | rfl | assumption | exact gp0 _ _ _ | exact gn0 _ _)) (by first | rfl | assumption)) resV_nil)) rfl (by rw [← hW]; exact (by (try dsimp only); repeat (first | exact hg | exact hG | apply Grow.new | (refine Grow.put ?_ _ (by first | omega | (simp only [hNw, hPt]; omega)))))) (fun d hd => by have := (hD2 d hd).1; omega) rfl, .inr ⟨rfl, rfl, fun fr us u1 u2 u3 u4 => ?_⟩⟩
    cases us with
    | nil => exact absurd rfl u2
    | cons k9 l9 =>
      have h1 := sumR_le (pr := pr) (n := n) (last := fr + l9.length) l9 k9 fr u1 rfl
      simp only [List.length_cons] at u3 u4
      have h2 := hno (fr + l9.length) fr k9 (by omega) (by omega) u1.head
      rw [Nat.add_sub_cancel_left] at h2
      omega
end
end Go.Ev

set_option maxRecDepth 100000
set_option linter.unusedSimpArgs false
set_option linter.unusedVariables false
namespace Go.Ev
open Go Go.Proofs
noncomputable section
theorem wrapF_u64 {n : Int} (h1 : 0 ≤ n) (h2 : n < 9223372036854775808) : wrapF .u64 n = n := by
  rw [wrapF_eq]
  exact IntWalk.u64_in _ (by omega)
theorem bin_shr1 (a : Nat) : bin .shr .u64 (a : Int) .u64 1 = some (.int .u64 ((a / 2 : Nat) : Int)) := by
  show some (AV.int .u64 (.ofNat (Nat.shiftRight a 1))) = _
  rw [show Nat.shiftRight a 1 = a / 2 from Nat.shiftRight_succ a 0]
  rfl
/-- A function that answers for each number below some. -/
def CallI (m : Nat) (fv : AV) (H : Heap) (n : Nat) (Pd : Nat → Bool) : Prop := ∀ i, i < n → ∃ f bs, Go.Ev.callV fv [I (i : Int)] = some (.fn f bs) ∧ ∀ G, Ext H G → RR m (.fn f bs) G = some (.bool (Pd i), G)
theorem c69 (m : Nat) (n : Nat) (fv : AV) (Pd : Nat → Bool) (H : Heap) (hn : n ≤ 1000000) (hcall : CallI m fv H n Pd) : ∃ v H', RR (m + 1) (.fn 69 [I (n : Int), fv]) H = some (v, H') ∧ ∃ r : Nat, v = I (r : Int) ∧ H' = H ∧ r ≤ n ∧ (r = 0 ∨ Pd (r - 1) = false) ∧ (r = n ∨ Pd r = true) := by
  show ∃ v H', evFn Try.prog (RR (m + 0)) 69 [I (n : Int), fv] H = some (v, H') ∧ ∃ r : Nat, v = I (r : Int) ∧ H' = H ∧ r ≤ n ∧ (r = 0 ∨ Pd (r - 1) = false) ∧ (r = n ∨ Pd r = true)
  refine fn_okE Try.func69 rfl rfl (by kernel_rfl) (by kernel_rfl) ?_
  obtain ⟨W, hW⟩ : ∃ W : Heap, W = ⟨H.t, H.next, H.next⟩ := ⟨_, rfl⟩
  have hg : ∀ n, W.get n = H.get n := fun n => by rw [hW]; rfl
  have hN : W.next = H.next := by rw [hW]
  have hE : ∀ G, Grow W G → Ext H G := fun G g => ⟨by rw [← hN]; exact g.next, fun n k => by rw [g.get n (by rw [hN]; exact k), hg]⟩
  have hG : Grow W W := Grow.refl (by rw [hW]; exact Nat.le_refl _)
  rw [← hW]
  refine Ok.seq ?_
  refine Ok.region ?_
  refine OkO.assign rfl rfl ?_
  refine OkO.nil ?_
  refine Ok.seq ?_
  refine Ok.region ?_
  refine OkO.move rfl rfl ?_
  refine OkO.assign rfl rfl ?_
  refine OkO.assign rfl rfl ?_
  refine OkO.nil ?_
  refine Ok.seq ?_
  refine Ok.block ?_
  refine Ok.loop (fun n9 s_ => ∃ lo hi : Nat, n9 = hi - lo ∧ lo ≤ hi ∧ hi ≤ n ∧ (lo = 0 ∨ Pd (lo - 1) = false) ∧ (hi = n ∨ Pd hi = true) ∧ Has 5 [(1, fv), (5, I (lo : Int)), (6, I (hi : Int))] s_.T ∧ s_.D = [] ∧ Grow W s_.H) (n) (by unfold loopFuel; omega)
    ⟨0, n, rfl, Nat.zero_le _, Nat.le_refl _, .inl rfl, .inl rfl, Has.of (by kernel_rfl), rfl, hG⟩ ?_
  rintro n9 ⟨T, D, G⟩ ⟨lo, hi, hn9, hlh, hhn, hlo, hhi, ⟨f, hT⟩, hD, hg⟩
  dsimp only at *
  subst hT hD
  have hgn := hg.next
  refine Ok.seq ?_
  refine Ok.seq ?_
  refine Ok.region ?_
  refine OkO.move rfl rfl ?_
  refine OkO.move rfl rfl ?_
  refine OkO.bin rfl rfl rfl (bin_lss _ _) ?_
  refine OkO.nil ?_
  refine Ok.cond rfl (fun h1 => ?_) (fun h1 => ?_)
  · -- yes h1
    have hlt : lo < hi := by simpa using h1
    have hmid : ((lo + hi) / 2) < n := by omega
    obtain ⟨cf, cbs, hc1, hc2⟩ := hcall ((lo + hi) / 2) hmid
    refine Ok.skip ?_
    refine Ok.block ?_
    refine Ok.seq ?_
    refine Ok.region ?_
    refine OkO.move rfl rfl ?_
    refine OkO.move rfl rfl ?_
    refine OkO.bin rfl rfl rfl (bin_add (by omega) (by omega)) ?_
    refine OkO.convert (k := .u64) rfl (by kernel_rfl) rfl (by first | exact wrapF_u64 (by omega) (by omega) | exact wrapF_i64 (by omega) (by omega)) ?_
    refine OkO.bin rfl rfl rfl (bin_shr1 (lo + hi)) ?_
    refine OkO.convert (k := .i64) rfl (by kernel_rfl) rfl (by first | exact wrapF_u64 (by omega) (by omega) | exact wrapF_i64 (by omega) (by omega)) ?_
    refine OkO.assign rfl rfl ?_
    refine OkO.nil ?_
    refine Ok.seq ?_
    refine Ok.region ?_
    refine OkO.move rfl rfl ?_
    refine OkO.move rfl rfl ?_
    refine OkO.callV rfl rfl rfl rfl hc1 (hc2 _ (hE _ hg)) ?_ -- ('Go.Operand.tmp', 18)
    refine OkO.un rfl rfl rfl ?_
    refine OkO.nil ?_
    refine Ok.cond rfl (fun h2 => ?_) (fun h2 => ?_)
    · -- yes h2
      have hpf : Pd (((lo + hi) / 2) + 1 - 1) = false := by simpa using h2
      refine Ok.region ?_
      refine OkO.move rfl rfl ?_
      refine OkO.bin rfl rfl rfl (bin_add (by omega) (by omega)) ?_
      refine OkO.assign rfl rfl ?_
      refine OkO.nil ?_
      first | exact ⟨hi - (((lo + hi) / 2) + 1), by omega, ((lo + hi) / 2) + 1, hi, rfl, by omega, hhn, .inr hpf, hhi, Has.of (by kernel_rfl), rfl, hg⟩ | exact ⟨((lo + hi) / 2) - lo, by omega, lo, ((lo + hi) / 2), rfl, by omega, by omega, hlo, .inr hpt, Has.of (by kernel_rfl), rfl, hg⟩
    · -- no h2
      have hpt : Pd ((lo + hi) / 2) = true := by simpa using h2
      refine Ok.region ?_
      refine OkO.move rfl rfl ?_
      refine OkO.assign rfl rfl ?_
      refine OkO.nil ?_
      first | exact ⟨hi - (((lo + hi) / 2) + 1), by omega, ((lo + hi) / 2) + 1, hi, rfl, by omega, hhn, .inr hpf, hhi, Has.of (by kernel_rfl), rfl, hg⟩ | exact ⟨((lo + hi) / 2) - lo, by omega, lo, ((lo + hi) / 2), rfl, by omega, by omega, hlo, .inr hpt, Has.of (by kernel_rfl), rfl, hg⟩
  · -- no h1
    have hge : lo = hi := by simp at h1; omega
    subst hge
    refine Ok.exit ?_
    refine Ok.seq ?_
    refine Ok.region ?_
    refine OkO.move rfl rfl ?_
    refine OkO.assign rfl rfl ?_
    refine OkO.nil ?_
    refine Ok.ret ⟨.inr rfl, ?_⟩
    exact ⟨_, _, back_flat rfl rfl rfl (by rw [← hW]; exact hg), lo, rfl, rfl, hhn, hlo, hhi⟩
/-- A bed of a slope. -/
def bedAt (cols : List (List Bed)) (c k : Nat) : Bed := (cols.getD c []).getD k ⟨0, 0, 0, 0, 0, 0, 0, 0⟩
def BedsOk (cols : List (List Bed)) : Prop := ∀ c ∈ cols, ∀ b ∈ c, b.ok = true
theorem bedAt_ok {cols : List (List Bed)} (h : BedsOk cols) (c k : Nat) : (bedAt cols c k).ok = true := by
  unfold bedAt
  rw [List.getD_eq_getElem?_getD, List.getD_eq_getElem?_getD]
  cases hc : cols[c]? with
  | none => rfl
  | some col =>
    dsimp only [Option.getD_some]
    cases hk : col[k]? with
    | none => rfl
    | some bd => exact h col (List.mem_of_getElem? hc) bd (List.mem_of_getElem? hk)
def prC (cols : List (List Bed)) (fa : Int) (c k : Nat) : Int := costOf fa (bedAt cols c k)
def prL (cols : List (List Bed)) (c k : Nat) : Int := -(bedAt cols c k).dr
theorem prC_bd {cols : List (List Bed)} (h : BedsOk cols) {fa : Int} (hf : 0 ≤ fa ∧ fa ≤ 10000) : PrB (prC cols fa) := fun c k => by
  have hb := bedAt_ok h c k
  have h1 := weak_bd hb
  have h2 := Bed.ok_lim hb
  unfold Bed.lim at h2
  have h3 := mul_bd hf ⟨h2.1.1, h2.1.2⟩
  unfold prC costOf
  omega
theorem prL_bd {cols : List (List Bed)} (h : BedsOk cols) : PrB (prL cols) := fun c k => by
  have h2 := Bed.ok_lim (bedAt_ok h c k)
  unfold Bed.lim at h2
  unfold prL
  omega
theorem bedAt_get {cols : List (List Bed)} {n c k : Nat} (hcl : ∀ c ∈ cols, c.length = n) (hc : c < cols.length) (hk : k < n) : ∃ col, cols[c]? = some col ∧ col[k]? = some (bedAt cols c k) := by
  have h1 := hcl cols[c] (List.getElem_mem hc)
  refine ⟨cols[c], List.getElem?_eq_getElem hc, ?_⟩
  unfold bedAt
  rw [List.getD_eq_getElem?_getD, List.getD_eq_getElem?_getD, List.getElem?_eq_getElem hc]
  simp [h1, hk]
theorem callP_cost (m : Nat) (cv : AV) (cols : List (List Bed)) (least fa : Int) (n : Nat) (H : Heap) (hM : Mat H cv cols) (hcl : ∀ c ∈ cols, c.length = n) (hok : BedsOk cols) (hN9 : cols.length ≤ 100) (hn9 : n ≤ 1000) (hf : 0 ≤ fa ∧ fa ≤ 10000) :
    CallP (m + 4) (.fn 71 [.agg [cv, I least, I fa, .fn 66 [] []]] []) H cols.length n (prC cols fa) := fun c k hc hk => by
  obtain ⟨col, h1, h2⟩ := bedAt_get hcl hc hk
  exact ⟨71, _, rfl, fun G hG => c71 m cv cols least fa c k col _ G (hM.ext hG) h1 h2 (bedAt_ok hok c k) (by omega) (by omega) hf⟩
theorem callP_lift (m : Nat) (cv fu : AV) (cols : List (List Bed)) (least fa : Int) (n : Nat) (H : Heap) (hM : Mat H cv cols) (hcl : ∀ c ∈ cols, c.length = n) (hok : BedsOk cols) (hN9 : cols.length ≤ 100) (hn9 : n ≤ 1000) :
    CallP (m + 1) (.fn 68 [.agg [cv, I least, I fa, fu]] []) H cols.length n (prL cols) := fun c k hc hk => by
  obtain ⟨col, h1, h2⟩ := bedAt_get hcl hc hk
  exact ⟨68, _, rfl, fun G hG => c68 m cv fu cols least fa c k col _ G (hM.ext hG) h1 h2 (bedAt_ok hok c k) (by omega) (by omega)⟩
/-- A surface of a slope of so many columns and beds. -/
def Surf (N n : Nat) (least : Int) (fr : Nat) (us : List Nat) : Prop := Walk n us ∧ us ≠ [] ∧ least ≤ us.length ∧ fr + us.length ≤ N
open Classical in
/-- Is some surface's sum of prices below 0? -/
noncomputable def belowB (N n : Nat) (least : Int) (pr : Nat → Nat → Int) : Bool := decide (∃ fr us, Surf N n least fr us ∧ walkSum pr fr us < 0)
theorem belowB_true {N n : Nat} {least : Int} {pr : Nat → Nat → Int} : belowB N n least pr = true ↔ ∃ fr us, Surf N n least fr us ∧ walkSum pr fr us < 0 := by unfold belowB; simp
theorem belowB_false {N n : Nat} {least : Int} {pr : Nat → Nat → Int} : belowB N n least pr = false ↔ ∀ fr us, Surf N n least fr us → 0 ≤ walkSum pr fr us := by
  unfold belowB
  rw [decide_eq_false_iff_not]
  constructor
  · intro h fr us hs
    by_cases h1 : 0 ≤ walkSum pr fr us
    · exact h1
    · exact absurd ⟨fr, us, hs, by omega⟩ h
  · rintro h ⟨fr, us, hs, h1⟩
    have := h fr us hs
    omega
theorem c72b (m n : Nat) (cv pv : AV) (cols : List (List Bed)) (least : Int) (pr : Nat → Nat → Int) (H : Heap) (hM : Mat H cv cols) (hcl : ∀ c ∈ cols, c.length = n) (hN9 : cols.length ≤ 100) (hn9 : 1 ≤ n ∧ n ≤ 1000) (hls : 1 ≤ least ∧ least ≤ 4) (hB : PrB pr) (hP : CallP (m + 106) pv H cols.length n pr) :
    ∃ v H', RR (m + 108) (.fn 72 [.agg [cv, I least], pv]) H = some (v, H') ∧ Ret H H' ∧ ∃ x y, v = .tup [.agg [x, y], .bool (belowB cols.length n least pr)] ∧ atoms [x, y] = true ∧
      ((∃ (fr : Nat) (us : List Nat), x = I (fr : Int) ∧ belowB cols.length n least pr = true ∧ Mine H.next H' y 3 1 (us.map fun (k : Nat) => I (k : Int)) ∧ y ≠ .nils ∧ Surf cols.length n least fr us ∧ walkSum pr fr us < 0) ∨ (x = I 0 ∧ y = .nils ∧ H' = H ∧ belowB cols.length n least pr = false)) := by
  obtain ⟨v, H', h1, h2⟩ := c72 m n cv pv cols least pr H hM hcl hN9 hn9 hls hB hP
  rcases h2 with ⟨fr, us, bv, rfl, q72, qm, qn, qw, ql, qs, qf, qp⟩ | ⟨rfl, rfl, hno⟩
  · have hb : belowB cols.length n least pr = true := belowB_true.2 ⟨fr, us, ⟨qw, qs, ql, qf⟩, qp⟩
    exact ⟨_, H', h1, q72, I (fr : Int), bv, by rw [hb], by (rw [atoms, atoms, qm.one.2]; rfl), .inl ⟨fr, us, rfl, hb, qm, qn, ⟨qw, qs, ql, qf⟩, qp⟩⟩
  · have hb : belowB cols.length n least pr = false := belowB_false.2 (fun fr us hs => hno fr us hs.1 hs.2.1 hs.2.2.1 hs.2.2.2)
    exact ⟨_, H', h1, Ret.refl _, I 0, .nils, by rw [hb], rfl, .inr ⟨rfl, rfl, rfl, hb⟩⟩
theorem c70 (m : Nat) (n : Nat) (cv : AV) (cols : List (List Bed)) (least fa : Int) (H : Heap) (hM : Mat H cv cols) (hcl : ∀ c ∈ cols, c.length = n) (hN9 : cols.length ≤ 100) (hn9 : 1 ≤ n ∧ n ≤ 1000) (hls : 1 ≤ least ∧ least ≤ 4) (hok : BedsOk cols) (hf : 0 ≤ fa ∧ fa ≤ 10000) : RR (m + 209) (.fn 70 [.agg [cv, I least], I fa]) H = some (.bool (belowB cols.length n least (prC cols fa)), H) := by
  refine (R_fn _ _ _ _ _).trans ?_
  refine fn_ok Try.func70 rfl rfl (by kernel_rfl) (by kernel_rfl) ?_
  obtain ⟨W, hW⟩ : ∃ W : Heap, W = ⟨H.t, H.next, H.next⟩ := ⟨_, rfl⟩
  have hg : ∀ n, W.get n = H.get n := fun n => by rw [hW]; rfl
  have hN : W.next = H.next := by rw [hW]
  have hE : ∀ G, Grow W G → Ext H G := fun G g => ⟨by rw [← hN]; exact g.next, fun n k => by rw [g.get n (by rw [hN]; exact k), hg]⟩
  have hG : Grow W W := Grow.refl (by rw [hW]; exact Nat.le_refl _)
  rw [← hW]
  have pc : cv.plain = true := by obtain ⟨vs, hR, _, _⟩ := hM; exact lpl hR.len
  refine Ok.seq ?_
  refine Ok.region ?_
  refine OkO.box rfl rfl ?_
  refine OkO.assign rfl rfl ?_
  refine OkO.nil ?_
  refine Ok.seq ?_
  refine Ok.region ?_
  refine OkO.load rfl rfl (ldg (n := 2) (by kernel_rfl) (by first | assumption | (simp (disch := first | omega | (simp only [hNw, hPt]; omega)) only [gn0, gn1, gn2, gn3, gn4, gn5, gp0, gno, gpo] <;> first | rfl | assumption | exact gp0 _ _ _ | exact gn0 _ _)) (by first | rfl | assumption)) ?_
  refine OkO.load rfl rfl (ldg (n := 2) (by kernel_rfl) (by first | assumption | (simp (disch := first | omega | (simp only [hNw, hPt]; omega)) only [gn0, gn1, gn2, gn3, gn4, gn5, gp0, gno, gpo] <;> first | rfl | assumption | exact gp0 _ _ _ | exact gn0 _ _)) (by first | rfl | assumption)) ?_
  refine OkO.move rfl rfl ?_
  refine OkO.build (z := [.nils, .int .i64 0, .int .i64 0, .nilf]) (pl := [(0, 2), (2, 1), (3, 1)]) rfl (by kernel_rfl) rfl rfl ?_
  refine OkO.makeFunc rfl rfl rfl ?_
  refine OkO.callE rfl rfl rfl rfl rfl (c72b (m + 100) n cv _ cols least (prC cols fa) _ (hM.ext (hE _ (by (try dsimp only); repeat (first | exact hG | apply Grow.new | (refine Grow.put ?_ _ (by first | omega | (simp only [hNw, hPt]; omega))))))) hcl hN9 hn9 hls (prC_bd hok hf) (callP_cost (m + 202) cv cols least fa n _ (hM.ext (hE _ (by (try dsimp only); repeat (first | exact hG | apply Grow.new | (refine Grow.put ?_ _ (by first | omega | (simp only [hNw, hPt]; omega))))))) hcl hok hN9 hn9.2 hf)) ?_ -- "(sackung/slope.Slope).find"
  rintro v72 H72 ⟨q72, x72, y72, rfl, hu1, _⟩
  have g72 : Grow W H72 := Grow.ret (by (try dsimp only); repeat (first | exact hG | apply Grow.new | (refine Grow.put ?_ _ (by first | omega | (simp only [hNw, hPt]; omega))))) q72
  have n72 := g72.next
  refine OkO.move rfl rfl ?_
  refine OkO.extract rfl rfl rfl ?_
  refine OkO.extract rfl rfl rfl ?_
  refine OkO.alloc (z := [.int .i64 0, .nils]) rfl (by kernel_rfl) ?_
  refine OkO.store rfl rfl rfl (stc (n := 2) (ag := true) (by kernel_rfl) (by first | assumption | (simp (disch := first | omega | (simp only [hNw, hPt]; omega)) only [gn0, gn1, gn2, gn3, gn4, gn5, gp0, gno, gpo] <;> first | rfl | assumption | exact gp0 _ _ _ | exact gn0 _ _)) rfl (by first | rfl | assumption) (by first | rfl | exact spl_set _ _ _ (by first | assumption | (simp; omega)))) ?_
  refine OkO.assign rfl rfl ?_
  refine OkO.nil ?_
  refine Ok.seq ?_
  refine Ok.region ?_
  refine OkO.move rfl rfl ?_
  refine OkO.assign rfl rfl ?_
  refine OkO.nil ?_
  refine Ok.ret ⟨.inr rfl, ?_⟩
  exact back_flat (resV_tmp rfl resV_nil) rfl rfl (by rw [← hW]; exact (by (try dsimp only); repeat (first | exact g72 | apply Grow.new | (refine Grow.put ?_ _ (by first | omega | (simp only [hNw, hPt]; omega))))))
end
end Go.Ev

set_option maxRecDepth 100000
set_option linter.unusedSimpArgs false
set_option linter.unusedVariables false
namespace Go.Ev
open Go Go.Proofs
noncomputable section
/-- The beds of a walk. -/
def bedsW (cols : List (List Bed)) : Nat → List Nat → List Bed
  | _, [] => []
  | c, k :: l => bedAt cols c k :: bedsW cols (c + 1) l
theorem bedsW_ok {cols : List (List Bed)} (h : BedsOk cols) : ∀ (us : List Nat) (c : Nat), ∀ b ∈ bedsW cols c us, b.ok = true
  | [], _ => nofun
  | k :: l, c => fun b hb => by
    rcases List.mem_cons.1 hb with rfl | hb
    · exact bedAt_ok h _ _
    · exact bedsW_ok h l (c + 1) b hb
theorem walkC (cols : List (List Bed)) (fa : Int) : ∀ (us : List Nat) (c : Nat), walkSum (prC cols fa) c us = 1000 * sumB weak (bedsW cols c us) - fa * drive (bedsW cols c us)
  | [], _ => by simp [walkSum, bedsW, sumB, drive]
  | k :: l, c => by
    rw [walkSum, walkC cols fa l (c + 1), bedsW]
    simp only [prC, costOf, sumB, drive, List.map_cons, List.sum_cons, Int.mul_add]
    omega
theorem walkL (cols : List (List Bed)) : ∀ (us : List Nat) (c : Nat), walkSum (prL cols) c us = -drive (bedsW cols c us)
  | [], _ => by simp [walkSum, bedsW, drive]
  | k :: l, c => by
    rw [walkSum, walkL cols l (c + 1), bedsW]
    simp only [prL, drive, List.map_cons, List.sum_cons]
    omega
/-- The factor that a surface has at least. -/
def facW (cols : List (List Bed)) (fr : Nat) (us : List Nat) : Int := factorOf (sumB weak (bedsW cols fr us)) (drive (bedsW cols fr us))
theorem held_nn {cols : List (List Bed)} (h : BedsOk cols) (fr : Nat) (us : List Nat) : 0 ≤ sumB weak (bedsW cols fr us) := (sumB_bd weak _ fun b hb => weak_bd (bedsW_ok h us fr b hb)).1
theorem facW_bd {cols : List (List Bed)} (h : BedsOk cols) {fr : Nat} {us : List Nat} (hd : 1 ≤ drive (bedsW cols fr us)) : 0 ≤ facW cols fr us ∧ facW cols fr us ≤ 10000 := by
  refine ⟨factorOf_nn (held_nn h fr us) (by omega), ?_⟩
  unfold facW factorOf
  omega
theorem below_fac {held dr fa : Int} (h1 : 0 ≤ held) (hf : 0 ≤ fa ∧ fa ≤ 10000) : 1000 * held - fa * dr < 0 ↔ 1 ≤ dr ∧ factorOf held dr < fa := by
  unfold factorOf
  constructor
  · intro h
    have hd : 1 ≤ dr := by
      by_cases hd : 1 ≤ dr
      · exact hd
      · have := Int.mul_nonneg hf.1 (show 0 ≤ -dr by omega)
        rw [Int.mul_neg] at this
        omega
    refine ⟨hd, ?_⟩
    have h2 : 1000 * held / dr < fa := Int.ediv_lt_of_lt_mul (by omega) (by omega)
    omega
  · rintro ⟨hd, h⟩
    have h2 : 1000 * held / dr < fa := by omega
    have h3 := Int.lt_mul_of_ediv_lt (by omega) h2
    omega
theorem below_iff {cols : List (List Bed)} (h : BedsOk cols) {fa : Int} (hf : 0 ≤ fa ∧ fa ≤ 10000) (fr : Nat) (us : List Nat) : walkSum (prC cols fa) fr us < 0 ↔ 1 ≤ drive (bedsW cols fr us) ∧ facW cols fr us < fa := by
  rw [walkC]
  exact below_fac (held_nn h fr us) hf
/-- The least factor of a slope, and a surface that has it. -/
def LowAt (cols : List (List Bed)) (n : Nat) (least : Int) (z : Int) (fr : Nat) (us : List Nat) : Prop :=
  Surf cols.length n least fr us ∧ 1 ≤ drive (bedsW cols fr us) ∧ facW cols fr us = z ∧ ∀ fr us, Surf cols.length n least fr us → 1 ≤ drive (bedsW cols fr us) → z ≤ facW cols fr us
def NoneAt (cols : List (List Bed)) (n : Nat) (least : Int) : Prop := ∀ fr us, Surf cols.length n least fr us → drive (bedsW cols fr us) < 1
theorem c31 (m : Nat) (n : Nat) (cv : AV) (cols : List (List Bed)) (least : Int) (H : Heap) (hM : Mat H cv cols) (hcl : ∀ c ∈ cols, c.length = n) (hN9 : cols.length ≤ 100) (hn9 : 1 ≤ n ∧ n ≤ 1000) (hls : 1 ≤ least ∧ least ≤ 4) (hok : BedsOk cols) (hv : slOk cols least = true) : ∃ v H', RR (m + 211) (.fn 31 [.agg [cv, I least]]) H = some (v, H') ∧ Ret H H' ∧ ((∃ (fr : Nat) (us : List Nat) (bv : AV) (z : Int), v = .tup [.agg [I (fr : Int), bv], I z, I 0] ∧ Mine H.next H' bv 3 1 (us.map fun (k : Nat) => I (k : Int)) ∧ bv ≠ .nils ∧ LowAt cols n least z fr us) ∨ (v = .tup [.agg [I 0, .nils], I 0, I 7] ∧ H' = H ∧ NoneAt cols n least)) := by
  show ∃ v H', evFn Try.prog (RR (m + 210)) 31 [.agg [cv, I least]] H = some (v, H') ∧ Ret H H' ∧ ((∃ (fr : Nat) (us : List Nat) (bv : AV) (z : Int), v = .tup [.agg [I (fr : Int), bv], I z, I 0] ∧ Mine H.next H' bv 3 1 (us.map fun (k : Nat) => I (k : Int)) ∧ bv ≠ .nils ∧ LowAt cols n least z fr us) ∨ (v = .tup [.agg [I 0, .nils], I 0, I 7] ∧ H' = H ∧ NoneAt cols n least))
  refine fn_okE Try.func31 rfl rfl (by kernel_rfl) (by kernel_rfl) ?_
  obtain ⟨W, hW⟩ : ∃ W : Heap, W = ⟨H.t, H.next, H.next⟩ := ⟨_, rfl⟩
  have hg : ∀ n, W.get n = H.get n := fun n => by rw [hW]; rfl
  have hN : W.next = H.next := by rw [hW]
  have hE : ∀ G, Grow W G → Ext H G := fun G g => ⟨by rw [← hN]; exact g.next, fun n k => by rw [g.get n (by rw [hN]; exact k), hg]⟩
  have hG : Grow W W := Grow.refl (by rw [hW]; exact Nat.le_refl _)
  rw [← hW]
  have pc : cv.plain = true := by obtain ⟨vs, hR, _, _⟩ := hM; exact lpl hR.len
  refine Ok.seq ?_
  refine Ok.region ?_
  refine OkO.box rfl rfl ?_
  refine OkO.alloc (z := [.int .i64 0, .nils]) rfl (by kernel_rfl) ?_
  refine OkO.assign rfl rfl ?_
  refine OkO.assign rfl rfl ?_
  refine OkO.nil ?_
  refine Ok.seq ?_
  refine Ok.seq ?_
  refine Ok.region ?_
  refine OkO.load rfl rfl (ldg (n := 2) (by kernel_rfl) (by first | assumption | (simp (disch := first | omega | (simp only [hNw, hPt]; omega)) only [gn0, gn1, gn2, gn3, gn4, gn5, gp0, gno, gpo] <;> first | rfl | assumption | exact gp0 _ _ _ | exact gn0 _ _)) (by first | rfl | assumption)) ?_
  refine OkO.callV rfl rfl rfl rfl rfl ((c18 (m + 203) cv cols least _ (hM.ext (hE _ (by (try dsimp only); repeat (first | exact hG | apply Grow.new | (refine Grow.put ?_ _ (by first | omega | (simp only [hNw, hPt]; omega)))))))).trans (by rw [if_pos hv])) ?_ -- "sackung/slope.CheckSlope"
  refine OkO.assign rfl rfl ?_
  refine OkO.nil ?_
  refine Ok.seq ?_
  refine Ok.region ?_
  refine OkO.move rfl rfl ?_
  refine OkO.bin rfl rfl rfl (bin_neq _ _) ?_
  refine OkO.nil ?_
  refine Ok.cond rfl (fun h1 => ?_) (fun h1 => ?_)
  · -- yes h1
    exact absurd h1 (by simp)
  · -- no h1
    refine Ok.skip ?_
    refine Ok.seq ?_
    refine Ok.region ?_
    refine OkO.load rfl rfl (ldg (n := 2) (by kernel_rfl) (by first | assumption | (simp (disch := first | omega | (simp only [hNw, hPt]; omega)) only [gn0, gn1, gn2, gn3, gn4, gn5, gp0, gno, gpo] <;> first | rfl | assumption | exact gp0 _ _ _ | exact gn0 _ _)) (by first | rfl | assumption)) ?_
    refine OkO.build (z := [.nils, .int .i64 0, .int .i64 0, .nilf]) (pl := [(0, 2), (2, 1), (3, 1)]) rfl (by kernel_rfl) rfl rfl ?_
    refine OkO.makeFunc rfl rfl rfl ?_
    refine OkO.assign rfl rfl ?_
    refine OkO.nil ?_
    refine Ok.seq ?_
    refine Ok.region ?_
    refine OkO.load rfl rfl (ldg (n := 2) (by kernel_rfl) (by first | assumption | (simp (disch := first | omega | (simp only [hNw, hPt]; omega)) only [gn0, gn1, gn2, gn3, gn4, gn5, gp0, gno, gpo] <;> first | rfl | assumption | exact gp0 _ _ _ | exact gn0 _ _)) (by first | rfl | assumption)) ?_
    refine OkO.makeFunc rfl rfl rfl ?_
    refine OkO.callE rfl rfl rfl rfl rfl (c69 (m + 209) 10001 (.fn 70 [.agg [cv, I least]] []) (fun i9 => belowB cols.length n least (prC cols (i9 : Int))) _ (by omega) (fun i hi => ⟨70, _, rfl, fun G9 hG9 => c70 m n cv cols least (i : Int) G9 (hM.ext ((hE _ (by (try dsimp only); repeat (first | exact hG | apply Grow.new | (refine Grow.put ?_ _ (by first | omega | (simp only [hNw, hPt]; omega)))))).trans hG9)) hcl hN9 hn9 hls hok (by omega)⟩)) ?_ -- "sort.Search"
    rintro v69 H69 ⟨r, rfl, rfl, r1, r2, r3⟩
    refine OkO.assign rfl rfl ?_
    refine OkO.nil ?_
    refine Ok.seq ?_
    refine Ok.seq ?_
    refine Ok.region ?_
    refine OkO.move rfl rfl ?_
    refine OkO.bin rfl rfl rfl (bin_leq _ _) ?_
    refine OkO.nil ?_
    refine Ok.cond rfl (fun h2 => ?_) (fun h2 => ?_)
    · -- yes h2
      have hr : r ≤ 10000 := by (have h9 : (r : Int) ≤ 10000 := by simpa using h2); omega
      have hpr : belowB cols.length n least (prC cols (r : Int)) = true := by (rcases r3 with h | h); (· omega); (· exact h)
      have hr0 : r ≠ 0 := by (rintro rfl); (obtain ⟨fr, us, hs, hw⟩ := belowB_true.1 hpr); (have h9 := (below_iff hok (by omega) fr us).1 hw); (have h8 := (facW_bd hok h9.1).1); omega
      have hlow : ∀ fr us, Surf cols.length n least fr us → 1 ≤ drive (bedsW cols fr us) → (r : Int) - 1 ≤ facW cols fr us := fun fr us hs hd => by (rcases r2 with h | h); (· omega); (· have h9 := belowB_false.1 h fr us hs; by_cases h8 : (r : Int) - 1 ≤ facW cols fr us; exact h8; exact absurd ((below_iff (fa := ((r - 1 : Nat) : Int)) hok (by omega) fr us).2 ⟨hd, by omega⟩) (by omega))
      refine Ok.region ?_
      refine OkO.load rfl rfl (ldg (n := 2) (by kernel_rfl) (by first | assumption | (simp (disch := first | omega | (simp only [hNw, hPt]; omega)) only [gn0, gn1, gn2, gn3, gn4, gn5, gp0, gno, gpo] <;> first | rfl | assumption | exact gp0 _ _ _ | exact gn0 _ _)) (by first | rfl | assumption)) ?_
      refine OkO.move rfl rfl ?_
      refine OkO.build (z := [.nils, .int .i64 0, .int .i64 0, .nilf]) (pl := [(0, 2), (2, 1), (3, 1)]) rfl (by kernel_rfl) rfl rfl ?_
      refine OkO.makeFunc rfl rfl rfl ?_
      refine OkO.assign rfl rfl ?_
      refine OkO.nil ?_
      refine Ok.seq ?_
      refine Ok.region ?_
      refine OkO.load rfl rfl (ldg (n := 2) (by kernel_rfl) (by first | assumption | (simp (disch := first | omega | (simp only [hNw, hPt]; omega)) only [gn0, gn1, gn2, gn3, gn4, gn5, gp0, gno, gpo] <;> first | rfl | assumption | exact gp0 _ _ _ | exact gn0 _ _)) (by first | rfl | assumption)) ?_
      refine OkO.move rfl rfl ?_
      refine OkO.callE rfl rfl rfl rfl rfl (c72b (m + 102) n cv _ cols least (prC cols (r : Int)) _ (hM.ext (hE _ (by (try dsimp only); repeat (first | exact hG | apply Grow.new | (refine Grow.put ?_ _ (by first | omega | (simp only [hNw, hPt]; omega))))))) hcl hN9 hn9 hls (prC_bd hok (by omega)) (callP_cost (m + 204) cv cols least (r : Int) n _ (hM.ext (hE _ (by (try dsimp only); repeat (first | exact hG | apply Grow.new | (refine Grow.put ?_ _ (by first | omega | (simp only [hNw, hPt]; omega))))))) hcl hok hN9 hn9.2 (by omega))) ?_ -- "(sackung/slope.Slope).find"
      rintro v72 H72 ⟨q72, x72, y72, rfl, hu1, hd⟩
      have g72 : Grow W H72 := Grow.ret (by (try dsimp only); repeat (first | exact hG | apply Grow.new | (refine Grow.put ?_ _ (by first | omega | (simp only [hNw, hPt]; omega))))) q72
      have n72 := g72.next
      have z2 : H72.get (W.next + 1) = some (.cells [I 0, .nils] 39) := by rw [q72.ext.get _ (by simp only [hNw, hPt]; omega)]; (simp (disch := first | omega | (simp only [hNw, hPt]; omega)) only [gn0, gn1, gn2, gn3, gn4, gn5, gp0, gno, gpo] <;> first | rfl | assumption | exact gn0 _ _)
      have n72b := q72.ext.next
      simp only [hNw, hPt] at n72b
      refine OkO.move rfl rfl ?_
      refine OkO.extract rfl rfl rfl ?_
      refine OkO.extract rfl rfl rfl ?_
      refine OkO.alloc (z := [.int .i64 0, .nils]) rfl (by kernel_rfl) ?_
      refine OkO.store rfl rfl rfl (stc (n := 2) (ag := true) (by kernel_rfl) (by first | assumption | (simp (disch := first | omega | (simp only [hNw, hPt]; omega)) only [gn0, gn1, gn2, gn3, gn4, gn5, gp0, gno, gpo] <;> first | rfl | assumption | exact gp0 _ _ _ | exact gn0 _ _)) rfl (by first | rfl | assumption) (by first | rfl | exact spl_set _ _ _ (by first | assumption | (simp; omega)))) ?_
      refine OkO.assign rfl rfl ?_
      refine OkO.nil ?_
      refine Ok.seq ?_
      refine Ok.seq ?_
      refine Ok.region ?_
      refine OkO.move rfl rfl ?_
      refine OkO.un rfl rfl rfl ?_
      refine OkO.nil ?_
      refine Ok.cond rfl (fun h3 => ?_) (fun h3 => ?_)
      · -- yes h3
        have hfd : belowB cols.length n least (prC cols (r : Int)) = false := by simpa using h3
        rw [hpr] at hfd
        cases hfd
      · -- no h3
        have hfd : belowB cols.length n least (prC cols (r : Int)) = true := hpr
        refine Ok.skip ?_
        refine Ok.seq ?_
        refine Ok.region ?_
        refine OkO.load rfl rfl (ldg (n := 2) (by kernel_rfl) (by first | assumption | (simp (disch := first | omega | (simp only [hNw, hPt]; omega)) only [gn0, gn1, gn2, gn3, gn4, gn5, gp0, gno, gpo] <;> first | rfl | assumption | exact gp0 _ _ _ | exact gn0 _ _)) (by first | rfl | assumption)) ?_
        refine OkO.move rfl rfl ?_
        refine OkO.bin rfl rfl rfl (bin_sub (by omega) (by omega)) ?_
        refine OkO.store rfl rfl rfl (stc (n := 2) (ag := true) (by kernel_rfl) (by first | assumption | (simp (disch := first | omega | (simp only [hNw, hPt]; omega)) only [gn0, gn1, gn2, gn3, gn4, gn5, gp0, gno, gpo] <;> first | rfl | assumption | exact gp0 _ _ _ | exact gn0 _ _)) rfl (by first | rfl | assumption) (by first | rfl | exact spl_set _ _ _ (by first | assumption | (simp; omega)))) ?_
        refine OkO.assign rfl rfl ?_
        refine OkO.assign rfl rfl ?_
        refine OkO.nil ?_
        refine Ok.ret ⟨.inr rfl, ?_⟩
        rcases hd with ⟨fr, us, rfl, hb, qm, qn, qs, qw⟩ | ⟨_, _, _, hb⟩
        · have hfl : y72.flat = false := by (rcases qm with ⟨h, _⟩ | ⟨_, _, h, _⟩); (· exact absurd h qn); (· rw [h]; rfl)
          refine back_newQ (resV_cell rfl (ldg (n := 2) (by kernel_rfl) (by first | assumption | (simp (disch := first | omega | (simp only [hNw, hPt]; omega)) only [gn0, gn1, gn2, gn3, gn4, gn5, gp0, gno, gpo] <;> first | rfl | assumption)) (by first | rfl | assumption)) (resV_tmp rfl (resV_tmp rfl resV_nil))) rfl (by rw [← hW]; exact (by (try dsimp only); repeat (first | exact g72 | apply Grow.new | (refine Grow.put ?_ _ (by first | omega | (simp only [hNw, hPt]; omega)))))) (by simp [AV.flat, AV.flats, hfl, resOf]) (fun H9 p1 p2 p3 => ⟨p1, .inl ⟨fr, us, y72, (r : Int) - 1, rfl, ?_, qn, ?_⟩⟩)
          · rcases qm with ⟨h, _⟩ | ⟨b9, m9, h1, h2, h3, h4, h5⟩
            · exact absurd h qn
            · simp only [hNw, hPt] at h4
              exact .inr ⟨b9, m9, h1, by rw [p2]; simp (disch := first | omega | (simp only [hNw, hPt]; omega)) only [gno, gpo]; exact h2, h3, by omega, by rw [p3]; simp only [hNw, hPt]; omega⟩
          · refine ⟨qs, ((below_iff hok (by omega) fr us).1 qw).1, by (have a := hlow fr us qs ((below_iff hok (by omega) fr us).1 qw).1); (have b := ((below_iff hok (by omega) fr us).1 qw).2); omega, hlow⟩
        · rw [hb] at hfd; cases hfd
    · -- no h2
      have hr : r = 10001 := by (have h9 : ¬ (r : Int) ≤ 10000 := by simpa using h2); omega
      have hlow : ∀ fr us, Surf cols.length n least fr us → 1 ≤ drive (bedsW cols fr us) → (r : Int) - 1 ≤ facW cols fr us := fun fr us hs hd => by (rcases r2 with h | h); (· omega); (· have h9 := belowB_false.1 h fr us hs; by_cases h8 : (r : Int) - 1 ≤ facW cols fr us; exact h8; exact absurd ((below_iff (fa := ((r - 1 : Nat) : Int)) hok (by omega) fr us).2 ⟨hd, by omega⟩) (by omega))
      refine Ok.skip ?_
      refine Ok.seq ?_
      refine Ok.region ?_
      refine OkO.load rfl rfl (ldg (n := 2) (by kernel_rfl) (by first | assumption | (simp (disch := first | omega | (simp only [hNw, hPt]; omega)) only [gn0, gn1, gn2, gn3, gn4, gn5, gp0, gno, gpo] <;> first | rfl | assumption | exact gp0 _ _ _ | exact gn0 _ _)) (by first | rfl | assumption)) ?_
      refine OkO.move rfl rfl ?_
      refine OkO.callE rfl rfl rfl rfl rfl (c72b (m + 102) n cv _ cols least (prL cols) _ (hM.ext (hE _ (by (try dsimp only); repeat (first | exact hG | apply Grow.new | (refine Grow.put ?_ _ (by first | omega | (simp only [hNw, hPt]; omega))))))) hcl hN9 hn9 hls (prL_bd hok) (callP_lift (m + 207) cv .nilf cols least 0 n _ (hM.ext (hE _ (by (try dsimp only); repeat (first | exact hG | apply Grow.new | (refine Grow.put ?_ _ (by first | omega | (simp only [hNw, hPt]; omega))))))) hcl hok hN9 hn9.2)) ?_ -- "(sackung/slope.Slope).find"
      rintro v72 H72 ⟨q72, x72, y72, rfl, hu1, hd⟩
      have g72 : Grow W H72 := Grow.ret (by (try dsimp only); repeat (first | exact hG | apply Grow.new | (refine Grow.put ?_ _ (by first | omega | (simp only [hNw, hPt]; omega))))) q72
      have n72 := g72.next
      have z2 : H72.get (W.next + 1) = some (.cells [I 0, .nils] 39) := by rw [q72.ext.get _ (by simp only [hNw, hPt]; omega)]; (simp (disch := first | omega | (simp only [hNw, hPt]; omega)) only [gn0, gn1, gn2, gn3, gn4, gn5, gp0, gno, gpo] <;> first | rfl | assumption | exact gn0 _ _)
      have n72b := q72.ext.next
      simp only [hNw, hPt] at n72b
      refine OkO.move rfl rfl ?_
      refine OkO.extract rfl rfl rfl ?_
      refine OkO.extract rfl rfl rfl ?_
      refine OkO.alloc (z := [.int .i64 0, .nils]) rfl (by kernel_rfl) ?_
      refine OkO.store rfl rfl rfl (stc (n := 2) (ag := true) (by kernel_rfl) (by first | assumption | (simp (disch := first | omega | (simp only [hNw, hPt]; omega)) only [gn0, gn1, gn2, gn3, gn4, gn5, gp0, gno, gpo] <;> first | rfl | assumption | exact gp0 _ _ _ | exact gn0 _ _)) rfl (by first | rfl | assumption) (by first | rfl | exact spl_set _ _ _ (by first | assumption | (simp; omega)))) ?_
      refine OkO.assign rfl rfl ?_
      refine OkO.nil ?_
      refine Ok.seq ?_
      refine Ok.seq ?_
      refine Ok.region ?_
      refine OkO.move rfl rfl ?_
      refine OkO.un rfl rfl rfl ?_
      refine OkO.nil ?_
      refine Ok.cond rfl (fun h4 => ?_) (fun h4 => ?_)
      · -- yes h4
        have hfd : belowB cols.length n least (prL cols) = false := by simpa using h4
        refine Ok.seq ?_
        refine Ok.region ?_
        refine OkO.build (z := [.int .i64 0, .nils]) (pl := [(0, 1), (1, 1)]) rfl (by kernel_rfl) rfl rfl ?_
        refine OkO.store rfl rfl rfl (stc (n := 2) (ag := true) (by kernel_rfl) (by first | assumption | (simp (disch := first | omega | (simp only [hNw, hPt]; omega)) only [gn0, gn1, gn2, gn3, gn4, gn5, gp0, gno, gpo] <;> first | rfl | assumption | exact gp0 _ _ _ | exact gn0 _ _)) rfl (by first | rfl | assumption) (by first | rfl | exact spl_set _ _ _ (by first | assumption | (simp; omega)))) ?_
        refine OkO.assign rfl rfl ?_
        refine OkO.assign rfl rfl ?_
        refine OkO.nil ?_
        refine Ok.ret ⟨.inr rfl, ?_⟩
        exact ⟨_, H, back_flat (resV_cell rfl (ldg (n := 2) (by kernel_rfl) (by first | assumption | (simp (disch := first | omega | (simp only [hNw, hPt]; omega)) only [gn0, gn1, gn2, gn3, gn4, gn5, gp0, gno, gpo] <;> first | rfl | assumption)) (by first | rfl | assumption)) (resV_tmp rfl (resV_tmp rfl resV_nil))) rfl rfl (by rw [← hW]; exact (by (try dsimp only); repeat (first | exact g72 | apply Grow.new | (refine Grow.put ?_ _ (by first | omega | (simp only [hNw, hPt]; omega)))))), Ret.refl _, .inr ⟨rfl, rfl, fun fr us hs => by (have h9 := belowB_false.1 hfd fr us hs); rw [walkL] at h9; omega⟩⟩
      · -- no h4
        have hfd : belowB cols.length n least (prL cols) = true := by simpa using h4
        refine Ok.skip ?_
        refine Ok.seq ?_
        refine Ok.region ?_
        refine OkO.load rfl rfl (ldg (n := 2) (by kernel_rfl) (by first | assumption | (simp (disch := first | omega | (simp only [hNw, hPt]; omega)) only [gn0, gn1, gn2, gn3, gn4, gn5, gp0, gno, gpo] <;> first | rfl | assumption | exact gp0 _ _ _ | exact gn0 _ _)) (by first | rfl | assumption)) ?_
        refine OkO.move rfl rfl ?_
        refine OkO.bin rfl rfl rfl (bin_sub (by omega) (by omega)) ?_
        refine OkO.store rfl rfl rfl (stc (n := 2) (ag := true) (by kernel_rfl) (by first | assumption | (simp (disch := first | omega | (simp only [hNw, hPt]; omega)) only [gn0, gn1, gn2, gn3, gn4, gn5, gp0, gno, gpo] <;> first | rfl | assumption | exact gp0 _ _ _ | exact gn0 _ _)) rfl (by first | rfl | assumption) (by first | rfl | exact spl_set _ _ _ (by first | assumption | (simp; omega)))) ?_
        refine OkO.assign rfl rfl ?_
        refine OkO.assign rfl rfl ?_
        refine OkO.nil ?_
        refine Ok.ret ⟨.inr rfl, ?_⟩
        rcases hd with ⟨fr, us, rfl, hb, qm, qn, qs, qw⟩ | ⟨_, _, _, hb⟩
        · have hfl : y72.flat = false := by (rcases qm with ⟨h, _⟩ | ⟨_, _, h, _⟩); (· exact absurd h qn); (· rw [h]; rfl)
          refine back_newQ (resV_cell rfl (ldg (n := 2) (by kernel_rfl) (by first | assumption | (simp (disch := first | omega | (simp only [hNw, hPt]; omega)) only [gn0, gn1, gn2, gn3, gn4, gn5, gp0, gno, gpo] <;> first | rfl | assumption)) (by first | rfl | assumption)) (resV_tmp rfl (resV_tmp rfl resV_nil))) rfl (by rw [← hW]; exact (by (try dsimp only); repeat (first | exact g72 | apply Grow.new | (refine Grow.put ?_ _ (by first | omega | (simp only [hNw, hPt]; omega)))))) (by simp [AV.flat, AV.flats, hfl, resOf]) (fun H9 p1 p2 p3 => ⟨p1, .inl ⟨fr, us, y72, (r : Int) - 1, rfl, ?_, qn, ?_⟩⟩)
          · rcases qm with ⟨h, _⟩ | ⟨b9, m9, h1, h2, h3, h4, h5⟩
            · exact absurd h qn
            · simp only [hNw, hPt] at h4
              exact .inr ⟨b9, m9, h1, by rw [p2]; simp (disch := first | omega | (simp only [hNw, hPt]; omega)) only [gno, gpo]; exact h2, h3, by omega, by rw [p3]; simp only [hNw, hPt]; omega⟩
          · refine ⟨qs, by (rw [walkL] at qw; omega), by (have a := hlow fr us qs (by rw [walkL] at qw; omega)); (have b := (facW_bd hok (fr := fr) (us := us) (by rw [walkL] at qw; omega)).2); omega, hlow⟩
        · rw [hb] at hfd; cases hfd
end
end Go.Ev

set_option maxRecDepth 100000
set_option linter.unusedSimpArgs false
set_option linter.unusedVariables false
namespace Go.Ev
open Go Go.Proofs
noncomputable section
def U8 (w : Int) : AV := .int .u8 w
def U16 (w : Int) : AV := .int .u16 w
def Upto (k : Int) (l : List Int) : Prop := ∀ x ∈ l, 0 ≤ x ∧ x ≤ k
def readyS (cols : List (List Bed)) (least : Int) : Bool := thinB cols && (slOk cols least && decide (least ≤ (cols.length : Int)))
theorem Walk.snoc {n b : Nat} : ∀ {us : List Nat}, Walk n us → b < n → (∀ k, us.getLast? = some k → Nxt n k b) → Walk n (us ++ [b])
  | [], _, hb, _ => hb
  | [k], h, hb, hl => ⟨h, hl k rfl, hb⟩
  | k :: j :: l, h, hb, hl => ⟨h.1, h.2.1, Walk.snoc (us := j :: l) h.2.2 hb (fun q hq => hl q (by simpa using hq))⟩
theorem c51 (m : Nat) (cv : AV) (cols : List (List Bed)) (least : Int) (H : Heap) (hM : Mat H cv cols) : RR (m + 3) (.fn 51 [.agg [cv, I least]]) H = some (.bool (readyS cols least), H) := by
  refine (R_fn _ _ _ _ _).trans ?_
  refine fn_ok Try.func51 rfl rfl (by kernel_rfl) (by kernel_rfl) ?_
  obtain ⟨W, hW⟩ : ∃ W : Heap, W = ⟨H.t, H.next, H.next⟩ := ⟨_, rfl⟩
  have hg : ∀ n, W.get n = H.get n := fun n => by rw [hW]; rfl
  have hN : W.next = H.next := by rw [hW]
  have hE : ∀ G, Grow W G → Ext H G := fun G g => ⟨by rw [← hN]; exact g.next, fun n k => by rw [g.get n (by rw [hN]; exact k), hg]⟩
  have hG : Grow W W := Grow.refl (by rw [hW]; exact Nat.le_refl _)
  rw [← hW]
  have hlen : lenOf cv = some cols.length := by obtain ⟨vs, hR, hvl, _⟩ := hM; rw [← hvl]; simpa using hR.len
  refine Ok.seq ?_
  refine Ok.region ?_
  refine OkO.box rfl rfl ?_
  refine OkO.assign rfl rfl ?_
  refine OkO.nil ?_
  refine Ok.seq ?_
  refine Ok.region ?_
  refine OkO.load rfl rfl (ldg (n := 2) (by kernel_rfl) (by first | assumption | (simp (disch := first | omega | (simp only [hNw, hPt]; omega)) only [gn0, gn1, gn2, gn3, gn4, gn5, gp0, gno, gpo] <;> first | rfl | assumption | exact gp0 _ _ _ | exact gn0 _ _)) (by first | rfl | assumption)) ?_
  refine OkO.callV rfl rfl rfl rfl rfl (c16 (m + 1) cv cols least _ (hM.ext (hE _ (by (try dsimp only); repeat (first | exact hG | apply Grow.new | (refine Grow.put ?_ _ (by first | omega | (simp only [hNw, hPt]; omega)))))))) ?_ -- "sackung/sackunglaw01.Thin"
  refine OkO.move rfl rfl ?_
  refine OkO.split (d := 5) rfl (fun g1 => ?_) (fun g1 => ?_)
  · -- true g1
    refine OkO.load rfl rfl (ldg (n := 2) (by kernel_rfl) (by first | assumption | (simp (disch := first | omega | (simp only [hNw, hPt]; omega)) only [gn0, gn1, gn2, gn3, gn4, gn5, gp0, gno, gpo] <;> first | rfl | assumption | exact gp0 _ _ _ | exact gn0 _ _)) (by first | rfl | assumption)) ?_
    refine OkO.callV rfl rfl rfl rfl rfl (c23 m cv cols least _ (hM.ext (hE _ (by (try dsimp only); repeat (first | exact hG | apply Grow.new | (refine Grow.put ?_ _ (by first | omega | (simp only [hNw, hPt]; omega)))))))) ?_ -- "sackung/sackungref01.Right"
    refine OkO.pick (b := true) rfl rfl (fun _ => rfl) nofun ?_
    refine OkO.move rfl rfl ?_
    refine OkO.split (d := 9) rfl (fun g2 => ?_) (fun g2 => ?_)
    · -- true g2
      refine OkO.fieldAddr (o := 1) rfl (by kernel_rfl) rfl ?_
      refine OkO.load rfl rfl (lda (n := 1) (by kernel_rfl) (by first | assumption | (simp (disch := first | omega | (simp only [hNw, hPt]; omega)) only [gn0, gn1, gn2, gn3, gn4, gn5, gp0, gno, gpo] <;> first | rfl | assumption | exact gp0 _ _ _ | exact gn0 _ _)) (by first | rfl | assumption)) ?_
      refine OkO.fieldAddr (o := 0) rfl (by kernel_rfl) rfl ?_
      refine OkO.load rfl rfl (lda (n := 1) (by kernel_rfl) (by first | assumption | (simp (disch := first | omega | (simp only [hNw, hPt]; omega)) only [gn0, gn1, gn2, gn3, gn4, gn5, gp0, gno, gpo] <;> first | rfl | assumption | exact gp0 _ _ _ | exact gn0 _ _)) (by first | rfl | assumption)) ?_
      refine OkO.builtin rfl rfl rfl (bln (by kernel_rfl) (by first | assumption | rfl)) ?_
      refine OkO.bin rfl rfl rfl (bin_leq _ _) ?_
      refine OkO.pick (b := true) rfl rfl (fun _ => rfl) nofun ?_
      refine OkO.assign rfl rfl ?_
      refine OkO.nil ?_
      refine Ok.ret ⟨.inr rfl, ?_⟩
      have hz : decide (least ≤ (cols.length : Int)) = readyS cols least := by unfold readyS; rw [g1, g2]; rfl
      exact back_flat rfl (congrArg AV.bool hz) rfl (by rw [← hW]; exact (by (try dsimp only); repeat (first | exact hG | apply Grow.new | (refine Grow.put ?_ _ (by first | omega | (simp only [hNw, hPt]; omega))))))
    · -- false g2
      refine OkO.skip rfl ?_
      refine OkO.skip rfl ?_
      refine OkO.skip rfl ?_
      refine OkO.skip rfl ?_
      refine OkO.skip rfl ?_
      refine OkO.skip rfl ?_
      refine OkO.pick (b := false) rfl rfl nofun (fun _ => rfl) ?_
      refine OkO.assign rfl rfl ?_
      refine OkO.nil ?_
      refine Ok.ret ⟨.inr rfl, ?_⟩
      have hz : false = readyS cols least := by unfold readyS; rw [g1, g2]; rfl
      exact back_flat rfl (congrArg AV.bool hz) rfl (by rw [← hW]; exact (by (try dsimp only); repeat (first | exact hG | apply Grow.new | (refine Grow.put ?_ _ (by first | omega | (simp only [hNw, hPt]; omega))))))
  · -- false g1
    refine OkO.skip rfl ?_
    refine OkO.skip rfl ?_
    refine OkO.pick (b := false) rfl rfl nofun (fun _ => rfl) ?_
    refine OkO.move rfl rfl ?_
    refine OkO.skip rfl ?_
    refine OkO.skip rfl ?_
    refine OkO.skip rfl ?_
    refine OkO.skip rfl ?_
    refine OkO.skip rfl ?_
    refine OkO.skip rfl ?_
    refine OkO.pick (b := false) rfl rfl nofun (fun _ => rfl) ?_
    refine OkO.assign rfl rfl ?_
    refine OkO.nil ?_
    refine Ok.ret ⟨.inr rfl, ?_⟩
    have hz : false = readyS cols least := by unfold readyS; rw [g1]; rfl
    exact back_flat rfl (congrArg AV.bool hz) rfl (by rw [← hW]; exact (by (try dsimp only); repeat (first | exact hG | apply Grow.new | (refine Grow.put ?_ _ (by first | omega | (simp only [hNw, hPt]; omega))))))
def pickI (lo hi w : Int) : Int := lo + w % (hi - lo + 1)
end
end Go.Ev

set_option maxRecDepth 100000
set_option linter.unusedSimpArgs false
set_option linter.unusedVariables false
namespace Go.Ev
open Go Go.Proofs
noncomputable section
theorem Walk.lt {n : Nat} : ∀ {us : List Nat}, Walk n us → ∀ (i : Nat) (h : i < us.length), us[i] < n
  | [k], h, 0, _ => h
  | k :: j :: l, h, 0, _ => h.1
  | k :: j :: l, h, i + 1, hi => Walk.lt (us := j :: l) h.2.2 i (by simpa using hi)
end
end Go.Ev

set_option maxRecDepth 100000
set_option linter.unusedSimpArgs false
set_option linter.unusedVariables false
namespace Go.Ev
open Go Go.Proofs
noncomputable section
end
end Go.Ev

set_option maxRecDepth 100000
set_option linter.unusedSimpArgs false
set_option linter.unusedVariables false
namespace Go.Ev
open Go Go.Proofs
noncomputable section
def ofN (us : List Nat) : List Int := us.map fun (k : Nat) => (k : Int)
theorem bedsOk_of {cols : List (List Bed)} {least : Int} (hv : slOk cols least = true) : BedsOk cols := fun c hc b hb => ((slOk_facts hv).2.2.2.2.2.2 c hc).2 b hb
theorem lens_of {cols : List (List Bed)} {least : Int} (hv : slOk cols least = true) : ∀ c ∈ cols, c.length = (cols.headD []).length := fun c hc => ((slOk_facts hv).2.2.2.2.2.2 c hc).1
end
end Go.Ev

set_option maxRecDepth 100000
set_option linter.unusedSimpArgs false
set_option linter.unusedVariables false
namespace Go.Ev
open Go Go.Proofs
noncomputable section
theorem c31' (m : Nat) (cv : AV) (cols : List (List Bed)) (least : Int) (H : Heap) (hM : Mat H cv cols) (hv : slOk cols least = true) :
    ∃ v H', RR (m + 211) (.fn 31 [.agg [cv, I least]]) H = some (v, H') ∧ Ret H H' ∧ ∃ x y z e, v = .tup [.agg [x, y], I z, I e] ∧ atoms [x, y] = true ∧
      ((e = 0 ∧ ∃ (fr : Nat) (us : List Nat), x = I (fr : Int) ∧ Mine H.next H' y 3 1 (us.map fun (k : Nat) => I (k : Int)) ∧ y ≠ .nils ∧ LowAt cols (cols.headD []).length least z fr us) ∨ (e = 7 ∧ x = I 0 ∧ y = .nils ∧ z = 0 ∧ H' = H ∧ NoneAt cols (cols.headD []).length least)) := by
  have hf := slOk_facts hv
  obtain ⟨v, H', h1, h2, h3⟩ := c31 m (cols.headD []).length cv cols least H hM (lens_of hv) (by omega) (by omega) (by omega) (bedsOk_of hv) hv
  rcases h3 with ⟨fr, us, bv, z, rfl, a, b, c⟩ | ⟨rfl, a, b⟩
  · exact ⟨_, H', h1, h2, I (fr : Int), bv, z, 0, rfl, by (rw [atoms, atoms, a.one.2]; rfl), .inl ⟨rfl, fr, us, rfl, a, b, c⟩⟩
  · exact ⟨_, H', h1, h2, I 0, .nils, 0, 7, rfl, rfl, .inr ⟨rfl, rfl, rfl, rfl, a, b⟩⟩
/-- What a surface's Span is. -/
def spW (cols : List (List Bed)) (fr : Nat) (us : List Nat) : Int × Int × Int := if 1 ≤ drive (bedsW cols fr us) then (facW cols fr us, factorOf (sumB strong (bedsW cols fr us)) (drive (bedsW cols fr us)), 0) else (0, 0, 7)
def faW (cols : List (List Bed)) (fr : Nat) (us : List Nat) (R : List Rl) : Int × Int := if 1 ≤ drive (bedsW cols fr us) then (factorOf (held (bedsW cols fr us) R) (drive (bedsW cols fr us)), 0) else (0, 7)
theorem ready_facts {cols : List (List Bed)} {least : Int} (h : readyS cols least = true) : thinB cols = true ∧ slOk cols least = true ∧ least ≤ cols.length := by
  unfold readyS at h
  simp only [Bool.and_eq_true, decide_eq_true_eq] at h
  exact ⟨h.1, h.2.1, h.2.2⟩
end
end Go.Ev

set_option maxRecDepth 100000
set_option linter.unusedSimpArgs false
set_option linter.unusedVariables false
namespace Go.Ev
open Go Go.Proofs
noncomputable section
section
open Go.ChangeShapes Go.WideShapes Go.RowKit
variable {H0 : Type} {enc : TypeId × Value → H0} {w : World} {base n : Nat} {sp : Nat → Bool} {hd : Bool}
end
end
end Go.Ev

set_option maxRecDepth 100000
set_option linter.unusedSimpArgs false
set_option linter.unusedVariables false
namespace Go.Ev
open Go Go.Proofs
noncomputable section
/-- What is appended to an empty slice that was just made, if it is anything. -/
theorem app_lit2 {P : Program} {G : Heap} {t u e el : TypeId} {sz by_ : Nat} {x : AV} {rows : List (List AV)} (hu : isSlice P u = true) (ht : elemTI P t = some (e, sz, by_)) (hr : Row (G.new (.cells [] el)) x sz rows) (hs : ∀ y ∈ rows, y.length = sz)
    (hb : rows.length * (by_ + 1) ≤ 4294967296) (hz : 0 < sz) (ha : atoms rows.flatten = true) (hn : 0 < rows.length) :
    builtinF P (G.new (.cells [] el)) .append [t, u] [.slice G.next 0 0 0, x] = some (.val (.opn (G.next + 1) rows.length) ((G.new (.cells [] el)).new (.opn rows.flatten e sz))) := by
  have he := hr.elems hs
  have hl := hr.len
  have e1 : builtinF P (G.new (.cells [] el)) .append [t, u] [.slice G.next 0 0 0, x] = (append P (G.new (.cells [] el)) t (.slice G.next 0 0 0) x).map fun (v, H) => .val v H := by
    show (appendT P _ t u _ x).map _ = _
    unfold appendT
    unfold isSlice at hu
    split at hu
    · rename_i e; rw [e]
    · cases hu
  have e2 := append_go (s := .slice G.next 0 0 0) ht he hl rfl (by simpa using hb) hz ha
  rw [e1, e2]
  unfold append.appendGo
  dsimp only
  rw [show Nat.ble (0 + rows.length) 0 = false from by cases h : Nat.ble (0 + rows.length) 0 with | false => rfl | true => (have := Nat.le_of_ble_eq_true h; omega)]
  dsimp only
  rw [show elems (G.new (.cells [] el)) (.slice G.next 0 0 0) sz = some [] from rfl]
  simp
theorem spl_one {cs : List AV} {off : Nat} {x : AV} (h : off < cs.length) : spl cs off [x] = some (cs.set off x) := by
  have e : spl cs off [x] = (match Nat.ble (off + 1) cs.length with
    | true => some (cs.take off ++ ([x] ++ cs.drop (off + 1)))
    | false => none) := rfl
  rw [e, Nat.ble_eq_true_of_le (by omega)]
  simp only
  rw [List.set_eq_take_append_cons_drop, if_pos h]
  rfl
theorem flat_set {w : Nat} {x : AV} : ∀ (l : List (List AV)) (k j : Nat) (r : List AV), (∀ y ∈ l, y.length = w) → l[k]? = some r → j < w → l.flatten.set (k * w + j) x = (l.set k (r.set j x)).flatten
  | [], k, j, r, _, h, _ => by simp at h
  | a :: l, 0, j, r, hw, h, hj => by
    have ha := hw a (by simp)
    simp at h
    subst h
    rw [Nat.zero_mul, Nat.zero_add, List.flatten_cons, List.set_cons_zero, List.flatten_cons, List.set_append_left _ _ (by omega)]
  | a :: l, k + 1, j, r, hw, h, hj => by
    have ha := hw a (by simp)
    rw [List.flatten_cons, List.set_cons_succ, List.flatten_cons, List.set_append_right _ _ (by rw [ha, Nat.add_mul]; omega)]
    congr 1
    rw [ha, show (k + 1) * w + j - w = k * w + j from by rw [Nat.add_mul]; omega]
    exact flat_set l k j r (fun y hy => hw y (by simp [hy])) (by simpa using h) hj
theorem bedc_len (l : List Bed) : ∀ y ∈ l.map Bed.c, y.length = 8 := fun y hy => by
  obtain ⟨b, _, rfl⟩ := List.mem_map.1 hy
  rfl
theorem spl_bed {l : List Bed} {k j : Nat} {b b' : Bed} {z : Int} (hk : l[k]? = some b) (hj : j < 8) (hb : b'.c = b.c.set j (I z)) : spl (l.map Bed.c).flatten (k * 8 + j) (I z).cells = some ((l.set k b').map Bed.c).flatten := by
  have hlt := (List.getElem?_eq_some_iff.1 hk).1
  rw [show (I z).cells = [I z] from rfl, spl_one (by rw [flat_len _ 8 (bedc_len l), List.length_map]; omega), flat_set (w := 8) _ _ _ b.c (bedc_len l) (by rw [List.getElem?_map, hk]; rfl) hj, List.map_set, hb]
/-- A bed with more water. -/
def wet1 (more : Int) (b : Bed) : Bed := { b with wh := min 100000 (b.wh + more) }
def wetC (more : Int) (c : List Bed) : List Bed := c.map (wet1 more)
def wetS (more : Int) (cols : List (List Bed)) : List (List Bed) := cols.map (wetC more)
def wetK (more : Int) (c : List Bed) (k : Nat) : List Bed := wetC more (c.take k) ++ c.drop k
theorem wetK_get {more : Int} {c : List Bed} {k : Nat} {b : Bed} (h : c[k]? = some b) : (wetK more c k)[k]? = some b := by
  have hlt := (List.getElem?_eq_some_iff.1 h).1
  unfold wetK
  rw [List.getElem?_append_right (by simp [wetC]; omega)]
  simp [wetC, Nat.min_eq_left (Nat.le_of_lt hlt), h]
theorem wetK_set {more : Int} {c : List Bed} {k : Nat} {b : Bed} (h : c[k]? = some b) : (wetK more c k).set k (wet1 more b) = wetK more c (k + 1) := by
  have hlt := (List.getElem?_eq_some_iff.1 h).1
  have hb := (List.getElem?_eq_some_iff.1 h).2
  unfold wetK
  rw [List.set_append_right _ _ (by simp [wetC]; omega), List.take_succ_eq_append_getElem hlt, hb, List.drop_eq_getElem_cons hlt, hb]
  simp [wetC, Nat.min_eq_left (Nat.le_of_lt hlt)]
theorem wetK_zero (more : Int) (c : List Bed) : wetK more c 0 = c := by simp [wetK, wetC]
theorem wetK_all (more : Int) (c : List Bed) : wetK more c c.length = wetC more c := by simp [wetK]
/-- A slope in blocks of its own: each column in one, none of them older than a name. -/
structure OwnS (k0 : Nat) (H : Heap) (cv : AV) (n : Nat) (cols : List (List Bed)) (bs : List Nat) : Prop where
  len : bs.length = cols.length
  nd : bs.Nodup
  out : Mine k0 H cv 97 1 (bs.map fun b => AV.opn b n)
  col : ∀ (i b : Nat) c, bs[i]? = some b → cols[i]? = some c → H.get b = some (.opn (c.map Bed.c).flatten 100 8) ∧ c.length = n
  ge : ∀ b ∈ bs, k0 ≤ b ∧ b < H.next ∧ ∀ m, cv ≠ .opn b m
theorem OwnS.mat {k0 : Nat} {H : Heap} {cv : AV} {n : Nat} {cols : List (List Bed)} {bs : List Nat} (h : OwnS k0 H cv n cols bs) : Mat H cv cols := by
  refine ⟨bs.map fun b => AV.opn b n, Mine.row (k0 := k0) (e := 97) (sz := 1) (by rw [sing_flat]; exact h.out) (fun x hx => by simp only [List.mem_map] at hx; obtain ⟨y, _, rfl⟩ := hx; rfl) (by omega), by rw [List.length_map, h.len], fun i x c hx hc => ?_⟩
  rw [List.getElem?_map, Option.map_eq_some_iff] at hx
  obtain ⟨b, hb, rfl⟩ := hx
  obtain ⟨h1, h2⟩ := h.col i b c hb hc
  obtain ⟨h3, h4, _⟩ := h.ge b (List.mem_of_getElem? hb)
  exact Mine.row (k0 := k0) (e := 100) (.inr ⟨b, n, rfl, h1, by rw [flat_len _ 8 (bedc_len c), List.length_map, h2], h3, h4⟩) (bedc_len c) (by omega)
theorem OwnS.to {k0 : Nat} {H G : Heap} {cv : AV} {n : Nat} {cols : List (List Bed)} {bs : List Nat} (h : OwnS k0 H cv n cols bs) (g : Ext H G) : OwnS k0 G cv n cols bs :=
  ⟨h.len, h.nd, h.out.to g, fun i b c h1 h2 => ⟨by rw [g.get b (h.ge b (List.mem_of_getElem? h1)).2.1]; exact (h.col i b c h1 h2).1, (h.col i b c h1 h2).2⟩, fun b hb => ⟨(h.ge b hb).1, Nat.lt_of_lt_of_le (h.ge b hb).2.1 g.next, (h.ge b hb).2.2⟩⟩
theorem OwnS.put {k0 : Nat} {H : Heap} {cv : AV} {n : Nat} {cols : List (List Bed)} {bs : List Nat} (h : OwnS k0 H cv n cols bs) {m : Nat} (o : AObj) (hm : m < k0) : OwnS k0 (H.put m o) cv n cols bs :=
  ⟨h.len, h.nd, h.out.put o hm, fun i b c h1 h2 => ⟨by rw [gpo _ _ _ _ (by have := (h.ge b (List.mem_of_getElem? h1)).1; omega)]; exact (h.col i b c h1 h2).1, (h.col i b c h1 h2).2⟩, fun b hb => ⟨(h.ge b hb).1, by rw [hPt]; exact (h.ge b hb).2.1, (h.ge b hb).2.2⟩⟩
theorem OwnS.fr {k0 : Nat} {H : Heap} {cv : AV} {n : Nat} {cols : List (List Bed)} {bs : List Nat} (h : OwnS k0 H cv n cols bs) : Fr k0 H.next H fun X => OwnS k0 X cv n cols bs := by
  intro X h1 h2
  exact ⟨h.len, h.nd, h.out.fr X h1 h2, fun i b c a1 a2 => ⟨by obtain ⟨g1, g2, _⟩ := h.ge b (List.mem_of_getElem? a1); rw [h2 b g1 g2]; exact (h.col i b c a1 a2).1, (h.col i b c a1 a2).2⟩, fun b hb => ⟨(h.ge b hb).1, Nat.lt_of_lt_of_le (h.ge b hb).2.1 h1, (h.ge b hb).2.2⟩⟩
theorem atoms_beds (l : List Bed) : atoms (l.map Bed.c).flatten = true := by
  induction l with
  | nil => rfl
  | cons a l ih =>
    rw [List.map_cons, List.flatten_cons]
    exact ih
theorem bed_cell {l : List Bed} {k j : Nat} {b : Bed} {v : AV} (hk : l[k]? = some b) (hj : b.c[j]? = some v) (h8 : j < 8) : ((l.map Bed.c).flatten)[0 + k * 8 + j]? = some v ∧ ((l.map Bed.c).flatten)[k * 8 + j]? = some v := by
  have key : ∀ (l : List Bed) (k : Nat), l[k]? = some b → ((l.map Bed.c).flatten)[k * 8 + j]? = some v := by
    intro l
    induction l with
    | nil => intro k h; simp at h
    | cons a l ih =>
      intro k h
      cases k with
      | zero =>
        simp at h
        subst h
        rw [List.map_cons, List.flatten_cons, Nat.zero_mul, Nat.zero_add, List.getElem?_append_left (by show j < 8; exact h8)]
        exact hj
      | succ k =>
        rw [List.map_cons, List.flatten_cons, List.getElem?_append_right (by show 8 ≤ _; omega), show (k + 1) * 8 + j - a.c.length = k * 8 + j from by show (k + 1) * 8 + j - 8 = _; omega]
        exact ih k (by simpa using h)
  exact ⟨by rw [Nat.zero_add]; exact key l k hk, key l k hk⟩
theorem slAt_opn {b n sz k : Nat} (h : k < n) : slAt (.opn b n) sz k = some (b, k * sz) := by simp [slAt, h]
theorem wetS_take {more : Int} {cols : List (List Bed)} {i : Nat} {c : List Bed} (h : cols[i]? = some c) : wetS more (cols.take (i + 1)) = wetS more (cols.take i) ++ [wetC more c] := by
  have hi := (List.getElem?_eq_some_iff.1 h).1
  have hc := (List.getElem?_eq_some_iff.1 h).2
  unfold wetS
  rw [List.take_succ_eq_append_getElem hi, hc, List.map_append]
  rfl
theorem OwnS.snoc {k0 : Nat} {G0 G G2 : Heap} {ov : AV} {n : Nat} {cols : List (List Bed)} {bs : List Nat} {c : List Bed} {B P Q mm : Nat} (h : OwnS k0 G0 ov n cols bs) (hk : k0 ≤ G0.next) (hB : G0.next ≤ B) (hBQ : B < Q) (hQP : Q ≤ P) (hP : P < G2.next)
    (hx : Ext G0 G) (hq : ∀ j, j < Q → (∀ m, ov ≠ .opn j m) → G2.get j = G.get j) (hc : G.get B = some (.opn (c.map Bed.c).flatten 100 8)) (hn : c.length = n) (hm : Mine k0 G2 (.opn P mm) 97 1 ((bs ++ [B]).map fun b => AV.opn b n)) : OwnS k0 G2 (.opn P mm) n (cols ++ [c]) (bs ++ [B]) := by
  have hlt : ∀ j m, G0.next ≤ j → ov ≠ .opn j m := fun j m hj he => by have := h.out.lt he; omega
  refine ⟨by simp [h.len], ?_, hm, fun i b d h1 h2 => ?_, fun b hb => ?_⟩
  · rw [List.nodup_append]
    refine ⟨h.nd, by simp, fun a ha d hd e => ?_⟩
    simp at hd
    have := (h.ge a ha).2.1
    omega
  · rcases Nat.lt_or_ge i bs.length with q | q
    · rw [List.getElem?_append_left q] at h1
      rw [List.getElem?_append_left (by rw [← h.len]; exact q)] at h2
      obtain ⟨a1, a2, a3⟩ := h.ge b (List.mem_of_getElem? h1)
      obtain ⟨b1, b2⟩ := h.col i b d h1 h2
      exact ⟨by rw [hq b (by omega) a3, hx.get b a2]; exact b1, b2⟩
    · rw [List.getElem?_append_right q] at h1
      rw [List.getElem?_append_right (by rw [← h.len]; exact q)] at h2
      have h0 : i - bs.length = 0 := by have := (List.getElem?_eq_some_iff.1 h1).1; simp at this; omega
      have h00 : i - cols.length = 0 := by rw [← h.len]; exact h0
      rw [h0] at h1
      rw [h00] at h2
      simp at h1 h2
      subst h1 h2
      exact ⟨by rw [hq _ hBQ (fun m => hlt _ m hB)]; exact hc, hn⟩
  · rcases List.mem_append.1 hb with hb | hb
    · obtain ⟨a1, a2, a3⟩ := h.ge b hb
      exact ⟨a1, by omega, fun m e => by have := (AV.opn.inj e).1; omega⟩
    · simp at hb
      subst hb
      exact ⟨by omega, by omega, fun m e => by have := (AV.opn.inj e).1; omega⟩
theorem OwnS.low {k0 k1 : Nat} {H : Heap} {cv : AV} {n : Nat} {cols : List (List Bed)} {bs : List Nat} (h : OwnS k0 H cv n cols bs) (hk : k1 ≤ k0) : OwnS k1 H cv n cols bs :=
  ⟨h.len, h.nd, h.out.ge hk, h.col, fun b hb => ⟨Nat.le_trans hk (h.ge b hb).1, (h.ge b hb).2⟩⟩
theorem c55 (m : Nat) (n : Nat) (cv : AV) (cols : List (List Bed)) (least more : Int) (H : Heap) (hM : Mat H cv cols) (hcl : ∀ c ∈ cols, c.length = n) (hok : BedsOk cols) (hN9 : 1 ≤ cols.length ∧ cols.length ≤ 100) (hn9 : 1 ≤ n ∧ n ≤ 1000) (hm9 : 0 ≤ more ∧ more ≤ 1000000) : ∃ v H', RR (m + 1) (.fn 55 [.agg [cv, I least], I more]) H = some (v, H') ∧ ∃ (ov : AV) (bs : List Nat), v = .agg [ov, I least] ∧ Ret H H' ∧ OwnS H.next H' ov n (wetS more cols) bs ∧ ov ≠ .nils := by
  show ∃ v H', evFn Try.prog (RR (m + 0)) 55 [.agg [cv, I least], I more] H = some (v, H') ∧ ∃ (ov : AV) (bs : List Nat), v = .agg [ov, I least] ∧ Ret H H' ∧ OwnS H.next H' ov n (wetS more cols) bs ∧ ov ≠ .nils
  refine fn_okE Try.func55 rfl rfl (by kernel_rfl) (by kernel_rfl) ?_
  obtain ⟨W, hW⟩ : ∃ W : Heap, W = ⟨H.t, H.next, H.next⟩ := ⟨_, rfl⟩
  have hg : ∀ n, W.get n = H.get n := fun n => by rw [hW]; rfl
  have hN : W.next = H.next := by rw [hW]
  have hE : ∀ G, Grow W G → Ext H G := fun G g => ⟨by rw [← hN]; exact g.next, fun n k => by rw [g.get n (by rw [hN]; exact k), hg]⟩
  have hG : Grow W W := Grow.refl (by rw [hW]; exact Nat.le_refl _)
  rw [← hW]
  obtain ⟨vs, hR, hvl, hvv⟩ := id hM
  have hlen : lenOf cv = some cols.length := by rw [← hvl]; simpa using hR.len
  have pc : cv.plain = true := lpl hlen
  have hg0 : ∀ j, W.get j = H.get j := hg
  refine Ok.seq ?_
  refine Ok.region ?_
  refine OkO.box rfl rfl ?_
  refine OkO.alloc (z := [.nils, .int .i64 0]) rfl (by kernel_rfl) ?_
  refine OkO.nil ?_
  refine Ok.seq ?_
  refine Ok.region ?_
  refine OkO.fieldAddr (o := 1) rfl (by kernel_rfl) rfl ?_
  refine OkO.load rfl rfl (lda (n := 1) (by kernel_rfl) (by first | assumption | (simp (disch := first | omega | (simp only [hNw, hPt]; omega)) only [gn0, gn1, gn2, gn3, gn4, gn5, gp0, gno, gpo] <;> first | rfl | assumption | exact gp0 _ _ _ | exact gn0 _ _)) (by first | rfl | assumption)) ?_
  refine OkO.build (z := [.nils, .int .i64 0]) (pl := [(0, 1), (1, 1)]) rfl (by kernel_rfl) rfl rfl ?_
  refine OkO.alloc (z := [.nils, .int .i64 0]) rfl (by kernel_rfl) ?_
  refine OkO.store rfl rfl rfl (stc (n := 2) (ag := true) (by kernel_rfl) (by first | assumption | (simp (disch := first | omega | (simp only [hNw, hPt]; omega)) only [gn0, gn1, gn2, gn3, gn4, gn5, gp0, gno, gpo] <;> first | rfl | assumption | exact gp0 _ _ _ | exact gn0 _ _)) rfl (by first | rfl | assumption) (by first | rfl | exact spl_set _ _ _ (by first | assumption | omega | (simp; omega)))) ?_
  refine OkO.nil ?_
  refine Ok.seq ?_
  refine Ok.seq ?_
  refine Ok.region ?_
  refine OkO.assign rfl rfl ?_
  refine OkO.nil ?_
  refine Ok.block ?_
  refine Ok.loop (fun n9 s_ => ∃ (i : Nat) (ov : AV) (bs : List Nat), n9 = cols.length - i ∧ i ≤ cols.length ∧ OwnS (W.next + 3) s_.H ov n (wetS more (cols.take i)) bs ∧ Grow W s_.H ∧ W.next + 3 ≤ s_.H.next ∧ s_.H.get W.next = some (.cells [cv, I least] 24) ∧ s_.H.get (W.next + 1) = some (.cells [.nils, I 0] 24) ∧ s_.H.get (W.next + 2) = some (.cells [ov, I least] 24) ∧ Has 6 [(1, I more), (2, .ptr W.next 0), (4, .ptr (W.next + 1) 0), (5, .ptr (W.next + 2) 0), (6, I (i : Int))] s_.T ∧ s_.D = []) (cols.length) (by unfold loopFuel; omega)
    ⟨0, .nils, [], rfl, Nat.zero_le _, ⟨rfl, .nil, Mine.nil _ _ _ _, nofun, nofun⟩, (by (try dsimp only); repeat (first | exact hg | exact hG | apply Grow.new | (refine Grow.put ?_ _ (by first | omega | (simp only [hNw, hPt]; omega))))), (by first | omega | (simp only [hNw, hPt]; omega)), (by first | assumption | (simp (disch := first | omega | (simp only [hNw, hPt]; omega)) only [gn0, gn1, gn2, gn3, gn4, gn5, gp0, gno, gpo] <;> first | rfl | assumption | exact gp0 _ _ _ | exact gn0 _ _)), (by first | assumption | (simp (disch := first | omega | (simp only [hNw, hPt]; omega)) only [gn0, gn1, gn2, gn3, gn4, gn5, gp0, gno, gpo] <;> first | rfl | assumption | exact gp0 _ _ _ | exact gn0 _ _)), (by first | assumption | (simp (disch := first | omega | (simp only [hNw, hPt]; omega)) only [gn0, gn1, gn2, gn3, gn4, gn5, gp0, gno, gpo] <;> first | rfl | assumption | exact gp0 _ _ _ | exact gn0 _ _)), Has.of (by kernel_rfl), rfl⟩ ?_
  rintro n9 ⟨T, D, G⟩ ⟨i, ov, bs, hn, hi, hO, hg, hgx, f0, f1, f2, ⟨f, hT⟩, hD⟩
  dsimp only at *
  subst hT hD
  have hgn := hg.next
  have e0 : (G.get W.next).bind AObj.cs = some [cv, I least] := by rw [f0]; rfl
  have e2 : (G.get (W.next + 2)).bind AObj.cs = some [ov, I least] := by rw [f2]; rfl
  refine Ok.seq ?_
  refine Ok.seq ?_
  refine Ok.region ?_
  refine OkO.move rfl rfl ?_
  refine OkO.fieldAddr (o := 0) rfl (by kernel_rfl) rfl ?_
  refine OkO.load rfl rfl (lda (n := 1) (by kernel_rfl) (by first | assumption | (simp (disch := first | omega | (simp only [hNw, hPt]; omega)) only [gn0, gn1, gn2, gn3, gn4, gn5, gp0, gno, gpo] <;> first | rfl | assumption | exact gp0 _ _ _ | exact gn0 _ _)) (by first | rfl | assumption)) ?_
  refine OkO.builtin rfl rfl rfl (bln (by kernel_rfl) (by first | assumption | rfl)) ?_
  refine OkO.bin rfl rfl rfl (bin_lss _ _) ?_
  refine OkO.nil ?_
  refine Ok.cond rfl (fun h1 => ?_) (fun h1 => ?_)
  · -- yes h1
    have hil : i < cols.length := by simpa using h1
    have hil9 : i < vs.length := by omega
    obtain ⟨cb, co, ccs, j1, j20, j3, j4⟩ := hR.at_ i [vs[i]] (by simp [hil9])
    have j5 := seg_one j3
    have j2 : (G.get cb).bind AObj.cs = some ccs := by rw [hg.get _ (by omega), hg0]; exact j20
    obtain ⟨col, hcol⟩ : ∃ col, cols[i]? = some col := ⟨_, List.getElem?_eq_getElem hil⟩
    have hcn := hcl col (List.mem_of_getElem? hcol)
    have hcolr := hvv i vs[i] col (by simp [hil9]) hcol
    have hlcol : lenOf vs[i] = some col.length := by simpa using hcolr.len
    refine Ok.skip ?_
    refine Ok.seq ?_
    refine Ok.block ?_
    refine Ok.seq ?_
    refine Ok.region ?_
    refine OkO.buildSlice (el := 100) (sz := 8) (z := [.int .i64 0, .int .i64 0, .int .i64 0, .int .i64 0, .int .i64 0, .int .i64 0, .int .i64 0, .int .i64 0]) rfl (by kernel_rfl) (by decide) rfl rfl ?_
    refine OkO.fieldAddr (o := 0) rfl (by kernel_rfl) rfl ?_
    refine OkO.load rfl rfl (lda (n := 1) (by kernel_rfl) (by first | assumption | (simp (disch := first | omega | (simp only [hNw, hPt]; omega)) only [gn0, gn1, gn2, gn3, gn4, gn5, gp0, gno, gpo] <;> first | rfl | assumption | exact gp0 _ _ _ | exact gn0 _ _)) (by first | rfl | assumption)) ?_
    refine OkO.move rfl rfl ?_
    refine OkO.index (sz := 1) (n := i) rfl rfl rfl (by kernel_rfl) (by first | assumption | rfl | exact slAt_slice (by omega) | exact slAt_opn (by omega)) ?_ -- index ('Go.Operand.tmp', 21) ('Go.Operand.tmp', 22)
    refine OkO.load rfl rfl (lda (n := 1) (by kernel_rfl) (by first | assumption | (simp (disch := first | omega | (simp only [hNw, hPt]; omega)) only [gn0, gn1, gn2, gn3, gn4, gn5, gp0, gno, gpo] <;> first | rfl | assumption | exact gp0 _ _ _ | exact gn0 _ _)) (by first | rfl | assumption)) ?_
    obtain ⟨G0, hG0⟩ : ∃ G0, G0 = G := ⟨_, rfl⟩
    subst hG0
    have hap := app_lit2 (P := Try.prog) (G := G0) (t := 97) (u := 97) (e := 100) (el := 100) (sz := 8) (by_ := 64) (x := vs[i]) (rows := col.map Bed.c) (by kernel_rfl) (by kernel_rfl) ((hcolr.ext (hE _ (by (try dsimp only); repeat (first | exact hg | exact hG | apply Grow.new | (refine Grow.put ?_ _ (by first | omega | (simp only [hNw, hPt]; omega))))))).ext (Grow.toNew _ _)) (bedc_len col) (by rw [List.length_map]; omega) (by omega) (atoms_beds col) (by rw [List.length_map]; omega)
    rw [List.length_map, hcn] at hap
    refine OkO.builtinE rfl rfl rfl (show ∃ v H', _ ∧ (v = .opn (G0.next + 1) n ∧ H' = (G0.new (.cells [] 100)).new (.opn (col.map Bed.c).flatten 100 8)) from ⟨_, _, hap, rfl, rfl⟩) ?_
    rintro v1 G1 ⟨rfl, rfl⟩
    refine OkO.assign rfl rfl ?_
    refine OkO.nil ?_
    refine Ok.seq ?_
    refine Ok.seq ?_
    refine Ok.region ?_
    refine OkO.assign rfl rfl ?_
    refine OkO.nil ?_
    refine Ok.block ?_
    refine Ok.loop (fun n8 s_ => ∃ k : Nat, n8 = n - k ∧ k ≤ n ∧ Grow W s_.H ∧ s_.H.next = G0.next + 2 ∧ (∀ j, j < G0.next + 1 → s_.H.get j = (G0.new (.cells [] 100)).get j) ∧ s_.H.get (G0.next + 1) = some (.opn ((wetK more col k).map Bed.c).flatten 100 8) ∧ Has 6 [(1, I more), (2, .ptr W.next 0), (4, .ptr (W.next + 1) 0), (5, .ptr (W.next + 2) 0), (6, I (i : Int)), (7, .opn (G0.next + 1) n), (8, I (k : Int))] s_.T ∧ s_.D = []) (n) (by unfold loopFuel; omega)
      ⟨0, rfl, Nat.zero_le _, (by (try dsimp only); repeat (first | exact hg | exact hG | apply Grow.new | (refine Grow.put ?_ _ (by first | omega | (simp only [hNw, hPt]; omega))))), by simp only [hNw], (fun j hj => gno _ _ _ (by simp only [hNw]; omega)), (by rw [wetK_zero]; exact gn1 _ _ _), Has.of (by kernel_rfl), rfl⟩ ?_
    rintro n8 ⟨T, D, G⟩ ⟨k, hn2, hk, hg, hgx2, hold, h7, ⟨f, hT⟩, hD⟩
    dsimp only at *
    subst hT hD
    have hgn := hg.next
    have e7 : (G.get (G0.next + 1)).bind AObj.cs = some ((wetK more col k).map Bed.c).flatten := by rw [h7]; rfl
    have f0 : G.get W.next = some (.cells [cv, I least] 24) := by rw [hold _ (by omega), gno _ _ _ (by omega)]; exact f0
    have f1 : G.get (W.next + 1) = some (.cells [.nils, I 0] 24) := by rw [hold _ (by omega), gno _ _ _ (by omega)]; exact f1
    have f2 : G.get (W.next + 2) = some (.cells [ov, I least] 24) := by rw [hold _ (by omega), gno _ _ _ (by omega)]; exact f2
    have e0 : (G.get W.next).bind AObj.cs = some [cv, I least] := by rw [f0]; rfl
    have e2 : (G.get (W.next + 2)).bind AObj.cs = some [ov, I least] := by rw [f2]; rfl
    have hX : Ext G0 G := ⟨by omega, fun j hj => (hold j (by omega)).trans (gno _ _ _ (by omega))⟩
    refine Ok.seq ?_
    refine Ok.seq ?_
    refine Ok.region ?_
    refine OkO.move rfl rfl ?_
    refine OkO.move rfl rfl ?_
    refine OkO.builtin rfl rfl rfl (bln (by kernel_rfl) (by first | assumption | rfl)) ?_
    refine OkO.bin rfl rfl rfl (bin_lss _ _) ?_
    refine OkO.nil ?_
    refine Ok.cond rfl (fun h2 => ?_) (fun h2 => ?_)
    · -- yes h2
      have hkn : k < n := by simpa using h2
      obtain ⟨bd, hbk0⟩ : ∃ bd, col[k]? = some bd := ⟨_, List.getElem?_eq_getElem (by omega)⟩
      have hbk := wetK_get (more := more) hbk0
      have hbl := Bed.ok_lim (hok col (List.mem_of_getElem? hcol) bd (List.mem_of_getElem? hbk0))
      unfold Bed.lim at hbl
      have hval := (bed_cell (j := 7) hbk (v := I bd.wh) rfl (by omega)).2
      refine Ok.skip ?_
      refine Ok.seq ?_
      refine Ok.block ?_
      refine Ok.region ?_
      refine OkO.move rfl rfl ?_
      refine OkO.move rfl rfl ?_
      refine OkO.move rfl rfl ?_
      refine OkO.move rfl rfl ?_
      refine OkO.index (sz := 8) (n := k) rfl rfl rfl (by kernel_rfl) (by first | assumption | rfl | exact slAt_slice (by omega) | exact slAt_opn (by omega)) ?_ -- index ('Go.Operand.tmp', 34) ('Go.Operand.tmp', 35)
      refine OkO.fieldAddr (o := 6) rfl (by kernel_rfl) rfl ?_
      refine OkO.fieldAddr (o := 1) rfl (by kernel_rfl) rfl ?_
      refine OkO.load rfl rfl (lda (n := 1) (by kernel_rfl) (by first | assumption | (simp (disch := first | omega | (simp only [hNw, hPt]; omega)) only [gn0, gn1, gn2, gn3, gn4, gn5, gp0, gno, gpo] <;> first | rfl | assumption | exact gp0 _ _ _ | exact gn0 _ _)) (by first | rfl | assumption)) ?_
      refine OkO.move rfl rfl ?_
      refine OkO.bin rfl rfl rfl (bin_add (by omega) (by omega)) ?_
      refine OkO.builtin rfl rfl rfl (builtin_min2 _ _) ?_
      refine OkO.index (sz := 8) (n := k) rfl rfl rfl (by kernel_rfl) (by first | assumption | rfl | exact slAt_slice (by omega) | exact slAt_opn (by omega)) ?_ -- index ('Go.Operand.tmp', 32) ('Go.Operand.tmp', 33)
      refine OkO.fieldAddr (o := 6) rfl (by kernel_rfl) rfl ?_
      refine OkO.fieldAddr (o := 1) rfl (by kernel_rfl) rfl ?_
      refine OkO.store rfl rfl rfl (storeAt_opn (n := 1) (ag := false) (by kernel_rfl) (by first | assumption | (simp (disch := first | omega | (simp only [hNw, hPt]; omega)) only [gn0, gn1, gn2, gn3, gn4, gn5, gp0, gno, gpo] <;> first | rfl | assumption | exact gp0 _ _ _ | exact gn0 _ _)) rfl (by first | rfl | assumption) (by first | rfl | exact spl_bed (j := 7) (b := bd) (b' := wet1 more bd) hbk (by omega) rfl)) ?_
      refine OkO.nil ?_
      refine Ok.region ?_
      refine OkO.move rfl rfl ?_
      refine OkO.bin rfl rfl rfl (bin_add (by omega) (by omega)) ?_
      refine OkO.assign rfl rfl ?_
      refine OkO.nil ?_
      refine ⟨n - (k + 1), by omega, k + 1, rfl, by omega, (by (try dsimp only); repeat (first | exact hg | exact hG | apply Grow.new | (refine Grow.put ?_ _ (by first | omega | (simp only [hNw, hPt]; omega))))), by simp only [hPt]; omega, (fun j hj => by rw [gpo _ _ _ _ (by omega)]; exact hold j hj), (by rw [gp0, wetK_set hbk0]), Has.of (by kernel_rfl), rfl⟩
    · -- no h2
      have hkn : k = n := by (have : ¬ k < n := by simpa using h2); omega
      refine Ok.exit ?_
      refine Ok.region ?_
      refine OkO.fieldAddr (o := 0) rfl (by kernel_rfl) rfl ?_
      refine OkO.load rfl rfl (lda (n := 1) (by kernel_rfl) (by first | assumption | (simp (disch := first | omega | (simp only [hNw, hPt]; omega)) only [gn0, gn1, gn2, gn3, gn4, gn5, gp0, gno, gpo] <;> first | rfl | assumption | exact gp0 _ _ _ | exact gn0 _ _)) (by first | rfl | assumption)) ?_
      refine OkO.move rfl rfl ?_
      refine OkO.buildSlice (el := 97) (sz := 1) (z := [.nils]) rfl (by kernel_rfl) (by decide) rfl rfl ?_
      refine OkO.builtinE rfl rfl rfl (Mine.app2 (W := W) (k0 := W.next + 3) (sz := 1) (by_ := 24) (e := 97) (n := 1) (new := [.opn (G0.next + 1) n]) ((hO.to hX).out.to (Grow.toNew _ _)) (by (try dsimp only); repeat (first | exact hg | exact hG | apply Grow.new | (refine Grow.put ?_ _ (by first | omega | (simp only [hNw, hPt]; omega))))) (by omega) (by first | omega | (simp only [hNw, hPt]; omega)) (by kernel_rfl) (by kernel_rfl) (elems_new (n := 1) (sz := 1) rfl) rfl rfl (by rw [List.length_map, hO.len]; unfold wetS; rw [List.length_map, List.length_take]; omega) (by omega) (by omega) rfl) ?_
      rintro v2 G2 ⟨q1, q2, q4, q5, q6, q7⟩
      simp only [hNw, hPt] at q5 q6
      have z0 : G2.get W.next = some (.cells [cv, I least] 24) := by rw [q4.get _ (by omega) (by first | omega | (simp only [hNw, hPt]; omega)), gno _ _ _ (by omega)]; exact f0
      have z1 : G2.get (W.next + 1) = some (.cells [.nils, I 0] 24) := by rw [q4.get _ (by omega) (by first | omega | (simp only [hNw, hPt]; omega)), gno _ _ _ (by omega)]; exact f1
      have z2 : G2.get (W.next + 2) = some (.cells [ov, I least] 24) := by rw [q4.get _ (by omega) (by first | omega | (simp only [hNw, hPt]; omega)), gno _ _ _ (by omega)]; exact f2
      have y2 : (G2.get (W.next + 2)).bind AObj.cs = some [ov, I least] := by rw [z2]; rfl
      obtain ⟨mm, hv2⟩ := q7
      simp only [hNw, hPt] at hv2
      subst hv2
      have hO2 := OwnS.snoc (c := wetC more col) (B := G0.next + 1) (P := G.next + 1) (Q := G.next) hO (by omega) (by omega) (by omega) (by omega) (by omega) hX (fun j hj hne => (q5 j (by omega) hne).trans (gno _ _ _ (by omega))) (by rw [h7, hkn, ← hcn, wetK_all]) (by simp [wetC, hcn]) (by rw [List.map_append]; exact q1)
      refine OkO.fieldAddr (o := 0) rfl (by kernel_rfl) rfl ?_
      refine OkO.store rfl rfl rfl (stc (n := 1) (ag := false) (by kernel_rfl) (by first | assumption | (simp (disch := first | omega | (simp only [hNw, hPt]; omega)) only [gn0, gn1, gn2, gn3, gn4, gn5, gp0, gno, gpo] <;> first | rfl | assumption | exact gp0 _ _ _ | exact gn0 _ _)) rfl (by first | rfl | assumption) (by first | rfl | exact spl_set _ _ _ (by first | assumption | omega | (simp; omega)))) ?_
      refine OkO.nil ?_
      refine Ok.region ?_
      refine OkO.move rfl rfl ?_
      refine OkO.bin rfl rfl rfl (bin_add (by omega) (by omega)) ?_
      refine OkO.assign rfl rfl ?_
      refine OkO.nil ?_
      refine ⟨cols.length - (i + 1), by omega, i + 1, .opn (G.next + 1) mm, bs ++ [G0.next + 1], rfl, by omega, ?_, q2.put _ (by omega), by simp only [hPt]; omega, (by first | assumption | (simp (disch := first | omega | (simp only [hNw, hPt]; omega)) only [gn0, gn1, gn2, gn3, gn4, gn5, gp0, gno, gpo] <;> first | rfl | assumption | exact gp0 _ _ _ | exact gn0 _ _)), (by first | assumption | (simp (disch := first | omega | (simp only [hNw, hPt]; omega)) only [gn0, gn1, gn2, gn3, gn4, gn5, gp0, gno, gpo] <;> first | rfl | assumption | exact gp0 _ _ _ | exact gn0 _ _)), (by first | assumption | (simp (disch := first | omega | (simp only [hNw, hPt]; omega)) only [gn0, gn1, gn2, gn3, gn4, gn5, gp0, gno, gpo] <;> first | rfl | assumption | exact gp0 _ _ _ | exact gn0 _ _)), Has.of (by kernel_rfl), rfl⟩
      rw [wetS_take hcol]
      exact hO2.put _ (by omega)
  · -- no h1
    have hil : i = cols.length := by (have : ¬ i < cols.length := by simpa using h1); omega
    have hone := hO.out.one
    have hat : atoms [ov, I least] = true := by (rw [atoms, hone.2]; rfl)
    have hnn : ov ≠ .nils := by (rcases hO.out with ⟨_, h⟩ | ⟨_, _, h, _⟩); (· (have h9 := hO.len); (have h8 : bs = [] := by simpa using h); (rw [h8] at h9); (simp [wetS] at h9); omega); (· rw [h]; simp)
    have hfl : ov.flat = false := by (rcases hO.out with ⟨h, _⟩ | ⟨_, _, h, _⟩); (· exact absurd h hnn); (· rw [h]; rfl)
    refine Ok.exit ?_
    refine Ok.seq ?_
    refine Ok.region ?_
    refine OkO.load rfl rfl (ldg (n := 2) (by kernel_rfl) (by first | assumption | (simp (disch := first | omega | (simp only [hNw, hPt]; omega)) only [gn0, gn1, gn2, gn3, gn4, gn5, gp0, gno, gpo] <;> first | rfl | assumption | exact gp0 _ _ _ | exact gn0 _ _)) (by first | rfl | assumption)) ?_
    refine OkO.store rfl rfl rfl (stc (n := 2) (ag := true) (by kernel_rfl) (by first | assumption | (simp (disch := first | omega | (simp only [hNw, hPt]; omega)) only [gn0, gn1, gn2, gn3, gn4, gn5, gp0, gno, gpo] <;> first | rfl | assumption | exact gp0 _ _ _ | exact gn0 _ _)) rfl (by first | rfl | assumption) (by first | rfl | exact spl_set _ _ _ (by first | assumption | omega | (simp; omega)))) ?_
    refine OkO.nil ?_
    refine Ok.ret ⟨.inr rfl, ?_⟩
    refine back_newQ (resV_cell rfl (ldg (n := 2) (by kernel_rfl) (by first | assumption | (simp (disch := first | omega | (simp only [hNw, hPt]; omega)) only [gn0, gn1, gn2, gn3, gn4, gn5, gp0, gno, gpo] <;> first | rfl | assumption | exact gp0 _ _ _ | exact gn0 _ _)) (by first | rfl | assumption)) resV_nil) rfl (by rw [← hW]; exact (by (try dsimp only); repeat (first | exact hg | exact hG | apply Grow.new | (refine Grow.put ?_ _ (by first | omega | (simp only [hNw, hPt]; omega)))))) (by simp [resOf, AV.flat, AV.flats, hfl]) (fun H9 p1 p2 p3 => ⟨ov, bs, rfl, p1, ?_, hnn⟩)
    have h9 : OwnS (W.next + 3) (G.put (W.next + 1) (.cells [ov, I least] 24)) ov n (wetS more (cols.take i)) bs := hO.put _ (by omega)
    rw [hil, List.take_length] at h9
    exact (h9.to ⟨by rw [p3]; exact Nat.le_refl _, fun j _ => p2 j⟩).low (by omega)
end
end Go.Ev

set_option maxRecDepth 100000
set_option linter.unusedSimpArgs false
set_option linter.unusedVariables false
namespace Go.Ev
open Go Go.Proofs
noncomputable section
/-- A slope in blocks of its own: each column in one, none of them older than a name. -/
structure OwnP (k0 : Nat) (H : Heap) (cv : AV) (n : Nat) (cols : List (List Bed)) (bs : List Nat) : Prop where
  len : bs.length = cols.length
  nd : bs.Nodup
  out : Mine k0 H cv 86 1 (bs.map fun b => AV.opn b n)
  col : ∀ (i b : Nat) c, bs[i]? = some b → cols[i]? = some c → H.get b = some (.opn (c.map Bed.c).flatten 85 8) ∧ c.length = n
  ge : ∀ b ∈ bs, k0 ≤ b ∧ b < H.next ∧ ∀ m, cv ≠ .opn b m
theorem OwnP.mat {k0 : Nat} {H : Heap} {cv : AV} {n : Nat} {cols : List (List Bed)} {bs : List Nat} (h : OwnP k0 H cv n cols bs) : Mat H cv cols := by
  refine ⟨bs.map fun b => AV.opn b n, Mine.row (k0 := k0) (e := 86) (sz := 1) (by rw [sing_flat]; exact h.out) (fun x hx => by simp only [List.mem_map] at hx; obtain ⟨y, _, rfl⟩ := hx; rfl) (by omega), by rw [List.length_map, h.len], fun i x c hx hc => ?_⟩
  rw [List.getElem?_map, Option.map_eq_some_iff] at hx
  obtain ⟨b, hb, rfl⟩ := hx
  obtain ⟨h1, h2⟩ := h.col i b c hb hc
  obtain ⟨h3, h4, _⟩ := h.ge b (List.mem_of_getElem? hb)
  exact Mine.row (k0 := k0) (e := 85) (.inr ⟨b, n, rfl, h1, by rw [flat_len _ 8 (bedc_len c), List.length_map, h2], h3, h4⟩) (bedc_len c) (by omega)
theorem OwnP.to {k0 : Nat} {H G : Heap} {cv : AV} {n : Nat} {cols : List (List Bed)} {bs : List Nat} (h : OwnP k0 H cv n cols bs) (g : Ext H G) : OwnP k0 G cv n cols bs :=
  ⟨h.len, h.nd, h.out.to g, fun i b c h1 h2 => ⟨by rw [g.get b (h.ge b (List.mem_of_getElem? h1)).2.1]; exact (h.col i b c h1 h2).1, (h.col i b c h1 h2).2⟩, fun b hb => ⟨(h.ge b hb).1, Nat.lt_of_lt_of_le (h.ge b hb).2.1 g.next, (h.ge b hb).2.2⟩⟩
theorem OwnP.put {k0 : Nat} {H : Heap} {cv : AV} {n : Nat} {cols : List (List Bed)} {bs : List Nat} (h : OwnP k0 H cv n cols bs) {m : Nat} (o : AObj) (hm : m < k0) : OwnP k0 (H.put m o) cv n cols bs :=
  ⟨h.len, h.nd, h.out.put o hm, fun i b c h1 h2 => ⟨by rw [gpo _ _ _ _ (by have := (h.ge b (List.mem_of_getElem? h1)).1; omega)]; exact (h.col i b c h1 h2).1, (h.col i b c h1 h2).2⟩, fun b hb => ⟨(h.ge b hb).1, by rw [hPt]; exact (h.ge b hb).2.1, (h.ge b hb).2.2⟩⟩
theorem OwnP.fr {k0 : Nat} {H : Heap} {cv : AV} {n : Nat} {cols : List (List Bed)} {bs : List Nat} (h : OwnP k0 H cv n cols bs) : Fr k0 H.next H fun X => OwnP k0 X cv n cols bs := by
  intro X h1 h2
  exact ⟨h.len, h.nd, h.out.fr X h1 h2, fun i b c a1 a2 => ⟨by obtain ⟨g1, g2, _⟩ := h.ge b (List.mem_of_getElem? a1); rw [h2 b g1 g2]; exact (h.col i b c a1 a2).1, (h.col i b c a1 a2).2⟩, fun b hb => ⟨(h.ge b hb).1, Nat.lt_of_lt_of_le (h.ge b hb).2.1 h1, (h.ge b hb).2.2⟩⟩
theorem OwnP.snoc {k0 : Nat} {G0 G G2 : Heap} {ov : AV} {n : Nat} {cols : List (List Bed)} {bs : List Nat} {c : List Bed} {B P Q mm : Nat} (h : OwnP k0 G0 ov n cols bs) (hk : k0 ≤ G0.next) (hB : G0.next ≤ B) (hBQ : B < Q) (hQP : Q ≤ P) (hP : P < G2.next)
    (hx : Ext G0 G) (hq : ∀ j, j < Q → (∀ m, ov ≠ .opn j m) → G2.get j = G.get j) (hc : G.get B = some (.opn (c.map Bed.c).flatten 85 8)) (hn : c.length = n) (hm : Mine k0 G2 (.opn P mm) 86 1 ((bs ++ [B]).map fun b => AV.opn b n)) : OwnP k0 G2 (.opn P mm) n (cols ++ [c]) (bs ++ [B]) := by
  have hlt : ∀ j m, G0.next ≤ j → ov ≠ .opn j m := fun j m hj he => by have := h.out.lt he; omega
  refine ⟨by simp [h.len], ?_, hm, fun i b d h1 h2 => ?_, fun b hb => ?_⟩
  · rw [List.nodup_append]
    refine ⟨h.nd, by simp, fun a ha d hd e => ?_⟩
    simp at hd
    have := (h.ge a ha).2.1
    omega
  · rcases Nat.lt_or_ge i bs.length with q | q
    · rw [List.getElem?_append_left q] at h1
      rw [List.getElem?_append_left (by rw [← h.len]; exact q)] at h2
      obtain ⟨a1, a2, a3⟩ := h.ge b (List.mem_of_getElem? h1)
      obtain ⟨b1, b2⟩ := h.col i b d h1 h2
      exact ⟨by rw [hq b (by omega) a3, hx.get b a2]; exact b1, b2⟩
    · rw [List.getElem?_append_right q] at h1
      rw [List.getElem?_append_right (by rw [← h.len]; exact q)] at h2
      have h0 : i - bs.length = 0 := by have := (List.getElem?_eq_some_iff.1 h1).1; simp at this; omega
      have h00 : i - cols.length = 0 := by rw [← h.len]; exact h0
      rw [h0] at h1
      rw [h00] at h2
      simp at h1 h2
      subst h1 h2
      exact ⟨by rw [hq _ hBQ (fun m => hlt _ m hB)]; exact hc, hn⟩
  · rcases List.mem_append.1 hb with hb | hb
    · obtain ⟨a1, a2, a3⟩ := h.ge b hb
      exact ⟨a1, by omega, fun m e => by have := (AV.opn.inj e).1; omega⟩
    · simp at hb
      subst hb
      exact ⟨by omega, by omega, fun m e => by have := (AV.opn.inj e).1; omega⟩
theorem OwnP.low {k0 k1 : Nat} {H : Heap} {cv : AV} {n : Nat} {cols : List (List Bed)} {bs : List Nat} (h : OwnP k0 H cv n cols bs) (hk : k1 ≤ k0) : OwnP k1 H cv n cols bs :=
  ⟨h.len, h.nd, h.out.ge hk, h.col, fun b hb => ⟨Nat.le_trans hk (h.ge b hb).1, (h.ge b hb).2⟩⟩
def reachE (cols : List (List Bed)) (least fa : Int) : Int := if slOk cols least = true then (if inB fa 0 10000 = true then (if belowB cols.length (cols.headD []).length least (prC cols fa) = true then 10 else 0) else 2) else 1
end
end Go.Ev

set_option maxRecDepth 100000
set_option linter.unusedSimpArgs false
set_option linter.unusedVariables false
namespace Go.Ev
open Go Go.Proofs
noncomputable section
theorem wet1_ok {w : Int} {x : Bed} (h : x.ok = true) (hw : 0 ≤ w) : (wet1 w x).ok = true := by
  have hl := Bed.ok_lim h
  unfold Bed.lim at hl
  unfold Bed.ok inB okR wet1
  simp
  omega
theorem wet1_zero {x : Bed} (h : x.ok = true) : wet1 0 x = x := by
  have hl := Bed.ok_lim h
  unfold Bed.lim at hl
  unfold wet1
  have e : min 100000 (x.wh + 0) = x.wh := by omega
  rw [e]
theorem wetS_len (w : Int) (cols : List (List Bed)) : (wetS w cols).length = cols.length := by simp [wetS]
theorem wetS_get (w : Int) (cols : List (List Bed)) (c : Nat) : (wetS w cols)[c]? = cols[c]?.map (wetC w) := by simp [wetS]
theorem wetS_head (w : Int) (cols : List (List Bed)) : ((wetS w cols).headD []).length = (cols.headD []).length := by
  cases cols with
  | nil => rfl
  | cons a l => simp [wetS, wetC]
theorem wetS_lens {w : Int} {cols : List (List Bed)} {n : Nat} (h : ∀ c ∈ cols, c.length = n) : ∀ c ∈ wetS w cols, c.length = n := fun c hc => by
  obtain ⟨d, hd, rfl⟩ := List.mem_map.1 hc
  rw [wetC, List.length_map]
  exact h d hd
theorem wetS_beds {w : Int} {cols : List (List Bed)} (h : BedsOk cols) (hw : 0 ≤ w) : BedsOk (wetS w cols) := fun c hc b hb => by
  obtain ⟨d, hd, rfl⟩ := List.mem_map.1 hc
  obtain ⟨x, hx, rfl⟩ := List.mem_map.1 hb
  exact wet1_ok (h d hd x hx) hw
theorem slOk_of {cols : List (List Bed)} {least : Int} (h1 : 1 ≤ least ∧ least ≤ 4) (h2 : 1 ≤ cols.length ∧ cols.length ≤ 12) (h3 : 1 ≤ (cols.headD []).length ∧ (cols.headD []).length ≤ 5) (h4 : ∀ c ∈ cols, c.length = (cols.headD []).length) (h5 : BedsOk cols) : slOk cols least = true := by
  unfold slOk
  simp only [Bool.and_eq_true, List.all_eq_true]
  refine ⟨⟨⟨by simp only [inB, Bool.and_eq_true, decide_eq_true_eq]; omega, by simp only [inB, Bool.and_eq_true, decide_eq_true_eq]; omega⟩, by simp only [inB, Bool.and_eq_true, decide_eq_true_eq]; omega⟩, fun c hc => ?_⟩
  simp only [colOk, Bool.and_eq_true, decide_eq_true_eq, List.all_eq_true]
  exact ⟨h4 c hc, fun x hx => h5 c hc x hx⟩
theorem bedAt_wet {w : Int} {cols : List (List Bed)} {n c k : Nat} (hcl : ∀ c ∈ cols, c.length = n) (hc : c < cols.length) (hk : k < n) : bedAt (wetS w cols) c k = wet1 w (bedAt cols c k) := by
  have hl := hcl cols[c] (List.getElem_mem hc)
  unfold bedAt
  simp only [List.getD_eq_getElem?_getD, wetS_get, List.getElem?_eq_getElem hc, Option.map_some, Option.getD_some]
  unfold wetC
  rw [List.getElem?_map, List.getElem?_eq_getElem (show k < cols[c].length by omega)]
  rfl
theorem bedsW_wet {w : Int} {cols : List (List Bed)} {n : Nat} (hcl : ∀ c ∈ cols, c.length = n) : ∀ (us : List Nat) (c : Nat), Walk n us → c + us.length ≤ cols.length → bedsW (wetS w cols) c us = (bedsW cols c us).map (wet1 w)
  | [], _, _, _ => rfl
  | k :: l, c, h, hc => by
    simp only [List.length_cons] at hc
    rw [bedsW, bedsW, List.map_cons, bedAt_wet hcl (by omega) h.head, bedsW_wet hcl l (c + 1) (by cases l with | nil => trivial | cons j l => exact h.2.2) (by omega)]
theorem map_wet0 : ∀ (L : List Bed), (∀ b ∈ L, b.ok = true) → L.map (wet1 0) = L
  | [], _ => rfl
  | b :: L, h => by rw [List.map_cons, wet1_zero (h b (by simp)), map_wet0 L fun x hx => h x (by simp [hx])]
theorem fac_wet0 {cols : List (List Bed)} {least : Int} {n fr : Nat} {us : List Nat} (hcl : ∀ c ∈ cols, c.length = n) (hok : BedsOk cols) (hs : Surf cols.length n least fr us) : bedsW (wetS 0 cols) fr us = bedsW cols fr us := by
  rw [bedsW_wet hcl us fr hs.1 hs.2.2.2, map_wet0 _ (bedsW_ok hok us fr)]
/-- What Worst says of a slope. -/
def WorstIs (cols : List (List Bed)) (least e z : Int) : Prop := (e = 0 ∧ ∃ fr us, LowAt cols (cols.headD []).length least z fr us) ∨ (e = 7 ∧ z = 0 ∧ NoneAt cols (cols.headD []).length least)
/-- Is a slope with so much more water below a factor? -/
def wetB (cols : List (List Bed)) (least fa w : Int) : Bool := belowB cols.length (cols.headD []).length least (prC (wetS w cols) fa)
end
end Go.Ev

set_option maxRecDepth 100000
set_option linter.unusedSimpArgs false
set_option linter.unusedVariables false
namespace Go.Ev
open Go Go.Proofs
noncomputable section
theorem worstIs_of {cols : List (List Bed)} {least z e : Int} {x y : AV} {H H' : Heap} (h : (e = 0 ∧ ∃ (fr : Nat) (us : List Nat), x = I (fr : Int) ∧ Mine H.next H' y 3 1 (us.map fun (k : Nat) => I (k : Int)) ∧ y ≠ .nils ∧ LowAt cols (cols.headD []).length least z fr us) ∨ (e = 7 ∧ x = I 0 ∧ y = .nils ∧ z = 0 ∧ H' = H ∧ NoneAt cols (cols.headD []).length least)) : WorstIs cols least e z := by
  rcases h with ⟨h1, fr, us, _, _, _, h2⟩ | ⟨h1, _, _, h2, _, h3⟩
  · exact .inl ⟨h1, fr, us, h2⟩
  · exact .inr ⟨h1, h2, h3⟩
theorem thin_wet {w : Int} {cols : List (List Bed)} (h : thinB cols = true) : thinB (wetS w cols) = true := by
  have hf := thin_facts h
  simp only [thinB, Bool.and_eq_true, decide_eq_true_eq, List.all_eq_true, wetS_len]
  refine ⟨hf.1, fun c hc => ?_⟩
  obtain ⟨d, hd, rfl⟩ := List.mem_map.1 hc
  rw [wetC, List.length_map]
  exact hf.2 d hd
end
end Go.Ev

set_option maxRecDepth 100000
set_option linter.unusedSimpArgs false
set_option linter.unusedVariables false
namespace Go.Ev
open Go Go.Proofs
noncomputable section
def mapK (f : Bed → Bed) (c : List Bed) (k : Nat) : List Bed := (c.take k).map f ++ c.drop k
theorem mapK_get {f : Bed → Bed} {c : List Bed} {k : Nat} {b : Bed} (h : c[k]? = some b) : (mapK f c k)[k]? = some b := by
  have hlt := (List.getElem?_eq_some_iff.1 h).1
  unfold mapK
  rw [List.getElem?_append_right (by simp; omega)]
  simp [Nat.min_eq_left (Nat.le_of_lt hlt), h]
theorem mapK_set {f : Bed → Bed} {c : List Bed} {k : Nat} {b : Bed} (h : c[k]? = some b) : (mapK f c k).set k (f b) = mapK f c (k + 1) := by
  have hlt := (List.getElem?_eq_some_iff.1 h).1
  have hb := (List.getElem?_eq_some_iff.1 h).2
  unfold mapK
  rw [List.set_append_right _ _ (by simp; omega), List.take_succ_eq_append_getElem hlt, hb, List.drop_eq_getElem_cons hlt, hb]
  simp [Nat.min_eq_left (Nat.le_of_lt hlt)]
theorem mapK_zero (f : Bed → Bed) (c : List Bed) : mapK f c 0 = c := by simp [mapK]
theorem mapK_all (f : Bed → Bed) (c : List Bed) : mapK f c c.length = c.map f := by simp [mapK]
theorem OwnS.putN {k0 : Nat} {H : Heap} {cv : AV} {n : Nat} {cols : List (List Bed)} {bs : List Nat} (h : OwnS k0 H cv n cols bs) {m : Nat} (o : AObj) (h1 : m ∉ bs) (h2 : ∀ q, cv ≠ .opn m q) : OwnS k0 (H.put m o) cv n cols bs := by
  refine ⟨h.len, h.nd, ?_, fun i b c a1 a2 => ⟨by rw [gpo _ _ _ _ (fun e => h1 (by rw [← e]; exact List.mem_of_getElem? a1))]; exact (h.col i b c a1 a2).1, (h.col i b c a1 a2).2⟩, fun b hb => ⟨(h.ge b hb).1, by rw [hPt]; exact (h.ge b hb).2.1, (h.ge b hb).2.2⟩⟩
  rcases h.out with q | ⟨b, k, a1, a2, a3, a4, a5⟩
  · exact .inl q
  · exact .inr ⟨b, k, a1, by rw [gpo _ _ _ _ (fun e => h2 k (by rw [a1, e]))]; exact a2, a3, a4, by rw [hPt]; exact a5⟩
def setDr (d : Int) (b : Bed) : Bed := { b with dr := d }
/-- A lesser Least: more surfaces. -/
theorem fam_least {cols : List (List Bed)} {least least' z e' z' : Int} (hv : slOk cols least = true) (hl : least' ≤ least) (h : ∃ fr us, LowAt cols (cols.headD []).length least z fr us) (h' : WorstIs (wetS 0 cols) least' e' z') : e' = 0 ∧ z' ≤ z := by
  have hcl := lens_of hv
  have hok := bedsOk_of hv
  obtain ⟨fr, us, hs, hd, hz, hlo⟩ := h
  have q := fac_wet0 hcl hok hs
  unfold WorstIs LowAt NoneAt facW at h'
  simp only [wetS_len, wetS_head] at h'
  have hs' : Surf cols.length (cols.headD []).length least' fr us := ⟨hs.1, hs.2.1, by have := hs.2.2.1; omega, hs.2.2.2⟩
  rcases h' with ⟨he, _, _, _, _, _, h9⟩ | ⟨_, _, h9⟩
  · have := h9 fr us hs' (by rw [q]; exact hd)
    rw [q] at this
    unfold facW at hz
    exact ⟨he, by omega⟩
  · have := h9 fr us hs'
    rw [q] at this
    omega
theorem bedsW_app {cols : List (List Bed)} {c' : List Bed} : ∀ (us : List Nat) (c : Nat), c + us.length ≤ cols.length → bedsW (cols ++ [c']) c us = bedsW cols c us
  | [], _, _ => rfl
  | k :: l, c, h => by
    simp only [List.length_cons] at h
    rw [bedsW, bedsW, bedsW_app l (c + 1) (by omega)]
    unfold bedAt
    simp only [List.getD_eq_getElem?_getD]
    rw [List.getElem?_append_left (by omega)]
theorem head_app {cols : List (List Bed)} {c' : List Bed} (h : 1 ≤ cols.length) : (cols ++ [c']).headD [] = cols.headD [] := by
  cases cols with
  | nil => simp at h
  | cons a l => rfl
/-- A column more: more surfaces. -/
theorem fam_long {cols : List (List Bed)} {c' : List Bed} {least z e' z' : Int} (hv : slOk cols least = true) (h : ∃ fr us, LowAt cols (cols.headD []).length least z fr us) (h' : WorstIs (wetS 0 cols ++ [c']) least e' z') : e' = 0 ∧ z' ≤ z := by
  have hcl := lens_of hv
  have hok := bedsOk_of hv
  have hf := slOk_facts hv
  obtain ⟨fr, us, hs, hd, hz, hlo⟩ := h
  have q := fac_wet0 hcl hok hs
  have hle : fr + us.length ≤ cols.length := hs.2.2.2
  have q2 : bedsW (wetS 0 cols ++ [c']) fr us = bedsW cols fr us := by rw [bedsW_app us fr (by rw [wetS_len]; exact hle), q]
  unfold WorstIs LowAt NoneAt facW at h'
  simp only [List.length_append, wetS_len, List.length_singleton, head_app (c' := c') (show 1 ≤ (wetS 0 cols).length by rw [wetS_len]; omega), wetS_head] at h'
  have hs' : Surf (cols.length + 1) (cols.headD []).length least fr us := ⟨hs.1, hs.2.1, hs.2.2.1, by omega⟩
  rcases h' with ⟨he, _, _, _, _, _, h9⟩ | ⟨_, _, h9⟩
  · have := h9 fr us hs' (by rw [q2]; exact hd)
    rw [q2] at this
    unfold facW at hz
    exact ⟨he, by omega⟩
  · have := h9 fr us hs'
    rw [q2] at this
    omega
theorem long_ok {cols : List (List Bed)} {c : List Bed} {least d : Int} (hv : slOk cols least = true) (h11 : cols.length ≤ 11) (hc : c ∈ wetS 0 cols) (hd : -32768 ≤ d ∧ d ≤ 32767) : slOk (wetS 0 cols ++ [c.map (setDr d)]) least = true := by
  have hf := slOk_facts hv
  have hw := wetS_beds (bedsOk_of hv) (Int.le_refl 0)
  have hn : c.length = (cols.headD []).length := wetS_lens (lens_of hv) c hc
  refine slOk_of (by omega) (by rw [List.length_append, wetS_len]; simp; omega) (by rw [head_app (by rw [wetS_len]; omega), wetS_head]; omega) (fun x hx => ?_) (fun x hx y hy => ?_)
  · rw [head_app (by rw [wetS_len]; omega), wetS_head]
    rcases List.mem_append.1 hx with hx | hx
    · exact wetS_lens (lens_of hv) x hx
    · simp at hx; subst hx; rw [List.length_map]; exact hn
  · rcases List.mem_append.1 hx with hx | hx
    · exact hw x hx y hy
    · simp at hx
      subst hx
      obtain ⟨a, ha, rfl⟩ := List.mem_map.1 hy
      have hl := Bed.ok_lim (hw c hc a ha)
      unfold Bed.lim at hl
      unfold Bed.ok inB okR setDr
      simp
      omega
theorem thin_long {cols : List (List Bed)} {c : List Bed} (hth : thinB cols = true) (h11 : cols.length ≤ 11) (hc : c ∈ wetS 0 cols) (d : Int) : thinB (wetS 0 cols ++ [c.map (setDr d)]) = true := by
  have hf := thin_facts (thin_wet (w := 0) hth)
  simp only [thinB, Bool.and_eq_true, decide_eq_true_eq, List.all_eq_true]
  refine ⟨by rw [List.length_append, wetS_len]; simp; omega, fun x hx => ?_⟩
  rcases List.mem_append.1 hx with hx | hx
  · exact hf.2 x hx
  · simp at hx; subst hx; rw [List.length_map]; exact hf.2 c hc
def I16 (d : Int) : AV := .int .i16 d
section
open Go.ChangeShapes Go.WideShapes Go.RowKit
variable {H0 : Type} {enc : TypeId × Value → H0} {w : World} {base n : Nat} {sp : Nat → Bool} {hd : Bool}
theorem i16_open {c : List Value} {y} (h : DataW.trod enc Try.prog w base sp hd n 104 c = some y) : ∃ x : Int, c = [.int .i16 x] ∧ -32768 ≤ x ∧ x ≤ 32767 := by
  obtain ⟨x, h1, _, hw⟩ := DataW.trod_int Try.underlying104 h
  refine ⟨x, h1, ?_⟩
  have h2 : (decide (IntKind.min .i16 ≤ x) && decide (x ≤ IntKind.max .i16)) = true := hw
  rw [Bool.and_eq_true] at h2
  have h3 := of_decide_eq_true h2.1
  have h4 := of_decide_eq_true h2.2
  have e1 : IntKind.min .i16 = -32768 := by decide
  have e2 : IntKind.max .i16 = 32767 := by decide
  omega
theorem i16_arg {H : Heap} (hs : Snap w H) {v : Value} {d : DataW H0} {p : List MemPlace} (hv : ∃ n, v = .int .i16 n) (h : DataW.Trod enc Try.prog w base sp hd 104 v d p) : ∃ x : Int, argAV w.heap.size v = .int .i16 x ∧ -32768 ≤ x ∧ x ≤ 32767 := by
  obtain ⟨n, rfl⟩ := hv
  obtain ⟨fuel, h⟩ := h
  obtain ⟨x, h1, hb⟩ := i16_open h
  have h1' : ([Value.int .i16 n] : List Value) = [.int .i16 x] := h1
  have e0 : n = x := by simpa using h1'
  subst e0
  exact ⟨n, rfl, hb⟩
end
theorem c15W (m : Nat) (cv : AV) (cols : List (List Bed)) (least dr : Int) (H : Heap) (hM : Mat H cv cols) (hdr : -32768 ≤ dr ∧ dr ≤ 32767) (hrd : readyS cols least = false) : RR (m + 213) (.fn 15 [.agg [cv, I least], I16 dr]) H = some (.bool true, H) := by
  refine (R_fn _ _ _ _ _).trans ?_
  refine fn_ok Try.func15 rfl rfl (by kernel_rfl) (by kernel_rfl) ?_
  obtain ⟨W, hW⟩ : ∃ W : Heap, W = ⟨H.t, H.next, H.next⟩ := ⟨_, rfl⟩
  have hg : ∀ n, W.get n = H.get n := fun n => by rw [hW]; rfl
  have hN : W.next = H.next := by rw [hW]
  have hE : ∀ G, Grow W G → Ext H G := fun G g => ⟨by rw [← hN]; exact g.next, fun n k => by rw [g.get n (by rw [hN]; exact k), hg]⟩
  have hG : Grow W W := Grow.refl (by rw [hW]; exact Nat.le_refl _)
  rw [← hW]
  have hlen : lenOf cv = some cols.length := by obtain ⟨vs, hR, hvl, _⟩ := hM; rw [← hvl]; simpa using hR.len
  refine Ok.seq ?_
  refine Ok.region ?_
  refine OkO.box rfl rfl ?_
  refine OkO.assign rfl rfl ?_
  refine OkO.nil ?_
  refine Ok.seq ?_
  refine Ok.seq ?_
  refine Ok.region ?_
  refine OkO.load rfl rfl (ldg (n := 2) (by kernel_rfl) (by first | assumption | (simp (disch := first | omega | (simp only [hNw, hPt]; omega)) only [gn0, gn1, gn2, gn3, gn4, gn5, gp0, gno, gpo] <;> first | rfl | assumption | exact gp0 _ _ _ | exact gn0 _ _)) (by first | rfl | assumption)) ?_
  refine OkO.callV rfl rfl rfl rfl rfl ((c51 (m + 209) cv cols least _ (hM.ext (hE _ (by (try dsimp only); repeat (first | exact hG | apply Grow.new | (refine Grow.put ?_ _ (by first | omega | (simp only [hNw, hPt]; omega)))))))).trans (by rw [hrd])) ?_ -- "sackung/sackunglaw01.ready"
  refine OkO.un rfl rfl rfl ?_
  refine OkO.move rfl rfl ?_
  refine OkO.split (d := 21) rfl (fun g1 => ?_) (fun g1 => ?_)
  · -- true g1
    refine OkO.skip rfl ?_
    refine OkO.skip rfl ?_
    refine OkO.skip rfl ?_
    refine OkO.skip rfl ?_
    refine OkO.pick (b := true) rfl rfl (fun _ => rfl) nofun ?_
    refine OkO.nil ?_
    refine Ok.condT rfl ?_
    refine Ok.seq ?_
    refine Ok.region ?_
    refine OkO.callV rfl rfl rfl rfl rfl (rfl) ?_ -- "sackung/sackunglaw01.wakes"
    refine OkO.assign rfl rfl ?_
    refine OkO.nil ?_
    refine Ok.ret ⟨.inr rfl, ?_⟩
    exact back_flat rfl rfl rfl (by rw [← hW]; exact (by (try dsimp only); repeat (first | exact hG | apply Grow.new | (refine Grow.put ?_ _ (by first | omega | (simp only [hNw, hPt]; omega))))))
  · -- false g1
    exact absurd g1 (by simp)
theorem c15M (m : Nat) (cv : AV) (cols : List (List Bed)) (least dr : Int) (H : Heap) (hM : Mat H cv cols) (hdr : -32768 ≤ dr ∧ dr ≤ 32767) (hrd : readyS cols least = true) (h11 : ¬ cols.length ≤ 11) : RR (m + 213) (.fn 15 [.agg [cv, I least], I16 dr]) H = some (.bool true, H) := by
  refine (R_fn _ _ _ _ _).trans ?_
  refine fn_ok Try.func15 rfl rfl (by kernel_rfl) (by kernel_rfl) ?_
  obtain ⟨W, hW⟩ : ∃ W : Heap, W = ⟨H.t, H.next, H.next⟩ := ⟨_, rfl⟩
  have hg : ∀ n, W.get n = H.get n := fun n => by rw [hW]; rfl
  have hN : W.next = H.next := by rw [hW]
  have hE : ∀ G, Grow W G → Ext H G := fun G g => ⟨by rw [← hN]; exact g.next, fun n k => by rw [g.get n (by rw [hN]; exact k), hg]⟩
  have hG : Grow W W := Grow.refl (by rw [hW]; exact Nat.le_refl _)
  rw [← hW]
  have hlen : lenOf cv = some cols.length := by obtain ⟨vs, hR, hvl, _⟩ := hM; rw [← hvl]; simpa using hR.len
  refine Ok.seq ?_
  refine Ok.region ?_
  refine OkO.box rfl rfl ?_
  refine OkO.assign rfl rfl ?_
  refine OkO.nil ?_
  refine Ok.seq ?_
  refine Ok.seq ?_
  refine Ok.region ?_
  refine OkO.load rfl rfl (ldg (n := 2) (by kernel_rfl) (by first | assumption | (simp (disch := first | omega | (simp only [hNw, hPt]; omega)) only [gn0, gn1, gn2, gn3, gn4, gn5, gp0, gno, gpo] <;> first | rfl | assumption | exact gp0 _ _ _ | exact gn0 _ _)) (by first | rfl | assumption)) ?_
  refine OkO.callV rfl rfl rfl rfl rfl ((c51 (m + 209) cv cols least _ (hM.ext (hE _ (by (try dsimp only); repeat (first | exact hG | apply Grow.new | (refine Grow.put ?_ _ (by first | omega | (simp only [hNw, hPt]; omega)))))))).trans (by rw [hrd])) ?_ -- "sackung/sackunglaw01.ready"
  refine OkO.un rfl rfl rfl ?_
  refine OkO.move rfl rfl ?_
  refine OkO.split (d := 21) rfl (fun g1 => ?_) (fun g1 => ?_)
  · -- true g1
    exact absurd g1 (by simp)
  · -- false g1
    refine OkO.fieldAddr (o := 0) rfl (by kernel_rfl) rfl ?_
    refine OkO.load rfl rfl (lda (n := 1) (by kernel_rfl) (by first | assumption | (simp (disch := first | omega | (simp only [hNw, hPt]; omega)) only [gn0, gn1, gn2, gn3, gn4, gn5, gp0, gno, gpo] <;> first | rfl | assumption | exact gp0 _ _ _ | exact gn0 _ _)) (by first | rfl | assumption)) ?_
    refine OkO.builtin rfl rfl rfl (bln (by kernel_rfl) (by first | assumption | rfl)) ?_
    refine OkO.bin rfl rfl rfl (bin_gtr _ _) ?_
    refine OkO.pick (b := false) rfl rfl nofun (fun _ => rfl) ?_
    refine OkO.nil ?_
    refine Ok.cond rfl (fun h2 => ?_) (fun h2 => ?_)
    · -- yes h2
      refine Ok.seq ?_
      refine Ok.region ?_
      refine OkO.callV rfl rfl rfl rfl rfl (rfl) ?_ -- "sackung/sackunglaw01.wakes"
      refine OkO.assign rfl rfl ?_
      refine OkO.nil ?_
      refine Ok.ret ⟨.inr rfl, ?_⟩
      exact back_flat rfl rfl rfl (by rw [← hW]; exact (by (try dsimp only); repeat (first | exact hG | apply Grow.new | (refine Grow.put ?_ _ (by first | omega | (simp only [hNw, hPt]; omega))))))
    · -- no h2
      exact absurd h2 (by simp; omega)
theorem c15N (m : Nat) (cv : AV) (cols : List (List Bed)) (least dr : Int) (H : Heap) (hM : Mat H cv cols) (hdr : -32768 ≤ dr ∧ dr ≤ 32767) (hth : thinB cols = true) (hv : slOk cols least = true) (hlc : least ≤ cols.length) (hrd : readyS cols least = true) (h11 : cols.length ≤ 11) (hcase : NoneAt cols (cols.headD []).length least) : RR (m + 213) (.fn 15 [.agg [cv, I least], I16 dr]) H = some (.bool true, H) := by
  refine (R_fn _ _ _ _ _).trans ?_
  refine fn_ok Try.func15 rfl rfl (by kernel_rfl) (by kernel_rfl) ?_
  obtain ⟨W, hW⟩ : ∃ W : Heap, W = ⟨H.t, H.next, H.next⟩ := ⟨_, rfl⟩
  have hg : ∀ n, W.get n = H.get n := fun n => by rw [hW]; rfl
  have hN : W.next = H.next := by rw [hW]
  have hE : ∀ G, Grow W G → Ext H G := fun G g => ⟨by rw [← hN]; exact g.next, fun n k => by rw [g.get n (by rw [hN]; exact k), hg]⟩
  have hG : Grow W W := Grow.refl (by rw [hW]; exact Nat.le_refl _)
  rw [← hW]
  have hlen : lenOf cv = some cols.length := by obtain ⟨vs, hR, hvl, _⟩ := hM; rw [← hvl]; simpa using hR.len
  have pc : cv.plain = true := lpl hlen
  have hsf := slOk_facts hv
  refine Ok.seq ?_
  refine Ok.region ?_
  refine OkO.box rfl rfl ?_
  refine OkO.assign rfl rfl ?_
  refine OkO.nil ?_
  refine Ok.seq ?_
  refine Ok.seq ?_
  refine Ok.region ?_
  refine OkO.load rfl rfl (ldg (n := 2) (by kernel_rfl) (by first | assumption | (simp (disch := first | omega | (simp only [hNw, hPt]; omega)) only [gn0, gn1, gn2, gn3, gn4, gn5, gp0, gno, gpo] <;> first | rfl | assumption | exact gp0 _ _ _ | exact gn0 _ _)) (by first | rfl | assumption)) ?_
  refine OkO.callV rfl rfl rfl rfl rfl ((c51 (m + 209) cv cols least _ (hM.ext (hE _ (by (try dsimp only); repeat (first | exact hG | apply Grow.new | (refine Grow.put ?_ _ (by first | omega | (simp only [hNw, hPt]; omega)))))))).trans (by rw [hrd])) ?_ -- "sackung/sackunglaw01.ready"
  refine OkO.un rfl rfl rfl ?_
  refine OkO.move rfl rfl ?_
  refine OkO.split (d := 21) rfl (fun g1 => ?_) (fun g1 => ?_)
  · -- true g1
    exact absurd g1 (by simp)
  · -- false g1
    refine OkO.fieldAddr (o := 0) rfl (by kernel_rfl) rfl ?_
    refine OkO.load rfl rfl (lda (n := 1) (by kernel_rfl) (by first | assumption | (simp (disch := first | omega | (simp only [hNw, hPt]; omega)) only [gn0, gn1, gn2, gn3, gn4, gn5, gp0, gno, gpo] <;> first | rfl | assumption | exact gp0 _ _ _ | exact gn0 _ _)) (by first | rfl | assumption)) ?_
    refine OkO.builtin rfl rfl rfl (bln (by kernel_rfl) (by first | assumption | rfl)) ?_
    refine OkO.bin rfl rfl rfl (bin_gtr _ _) ?_
    refine OkO.pick (b := false) rfl rfl nofun (fun _ => rfl) ?_
    refine OkO.nil ?_
    refine Ok.cond rfl (fun h2 => ?_) (fun h2 => ?_)
    · -- yes h2
      exact absurd h2 (by simp; omega)
    · -- no h2
      refine Ok.skip ?_
      refine Ok.seq ?_
      refine Ok.region ?_
      refine OkO.load rfl rfl (ldg (n := 2) (by kernel_rfl) (by first | assumption | (simp (disch := first | omega | (simp only [hNw, hPt]; omega)) only [gn0, gn1, gn2, gn3, gn4, gn5, gp0, gno, gpo] <;> first | rfl | assumption | exact gp0 _ _ _ | exact gn0 _ _)) (by first | rfl | assumption)) ?_
      refine OkO.callE rfl rfl rfl rfl rfl (c19 (m + 210) cv cols least _ (hM.ext (hE _ (by (try dsimp only); repeat (first | exact hG | apply Grow.new | (refine Grow.put ?_ _ (by first | omega | (simp only [hNw, hPt]; omega))))))) hth) ?_ -- "sackung/sackunglaw01.Slope"
      rintro _ Ha1 ⟨cv1, rfl, qa1, fa1⟩
      have n1 := qa1.ext.next
      try simp only [hNw, hPt] at n1
      have gg1 : Grow W Ha1 := Grow.ret (by (try dsimp only); repeat (first | exact hG | apply Grow.new | (refine Grow.put ?_ _ (by first | omega | (simp only [hNw, hPt]; omega))))) qa1
      have a1 : (Ha1.get (W.next)).bind AObj.cs = some [cv, I least] := by rw [qa1.ext.get _ (by first | omega | (simp only [hNw, hPt]; omega))]; first | assumption | (rw [gn0]; rfl) | (rw [get_put_eq] <;> rfl) | (simp (disch := first | omega | (simp only [hNw, hPt]; omega)) only [gn0, gn1, gn2, gn3, gn4, gn5, gp0, gno, gpo] <;> first | rfl | assumption | (rw [get_put_eq] <;> rfl))
      have ma1 := fa1.now (Nat.le_refl _)
      refine OkO.callE rfl rfl rfl rfl rfl (c31' (m + 1) cv1 cols least _ ma1 hv) ?_ -- "sackung/slope.Worst"
      rintro _ Hw1 ⟨qw1, x1, y1, z1, e1, rfl, at1, hd1⟩
      have n2 := qw1.ext.next
      try simp only [hNw, hPt] at n2
      have gg2 : Grow W Hw1 := Grow.ret (by (try dsimp only); repeat (first | exact gg1 | apply Grow.new | (refine Grow.put ?_ _ (by first | omega | (simp only [hNw, hPt]; omega))))) qw1
      have a2 : (Hw1.get (W.next)).bind AObj.cs = some [cv, I least] := by rw [qw1.ext.get _ (by first | omega | (simp only [hNw, hPt]; omega))]; first | assumption | (rw [gn0]; rfl) | (rw [get_put_eq] <;> rfl) | (simp (disch := first | omega | (simp only [hNw, hPt]; omega)) only [gn0, gn1, gn2, gn3, gn4, gn5, gp0, gno, gpo] <;> first | rfl | assumption | (rw [get_put_eq] <;> rfl))
      have w1 := worstIs_of hd1
      have he1 : e1 = 7 := by (rcases w1 with ⟨_, fr, us, h⟩ | ⟨h, h2, _⟩); (· exact absurd (hcase fr us h.1) (by have := h.2.1; omega)); (· exact h)
      refine OkO.move rfl rfl ?_
      refine OkO.extract rfl rfl rfl ?_
      refine OkO.extract rfl rfl rfl ?_
      refine OkO.extract rfl rfl rfl ?_
      refine OkO.alloc (z := [.int .i64 0, .nils]) rfl (by kernel_rfl) ?_
      refine OkO.store rfl rfl rfl (stc (n := 2) (ag := true) (by kernel_rfl) (by first | assumption | (simp (disch := first | omega | (simp only [hNw, hPt]; omega)) only [gn0, gn1, gn2, gn3, gn4, gn5, gp0, gno, gpo] <;> first | rfl | assumption | exact gp0 _ _ _ | exact gn0 _ _)) rfl (by first | rfl | assumption) (by first | rfl | exact spl_set _ _ _ (by first | assumption | omega | (simp; omega)))) ?_
      refine OkO.assign rfl rfl ?_
      refine OkO.assign rfl rfl ?_
      refine OkO.nil ?_
      refine Ok.seq ?_
      refine Ok.seq ?_
      refine Ok.region ?_
      refine OkO.move rfl rfl ?_
      refine OkO.bin rfl rfl rfl (bin_neq _ _) ?_
      refine OkO.nil ?_
      refine Ok.cond rfl (fun h3 => ?_) (fun h3 => ?_)
      · -- yes h3
        refine Ok.seq ?_
        refine Ok.region ?_
        refine OkO.move rfl rfl ?_
        refine OkO.bin rfl rfl rfl (bin_eql _ _) ?_
        refine OkO.move rfl rfl ?_
        refine OkO.split (d := 39) rfl (fun g4 => ?_) (fun g4 => ?_)
        · -- true g4
          refine OkO.callV rfl rfl rfl rfl rfl (rfl) ?_ -- "sackung/sackunglaw01.wakes"
          refine OkO.pick (b := true) rfl rfl (fun _ => rfl) nofun ?_
          refine OkO.assign rfl rfl ?_
          refine OkO.nil ?_
          refine Ok.ret ⟨.inr rfl, ?_⟩
          exact back_flat rfl rfl rfl (by rw [← hW]; exact (by (try dsimp only); repeat (first | exact gg2 | apply Grow.new | (refine Grow.put ?_ _ (by first | omega | (simp only [hNw, hPt]; omega))))))
        · -- false g4
          exact absurd g4 (by simp [he1])
      · -- no h3
        exact absurd h3 (by simp [he1])
theorem c15L (m : Nat) (cv : AV) (cols : List (List Bed)) (least dr : Int) (H : Heap) (hM : Mat H cv cols) (hdr : -32768 ≤ dr ∧ dr ≤ 32767) (hth : thinB cols = true) (hv : slOk cols least = true) (hlc : least ≤ cols.length) (hrd : readyS cols least = true) (h11 : cols.length ≤ 11) (hcase : ¬ NoneAt cols (cols.headD []).length least) : RR (m + 213) (.fn 15 [.agg [cv, I least], I16 dr]) H = some (.bool true, H) := by
  refine (R_fn _ _ _ _ _).trans ?_
  refine fn_ok Try.func15 rfl rfl (by kernel_rfl) (by kernel_rfl) ?_
  obtain ⟨W, hW⟩ : ∃ W : Heap, W = ⟨H.t, H.next, H.next⟩ := ⟨_, rfl⟩
  have hg : ∀ n, W.get n = H.get n := fun n => by rw [hW]; rfl
  have hN : W.next = H.next := by rw [hW]
  have hE : ∀ G, Grow W G → Ext H G := fun G g => ⟨by rw [← hN]; exact g.next, fun n k => by rw [g.get n (by rw [hN]; exact k), hg]⟩
  have hG : Grow W W := Grow.refl (by rw [hW]; exact Nat.le_refl _)
  rw [← hW]
  have hlen : lenOf cv = some cols.length := by obtain ⟨vs, hR, hvl, _⟩ := hM; rw [← hvl]; simpa using hR.len
  have pc : cv.plain = true := lpl hlen
  have hsf := slOk_facts hv
  have hvx : slOk (wetS 0 cols) (max 1 (least - 1)) = true := slOk_of (by omega) (by rw [wetS_len]; omega) (by rw [wetS_head]; omega) (by rw [wetS_head]; exact wetS_lens (lens_of hv)) (wetS_beds (bedsOk_of hv) (Int.le_refl 0))
  refine Ok.seq ?_
  refine Ok.region ?_
  refine OkO.box rfl rfl ?_
  refine OkO.assign rfl rfl ?_
  refine OkO.nil ?_
  refine Ok.seq ?_
  refine Ok.seq ?_
  refine Ok.region ?_
  refine OkO.load rfl rfl (ldg (n := 2) (by kernel_rfl) (by first | assumption | (simp (disch := first | omega | (simp only [hNw, hPt]; omega)) only [gn0, gn1, gn2, gn3, gn4, gn5, gp0, gno, gpo] <;> first | rfl | assumption | exact gp0 _ _ _ | exact gn0 _ _)) (by first | rfl | assumption)) ?_
  refine OkO.callV rfl rfl rfl rfl rfl ((c51 (m + 209) cv cols least _ (hM.ext (hE _ (by (try dsimp only); repeat (first | exact hG | apply Grow.new | (refine Grow.put ?_ _ (by first | omega | (simp only [hNw, hPt]; omega)))))))).trans (by rw [hrd])) ?_ -- "sackung/sackunglaw01.ready"
  refine OkO.un rfl rfl rfl ?_
  refine OkO.move rfl rfl ?_
  refine OkO.split (d := 21) rfl (fun g1 => ?_) (fun g1 => ?_)
  · -- true g1
    exact absurd g1 (by simp)
  · -- false g1
    refine OkO.fieldAddr (o := 0) rfl (by kernel_rfl) rfl ?_
    refine OkO.load rfl rfl (lda (n := 1) (by kernel_rfl) (by first | assumption | (simp (disch := first | omega | (simp only [hNw, hPt]; omega)) only [gn0, gn1, gn2, gn3, gn4, gn5, gp0, gno, gpo] <;> first | rfl | assumption | exact gp0 _ _ _ | exact gn0 _ _)) (by first | rfl | assumption)) ?_
    refine OkO.builtin rfl rfl rfl (bln (by kernel_rfl) (by first | assumption | rfl)) ?_
    refine OkO.bin rfl rfl rfl (bin_gtr _ _) ?_
    refine OkO.pick (b := false) rfl rfl nofun (fun _ => rfl) ?_
    refine OkO.nil ?_
    refine Ok.cond rfl (fun h2 => ?_) (fun h2 => ?_)
    · -- yes h2
      exact absurd h2 (by simp; omega)
    · -- no h2
      refine Ok.skip ?_
      refine Ok.seq ?_
      refine Ok.region ?_
      refine OkO.load rfl rfl (ldg (n := 2) (by kernel_rfl) (by first | assumption | (simp (disch := first | omega | (simp only [hNw, hPt]; omega)) only [gn0, gn1, gn2, gn3, gn4, gn5, gp0, gno, gpo] <;> first | rfl | assumption | exact gp0 _ _ _ | exact gn0 _ _)) (by first | rfl | assumption)) ?_
      refine OkO.callE rfl rfl rfl rfl rfl (c19 (m + 210) cv cols least _ (hM.ext (hE _ (by (try dsimp only); repeat (first | exact hG | apply Grow.new | (refine Grow.put ?_ _ (by first | omega | (simp only [hNw, hPt]; omega))))))) hth) ?_ -- "sackung/sackunglaw01.Slope"
      rintro _ Ha1 ⟨cv1, rfl, qa1, fa1⟩
      have n1 := qa1.ext.next
      try simp only [hNw, hPt] at n1
      have gg1 : Grow W Ha1 := Grow.ret (by (try dsimp only); repeat (first | exact hG | apply Grow.new | (refine Grow.put ?_ _ (by first | omega | (simp only [hNw, hPt]; omega))))) qa1
      have a1 : (Ha1.get (W.next)).bind AObj.cs = some [cv, I least] := by rw [qa1.ext.get _ (by first | omega | (simp only [hNw, hPt]; omega))]; first | assumption | (rw [gn0]; rfl) | (rw [get_put_eq] <;> rfl) | (simp (disch := first | omega | (simp only [hNw, hPt]; omega)) only [gn0, gn1, gn2, gn3, gn4, gn5, gp0, gno, gpo] <;> first | rfl | assumption | (rw [get_put_eq] <;> rfl))
      have ma1 := fa1.now (Nat.le_refl _)
      refine OkO.callE rfl rfl rfl rfl rfl (c31' (m + 1) cv1 cols least _ ma1 hv) ?_ -- "sackung/slope.Worst"
      rintro _ Hw1 ⟨qw1, x1, y1, z1, e1, rfl, at1, hd1⟩
      have n2 := qw1.ext.next
      try simp only [hNw, hPt] at n2
      have gg2 : Grow W Hw1 := Grow.ret (by (try dsimp only); repeat (first | exact gg1 | apply Grow.new | (refine Grow.put ?_ _ (by first | omega | (simp only [hNw, hPt]; omega))))) qw1
      have a2 : (Hw1.get (W.next)).bind AObj.cs = some [cv, I least] := by rw [qw1.ext.get _ (by first | omega | (simp only [hNw, hPt]; omega))]; first | assumption | (rw [gn0]; rfl) | (rw [get_put_eq] <;> rfl) | (simp (disch := first | omega | (simp only [hNw, hPt]; omega)) only [gn0, gn1, gn2, gn3, gn4, gn5, gp0, gno, gpo] <;> first | rfl | assumption | (rw [get_put_eq] <;> rfl))
      have w1 := worstIs_of hd1
      obtain ⟨he1, hlow⟩ : e1 = 0 ∧ ∃ fr us, LowAt cols (cols.headD []).length least z1 fr us := by (rcases w1 with h | ⟨_, _, h⟩); (· exact h); (· exact absurd h hcase)
      refine OkO.move rfl rfl ?_
      refine OkO.extract rfl rfl rfl ?_
      refine OkO.extract rfl rfl rfl ?_
      refine OkO.extract rfl rfl rfl ?_
      refine OkO.alloc (z := [.int .i64 0, .nils]) rfl (by kernel_rfl) ?_
      refine OkO.store rfl rfl rfl (stc (n := 2) (ag := true) (by kernel_rfl) (by first | assumption | (simp (disch := first | omega | (simp only [hNw, hPt]; omega)) only [gn0, gn1, gn2, gn3, gn4, gn5, gp0, gno, gpo] <;> first | rfl | assumption | exact gp0 _ _ _ | exact gn0 _ _)) rfl (by first | rfl | assumption) (by first | rfl | exact spl_set _ _ _ (by first | assumption | omega | (simp; omega)))) ?_
      refine OkO.assign rfl rfl ?_
      refine OkO.assign rfl rfl ?_
      refine OkO.nil ?_
      refine Ok.seq ?_
      refine Ok.seq ?_
      refine Ok.region ?_
      refine OkO.move rfl rfl ?_
      refine OkO.bin rfl rfl rfl (bin_neq _ _) ?_
      refine OkO.nil ?_
      refine Ok.cond rfl (fun h3 => ?_) (fun h3 => ?_)
      · -- yes h3
        exact absurd h3 (by simp [he1])
      · -- no h3
        refine Ok.skip ?_
        refine Ok.seq ?_
        refine Ok.region ?_
        refine OkO.load rfl rfl (ldg (n := 2) (by kernel_rfl) (by first | assumption | (simp (disch := first | omega | (simp only [hNw, hPt]; omega)) only [gn0, gn1, gn2, gn3, gn4, gn5, gp0, gno, gpo] <;> first | rfl | assumption | exact gp0 _ _ _ | exact gn0 _ _)) (by first | rfl | assumption)) ?_
        refine OkO.callE rfl rfl rfl rfl rfl (c55 (m + 211) (cols.headD []).length cv cols least 0 _ (hM.ext (hE _ (by (try dsimp only); repeat (first | exact gg2 | apply Grow.new | (refine Grow.put ?_ _ (by first | omega | (simp only [hNw, hPt]; omega))))))) (lens_of hv) (bedsOk_of hv) (by omega) (by omega) (by omega)) ?_ -- "sackung/sackungref01.Wetter"
        rintro _ Hx2 ⟨ov2, bs2, rfl, qx2, ow2, nn2⟩
        have n3 := qx2.ext.next
        try simp only [hNw, hPt] at n3
        have gg3 : Grow W Hx2 := Grow.ret (by (try dsimp only); repeat (first | exact gg2 | apply Grow.new | (refine Grow.put ?_ _ (by first | omega | (simp only [hNw, hPt]; omega))))) qx2
        have a3 : (Hx2.get (W.next)).bind AObj.cs = some [cv, I least] := by rw [qx2.ext.get _ (by first | omega | (simp only [hNw, hPt]; omega))]; first | assumption | (rw [gn0]; rfl) | (rw [get_put_eq] <;> rfl) | (simp (disch := first | omega | (simp only [hNw, hPt]; omega)) only [gn0, gn1, gn2, gn3, gn4, gn5, gp0, gno, gpo] <;> first | rfl | assumption | (rw [get_put_eq] <;> rfl))
        have mx2 := ow2.mat
        have on2 : ov2.cells = [ov2] ∧ ov2.atom = true := ow2.out.one
        have ato2 : atoms [ov2, I least] = true := by (rw [atoms, on2.2]; rfl)
        have po2 := ow2.out.one
        refine OkO.alloc (z := [.nils, .int .i64 0]) rfl (by kernel_rfl) ?_
        refine OkO.store rfl rfl rfl (stc (n := 2) (ag := true) (by kernel_rfl) (by first | assumption | (simp (disch := first | omega | (simp only [hNw, hPt]; omega)) only [gn0, gn1, gn2, gn3, gn4, gn5, gp0, gno, gpo] <;> first | rfl | assumption | exact gp0 _ _ _ | exact gn0 _ _)) rfl (by first | rfl | assumption) (by first | rfl | exact spl_set _ _ _ (by first | assumption | omega | (simp; omega)))) ?_
        refine OkO.nil ?_
        refine Ok.seq ?_
        refine Ok.region ?_
        refine OkO.fieldAddr (o := 1) rfl (by kernel_rfl) rfl ?_
        refine OkO.load rfl rfl (lda (n := 1) (by kernel_rfl) (by first | assumption | (simp (disch := first | omega | (simp only [hNw, hPt]; omega)) only [gn0, gn1, gn2, gn3, gn4, gn5, gp0, gno, gpo] <;> first | rfl | assumption | exact gp0 _ _ _ | exact gn0 _ _)) (by first | rfl | assumption)) ?_
        refine OkO.bin rfl rfl rfl (bin_sub (by omega) (by omega)) ?_
        refine OkO.builtin rfl rfl rfl (builtin_max2 _ _) ?_
        refine OkO.fieldAddr (o := 1) rfl (by kernel_rfl) rfl ?_
        refine OkO.store rfl rfl rfl (stc (n := 1) (ag := false) (by kernel_rfl) (by first | assumption | (simp (disch := first | omega | (simp only [hNw, hPt]; omega)) only [gn0, gn1, gn2, gn3, gn4, gn5, gp0, gno, gpo] <;> first | rfl | assumption | exact gp0 _ _ _ | exact gn0 _ _)) rfl (by first | rfl | assumption) (by first | rfl | exact spl_set _ _ _ (by first | assumption | omega | (simp; omega)))) ?_
        refine OkO.nil ?_
        refine Ok.seq ?_
        refine Ok.region ?_
        refine OkO.load rfl rfl (ldg (n := 2) (by kernel_rfl) (by first | assumption | (simp (disch := first | omega | (simp only [hNw, hPt]; omega)) only [gn0, gn1, gn2, gn3, gn4, gn5, gp0, gno, gpo] <;> first | rfl | assumption | exact gp0 _ _ _ | exact gn0 _ _)) (by first | rfl | assumption)) ?_
        refine OkO.callE rfl rfl rfl rfl rfl (c19 (m + 210) ov2 (wetS 0 cols) (max 1 (least - 1)) _ (mx2.ext (by (try dsimp only); repeat (first | exact Ext.refl _ | exact Ext.refl _ | apply Ext.new | (refine Ext.put ?_ _ (by first | omega | (simp only [hNw, hPt]; omega)))))) (thin_wet hth)) ?_ -- "sackung/sackunglaw01.Slope"
        rintro _ Ha2 ⟨cv2, rfl, qa2, fa2⟩
        have n4 := qa2.ext.next
        try simp only [hNw, hPt] at n4
        have gg4 : Grow W Ha2 := Grow.ret (by (try dsimp only); repeat (first | exact gg3 | apply Grow.new | (refine Grow.put ?_ _ (by first | omega | (simp only [hNw, hPt]; omega))))) qa2
        have a4 : (Ha2.get (W.next)).bind AObj.cs = some [cv, I least] := by rw [qa2.ext.get _ (by first | omega | (simp only [hNw, hPt]; omega))]; first | assumption | (rw [gn0]; rfl) | (rw [get_put_eq] <;> rfl) | (simp (disch := first | omega | (simp only [hNw, hPt]; omega)) only [gn0, gn1, gn2, gn3, gn4, gn5, gp0, gno, gpo] <;> first | rfl | assumption | (rw [get_put_eq] <;> rfl))
        have ma2 := fa2.now (Nat.le_refl _)
        refine OkO.callE rfl rfl rfl rfl rfl (c31' (m + 1) cv2 (wetS 0 cols) (max 1 (least - 1)) _ ma2 hvx) ?_ -- "sackung/slope.Worst"
        rintro _ Hw2 ⟨qw2, x2, y2, z2, e2, rfl, at2, hd2⟩
        have n5 := qw2.ext.next
        try simp only [hNw, hPt] at n5
        have gg5 : Grow W Hw2 := Grow.ret (by (try dsimp only); repeat (first | exact gg4 | apply Grow.new | (refine Grow.put ?_ _ (by first | omega | (simp only [hNw, hPt]; omega))))) qw2
        have a5 : (Hw2.get (W.next)).bind AObj.cs = some [cv, I least] := by rw [qw2.ext.get _ (by first | omega | (simp only [hNw, hPt]; omega))]; first | assumption | (rw [gn0]; rfl) | (rw [get_put_eq] <;> rfl) | (simp (disch := first | omega | (simp only [hNw, hPt]; omega)) only [gn0, gn1, gn2, gn3, gn4, gn5, gp0, gno, gpo] <;> first | rfl | assumption | (rw [get_put_eq] <;> rfl))
        have w2 := worstIs_of hd2
        obtain ⟨he2, hz2⟩ := fam_least hv (by omega) hlow w2
        refine OkO.move rfl rfl ?_
        refine OkO.extract rfl rfl rfl ?_
        refine OkO.extract rfl rfl rfl ?_
        refine OkO.extract rfl rfl rfl ?_
        refine OkO.alloc (z := [.int .i64 0, .nils]) rfl (by kernel_rfl) ?_
        refine OkO.store rfl rfl rfl (stc (n := 2) (ag := true) (by kernel_rfl) (by first | assumption | (simp (disch := first | omega | (simp only [hNw, hPt]; omega)) only [gn0, gn1, gn2, gn3, gn4, gn5, gp0, gno, gpo] <;> first | rfl | assumption | exact gp0 _ _ _ | exact gn0 _ _)) rfl (by first | rfl | assumption) (by first | rfl | exact spl_set _ _ _ (by first | assumption | omega | (simp; omega)))) ?_
        refine OkO.assign rfl rfl ?_
        refine OkO.assign rfl rfl ?_
        refine OkO.nil ?_
        refine Ok.seq ?_
        refine Ok.region ?_
        refine OkO.load rfl rfl (ldg (n := 2) (by kernel_rfl) (by first | assumption | (simp (disch := first | omega | (simp only [hNw, hPt]; omega)) only [gn0, gn1, gn2, gn3, gn4, gn5, gp0, gno, gpo] <;> first | rfl | assumption | exact gp0 _ _ _ | exact gn0 _ _)) (by first | rfl | assumption)) ?_
        refine OkO.callE rfl rfl rfl rfl rfl (c55 (m + 211) (cols.headD []).length cv cols least 0 _ (hM.ext (hE _ (by (try dsimp only); repeat (first | exact gg5 | apply Grow.new | (refine Grow.put ?_ _ (by first | omega | (simp only [hNw, hPt]; omega))))))) (lens_of hv) (bedsOk_of hv) (by omega) (by omega) (by omega)) ?_ -- "sackung/sackungref01.Wetter"
        rintro _ Hx3 ⟨ov3, bs3, rfl, qx3, ow3, nn3⟩
        have n6 := qx3.ext.next
        try simp only [hNw, hPt] at n6
        have gg6 : Grow W Hx3 := Grow.ret (by (try dsimp only); repeat (first | exact gg5 | apply Grow.new | (refine Grow.put ?_ _ (by first | omega | (simp only [hNw, hPt]; omega))))) qx3
        have a6 : (Hx3.get (W.next)).bind AObj.cs = some [cv, I least] := by rw [qx3.ext.get _ (by first | omega | (simp only [hNw, hPt]; omega))]; first | assumption | (rw [gn0]; rfl) | (rw [get_put_eq] <;> rfl) | (simp (disch := first | omega | (simp only [hNw, hPt]; omega)) only [gn0, gn1, gn2, gn3, gn4, gn5, gp0, gno, gpo] <;> first | rfl | assumption | (rw [get_put_eq] <;> rfl))
        have mx3 := ow3.mat
        have ow3 := ow3.low (k1 := W.next + 1) (by first | omega | (simp only [hNw, hPt]; omega))
        have on3 : ov3.cells = [ov3] ∧ ov3.atom = true := ow3.out.one
        have ato3 : atoms [ov3, I least] = true := by (rw [atoms, on3.2]; rfl)
        have po3 := ow3.out.one
        have hlo3 : lenOf ov3 = some cols.length := by obtain ⟨ws, hR3, hwl3, _⟩ := mx3; rw [← wetS_len 0 cols, ← hwl3]; simpa using hR3.len
        have hX0 : Ext Hx3 ((Hx3.new (.cells [.nils, I 0] 24)).put Hx3.next (.cells [ov3, I least] 24)) := ((Ext.refl _).new _).put _ (Nat.le_refl _)
        obtain ⟨N3, hN3⟩ : ∃ N3, N3 = cols.length - 1 := ⟨_, rfl⟩
        obtain ⟨ws3, hR3, hwl3, hwv3⟩ := id mx3
        have hwn3 : N3 < ws3.length := by rw [hwl3, wetS_len]; omega
        obtain ⟨cb, co, ccs, j1, j2, j3, j4⟩ := hR3.at_ N3 [ws3[N3]] (by simp [hwn3])
        have j5 := seg_one j3
        obtain ⟨lc, hlc3⟩ : ∃ lc, (wetS 0 cols)[N3]? = some lc := ⟨_, List.getElem?_eq_getElem (by rw [wetS_len]; omega)⟩
        have hlcm := List.mem_of_getElem? hlc3
        have hlcn : lc.length = (cols.headD []).length := wetS_lens (lens_of hv) lc hlcm
        have hlrow := hwv3 N3 ws3[N3] lc (by simp [hwn3]) hlc3
        refine OkO.alloc (z := [.nils, .int .i64 0]) rfl (by kernel_rfl) ?_
        refine OkO.store rfl rfl rfl (stc (n := 2) (ag := true) (by kernel_rfl) (by first | assumption | (simp (disch := first | omega | (simp only [hNw, hPt]; omega)) only [gn0, gn1, gn2, gn3, gn4, gn5, gp0, gno, gpo] <;> first | rfl | assumption | exact gp0 _ _ _ | exact gn0 _ _)) rfl (by first | rfl | assumption) (by first | rfl | exact spl_set _ _ _ (by first | assumption | omega | (simp; omega)))) ?_
        refine OkO.nil ?_
        refine Ok.seq ?_
        refine Ok.region ?_
        refine OkO.buildSlice (el := 100) (sz := 8) (z := [.int .i64 0, .int .i64 0, .int .i64 0, .int .i64 0, .int .i64 0, .int .i64 0, .int .i64 0, .int .i64 0]) rfl (by kernel_rfl) (by decide) rfl rfl ?_
        refine OkO.fieldAddr (o := 0) rfl (by kernel_rfl) rfl ?_
        refine OkO.load rfl rfl (lda (n := 1) (by kernel_rfl) (by first | assumption | (simp (disch := first | omega | (simp only [hNw, hPt]; omega)) only [gn0, gn1, gn2, gn3, gn4, gn5, gp0, gno, gpo] <;> first | rfl | assumption | exact gp0 _ _ _ | exact gn0 _ _)) (by first | rfl | assumption)) ?_
        refine OkO.fieldAddr (o := 0) rfl (by kernel_rfl) rfl ?_
        refine OkO.load rfl rfl (lda (n := 1) (by kernel_rfl) (by first | assumption | (simp (disch := first | omega | (simp only [hNw, hPt]; omega)) only [gn0, gn1, gn2, gn3, gn4, gn5, gp0, gno, gpo] <;> first | rfl | assumption | exact gp0 _ _ _ | exact gn0 _ _)) (by first | rfl | assumption)) ?_
        refine OkO.builtin rfl rfl rfl (bln (by kernel_rfl) (by first | assumption | rfl)) ?_
        refine OkO.bin rfl rfl rfl (bin_sub (by omega) (by omega)) ?_
        refine OkO.index (sz := 1) (n := N3) rfl rfl (congrArg (fun z => some (I z)) (by omega)) (by kernel_rfl) (by first | assumption | rfl | exact slAt_slice (by omega) | exact slAt_opn (by omega)) ?_ -- index ('Go.Operand.tmp', 60) ('Go.Operand.tmp', 64)
        refine OkO.load rfl rfl (lda (n := 1) (by kernel_rfl) (by first | assumption | (simp (disch := first | omega | (simp only [hNw, hPt]; omega)) only [gn0, gn1, gn2, gn3, gn4, gn5, gp0, gno, gpo] <;> first | rfl | assumption | exact gp0 _ _ _ | exact gn0 _ _)) (by first | rfl | assumption)) ?_
        obtain ⟨G0, hG0⟩ : ∃ G0, G0 = ((Hx3.new (.cells [.nils, I 0] 24)).put Hx3.next (.cells [ov3, I least] 24)) := ⟨_, rfl⟩
        have hn0 : G0.next = Hx3.next + 1 := by rw [hG0]; simp
        have hX0b : Ext Hx3 G0 := by rw [hG0]; exact hX0
        have gG0 : Grow W G0 := by rw [hG0]; exact (by (try dsimp only); repeat (first | exact gg6 | apply Grow.new | (refine Grow.put ?_ _ (by first | omega | (simp only [hNw, hPt]; omega)))))
        have o0 : G0.get Hx3.next = some (.cells [ov3, I least] 24) := by rw [hG0]; exact gp0 _ _ _
        have hap := app_lit2 (P := Try.prog) (G := G0) (t := 97) (u := 97) (e := 100) (el := 100) (sz := 8) (by_ := 64) (x := ws3[N3]) (rows := lc.map Bed.c) (by kernel_rfl) (by kernel_rfl) ((hlrow.ext hX0b).ext (Grow.toNew _ _)) (bedc_len lc) (by rw [List.length_map]; omega) (by omega) (atoms_beds lc) (by rw [List.length_map]; omega)
        rw [List.length_map, hlcn] at hap
        have hgoal := hG0
        refine OkO.builtinE rfl rfl rfl (show ∃ v H', _ ∧ (v = .opn (G0.next + 1) (cols.headD []).length ∧ H' = (G0.new (.cells [] 100)).new (.opn (lc.map Bed.c).flatten 100 8)) from ⟨_, _, by rw [hG0] at hap ⊢; exact hap, rfl, rfl⟩) ?_
        rintro v1 G1 ⟨rfl, rfl⟩
        refine OkO.assign rfl rfl ?_
        refine OkO.nil ?_
        refine Ok.seq ?_
        refine Ok.seq ?_
        refine Ok.region ?_
        refine OkO.assign rfl rfl ?_
        refine OkO.nil ?_
        refine Ok.block ?_
        refine Ok.loop (fun n9 s_ => ∃ k : Nat, n9 = (cols.headD []).length - k ∧ k ≤ (cols.headD []).length ∧ Grow W s_.H ∧ s_.H.next = G0.next + 2 ∧ (∀ j, j < G0.next + 1 → s_.H.get j = (G0.new (.cells [] 100)).get j) ∧ s_.H.get (G0.next + 1) = some (.opn ((mapK (setDr dr) lc k).map Bed.c).flatten 100 8) ∧ Has 7 [(1, I16 dr), (2, .ptr W.next 0), (6, I z1), (7, I e1), (10, I z2), (11, I e2), (12, .ptr Hx3.next 0), (13, .opn (G0.next + 1) (cols.headD []).length), (14, I (k : Int))] s_.T ∧ s_.D = []) ((cols.headD []).length) (by unfold loopFuel; omega)
          ⟨0, rfl, Nat.zero_le _, (by (try dsimp only); repeat (first | exact hg | exact gG0 | apply Grow.new | (refine Grow.put ?_ _ (by first | omega | (simp only [hNw, hPt]; omega))))), by simp only [hNw], (fun j hj => gno _ _ _ (by simp only [hNw]; omega)), (by rw [mapK_zero]; exact gn1 _ _ _), Has.of (by kernel_rfl), rfl⟩ ?_
        rintro n9 ⟨T, D, G⟩ ⟨k, hn2, hk, hg, hgx2, hold, h7, ⟨f, hT⟩, hD⟩
        dsimp only at *
        subst hT hD
        have hgn := hg.next
        have e7 : (G.get (G0.next + 1)).bind AObj.cs = some ((mapK (setDr dr) lc k).map Bed.c).flatten := by rw [h7]; rfl
        have hX : Ext G0 G := ⟨by omega, fun j hj => (hold j (by omega)).trans (gno _ _ _ (by omega))⟩
        have o3 : G.get Hx3.next = some (.cells [ov3, I least] 24) := by rw [hX.get _ (by omega)]; exact o0
        have e3 : (G.get Hx3.next).bind AObj.cs = some [ov3, I least] := by rw [o3]; rfl
        refine Ok.seq ?_
        refine Ok.seq ?_
        refine Ok.region ?_
        refine OkO.move rfl rfl ?_
        refine OkO.move rfl rfl ?_
        refine OkO.builtin rfl rfl rfl (bln (by kernel_rfl) (by first | assumption | rfl)) ?_
        refine OkO.bin rfl rfl rfl (bin_lss _ _) ?_
        refine OkO.nil ?_
        refine Ok.cond rfl (fun h4 => ?_) (fun h4 => ?_)
        · -- yes h4
          have hkn : k < (cols.headD []).length := by simpa using h4
          obtain ⟨bd, hbk0⟩ : ∃ bd, lc[k]? = some bd := ⟨_, List.getElem?_eq_getElem (by omega)⟩
          have hbk := mapK_get (f := setDr dr) hbk0
          refine Ok.skip ?_
          refine Ok.seq ?_
          refine Ok.block ?_
          refine Ok.region ?_
          refine OkO.move rfl rfl ?_
          refine OkO.move rfl rfl ?_
          refine OkO.move rfl rfl ?_
          refine OkO.convert (k := .i64) rfl (by kernel_rfl) rfl (wrapF_i64 (by omega) (by omega)) ?_
          refine OkO.index (sz := 8) (n := k) rfl rfl rfl (by kernel_rfl) (by first | assumption | rfl | exact slAt_slice (by omega) | exact slAt_opn (by omega)) ?_ -- index ('Go.Operand.tmp', 74) ('Go.Operand.tmp', 75)
          refine OkO.fieldAddr (o := 0) rfl (by kernel_rfl) rfl ?_
          refine OkO.store rfl rfl rfl (storeAt_opn (n := 1) (ag := false) (by kernel_rfl) (by first | assumption | (simp (disch := first | omega | (simp only [hNw, hPt]; omega)) only [gn0, gn1, gn2, gn3, gn4, gn5, gp0, gno, gpo] <;> first | rfl | assumption | exact gp0 _ _ _ | exact gn0 _ _)) rfl (by first | rfl | assumption) (by first | rfl | exact spl_bed (j := 0) (b := bd) (b' := setDr dr bd) hbk (by omega) rfl)) ?_
          refine OkO.nil ?_
          refine Ok.region ?_
          refine OkO.move rfl rfl ?_
          refine OkO.bin rfl rfl rfl (bin_add (by omega) (by omega)) ?_
          refine OkO.assign rfl rfl ?_
          refine OkO.nil ?_
          refine ⟨(cols.headD []).length - (k + 1), by omega, k + 1, rfl, by omega, (by (try dsimp only); repeat (first | exact hg | exact gG0 | apply Grow.new | (refine Grow.put ?_ _ (by first | omega | (simp only [hNw, hPt]; omega))))), by simp only [hPt]; omega, (fun j hj => by rw [gpo _ _ _ _ (by omega)]; exact hold j hj), (by rw [gp0, ← mapK_set hbk0]), Has.of (by kernel_rfl), rfl⟩
        · -- no h4
          have hkn : k = (cols.headD []).length := by (have : ¬ k < (cols.headD []).length := by simpa using h4); omega
          refine Ok.exit ?_
          refine Ok.seq ?_
          refine Ok.region ?_
          refine OkO.fieldAddr (o := 0) rfl (by kernel_rfl) rfl ?_
          refine OkO.load rfl rfl (lda (n := 1) (by kernel_rfl) (by first | assumption | (simp (disch := first | omega | (simp only [hNw, hPt]; omega)) only [gn0, gn1, gn2, gn3, gn4, gn5, gp0, gno, gpo] <;> first | rfl | assumption | exact gp0 _ _ _ | exact gn0 _ _)) (by first | rfl | assumption)) ?_
          refine OkO.move rfl rfl ?_
          refine OkO.buildSlice (el := 97) (sz := 1) (z := [.nils]) rfl (by kernel_rfl) (by decide) rfl rfl ?_
          refine OkO.builtinE rfl rfl rfl (Mine.app2 (W := W) (sz := 1) (by_ := 24) (e := 97) (n := 1) (new := [.opn (G0.next + 1) (cols.headD []).length]) (((ow3.to hX0b).to hX).out.to (Grow.toNew _ _)) (by (try dsimp only); repeat (first | exact hg | exact gG0 | apply Grow.new | (refine Grow.put ?_ _ (by first | omega | (simp only [hNw, hPt]; omega))))) (by omega) (by first | omega | (simp only [hNw, hPt]; omega)) (by kernel_rfl) (by kernel_rfl) (elems_new (n := 1) (sz := 1) rfl) rfl rfl (by rw [List.length_map, ow3.len, wetS_len]; omega) (by omega) (by omega) rfl) ?_
          rintro v2 G2 ⟨q1, q2, q4, q5, q6, q7⟩
          simp only [hNw, hPt] at q5 q6
          obtain ⟨mm, hv2⟩ := q7
          simp only [hNw, hPt] at hv2
          subst hv2
          have hne : ∀ j m, Hx3.next ≤ j → ov3 ≠ .opn j m := fun j m9 hj h9 => by (have := ow3.out.lt h9); omega
          have z3 : G2.get Hx3.next = some (.cells [ov3, I least] 24) := by rw [q5 _ (by omega) (fun m9 => hne _ m9 (Nat.le_refl _)), gno _ _ _ (by omega)]; exact o3
          have y3 : (G2.get Hx3.next).bind AObj.cs = some [ov3, I least] := by rw [z3]; rfl
          have hO2 := OwnS.snoc (c := lc.map (setDr dr)) (B := G0.next + 1) (P := G.next + 1) (Q := G.next) (ow3.to hX0b) (by have := qx3.ext.next; omega) (by omega) (by omega) (by omega) (by omega) hX (fun j hj hne => (q5 j (by omega) hne).trans (gno _ _ _ (by omega))) (by rw [h7, hkn, ← hlcn, mapK_all]) (by rw [List.length_map, hlcn]) (by rw [List.map_append]; exact q1)
          have hO3 := hO2.putN (m := Hx3.next) (.cells [.opn (G.next + 1) mm, I least] 24) (fun h9 => by (rcases List.mem_append.1 h9 with h9 | h9); (· have := (ow3.ge _ h9).2.1; omega); (· simp at h9; omega)) (fun q9 h9 => by have := (AV.opn.inj h9).1; omega)
          refine OkO.fieldAddr (o := 0) rfl (by kernel_rfl) rfl ?_
          refine OkO.store rfl rfl rfl (stc (n := 1) (ag := false) (by kernel_rfl) (by first | assumption | (simp (disch := first | omega | (simp only [hNw, hPt]; omega)) only [gn0, gn1, gn2, gn3, gn4, gn5, gp0, gno, gpo] <;> first | rfl | assumption | exact gp0 _ _ _ | exact gn0 _ _)) rfl (by first | rfl | assumption) (by first | rfl | exact spl_set _ _ _ (by first | assumption | omega | (simp; omega)))) ?_
          refine OkO.nil ?_
          refine Ok.seq ?_
          refine Ok.region ?_
          refine OkO.load rfl rfl (ldg (n := 2) (by kernel_rfl) (by first | assumption | (simp (disch := first | omega | (simp only [hNw, hPt]; omega)) only [gn0, gn1, gn2, gn3, gn4, gn5, gp0, gno, gpo] <;> first | rfl | assumption | exact gp0 _ _ _ | exact gn0 _ _)) (by first | rfl | assumption)) ?_
          refine OkO.callE rfl rfl rfl rfl rfl (c19 (m + 210) (.opn (G.next + 1) mm) (wetS 0 cols ++ [lc.map (setDr dr)]) least _ (hO3.mat) (thin_long hth h11 hlcm dr)) ?_ -- "sackung/sackunglaw01.Slope"
          rintro _ Ha4 ⟨cv4, rfl, qa4, fa4⟩
          have ma4 := fa4.now (Nat.le_refl _)
          have ga4 : Grow W Ha4 := Grow.ret (by (try dsimp only); repeat (first | exact q2 | apply Grow.new | (refine Grow.put ?_ _ (by first | omega | (simp only [hNw, hPt]; omega))))) qa4
          have na4 := ga4.next
          refine OkO.callE rfl rfl rfl rfl rfl (c31' (m + 1) cv4 (wetS 0 cols ++ [lc.map (setDr dr)]) least _ ma4 (long_ok hv h11 hlcm hdr)) ?_ -- "sackung/slope.Worst"
          rintro _ Hw4 ⟨qw4, x4, y4, z4, e4, rfl, at4, hd4⟩
          have w4 := worstIs_of hd4
          obtain ⟨he4, hz4⟩ := fam_long hv hlow w4
          have gw4 : Grow W Hw4 := Grow.ret ga4 qw4
          have nw4 := gw4.next
          refine OkO.move rfl rfl ?_
          refine OkO.extract rfl rfl rfl ?_
          refine OkO.extract rfl rfl rfl ?_
          refine OkO.extract rfl rfl rfl ?_
          refine OkO.alloc (z := [.int .i64 0, .nils]) rfl (by kernel_rfl) ?_
          refine OkO.store rfl rfl rfl (stc (n := 2) (ag := true) (by kernel_rfl) (by first | assumption | (simp (disch := first | omega | (simp only [hNw, hPt]; omega)) only [gn0, gn1, gn2, gn3, gn4, gn5, gp0, gno, gpo] <;> first | rfl | assumption | exact gp0 _ _ _ | exact gn0 _ _)) rfl (by first | rfl | assumption) (by first | rfl | exact spl_set _ _ _ (by first | assumption | omega | (simp; omega)))) ?_
          refine OkO.assign rfl rfl ?_
          refine OkO.assign rfl rfl ?_
          refine OkO.nil ?_
          refine Ok.seq ?_
          refine Ok.region ?_
          refine OkO.move rfl rfl ?_
          refine OkO.bin rfl rfl rfl (bin_eql _ _) ?_
          refine OkO.move rfl rfl ?_
          refine OkO.split (d := 95) rfl (fun g5 => ?_) (fun g5 => ?_)
          · -- true g5
            refine OkO.move rfl rfl ?_
            refine OkO.bin rfl rfl rfl (bin_eql _ _) ?_
            refine OkO.pick (b := true) rfl rfl (fun _ => rfl) nofun ?_
            refine OkO.move rfl rfl ?_
            refine OkO.split (d := 99) rfl (fun g6 => ?_) (fun g6 => ?_)
            · -- true g6
              refine OkO.move rfl rfl ?_
              refine OkO.move rfl rfl ?_
              refine OkO.bin rfl rfl rfl (bin_leq _ _) ?_
              refine OkO.pick (b := true) rfl rfl (fun _ => rfl) nofun ?_
              refine OkO.move rfl rfl ?_
              refine OkO.split (d := 104) rfl (fun g7 => ?_) (fun g7 => ?_)
              · -- true g7
                refine OkO.move rfl rfl ?_
                refine OkO.move rfl rfl ?_
                refine OkO.bin rfl rfl rfl (bin_leq _ _) ?_
                refine OkO.pick (b := true) rfl rfl (fun _ => rfl) nofun ?_
                refine OkO.move rfl rfl ?_
                refine OkO.split (d := 109) rfl (fun g8 => ?_) (fun g8 => ?_)
                · -- true g8
                  refine OkO.callV rfl rfl rfl rfl rfl (rfl) ?_ -- "sackung/sackunglaw01.wakes"
                  refine OkO.pick (b := true) rfl rfl (fun _ => rfl) nofun ?_
                  refine OkO.assign rfl rfl ?_
                  refine OkO.nil ?_
                  refine Ok.ret ⟨.inr rfl, ?_⟩
                  exact back_flat rfl rfl rfl (by rw [← hW]; exact (by (try dsimp only); repeat (first | exact gw4 | apply Grow.new | (refine Grow.put ?_ _ (by first | omega | (simp only [hNw, hPt]; omega))))))
                · -- false g8
                  exact absurd g8 (by simp; omega)
              · -- false g7
                exact absurd g7 (by simp; omega)
            · -- false g6
              exact absurd g6 (by simp [he4])
          · -- false g5
            exact absurd g5 (by simp [he2])
theorem c15 (m : Nat) (cv : AV) (cols : List (List Bed)) (least dr : Int) (H : Heap) (hM : Mat H cv cols) (hdr : -32768 ≤ dr ∧ dr ≤ 32767) : RR (m + 213) (.fn 15 [.agg [cv, I least], I16 dr]) H = some (.bool true, H) := by
  cases hrd : readyS cols least with
  | false => exact c15W m cv cols least dr H hM hdr hrd
  | true =>
    obtain ⟨h1, h2, h3⟩ := ready_facts hrd
    by_cases h11 : cols.length ≤ 11
    · by_cases hn : NoneAt cols (cols.headD []).length least
      · exact c15N m cv cols least dr H hM hdr h1 h2 h3 hrd h11 hn
      · exact c15L m cv cols least dr H hM hdr h1 h2 h3 hrd h11 hn
    · exact c15M m cv cols least dr H hM hdr hrd h11
end
end Go.Ev

