/-
  Functions of the program, reckoned by the evaluator: what each answers, and that it leaves what came in as it was.
-/
import Derived.Test.YthcjhfddoaccnaaEvZ
import Derived.KernelRfl
import Derived.Test.YthcjhfddoaccnaaProg
import Derived.Test.YthcjhfddoaccnaaEvY
import Derived.WideShapes
import Derived.Carry
set_option maxRecDepth 100000
set_option linter.unusedSimpArgs false
set_option linter.unusedVariables false
namespace Go.Ev
open Go Go.Proofs
noncomputable section
abbrev I (n : Int) : AV := .int .i64 n
/-- Is a number from lo to hi? -/
def inB (a lo hi : Int) : Bool := decide (lo ≤ a) && decide (a ≤ hi)
def RR (m : Nat) : Rec := runO Try.prog (closedO 18 (.bool true)) m
theorem R_fn (m : Nat) (f : FuncId) (a : AV) (l : List AV) (H : Heap) : RR (m + 1) (.fn f (a :: l)) H = evFn Try.prog (RR m) f (a :: l) H := rfl
abbrev Ints (H : Heap) (v : AV) (us : List Int) : Prop := Row H v 1 (us.map fun n => [I n])
theorem flatI : ∀ (l : List Int), (l.map fun x => [I x]).flatten = l.map I
  | [] => rfl
  | a :: l => by rw [List.map_cons, List.flatten_cons, flatI l]; rfl
theorem atoms_ints (us : List Int) : atoms (us.map I) = true := by induction us with | nil => rfl | cons a l ih => exact ih
structure Rul where (start back hold : Int)
def Rul.c (r : Rul) : List AV := [I r.start, I r.back, I r.hold]
def Rul.ok (r : Rul) : Bool := inB r.start 0 1000 && inB r.back 0 r.start && inB r.hold 1 60
structure Trm where (out price hour less hold : Int)
def Trm.c (t : Trm) : List AV := [I t.out, I t.price, I t.hour, I t.less, I t.hold]
def Trm.ok (t : Trm) : Bool := inB t.out 0 60 && inB t.price 0 1000 && inB t.hour 0 1000 && inB t.less 0 1000 && inB t.hold 1 60
/-- A call that answers a bool, and leaves the heap as it was. -/
def CallB (m : Nat) (fv : AV) (args : List AV) (H : Heap) (r : Bool) : Prop := ∃ f bs, Go.Ev.callV fv args = some (.fn f bs) ∧ ∀ G, Ext H G → RR m (.fn f bs) G = some (.bool r, G)
theorem c36 (m : Nat) (a lo hi : Int) (H : Heap)  : RR (m + 1) (.fn 36 [I a, I lo, I hi]) H = some (.bool (inB a lo hi), H) := by
  refine (R_fn _ _ _ _ _).trans ?_
  refine fn_ok Try.func36 rfl rfl (by kernel_rfl) (by kernel_rfl) ?_
  obtain ⟨W, hW⟩ : ∃ W : Heap, W = ⟨H.t, H.next, H.next⟩ := ⟨_, rfl⟩
  have hg : ∀ n, W.get n = H.get n := fun n => by rw [hW]; rfl
  have hN : W.next = H.next := by rw [hW]
  have hE : ∀ G, Grow W G → Ext H G := fun G g => ⟨by rw [← hN]; exact g.next, fun n k => by rw [g.get n (by rw [hN]; exact k), hg]⟩
  have hG : Grow W W := Grow.refl (by rw [hW]; exact Nat.le_refl _)
  rw [← hW]
  refine Ok.seq ?_
  refine Ok.region ?_
  refine OkO.assign rfl rfl ?_
  refine OkO.nil ?_
  refine Ok.seq ?_
  refine Ok.region ?_
  refine OkO.move rfl rfl ?_
  refine OkO.move rfl rfl ?_
  refine OkO.bin rfl rfl rfl (bin_geq _ _) ?_
  refine OkO.move rfl rfl ?_
  refine OkO.split (d := 10) rfl (fun g1 => ?_) (fun g1 => ?_)
  · -- true g1
    refine OkO.move rfl rfl ?_
    refine OkO.move rfl rfl ?_
    refine OkO.bin rfl rfl rfl (bin_leq _ _) ?_
    refine OkO.pick (b := true) rfl rfl (fun _ => rfl) nofun ?_
    refine OkO.assign rfl rfl ?_
    refine OkO.nil ?_
    refine Ok.ret ⟨.inr rfl, ?_⟩
    exact back_flat rfl (by first | rfl | exact congrArg AV.bool (by clear hg hN hG hE; first | (simp_all [inB]; done) | (rw [Bool.eq_iff_iff]; simp [inB] at *; omega))) rfl (by rw [← hW]; exact (by (try dsimp only); repeat (first | exact hG | apply Grow.new | (refine Grow.put ?_ _ (by first | omega | (simp only [hNw, hPt]; omega))))))
  · -- false g1
    refine OkO.skip rfl ?_
    refine OkO.skip rfl ?_
    refine OkO.skip rfl ?_
    refine OkO.pick (b := false) rfl rfl nofun (fun _ => rfl) ?_
    refine OkO.assign rfl rfl ?_
    refine OkO.nil ?_
    refine Ok.ret ⟨.inr rfl, ?_⟩
    exact back_flat rfl (by first | rfl | exact congrArg AV.bool (by clear hg hN hG hE; first | (simp_all [inB]; done) | (rw [Bool.eq_iff_iff]; simp [inB] at *; omega))) rfl (by rw [← hW]; exact (by (try dsimp only); repeat (first | exact hG | apply Grow.new | (refine Grow.put ?_ _ (by first | omega | (simp only [hNw, hPt]; omega))))))
theorem c68 (m : Nat) (a b x : Int) (H : Heap)  : RR (m + 1) (.fn 68 [.agg [I a, I b], I x]) H = some (.bool (inB x a b), H) := by
  refine (R_fn _ _ _ _ _).trans ?_
  refine fn_ok Try.func68 rfl rfl (by kernel_rfl) (by kernel_rfl) ?_
  obtain ⟨W, hW⟩ : ∃ W : Heap, W = ⟨H.t, H.next, H.next⟩ := ⟨_, rfl⟩
  have hg : ∀ n, W.get n = H.get n := fun n => by rw [hW]; rfl
  have hN : W.next = H.next := by rw [hW]
  have hE : ∀ G, Grow W G → Ext H G := fun G g => ⟨by rw [← hN]; exact g.next, fun n k => by rw [g.get n (by rw [hN]; exact k), hg]⟩
  have hG : Grow W W := Grow.refl (by rw [hW]; exact Nat.le_refl _)
  rw [← hW]
  refine Ok.seq ?_
  refine Ok.region ?_
  refine OkO.box rfl rfl ?_
  refine OkO.assign rfl rfl ?_
  refine OkO.nil ?_
  refine Ok.seq ?_
  refine Ok.region ?_
  refine OkO.indexArr (len := 2) (sz := 1) (n := 0) rfl rfl rfl (by kernel_rfl) (by omega) ?_
  refine OkO.load rfl rfl (lda (n := 1) (by kernel_rfl) (by first | assumption | (simp (disch := first | omega | (simp only [hNw, hPt]; omega)) only [gn0, gn1, gn2, gn3, gn4, gn5, gp0, gno, gpo] <;> first | rfl | assumption | exact gp0 _ _ _ | exact gn0 _ _)) (by first | rfl | assumption)) ?_
  refine OkO.move rfl rfl ?_
  refine OkO.bin rfl rfl rfl (bin_leq _ _) ?_
  refine OkO.move rfl rfl ?_
  refine OkO.split (d := 9) rfl (fun g1 => ?_) (fun g1 => ?_)
  · -- true g1
    refine OkO.move rfl rfl ?_
    refine OkO.indexArr (len := 2) (sz := 1) (n := 1) rfl rfl rfl (by kernel_rfl) (by omega) ?_
    refine OkO.load rfl rfl (lda (n := 1) (by kernel_rfl) (by first | assumption | (simp (disch := first | omega | (simp only [hNw, hPt]; omega)) only [gn0, gn1, gn2, gn3, gn4, gn5, gp0, gno, gpo] <;> first | rfl | assumption | exact gp0 _ _ _ | exact gn0 _ _)) (by first | rfl | assumption)) ?_
    refine OkO.bin rfl rfl rfl (bin_leq _ _) ?_
    refine OkO.pick (b := true) rfl rfl (fun _ => rfl) nofun ?_
    refine OkO.assign rfl rfl ?_
    refine OkO.nil ?_
    refine Ok.ret ⟨.inr rfl, ?_⟩
    exact back_flat rfl (by first | rfl | exact congrArg AV.bool (by clear hg hN hG hE; first | (simp_all [inB]; done) | (rw [Bool.eq_iff_iff]; simp [inB] at *; omega))) rfl (by rw [← hW]; exact (by (try dsimp only); repeat (first | exact hG | apply Grow.new | (refine Grow.put ?_ _ (by first | omega | (simp only [hNw, hPt]; omega))))))
  · -- false g1
    refine OkO.skip rfl ?_
    refine OkO.skip rfl ?_
    refine OkO.skip rfl ?_
    refine OkO.skip rfl ?_
    refine OkO.pick (b := false) rfl rfl nofun (fun _ => rfl) ?_
    refine OkO.assign rfl rfl ?_
    refine OkO.nil ?_
    refine Ok.ret ⟨.inr rfl, ?_⟩
    exact back_flat rfl (by first | rfl | exact congrArg AV.bool (by clear hg hN hG hE; first | (simp_all [inB]; done) | (rw [Bool.eq_iff_iff]; simp [inB] at *; omega))) rfl (by rw [← hW]; exact (by (try dsimp only); repeat (first | exact hG | apply Grow.new | (refine Grow.put ?_ _ (by first | omega | (simp only [hNw, hPt]; omega))))))
def ruleOf (t : Trm) (start : Int) : Rul := ⟨start, max (start - t.less) 0, t.hold⟩
end
end Go.Ev

set_option maxRecDepth 100000
set_option linter.unusedSimpArgs false
set_option linter.unusedVariables false
namespace Go.Ev
open Go Go.Proofs
noncomputable section
structure Sea where (sp : List Int) (fell : Bool)
def Sea.fine (s : Sea) : Bool := s.sp.all fun x => inB x 0 1000
def Sea.short (s : Sea) : Bool := decide ((s.sp.length : Int) ≤ 60)
/-- A list of seasons, as it lies. -/
def SeasAt (H : Heap) (v : AV) (l : List Sea) : Prop := ∃ vs : List AV, vs.length = l.length ∧ Row H v 2 ((vs.zip l).map fun p => [p.1, .bool p.2.fell]) ∧ ∀ (i : Nat) (x : AV) (s : Sea), vs[i]? = some x → l[i]? = some s → Ints H x s.sp
theorem SeasAt.ext {H G : Heap} {v : AV} {l : List Sea} (h : SeasAt H v l) (g : Ext H G) : SeasAt G v l := let ⟨vs, h1, h2, h3⟩ := h; ⟨vs, h1, h2.ext g, fun i x s a b => (h3 i x s a b).ext g⟩
theorem SeasAt.len {H : Heap} {v : AV} {l : List Sea} (h : SeasAt H v l) : lenOf v = some l.length := by
  obtain ⟨vs, h1, h2, _⟩ := h
  rw [h2.len]; simp [h1]
theorem SeasAt.at_ {H : Heap} {v : AV} {l : List Sea} (h : SeasAt H v l) (i : Nat) (hi : i < l.length) : ∃ x b off cs, slAt v 2 i = some (b, off) ∧ (H.get b).bind AObj.cs = some cs ∧ seg cs off 2 = some [x, .bool l[i].fell] ∧ cs[off]? = some x ∧ cs[off + 1]? = some (.bool l[i].fell) ∧ b < H.next ∧ Ints H x l[i].sp := by
  obtain ⟨vs, h1, h2, h3⟩ := h
  have hv : i < vs.length := by omega
  obtain ⟨b, off, cs, i1, i2, i3, i4⟩ := h2.at_ i [vs[i], .bool l[i].fell] (by rw [List.getElem?_map, show (vs.zip l)[i]? = some (vs[i], l[i]) from List.getElem?_zip_eq_some.2 ⟨List.getElem?_eq_getElem hv, List.getElem?_eq_getElem hi⟩]; rfl)
  have k0 := seg_get i3 0 (by omega)
  have k1 := seg_get i3 1 (by omega)
  exact ⟨vs[i], b, off, cs, i1, i2, i3, by simpa using k0, by simpa using k1, i4, h3 i _ _ (List.getElem?_eq_getElem hv) (List.getElem?_eq_getElem hi)⟩
theorem Ints.ext {H G : Heap} {v : AV} {us : List Int} (h : Ints H v us) (g : Ext H G) : Ints G v us := Row.ext h g
theorem Ints.len {H : Heap} {v : AV} {us : List Int} (h : Ints H v us) : lenOf v = some us.length := by simpa using Row.len h
theorem Ints.at' {H : Heap} {v : AV} {us : List Int} (h : Ints H v us) (i : Nat) (hi : i < us.length) : ∃ b off cs, slAt v 1 i = some (b, off) ∧ (H.get b).bind AObj.cs = some cs ∧ cs[off]? = some (I us[i]) ∧ b < H.next := by
  obtain ⟨b, off, cs, i1, i2, i3, i4⟩ := Row.at_ h i [I us[i]] (by simp [hi])
  exact ⟨b, off, cs, i1, i2, seg_one i3, i4⟩
theorem Mine.ints {k0 : Nat} {G : Heap} {v : AV} {us : List Int} (h : Mine k0 G v 3 1 (us.map I)) : Ints G v us := Mine.row (by rw [flatI]; exact h) (fun x hx => by obtain ⟨y, _, rfl⟩ := List.mem_map.1 hx; rfl) (by omega)
/-- What a season's cells are, each speed's list in a block of its own. -/
def seaCells : List AV → List Sea → List AV
  | x :: vs, s :: l => x :: .bool s.fell :: seaCells vs l
  | _, _ => []
theorem seaCells_zip : ∀ (vs : List AV) (l : List Sea), seaCells vs l = ((vs.zip l).map fun p => [p.1, .bool p.2.fell]).flatten
  | [], _ => by simp [seaCells]
  | _ :: _, [] => by simp [seaCells]
  | x :: vs, s :: l => by simp [seaCells, seaCells_zip vs l]
theorem seaCells_snoc : ∀ (vs : List AV) (l : List Sea) (x : AV) (s : Sea), vs.length = l.length → seaCells (vs ++ [x]) (l ++ [s]) = seaCells vs l ++ [x, .bool s.fell]
  | [], [], _, _, _ => rfl
  | y :: vs, t :: l, x, s, h => by
    simp only [List.cons_append, seaCells]
    rw [seaCells_snoc vs l x s (by simpa using h)]
  | [], _ :: _, _, _, h => by simp at h
  | _ :: _, [], _, _, h => by simp at h
theorem seaCells_len : ∀ (vs : List AV) (l : List Sea), vs.length = l.length → (seaCells vs l).length = l.length * 2
  | [], [], _ => rfl
  | y :: vs, t :: l, h => by simp only [seaCells, List.length_cons]; rw [seaCells_len vs l (by simpa using h)]; omega
  | [], _ :: _, h => by simp at h
  | _ :: _, [], h => by simp at h
/-- Seasons that the call made. -/
def SeasM (k0 : Nat) (G : Heap) (v : AV) (l : List Sea) : Prop := ∃ vs : List AV, vs.length = l.length ∧ Mine k0 G v 66 2 (seaCells vs l) ∧ ∀ (i : Nat) (x : AV) (s : Sea), vs[i]? = some x → l[i]? = some s → Mine k0 G x 3 1 (s.sp.map I)
theorem SeasM.to {k0 : Nat} {G G' : Heap} {v : AV} {l : List Sea} (h : SeasM k0 G v l) (g : Ext G G') : SeasM k0 G' v l := let ⟨vs, h1, h2, h3⟩ := h; ⟨vs, h1, h2.to g, fun i x s a b => (h3 i x s a b).to g⟩
theorem SeasM.low {k0 k1 : Nat} {G : Heap} {v : AV} {l : List Sea} (h : SeasM k1 G v l) (hk : k0 ≤ k1) : SeasM k0 G v l := let ⟨vs, h1, h2, h3⟩ := h; ⟨vs, h1, h2.low hk, fun i x s a b => (h3 i x s a b).low hk⟩
theorem SeasM.put {k0 : Nat} {G : Heap} {v : AV} {l : List Sea} (h : SeasM k0 G v l) {n : Nat} (o : AObj) (hn : n < k0) : SeasM k0 (G.put n o) v l := let ⟨vs, h1, h2, h3⟩ := h; ⟨vs, h1, h2.put o hn, fun i x s a b => (h3 i x s a b).put o hn⟩
theorem SeasM.at {k0 : Nat} {G : Heap} {v : AV} {l : List Sea} (h : SeasM k0 G v l) : SeasAt G v l := by
  obtain ⟨vs, h1, h2, h3⟩ := h
  refine ⟨vs, h1, ?_, fun i x s a b => (h3 i x s a b).ints⟩
  exact Mine.row (by rw [← seaCells_zip]; exact h2) (fun x hx => by obtain ⟨y, _, rfl⟩ := List.mem_map.1 hx; rfl) (by omega)
theorem SeasM.nil (k0 : Nat) (G : Heap) : SeasM k0 G .nils [] := ⟨[], rfl, Mine.nil _ _ _ _, fun i x s h _ => by simp at h⟩
theorem c30 (m : Nat) (bv : AV) (us : List Int) (H : Heap) (hU : Ints H bv us) (hl : us.length ≤ 1000000) : ∃ v H', RR (m + 1) (.fn 30 [bv]) H = some (v, H') ∧ Ret H H' ∧ Mine H.next H' v 3 1 (us.map I) := by
  show ∃ v H', evFn Try.prog (RR (m + 0)) 30 [bv] H = some (v, H') ∧ Ret H H' ∧ Mine H.next H' v 3 1 (us.map I)
  refine fn_okE Try.func30 rfl rfl (by kernel_rfl) (by kernel_rfl) ?_
  obtain ⟨W, hW⟩ : ∃ W : Heap, W = ⟨H.t, H.next, H.next⟩ := ⟨_, rfl⟩
  have hg : ∀ n, W.get n = H.get n := fun n => by rw [hW]; rfl
  have hN : W.next = H.next := by rw [hW]
  have hE : ∀ G, Grow W G → Ext H G := fun G g => ⟨by rw [← hN]; exact g.next, fun n k => by rw [g.get n (by rw [hN]; exact k), hg]⟩
  have hG : Grow W W := Grow.refl (by rw [hW]; exact Nat.le_refl _)
  rw [← hW]
  refine Ok.seq ?_
  refine Ok.region ?_
  refine OkO.assign rfl rfl ?_
  refine OkO.nil ?_
  refine Ok.seq ?_
  refine Ok.region ?_
  refine OkO.move rfl rfl ?_
  refine OkO.builtinE rfl rfl rfl (Mine.app3 (W := W) (k0 := W.next) (t := 22) (u := 22) (sz := 1) (by_ := 8) (e := 3) (n := us.length) (new := us.map I) (Mine.nil _ _ _ _) hG (Nat.le_refl _) (Nat.le_refl _) (by kernel_rfl) (by kernel_rfl) (by rw [← flatI]; exact (hU.ext (hE _ hG)).elems (fun x hx => by obtain ⟨y, _, rfl⟩ := List.mem_map.1 hx; rfl)) (hU.len) (by simp) (by simp; omega) (by omega) (atoms_ints us)) ?_
  rintro v2 G2 ⟨r1, r2, r3, r4⟩
  refine OkO.assign rfl rfl ?_
  refine OkO.nil ?_
  refine Ok.ret ⟨.inr rfl, ?_⟩
  refine back_newA (resV_tmp rfl resV_nil) rfl (by rw [← hW]; exact r2) (fun H9 p1 p2 => ⟨p1, (r1.low (by omega)).backT p2 id⟩)
theorem c82 (m : Nat) (v good : AV) (xs : List Int) (ps : List Bool) (H : Heap) (hR : Row H v 1 (xs.map fun x => [I x])) (hl : xs.length ≤ 1000000) (hp : ps.length = xs.length) (hgood : ∀ (i : Nat) x b, xs[i]? = some x → ps[i]? = some b → CallB m good [I x] H b) : RR (m + 1) (.fn 82 [v, good]) H = some (.bool (ps.all id), H) := by
  refine (R_fn _ _ _ _ _).trans ?_
  refine fn_ok Try.func82 rfl rfl (by kernel_rfl) (by kernel_rfl) ?_
  obtain ⟨W, hW⟩ : ∃ W : Heap, W = ⟨H.t, H.next, H.next⟩ := ⟨_, rfl⟩
  have hg : ∀ n, W.get n = H.get n := fun n => by rw [hW]; rfl
  have hN : W.next = H.next := by rw [hW]
  have hE : ∀ G, Grow W G → Ext H G := fun G g => ⟨by rw [← hN]; exact g.next, fun n k => by rw [g.get n (by rw [hN]; exact k), hg]⟩
  have hG : Grow W W := Grow.refl (by rw [hW]; exact Nat.le_refl _)
  rw [← hW]
  have hlen : lenOf v = some xs.length := by simpa using hR.len
  refine Ok.seq ?_
  refine Ok.region ?_
  refine OkO.assign rfl rfl ?_
  refine OkO.nil ?_
  refine Ok.seq ?_
  refine Ok.seq ?_
  refine Ok.region ?_
  refine OkO.move rfl rfl ?_
  refine OkO.builtin rfl rfl rfl (bln (by kernel_rfl) (by first | assumption | rfl)) ?_
  refine OkO.move rfl rfl ?_
  refine OkO.nil ?_
  refine Ok.block ?_
  refine Ok.loop (fun n s => ∃ i : Nat, n = xs.length - i ∧ i ≤ xs.length ∧ (∀ j, j < i → ps[j]? = some true) ∧ Has 5 [(1, good), (4, .bool false), (7, v), (8, I xs.length), (9, I (i : Int))] s.T ∧ s.D = [] ∧ Grow W s.H) (xs.length) (by unfold loopFuel; omega)
    ⟨0, rfl, Nat.zero_le _, nofun, Has.of (by kernel_rfl), rfl, hG⟩ ?_
  rintro n ⟨T, D, G⟩ ⟨i, hn, hi, hall, ⟨f, hT⟩, hD, hg⟩
  dsimp only at *
  subst hT hD
  have hgn := hg.next
  refine Ok.seq ?_
  refine Ok.region ?_
  refine OkO.bin rfl rfl rfl (bin_lss _ _) ?_
  refine OkO.nil ?_
  refine Ok.seq ?_
  refine Ok.cond rfl (fun h1 => ?_) (fun h1 => ?_)
  · -- yes h1
    have hlt : i < xs.length := by simpa using h1
    obtain ⟨b, hb⟩ : ∃ b, ps[i]? = some b := ⟨_, List.getElem?_eq_getElem (by omega)⟩
    obtain ⟨bb, off, cs, i1, i2, i3, i4⟩ := (hR.ext (hE _ hg)).at_ i [I xs[i]] (by simp [hlt])
    have hne : bb ≠ G.next := by omega
    have i5 := seg_one i3
    refine Ok.skip ?_
    refine Ok.seq ?_
    refine Ok.block ?_
    refine Ok.seq ?_
    refine Ok.region ?_
    refine OkO.index (sz := 1) rfl rfl rfl (by kernel_rfl) (by first | assumption | rfl | exact slAt_slice (by omega) | exact slAt_opn (by omega)) ?_ -- index ('Go.Operand.tmp', 7) ('Go.Operand.tmp', 9)
    refine OkO.load rfl rfl (lda (n := 1) (by kernel_rfl) (by first | assumption | (simp (disch := first | omega | (simp only [hNw, hPt]; omega)) only [gn0, gn1, gn2, gn3, gn4, gn5, gp0, gno, gpo] <;> first | rfl | assumption | exact gp0 _ _ _ | exact gn0 _ _)) (by first | rfl | assumption)) ?_
    refine OkO.assign rfl rfl ?_
    refine OkO.nil ?_
    refine Ok.seq ?_
    refine Ok.region ?_
    refine OkO.move rfl rfl ?_
    refine OkO.move rfl rfl ?_
    obtain ⟨gf, gas, hc1, hc2⟩ := hgood i xs[i] b (by simp [hlt]) hb
    refine OkO.callV rfl rfl rfl rfl hc1 (hc2 _ (hE _ (by (try dsimp only); repeat (first | (first | exact hg | exact hG) | apply Grow.new | (refine Grow.put ?_ _ (by first | omega | (simp only [hNw, hPt]; omega))))))) ?_ -- ('Go.Operand.tmp', 13)
    refine OkO.un rfl rfl rfl ?_
    refine OkO.nil ?_
    refine Ok.cond rfl (fun h2 => ?_) (fun h2 => ?_)
    · -- yes h2
      refine Ok.seq ?_
      refine Ok.region ?_
      refine OkO.assign rfl rfl ?_
      refine OkO.nil ?_
      refine Ok.ret ⟨.inr rfl, ?_⟩
      exact back_flat rfl (congrArg AV.bool (by symm; rw [List.all_eq_false]; exact ⟨false, List.mem_of_getElem? (by rw [hb]; congr 1; simpa using h2), by simp⟩)) rfl (by rw [← hW]; exact (by (try dsimp only); repeat (first | (first | exact hg | exact hG) | apply Grow.new | (refine Grow.put ?_ _ (by first | omega | (simp only [hNw, hPt]; omega))))))
    · -- no h2
      refine Ok.skip ?_
      refine Ok.region ?_
      refine OkO.bin rfl rfl rfl (bin_add (by omega) (by omega)) ?_
      refine OkO.move rfl rfl ?_
      refine OkO.nil ?_
      refine ⟨xs.length - (i + 1), by omega, i + 1, rfl, hlt, fun j hj => ?_, Has.of (by kernel_rfl), rfl, (by (try dsimp only); repeat (first | (first | exact hg | exact hG) | apply Grow.new | (refine Grow.put ?_ _ (by first | omega | (simp only [hNw, hPt]; omega)))))⟩
      by_cases e : j = i
      · subst e; rw [hb]; simpa using h2
      · exact hall j (by omega)
  · -- no h1
    have hge : i = xs.length := by simp at h1; omega
    refine Ok.exit ?_
    refine Ok.seq ?_
    refine Ok.region ?_
    refine OkO.assign rfl rfl ?_
    refine OkO.nil ?_
    refine Ok.ret ⟨.inr rfl, ?_⟩
    exact back_flat rfl (congrArg AV.bool (by symm; rw [List.all_eq_true]; intro x hx; obtain ⟨j, hj, rfl⟩ := List.mem_iff_getElem.1 hx; have := hall j (by omega); rw [List.getElem?_eq_getElem hj] at this; simpa using this)) rfl (by rw [← hW]; exact (by (try dsimp only); repeat (first | (first | exact hg | exact hG) | apply Grow.new | (refine Grow.put ?_ _ (by first | omega | (simp only [hNw, hPt]; omega))))))
end
end Go.Ev

set_option maxRecDepth 100000
set_option linter.unusedSimpArgs false
set_option linter.unusedVariables false
namespace Go.Ev
open Go Go.Proofs
noncomputable section
def seasErr (l : List Sea) : Int := if (decide ((l.length : Int) ≤ 10) && l.all Sea.short) = true then (if l.all Sea.fine = true then 0 else 1) else 3
theorem all_of_get {α : Type} {l : List α} {p : α → Prop} (h : ∀ (j : Nat) (hj : j < l.length), p l[j]) : ∀ x ∈ l, p x := fun x hx => by
  obtain ⟨j, hj, rfl⟩ := List.mem_iff_getElem.1 hx
  exact h j hj
theorem c82r (m : Nat) (v good : AV) (xs : List Int) (r : Bool) (ps : List Bool) (hr : ps.all id = r) (H : Heap) (hR : Row H v 1 (xs.map fun x => [I x])) (hl : xs.length ≤ 1000000) (hp : ps.length = xs.length) (hgood : ∀ (i : Nat) x b, xs[i]? = some x → ps[i]? = some b → CallB m good [I x] H b) :
    RR (m + 1) (.fn 82 [v, good]) H = some (.bool r, H) := by rw [← hr]; exact c82 m v good xs ps H hR hl hp hgood
/-- Seasons whose lists may stand in cells. -/
def SeasG (H : Heap) (v : AV) (l : List Sea) : Prop := ∃ vs : List AV, vs.length = l.length ∧ Row H v 2 ((vs.zip l).map fun p => [p.1, .bool p.2.fell]) ∧ (∀ x ∈ vs, x.atom = true) ∧ ∀ (i : Nat) (x : AV) (s : Sea), vs[i]? = some x → l[i]? = some s → Ints H x s.sp
theorem SeasG.at {H : Heap} {v : AV} {l : List Sea} (h : SeasG H v l) : SeasAt H v l := let ⟨vs, h1, h2, _, h3⟩ := h; ⟨vs, h1, h2, h3⟩
theorem SeasG.ext {H G : Heap} {v : AV} {l : List Sea} (h : SeasG H v l) (g : Ext H G) : SeasG G v l := let ⟨vs, h1, h2, h4, h3⟩ := h; ⟨vs, h1, h2.ext g, h4, fun i x s a b => (h3 i x s a b).ext g⟩
theorem SeasM.g {k0 : Nat} {G : Heap} {v : AV} {l : List Sea} (h : SeasM k0 G v l) : SeasG G v l := by
  obtain ⟨vs, h1, h2, h3⟩ := h
  refine ⟨vs, h1, Mine.row (by rw [← seaCells_zip]; exact h2) (fun x hx => by obtain ⟨y, _, rfl⟩ := List.mem_map.1 hx; rfl) (by omega), fun x hx => ?_, fun i x s a b => (h3 i x s a b).ints⟩
  obtain ⟨i, hi, rfl⟩ := List.mem_iff_getElem.1 hx
  exact (h3 i vs[i] (l[i]'(by omega)) (List.getElem?_eq_getElem hi) (List.getElem?_eq_getElem (by omega))).one.2
/-- A slice of one struct that was just built. -/
theorem Row.lit {G : Heap} {b sz : Nat} {cs : List AV} {ty : TypeId} (h : G.get b = some (.cells cs ty)) (hb : b < G.next) (hl : cs.length = sz) : Row G (.slice b 0 1 1) sz [cs] := by
  refine ⟨rfl, fun i x k => ?_⟩
  cases i with
  | zero =>
    cases k
    refine ⟨b, 0, cs, by simp [slAt], by rw [h]; rfl, ?_, hb⟩
    unfold seg
    simp only [List.drop_zero, ← hl, List.take_length]
    rw [show Nat.beq cs.length cs.length = true from by simp]
  | succ i => simp at k
theorem SeasAt.one {G : Heap} {b : Nat} {x : AV} {s : Sea} {ty : TypeId} (h : G.get b = some (.cells [x, .bool s.fell] ty)) (hb : b < G.next) (hU : Ints G x s.sp) : SeasAt G (.slice b 0 1 1) [s] :=
  ⟨[x], rfl, Row.lit h hb rfl, fun i y t a c => by cases i with
    | zero => cases a; cases c; exact hU
    | succ i => simp at a⟩
theorem SeasG.one {G : Heap} {b : Nat} {x : AV} {s : Sea} {ty : TypeId} (h : G.get b = some (.cells [x, .bool s.fell] ty)) (hb : b < G.next) (hx : x.atom = true) (hU : Ints G x s.sp) : SeasG G (.slice b 0 1 1) [s] :=
  ⟨[x], rfl, Row.lit h hb rfl, fun y hy => by simp at hy; rw [hy]; exact hx, fun i y t a c => by cases i with
    | zero => cases a; cases c; exact hU
    | succ i => simp at a⟩
end
end Go.Ev

set_option maxRecDepth 100000
set_option linter.unusedSimpArgs false
set_option linter.unusedVariables false
namespace Go.Ev
open Go Go.Proofs
noncomputable section
def termErr (l : List Sea) (t : Trm) : Int := if seasErr l ≠ 0 then seasErr l else if (l.length : Int) = 0 then 1 else if t.ok = true then 0 else 2
def shortL (l : List Sea) : Bool := decide ((l.length : Int) ≤ 12) && (l.take 13).all fun s => decide ((s.sp.length : Int) ≤ 65)
theorem SeasM.snoc {k0 : Nat} {G : Heap} {ov x : AV} {l : List Sea} {s : Sea} (h : SeasM k0 G ov l) (hx : Mine k0 G x 3 1 (s.sp.map I)) : ∃ cs, Mine k0 G ov 66 2 cs ∧ cs.length = l.length * 2 ∧ ∀ v2 G2, Mine k0 G2 v2 66 2 (cs ++ [x, .bool s.fell]) → G.next ≤ G2.next → (∀ j, j < G.next → (∀ m, ov ≠ .opn j m) → G2.get j = G.get j) → SeasM k0 G2 v2 (l ++ [s]) := by
  obtain ⟨vs, h1, h2, h3⟩ := h
  refine ⟨_, h2, seaCells_len vs l h1, fun v2 G2 k1 k2 k3 => ⟨vs ++ [x], by simp [h1], by rw [seaCells_snoc _ _ _ _ h1]; exact k1, fun i y t a c => ?_⟩⟩
  by_cases hi : i < vs.length
  · rw [List.getElem?_append_left hi] at a
    rw [List.getElem?_append_left (by omega)] at c
    exact (h3 i y t a c).offE h2 (.inr (by omega)) k2 k3
  · by_cases hi2 : i = vs.length
    · subst hi2
      rw [List.getElem?_append_right (Nat.le_refl _)] at a
      rw [List.getElem?_append_right (by omega), h1] at c
      simp at a c
      subst a c
      exact hx.offE h2 (.inr (by omega)) k2 k3
    · rw [List.getElem?_eq_none (by simp; omega)] at a; cases a
theorem SeasM.backS {H G H' : Heap} {v : AV} {l : List Sea} (h : SeasM H.next G v l) (r : (H' = H ∧ v.flat = true) ∨ ((∀ n, H'.get n = G.get n) ∧ H'.next = G.next)) : SeasM H.next H' v l := by
  rcases r with ⟨rfl, hf⟩ | ⟨h1, h2⟩
  · obtain ⟨vs, a1, a2, a3⟩ := h
    rcases a2 with ⟨rfl, a2⟩ | ⟨b, n, rfl, _⟩
    · cases vs with
      | nil => exact ⟨[], a1, .inl ⟨rfl, by simp [seaCells]⟩, fun i x s h _ => by simp at h⟩
      | cons x vs => cases l with
        | nil => simp at a1
        | cons s l => simp [seaCells] at a2
    · cases hf
  · obtain ⟨vs, a1, a2, a3⟩ := h
    exact ⟨vs, a1, a2.to ⟨by omega, fun n _ => h1 n⟩, fun i x s k1 k2 => (a3 i x s k1 k2).to ⟨by omega, fun n _ => h1 n⟩⟩
end
end Go.Ev

set_option maxRecDepth 100000
set_option linter.unusedSimpArgs false
set_option linter.unusedVariables false
namespace Go.Ev
open Go Go.Proofs
noncomputable section
section
open Go.ChangeShapes Go.WideShapes Go.RowKit
variable {H0 : Type} {enc : TypeId × Value → H0} {w : World} {base n : Nat} {sp : Nat → Bool} {hd : Bool}
theorem choose_list {α β : Type} {R : α → β → Prop} : ∀ l : List α, (∀ x ∈ l, ∃ y, R x y) → ∃ m : List β, m.length = l.length ∧ ∀ (i : Nat) x y, l[i]? = some x → m[i]? = some y → R x y := by
  intro l
  induction l with
  | nil => exact fun _ => ⟨[], rfl, fun i x y h => by simp at h⟩
  | cons a t ih =>
    intro h
    obtain ⟨y, hy⟩ := h a (by simp)
    obtain ⟨m, hm, hr⟩ := ih fun x hx => h x (by simp [hx])
    refine ⟨y :: m, by simp [hm], fun i x z h1 h2 => ?_⟩
    cases i with
    | zero => simp at h1 h2; subst h1; subst h2; exact hy
    | succ i => exact hr i x z (by simpa using h1) (by simpa using h2)
theorem map_of_get {α β : Type} {f : α → β} {l : List α} {m : List β} (hl : m.length = l.length) (h : ∀ (i : Nat) x y, l[i]? = some x → m[i]? = some y → f x = y) : l.map f = m := by
  apply List.ext_getElem (by simp [hl])
  intro i h1 h2
  have hi : i < l.length := by simpa using h1
  rw [List.getElem_map]
  exact h i _ _ (List.getElem?_eq_getElem hi) (List.getElem?_eq_getElem h2)
theorem slice_open {β : Type} {H : Heap} (hs : Snap w H) {t e sz : Nat} (ht : Try.prog.underlying t = some (.slice e)) (hc : Try.prog.cellsOf e = sz) (hz : 0 < sz) {R : List Value → β → Prop} (he : ∀ (c : List Value) (m : Nat) y, c.length = sz → DataW.trod enc Try.prog w base sp hd m e c = some y → ∃ b, R c b)
    {v : Value} {y} (h : DataW.trod enc Try.prog w base sp hd n t [v] = some y) : ∃ (cs : List (List Value)) (l : List β), l.length = cs.length ∧ l.length ≤ maxLen ∧ Row H (toAV w.heap.size v) sz (cs.map (toAVs w.heap.size)) ∧ ∀ (i : Nat) c b, cs[i]? = some c → l[i]? = some b → R c b := by
  obtain ⟨cs, hR, hm, hl⟩ := hs.slice ht hc hz h
  obtain ⟨l, hl2, hr⟩ := choose_list (R := R) cs fun c hc => by
    obtain ⟨h1, n', y', hy⟩ := hl c hc
    exact he c n' y' h1 hy
  exact ⟨cs, l, hl2, by omega, hR, hr⟩
theorem cells3 : Try.prog.cellsOf 3 = 1 := by kernel_rfl
theorem cells22 : Try.prog.cellsOf 22 = 1 := by kernel_rfl
theorem cells24 : Try.prog.cellsOf 24 = 6 := by kernel_rfl
theorem open3 {c : List Value} {y} (h : DataW.trod enc Try.prog w base sp hd n 3 c = some y) : ∃ x : Int, c = [.int .i64 x] := by
  obtain ⟨x, h1, _, _⟩ := DataW.trod_int Try.underlying3 h
  exact ⟨x, h1⟩
theorem open5 {c : List Value} {y} (h : DataW.trod enc Try.prog w base sp hd n 5 c = some y) : ∃ x : Int, c = [.int .u8 x] ∧ 0 ≤ x ∧ x ≤ 255 := by
  obtain ⟨x, h1, _, hw⟩ := DataW.trod_int Try.underlying5 h
  refine ⟨x, h1, ?_⟩
  have h2 : (decide (IntKind.min .u8 ≤ x) && decide (x ≤ IntKind.max .u8)) = true := hw
  rw [Bool.and_eq_true] at h2
  have h3 := of_decide_eq_true h2.1
  have h4 := of_decide_eq_true h2.2
  have e1 : IntKind.min .u8 = 0 := by decide
  have e2 : IntKind.max .u8 = 255 := by decide
  omega
theorem arg5 {H : Heap} (hs : Snap w H) {v : Value} {d : DataW H0} {p : List MemPlace} (hv : ∃ n, v = .int .u8 n) (h : DataW.Trod enc Try.prog w base sp hd 5 v d p) : ∃ x : Int, argAV w.heap.size v = .int .u8 x ∧ 0 ≤ x ∧ x ≤ 255 := by
  obtain ⟨n, rfl⟩ := hv
  obtain ⟨fuel, h⟩ := h
  obtain ⟨x, h1, h2⟩ := open5 h
  have h1' : ([Value.int .u8 n] : List Value) = [.int .u8 x] := h1
  have e0 : n = x := by simpa using h1'
  subst e0
  exact ⟨n, rfl, h2⟩
theorem open22 {H : Heap} (hs : Snap w H) {v : Value} {y} (h : DataW.trod enc Try.prog w base sp hd n 22 [v] = some y) : ∃ us : List Int, Ints H (toAV w.heap.size v) us ∧ us.length ≤ maxLen := by
  obtain ⟨cs, us, hl, hm, hR, hr⟩ := slice_open hs Try.underlying22 cells3 (by decide) (R := fun c (x : Int) => c = [.int .i64 x]) (fun c m y _ hc => open3 hc) h
  refine ⟨us, ?_, hm⟩
  have : cs.map (toAVs w.heap.size) = us.map fun n => [I n] := map_of_get (by simp [hl]) fun i x z h1 h2 => by
    rw [List.getElem?_map, Option.map_eq_some_iff] at h2
    obtain ⟨b, h3, rfl⟩ := h2
    rw [hr i x b h1 h3]
    rfl
  unfold Ints
  rwa [this] at hR
end
end
end Go.Ev

set_option maxRecDepth 100000
set_option linter.unusedSimpArgs false
set_option linter.unusedVariables false
namespace Go.Ev
open Go Go.Proofs
noncomputable section
/-- The first hour from one on whose speed is below a number. -/
def runTo (sp : List Int) (back : Int) (to : Nat) : Nat := to + ((sp.drop to).takeWhile fun x => decide (back ≤ x)).length
/-- The hour behind an alarm that begins in one. -/
def endOf (sp : List Int) (r : Rul) (h : Nat) : Nat := runTo sp r.back (min (h + r.hold.toNat) sp.length)
def spellsW (sp : List Int) (r : Rul) : Nat → Nat → List (Nat × Nat)
  | 0, _ => []
  | n + 1, h => if hh : h < sp.length then (if sp[h] < r.start then spellsW sp r n (h + 1) else (h, endOf sp r h) :: spellsW sp r n (endOf sp r h)) else []
/-- The alarms from an hour on. -/
def restOf (sp : List Int) (r : Rul) (h : Nat) : List (Nat × Nat) := spellsW sp r (sp.length - h) h
def spellsOf (sp : List Int) (r : Rul) : List (Nat × Nat) := restOf sp r 0
theorem Rul.ok_facts {r : Rul} (h : r.ok = true) : (0 ≤ r.start ∧ r.start ≤ 1000) ∧ (0 ≤ r.back ∧ r.back ≤ r.start) ∧ 1 ≤ r.hold ∧ r.hold ≤ 60 := by
  unfold Rul.ok inB at h
  simp only [Bool.and_eq_true, decide_eq_true_eq] at h
  omega
def spc (p : Nat × Nat) : List AV := [I (p.1 : Int), I (p.2 : Int)]
def spCells (l : List (Nat × Nat)) : List AV := (l.map spc).flatten
end
end Go.Ev

set_option maxRecDepth 100000
set_option linter.unusedSimpArgs false
set_option linter.unusedVariables false
namespace Go.Ev
open Go Go.Proofs
noncomputable section
end
end Go.Ev

set_option maxRecDepth 100000
set_option linter.unusedSimpArgs false
set_option linter.unusedVariables false
namespace Go.Ev
open Go Go.Proofs
noncomputable section
theorem flat_tup2 {a c : AV} (h : (AV.tup [a, c]).flat = true) : a.flat = true := by
  have h1 : AV.flats [a, c] = true := h
  unfold AV.flats at h1
  cases ha : a.flat with
  | false => rw [ha] at h1; cases h1
  | true => rfl
end
end Go.Ev

set_option maxRecDepth 100000
set_option linter.unusedSimpArgs false
set_option linter.unusedVariables false
namespace Go.Ev
open Go Go.Proofs
noncomputable section
end
end Go.Ev

set_option maxRecDepth 100000
set_option linter.unusedSimpArgs false
set_option linter.unusedVariables false
namespace Go.Ev
open Go Go.Proofs
noncomputable section
/-- How many of some alarms an hour is in. -/
def cnt (L : List (Nat × Nat)) (k : Nat) : Nat := (L.filter fun p => decide (p.1 ≤ k) && decide (k < p.2)).length
/-- What the hours have been counted, the one that is at hand up to an hour. -/
def onL (N : Nat) (L : List (Nat × Nat)) (a h : Nat) : List Int := (List.range N).map fun k => ((cnt L k + (if a ≤ k ∧ k < h then 1 else 0) : Nat) : Int)
theorem spl_set (a : List Int) (k : Nat) (z : Int) (h : k < a.length) : spl (a.map I) (0 + k * 1) (I z).cells = some ((a.set k z).map I) := by
  have e : (I z).cells = [I z] := rfl
  rw [e, spl_one (by simp; omega), List.map_set]
  simp
end
end Go.Ev

set_option maxRecDepth 100000
set_option linter.unusedSimpArgs false
set_option linter.unusedVariables false
namespace Go.Ev
open Go Go.Proofs
noncomputable section
end
end Go.Ev

set_option maxRecDepth 100000
set_option linter.unusedSimpArgs false
set_option linter.unusedVariables false
namespace Go.Ev
open Go Go.Proofs
noncomputable section
/-- What alarms cost, in a season of N hours. -/
def prc1 (t : Trm) (fell : Bool) (N : Nat) (p : Nat × Nat) : Int := t.hour * ((p.2 : Int) - (p.1 : Int)) + (if fell = false ∨ p.2 < N then t.price else 0)
def prcL (t : Trm) (fell : Bool) (N : Nat) : List (Nat × Nat) → Int
  | [] => 0
  | p :: l => prc1 t fell N p + prcL t fell N l
/-- The alarm that is on at the end, or none. -/
def lastOf (L : List (Nat × Nat)) (N : Nat) : Nat × Nat := (L.find? fun p => decide (p.2 = N)).getD (0, 0)
def prcS (t : Trm) (r : Rul) (s : Sea) : Int := prcL t s.fell s.sp.length (spellsOf s.sp r)
def lngL (s : Sea) (r : Rul) : Int := ((lastOf (spellsOf s.sp r) s.sp.length).2 : Int) - ((lastOf (spellsOf s.sp r) s.sp.length).1 : Int)
def fineS (t : Trm) (r : Rul) (s : Sea) : Bool := !s.fell || decide (max t.out 1 ≤ lngL s r)
def sumP (t : Trm) (r : Rul) (l : List Sea) : Int := (l.map (prcS t r)).sum
def allT (t : Trm) (r : Rul) (l : List Sea) : Bool := l.all (fineS t r)
end
end Go.Ev

set_option maxRecDepth 100000
set_option linter.unusedSimpArgs false
set_option linter.unusedVariables false
namespace Go.Ev
open Go Go.Proofs
noncomputable section
theorem Trm.ok_facts {t : Trm} (h : t.ok = true) : (0 ≤ t.out ∧ t.out ≤ 60) ∧ (0 ≤ t.price ∧ t.price ≤ 1000) ∧ (0 ≤ t.hour ∧ t.hour ≤ 1000) ∧ (0 ≤ t.less ∧ t.less ≤ 1000) ∧ 1 ≤ t.hold ∧ t.hold ≤ 60 := by
  unfold Trm.ok inB at h
  simp only [Bool.and_eq_true, decide_eq_true_eq] at h
  omega
end
end Go.Ev

set_option maxRecDepth 100000
set_option linter.unusedSimpArgs false
set_option linter.unusedVariables false
namespace Go.Ev
open Go Go.Proofs
noncomputable section
end
end Go.Ev

set_option maxRecDepth 100000
set_option linter.unusedSimpArgs false
set_option linter.unusedVariables false
namespace Go.Ev
open Go Go.Proofs
noncomputable section
def sv1 (t : Trm) (fell : Bool) (N : Nat) (p : Nat × Nat) : Bool := fell && !(decide (p.2 < N)) && decide (max 1 t.out ≤ (p.2 : Int) - (p.1 : Int))
end
end Go.Ev

set_option maxRecDepth 100000
set_option linter.unusedSimpArgs false
set_option linter.unusedVariables false
namespace Go.Ev
open Go Go.Proofs
noncomputable section
end
end Go.Ev

set_option maxRecDepth 100000
set_option linter.unusedSimpArgs false
set_option linter.unusedVariables false
namespace Go.Ev
open Go Go.Proofs
noncomputable section
def priceK (t : Trm) (l : List Sea) (k : Nat) : Int := sumP t (ruleOf t (k : Int)) l
def fineK (t : Trm) (l : List Sea) (k : Nat) : Bool := allT t (ruleOf t (k : Int)) l
/-- The best rule of those that have been tried. -/
def BS (t : Trm) (l : List Sea) (S : Nat → Prop) (q : Rul) (p : Int) (fd : Bool) : Prop :=
  (fd = false ∧ q = ⟨0, 0, 0⟩ ∧ p = 0 ∧ ∀ k, S k → fineK t l k = false) ∨
    (fd = true ∧ ∃ st : Nat, S st ∧ q = ruleOf t (st : Int) ∧ p = priceK t l st ∧ fineK t l st = true ∧ ∀ k, S k → fineK t l k = true → p < priceK t l k ∨ (p = priceK t l k ∧ k ≤ st))
theorem BS.new {t : Trm} {l : List Sea} {S S' : Nat → Prop} {q : Rul} {p : Int} {fd : Bool} {k : Nat} (h : BS t l S q p fd) (hS : ∀ j, S' j ↔ S j ∨ j = k) (hf : fineK t l k = true) (hc : fd = true → priceK t l k < p ∨ (priceK t l k = p ∧ ∀ j, S j → j ≤ k)) :
    BS t l S' (ruleOf t (k : Int)) (priceK t l k) true := by
  refine .inr ⟨rfl, k, (hS k).2 (.inr rfl), rfl, rfl, hf, fun j hj hfj => ?_⟩
  rcases (hS j).1 hj with hj | rfl
  · rcases h with ⟨h1, _, _, h4⟩ | ⟨h1, st, h2, h3, h4, h5, h6⟩
    · rw [h4 j hj] at hfj; cases hfj
    · rcases hc h1 with hc | ⟨hc, hk⟩
      · rcases h6 j hj hfj with h | ⟨h, _⟩ <;> exact .inl (by omega)
      · have := hk j hj
        rcases h6 j hj hfj with h | ⟨h, _⟩
        · exact .inl (by omega)
        · exact .inr ⟨by omega, this⟩
  · exact .inr ⟨rfl, Nat.le_refl _⟩
theorem BS.same {t : Trm} {l : List Sea} {S S' : Nat → Prop} {q : Rul} {p : Int} {fd : Bool} {k : Nat} (h : BS t l S q p fd) (hS : ∀ j, S' j ↔ S j ∨ j = k) (hc : fineK t l k = true → fd = true ∧ (p < priceK t l k ∨ (p = priceK t l k ∧ ∀ j, S j → k ≤ j))) : BS t l S' q p fd := by
  rcases h with ⟨h1, h2, h3, h4⟩ | ⟨h1, st, h2, h3, h4, h5, h6⟩
  · refine .inl ⟨h1, h2, h3, fun j hj => ?_⟩
    rcases (hS j).1 hj with hj | rfl
    · exact h4 j hj
    · cases hf : fineK t l j with
      | false => rfl
      | true => have := (hc hf).1; rw [h1] at this; cases this
  · refine .inr ⟨h1, st, (hS st).2 (.inl h2), h3, h4, h5, fun j hj hfj => ?_⟩
    rcases (hS j).1 hj with hj | rfl
    · exact h6 j hj hfj
    · rcases (hc hfj).2 with h | ⟨h, h'⟩
      · exact .inl h
      · exact .inr ⟨h, h' st h2⟩
theorem BS.uniq {t : Trm} {l : List Sea} {S S' : Nat → Prop} {q q' : Rul} {p p' : Int} {fd fd' : Bool} (h : BS t l S q p fd) (h' : BS t l S' q' p' fd') (hS : ∀ j, S' j ↔ S j) : q = q' ∧ p = p' ∧ fd = fd' := by
  rcases h with ⟨h1, h2, h3, h4⟩ | ⟨h1, st, h2, h3, h4, h5, h6⟩
  · rcases h' with ⟨k1, k2, k3, k4⟩ | ⟨k1, st', k2, k3, k4, k5, k6⟩
    · exact ⟨by rw [h2, k2], by rw [h3, k3], by rw [h1, k1]⟩
    · rw [h4 st' ((hS _).1 k2)] at k5; cases k5
  · rcases h' with ⟨k1, k2, k3, k4⟩ | ⟨k1, st', k2, k3, k4, k5, k6⟩
    · rw [k4 st ((hS _).2 h2)] at h5; cases h5
    · have a := h6 st' ((hS _).1 k2) k5
      have b := k6 st ((hS _).2 h2) h5
      have e : st = st' := by omega
      subst e
      exact ⟨by rw [h3, k3], by rw [h4, k4], by rw [h1, k1]⟩
end
end Go.Ev

set_option maxRecDepth 100000
set_option linter.unusedSimpArgs false
set_option linter.unusedVariables false
namespace Go.Ev
open Go Go.Proofs
noncomputable section
/-- The Start of the best rule. -/
def BestAt (t : Trm) (l : List Sea) (st : Nat) : Prop := st ≤ 1000 ∧ fineK t l st = true ∧ ∀ k, k ≤ 1000 → fineK t l k = true → priceK t l st < priceK t l k ∨ (priceK t l st = priceK t l k ∧ k ≤ st)
end
end Go.Ev

set_option maxRecDepth 100000
set_option linter.unusedSimpArgs false
set_option linter.unusedVariables false
namespace Go.Ev
open Go Go.Proofs
noncomputable section
end
end Go.Ev

set_option maxRecDepth 100000
set_option linter.unusedSimpArgs false
set_option linter.unusedVariables false
namespace Go.Ev
open Go Go.Proofs
noncomputable section
/-! ### Speeds that may be, by intervals -/
structure Pst where (errs : List Int) (gain drop fall out ahead : Int)
def Pst.c (p : Pst) (ev : AV) : List AV := [ev, I p.gain, I p.drop, I p.fall, I p.out, I p.ahead]
def Pst.ok (p : Pst) : Bool := inB (p.errs.length : Int) 1 10 && (p.errs.all fun x => inB x 0 1000) && inB p.gain 0 200 && inB p.drop 0 200 && inB p.fall 1 1000 && inB p.out 0 60 && inB p.ahead 0 60
theorem Pst.ok_facts {p : Pst} (h : p.ok = true) : (1 ≤ p.errs.length ∧ p.errs.length ≤ 10) ∧ (∀ x ∈ p.errs, 0 ≤ x ∧ x ≤ 1000) ∧ (0 ≤ p.gain ∧ p.gain ≤ 200) ∧ (0 ≤ p.drop ∧ p.drop ≤ 200) ∧ (1 ≤ p.fall ∧ p.fall ≤ 1000) ∧ (0 ≤ p.out ∧ p.out ≤ 60) ∧ 0 ≤ p.ahead ∧ p.ahead ≤ 60 := by
  unfold Pst.ok inB at h
  simp only [Bool.and_eq_true, decide_eq_true_eq, List.all_eq_true] at h
  obtain ⟨⟨⟨⟨⟨⟨h1, h2⟩, h3⟩, h4⟩, h5⟩, h6⟩, h7⟩ := h
  exact ⟨by omega, h2, h3, h4, h5, h6, h7⟩
abbrev Iv := Int × Int
def ivc (x : Iv) : List AV := [I x.1, I x.2]
def nul : Iv := (1, 0)
def inI (v : Int) (x : Iv) : Prop := x.1 ≤ v ∧ v ≤ x.2
def meetI (x y : Iv) : Iv := if min x.2 y.2 < max x.1 y.1 then nul else (max x.1 y.1, min x.2 y.2)
/-- A range with numbers in it, or the one that stands for none. -/
def Prp (x : Iv) : Prop := x = nul ∨ x.1 ≤ x.2
theorem not_nul (v : Int) : ¬ inI v nul := by unfold inI nul; simp; omega
theorem mem_meet {v : Int} {x y : Iv} : inI v (meetI x y) ↔ inI v x ∧ inI v y := by
  unfold meetI
  split
  · rename_i h
    constructor
    · intro h9; exact absurd h9 (not_nul v)
    · intro h9; unfold inI at h9; omega
  · unfold inI; simp; omega
theorem meet_prp (x y : Iv) : Prp (meetI x y) := by
  unfold meetI
  split
  · exact .inl rfl
  · exact .inr (by simp; omega)
theorem prp_mem {x : Iv} (h : Prp x) : (∃ v, inI v x) ↔ x ≠ nul := by
  constructor
  · rintro ⟨v, hv⟩ e; rw [e] at hv; exact not_nul v hv
  · intro hn
    rcases h with h | h
    · exact absurd h hn
    · exact ⟨x.1, Int.le_refl _, h⟩
/-- Two ranges with the same numbers are the same. -/
theorem prp_ext {x y : Iv} (hx : Prp x) (hy : Prp y) (h : ∀ v, inI v x ↔ inI v y) : x = y := by
  rcases hx with rfl | hx
  · rcases hy with rfl | hy
    · rfl
    · exact absurd ((h y.1).2 ⟨Int.le_refl _, hy⟩) (not_nul _)
  · rcases hy with rfl | hy
    · exact absurd ((h x.1).1 ⟨Int.le_refl _, hx⟩) (not_nul _)
    · have a := (h x.1).1 ⟨Int.le_refl _, hx⟩
      have b := (h x.2).1 ⟨hx, Int.le_refl _⟩
      have c := (h y.1).2 ⟨Int.le_refl _, hy⟩
      have d := (h y.2).2 ⟨hy, Int.le_refl _⟩
      unfold inI at a b c d
      exact Prod.ext (by omega) (by omega)
def agI (err read : Int) : Iv := (read - err, read + err)
/-- The gauges that work, with one failed. -/
def workL (n : Nat) (f : Int) : List Nat := (List.range n).filter fun g => decide ((g : Int) ≠ f)
def gI (p : Pst) (row : List Int) (g : Nat) : Iv := agI (p.errs.getD g 0) (row.getD g 0)
def gaugesI (p : Pst) (row : List Int) (l : List Nat) (x : Iv) : Iv := l.foldl (fun x g => meetI x (gI p row g)) x
def afterI (p : Pst) (x : Iv) : Iv := (x.1 - p.drop, x.2 + p.gain)
def beforeI (p : Pst) (x : Iv) : Iv := (x.1 - p.gain, x.2 + p.drop)
def stepI (p : Pst) (f : Int) (x : Iv) (row : List Int) : Iv := gaugesI p row (workL p.errs.length f) (meetI (0, 1000) (afterI p x))
theorem mem_gauges {p : Pst} {row : List Int} {v : Int} : ∀ {l : List Nat} {x : Iv}, inI v (gaugesI p row l x) ↔ inI v x ∧ ∀ g ∈ l, inI v (gI p row g)
  | [], x => by simp [gaugesI]
  | a :: l, x => by
    show inI v (gaugesI p row l (meetI x (gI p row a))) ↔ _
    rw [mem_gauges (l := l), mem_meet]
    simp [and_assoc]
theorem gauges_prp {p : Pst} {row : List Int} : ∀ {l : List Nat} {x : Iv}, Prp x → Prp (gaugesI p row l x)
  | [], x, h => h
  | a :: l, x, _ => gauges_prp (l := l) (meet_prp x (gI p row a))
theorem step_prp (p : Pst) (f : Int) (x : Iv) (row : List Int) : Prp (stepI p f x row) := gauges_prp (meet_prp _ _)
def AgreeR (p : Pst) (f : Int) (row : List Int) (v : Int) : Prop := ∀ g, g < p.errs.length → (g : Int) ≠ f → inI v (gI p row g)
theorem mem_step {p : Pst} {f : Int} {x : Iv} {row : List Int} {v : Int} : inI v (stepI p f x row) ↔ (0 ≤ v ∧ v ≤ 1000) ∧ (x.1 - p.drop ≤ v ∧ v ≤ x.2 + p.gain) ∧ AgreeR p f row v := by
  unfold stepI
  rw [mem_gauges, mem_meet]
  have e1 : inI v (0, 1000) ↔ (0 ≤ v ∧ v ≤ 1000) := Iff.rfl
  have e2 : inI v (afterI p x) ↔ (x.1 - p.drop ≤ v ∧ v ≤ x.2 + p.gain) := Iff.rfl
  have e3 : (∀ g ∈ workL p.errs.length f, inI v (gI p row g)) ↔ AgreeR p f row v := by
    unfold AgreeR workL
    constructor
    · intro h g h1 h2
      exact h g (List.mem_filter.2 ⟨List.mem_range.2 h1, by rw [decide_eq_true_eq]; exact h2⟩)
    · intro h g hg
      obtain ⟨h1, h2⟩ := List.mem_filter.1 hg
      exact h g (List.mem_range.1 h1) (by rw [decide_eq_true_eq] at h2; exact h2)
  rw [e1, e2, e3, and_assoc]
/-- What may be in each hour, as long as something may be. -/
def folW (p : Pst) (f : Int) : List (List Int) → Iv → List Iv
  | [], _ => []
  | row :: rows, x => if stepI p f x row = nul then [] else stepI p f x row :: folW p f rows (stepI p f x row)
/-- What may be behind some hours. -/
def lastI (p : Pst) (f : Int) (rows : List (List Int)) : Iv := rows.foldl (fun x row => if x = nul then nul else stepI p f x row) (0, 1000)
theorem lastI_snoc (p : Pst) (f : Int) (rows : List (List Int)) (row : List Int) : lastI p f (rows ++ [row]) = if lastI p f rows = nul then nul else stepI p f (lastI p f rows) row := by
  unfold lastI
  rw [List.foldl_append]
  rfl
theorem last_prp (p : Pst) (f : Int) (rows : List (List Int)) : Prp (lastI p f rows) := by
  rcases List.eq_nil_or_concat rows with rfl | ⟨l, a, rfl⟩
  · exact .inr (by simp [lastI])
  · rw [List.concat_eq_append, lastI_snoc]
    split
    · exact .inl rfl
    · exact step_prp _ _ _ _
theorem last_bd {p : Pst} {f : Int} {rows : List (List Int)} {v : Int} (h : inI v (lastI p f rows)) : 0 ≤ v ∧ v ≤ 1000 := by
  rcases List.eq_nil_or_concat rows with rfl | ⟨l, a, rfl⟩
  · exact h
  · rw [List.concat_eq_append, lastI_snoc] at h
    split at h
    · exact absurd h (not_nul v)
    · exact (mem_step.1 h).1
theorem nul_from (p : Pst) (f : Int) : ∀ (rows : List (List Int)), rows.foldl (fun x row => if x = nul then nul else stepI p f x row) nul = nul
  | [] => rfl
  | _ :: rows => by rw [List.foldl_cons, if_pos rfl]; exact nul_from p f rows
theorem folW_get {p : Pst} {f : Int} : ∀ {rows : List (List Int)} {x : Iv}, x ≠ nul → ∀ (h : Nat), h < rows.length → (folW p f rows x)[h]? = (let y := (rows.take (h + 1)).foldl (fun x row => if x = nul then nul else stepI p f x row) x
      if y = nul then none else some y)
  | [], x, _, h, hh => by simp at hh
  | row :: rows, x, hx, h, hh => by
    rw [folW, List.take_succ_cons, List.foldl_cons, if_neg hx]
    by_cases hs : stepI p f x row = nul
    · rw [if_pos hs, hs, nul_from]
      simp
    · rw [if_neg hs]
      cases h with
      | zero => simp [hs]
      | succ h => rw [List.getElem?_cons_succ]; exact folW_get hs h (by simpa using hh)
/-- The hours of one who has failed. -/
def mayL (p : Pst) (f : Int) (rows : List (List Int)) : List Iv := folW p f rows (0, 1000)
theorem may_get {p : Pst} {f : Int} {rows : List (List Int)} {h : Nat} (hh : h < rows.length) : (mayL p f rows)[h]? = if lastI p f (rows.take (h + 1)) = nul then none else some (lastI p f (rows.take (h + 1))) := by
  unfold mayL
  rw [folW_get (by simp [nul]) h hh]
  rfl
theorem may_len_le (p : Pst) (f : Int) : ∀ (rows : List (List Int)) (x : Iv), (folW p f rows x).length ≤ rows.length
  | [], _ => Nat.le_refl _
  | row :: rows, x => by
    rw [folW]
    split
    · simp
    · have := may_len_le p f rows (stepI p f x row); simp; omega
theorem may_len {p : Pst} {f : Int} {rows : List (List Int)} {h : Nat} (hh : h ≤ rows.length) : h ≤ (mayL p f rows).length ↔ lastI p f (rows.take h) ≠ nul := by
  cases h with
  | zero => simp [lastI, nul]
  | succ h =>
    have hg := may_get (p := p) (f := f) (rows := rows) (h := h) (by omega)
    constructor
    · intro h1 h2
      rw [if_pos h2, List.getElem?_eq_none_iff] at hg
      omega
    · intro h1
      rw [if_neg h1] at hg
      have := (List.getElem?_eq_some_iff.1 hg).1
      omega
theorem c89 (m : Nat) (ev : AV) (p : Pst) (x : Iv) (H : Heap) (hx : -100000 ≤ x.1 ∧ x.1 ≤ 100000 ∧ -100000 ≤ x.2 ∧ x.2 ≤ 100000) (hp : (0 ≤ p.gain ∧ p.gain ≤ 200) ∧ 0 ≤ p.drop ∧ p.drop ≤ 200) : RR (m + 1) (.fn 89 [.agg (p.c ev), .agg (ivc x)]) H = some (.agg (ivc (afterI p x)), H) := by
  refine (R_fn _ _ _ _ _).trans ?_
  refine fn_ok Try.func89 rfl rfl (by kernel_rfl) (by kernel_rfl) ?_
  obtain ⟨W, hW⟩ : ∃ W : Heap, W = ⟨H.t, H.next, H.next⟩ := ⟨_, rfl⟩
  have hg : ∀ n, W.get n = H.get n := fun n => by rw [hW]; rfl
  have hN : W.next = H.next := by rw [hW]
  have hE : ∀ G, Grow W G → Ext H G := fun G g => ⟨by rw [← hN]; exact g.next, fun n k => by rw [g.get n (by rw [hN]; exact k), hg]⟩
  have hG : Grow W W := Grow.refl (by rw [hW]; exact Nat.le_refl _)
  rw [← hW]
  refine Ok.seq ?_
  refine Ok.region ?_
  refine OkO.box rfl rfl ?_
  refine OkO.box rfl rfl ?_
  refine OkO.alloc (z := [.int .i64 0, .int .i64 0]) rfl (by kernel_rfl) ?_
  refine OkO.nil ?_
  refine Ok.seq ?_
  refine Ok.region ?_
  refine OkO.indexArr (len := 2) (sz := 1) (n := 0) rfl rfl rfl (by kernel_rfl) (by omega) ?_
  refine OkO.load rfl rfl (lda (n := 1) (by kernel_rfl) (by first | assumption | (simp (disch := first | omega | (simp only [hNw, hPt]; omega)) only [gn0, gn1, gn2, gn3, gn4, gn5, gp0, gno, gpo] <;> first | rfl | assumption | exact gp0 _ _ _ | exact gn0 _ _)) (by first | rfl | assumption)) ?_
  refine OkO.fieldAddr (o := 2) rfl (by kernel_rfl) rfl ?_
  refine OkO.load rfl rfl (lda (n := 1) (by kernel_rfl) (by first | assumption | (simp (disch := first | omega | (simp only [hNw, hPt]; omega)) only [gn0, gn1, gn2, gn3, gn4, gn5, gp0, gno, gpo] <;> first | rfl | assumption | exact gp0 _ _ _ | exact gn0 _ _)) (by first | rfl | assumption)) ?_
  refine OkO.bin rfl rfl rfl (bin_sub (by omega) (by omega)) ?_
  refine OkO.indexArr (len := 2) (sz := 1) (n := 1) rfl rfl rfl (by kernel_rfl) (by omega) ?_
  refine OkO.load rfl rfl (lda (n := 1) (by kernel_rfl) (by first | assumption | (simp (disch := first | omega | (simp only [hNw, hPt]; omega)) only [gn0, gn1, gn2, gn3, gn4, gn5, gp0, gno, gpo] <;> first | rfl | assumption | exact gp0 _ _ _ | exact gn0 _ _)) (by first | rfl | assumption)) ?_
  refine OkO.fieldAddr (o := 1) rfl (by kernel_rfl) rfl ?_
  refine OkO.load rfl rfl (lda (n := 1) (by kernel_rfl) (by first | assumption | (simp (disch := first | omega | (simp only [hNw, hPt]; omega)) only [gn0, gn1, gn2, gn3, gn4, gn5, gp0, gno, gpo] <;> first | rfl | assumption | exact gp0 _ _ _ | exact gn0 _ _)) (by first | rfl | assumption)) ?_
  refine OkO.bin rfl rfl rfl (bin_add (by omega) (by omega)) ?_
  refine OkO.buildArr (z := [.int .i64 0, .int .i64 0]) (sz := 1) rfl (by kernel_rfl) rfl rfl ?_
  refine OkO.store rfl rfl rfl (sAc (n := 2) (ag := true) (by kernel_rfl) (by first | assumption | (simp (disch := first | omega | (simp only [hNw, hPt]; omega)) only [gn0, gn1, gn2, gn3, gn4, gn5, gp0, gno, gpo] <;> first | rfl | assumption | exact gp0 _ _ _ | exact gn0 _ _)) rfl (by first | rfl | assumption) (by first | rfl | exact spl_set _ _ _ (by first | assumption | omega | (simp; omega)))) ?_
  refine OkO.nil ?_
  refine Ok.ret ⟨.inr rfl, ?_⟩
  exact back_flat (resV_cell rfl (ldg (n := 2) (by kernel_rfl) (by first | assumption | (simp (disch := first | omega | (simp only [hNw, hPt]; omega)) only [gn0, gn1, gn2, gn3, gn4, gn5, gp0, gno, gpo] <;> first | rfl | assumption)) (by first | rfl | assumption)) resV_nil) (rfl) rfl (by rw [← hW]; exact (by (try dsimp only); repeat (first | exact hG | apply Grow.new | (refine Grow.put ?_ _ (by first | omega | (simp only [hNw, hPt]; omega))))))
theorem c106 (m : Nat)  (H : Heap)  : RR (m + 1) (.fn 106 []) H = some (.agg (ivc nul), H) := by
  show evFn Try.prog (RR m) 106 [] H = _
  refine fn_ok Try.func106 rfl rfl (by kernel_rfl) (by kernel_rfl) ?_
  obtain ⟨W, hW⟩ : ∃ W : Heap, W = ⟨H.t, H.next, H.next⟩ := ⟨_, rfl⟩
  have hg : ∀ n, W.get n = H.get n := fun n => by rw [hW]; rfl
  have hN : W.next = H.next := by rw [hW]
  have hE : ∀ G, Grow W G → Ext H G := fun G g => ⟨by rw [← hN]; exact g.next, fun n k => by rw [g.get n (by rw [hN]; exact k), hg]⟩
  have hG : Grow W W := Grow.refl (by rw [hW]; exact Nat.le_refl _)
  rw [← hW]
  refine Ok.seq ?_
  refine Ok.region ?_
  refine OkO.alloc (z := [.int .i64 0, .int .i64 0]) rfl (by kernel_rfl) ?_
  refine OkO.nil ?_
  refine Ok.seq ?_
  refine Ok.region ?_
  refine OkO.buildArr (z := [.int .i64 0, .int .i64 0]) (sz := 1) rfl (by kernel_rfl) rfl rfl ?_
  refine OkO.store rfl rfl rfl (sAc (n := 2) (ag := true) (by kernel_rfl) (by first | assumption | (simp (disch := first | omega | (simp only [hNw, hPt]; omega)) only [gn0, gn1, gn2, gn3, gn4, gn5, gp0, gno, gpo] <;> first | rfl | assumption | exact gp0 _ _ _ | exact gn0 _ _)) rfl (by first | rfl | assumption) (by first | rfl | exact spl_set _ _ _ (by first | assumption | omega | (simp; omega)))) ?_
  refine OkO.nil ?_
  refine Ok.ret ⟨.inr rfl, ?_⟩
  exact back_flat (resV_cell rfl (ldg (n := 2) (by kernel_rfl) (by first | assumption | (simp (disch := first | omega | (simp only [hNw, hPt]; omega)) only [gn0, gn1, gn2, gn3, gn4, gn5, gp0, gno, gpo] <;> first | rfl | assumption)) (by first | rfl | assumption)) resV_nil) (rfl) rfl (by rw [← hW]; exact (by (try dsimp only); repeat (first | exact hG | apply Grow.new | (refine Grow.put ?_ _ (by first | omega | (simp only [hNw, hPt]; omega))))))
theorem c93 (m : Nat) (x y : Iv) (H : Heap)  : RR (m + 2) (.fn 93 [.agg (ivc x), .agg (ivc y)]) H = some (.agg (ivc (meetI x y)), H) := by
  refine (R_fn _ _ _ _ _).trans ?_
  refine fn_ok Try.func93 rfl rfl (by kernel_rfl) (by kernel_rfl) ?_
  obtain ⟨W, hW⟩ : ∃ W : Heap, W = ⟨H.t, H.next, H.next⟩ := ⟨_, rfl⟩
  have hg : ∀ n, W.get n = H.get n := fun n => by rw [hW]; rfl
  have hN : W.next = H.next := by rw [hW]
  have hE : ∀ G, Grow W G → Ext H G := fun G g => ⟨by rw [← hN]; exact g.next, fun n k => by rw [g.get n (by rw [hN]; exact k), hg]⟩
  have hG : Grow W W := Grow.refl (by rw [hW]; exact Nat.le_refl _)
  rw [← hW]
  refine Ok.seq ?_
  refine Ok.region ?_
  refine OkO.box rfl rfl ?_
  refine OkO.box rfl rfl ?_
  refine OkO.alloc (z := [.int .i64 0, .int .i64 0]) rfl (by kernel_rfl) ?_
  refine OkO.nil ?_
  refine Ok.seq ?_
  refine Ok.region ?_
  refine OkO.indexArr (len := 2) (sz := 1) (n := 0) rfl rfl rfl (by kernel_rfl) (by omega) ?_
  refine OkO.load rfl rfl (lda (n := 1) (by kernel_rfl) (by first | assumption | (simp (disch := first | omega | (simp only [hNw, hPt]; omega)) only [gn0, gn1, gn2, gn3, gn4, gn5, gp0, gno, gpo] <;> first | rfl | assumption | exact gp0 _ _ _ | exact gn0 _ _)) (by first | rfl | assumption)) ?_
  refine OkO.indexArr (len := 2) (sz := 1) (n := 0) rfl rfl rfl (by kernel_rfl) (by omega) ?_
  refine OkO.load rfl rfl (lda (n := 1) (by kernel_rfl) (by first | assumption | (simp (disch := first | omega | (simp only [hNw, hPt]; omega)) only [gn0, gn1, gn2, gn3, gn4, gn5, gp0, gno, gpo] <;> first | rfl | assumption | exact gp0 _ _ _ | exact gn0 _ _)) (by first | rfl | assumption)) ?_
  refine OkO.builtin rfl rfl rfl (builtin_max2 _ _) ?_
  refine OkO.indexArr (len := 2) (sz := 1) (n := 1) rfl rfl rfl (by kernel_rfl) (by omega) ?_
  refine OkO.load rfl rfl (lda (n := 1) (by kernel_rfl) (by first | assumption | (simp (disch := first | omega | (simp only [hNw, hPt]; omega)) only [gn0, gn1, gn2, gn3, gn4, gn5, gp0, gno, gpo] <;> first | rfl | assumption | exact gp0 _ _ _ | exact gn0 _ _)) (by first | rfl | assumption)) ?_
  refine OkO.indexArr (len := 2) (sz := 1) (n := 1) rfl rfl rfl (by kernel_rfl) (by omega) ?_
  refine OkO.load rfl rfl (lda (n := 1) (by kernel_rfl) (by first | assumption | (simp (disch := first | omega | (simp only [hNw, hPt]; omega)) only [gn0, gn1, gn2, gn3, gn4, gn5, gp0, gno, gpo] <;> first | rfl | assumption | exact gp0 _ _ _ | exact gn0 _ _)) (by first | rfl | assumption)) ?_
  refine OkO.builtin rfl rfl rfl (builtin_min2 _ _) ?_
  refine OkO.buildArr (z := [.int .i64 0, .int .i64 0]) (sz := 1) rfl (by kernel_rfl) rfl rfl ?_
  refine OkO.alloc (z := [.int .i64 0, .int .i64 0]) rfl (by kernel_rfl) ?_
  refine OkO.store rfl rfl rfl (sAc (n := 2) (ag := true) (by kernel_rfl) (by first | assumption | (simp (disch := first | omega | (simp only [hNw, hPt]; omega)) only [gn0, gn1, gn2, gn3, gn4, gn5, gp0, gno, gpo] <;> first | rfl | assumption | exact gp0 _ _ _ | exact gn0 _ _)) rfl (by first | rfl | assumption) (by first | rfl | exact spl_set _ _ _ (by first | assumption | omega | (simp; omega)))) ?_
  refine OkO.nil ?_
  refine Ok.seq ?_
  refine Ok.seq ?_
  refine Ok.region ?_
  refine OkO.indexArr (len := 2) (sz := 1) (n := 0) rfl rfl rfl (by kernel_rfl) (by omega) ?_
  refine OkO.load rfl rfl (lda (n := 1) (by kernel_rfl) (by first | assumption | (simp (disch := first | omega | (simp only [hNw, hPt]; omega)) only [gn0, gn1, gn2, gn3, gn4, gn5, gp0, gno, gpo] <;> first | rfl | assumption | exact gp0 _ _ _ | exact gn0 _ _)) (by first | rfl | assumption)) ?_
  refine OkO.indexArr (len := 2) (sz := 1) (n := 1) rfl rfl rfl (by kernel_rfl) (by omega) ?_
  refine OkO.load rfl rfl (lda (n := 1) (by kernel_rfl) (by first | assumption | (simp (disch := first | omega | (simp only [hNw, hPt]; omega)) only [gn0, gn1, gn2, gn3, gn4, gn5, gp0, gno, gpo] <;> first | rfl | assumption | exact gp0 _ _ _ | exact gn0 _ _)) (by first | rfl | assumption)) ?_
  refine OkO.bin rfl rfl rfl (bin_gtr _ _) ?_
  refine OkO.nil ?_
  refine Ok.cond rfl (fun h1 => ?_) (fun h1 => ?_)
  · -- yes h1
    have hm : min x.2 y.2 < max x.1 y.1 := by simpa using h1
    refine Ok.seq ?_
    refine Ok.region ?_
    refine OkO.callV rfl rfl rfl rfl rfl (c106 m _) ?_ -- "sackung/alarm.nothing"
    refine OkO.store rfl rfl rfl (sAc (n := 2) (ag := true) (by kernel_rfl) (by first | assumption | (simp (disch := first | omega | (simp only [hNw, hPt]; omega)) only [gn0, gn1, gn2, gn3, gn4, gn5, gp0, gno, gpo] <;> first | rfl | assumption | exact gp0 _ _ _ | exact gn0 _ _)) rfl (by first | rfl | assumption) (by first | rfl | exact spl_set _ _ _ (by first | assumption | omega | (simp; omega)))) ?_
    refine OkO.nil ?_
    refine Ok.ret ⟨.inr rfl, ?_⟩
    exact back_flat (resV_cell rfl (ldg (n := 2) (by kernel_rfl) (by first | assumption | (simp (disch := first | omega | (simp only [hNw, hPt]; omega)) only [gn0, gn1, gn2, gn3, gn4, gn5, gp0, gno, gpo] <;> first | rfl | assumption)) (by first | rfl | assumption)) resV_nil) (by rw [meetI, if_pos hm]; rfl) rfl (by rw [← hW]; exact (by (try dsimp only); repeat (first | exact hG | apply Grow.new | (refine Grow.put ?_ _ (by first | omega | (simp only [hNw, hPt]; omega))))))
  · -- no h1
    have hm : ¬ min x.2 y.2 < max x.1 y.1 := by simpa using h1
    refine Ok.skip ?_
    refine Ok.seq ?_
    refine Ok.region ?_
    refine OkO.load rfl rfl (ldg (n := 2) (by kernel_rfl) (by first | assumption | (simp (disch := first | omega | (simp only [hNw, hPt]; omega)) only [gn0, gn1, gn2, gn3, gn4, gn5, gp0, gno, gpo] <;> first | rfl | assumption | exact gp0 _ _ _ | exact gn0 _ _)) (by first | rfl | assumption)) ?_
    refine OkO.store rfl rfl rfl (sAc (n := 2) (ag := true) (by kernel_rfl) (by first | assumption | (simp (disch := first | omega | (simp only [hNw, hPt]; omega)) only [gn0, gn1, gn2, gn3, gn4, gn5, gp0, gno, gpo] <;> first | rfl | assumption | exact gp0 _ _ _ | exact gn0 _ _)) rfl (by first | rfl | assumption) (by first | rfl | exact spl_set _ _ _ (by first | assumption | omega | (simp; omega)))) ?_
    refine OkO.nil ?_
    refine Ok.ret ⟨.inr rfl, ?_⟩
    exact back_flat (resV_cell rfl (ldg (n := 2) (by kernel_rfl) (by first | assumption | (simp (disch := first | omega | (simp only [hNw, hPt]; omega)) only [gn0, gn1, gn2, gn3, gn4, gn5, gp0, gno, gpo] <;> first | rfl | assumption)) (by first | rfl | assumption)) resV_nil) (by rw [meetI, if_neg hm]; rfl) rfl (by rw [← hW]; exact (by (try dsimp only); repeat (first | exact hG | apply Grow.new | (refine Grow.put ?_ _ (by first | omega | (simp only [hNw, hPt]; omega))))))
theorem c105 (m : Nat) (ev : AV) (p : Pst) (rv : AV) (row : List Int) (g : Nat) (H : Heap) (hV : Ints H ev p.errs) (hR : Ints H rv row) (hg1 : g < p.errs.length) (hg2 : g < row.length) (hb1 : ∀ x ∈ p.errs, 0 ≤ x ∧ x ≤ 1000) (hb2 : ∀ x ∈ row, -1000 ≤ x ∧ x ≤ 2000) : RR (m + 1) (.fn 105 [.agg (p.c ev), I (g : Int), rv]) H = some (.agg (ivc (gI p row g)), H) := by
  refine (R_fn _ _ _ _ _).trans ?_
  refine fn_ok Try.func105 rfl rfl (by kernel_rfl) (by kernel_rfl) ?_
  obtain ⟨W, hW⟩ : ∃ W : Heap, W = ⟨H.t, H.next, H.next⟩ := ⟨_, rfl⟩
  have hg : ∀ n, W.get n = H.get n := fun n => by rw [hW]; rfl
  have hN : W.next = H.next := by rw [hW]
  have hE : ∀ G, Grow W G → Ext H G := fun G g => ⟨by rw [← hN]; exact g.next, fun n k => by rw [g.get n (by rw [hN]; exact k), hg]⟩
  have hG : Grow W W := Grow.refl (by rw [hW]; exact Nat.le_refl _)
  rw [← hW]
  have pev : ev.plain = true := lpl hV.len
  obtain ⟨eb, eo, ecs, e1, e2, e3, e4⟩ := (hV.ext (hE _ hG)).at' g hg1
  obtain ⟨rb, ro, rcs, r1, r2, r3, r4⟩ := (hR.ext (hE _ hG)).at' g hg2
  have b1 := hb1 _ (List.getElem_mem hg1)
  have b2 := hb2 _ (List.getElem_mem hg2)
  refine Ok.seq ?_
  refine Ok.region ?_
  refine OkO.box rfl rfl ?_
  refine OkO.alloc (z := [.int .i64 0, .int .i64 0]) rfl (by kernel_rfl) ?_
  refine OkO.nil ?_
  refine Ok.seq ?_
  refine Ok.drawn [(0, true, []), (1, true, []), (2, true, []), (3, true, []), (4, true, []), (5, true, []), (6, true, []), (7, true, []), (8, true, []), (9, true, []), (10, true, []), (11, true, []), (12, true, []), (13, true, []), (14, true, []), (15, true, []), (16, true, []), (17, true, []), (18, true, []), (19, true, []), (20, true, []), (21, false, [])] (by kernel_rfl) ?_
  refine OkP.step ?_
  refine OkO.move rfl rfl ?_
  refine OkO.nil ⟨rfl, ?_⟩
  refine OkP.step ?_
  refine OkO.move rfl rfl ?_
  refine OkO.nil ⟨rfl, ?_⟩
  refine OkP.step ?_
  refine OkO.index (sz := 1) (n := g) rfl rfl rfl (by kernel_rfl) (by first | assumption | rfl | exact slAt_slice (by omega) | exact slAt_opn (by omega)) ?_ -- index ('Go.Operand.tmp', 7) ('Go.Operand.tmp', 8)
  refine OkO.nil ⟨rfl, ?_⟩
  refine OkP.step ?_
  refine OkO.load rfl rfl (lda (n := 1) (by kernel_rfl) (by first | assumption | (simp (disch := first | omega | (simp only [hNw, hPt]; omega)) only [gn0, gn1, gn2, gn3, gn4, gn5, gp0, gno, gpo] <;> first | rfl | assumption | exact gp0 _ _ _ | exact gn0 _ _)) (by first | rfl | assumption)) ?_
  refine OkO.nil ⟨rfl, ?_⟩
  refine OkP.step ?_
  refine OkO.fieldAddr (o := 0) rfl (by kernel_rfl) rfl ?_
  refine OkO.nil ⟨rfl, ?_⟩
  refine OkP.step ?_
  refine OkO.load rfl rfl (lda (n := 1) (by kernel_rfl) (by first | assumption | (simp (disch := first | omega | (simp only [hNw, hPt]; omega)) only [gn0, gn1, gn2, gn3, gn4, gn5, gp0, gno, gpo] <;> first | rfl | assumption | exact gp0 _ _ _ | exact gn0 _ _)) (by first | rfl | assumption)) ?_
  refine OkO.nil ⟨rfl, ?_⟩
  refine OkP.step ?_
  refine OkO.move rfl rfl ?_
  refine OkO.nil ⟨rfl, ?_⟩
  refine OkP.step ?_
  refine OkO.index (sz := 1) (n := g) rfl rfl rfl (by kernel_rfl) (by first | assumption | rfl | exact slAt_slice (by omega) | exact slAt_opn (by omega)) ?_ -- index ('Go.Operand.tmp', 12) ('Go.Operand.tmp', 13)
  refine OkO.nil ⟨rfl, ?_⟩
  refine OkP.step ?_
  refine OkO.load rfl rfl (lda (n := 1) (by kernel_rfl) (by first | assumption | (simp (disch := first | omega | (simp only [hNw, hPt]; omega)) only [gn0, gn1, gn2, gn3, gn4, gn5, gp0, gno, gpo] <;> first | rfl | assumption | exact gp0 _ _ _ | exact gn0 _ _)) (by first | rfl | assumption)) ?_
  refine OkO.nil ⟨rfl, ?_⟩
  refine OkP.step ?_
  refine OkO.bin rfl rfl rfl (bin_sub (by omega) (by omega)) ?_
  refine OkO.nil ⟨rfl, ?_⟩
  refine OkP.step ?_
  refine OkO.move rfl rfl ?_
  refine OkO.nil ⟨rfl, ?_⟩
  refine OkP.step ?_
  refine OkO.move rfl rfl ?_
  refine OkO.nil ⟨rfl, ?_⟩
  refine OkP.step ?_
  refine OkO.index (sz := 1) (n := g) rfl rfl rfl (by kernel_rfl) (by first | assumption | rfl | exact slAt_slice (by omega) | exact slAt_opn (by omega)) ?_ -- index ('Go.Operand.tmp', 17) ('Go.Operand.tmp', 18)
  refine OkO.nil ⟨rfl, ?_⟩
  refine OkP.step ?_
  refine OkO.load rfl rfl (lda (n := 1) (by kernel_rfl) (by first | assumption | (simp (disch := first | omega | (simp only [hNw, hPt]; omega)) only [gn0, gn1, gn2, gn3, gn4, gn5, gp0, gno, gpo] <;> first | rfl | assumption | exact gp0 _ _ _ | exact gn0 _ _)) (by first | rfl | assumption)) ?_
  refine OkO.nil ⟨rfl, ?_⟩
  refine OkP.step ?_
  refine OkO.fieldAddr (o := 0) rfl (by kernel_rfl) rfl ?_
  refine OkO.nil ⟨rfl, ?_⟩
  refine OkP.step ?_
  refine OkO.load rfl rfl (lda (n := 1) (by kernel_rfl) (by first | assumption | (simp (disch := first | omega | (simp only [hNw, hPt]; omega)) only [gn0, gn1, gn2, gn3, gn4, gn5, gp0, gno, gpo] <;> first | rfl | assumption | exact gp0 _ _ _ | exact gn0 _ _)) (by first | rfl | assumption)) ?_
  refine OkO.nil ⟨rfl, ?_⟩
  refine OkP.step ?_
  refine OkO.move rfl rfl ?_
  refine OkO.nil ⟨rfl, ?_⟩
  refine OkP.step ?_
  refine OkO.index (sz := 1) (n := g) rfl rfl rfl (by kernel_rfl) (by first | assumption | rfl | exact slAt_slice (by omega) | exact slAt_opn (by omega)) ?_ -- index ('Go.Operand.tmp', 22) ('Go.Operand.tmp', 23)
  refine OkO.nil ⟨rfl, ?_⟩
  refine OkP.step ?_
  refine OkO.load rfl rfl (lda (n := 1) (by kernel_rfl) (by first | assumption | (simp (disch := first | omega | (simp only [hNw, hPt]; omega)) only [gn0, gn1, gn2, gn3, gn4, gn5, gp0, gno, gpo] <;> first | rfl | assumption | exact gp0 _ _ _ | exact gn0 _ _)) (by first | rfl | assumption)) ?_
  refine OkO.nil ⟨rfl, ?_⟩
  refine OkP.step ?_
  refine OkO.bin rfl rfl rfl (bin_add (by omega) (by omega)) ?_
  refine OkO.nil ⟨rfl, ?_⟩
  refine OkP.step ?_
  refine OkO.buildArr (z := [.int .i64 0, .int .i64 0]) (sz := 1) rfl (by kernel_rfl) rfl rfl ?_
  refine OkO.nil ⟨rfl, ?_⟩
  refine OkP.step ?_
  refine OkO.store rfl rfl rfl (sAc (n := 2) (ag := true) (by kernel_rfl) (by first | assumption | (simp (disch := first | omega | (simp only [hNw, hPt]; omega)) only [gn0, gn1, gn2, gn3, gn4, gn5, gp0, gno, gpo] <;> first | rfl | assumption | exact gp0 _ _ _ | exact gn0 _ _)) rfl (by first | rfl | assumption) (by first | rfl | exact spl_set _ _ _ (by first | assumption | omega | (simp; omega)))) ?_
  refine OkO.nil ⟨rfl, ?_⟩
  refine OkP.nil ?_
  refine Ok.ret ⟨.inr rfl, ?_⟩
  exact back_flat (resV_cell rfl (ldg (n := 2) (by kernel_rfl) (by first | assumption | (simp (disch := first | omega | (simp only [hNw, hPt]; omega)) only [gn0, gn1, gn2, gn3, gn4, gn5, gp0, gno, gpo] <;> first | rfl | assumption)) (by first | rfl | assumption)) resV_nil) (by unfold gI; rw [show p.errs.getD g 0 = p.errs[g] from (by simp [List.getD_eq_getElem?_getD, hg1]), show row.getD g 0 = row[g] from (by simp [List.getD_eq_getElem?_getD, hg2])]; rfl) rfl (by rw [← hW]; exact (by (try dsimp only); repeat (first | exact hG | apply Grow.new | (refine Grow.put ?_ _ (by first | omega | (simp only [hNw, hPt]; omega))))))
end
end Go.Ev

set_option maxRecDepth 100000
set_option linter.unusedSimpArgs false
set_option linter.unusedVariables false
namespace Go.Ev
open Go Go.Proofs
noncomputable section
/-- A list of lists of numbers, as it lies. -/
def LstAt (H : Heap) (v : AV) (rows : List (List Int)) : Prop := ∃ vs : List AV, vs.length = rows.length ∧ Row H v 1 (vs.map fun x => [x]) ∧ ∀ (i : Nat) (x : AV) (r : List Int), vs[i]? = some x → rows[i]? = some r → Ints H x r
theorem LstAt.ext {H G : Heap} {v : AV} {rows : List (List Int)} (h : LstAt H v rows) (g : Ext H G) : LstAt G v rows := let ⟨vs, h1, h2, h3⟩ := h; ⟨vs, h1, h2.ext g, fun i x r a c => (h3 i x r a c).ext g⟩
theorem LstAt.len {H : Heap} {v : AV} {rows : List (List Int)} (h : LstAt H v rows) : lenOf v = some rows.length := by
  obtain ⟨vs, h1, h2, _⟩ := h
  rw [h2.len]; simp [h1]
theorem LstAt.at_ {H : Heap} {v : AV} {rows : List (List Int)} (h : LstAt H v rows) (i : Nat) (hi : i < rows.length) : ∃ x b off cs, slAt v 1 i = some (b, off) ∧ (H.get b).bind AObj.cs = some cs ∧ cs[off]? = some x ∧ b < H.next ∧ Ints H x rows[i] := by
  obtain ⟨vs, h1, h2, h3⟩ := h
  have hv : i < vs.length := by omega
  obtain ⟨b, off, cs, i1, i2, i3, i4⟩ := h2.at_ i [vs[i]] (by simp [hv])
  exact ⟨vs[i], b, off, cs, i1, i2, seg_one i3, i4, h3 i _ _ (List.getElem?_eq_getElem hv) (List.getElem?_eq_getElem hi)⟩
def natL (l : List Nat) : List AV := l.map fun (g : Nat) => I (g : Int)
theorem natL_flat : ∀ l : List Nat, (l.map fun g => [I ((g : Nat) : Int)]).flatten = natL l
  | [] => rfl
  | a :: l => by rw [List.map_cons, List.flatten_cons, natL_flat l]; rfl
theorem Mine.nats {k0 : Nat} {G : Heap} {v : AV} {l : List Nat} (h : Mine k0 G v 3 1 (natL l)) : Row G v 1 (l.map fun g => [I ((g : Nat) : Int)]) := Mine.row (by rw [natL_flat]; exact h) (fun x hx => by obtain ⟨y, _, rfl⟩ := List.mem_map.1 hx; rfl) (by omega)
theorem workL_len (n : Nat) (f : Int) : (workL n f).length ≤ n := by
  unfold workL
  have := List.length_filter_le (fun g => decide (((g : Nat) : Int) ≠ f)) (List.range n)
  rw [List.length_range] at this
  exact this
theorem workL_yes {n : Nat} {f : Int} (h : (n : Int) ≠ f) : workL (n + 1) f = workL n f ++ [n] := by
  unfold workL
  rw [List.range_succ, List.filter_append]
  simp [h]
theorem workL_no {n : Nat} {f : Int} (h : (n : Int) = f) : workL (n + 1) f = workL n f := by
  unfold workL
  rw [List.range_succ, List.filter_append]
  simp [h]
theorem workL_lt {n : Nat} {f : Int} {g : Nat} (h : g ∈ workL n f) : g < n := List.mem_range.1 (List.mem_filter.1 h).1
theorem c90 (m : Nat) (ev : AV) (p : Pst) (f : Int) (H : Heap) (hV : lenOf ev = some p.errs.length) (hl : p.errs.length ≤ 1000) : ∃ v H', RR (m + 1) (.fn 90 [.agg (p.c ev), I f]) H = some (v, H') ∧ Ret H H' ∧ Mine H.next H' v 3 1 (natL (workL p.errs.length f)) := by
  show ∃ v H', evFn Try.prog (RR (m + 0)) 90 [.agg (p.c ev), I f] H = some (v, H') ∧ Ret H H' ∧ Mine H.next H' v 3 1 (natL (workL p.errs.length f))
  refine fn_okE Try.func90 rfl rfl (by kernel_rfl) (by kernel_rfl) ?_
  obtain ⟨W, hW⟩ : ∃ W : Heap, W = ⟨H.t, H.next, H.next⟩ := ⟨_, rfl⟩
  have hg : ∀ n, W.get n = H.get n := fun n => by rw [hW]; rfl
  have hN : W.next = H.next := by rw [hW]
  have hE : ∀ G, Grow W G → Ext H G := fun G g => ⟨by rw [← hN]; exact g.next, fun n k => by rw [g.get n (by rw [hN]; exact k), hg]⟩
  have hG : Grow W W := Grow.refl (by rw [hW]; exact Nat.le_refl _)
  rw [← hW]
  have pev : ev.plain = true := lpl hV
  refine Ok.seq ?_
  refine Ok.region ?_
  refine OkO.box rfl rfl ?_
  refine OkO.assign rfl rfl ?_
  refine OkO.nil ?_
  refine Ok.seq ?_
  refine Ok.region ?_
  refine OkO.assign rfl rfl ?_
  refine OkO.nil ?_
  refine Ok.seq ?_
  refine Ok.seq ?_
  refine Ok.region ?_
  refine OkO.fieldAddr (o := 0) rfl (by kernel_rfl) rfl ?_
  refine OkO.load rfl rfl (lda (n := 1) (by kernel_rfl) (by first | assumption | (simp (disch := first | omega | (simp only [hNw, hPt]; omega)) only [gn0, gn1, gn2, gn3, gn4, gn5, gp0, gno, gpo] <;> first | rfl | assumption | exact gp0 _ _ _ | exact gn0 _ _)) (by first | rfl | assumption)) ?_
  refine OkO.builtin rfl rfl rfl (bln (by kernel_rfl) (by first | assumption | rfl)) ?_
  refine OkO.move rfl rfl ?_
  refine OkO.nil ?_
  refine Ok.block ?_
  refine Ok.loop (fun n s => ∃ (i : Nat) (ov : AV), n = p.errs.length - i ∧ i ≤ p.errs.length ∧ Mine (W.next + 1) s.H ov 3 1 (natL (workL i f)) ∧ Has 5 [(1, I f), (2, .ptr W.next 0), (5, ov), (9, I (p.errs.length : Int)), (10, I (i : Int))] s.T ∧ s.D = [] ∧ Grow W s.H ∧ W.next + 1 ≤ s.H.next) (p.errs.length) (by unfold loopFuel; omega)
    ⟨0, .nils, rfl, Nat.zero_le _, Mine.nil _ _ _ _, Has.of (by kernel_rfl), rfl, (by (try dsimp only); repeat (first | exact hG | apply Grow.new | (refine Grow.put ?_ _ (by first | omega | (simp only [hNw, hPt]; omega))))), by simp⟩ ?_
  rintro n ⟨T, D, G⟩ ⟨i, ov, hn, hi, hm, ⟨f_, hT⟩, hD, hg, hn1⟩
  dsimp only at *
  subst hT hD
  have hgn := hg.next
  refine Ok.seq ?_
  refine Ok.region ?_
  refine OkO.bin rfl rfl rfl (bin_lss _ _) ?_
  refine OkO.nil ?_
  refine Ok.seq ?_
  refine Ok.cond rfl (fun h1 => ?_) (fun h1 => ?_)
  · -- yes h1
    have hlt : i < p.errs.length := by simpa using h1
    refine Ok.skip ?_
    refine Ok.seq ?_
    refine Ok.block ?_
    refine Ok.seq ?_
    refine Ok.region ?_
    refine OkO.move rfl rfl ?_
    refine OkO.assign rfl rfl ?_
    refine OkO.nil ?_
    refine Ok.seq ?_
    refine Ok.region ?_
    refine OkO.move rfl rfl ?_
    refine OkO.move rfl rfl ?_
    refine OkO.bin rfl rfl rfl (bin_neq _ _) ?_
    refine OkO.nil ?_
    refine Ok.cond rfl (fun h2 => ?_) (fun h2 => ?_)
    · -- yes h2
      have hne : (i : Int) ≠ f := by simpa using h2
      refine Ok.region ?_
      refine OkO.move rfl rfl ?_
      refine OkO.move rfl rfl ?_
      refine OkO.buildSlice (el := 3) (sz := 1) (z := [.int .i64 0]) rfl (by kernel_rfl) (by decide) rfl rfl ?_
      refine OkO.builtinE rfl rfl rfl (Mine.app2 (W := W) (k0 := W.next + 1) (t := 22) (u := 22) (sz := 1) (by_ := 8) (e := 3) (n := 1) (new := [I (i : Int)]) (hm.to (by (try dsimp only); repeat (first | exact Ext.refl _ | assumption | apply Ext.new | (refine Ext.put ?_ _ (by first | omega | (simp only [hNw, hPt]; omega)))))) (by (try dsimp only); repeat (first | exact hg | exact hG | apply Grow.new | (refine Grow.put ?_ _ (by first | omega | (simp only [hNw, hPt]; omega))))) (by omega) (by simp; omega) (by kernel_rfl) (by kernel_rfl) (elems_new (n := 1) (sz := 1) rfl) rfl rfl (by have h9 := workL_len i f; simp [natL]; omega) (by omega) (by omega) rfl) ?_
      rintro v2 G2 ⟨r1, r2, r3, r4, r5, _⟩
      refine OkO.assign rfl rfl ?_
      refine OkO.nil ?_
      refine Ok.region ?_
      refine OkO.bin rfl rfl rfl (bin_add (by omega) (by omega)) ?_
      refine OkO.move rfl rfl ?_
      refine OkO.nil ?_
      refine ⟨p.errs.length - (i + 1), by omega, i + 1, _, rfl, by omega, by rw [workL_yes hne]; simpa [natL] using r1, Has.of (by kernel_rfl), rfl, r2, by (show W.next + 1 ≤ G2.next; simp only [hNw] at r5; omega)⟩
    · -- no h2
      have heq : (i : Int) = f := by simpa using h2
      refine Ok.skip ?_
      refine Ok.region ?_
      refine OkO.bin rfl rfl rfl (bin_add (by omega) (by omega)) ?_
      refine OkO.move rfl rfl ?_
      refine OkO.nil ?_
      refine ⟨p.errs.length - (i + 1), by omega, i + 1, ov, rfl, by omega, by rw [workL_no heq]; exact hm, Has.of (by kernel_rfl), rfl, hg, hn1⟩
  · -- no h1
    have hge : i = p.errs.length := by simp at h1; omega
    subst hge
    refine Ok.exit ?_
    refine Ok.seq ?_
    refine Ok.region ?_
    refine OkO.move rfl rfl ?_
    refine OkO.assign rfl rfl ?_
    refine OkO.nil ?_
    refine Ok.ret ⟨.inr rfl, ?_⟩
    refine back_newA (resV_tmp rfl resV_nil) rfl (by rw [← hW]; exact hg) (fun H9 p1 p2 => ⟨p1, (hm.low (by omega)).backT p2 id⟩)
end
end Go.Ev

set_option maxRecDepth 100000
set_option linter.unusedSimpArgs false
set_option linter.unusedVariables false
namespace Go.Ev
open Go Go.Proofs
noncomputable section
section
open Go.ChangeShapes Go.WideShapes Go.RowKit
variable {H0 : Type} {enc : TypeId × Value → H0} {w : World} {base n : Nat} {sp : Nat → Bool} {hd : Bool}
/-- A slice that came in stands as it does. -/
theorem sl_shape {H : Heap} {t e sz : Nat} (ht : Try.prog.underlying t = some (.slice e)) {l : List (List AV)} {a : Option Addr} {len cap fuel : Nat} {y} (hR : Row H (toAV w.heap.size (.slice a len cap)) sz l) (h : DataW.trod enc Try.prog w base sp hd fuel t [.slice a len cap] = some y) :
    (∃ b off len' cap', toAV w.heap.size (.slice a len cap) = .slice b off len' cap' ∧ len' ≤ cap') ∨ toAV w.heap.size (.slice a len cap) = .nils ∨ ∃ a' c, toAV w.heap.size (.slice a len cap) = .raw (.slice a' 0 c) := by
  have hl := hR.len
  rcases DataW.trod_slice ht h with ⟨hv, _⟩ | ⟨a', len', cap', elems, rest, n, _, hv, _, hb, hlc, hm, hlen, hel, _, _⟩
  · have hv' : ([Value.slice a len cap] : List Value) = [.slice none 0 0] := hv
    have e9 : Value.slice a len cap = .slice none 0 0 := by simpa using hv'
    rw [e9]
    exact .inr (.inl rfl)
  · have hv' : ([Value.slice a len cap] : List Value) = [.slice (some a') len' cap'] := hv
    have e9 : Value.slice a len cap = .slice (some a') len' cap' := by simpa using hv'
    rw [e9] at hl hR ⊢
    obtain ⟨b, off, spot⟩ := a'
    cases spot with
    | none =>
      by_cases hbn : b < w.heap.size
      · exact .inl ⟨b, off, len', cap', by simp only [toAV]; rw [if_pos hbn], hlc⟩
      · have e8 : toAV w.heap.size (.slice (some ⟨b, off, none⟩) len' cap') = .raw (.slice (some ⟨b, off, none⟩) len' cap') := by simp only [toAV]; rw [if_neg hbn]
        refine .inr (.inr ?_)
        cases len' with
        | zero => exact ⟨_, _, e8⟩
        | succ j =>
          exfalso
          have hl2 : 0 < l.length := by
            rw [e8] at hl
            simp [lenOf] at hl
            omega
          obtain ⟨b', off', cs', g1, _⟩ := hR.at_ 0 l[0] (by simp [hl2])
          rw [e8] at g1
          cases g1
    | some z =>
      refine .inr (.inr ?_)
      have e8 : toAV w.heap.size (.slice (some ⟨b, off, some z⟩) len' cap') = .raw (.slice (some ⟨b, off, some z⟩) len' cap') := rfl
      cases len' with
      | zero => exact ⟨_, _, e8⟩
      | succ j =>
        exfalso
        have hl2 : 0 < l.length := by
          rw [e8] at hl
          simp [lenOf] at hl
          omega
        obtain ⟨b', off', cs', g1, _⟩ := hR.at_ 0 l[0] (by simp [hl2])
        rw [e8] at g1
        cases g1
theorem open25 {H : Heap} (hs : Snap w H) {v : Value} {y} (h : DataW.trod enc Try.prog w base sp hd n 25 [v] = some y) : ∃ rows : List (List Int), LstAt H (toAV w.heap.size v) rows ∧ rows.length ≤ maxLen ∧ ∀ r ∈ rows, r.length ≤ maxLen := by
  obtain ⟨cs, l, hl, hm, hR, hr⟩ := slice_open hs Try.underlying25 cells22 (by decide) (R := fun c (r : AV × List Int) => toAVs w.heap.size c = [r.1] ∧ Ints H r.1 r.2 ∧ r.2.length ≤ maxLen) (fun c m y hc1 hc => by
    match c, hc1 with
    | [c0], _ =>
      obtain ⟨us, hU, hm⟩ := open22 hs (v := c0) hc
      exact ⟨(_, us), rfl, hU, hm⟩) h
  refine ⟨l.map (·.2), ⟨l.map (·.1), by simp, ?_, fun i x s h1 h2 => ?_⟩, by simpa using hm, fun s hs => ?_⟩
  · have e1 : cs.map (toAVs w.heap.size) = (l.map (·.1)).map fun p => [p] := map_of_get (by simp [hl]) fun i x z h1 h2 => by
      rw [List.map_map, List.getElem?_map, Option.map_eq_some_iff] at h2
      obtain ⟨b, h3, rfl⟩ := h2
      exact (hr i x b h1 h3).1
    rw [← e1]
    exact hR
  · rw [List.getElem?_map, Option.map_eq_some_iff] at h1 h2
    obtain ⟨p, h3, rfl⟩ := h1
    obtain ⟨q, h4, rfl⟩ := h2
    rw [h3] at h4
    cases h4
    have hi : i < l.length := (List.getElem?_eq_some_iff.1 h3).1
    exact (hr i (cs[i]'(by omega)) p (List.getElem?_eq_getElem (by omega)) h3).2.1
  · obtain ⟨p, hp, rfl⟩ := List.mem_map.1 hs
    obtain ⟨i, hi, rfl⟩ := List.mem_iff_getElem.1 hp
    exact (hr i (cs[i]'(by omega)) l[i] (List.getElem?_eq_getElem (by omega)) (List.getElem?_eq_getElem hi)).2.2
theorem arg25 {H : Heap} (hs : Snap w H) {v : Value} {d : DataW H0} {p : List MemPlace} (hv : ∃ a len cap, v = .slice a len cap) (h : DataW.Trod enc Try.prog w base sp hd 25 v d p) :
    ∃ (wv : AV) (rows : List (List Int)), argAV w.heap.size v = wv ∧ LstAt H wv rows ∧ ((∃ b off len cap, wv = .slice b off len cap ∧ len ≤ cap) ∨ wv = .nils ∨ ∃ a c, wv = .raw (.slice a 0 c)) := by
  obtain ⟨a, len, cap, rfl⟩ := hv
  obtain ⟨fuel, h⟩ := h
  obtain ⟨ws, hR, hb⟩ := open25 hs (v := .slice a len cap) h
  have hR2 := hR
  obtain ⟨vs, _, hr, _⟩ := hR2
  exact ⟨_, ws, rfl, hR, sl_shape Try.underlying25 hr h⟩
theorem arg24 {H : Heap} (hs : Snap w H) {v : Value} {d : DataW H0} {p : List MemPlace} (hv : ∃ cs, v = .agg cs ∧ cs.size = Try.prog.cellsOf 24) (h : DataW.Trod enc Try.prog w base sp hd 24 v d p) :
    ∃ (ev : AV) (p : Pst), argAV w.heap.size v = .agg (p.c ev) ∧ Ints H ev p.errs := by
  obtain ⟨cs, rfl, hsz⟩ := hv
  obtain ⟨fuel, h⟩ := h
  obtain ⟨xs, k, _, _, hl, hx, hf⟩ := DataW.trod_struct Try.underlying24 h
  rw [cells24] at hsz
  obtain ⟨cl⟩ := cs
  match cl, hsz with
  | [c0, c1, c2, c3, c4, c5], _ =>
    have h0 : DataW.trod enc Try.prog w base sp hd k 22 (([c0, c1, c2, c3, c4, c5].drop 0).take (Try.prog.cellsOf 22)) = xs[0]? := hf 0 _ rfl
    rw [cells22] at h0
    have h1 : DataW.trod enc Try.prog w base sp hd k 3 (([c0, c1, c2, c3, c4, c5].drop 1).take (Try.prog.cellsOf 3)) = xs[1]? := hf 1 _ rfl
    rw [cells3] at h1
    have h2 : DataW.trod enc Try.prog w base sp hd k 3 (([c0, c1, c2, c3, c4, c5].drop 2).take (Try.prog.cellsOf 3)) = xs[2]? := hf 2 _ rfl
    rw [cells3] at h2
    have h3 : DataW.trod enc Try.prog w base sp hd k 3 (([c0, c1, c2, c3, c4, c5].drop 3).take (Try.prog.cellsOf 3)) = xs[3]? := hf 3 _ rfl
    rw [cells3] at h3
    have h4 : DataW.trod enc Try.prog w base sp hd k 3 (([c0, c1, c2, c3, c4, c5].drop 4).take (Try.prog.cellsOf 3)) = xs[4]? := hf 4 _ rfl
    rw [cells3] at h4
    have h5 : DataW.trod enc Try.prog w base sp hd k 3 (([c0, c1, c2, c3, c4, c5].drop 5).take (Try.prog.cellsOf 3)) = xs[5]? := hf 5 _ rfl
    rw [cells3] at h5
    match xs, hx with
    | [x0, x1, x2, x3, x4, x5], _ =>
      obtain ⟨us, hU, _⟩ := open22 hs (v := c0) h0
      obtain ⟨a1, e1⟩ := open3 h1
      obtain ⟨a2, e2⟩ := open3 h2
      obtain ⟨a3, e3⟩ := open3 h3
      obtain ⟨a4, e4⟩ := open3 h4
      obtain ⟨a5, e5⟩ := open3 h5
      simp at e1 e2 e3 e4 e5
      refine ⟨_, ⟨us, a1, a2, a3, a4, a5⟩, ?_, hU⟩
      rw [e1, e2, e3, e4, e5]
      rfl
end
end
end Go.Ev

set_option linter.unusedVariables false
namespace Go.Ev
open Go Go.Proofs Go.ChangeShapes Go.WideShapes Go.RowKit
variable {H : Type} {enc : TypeId × Value → H} {P : Program} {w : World} {base : Nat} {spare : Nat → Bool} {held : Bool}
end Go.Ev

set_option maxRecDepth 100000
set_option linter.unusedSimpArgs false
set_option linter.unusedVariables false
namespace Go.Ev
open Go Go.Proofs
noncomputable section
def Bd (x : Iv) : Prop := (0 ≤ x.1 ∧ x.1 ≤ 1000) ∧ 0 ≤ x.2 ∧ x.2 ≤ 1000
theorem nul_bd : Bd nul := by unfold Bd nul; simp
theorem meet_bd {x : Iv} (h : Bd x) (y : Iv) : Bd (meetI x y) := by
  unfold meetI
  split
  · exact nul_bd
  · unfold Bd at h ⊢; simp; omega
theorem gauges_bd {p : Pst} {row : List Int} : ∀ {l : List Nat} {x : Iv}, Bd x → Bd (gaugesI p row l x)
  | [], _, h => h
  | a :: l, _, h => gauges_bd (l := l) (meet_bd h (gI p row a))
theorem step_bd (p : Pst) (f : Int) (x : Iv) (row : List Int) : Bd (stepI p f x row) := gauges_bd (meet_bd (by unfold Bd; simp) _)
theorem gauges_take {p : Pst} {row : List Int} {l : List Nat} {x : Iv} {j : Nat} (h : j < l.length) : gaugesI p row (l.take (j + 1)) x = meetI (gaugesI p row (l.take j) x) (gI p row l[j]) := by
  unfold gaugesI
  rw [List.take_succ_eq_append_getElem h, List.foldl_append]; rfl
def ivCells (l : List Iv) : List AV := (l.map ivc).flatten
theorem ivCells_len (l : List Iv) : (ivCells l).length = l.length * 2 := by
  unfold ivCells
  rw [flatten_len _ 2 (fun x hx => by obtain ⟨y, _, rfl⟩ := List.mem_map.1 hx; rfl), List.length_map]
theorem ivCells_snoc (l : List Iv) (x : Iv) : ivCells (l ++ [x]) = ivCells l ++ ivc x := by simp [ivCells]
theorem Mine.ivs {k0 : Nat} {G : Heap} {v : AV} {l : List Iv} (h : Mine k0 G v 125 2 (ivCells l)) : Row G v 2 (l.map ivc) := Mine.row (e := 125) h (fun x hx => by obtain ⟨y, _, rfl⟩ := List.mem_map.1 hx; rfl) (by omega)
theorem bin125 (a c a' c' : Int) : binT Try.prog .eql 125 (.agg [I a, I c]) (.agg [I a', I c']) = some (.bool (decide (a = a') && decide (c = c'))) := by
  have e : binT Try.prog .eql 125 (.agg [I a, I c]) (.agg [I a', I c']) = ((match eqI a a' with | true => (match eqI c c' with | true => some true | false => some false) | false => some false).map .bool) := by kernel_rfl
  rw [e, eqI_eq, eqI_eq]
  have h1 : (a == a') = decide (a = a') := rfl
  have h2 : (c == c') = decide (c = c') := rfl
  rw [h1, h2]
  cases decide (a = a') <;> cases decide (c = c') <;> rfl
theorem nul_iff (x : Iv) : (decide (x.1 = nul.1) && decide (x.2 = nul.2)) = true ↔ x = nul := by
  rw [Bool.and_eq_true, decide_eq_true_eq, decide_eq_true_eq]
  constructor
  · intro h; exact Prod.ext h.1 h.2
  · intro h; rw [h]; exact ⟨rfl, rfl⟩
theorem c86 (m : Nat) (ev rv : AV) (p : Pst) (rows : List (List Int)) (f : Int) (H : Heap) (hV : Ints H ev p.errs) (hRs : LstAt H rv rows) (hp : (0 ≤ p.gain ∧ p.gain ≤ 200) ∧ 0 ≤ p.drop ∧ p.drop ≤ 200) (hpe : ∀ x ∈ p.errs, 0 ≤ x ∧ x ≤ 1000) (hpl : p.errs.length ≤ 1000) (hlens : ∀ r ∈ rows, r.length = p.errs.length) (hrbd : ∀ r ∈ rows, ∀ x ∈ r, -1000 ≤ x ∧ x ≤ 2000) (hrl9 : rows.length ≤ 1000) : ∃ v H', RR (m + 4) (.fn 86 [.agg (p.c ev), rv, I f]) H = some (v, H') ∧ Ret H H' ∧ Mine H.next H' v 125 2 (ivCells (mayL p f rows)) := by
  show ∃ v H', evFn Try.prog (RR (m + 3)) 86 [.agg (p.c ev), rv, I f] H = some (v, H') ∧ Ret H H' ∧ Mine H.next H' v 125 2 (ivCells (mayL p f rows))
  refine fn_okE Try.func86 rfl rfl (by kernel_rfl) (by kernel_rfl) ?_
  obtain ⟨W, hW⟩ : ∃ W : Heap, W = ⟨H.t, H.next, H.next⟩ := ⟨_, rfl⟩
  have hg : ∀ n, W.get n = H.get n := fun n => by rw [hW]; rfl
  have hN : W.next = H.next := by rw [hW]
  have hE : ∀ G, Grow W G → Ext H G := fun G g => ⟨by rw [← hN]; exact g.next, fun n k => by rw [g.get n (by rw [hN]; exact k), hg]⟩
  have hG : Grow W W := Grow.refl (by rw [hW]; exact Nat.le_refl _)
  rw [← hW]
  have pev : ev.plain = true := lpl hV.len
  have hrlen := hRs.len
  have hwll := workL_len p.errs.length f
  refine Ok.seq ?_
  refine Ok.region ?_
  refine OkO.box rfl rfl ?_
  refine OkO.assign rfl rfl ?_
  refine OkO.nil ?_
  refine Ok.seq ?_
  refine Ok.region ?_
  refine OkO.assign rfl rfl ?_
  refine OkO.nil ?_
  refine Ok.seq ?_
  refine Ok.region ?_
  refine OkO.buildArr (z := [.int .i64 0, .int .i64 0]) (sz := 1) rfl (by kernel_rfl) rfl rfl ?_
  refine OkO.alloc (z := [.int .i64 0, .int .i64 0]) rfl (by kernel_rfl) ?_
  refine OkO.store rfl rfl rfl (sAc (n := 2) (ag := true) (by kernel_rfl) (by first | assumption | (simp (disch := first | omega | (simp only [hNw, hPt]; omega)) only [gn0, gn1, gn2, gn3, gn4, gn5, gp0, gno, gpo] <;> first | rfl | assumption | exact gp0 _ _ _ | exact gn0 _ _)) rfl (by first | rfl | assumption) (by first | rfl | exact spl_set _ _ _ (by first | assumption | omega | (simp; omega)))) ?_
  refine OkO.nil ?_
  refine Ok.seq ?_
  refine Ok.seq ?_
  refine Ok.region ?_
  refine OkO.move rfl rfl ?_
  refine OkO.builtin rfl rfl rfl (bln (by kernel_rfl) (by first | assumption | rfl)) ?_
  refine OkO.move rfl rfl ?_
  refine OkO.nil ?_
  refine Ok.block ?_
  refine Ok.loop (fun n s => ∃ (i : Nat) (done : List Iv) (x : Iv) (ov : AV), n = rows.length - i ∧ i ≤ rows.length ∧ done ++ folW p f (rows.drop i) x = mayL p f rows ∧ x ≠ nul ∧ Bd x ∧ done.length ≤ i ∧ Mine (W.next + 2) s.H ov 125 2 (ivCells done) ∧ Has 6 [(2, I f), (3, .ptr W.next 0), (7, ov), (8, .ptr (W.next + 1) 0), (14, rv), (15, I (rows.length : Int)), (16, I (i : Int))] s.T ∧ s.D = [] ∧ Grow W s.H ∧ s.H.get (W.next + 1) = some (.cells (ivc x) 125) ∧ s.H.get W.next = some (.cells (p.c ev) 30) ∧ W.next + 2 ≤ s.H.next) (rows.length) (by unfold loopFuel; omega)
    ⟨0, [], (0, 1000), .nils, rfl, Nat.zero_le _, rfl, by simp [nul], by unfold Bd; simp, Nat.le_refl _, Mine.nil _ _ _ _, Has.of (by kernel_rfl), rfl, (by (try dsimp only); repeat (first | exact hG | apply Grow.new | (refine Grow.put ?_ _ (by first | omega | (simp only [hNw, hPt]; omega))))), (by first | assumption | (simp (disch := first | omega | (simp only [hNw, hPt]; omega)) only [gn0, gn1, gn2, gn3, gn4, gn5, gp0, gno, gpo] <;> first | rfl | assumption | exact gp0 _ _ _ | exact gn0 _ _)), (by first | assumption | (simp (disch := first | omega | (simp only [hNw, hPt]; omega)) only [gn0, gn1, gn2, gn3, gn4, gn5, gp0, gno, gpo] <;> first | rfl | assumption | exact gp0 _ _ _ | exact gn0 _ _)), by simp⟩ ?_
  rintro n ⟨T, D, G⟩ ⟨i, done, x, ov, hn, hi, hdone, hxn, hxb, hdl, hm, ⟨f_, hT⟩, hD, hg, hb1, hb0, hn2⟩
  dsimp only at *
  subst hT hD
  have hgn := hg.next
  have eb0 : (G.get W.next).bind AObj.cs = some (p.c ev) := by rw [hb0]; rfl
  have eb1 : (G.get (W.next + 1)).bind AObj.cs = some (ivc x) := by rw [hb1]; rfl
  refine Ok.seq ?_
  refine Ok.region ?_
  refine OkO.bin rfl rfl rfl (bin_lss _ _) ?_
  refine OkO.nil ?_
  refine Ok.seq ?_
  refine Ok.cond rfl (fun h1 => ?_) (fun h1 => ?_)
  · -- yes h1
    have hlt : i < rows.length := by simpa using h1
    obtain ⟨xr, rb, ro, rcs, r1_, r2_, r3_, r4_, r5_⟩ := (hRs.ext (hE _ hg)).at_ i hlt
    have hrl := hlens rows[i] (List.getElem_mem hlt)
    have hrb := hrbd rows[i] (List.getElem_mem hlt)
    have r6_ : Ints H xr rows[i] := by (obtain ⟨xr2, b2, o2, c2, s1, s2, s3, s4, s5⟩ := hRs.at_ i hlt; rw [r1_] at s1; cases s1; rw [(hE _ hg).get _ s4, s2] at r2_; cases r2_; rw [s3] at r3_; cases r3_; exact s5)
    have hxb2 := hxb
    unfold Bd at hxb2
    refine Ok.skip ?_
    refine Ok.seq ?_
    refine Ok.block ?_
    refine Ok.seq ?_
    refine Ok.region ?_
    refine OkO.index (sz := 1) (n := i) rfl rfl rfl (by kernel_rfl) (by first | assumption | rfl | exact slAt_slice (by omega) | exact slAt_opn (by omega)) ?_ -- index ('Go.Operand.tmp', 14) ('Go.Operand.tmp', 16)
    refine OkO.load rfl rfl (lda (n := 1) (by kernel_rfl) (by first | assumption | (simp (disch := first | omega | (simp only [hNw, hPt]; omega)) only [gn0, gn1, gn2, gn3, gn4, gn5, gp0, gno, gpo] <;> first | rfl | assumption | exact gp0 _ _ _ | exact gn0 _ _)) (by first | rfl | assumption)) ?_
    refine OkO.assign rfl rfl ?_
    refine OkO.nil ?_
    refine Ok.seq ?_
    refine Ok.region ?_
    refine OkO.buildArr (z := [.int .i64 0, .int .i64 0]) (sz := 1) rfl (by kernel_rfl) rfl rfl ?_
    refine OkO.load rfl rfl (ldg (n := 6) (by kernel_rfl) (by first | assumption | (simp (disch := first | omega | (simp only [hNw, hPt]; omega)) only [gn0, gn1, gn2, gn3, gn4, gn5, gp0, gno, gpo] <;> first | rfl | assumption | exact gp0 _ _ _ | exact gn0 _ _)) (by first | rfl | assumption)) ?_
    refine OkO.load rfl rfl (ldg (n := 2) (by kernel_rfl) (by first | assumption | (simp (disch := first | omega | (simp only [hNw, hPt]; omega)) only [gn0, gn1, gn2, gn3, gn4, gn5, gp0, gno, gpo] <;> first | rfl | assumption | exact gp0 _ _ _ | exact gn0 _ _)) (by first | rfl | assumption)) ?_
    refine OkO.callV rfl rfl rfl rfl rfl (c89 (m + 2) ev p x _ (by omega) (by omega)) ?_ -- "(sackung/alarm.Post).after"
    refine OkO.callV rfl rfl rfl rfl rfl (c93 (m + 1) (0, 1000) (afterI p x) _) ?_ -- "(sackung/alarm.ends).meet"
    refine OkO.store rfl rfl rfl (sAc (n := 2) (ag := true) (by kernel_rfl) (by first | assumption | (simp (disch := first | omega | (simp only [hNw, hPt]; omega)) only [gn0, gn1, gn2, gn3, gn4, gn5, gp0, gno, gpo] <;> first | rfl | assumption | exact gp0 _ _ _ | exact gn0 _ _)) rfl (by first | rfl | assumption) (by first | rfl | exact spl_set _ _ _ (by first | assumption | omega | (simp; omega)))) ?_
    refine OkO.nil ?_
    refine Ok.seq ?_
    refine Ok.seq ?_
    refine Ok.region ?_
    refine OkO.load rfl rfl (ldg (n := 6) (by kernel_rfl) (by first | assumption | (simp (disch := first | omega | (simp only [hNw, hPt]; omega)) only [gn0, gn1, gn2, gn3, gn4, gn5, gp0, gno, gpo] <;> first | rfl | assumption | exact gp0 _ _ _ | exact gn0 _ _)) (by first | rfl | assumption)) ?_
    refine OkO.move rfl rfl ?_
    refine OkO.callE rfl rfl rfl rfl rfl (c90 (m + 2) ev p f _ (hV.len) (by omega)) ?_ -- "(sackung/alarm.Post).working"
    rintro wv H90 ⟨q90, m90⟩
    have n90 := q90.ext.next
    simp only [hNw, hPt] at n90 m90
    have g90 : Grow W H90 := Grow.ret (by (try dsimp only); repeat (first | exact hg | exact hG | apply Grow.new | (refine Grow.put ?_ _ (by first | omega | (simp only [hNw, hPt]; omega))))) q90
    have hwl : lenOf wv = some (workL p.errs.length f).length := by simpa using m90.nats.len
    obtain ⟨x0, hx0⟩ : ∃ x0, x0 = meetI (0, 1000) (afterI p x) := ⟨_, rfl⟩
    have z1 : H90.get (W.next + 1) = some (.cells (ivc (meetI (0, 1000) (afterI p x))) 125) := by rw [q90.ext.get _ (by first | omega | (simp only [hNw, hPt]; omega))]; first | assumption | (simp (disch := first | omega | (simp only [hNw, hPt]; omega)) only [gn0, gn1, gn2, gn3, gn4, gn5, gp0, gno, gpo] <;> first | rfl | assumption | exact gp0 _ _ _ | exact gn0 _ _)
    have z0 : H90.get W.next = some (.cells (p.c ev) 30) := by rw [q90.ext.get _ (by first | omega | (simp only [hNw, hPt]; omega))]; first | assumption | (simp (disch := first | omega | (simp only [hNw, hPt]; omega)) only [gn0, gn1, gn2, gn3, gn4, gn5, gp0, gno, gpo] <;> first | rfl | assumption | exact gp0 _ _ _ | exact gn0 _ _)
    have zm : Mine (W.next + 2) H90 ov 125 2 (ivCells done) := (hm.put _ (by omega)).to q90.ext
    have zw : Mine (W.next + 2) H90 wv 3 1 (natL (workL p.errs.length f)) := m90.low (by omega)
    refine OkO.builtin rfl rfl rfl (bln (by kernel_rfl) (by first | assumption | rfl)) ?_
    refine OkO.move rfl rfl ?_
    refine OkO.nil ?_
    refine Ok.block ?_
    refine Ok.loop (fun n s => ∃ j : Nat, n = (workL p.errs.length f).length - j ∧ j ≤ (workL p.errs.length f).length ∧ Has 6 [(2, I f), (3, .ptr W.next 0), (7, ov), (8, .ptr (W.next + 1) 0), (14, rv), (15, I (rows.length : Int)), (16, I (i : Int)), (10, xr), (27, wv), (28, I ((workL p.errs.length f).length : Int)), (29, I (j : Int))] s.T ∧ s.D = [] ∧ Grow W s.H ∧ s.H.get (W.next + 1) = some (.cells (ivc (gaugesI p rows[i] ((workL p.errs.length f).take j) x0)) 125) ∧ Mine (W.next + 2) s.H ov 125 2 (ivCells done) ∧ Mine (W.next + 2) s.H wv 3 1 (natL (workL p.errs.length f)) ∧ s.H.get W.next = some (.cells (p.c ev) 30) ∧ W.next + 2 ≤ s.H.next) ((workL p.errs.length f).length) (by unfold loopFuel; omega)
      ⟨0, rfl, Nat.zero_le _, Has.of (by kernel_rfl), rfl, g90, by (rw [hx0]; exact z1), zm, zw, z0, by (show W.next + 2 ≤ H90.next; omega)⟩ ?_
    rintro n ⟨T, D, G⟩ ⟨j, hn2j, hj, ⟨f_, hT⟩, hD, hg, hb1, hm, hw, hb0, hn2⟩
    dsimp only at *
    subst hT hD
    have hgn := hg.next
    have eb0 : (G.get W.next).bind AObj.cs = some (p.c ev) := by rw [hb0]; rfl
    have eb1 : (G.get (W.next + 1)).bind AObj.cs = some (ivc (gaugesI p rows[i] ((workL p.errs.length f).take j) x0)) := by rw [hb1]; rfl
    refine Ok.seq ?_
    refine Ok.region ?_
    refine OkO.bin rfl rfl rfl (bin_lss _ _) ?_
    refine OkO.nil ?_
    refine Ok.seq ?_
    refine Ok.cond rfl (fun h2 => ?_) (fun h2 => ?_)
    · -- yes h2
      have hjt : j < (workL p.errs.length f).length := by simpa using h2
      have hgl := workL_lt (List.getElem_mem hjt)
      obtain ⟨wb, wo, wcs, w1, w2, w3, w4⟩ := hw.nats.at_ j [I ((workL p.errs.length f)[j] : Int)] (by simp [hjt])
      have w5 := seg_one w3
      refine Ok.skip ?_
      refine Ok.seq ?_
      refine Ok.block ?_
      refine Ok.seq ?_
      refine Ok.region ?_
      refine OkO.index (sz := 1) (n := j) rfl rfl rfl (by kernel_rfl) (by first | assumption | rfl | exact slAt_slice (by omega) | exact slAt_opn (by omega)) ?_ -- index ('Go.Operand.tmp', 27) ('Go.Operand.tmp', 29)
      refine OkO.load rfl rfl (lda (n := 1) (by kernel_rfl) (by first | assumption | (simp (disch := first | omega | (simp only [hNw, hPt]; omega)) only [gn0, gn1, gn2, gn3, gn4, gn5, gp0, gno, gpo] <;> first | rfl | assumption | exact gp0 _ _ _ | exact gn0 _ _)) (by first | rfl | assumption)) ?_
      refine OkO.assign rfl rfl ?_
      refine OkO.nil ?_
      refine Ok.drawn [(0, true, []), (1, true, []), (2, true, []), (3, true, []), (4, false, [0]), (5, false, [1]), (6, false, [])] (by kernel_rfl) ?_
      refine OkP.step ?_
      refine OkO.load rfl rfl (ldg (n := 2) (by kernel_rfl) (by first | assumption | (simp (disch := first | omega | (simp only [hNw, hPt]; omega)) only [gn0, gn1, gn2, gn3, gn4, gn5, gp0, gno, gpo] <;> first | rfl | assumption | exact gp0 _ _ _ | exact gn0 _ _)) (by first | rfl | assumption)) ?_
      refine OkO.nil ⟨rfl, ?_⟩
      refine OkP.step ?_
      refine OkO.load rfl rfl (ldg (n := 6) (by kernel_rfl) (by first | assumption | (simp (disch := first | omega | (simp only [hNw, hPt]; omega)) only [gn0, gn1, gn2, gn3, gn4, gn5, gp0, gno, gpo] <;> first | rfl | assumption | exact gp0 _ _ _ | exact gn0 _ _)) (by first | rfl | assumption)) ?_
      refine OkO.nil ⟨rfl, ?_⟩
      refine OkP.step ?_
      refine OkO.move rfl rfl ?_
      refine OkO.nil ⟨rfl, ?_⟩
      refine OkP.step ?_
      refine OkO.move rfl rfl ?_
      refine OkO.nil ⟨rfl, ?_⟩
      refine OkP.step ?_
      refine OkO.callV rfl rfl rfl rfl rfl (c105 (m + 2) ev p xr rows[i] (workL p.errs.length f)[j] _ (hV.ext (hE _ hg)) (r6_.ext (hE _ hg)) hgl (by omega) hpe hrb) ?_ -- "(sackung/alarm.Post).agreeing"
      refine OkO.nil ⟨(sco (sld rfl rfl (ldg (n := 2) (by kernel_rfl) (by first | assumption | (simp (disch := first | omega | (simp only [hNw, hPt]; omega)) only [gn0, gn1, gn2, gn3, gn4, gn5, gp0, gno, gpo] <;> first | rfl | assumption | exact gp0 _ _ _ | exact gn0 _ _)) (by first | rfl | assumption)) rfl (eqr _ (by first | rfl | exact lpl (by assumption) | (simp [AV.plain, AV.plains, AV.cells, pev, Pst.c])))) rfl), ?_⟩
      refine OkP.step ?_
      refine OkO.callV rfl rfl rfl rfl rfl (c93 (m + 1) (gaugesI p rows[i] ((workL p.errs.length f).take j) x0) (gI p rows[i] (workL p.errs.length f)[j]) _) ?_ -- "(sackung/alarm.ends).meet"
      refine OkO.nil ⟨(sco (sld rfl rfl (ldg (n := 6) (by kernel_rfl) (by first | assumption | (simp (disch := first | omega | (simp only [hNw, hPt]; omega)) only [gn0, gn1, gn2, gn3, gn4, gn5, gp0, gno, gpo] <;> first | rfl | assumption | exact gp0 _ _ _ | exact gn0 _ _)) (by first | rfl | assumption)) rfl (eqr _ (by first | rfl | exact lpl (by assumption) | (simp [AV.plain, AV.plains, AV.cells, pev, Pst.c])))) rfl), ?_⟩
      refine OkP.step ?_
      refine OkO.store rfl rfl rfl (sAc (n := 2) (ag := true) (by kernel_rfl) (by first | assumption | (simp (disch := first | omega | (simp only [hNw, hPt]; omega)) only [gn0, gn1, gn2, gn3, gn4, gn5, gp0, gno, gpo] <;> first | rfl | assumption | exact gp0 _ _ _ | exact gn0 _ _)) rfl (by first | rfl | assumption) (by first | rfl | exact spl_set _ _ _ (by first | assumption | omega | (simp; omega)))) ?_
      refine OkO.nil ⟨rfl, ?_⟩
      refine OkP.nil ?_
      refine Ok.region ?_
      refine OkO.bin rfl rfl rfl (bin_add (by omega) (by omega)) ?_
      refine OkO.move rfl rfl ?_
      refine OkO.nil ?_
      refine ⟨(workL p.errs.length f).length - (j + 1), by omega, j + 1, rfl, by omega, Has.of (by kernel_rfl), rfl, (by (try dsimp only); repeat (first | exact hg | exact hG | apply Grow.new | (refine Grow.put ?_ _ (by first | omega | (simp only [hNw, hPt]; omega))))), ?_, hm.put _ (by omega), hw.put _ (by omega), (by first | assumption | (simp (disch := first | omega | (simp only [hNw, hPt]; omega)) only [gn0, gn1, gn2, gn3, gn4, gn5, gp0, gno, gpo] <;> first | rfl | assumption | exact gp0 _ _ _ | exact gn0 _ _)), by simp; omega⟩
      rw [gauges_take hjt]
      exact gp0 _ _ _
    · -- no h2
      have hge2 : (workL p.errs.length f).length ≤ j := by simp at h2; omega
      rw [List.take_of_length_le hge2] at hb1 eb1
      refine Ok.exit ?_
      refine Ok.seq ?_
      refine Ok.seq ?_
      refine Ok.drawn [(0, true, []), (1, false, [0]), (2, true, [])] (by kernel_rfl) ?_
      refine OkP.step ?_
      refine OkO.load rfl rfl (ldg (n := 2) (by kernel_rfl) (by first | assumption | (simp (disch := first | omega | (simp only [hNw, hPt]; omega)) only [gn0, gn1, gn2, gn3, gn4, gn5, gp0, gno, gpo] <;> first | rfl | assumption | exact gp0 _ _ _ | exact gn0 _ _)) (by first | rfl | assumption)) ?_
      refine OkO.nil ⟨rfl, ?_⟩
      refine OkP.step ?_
      refine OkO.callV rfl rfl rfl rfl rfl (c106 (m + 2) _) ?_ -- "sackung/alarm.nothing"
      refine OkO.nil ⟨(sco (sld rfl rfl (ldg (n := 2) (by kernel_rfl) (by first | assumption | (simp (disch := first | omega | (simp only [hNw, hPt]; omega)) only [gn0, gn1, gn2, gn3, gn4, gn5, gp0, gno, gpo] <;> first | rfl | assumption | exact gp0 _ _ _ | exact gn0 _ _)) (by first | rfl | assumption)) rfl (eqr _ (by first | rfl | exact lpl (by assumption) | (simp [AV.plain, AV.plains, AV.cells, pev, Pst.c])))) rfl), ?_⟩
      refine OkP.step ?_
      refine OkO.binT rfl rfl rfl (bin125 _ _ _ _) ?_
      refine OkO.nil ⟨rfl, ?_⟩
      refine OkP.nil ?_
      refine Ok.cond rfl (fun h3 => ?_) (fun h3 => ?_)
      · -- yes h3
        have hnu : (gaugesI p rows[i] (workL p.errs.length f) x0) = nul := (nul_iff _).1 (by simpa using h3)
        refine Ok.exit ?_
        refine Ok.seq ?_
        refine Ok.region ?_
        refine OkO.move rfl rfl ?_
        refine OkO.assign rfl rfl ?_
        refine OkO.nil ?_
        refine Ok.ret ⟨.inr rfl, ?_⟩
        have hdf : mayL p f rows = done := by (rw [← hdone, List.drop_eq_getElem_cons hlt, folW, if_pos (show stepI p f x rows[i] = nul from by rw [hx0] at hnu; exact hnu)]; simp)
        refine back_newA (resV_tmp rfl resV_nil) rfl (by rw [← hW]; exact (by (try dsimp only); repeat (first | exact hg | exact hG | apply Grow.new | (refine Grow.put ?_ _ (by first | omega | (simp only [hNw, hPt]; omega)))))) (fun H9 p1 p2 => ⟨p1, by rw [hdf]; exact (hm.low (by omega)).backT p2 id⟩)
      · -- no h3
        have hnn : (gaugesI p rows[i] (workL p.errs.length f) x0) ≠ nul := fun e9 => by (rw [(nul_iff _).2 e9] at h3; cases h3)
        have hst : (gaugesI p rows[i] (workL p.errs.length f) x0) = stepI p f x rows[i] := by rw [hx0]; rfl
        have hns : stepI p f x rows[i] ≠ nul := by rw [← hst]; exact hnn
        refine Ok.skip ?_
        refine Ok.region ?_
        refine OkO.move rfl rfl ?_
        refine OkO.load rfl rfl (ldg (n := 2) (by kernel_rfl) (by first | assumption | (simp (disch := first | omega | (simp only [hNw, hPt]; omega)) only [gn0, gn1, gn2, gn3, gn4, gn5, gp0, gno, gpo] <;> first | rfl | assumption | exact gp0 _ _ _ | exact gn0 _ _)) (by first | rfl | assumption)) ?_
        refine OkO.buildSlice (el := 125) (sz := 2) (z := [.int .i64 0, .int .i64 0]) rfl (by kernel_rfl) (by decide) rfl rfl ?_
        refine OkO.builtinE rfl rfl rfl (Mine.app2 (W := W) (k0 := W.next + 2) (t := 130) (u := 130) (sz := 2) (by_ := 16) (e := 125) (n := 1) (new := ivc (gaugesI p rows[i] (workL p.errs.length f) x0)) (hm.to (by (try dsimp only); repeat (first | exact Ext.refl _ | assumption | apply Ext.new | (refine Ext.put ?_ _ (by first | omega | (simp only [hNw, hPt]; omega)))))) (by (try dsimp only); repeat (first | exact hg | exact hG | apply Grow.new | (refine Grow.put ?_ _ (by first | omega | (simp only [hNw, hPt]; omega))))) (by omega) (by simp; omega) (by kernel_rfl) (by kernel_rfl) (elems_new (n := 1) (sz := 2) rfl) rfl rfl (by rw [ivCells_len]; omega) (by omega) (by omega) rfl) ?_
        rintro v2 G2 ⟨r1, r2, r3, r4, r5, _⟩
        refine OkO.assign rfl rfl ?_
        refine OkO.nil ?_
        refine Ok.region ?_
        refine OkO.bin rfl rfl rfl (bin_add (by omega) (by omega)) ?_
        refine OkO.move rfl rfl ?_
        refine OkO.nil ?_
        have hfo : folW p f (rows.drop i) x = stepI p f x rows[i] :: folW p f (rows.drop (i + 1)) (stepI p f x rows[i]) := by rw [List.drop_eq_getElem_cons hlt, folW, if_neg hns]
        refine ⟨rows.length - (i + 1), by omega, i + 1, done ++ [stepI p f x rows[i]], stepI p f x rows[i], v2, rfl, by omega, ?_, hns, step_bd _ _ _ _, (by simp; omega), ?_, Has.of (by kernel_rfl), rfl, r2, ?_, ?_, by (show W.next + 2 ≤ G2.next; simp only [hNw] at r5; omega)⟩
        · rw [List.append_assoc, List.singleton_append, ← hfo]; exact hdone
        · rw [ivCells_snoc, ← hst]; exact r1
        · rw [r4 _ (by simp only [hNw]; omega) (hm.far (by omega)), ← hst]; first | assumption | (simp (disch := first | omega | (simp only [hNw, hPt]; omega)) only [gn0, gn1, gn2, gn3, gn4, gn5, gp0, gno, gpo] <;> first | rfl | assumption | exact gp0 _ _ _ | exact gn0 _ _)
        · rw [r4 _ (by simp only [hNw]; omega) (hm.far (by omega))]; first | assumption | (simp (disch := first | omega | (simp only [hNw, hPt]; omega)) only [gn0, gn1, gn2, gn3, gn4, gn5, gp0, gno, gpo] <;> first | rfl | assumption | exact gp0 _ _ _ | exact gn0 _ _)
  · -- no h1
    have hge : i = rows.length := by simp at h1; omega
    refine Ok.exit ?_
    refine Ok.seq ?_
    refine Ok.region ?_
    refine OkO.move rfl rfl ?_
    refine OkO.assign rfl rfl ?_
    refine OkO.nil ?_
    refine Ok.ret ⟨.inr rfl, ?_⟩
    have hdf : mayL p f rows = done := by (rw [← hdone, List.drop_eq_nil_of_le (by omega)]; simp [folW])
    refine back_newA (resV_tmp rfl resV_nil) rfl (by rw [← hW]; exact (by (try dsimp only); repeat (first | exact hg | exact hG | apply Grow.new | (refine Grow.put ?_ _ (by first | omega | (simp only [hNw, hPt]; omega)))))) (fun H9 p1 p2 => ⟨p1, by rw [hdf]; exact (hm.low (by omega)).backT p2 id⟩)
end
end Go.Ev

set_option maxRecDepth 100000
set_option linter.unusedSimpArgs false
set_option linter.unusedVariables false
namespace Go.Ev
open Go Go.Proofs
noncomputable section
theorem keysI : Keys Try.prog 3 I where
  eq := fun a c => by
    have e : eqT Try.prog 8 3 (I a) (I c) = some (eqI a c) := by kernel_rfl
    rw [e, eqI_eq]; rfl
  chk := fun a => by kernel_rfl
  same := fun a => by
    show sameAtom (I a) (I a) = true
    simp [sameAtom, sameKind, eqI_eq]
theorem mapT112 : mapTy Try.prog 112 = some (3, .nils) := by kernel_rfl
/-- What is kept by the gauge that has failed, from none on. -/
def mapF (vs : List AV) : Int → Option AV := fun k => if 0 ≤ k + 1 then vs[(k + 1).toNat]? else none
theorem mapF_nil : mapF [] = fun _ => none := by funext k; unfold mapF; split <;> simp
theorem mapF_upd (vs : List AV) (x : AV) : updK (mapF vs) ((vs.length : Int) - 1) x = mapF (vs ++ [x]) := by
  funext k
  unfold updK mapF
  by_cases h : k = (vs.length : Int) - 1
  · rw [if_pos h, if_pos (by omega), h, show ((vs.length : Int) - 1 + 1).toNat = vs.length by omega]; simp
  · rw [if_neg h]
    split
    · rename_i h2
      by_cases h3 : (k + 1).toNat < vs.length
      · rw [List.getElem?_append_left h3]
      · rw [List.getElem?_eq_none (by omega), List.getElem?_eq_none (by simp; omega)]
    · rfl
theorem mapF_at {vs : List AV} {i : Nat} : mapF vs ((i : Int) - 1) = vs[i]? := by
  unfold mapF
  rw [if_pos (by omega), show ((i : Int) - 1 + 1).toNat = i by omega]
/-- A post on duty: the map, and what is kept in it. -/
def DutyM (k0 : Nat) (G : Heap) (mb : Nat) (p : Pst) (rows : List (List Int)) : Prop := k0 ≤ mb ∧ mb < G.next ∧ ∃ o vs, G.get mb = some o ∧ MapO o I (mapF vs) ∧ vs.length = p.errs.length + 1 ∧ ∀ (j : Nat) (x : AV), vs[j]? = some x → Mine k0 G x 125 2 (ivCells (mayL p ((j : Int) - 1) rows))
theorem DutyM.to {k0 : Nat} {G G' : Heap} {mb : Nat} {p : Pst} {rows : List (List Int)} (h : DutyM k0 G mb p rows) (e : Ext G G') : DutyM k0 G' mb p rows := by
  obtain ⟨h1, h2, o, vs, h3, h4, h5, h6⟩ := h
  exact ⟨h1, Nat.lt_of_lt_of_le h2 e.next, o, vs, by rw [e.get _ h2]; exact h3, h4, h5, fun j x hj => (h6 j x hj).to e⟩
theorem DutyM.low {k0 k1 : Nat} {G : Heap} {mb : Nat} {p : Pst} {rows : List (List Int)} (h : DutyM k1 G mb p rows) (hk : k0 ≤ k1) : DutyM k0 G mb p rows := by
  obtain ⟨h1, h2, o, vs, h3, h4, h5, h6⟩ := h
  exact ⟨by omega, h2, o, vs, h3, h4, h5, fun j x hj => (h6 j x hj).low hk⟩
def Pst.d (p : Pst) (ev : AV) (mb : Nat) : List AV := [ev, I p.gain, I p.drop, I p.fall, I p.out, I p.ahead, .map mb]
theorem duty_flat (p : Pst) (ev : AV) (mb : Nat) : (AV.agg (p.d ev mb)).flat = false := by
  show AV.flats [ev, I p.gain, I p.drop, I p.fall, I p.out, I p.ahead, .map mb] = false
  unfold AV.flats
  cases ev.flat <;> rfl
theorem c63 (m : Nat) (ev rv : AV) (p : Pst) (rows : List (List Int)) (H : Heap) (hV : Ints H ev p.errs) (hRs : LstAt H rv rows) (hp : (0 ≤ p.gain ∧ p.gain ≤ 200) ∧ 0 ≤ p.drop ∧ p.drop ≤ 200) (hpe : ∀ x ∈ p.errs, 0 ≤ x ∧ x ≤ 1000) (hpl : p.errs.length ≤ 1000) (hlens : ∀ r ∈ rows, r.length = p.errs.length) (hrbd : ∀ r ∈ rows, ∀ x ∈ r, -1000 ≤ x ∧ x ≤ 2000) (hrl9 : rows.length ≤ 1000) : ∃ v H', RR (m + 5) (.fn 63 [.agg (p.c ev), rv]) H = some (v, H') ∧ ∃ mb, v = .agg (p.d ev mb) ∧ Ret H H' ∧ DutyM H.next H' mb p rows := by
  show ∃ v H', evFn Try.prog (RR (m + 4)) 63 [.agg (p.c ev), rv] H = some (v, H') ∧ ∃ mb, v = .agg (p.d ev mb) ∧ Ret H H' ∧ DutyM H.next H' mb p rows
  refine fn_okE Try.func63 rfl rfl (by kernel_rfl) (by kernel_rfl) ?_
  obtain ⟨W, hW⟩ : ∃ W : Heap, W = ⟨H.t, H.next, H.next⟩ := ⟨_, rfl⟩
  have hg : ∀ n, W.get n = H.get n := fun n => by rw [hW]; rfl
  have hN : W.next = H.next := by rw [hW]
  have hE : ∀ G, Grow W G → Ext H G := fun G g => ⟨by rw [← hN]; exact g.next, fun n k => by rw [g.get n (by rw [hN]; exact k), hg]⟩
  have hG : Grow W W := Grow.refl (by rw [hW]; exact Nat.le_refl _)
  rw [← hW]
  have pev : ev.plain = true := lpl hV.len
  have hel := hV.len
  have ats : ∀ mb, atoms [ev, I p.gain, I p.drop, I p.fall, I p.out, I p.ahead, .map mb] = true := fun mb => by rw [atoms, (len_one hel).2]; rfl
  refine Ok.seq ?_
  refine Ok.region ?_
  refine OkO.box rfl rfl ?_
  refine OkO.alloc (z := [.nils, .int .i64 0, .int .i64 0, .int .i64 0, .int .i64 0, .int .i64 0, .nilm]) rfl (by kernel_rfl) ?_
  refine OkO.nil ?_
  refine Ok.seq ?_
  refine Ok.region ?_
  refine OkO.load rfl rfl (ldg (n := 6) (by kernel_rfl) (by first | assumption | (simp (disch := first | omega | (simp only [hNw, hPt]; omega)) only [gn0, gn1, gn2, gn3, gn4, gn5, gp0, gno, gpo] <;> first | rfl | assumption | exact gp0 _ _ _ | exact gn0 _ _)) (by first | rfl | assumption)) ?_
  refine OkO.makeMap rfl ?_
  refine OkO.build (z := [.nils, .int .i64 0, .int .i64 0, .int .i64 0, .int .i64 0, .int .i64 0, .nilm]) (pl := [(0, 6), (6, 1)]) rfl (by kernel_rfl) rfl rfl ?_
  refine OkO.alloc (z := [.nils, .int .i64 0, .int .i64 0, .int .i64 0, .int .i64 0, .int .i64 0, .nilm]) rfl (by kernel_rfl) ?_
  refine OkO.store rfl rfl rfl (sAc (n := 7) (ag := true) (by kernel_rfl) (by first | assumption | (simp (disch := first | omega | (simp only [hNw, hPt]; omega)) only [gn0, gn1, gn2, gn3, gn4, gn5, gp0, gno, gpo] <;> first | rfl | assumption | exact gp0 _ _ _ | exact gn0 _ _)) rfl (by first | rfl | assumption | exact ats _) (by first | rfl | exact spl_set _ _ _ (by first | assumption | omega | (simp; omega)))) ?_
  refine OkO.nil ?_
  refine Ok.seq ?_
  refine Ok.seq ?_
  refine Ok.region ?_
  refine OkO.assign rfl rfl ?_
  refine OkO.nil ?_
  refine Ok.block ?_
  refine Ok.loop (fun n s => ∃ (i : Nat) (vs : List AV) (o : AObj), n = (p.errs.length + 1) - i ∧ i ≤ (p.errs.length + 1) ∧ vs.length = i ∧ s.H.get (W.next + 2) = some o ∧ MapO o I (mapF vs) ∧ (∀ (j : Nat) (x : AV), vs[j]? = some x → Mine (W.next + 4) s.H x 125 2 (ivCells (mayL p ((j : Int) - 1) rows))) ∧ Has 5 [(1, rv), (2, .ptr W.next 0), (4, .ptr (W.next + 1) 0), (5, .ptr (W.next + 3) 0), (6, I ((i : Int) - 1))] s.T ∧ s.D = [] ∧ Grow W s.H ∧ s.H.get W.next = some (.cells (p.c ev) 30) ∧ s.H.get (W.next + 1) = some (.cells [.nils, I 0, I 0, I 0, I 0, I 0, .nilm] 114) ∧ s.H.get (W.next + 3) = some (.cells (p.d ev (W.next + 2)) 114) ∧ W.next + 4 ≤ s.H.next) ((p.errs.length + 1)) (by unfold loopFuel; omega)
    ⟨0, [], .map [] 0, rfl, Nat.zero_le _, rfl, (by first | assumption | (simp (disch := first | omega | (simp only [hNw, hPt]; omega)) only [gn0, gn1, gn2, gn3, gn4, gn5, gp0, gno, gpo] <;> first | rfl | assumption | exact gp0 _ _ _ | exact gn0 _ _)), by rw [mapF_nil]; exact MapO.nil, fun j x h => by simp at h, Has.of (by kernel_rfl), rfl, (by (try dsimp only); repeat (first | exact hG | apply Grow.new | (refine Grow.put ?_ _ (by first | omega | (simp only [hNw, hPt]; omega))))), (by first | assumption | (simp (disch := first | omega | (simp only [hNw, hPt]; omega)) only [gn0, gn1, gn2, gn3, gn4, gn5, gp0, gno, gpo] <;> first | rfl | assumption | exact gp0 _ _ _ | exact gn0 _ _)), (by first | assumption | (simp (disch := first | omega | (simp only [hNw, hPt]; omega)) only [gn0, gn1, gn2, gn3, gn4, gn5, gp0, gno, gpo] <;> first | rfl | assumption | exact gp0 _ _ _ | exact gn0 _ _)), (by first | assumption | (simp (disch := first | omega | (simp only [hNw, hPt]; omega)) only [gn0, gn1, gn2, gn3, gn4, gn5, gp0, gno, gpo] <;> first | rfl | assumption | exact gp0 _ _ _ | exact gn0 _ _)), by simp⟩ ?_
  rintro n ⟨T, D, G⟩ ⟨i, vs, o, hn, hi, hvl, hmo, ho, hms, ⟨f_, hT⟩, hD, hg, hb0, hb1, hb3, hn4⟩
  dsimp only at *
  subst hT hD
  have hgn := hg.next
  have eb0 : (G.get W.next).bind AObj.cs = some (p.c ev) := by rw [hb0]; rfl
  have eb3 : (G.get (W.next + 3)).bind AObj.cs = some (p.d ev (W.next + 2)) := by rw [hb3]; rfl
  refine Ok.seq ?_
  refine Ok.seq ?_
  refine Ok.region ?_
  refine OkO.move rfl rfl ?_
  refine OkO.fieldAddr (o := 0) rfl (by kernel_rfl) rfl ?_
  refine OkO.load rfl rfl (lda (n := 1) (by kernel_rfl) (by first | assumption | (simp (disch := first | omega | (simp only [hNw, hPt]; omega)) only [gn0, gn1, gn2, gn3, gn4, gn5, gp0, gno, gpo] <;> first | rfl | assumption | exact gp0 _ _ _ | exact gn0 _ _)) (by first | rfl | assumption)) ?_
  refine OkO.builtin rfl rfl rfl (bln (by kernel_rfl) (by first | assumption | rfl)) ?_
  refine OkO.bin rfl rfl rfl (bin_lss _ _) ?_
  refine OkO.nil ?_
  refine Ok.cond rfl (fun h1 => ?_) (fun h1 => ?_)
  · -- yes h1
    have hlt : i ≤ p.errs.length := by (have h9 : (i : Int) - 1 < (p.errs.length : Int) := by simpa using h1); omega
    refine Ok.skip ?_
    refine Ok.seq ?_
    refine Ok.block ?_
    refine Ok.drawn [(0, true, []), (1, true, []), (2, true, []), (3, true, []), (4, true, []), (5, true, []), (6, false, [1]), (7, false, [])] (by kernel_rfl) ?_
    refine OkP.step ?_
    refine OkO.fieldAddr (o := 6) rfl (by kernel_rfl) rfl ?_
    refine OkO.nil ⟨rfl, ?_⟩
    refine OkP.step ?_
    refine OkO.load rfl rfl (lda (n := 1) (by kernel_rfl) (by first | assumption | (simp (disch := first | omega | (simp only [hNw, hPt]; omega)) only [gn0, gn1, gn2, gn3, gn4, gn5, gp0, gno, gpo] <;> first | rfl | assumption | exact gp0 _ _ _ | exact gn0 _ _)) (by first | rfl | assumption)) ?_
    refine OkO.nil ⟨rfl, ?_⟩
    refine OkP.step ?_
    refine OkO.move rfl rfl ?_
    refine OkO.nil ⟨rfl, ?_⟩
    refine OkP.step ?_
    refine OkO.load rfl rfl (ldg (n := 6) (by kernel_rfl) (by first | assumption | (simp (disch := first | omega | (simp only [hNw, hPt]; omega)) only [gn0, gn1, gn2, gn3, gn4, gn5, gp0, gno, gpo] <;> first | rfl | assumption | exact gp0 _ _ _ | exact gn0 _ _)) (by first | rfl | assumption)) ?_
    refine OkO.nil ⟨rfl, ?_⟩
    refine OkP.step ?_
    refine OkO.move rfl rfl ?_
    refine OkO.nil ⟨rfl, ?_⟩
    refine OkP.step ?_
    refine OkO.move rfl rfl ?_
    refine OkO.nil ⟨rfl, ?_⟩
    refine OkP.step ?_
    refine OkO.callE rfl rfl rfl rfl rfl (c86 (m + 0) ev rv p rows ((i : Int) - 1) _ (hV.ext (hE _ hg)) (hRs.ext (hE _ hg)) hp hpe hpl hlens hrbd hrl9) ?_ -- "(sackung/alarm.Post).follow"
    rintro x H86 ⟨q86, m86⟩
    have n86 := q86.ext.next
    have g86 : Grow W H86 := Grow.ret (by (try dsimp only); repeat (first | exact hg | exact hG | apply Grow.new | (refine Grow.put ?_ _ (by first | omega | (simp only [hNw, hPt]; omega))))) q86
    have z0 : H86.get W.next = some (.cells (p.c ev) 30) := by rw [q86.ext.get _ (by first | omega | (simp only [hNw, hPt]; omega))]; exact hb0
    have z1 : H86.get (W.next + 1) = some (.cells [.nils, I 0, I 0, I 0, I 0, I 0, .nilm] 114) := by rw [q86.ext.get _ (by first | omega | (simp only [hNw, hPt]; omega))]; exact hb1
    have z3 : H86.get (W.next + 3) = some (.cells (p.d ev (W.next + 2)) 114) := by rw [q86.ext.get _ (by first | omega | (simp only [hNw, hPt]; omega))]; exact hb3
    have zo : H86.get (W.next + 2) = some o := by rw [q86.ext.get _ (by first | omega | (simp only [hNw, hPt]; omega))]; exact hmo
    have ez3 : (H86.get (W.next + 3)).bind AObj.cs = some (p.d ev (W.next + 2)) := by rw [z3]; rfl
    refine OkO.nil ⟨(sco (sld rfl rfl (lda (n := 1) (by kernel_rfl) (by first | assumption | (simp (disch := first | omega | (simp only [hNw, hPt]; omega)) only [gn0, gn1, gn2, gn3, gn4, gn5, gp0, gno, gpo] <;> first | rfl | assumption | exact gp0 _ _ _ | exact gn0 _ _)) (by first | rfl | assumption)) rfl (eqr _ (by first | rfl | exact lpl (by assumption) | (simp [AV.plain, AV.plains, AV.cells, pev, Pst.c])))) rfl), ?_⟩
    refine OkP.step ?_
    refine OkO.mapUpdate (f := mapF vs) (o := o) ((i : Int) - 1) rfl mapT112 keysI rfl rfl rfl zo ho (fun o1 ho1 => ?_)
    refine OkO.nil ⟨rfl, ?_⟩
    refine OkP.nil ?_
    refine Ok.region ?_
    refine OkO.move rfl rfl ?_
    refine OkO.bin rfl rfl rfl (bin_add (by omega) (by omega)) ?_
    refine OkO.assign rfl rfl ?_
    refine OkO.nil ?_
    refine ⟨(p.errs.length + 1) - (i + 1), by omega, i + 1, vs ++ [x], o1, rfl, by omega, by simp [hvl], gp0 _ _ _, by rw [← mapF_upd, hvl]; exact ho1, fun j y hj => ?_, ?_, rfl, g86.put _ (by omega), by rw [gpo _ _ _ _ (by omega)]; exact z0, by rw [gpo _ _ _ _ (by omega)]; exact z1, by rw [gpo _ _ _ _ (by omega)]; exact z3, by simp; omega⟩
    · by_cases hj1 : j < vs.length
      · rw [List.getElem?_append_left hj1] at hj
        exact ((hms j y hj).to q86.ext).put _ (by omega)
      · by_cases hj2 : j = vs.length
        · subst hj2
          simp at hj
          subst hj
          rw [hvl]
          exact (m86.low (by omega)).put _ (by omega)
        · rw [List.getElem?_eq_none (by simp; omega)] at hj; cases hj
    · rw [show ((i + 1 : Nat) : Int) - 1 = (i : Int) - 1 + 1 from by omega]
      exact Has.of (by kernel_rfl)
  · -- no h1
    have hge : i = p.errs.length + 1 := by (have h9 : ¬ (i : Int) - 1 < (p.errs.length : Int) := by simpa using h1); omega
    refine Ok.exit ?_
    refine Ok.seq ?_
    refine Ok.region ?_
    refine OkO.load rfl rfl (ldg (n := 7) (by kernel_rfl) (by first | assumption | (simp (disch := first | omega | (simp only [hNw, hPt]; omega)) only [gn0, gn1, gn2, gn3, gn4, gn5, gp0, gno, gpo] <;> first | rfl | assumption | exact gp0 _ _ _ | exact gn0 _ _)) (by first | rfl | assumption)) ?_
    refine OkO.store rfl rfl rfl (sAc (n := 7) (ag := true) (by kernel_rfl) (by first | assumption | (simp (disch := first | omega | (simp only [hNw, hPt]; omega)) only [gn0, gn1, gn2, gn3, gn4, gn5, gp0, gno, gpo] <;> first | rfl | assumption | exact gp0 _ _ _ | exact gn0 _ _)) rfl (by first | rfl | assumption | exact ats _) (by first | rfl | exact spl_set _ _ _ (by first | assumption | omega | (simp; omega)))) ?_
    refine OkO.nil ?_
    refine Ok.ret ⟨.inr rfl, ?_⟩
    refine back_newQ (v := .agg (p.d ev (W.next + 2))) (resV_cell rfl (ldg (n := 7) (by kernel_rfl) (by first | assumption | (simp (disch := first | omega | (simp only [hNw, hPt]; omega)) only [gn0, gn1, gn2, gn3, gn4, gn5, gp0, gno, gpo] <;> first | rfl | assumption)) (by first | rfl | assumption)) resV_nil) rfl (by rw [← hW]; exact (by (try dsimp only); repeat (first | exact hg | apply Grow.new | (refine Grow.put ?_ _ (by first | omega | (simp only [hNw, hPt]; omega)))))) (duty_flat _ _ _) (fun H9 p1 p2 p3 => ⟨W.next + 2, rfl, p1, by omega, by simp only [hPt] at p3; omega, o, vs, by rw [p2, gpo _ _ _ _ (by omega)]; exact hmo, ho, by omega, fun j x hj => ?_⟩)
    have h9 := (hms j x hj).put (n := W.next + 1) (.cells (p.d ev (W.next + 2)) 114) (by omega)
    exact (h9.to ⟨Nat.le_of_eq p3.symm, fun n _ => p2 n⟩).low (by omega)
theorem c66 (m : Nat) (ev : AV) (p : Pst) (mb : Nat) (r : Int) (H : Heap)  : ∃ v H', RR (m + 1) (.fn 66 [.agg (p.d ev mb), I r]) H = some (v, H') ∧ v = .fn 88 [] [.ptr H.next 0, .ptr (H.next + 1) 0] ∧ Ret H H' ∧ H'.get H.next = some (.cells (p.d ev mb) 114) ∧ H'.get (H.next + 1) = some (.cells [I r] 3) ∧ H'.next = H.next + 2 := by
  show ∃ v H', evFn Try.prog (RR (m + 0)) 66 [.agg (p.d ev mb), I r] H = some (v, H') ∧ v = .fn 88 [] [.ptr H.next 0, .ptr (H.next + 1) 0] ∧ Ret H H' ∧ H'.get H.next = some (.cells (p.d ev mb) 114) ∧ H'.get (H.next + 1) = some (.cells [I r] 3) ∧ H'.next = H.next + 2
  refine fn_okE Try.func66 rfl rfl (by kernel_rfl) (by kernel_rfl) ?_
  obtain ⟨W, hW⟩ : ∃ W : Heap, W = ⟨H.t, H.next, H.next⟩ := ⟨_, rfl⟩
  have hg : ∀ n, W.get n = H.get n := fun n => by rw [hW]; rfl
  have hN : W.next = H.next := by rw [hW]
  have hE : ∀ G, Grow W G → Ext H G := fun G g => ⟨by rw [← hN]; exact g.next, fun n k => by rw [g.get n (by rw [hN]; exact k), hg]⟩
  have hG : Grow W W := Grow.refl (by rw [hW]; exact Nat.le_refl _)
  rw [← hW]
  refine Ok.seq ?_
  refine Ok.region ?_
  refine OkO.box rfl rfl ?_
  refine OkO.box rfl rfl ?_
  refine OkO.assign rfl rfl ?_
  refine OkO.nil ?_
  refine Ok.seq ?_
  refine Ok.region ?_
  refine OkO.makeFunc rfl rfl rfl ?_
  refine OkO.assign rfl rfl ?_
  refine OkO.nil ?_
  refine Ok.ret ⟨.inr rfl, ?_⟩
  exact back_newQ (resV_tmp rfl resV_nil) (by rw [← hN]; rfl) (by rw [← hW]; exact (by (try dsimp only); repeat (first | exact hG | apply Grow.new | (refine Grow.put ?_ _ (by first | omega | (simp only [hNw, hPt]; omega)))))) rfl (fun H' p1 p2 p3 => ⟨rfl, p1, by rw [p2, ← hN, gno _ _ _ (by simp only [hNw]; omega)]; exact gn0 _ _, by rw [p2, ← hN]; exact gn1 _ _ _, by rw [p3, ← hN]; rfl⟩)
end
end Go.Ev

set_option maxRecDepth 100000
set_option linter.unusedSimpArgs false
set_option linter.unusedVariables false
namespace Go.Ev
open Go Go.Proofs
noncomputable section
def lenM (p : Pst) (rows : List (List Int)) (i : Nat) : Nat := (mayL p ((i : Int) - 1) rows).length
theorem c88 (m : Nat) (l bd br K mb r : Nat) (ev : AV) (p : Pst) (rows : List (List Int)) (vs : List AV) (J : Nat → Heap → Prop) (S : Heap → Prop) (H : Heap) (hst : ∀ i G G', J i G → Ext G G' → J i G') (hss : ∀ G G', S G → Ext G G' → S G') (hJ : ∀ i G, J i G → (G.get bd).bind AObj.cs = some (p.d ev mb) ∧ (G.get br).bind AObj.cs = some [I (r : Int)] ∧ l < G.next ∧ ∃ o, G.get mb = some o ∧ MapO o I (mapF vs))
 (hvl : vs.length = p.errs.length + 1) (hvs : ∀ (i : Nat) (x : AV), vs[i]? = some x → lenOf x = some (lenM p rows i)) (hel : lenOf ev = some p.errs.length) (hpl : p.errs.length ≤ 1000)
 (hskip : ∀ i G, i ≤ p.errs.length → ¬ r ≤ lenM p rows i → J i G → J (i + 1) G)
 (hrd : ∀ i x G, i ≤ p.errs.length → vs[i]? = some x → r ≤ lenM p rows i → J i G → K ≤ G.lo → ∃ v H', RR m (.round l [I ((i : Int) - 1), x]) G = some (v, H') ∧ (∃ b, v = .bool b ∧ ((b = true ∧ J (i + 1) H') ∨ (b = false ∧ S H'))) ∧ K ≤ H'.lo ∧ H'.lo ≤ l ∧ G.next ≤ H'.next)
 (h0 : J 0 H) (hK : K ≤ H.lo) (hKl : K ≤ l) : ∃ v H', RR (m + 1) (.fn 88 [.yield l, .ptr bd 0, .ptr br 0]) H = some (v, H') ∧ (J (p.errs.length + 1) H' ∨ S H') ∧ K ≤ H'.lo := by
  show ∃ v H', evFn Try.prog (RR (m + 0)) 88 [.yield l, .ptr bd 0, .ptr br 0] H = some (v, H') ∧ (J (p.errs.length + 1) H' ∨ S H') ∧ K ≤ H'.lo
  refine fn_okE Try.func88 rfl rfl (by kernel_rfl) (by kernel_rfl) ?_
  obtain ⟨W, hW⟩ : ∃ W : Heap, W = ⟨H.t, H.next, H.next⟩ := ⟨_, rfl⟩
  have hg : ∀ n, W.get n = H.get n := fun n => by rw [hW]; rfl
  have hN : W.next = H.next := by rw [hW]
  have hE : ∀ G, Grow W G → Ext H G := fun G g => ⟨by rw [← hN]; exact g.next, fun n k => by rw [g.get n (by rw [hN]; exact k), hg]⟩
  have hG : Grow W W := Grow.refl (by rw [hW]; exact Nat.le_refl _)
  rw [← hW]
  clear hE hG
  have pev : ev.plain = true := lpl hel
  have hJW : J 0 W := hst _ H W h0 ⟨by omega, fun n _ => hg n⟩
  obtain ⟨w1, w2, w3, _⟩ := hJ _ W hJW
  have hKW : K ≤ W.lo := by rw [hW]; show K ≤ H.next; omega
  refine Ok.seq ?_
  refine Ok.region ?_
  refine OkO.assign rfl rfl ?_
  refine OkO.nil ?_
  refine Ok.block ?_
  refine Ok.loop (fun n9 s_ => ∃ i : Nat, n9 = (p.errs.length + 1) - i ∧ i ≤ (p.errs.length + 1) ∧ J i s_.H ∧ K ≤ s_.H.lo ∧ (s_.H = W ∨ s_.H.lo ≤ l) ∧ W.next ≤ s_.H.next ∧ Has 5 [(0, .yield l), (1, .ptr bd 0), (2, .ptr br 0), (4, I ((i : Int) - 1))] s_.T ∧ s_.D = []) ((p.errs.length + 1)) (by unfold loopFuel; omega)
    ⟨0, rfl, Nat.zero_le _, hJW, hKW, .inl rfl, Nat.le_refl _, Has.of (by kernel_rfl), rfl⟩ ?_
  rintro n9 ⟨T, D, G⟩ ⟨i, hn, hi, hji, hKG, hlo, hgn, ⟨f, hT⟩, hD⟩
  dsimp only at *
  subst hT hD
  obtain ⟨j1, j2, j3, o, jo, jm⟩ := hJ i G hji
  refine Ok.seq ?_
  refine Ok.seq ?_
  refine Ok.region ?_
  refine OkO.move rfl rfl ?_
  refine OkO.fieldAddr (o := 0) rfl (by kernel_rfl) rfl ?_
  refine OkO.fieldAddr (o := 0) rfl (by kernel_rfl) rfl ?_
  refine OkO.load rfl rfl (lda (n := 1) (by kernel_rfl) (by first | assumption | (simp (disch := first | omega | (simp only [hNw, hPt]; omega)) only [gn0, gn1, gn2, gn3, gn4, gn5, gp0, gno, gpo] <;> first | rfl | assumption | exact gp0 _ _ _ | exact gn0 _ _)) (by first | rfl | assumption)) ?_
  refine OkO.builtin rfl rfl rfl (bln (by kernel_rfl) (by first | assumption | rfl)) ?_
  refine OkO.bin rfl rfl rfl (bin_lss _ _) ?_
  refine OkO.nil ?_
  refine Ok.cond rfl (fun h1 => ?_) (fun h1 => ?_)
  · -- yes h1
    have hlt : i ≤ p.errs.length := by (have h9 : (i : Int) - 1 < (p.errs.length : Int) := by simpa using h1); omega
    obtain ⟨x, hx⟩ : ∃ x, vs[i]? = some x := ⟨_, List.getElem?_eq_getElem (by omega)⟩
    have hxl := hvs i x hx
    refine Ok.skip ?_
    refine Ok.seq ?_
    refine Ok.block ?_
    refine Ok.seq ?_
    refine Ok.region ?_
    refine OkO.fieldAddr (o := 6) rfl (by kernel_rfl) rfl ?_
    refine OkO.load rfl rfl (lda (n := 1) (by kernel_rfl) (by first | assumption | (simp (disch := first | omega | (simp only [hNw, hPt]; omega)) only [gn0, gn1, gn2, gn3, gn4, gn5, gp0, gno, gpo] <;> first | rfl | assumption | exact gp0 _ _ _ | exact gn0 _ _)) (by first | rfl | assumption)) ?_
    refine OkO.move rfl rfl ?_
    refine OkO.lookup (o := o) (f := mapF vs) ((i : Int) - 1) x rfl mapT112 keysI rfl rfl jo jm (by rw [mapF_at, hx]) ?_
    refine OkO.assign rfl rfl ?_
    refine OkO.nil ?_
    refine Ok.seq ?_
    refine Ok.region ?_
    refine OkO.move rfl rfl ?_
    refine OkO.builtin rfl rfl rfl (bln (by kernel_rfl) (by first | assumption | rfl)) ?_
    refine OkO.load rfl rfl (lda (n := 1) (by kernel_rfl) (by first | assumption | (simp (disch := first | omega | (simp only [hNw, hPt]; omega)) only [gn0, gn1, gn2, gn3, gn4, gn5, gp0, gno, gpo] <;> first | rfl | assumption | exact gp0 _ _ _ | exact gn0 _ _)) (by first | rfl | assumption)) ?_
    refine OkO.bin rfl rfl rfl (bin_geq _ _) ?_
    refine OkO.move rfl rfl ?_
    refine OkO.split (d := 22) rfl (fun g2 => ?_) (fun g2 => ?_)
    · -- true g2
      have hrl : r ≤ lenM p rows i := by simpa using g2
      refine OkO.move rfl rfl ?_
      refine OkO.move rfl rfl ?_
      refine OkO.move rfl rfl ?_
      refine OkO.roundE rfl rfl rfl rfl (hrd i x _ hlt hx hrl hji hKG) ?_
      rintro v H2 ⟨⟨b9, rfl, hbb⟩, jn2, jn3, jn4⟩
      refine OkO.un rfl rfl rfl ?_
      refine OkO.pick (b := true) rfl rfl (fun _ => rfl) nofun ?_
      refine OkO.nil ?_
      refine Ok.cond rfl (fun h3 => ?_) (fun h3 => ?_)
      · -- yes h3
        refine Ok.ret ⟨.inr rfl, ?_⟩
        have hb : b9 = false := by simpa using h3
        have hs2 : S H2 := by (rcases hbb with ⟨h, _⟩ | ⟨_, h⟩); (· rw [hb] at h; cases h); (· exact h)
        obtain ⟨H3, q1, q2, q3, q4, q5⟩ := back_any2 (H := H) (T := _) (G := H2) (fn := Try.f88) (P := Try.prog) (vs := []) rfl rfl (by omega)
        exact ⟨_, H3, q1, .inr (hss _ _ hs2 ⟨by omega, fun n _ => q2 n⟩), q4 K hK jn2⟩
      · -- no h3
        refine Ok.skip ?_
        refine Ok.region ?_
        refine OkO.move rfl rfl ?_
        refine OkO.bin rfl rfl rfl (bin_add (by omega) (by omega)) ?_
        refine OkO.assign rfl rfl ?_
        refine OkO.nil ?_
        have jn1 : J (i + 1) H2 := by (rcases hbb with ⟨_, h⟩ | ⟨h, _⟩); (· exact h); (· rw [h] at h3; simp at h3)
        refine ⟨(p.errs.length + 1) - (i + 1), by omega, i + 1, rfl, by omega, jn1, jn2, .inr jn3, ?_, ?_, rfl⟩
        · show W.next ≤ H2.next; omega
        · rw [show ((i + 1 : Nat) : Int) - 1 = (i : Int) - 1 + 1 from by omega]
          exact Has.of (by kernel_rfl)
    · -- false g2
      have hrl : ¬ r ≤ lenM p rows i := by simpa using g2
      refine OkO.skip rfl ?_
      refine OkO.skip rfl ?_
      refine OkO.skip rfl ?_
      refine OkO.skip rfl ?_
      refine OkO.skip rfl ?_
      refine OkO.pick (b := false) rfl rfl nofun (fun _ => rfl) ?_
      refine OkO.nil ?_
      refine Ok.condF rfl ?_
      refine Ok.skip ?_
      refine Ok.region ?_
      refine OkO.move rfl rfl ?_
      refine OkO.bin rfl rfl rfl (bin_add (by omega) (by omega)) ?_
      refine OkO.assign rfl rfl ?_
      refine OkO.nil ?_
      refine ⟨(p.errs.length + 1) - (i + 1), by omega, i + 1, rfl, by omega, hskip i _ hlt hrl hji, hKG, hlo, hgn, ?_, rfl⟩
      rw [show ((i + 1 : Nat) : Int) - 1 = (i : Int) - 1 + 1 from by omega]
      exact Has.of (by kernel_rfl)
  · -- no h1
    have hge : i = p.errs.length + 1 := by (have h9 : ¬ (i : Int) - 1 < (p.errs.length : Int) := by simpa using h1); omega
    refine Ok.exit ?_
    refine ⟨.inl rfl, ?_⟩
    subst hge
    obtain ⟨H2, q1, q2⟩ := back_any (H := H) (T := _) (G := G) (fn := Try.f88) (P := Try.prog) (vs := []) rfl rfl
    refine ⟨_, H2, q1, ?_⟩
    rcases q2 with ⟨q2, q3⟩ | ⟨q2, q3, q4⟩
    · rcases hlo with hz | hz
      · rw [hz] at hji
        rw [q2]; exact ⟨.inl (hst _ W H hji ⟨by omega, fun n _ => (hg n).symm⟩), hK⟩
      · exact absurd hz (by omega)
    · exact ⟨.inl (hst _ G H2 hji ⟨by omega, fun n _ => q2 n⟩), q4 K hK hKG⟩
end
end Go.Ev

set_option maxRecDepth 100000
set_option linter.unusedSimpArgs false
set_option linter.unusedVariables false
namespace Go.Ev
open Go Go.Proofs
noncomputable section
/-- Of a range that is at work: what was there, but for some blocks, and its own two. -/
structure RngJ (X : Heap) (bl : List Nat) (st : LoopState) (pd : Option Code) (ps : List Tmp) (sa bd : Code) (T0 : Tr AV) (G : Heap) : Prop where
  nx : X.next + 2 ≤ G.next
  get : ∀ j, j < X.next → j ∉ bl → G.get j = X.get j
  b0 : G.get X.next = some .defd
  b1 : G.get (X.next + 1) = some (.loop st pd T0 ps sa bd X.next)
theorem RngJ.to {X : Heap} {bl : List Nat} {st : LoopState} {pd : Option Code} {ps : List Tmp} {sa bd : Code} {T0 : Tr AV} {G G' : Heap} (h : RngJ X bl st pd ps sa bd T0 G) (e : Ext G G') : RngJ X bl st pd ps sa bd T0 G' :=
  ⟨Nat.le_trans h.nx e.next, fun j a c => by rw [e.get j (by have := h.nx; omega)]; exact h.get j a c, by rw [e.get _ (by have := h.nx; omega)]; exact h.b0, by rw [e.get _ (by have := h.nx; omega)]; exact h.b1⟩
theorem RngJ.start (X : Heap) (bl : List Nat) (ps : List Tmp) (sa bd : Code) (T0 : Tr AV) : RngJ X bl .ready none ps sa bd T0 ((X.new .defd).new (.loop .ready none T0 ps sa bd X.next)) :=
  ⟨by simp, fun j a _ => by rw [gno _ _ _ (by simp; omega), gno _ _ _ (by omega)], by rw [gno _ _ _ (by simp)]; exact gn0 _ _, by have := gn0 (X.new .defd) (.loop .ready none T0 ps sa bd X.next); simpa using this⟩
/-- Behind a range: what was there, but for some blocks. -/
theorem RngJ.behind {X : Heap} {bl : List Nat} {st : LoopState} {pd : Option Code} {ps : List Tmp} {sa bd : Code} {T0 : Tr AV} {G : Heap} (h : RngJ X bl st pd ps sa bd T0 G) {j : Nat} (a : j < X.next) (c : j ∉ bl) (o1 o2 : AObj) : ((G.put (X.next + 1) o1).put (X.next + 1) o2).get j = X.get j := by
  rw [gpo _ _ _ _ (by omega), gpo _ _ _ _ (by omega)]; exact h.get j a c
def possB (p : Pst) (rows : List (List Int)) (r : Nat) : Bool := (List.range (p.errs.length + 1)).any fun i => decide (r ≤ lenM p rows i)
theorem possB_no {p : Pst} {rows : List (List Int)} {r : Nat} (h : ∀ j, j < p.errs.length + 1 → ¬ r ≤ lenM p rows j) : possB p rows r = false := by
  unfold possB
  rw [List.any_eq_false]
  intro x hx
  rw [decide_eq_true_eq]
  exact h x (List.mem_range.1 hx)
theorem possB_yes {p : Pst} {rows : List (List Int)} {r i : Nat} (hi : i ≤ p.errs.length) (h : r ≤ lenM p rows i) : possB p rows r = true := by
  unfold possB
  rw [List.any_eq_true]
  exact ⟨i, List.mem_range.2 (by omega), by rw [decide_eq_true_eq]; exact h⟩
noncomputable def as64 : Code := match Try.f64.body.bind rangeOf with | some r => r.1 | none => .skip
noncomputable def bd64 : Code := match Try.f64.body.bind rangeOf with | some r => r.2 | none => .skip
theorem r64 (m N r i : Nat) (p : Pst) (rows : List (List Int)) (x : AV) (fl : Int) (T0 : Tr AV) (X G : Heap) (hH : Has 4 [(4, .ptr (N + 1) 0)] T0) (h : RngJ X [N + 1] .ready none [8, 9] as64 bd64 T0 G) (hN : N + 2 ≤ X.next) (hf : G.get (N + 1) = some (.cells [.bool false] 4)) (hi : i ≤ p.errs.length) (hr : r ≤ lenM p rows i) (hlo : N ≤ G.lo) :
    ∃ v H', RR (m + 1) (.round (X.next + 1) [I fl, x]) G = some (v, H') ∧ v = .bool false ∧ (RngJ X [N + 1] .done (some .ret) [8, 9] as64 bd64 T0 H' ∧ H'.get (N + 1) = some (.cells [.bool true] 4) ∧ ∃ i, i ≤ p.errs.length ∧ r ≤ lenM p rows i) ∧ N ≤ H'.lo ∧ H'.lo ≤ X.next + 1 ∧ G.next ≤ H'.next := by
  show ∃ v H', evRound Try.prog (RR m) (X.next + 1) [I fl, x] G = some (v, H') ∧ v = .bool false ∧ (RngJ X [N + 1] .done (some .ret) [8, 9] as64 bd64 T0 H' ∧ H'.get (N + 1) = some (.cells [.bool true] 4) ∧ ∃ i, i ≤ p.errs.length ∧ r ≤ lenM p rows i) ∧ N ≤ H'.lo ∧ H'.lo ≤ X.next + 1 ∧ G.next ≤ H'.next
  obtain ⟨fr, hT⟩ := hH
  subst hT
  have hnx := h.nx
  have hb0 := h.b0
  have hb1 := h.b1
  refine round_okR h.b1 rfl ?_
  refine Ok.skip ?_
  refine ⟨rfl, _, _, _, _, _, _, h.b1, ?_⟩
  refine Ok.block ?_
  refine Ok.seq ?_
  refine Ok.region ?_
  refine OkO.store rfl rfl rfl (sAc (n := 1) (ag := false) (by kernel_rfl) (by first | assumption | (simp (disch := first | omega | (simp only [hNw, hPt]; omega)) only [gn0, gn1, gn2, gn3, gn4, gn5, gp0, gno, gpo] <;> first | rfl | assumption | exact gp0 _ _ _ | exact gn0 _ _)) rfl (by first | rfl | assumption) (by first | rfl | exact spl_set _ _ _ (by first | assumption | omega | (simp; omega)))) ?_
  refine OkO.nil ?_
  refine Ok.ret ?_
  refine ⟨_, _, _, _, _, _, _, (by first | assumption | (simp (disch := first | omega | (simp only [hNw, hPt]; omega)) only [gn0, gn1, gn2, gn3, gn4, gn5, gp0, gno, gpo] <;> first | rfl | assumption | exact gp0 _ _ _ | exact gn0 _ _)), .inr (.inr ⟨rfl, rfl, ⟨⟨by simp; exact h.nx, fun j a c => ?_, (by first | assumption | (simp (disch := first | omega | (simp only [hNw, hPt]; omega)) only [gn0, gn1, gn2, gn3, gn4, gn5, gp0, gno, gpo] <;> first | rfl | assumption | exact gp0 _ _ _ | exact gn0 _ _)), (by first | assumption | (simp (disch := first | omega | (simp only [hNw, hPt]; omega)) only [gn0, gn1, gn2, gn3, gn4, gn5, gp0, gno, gpo] <;> first | rfl | assumption | exact gp0 _ _ _ | exact gn0 _ _))⟩, (by first | assumption | (simp (disch := first | omega | (simp only [hNw, hPt]; omega)) only [gn0, gn1, gn2, gn3, gn4, gn5, gp0, gno, gpo] <;> first | rfl | assumption | exact gp0 _ _ _ | exact gn0 _ _)), i, hi, hr⟩, ?_, ?_, ?_⟩)⟩
  · have c1 : j ≠ N + 1 := fun e => c (by simp [e])
    simp (disch := first | omega) only [gpo]; exact h.get j a c
  · simp only [Heap.lo_put]; omega
  · simp only [Heap.lo_put]; omega
  · simp
end
end Go.Ev

set_option maxRecDepth 100000
set_option linter.unusedSimpArgs false
set_option linter.unusedVariables false
namespace Go.Ev
open Go Go.Proofs
noncomputable section
theorem c64 (m : Nat) (ev : AV) (p : Pst) (mb r : Nat) (rows : List (List Int)) (H : Heap) (hM : ∃ o vs, H.get mb = some o ∧ MapO o I (mapF vs) ∧ vs.length = p.errs.length + 1 ∧ ∀ (j : Nat) (x : AV), vs[j]? = some x → Mine 0 H x 125 2 (ivCells (mayL p ((j : Int) - 1) rows))) (hmb : mb < H.next) (hel : lenOf ev = some p.errs.length) (hpl : p.errs.length ≤ 1000) : RR (m + 3) (.fn 64 [.agg (p.d ev mb), I (r : Int)]) H = some (.bool (possB p rows r), H) := by
  refine (R_fn _ _ _ _ _).trans ?_
  refine fn_ok Try.func64 rfl rfl (by kernel_rfl) (by kernel_rfl) ?_
  obtain ⟨W, hW⟩ : ∃ W : Heap, W = ⟨H.t, H.next, H.next⟩ := ⟨_, rfl⟩
  have hg : ∀ n, W.get n = H.get n := fun n => by rw [hW]; rfl
  have hN : W.next = H.next := by rw [hW]
  have hE : ∀ G, Grow W G → Ext H G := fun G g => ⟨by rw [← hN]; exact g.next, fun n k => by rw [g.get n (by rw [hN]; exact k), hg]⟩
  have hG : Grow W W := Grow.refl (by rw [hW]; exact Nat.le_refl _)
  rw [← hW]
  have pev : ev.plain = true := lpl hel
  refine Ok.seq ?_
  refine Ok.region ?_
  refine OkO.box rfl rfl ?_
  refine OkO.alloc (z := [.bool false]) rfl (by kernel_rfl) ?_
  refine OkO.nil ?_
  refine Ok.seq ?_
  refine Ok.seq ?_
  refine Ok.region ?_
  refine OkO.load rfl rfl (ldg (n := 7) (by kernel_rfl) (by first | assumption | (simp (disch := first | omega | (simp only [hNw, hPt]; omega)) only [gn0, gn1, gn2, gn3, gn4, gn5, gp0, gno, gpo] <;> first | rfl | assumption | exact gp0 _ _ _ | exact gn0 _ _)) (by first | rfl | assumption)) ?_
  refine OkO.move rfl rfl ?_
  refine OkO.callE rfl rfl rfl rfl rfl (c66 (m + 1) ev p mb (r : Int) _) ?_ -- "(sackung/alarm.duty).failures"
  rintro _ X ⟨rfl, q66, x1, x2, x3⟩
  simp only [hNw] at x1 x2 x3
  have n66 := q66.ext.next
  simp only [hNw] at n66
  have g66 : Grow W X := Grow.ret (by (try dsimp only); repeat (first | exact hG | apply Grow.new | (refine Grow.put ?_ _ (by first | omega | (simp only [hNw, hPt]; omega))))) q66
  have x0 : X.get (W.next + 1) = some (.cells [.bool false] 4) := by rw [q66.ext.get _ (by first | omega | (simp only [hNw, hPt]; omega))]; first | assumption | (simp (disch := first | omega | (simp only [hNw, hPt]; omega)) only [gn0, gn1, gn2, gn3, gn4, gn5, gp0, gno, gpo] <;> first | rfl | assumption | exact gp0 _ _ _ | exact gn0 _ _)
  refine OkO.nil ?_
  refine Ok.block ?_
  obtain ⟨o, vs, hmo, ho, hvl, hvm⟩ := hM
  refine Ok.rangeR rfl rfl (fun T0 hT0 => ?_)
  have hH : Has 4 [(4, .ptr (W.next + 1) 0)] T0 := by rw [hT0]; exact Has.of (by kernel_rfl)
  have hvs : ∀ (i : Nat) (x : AV), vs[i]? = some x → lenOf x = some (lenM p rows i) := fun i x hx => by (have h9 := (hvm i x hx).ivs.len; rw [List.length_map] at h9; exact h9)
  have xmo : X.get mb = some o := by rw [g66.get _ (by omega), hg]; exact hmo
  obtain ⟨v3, H3, k1, k2, k3⟩ := c88 (m + 1) (X.next + 1) (W.next + 2) (W.next + 3) W.next mb r ev p rows vs (fun i G => RngJ X [W.next + 1] .ready none [8, 9] as64 bd64 T0 G ∧ G.get (W.next + 1) = some (.cells [.bool false] 4) ∧ ∀ j, j < i → ¬ r ≤ lenM p rows j) (fun G => RngJ X [W.next + 1] .done (some .ret) [8, 9] as64 bd64 T0 G ∧ G.get (W.next + 1) = some (.cells [.bool true] 4) ∧ ∃ i, i ≤ p.errs.length ∧ r ≤ lenM p rows i) ((X.new .defd).new (.loop .ready none T0 [8, 9] as64 bd64 X.next)) (fun i G G1 h e => ⟨h.1.to e, by rw [e.get _ (by have h9 := h.1.nx; omega)]; exact h.2.1, h.2.2⟩) (fun G G1 h e => ⟨h.1.to e, by rw [e.get _ (by have h9 := h.1.nx; omega)]; exact h.2.1, h.2.2⟩) (fun i G h => ⟨by rw [h.1.get _ (by omega) (by simp <;> omega), x1] <;> rfl, by rw [h.1.get _ (by omega) (by simp <;> omega), x2] <;> rfl, by have h9 := h.1.nx; omega, o, by rw [h.1.get _ (by omega) (by simp <;> omega)]; exact xmo, ho⟩) hvl hvs hel hpl (fun i G hi hr h => ⟨h.1, h.2.1, fun j hj => by (by_cases e : j = i); (· subst e; exact hr); (· exact h.2.2 j (by omega))⟩) (fun i x G hi hx hr h hlo => by obtain ⟨v, H9, a1, a2, a3, a4, a5, a6⟩ := r64 m W.next r i p rows x ((i : Int) - 1) T0 X G hH h.1 (by omega) h.2.1 hi hr hlo; exact ⟨v, H9, a1, ⟨false, a2, .inr ⟨rfl, a3⟩⟩, a4, a5, a6⟩) ⟨RngJ.start _ _ _ _ _ _, by rw [gno _ _ _ (by simp; omega), gno _ _ _ (by omega)]; exact x0, fun j hj => absurd hj (Nat.not_lt_zero j)⟩ (by show W.next ≤ X.lo; exact g66.lo) (by omega)
  rcases k2 with k2 | k2
  · -- to its end
    refine ⟨v3, H3, k1, _, _, T0, [8, 9], as64, bd64, X.next, k2.1.b1, .inl ⟨rfl, rfl, ?_⟩⟩
    have g3 : Grow W H3 := ⟨by (have h9 := k2.1.nx; have h8 := g66.next; omega), fun j hj => (k2.1.get _ (by have h8 := g66.next; omega) (by simp; omega)).trans (g66.get j hj), k3⟩
    have y1 := k2.2.1
    have yd := k2.1.b0
    have hpb := possB_no k2.2.2
    have kn := k2.1.nx
    clear k1
    refine Ok.seq ?_
    refine Ok.region ?_
    refine OkO.store rfl rfl rfl (sAc (n := 1) (ag := false) (by kernel_rfl) (by first | assumption | (simp (disch := first | omega | (simp only [hNw, hPt]; omega)) only [gn0, gn1, gn2, gn3, gn4, gn5, gp0, gno, gpo] <;> first | rfl | assumption | exact gp0 _ _ _ | exact gn0 _ _)) rfl (by first | rfl | assumption) (by first | rfl | exact spl_set _ _ _ (by first | assumption | omega | (simp; omega)))) ?_
    refine OkO.nil ?_
    refine Ok.ret ⟨.inr rfl, ?_⟩
    rw [back_mark (d := X.next) (by first | assumption | (simp (disch := first | omega | (simp only [hNw, hPt]; omega)) only [gn0, gn1, gn2, gn3, gn4, gn5, gp0, gno, gpo] <;> first | rfl | assumption | exact gp0 _ _ _ | exact gn0 _ _))]
    exact back_flat (resV_cell rfl (lda (n := 1) (by kernel_rfl) (by first | assumption | (simp (disch := first | omega | (simp only [hNw, hPt]; omega)) only [gn0, gn1, gn2, gn3, gn4, gn5, gp0, gno, gpo] <;> first | rfl | assumption)) (by first | rfl | assumption)) resV_nil) (by rw [hpb]; rfl) rfl (by rw [← hW]; exact (by (try dsimp only); repeat (first | exact g3 | apply Grow.new | (refine Grow.put ?_ _ (by first | omega | (simp only [hNw, hPt]; omega))))))
  · -- returned
    refine ⟨v3, H3, k1, _, _, T0, [8, 9], as64, bd64, X.next, k2.1.b1, .inr (.inr ⟨rfl, rfl, ?_⟩)⟩
    have g3 : Grow W H3 := ⟨by (have h9 := k2.1.nx; have h8 := g66.next; omega), fun j hj => (k2.1.get _ (by have h8 := g66.next; omega) (by simp; omega)).trans (g66.get j hj), k3⟩
    have y1 := k2.2.1
    have yd := k2.1.b0
    have y1q : (H3.get (W.new (.cells (AV.agg (p.d ev mb)).cells 114)).next).bind AObj.cs = some [.bool true] := by rw [show H3.get (W.new (.cells (AV.agg (p.d ev mb)).cells 114)).next = _ from y1]; rfl
    obtain ⟨i, hi, hr⟩ := k2.2.2
    have hpb := possB_yes hi hr
    have kn := k2.1.nx
    refine ⟨.inr rfl, ?_⟩
    rw [back_mark (d := X.next) (by first | assumption | (simp (disch := first | omega | (simp only [hNw, hPt]; omega)) only [gn0, gn1, gn2, gn3, gn4, gn5, gp0, gno, gpo] <;> first | rfl | assumption | exact gp0 _ _ _ | exact gn0 _ _))]
    exact back_flat (resV_cell rfl (lda (n := 1) (by kernel_rfl) (by first | assumption | (simp (disch := first | omega | (simp only [hNw, hPt]; omega)) only [gn0, gn1, gn2, gn3, gn4, gn5, gp0, gno, gpo] <;> first | rfl | assumption)) (by first | rfl | assumption)) resV_nil) (by rw [hpb]; rfl) rfl (by rw [← hW]; exact (by (try dsimp only); repeat (first | exact g3 | apply Grow.new | (refine Grow.put ?_ _ (by first | omega | (simp only [hNw, hPt]; omega))))))
end
end Go.Ev

set_option maxRecDepth 100000
set_option linter.unusedSimpArgs false
set_option linter.unusedVariables false
namespace Go.Ev
open Go Go.Proofs
noncomputable section
def goodB (p : Pst) (r : List Int) : Bool := decide (r.length = p.errs.length) && r.all fun x => inB x (-1000) 2000
def faultE (p : Pst) (rows : List (List Int)) : Int := if p.ok = true then (if 60 < rows.length then 3 else if rows.all (goodB p) = true then 0 else 2) else 1
theorem faultE_facts {p : Pst} {rows : List (List Int)} (h : faultE p rows = 0) : p.ok = true ∧ rows.length ≤ 60 ∧ (∀ r ∈ rows, r.length = p.errs.length) ∧ ∀ r ∈ rows, ∀ x ∈ r, -1000 ≤ x ∧ x ≤ 2000 := by
  unfold faultE at h
  split at h
  · rename_i h1
    split at h
    · cases h
    · rename_i h2
      split at h
      · rename_i h3
        rw [List.all_eq_true] at h3
        refine ⟨h1, by omega, fun r hr => ?_, fun r hr x hx => ?_⟩
        · have := h3 r hr
          unfold goodB at this
          rw [Bool.and_eq_true, decide_eq_true_eq] at this
          exact this.1
        · have := h3 r hr
          unfold goodB at this
          rw [Bool.and_eq_true, List.all_eq_true] at this
          have := this.2 x hx
          unfold inB at this
          rw [Bool.and_eq_true, decide_eq_true_eq, decide_eq_true_eq] at this
          exact this
      · cases h
  · cases h
def goodN (p : Pst) (rows : List (List Int)) : Nat := (rows.takeWhile (goodB p)).length
theorem goodN_at {p : Pst} {rows : List (List Int)} {i : Nat} (hi : i < rows.length) (h1 : ∀ (j : Nat) (hj : j < rows.length), j < i → goodB p rows[j] = true) (h2 : goodB p rows[i] = false) : goodN p rows = i := by
  unfold goodN
  induction rows generalizing i with
  | nil => simp at hi
  | cons a l ih =>
    cases i with
    | zero => simp at h2; simp [h2]
    | succ i =>
      have h0 : goodB p a = true := h1 0 (by simp) (by omega)
      rw [List.takeWhile_cons, if_pos h0, List.length_cons, ih (i := i) (by simpa using hi) (fun j hj hji => h1 (j + 1) (by simpa using hj) (by omega)) (by simpa using h2)]
theorem goodN_all {p : Pst} : ∀ {rows : List (List Int)}, (∀ r ∈ rows, goodB p r = true) → goodN p rows = rows.length
  | [], _ => rfl
  | a :: l, h => by
    unfold goodN
    rw [List.takeWhile_cons, if_pos (h a (by simp)), List.length_cons, List.length_cons]
    have := goodN_all (p := p) (rows := l) fun r hr => h r (by simp [hr])
    unfold goodN at this
    rw [this]
theorem goodN_le (p : Pst) (rows : List (List Int)) : goodN p rows ≤ rows.length := (List.takeWhile_sublist _).length_le
theorem goodN_eq {p : Pst} : ∀ {rows : List (List Int)}, goodN p rows = rows.length → ∀ r ∈ rows, goodB p r = true
  | [], _, r, hr => by cases hr
  | a :: l, h, r, hr => by
    unfold goodN at h
    rw [List.takeWhile_cons] at h
    split at h
    · rename_i ha
      rw [List.length_cons, List.length_cons] at h
      rcases List.mem_cons.1 hr with rfl | hr
      · exact ha
      · exact goodN_eq (rows := l) (by unfold goodN; omega) r hr
    · simp at h
theorem goodN_lt {p : Pst} {rows : List (List Int)} : goodN p rows < rows.length ↔ rows.all (goodB p) = false := by
  constructor
  · intro h
    cases ha : rows.all (goodB p) with
    | false => rfl
    | true =>
      rw [List.all_eq_true] at ha
      rw [goodN_all ha] at h
      omega
  · intro h
    rw [List.all_eq_false] at h
    obtain ⟨r, hr, hb⟩ := h
    have := goodN_le p rows
    by_cases e : goodN p rows = rows.length
    · exact absurd (goodN_eq e r hr) hb
    · omega
theorem good_bad {p : Pst} {r : List Int} {k : Nat} (hk : k < r.length) (h : inB r[k] (-1000) 2000 = false) : goodB p r = false := by
  unfold goodB
  rw [Bool.and_eq_false_iff]
  exact .inr (List.all_eq_false.2 ⟨r[k], List.getElem_mem hk, by simp [h]⟩)
theorem good_len {p : Pst} {r : List Int} (h : r.length ≠ p.errs.length) : goodB p r = false := by
  unfold goodB
  rw [Bool.and_eq_false_iff]
  exact .inl (decide_eq_false h)
theorem good_yes {p : Pst} {r : List Int} (h : r.length = p.errs.length) (h2 : ∀ (k : Nat) (hk : k < r.length), inB r[k] (-1000) 2000 = true) : goodB p r = true := by
  unfold goodB
  rw [Bool.and_eq_true, decide_eq_true_eq, List.all_eq_true]
  exact ⟨h, all_of_get (p := fun x => inB x (-1000) 2000 = true) h2⟩
theorem c59 (m : Nat) (ev : AV) (p : Pst) (H : Heap) (hV : Ints H ev p.errs) (hl : p.errs.length ≤ 1000000) : RR (m + 3) (.fn 59 [.agg (p.c ev)]) H = some (.bool p.ok, H) := by
  refine (R_fn _ _ _ _ _).trans ?_
  refine fn_ok Try.func59 rfl rfl (by kernel_rfl) (by kernel_rfl) ?_
  obtain ⟨W, hW⟩ : ∃ W : Heap, W = ⟨H.t, H.next, H.next⟩ := ⟨_, rfl⟩
  have hg : ∀ n, W.get n = H.get n := fun n => by rw [hW]; rfl
  have hN : W.next = H.next := by rw [hW]
  have hE : ∀ G, Grow W G → Ext H G := fun G g => ⟨by rw [← hN]; exact g.next, fun n k => by rw [g.get n (by rw [hN]; exact k), hg]⟩
  have hG : Grow W W := Grow.refl (by rw [hW]; exact Nat.le_refl _)
  rw [← hW]
  have pev : ev.plain = true := lpl hV.len
  have hel := hV.len
  refine Ok.seq ?_
  refine Ok.region ?_
  refine OkO.box rfl rfl ?_
  refine OkO.assign rfl rfl ?_
  refine OkO.nil ?_
  refine Ok.seq ?_
  refine Ok.region ?_
  refine OkO.buildArr (z := [.int .i64 0, .int .i64 0]) (sz := 1) rfl (by kernel_rfl) rfl rfl ?_
  refine OkO.buildArr (z := [.int .i64 0, .int .i64 0]) (sz := 1) rfl (by kernel_rfl) rfl rfl ?_
  refine OkO.alloc (z := [.int .i64 0, .int .i64 0]) rfl (by kernel_rfl) ?_
  refine OkO.alloc (z := [.int .i64 0, .int .i64 0]) rfl (by kernel_rfl) ?_
  refine OkO.store rfl rfl rfl (sAc (n := 2) (ag := true) (by kernel_rfl) (by first | assumption | (simp (disch := first | omega | (simp only [hNw, hPt]; omega)) only [gn0, gn1, gn2, gn3, gn4, gn5, gp0, gno, gpo] <;> first | rfl | assumption | exact gp0 _ _ _ | exact gn0 _ _)) rfl (by first | rfl | assumption) (by first | rfl | exact spl_set _ _ _ (by first | assumption | omega | (simp; omega)))) ?_
  refine OkO.store rfl rfl rfl (sAc (n := 2) (ag := true) (by kernel_rfl) (by first | assumption | (simp (disch := first | omega | (simp only [hNw, hPt]; omega)) only [gn0, gn1, gn2, gn3, gn4, gn5, gp0, gno, gpo] <;> first | rfl | assumption | exact gp0 _ _ _ | exact gn0 _ _)) rfl (by first | rfl | assumption) (by first | rfl | exact spl_set _ _ _ (by first | assumption | omega | (simp; omega)))) ?_
  refine OkO.nil ?_
  refine Ok.seq ?_
  refine Ok.region ?_
  refine OkO.buildArr (z := [.int .i64 0, .int .i64 0]) (sz := 1) rfl (by kernel_rfl) rfl rfl ?_
  refine OkO.fieldAddr (o := 0) rfl (by kernel_rfl) rfl ?_
  refine OkO.load rfl rfl (lda (n := 1) (by kernel_rfl) (by first | assumption | (simp (disch := first | omega | (simp only [hNw, hPt]; omega)) only [gn0, gn1, gn2, gn3, gn4, gn5, gp0, gno, gpo] <;> first | rfl | assumption | exact gp0 _ _ _ | exact gn0 _ _)) (by first | rfl | assumption)) ?_
  refine OkO.builtin rfl rfl rfl (bln (by kernel_rfl) (by first | assumption | rfl)) ?_
  refine OkO.callV rfl rfl rfl rfl rfl (c68 (m + 1) _ _ _ _) ?_ -- "(sackung/alarm.ends).has"
  refine OkO.move rfl rfl ?_
  refine OkO.split (d := 12) rfl (fun g1 => ?_) (fun g1 => ?_)
  · -- true g1
    refine OkO.fieldAddr (o := 0) rfl (by kernel_rfl) rfl ?_
    refine OkO.load rfl rfl (lda (n := 1) (by kernel_rfl) (by first | assumption | (simp (disch := first | omega | (simp only [hNw, hPt]; omega)) only [gn0, gn1, gn2, gn3, gn4, gn5, gp0, gno, gpo] <;> first | rfl | assumption | exact gp0 _ _ _ | exact gn0 _ _)) (by first | rfl | assumption)) ?_
    refine OkO.buildArr (z := [.int .i64 0, .int .i64 0]) (sz := 1) rfl (by kernel_rfl) rfl rfl ?_
    refine OkO.makeFunc rfl rfl rfl ?_
    refine OkO.callV rfl rfl rfl rfl rfl (c82r (m + 1) ev (.fn 68 [.agg [I 0, I 1000]] []) p.errs (p.errs.all fun x => inB x 0 1000) (p.errs.map fun x => inB x 0 1000) (by rw [List.all_map]; rfl) _ (hV.ext (hE _ (by (try dsimp only); repeat (first | exact hG | apply Grow.new | (refine Grow.put ?_ _ (by first | omega | (simp only [hNw, hPt]; omega))))))) hl (by simp) (fun i x b9 h1 h2 => ⟨68, [.agg [I 0, I 1000], I x], rfl, fun G _ => by rw [List.getElem?_map, h1] at h2; cases h2; exact c68 _ 0 1000 x G⟩)) ?_ -- "sackung/alarm.all[int]"
    refine OkO.pick (b := true) rfl rfl (fun _ => rfl) nofun ?_
    refine OkO.move rfl rfl ?_
    refine OkO.split (d := 19) rfl (fun g2 => ?_) (fun g2 => ?_)
    · -- true g2
      refine OkO.load rfl rfl (ldg (n := 2) (by kernel_rfl) (by first | assumption | (simp (disch := first | omega | (simp only [hNw, hPt]; omega)) only [gn0, gn1, gn2, gn3, gn4, gn5, gp0, gno, gpo] <;> first | rfl | assumption | exact gp0 _ _ _ | exact gn0 _ _)) (by first | rfl | assumption)) ?_
      refine OkO.fieldAddr (o := 1) rfl (by kernel_rfl) rfl ?_
      refine OkO.load rfl rfl (lda (n := 1) (by kernel_rfl) (by first | assumption | (simp (disch := first | omega | (simp only [hNw, hPt]; omega)) only [gn0, gn1, gn2, gn3, gn4, gn5, gp0, gno, gpo] <;> first | rfl | assumption | exact gp0 _ _ _ | exact gn0 _ _)) (by first | rfl | assumption)) ?_
      refine OkO.callV rfl rfl rfl rfl rfl (c68 (m + 1) _ _ _ _) ?_ -- "(sackung/alarm.ends).has"
      refine OkO.pick (b := true) rfl rfl (fun _ => rfl) nofun ?_
      refine OkO.move rfl rfl ?_
      refine OkO.split (d := 25) rfl (fun g3 => ?_) (fun g3 => ?_)
      · -- true g3
        refine OkO.load rfl rfl (ldg (n := 2) (by kernel_rfl) (by first | assumption | (simp (disch := first | omega | (simp only [hNw, hPt]; omega)) only [gn0, gn1, gn2, gn3, gn4, gn5, gp0, gno, gpo] <;> first | rfl | assumption | exact gp0 _ _ _ | exact gn0 _ _)) (by first | rfl | assumption)) ?_
        refine OkO.fieldAddr (o := 2) rfl (by kernel_rfl) rfl ?_
        refine OkO.load rfl rfl (lda (n := 1) (by kernel_rfl) (by first | assumption | (simp (disch := first | omega | (simp only [hNw, hPt]; omega)) only [gn0, gn1, gn2, gn3, gn4, gn5, gp0, gno, gpo] <;> first | rfl | assumption | exact gp0 _ _ _ | exact gn0 _ _)) (by first | rfl | assumption)) ?_
        refine OkO.callV rfl rfl rfl rfl rfl (c68 (m + 1) _ _ _ _) ?_ -- "(sackung/alarm.ends).has"
        refine OkO.pick (b := true) rfl rfl (fun _ => rfl) nofun ?_
        refine OkO.move rfl rfl ?_
        refine OkO.split (d := 31) rfl (fun g4 => ?_) (fun g4 => ?_)
        · -- true g4
          refine OkO.buildArr (z := [.int .i64 0, .int .i64 0]) (sz := 1) rfl (by kernel_rfl) rfl rfl ?_
          refine OkO.fieldAddr (o := 3) rfl (by kernel_rfl) rfl ?_
          refine OkO.load rfl rfl (lda (n := 1) (by kernel_rfl) (by first | assumption | (simp (disch := first | omega | (simp only [hNw, hPt]; omega)) only [gn0, gn1, gn2, gn3, gn4, gn5, gp0, gno, gpo] <;> first | rfl | assumption | exact gp0 _ _ _ | exact gn0 _ _)) (by first | rfl | assumption)) ?_
          refine OkO.callV rfl rfl rfl rfl rfl (c68 (m + 1) _ _ _ _) ?_ -- "(sackung/alarm.ends).has"
          refine OkO.pick (b := true) rfl rfl (fun _ => rfl) nofun ?_
          refine OkO.move rfl rfl ?_
          refine OkO.split (d := 37) rfl (fun g5 => ?_) (fun g5 => ?_)
          · -- true g5
            refine OkO.load rfl rfl (ldg (n := 2) (by kernel_rfl) (by first | assumption | (simp (disch := first | omega | (simp only [hNw, hPt]; omega)) only [gn0, gn1, gn2, gn3, gn4, gn5, gp0, gno, gpo] <;> first | rfl | assumption | exact gp0 _ _ _ | exact gn0 _ _)) (by first | rfl | assumption)) ?_
            refine OkO.fieldAddr (o := 4) rfl (by kernel_rfl) rfl ?_
            refine OkO.load rfl rfl (lda (n := 1) (by kernel_rfl) (by first | assumption | (simp (disch := first | omega | (simp only [hNw, hPt]; omega)) only [gn0, gn1, gn2, gn3, gn4, gn5, gp0, gno, gpo] <;> first | rfl | assumption | exact gp0 _ _ _ | exact gn0 _ _)) (by first | rfl | assumption)) ?_
            refine OkO.callV rfl rfl rfl rfl rfl (c68 (m + 1) _ _ _ _) ?_ -- "(sackung/alarm.ends).has"
            refine OkO.pick (b := true) rfl rfl (fun _ => rfl) nofun ?_
            refine OkO.move rfl rfl ?_
            refine OkO.split (d := 43) rfl (fun g6 => ?_) (fun g6 => ?_)
            · -- true g6
              refine OkO.load rfl rfl (ldg (n := 2) (by kernel_rfl) (by first | assumption | (simp (disch := first | omega | (simp only [hNw, hPt]; omega)) only [gn0, gn1, gn2, gn3, gn4, gn5, gp0, gno, gpo] <;> first | rfl | assumption | exact gp0 _ _ _ | exact gn0 _ _)) (by first | rfl | assumption)) ?_
              refine OkO.fieldAddr (o := 5) rfl (by kernel_rfl) rfl ?_
              refine OkO.load rfl rfl (lda (n := 1) (by kernel_rfl) (by first | assumption | (simp (disch := first | omega | (simp only [hNw, hPt]; omega)) only [gn0, gn1, gn2, gn3, gn4, gn5, gp0, gno, gpo] <;> first | rfl | assumption | exact gp0 _ _ _ | exact gn0 _ _)) (by first | rfl | assumption)) ?_
              refine OkO.callV rfl rfl rfl rfl rfl (c68 (m + 1) _ _ _ _) ?_ -- "(sackung/alarm.ends).has"
              refine OkO.pick (b := true) rfl rfl (fun _ => rfl) nofun ?_
              refine OkO.assign rfl rfl ?_
              refine OkO.nil ?_
              refine Ok.ret ⟨.inr rfl, ?_⟩
              exact back_flat rfl (congrArg AV.bool (by unfold Pst.ok; clear hV hE hG hg hN hW; first | (simp_all; done) | (simp [*]; done))) rfl (by rw [← hW]; exact (by (try dsimp only); repeat (first | exact hG | apply Grow.new | (refine Grow.put ?_ _ (by first | omega | (simp only [hNw, hPt]; omega))))))
            · -- false g6
              refine OkO.skip rfl ?_
              refine OkO.skip rfl ?_
              refine OkO.skip rfl ?_
              refine OkO.skip rfl ?_
              refine OkO.pick (b := false) rfl rfl nofun (fun _ => rfl) ?_
              refine OkO.assign rfl rfl ?_
              refine OkO.nil ?_
              refine Ok.ret ⟨.inr rfl, ?_⟩
              exact back_flat rfl (congrArg AV.bool (by unfold Pst.ok; clear hV hE hG hg hN hW; first | (simp_all; done) | (simp [*]; done))) rfl (by rw [← hW]; exact (by (try dsimp only); repeat (first | exact hG | apply Grow.new | (refine Grow.put ?_ _ (by first | omega | (simp only [hNw, hPt]; omega))))))
          · -- false g5
            refine OkO.skip rfl ?_
            refine OkO.skip rfl ?_
            refine OkO.skip rfl ?_
            refine OkO.skip rfl ?_
            refine OkO.pick (b := false) rfl rfl nofun (fun _ => rfl) ?_
            refine OkO.move rfl rfl ?_
            refine OkO.skip rfl ?_
            refine OkO.skip rfl ?_
            refine OkO.skip rfl ?_
            refine OkO.skip rfl ?_
            refine OkO.pick (b := false) rfl rfl nofun (fun _ => rfl) ?_
            refine OkO.assign rfl rfl ?_
            refine OkO.nil ?_
            refine Ok.ret ⟨.inr rfl, ?_⟩
            exact back_flat rfl (congrArg AV.bool (by unfold Pst.ok; clear hV hE hG hg hN hW; first | (simp_all; done) | (simp [*]; done))) rfl (by rw [← hW]; exact (by (try dsimp only); repeat (first | exact hG | apply Grow.new | (refine Grow.put ?_ _ (by first | omega | (simp only [hNw, hPt]; omega))))))
        · -- false g4
          refine OkO.skip rfl ?_
          refine OkO.skip rfl ?_
          refine OkO.skip rfl ?_
          refine OkO.skip rfl ?_
          refine OkO.pick (b := false) rfl rfl nofun (fun _ => rfl) ?_
          refine OkO.move rfl rfl ?_
          refine OkO.skip rfl ?_
          refine OkO.skip rfl ?_
          refine OkO.skip rfl ?_
          refine OkO.skip rfl ?_
          refine OkO.pick (b := false) rfl rfl nofun (fun _ => rfl) ?_
          refine OkO.move rfl rfl ?_
          refine OkO.skip rfl ?_
          refine OkO.skip rfl ?_
          refine OkO.skip rfl ?_
          refine OkO.skip rfl ?_
          refine OkO.pick (b := false) rfl rfl nofun (fun _ => rfl) ?_
          refine OkO.assign rfl rfl ?_
          refine OkO.nil ?_
          refine Ok.ret ⟨.inr rfl, ?_⟩
          exact back_flat rfl (congrArg AV.bool (by unfold Pst.ok; clear hV hE hG hg hN hW; first | (simp_all; done) | (simp [*]; done))) rfl (by rw [← hW]; exact (by (try dsimp only); repeat (first | exact hG | apply Grow.new | (refine Grow.put ?_ _ (by first | omega | (simp only [hNw, hPt]; omega))))))
      · -- false g3
        refine OkO.skip rfl ?_
        refine OkO.skip rfl ?_
        refine OkO.skip rfl ?_
        refine OkO.skip rfl ?_
        refine OkO.pick (b := false) rfl rfl nofun (fun _ => rfl) ?_
        refine OkO.move rfl rfl ?_
        refine OkO.skip rfl ?_
        refine OkO.skip rfl ?_
        refine OkO.skip rfl ?_
        refine OkO.skip rfl ?_
        refine OkO.pick (b := false) rfl rfl nofun (fun _ => rfl) ?_
        refine OkO.move rfl rfl ?_
        refine OkO.skip rfl ?_
        refine OkO.skip rfl ?_
        refine OkO.skip rfl ?_
        refine OkO.skip rfl ?_
        refine OkO.pick (b := false) rfl rfl nofun (fun _ => rfl) ?_
        refine OkO.move rfl rfl ?_
        refine OkO.skip rfl ?_
        refine OkO.skip rfl ?_
        refine OkO.skip rfl ?_
        refine OkO.skip rfl ?_
        refine OkO.pick (b := false) rfl rfl nofun (fun _ => rfl) ?_
        refine OkO.assign rfl rfl ?_
        refine OkO.nil ?_
        refine Ok.ret ⟨.inr rfl, ?_⟩
        exact back_flat rfl (congrArg AV.bool (by unfold Pst.ok; clear hV hE hG hg hN hW; first | (simp_all; done) | (simp [*]; done))) rfl (by rw [← hW]; exact (by (try dsimp only); repeat (first | exact hG | apply Grow.new | (refine Grow.put ?_ _ (by first | omega | (simp only [hNw, hPt]; omega))))))
    · -- false g2
      refine OkO.skip rfl ?_
      refine OkO.skip rfl ?_
      refine OkO.skip rfl ?_
      refine OkO.skip rfl ?_
      refine OkO.pick (b := false) rfl rfl nofun (fun _ => rfl) ?_
      refine OkO.move rfl rfl ?_
      refine OkO.skip rfl ?_
      refine OkO.skip rfl ?_
      refine OkO.skip rfl ?_
      refine OkO.skip rfl ?_
      refine OkO.pick (b := false) rfl rfl nofun (fun _ => rfl) ?_
      refine OkO.move rfl rfl ?_
      refine OkO.skip rfl ?_
      refine OkO.skip rfl ?_
      refine OkO.skip rfl ?_
      refine OkO.skip rfl ?_
      refine OkO.pick (b := false) rfl rfl nofun (fun _ => rfl) ?_
      refine OkO.move rfl rfl ?_
      refine OkO.skip rfl ?_
      refine OkO.skip rfl ?_
      refine OkO.skip rfl ?_
      refine OkO.skip rfl ?_
      refine OkO.pick (b := false) rfl rfl nofun (fun _ => rfl) ?_
      refine OkO.move rfl rfl ?_
      refine OkO.skip rfl ?_
      refine OkO.skip rfl ?_
      refine OkO.skip rfl ?_
      refine OkO.skip rfl ?_
      refine OkO.pick (b := false) rfl rfl nofun (fun _ => rfl) ?_
      refine OkO.assign rfl rfl ?_
      refine OkO.nil ?_
      refine Ok.ret ⟨.inr rfl, ?_⟩
      exact back_flat rfl (congrArg AV.bool (by unfold Pst.ok; clear hV hE hG hg hN hW; first | (simp_all; done) | (simp [*]; done))) rfl (by rw [← hW]; exact (by (try dsimp only); repeat (first | exact hG | apply Grow.new | (refine Grow.put ?_ _ (by first | omega | (simp only [hNw, hPt]; omega))))))
  · -- false g1
    refine OkO.skip rfl ?_
    refine OkO.skip rfl ?_
    refine OkO.skip rfl ?_
    refine OkO.skip rfl ?_
    refine OkO.skip rfl ?_
    refine OkO.pick (b := false) rfl rfl nofun (fun _ => rfl) ?_
    refine OkO.move rfl rfl ?_
    refine OkO.skip rfl ?_
    refine OkO.skip rfl ?_
    refine OkO.skip rfl ?_
    refine OkO.skip rfl ?_
    refine OkO.pick (b := false) rfl rfl nofun (fun _ => rfl) ?_
    refine OkO.move rfl rfl ?_
    refine OkO.skip rfl ?_
    refine OkO.skip rfl ?_
    refine OkO.skip rfl ?_
    refine OkO.skip rfl ?_
    refine OkO.pick (b := false) rfl rfl nofun (fun _ => rfl) ?_
    refine OkO.move rfl rfl ?_
    refine OkO.skip rfl ?_
    refine OkO.skip rfl ?_
    refine OkO.skip rfl ?_
    refine OkO.skip rfl ?_
    refine OkO.pick (b := false) rfl rfl nofun (fun _ => rfl) ?_
    refine OkO.move rfl rfl ?_
    refine OkO.skip rfl ?_
    refine OkO.skip rfl ?_
    refine OkO.skip rfl ?_
    refine OkO.skip rfl ?_
    refine OkO.pick (b := false) rfl rfl nofun (fun _ => rfl) ?_
    refine OkO.move rfl rfl ?_
    refine OkO.skip rfl ?_
    refine OkO.skip rfl ?_
    refine OkO.skip rfl ?_
    refine OkO.skip rfl ?_
    refine OkO.pick (b := false) rfl rfl nofun (fun _ => rfl) ?_
    refine OkO.assign rfl rfl ?_
    refine OkO.nil ?_
    refine Ok.ret ⟨.inr rfl, ?_⟩
    exact back_flat rfl (congrArg AV.bool (by unfold Pst.ok; clear hV hE hG hg hN hW; first | (simp_all; done) | (simp [*]; done))) rfl (by rw [← hW]; exact (by (try dsimp only); repeat (first | exact hG | apply Grow.new | (refine Grow.put ?_ _ (by first | omega | (simp only [hNw, hPt]; omega))))))
theorem c19 (m : Nat) (ev : AV) (p : Pst) (H : Heap) (hV : Ints H ev p.errs) (hl : p.errs.length ≤ 1000000) : RR (m + 4) (.fn 19 [.agg (p.c ev)]) H = some (I (if p.ok = true then 0 else 1), H) := by
  refine (R_fn _ _ _ _ _).trans ?_
  refine fn_ok Try.func19 rfl rfl (by kernel_rfl) (by kernel_rfl) ?_
  obtain ⟨W, hW⟩ : ∃ W : Heap, W = ⟨H.t, H.next, H.next⟩ := ⟨_, rfl⟩
  have hg : ∀ n, W.get n = H.get n := fun n => by rw [hW]; rfl
  have hN : W.next = H.next := by rw [hW]
  have hE : ∀ G, Grow W G → Ext H G := fun G g => ⟨by rw [← hN]; exact g.next, fun n k => by rw [g.get n (by rw [hN]; exact k), hg]⟩
  have hG : Grow W W := Grow.refl (by rw [hW]; exact Nat.le_refl _)
  rw [← hW]
  have pev : ev.plain = true := lpl hV.len
  have hel := hV.len
  refine Ok.seq ?_
  refine Ok.region ?_
  refine OkO.box rfl rfl ?_
  refine OkO.assign rfl rfl ?_
  refine OkO.nil ?_
  refine Ok.seq ?_
  refine Ok.seq ?_
  refine Ok.region ?_
  refine OkO.load rfl rfl (ldg (n := 6) (by kernel_rfl) (by first | assumption | (simp (disch := first | omega | (simp only [hNw, hPt]; omega)) only [gn0, gn1, gn2, gn3, gn4, gn5, gp0, gno, gpo] <;> first | rfl | assumption | exact gp0 _ _ _ | exact gn0 _ _)) (by first | rfl | assumption)) ?_
  refine OkO.callV rfl rfl rfl rfl rfl (c59 (m + 0) ev p _ (hV.ext (hE _ (by (try dsimp only); repeat (first | exact hG | apply Grow.new | (refine Grow.put ?_ _ (by first | omega | (simp only [hNw, hPt]; omega))))))) hl) ?_ -- "(sackung/alarm.Post).valid"
  refine OkO.un rfl rfl rfl ?_
  refine OkO.nil ?_
  refine Ok.cond rfl (fun h1 => ?_) (fun h1 => ?_)
  · -- yes h1
    have hb : p.ok = false := by simpa using h1
    refine Ok.seq ?_
    refine Ok.region ?_
    refine OkO.assign rfl rfl ?_
    refine OkO.nil ?_
    refine Ok.ret ⟨.inr rfl, ?_⟩
    exact back_flat rfl (by rw [hb]; rfl) rfl (by rw [← hW]; exact (by (try dsimp only); repeat (first | exact hG | apply Grow.new | (refine Grow.put ?_ _ (by first | omega | (simp only [hNw, hPt]; omega))))))
  · -- no h1
    have hb : p.ok = true := by simpa using h1
    refine Ok.skip ?_
    refine Ok.seq ?_
    refine Ok.region ?_
    refine OkO.assign rfl rfl ?_
    refine OkO.nil ?_
    refine Ok.ret ⟨.inr rfl, ?_⟩
    exact back_flat rfl (by rw [hb]; rfl) rfl (by rw [← hW]; exact (by (try dsimp only); repeat (first | exact hG | apply Grow.new | (refine Grow.put ?_ _ (by first | omega | (simp only [hNw, hPt]; omega))))))
end
end Go.Ev

set_option maxRecDepth 100000
set_option linter.unusedSimpArgs false
set_option linter.unusedVariables false
namespace Go.Ev
open Go Go.Proofs
noncomputable section
theorem c85 (m : Nat) (ev rv : AV) (p : Pst) (rows : List (List Int)) (H : Heap) (hV : Ints H ev p.errs) (hRs : LstAt H rv rows) (hpl : p.errs.length ≤ 100000) (hrl : rows.length ≤ 100000) (hlens9 : ∀ r ∈ rows, r.length ≤ 100000) : RR (m + 2) (.fn 85 [.agg (p.c ev), rv]) H = some (I (goodN p rows : Int), H) := by
  refine (R_fn _ _ _ _ _).trans ?_
  refine fn_ok Try.func85 rfl rfl (by kernel_rfl) (by kernel_rfl) ?_
  obtain ⟨W, hW⟩ : ∃ W : Heap, W = ⟨H.t, H.next, H.next⟩ := ⟨_, rfl⟩
  have hg : ∀ n, W.get n = H.get n := fun n => by rw [hW]; rfl
  have hN : W.next = H.next := by rw [hW]
  have hE : ∀ G, Grow W G → Ext H G := fun G g => ⟨by rw [← hN]; exact g.next, fun n k => by rw [g.get n (by rw [hN]; exact k), hg]⟩
  have hG : Grow W W := Grow.refl (by rw [hW]; exact Nat.le_refl _)
  rw [← hW]
  have pev : ev.plain = true := lpl hV.len
  have hel := hV.len
  have hrlen := hRs.len
  refine Ok.seq ?_
  refine Ok.region ?_
  refine OkO.box rfl rfl ?_
  refine OkO.assign rfl rfl ?_
  refine OkO.nil ?_
  refine Ok.scope ?_
  refine Ok.seq ?_
  refine Ok.region ?_
  refine OkO.assign rfl rfl ?_
  refine OkO.nil ?_
  refine Ok.seq ?_
  refine Ok.label ?_
  refine Ok.seq ?_
  refine Ok.seq ?_
  refine Ok.region ?_
  refine OkO.move rfl rfl ?_
  refine OkO.builtin rfl rfl rfl (bln (by kernel_rfl) (by first | assumption | rfl)) ?_
  refine OkO.move rfl rfl ?_
  refine OkO.nil ?_
  refine Ok.block ?_
  refine Ok.loop (fun n s => ∃ i : Nat, n = rows.length - i ∧ i ≤ rows.length ∧ (∀ (j : Nat) (hj : j < rows.length), j < i → goodB p rows[j] = true) ∧ Has 6 [(2, .ptr W.next 0), (5, I (i : Int)), (10, rv), (11, I (rows.length : Int)), (12, I (i : Int))] s.T ∧ s.D = [] ∧ s.H = W.new (.cells (p.c ev) 30)) (rows.length) (by unfold loopFuel; omega)
    ⟨0, rfl, Nat.zero_le _, nofun, Has.of (by kernel_rfl), rfl, rfl⟩ ?_
  rintro n ⟨T, D, G⟩ ⟨i, hn, hi, hall, ⟨f, hT⟩, hD, hGG⟩
  dsimp only at *
  subst hT hD
  skip
  subst hGG
  refine Ok.seq ?_
  refine Ok.region ?_
  refine OkO.bin rfl rfl rfl (bin_lss _ _) ?_
  refine OkO.nil ?_
  refine Ok.seq ?_
  refine Ok.cond rfl (fun h1 => ?_) (fun h1 => ?_)
  · -- yes h1
    have hlt : i < rows.length := by simpa using h1
    have hll := hlens9 rows[i] (List.getElem_mem hlt)
    obtain ⟨x, rb, ro, rcs, r1_, r2_, r3_, r4_, r5_⟩ := (hRs.ext (hE _ (by repeat (first | exact hG | apply Grow.new)))).at_ i hlt
    have hxl := r5_.len
    refine Ok.skip ?_
    refine Ok.seq ?_
    refine Ok.block ?_
    refine Ok.seq ?_
    refine Ok.region ?_
    refine OkO.index (sz := 1) (n := i) rfl rfl rfl (by kernel_rfl) (by first | assumption | rfl | exact slAt_slice (by omega) | exact slAt_opn (by omega)) ?_ -- index ('Go.Operand.tmp', 10) ('Go.Operand.tmp', 12)
    refine OkO.load rfl rfl (lda (n := 1) (by kernel_rfl) (by first | assumption | (simp (disch := first | omega | (simp only [hNw, hPt]; omega)) only [gn0, gn1, gn2, gn3, gn4, gn5, gp0, gno, gpo] <;> first | rfl | assumption | exact gp0 _ _ _ | exact gn0 _ _)) (by first | rfl | assumption)) ?_
    refine OkO.assign rfl rfl ?_
    refine OkO.nil ?_
    refine Ok.seq ?_
    refine Ok.seq ?_
    refine Ok.region ?_
    refine OkO.move rfl rfl ?_
    refine OkO.builtin rfl rfl rfl (bln (by kernel_rfl) (by first | assumption | rfl)) ?_
    refine OkO.fieldAddr (o := 0) rfl (by kernel_rfl) rfl ?_
    refine OkO.load rfl rfl (lda (n := 1) (by kernel_rfl) (by first | assumption | (simp (disch := first | omega | (simp only [hNw, hPt]; omega)) only [gn0, gn1, gn2, gn3, gn4, gn5, gp0, gno, gpo] <;> first | rfl | assumption | exact gp0 _ _ _ | exact gn0 _ _)) (by first | rfl | assumption)) ?_
    refine OkO.builtin rfl rfl rfl (bln (by kernel_rfl) (by first | assumption | rfl)) ?_
    refine OkO.bin rfl rfl rfl (bin_neq _ _) ?_
    refine OkO.nil ?_
    refine Ok.cond rfl (fun h2 => ?_) (fun h2 => ?_)
    · -- yes h2
      have hgl : rows[i].length ≠ p.errs.length := by (intro e; rw [e] at h2; simp at h2)
      refine Ok.exit ?_
      refine Ok.seq ?_
      refine Ok.region ?_
      refine OkO.move rfl rfl ?_
      refine OkO.assign rfl rfl ?_
      refine OkO.nil ?_
      refine Ok.ret ⟨.inr rfl, ?_⟩
      exact back_flat rfl (congrArg (fun z : Nat => I (z : Int)) ((goodN_at hlt hall (good_len hgl)).symm)) rfl (by rw [← hW]; exact (by repeat (first | exact hG | apply Grow.new)))
    · -- no h2
      have hgl : rows[i].length = p.errs.length := by (have h9 : (rows[i].length : Int) = (p.errs.length : Int) := by simpa using h2); omega
      refine Ok.skip ?_
      refine Ok.seq ?_
      refine Ok.seq ?_
      refine Ok.region ?_
      refine OkO.move rfl rfl ?_
      refine OkO.builtin rfl rfl rfl (bln (by kernel_rfl) (by first | assumption | rfl)) ?_
      refine OkO.move rfl rfl ?_
      refine OkO.nil ?_
      refine Ok.block ?_
      refine Ok.loop (fun n s => ∃ k : Nat, n = rows[i].length - k ∧ k ≤ rows[i].length ∧ (∀ (q : Nat) (hq : q < rows[i].length), q < k → inB rows[i][q] (-1000) 2000 = true) ∧ Has 6 [(2, .ptr W.next 0), (5, I (i : Int)), (10, rv), (11, I (rows.length : Int)), (12, I (i : Int)), (22, x), (23, I (rows[i].length : Int)), (24, I (k : Int))] s.T ∧ s.D = [] ∧ s.H = W.new (.cells (p.c ev) 30)) (rows[i].length) (by unfold loopFuel; omega)
        ⟨0, rfl, Nat.zero_le _, nofun, Has.of (by kernel_rfl), rfl, rfl⟩ ?_
      rintro n ⟨T, D, G⟩ ⟨k, hn2, hk, hall2, ⟨f, hT⟩, hD, hGG⟩
      dsimp only at *
      subst hT hD
      skip
      subst hGG
      refine Ok.seq ?_
      refine Ok.region ?_
      refine OkO.bin rfl rfl rfl (bin_lss _ _) ?_
      refine OkO.nil ?_
      refine Ok.seq ?_
      refine Ok.cond rfl (fun h3 => ?_) (fun h3 => ?_)
      · -- yes h3
        have hkl : k < rows[i].length := by simpa using h3
        obtain ⟨xb, xo, xcs, x1, x2, x3, x4⟩ := r5_.at' k hkl
        refine Ok.skip ?_
        refine Ok.seq ?_
        refine Ok.block ?_
        refine Ok.seq ?_
        refine Ok.region ?_
        refine OkO.index (sz := 1) (n := k) rfl rfl rfl (by kernel_rfl) (by first | assumption | rfl | exact slAt_slice (by omega) | exact slAt_opn (by omega)) ?_ -- index ('Go.Operand.tmp', 22) ('Go.Operand.tmp', 24)
        refine OkO.load rfl rfl (lda (n := 1) (by kernel_rfl) (by first | assumption | (simp (disch := first | omega | (simp only [hNw, hPt]; omega)) only [gn0, gn1, gn2, gn3, gn4, gn5, gp0, gno, gpo] <;> first | rfl | assumption | exact gp0 _ _ _ | exact gn0 _ _)) (by first | rfl | assumption)) ?_
        refine OkO.assign rfl rfl ?_
        refine OkO.nil ?_
        refine Ok.seq ?_
        refine Ok.region ?_
        refine OkO.buildArr (z := [.int .i64 0, .int .i64 0]) (sz := 1) rfl (by kernel_rfl) rfl rfl ?_
        refine OkO.move rfl rfl ?_
        refine OkO.callV rfl rfl rfl rfl rfl (c68 (m + 0) _ _ _ _) ?_ -- "(sackung/alarm.ends).has"
        refine OkO.un rfl rfl rfl ?_
        refine OkO.nil ?_
        refine Ok.cond rfl (fun h4 => ?_) (fun h4 => ?_)
        · -- yes h4
          have hb9 : inB rows[i][k] (-1000) 2000 = false := by simpa using h4
          refine Ok.exit ?_
          refine Ok.seq ?_
          refine Ok.region ?_
          refine OkO.move rfl rfl ?_
          refine OkO.assign rfl rfl ?_
          refine OkO.nil ?_
          refine Ok.ret ⟨.inr rfl, ?_⟩
          exact back_flat rfl (congrArg (fun z : Nat => I (z : Int)) ((goodN_at hlt hall (good_bad hkl hb9)).symm)) rfl (by rw [← hW]; exact (by repeat (first | exact hG | apply Grow.new)))
        · -- no h4
          refine Ok.skip ?_
          refine Ok.region ?_
          refine OkO.bin rfl rfl rfl (bin_add (by omega) (by omega)) ?_
          refine OkO.move rfl rfl ?_
          refine OkO.nil ?_
          refine ⟨rows[i].length - (k + 1), by omega, k + 1, rfl, by omega, fun q hq hqk => ?_, Has.of (by kernel_rfl), rfl, rfl⟩
          by_cases e : q = k
          · subst e; simpa using h4
          · exact hall2 q hq (by omega)
      · -- no h3
        have hge2 : k = rows[i].length := by simp at h3; omega
        refine Ok.exit ?_
        refine Ok.region ?_
        refine OkO.move rfl rfl ?_
        refine OkO.bin rfl rfl rfl (bin_add (by omega) (by omega)) ?_
        refine OkO.assign rfl rfl ?_
        refine OkO.nil ?_
        refine Ok.region ?_
        refine OkO.bin rfl rfl rfl (bin_add (by omega) (by omega)) ?_
        refine OkO.move rfl rfl ?_
        refine OkO.nil ?_
        refine ⟨rows.length - (i + 1), by omega, i + 1, rfl, by omega, fun j hj hji => ?_, Has.of (by kernel_rfl), rfl, rfl⟩
        by_cases e : j = i
        · subst e; exact good_yes hgl fun q hq => hall2 q hq (by omega)
        · exact hall j hj (by omega)
  · -- no h1
    have hge : i = rows.length := by simp at h1; omega
    refine Ok.exit ?_
    refine Ok.seq ?_
    refine Ok.region ?_
    refine OkO.move rfl rfl ?_
    refine OkO.assign rfl rfl ?_
    refine OkO.nil ?_
    refine Ok.ret ⟨.inr rfl, ?_⟩
    exact back_flat rfl (congrArg (fun z : Nat => I (z : Int)) (by rw [goodN_all (all_of_get fun j hj => hall j hj (by omega)), hge])) rfl (by rw [← hW]; exact (by repeat (first | exact hG | apply Grow.new)))
theorem c62 (m : Nat) (ev rv : AV) (p : Pst) (rows : List (List Int)) (H : Heap) (hV : Ints H ev p.errs) (hRs : LstAt H rv rows) (hpl : p.errs.length ≤ 100000) (hrl : rows.length ≤ 100000) (hlens9 : ∀ r ∈ rows, r.length ≤ 100000) : RR (m + 5) (.fn 62 [.agg (p.c ev), rv]) H = some (I (faultE p rows), H) := by
  refine (R_fn _ _ _ _ _).trans ?_
  refine fn_ok Try.func62 rfl rfl (by kernel_rfl) (by kernel_rfl) ?_
  obtain ⟨W, hW⟩ : ∃ W : Heap, W = ⟨H.t, H.next, H.next⟩ := ⟨_, rfl⟩
  have hg : ∀ n, W.get n = H.get n := fun n => by rw [hW]; rfl
  have hN : W.next = H.next := by rw [hW]
  have hE : ∀ G, Grow W G → Ext H G := fun G g => ⟨by rw [← hN]; exact g.next, fun n k => by rw [g.get n (by rw [hN]; exact k), hg]⟩
  have hG : Grow W W := Grow.refl (by rw [hW]; exact Nat.le_refl _)
  rw [← hW]
  have pev : ev.plain = true := lpl hV.len
  have hel := hV.len
  have hrlen := hRs.len
  refine Ok.seq ?_
  refine Ok.region ?_
  refine OkO.box rfl rfl ?_
  refine OkO.assign rfl rfl ?_
  refine OkO.nil ?_
  refine Ok.seq ?_
  refine Ok.seq ?_
  refine Ok.region ?_
  refine OkO.load rfl rfl (ldg (n := 6) (by kernel_rfl) (by first | assumption | (simp (disch := first | omega | (simp only [hNw, hPt]; omega)) only [gn0, gn1, gn2, gn3, gn4, gn5, gp0, gno, gpo] <;> first | rfl | assumption | exact gp0 _ _ _ | exact gn0 _ _)) (by first | rfl | assumption)) ?_
  refine OkO.callV rfl rfl rfl rfl rfl (c19 (m + 0) ev p _ (hV.ext (hE _ (by (try dsimp only); repeat (first | exact hG | apply Grow.new | (refine Grow.put ?_ _ (by first | omega | (simp only [hNw, hPt]; omega))))))) (by omega)) ?_ -- "sackung/alarm.CheckPost"
  refine OkO.assign rfl rfl ?_
  refine OkO.nil ?_
  refine Ok.seq ?_
  refine Ok.region ?_
  refine OkO.move rfl rfl ?_
  refine OkO.bin rfl rfl rfl (bin_neq _ _) ?_
  refine OkO.nil ?_
  refine Ok.cond rfl (fun h1 => ?_) (fun h1 => ?_)
  · -- yes h1
    have hb : p.ok = false := by (cases hq : p.ok; (· rfl); (· rw [hq] at h1; simp at h1))
    refine Ok.seq ?_
    refine Ok.region ?_
    refine OkO.move rfl rfl ?_
    refine OkO.assign rfl rfl ?_
    refine OkO.nil ?_
    refine Ok.ret ⟨.inr rfl, ?_⟩
    exact back_flat rfl (congrArg I (by rw [faultE, hb]; rfl)) rfl (by rw [← hW]; exact (by (try dsimp only); repeat (first | exact hG | apply Grow.new | (refine Grow.put ?_ _ (by first | omega | (simp only [hNw, hPt]; omega))))))
  · -- no h1
    have hb : p.ok = true := by (cases hq : p.ok; (· rw [hq] at h1; simp at h1); (· rfl))
    refine Ok.skip ?_
    refine Ok.seq ?_
    refine Ok.seq ?_
    refine Ok.region ?_
    refine OkO.move rfl rfl ?_
    refine OkO.builtin rfl rfl rfl (bln (by kernel_rfl) (by first | assumption | rfl)) ?_
    refine OkO.bin rfl rfl rfl (bin_gtr _ _) ?_
    refine OkO.nil ?_
    refine Ok.cond rfl (fun h2 => ?_) (fun h2 => ?_)
    · -- yes h2
      have hb2 : 60 < rows.length := by (have h9 : (60 : Int) < (rows.length : Int) := by simpa using h2); omega
      refine Ok.seq ?_
      refine Ok.region ?_
      refine OkO.assign rfl rfl ?_
      refine OkO.nil ?_
      refine Ok.ret ⟨.inr rfl, ?_⟩
      exact back_flat rfl (congrArg I (by rw [faultE, hb, if_pos rfl, if_pos hb2])) rfl (by rw [← hW]; exact (by (try dsimp only); repeat (first | exact hG | apply Grow.new | (refine Grow.put ?_ _ (by first | omega | (simp only [hNw, hPt]; omega))))))
    · -- no h2
      have hb2 : ¬ 60 < rows.length := by (have h9 : ¬ (60 : Int) < (rows.length : Int) := by simpa using h2); omega
      refine Ok.skip ?_
      refine Ok.seq ?_
      refine Ok.seq ?_
      refine Ok.region ?_
      refine OkO.load rfl rfl (ldg (n := 6) (by kernel_rfl) (by first | assumption | (simp (disch := first | omega | (simp only [hNw, hPt]; omega)) only [gn0, gn1, gn2, gn3, gn4, gn5, gp0, gno, gpo] <;> first | rfl | assumption | exact gp0 _ _ _ | exact gn0 _ _)) (by first | rfl | assumption)) ?_
      refine OkO.move rfl rfl ?_
      refine OkO.callV rfl rfl rfl rfl rfl (c85 (m + 2) ev rv p rows _ (hV.ext (hE _ (by (try dsimp only); repeat (first | exact hG | apply Grow.new | (refine Grow.put ?_ _ (by first | omega | (simp only [hNw, hPt]; omega))))))) (hRs.ext (hE _ (by (try dsimp only); repeat (first | exact hG | apply Grow.new | (refine Grow.put ?_ _ (by first | omega | (simp only [hNw, hPt]; omega))))))) hpl hrl hlens9) ?_ -- "(sackung/alarm.Post).rows"
      refine OkO.move rfl rfl ?_
      refine OkO.builtin rfl rfl rfl (bln (by kernel_rfl) (by first | assumption | rfl)) ?_
      refine OkO.bin rfl rfl rfl (bin_lss _ _) ?_
      refine OkO.nil ?_
      refine Ok.cond rfl (fun h3 => ?_) (fun h3 => ?_)
      · -- yes h3
        have hb3 := goodN_lt.1 (show goodN p rows < rows.length from by (have h9 : (goodN p rows : Int) < (rows.length : Int) := by simpa using h3); omega)
        refine Ok.seq ?_
        refine Ok.region ?_
        refine OkO.assign rfl rfl ?_
        refine OkO.nil ?_
        refine Ok.ret ⟨.inr rfl, ?_⟩
        exact back_flat rfl (congrArg I (by rw [faultE, hb, if_pos rfl, if_neg hb2, hb3]; rfl)) rfl (by rw [← hW]; exact (by (try dsimp only); repeat (first | exact hG | apply Grow.new | (refine Grow.put ?_ _ (by first | omega | (simp only [hNw, hPt]; omega))))))
      · -- no h3
        have hb3 : rows.all (goodB p) = true := by (cases hq : rows.all (goodB p); (· have h8 := goodN_lt.2 hq; have h9 : ¬ (goodN p rows : Int) < (rows.length : Int) := (by simpa using h3); omega); (· rfl))
        refine Ok.skip ?_
        refine Ok.seq ?_
        refine Ok.region ?_
        refine OkO.assign rfl rfl ?_
        refine OkO.nil ?_
        refine Ok.ret ⟨.inr rfl, ?_⟩
        exact back_flat rfl (congrArg I (by rw [faultE, hb, if_pos rfl, if_neg hb2, hb3]; rfl)) rfl (by rw [← hW]; exact (by (try dsimp only); repeat (first | exact hG | apply Grow.new | (refine Grow.put ?_ _ (by first | omega | (simp only [hNw, hPt]; omega))))))
theorem c24 (m : Nat) (ev : AV) (p : Pst) (H : Heap) (hV : Ints H ev p.errs) (hl : p.errs.length ≤ 100000) : RR (m + 2) (.fn 24 [.agg (p.c ev)]) H = some (.bool p.ok, H) := by
  refine (R_fn _ _ _ _ _).trans ?_
  refine fn_ok Try.func24 rfl rfl (by kernel_rfl) (by kernel_rfl) ?_
  obtain ⟨W, hW⟩ : ∃ W : Heap, W = ⟨H.t, H.next, H.next⟩ := ⟨_, rfl⟩
  have hg : ∀ n, W.get n = H.get n := fun n => by rw [hW]; rfl
  have hN : W.next = H.next := by rw [hW]
  have hE : ∀ G, Grow W G → Ext H G := fun G g => ⟨by rw [← hN]; exact g.next, fun n k => by rw [g.get n (by rw [hN]; exact k), hg]⟩
  have hG : Grow W W := Grow.refl (by rw [hW]; exact Nat.le_refl _)
  rw [← hW]
  have pev : ev.plain = true := lpl hV.len
  have hel := hV.len
  refine Ok.seq ?_
  refine Ok.region ?_
  refine OkO.box rfl rfl ?_
  refine OkO.assign rfl rfl ?_
  refine OkO.nil ?_
  refine Ok.seq ?_
  refine Ok.seq ?_
  refine Ok.region ?_
  refine OkO.assign rfl rfl ?_
  refine OkO.nil ?_
  refine Ok.block ?_
  refine Ok.loop (fun n s => ∃ i : Nat, n = p.errs.length - i ∧ i ≤ p.errs.length ∧ (∀ (j : Nat) (hj : j < p.errs.length), j < i → inB p.errs[j] 0 1000 = true) ∧ Has 6 [(1, .ptr W.next 0), (3, I (i : Int))] s.T ∧ s.D = [] ∧ s.H = W.new (.cells (p.c ev) 24)) (p.errs.length) (by unfold loopFuel; omega)
    ⟨0, rfl, Nat.zero_le _, nofun, Has.of (by kernel_rfl), rfl, rfl⟩ ?_
  rintro n ⟨T, D, G⟩ ⟨i, hn, hi, hall, ⟨f, hT⟩, hD, hGG⟩
  dsimp only at *
  subst hT hD
  skip
  subst hGG
  refine Ok.seq ?_
  refine Ok.seq ?_
  refine Ok.region ?_
  refine OkO.move rfl rfl ?_
  refine OkO.fieldAddr (o := 0) rfl (by kernel_rfl) rfl ?_
  refine OkO.load rfl rfl (lda (n := 1) (by kernel_rfl) (by first | assumption | (simp (disch := first | omega | (simp only [hNw, hPt]; omega)) only [gn0, gn1, gn2, gn3, gn4, gn5, gp0, gno, gpo] <;> first | rfl | assumption | exact gp0 _ _ _ | exact gn0 _ _)) (by first | rfl | assumption)) ?_
  refine OkO.builtin rfl rfl rfl (bln (by kernel_rfl) (by first | assumption | rfl)) ?_
  refine OkO.bin rfl rfl rfl (bin_lss _ _) ?_
  refine OkO.nil ?_
  refine Ok.cond rfl (fun h1 => ?_) (fun h1 => ?_)
  · -- yes h1
    have hlt : i < p.errs.length := by simpa using h1
    obtain ⟨xb, xo, xcs, x1, x2, x3, x4⟩ := (hV.ext (hE _ (by repeat (first | exact hG | apply Grow.new)))).at' i hlt
    refine Ok.skip ?_
    refine Ok.seq ?_
    refine Ok.block ?_
    refine Ok.seq ?_
    refine Ok.region ?_
    refine OkO.fieldAddr (o := 0) rfl (by kernel_rfl) rfl ?_
    refine OkO.load rfl rfl (lda (n := 1) (by kernel_rfl) (by first | assumption | (simp (disch := first | omega | (simp only [hNw, hPt]; omega)) only [gn0, gn1, gn2, gn3, gn4, gn5, gp0, gno, gpo] <;> first | rfl | assumption | exact gp0 _ _ _ | exact gn0 _ _)) (by first | rfl | assumption)) ?_
    refine OkO.move rfl rfl ?_
    refine OkO.index (sz := 1) (n := i) rfl rfl rfl (by kernel_rfl) (by first | assumption | rfl | exact slAt_slice (by omega) | exact slAt_opn (by omega)) ?_ -- index ('Go.Operand.tmp', 12) ('Go.Operand.tmp', 13)
    refine OkO.load rfl rfl (lda (n := 1) (by kernel_rfl) (by first | assumption | (simp (disch := first | omega | (simp only [hNw, hPt]; omega)) only [gn0, gn1, gn2, gn3, gn4, gn5, gp0, gno, gpo] <;> first | rfl | assumption | exact gp0 _ _ _ | exact gn0 _ _)) (by first | rfl | assumption)) ?_
    refine OkO.callV rfl rfl rfl rfl rfl (c36 (m + 0) _ _ _ _) ?_ -- "sackung/sackungref04.In"
    refine OkO.un rfl rfl rfl ?_
    refine OkO.nil ?_
    refine Ok.cond rfl (fun h2 => ?_) (fun h2 => ?_)
    · -- yes h2
      have hb9 : inB p.errs[i] 0 1000 = false := by simpa using h2
      refine Ok.seq ?_
      refine Ok.region ?_
      refine OkO.assign rfl rfl ?_
      refine OkO.nil ?_
      refine Ok.ret ⟨.inr rfl, ?_⟩
      exact back_flat rfl (congrArg AV.bool (by unfold Pst.ok; rw [show (p.errs.all fun x => inB x 0 1000) = false from List.all_eq_false.2 ⟨p.errs[i], List.getElem_mem hlt, by rw [hb9]; simp⟩]; simp)) rfl (by rw [← hW]; exact (by repeat (first | exact hG | apply Grow.new)))
    · -- no h2
      refine Ok.skip ?_
      refine Ok.region ?_
      refine OkO.move rfl rfl ?_
      refine OkO.bin rfl rfl rfl (bin_add (by omega) (by omega)) ?_
      refine OkO.assign rfl rfl ?_
      refine OkO.nil ?_
      refine ⟨p.errs.length - (i + 1), by omega, i + 1, rfl, by omega, fun j hj hji => ?_, Has.of (by kernel_rfl), rfl, rfl⟩
      by_cases e : j = i
      · subst e; simpa using h2
      · exact hall j hj (by omega)
  · -- no h1
    have hge : i = p.errs.length := by simp at h1; omega
    have hae : (p.errs.all fun x => inB x 0 1000) = true := List.all_eq_true.2 (all_of_get (p := fun x => inB x 0 1000 = true) fun j hj => hall j hj (by omega))
    refine Ok.exit ?_
    refine Ok.seq ?_
    refine Ok.region ?_
    refine OkO.fieldAddr (o := 0) rfl (by kernel_rfl) rfl ?_
    refine OkO.load rfl rfl (lda (n := 1) (by kernel_rfl) (by first | assumption | (simp (disch := first | omega | (simp only [hNw, hPt]; omega)) only [gn0, gn1, gn2, gn3, gn4, gn5, gp0, gno, gpo] <;> first | rfl | assumption | exact gp0 _ _ _ | exact gn0 _ _)) (by first | rfl | assumption)) ?_
    refine OkO.builtin rfl rfl rfl (bln (by kernel_rfl) (by first | assumption | rfl)) ?_
    refine OkO.callV rfl rfl rfl rfl rfl (c36 (m + 0) _ _ _ _) ?_ -- "sackung/sackungref04.In"
    refine OkO.move rfl rfl ?_
    refine OkO.split (d := 22) rfl (fun g3 => ?_) (fun g3 => ?_)
    · -- true g3
      refine OkO.fieldAddr (o := 1) rfl (by kernel_rfl) rfl ?_
      refine OkO.load rfl rfl (lda (n := 1) (by kernel_rfl) (by first | assumption | (simp (disch := first | omega | (simp only [hNw, hPt]; omega)) only [gn0, gn1, gn2, gn3, gn4, gn5, gp0, gno, gpo] <;> first | rfl | assumption | exact gp0 _ _ _ | exact gn0 _ _)) (by first | rfl | assumption)) ?_
      refine OkO.callV rfl rfl rfl rfl rfl (c36 (m + 0) _ _ _ _) ?_ -- "sackung/sackungref04.In"
      refine OkO.pick (b := true) rfl rfl (fun _ => rfl) nofun ?_
      refine OkO.move rfl rfl ?_
      refine OkO.split (d := 27) rfl (fun g4 => ?_) (fun g4 => ?_)
      · -- true g4
        refine OkO.fieldAddr (o := 2) rfl (by kernel_rfl) rfl ?_
        refine OkO.load rfl rfl (lda (n := 1) (by kernel_rfl) (by first | assumption | (simp (disch := first | omega | (simp only [hNw, hPt]; omega)) only [gn0, gn1, gn2, gn3, gn4, gn5, gp0, gno, gpo] <;> first | rfl | assumption | exact gp0 _ _ _ | exact gn0 _ _)) (by first | rfl | assumption)) ?_
        refine OkO.callV rfl rfl rfl rfl rfl (c36 (m + 0) _ _ _ _) ?_ -- "sackung/sackungref04.In"
        refine OkO.pick (b := true) rfl rfl (fun _ => rfl) nofun ?_
        refine OkO.move rfl rfl ?_
        refine OkO.split (d := 32) rfl (fun g5 => ?_) (fun g5 => ?_)
        · -- true g5
          refine OkO.fieldAddr (o := 3) rfl (by kernel_rfl) rfl ?_
          refine OkO.load rfl rfl (lda (n := 1) (by kernel_rfl) (by first | assumption | (simp (disch := first | omega | (simp only [hNw, hPt]; omega)) only [gn0, gn1, gn2, gn3, gn4, gn5, gp0, gno, gpo] <;> first | rfl | assumption | exact gp0 _ _ _ | exact gn0 _ _)) (by first | rfl | assumption)) ?_
          refine OkO.callV rfl rfl rfl rfl rfl (c36 (m + 0) _ _ _ _) ?_ -- "sackung/sackungref04.In"
          refine OkO.pick (b := true) rfl rfl (fun _ => rfl) nofun ?_
          refine OkO.move rfl rfl ?_
          refine OkO.split (d := 37) rfl (fun g6 => ?_) (fun g6 => ?_)
          · -- true g6
            refine OkO.fieldAddr (o := 4) rfl (by kernel_rfl) rfl ?_
            refine OkO.load rfl rfl (lda (n := 1) (by kernel_rfl) (by first | assumption | (simp (disch := first | omega | (simp only [hNw, hPt]; omega)) only [gn0, gn1, gn2, gn3, gn4, gn5, gp0, gno, gpo] <;> first | rfl | assumption | exact gp0 _ _ _ | exact gn0 _ _)) (by first | rfl | assumption)) ?_
            refine OkO.callV rfl rfl rfl rfl rfl (c36 (m + 0) _ _ _ _) ?_ -- "sackung/sackungref04.In"
            refine OkO.pick (b := true) rfl rfl (fun _ => rfl) nofun ?_
            refine OkO.move rfl rfl ?_
            refine OkO.split (d := 42) rfl (fun g7 => ?_) (fun g7 => ?_)
            · -- true g7
              refine OkO.fieldAddr (o := 5) rfl (by kernel_rfl) rfl ?_
              refine OkO.load rfl rfl (lda (n := 1) (by kernel_rfl) (by first | assumption | (simp (disch := first | omega | (simp only [hNw, hPt]; omega)) only [gn0, gn1, gn2, gn3, gn4, gn5, gp0, gno, gpo] <;> first | rfl | assumption | exact gp0 _ _ _ | exact gn0 _ _)) (by first | rfl | assumption)) ?_
              refine OkO.callV rfl rfl rfl rfl rfl (c36 (m + 0) _ _ _ _) ?_ -- "sackung/sackungref04.In"
              refine OkO.pick (b := true) rfl rfl (fun _ => rfl) nofun ?_
              refine OkO.assign rfl rfl ?_
              refine OkO.nil ?_
              refine Ok.ret ⟨.inr rfl, ?_⟩
              exact back_flat rfl (congrArg AV.bool (by unfold Pst.ok; rw [hae]; clear hV hE hG hg hN hW hall; first | (simp_all; done) | (simp [*]; done))) rfl (by rw [← hW]; exact (by repeat (first | exact hG | apply Grow.new)))
            · -- false g7
              refine OkO.skip rfl ?_
              refine OkO.skip rfl ?_
              refine OkO.skip rfl ?_
              refine OkO.pick (b := false) rfl rfl nofun (fun _ => rfl) ?_
              refine OkO.assign rfl rfl ?_
              refine OkO.nil ?_
              refine Ok.ret ⟨.inr rfl, ?_⟩
              exact back_flat rfl (congrArg AV.bool (by unfold Pst.ok; rw [hae]; clear hV hE hG hg hN hW hall; first | (simp_all; done) | (simp [*]; done))) rfl (by rw [← hW]; exact (by repeat (first | exact hG | apply Grow.new)))
          · -- false g6
            refine OkO.skip rfl ?_
            refine OkO.skip rfl ?_
            refine OkO.skip rfl ?_
            refine OkO.pick (b := false) rfl rfl nofun (fun _ => rfl) ?_
            refine OkO.move rfl rfl ?_
            refine OkO.skip rfl ?_
            refine OkO.skip rfl ?_
            refine OkO.skip rfl ?_
            refine OkO.pick (b := false) rfl rfl nofun (fun _ => rfl) ?_
            refine OkO.assign rfl rfl ?_
            refine OkO.nil ?_
            refine Ok.ret ⟨.inr rfl, ?_⟩
            exact back_flat rfl (congrArg AV.bool (by unfold Pst.ok; rw [hae]; clear hV hE hG hg hN hW hall; first | (simp_all; done) | (simp [*]; done))) rfl (by rw [← hW]; exact (by repeat (first | exact hG | apply Grow.new)))
        · -- false g5
          refine OkO.skip rfl ?_
          refine OkO.skip rfl ?_
          refine OkO.skip rfl ?_
          refine OkO.pick (b := false) rfl rfl nofun (fun _ => rfl) ?_
          refine OkO.move rfl rfl ?_
          refine OkO.skip rfl ?_
          refine OkO.skip rfl ?_
          refine OkO.skip rfl ?_
          refine OkO.pick (b := false) rfl rfl nofun (fun _ => rfl) ?_
          refine OkO.move rfl rfl ?_
          refine OkO.skip rfl ?_
          refine OkO.skip rfl ?_
          refine OkO.skip rfl ?_
          refine OkO.pick (b := false) rfl rfl nofun (fun _ => rfl) ?_
          refine OkO.assign rfl rfl ?_
          refine OkO.nil ?_
          refine Ok.ret ⟨.inr rfl, ?_⟩
          exact back_flat rfl (congrArg AV.bool (by unfold Pst.ok; rw [hae]; clear hV hE hG hg hN hW hall; first | (simp_all; done) | (simp [*]; done))) rfl (by rw [← hW]; exact (by repeat (first | exact hG | apply Grow.new)))
      · -- false g4
        refine OkO.skip rfl ?_
        refine OkO.skip rfl ?_
        refine OkO.skip rfl ?_
        refine OkO.pick (b := false) rfl rfl nofun (fun _ => rfl) ?_
        refine OkO.move rfl rfl ?_
        refine OkO.skip rfl ?_
        refine OkO.skip rfl ?_
        refine OkO.skip rfl ?_
        refine OkO.pick (b := false) rfl rfl nofun (fun _ => rfl) ?_
        refine OkO.move rfl rfl ?_
        refine OkO.skip rfl ?_
        refine OkO.skip rfl ?_
        refine OkO.skip rfl ?_
        refine OkO.pick (b := false) rfl rfl nofun (fun _ => rfl) ?_
        refine OkO.move rfl rfl ?_
        refine OkO.skip rfl ?_
        refine OkO.skip rfl ?_
        refine OkO.skip rfl ?_
        refine OkO.pick (b := false) rfl rfl nofun (fun _ => rfl) ?_
        refine OkO.assign rfl rfl ?_
        refine OkO.nil ?_
        refine Ok.ret ⟨.inr rfl, ?_⟩
        exact back_flat rfl (congrArg AV.bool (by unfold Pst.ok; rw [hae]; clear hV hE hG hg hN hW hall; first | (simp_all; done) | (simp [*]; done))) rfl (by rw [← hW]; exact (by repeat (first | exact hG | apply Grow.new)))
    · -- false g3
      refine OkO.skip rfl ?_
      refine OkO.skip rfl ?_
      refine OkO.skip rfl ?_
      refine OkO.pick (b := false) rfl rfl nofun (fun _ => rfl) ?_
      refine OkO.move rfl rfl ?_
      refine OkO.skip rfl ?_
      refine OkO.skip rfl ?_
      refine OkO.skip rfl ?_
      refine OkO.pick (b := false) rfl rfl nofun (fun _ => rfl) ?_
      refine OkO.move rfl rfl ?_
      refine OkO.skip rfl ?_
      refine OkO.skip rfl ?_
      refine OkO.skip rfl ?_
      refine OkO.pick (b := false) rfl rfl nofun (fun _ => rfl) ?_
      refine OkO.move rfl rfl ?_
      refine OkO.skip rfl ?_
      refine OkO.skip rfl ?_
      refine OkO.skip rfl ?_
      refine OkO.pick (b := false) rfl rfl nofun (fun _ => rfl) ?_
      refine OkO.move rfl rfl ?_
      refine OkO.skip rfl ?_
      refine OkO.skip rfl ?_
      refine OkO.skip rfl ?_
      refine OkO.pick (b := false) rfl rfl nofun (fun _ => rfl) ?_
      refine OkO.assign rfl rfl ?_
      refine OkO.nil ?_
      refine Ok.ret ⟨.inr rfl, ?_⟩
      exact back_flat rfl (congrArg AV.bool (by unfold Pst.ok; rw [hae]; clear hV hE hG hg hN hW hall; first | (simp_all; done) | (simp [*]; done))) rfl (by rw [← hW]; exact (by repeat (first | exact hG | apply Grow.new)))
theorem c25 (m : Nat) (ev rv : AV) (p : Pst) (rows : List (List Int)) (H : Heap) (hV : Ints H ev p.errs) (hRs : LstAt H rv rows) (hpl : p.errs.length ≤ 100000) (hrl : rows.length ≤ 100000) (hlens9 : ∀ r ∈ rows, r.length ≤ 100000) : RR (m + 3) (.fn 25 [.agg (p.c ev), rv]) H = some (I (faultE p rows), H) := by
  refine (R_fn _ _ _ _ _).trans ?_
  refine fn_ok Try.func25 rfl rfl (by kernel_rfl) (by kernel_rfl) ?_
  obtain ⟨W, hW⟩ : ∃ W : Heap, W = ⟨H.t, H.next, H.next⟩ := ⟨_, rfl⟩
  have hg : ∀ n, W.get n = H.get n := fun n => by rw [hW]; rfl
  have hN : W.next = H.next := by rw [hW]
  have hE : ∀ G, Grow W G → Ext H G := fun G g => ⟨by rw [← hN]; exact g.next, fun n k => by rw [g.get n (by rw [hN]; exact k), hg]⟩
  have hG : Grow W W := Grow.refl (by rw [hW]; exact Nat.le_refl _)
  rw [← hW]
  have pev : ev.plain = true := lpl hV.len
  have hel := hV.len
  have hrlen := hRs.len
  refine Ok.seq ?_
  refine Ok.region ?_
  refine OkO.box rfl rfl ?_
  refine OkO.assign rfl rfl ?_
  refine OkO.nil ?_
  refine Ok.seq ?_
  refine Ok.seq ?_
  refine Ok.region ?_
  refine OkO.load rfl rfl (ldg (n := 6) (by kernel_rfl) (by first | assumption | (simp (disch := first | omega | (simp only [hNw, hPt]; omega)) only [gn0, gn1, gn2, gn3, gn4, gn5, gp0, gno, gpo] <;> first | rfl | assumption | exact gp0 _ _ _ | exact gn0 _ _)) (by first | rfl | assumption)) ?_
  refine OkO.callV rfl rfl rfl rfl rfl (c24 (m + 0) ev p _ (hV.ext (hE _ (by repeat (first | exact hG | apply Grow.new)))) hpl) ?_ -- "sackung/sackungref04.Right"
  refine OkO.un rfl rfl rfl ?_
  refine OkO.nil ?_
  refine Ok.cond rfl (fun h1 => ?_) (fun h1 => ?_)
  · -- yes h1
    have hb : p.ok = false := by simpa using h1
    refine Ok.seq ?_
    refine Ok.region ?_
    refine OkO.assign rfl rfl ?_
    refine OkO.nil ?_
    refine Ok.ret ⟨.inr rfl, ?_⟩
    exact back_flat rfl (congrArg I (by rw [faultE, hb]; rfl)) rfl (by rw [← hW]; exact (by repeat (first | exact hG | apply Grow.new)))
  · -- no h1
    have hb : p.ok = true := by simpa using h1
    refine Ok.skip ?_
    refine Ok.seq ?_
    refine Ok.seq ?_
    refine Ok.region ?_
    refine OkO.move rfl rfl ?_
    refine OkO.builtin rfl rfl rfl (bln (by kernel_rfl) (by first | assumption | rfl)) ?_
    refine OkO.bin rfl rfl rfl (bin_gtr _ _) ?_
    refine OkO.nil ?_
    refine Ok.cond rfl (fun h2 => ?_) (fun h2 => ?_)
    · -- yes h2
      have hb2 : 60 < rows.length := by (have h9 : (60 : Int) < (rows.length : Int) := by simpa using h2); omega
      refine Ok.seq ?_
      refine Ok.region ?_
      refine OkO.assign rfl rfl ?_
      refine OkO.nil ?_
      refine Ok.ret ⟨.inr rfl, ?_⟩
      exact back_flat rfl (congrArg I (by rw [faultE, hb, if_pos rfl, if_pos hb2])) rfl (by rw [← hW]; exact (by repeat (first | exact hG | apply Grow.new)))
    · -- no h2
      have hb2 : ¬ 60 < rows.length := by (have h9 : ¬ (60 : Int) < (rows.length : Int) := by simpa using h2); omega
      refine Ok.skip ?_
      refine Ok.seq ?_
      refine Ok.seq ?_
      refine Ok.region ?_
      refine OkO.assign rfl rfl ?_
      refine OkO.nil ?_
      refine Ok.block ?_
      refine Ok.loop (fun n s => ∃ i : Nat, n = rows.length - i ∧ i ≤ rows.length ∧ (∀ (j : Nat) (hj : j < rows.length), j < i → goodB p rows[j] = true) ∧ Has 6 [(1, rv), (2, .ptr W.next 0), (5, I (i : Int))] s.T ∧ s.D = [] ∧ s.H = W.new (.cells (p.c ev) 24)) (rows.length) (by unfold loopFuel; omega)
        ⟨0, rfl, Nat.zero_le _, nofun, Has.of (by kernel_rfl), rfl, rfl⟩ ?_
      rintro n ⟨T, D, G⟩ ⟨i, hn, hi, hall, ⟨f, hT⟩, hD, hGG⟩
      dsimp only at *
      subst hT hD
      skip
      subst hGG
      refine Ok.seq ?_
      refine Ok.seq ?_
      refine Ok.region ?_
      refine OkO.move rfl rfl ?_
      refine OkO.move rfl rfl ?_
      refine OkO.builtin rfl rfl rfl (bln (by kernel_rfl) (by first | assumption | rfl)) ?_
      refine OkO.bin rfl rfl rfl (bin_lss _ _) ?_
      refine OkO.nil ?_
      refine Ok.cond rfl (fun h3 => ?_) (fun h3 => ?_)
      · -- yes h3
        have hlt : i < rows.length := by simpa using h3
        have hll := hlens9 rows[i] (List.getElem_mem hlt)
        obtain ⟨x, rb, ro, rcs, r1_, r2_, r3_, r4_, r5_⟩ := (hRs.ext (hE _ (by repeat (first | exact hG | apply Grow.new)))).at_ i hlt
        have hxl := r5_.len
        refine Ok.skip ?_
        refine Ok.seq ?_
        refine Ok.block ?_
        refine Ok.seq ?_
        refine Ok.seq ?_
        refine Ok.drawn [(0, true, []), (1, true, []), (2, true, []), (3, true, []), (4, true, []), (5, true, []), (6, true, []), (7, true, []), (8, true, [])] (by kernel_rfl) ?_
        refine OkP.step ?_
        refine OkO.move rfl rfl ?_
        refine OkO.nil ⟨rfl, ?_⟩
        refine OkP.step ?_
        refine OkO.move rfl rfl ?_
        refine OkO.nil ⟨rfl, ?_⟩
        refine OkP.step ?_
        refine OkO.index (sz := 1) (n := i) rfl rfl rfl (by kernel_rfl) (by first | assumption | rfl | exact slAt_slice (by omega) | exact slAt_opn (by omega)) ?_ -- index ('Go.Operand.tmp', 19) ('Go.Operand.tmp', 20)
        refine OkO.nil ⟨rfl, ?_⟩
        refine OkP.step ?_
        refine OkO.load rfl rfl (lda (n := 1) (by kernel_rfl) (by first | assumption | (simp (disch := first | omega | (simp only [hNw, hPt]; omega)) only [gn0, gn1, gn2, gn3, gn4, gn5, gp0, gno, gpo] <;> first | rfl | assumption | exact gp0 _ _ _ | exact gn0 _ _)) (by first | rfl | assumption)) ?_
        refine OkO.nil ⟨rfl, ?_⟩
        refine OkP.step ?_
        refine OkO.builtin rfl rfl rfl (bln (by kernel_rfl) (by first | assumption | rfl)) ?_
        refine OkO.nil ⟨rfl, ?_⟩
        refine OkP.step ?_
        refine OkO.fieldAddr (o := 0) rfl (by kernel_rfl) rfl ?_
        refine OkO.nil ⟨rfl, ?_⟩
        refine OkP.step ?_
        refine OkO.load rfl rfl (lda (n := 1) (by kernel_rfl) (by first | assumption | (simp (disch := first | omega | (simp only [hNw, hPt]; omega)) only [gn0, gn1, gn2, gn3, gn4, gn5, gp0, gno, gpo] <;> first | rfl | assumption | exact gp0 _ _ _ | exact gn0 _ _)) (by first | rfl | assumption)) ?_
        refine OkO.nil ⟨rfl, ?_⟩
        refine OkP.step ?_
        refine OkO.builtin rfl rfl rfl (bln (by kernel_rfl) (by first | assumption | rfl)) ?_
        refine OkO.nil ⟨rfl, ?_⟩
        refine OkP.step ?_
        refine OkO.bin rfl rfl rfl (bin_neq _ _) ?_
        refine OkO.nil ⟨rfl, ?_⟩
        refine OkP.nil ?_
        refine Ok.cond rfl (fun h4 => ?_) (fun h4 => ?_)
        · -- yes h4
          have hgl : rows[i].length ≠ p.errs.length := by (intro e; rw [e] at h4; simp at h4)
          refine Ok.seq ?_
          refine Ok.region ?_
          refine OkO.assign rfl rfl ?_
          refine OkO.nil ?_
          refine Ok.ret ⟨.inr rfl, ?_⟩
          exact back_flat rfl (congrArg I (by rw [faultE, hb, if_pos rfl, if_neg hb2, show rows.all (goodB p) = false from List.all_eq_false.2 ⟨rows[i], List.getElem_mem hlt, by rw [good_len hgl]; simp⟩]; rfl)) rfl (by rw [← hW]; exact (by repeat (first | exact hG | apply Grow.new)))
        · -- no h4
          have hgl : rows[i].length = p.errs.length := by (have h9 : (rows[i].length : Int) = (p.errs.length : Int) := by simpa using h4); omega
          refine Ok.skip ?_
          refine Ok.seq ?_
          refine Ok.region ?_
          refine OkO.assign rfl rfl ?_
          refine OkO.nil ?_
          refine Ok.block ?_
          refine Ok.loop (fun n s => ∃ k : Nat, n = rows[i].length - k ∧ k ≤ rows[i].length ∧ (∀ (q : Nat) (hq : q < rows[i].length), q < k → inB rows[i][q] (-1000) 2000 = true) ∧ Has 6 [(1, rv), (2, .ptr W.next 0), (5, I (i : Int)), (6, I (k : Int))] s.T ∧ s.D = [] ∧ s.H = W.new (.cells (p.c ev) 24)) (rows[i].length) (by unfold loopFuel; omega)
            ⟨0, rfl, Nat.zero_le _, nofun, Has.of (by kernel_rfl), rfl, rfl⟩ ?_
          rintro n ⟨T, D, G⟩ ⟨k, hn2, hk, hall2, ⟨f, hT⟩, hD, hGG⟩
          dsimp only at *
          subst hT hD
          skip
          subst hGG
          refine Ok.seq ?_
          refine Ok.seq ?_
          refine Ok.region ?_
          refine OkO.move rfl rfl ?_
          refine OkO.move rfl rfl ?_
          refine OkO.move rfl rfl ?_
          refine OkO.index (sz := 1) (n := i) rfl rfl rfl (by kernel_rfl) (by first | assumption | rfl | exact slAt_slice (by omega) | exact slAt_opn (by omega)) ?_ -- index ('Go.Operand.tmp', 29) ('Go.Operand.tmp', 30)
          refine OkO.load rfl rfl (lda (n := 1) (by kernel_rfl) (by first | assumption | (simp (disch := first | omega | (simp only [hNw, hPt]; omega)) only [gn0, gn1, gn2, gn3, gn4, gn5, gp0, gno, gpo] <;> first | rfl | assumption | exact gp0 _ _ _ | exact gn0 _ _)) (by first | rfl | assumption)) ?_
          refine OkO.builtin rfl rfl rfl (bln (by kernel_rfl) (by first | assumption | rfl)) ?_
          refine OkO.bin rfl rfl rfl (bin_lss _ _) ?_
          refine OkO.nil ?_
          refine Ok.cond rfl (fun h5 => ?_) (fun h5 => ?_)
          · -- yes h5
            have hkl : k < rows[i].length := by simpa using h5
            obtain ⟨xb, xo, xcs, x1, x2, x3, x4⟩ := r5_.at' k hkl
            refine Ok.skip ?_
            refine Ok.seq ?_
            refine Ok.block ?_
            refine Ok.seq ?_
            refine Ok.region ?_
            refine OkO.move rfl rfl ?_
            refine OkO.move rfl rfl ?_
            refine OkO.index (sz := 1) rfl rfl rfl (by kernel_rfl) (by first | assumption | rfl | exact slAt_slice (by omega) | exact slAt_opn (by omega)) ?_ -- index ('Go.Operand.tmp', 37) ('Go.Operand.tmp', 38)
            refine OkO.load rfl rfl (lda (n := 1) (by kernel_rfl) (by first | assumption | (simp (disch := first | omega | (simp only [hNw, hPt]; omega)) only [gn0, gn1, gn2, gn3, gn4, gn5, gp0, gno, gpo] <;> first | rfl | assumption | exact gp0 _ _ _ | exact gn0 _ _)) (by first | rfl | assumption)) ?_
            refine OkO.move rfl rfl ?_
            refine OkO.index (sz := 1) (n := k) rfl rfl rfl (by kernel_rfl) (by first | assumption | rfl | exact slAt_slice (by omega) | exact slAt_opn (by omega)) ?_ -- index ('Go.Operand.tmp', 40) ('Go.Operand.tmp', 41)
            refine OkO.load rfl rfl (lda (n := 1) (by kernel_rfl) (by first | assumption | (simp (disch := first | omega | (simp only [hNw, hPt]; omega)) only [gn0, gn1, gn2, gn3, gn4, gn5, gp0, gno, gpo] <;> first | rfl | assumption | exact gp0 _ _ _ | exact gn0 _ _)) (by first | rfl | assumption)) ?_
            refine OkO.callV rfl rfl rfl rfl rfl (c36 (m + 1) _ _ _ _) ?_ -- "sackung/sackungref04.In"
            refine OkO.un rfl rfl rfl ?_
            refine OkO.nil ?_
            refine Ok.cond rfl (fun h6 => ?_) (fun h6 => ?_)
            · -- yes h6
              have hb9 : inB rows[i][k] (-1000) 2000 = false := by simpa using h6
              refine Ok.seq ?_
              refine Ok.region ?_
              refine OkO.assign rfl rfl ?_
              refine OkO.nil ?_
              refine Ok.ret ⟨.inr rfl, ?_⟩
              exact back_flat rfl (congrArg I (by rw [faultE, hb, if_pos rfl, if_neg hb2, show rows.all (goodB p) = false from List.all_eq_false.2 ⟨rows[i], List.getElem_mem hlt, by rw [good_bad hkl hb9]; simp⟩]; rfl)) rfl (by rw [← hW]; exact (by repeat (first | exact hG | apply Grow.new)))
            · -- no h6
              refine Ok.skip ?_
              refine Ok.region ?_
              refine OkO.move rfl rfl ?_
              refine OkO.bin rfl rfl rfl (bin_add (by omega) (by omega)) ?_
              refine OkO.assign rfl rfl ?_
              refine OkO.nil ?_
              refine ⟨rows[i].length - (k + 1), by omega, k + 1, rfl, by omega, fun q hq hqk => ?_, Has.of (by kernel_rfl), rfl, rfl⟩
              by_cases e : q = k
              · subst e; simpa using h6
              · exact hall2 q hq (by omega)
          · -- no h5
            have hge2 : k = rows[i].length := by simp at h5; omega
            refine Ok.exit ?_
            refine Ok.region ?_
            refine OkO.move rfl rfl ?_
            refine OkO.bin rfl rfl rfl (bin_add (by omega) (by omega)) ?_
            refine OkO.assign rfl rfl ?_
            refine OkO.nil ?_
            refine ⟨rows.length - (i + 1), by omega, i + 1, rfl, by omega, fun j hj hji => ?_, Has.of (by kernel_rfl), rfl, rfl⟩
            by_cases e : j = i
            · subst e; exact good_yes hgl fun q hq => hall2 q hq (by omega)
            · exact hall j hj (by omega)
      · -- no h3
        have hge : i = rows.length := by simp at h3; omega
        refine Ok.exit ?_
        refine Ok.seq ?_
        refine Ok.region ?_
        refine OkO.assign rfl rfl ?_
        refine OkO.nil ?_
        refine Ok.ret ⟨.inr rfl, ?_⟩
        exact back_flat rfl (congrArg I (by rw [faultE, hb, if_pos rfl, if_neg hb2, show rows.all (goodB p) = true from List.all_eq_true.2 (all_of_get fun j hj => hall j hj (by omega))]; rfl)) rfl (by rw [← hW]; exact (by repeat (first | exact hG | apply Grow.new)))
end
end Go.Ev

set_option maxRecDepth 100000
set_option linter.unusedSimpArgs false
set_option linter.unusedVariables false
namespace Go.Ev
open Go Go.Proofs
noncomputable section
/-- The hours that are left at a speed. -/
def leftI (p : Pst) (s : Int) : Int := if p.fall ≤ s then 0 else if p.gain = 0 then 9223372036854775807 else (p.fall - s + p.gain - 1) / p.gain
def hrI (p : Pst) (j : Nat) : Int := p.out + (j : Int) * p.ahead
def levelI (p : Pst) (s : Int) : Int := if leftI p s ≤ hrI p 0 then 3 else if leftI p s ≤ hrI p 1 then 2 else if leftI p s ≤ hrI p 2 then 1 else 0
theorem level_at {p : Pst} {s : Int} {i : Nat} (hi : i < 3) (h : ∀ j, j < i → ¬ leftI p s ≤ hrI p j) (h2 : leftI p s ≤ hrI p i) : levelI p s = 3 - (i : Int) := by
  unfold levelI
  match i, hi with
  | 0, _ => rw [if_pos h2]; rfl
  | 1, _ => rw [if_neg (h 0 (by omega)), if_pos h2]; rfl
  | 2, _ => rw [if_neg (h 0 (by omega)), if_neg (h 1 (by omega)), if_pos h2]; rfl
theorem level_none {p : Pst} {s : Int} (h : ∀ j, j < 3 → ¬ leftI p s ≤ hrI p j) : levelI p s = 0 := by
  unfold levelI
  rw [if_neg (h 0 (by omega)), if_neg (h 1 (by omega)), if_neg (h 2 (by omega))]
theorem c103 (m : Nat) (ev : AV) (p : Pst) (s : Int) (H : Heap) (hs : -1000000 ≤ s ∧ s ≤ 1000000) (hpo : (0 ≤ p.gain ∧ p.gain ≤ 200) ∧ (1 ≤ p.fall ∧ p.fall ≤ 1000) ∧ (0 ≤ p.out ∧ p.out ≤ 60) ∧ 0 ≤ p.ahead ∧ p.ahead ≤ 60) : RR (m + 1) (.fn 103 [.agg (p.c ev), I s]) H = some (I (leftI p s), H) := by
  refine (R_fn _ _ _ _ _).trans ?_
  refine fn_ok Try.func103 rfl rfl (by kernel_rfl) (by kernel_rfl) ?_
  obtain ⟨W, hW⟩ : ∃ W : Heap, W = ⟨H.t, H.next, H.next⟩ := ⟨_, rfl⟩
  have hg : ∀ n, W.get n = H.get n := fun n => by rw [hW]; rfl
  have hN : W.next = H.next := by rw [hW]
  have hE : ∀ G, Grow W G → Ext H G := fun G g => ⟨by rw [← hN]; exact g.next, fun n k => by rw [g.get n (by rw [hN]; exact k), hg]⟩
  have hG : Grow W W := Grow.refl (by rw [hW]; exact Nat.le_refl _)
  rw [← hW]
  refine Ok.seq ?_
  refine Ok.region ?_
  refine OkO.box rfl rfl ?_
  refine OkO.assign rfl rfl ?_
  refine OkO.nil ?_
  refine Ok.seq ?_
  refine Ok.seq ?_
  refine Ok.region ?_
  refine OkO.move rfl rfl ?_
  refine OkO.fieldAddr (o := 3) rfl (by kernel_rfl) rfl ?_
  refine OkO.load rfl rfl (lda (n := 1) (by kernel_rfl) (by first | assumption | (simp (disch := first | omega | (simp only [hNw, hPt]; omega)) only [gn0, gn1, gn2, gn3, gn4, gn5, gp0, gno, gpo] <;> first | rfl | assumption | exact gp0 _ _ _ | exact gn0 _ _)) (by first | rfl | assumption)) ?_
  refine OkO.bin rfl rfl rfl (bin_geq _ _) ?_
  refine OkO.nil ?_
  refine Ok.cond rfl (fun h1 => ?_) (fun h1 => ?_)
  · -- yes h1
    have e1 : p.fall ≤ s := by simpa using h1
    refine Ok.seq ?_
    refine Ok.region ?_
    refine OkO.assign rfl rfl ?_
    refine OkO.nil ?_
    refine Ok.ret ⟨.inr rfl, ?_⟩
    exact back_flat rfl (congrArg I (by rw [leftI, if_pos e1])) rfl (by rw [← hW]; exact (by (try dsimp only); repeat (first | exact hG | apply Grow.new | (refine Grow.put ?_ _ (by first | omega | (simp only [hNw, hPt]; omega))))))
  · -- no h1
    have e1 : ¬ p.fall ≤ s := by simpa using h1
    refine Ok.skip ?_
    refine Ok.seq ?_
    refine Ok.seq ?_
    refine Ok.region ?_
    refine OkO.fieldAddr (o := 1) rfl (by kernel_rfl) rfl ?_
    refine OkO.load rfl rfl (lda (n := 1) (by kernel_rfl) (by first | assumption | (simp (disch := first | omega | (simp only [hNw, hPt]; omega)) only [gn0, gn1, gn2, gn3, gn4, gn5, gp0, gno, gpo] <;> first | rfl | assumption | exact gp0 _ _ _ | exact gn0 _ _)) (by first | rfl | assumption)) ?_
    refine OkO.bin rfl rfl rfl (bin_eql _ _) ?_
    refine OkO.nil ?_
    refine Ok.cond rfl (fun h2 => ?_) (fun h2 => ?_)
    · -- yes h2
      have e2 : p.gain = 0 := by simpa using h2
      refine Ok.seq ?_
      refine Ok.region ?_
      refine OkO.assign rfl rfl ?_
      refine OkO.nil ?_
      refine Ok.ret ⟨.inr rfl, ?_⟩
      exact back_flat rfl (congrArg I (by rw [leftI, if_neg e1, if_pos e2])) rfl (by rw [← hW]; exact (by (try dsimp only); repeat (first | exact hG | apply Grow.new | (refine Grow.put ?_ _ (by first | omega | (simp only [hNw, hPt]; omega))))))
    · -- no h2
      have e2 : ¬ p.gain = 0 := by simpa using h2
      refine Ok.skip ?_
      refine Ok.seq ?_
      refine Ok.region ?_
      refine OkO.fieldAddr (o := 3) rfl (by kernel_rfl) rfl ?_
      refine OkO.load rfl rfl (lda (n := 1) (by kernel_rfl) (by first | assumption | (simp (disch := first | omega | (simp only [hNw, hPt]; omega)) only [gn0, gn1, gn2, gn3, gn4, gn5, gp0, gno, gpo] <;> first | rfl | assumption | exact gp0 _ _ _ | exact gn0 _ _)) (by first | rfl | assumption)) ?_
      refine OkO.move rfl rfl ?_
      refine OkO.bin rfl rfl rfl (bin_sub (by omega) (by omega)) ?_
      refine OkO.fieldAddr (o := 1) rfl (by kernel_rfl) rfl ?_
      refine OkO.load rfl rfl (lda (n := 1) (by kernel_rfl) (by first | assumption | (simp (disch := first | omega | (simp only [hNw, hPt]; omega)) only [gn0, gn1, gn2, gn3, gn4, gn5, gp0, gno, gpo] <;> first | rfl | assumption | exact gp0 _ _ _ | exact gn0 _ _)) (by first | rfl | assumption)) ?_
      refine OkO.bin rfl rfl rfl (bin_add (by omega) (by omega)) ?_
      refine OkO.bin rfl rfl rfl (bin_sub (by omega) (by omega)) ?_
      refine OkO.fieldAddr (o := 1) rfl (by kernel_rfl) rfl ?_
      refine OkO.load rfl rfl (lda (n := 1) (by kernel_rfl) (by first | assumption | (simp (disch := first | omega | (simp only [hNw, hPt]; omega)) only [gn0, gn1, gn2, gn3, gn4, gn5, gp0, gno, gpo] <;> first | rfl | assumption | exact gp0 _ _ _ | exact gn0 _ _)) (by first | rfl | assumption)) ?_
      refine OkO.bin rfl rfl rfl (bin_quo (by omega) (by omega) (by omega)) ?_
      refine OkO.assign rfl rfl ?_
      refine OkO.nil ?_
      refine Ok.ret ⟨.inr rfl, ?_⟩
      exact back_flat rfl (congrArg I (by rw [leftI, if_neg e1, if_neg e2])) rfl (by rw [← hW]; exact (by (try dsimp only); repeat (first | exact hG | apply Grow.new | (refine Grow.put ?_ _ (by first | omega | (simp only [hNw, hPt]; omega))))))
theorem c109 (m : Nat) (hr : Int) (H : Heap)  : ∃ v H', RR (m + 1) (.fn 109 [I hr]) H = some (v, H') ∧ v = .fn 110 [] [.ptr H.next 0] ∧ Ret H H' ∧ H'.get H.next = some (.cells [I hr] 3) ∧ H'.next = H.next + 1 := by
  show ∃ v H', evFn Try.prog (RR (m + 0)) 109 [I hr] H = some (v, H') ∧ v = .fn 110 [] [.ptr H.next 0] ∧ Ret H H' ∧ H'.get H.next = some (.cells [I hr] 3) ∧ H'.next = H.next + 1
  refine fn_okE Try.func109 rfl rfl (by kernel_rfl) (by kernel_rfl) ?_
  obtain ⟨W, hW⟩ : ∃ W : Heap, W = ⟨H.t, H.next, H.next⟩ := ⟨_, rfl⟩
  have hg : ∀ n, W.get n = H.get n := fun n => by rw [hW]; rfl
  have hN : W.next = H.next := by rw [hW]
  have hE : ∀ G, Grow W G → Ext H G := fun G g => ⟨by rw [← hN]; exact g.next, fun n k => by rw [g.get n (by rw [hN]; exact k), hg]⟩
  have hG : Grow W W := Grow.refl (by rw [hW]; exact Nat.le_refl _)
  rw [← hW]
  refine Ok.seq ?_
  refine Ok.region ?_
  refine OkO.box rfl rfl ?_
  refine OkO.assign rfl rfl ?_
  refine OkO.nil ?_
  refine Ok.seq ?_
  refine Ok.region ?_
  refine OkO.makeFunc rfl rfl rfl ?_
  refine OkO.assign rfl rfl ?_
  refine OkO.nil ?_
  refine Ok.ret ⟨.inr rfl, ?_⟩
  exact back_newQ (resV_tmp rfl resV_nil) (by rw [← hN]; rfl) (by rw [← hW]; exact (by (try dsimp only); repeat (first | exact hG | apply Grow.new | (refine Grow.put ?_ _ (by first | omega | (simp only [hNw, hPt]; omega)))))) rfl (fun H' p1 p2 p3 => ⟨rfl, p1, by rw [p2, ← hN]; exact gn0 _ _, by rw [p3, ← hN]; rfl⟩)
theorem c110 (m : Nat) (x hr : Int) (b : Nat) (H : Heap) (hb : H.get b = some (.cells [I hr] 3)) : RR (m + 1) (.fn 110 [I x, .ptr b 0]) H = some (.bool (decide (x ≤ hr)), H) := by
  refine (R_fn _ _ _ _ _).trans ?_
  refine fn_ok Try.func110 rfl rfl (by kernel_rfl) (by kernel_rfl) ?_
  obtain ⟨W, hW⟩ : ∃ W : Heap, W = ⟨H.t, H.next, H.next⟩ := ⟨_, rfl⟩
  have hg : ∀ n, W.get n = H.get n := fun n => by rw [hW]; rfl
  have hN : W.next = H.next := by rw [hW]
  have hE : ∀ G, Grow W G → Ext H G := fun G g => ⟨by rw [← hN]; exact g.next, fun n k => by rw [g.get n (by rw [hN]; exact k), hg]⟩
  have hG : Grow W W := Grow.refl (by rw [hW]; exact Nat.le_refl _)
  rw [← hW]
  have eb : (W.get b).bind AObj.cs = some [I hr] := by rw [hg, hb]; rfl
  refine Ok.seq ?_
  refine Ok.region ?_
  refine OkO.assign rfl rfl ?_
  refine OkO.nil ?_
  refine Ok.seq ?_
  refine Ok.region ?_
  refine OkO.move rfl rfl ?_
  refine OkO.load rfl rfl (lda (n := 1) (by kernel_rfl) (by first | assumption | (simp (disch := first | omega | (simp only [hNw, hPt]; omega)) only [gn0, gn1, gn2, gn3, gn4, gn5, gp0, gno, gpo] <;> first | rfl | assumption | exact gp0 _ _ _ | exact gn0 _ _)) (by first | rfl | assumption)) ?_
  refine OkO.bin rfl rfl rfl (bin_leq _ _) ?_
  refine OkO.assign rfl rfl ?_
  refine OkO.nil ?_
  refine Ok.ret ⟨.inr rfl, ?_⟩
  exact back_flat rfl rfl rfl (by rw [← hW]; exact (by (try dsimp only); repeat (first | exact hG | apply Grow.new | (refine Grow.put ?_ _ (by first | omega | (simp only [hNw, hPt]; omega))))))
theorem c104 (m : Nat) (ev : AV) (p : Pst) (H : Heap) (hel : ∃ q, lenOf ev = some q) (hpo : (0 ≤ p.gain ∧ p.gain ≤ 200) ∧ (1 ≤ p.fall ∧ p.fall ≤ 1000) ∧ (0 ≤ p.out ∧ p.out ≤ 60) ∧ 0 ≤ p.ahead ∧ p.ahead ≤ 60) : ∃ v H', RR (m + 2) (.fn 104 [.agg (p.c ev)]) H = some (v, H') ∧ lenOf v = some 3 ∧ Ret H H' ∧ ∃ bk : Nat → Nat, ∀ i, i < 3 → (bk i < H'.next ∧ H'.get (bk i) = some (.cells [I (hrI p i)] 3)) ∧ ∃ b off cs, slAt v 2 i = some (b, off) ∧ (H'.get b).bind AObj.cs = some cs ∧ cs[off]? = some (.int .u8 (3 - (i : Int))) ∧ cs[off + 1]? = some (.fn 110 [] [.ptr (bk i) 0]) ∧ seg cs off 2 = some [.int .u8 (3 - (i : Int)), .fn 110 [] [.ptr (bk i) 0]] ∧ b < H'.next := by
  show ∃ v H', evFn Try.prog (RR (m + 1)) 104 [.agg (p.c ev)] H = some (v, H') ∧ lenOf v = some 3 ∧ Ret H H' ∧ ∃ bk : Nat → Nat, ∀ i, i < 3 → (bk i < H'.next ∧ H'.get (bk i) = some (.cells [I (hrI p i)] 3)) ∧ ∃ b off cs, slAt v 2 i = some (b, off) ∧ (H'.get b).bind AObj.cs = some cs ∧ cs[off]? = some (.int .u8 (3 - (i : Int))) ∧ cs[off + 1]? = some (.fn 110 [] [.ptr (bk i) 0]) ∧ seg cs off 2 = some [.int .u8 (3 - (i : Int)), .fn 110 [] [.ptr (bk i) 0]] ∧ b < H'.next
  refine fn_okE Try.func104 rfl rfl (by kernel_rfl) (by kernel_rfl) ?_
  obtain ⟨W, hW⟩ : ∃ W : Heap, W = ⟨H.t, H.next, H.next⟩ := ⟨_, rfl⟩
  have hg : ∀ n, W.get n = H.get n := fun n => by rw [hW]; rfl
  have hN : W.next = H.next := by rw [hW]
  have hE : ∀ G, Grow W G → Ext H G := fun G g => ⟨by rw [← hN]; exact g.next, fun n k => by rw [g.get n (by rw [hN]; exact k), hg]⟩
  have hG : Grow W W := Grow.refl (by rw [hW]; exact Nat.le_refl _)
  rw [← hW]
  have pev : ev.plain = true := (by obtain ⟨q, hq⟩ := hel; exact lpl hq)
  refine Ok.seq ?_
  refine Ok.region ?_
  refine OkO.box rfl rfl ?_
  refine OkO.assign rfl rfl ?_
  refine OkO.nil ?_
  refine Ok.seq ?_
  refine Ok.region ?_
  refine OkO.assign rfl rfl ?_
  refine OkO.nil ?_
  refine Ok.seq ?_
  refine Ok.drawn [(0, true, []), (1, true, []), (2, true, []), (5, true, []), (6, true, []), (7, true, []), (8, true, []), (9, true, []), (10, true, []), (13, true, []), (14, true, []), (15, true, []), (16, true, []), (17, true, []), (18, true, []), (19, true, []), (3, false, [17, 15, 9, 7]), (4, true, []), (11, false, [17, 15, 9, 7, 2]), (12, true, []), (20, false, [17, 15, 9, 7, 2]), (21, true, []), (22, true, [17, 15, 9, 7, 2]), (23, true, [])] (by kernel_rfl) ?_
  refine OkP.step ?_
  refine OkO.move rfl rfl ?_
  refine OkO.nil ⟨rfl, ?_⟩
  refine OkP.step ?_
  refine OkO.fieldAddr (o := 4) rfl (by kernel_rfl) rfl ?_
  refine OkO.nil ⟨rfl, ?_⟩
  refine OkP.step ?_
  refine OkO.load rfl rfl (lda (n := 1) (by kernel_rfl) (by first | assumption | (simp (disch := first | omega | (simp only [hNw, hPt]; omega)) only [gn0, gn1, gn2, gn3, gn4, gn5, gp0, gno, gpo] <;> first | rfl | assumption | exact gp0 _ _ _ | exact gn0 _ _)) (by first | rfl | assumption)) ?_
  refine OkO.nil ⟨rfl, ?_⟩
  refine OkP.step ?_
  refine OkO.move rfl rfl ?_
  refine OkO.nil ⟨rfl, ?_⟩
  refine OkP.step ?_
  refine OkO.fieldAddr (o := 4) rfl (by kernel_rfl) rfl ?_
  refine OkO.nil ⟨rfl, ?_⟩
  refine OkP.step ?_
  refine OkO.load rfl rfl (lda (n := 1) (by kernel_rfl) (by first | assumption | (simp (disch := first | omega | (simp only [hNw, hPt]; omega)) only [gn0, gn1, gn2, gn3, gn4, gn5, gp0, gno, gpo] <;> first | rfl | assumption | exact gp0 _ _ _ | exact gn0 _ _)) (by first | rfl | assumption)) ?_
  refine OkO.nil ⟨rfl, ?_⟩
  refine OkP.step ?_
  refine OkO.fieldAddr (o := 5) rfl (by kernel_rfl) rfl ?_
  refine OkO.nil ⟨rfl, ?_⟩
  refine OkP.step ?_
  refine OkO.load rfl rfl (lda (n := 1) (by kernel_rfl) (by first | assumption | (simp (disch := first | omega | (simp only [hNw, hPt]; omega)) only [gn0, gn1, gn2, gn3, gn4, gn5, gp0, gno, gpo] <;> first | rfl | assumption | exact gp0 _ _ _ | exact gn0 _ _)) (by first | rfl | assumption)) ?_
  refine OkO.nil ⟨rfl, ?_⟩
  refine OkP.step ?_
  refine OkO.bin rfl rfl rfl (bin_add (by omega) (by omega)) ?_
  refine OkO.nil ⟨rfl, ?_⟩
  refine OkP.step ?_
  refine OkO.move rfl rfl ?_
  refine OkO.nil ⟨rfl, ?_⟩
  refine OkP.step ?_
  refine OkO.fieldAddr (o := 4) rfl (by kernel_rfl) rfl ?_
  refine OkO.nil ⟨rfl, ?_⟩
  refine OkP.step ?_
  refine OkO.load rfl rfl (lda (n := 1) (by kernel_rfl) (by first | assumption | (simp (disch := first | omega | (simp only [hNw, hPt]; omega)) only [gn0, gn1, gn2, gn3, gn4, gn5, gp0, gno, gpo] <;> first | rfl | assumption | exact gp0 _ _ _ | exact gn0 _ _)) (by first | rfl | assumption)) ?_
  refine OkO.nil ⟨rfl, ?_⟩
  refine OkP.step ?_
  refine OkO.fieldAddr (o := 5) rfl (by kernel_rfl) rfl ?_
  refine OkO.nil ⟨rfl, ?_⟩
  refine OkP.step ?_
  refine OkO.load rfl rfl (lda (n := 1) (by kernel_rfl) (by first | assumption | (simp (disch := first | omega | (simp only [hNw, hPt]; omega)) only [gn0, gn1, gn2, gn3, gn4, gn5, gp0, gno, gpo] <;> first | rfl | assumption | exact gp0 _ _ _ | exact gn0 _ _)) (by first | rfl | assumption)) ?_
  refine OkO.nil ⟨rfl, ?_⟩
  refine OkP.step ?_
  refine OkO.bin rfl rfl rfl (bin_mul (by omega) (by omega)) ?_
  refine OkO.nil ⟨rfl, ?_⟩
  refine OkP.step ?_
  refine OkO.bin rfl rfl rfl (bin_add (by omega) (by omega)) ?_
  refine OkO.nil ⟨rfl, ?_⟩
  refine OkP.step ?_
  refine OkO.callE rfl rfl rfl rfl rfl (c109 (m + 0) p.out _) ?_ -- ('Go.Operand.tmp', 4)
  rintro _ H1 ⟨rfl, q1, o1, n1⟩
  try simp only [hNw] at o1 n1
  have g1 : Grow W H1 := Grow.ret (by (try dsimp only); repeat (first | exact hG | apply Grow.new)) q1
  have e1 : (H1.get W.next).bind AObj.cs = some (p.c ev) := by rw [q1.ext.get _ (by first | omega | (simp only [hNw]; omega))]; first | assumption | (rw [gn0]; rfl)
  refine OkO.nil ⟨(sco (sld rfl rfl (lda (n := 1) (by kernel_rfl) (by first | assumption | (simp (disch := first | omega | (simp only [hNw, hPt]; omega)) only [gn0, gn1, gn2, gn3, gn4, gn5, gp0, gno, gpo] <;> first | rfl | assumption | exact gp0 _ _ _ | exact gn0 _ _)) (by first | rfl | assumption)) rfl (eqr _ (by first | rfl | exact lpl (by assumption) | (simp [AV.plain, AV.plains, AV.cells, pev, Pst.c])))) (sco (sld rfl rfl (lda (n := 1) (by kernel_rfl) (by first | assumption | (simp (disch := first | omega | (simp only [hNw, hPt]; omega)) only [gn0, gn1, gn2, gn3, gn4, gn5, gp0, gno, gpo] <;> first | rfl | assumption | exact gp0 _ _ _ | exact gn0 _ _)) (by first | rfl | assumption)) rfl (eqr _ (by first | rfl | exact lpl (by assumption) | (simp [AV.plain, AV.plains, AV.cells, pev, Pst.c])))) (sco (sld rfl rfl (lda (n := 1) (by kernel_rfl) (by first | assumption | (simp (disch := first | omega | (simp only [hNw, hPt]; omega)) only [gn0, gn1, gn2, gn3, gn4, gn5, gp0, gno, gpo] <;> first | rfl | assumption | exact gp0 _ _ _ | exact gn0 _ _)) (by first | rfl | assumption)) rfl (eqr _ (by first | rfl | exact lpl (by assumption) | (simp [AV.plain, AV.plains, AV.cells, pev, Pst.c])))) (sco (sld rfl rfl (lda (n := 1) (by kernel_rfl) (by first | assumption | (simp (disch := first | omega | (simp only [hNw, hPt]; omega)) only [gn0, gn1, gn2, gn3, gn4, gn5, gp0, gno, gpo] <;> first | rfl | assumption | exact gp0 _ _ _ | exact gn0 _ _)) (by first | rfl | assumption)) rfl (eqr _ (by first | rfl | exact lpl (by assumption) | (simp [AV.plain, AV.plains, AV.cells, pev, Pst.c])))) rfl)))), ?_⟩
  refine OkP.step ?_
  refine OkO.build (z := [.int .u8 0, .nilf]) (pl := [(0, 1), (1, 1)]) rfl (by kernel_rfl) rfl rfl ?_
  refine OkO.nil ⟨rfl, ?_⟩
  refine OkP.step ?_
  refine OkO.callE rfl rfl rfl rfl rfl (c109 (m + 0) (p.out + p.ahead) _) ?_ -- ('Go.Operand.tmp', 9)
  rintro _ H2 ⟨rfl, q2, o2, n2⟩
  try simp only [hNw] at o2 n2
  have g2 : Grow W H2 := Grow.ret (by (try dsimp only); repeat (first | exact g1 | apply Grow.new)) q2
  have e2 : (H2.get W.next).bind AObj.cs = some (p.c ev) := by rw [q2.ext.get _ (by first | omega | (simp only [hNw]; omega))]; first | assumption | (rw [gn0]; rfl)
  refine OkO.nil ⟨(sco (sld rfl rfl (lda (n := 1) (by kernel_rfl) (by first | assumption | (simp (disch := first | omega | (simp only [hNw, hPt]; omega)) only [gn0, gn1, gn2, gn3, gn4, gn5, gp0, gno, gpo] <;> first | rfl | assumption | exact gp0 _ _ _ | exact gn0 _ _)) (by first | rfl | assumption)) rfl (eqr _ (by first | rfl | exact lpl (by assumption) | (simp [AV.plain, AV.plains, AV.cells, pev, Pst.c])))) (sco (sld rfl rfl (lda (n := 1) (by kernel_rfl) (by first | assumption | (simp (disch := first | omega | (simp only [hNw, hPt]; omega)) only [gn0, gn1, gn2, gn3, gn4, gn5, gp0, gno, gpo] <;> first | rfl | assumption | exact gp0 _ _ _ | exact gn0 _ _)) (by first | rfl | assumption)) rfl (eqr _ (by first | rfl | exact lpl (by assumption) | (simp [AV.plain, AV.plains, AV.cells, pev, Pst.c])))) (sco (sld rfl rfl (lda (n := 1) (by kernel_rfl) (by first | assumption | (simp (disch := first | omega | (simp only [hNw, hPt]; omega)) only [gn0, gn1, gn2, gn3, gn4, gn5, gp0, gno, gpo] <;> first | rfl | assumption | exact gp0 _ _ _ | exact gn0 _ _)) (by first | rfl | assumption)) rfl (eqr _ (by first | rfl | exact lpl (by assumption) | (simp [AV.plain, AV.plains, AV.cells, pev, Pst.c])))) (sco (sld rfl rfl (lda (n := 1) (by kernel_rfl) (by first | assumption | (simp (disch := first | omega | (simp only [hNw, hPt]; omega)) only [gn0, gn1, gn2, gn3, gn4, gn5, gp0, gno, gpo] <;> first | rfl | assumption | exact gp0 _ _ _ | exact gn0 _ _)) (by first | rfl | assumption)) rfl (eqr _ (by first | rfl | exact lpl (by assumption) | (simp [AV.plain, AV.plains, AV.cells, pev, Pst.c])))) (sco (sld rfl rfl (lda (n := 1) (by kernel_rfl) (by first | assumption | (simp (disch := first | omega | (simp only [hNw, hPt]; omega)) only [gn0, gn1, gn2, gn3, gn4, gn5, gp0, gno, gpo] <;> first | rfl | assumption | exact gp0 _ _ _ | exact gn0 _ _)) (by first | rfl | assumption)) rfl (eqr _ (by first | rfl | exact lpl (by assumption) | (simp [AV.plain, AV.plains, AV.cells, pev, Pst.c])))) rfl))))), ?_⟩
  refine OkP.step ?_
  refine OkO.build (z := [.int .u8 0, .nilf]) (pl := [(0, 1), (1, 1)]) rfl (by kernel_rfl) rfl rfl ?_
  refine OkO.nil ⟨rfl, ?_⟩
  refine OkP.step ?_
  refine OkO.callE rfl rfl rfl rfl rfl (c109 (m + 0) (p.out + 2 * p.ahead) _) ?_ -- ('Go.Operand.tmp', 17)
  rintro _ H3 ⟨rfl, q3, o3, n3⟩
  try simp only [hNw] at o3 n3
  have g3 : Grow W H3 := Grow.ret (by (try dsimp only); repeat (first | exact g2 | apply Grow.new)) q3
  have e3 : (H3.get W.next).bind AObj.cs = some (p.c ev) := by rw [q3.ext.get _ (by first | omega | (simp only [hNw]; omega))]; first | assumption | (rw [gn0]; rfl)
  refine OkO.nil ⟨(sco (sld rfl rfl (lda (n := 1) (by kernel_rfl) (by first | assumption | (simp (disch := first | omega | (simp only [hNw, hPt]; omega)) only [gn0, gn1, gn2, gn3, gn4, gn5, gp0, gno, gpo] <;> first | rfl | assumption | exact gp0 _ _ _ | exact gn0 _ _)) (by first | rfl | assumption)) rfl (eqr _ (by first | rfl | exact lpl (by assumption) | (simp [AV.plain, AV.plains, AV.cells, pev, Pst.c])))) (sco (sld rfl rfl (lda (n := 1) (by kernel_rfl) (by first | assumption | (simp (disch := first | omega | (simp only [hNw, hPt]; omega)) only [gn0, gn1, gn2, gn3, gn4, gn5, gp0, gno, gpo] <;> first | rfl | assumption | exact gp0 _ _ _ | exact gn0 _ _)) (by first | rfl | assumption)) rfl (eqr _ (by first | rfl | exact lpl (by assumption) | (simp [AV.plain, AV.plains, AV.cells, pev, Pst.c])))) (sco (sld rfl rfl (lda (n := 1) (by kernel_rfl) (by first | assumption | (simp (disch := first | omega | (simp only [hNw, hPt]; omega)) only [gn0, gn1, gn2, gn3, gn4, gn5, gp0, gno, gpo] <;> first | rfl | assumption | exact gp0 _ _ _ | exact gn0 _ _)) (by first | rfl | assumption)) rfl (eqr _ (by first | rfl | exact lpl (by assumption) | (simp [AV.plain, AV.plains, AV.cells, pev, Pst.c])))) (sco (sld rfl rfl (lda (n := 1) (by kernel_rfl) (by first | assumption | (simp (disch := first | omega | (simp only [hNw, hPt]; omega)) only [gn0, gn1, gn2, gn3, gn4, gn5, gp0, gno, gpo] <;> first | rfl | assumption | exact gp0 _ _ _ | exact gn0 _ _)) (by first | rfl | assumption)) rfl (eqr _ (by first | rfl | exact lpl (by assumption) | (simp [AV.plain, AV.plains, AV.cells, pev, Pst.c])))) (sco (sld rfl rfl (lda (n := 1) (by kernel_rfl) (by first | assumption | (simp (disch := first | omega | (simp only [hNw, hPt]; omega)) only [gn0, gn1, gn2, gn3, gn4, gn5, gp0, gno, gpo] <;> first | rfl | assumption | exact gp0 _ _ _ | exact gn0 _ _)) (by first | rfl | assumption)) rfl (eqr _ (by first | rfl | exact lpl (by assumption) | (simp [AV.plain, AV.plains, AV.cells, pev, Pst.c])))) rfl))))), ?_⟩
  refine OkP.step ?_
  refine OkO.build (z := [.int .u8 0, .nilf]) (pl := [(0, 1), (1, 1)]) rfl (by kernel_rfl) rfl rfl ?_
  refine OkO.nil ⟨rfl, ?_⟩
  refine OkP.step ?_
  refine OkO.buildSlice (el := 160) (sz := 2) (z := [.int .u8 0, .nilf]) rfl (by kernel_rfl) (by decide) rfl rfl ?_
  refine OkO.nil ⟨(sco (sld rfl rfl (lda (n := 1) (by kernel_rfl) (by first | assumption | (simp (disch := first | omega | (simp only [hNw, hPt]; omega)) only [gn0, gn1, gn2, gn3, gn4, gn5, gp0, gno, gpo] <;> first | rfl | assumption | exact gp0 _ _ _ | exact gn0 _ _)) (by first | rfl | assumption)) rfl (eqr _ (by first | rfl | exact lpl (by assumption) | (simp [AV.plain, AV.plains, AV.cells, pev, Pst.c])))) (sco (sld rfl rfl (lda (n := 1) (by kernel_rfl) (by first | assumption | (simp (disch := first | omega | (simp only [hNw, hPt]; omega)) only [gn0, gn1, gn2, gn3, gn4, gn5, gp0, gno, gpo] <;> first | rfl | assumption | exact gp0 _ _ _ | exact gn0 _ _)) (by first | rfl | assumption)) rfl (eqr _ (by first | rfl | exact lpl (by assumption) | (simp [AV.plain, AV.plains, AV.cells, pev, Pst.c])))) (sco (sld rfl rfl (lda (n := 1) (by kernel_rfl) (by first | assumption | (simp (disch := first | omega | (simp only [hNw, hPt]; omega)) only [gn0, gn1, gn2, gn3, gn4, gn5, gp0, gno, gpo] <;> first | rfl | assumption | exact gp0 _ _ _ | exact gn0 _ _)) (by first | rfl | assumption)) rfl (eqr _ (by first | rfl | exact lpl (by assumption) | (simp [AV.plain, AV.plains, AV.cells, pev, Pst.c])))) (sco (sld rfl rfl (lda (n := 1) (by kernel_rfl) (by first | assumption | (simp (disch := first | omega | (simp only [hNw, hPt]; omega)) only [gn0, gn1, gn2, gn3, gn4, gn5, gp0, gno, gpo] <;> first | rfl | assumption | exact gp0 _ _ _ | exact gn0 _ _)) (by first | rfl | assumption)) rfl (eqr _ (by first | rfl | exact lpl (by assumption) | (simp [AV.plain, AV.plains, AV.cells, pev, Pst.c])))) (sco (sld rfl rfl (lda (n := 1) (by kernel_rfl) (by first | assumption | (simp (disch := first | omega | (simp only [hNw, hPt]; omega)) only [gn0, gn1, gn2, gn3, gn4, gn5, gp0, gno, gpo] <;> first | rfl | assumption | exact gp0 _ _ _ | exact gn0 _ _)) (by first | rfl | assumption)) rfl (eqr _ (by first | rfl | exact lpl (by assumption) | (simp [AV.plain, AV.plains, AV.cells, pev, Pst.c])))) rfl))))), ?_⟩
  refine OkP.step ?_
  refine OkO.assign rfl rfl ?_
  refine OkO.nil ⟨rfl, ?_⟩
  refine OkP.nil ?_
  refine Ok.ret ⟨.inr rfl, ?_⟩
  refine back_newQ rfl rfl (by rw [← hW]; exact (by (try dsimp only); repeat (first | exact g3 | apply Grow.new))) rfl (fun H9 p1 p2 p3 => ⟨rfl, p1, fun i => if i = 0 then W.next + 1 else if i = 1 then H1.next else H2.next, fun i hi => ?_⟩)
  try simp only [hNw] at p3
  have hB : H9.get H3.next = some (.cells [.int .u8 3, .fn 110 [] [.ptr (W.next + 1) 0], .int .u8 2, .fn 110 [] [.ptr H1.next 0], .int .u8 1, .fn 110 [] [.ptr H2.next 0]] 160) := by rw [p2]; exact gn0 _ _
  have k1 : H9.get (W.next + 1) = some (.cells [I (hrI p 0)] 3) := by rw [p2, gno _ _ _ (by omega), q3.ext.get _ (by omega), q2.ext.get _ (by omega)]; rw [show hrI p 0 = p.out from by simp [hrI]]; exact o1
  have k2 : H9.get H1.next = some (.cells [I (hrI p 1)] 3) := by rw [p2, gno _ _ _ (by omega), q3.ext.get _ (by omega)]; rw [show hrI p 1 = p.out + p.ahead from by simp [hrI]]; exact o2
  have k3 : H9.get H2.next = some (.cells [I (hrI p 2)] 3) := by rw [p2, gno _ _ _ (by omega)]; rw [show hrI p 2 = p.out + 2 * p.ahead from by simp [hrI]]; exact o3
  match i, hi with
  | 0, _ => exact ⟨⟨by simp; omega, k1⟩, H3.next, 0, [.int .u8 3, .fn 110 [] [.ptr (W.next + 1) 0], .int .u8 2, .fn 110 [] [.ptr H1.next 0], .int .u8 1, .fn 110 [] [.ptr H2.next 0]], rfl, by rw [hB]; rfl, rfl, rfl, rfl, by omega⟩
  | 1, _ => exact ⟨⟨by simp; omega, k2⟩, H3.next, 2, [.int .u8 3, .fn 110 [] [.ptr (W.next + 1) 0], .int .u8 2, .fn 110 [] [.ptr H1.next 0], .int .u8 1, .fn 110 [] [.ptr H2.next 0]], rfl, by rw [hB]; rfl, rfl, rfl, rfl, by omega⟩
  | 2, _ => exact ⟨⟨by simp; omega, k3⟩, H3.next, 4, [.int .u8 3, .fn 110 [] [.ptr (W.next + 1) 0], .int .u8 2, .fn 110 [] [.ptr H1.next 0], .int .u8 1, .fn 110 [] [.ptr H2.next 0]], rfl, by rw [hB]; rfl, rfl, rfl, rfl, by omega⟩
theorem c84 (m : Nat) (ev : AV) (p : Pst) (s0 : Int) (H : Heap) (hel : ∃ q, lenOf ev = some q) (hs : -1000000 ≤ s0 ∧ s0 ≤ 1000000) (hpo : (0 ≤ p.gain ∧ p.gain ≤ 200) ∧ (1 ≤ p.fall ∧ p.fall ≤ 1000) ∧ (0 ≤ p.out ∧ p.out ≤ 60) ∧ 0 ≤ p.ahead ∧ p.ahead ≤ 60) : RR (m + 4) (.fn 84 [.agg (p.c ev), I s0]) H = some (.int .u8 (levelI p s0), H) := by
  refine (R_fn _ _ _ _ _).trans ?_
  refine fn_ok Try.func84 rfl rfl (by kernel_rfl) (by kernel_rfl) ?_
  obtain ⟨W, hW⟩ : ∃ W : Heap, W = ⟨H.t, H.next, H.next⟩ := ⟨_, rfl⟩
  have hg : ∀ n, W.get n = H.get n := fun n => by rw [hW]; rfl
  have hN : W.next = H.next := by rw [hW]
  have hE : ∀ G, Grow W G → Ext H G := fun G g => ⟨by rw [← hN]; exact g.next, fun n k => by rw [g.get n (by rw [hN]; exact k), hg]⟩
  have hG : Grow W W := Grow.refl (by rw [hW]; exact Nat.le_refl _)
  rw [← hW]
  have pev : ev.plain = true := (by obtain ⟨q, hq⟩ := hel; exact lpl hq)
  refine Ok.seq ?_
  refine Ok.region ?_
  refine OkO.box rfl rfl ?_
  refine OkO.assign rfl rfl ?_
  refine OkO.nil ?_
  refine Ok.seq ?_
  refine Ok.region ?_
  refine OkO.load rfl rfl (ldg (n := 6) (by kernel_rfl) (by first | assumption | (simp (disch := first | omega | (simp only [hNw, hPt]; omega)) only [gn0, gn1, gn2, gn3, gn4, gn5, gp0, gno, gpo] <;> first | rfl | assumption | exact gp0 _ _ _ | exact gn0 _ _)) (by first | rfl | assumption)) ?_
  refine OkO.move rfl rfl ?_
  refine OkO.callV rfl rfl rfl rfl rfl (c103 (m + 2) ev p s0 _ hs (hpo)) ?_ -- "(sackung/alarm.Post).left"
  refine OkO.assign rfl rfl ?_
  refine OkO.nil ?_
  refine Ok.seq ?_
  refine Ok.seq ?_
  refine Ok.region ?_
  refine OkO.load rfl rfl (ldg (n := 6) (by kernel_rfl) (by first | assumption | (simp (disch := first | omega | (simp only [hNw, hPt]; omega)) only [gn0, gn1, gn2, gn3, gn4, gn5, gp0, gno, gpo] <;> first | rfl | assumption | exact gp0 _ _ _ | exact gn0 _ _)) (by first | rfl | assumption)) ?_
  refine OkO.callE rfl rfl rfl rfl rfl (c104 (m + 1) ev p _ hel hpo) ?_ -- "(sackung/alarm.Post).signals"
  rintro sv Hs ⟨hsl, qs, bk, hsv⟩
  have gs : Grow W Hs := Grow.ret (by (try dsimp only); repeat (first | exact hG | apply Grow.new | (refine Grow.put ?_ _ (by first | omega | (simp only [hNw, hPt]; omega))))) qs
  refine OkO.builtin rfl rfl rfl (bln (by kernel_rfl) (by first | assumption | rfl)) ?_
  refine OkO.move rfl rfl ?_
  refine OkO.nil ?_
  refine Ok.block ?_
  refine Ok.loop (fun n s => ∃ i : Nat, n = 3 - i ∧ i ≤ 3 ∧ (∀ j, j < i → ¬ leftI p s0 ≤ hrI p j) ∧ Has 5 [(5, I (leftI p s0)), (12, sv), (13, I 3), (14, I (i : Int))] s.T ∧ s.D = [] ∧ Grow W s.H ∧ Ext Hs s.H) (3) (by unfold loopFuel; omega)
    ⟨0, rfl, by omega, nofun, Has.of (by kernel_rfl), rfl, gs, Ext.refl _⟩ ?_
  rintro n ⟨T, D, G⟩ ⟨i, hn, hi, hall, ⟨f, hT⟩, hD, hg, hx9⟩
  dsimp only at *
  subst hT hD
  have hgn := hg.next
  refine Ok.seq ?_
  refine Ok.region ?_
  refine OkO.bin rfl rfl rfl (bin_lss _ _) ?_
  refine OkO.nil ?_
  refine Ok.seq ?_
  refine Ok.cond rfl (fun h1 => ?_) (fun h1 => ?_)
  · -- yes h1
    have hlt : i < 3 := by (have h9 : (i : Int) < 3 := by simpa using h1); omega
    have hx9n := hx9.next
    obtain ⟨⟨hb1, hb2⟩, sb, so, scs, s1, s2, s3, s4, s5, s6⟩ := hsv i hlt
    have s2g : (G.get sb).bind AObj.cs = some scs := by rw [hx9.get _ s6]; exact s2
    have bget : ((G.new (.cells [.int .u8 0, .nilf] 160)).put G.next (.cells [.int .u8 (3 - (i : Int)), .fn 110 [] [.ptr (bk i) 0]] 160)).get (bk i) = some (.cells [I (hrI p i)] 3) := by rw [gpo _ _ _ _ (by have := hx9.next; omega), gno _ _ _ (by have := hx9.next; omega), hx9.get _ hb1]; exact hb2
    refine Ok.skip ?_
    refine Ok.seq ?_
    refine Ok.block ?_
    refine Ok.seq ?_
    refine Ok.region ?_
    refine OkO.index (sz := 2) (n := i) rfl rfl rfl (by kernel_rfl) (by first | assumption | rfl | exact slAt_slice (by omega) | exact slAt_opn (by omega)) ?_ -- index ('Go.Operand.tmp', 12) ('Go.Operand.tmp', 14)
    refine OkO.load rfl rfl (ldg (n := 2) (by kernel_rfl) (by first | assumption | (simp (disch := first | omega | (simp only [hNw, hPt]; omega)) only [gn0, gn1, gn2, gn3, gn4, gn5, gp0, gno, gpo] <;> first | rfl | assumption | exact gp0 _ _ _ | exact gn0 _ _)) (by first | rfl | assumption)) ?_
    refine OkO.alloc (z := [.int .u8 0, .nilf]) rfl (by kernel_rfl) ?_
    refine OkO.store rfl rfl rfl (sAc (n := 2) (ag := true) (by kernel_rfl) (by first | assumption | (simp (disch := first | omega | (simp only [hNw, hPt]; omega)) only [gn0, gn1, gn2, gn3, gn4, gn5, gp0, gno, gpo] <;> first | rfl | assumption | exact gp0 _ _ _ | exact gn0 _ _)) rfl (by first | rfl | assumption) (by first | rfl | exact spl_set _ _ _ (by first | assumption | omega | (simp; omega)))) ?_
    refine OkO.nil ?_
    refine Ok.seq ?_
    refine Ok.region ?_
    refine OkO.fieldAddr (o := 1) rfl (by kernel_rfl) rfl ?_
    refine OkO.load rfl rfl (lda (n := 1) (by kernel_rfl) (by first | assumption | (simp (disch := first | omega | (simp only [hNw, hPt]; omega)) only [gn0, gn1, gn2, gn3, gn4, gn5, gp0, gno, gpo] <;> first | rfl | assumption | exact gp0 _ _ _ | exact gn0 _ _)) (by first | rfl | assumption)) ?_
    refine OkO.move rfl rfl ?_
    refine OkO.callV rfl rfl rfl rfl rfl (c110 (m + 2) _ (hrI p i) (bk i) _ bget) ?_ -- ('Go.Operand.tmp', 19)
    refine OkO.nil ?_
    refine Ok.cond rfl (fun h2 => ?_) (fun h2 => ?_)
    · -- yes h2
      have hle : leftI p s0 ≤ hrI p i := by simpa using h2
      refine Ok.seq ?_
      refine Ok.region ?_
      refine OkO.fieldAddr (o := 0) rfl (by kernel_rfl) rfl ?_
      refine OkO.load rfl rfl (lda (n := 1) (by kernel_rfl) (by first | assumption | (simp (disch := first | omega | (simp only [hNw, hPt]; omega)) only [gn0, gn1, gn2, gn3, gn4, gn5, gp0, gno, gpo] <;> first | rfl | assumption | exact gp0 _ _ _ | exact gn0 _ _)) (by first | rfl | assumption)) ?_
      refine OkO.assign rfl rfl ?_
      refine OkO.nil ?_
      refine Ok.ret ⟨.inr rfl, ?_⟩
      exact back_flat rfl (congrArg (AV.int .u8) (level_at hlt hall hle).symm) rfl (by rw [← hW]; exact (by (try dsimp only); repeat (first | exact hg | exact hG | apply Grow.new | (refine Grow.put ?_ _ (by first | omega | (simp only [hNw, hPt]; omega))))))
    · -- no h2
      refine Ok.skip ?_
      refine Ok.region ?_
      refine OkO.bin rfl rfl rfl (bin_add (by omega) (by omega)) ?_
      refine OkO.move rfl rfl ?_
      refine OkO.nil ?_
      refine ⟨3 - (i + 1), by omega, i + 1, rfl, by omega, fun j hj => ?_, Has.of (by kernel_rfl), rfl, (by (try dsimp only); repeat (first | exact hg | exact hG | apply Grow.new | (refine Grow.put ?_ _ (by first | omega | (simp only [hNw, hPt]; omega))))), (by (try dsimp only); repeat (first | exact Ext.refl _ | exact hx9 | apply Ext.new | (refine Ext.put ?_ _ (by first | omega | (simp only [hNw, hPt]; omega)))))⟩
      by_cases e : j = i
      · subst e; simpa using h2
      · exact hall j (by omega)
  · -- no h1
    have hge : i = 3 := by simp at h1; omega
    refine Ok.exit ?_
    refine Ok.seq ?_
    refine Ok.region ?_
    refine OkO.assign rfl rfl ?_
    refine OkO.nil ?_
    refine Ok.ret ⟨.inr rfl, ?_⟩
    exact back_flat rfl (congrArg (AV.int .u8) (level_none fun j hj => hall j (by omega)).symm) rfl (by rw [← hW]; exact (by (try dsimp only); repeat (first | exact hg | exact hG | apply Grow.new | (refine Grow.put ?_ _ (by first | omega | (simp only [hNw, hPt]; omega))))))
def mnL : List Int → Int
  | [] => 0
  | a :: l => l.foldl min a
def mxL : List Int → Int
  | [] => 0
  | a :: l => l.foldl max a
theorem mn_take {L : List Int} {i : Nat} (hi : i < L.length) (h0 : 0 < i) : mnL (L.take (i + 1)) = min (mnL (L.take i)) L[i] := by
  rw [List.take_succ_eq_append_getElem hi]
  cases L with
  | nil => simp at hi
  | cons a l =>
    obtain ⟨k, rfl⟩ : ∃ k, i = k + 1 := ⟨i - 1, by omega⟩
    rw [List.take_succ_cons, List.cons_append]
    show (l.take k ++ [_]).foldl min a = _
    rw [List.foldl_append]; rfl
theorem mx_take {L : List Int} {i : Nat} (hi : i < L.length) (h0 : 0 < i) : mxL (L.take (i + 1)) = max (mxL (L.take i)) L[i] := by
  rw [List.take_succ_eq_append_getElem hi]
  cases L with
  | nil => simp at hi
  | cons a l =>
    obtain ⟨k, rfl⟩ : ∃ k, i = k + 1 := ⟨i - 1, by omega⟩
    rw [List.take_succ_cons, List.cons_append]
    show (l.take k ++ [_]).foldl max a = _
    rw [List.foldl_append]; rfl
theorem c101 (m : Nat) (v : AV) (L : List Int) (H : Heap) (hU : Ints H v L) (hl0 : 1 ≤ L.length) (hl : L.length ≤ 100000) : RR (m + 1) (.fn 101 [v]) H = some (I (mnL L), H) := by
  refine (R_fn _ _ _ _ _).trans ?_
  refine fn_ok Try.func101 rfl rfl (by kernel_rfl) (by kernel_rfl) ?_
  obtain ⟨W, hW⟩ : ∃ W : Heap, W = ⟨H.t, H.next, H.next⟩ := ⟨_, rfl⟩
  have hg : ∀ n, W.get n = H.get n := fun n => by rw [hW]; rfl
  have hN : W.next = H.next := by rw [hW]
  have hE : ∀ G, Grow W G → Ext H G := fun G g => ⟨by rw [← hN]; exact g.next, fun n k => by rw [g.get n (by rw [hN]; exact k), hg]⟩
  have hG : Grow W W := Grow.refl (by rw [hW]; exact Nat.le_refl _)
  rw [← hW]
  have hlen := hU.len
  obtain ⟨zb, zo, zcs, z1, z2, z3, z4⟩ := (hU.ext (hE _ hG)).at' 0 hl0
  refine Ok.seq ?_
  refine Ok.region ?_
  refine OkO.assign rfl rfl ?_
  refine OkO.nil ?_
  refine Ok.seq ?_
  refine Ok.seq ?_
  refine Ok.region ?_
  refine OkO.move rfl rfl ?_
  refine OkO.builtin rfl rfl rfl (bln (by kernel_rfl) (by first | assumption | rfl)) ?_
  refine OkO.bin rfl rfl rfl (bin_lss _ _) ?_
  refine OkO.nil ?_
  refine Ok.cond rfl (fun h1 => ?_) (fun h1 => ?_)
  · -- yes h1
    exact absurd h1 (by simp; omega)
  · -- no h1
    refine Ok.skip ?_
    refine Ok.seq ?_
    refine Ok.region ?_
    refine OkO.move rfl rfl ?_
    refine OkO.index (sz := 1) (n := 0) rfl rfl rfl (by kernel_rfl) (by first | assumption | rfl | exact slAt_slice (by omega) | exact slAt_opn (by omega)) ?_ -- index ('Go.Operand.tmp', 9) ('Go.Operand.const', ('Go.Value.int', 'Go.IntKind.i64', 0))
    refine OkO.load rfl rfl (lda (n := 1) (by kernel_rfl) (by first | assumption | (simp (disch := first | omega | (simp only [hNw, hPt]; omega)) only [gn0, gn1, gn2, gn3, gn4, gn5, gp0, gno, gpo] <;> first | rfl | assumption | exact gp0 _ _ _ | exact gn0 _ _)) (by first | rfl | assumption)) ?_
    refine OkO.assign rfl rfl ?_
    refine OkO.nil ?_
    refine Ok.seq ?_
    refine Ok.seq ?_
    refine Ok.region ?_
    refine OkO.assign rfl rfl ?_
    refine OkO.nil ?_
    refine Ok.block ?_
    have e1 : L[0] = mnL (L.take 1) := by (cases L; (· simp at hl0); (· rfl))
    rw [e1]
    refine Ok.loop (fun n s => ∃ i : Nat, n = L.length - i ∧ 1 ≤ i ∧ i ≤ L.length ∧ Has 5 [(0, v), (3, I (mnL (L.take i))), (4, I (i : Int))] s.T ∧ s.D = [] ∧ s.H = W) (L.length - 1) (by unfold loopFuel; omega)
      ⟨1, rfl, Nat.le_refl _, hl0, Has.of (by kernel_rfl), rfl, rfl⟩ ?_
    rintro n ⟨T, D, G⟩ ⟨i, hn, hi1, hi, ⟨f, hT⟩, hD, hGG⟩
    dsimp only at *
    subst hT hD
    skip
    subst hGG
    refine Ok.seq ?_
    refine Ok.seq ?_
    refine Ok.region ?_
    refine OkO.move rfl rfl ?_
    refine OkO.move rfl rfl ?_
    refine OkO.builtin rfl rfl rfl (bln (by kernel_rfl) (by first | assumption | rfl)) ?_
    refine OkO.bin rfl rfl rfl (bin_lss _ _) ?_
    refine OkO.nil ?_
    refine Ok.cond rfl (fun h2 => ?_) (fun h2 => ?_)
    · -- yes h2
      have hlt : i < L.length := by simpa using h2
      obtain ⟨xb, xo, xcs, x1, x2, x3, x4⟩ := (hU.ext (hE _ hG)).at' i hlt
      refine Ok.skip ?_
      refine Ok.seq ?_
      refine Ok.block ?_
      refine Ok.region ?_
      refine OkO.move rfl rfl ?_
      refine OkO.move rfl rfl ?_
      refine OkO.move rfl rfl ?_
      refine OkO.index (sz := 1) (n := i) rfl rfl rfl (by kernel_rfl) (by first | assumption | rfl | exact slAt_slice (by omega) | exact slAt_opn (by omega)) ?_ -- index ('Go.Operand.tmp', 19) ('Go.Operand.tmp', 20)
      refine OkO.load rfl rfl (lda (n := 1) (by kernel_rfl) (by first | assumption | (simp (disch := first | omega | (simp only [hNw, hPt]; omega)) only [gn0, gn1, gn2, gn3, gn4, gn5, gp0, gno, gpo] <;> first | rfl | assumption | exact gp0 _ _ _ | exact gn0 _ _)) (by first | rfl | assumption)) ?_
      refine OkO.builtin rfl rfl rfl (builtin_min2 _ _) ?_
      refine OkO.assign rfl rfl ?_
      refine OkO.nil ?_
      refine Ok.region ?_
      refine OkO.move rfl rfl ?_
      refine OkO.bin rfl rfl rfl (bin_add (by omega) (by omega)) ?_
      refine OkO.assign rfl rfl ?_
      refine OkO.nil ?_
      refine ⟨L.length - (i + 1), by omega, i + 1, rfl, by omega, by omega, ?_, rfl, rfl⟩
      rw [mn_take hlt (by omega)]
      exact Has.of (by kernel_rfl)
    · -- no h2
      have hge : L.length ≤ i := by simp at h2; omega
      rw [List.take_of_length_le hge]
      refine Ok.exit ?_
      refine Ok.seq ?_
      refine Ok.region ?_
      refine OkO.move rfl rfl ?_
      refine OkO.assign rfl rfl ?_
      refine OkO.nil ?_
      refine Ok.ret ⟨.inr rfl, ?_⟩
      exact back_flat rfl rfl rfl (by rw [← hW]; exact hG)
theorem c102 (m : Nat) (v : AV) (L : List Int) (H : Heap) (hU : Ints H v L) (hl0 : 1 ≤ L.length) (hl : L.length ≤ 100000) : RR (m + 1) (.fn 102 [v]) H = some (I (mxL L), H) := by
  refine (R_fn _ _ _ _ _).trans ?_
  refine fn_ok Try.func102 rfl rfl (by kernel_rfl) (by kernel_rfl) ?_
  obtain ⟨W, hW⟩ : ∃ W : Heap, W = ⟨H.t, H.next, H.next⟩ := ⟨_, rfl⟩
  have hg : ∀ n, W.get n = H.get n := fun n => by rw [hW]; rfl
  have hN : W.next = H.next := by rw [hW]
  have hE : ∀ G, Grow W G → Ext H G := fun G g => ⟨by rw [← hN]; exact g.next, fun n k => by rw [g.get n (by rw [hN]; exact k), hg]⟩
  have hG : Grow W W := Grow.refl (by rw [hW]; exact Nat.le_refl _)
  rw [← hW]
  have hlen := hU.len
  obtain ⟨zb, zo, zcs, z1, z2, z3, z4⟩ := (hU.ext (hE _ hG)).at' 0 hl0
  refine Ok.seq ?_
  refine Ok.region ?_
  refine OkO.assign rfl rfl ?_
  refine OkO.nil ?_
  refine Ok.seq ?_
  refine Ok.seq ?_
  refine Ok.region ?_
  refine OkO.move rfl rfl ?_
  refine OkO.builtin rfl rfl rfl (bln (by kernel_rfl) (by first | assumption | rfl)) ?_
  refine OkO.bin rfl rfl rfl (bin_lss _ _) ?_
  refine OkO.nil ?_
  refine Ok.cond rfl (fun h1 => ?_) (fun h1 => ?_)
  · -- yes h1
    exact absurd h1 (by simp; omega)
  · -- no h1
    refine Ok.skip ?_
    refine Ok.seq ?_
    refine Ok.region ?_
    refine OkO.move rfl rfl ?_
    refine OkO.index (sz := 1) (n := 0) rfl rfl rfl (by kernel_rfl) (by first | assumption | rfl | exact slAt_slice (by omega) | exact slAt_opn (by omega)) ?_ -- index ('Go.Operand.tmp', 9) ('Go.Operand.const', ('Go.Value.int', 'Go.IntKind.i64', 0))
    refine OkO.load rfl rfl (lda (n := 1) (by kernel_rfl) (by first | assumption | (simp (disch := first | omega | (simp only [hNw, hPt]; omega)) only [gn0, gn1, gn2, gn3, gn4, gn5, gp0, gno, gpo] <;> first | rfl | assumption | exact gp0 _ _ _ | exact gn0 _ _)) (by first | rfl | assumption)) ?_
    refine OkO.assign rfl rfl ?_
    refine OkO.nil ?_
    refine Ok.seq ?_
    refine Ok.seq ?_
    refine Ok.region ?_
    refine OkO.assign rfl rfl ?_
    refine OkO.nil ?_
    refine Ok.block ?_
    have e1 : L[0] = mxL (L.take 1) := by (cases L; (· simp at hl0); (· rfl))
    rw [e1]
    refine Ok.loop (fun n s => ∃ i : Nat, n = L.length - i ∧ 1 ≤ i ∧ i ≤ L.length ∧ Has 5 [(0, v), (3, I (mxL (L.take i))), (4, I (i : Int))] s.T ∧ s.D = [] ∧ s.H = W) (L.length - 1) (by unfold loopFuel; omega)
      ⟨1, rfl, Nat.le_refl _, hl0, Has.of (by kernel_rfl), rfl, rfl⟩ ?_
    rintro n ⟨T, D, G⟩ ⟨i, hn, hi1, hi, ⟨f, hT⟩, hD, hGG⟩
    dsimp only at *
    subst hT hD
    skip
    subst hGG
    refine Ok.seq ?_
    refine Ok.seq ?_
    refine Ok.region ?_
    refine OkO.move rfl rfl ?_
    refine OkO.move rfl rfl ?_
    refine OkO.builtin rfl rfl rfl (bln (by kernel_rfl) (by first | assumption | rfl)) ?_
    refine OkO.bin rfl rfl rfl (bin_lss _ _) ?_
    refine OkO.nil ?_
    refine Ok.cond rfl (fun h2 => ?_) (fun h2 => ?_)
    · -- yes h2
      have hlt : i < L.length := by simpa using h2
      obtain ⟨xb, xo, xcs, x1, x2, x3, x4⟩ := (hU.ext (hE _ hG)).at' i hlt
      refine Ok.skip ?_
      refine Ok.seq ?_
      refine Ok.block ?_
      refine Ok.region ?_
      refine OkO.move rfl rfl ?_
      refine OkO.move rfl rfl ?_
      refine OkO.move rfl rfl ?_
      refine OkO.index (sz := 1) (n := i) rfl rfl rfl (by kernel_rfl) (by first | assumption | rfl | exact slAt_slice (by omega) | exact slAt_opn (by omega)) ?_ -- index ('Go.Operand.tmp', 19) ('Go.Operand.tmp', 20)
      refine OkO.load rfl rfl (lda (n := 1) (by kernel_rfl) (by first | assumption | (simp (disch := first | omega | (simp only [hNw, hPt]; omega)) only [gn0, gn1, gn2, gn3, gn4, gn5, gp0, gno, gpo] <;> first | rfl | assumption | exact gp0 _ _ _ | exact gn0 _ _)) (by first | rfl | assumption)) ?_
      refine OkO.builtin rfl rfl rfl (builtin_max2 _ _) ?_
      refine OkO.assign rfl rfl ?_
      refine OkO.nil ?_
      refine Ok.region ?_
      refine OkO.move rfl rfl ?_
      refine OkO.bin rfl rfl rfl (bin_add (by omega) (by omega)) ?_
      refine OkO.assign rfl rfl ?_
      refine OkO.nil ?_
      refine ⟨L.length - (i + 1), by omega, i + 1, rfl, by omega, by omega, ?_, rfl, rfl⟩
      rw [mx_take hlt (by omega)]
      exact Has.of (by kernel_rfl)
    · -- no h2
      have hge : L.length ≤ i := by simp at h2; omega
      rw [List.take_of_length_le hge]
      refine Ok.exit ?_
      refine Ok.seq ?_
      refine Ok.region ?_
      refine OkO.move rfl rfl ?_
      refine OkO.assign rfl rfl ?_
      refine OkO.nil ?_
      refine Ok.ret ⟨.inr rfl, ?_⟩
      exact back_flat rfl rfl rfl (by rw [← hW]; exact hG)
theorem c83 (m : Nat) (v : AV) (L : List Int) (H : Heap) (hU : Ints H v L) (hl0 : 1 ≤ L.length) (hl : L.length ≤ 100000) : RR (m + 2) (.fn 83 [v]) H = some (.agg [I (mnL L), I (mxL L)], H) := by
  refine (R_fn _ _ _ _ _).trans ?_
  refine fn_ok Try.func83 rfl rfl (by kernel_rfl) (by kernel_rfl) ?_
  obtain ⟨W, hW⟩ : ∃ W : Heap, W = ⟨H.t, H.next, H.next⟩ := ⟨_, rfl⟩
  have hg : ∀ n, W.get n = H.get n := fun n => by rw [hW]; rfl
  have hN : W.next = H.next := by rw [hW]
  have hE : ∀ G, Grow W G → Ext H G := fun G g => ⟨by rw [← hN]; exact g.next, fun n k => by rw [g.get n (by rw [hN]; exact k), hg]⟩
  have hG : Grow W W := Grow.refl (by rw [hW]; exact Nat.le_refl _)
  rw [← hW]
  refine Ok.seq ?_
  refine Ok.region ?_
  refine OkO.alloc (z := [.int .i64 0, .int .i64 0]) rfl (by kernel_rfl) ?_
  refine OkO.nil ?_
  refine Ok.seq ?_
  refine Ok.region ?_
  refine OkO.move rfl rfl ?_
  refine OkO.callV rfl rfl rfl rfl rfl (c101 (m + 0) v L _ (hU.ext (hE _ (by (try dsimp only); repeat (first | exact hG | apply Grow.new | (refine Grow.put ?_ _ (by first | omega | (simp only [hNw, hPt]; omega))))))) hl0 hl) ?_ -- "slices.Min[[]int,int]"
  refine OkO.move rfl rfl ?_
  refine OkO.callV rfl rfl rfl rfl rfl (c102 (m + 0) v L _ (hU.ext (hE _ (by (try dsimp only); repeat (first | exact hG | apply Grow.new | (refine Grow.put ?_ _ (by first | omega | (simp only [hNw, hPt]; omega))))))) hl0 hl) ?_ -- "slices.Max[[]int,int]"
  refine OkO.buildArr (z := [.int .i64 0, .int .i64 0]) (sz := 1) rfl (by kernel_rfl) rfl rfl ?_
  refine OkO.store rfl rfl rfl (sAc (n := 2) (ag := true) (by kernel_rfl) (by first | assumption | (simp (disch := first | omega | (simp only [hNw, hPt]; omega)) only [gn0, gn1, gn2, gn3, gn4, gn5, gp0, gno, gpo] <;> first | rfl | assumption | exact gp0 _ _ _ | exact gn0 _ _)) rfl (by first | rfl | assumption) (by first | rfl | exact spl_set _ _ _ (by first | assumption | omega | (simp; omega)))) ?_
  refine OkO.nil ?_
  refine Ok.ret ⟨.inr rfl, ?_⟩
  exact back_flat (resV_cell rfl (ldg (n := 2) (by kernel_rfl) (by first | assumption | (simp (disch := first | omega | (simp only [hNw, hPt]; omega)) only [gn0, gn1, gn2, gn3, gn4, gn5, gp0, gno, gpo] <;> first | rfl | assumption)) (by first | rfl | assumption)) resV_nil) (rfl) rfl (by rw [← hW]; exact (by (try dsimp only); repeat (first | exact hG | apply Grow.new | (refine Grow.put ?_ _ (by first | omega | (simp only [hNw, hPt]; omega))))))
end
end Go.Ev

set_option maxRecDepth 100000
set_option linter.unusedSimpArgs false
set_option linter.unusedVariables false
namespace Go.Ev
open Go Go.Proofs
noncomputable section
/-- The speeds whose least and greatest are known in an hour. -/
def spdL (p : Pst) (rows : List (List Int)) (h : Nat) : Nat → List Int
  | 0 => []
  | i + 1 => spdL p rows h i ++ (if h + 1 ≤ lenM p rows i then [((mayL p ((i : Int) - 1) rows).getD h nul).1, ((mayL p ((i : Int) - 1) rows).getD h nul).2] else [])
theorem spdL_yes {p : Pst} {rows : List (List Int)} {h i : Nat} (hr : h + 1 ≤ lenM p rows i) (hh : h < (mayL p ((i : Int) - 1) rows).length) : spdL p rows h (i + 1) = spdL p rows h i ++ [(mayL p ((i : Int) - 1) rows)[h].1, (mayL p ((i : Int) - 1) rows)[h].2] := by
  show spdL p rows h i ++ (if h + 1 ≤ lenM p rows i then _ else _) = _
  rw [if_pos hr, show (mayL p ((i : Int) - 1) rows).getD h nul = (mayL p ((i : Int) - 1) rows)[h] from by simp [List.getD, hh]]
theorem spdL_no {p : Pst} {rows : List (List Int)} {h i : Nat} (hr : ¬ h + 1 ≤ lenM p rows i) : spdL p rows h (i + 1) = spdL p rows h i := by
  show spdL p rows h i ++ (if h + 1 ≤ lenM p rows i then _ else _) = _
  rw [if_neg hr, List.append_nil]
theorem spdL_len (p : Pst) (rows : List (List Int)) (h : Nat) : ∀ i, (spdL p rows h i).length ≤ 2 * i
  | 0 => by simp [spdL]
  | i + 1 => by
    have := spdL_len p rows h i
    show (spdL p rows h i ++ _).length ≤ _
    rw [List.length_append]
    split <;> simp <;> omega
theorem ivs_at {k : Nat} {G : Heap} {v : AV} {l : List Iv} (h : Mine k G v 125 2 (ivCells l)) {i : Nat} (hi : i < l.length) : ∃ b off cs, slAt v 2 i = some (b, off) ∧ (G.get b).bind AObj.cs = some cs ∧ cs[off]? = some (I l[i].1) ∧ cs[off + 1]? = some (I l[i].2) ∧ seg cs off 2 = some (ivc l[i]) ∧ b < G.next := by
  obtain ⟨b, off, cs, i1, i2, i3, i4⟩ := h.ivs.at_ i (ivc l[i]) (by simp [hi])
  refine ⟨b, off, cs, i1, i2, ?_, ?_, i3, i4⟩
  · exact seg_one (seg_sub i3 0 1 (by omega) (by omega))
  · exact seg_one (seg_sub i3 1 1 (by omega) (by omega))
theorem RngJ.grow {W X : Heap} {bl : List Nat} {st : LoopState} {pd : Option Code} {ps : List Tmp} {sa bd : Code} {T0 : Tr AV} {G : Heap} (h : RngJ X bl st pd ps sa bd T0 G) (g : Grow W X) (hb : ∀ j ∈ bl, W.next ≤ j) (hlo : W.next ≤ G.lo) : Grow W G :=
  ⟨by have := h.nx; have := g.next; omega, fun n hn => by rw [h.get n (by have := g.next; omega) (fun hc => by have := hb n hc; omega)]; exact g.get n hn, hlo⟩
noncomputable def as61 : Code := match Try.f61.body.bind rangeOf with | some r => r.1 | none => .skip
noncomputable def bd61 : Code := match Try.f61.body.bind rangeOf with | some r => r.2 | none => .skip
theorem RngJ.turn {X : Heap} {bl : List Nat} {st st' : LoopState} {pd pd' : Option Code} {ps : List Tmp} {sa bd : Code} {T0 : Tr AV} {G : Heap} (h : RngJ X bl st pd ps sa bd T0 G) : RngJ X bl st' pd' ps sa bd T0 (G.put (X.next + 1) (.loop st' pd' T0 ps sa bd X.next)) :=
  ⟨by simp; exact h.nx, fun j a c => by rw [gpo _ _ _ _ (by omega)]; exact h.get j a c, by rw [gpo _ _ _ _ (by omega)]; exact h.b0, gp0 _ _ _⟩
theorem RngJ.move {X : Heap} {bl : List Nat} {st : LoopState} {pd : Option Code} {ps : List Tmp} {sa bd : Code} {T0 : Tr AV} {G G' : Heap} (h : RngJ X bl st pd ps sa bd T0 G) (hb : ∀ j ∈ bl, j < X.next) (hn : G.next ≤ G'.next) (hg : ∀ j, j < X.next + 2 → j ∉ bl → G'.get j = G.get j) : RngJ X bl st pd ps sa bd T0 G' :=
  ⟨Nat.le_trans h.nx hn, fun j a c => by rw [hg j (by omega) c]; exact h.get j a c, by rw [hg _ (by omega) (fun hc => by have := hb _ hc; omega)]; exact h.b0, by rw [hg _ (by omega) (fun hc => by have := hb _ hc; omega)]; exact h.b1⟩
theorem r61 (m h i : Nat) (p : Pst) (rows : List (List Int)) (x : AV) (fl : Int) (T0 : Tr AV) (W X G : Heap) (hH : Has 6 [(3, .ptr (W.next + 1) 0), (5, .ptr (W.next + 3) 0)] T0) (hJ : (fun i G => RngJ X [W.next + 3] .ready none [13, 14] as61 bd61 T0 G ∧ ∃ ov, G.get (W.next + 3) = some (.cells [ov] 22) ∧ Mine (X.next + 2) G ov 3 1 ((spdL p rows h i).map I)) i G) (gX : Grow W X) (hN : W.next + 4 ≤ X.next) (x1 : X.get (W.next + 1) = some (.cells [I (h : Int)] 3)) (x3 : X.get (W.next + 3) = some (.cells [.nils] 22)) (hx : Mine 0 X x 125 2 (ivCells (mayL p ((i : Int) - 1) rows))) (hi : i ≤ p.errs.length) (hpl : p.errs.length ≤ 1000) (hr : h + 1 ≤ lenM p rows i) (hlo : W.next ≤ G.lo) :
    ∃ v H', RR (m + 1) (.round (X.next + 1) [I fl, x]) G = some (v, H') ∧ v = .bool true ∧ (fun i G => RngJ X [W.next + 3] .ready none [13, 14] as61 bd61 T0 G ∧ ∃ ov, G.get (W.next + 3) = some (.cells [ov] 22) ∧ Mine (X.next + 2) G ov 3 1 ((spdL p rows h i).map I)) (i + 1) H' ∧ W.next ≤ H'.lo ∧ H'.lo ≤ X.next + 1 ∧ G.next ≤ H'.next := by
  show ∃ v H', evRound Try.prog (RR m) (X.next + 1) [I fl, x] G = some (v, H') ∧ v = .bool true ∧ (fun i G => RngJ X [W.next + 3] .ready none [13, 14] as61 bd61 T0 G ∧ ∃ ov, G.get (W.next + 3) = some (.cells [ov] 22) ∧ Mine (X.next + 2) G ov 3 1 ((spdL p rows h i).map I)) (i + 1) H' ∧ W.next ≤ H'.lo ∧ H'.lo ≤ X.next + 1 ∧ G.next ≤ H'.next
  obtain ⟨fr, hT⟩ := hH
  obtain ⟨hj, ov, h3, hov⟩ := hJ
  have hh : h < (mayL p ((i : Int) - 1) rows).length := hr
  obtain ⟨yl, hyl⟩ : ∃ yl, yl = mayL p ((i : Int) - 1) rows := ⟨_, rfl⟩
  subst hT
  have hnx := hj.nx
  refine round_okR hj.b1 rfl ?_
  refine Ok.region ?_
  refine OkO.assign rfl rfl ?_
  refine OkO.nil ?_
  refine ⟨rfl, _, _, _, _, _, _, hj.b1, ?_⟩
  obtain ⟨G1, hG1⟩ : ∃ G1, G1 = G.put (X.next + 1) (.loop .busy none (mkT 6 0 1 (upd fr [(3, .ptr (W.next + 1) 0), (5, .ptr (W.next + 3) 0)])) [13, 14] as61 bd61 X.next) := ⟨_, rfl⟩
  rw [← hG1]
  have hj1 : RngJ X [W.next + 3] .busy none [13, 14] as61 bd61 (mkT 6 0 1 (upd fr [(3, .ptr (W.next + 1) 0), (5, .ptr (W.next + 3) 0)])) G1 := by rw [hG1]; exact hj.turn
  have n1 : G1.next = G.next := by rw [hG1]; simp
  have hn1 := hj1.nx
  have hov1 : Mine (X.next + 2) G1 ov 3 1 ((spdL p rows h i).map I) := by rw [hG1]; exact hov.putO _ hj.b1 nofun
  have e3 : G1.get (W.next + 3) = some (.cells [ov] 22) := by rw [hG1, gpo _ _ _ _ (by omega)]; exact h3
  have e3b : (G1.get (W.next + 3)).bind AObj.cs = some [ov] := by rw [e3]; rfl
  have e1b : (G1.get (W.next + 1)).bind AObj.cs = some [I (h : Int)] := by rw [hj1.get _ (by omega) (by simp), x1]; rfl
  rw [← hyl] at hx
  obtain ⟨xb, xo, xcs, i1, i2x, i3, i4, i5, i6⟩ := ivs_at hx (i := h) (by rw [hyl]; exact hh)
  have hxn : xb ≠ W.next + 3 := fun e => by (rw [e, x3] at i2x; cases i2x; (cases xo <;> simp [I] at i3))
  have i2 : (G1.get xb).bind AObj.cs = some xcs := by rw [hj1.get _ i6 (by simpa using hxn)]; exact i2x
  obtain ⟨mo, hmo, _⟩ := hov1.len
  obtain ⟨mx, hmx, _⟩ := hx.len
  have hlo1 : W.next ≤ G1.lo := by rw [hG1, Heap.lo_put]; omega
  have gW : Grow W G1 := hj1.grow gX (fun j hj => by simp at hj; omega) hlo1
  refine Ok.block ?_
  refine Ok.drawn [(0, true, []), (1, true, []), (2, true, []), (3, true, []), (4, true, []), (5, true, []), (6, true, []), (7, true, []), (8, true, []), (9, true, []), (10, true, []), (11, true, [10, 7, 5, 2, 0]), (12, false, [10, 7, 5, 2]), (13, false, [])] (by kernel_rfl) ?_
  refine OkP.step ?_
  refine OkO.load rfl rfl (lda (n := 1) (by kernel_rfl) (by first | assumption | (simp (disch := first | omega | (simp only [hNw, hPt]; omega)) only [gn0, gn1, gn2, gn3, gn4, gn5, gp0, gno, gpo] <;> first | rfl | assumption | exact gp0 _ _ _ | exact gn0 _ _)) (by first | rfl | assumption)) ?_
  refine OkO.nil ⟨rfl, ?_⟩
  refine OkP.step ?_
  refine OkO.move rfl rfl ?_
  refine OkO.nil ⟨rfl, ?_⟩
  refine OkP.step ?_
  refine OkO.load rfl rfl (lda (n := 1) (by kernel_rfl) (by first | assumption | (simp (disch := first | omega | (simp only [hNw, hPt]; omega)) only [gn0, gn1, gn2, gn3, gn4, gn5, gp0, gno, gpo] <;> first | rfl | assumption | exact gp0 _ _ _ | exact gn0 _ _)) (by first | rfl | assumption)) ?_
  refine OkO.nil ⟨rfl, ?_⟩
  refine OkP.step ?_
  refine OkO.index (sz := 2) (n := h) rfl rfl rfl (by kernel_rfl) (by first | assumption | rfl | exact slAt_slice (by omega) | exact slAt_opn (by omega)) ?_ -- index ('Go.Operand.tmp', 16) ('Go.Operand.tmp', 17)
  refine OkO.nil ⟨rfl, ?_⟩
  refine OkP.step ?_
  refine OkO.indexArr (len := 2) (sz := 1) (n := 0) rfl rfl rfl (by kernel_rfl) (by omega) ?_
  refine OkO.nil ⟨rfl, ?_⟩
  refine OkP.step ?_
  refine OkO.load rfl rfl (lda (n := 1) (by kernel_rfl) (by first | assumption | (simp (disch := first | omega | (simp only [hNw, hPt]; omega)) only [gn0, gn1, gn2, gn3, gn4, gn5, gp0, gno, gpo] <;> first | rfl | assumption | exact gp0 _ _ _ | exact gn0 _ _)) (by first | rfl | assumption)) ?_
  refine OkO.nil ⟨rfl, ?_⟩
  refine OkP.step ?_
  refine OkO.move rfl rfl ?_
  refine OkO.nil ⟨rfl, ?_⟩
  refine OkP.step ?_
  refine OkO.load rfl rfl (lda (n := 1) (by kernel_rfl) (by first | assumption | (simp (disch := first | omega | (simp only [hNw, hPt]; omega)) only [gn0, gn1, gn2, gn3, gn4, gn5, gp0, gno, gpo] <;> first | rfl | assumption | exact gp0 _ _ _ | exact gn0 _ _)) (by first | rfl | assumption)) ?_
  refine OkO.nil ⟨rfl, ?_⟩
  refine OkP.step ?_
  refine OkO.index (sz := 2) (n := h) rfl rfl rfl (by kernel_rfl) (by first | assumption | rfl | exact slAt_slice (by omega) | exact slAt_opn (by omega)) ?_ -- index ('Go.Operand.tmp', 21) ('Go.Operand.tmp', 22)
  refine OkO.nil ⟨rfl, ?_⟩
  refine OkP.step ?_
  refine OkO.indexArr (len := 2) (sz := 1) (n := 1) rfl rfl rfl (by kernel_rfl) (by omega) ?_
  refine OkO.nil ⟨rfl, ?_⟩
  refine OkP.step ?_
  refine OkO.load rfl rfl (lda (n := 1) (by kernel_rfl) (by first | assumption | (simp (disch := first | omega | (simp only [hNw, hPt]; omega)) only [gn0, gn1, gn2, gn3, gn4, gn5, gp0, gno, gpo] <;> first | rfl | assumption | exact gp0 _ _ _ | exact gn0 _ _)) (by first | rfl | assumption)) ?_
  refine OkO.nil ⟨rfl, ?_⟩
  refine OkP.step ?_
  refine OkO.buildSlice (el := 3) (sz := 1) (z := [.int .i64 0]) rfl (by kernel_rfl) (by decide) rfl rfl ?_
  refine OkO.nil ⟨(sco (sld rfl rfl (lda (n := 1) (by kernel_rfl) (by first | assumption | (simp (disch := first | omega | (simp only [hNw, hPt]; omega)) only [gn0, gn1, gn2, gn3, gn4, gn5, gp0, gno, gpo] <;> first | rfl | assumption | exact gp0 _ _ _ | exact gn0 _ _)) (by first | rfl | assumption)) rfl (eqr _ (by first | rfl | exact lpl (by assumption) | (simp [AV.plain, AV.plains, AV.cells, AV.plain])))) (sco (sld rfl rfl (lda (n := 1) (by kernel_rfl) (by first | assumption | (simp (disch := first | omega | (simp only [hNw, hPt]; omega)) only [gn0, gn1, gn2, gn3, gn4, gn5, gp0, gno, gpo] <;> first | rfl | assumption | exact gp0 _ _ _ | exact gn0 _ _)) (by first | rfl | assumption)) rfl (eqr _ (by first | rfl | exact lpl (by assumption) | (simp [AV.plain, AV.plains, AV.cells, AV.plain])))) (sco (sld rfl rfl (lda (n := 1) (by kernel_rfl) (by first | assumption | (simp (disch := first | omega | (simp only [hNw, hPt]; omega)) only [gn0, gn1, gn2, gn3, gn4, gn5, gp0, gno, gpo] <;> first | rfl | assumption | exact gp0 _ _ _ | exact gn0 _ _)) (by first | rfl | assumption)) rfl (eqr _ (by first | rfl | exact lpl (by assumption) | (simp [AV.plain, AV.plains, AV.cells, AV.plain])))) (sco (sld rfl rfl (lda (n := 1) (by kernel_rfl) (by first | assumption | (simp (disch := first | omega | (simp only [hNw, hPt]; omega)) only [gn0, gn1, gn2, gn3, gn4, gn5, gp0, gno, gpo] <;> first | rfl | assumption | exact gp0 _ _ _ | exact gn0 _ _)) (by first | rfl | assumption)) rfl (eqr _ (by first | rfl | exact lpl (by assumption) | (simp [AV.plain, AV.plains, AV.cells, AV.plain])))) (sco (sld rfl rfl (lda (n := 1) (by kernel_rfl) (by first | assumption | (simp (disch := first | omega | (simp only [hNw, hPt]; omega)) only [gn0, gn1, gn2, gn3, gn4, gn5, gp0, gno, gpo] <;> first | rfl | assumption | exact gp0 _ _ _ | exact gn0 _ _)) (by first | rfl | assumption)) rfl (eqr _ (by first | rfl | exact lpl (by assumption) | (simp [AV.plain, AV.plains, AV.cells, AV.plain])))) rfl))))), ?_⟩
  refine OkP.step ?_
  refine OkO.builtinE rfl rfl rfl (Mine.app2 (W := W) (k0 := X.next + 2) (t := 22) (u := 22) (sz := 1) (by_ := 8) (e := 3) (n := 2) (new := [I (yl[h]'(by rw [hyl]; exact hh)).1, I (yl[h]'(by rw [hyl]; exact hh)).2]) (hov1.to (by repeat (first | exact Ext.refl _ | apply Ext.new))) (by repeat (first | exact gW | apply Grow.new)) (by omega) (by simp; omega) (by kernel_rfl) (by kernel_rfl) (elems_new (n := 2) (sz := 1) rfl) rfl rfl (by have h9 := spdL_len p rows h i; simp; omega) (by omega) (by omega) rfl) ?_
  rintro v2 G2 ⟨r2, r3, r4, r5, r6, _⟩
  simp only [hNw] at r5 r6
  have v2o := r2.one
  have q1 : (G2.get (W.next + 1)).bind AObj.cs = some [I (h : Int)] := by rw [r5 _ (by omega) (hov1.far (by omega)), gno _ _ _ (by omega)]; exact e1b
  have q3 : (G2.get (W.next + 3)).bind AObj.cs = some [ov] := by rw [r5 _ (by omega) (hov1.far (by omega)), gno _ _ _ (by omega)]; exact e3b
  have q3o : G2.get (W.next + 3) = some (.cells [ov] 22) := by rw [r5 _ (by omega) (hov1.far (by omega)), gno _ _ _ (by omega)]; exact e3
  have qx : (G2.get xb).bind AObj.cs = some xcs := by rw [r5 _ (by omega) (hov1.far (by omega)), gno _ _ _ (by omega)]; exact i2
  refine OkO.nil ⟨(sco (sld rfl rfl (lda (n := 1) (by kernel_rfl) (by first | assumption | (simp (disch := first | omega | (simp only [hNw, hPt]; omega)) only [gn0, gn1, gn2, gn3, gn4, gn5, gp0, gno, gpo] <;> first | rfl | assumption | exact gp0 _ _ _ | exact gn0 _ _)) (by first | rfl | assumption)) rfl (eqr _ (by first | rfl | exact lpl (by assumption) | (simp [AV.plain, AV.plains, AV.cells, AV.plain])))) (sco (sld rfl rfl (lda (n := 1) (by kernel_rfl) (by first | assumption | (simp (disch := first | omega | (simp only [hNw, hPt]; omega)) only [gn0, gn1, gn2, gn3, gn4, gn5, gp0, gno, gpo] <;> first | rfl | assumption | exact gp0 _ _ _ | exact gn0 _ _)) (by first | rfl | assumption)) rfl (eqr _ (by first | rfl | exact lpl (by assumption) | (simp [AV.plain, AV.plains, AV.cells, AV.plain])))) (sco (sld rfl rfl (lda (n := 1) (by kernel_rfl) (by first | assumption | (simp (disch := first | omega | (simp only [hNw, hPt]; omega)) only [gn0, gn1, gn2, gn3, gn4, gn5, gp0, gno, gpo] <;> first | rfl | assumption | exact gp0 _ _ _ | exact gn0 _ _)) (by first | rfl | assumption)) rfl (eqr _ (by first | rfl | exact lpl (by assumption) | (simp [AV.plain, AV.plains, AV.cells, AV.plain])))) (sco (sld rfl rfl (lda (n := 1) (by kernel_rfl) (by first | assumption | (simp (disch := first | omega | (simp only [hNw, hPt]; omega)) only [gn0, gn1, gn2, gn3, gn4, gn5, gp0, gno, gpo] <;> first | rfl | assumption | exact gp0 _ _ _ | exact gn0 _ _)) (by first | rfl | assumption)) rfl (eqr _ (by first | rfl | exact lpl (by assumption) | (simp [AV.plain, AV.plains, AV.cells, AV.plain])))) rfl)))), ?_⟩
  refine OkP.step ?_
  refine OkO.store rfl rfl rfl (sAc (n := 1) (ag := false) (l := [v2]) (by kernel_rfl) q3o (by rw [v2o.1]; rfl) (by rw [v2o.1]; simp [atoms, v2o.2]) (by rw [v2o.1]; rfl)) ?_
  refine OkO.nil ⟨rfl, ?_⟩
  refine OkP.nil ?_
  have qb1 := (r5 (X.next + 1) (by omega) (hov1.far (by omega))).trans ((gno _ _ _ (by omega)).trans hj1.b1)
  have qp1 := (gpo G2 (W.next + 3) (X.next + 1) (.cells [v2] 22) (by omega)).trans qb1
  refine ⟨_, _, _, _, _, _, _, qp1, .inl ⟨rfl, rfl, ⟨RngJ.turn ((hj1.move (fun j hj => by simp at hj; omega) (by simp only [hPt]; omega) (fun j a c => ?_))), v2, ?_, ?_⟩, ?_, ?_, ?_⟩⟩
  · rw [gpo _ _ _ _ (fun e => c (by simp [e])), r5 _ (by omega) (hov1.far (by omega)), gno _ _ _ (by omega)]
  · rw [gpo _ _ _ _ (by omega)]; exact gp0 _ _ _
  · subst hyl; rw [spdL_yes hr hh, List.map_append]
    exact (r2.put _ (by omega)).putO _ qp1 nofun
  · have := r3.lo; simp only [Heap.lo_put]; omega
  · simp only [Heap.lo_put]; omega
  · simp only [hPt]; omega
theorem mxL_mem : ∀ {L : List Int}, L ≠ [] → mxL L ∈ L
  | [], h => absurd rfl h
  | a :: l, _ => by
    have key : ∀ (l : List Int) (a : Int), l.foldl max a ∈ a :: l := fun l => by
      induction l with
      | nil => intro a; simp
      | cons c l ih =>
        intro a
        have := ih (max a c)
        rw [List.foldl_cons]
        rcases List.mem_cons.1 this with h | h
        · rw [h]
          rcases Int.le_total a c with h9 | h9
          · rw [Int.max_eq_right h9]; simp
          · rw [Int.max_eq_left h9]; simp
        · exact List.mem_cons_of_mem _ (List.mem_cons_of_mem _ h)
    exact key l a
theorem may_mem {p : Pst} {f : Int} {rows : List (List Int)} {h : Nat} (hh : h < (mayL p f rows).length) : (mayL p f rows)[h] = lastI p f (rows.take (h + 1)) ∧ lastI p f (rows.take (h + 1)) ≠ nul := by
  have h1 : h < rows.length := Nat.lt_of_lt_of_le hh (may_len_le p f rows (0, 1000))
  have h2 := may_get (p := p) (f := f) h1
  rw [List.getElem?_eq_getElem hh] at h2
  split at h2
  · cases h2
  · rename_i h3
    exact ⟨Option.some.inj h2, h3⟩
theorem may_bd {p : Pst} {f : Int} {rows : List (List Int)} {h : Nat} (hh : h < (mayL p f rows).length) : (0 ≤ (mayL p f rows)[h].1 ∧ (mayL p f rows)[h].1 ≤ 1000) ∧ (0 ≤ (mayL p f rows)[h].2 ∧ (mayL p f rows)[h].2 ≤ 1000) ∧ (mayL p f rows)[h].1 ≤ (mayL p f rows)[h].2 := by
  obtain ⟨e, h3⟩ := may_mem hh
  rw [e]
  have h4 : (lastI p f (rows.take (h + 1))).1 ≤ (lastI p f (rows.take (h + 1))).2 := by
    rcases last_prp p f (rows.take (h + 1)) with h | h
    · exact absurd h h3
    · exact h
  exact ⟨last_bd ⟨Int.le_refl _, h4⟩, last_bd ⟨h4, Int.le_refl _⟩, h4⟩
theorem spdL_bd {p : Pst} {rows : List (List Int)} {h : Nat} : ∀ {i : Nat} {x : Int}, x ∈ spdL p rows h i → 0 ≤ x ∧ x ≤ 1000
  | 0, x, hx => by simp [spdL] at hx
  | i + 1, x, hx => by
    by_cases hr : h + 1 ≤ lenM p rows i
    · have hh : h < (mayL p ((i : Int) - 1) rows).length := hr
      rw [spdL_yes hr hh] at hx
      have h9 := may_bd hh
      rcases List.mem_append.1 hx with h8 | h8
      · exact spdL_bd h8
      · simp at h8
        rcases h8 with rfl | rfl
        · exact h9.1
        · exact h9.2.1
    · rw [spdL_no hr] at hx
      exact spdL_bd hx
theorem c61 (m : Nat) (ev : AV) (p : Pst) (mb hr9 : Nat) (rows : List (List Int)) (H : Heap) (hM : ∃ o vs, H.get mb = some o ∧ MapO o I (mapF vs) ∧ vs.length = p.errs.length + 1 ∧ ∀ (j : Nat) (x : AV), vs[j]? = some x → Mine 0 H x 125 2 (ivCells (mayL p ((j : Int) - 1) rows))) (hmb : mb < H.next) (hel : lenOf ev = some p.errs.length) (hpl : p.errs.length ≤ 1000) (hl1 : 1 ≤ (spdL p rows hr9 (p.errs.length + 1)).length) (hpo : (0 ≤ p.gain ∧ p.gain ≤ 200) ∧ (1 ≤ p.fall ∧ p.fall ≤ 1000) ∧ (0 ≤ p.out ∧ p.out ≤ 60) ∧ 0 ≤ p.ahead ∧ p.ahead ≤ 60) (hrb : hr9 ≤ 1000) : RR (m + 5) (.fn 61 [.agg (p.d ev mb), I (hr9 : Int)]) H = some (.agg [I (mnL (spdL p rows hr9 (p.errs.length + 1))), I (mxL (spdL p rows hr9 (p.errs.length + 1))), .int .u8 (levelI p (mxL (spdL p rows hr9 (p.errs.length + 1))))], H) := by
  refine (R_fn _ _ _ _ _).trans ?_
  refine fn_ok Try.func61 rfl rfl (by kernel_rfl) (by kernel_rfl) ?_
  obtain ⟨W, hW⟩ : ∃ W : Heap, W = ⟨H.t, H.next, H.next⟩ := ⟨_, rfl⟩
  have hg : ∀ n, W.get n = H.get n := fun n => by rw [hW]; rfl
  have hN : W.next = H.next := by rw [hW]
  have hE : ∀ G, Grow W G → Ext H G := fun G g => ⟨by rw [← hN]; exact g.next, fun n k => by rw [g.get n (by rw [hN]; exact k), hg]⟩
  have hG : Grow W W := Grow.refl (by rw [hW]; exact Nat.le_refl _)
  rw [← hW]
  have pev : ev.plain = true := lpl hel
  refine Ok.seq ?_
  refine Ok.region ?_
  refine OkO.box rfl rfl ?_
  refine OkO.box rfl rfl ?_
  refine OkO.alloc (z := [.int .i64 0, .int .i64 0, .int .u8 0]) rfl (by kernel_rfl) ?_
  refine OkO.nil ?_
  refine Ok.seq ?_
  refine Ok.region ?_
  refine OkO.alloc (z := [.nils]) rfl (by kernel_rfl) ?_
  refine OkO.nil ?_
  refine Ok.seq ?_
  refine Ok.seq ?_
  refine Ok.region ?_
  refine OkO.load rfl rfl (ldg (n := 7) (by kernel_rfl) (by first | assumption | (simp (disch := first | omega | (simp only [hNw, hPt]; omega)) only [gn0, gn1, gn2, gn3, gn4, gn5, gp0, gno, gpo] <;> first | rfl | assumption | exact gp0 _ _ _ | exact gn0 _ _)) (by first | rfl | assumption)) ?_
  refine OkO.load rfl rfl (lda (n := 1) (by kernel_rfl) (by first | assumption | (simp (disch := first | omega | (simp only [hNw, hPt]; omega)) only [gn0, gn1, gn2, gn3, gn4, gn5, gp0, gno, gpo] <;> first | rfl | assumption | exact gp0 _ _ _ | exact gn0 _ _)) (by first | rfl | assumption)) ?_
  refine OkO.bin rfl rfl rfl (bin_add (by omega) (by omega)) ?_
  refine OkO.callE rfl rfl rfl rfl rfl (c66 (m + 3) ev p mb ((hr9 : Int) + 1) _) ?_ -- "(sackung/alarm.duty).failures"
  rintro _ X ⟨rfl, q66, x1, x2, x3⟩
  simp only [hNw] at x1 x2 x3
  have n66 := q66.ext.next
  simp only [hNw] at n66
  have g66 : Grow W X := Grow.ret (by (try dsimp only); repeat (first | exact hG | apply Grow.new | (refine Grow.put ?_ _ (by first | omega | (simp only [hNw, hPt]; omega))))) q66
  have xd : X.get (W.next) = some (.cells (p.d ev mb) 114) := by rw [q66.ext.get _ (by first | omega | (simp only [hNw, hPt]; omega))]; first | assumption | (simp (disch := first | omega | (simp only [hNw, hPt]; omega)) only [gn0, gn1, gn2, gn3, gn4, gn5, gp0, gno, gpo] <;> first | rfl | assumption | exact gp0 _ _ _ | exact gn0 _ _)
  have xh : X.get (W.next + 1) = some (.cells [I (hr9 : Int)] 3) := by rw [q66.ext.get _ (by first | omega | (simp only [hNw, hPt]; omega))]; first | assumption | (simp (disch := first | omega | (simp only [hNw, hPt]; omega)) only [gn0, gn1, gn2, gn3, gn4, gn5, gp0, gno, gpo] <;> first | rfl | assumption | exact gp0 _ _ _ | exact gn0 _ _)
  have xr : X.get (W.next + 2) = some (.cells [I 0, I 0, .int .u8 0] 45) := by rw [q66.ext.get _ (by first | omega | (simp only [hNw, hPt]; omega))]; first | assumption | (simp (disch := first | omega | (simp only [hNw, hPt]; omega)) only [gn0, gn1, gn2, gn3, gn4, gn5, gp0, gno, gpo] <;> first | rfl | assumption | exact gp0 _ _ _ | exact gn0 _ _)
  have xs : X.get (W.next + 3) = some (.cells [.nils] 22) := by rw [q66.ext.get _ (by first | omega | (simp only [hNw, hPt]; omega))]; first | assumption | (simp (disch := first | omega | (simp only [hNw, hPt]; omega)) only [gn0, gn1, gn2, gn3, gn4, gn5, gp0, gno, gpo] <;> first | rfl | assumption | exact gp0 _ _ _ | exact gn0 _ _)
  refine OkO.nil ?_
  refine Ok.block ?_
  obtain ⟨o, vs, hmo, ho, hvl, hvm⟩ := hM
  refine Ok.rangeR rfl rfl (fun T0 hT0 => ?_)
  have hH : Has 6 [(3, .ptr (W.next + 1) 0), (5, .ptr (W.next + 3) 0)] T0 := by rw [hT0]; exact Has.of (by kernel_rfl)
  have hvs : ∀ (i : Nat) (x : AV), vs[i]? = some x → lenOf x = some (lenM p rows i) := fun i x hx => by (have h9 := (hvm i x hx).ivs.len; rw [List.length_map] at h9; exact h9)
  have xmo : X.get mb = some o := by rw [g66.get _ (by omega), hg]; exact hmo
  have xvm : ∀ (j : Nat) (x : AV), vs[j]? = some x → Mine 0 X x 125 2 (ivCells (mayL p ((j : Int) - 1) rows)) := fun j x hj => (hvm j x hj).to ⟨by have := g66.next; omega, fun n hn => (g66.get n (by omega)).trans (hg n)⟩
  obtain ⟨v3, H3, k1, k2, k3⟩ := c88 (m + 3) (X.next + 1) (W.next + 4) (W.next + 5) W.next mb (hr9 + 1) ev p rows vs (fun i G => RngJ X [W.next + 3] .ready none [13, 14] as61 bd61 T0 G ∧ ∃ ov, G.get (W.next + 3) = some (.cells [ov] 22) ∧ Mine (X.next + 2) G ov 3 1 ((spdL p rows hr9 i).map I)) (fun _ => False) ((X.new .defd).new (.loop .ready none T0 [13, 14] as61 bd61 X.next)) (fun i G G1 h e => ⟨h.1.to e, let ⟨ov, a, c⟩ := h.2; ⟨ov, by rw [e.get _ (by have h9 := h.1.nx; omega)]; exact a, c.to e⟩⟩) (fun G G1 h e => h.elim) (fun i G h => ⟨by rw [h.1.get _ (by omega) (by simp <;> omega), x1] <;> rfl, by rw [h.1.get _ (by omega) (by simp <;> omega), x2] <;> rfl, by have h9 := h.1.nx; omega, o, by rw [h.1.get _ (by omega) (by simp <;> omega)]; exact xmo, ho⟩) hvl hvs hel hpl (fun i G hi hr h => ⟨h.1, by rw [spdL_no hr]; exact h.2⟩) (fun i x G hi hx hr h hlo => by obtain ⟨v, H9, a1, a2, a3, a4, a5, a6⟩ := r61 (m + 2) hr9 i p rows x ((i : Int) - 1) T0 W X G hH h g66 (by omega) xh xs (xvm i x hx) hi hpl hr hlo; exact ⟨v, H9, a1, ⟨true, a2, .inl ⟨rfl, a3⟩⟩, a4, a5, a6⟩) (⟨RngJ.start _ _ _ _ _ _, .nils, by rw [gno _ _ _ (by simp; omega), gno _ _ _ (by omega)]; exact xs, Mine.nil _ _ _ _⟩) (by show W.next ≤ X.lo; exact g66.lo) (by omega)
  · -- to its end
    rcases k2 with k2 | k2
    rotate_left
    exact k2.elim
    refine ⟨v3, H3, k1, _, _, T0, [13, 14], as61, bd61, X.next, k2.1.b1, .inl ⟨rfl, rfl, ?_⟩⟩
    have g3 : Grow W H3 := k2.1.grow g66 (fun j hj => by simp at hj; omega) k3
    obtain ⟨kj, ov, ks, ko⟩ := k2
    have kn := kj.nx
    clear k1
    have yd := kj.b0
    have ysb : (H3.get (W.next + 3)).bind AObj.cs = some [ov] := by rw [ks]; rfl
    have y0 : H3.get W.next = some (.cells (p.d ev mb) 114) := by rw [kj.get _ (by omega) (by simp)]; exact xd
    have y2 : H3.get (W.next + 2) = some (.cells [I 0, I 0, .int .u8 0] 45) := by rw [kj.get _ (by omega) (by simp)]; exact xr
    have y0b : (H3.get W.next).bind AObj.cs = some (p.d ev mb) := by rw [y0]; rfl
    have uov := ko.ints
    refine Ok.seq ?_
    refine Ok.region ?_
    refine OkO.load rfl rfl (lda (n := 1) (by kernel_rfl) (by first | assumption | (simp (disch := first | omega | (simp only [hNw, hPt]; omega)) only [gn0, gn1, gn2, gn3, gn4, gn5, gp0, gno, gpo] <;> first | rfl | assumption | exact gp0 _ _ _ | exact gn0 _ _)) (by first | rfl | assumption)) ?_
    refine OkO.callV rfl rfl rfl rfl rfl (c83 (m + 2) ov (spdL p rows hr9 (p.errs.length + 1)) _ ((ko.put _ (by omega)).put _ (by omega)).ints hl1 (by have := spdL_len p rows hr9 (p.errs.length + 1); omega)) ?_ -- "sackung/alarm.leastAndGreatest"
    refine OkO.alloc (z := [.int .i64 0, .int .i64 0]) rfl (by kernel_rfl) ?_
    refine OkO.store rfl rfl rfl (sAc (n := 2) (ag := true) (by kernel_rfl) (by first | assumption | (simp (disch := first | omega | (simp only [hNw, hPt]; omega)) only [gn0, gn1, gn2, gn3, gn4, gn5, gp0, gno, gpo] <;> first | rfl | assumption | exact gp0 _ _ _ | exact gn0 _ _)) rfl (by first | rfl | assumption) (by first | rfl | exact spl_set _ _ _ (by first | assumption | omega | (simp; omega)))) ?_
    refine OkO.nil ?_
    refine Ok.seq ?_
    refine Ok.drawn [(0, true, []), (1, true, []), (2, true, []), (3, true, []), (4, true, []), (5, true, []), (6, true, []), (7, true, []), (8, false, [3, 1]), (9, true, []), (10, false, [])] (by kernel_rfl) ?_
    refine OkP.step ?_
    refine OkO.indexArr (len := 2) (sz := 1) (n := 0) rfl rfl rfl (by kernel_rfl) (by omega) ?_
    refine OkO.nil ⟨rfl, ?_⟩
    refine OkP.step ?_
    refine OkO.load rfl rfl (lda (n := 1) (by kernel_rfl) (by first | assumption | (simp (disch := first | omega | (simp only [hNw, hPt]; omega)) only [gn0, gn1, gn2, gn3, gn4, gn5, gp0, gno, gpo] <;> first | rfl | assumption | exact gp0 _ _ _ | exact gn0 _ _)) (by first | rfl | assumption)) ?_
    refine OkO.nil ⟨rfl, ?_⟩
    refine OkP.step ?_
    refine OkO.indexArr (len := 2) (sz := 1) (n := 1) rfl rfl rfl (by kernel_rfl) (by omega) ?_
    refine OkO.nil ⟨rfl, ?_⟩
    refine OkP.step ?_
    refine OkO.load rfl rfl (lda (n := 1) (by kernel_rfl) (by first | assumption | (simp (disch := first | omega | (simp only [hNw, hPt]; omega)) only [gn0, gn1, gn2, gn3, gn4, gn5, gp0, gno, gpo] <;> first | rfl | assumption | exact gp0 _ _ _ | exact gn0 _ _)) (by first | rfl | assumption)) ?_
    refine OkO.nil ⟨rfl, ?_⟩
    refine OkP.step ?_
    refine OkO.fieldAddr (o := 0) rfl (by kernel_rfl) rfl ?_
    refine OkO.nil ⟨rfl, ?_⟩
    refine OkP.step ?_
    refine OkO.load rfl rfl (ldg (n := 6) (by kernel_rfl) (by first | assumption | (simp (disch := first | omega | (simp only [hNw, hPt]; omega)) only [gn0, gn1, gn2, gn3, gn4, gn5, gp0, gno, gpo] <;> first | rfl | assumption | exact gp0 _ _ _ | exact gn0 _ _)) (by first | rfl | assumption)) ?_
    refine OkO.nil ⟨rfl, ?_⟩
    refine OkP.step ?_
    refine OkO.indexArr (len := 2) (sz := 1) (n := 1) rfl rfl rfl (by kernel_rfl) (by omega) ?_
    refine OkO.nil ⟨rfl, ?_⟩
    refine OkP.step ?_
    refine OkO.load rfl rfl (lda (n := 1) (by kernel_rfl) (by first | assumption | (simp (disch := first | omega | (simp only [hNw, hPt]; omega)) only [gn0, gn1, gn2, gn3, gn4, gn5, gp0, gno, gpo] <;> first | rfl | assumption | exact gp0 _ _ _ | exact gn0 _ _)) (by first | rfl | assumption)) ?_
    refine OkO.nil ⟨rfl, ?_⟩
    refine OkP.step ?_
    refine OkO.callV rfl rfl rfl rfl rfl (c84 (m + 0) ev p (mxL (spdL p rows hr9 (p.errs.length + 1))) _ ⟨_, hel⟩ (by have := spdL_bd (mxL_mem (L := (spdL p rows hr9 (p.errs.length + 1))) (by intro e; rw [e] at hl1; simp at hl1)); omega) hpo) ?_ -- "(sackung/alarm.Post).level"
    refine OkO.nil ⟨(sco (sld rfl rfl (lda (n := 1) (by kernel_rfl) (by first | assumption | (simp (disch := first | omega | (simp only [hNw, hPt]; omega)) only [gn0, gn1, gn2, gn3, gn4, gn5, gp0, gno, gpo] <;> first | rfl | assumption | exact gp0 _ _ _ | exact gn0 _ _)) (by first | rfl | assumption)) rfl (eqr _ (by first | rfl | exact lpl (by assumption) | (simp [AV.plain, AV.plains, AV.cells, pev, Pst.d])))) (sco (sld rfl rfl (lda (n := 1) (by kernel_rfl) (by first | assumption | (simp (disch := first | omega | (simp only [hNw, hPt]; omega)) only [gn0, gn1, gn2, gn3, gn4, gn5, gp0, gno, gpo] <;> first | rfl | assumption | exact gp0 _ _ _ | exact gn0 _ _)) (by first | rfl | assumption)) rfl (eqr _ (by first | rfl | exact lpl (by assumption) | (simp [AV.plain, AV.plains, AV.cells, pev, Pst.d])))) rfl)), ?_⟩
    refine OkP.step ?_
    refine OkO.build (z := [.int .i64 0, .int .i64 0, .int .u8 0]) (pl := [(0, 1), (1, 1), (2, 1)]) rfl (by kernel_rfl) rfl rfl ?_
    refine OkO.nil ⟨rfl, ?_⟩
    refine OkP.step ?_
    refine OkO.store rfl rfl rfl (sAc (n := 3) (ag := true) (by kernel_rfl) (by first | assumption | (simp (disch := first | omega | (simp only [hNw, hPt]; omega)) only [gn0, gn1, gn2, gn3, gn4, gn5, gp0, gno, gpo] <;> first | rfl | assumption | exact gp0 _ _ _ | exact gn0 _ _)) rfl (by first | rfl | assumption) (by first | rfl | exact spl_set _ _ _ (by first | assumption | omega | (simp; omega)))) ?_
    refine OkO.nil ⟨rfl, ?_⟩
    refine OkP.nil ?_
    refine Ok.ret ⟨.inr rfl, ?_⟩
    rw [back_mark (d := X.next) (by first | assumption | (simp (disch := first | omega | (simp only [hNw, hPt]; omega)) only [gn0, gn1, gn2, gn3, gn4, gn5, gp0, gno, gpo] <;> first | rfl | assumption | exact gp0 _ _ _ | exact gn0 _ _))]
    clear y0b ysb y0 y2
    exact back_flat (resV_cell rfl (ldg (n := 3) (by kernel_rfl) (by first | assumption | (simp (disch := first | omega | (simp only [hNw, hPt]; omega)) only [gn0, gn1, gn2, gn3, gn4, gn5, gp0, gno, gpo] <;> first | rfl | assumption)) (by first | rfl | assumption)) resV_nil) rfl rfl (by rw [← hW]; exact (by (try dsimp only); repeat (first | exact g3 | apply Grow.new | (refine Grow.put ?_ _ (by first | omega | (simp only [hNw, hPt]; omega))))))
end
end Go.Ev

