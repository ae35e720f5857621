/-
  Functions of the program, reckoned by the evaluator: what each answers, and that it leaves what came in as it was (part 3).
-/
import Derived.Test.YtibplmibcbillaaV2
set_option maxRecDepth 100000
set_option linter.unusedSimpArgs false
set_option linter.unusedVariables false
namespace Go.Ev
open Go Go.Proofs
noncomputable section
def fitsB : List Int → List Rg → Bool
  | [], [] => true
  | u :: us, r :: rs => inB u r.lo r.hi && fitsB us rs
  | _, _ => false
theorem fits_iff : ∀ (us : List Int) (rs : List Rg), fitsB us rs = true ↔ us.length = rs.length ∧ ∀ (i : Nat) u r, us[i]? = some u → rs[i]? = some r → inB u r.lo r.hi = true := by
  intro us
  induction us with
  | nil =>
    intro rs
    cases rs with
    | nil => simp [fitsB]
    | cons r rs => simp [fitsB]
  | cons u us ih =>
    intro rs
    cases rs with
    | nil => simp [fitsB]
    | cons r rs =>
      simp only [fitsB, Bool.and_eq_true, ih rs, List.length_cons, Nat.add_right_cancel_iff]
      constructor
      · rintro ⟨h1, h2, h3⟩
        refine ⟨h2, fun i u' r' k1 k2 => ?_⟩
        cases i with
        | zero => simp at k1 k2; subst k1 k2; exact h1
        | succ i => exact h3 i u' r' (by simpa using k1) (by simpa using k2)
      · rintro ⟨h2, h3⟩
        exact ⟨h3 0 u r rfl rfl, h2, fun i u' r' k1 k2 => h3 (i + 1) u' r' (by simpa using k1) (by simpa using k2)⟩
def toOk (n : Int) : Int → List Cell → Bool
  | _, [] => true
  | i, c :: cs => (inB c.to (-1) (n - 1) && decide (c.to ≠ i)) && toOk n (i + 1) cs
theorem toOk_iff (n : Int) : ∀ (cs : List Cell) (k : Int), toOk n k cs = true ↔ ∀ (i : Nat) c, cs[i]? = some c → inB c.to (-1) (n - 1) = true ∧ c.to ≠ k + i := by
  intro cs
  induction cs with
  | nil => intro k; simp [toOk]
  | cons c cs ih =>
    intro k
    simp only [toOk, Bool.and_eq_true, ih, decide_eq_true_eq]
    constructor
    · rintro ⟨⟨h1, h2⟩, h3⟩ i c' hi
      cases i with
      | zero => simp at hi; subst hi; exact ⟨h1, by simpa using h2⟩
      | succ i =>
        have := h3 i c' (by simpa using hi)
        refine ⟨this.1, ?_⟩
        have h := this.2
        push_cast
        omega
    · intro h
      have h0 := h 0 c rfl
      refine ⟨⟨h0.1, by simpa using h0.2⟩, fun i c' hi => ?_⟩
      have := h (i + 1) c' (by simpa using hi)
      refine ⟨this.1, ?_⟩
      have h := this.2
      push_cast at h
      omega
theorem toOk_no {n : Int} {cs : List Cell} {i : Nat} {c : Cell} (hi : cs[i]? = some c) (h : inB c.to (-1) (n - 1) = false ∨ c.to = (i : Int)) : toOk n 0 cs = false := by
  cases hk : toOk n 0 cs with
  | false => rfl
  | true =>
    have := (toOk_iff n cs 0).1 hk i c hi
    rcases h with h | h
    · rw [h] at this; exact absurd this.1 (by simp)
    · exact absurd h (by have := this.2; omega)
def gOk (cs : List Cell) (g : Gr) : Bool := inB (cs.length : Int) 1 8 && (cs.all fun x => x.ok) && toOk (cs.length : Int) 0 cs && okR g.slo g.shi 100000 && okR g.klo g.khi 1000 && inB g.melt 0 50
theorem c76 (m : Nat) (uv rv : AV) (us : List Int) (rs : List Rg) (H : Heap) (hU : Ints H uv us) (hR : Row H rv 2 (rs.map Rg.c)) (hl : rs.length ≤ 1000000) (hl2 : us.length ≤ 1000000) : RR (m + 2) (.fn 76 [uv, rv]) H = some (.bool (fitsB us rs), H) := by
  refine (R_fn _ _ _ _ _).trans ?_
  refine fn_ok Try.func76 rfl rfl (by kernel_rfl) (by kernel_rfl) ?_
  obtain ⟨W, hW⟩ : ∃ W : Heap, W = ⟨H.t, H.next, H.next⟩ := ⟨_, rfl⟩
  have hg : ∀ n, W.get n = H.get n := fun n => by rw [hW]; rfl
  have hN : W.next = H.next := by rw [hW]
  have hE : ∀ G, Grow W G → Ext H G := fun G g => ⟨by rw [← hN]; exact g.next, fun n k => by rw [g.get n (by rw [hN]; exact k), hg]⟩
  have hG : Grow W W := Grow.refl (by rw [hW]; exact Nat.le_refl _)
  rw [← hW]
  have hlu : lenOf uv = some us.length := by simpa using hU.len
  have hlr : lenOf rv = some rs.length := by simpa using hR.len
  have pu : uv.plain = true := lpl hlu
  refine Ok.seq ?_
  refine Ok.region ?_
  refine OkO.assign rfl rfl ?_
  refine OkO.nil ?_
  refine Ok.seq ?_
  refine Ok.seq ?_
  refine Ok.region ?_
  refine OkO.move rfl rfl ?_
  refine OkO.builtin rfl rfl rfl (bln (by kernel_rfl) (by first | assumption | rfl)) ?_
  refine OkO.move rfl rfl ?_
  refine OkO.builtin rfl rfl rfl (bln (by kernel_rfl) (by first | assumption | rfl)) ?_
  refine OkO.bin rfl rfl rfl (bin_neq _ _) ?_
  refine OkO.nil ?_
  refine Ok.cond rfl (fun h1 => ?_) (fun h1 => ?_)
  · -- yes h1
    have hne : us.length ≠ rs.length := by simp at h1; omega
    refine Ok.seq ?_
    refine Ok.region ?_
    refine OkO.assign rfl rfl ?_
    refine OkO.nil ?_
    refine Ok.ret ⟨.inr rfl, ?_⟩
    exact back_flat rfl (congrArg AV.bool (by symm; cases hk : fitsB us rs with | false => rfl | true => exact absurd ((fits_iff us rs).1 hk).1 hne)) rfl (by rw [← hW]; exact (by (try dsimp only); repeat (first | exact hG | apply Grow.new | (refine Grow.put ?_ _ (by first | omega | (simp only [hNw, hPt]; omega))))))
  · -- no h1
    have heq : us.length = rs.length := by simp at h1; omega
    refine Ok.skip ?_
    refine Ok.seq ?_
    refine Ok.seq ?_
    refine Ok.region ?_
    refine OkO.move rfl rfl ?_
    refine OkO.builtin rfl rfl rfl (bln (by kernel_rfl) (by first | assumption | rfl)) ?_
    refine OkO.move rfl rfl ?_
    refine OkO.nil ?_
    refine Ok.block ?_
    refine Ok.loop (fun n s => ∃ i : Nat, n = rs.length - i ∧ i ≤ rs.length ∧ (∀ j, j < i → ∀ u r, us[j]? = some u → rs[j]? = some r → inB u r.lo r.hi = true) ∧ Has 5 [(0, uv), (4, .bool false), (12, rv), (13, I rs.length), (14, I (i : Int))] s.T ∧ s.D = [] ∧ Grow W s.H) (rs.length) (by unfold loopFuel; omega)
      ⟨0, rfl, Nat.zero_le _, nofun, Has.of (by kernel_rfl), rfl, hG⟩ ?_
    rintro n ⟨T, D, G⟩ ⟨i, hn, hi, hall, ⟨f, hT⟩, hD, hg⟩
    dsimp only at *
    subst hT hD
    have hgn := hg.next
    refine Ok.seq ?_
    refine Ok.region ?_
    refine OkO.bin rfl rfl rfl (bin_lss _ _) ?_
    refine OkO.nil ?_
    refine Ok.seq ?_
    refine Ok.cond rfl (fun h2 => ?_) (fun h2 => ?_)
    · -- yes h2
      have hlt : i < rs.length := by simpa using h2
      have hltu : i < us.length := by omega
      obtain ⟨bb, off, cs, i1, i2, i3, i4⟩ := (hR.ext (hE _ hg)).at_ i rs[i].c (by simp [hlt])
      have hne : bb ≠ G.next := by omega
      obtain ⟨ub, uo, ucs, j1, j2, j3, j4⟩ := (hU.ext (hE _ hg)).at_ i [I us[i]] (by simp [hltu])
      have hne2 : ub ≠ G.next := by omega
      have j5 := seg_one j3
      refine Ok.skip ?_
      refine Ok.seq ?_
      refine Ok.block ?_
      refine Ok.seq ?_
      refine Ok.region ?_
      refine OkO.move rfl rfl ?_
      refine OkO.index (sz := 2) (n := i) rfl rfl rfl (by kernel_rfl) (by first | assumption | rfl | exact slAt_slice (by omega)) ?_ -- index ('Go.Operand.tmp', 12) ('Go.Operand.tmp', 14)
      refine OkO.load rfl rfl (ldg (n := 2) (by kernel_rfl) (by first | assumption | (simp (disch := first | omega | (simp only [hNw, hPt]; omega)) only [gn0, gn1, gn2, gn3, gn4, gn5, gp0, gno, gpo] <;> first | rfl | assumption)) (by first | rfl | assumption)) ?_
      refine OkO.alloc (z := [.int .i64 0, .int .i64 0]) rfl (by kernel_rfl) ?_
      refine OkO.assign rfl rfl ?_
      refine OkO.store rfl rfl rfl (stc (n := 2) (ag := true) (by kernel_rfl) (by first | assumption | (simp (disch := first | omega | (simp only [hNw, hPt]; omega)) only [gn0, gn1, gn2, gn3, gn4, gn5, gp0, gno, gpo] <;> first | rfl | assumption)) rfl rfl (by first | rfl | exact spl_set _ _ _ (by first | assumption | (simp; omega)))) ?_
      refine OkO.nil ?_
      refine Ok.seq ?_
      refine Ok.drawn [(0, true, []), (1, true, []), (2, true, []), (3, true, []), (4, true, []), (5, false, []), (6, true, [])] (by kernel_rfl) ?_
      refine OkP.step ?_
      refine OkO.load rfl rfl (ldg (n := 2) (by kernel_rfl) (by first | assumption | (simp (disch := first | omega | (simp only [hNw, hPt]; omega)) only [gn0, gn1, gn2, gn3, gn4, gn5, gp0, gno, gpo] <;> first | rfl | assumption)) (by first | rfl | assumption)) ?_
      refine OkO.nil ⟨rfl, ?_⟩
      refine OkP.step ?_
      refine OkO.move rfl rfl ?_
      refine OkO.nil ⟨rfl, ?_⟩
      refine OkP.step ?_
      refine OkO.move rfl rfl ?_
      refine OkO.nil ⟨rfl, ?_⟩
      refine OkP.step ?_
      refine OkO.index (sz := 1) (n := i) rfl rfl rfl (by kernel_rfl) (by first | assumption | rfl | exact slAt_slice (by omega)) ?_ -- index ('Go.Operand.tmp', 20) ('Go.Operand.tmp', 21)
      refine OkO.nil ⟨rfl, ?_⟩
      refine OkP.step ?_
      refine OkO.load rfl rfl (lda (n := 1) (by kernel_rfl) (by first | assumption | (simp (disch := first | omega | (simp only [hNw, hPt]; omega)) only [gn0, gn1, gn2, gn3, gn4, gn5, gp0, gno, gpo] <;> first | rfl | assumption)) (by first | rfl | assumption)) ?_
      refine OkO.nil ⟨rfl, ?_⟩
      refine OkP.step ?_
      refine OkO.callV rfl rfl rfl rfl rfl (c71 m rs[i].lo rs[i].hi us[i] _) ?_ -- "(sackung/water.Range).has"
      refine OkO.nil ⟨rfl, ?_⟩
      refine OkP.step ?_
      refine OkO.un rfl rfl rfl ?_
      refine OkO.nil ⟨rfl, ?_⟩
      refine OkP.nil ?_
      refine Ok.cond rfl (fun h3 => ?_) (fun h3 => ?_)
      · -- yes h3
        refine Ok.seq ?_
        refine Ok.region ?_
        refine OkO.assign rfl rfl ?_
        refine OkO.nil ?_
        refine Ok.ret ⟨.inr rfl, ?_⟩
        exact back_flat rfl (congrArg AV.bool (by symm; cases hk : fitsB us rs with | false => rfl | true => (have := ((fits_iff us rs).1 hk).2 i us[i] rs[i] (List.getElem?_eq_getElem hltu) (List.getElem?_eq_getElem hlt); rw [this] at h3; simp at h3))) rfl (by rw [← hW]; exact (by (try dsimp only); repeat (first | (first | exact hg | exact hG) | apply Grow.new | (refine Grow.put ?_ _ (by first | omega | (simp only [hNw, hPt]; omega))))))
      · -- no h3
        refine Ok.skip ?_
        refine Ok.region ?_
        refine OkO.bin rfl rfl rfl (bin_add (by omega) (by omega)) ?_
        refine OkO.move rfl rfl ?_
        refine OkO.nil ?_
        refine ⟨rs.length - (i + 1), by omega, i + 1, rfl, hlt, fun j hj u r k1 k2 => ?_, Has.of (by kernel_rfl), rfl, (by (try dsimp only); repeat (first | (first | exact hg | exact hG) | apply Grow.new | (refine Grow.put ?_ _ (by first | omega | (simp only [hNw, hPt]; omega)))))⟩
        by_cases e : j = i
        · subst e; rw [List.getElem?_eq_getElem hltu] at k1; rw [List.getElem?_eq_getElem hlt] at k2; cases k1; cases k2; simpa using h3
        · exact hall j (by omega) u r k1 k2
    · -- no h2
      have hge : i = rs.length := by simp at h2; omega
      refine Ok.exit ?_
      refine Ok.seq ?_
      refine Ok.region ?_
      refine OkO.assign rfl rfl ?_
      refine OkO.nil ?_
      refine Ok.ret ⟨.inr rfl, ?_⟩
      exact back_flat rfl (congrArg AV.bool (by symm; exact (fits_iff us rs).2 ⟨heq, fun j u r k1 k2 => hall j (by have := (List.getElem?_eq_some_iff.1 k2).1; omega) u r k1 k2⟩)) rfl (by rw [← hW]; exact (by (try dsimp only); repeat (first | (first | exact hg | exact hG) | apply Grow.new | (refine Grow.put ?_ _ (by first | omega | (simp only [hNw, hPt]; omega))))))
theorem c51 (m : Nat) (cv : AV) (cs : List Cell) (g : Gr) (H : Heap) (hR : Row H cv 7 (cs.map Cell.c)) (hbig : cs.length ≤ 1000000) : RR (m + 4) (.fn 51 [.agg [cv, I g.slo, I g.shi, I g.klo, I g.khi, I g.melt]]) H = some (.bool (gOk cs g), H) := by
  refine (R_fn _ _ _ _ _).trans ?_
  refine fn_ok Try.func51 rfl rfl (by kernel_rfl) (by kernel_rfl) ?_
  obtain ⟨W, hW⟩ : ∃ W : Heap, W = ⟨H.t, H.next, H.next⟩ := ⟨_, rfl⟩
  have hg : ∀ n, W.get n = H.get n := fun n => by rw [hW]; rfl
  have hN : W.next = H.next := by rw [hW]
  have hE : ∀ G, Grow W G → Ext H G := fun G g => ⟨by rw [← hN]; exact g.next, fun n k => by rw [g.get n (by rw [hN]; exact k), hg]⟩
  have hG : Grow W W := Grow.refl (by rw [hW]; exact Nat.le_refl _)
  rw [← hW]
  have hlen : lenOf cv = some cs.length := by simpa using hR.len
  have pc : cv.plain = true := lpl hlen
  refine Ok.seq ?_
  refine Ok.region ?_
  refine OkO.box rfl rfl ?_
  refine OkO.assign rfl rfl ?_
  refine OkO.nil ?_
  refine Ok.seq ?_
  refine Ok.seq ?_
  refine Ok.region ?_
  refine OkO.build (z := [.int .i64 0, .int .i64 0]) (pl := [(0, 1), (1, 1)]) rfl (by kernel_rfl) rfl rfl ?_
  refine OkO.fieldAddr (o := 0) rfl (by kernel_rfl) rfl ?_
  refine OkO.load rfl rfl (lda (n := 1) (by kernel_rfl) (by first | assumption | (simp (disch := first | omega | (simp only [hNw, hPt]; omega)) only [gn0, gn1, gn2, gn3, gn4, gn5, gp0, gno, gpo] <;> first | rfl | assumption)) (by first | rfl | assumption)) ?_
  refine OkO.builtin rfl rfl rfl (bln (by kernel_rfl) (by first | assumption | rfl)) ?_
  refine OkO.callV rfl rfl rfl rfl rfl (c71 _ _ _ _ _) ?_ -- "(sackung/water.Range).has"
  refine OkO.un rfl rfl rfl ?_
  refine OkO.move rfl rfl ?_
  refine OkO.split (d := 11) rfl (fun g1 => ?_) (fun g1 => ?_)
  · -- true g1
    have k1 : inB (cs.length : Int) 1 8 = false := by simpa using g1
    refine OkO.skip rfl ?_
    refine OkO.skip rfl ?_
    refine OkO.skip rfl ?_
    refine OkO.skip rfl ?_
    refine OkO.pick (b := true) rfl rfl (fun _ => rfl) nofun ?_
    refine OkO.nil ?_
    refine Ok.condT rfl ?_
    refine Ok.seq ?_
    refine Ok.region ?_
    refine OkO.assign rfl rfl ?_
    refine OkO.nil ?_
    refine Ok.ret ⟨.inr rfl, ?_⟩
    have hz : gOk cs g = false := by unfold gOk; rw [k1]; simp
    exact back_flat rfl (congrArg AV.bool hz.symm) rfl (by rw [← hW]; exact (by (try dsimp only); repeat (first | exact hG | apply Grow.new | (refine Grow.put ?_ _ (by first | omega | (simp only [hNw, hPt]; omega))))))
  · -- false g1
    refine OkO.fieldAddr (o := 0) rfl (by kernel_rfl) rfl ?_
    refine OkO.load rfl rfl (lda (n := 1) (by kernel_rfl) (by first | assumption | (simp (disch := first | omega | (simp only [hNw, hPt]; omega)) only [gn0, gn1, gn2, gn3, gn4, gn5, gp0, gno, gpo] <;> first | rfl | assumption)) (by first | rfl | assumption)) ?_
    refine OkO.callV rfl rfl rfl rfl rfl (c72 m cv cs _ (hR.ext (hE _ (by (try dsimp only); repeat (first | exact hG | apply Grow.new | (refine Grow.put ?_ _ (by first | omega | (simp only [hNw, hPt]; omega))))))) (by omega)) ?_ -- "sackung/water.all[sackung/water.Cell]"
    refine OkO.un rfl rfl rfl ?_
    refine OkO.pick (b := false) rfl rfl nofun (fun _ => rfl) ?_
    refine OkO.nil ?_
    refine Ok.cond rfl (fun h2 => ?_) (fun h2 => ?_)
    · -- yes h2
      have k1 : inB (cs.length : Int) 1 8 = true := by simpa using g1
      have k2 : (cs.all fun x => x.ok) = false := by simpa using h2
      refine Ok.seq ?_
      refine Ok.region ?_
      refine OkO.assign rfl rfl ?_
      refine OkO.nil ?_
      refine Ok.ret ⟨.inr rfl, ?_⟩
      have hz : gOk cs g = false := by unfold gOk; rw [k1, k2]; simp
      exact back_flat rfl (congrArg AV.bool hz.symm) rfl (by rw [← hW]; exact (by (try dsimp only); repeat (first | exact hG | apply Grow.new | (refine Grow.put ?_ _ (by first | omega | (simp only [hNw, hPt]; omega))))))
    · -- no h2
      have k1 : inB (cs.length : Int) 1 8 = true := by simpa using g1
      have k2 : (cs.all fun x => x.ok) = true := by simpa using h2
      refine Ok.skip ?_
      refine Ok.seq ?_
      refine Ok.seq ?_
      refine Ok.region ?_
      refine OkO.fieldAddr (o := 0) rfl (by kernel_rfl) rfl ?_
      refine OkO.load rfl rfl (lda (n := 1) (by kernel_rfl) (by first | assumption | (simp (disch := first | omega | (simp only [hNw, hPt]; omega)) only [gn0, gn1, gn2, gn3, gn4, gn5, gp0, gno, gpo] <;> first | rfl | assumption)) (by first | rfl | assumption)) ?_
      refine OkO.builtin rfl rfl rfl (bln (by kernel_rfl) (by first | assumption | rfl)) ?_
      refine OkO.move rfl rfl ?_
      refine OkO.nil ?_
      refine Ok.block ?_
      refine Ok.loop (fun n s => ∃ i : Nat, n = cs.length - i ∧ i ≤ cs.length ∧ (∀ j, j < i → ∀ c, cs[j]? = some c → inB c.to (-1) ((cs.length : Int) - 1) = true ∧ c.to ≠ (0 : Int) + j) ∧ Has 6 [(1, .ptr W.next 0), (2, .bool false), (18, cv), (19, I cs.length), (20, I (i : Int))] s.T ∧ s.D = [] ∧ Grow W s.H ∧ s.H.get W.next = some (.cells [cv, I g.slo, I g.shi, I g.klo, I g.khi, I g.melt] 38) ∧ W.next + 1 ≤ s.H.next) (cs.length) (by unfold loopFuel; omega)
        ⟨0, rfl, Nat.zero_le _, nofun, Has.of (by kernel_rfl), rfl, (by (try dsimp only); repeat (first | exact hG | apply Grow.new | (refine Grow.put ?_ _ (by first | omega | (simp only [hNw, hPt]; omega))))), (by simp (disch := first | omega | (simp only [hNw, hPt]; omega)) only [gn0, gn1, gn2, gn3, gn4, gn5, gp0, gno, gpo] <;> first | rfl | assumption), by simp⟩ ?_
      rintro n ⟨T, D, G⟩ ⟨i, hn, hi, hall, ⟨f, hT⟩, hD, hg, hb1, hb2⟩
      dsimp only at *
      subst hT hD
      have hgn := hg.next
      have hb3 : (G.get W.next).bind AObj.cs = some [cv, I g.slo, I g.shi, I g.klo, I g.khi, I g.melt] := by rw [hb1]; rfl
      refine Ok.seq ?_
      refine Ok.region ?_
      refine OkO.bin rfl rfl rfl (bin_lss _ _) ?_
      refine OkO.nil ?_
      refine Ok.seq ?_
      refine Ok.cond rfl (fun h3 => ?_) (fun h3 => ?_)
      · -- yes h3
        have hlt : i < cs.length := by simpa using h3
        obtain ⟨bb, off, ccs, i1, i2, i3, i4⟩ := (hR.ext (hE _ hg)).at_ i cs[i].c (by simp [hlt])
        have hne : bb ≠ G.next := by omega
        have hne2 : W.next ≠ G.next := by omega
        refine Ok.skip ?_
        refine Ok.seq ?_
        refine Ok.block ?_
        refine Ok.seq ?_
        refine Ok.region ?_
        refine OkO.move rfl rfl ?_
        refine OkO.index (sz := 7) (n := i) rfl rfl rfl (by kernel_rfl) (by first | assumption | rfl | exact slAt_slice (by omega)) ?_ -- index ('Go.Operand.tmp', 18) ('Go.Operand.tmp', 20)
        refine OkO.load rfl rfl (ldg (n := 7) (by kernel_rfl) (by first | assumption | (simp (disch := first | omega | (simp only [hNw, hPt]; omega)) only [gn0, gn1, gn2, gn3, gn4, gn5, gp0, gno, gpo] <;> first | rfl | assumption)) (by first | rfl | assumption)) ?_
        refine OkO.alloc (z := [.int .i64 0, .int .i64 0, .int .i64 0, .int .i64 0, .int .i64 0, .int .i64 0, .int .i64 0]) rfl (by kernel_rfl) ?_
        refine OkO.assign rfl rfl ?_
        refine OkO.store rfl rfl rfl (stc (n := 7) (ag := true) (by kernel_rfl) (by first | assumption | (simp (disch := first | omega | (simp only [hNw, hPt]; omega)) only [gn0, gn1, gn2, gn3, gn4, gn5, gp0, gno, gpo] <;> first | rfl | assumption)) rfl rfl (by first | rfl | exact spl_set _ _ _ (by first | assumption | (simp; omega)))) ?_
        refine OkO.nil ?_
        refine Ok.seq ?_
        refine Ok.drawn [(0, true, []), (1, true, []), (2, true, []), (3, true, []), (4, true, []), (5, true, []), (7, true, []), (8, true, []), (6, false, [8, 1]), (9, false, [5, 1]), (10, true, []), (11, true, []), (12, true, []), (13, true, []), (14, true, []), (15, true, []), (16, true, []), (17, true, [])] (by kernel_rfl) ?_
        refine OkP.step ?_
        refine OkO.fieldAddr (o := 5) rfl (by kernel_rfl) rfl ?_
        refine OkO.nil ⟨rfl, ?_⟩
        refine OkP.step ?_
        refine OkO.load rfl rfl (lda (n := 1) (by kernel_rfl) (by first | assumption | (simp (disch := first | omega | (simp only [hNw, hPt]; omega)) only [gn0, gn1, gn2, gn3, gn4, gn5, gp0, gno, gpo] <;> first | rfl | assumption)) (by first | rfl | assumption)) ?_
        refine OkO.nil ⟨rfl, ?_⟩
        refine OkP.step ?_
        refine OkO.bin rfl rfl rfl (bin_neq _ _) ?_
        refine OkO.nil ⟨rfl, ?_⟩
        refine OkP.step ?_
        refine OkO.move rfl rfl ?_
        refine OkO.nil ⟨rfl, ?_⟩
        refine OkP.split (d := 28) rfl (fun g4 => ?_) (fun g4 => ?_)
        · -- true g4
          refine OkP.step ?_
          refine OkO.fieldAddr (o := 0) rfl (by kernel_rfl) rfl ?_
          refine OkO.nil ⟨rfl, ?_⟩
          refine OkP.step ?_
          refine OkO.load rfl rfl (lda (n := 1) (by kernel_rfl) (by first | assumption | (simp (disch := first | omega | (simp only [hNw, hPt]; omega)) only [gn0, gn1, gn2, gn3, gn4, gn5, gp0, gno, gpo] <;> first | rfl | assumption)) (by first | rfl | assumption)) ?_
          refine OkO.nil ⟨rfl, ?_⟩
          refine OkP.step ?_
          refine OkO.fieldAddr (o := 5) rfl (by kernel_rfl) rfl ?_
          refine OkO.nil ⟨rfl, ?_⟩
          refine OkP.step ?_
          refine OkO.load rfl rfl (lda (n := 1) (by kernel_rfl) (by first | assumption | (simp (disch := first | omega | (simp only [hNw, hPt]; omega)) only [gn0, gn1, gn2, gn3, gn4, gn5, gp0, gno, gpo] <;> first | rfl | assumption)) (by first | rfl | assumption)) ?_
          refine OkO.nil ⟨rfl, ?_⟩
          refine OkP.step ?_
          refine OkO.callV rfl rfl rfl rfl rfl (c74 _ cv cs.length _ hlen (by omega)) ?_ -- "sackung/water.indexes[sackung/water.Cell]"
          refine OkO.nil ⟨(sco (sld rfl rfl (lda (n := 1) (by kernel_rfl) (by first | assumption | (simp (disch := first | omega | (simp only [hNw, hPt]; omega)) only [gn0, gn1, gn2, gn3, gn4, gn5, gp0, gno, gpo] <;> first | rfl | assumption)) (by first | rfl | assumption)) rfl (eqr _ (by first | rfl | exact lpl (by assumption) | (simp [AV.plain, AV.plains, AV.plain])))) (sco (sld rfl rfl (lda (n := 1) (by kernel_rfl) (by first | assumption | (simp (disch := first | omega | (simp only [hNw, hPt]; omega)) only [gn0, gn1, gn2, gn3, gn4, gn5, gp0, gno, gpo] <;> first | rfl | assumption)) (by first | rfl | assumption)) rfl (eqr _ (by first | rfl | exact lpl (by assumption) | (simp [AV.plain, AV.plains, AV.plain])))) rfl)), ?_⟩
          refine OkP.step ?_
          refine OkO.callV rfl rfl rfl rfl rfl (c71 _ _ _ _ _) ?_ -- "(sackung/water.Range).has"
          refine OkO.nil ⟨(sco (sld rfl rfl (lda (n := 1) (by kernel_rfl) (by first | assumption | (simp (disch := first | omega | (simp only [hNw, hPt]; omega)) only [gn0, gn1, gn2, gn3, gn4, gn5, gp0, gno, gpo] <;> first | rfl | assumption)) (by first | rfl | assumption)) rfl (eqr _ (by first | rfl | exact lpl (by assumption) | (simp [AV.plain, AV.plains, AV.plain])))) (sco (sld rfl rfl (lda (n := 1) (by kernel_rfl) (by first | assumption | (simp (disch := first | omega | (simp only [hNw, hPt]; omega)) only [gn0, gn1, gn2, gn3, gn4, gn5, gp0, gno, gpo] <;> first | rfl | assumption)) (by first | rfl | assumption)) rfl (eqr _ (by first | rfl | exact lpl (by assumption) | (simp [AV.plain, AV.plains, AV.plain])))) rfl)), ?_⟩
          refine OkP.step ?_
          refine OkO.un rfl rfl rfl ?_
          refine OkO.nil ⟨rfl, ?_⟩
          refine OkP.step ?_
          refine OkO.pick (b := true) rfl rfl (fun _ => rfl) nofun ?_
          refine OkO.nil ⟨rfl, ?_⟩
          refine OkP.step ?_
          refine OkO.move rfl rfl ?_
          refine OkO.nil ⟨rfl, ?_⟩
          refine OkP.split (d := 37) rfl (fun g5 => ?_) (fun g5 => ?_)
          · -- true g5
            have k3 := toOk_no (n := (cs.length : Int)) (List.getElem?_eq_getElem hlt) (.inl (by (have e1 : ¬cs[i].to = -1 := by simpa using g4); simp [inB] at g5 ⊢; omega))
            refine OkP.step ?_
            refine OkO.skip rfl ?_
            refine OkO.nil ⟨rfl, ?_⟩
            refine OkP.step ?_
            refine OkO.skip rfl ?_
            refine OkO.nil ⟨rfl, ?_⟩
            refine OkP.step ?_
            refine OkO.skip rfl ?_
            refine OkO.nil ⟨rfl, ?_⟩
            refine OkP.step ?_
            refine OkO.skip rfl ?_
            refine OkO.nil ⟨rfl, ?_⟩
            refine OkP.step ?_
            refine OkO.pick (b := true) rfl rfl (fun _ => rfl) nofun ?_
            refine OkO.nil ⟨rfl, ?_⟩
            refine OkP.nil ?_
            refine Ok.condT rfl ?_
            refine Ok.seq ?_
            refine Ok.region ?_
            refine OkO.assign rfl rfl ?_
            refine OkO.nil ?_
            refine Ok.ret ⟨.inr rfl, ?_⟩
            have hz : gOk cs g = false := by unfold gOk; rw [k1, k2, k3]; simp
            exact back_flat rfl (congrArg AV.bool hz.symm) rfl (by rw [← hW]; exact (by (try dsimp only); repeat (first | (first | exact hg | exact hG) | apply Grow.new | (refine Grow.put ?_ _ (by first | omega | (simp only [hNw, hPt]; omega))))))
          · -- false g5
            refine OkP.step ?_
            refine OkO.fieldAddr (o := 5) rfl (by kernel_rfl) rfl ?_
            refine OkO.nil ⟨rfl, ?_⟩
            refine OkP.step ?_
            refine OkO.load rfl rfl (lda (n := 1) (by kernel_rfl) (by first | assumption | (simp (disch := first | omega | (simp only [hNw, hPt]; omega)) only [gn0, gn1, gn2, gn3, gn4, gn5, gp0, gno, gpo] <;> first | rfl | assumption)) (by first | rfl | assumption)) ?_
            refine OkO.nil ⟨rfl, ?_⟩
            refine OkP.step ?_
            refine OkO.move rfl rfl ?_
            refine OkO.nil ⟨rfl, ?_⟩
            refine OkP.step ?_
            refine OkO.bin rfl rfl rfl (bin_eql _ _) ?_
            refine OkO.nil ⟨rfl, ?_⟩
            refine OkP.step ?_
            refine OkO.pick (b := false) rfl rfl nofun (fun _ => rfl) ?_
            refine OkO.nil ⟨rfl, ?_⟩
            refine OkP.nil ?_
            refine Ok.cond rfl (fun h6 => ?_) (fun h6 => ?_)
            · -- yes h6
              have k3 := toOk_no (n := (cs.length : Int)) (List.getElem?_eq_getElem hlt) (.inr (by simpa using h6))
              refine Ok.seq ?_
              refine Ok.region ?_
              refine OkO.assign rfl rfl ?_
              refine OkO.nil ?_
              refine Ok.ret ⟨.inr rfl, ?_⟩
              have hz : gOk cs g = false := by unfold gOk; rw [k1, k2, k3]; simp
              exact back_flat rfl (congrArg AV.bool hz.symm) rfl (by rw [← hW]; exact (by (try dsimp only); repeat (first | (first | exact hg | exact hG) | apply Grow.new | (refine Grow.put ?_ _ (by first | omega | (simp only [hNw, hPt]; omega))))))
            · -- no h6
              have hok : inB cs[i].to (-1) ((cs.length : Int) - 1) = true ∧ cs[i].to ≠ (0 : Int) + i := by (have e1 : ¬cs[i].to = -1 := by simpa using g4); (have e2 : ¬cs[i].to = (i : Int) := by simpa using h6); refine ⟨?_, by omega⟩; simp [inB] at g5 ⊢; omega
              refine Ok.skip ?_
              refine Ok.region ?_
              refine OkO.bin rfl rfl rfl (bin_add (by omega) (by omega)) ?_
              refine OkO.move rfl rfl ?_
              refine OkO.nil ?_
              refine ⟨cs.length - (i + 1), by omega, i + 1, rfl, hlt, fun j hj c hc => ?_, Has.of (by kernel_rfl), rfl, (by (try dsimp only); repeat (first | (first | exact hg | exact hG) | apply Grow.new | (refine Grow.put ?_ _ (by first | omega | (simp only [hNw, hPt]; omega))))), (by simp (disch := first | omega | (simp only [hNw, hPt]; omega)) only [gn0, gn1, gn2, gn3, gn4, gn5, gp0, gno, gpo] <;> first | rfl | assumption), by simp only [hNw, hPt]; omega⟩
              by_cases e : j = i
              · subst e; rw [List.getElem?_eq_getElem hlt] at hc; cases hc; exact hok
              · exact hall j (by omega) c hc
        · -- false g4
          refine OkP.step ?_
          refine OkO.skip rfl ?_
          refine OkO.nil ⟨rfl, ?_⟩
          refine OkP.step ?_
          refine OkO.skip rfl ?_
          refine OkO.nil ⟨rfl, ?_⟩
          refine OkP.step ?_
          refine OkO.skip rfl ?_
          refine OkO.nil ⟨rfl, ?_⟩
          refine OkP.step ?_
          refine OkO.skip rfl ?_
          refine OkO.nil ⟨rfl, ?_⟩
          refine OkP.step ?_
          refine OkO.skip rfl ?_
          refine OkO.nil ⟨(sco (still_skip rfl) (sco (sld rfl rfl (lda (n := 1) (by kernel_rfl) (by first | assumption | (simp (disch := first | omega | (simp only [hNw, hPt]; omega)) only [gn0, gn1, gn2, gn3, gn4, gn5, gp0, gno, gpo] <;> first | rfl | assumption)) (by first | rfl | assumption)) rfl (eqr _ (by first | rfl | exact lpl (by assumption) | (simp [AV.plain, AV.plains, AV.plain])))) rfl)), ?_⟩
          refine OkP.step ?_
          refine OkO.skip rfl ?_
          refine OkO.nil ⟨(sco (still_skip rfl) (sco (sld rfl rfl (lda (n := 1) (by kernel_rfl) (by first | assumption | (simp (disch := first | omega | (simp only [hNw, hPt]; omega)) only [gn0, gn1, gn2, gn3, gn4, gn5, gp0, gno, gpo] <;> first | rfl | assumption)) (by first | rfl | assumption)) rfl (eqr _ (by first | rfl | exact lpl (by assumption) | (simp [AV.plain, AV.plains, AV.plain])))) rfl)), ?_⟩
          refine OkP.step ?_
          refine OkO.skip rfl ?_
          refine OkO.nil ⟨rfl, ?_⟩
          refine OkP.step ?_
          refine OkO.pick (b := false) rfl rfl nofun (fun _ => rfl) ?_
          refine OkO.nil ⟨rfl, ?_⟩
          refine OkP.step ?_
          refine OkO.move rfl rfl ?_
          refine OkO.nil ⟨rfl, ?_⟩
          refine OkP.step ?_
          refine OkO.fieldAddr (o := 5) rfl (by kernel_rfl) rfl ?_
          refine OkO.nil ⟨rfl, ?_⟩
          refine OkP.step ?_
          refine OkO.load rfl rfl (lda (n := 1) (by kernel_rfl) (by first | assumption | (simp (disch := first | omega | (simp only [hNw, hPt]; omega)) only [gn0, gn1, gn2, gn3, gn4, gn5, gp0, gno, gpo] <;> first | rfl | assumption)) (by first | rfl | assumption)) ?_
          refine OkO.nil ⟨rfl, ?_⟩
          refine OkP.step ?_
          refine OkO.move rfl rfl ?_
          refine OkO.nil ⟨rfl, ?_⟩
          refine OkP.step ?_
          refine OkO.bin rfl rfl rfl (bin_eql _ _) ?_
          refine OkO.nil ⟨rfl, ?_⟩
          refine OkP.step ?_
          refine OkO.pick (b := false) rfl rfl nofun (fun _ => rfl) ?_
          refine OkO.nil ⟨rfl, ?_⟩
          refine OkP.nil ?_
          refine Ok.cond rfl (fun h7 => ?_) (fun h7 => ?_)
          · -- yes h7
            have k3 := toOk_no (n := (cs.length : Int)) (List.getElem?_eq_getElem hlt) (.inr (by simpa using h7))
            refine Ok.seq ?_
            refine Ok.region ?_
            refine OkO.assign rfl rfl ?_
            refine OkO.nil ?_
            refine Ok.ret ⟨.inr rfl, ?_⟩
            have hz : gOk cs g = false := by unfold gOk; rw [k1, k2, k3]; simp
            exact back_flat rfl (congrArg AV.bool hz.symm) rfl (by rw [← hW]; exact (by (try dsimp only); repeat (first | (first | exact hg | exact hG) | apply Grow.new | (refine Grow.put ?_ _ (by first | omega | (simp only [hNw, hPt]; omega))))))
          · -- no h7
            have hok : inB cs[i].to (-1) ((cs.length : Int) - 1) = true ∧ cs[i].to ≠ (0 : Int) + i := by (have e1 : cs[i].to = -1 := by simpa using g4); (have e2 : ¬cs[i].to = (i : Int) := by simpa using h7); refine ⟨?_, by omega⟩; simp [inB]; omega
            refine Ok.skip ?_
            refine Ok.region ?_
            refine OkO.bin rfl rfl rfl (bin_add (by omega) (by omega)) ?_
            refine OkO.move rfl rfl ?_
            refine OkO.nil ?_
            refine ⟨cs.length - (i + 1), by omega, i + 1, rfl, hlt, fun j hj c hc => ?_, Has.of (by kernel_rfl), rfl, (by (try dsimp only); repeat (first | (first | exact hg | exact hG) | apply Grow.new | (refine Grow.put ?_ _ (by first | omega | (simp only [hNw, hPt]; omega))))), (by simp (disch := first | omega | (simp only [hNw, hPt]; omega)) only [gn0, gn1, gn2, gn3, gn4, gn5, gp0, gno, gpo] <;> first | rfl | assumption), by simp only [hNw, hPt]; omega⟩
            by_cases e : j = i
            · subst e; rw [List.getElem?_eq_getElem hlt] at hc; cases hc; exact hok
            · exact hall j (by omega) c hc
      · -- no h3
        have hge : i = cs.length := by simp at h3; omega
        have k3 : toOk (cs.length : Int) 0 cs = true := (toOk_iff _ _ _).2 fun j c hc => hall j (by have := (List.getElem?_eq_some_iff.1 hc).1; omega) c hc
        refine Ok.exit ?_
        refine Ok.seq ?_
        refine Ok.region ?_
        refine OkO.fieldAddr (o := 1) rfl (by kernel_rfl) rfl ?_
        refine OkO.load rfl rfl (ldg (n := 2) (by kernel_rfl) (by first | assumption | (simp (disch := first | omega | (simp only [hNw, hPt]; omega)) only [gn0, gn1, gn2, gn3, gn4, gn5, gp0, gno, gpo] <;> first | rfl | assumption)) (by first | rfl | assumption)) ?_
        refine OkO.callV rfl rfl rfl rfl rfl (c75 _ _ _ _ _) ?_ -- "(sackung/water.Range).within"
        refine OkO.move rfl rfl ?_
        refine OkO.split (d := 47) rfl (fun g8 => ?_) (fun g8 => ?_)
        · -- true g8
          refine OkO.fieldAddr (o := 3) rfl (by kernel_rfl) rfl ?_
          refine OkO.load rfl rfl (ldg (n := 2) (by kernel_rfl) (by first | assumption | (simp (disch := first | omega | (simp only [hNw, hPt]; omega)) only [gn0, gn1, gn2, gn3, gn4, gn5, gp0, gno, gpo] <;> first | rfl | assumption)) (by first | rfl | assumption)) ?_
          refine OkO.callV rfl rfl rfl rfl rfl (c75 _ _ _ _ _) ?_ -- "(sackung/water.Range).within"
          refine OkO.pick (b := true) rfl rfl (fun _ => rfl) nofun ?_
          refine OkO.move rfl rfl ?_
          refine OkO.split (d := 52) rfl (fun g9 => ?_) (fun g9 => ?_)
          · -- true g9
            refine OkO.build (z := [.int .i64 0, .int .i64 0]) (pl := [(0, 1), (1, 1)]) rfl (by kernel_rfl) rfl rfl ?_
            refine OkO.fieldAddr (o := 5) rfl (by kernel_rfl) rfl ?_
            refine OkO.load rfl rfl (lda (n := 1) (by kernel_rfl) (by first | assumption | (simp (disch := first | omega | (simp only [hNw, hPt]; omega)) only [gn0, gn1, gn2, gn3, gn4, gn5, gp0, gno, gpo] <;> first | rfl | assumption)) (by first | rfl | assumption)) ?_
            refine OkO.callV rfl rfl rfl rfl rfl (c71 _ _ _ _ _) ?_ -- "(sackung/water.Range).has"
            refine OkO.pick (b := true) rfl rfl (fun _ => rfl) nofun ?_
            refine OkO.assign rfl rfl ?_
            refine OkO.nil ?_
            refine Ok.ret ⟨.inr rfl, ?_⟩
            have hz : inB g.melt 0 50 = gOk cs g := by unfold gOk; rw [k1, k2, k3, g8, g9]; rfl
            exact back_flat rfl (congrArg AV.bool hz) rfl (by rw [← hW]; exact (by (try dsimp only); repeat (first | (first | exact hg | exact hG) | apply Grow.new | (refine Grow.put ?_ _ (by first | omega | (simp only [hNw, hPt]; omega))))))
          · -- false g9
            refine OkO.skip rfl ?_
            refine OkO.skip rfl ?_
            refine OkO.skip rfl ?_
            refine OkO.skip rfl ?_
            refine OkO.pick (b := false) rfl rfl nofun (fun _ => rfl) ?_
            refine OkO.assign rfl rfl ?_
            refine OkO.nil ?_
            refine Ok.ret ⟨.inr rfl, ?_⟩
            have hz : false = gOk cs g := by unfold gOk; rw [k1, k2, k3, g8, g9]; rfl
            exact back_flat rfl (congrArg AV.bool hz) rfl (by rw [← hW]; exact (by (try dsimp only); repeat (first | (first | exact hg | exact hG) | apply Grow.new | (refine Grow.put ?_ _ (by first | omega | (simp only [hNw, hPt]; omega))))))
        · -- false g8
          refine OkO.skip rfl ?_
          refine OkO.skip rfl ?_
          refine OkO.skip rfl ?_
          refine OkO.pick (b := false) rfl rfl nofun (fun _ => rfl) ?_
          refine OkO.move rfl rfl ?_
          refine OkO.skip rfl ?_
          refine OkO.skip rfl ?_
          refine OkO.skip rfl ?_
          refine OkO.skip rfl ?_
          refine OkO.pick (b := false) rfl rfl nofun (fun _ => rfl) ?_
          refine OkO.assign rfl rfl ?_
          refine OkO.nil ?_
          refine Ok.ret ⟨.inr rfl, ?_⟩
          have hz : false = gOk cs g := by unfold gOk; rw [k1, k2, k3, g8]; rfl
          exact back_flat rfl (congrArg AV.bool hz) rfl (by rw [← hW]; exact (by (try dsimp only); repeat (first | (first | exact hg | exact hG) | apply Grow.new | (refine Grow.put ?_ _ (by first | omega | (simp only [hNw, hPt]; omega))))))
theorem c18 (m : Nat) (cv : AV) (cs : List Cell) (g : Gr) (H : Heap) (hR : Row H cv 7 (cs.map Cell.c)) (hbig : cs.length ≤ 1000000) : RR (m + 5) (.fn 18 [.agg [cv, I g.slo, I g.shi, I g.klo, I g.khi, I g.melt]]) H = some (I (if gOk cs g = true then 0 else 1), H) := by
  refine (R_fn _ _ _ _ _).trans ?_
  refine fn_ok Try.func18 rfl rfl (by kernel_rfl) (by kernel_rfl) ?_
  obtain ⟨W, hW⟩ : ∃ W : Heap, W = ⟨H.t, H.next, H.next⟩ := ⟨_, rfl⟩
  have hg : ∀ n, W.get n = H.get n := fun n => by rw [hW]; rfl
  have hN : W.next = H.next := by rw [hW]
  have hE : ∀ G, Grow W G → Ext H G := fun G g => ⟨by rw [← hN]; exact g.next, fun n k => by rw [g.get n (by rw [hN]; exact k), hg]⟩
  have hG : Grow W W := Grow.refl (by rw [hW]; exact Nat.le_refl _)
  rw [← hW]
  refine Ok.seq ?_
  refine Ok.region ?_
  refine OkO.box rfl rfl ?_
  refine OkO.assign rfl rfl ?_
  refine OkO.nil ?_
  refine Ok.seq ?_
  refine Ok.seq ?_
  refine Ok.region ?_
  refine OkO.load rfl rfl (ldg (n := 6) (by kernel_rfl) (by first | assumption | (simp (disch := first | omega | (simp only [hNw, hPt]; omega)) only [gn0, gn1, gn2, gn3, gn4, gn5, gp0, gno, gpo] <;> first | rfl | assumption)) (by first | rfl | assumption)) ?_
  refine OkO.callV rfl rfl rfl rfl rfl (c51 m cv cs g _ (hR.ext (hE _ (by (try dsimp only); repeat (first | exact hG | apply Grow.new | (refine Grow.put ?_ _ (by first | omega | (simp only [hNw, hPt]; omega))))))) hbig) ?_ -- "(sackung/water.Ground).valid"
  refine OkO.un rfl rfl rfl ?_
  refine OkO.nil ?_
  refine Ok.cond rfl (fun h1 => ?_) (fun h1 => ?_)
  · -- yes h1
    refine Ok.seq ?_
    refine Ok.region ?_
    refine OkO.assign rfl rfl ?_
    refine OkO.nil ?_
    refine Ok.ret ⟨.inr rfl, ?_⟩
    have hf : gOk cs g = false := by simpa using h1
    exact back_flat rfl (by simp [hf]; rfl) rfl (by rw [← hW]; exact (by (try dsimp only); repeat (first | exact hG | apply Grow.new | (refine Grow.put ?_ _ (by first | omega | (simp only [hNw, hPt]; omega))))))
  · -- no h1
    refine Ok.skip ?_
    refine Ok.seq ?_
    refine Ok.region ?_
    refine OkO.assign rfl rfl ?_
    refine OkO.nil ?_
    refine Ok.ret ⟨.inr rfl, ?_⟩
    have hf : gOk cs g = true := by simpa using h1
    exact back_flat rfl (by simp [hf]; rfl) rfl (by rw [← hW]; exact (by (try dsimp only); repeat (first | exact hG | apply Grow.new | (refine Grow.put ?_ _ (by first | omega | (simp only [hNw, hPt]; omega))))))
/-- The error of a ground with days. -/
def daysErr (cs : List Cell) (g : Gr) (ds : List Day) : Int := if gOk cs g = true then (if (30 : Int) < (ds.length : Int) then 3 else if (ds.all fun x => x.ok) = true then 0 else 1) else 1
theorem c60 (m : Nat) (cv dv : AV) (cs : List Cell) (g : Gr) (ds : List Day) (H : Heap) (hR : Row H cv 7 (cs.map Cell.c)) (hbig : cs.length ≤ 1000000) (hD : Row H dv 3 (ds.map Day.c)) (hbd : ds.length ≤ 1000000) : RR (m + 6) (.fn 60 [.agg [cv, I g.slo, I g.shi, I g.klo, I g.khi, I g.melt], dv]) H = some (I (daysErr cs g ds), H) := by
  refine (R_fn _ _ _ _ _).trans ?_
  refine fn_ok Try.func60 rfl rfl (by kernel_rfl) (by kernel_rfl) ?_
  obtain ⟨W, hW⟩ : ∃ W : Heap, W = ⟨H.t, H.next, H.next⟩ := ⟨_, rfl⟩
  have hg : ∀ n, W.get n = H.get n := fun n => by rw [hW]; rfl
  have hN : W.next = H.next := by rw [hW]
  have hE : ∀ G, Grow W G → Ext H G := fun G g => ⟨by rw [← hN]; exact g.next, fun n k => by rw [g.get n (by rw [hN]; exact k), hg]⟩
  have hG : Grow W W := Grow.refl (by rw [hW]; exact Nat.le_refl _)
  rw [← hW]
  have hlen : lenOf dv = some ds.length := by simpa using hD.len
  have pd : dv.plain = true := lpl hlen
  refine Ok.seq ?_
  refine Ok.region ?_
  refine OkO.box rfl rfl ?_
  refine OkO.assign rfl rfl ?_
  refine OkO.nil ?_
  refine Ok.seq ?_
  refine Ok.seq ?_
  refine Ok.region ?_
  refine OkO.load rfl rfl (ldg (n := 6) (by kernel_rfl) (by first | assumption | (simp (disch := first | omega | (simp only [hNw, hPt]; omega)) only [gn0, gn1, gn2, gn3, gn4, gn5, gp0, gno, gpo] <;> first | rfl | assumption)) (by first | rfl | assumption)) ?_
  refine OkO.callV rfl rfl rfl rfl rfl (c18 m cv cs g _ (hR.ext (hE _ (by (try dsimp only); repeat (first | exact hG | apply Grow.new | (refine Grow.put ?_ _ (by first | omega | (simp only [hNw, hPt]; omega))))))) hbig) ?_ -- "sackung/water.CheckGround"
  refine OkO.assign rfl rfl ?_
  refine OkO.nil ?_
  refine Ok.seq ?_
  refine Ok.region ?_
  refine OkO.move rfl rfl ?_
  refine OkO.bin rfl rfl rfl (bin_neq _ _) ?_
  refine OkO.nil ?_
  refine Ok.cond rfl (fun h1 => ?_) (fun h1 => ?_)
  · -- yes h1
    have hf : gOk cs g = false := by cases hs : gOk cs g with | false => rfl | true => (rw [hs] at h1; simp at h1)
    refine Ok.seq ?_
    refine Ok.region ?_
    refine OkO.move rfl rfl ?_
    refine OkO.assign rfl rfl ?_
    refine OkO.nil ?_
    refine Ok.ret ⟨.inr rfl, ?_⟩
    exact back_flat rfl (by simp [daysErr, hf]; rfl) rfl (by rw [← hW]; exact (by (try dsimp only); repeat (first | exact hG | apply Grow.new | (refine Grow.put ?_ _ (by first | omega | (simp only [hNw, hPt]; omega))))))
  · -- no h1
    have hf : gOk cs g = true := by cases hs : gOk cs g with | true => rfl | false => (rw [hs] at h1; simp at h1)
    refine Ok.skip ?_
    refine Ok.seq ?_
    refine Ok.seq ?_
    refine Ok.region ?_
    refine OkO.move rfl rfl ?_
    refine OkO.builtin rfl rfl rfl (bln (by kernel_rfl) (by first | assumption | rfl)) ?_
    refine OkO.bin rfl rfl rfl (bin_gtr _ _) ?_
    refine OkO.nil ?_
    refine Ok.cond rfl (fun h2 => ?_) (fun h2 => ?_)
    · -- yes h2
      refine Ok.seq ?_
      refine Ok.region ?_
      refine OkO.assign rfl rfl ?_
      refine OkO.nil ?_
      refine Ok.ret ⟨.inr rfl, ?_⟩
      have h3 : (30 : Int) < (ds.length : Int) := by simpa using h2
      exact back_flat rfl (by simp [daysErr, hf, h3]; rfl) rfl (by rw [← hW]; exact (by (try dsimp only); repeat (first | exact hG | apply Grow.new | (refine Grow.put ?_ _ (by first | omega | (simp only [hNw, hPt]; omega))))))
    · -- no h2
      refine Ok.skip ?_
      refine Ok.seq ?_
      refine Ok.seq ?_
      refine Ok.region ?_
      refine OkO.move rfl rfl ?_
      refine OkO.callV rfl rfl rfl rfl rfl (c83 (m + 2) dv ds _ (hD.ext (hE _ (by (try dsimp only); repeat (first | exact hG | apply Grow.new | (refine Grow.put ?_ _ (by first | omega | (simp only [hNw, hPt]; omega))))))) hbd) ?_ -- "sackung/water.all[sackung/water.Day]"
      refine OkO.un rfl rfl rfl ?_
      refine OkO.nil ?_
      refine Ok.cond rfl (fun h3 => ?_) (fun h3 => ?_)
      · -- yes h3
        refine Ok.seq ?_
        refine Ok.region ?_
        refine OkO.assign rfl rfl ?_
        refine OkO.nil ?_
        refine Ok.ret ⟨.inr rfl, ?_⟩
        have h4 : ¬(30 : Int) < (ds.length : Int) := by simpa using h2
        have h5 : (ds.all fun x => x.ok) = false := by simpa using h3
        exact back_flat rfl (by unfold daysErr; rw [if_pos hf, if_neg h4, h5]; rfl) rfl (by rw [← hW]; exact (by (try dsimp only); repeat (first | exact hG | apply Grow.new | (refine Grow.put ?_ _ (by first | omega | (simp only [hNw, hPt]; omega))))))
      · -- no h3
        refine Ok.skip ?_
        refine Ok.seq ?_
        refine Ok.region ?_
        refine OkO.assign rfl rfl ?_
        refine OkO.nil ?_
        refine Ok.ret ⟨.inr rfl, ?_⟩
        have h4 : ¬(30 : Int) < (ds.length : Int) := by simpa using h2
        have h5 : (ds.all fun x => x.ok) = true := by simpa using h3
        exact back_flat rfl (by unfold daysErr; rw [if_pos hf, if_neg h4, h5]; rfl) rfl (by rw [← hW]; exact (by (try dsimp only); repeat (first | exact hG | apply Grow.new | (refine Grow.put ?_ _ (by first | omega | (simp only [hNw, hPt]; omega))))))
end
end Go.Ev
