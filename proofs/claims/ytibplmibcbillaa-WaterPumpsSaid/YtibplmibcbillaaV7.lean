/-
  Functions of the program, reckoned by the evaluator: what each answers, and that it leaves what came in as it was (part 7).
-/
import Derived.Test.YtibplmibcbillaaV6
set_option maxRecDepth 100000
set_option linter.unusedSimpArgs false
set_option linter.unusedVariables false
namespace Go.Ev
open Go Go.Proofs
noncomputable section
/-- The snow after some days, and what comes down on one. -/
def snowP (melt : Int) (ds : List Day) (rain : List Int) (s0 : Int) : Nat → Int
  | 0 => s0
  | i + 1 => if 0 < (ds.getD i default).warm then snowP melt ds rain s0 i - min (snowP melt ds rain s0 i) (melt * (ds.getD i default).warm) else snowP melt ds rain s0 i + rain.getD i 0
def downP (melt : Int) (ds : List Day) (rain : List Int) (s0 : Int) (i : Nat) : Int :=
  if 0 < (ds.getD i default).warm then rain.getD i 0 + min (snowP melt ds rain s0 i) (melt * (ds.getD i default).warm) else 0
def Day.lim (x : Day) : Prop := (0 ≤ x.lo ∧ x.lo ≤ x.hi ∧ x.hi ≤ 1000) ∧ (-50 ≤ x.warm ∧ x.warm ≤ 50)
theorem Day.ok_lim {x : Day} (h : x.ok = true) : x.lim := by
  simp only [Day.ok, inB, okR, Bool.and_eq_true, decide_eq_true_eq] at h
  unfold Day.lim; omega
theorem melt_bd {melt : Int} (hm : 0 ≤ melt ∧ melt ≤ 50) {x : Day} (hx : x.lim) (h : 0 < x.warm) : 0 ≤ melt * x.warm ∧ melt * x.warm ≤ 2500 := by
  unfold Day.lim at hx
  exact mul_bd hm (q := 50) ⟨by omega, by omega⟩
theorem snow_bd {melt : Int} {ds : List Day} {rain : List Int} {s0 : Int} (hm : 0 ≤ melt ∧ melt ≤ 50) (hd : ∀ x ∈ ds, x.lim) (hr : Upto 1000 rain) (h0 : 0 ≤ s0 ∧ s0 ≤ 100000) : ∀ i, i ≤ ds.length → 0 ≤ snowP melt ds rain s0 i ∧ snowP melt ds rain s0 i ≤ 100000 + 1000 * i
  | 0, _ => by simp [snowP]; omega
  | i + 1, hi => by
    have h := snow_bd hm hd hr h0 i (by omega)
    have h2 := hr.getD (by omega) i
    have hx : ds.getD i default = ds[i]'(by omega) := by simp [show i < ds.length from by omega]
    rw [snowP]
    split
    · rename_i hw
      have h3 := melt_bd hm (x := ds.getD i default) (by rw [hx]; exact hd _ (List.getElem_mem _)) hw
      push_cast; omega
    · push_cast; omega
theorem down_bd {melt : Int} {ds : List Day} {rain : List Int} {s0 : Int} (hm : 0 ≤ melt ∧ melt ≤ 50) (hd : ∀ x ∈ ds, x.lim) (hr : Upto 1000 rain) (h0 : 0 ≤ s0 ∧ s0 ≤ 100000) (i : Nat) (hi : i < ds.length) : 0 ≤ downP melt ds rain s0 i ∧ downP melt ds rain s0 i ≤ 4000 := by
  have h := snow_bd hm hd hr h0 i (by omega)
  have h2 := hr.getD (by omega) i
  have hx : ds.getD i default = ds[i] := by simp [hi]
  unfold downP
  split
  · rename_i hw
    have h3 := melt_bd hm (x := ds.getD i default) (by rw [hx]; exact hd _ (List.getElem_mem _)) hw
    omega
  · omega
theorem back_any {P : Program} {fn : Func} {H : Heap} {T : Tr AV} {G : Heap} {vs : List AV} {v : AV} (hr : resV P T G fn.results.toList = some vs) (hv : resOf vs = v) :
    ∃ H', evBack P fn H ⟨T, [], G⟩ = some (v, H') ∧ ((H' = H ∧ H.next ≤ G.lo) ∨ ((∀ n, H'.get n = G.get n) ∧ H'.next = G.next ∧ ∀ k, k ≤ H.lo → k ≤ G.lo → k ≤ H'.lo)) := by
  have e : evBack P fn H ⟨T, [], G⟩ = some (leave H v G) := by
    unfold evBack
    show (match some G with | some H' => (match resV P T H' fn.results.toList with | some vs => some (leave H (resOf vs) H') | none => none) | none => none) = _
    dsimp only
    rw [hr]
    dsimp only
    rw [hv]
  have hk : ∀ k, k ≤ H.lo → k ≤ G.lo → k ≤ @Bool.rec (fun _ => Nat) G.lo H.lo (Nat.ble H.lo G.lo) := fun k h1 h2 => by
    cases Nat.ble H.lo G.lo with
    | true => exact h1
    | false => exact h2
  unfold leave at e
  cases hb : Nat.ble H.next G.lo with
  | false => rw [hb] at e; exact ⟨_, e, .inr ⟨fun _ => rfl, rfl, hk⟩⟩
  | true =>
    cases hf : v.flat with
    | true => rw [hb, hf] at e; exact ⟨_, e, .inl ⟨rfl, Nat.le_of_ble_eq_true hb⟩⟩
    | false => rw [hb, hf] at e; exact ⟨_, e, .inr ⟨fun _ => rfl, rfl, hk⟩⟩
theorem c103 (m : Nat) (l fb K : Nat) (cv dv lv rv : AV) (g : Gr) (t : Tru) (ds : List Day) (rain : List Int) (J : Nat → Heap → Prop) (H : Heap) (hst : ∀ i G G', J i G → Ext G G' → J i G') (hJ : ∀ i G, J i G → (G.get fb).bind AObj.cs = some [cv, I g.slo, I g.shi, I g.klo, I g.khi, I g.melt, dv, I t.snow, I t.soak, lv, rv] ∧ Row G dv 3 (ds.map Day.c) ∧ Ints G rv rain ∧ fb < G.next ∧ l < G.next)
 (hrd : ∀ i G, i < ds.length → J i G → K ≤ G.lo → ∃ v H', RR m (.round l [I (downP g.melt ds rain t.snow i), I (snowP g.melt ds rain t.snow (i + 1))]) G = some (v, H') ∧ v = .bool true ∧ J (i + 1) H' ∧ K ≤ H'.lo ∧ H'.lo ≤ l ∧ G.next ≤ H'.next)
 (h0 : J 0 H) (hK : K ≤ H.lo) (hKl : K ≤ l) (hm : 0 ≤ g.melt ∧ g.melt ≤ 50) (hds : ∀ x ∈ ds, x.lim) (hra : Upto 1000 rain) (hs0 : 0 ≤ t.snow ∧ t.snow ≤ 100000) (hdl : ds.length ≤ 1000) (hrl : rain.length = ds.length) : ∃ v H', RR (m + 1) (.fn 103 [.yield l, .ptr fb 0]) H = some (v, H') ∧ J ds.length H' ∧ K ≤ H'.lo := by
  show ∃ v H', evFn Try.prog (RR (m + 0)) 103 [.yield l, .ptr fb 0] H = some (v, H') ∧ J ds.length H' ∧ K ≤ H'.lo
  refine fn_okE Try.func103 rfl rfl (by kernel_rfl) (by kernel_rfl) ?_
  obtain ⟨W, hW⟩ : ∃ W : Heap, W = ⟨H.t, H.next, H.next⟩ := ⟨_, rfl⟩
  have hg : ∀ n, W.get n = H.get n := fun n => by rw [hW]; rfl
  have hN : W.next = H.next := by rw [hW]
  have hE : ∀ G, Grow W G → Ext H G := fun G g => ⟨by rw [← hN]; exact g.next, fun n k => by rw [g.get n (by rw [hN]; exact k), hg]⟩
  have hG : Grow W W := Grow.refl (by rw [hW]; exact Nat.le_refl _)
  rw [← hW]
  clear hE hG
  have hJW : J 0 W := hst 0 H W h0 ⟨by omega, fun n _ => hg n⟩
  obtain ⟨w1, w2, w3, w4, w5⟩ := hJ 0 W hJW
  have hKW : K ≤ W.lo := by rw [hW]; show K ≤ H.next; omega
  have hld : lenOf dv = some ds.length := by simpa using w2.len
  refine Ok.seq ?_
  refine Ok.region ?_
  refine OkO.fieldAddr (o := 7) rfl (by kernel_rfl) rfl ?_
  refine OkO.fieldAddr (o := 0) rfl (by kernel_rfl) rfl ?_
  refine OkO.load rfl rfl (lda (n := 1) (by kernel_rfl) (by first | assumption | (simp (disch := first | omega | (simp only [hNw, hPt]; omega)) only [gn0, gn1, gn2, gn3, gn4, gn5, gp0, gno, gpo] <;> first | rfl | assumption)) (by first | rfl | assumption)) ?_
  refine OkO.assign rfl rfl ?_
  refine OkO.nil ?_
  refine Ok.seq ?_
  refine Ok.region ?_
  refine OkO.fieldAddr (o := 6) rfl (by kernel_rfl) rfl ?_
  refine OkO.load rfl rfl (lda (n := 1) (by kernel_rfl) (by first | assumption | (simp (disch := first | omega | (simp only [hNw, hPt]; omega)) only [gn0, gn1, gn2, gn3, gn4, gn5, gp0, gno, gpo] <;> first | rfl | assumption)) (by first | rfl | assumption)) ?_
  refine OkO.builtin rfl rfl rfl (bln (by kernel_rfl) (by first | assumption | rfl)) ?_
  refine OkO.move rfl rfl ?_
  refine OkO.nil ?_
  refine Ok.block ?_
  refine Ok.loop (fun n s => ∃ i : Nat, n = ds.length - i ∧ i ≤ ds.length ∧ J i s.H ∧ K ≤ s.H.lo ∧ (0 < i → s.H.lo ≤ l) ∧ W.next ≤ s.H.next ∧ Has 6 [(0, .yield l), (1, .ptr fb 0), (3, I (snowP g.melt ds rain t.snow i)), (12, dv), (13, I ds.length), (14, I (i : Int))] s.T ∧ s.D = []) (ds.length) (by unfold loopFuel; omega)
    ⟨0, rfl, Nat.zero_le _, hJW, hKW, nofun, Nat.le_refl _, Has.of (by kernel_rfl), rfl⟩ ?_
  rintro n ⟨T, D, G⟩ ⟨i, hn, hi, hji, hKG, hlo, hgn, ⟨f, hT⟩, hD⟩
  dsimp only at *
  subst hT hD
  obtain ⟨j1, j2, j3, j4, j5⟩ := hJ i G hji
  refine Ok.seq ?_
  refine Ok.region ?_
  refine OkO.bin rfl rfl rfl (bin_lss _ _) ?_
  refine OkO.nil ?_
  refine Ok.seq ?_
  refine Ok.cond rfl (fun h1 => ?_) (fun h1 => ?_)
  · -- yes h1
    have hlt : i < ds.length := by simpa using h1
    have hx0 : ds.getD i default = ds[i] := by simp [hlt]
    obtain ⟨bb, off, ccs, i1, i2, i3, i4⟩ := j2.at_ i ds[i].c (by simp [hlt])
    have hne : bb ≠ G.next := by omega
    have hnf : fb ≠ G.next := by omega
    obtain ⟨ub, uo, ucs, u1, u2, u3, u4⟩ := j3.at_ i [I (rain.getD i 0)] (by simp [show i < rain.length from by omega])
    have hnu : ub ≠ G.next := by omega
    have u5 := seg_one u3
    have hsb := snow_bd hm hds hra hs0 i hi
    have hrb := hra.getD (by omega) i
    have hdlm := hds _ (List.getElem_mem hlt)
    refine Ok.skip ?_
    refine Ok.seq ?_
    refine Ok.block ?_
    refine Ok.seq ?_
    refine Ok.region ?_
    refine OkO.move rfl rfl ?_
    refine OkO.index (sz := 3) (n := i) rfl rfl rfl (by kernel_rfl) (by first | assumption | rfl | exact slAt_slice (by omega)) ?_ -- index ('Go.Operand.tmp', 12) ('Go.Operand.tmp', 14)
    refine OkO.load rfl rfl (ldg (n := 3) (by kernel_rfl) (by first | assumption | (simp (disch := first | omega | (simp only [hNw, hPt]; omega)) only [gn0, gn1, gn2, gn3, gn4, gn5, gp0, gno, gpo] <;> first | rfl | assumption)) (by first | rfl | assumption)) ?_
    refine OkO.alloc (z := [.int .i64 0, .int .i64 0, .int .i64 0]) rfl (by kernel_rfl) ?_
    refine OkO.assign rfl rfl ?_
    refine OkO.store rfl rfl rfl (stc (n := 3) (ag := true) (by kernel_rfl) (by first | assumption | (simp (disch := first | omega | (simp only [hNw, hPt]; omega)) only [gn0, gn1, gn2, gn3, gn4, gn5, gp0, gno, gpo] <;> first | rfl | assumption)) rfl rfl (by first | rfl | exact spl_set _ _ _ (by first | assumption | (simp; omega)))) ?_
    refine OkO.nil ?_
    refine Ok.seq ?_
    refine Ok.region ?_
    refine OkO.assign rfl rfl ?_
    refine OkO.nil ?_
    refine Ok.seq ?_
    refine Ok.seq ?_
    refine Ok.region ?_
    refine OkO.fieldAddr (o := 2) rfl (by kernel_rfl) rfl ?_
    refine OkO.load rfl rfl (lda (n := 1) (by kernel_rfl) (by first | assumption | (simp (disch := first | omega | (simp only [hNw, hPt]; omega)) only [gn0, gn1, gn2, gn3, gn4, gn5, gp0, gno, gpo] <;> first | rfl | assumption)) (by first | rfl | assumption)) ?_
    refine OkO.bin rfl rfl rfl (bin_gtr _ _) ?_
    refine OkO.nil ?_
    refine Ok.cond rfl (fun h2 => ?_) (fun h2 => ?_)
    · -- yes h2
      have hwm : 0 < ds[i].warm := by simpa using h2
      have hmb := melt_bd hm hdlm hwm
      have hd : downP g.melt ds rain t.snow i = rain.getD i 0 + min (snowP g.melt ds rain t.snow i) (g.melt * ds[i].warm) := by unfold downP; rw [hx0, if_pos hwm]
      have hs : snowP g.melt ds rain t.snow (i + 1) = (snowP g.melt ds rain t.snow i) - min (snowP g.melt ds rain t.snow i) (g.melt * ds[i].warm) := by rw [snowP, hx0, if_pos hwm]
      have hrd2 : ∀ G, J i G → K ≤ G.lo → ∃ v H', RR m (.round l [I (rain.getD i 0 + min (snowP g.melt ds rain t.snow i) (g.melt * ds[i].warm)), I ((snowP g.melt ds rain t.snow i) - min (snowP g.melt ds rain t.snow i) (g.melt * ds[i].warm))]) G = some (v, H') ∧ v = .bool true ∧ J (i + 1) H' ∧ K ≤ H'.lo ∧ H'.lo ≤ l ∧ G.next ≤ H'.next := fun G h1 h2 => by have q := hrd i G hlt h1 h2; rw [hd, hs] at q; exact q
      refine Ok.seq ?_
      refine Ok.region ?_
      refine OkO.move rfl rfl ?_
      refine OkO.fieldAddr (o := 0) rfl (by kernel_rfl) rfl ?_
      refine OkO.fieldAddr (o := 5) rfl (by kernel_rfl) rfl ?_
      refine OkO.load rfl rfl (lda (n := 1) (by kernel_rfl) (by first | assumption | (simp (disch := first | omega | (simp only [hNw, hPt]; omega)) only [gn0, gn1, gn2, gn3, gn4, gn5, gp0, gno, gpo] <;> first | rfl | assumption)) (by first | rfl | assumption)) ?_
      refine OkO.fieldAddr (o := 2) rfl (by kernel_rfl) rfl ?_
      refine OkO.load rfl rfl (lda (n := 1) (by kernel_rfl) (by first | assumption | (simp (disch := first | omega | (simp only [hNw, hPt]; omega)) only [gn0, gn1, gn2, gn3, gn4, gn5, gp0, gno, gpo] <;> first | rfl | assumption)) (by first | rfl | assumption)) ?_
      refine OkO.bin rfl rfl rfl (bin_mul (by omega) (by omega)) ?_
      refine OkO.builtin rfl rfl rfl (builtin_min2 _ _) ?_
      refine OkO.assign rfl rfl ?_
      refine OkO.nil ?_
      refine Ok.seq ?_
      refine Ok.region ?_
      refine OkO.move rfl rfl ?_
      refine OkO.move rfl rfl ?_
      refine OkO.bin rfl rfl rfl (bin_sub (by omega) (by omega)) ?_
      refine OkO.assign rfl rfl ?_
      refine OkO.nil ?_
      refine Ok.region ?_
      refine OkO.fieldAddr (o := 7) rfl (by kernel_rfl) rfl ?_
      refine OkO.fieldAddr (o := 3) rfl (by kernel_rfl) rfl ?_
      refine OkO.load rfl rfl (lda (n := 1) (by kernel_rfl) (by first | assumption | (simp (disch := first | omega | (simp only [hNw, hPt]; omega)) only [gn0, gn1, gn2, gn3, gn4, gn5, gp0, gno, gpo] <;> first | rfl | assumption)) (by first | rfl | assumption)) ?_
      refine OkO.move rfl rfl ?_
      refine OkO.index (sz := 1) (n := i) rfl rfl rfl (by kernel_rfl) (by first | assumption | rfl | exact slAt_slice (by omega)) ?_ -- index ('Go.Operand.tmp', 35) ('Go.Operand.tmp', 36)
      refine OkO.load rfl rfl (lda (n := 1) (by kernel_rfl) (by first | assumption | (simp (disch := first | omega | (simp only [hNw, hPt]; omega)) only [gn0, gn1, gn2, gn3, gn4, gn5, gp0, gno, gpo] <;> first | rfl | assumption)) (by first | rfl | assumption)) ?_
      refine OkO.move rfl rfl ?_
      refine OkO.bin rfl rfl rfl (bin_add (by omega) (by omega)) ?_
      refine OkO.assign rfl rfl ?_
      refine OkO.nil ?_
      refine Ok.seq ?_
      refine Ok.region ?_
      refine OkO.move rfl rfl ?_
      refine OkO.move rfl rfl ?_
      refine OkO.move rfl rfl ?_
      refine OkO.roundE rfl rfl rfl rfl (hrd2 _ (hst i _ _ hji (by (try dsimp only); repeat (first | exact Ext.refl _ | assumption | apply Ext.new | (refine Ext.put ?_ _ (by first | omega | (simp only [hNw, hPt]; omega)))))) (by simp only [Heap.lo_put, Heap.lo_new]; omega)) ?_
      rintro v H2 ⟨rfl, jn1, jn2, jn3, jn4⟩
      simp only [hNw, hPt] at jn4
      refine OkO.un rfl rfl rfl ?_
      refine OkO.nil ?_
      refine Ok.cond rfl (fun h3 => ?_) (fun h3 => ?_)
      · -- yes h3
        simp at h3
      · -- no h3
        refine Ok.skip ?_
        refine Ok.region ?_
        refine OkO.bin rfl rfl rfl (bin_add (by omega) (by omega)) ?_
        refine OkO.move rfl rfl ?_
        refine OkO.nil ?_
        refine ⟨ds.length - (i + 1), by omega, i + 1, rfl, hlt, jn1, jn2, fun _ => jn3, ?_, ?_, rfl⟩
        · show W.next ≤ H2.next; omega
        · rw [hs]; exact Has.of (by kernel_rfl)
    · -- no h2
      have hwm : ¬0 < ds[i].warm := by simpa using h2
      have hd : downP g.melt ds rain t.snow i = 0 := by unfold downP; rw [hx0, if_neg hwm]
      have hs : snowP g.melt ds rain t.snow (i + 1) = (snowP g.melt ds rain t.snow i) + rain.getD i 0 := by rw [snowP, hx0, if_neg hwm]
      have hrd2 : ∀ G, J i G → K ≤ G.lo → ∃ v H', RR m (.round l [I 0, I ((snowP g.melt ds rain t.snow i) + rain.getD i 0)]) G = some (v, H') ∧ v = .bool true ∧ J (i + 1) H' ∧ K ≤ H'.lo ∧ H'.lo ≤ l ∧ G.next ≤ H'.next := fun G h1 h2 => by have q := hrd i G hlt h1 h2; rw [hd, hs] at q; exact q
      refine Ok.region ?_
      refine OkO.move rfl rfl ?_
      refine OkO.fieldAddr (o := 7) rfl (by kernel_rfl) rfl ?_
      refine OkO.fieldAddr (o := 3) rfl (by kernel_rfl) rfl ?_
      refine OkO.load rfl rfl (lda (n := 1) (by kernel_rfl) (by first | assumption | (simp (disch := first | omega | (simp only [hNw, hPt]; omega)) only [gn0, gn1, gn2, gn3, gn4, gn5, gp0, gno, gpo] <;> first | rfl | assumption)) (by first | rfl | assumption)) ?_
      refine OkO.move rfl rfl ?_
      refine OkO.index (sz := 1) (n := i) rfl rfl rfl (by kernel_rfl) (by first | assumption | rfl | exact slAt_slice (by omega)) ?_ -- index ('Go.Operand.tmp', 44) ('Go.Operand.tmp', 45)
      refine OkO.load rfl rfl (lda (n := 1) (by kernel_rfl) (by first | assumption | (simp (disch := first | omega | (simp only [hNw, hPt]; omega)) only [gn0, gn1, gn2, gn3, gn4, gn5, gp0, gno, gpo] <;> first | rfl | assumption)) (by first | rfl | assumption)) ?_
      refine OkO.bin rfl rfl rfl (bin_add (by omega) (by omega)) ?_
      refine OkO.assign rfl rfl ?_
      refine OkO.nil ?_
      refine Ok.seq ?_
      refine Ok.region ?_
      refine OkO.move rfl rfl ?_
      refine OkO.move rfl rfl ?_
      refine OkO.move rfl rfl ?_
      refine OkO.roundE rfl rfl rfl rfl (hrd2 _ (hst i _ _ hji (by (try dsimp only); repeat (first | exact Ext.refl _ | assumption | apply Ext.new | (refine Ext.put ?_ _ (by first | omega | (simp only [hNw, hPt]; omega)))))) (by simp only [Heap.lo_put, Heap.lo_new]; omega)) ?_
      rintro v H2 ⟨rfl, jn1, jn2, jn3, jn4⟩
      simp only [hNw, hPt] at jn4
      refine OkO.un rfl rfl rfl ?_
      refine OkO.nil ?_
      refine Ok.cond rfl (fun h4 => ?_) (fun h4 => ?_)
      · -- yes h4
        simp at h4
      · -- no h4
        refine Ok.skip ?_
        refine Ok.region ?_
        refine OkO.bin rfl rfl rfl (bin_add (by omega) (by omega)) ?_
        refine OkO.move rfl rfl ?_
        refine OkO.nil ?_
        refine ⟨ds.length - (i + 1), by omega, i + 1, rfl, hlt, jn1, jn2, fun _ => jn3, ?_, ?_, rfl⟩
        · show W.next ≤ H2.next; omega
        · rw [hs]; exact Has.of (by kernel_rfl)
  · -- no h1
    have hge : i = ds.length := by simp at h1; omega
    refine Ok.exit ?_
    refine ⟨.inl rfl, ?_⟩
    subst hge
    obtain ⟨H2, q1, q2⟩ := back_any (H := H) (T := _) (G := G) (fn := Try.f103) (P := Try.prog) (vs := []) rfl rfl
    refine ⟨_, H2, q1, ?_⟩
    rcases q2 with ⟨q2, q3⟩ | ⟨q2, q3, q4⟩
    · by_cases hz : ds.length = 0
      · rw [q2, hz]; exact ⟨h0, hK⟩
      · exact absurd (hlo (by omega)) (by omega)
    · exact ⟨hst _ G H2 hji ⟨by omega, fun n _ => q2 n⟩, q4 K hK hKG⟩
end
end Go.Ev
