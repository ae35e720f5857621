/-
  Functions of the program, reckoned by the evaluator: what each answers, and that it leaves what came in as it was (part 14).
-/
import Derived.Test.YtibplmibcbillaaV13
set_option maxRecDepth 100000
set_option linter.unusedSimpArgs false
set_option linter.unusedVariables false
namespace Go.Ev
open Go Go.Proofs
noncomputable section
/-- A number of a range, by a word. -/
def pickI (lo hi w : Int) : Int := lo + w % (hi - lo + 1)
theorem pick_in {lo hi w : Int} (h : lo ≤ hi) : lo ≤ pickI lo hi w ∧ pickI lo hi w ≤ hi := by
  unfold pickI
  have h1 := Int.emod_nonneg w (b := hi - lo + 1) (by omega)
  have h2 := Int.emod_lt_of_pos w (b := hi - lo + 1) (by omega)
  omega
def U (w : Int) : AV := .int .u16 w
theorem c49 (m : Nat) (lo hi w : Int) (H : Heap) (h1 : -1000000 ≤ lo ∧ lo ≤ hi ∧ hi ≤ 1000000) (hw : 0 ≤ w ∧ w ≤ 65535) : RR (m + 1) (.fn 49 [.agg [I lo, I hi], U w]) H = some (I (pickI lo hi w), H) := by
  refine (R_fn _ _ _ _ _).trans ?_
  refine fn_ok Try.func49 rfl rfl (by kernel_rfl) (by kernel_rfl) ?_
  obtain ⟨W, hW⟩ : ∃ W : Heap, W = ⟨H.t, H.next, H.next⟩ := ⟨_, rfl⟩
  have hg : ∀ n, W.get n = H.get n := fun n => by rw [hW]; rfl
  have hN : W.next = H.next := by rw [hW]
  have hE : ∀ G, Grow W G → Ext H G := fun G g => ⟨by rw [← hN]; exact g.next, fun n k => by rw [g.get n (by rw [hN]; exact k), hg]⟩
  have hG : Grow W W := Grow.refl (by rw [hW]; exact Nat.le_refl _)
  rw [← hW]
  have hpi := pick_in (w := w) h1.2.1
  unfold pickI at hpi
  refine Ok.seq ?_
  refine Ok.region ?_
  refine OkO.box rfl rfl ?_
  refine OkO.assign rfl rfl ?_
  refine OkO.nil ?_
  refine Ok.seq ?_
  refine Ok.drawn [(0, true, []), (1, true, []), (2, true, []), (3, true, []), (4, true, []), (5, true, []), (6, true, []), (7, true, []), (8, true, []), (9, true, []), (10, true, []), (11, true, []), (12, true, [])] (by kernel_rfl) ?_
  refine OkP.step ?_
  refine OkO.fieldAddr (o := 0) rfl (by kernel_rfl) rfl ?_
  refine OkO.nil ⟨rfl, ?_⟩
  refine OkP.step ?_
  refine OkO.load rfl rfl (lda (n := 1) (by kernel_rfl) (by first | assumption | (simp (disch := first | omega | (simp only [hNw, hPt]; omega)) only [gn0, gn1, gn2, gn3, gn4, gn5, gp0, gno, gpo] <;> first | rfl | assumption)) (by first | rfl | assumption)) ?_
  refine OkO.nil ⟨rfl, ?_⟩
  refine OkP.step ?_
  refine OkO.move rfl rfl ?_
  refine OkO.nil ⟨rfl, ?_⟩
  refine OkP.step ?_
  refine OkO.convert (k := .i64) rfl (by kernel_rfl) rfl (wrapF_i64 (by omega) (by omega)) ?_
  refine OkO.nil ⟨rfl, ?_⟩
  refine OkP.step ?_
  refine OkO.fieldAddr (o := 1) rfl (by kernel_rfl) rfl ?_
  refine OkO.nil ⟨rfl, ?_⟩
  refine OkP.step ?_
  refine OkO.load rfl rfl (lda (n := 1) (by kernel_rfl) (by first | assumption | (simp (disch := first | omega | (simp only [hNw, hPt]; omega)) only [gn0, gn1, gn2, gn3, gn4, gn5, gp0, gno, gpo] <;> first | rfl | assumption)) (by first | rfl | assumption)) ?_
  refine OkO.nil ⟨rfl, ?_⟩
  refine OkP.step ?_
  refine OkO.fieldAddr (o := 0) rfl (by kernel_rfl) rfl ?_
  refine OkO.nil ⟨rfl, ?_⟩
  refine OkP.step ?_
  refine OkO.load rfl rfl (lda (n := 1) (by kernel_rfl) (by first | assumption | (simp (disch := first | omega | (simp only [hNw, hPt]; omega)) only [gn0, gn1, gn2, gn3, gn4, gn5, gp0, gno, gpo] <;> first | rfl | assumption)) (by first | rfl | assumption)) ?_
  refine OkO.nil ⟨rfl, ?_⟩
  refine OkP.step ?_
  refine OkO.bin rfl rfl rfl (bin_sub (by omega) (by omega)) ?_
  refine OkO.nil ⟨rfl, ?_⟩
  refine OkP.step ?_
  refine OkO.bin rfl rfl rfl (bin_add (by omega) (by omega)) ?_
  refine OkO.nil ⟨rfl, ?_⟩
  refine OkP.step ?_
  refine OkO.bin rfl rfl rfl (bin_rem (by omega) (by omega)) ?_
  refine OkO.nil ⟨rfl, ?_⟩
  refine OkP.step ?_
  refine OkO.bin rfl rfl rfl (bin_add (by omega) (by omega)) ?_
  refine OkO.nil ⟨rfl, ?_⟩
  refine OkP.step ?_
  refine OkO.assign rfl rfl ?_
  refine OkO.nil ⟨rfl, ?_⟩
  refine OkP.nil ?_
  refine Ok.ret ⟨.inr rfl, ?_⟩
  exact back_flat rfl (rfl) rfl (by rw [← hW]; exact (by (try dsimp only); repeat (first | exact hG | apply Grow.new | (refine Grow.put ?_ _ (by first | omega | (simp only [hNw, hPt]; omega))))))
theorem c46 (m : Nat) (uv : AV) (us : List Int) (H : Heap) (hU : Ints H uv us) (hl : us.length ≤ 1000) (hsm : ∀ x ∈ us, -1000000000 ≤ x ∧ x ≤ 1000000000) : RR (m + 1) (.fn 46 [uv]) H = some (I us.sum, H) := by
  refine (R_fn _ _ _ _ _).trans ?_
  refine fn_ok Try.func46 rfl rfl (by kernel_rfl) (by kernel_rfl) ?_
  obtain ⟨W, hW⟩ : ∃ W : Heap, W = ⟨H.t, H.next, H.next⟩ := ⟨_, rfl⟩
  have hg : ∀ n, W.get n = H.get n := fun n => by rw [hW]; rfl
  have hN : W.next = H.next := by rw [hW]
  have hE : ∀ G, Grow W G → Ext H G := fun G g => ⟨by rw [← hN]; exact g.next, fun n k => by rw [g.get n (by rw [hN]; exact k), hg]⟩
  have hG : Grow W W := Grow.refl (by rw [hW]; exact Nat.le_refl _)
  rw [← hW]
  have hlu : lenOf uv = some us.length := by simpa using hU.len
  refine Ok.seq ?_
  refine Ok.region ?_
  refine OkO.assign rfl rfl ?_
  refine OkO.nil ?_
  refine Ok.seq ?_
  refine Ok.region ?_
  refine OkO.assign rfl rfl ?_
  refine OkO.nil ?_
  refine Ok.seq ?_
  refine Ok.seq ?_
  refine Ok.region ?_
  refine OkO.assign rfl rfl ?_
  refine OkO.nil ?_
  refine Ok.block ?_
  refine Ok.loop (fun n s => ∃ i : Nat, n = us.length - i ∧ i ≤ us.length ∧ Has 5 [(0, uv), (3, I (us.take i).sum), (4, I (i : Int))] s.T ∧ s.D = [] ∧ Grow W s.H) (us.length) (by unfold loopFuel; omega)
    ⟨0, rfl, Nat.zero_le _, Has.of (by kernel_rfl), rfl, hG⟩ ?_
  rintro n ⟨T, D, G⟩ ⟨i, hn, hi, ⟨f, hT⟩, hD, hg⟩
  dsimp only at *
  subst hT hD
  have hgn := hg.next
  have hsb := sum_bd 1000000000 (by omega) (us.take i) (fun x hx => hsm x (List.mem_of_mem_take hx))
  rw [List.length_take] at hsb
  refine Ok.seq ?_
  refine Ok.seq ?_
  refine Ok.region ?_
  refine OkO.move rfl rfl ?_
  refine OkO.move rfl rfl ?_
  refine OkO.builtin rfl rfl rfl (bln (by kernel_rfl) (by first | assumption | rfl)) ?_
  refine OkO.bin rfl rfl rfl (bin_lss _ _) ?_
  refine OkO.nil ?_
  refine Ok.cond rfl (fun h1 => ?_) (fun h1 => ?_)
  · -- yes h1
    have hlt : i < us.length := by simpa using h1
    obtain ⟨ub, uo, ucs, j1, j2, j3, j4⟩ := (hU.ext (hE _ hg)).at_ i [I us[i]] (by simp [hlt])
    have j5 := seg_one j3
    have hx := hsm us[i] (List.getElem_mem hlt)
    refine Ok.skip ?_
    refine Ok.seq ?_
    refine Ok.block ?_
    refine Ok.region ?_
    refine OkO.move rfl rfl ?_
    refine OkO.move rfl rfl ?_
    refine OkO.move rfl rfl ?_
    refine OkO.index (sz := 1) (n := i) rfl rfl rfl (by kernel_rfl) (by first | assumption | rfl | exact slAt_slice (by omega)) ?_ -- index ('Go.Operand.tmp', 12) ('Go.Operand.tmp', 13)
    refine OkO.load rfl rfl (lda (n := 1) (by kernel_rfl) (by first | assumption | (simp (disch := first | omega | (simp only [hNw, hPt]; omega)) only [gn0, gn1, gn2, gn3, gn4, gn5, gp0, gno, gpo] <;> first | rfl | assumption)) (by first | rfl | assumption)) ?_
    refine OkO.bin rfl rfl rfl (bin_add (by omega) (by omega)) ?_
    refine OkO.assign rfl rfl ?_
    refine OkO.nil ?_
    refine Ok.region ?_
    refine OkO.move rfl rfl ?_
    refine OkO.bin rfl rfl rfl (bin_add (by omega) (by omega)) ?_
    refine OkO.assign rfl rfl ?_
    refine OkO.nil ?_
    refine ⟨us.length - (i + 1), by omega, i + 1, rfl, hlt, ?_, rfl, (by (try dsimp only); repeat (first | (first | exact hg | exact hG) | apply Grow.new | (refine Grow.put ?_ _ (by first | omega | (simp only [hNw, hPt]; omega)))))⟩
    rw [sum_take us i hlt]
    exact Has.of (by kernel_rfl)
  · -- no h1
    have hge : i = us.length := by simp at h1; omega
    refine Ok.exit ?_
    refine Ok.seq ?_
    refine Ok.region ?_
    refine OkO.move rfl rfl ?_
    refine OkO.assign rfl rfl ?_
    refine OkO.nil ?_
    refine Ok.ret ⟨.inr rfl, ?_⟩
    subst hge
    exact back_flat rfl (by rw [List.take_length]; rfl) rfl (by rw [← hW]; exact hg)
theorem thin_of {cs : List Cell} {ds : List Day} (h : thinB cs ds = true) : cs.length ≤ 10 ∧ ds.length ≤ 35 := by
  simp only [thinB, Bool.and_eq_true, decide_eq_true_eq] at h; omega
def readyB (cs : List Cell) (g : Gr) (ds : List Day) : Bool := thinB cs ds && decide (daysErr cs g ds = 0)
theorem c43 (m : Nat) (cv dv : AV) (cs : List Cell) (g : Gr) (ds : List Day) (H : Heap) (hR : Row H cv 7 (cs.map Cell.c)) (hY : Row H dv 3 (ds.map Day.c)) : RR (m + 5) (.fn 43 [.agg [cv, I g.slo, I g.shi, I g.klo, I g.khi, I g.melt], dv]) H = some (.bool (readyB cs g ds), H) := by
  refine (R_fn _ _ _ _ _).trans ?_
  refine fn_ok Try.func43 rfl rfl (by kernel_rfl) (by kernel_rfl) ?_
  obtain ⟨W, hW⟩ : ∃ W : Heap, W = ⟨H.t, H.next, H.next⟩ := ⟨_, rfl⟩
  have hg : ∀ n, W.get n = H.get n := fun n => by rw [hW]; rfl
  have hN : W.next = H.next := by rw [hW]
  have hE : ∀ G, Grow W G → Ext H G := fun G g => ⟨by rw [← hN]; exact g.next, fun n k => by rw [g.get n (by rw [hN]; exact k), hg]⟩
  have hG : Grow W W := Grow.refl (by rw [hW]; exact Nat.le_refl _)
  rw [← hW]
  refine Ok.seq ?_
  refine Ok.region ?_
  refine OkO.box rfl rfl ?_
  refine OkO.assign rfl rfl ?_
  refine OkO.nil ?_
  refine Ok.seq ?_
  refine Ok.region ?_
  refine OkO.load rfl rfl (ldg (n := 6) (by kernel_rfl) (by first | assumption | (simp (disch := first | omega | (simp only [hNw, hPt]; omega)) only [gn0, gn1, gn2, gn3, gn4, gn5, gp0, gno, gpo] <;> first | rfl | assumption)) (by first | rfl | assumption)) ?_
  refine OkO.move rfl rfl ?_
  refine OkO.callV rfl rfl rfl rfl rfl (c16 _ cv dv cs g ds _ (hR.ext (hE _ (by (try dsimp only); repeat (first | exact hG | apply Grow.new | (refine Grow.put ?_ _ (by first | omega | (simp only [hNw, hPt]; omega))))))) (hY.ext (hE _ (by (try dsimp only); repeat (first | exact hG | apply Grow.new | (refine Grow.put ?_ _ (by first | omega | (simp only [hNw, hPt]; omega)))))))) ?_ -- "sackung/sackunglaw02.Thin"
  refine OkO.move rfl rfl ?_
  refine OkO.split (d := 8) rfl (fun g1 => ?_) (fun g1 => ?_)
  · -- true g1
    have hth := thin_of g1
    refine OkO.load rfl rfl (ldg (n := 6) (by kernel_rfl) (by first | assumption | (simp (disch := first | omega | (simp only [hNw, hPt]; omega)) only [gn0, gn1, gn2, gn3, gn4, gn5, gp0, gno, gpo] <;> first | rfl | assumption)) (by first | rfl | assumption)) ?_
    refine OkO.move rfl rfl ?_
    refine OkO.callV rfl rfl rfl rfl rfl (c24 m cv dv cs g ds _ (hR.ext (hE _ (by (try dsimp only); repeat (first | exact hG | apply Grow.new | (refine Grow.put ?_ _ (by first | omega | (simp only [hNw, hPt]; omega))))))) (by omega) (hY.ext (hE _ (by (try dsimp only); repeat (first | exact hG | apply Grow.new | (refine Grow.put ?_ _ (by first | omega | (simp only [hNw, hPt]; omega))))))) (by omega)) ?_ -- "sackung/sackunglaw02.fault"
    refine OkO.bin rfl rfl rfl (bin_eql _ _) ?_
    refine OkO.pick (b := true) rfl rfl (fun _ => rfl) nofun ?_
    refine OkO.assign rfl rfl ?_
    refine OkO.nil ?_
    refine Ok.ret ⟨.inr rfl, ?_⟩
    have hz : decide (daysErr cs g ds = 0) = readyB cs g ds := by unfold readyB; rw [g1]; rfl
    exact back_flat rfl (congrArg AV.bool hz) rfl (by rw [← hW]; exact (by (try dsimp only); repeat (first | exact hG | apply Grow.new | (refine Grow.put ?_ _ (by first | omega | (simp only [hNw, hPt]; omega))))))
  · -- false g1
    refine OkO.skip rfl ?_
    refine OkO.skip rfl ?_
    refine OkO.skip rfl ?_
    refine OkO.skip rfl ?_
    refine OkO.pick (b := false) rfl rfl nofun (fun _ => rfl) ?_
    refine OkO.assign rfl rfl ?_
    refine OkO.nil ?_
    refine Ok.ret ⟨.inr rfl, ?_⟩
    have hz : false = readyB cs g ds := by unfold readyB; rw [g1]; rfl
    exact back_flat rfl (congrArg AV.bool hz) rfl (by rw [← hW]; exact (by (try dsimp only); repeat (first | exact hG | apply Grow.new | (refine Grow.put ?_ _ (by first | omega | (simp only [hNw, hPt]; omega))))))
def nextW (ws : List Int) (i : Nat) : Int := ws.getD (i % ws.length) 0
theorem next_bd {ws : List Int} (h : Upto 65535 ws) (i : Nat) : 0 ≤ nextW ws i ∧ nextW ws i ≤ 65535 := h.getD (by omega) _
def pickT (g : Gr) (ws : List Int) : Tru := ⟨pickI g.slo g.shi (nextW ws 0), pickI g.klo g.khi (nextW ws 1)⟩
def pickL (cs : List Cell) (ws : List Int) (k : Nat) : List Int := (List.range k).map fun i => pickI (cs.getD i default).lo (cs.getD i default).hi (nextW ws (2 + i))
def pickR (cs : List Cell) (ds : List Day) (ws : List Int) (k : Nat) : List Int := (List.range k).map fun i => pickI (ds.getD i default).lo (ds.getD i default).hi (nextW ws (2 + cs.length + i))
theorem pickL_succ (cs : List Cell) (ws : List Int) (k : Nat) : (pickL cs ws (k + 1)).map I = (pickL cs ws k).map I ++ [I (pickI (cs.getD k default).lo (cs.getD k default).hi (nextW ws (2 + k)))] := by simp [pickL, List.range_succ]
theorem pickR_succ (cs : List Cell) (ds : List Day) (ws : List Int) (k : Nat) : (pickR cs ds ws (k + 1)).map I = (pickR cs ds ws k).map I ++ [I (pickI (ds.getD k default).lo (ds.getD k default).hi (nextW ws (2 + cs.length + k)))] := by simp [pickR, List.range_succ]
def fillW (ws : List Int) (k i : Nat) : List AV := (List.range k).map fun j => if j < i then U (nextW ws j) else U 0
theorem fillW_get {ws : List Int} {k i j : Nat} (h : j < k) : (fillW ws k i)[0 + j * 1]? = some (if j < i then U (nextW ws j) else U 0) := by simp [fillW, h]
theorem fillW_set {ws : List Int} {k i : Nat} (h : i < k) : spl (fillW ws k i) (0 + i * 1) (U (nextW ws i)).cells = some (fillW ws k (i + 1)) := by
  have e : spl (fillW ws k i) (0 + i * 1) (U (nextW ws i)).cells = (match Nat.ble (0 + i * 1 + 1) (fillW ws k i).length with
    | true => some ((fillW ws k i).take (0 + i * 1) ++ ([U (nextW ws i)] ++ (fillW ws k i).drop (0 + i * 1 + 1)))
    | false => none) := rfl
  have hl : (fillW ws k i).length = k := by simp [fillW]
  rw [e, Nat.zero_add, Nat.mul_one, Nat.ble_eq_true_of_le (by rw [hl]; omega)]
  simp only
  congr 1
  have e2 : (fillW ws k i).take i ++ ([U (nextW ws i)] ++ (fillW ws k i).drop (i + 1)) = (fillW ws k i).set i (U (nextW ws i)) := by
    rw [List.set_eq_take_append_cons_drop, if_pos (by rw [hl]; exact h)]; rfl
  rw [e2]
  apply List.ext_getElem?
  intro j
  rw [List.getElem?_set]
  by_cases hj : i = j
  · subst hj
    rw [if_pos rfl, if_pos (by rw [hl]; exact h)]
    have := fillW_get (ws := ws) (k := k) (i := i + 1) h
    rw [Nat.zero_add, Nat.mul_one, if_pos (by omega)] at this
    exact this.symm
  · rw [if_neg hj]
    by_cases hk : j < k
    · have h1 := fillW_get (ws := ws) (k := k) (i := i + 1) hk
      have h2 := fillW_get (ws := ws) (k := k) (i := i) hk
      rw [Nat.zero_add, Nat.mul_one] at h1 h2
      rw [h1, h2]
      by_cases hji : j < i
      · rw [if_pos hji, if_pos (by omega)]
      · rw [if_neg hji, if_neg (by omega)]
    · rw [List.getElem?_eq_none (by simp [fillW]; omega), List.getElem?_eq_none (by simp [fillW]; omega)]
theorem rep_u16 (ws : List Int) : ∀ k, rep [U 0] k = fillW ws k 0
  | 0 => rfl
  | k + 1 => by
    show [U 0] ++ rep [U 0] k = _
    rw [rep_u16 ws k]
    simp [fillW, List.range_succ_eq_map, Function.comp_def]
theorem fillW_nil (k i j : Nat) : fillW [] k i = fillW [] k j := by simp [fillW, nextW]
theorem flat4 {a b : AV} {x y : Int} (h : (AV.agg [I x, I y, a, b]).flat = true) : a.flat = true ∧ b.flat = true := by
  simp only [AV.flat, AV.flats] at h
  cases ha : a.flat with
  | false => rw [ha] at h; cases h
  | true =>
    rw [ha] at h
    cases hb : b.flat with
    | false => rw [hb] at h; cases h
    | true => exact ⟨rfl, rfl⟩
end
end Go.Ev
