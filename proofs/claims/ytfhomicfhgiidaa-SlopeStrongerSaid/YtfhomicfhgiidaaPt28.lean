/-
  Functions of the program, reckoned by the evaluator: what each answers, and that it leaves what came in as it was.
-/
import Derived.Test.YtfhomicfhgiidaaPt27
import Derived.Carry
set_option maxRecDepth 100000
set_option linter.unusedSimpArgs false
set_option linter.unusedVariables false
namespace Go.Ev
open Go Go.Proofs
noncomputable section
/-- One number of a bed changed for the better. -/
def chg (w n : Int) (b : Bed) : Bed :=
  if w % 5 = 0 then { b with fl := min b.fh (b.fl + n) } else if w % 5 = 1 then { b with cl := min b.ch (b.cl + n) } else if w % 5 = 2 then { b with dr := max (-100000) (b.dr - n) } else if w % 5 = 3 then { b with wh := max b.wl (b.wh - n) } else { b with fh := max b.fl (b.fh - n) }
def Better (p : Prop) (b b' : Bed) : Prop := b'.dr ≤ b.dr ∧ weak b ≤ weak b' ∧ (p → b'.dr = b.dr ∧ strong b' ≤ strong b)
theorem Better.refl (p : Prop) (b : Bed) : Better p b b := ⟨Int.le_refl _, Int.le_refl _, fun _ => ⟨rfl, Int.le_refl _⟩⟩
theorem chg_facts {w n : Int} {b : Bed} (h : b.ok = true) (hn : 0 ≤ n) : (chg w n b).ok = true ∧ Better (¬ w % 5 = 2) b (chg w n b) := by
  have hl := Bed.ok_lim h
  unfold Bed.lim at hl
  unfold chg
  split
  · refine ⟨by unfold Bed.ok inB okR; simp; omega, Int.le_refl _, ?_, fun _ => ⟨rfl, ?_⟩⟩
    · exact holds_mono (by dsimp only; omega) (Int.le_refl _) (Int.le_refl _)
    · exact Int.le_refl _
  · split
    · refine ⟨by unfold Bed.ok inB okR; simp; omega, Int.le_refl _, ?_, fun _ => ⟨rfl, ?_⟩⟩
      · exact holds_mono (by dsimp only; omega) (by dsimp only; omega) (Int.le_refl _)
      · exact Int.le_refl _
    · split
      · rename_i h2
        refine ⟨by unfold Bed.ok inB okR; simp; omega, by dsimp only; omega, Int.le_refl _, fun q => absurd h2 q⟩
      · split
        · refine ⟨by unfold Bed.ok inB okR; simp; omega, Int.le_refl _, ?_, fun _ => ⟨rfl, ?_⟩⟩
          · exact holds_mono (by dsimp only; omega) (Int.le_refl _) (by dsimp only; omega)
          · exact Int.le_refl _
        · refine ⟨by unfold Bed.ok inB okR; simp; omega, Int.le_refl _, Int.le_refl _, fun _ => ⟨rfl, ?_⟩⟩
          exact holds_mono (by dsimp only; omega) (Int.le_refl _) (Int.le_refl _)
/-- A slope with one bed changed. -/
def setAt (cols : List (List Bed)) (i k : Nat) (b' : Bed) : List (List Bed) := cols.set i ((cols.getD i []).set k b')
theorem setAt_len (cols : List (List Bed)) (i k : Nat) (b' : Bed) : (setAt cols i k b').length = cols.length := by simp [setAt]
theorem setAt_lens {cols : List (List Bed)} {n i k : Nat} {b' : Bed} (h : ∀ c ∈ cols, c.length = n) (hi : i < cols.length) : ∀ c ∈ setAt cols i k b', c.length = n := fun c hc => by
  unfold setAt at hc
  rcases List.mem_or_eq_of_mem_set hc with h1 | rfl
  · exact h c h1
  · rw [List.length_set, List.getD_eq_getElem?_getD, List.getElem?_eq_getElem hi]
    exact h _ (List.getElem_mem hi)
theorem setAt_head {cols : List (List Bed)} {i k : Nat} {b' : Bed} (hi : i < cols.length) : ((setAt cols i k b').headD []).length = (cols.headD []).length := by
  cases cols with
  | nil => simp at hi
  | cons a l =>
    cases i with
    | zero => simp [setAt]
    | succ i => simp [setAt]
theorem bedAt_set {cols : List (List Bed)} {n i k : Nat} {b' : Bed} (h : ∀ c ∈ cols, c.length = n) (hi : i < cols.length) (hk : k < n) (c j : Nat) : bedAt (setAt cols i k b') c j = if c = i ∧ j = k then b' else bedAt cols c j := by
  have hn := h cols[i] (List.getElem_mem hi)
  unfold bedAt setAt
  simp only [List.getD_eq_getElem?_getD, List.getElem?_set, List.getElem?_eq_getElem hi, Option.getD_some]
  by_cases hc : i = c
  · subst hc
    rw [if_pos rfl, if_pos hi]
    simp only [Option.getD_some, List.getElem?_set, List.getElem?_eq_getElem hi]
    by_cases hj : k = j
    · subst hj
      rw [if_pos rfl, if_pos (by omega)]
      simp
    · rw [if_neg hj, if_neg (fun q => hj q.2.symm)]
  · rw [if_neg hc, if_neg (fun q => hc q.1.symm)]
theorem setAt_beds {cols : List (List Bed)} {n i k : Nat} {b' : Bed} (h : BedsOk cols) (hi : i < cols.length) (hb : b'.ok = true) : BedsOk (setAt cols i k b') := fun c hc x hx => by
  unfold setAt at hc
  rcases List.mem_or_eq_of_mem_set hc with h1 | rfl
  · exact h c h1 x hx
  · rcases List.mem_or_eq_of_mem_set hx with h2 | rfl
    · rw [List.getD_eq_getElem?_getD, List.getElem?_eq_getElem hi] at h2
      exact h _ (List.getElem_mem hi) x h2
    · exact hb
theorem setAt_ok {cols : List (List Bed)} {least : Int} {i k : Nat} {b' : Bed} (hv : slOk cols least = true) (hi : i < cols.length) (hb : b'.ok = true) : slOk (setAt cols i k b') least = true := by
  have hf := slOk_facts hv
  exact slOk_of (by omega) (by rw [setAt_len]; omega) (by rw [setAt_head hi]; omega) (by rw [setAt_head hi]; exact setAt_lens (lens_of hv) hi) (setAt_beds (n := 0) (bedsOk_of hv) hi hb)
theorem thin_set {cols : List (List Bed)} {i k : Nat} {b' : Bed} (hth : thinB cols = true) (hi : i < cols.length) : thinB (setAt cols i k b') = true := by
  have hf := thin_facts hth
  simp only [thinB, Bool.and_eq_true, decide_eq_true_eq, List.all_eq_true, setAt_len]
  refine ⟨hf.1, fun c hc => ?_⟩
  unfold setAt at hc
  rcases List.mem_or_eq_of_mem_set hc with h1 | rfl
  · exact hf.2 c h1
  · rw [List.length_set, List.getD_eq_getElem?_getD, List.getElem?_eq_getElem hi]
    exact hf.2 _ (List.getElem_mem hi)
theorem sums_better {p : Prop} {cols x : List (List Bed)} (h : ∀ c j, Better p (bedAt cols c j) (bedAt x c j)) : ∀ (us : List Nat) (c : Nat), drive (bedsW x c us) ≤ drive (bedsW cols c us) ∧ sumB weak (bedsW cols c us) ≤ sumB weak (bedsW x c us) ∧ (p → drive (bedsW x c us) = drive (bedsW cols c us) ∧ sumB strong (bedsW x c us) ≤ sumB strong (bedsW cols c us))
  | [], c => ⟨Int.le_refl _, Int.le_refl _, fun _ => ⟨rfl, Int.le_refl _⟩⟩
  | k :: l, c => by
    obtain ⟨h1, h2, h3⟩ := sums_better h l (c + 1)
    obtain ⟨g1, g2, g3⟩ := h c k
    unfold drive sumB at *
    simp only [bedsW, List.map_cons, List.sum_cons]
    refine ⟨by omega, by omega, fun q => ?_⟩
    have := h3 q
    have := g3 q
    constructor <;> omega
theorem factorOf_less {a b d e : Int} (h0 : 0 ≤ a) (h : a ≤ b) (hd : e ≤ d) (he : 1 ≤ e) : factorOf a d ≤ factorOf b e := by
  unfold factorOf
  have h1 : 1000 * a / d ≤ 1000 * b / e := by
    refine Int.le_ediv_of_mul_le (by omega) ?_
    have q0 := Int.ediv_nonneg (show 0 ≤ 1000 * a by omega) (show 0 ≤ d by omega)
    have q1 : 1000 * a / d * e ≤ 1000 * a / d * d := Int.mul_le_mul_of_nonneg_left hd q0
    have q2 := Int.ediv_mul_le (1000 * a) (show d ≠ 0 by omega)
    omega
  omega
theorem worst_better {p : Prop} {cols x : List (List Bed)} {least e z e' z' : Int} (hok : BedsOk cols) (hl : x.length = cols.length) (hh : (x.headD []).length = (cols.headD []).length) (h : ∀ c j, Better p (bedAt cols c j) (bedAt x c j)) (w : WorstIs cols least e z) (w' : WorstIs x least e' z') (h0 : e' = 0) : e = 0 ∧ z ≤ z' := by
  unfold WorstIs LowAt NoneAt at w w'
  rw [hl, hh] at w'
  rcases w' with ⟨_, fr, us, hs, hd, hz, _⟩ | ⟨h7, _⟩
  · obtain ⟨s1, s2, _⟩ := sums_better h us fr
    rcases w with ⟨he, _, _, _, _, _, hlo⟩ | ⟨_, _, hn⟩
    · have a := hlo fr us hs (by omega)
      have bb := factorOf_less (held_nn hok fr us) s2 s1 hd
      unfold facW at hz a
      exact ⟨he, by omega⟩
    · have := hn fr us hs
      omega
  · omega
theorem wetS_zero {cols : List (List Bed)} (h : BedsOk cols) : wetS 0 cols = cols := by
  unfold wetS
  have : ∀ c ∈ cols, wetC 0 c = id c := fun c hc => map_wet0 c (h c hc)
  rw [List.map_congr_left this]
  simp
theorem OwnS.setcol {k0 : Nat} {H : Heap} {cv : AV} {n : Nat} {cols : List (List Bed)} {bs : List Nat} (h : OwnS k0 H cv n cols bs) {i b : Nat} {c : List Bed} (hb : bs[i]? = some b) (hc : c.length = n) : OwnS k0 (H.put b (.opn (c.map Bed.c).flatten 100 8)) cv n (cols.set i c) bs := by
  have hi := (List.getElem?_eq_some_iff.1 hb).1
  refine ⟨by simp [h.len], h.nd, ?_, fun j b2 d a1 a2 => ?_, fun b2 hb2 => ⟨(h.ge b2 hb2).1, by rw [hPt]; exact (h.ge b2 hb2).2.1, (h.ge b2 hb2).2.2⟩⟩
  · rcases h.out with q | ⟨b9, k, a1, a2, a3, a4, a5⟩
    · exact .inl q
    · exact .inr ⟨b9, k, a1, by rw [gpo _ _ _ _ (fun e => (h.ge b (List.mem_of_getElem? hb)).2.2 k (by rw [a1, e]))]; exact a2, a3, a4, by rw [hPt]; exact a5⟩
  · have hj := (List.getElem?_eq_some_iff.1 a1).1
    by_cases hij : i = j
    · subst hij
      rw [hb] at a1
      cases a1
      rw [List.getElem?_set_self (by rw [← h.len]; exact hi)] at a2
      cases a2
      exact ⟨gp0 _ _ _, hc⟩
    · rw [List.getElem?_set_ne hij] at a2
      have hne : b2 ≠ b := fun e => hij (by
        have e1 := (List.getElem?_eq_some_iff.1 a1).2
        have e2 := (List.getElem?_eq_some_iff.1 hb).2
        have e3 : bs[i] = bs[j] := by rw [e1, e2, e]
        rcases Nat.lt_trichotomy i j with q | q | q
        · exact absurd e3 (List.pairwise_iff_getElem.1 h.nd i j hi hj q)
        · exact q
        · exact absurd e3.symm (List.pairwise_iff_getElem.1 h.nd j i hj hi q))
      obtain ⟨g1, g2⟩ := h.col j b2 d a1 a2
      exact ⟨by rw [gpo _ _ _ _ hne]; exact g1, g2⟩
theorem c13A (m : Nat) (cv wv : AV) (cols : List (List Bed)) (least : Int) (ws : List Int) (co at9 we nn : Int) (H : Heap) (hM : Mat H cv cols) (hWs : Row H wv 1 (ws.map fun w => [U8 w])) (hws : Upto 255 ws) (hco : 0 ≤ co ∧ co ≤ 255) (hat : 0 ≤ at9 ∧ at9 ≤ 255) (hwe : 0 ≤ we ∧ we ≤ 255) (hnn : 0 ≤ nn ∧ nn ≤ 65535) (hth : thinB cols = true) (hv : slOk cols least = true) (hlc : least ≤ cols.length) (hrd : readyS cols least = true) {ci ck : Nat} (hci : (ci : Int) = co % (cols.length : Int)) (hck : (ck : Int) = at9 % ((cols.headD []).length : Int)) (hcil : ci < cols.length) (hckl : ck < (cols.headD []).length) (hA : ¬ NoneAt cols (cols.headD []).length least) (hB : ¬ NoneAt (setAt cols ci ck (chg we nn (bedAt cols ci ck))) ((setAt cols ci ck (chg we nn (bedAt cols ci ck))).headD []).length least) : RR (m + 213) (.fn 13 [.agg [cv, I least], wv, .int .u8 co, .int .u8 at9, .int .u8 we, U16 nn]) H = some (.bool true, H) := by
  refine (R_fn _ _ _ _ _).trans ?_
  refine fn_ok Try.func13 rfl rfl (by kernel_rfl) (by kernel_rfl) ?_
  obtain ⟨W, hW⟩ : ∃ W : Heap, W = ⟨H.t, H.next, H.next⟩ := ⟨_, rfl⟩
  have hg : ∀ n, W.get n = H.get n := fun n => by rw [hW]; rfl
  have hN : W.next = H.next := by rw [hW]
  have hE : ∀ G, Grow W G → Ext H G := fun G g => ⟨by rw [← hN]; exact g.next, fun n k => by rw [g.get n (by rw [hN]; exact k), hg]⟩
  have hG : Grow W W := Grow.refl (by rw [hW]; exact Nat.le_refl _)
  rw [← hW]
  have hlen : lenOf cv = some cols.length := by obtain ⟨vs, hR, hvl, _⟩ := hM; rw [← hvl]; simpa using hR.len
  have pc : cv.plain = true := lpl hlen
  have ps : AV.plain (.agg [cv, I least]) = true := by simp [AV.plain, AV.plains, pc]
  have hsf := slOk_facts hv
  have hok9 := bedsOk_of hv
  have hcl9 := lens_of hv
  obtain ⟨col, hcol, hbed⟩ := bedAt_get (c := ci) (k := ck) hcl9 hcil hckl
  have hcoln := hcl9 col (List.mem_of_getElem? hcol)
  have hbok := bedAt_ok hok9 ci ck
  obtain ⟨hbok2, hbet⟩ := chg_facts (w := we) (n := nn) hbok hnn.1
  have hxok := setAt_ok (k := ck) hv hcil hbok2
  have hbl := Bed.ok_lim hbok
  unfold Bed.lim at hbl
  have hcolg : cols.getD ci [] = col := by rw [List.getD_eq_getElem?_getD, hcol]; rfl
  have hbetter : ∀ c j, Better (¬ we % 5 = 2) (bedAt cols c j) (bedAt (setAt cols ci ck (chg we nn (bedAt cols ci ck))) c j) := fun c j => by (rw [bedAt_set hcl9 hcil hckl]; split); (· rename_i q; rw [q.1, q.2]; exact hbet); (· exact Better.refl _ _)
  have hm50 := Int.emod_nonneg we (b := 5) (by omega)
  have hm51 := Int.emod_lt_of_pos we (b := 5) (by omega)
  refine Ok.seq ?_
  refine Ok.region ?_
  refine OkO.box rfl rfl ?_
  refine OkO.assign rfl rfl ?_
  refine OkO.nil ?_
  refine Ok.seq ?_
  refine Ok.seq ?_
  refine Ok.region ?_
  refine OkO.load rfl rfl (ldg (n := 2) (by kernel_rfl) (by first | assumption | (simp (disch := first | omega | (simp only [hNw, hPt]; omega)) only [gn0, gn1, gn2, gn3, gn4, gn5, gp0, gno, gpo] <;> first | rfl | assumption | exact gp0 _ _ _ | exact gn0 _ _)) (by first | rfl | assumption)) ?_
  refine OkO.callV rfl rfl rfl rfl rfl ((c51 (m + 209) cv cols least _ (hM.ext (hE _ (by (try dsimp only); repeat (first | exact hG | apply Grow.new | (refine Grow.put ?_ _ (by first | omega | (simp only [hNw, hPt]; omega)))))))).trans (by rw [hrd])) ?_ -- "sackung/sackunglaw01.ready"
  refine OkO.un rfl rfl rfl ?_
  refine OkO.nil ?_
  refine Ok.cond rfl (fun h1 => ?_) (fun h1 => ?_)
  · -- yes h1
    exact absurd h1 (by simp)
  · -- no h1
    refine Ok.skip ?_
    refine Ok.seq ?_
    refine Ok.region ?_
    refine OkO.load rfl rfl (ldg (n := 2) (by kernel_rfl) (by first | assumption | (simp (disch := first | omega | (simp only [hNw, hPt]; omega)) only [gn0, gn1, gn2, gn3, gn4, gn5, gp0, gno, gpo] <;> first | rfl | assumption | exact gp0 _ _ _ | exact gn0 _ _)) (by first | rfl | assumption)) ?_
    refine OkO.callE rfl rfl rfl rfl rfl (c55 (m + 211) (cols.headD []).length cv cols least 0 _ (hM.ext (hE _ (by (try dsimp only); repeat (first | exact hG | apply Grow.new | (refine Grow.put ?_ _ (by first | omega | (simp only [hNw, hPt]; omega))))))) hcl9 hok9 (by omega) (by omega) (by omega)) ?_ -- "sackung/sackungref01.Wetter"
    rintro _ Hx ⟨ov, bs, rfl, qx, ow, nnv⟩
    have n1 := qx.ext.next
    try simp only [hNw, hPt] at n1
    have gg1 : Grow W Hx := Grow.ret (by (try dsimp only); repeat (first | exact hG | apply Grow.new | (refine Grow.put ?_ _ (by first | omega | (simp only [hNw, hPt]; omega))))) qx
    have a1 : (Hx.get (W.next)).bind AObj.cs = some [cv, I least] := by rw [qx.ext.get _ (by first | omega | (simp only [hNw, hPt]; omega))]; first | assumption | (rw [gn0]; rfl) | (rw [get_put_eq] <;> rfl) | (simp (disch := first | omega | (simp only [hNw, hPt]; omega)) only [gn0, gn1, gn2, gn3, gn4, gn5, gp0, gno, gpo] <;> first | rfl | assumption | (rw [get_put_eq] <;> rfl))
    have ow := ow.low (k1 := W.next + 1) (by first | omega | (simp only [hNw, hPt]; omega))
    rw [wetS_zero hok9] at ow
    have on := ow.out.one
    have ato : atoms [ov, I least] = true := by (rw [atoms, on.2]; rfl)
    have mx := ow.mat
    have hlo : lenOf ov = some cols.length := by obtain ⟨ws3, hR3, hwl3, _⟩ := mx; rw [← hwl3]; simpa using hR3.len
    obtain ⟨bB, hbB⟩ : ∃ bB, bs[ci]? = some bB := ⟨_, List.getElem?_eq_getElem (by rw [ow.len]; exact hcil)⟩
    obtain ⟨hB1, _⟩ := ow.col ci bB col hbB hcol
    obtain ⟨hB2, hB3, hB4⟩ := ow.ge bB (List.mem_of_getElem? hbB)
    obtain ⟨ob, oo, ocs, j1, j2, j3, j4⟩ := (Mine.row (l := (bs.map fun b => AV.opn b (cols.headD []).length).map fun x => [x]) (by rw [sing_flat]; exact ow.out) (fun x hx => by simp only [List.mem_map] at hx; obtain ⟨y, _, rfl⟩ := hx; rfl) (by omega)).at_ ci [.opn bB (cols.headD []).length] (by rw [List.getElem?_map, List.getElem?_map, hbB]; rfl)
    have j5 := seg_one j3
    have eB : (Hx.get bB).bind AObj.cs = some (col.map Bed.c).flatten := by rw [hB1]; rfl
    have pov := lpl hlo
    have hq0 := (bed_cell (j := 0) (v := I (bedAt cols ci ck).dr) hbed rfl (by omega)).2
    have hq1 := (bed_cell (j := 1) (v := I (bedAt cols ci ck).no) hbed rfl (by omega)).2
    have hq2 := (bed_cell (j := 2) (v := I (bedAt cols ci ck).fl) hbed rfl (by omega)).2
    have hq3 := (bed_cell (j := 3) (v := I (bedAt cols ci ck).fh) hbed rfl (by omega)).2
    have hq4 := (bed_cell (j := 4) (v := I (bedAt cols ci ck).cl) hbed rfl (by omega)).2
    have hq5 := (bed_cell (j := 5) (v := I (bedAt cols ci ck).ch) hbed rfl (by omega)).2
    have hq6 := (bed_cell (j := 6) (v := I (bedAt cols ci ck).wl) hbed rfl (by omega)).2
    have hq7 := (bed_cell (j := 7) (v := I (bedAt cols ci ck).wh) hbed rfl (by omega)).2
    refine OkO.alloc (z := [.nils, .int .i64 0]) rfl (by kernel_rfl) ?_
    refine OkO.store rfl rfl rfl (stc (n := 2) (ag := true) (by kernel_rfl) (by first | assumption | (simp (disch := first | omega | (simp only [hNw, hPt]; omega)) only [gn0, gn1, gn2, gn3, gn4, gn5, gp0, gno, gpo] <;> first | rfl | assumption | exact gp0 _ _ _ | exact gn0 _ _)) rfl (by first | rfl | assumption) (by first | rfl | exact spl_set _ _ _ (by first | assumption | omega | (simp; omega)))) ?_
    refine OkO.nil ?_
    refine Ok.seq ?_
    refine Ok.drawn [(0, true, []), (1, true, []), (2, true, []), (3, true, []), (4, true, []), (5, true, []), (6, true, []), (7, true, []), (8, true, []), (9, true, []), (10, true, [])] (by kernel_rfl) ?_
    refine OkP.step ?_
    refine OkO.fieldAddr (o := 0) rfl (by kernel_rfl) rfl ?_
    refine OkO.nil ⟨rfl, ?_⟩
    refine OkP.step ?_
    refine OkO.load rfl rfl (lda (n := 1) (by kernel_rfl) (by first | assumption | (simp (disch := first | omega | (simp only [hNw, hPt]; omega)) only [gn0, gn1, gn2, gn3, gn4, gn5, gp0, gno, gpo] <;> first | rfl | assumption | exact gp0 _ _ _ | exact gn0 _ _)) (by first | rfl | assumption)) ?_
    refine OkO.nil ⟨rfl, ?_⟩
    refine OkP.step ?_
    refine OkO.move rfl rfl ?_
    refine OkO.nil ⟨rfl, ?_⟩
    refine OkP.step ?_
    refine OkO.convert (k := .i64) rfl (by kernel_rfl) rfl (wrapF_i64 (by omega) (by omega)) ?_
    refine OkO.nil ⟨rfl, ?_⟩
    refine OkP.step ?_
    refine OkO.fieldAddr (o := 0) rfl (by kernel_rfl) rfl ?_
    refine OkO.nil ⟨rfl, ?_⟩
    refine OkP.step ?_
    refine OkO.load rfl rfl (lda (n := 1) (by kernel_rfl) (by first | assumption | (simp (disch := first | omega | (simp only [hNw, hPt]; omega)) only [gn0, gn1, gn2, gn3, gn4, gn5, gp0, gno, gpo] <;> first | rfl | assumption | exact gp0 _ _ _ | exact gn0 _ _)) (by first | rfl | assumption)) ?_
    refine OkO.nil ⟨rfl, ?_⟩
    refine OkP.step ?_
    refine OkO.builtin rfl rfl rfl (bln (by kernel_rfl) (by first | assumption | rfl)) ?_
    refine OkO.nil ⟨rfl, ?_⟩
    refine OkP.step ?_
    refine OkO.bin rfl rfl rfl (bin_rem (by omega) (by omega)) ?_
    refine OkO.nil ⟨rfl, ?_⟩
    refine OkP.step ?_
    refine OkO.index (sz := 1) (n := ci) rfl rfl (congrArg (fun z => some (I z)) hci.symm) (by kernel_rfl) (by first | assumption | rfl | exact slAt_slice (by omega) | exact slAt_opn (by omega)) ?_ -- index ('Go.Operand.tmp', 35) ('Go.Operand.tmp', 41)
    refine OkO.nil ⟨rfl, ?_⟩
    refine OkP.step ?_
    refine OkO.load rfl rfl (lda (n := 1) (by kernel_rfl) (by first | assumption | (simp (disch := first | omega | (simp only [hNw, hPt]; omega)) only [gn0, gn1, gn2, gn3, gn4, gn5, gp0, gno, gpo] <;> first | rfl | assumption | exact gp0 _ _ _ | exact gn0 _ _)) (by first | rfl | assumption)) ?_
    refine OkO.nil ⟨rfl, ?_⟩
    refine OkP.step ?_
    refine OkO.assign rfl rfl ?_
    refine OkO.nil ⟨rfl, ?_⟩
    refine OkP.nil ?_
    refine Ok.seq ?_
    refine Ok.region ?_
    refine OkO.move rfl rfl ?_
    refine OkO.move rfl rfl ?_
    refine OkO.convert (k := .i64) rfl (by kernel_rfl) rfl (wrapF_i64 (by omega) (by omega)) ?_
    refine OkO.move rfl rfl ?_
    refine OkO.builtin rfl rfl rfl (bln (by kernel_rfl) (by first | assumption | rfl)) ?_
    refine OkO.bin rfl rfl rfl (bin_rem (by omega) (by omega)) ?_
    refine OkO.index (sz := 8) (n := ck) rfl rfl (congrArg (fun z => some (I z)) hck.symm) (by kernel_rfl) (by first | assumption | rfl | exact slAt_slice (by omega) | exact slAt_opn (by omega)) ?_ -- index ('Go.Operand.tmp', 44) ('Go.Operand.tmp', 49)
    refine OkO.assign rfl rfl ?_
    refine OkO.nil ?_
    refine Ok.seq ?_
    refine Ok.region ?_
    refine OkO.move rfl rfl ?_
    refine OkO.convert (k := .i64) rfl (by kernel_rfl) rfl (wrapF_i64 (by omega) (by omega)) ?_
    refine OkO.assign rfl rfl ?_
    refine OkO.nil ?_
    refine Ok.join (fun s => s.D = [] ∧ Grow W s.H ∧ OwnS (W.next + 1) s.H ov (cols.headD []).length (setAt cols ci ck (chg we nn (bedAt cols ci ck))) bs ∧ (s.H.get W.next).bind AObj.cs = some [cv, I least] ∧ (s.H.get Hx.next).bind AObj.cs = some [ov, I least] ∧ s.H.next = Hx.next + 1 ∧ Has 8 [(1, wv), (4, .int .u8 we), (6, .ptr W.next 0), (13, .ptr Hx.next 0)] s.T) ?_ ?_
    · -- to the meeting
      refine Ok.seq ?_
      refine Ok.region ?_
      refine OkO.move rfl rfl ?_
      refine OkO.bin rfl rfl rfl (bin_remU8 (by omega) (by omega) (by omega)) ?_
      refine OkO.nil ?_
      refine Ok.block ?_
      refine Ok.seq ?_
      refine Ok.region ?_
      refine OkO.bin rfl rfl rfl (bin_eqlU8 _ _) ?_
      refine OkO.assign rfl rfl ?_
      refine OkO.nil ?_
      refine Ok.cond rfl (fun h2 => ?_) (fun h2 => ?_)
      · -- yes h2
        have h50 : we % 5 = 0 := by simpa using h2
        refine Ok.drawn [(0, true, []), (1, true, []), (2, true, []), (3, true, []), (4, true, []), (5, true, []), (6, true, []), (7, true, []), (8, true, []), (9, true, []), (10, true, []), (11, true, []), (12, true, []), (13, false, [10]), (14, true, []), (15, true, []), (16, true, []), (17, false, [])] (by kernel_rfl) ?_
        refine OkP.step ?_
        refine OkO.move rfl rfl ?_
        refine OkO.nil ⟨rfl, ?_⟩
        refine OkP.step ?_
        refine OkO.move rfl rfl ?_
        refine OkO.nil ⟨rfl, ?_⟩
        refine OkP.step ?_
        refine OkO.nilCheck rfl rfl ?_
        refine OkO.nil ⟨rfl, ?_⟩
        refine OkP.step ?_
        refine OkO.fieldAddr (o := 2) rfl (by kernel_rfl) rfl ?_
        refine OkO.nil ⟨rfl, ?_⟩
        refine OkP.step ?_
        refine OkO.fieldAddr (o := 1) rfl (by kernel_rfl) rfl ?_
        refine OkO.nil ⟨rfl, ?_⟩
        refine OkP.step ?_
        refine OkO.load rfl rfl (lda (n := 1) (by kernel_rfl) (by first | assumption | (simp (disch := first | omega | (simp only [hNw, hPt]; omega)) only [gn0, gn1, gn2, gn3, gn4, gn5, gp0, gno, gpo] <;> first | rfl | assumption | exact gp0 _ _ _ | exact gn0 _ _)) (by first | rfl | assumption)) ?_
        refine OkO.nil ⟨rfl, ?_⟩
        refine OkP.step ?_
        refine OkO.move rfl rfl ?_
        refine OkO.nil ⟨rfl, ?_⟩
        refine OkP.step ?_
        refine OkO.nilCheck rfl rfl ?_
        refine OkO.nil ⟨rfl, ?_⟩
        refine OkP.step ?_
        refine OkO.fieldAddr (o := 2) rfl (by kernel_rfl) rfl ?_
        refine OkO.nil ⟨rfl, ?_⟩
        refine OkP.step ?_
        refine OkO.fieldAddr (o := 0) rfl (by kernel_rfl) rfl ?_
        refine OkO.nil ⟨rfl, ?_⟩
        refine OkP.step ?_
        refine OkO.load rfl rfl (lda (n := 1) (by kernel_rfl) (by first | assumption | (simp (disch := first | omega | (simp only [hNw, hPt]; omega)) only [gn0, gn1, gn2, gn3, gn4, gn5, gp0, gno, gpo] <;> first | rfl | assumption | exact gp0 _ _ _ | exact gn0 _ _)) (by first | rfl | assumption)) ?_
        refine OkO.nil ⟨rfl, ?_⟩
        refine OkP.step ?_
        refine OkO.move rfl rfl ?_
        refine OkO.nil ⟨rfl, ?_⟩
        refine OkP.step ?_
        refine OkO.bin rfl rfl rfl (bin_add (by omega) (by omega)) ?_
        refine OkO.nil ⟨rfl, ?_⟩
        refine OkP.step ?_
        refine OkO.builtin rfl rfl rfl (builtin_min2 _ _) ?_
        refine OkO.nil ⟨(sco (sld rfl rfl (lda (n := 1) (by kernel_rfl) (by first | assumption | (simp (disch := first | omega | (simp only [hNw, hPt]; omega)) only [gn0, gn1, gn2, gn3, gn4, gn5, gp0, gno, gpo] <;> first | rfl | assumption | exact gp0 _ _ _ | exact gn0 _ _)) (by first | rfl | assumption)) rfl (eqr _ (by first | rfl | exact ps | exact pu | exact lpl (by assumption) | (simp [AV.plain, AV.plains, AV.cells, pc, pov])))) rfl), ?_⟩
        refine OkP.step ?_
        refine OkO.nilCheck rfl rfl ?_
        refine OkO.nil ⟨rfl, ?_⟩
        refine OkP.step ?_
        refine OkO.fieldAddr (o := 2) rfl (by kernel_rfl) rfl ?_
        refine OkO.nil ⟨rfl, ?_⟩
        refine OkP.step ?_
        refine OkO.fieldAddr (o := 0) rfl (by kernel_rfl) rfl ?_
        refine OkO.nil ⟨rfl, ?_⟩
        refine OkP.step ?_
        refine OkO.store rfl rfl rfl (storeAt_opn (n := 1) (ag := false) (by kernel_rfl) (by first | assumption | (simp (disch := first | omega | (simp only [hNw, hPt]; omega)) only [gn0, gn1, gn2, gn3, gn4, gn5, gp0, gno, gpo] <;> first | rfl | assumption | exact gp0 _ _ _ | exact gn0 _ _)) rfl (by first | rfl | assumption) (by first | rfl | exact spl_bed (j := 2) (b := bedAt cols ci ck) (b' := { bedAt cols ci ck with fl := min (bedAt cols ci ck).fh ((bedAt cols ci ck).fl + nn) }) hbed (by omega) rfl)) ?_
        refine OkO.nil ⟨rfl, ?_⟩
        refine OkP.nil ?_
        have hwx : chg we nn (bedAt cols ci ck) = { bedAt cols ci ck with fl := min (bedAt cols ci ck).fh ((bedAt cols ci ck).fl + nn) } := by unfold chg; (repeat (first | rw [if_neg (by omega)] | rw [if_pos (by omega)]))
        refine ⟨rfl, rfl, (by (try dsimp only); repeat (first | exact gg1 | apply Grow.new | (refine Grow.put ?_ _ (by first | omega | (simp only [hNw, hPt]; omega))))), ?_, by rw [gpo _ _ _ _ (by omega)]; first | assumption | (rw [gn0]; rfl) | (rw [get_put_eq] <;> rfl) | (simp (disch := first | omega | (simp only [hNw, hPt]; omega)) only [gn0, gn1, gn2, gn3, gn4, gn5, gp0, gno, gpo] <;> first | rfl | assumption | (rw [get_put_eq] <;> rfl)), by rw [gpo _ _ _ _ (fun e9 => by omega)]; first | assumption | (rw [gn0]; rfl) | (rw [get_put_eq] <;> rfl) | (simp (disch := first | omega | (simp only [hNw, hPt]; omega)) only [gn0, gn1, gn2, gn3, gn4, gn5, gp0, gno, gpo] <;> first | rfl | assumption | (rw [get_put_eq] <;> rfl)), by simp only [hNw, hPt], Has.of (by kernel_rfl)⟩
        have hO2 := ((ow.to ((Ext.refl Hx).new (.cells [.nils, I 0] 24))).putN (m := Hx.next) (.cells [ov, I least] 24) (fun h9 => by have := (ow.ge _ h9).2.1; omega) (fun q9 h9 => by have := ow.out.lt h9; omega)).setcol (c := col.set ck (chg we nn (bedAt cols ci ck))) hbB (by rw [List.length_set]; exact hcoln)
        unfold setAt; rw [hcolg]; rw [hwx] at hO2 ⊢; exact hO2
      · -- no h2
        have h50 : ¬ we % 5 = 0 := by simpa using h2
        refine Ok.seq ?_
        refine Ok.region ?_
        refine OkO.bin rfl rfl rfl (bin_eqlU8 _ _) ?_
        refine OkO.assign rfl rfl ?_
        refine OkO.nil ?_
        refine Ok.cond rfl (fun h3 => ?_) (fun h3 => ?_)
        · -- yes h3
          have h51 : we % 5 = 1 := by simpa using h3
          refine Ok.drawn [(0, true, []), (1, true, []), (2, true, []), (3, true, []), (4, true, []), (5, true, []), (6, true, []), (7, true, []), (8, true, []), (9, true, []), (10, true, []), (11, true, []), (12, true, []), (13, false, [10]), (14, true, []), (15, true, []), (16, true, []), (17, false, [])] (by kernel_rfl) ?_
          refine OkP.step ?_
          refine OkO.move rfl rfl ?_
          refine OkO.nil ⟨rfl, ?_⟩
          refine OkP.step ?_
          refine OkO.move rfl rfl ?_
          refine OkO.nil ⟨rfl, ?_⟩
          refine OkP.step ?_
          refine OkO.nilCheck rfl rfl ?_
          refine OkO.nil ⟨rfl, ?_⟩
          refine OkP.step ?_
          refine OkO.fieldAddr (o := 4) rfl (by kernel_rfl) rfl ?_
          refine OkO.nil ⟨rfl, ?_⟩
          refine OkP.step ?_
          refine OkO.fieldAddr (o := 1) rfl (by kernel_rfl) rfl ?_
          refine OkO.nil ⟨rfl, ?_⟩
          refine OkP.step ?_
          refine OkO.load rfl rfl (lda (n := 1) (by kernel_rfl) (by first | assumption | (simp (disch := first | omega | (simp only [hNw, hPt]; omega)) only [gn0, gn1, gn2, gn3, gn4, gn5, gp0, gno, gpo] <;> first | rfl | assumption | exact gp0 _ _ _ | exact gn0 _ _)) (by first | rfl | assumption)) ?_
          refine OkO.nil ⟨rfl, ?_⟩
          refine OkP.step ?_
          refine OkO.move rfl rfl ?_
          refine OkO.nil ⟨rfl, ?_⟩
          refine OkP.step ?_
          refine OkO.nilCheck rfl rfl ?_
          refine OkO.nil ⟨rfl, ?_⟩
          refine OkP.step ?_
          refine OkO.fieldAddr (o := 4) rfl (by kernel_rfl) rfl ?_
          refine OkO.nil ⟨rfl, ?_⟩
          refine OkP.step ?_
          refine OkO.fieldAddr (o := 0) rfl (by kernel_rfl) rfl ?_
          refine OkO.nil ⟨rfl, ?_⟩
          refine OkP.step ?_
          refine OkO.load rfl rfl (lda (n := 1) (by kernel_rfl) (by first | assumption | (simp (disch := first | omega | (simp only [hNw, hPt]; omega)) only [gn0, gn1, gn2, gn3, gn4, gn5, gp0, gno, gpo] <;> first | rfl | assumption | exact gp0 _ _ _ | exact gn0 _ _)) (by first | rfl | assumption)) ?_
          refine OkO.nil ⟨rfl, ?_⟩
          refine OkP.step ?_
          refine OkO.move rfl rfl ?_
          refine OkO.nil ⟨rfl, ?_⟩
          refine OkP.step ?_
          refine OkO.bin rfl rfl rfl (bin_add (by omega) (by omega)) ?_
          refine OkO.nil ⟨rfl, ?_⟩
          refine OkP.step ?_
          refine OkO.builtin rfl rfl rfl (builtin_min2 _ _) ?_
          refine OkO.nil ⟨(sco (sld rfl rfl (lda (n := 1) (by kernel_rfl) (by first | assumption | (simp (disch := first | omega | (simp only [hNw, hPt]; omega)) only [gn0, gn1, gn2, gn3, gn4, gn5, gp0, gno, gpo] <;> first | rfl | assumption | exact gp0 _ _ _ | exact gn0 _ _)) (by first | rfl | assumption)) rfl (eqr _ (by first | rfl | exact ps | exact pu | exact lpl (by assumption) | (simp [AV.plain, AV.plains, AV.cells, pc, pov])))) rfl), ?_⟩
          refine OkP.step ?_
          refine OkO.nilCheck rfl rfl ?_
          refine OkO.nil ⟨rfl, ?_⟩
          refine OkP.step ?_
          refine OkO.fieldAddr (o := 4) rfl (by kernel_rfl) rfl ?_
          refine OkO.nil ⟨rfl, ?_⟩
          refine OkP.step ?_
          refine OkO.fieldAddr (o := 0) rfl (by kernel_rfl) rfl ?_
          refine OkO.nil ⟨rfl, ?_⟩
          refine OkP.step ?_
          refine OkO.store rfl rfl rfl (storeAt_opn (n := 1) (ag := false) (by kernel_rfl) (by first | assumption | (simp (disch := first | omega | (simp only [hNw, hPt]; omega)) only [gn0, gn1, gn2, gn3, gn4, gn5, gp0, gno, gpo] <;> first | rfl | assumption | exact gp0 _ _ _ | exact gn0 _ _)) rfl (by first | rfl | assumption) (by first | rfl | exact spl_bed (j := 4) (b := bedAt cols ci ck) (b' := { bedAt cols ci ck with cl := min (bedAt cols ci ck).ch ((bedAt cols ci ck).cl + nn) }) hbed (by omega) rfl)) ?_
          refine OkO.nil ⟨rfl, ?_⟩
          refine OkP.nil ?_
          have hwx : chg we nn (bedAt cols ci ck) = { bedAt cols ci ck with cl := min (bedAt cols ci ck).ch ((bedAt cols ci ck).cl + nn) } := by unfold chg; (repeat (first | rw [if_neg (by omega)] | rw [if_pos (by omega)]))
          refine ⟨rfl, rfl, (by (try dsimp only); repeat (first | exact gg1 | apply Grow.new | (refine Grow.put ?_ _ (by first | omega | (simp only [hNw, hPt]; omega))))), ?_, by rw [gpo _ _ _ _ (by omega)]; first | assumption | (rw [gn0]; rfl) | (rw [get_put_eq] <;> rfl) | (simp (disch := first | omega | (simp only [hNw, hPt]; omega)) only [gn0, gn1, gn2, gn3, gn4, gn5, gp0, gno, gpo] <;> first | rfl | assumption | (rw [get_put_eq] <;> rfl)), by rw [gpo _ _ _ _ (fun e9 => by omega)]; first | assumption | (rw [gn0]; rfl) | (rw [get_put_eq] <;> rfl) | (simp (disch := first | omega | (simp only [hNw, hPt]; omega)) only [gn0, gn1, gn2, gn3, gn4, gn5, gp0, gno, gpo] <;> first | rfl | assumption | (rw [get_put_eq] <;> rfl)), by simp only [hNw, hPt], Has.of (by kernel_rfl)⟩
          have hO2 := ((ow.to ((Ext.refl Hx).new (.cells [.nils, I 0] 24))).putN (m := Hx.next) (.cells [ov, I least] 24) (fun h9 => by have := (ow.ge _ h9).2.1; omega) (fun q9 h9 => by have := ow.out.lt h9; omega)).setcol (c := col.set ck (chg we nn (bedAt cols ci ck))) hbB (by rw [List.length_set]; exact hcoln)
          unfold setAt; rw [hcolg]; rw [hwx] at hO2 ⊢; exact hO2
        · -- no h3
          have h51 : ¬ we % 5 = 1 := by simpa using h3
          refine Ok.seq ?_
          refine Ok.region ?_
          refine OkO.bin rfl rfl rfl (bin_eqlU8 _ _) ?_
          refine OkO.assign rfl rfl ?_
          refine OkO.nil ?_
          refine Ok.cond rfl (fun h4 => ?_) (fun h4 => ?_)
          · -- yes h4
            have h52 : we % 5 = 2 := by simpa using h4
            refine Ok.region ?_
            refine OkO.move rfl rfl ?_
            refine OkO.move rfl rfl ?_
            refine OkO.nilCheck rfl rfl ?_
            refine OkO.fieldAddr (o := 0) rfl (by kernel_rfl) rfl ?_
            refine OkO.load rfl rfl (lda (n := 1) (by kernel_rfl) (by first | assumption | (simp (disch := first | omega | (simp only [hNw, hPt]; omega)) only [gn0, gn1, gn2, gn3, gn4, gn5, gp0, gno, gpo] <;> first | rfl | assumption | exact gp0 _ _ _ | exact gn0 _ _)) (by first | rfl | assumption)) ?_
            refine OkO.move rfl rfl ?_
            refine OkO.bin rfl rfl rfl (bin_sub (by omega) (by omega)) ?_
            refine OkO.builtin rfl rfl rfl (builtin_max2 _ _) ?_
            refine OkO.nilCheck rfl rfl ?_
            refine OkO.fieldAddr (o := 0) rfl (by kernel_rfl) rfl ?_
            refine OkO.store rfl rfl rfl (storeAt_opn (n := 1) (ag := false) (by kernel_rfl) (by first | assumption | (simp (disch := first | omega | (simp only [hNw, hPt]; omega)) only [gn0, gn1, gn2, gn3, gn4, gn5, gp0, gno, gpo] <;> first | rfl | assumption | exact gp0 _ _ _ | exact gn0 _ _)) rfl (by first | rfl | assumption) (by first | rfl | exact spl_bed (j := 0) (b := bedAt cols ci ck) (b' := { bedAt cols ci ck with dr := max (-100000) ((bedAt cols ci ck).dr - nn) }) hbed (by omega) rfl)) ?_
            refine OkO.nil ?_
            have hwx : chg we nn (bedAt cols ci ck) = { bedAt cols ci ck with dr := max (-100000) ((bedAt cols ci ck).dr - nn) } := by unfold chg; (repeat (first | rw [if_neg (by omega)] | rw [if_pos (by omega)]))
            refine ⟨rfl, rfl, (by (try dsimp only); repeat (first | exact gg1 | apply Grow.new | (refine Grow.put ?_ _ (by first | omega | (simp only [hNw, hPt]; omega))))), ?_, by rw [gpo _ _ _ _ (by omega)]; first | assumption | (rw [gn0]; rfl) | (rw [get_put_eq] <;> rfl) | (simp (disch := first | omega | (simp only [hNw, hPt]; omega)) only [gn0, gn1, gn2, gn3, gn4, gn5, gp0, gno, gpo] <;> first | rfl | assumption | (rw [get_put_eq] <;> rfl)), by rw [gpo _ _ _ _ (fun e9 => by omega)]; first | assumption | (rw [gn0]; rfl) | (rw [get_put_eq] <;> rfl) | (simp (disch := first | omega | (simp only [hNw, hPt]; omega)) only [gn0, gn1, gn2, gn3, gn4, gn5, gp0, gno, gpo] <;> first | rfl | assumption | (rw [get_put_eq] <;> rfl)), by simp only [hNw, hPt], Has.of (by kernel_rfl)⟩
            have hO2 := ((ow.to ((Ext.refl Hx).new (.cells [.nils, I 0] 24))).putN (m := Hx.next) (.cells [ov, I least] 24) (fun h9 => by have := (ow.ge _ h9).2.1; omega) (fun q9 h9 => by have := ow.out.lt h9; omega)).setcol (c := col.set ck (chg we nn (bedAt cols ci ck))) hbB (by rw [List.length_set]; exact hcoln)
            unfold setAt; rw [hcolg]; rw [hwx] at hO2 ⊢; exact hO2
          · -- no h4
            have h52 : ¬ we % 5 = 2 := by simpa using h4
            refine Ok.seq ?_
            refine Ok.region ?_
            refine OkO.bin rfl rfl rfl (bin_eqlU8 _ _) ?_
            refine OkO.assign rfl rfl ?_
            refine OkO.nil ?_
            refine Ok.cond rfl (fun h5 => ?_) (fun h5 => ?_)
            · -- yes h5
              have h53 : we % 5 = 3 := by simpa using h5
              refine Ok.drawn [(0, true, []), (1, true, []), (2, true, []), (3, true, []), (4, true, []), (5, true, []), (6, true, []), (7, true, []), (8, true, []), (9, true, []), (10, true, []), (11, true, []), (12, true, []), (13, false, [10]), (14, true, []), (15, true, []), (16, true, []), (17, false, [])] (by kernel_rfl) ?_
              refine OkP.step ?_
              refine OkO.move rfl rfl ?_
              refine OkO.nil ⟨rfl, ?_⟩
              refine OkP.step ?_
              refine OkO.move rfl rfl ?_
              refine OkO.nil ⟨rfl, ?_⟩
              refine OkP.step ?_
              refine OkO.nilCheck rfl rfl ?_
              refine OkO.nil ⟨rfl, ?_⟩
              refine OkP.step ?_
              refine OkO.fieldAddr (o := 6) rfl (by kernel_rfl) rfl ?_
              refine OkO.nil ⟨rfl, ?_⟩
              refine OkP.step ?_
              refine OkO.fieldAddr (o := 0) rfl (by kernel_rfl) rfl ?_
              refine OkO.nil ⟨rfl, ?_⟩
              refine OkP.step ?_
              refine OkO.load rfl rfl (lda (n := 1) (by kernel_rfl) (by first | assumption | (simp (disch := first | omega | (simp only [hNw, hPt]; omega)) only [gn0, gn1, gn2, gn3, gn4, gn5, gp0, gno, gpo] <;> first | rfl | assumption | exact gp0 _ _ _ | exact gn0 _ _)) (by first | rfl | assumption)) ?_
              refine OkO.nil ⟨rfl, ?_⟩
              refine OkP.step ?_
              refine OkO.move rfl rfl ?_
              refine OkO.nil ⟨rfl, ?_⟩
              refine OkP.step ?_
              refine OkO.nilCheck rfl rfl ?_
              refine OkO.nil ⟨rfl, ?_⟩
              refine OkP.step ?_
              refine OkO.fieldAddr (o := 6) rfl (by kernel_rfl) rfl ?_
              refine OkO.nil ⟨rfl, ?_⟩
              refine OkP.step ?_
              refine OkO.fieldAddr (o := 1) rfl (by kernel_rfl) rfl ?_
              refine OkO.nil ⟨rfl, ?_⟩
              refine OkP.step ?_
              refine OkO.load rfl rfl (lda (n := 1) (by kernel_rfl) (by first | assumption | (simp (disch := first | omega | (simp only [hNw, hPt]; omega)) only [gn0, gn1, gn2, gn3, gn4, gn5, gp0, gno, gpo] <;> first | rfl | assumption | exact gp0 _ _ _ | exact gn0 _ _)) (by first | rfl | assumption)) ?_
              refine OkO.nil ⟨rfl, ?_⟩
              refine OkP.step ?_
              refine OkO.move rfl rfl ?_
              refine OkO.nil ⟨rfl, ?_⟩
              refine OkP.step ?_
              refine OkO.bin rfl rfl rfl (bin_sub (by omega) (by omega)) ?_
              refine OkO.nil ⟨rfl, ?_⟩
              refine OkP.step ?_
              refine OkO.builtin rfl rfl rfl (builtin_max2 _ _) ?_
              refine OkO.nil ⟨(sco (sld rfl rfl (lda (n := 1) (by kernel_rfl) (by first | assumption | (simp (disch := first | omega | (simp only [hNw, hPt]; omega)) only [gn0, gn1, gn2, gn3, gn4, gn5, gp0, gno, gpo] <;> first | rfl | assumption | exact gp0 _ _ _ | exact gn0 _ _)) (by first | rfl | assumption)) rfl (eqr _ (by first | rfl | exact ps | exact pu | exact lpl (by assumption) | (simp [AV.plain, AV.plains, AV.cells, pc, pov])))) rfl), ?_⟩
              refine OkP.step ?_
              refine OkO.nilCheck rfl rfl ?_
              refine OkO.nil ⟨rfl, ?_⟩
              refine OkP.step ?_
              refine OkO.fieldAddr (o := 6) rfl (by kernel_rfl) rfl ?_
              refine OkO.nil ⟨rfl, ?_⟩
              refine OkP.step ?_
              refine OkO.fieldAddr (o := 1) rfl (by kernel_rfl) rfl ?_
              refine OkO.nil ⟨rfl, ?_⟩
              refine OkP.step ?_
              refine OkO.store rfl rfl rfl (storeAt_opn (n := 1) (ag := false) (by kernel_rfl) (by first | assumption | (simp (disch := first | omega | (simp only [hNw, hPt]; omega)) only [gn0, gn1, gn2, gn3, gn4, gn5, gp0, gno, gpo] <;> first | rfl | assumption | exact gp0 _ _ _ | exact gn0 _ _)) rfl (by first | rfl | assumption) (by first | rfl | exact spl_bed (j := 7) (b := bedAt cols ci ck) (b' := { bedAt cols ci ck with wh := max (bedAt cols ci ck).wl ((bedAt cols ci ck).wh - nn) }) hbed (by omega) rfl)) ?_
              refine OkO.nil ⟨rfl, ?_⟩
              refine OkP.nil ?_
              have hwx : chg we nn (bedAt cols ci ck) = { bedAt cols ci ck with wh := max (bedAt cols ci ck).wl ((bedAt cols ci ck).wh - nn) } := by unfold chg; (repeat (first | rw [if_neg (by omega)] | rw [if_pos (by omega)]))
              refine ⟨rfl, rfl, (by (try dsimp only); repeat (first | exact gg1 | apply Grow.new | (refine Grow.put ?_ _ (by first | omega | (simp only [hNw, hPt]; omega))))), ?_, by rw [gpo _ _ _ _ (by omega)]; first | assumption | (rw [gn0]; rfl) | (rw [get_put_eq] <;> rfl) | (simp (disch := first | omega | (simp only [hNw, hPt]; omega)) only [gn0, gn1, gn2, gn3, gn4, gn5, gp0, gno, gpo] <;> first | rfl | assumption | (rw [get_put_eq] <;> rfl)), by rw [gpo _ _ _ _ (fun e9 => by omega)]; first | assumption | (rw [gn0]; rfl) | (rw [get_put_eq] <;> rfl) | (simp (disch := first | omega | (simp only [hNw, hPt]; omega)) only [gn0, gn1, gn2, gn3, gn4, gn5, gp0, gno, gpo] <;> first | rfl | assumption | (rw [get_put_eq] <;> rfl)), by simp only [hNw, hPt], Has.of (by kernel_rfl)⟩
              have hO2 := ((ow.to ((Ext.refl Hx).new (.cells [.nils, I 0] 24))).putN (m := Hx.next) (.cells [ov, I least] 24) (fun h9 => by have := (ow.ge _ h9).2.1; omega) (fun q9 h9 => by have := ow.out.lt h9; omega)).setcol (c := col.set ck (chg we nn (bedAt cols ci ck))) hbB (by rw [List.length_set]; exact hcoln)
              unfold setAt; rw [hcolg]; rw [hwx] at hO2 ⊢; exact hO2
            · -- no h5
              have h53 : ¬ we % 5 = 3 := by simpa using h5
              refine Ok.drawn [(0, true, []), (1, true, []), (2, true, []), (3, true, []), (4, true, []), (5, true, []), (6, true, []), (7, true, []), (8, true, []), (9, true, []), (10, true, []), (11, true, []), (12, true, []), (13, false, [10]), (14, true, []), (15, true, []), (16, true, []), (17, false, [])] (by kernel_rfl) ?_
              refine OkP.step ?_
              refine OkO.move rfl rfl ?_
              refine OkO.nil ⟨rfl, ?_⟩
              refine OkP.step ?_
              refine OkO.move rfl rfl ?_
              refine OkO.nil ⟨rfl, ?_⟩
              refine OkP.step ?_
              refine OkO.nilCheck rfl rfl ?_
              refine OkO.nil ⟨rfl, ?_⟩
              refine OkP.step ?_
              refine OkO.fieldAddr (o := 2) rfl (by kernel_rfl) rfl ?_
              refine OkO.nil ⟨rfl, ?_⟩
              refine OkP.step ?_
              refine OkO.fieldAddr (o := 0) rfl (by kernel_rfl) rfl ?_
              refine OkO.nil ⟨rfl, ?_⟩
              refine OkP.step ?_
              refine OkO.load rfl rfl (lda (n := 1) (by kernel_rfl) (by first | assumption | (simp (disch := first | omega | (simp only [hNw, hPt]; omega)) only [gn0, gn1, gn2, gn3, gn4, gn5, gp0, gno, gpo] <;> first | rfl | assumption | exact gp0 _ _ _ | exact gn0 _ _)) (by first | rfl | assumption)) ?_
              refine OkO.nil ⟨rfl, ?_⟩
              refine OkP.step ?_
              refine OkO.move rfl rfl ?_
              refine OkO.nil ⟨rfl, ?_⟩
              refine OkP.step ?_
              refine OkO.nilCheck rfl rfl ?_
              refine OkO.nil ⟨rfl, ?_⟩
              refine OkP.step ?_
              refine OkO.fieldAddr (o := 2) rfl (by kernel_rfl) rfl ?_
              refine OkO.nil ⟨rfl, ?_⟩
              refine OkP.step ?_
              refine OkO.fieldAddr (o := 1) rfl (by kernel_rfl) rfl ?_
              refine OkO.nil ⟨rfl, ?_⟩
              refine OkP.step ?_
              refine OkO.load rfl rfl (lda (n := 1) (by kernel_rfl) (by first | assumption | (simp (disch := first | omega | (simp only [hNw, hPt]; omega)) only [gn0, gn1, gn2, gn3, gn4, gn5, gp0, gno, gpo] <;> first | rfl | assumption | exact gp0 _ _ _ | exact gn0 _ _)) (by first | rfl | assumption)) ?_
              refine OkO.nil ⟨rfl, ?_⟩
              refine OkP.step ?_
              refine OkO.move rfl rfl ?_
              refine OkO.nil ⟨rfl, ?_⟩
              refine OkP.step ?_
              refine OkO.bin rfl rfl rfl (bin_sub (by omega) (by omega)) ?_
              refine OkO.nil ⟨rfl, ?_⟩
              refine OkP.step ?_
              refine OkO.builtin rfl rfl rfl (builtin_max2 _ _) ?_
              refine OkO.nil ⟨(sco (sld rfl rfl (lda (n := 1) (by kernel_rfl) (by first | assumption | (simp (disch := first | omega | (simp only [hNw, hPt]; omega)) only [gn0, gn1, gn2, gn3, gn4, gn5, gp0, gno, gpo] <;> first | rfl | assumption | exact gp0 _ _ _ | exact gn0 _ _)) (by first | rfl | assumption)) rfl (eqr _ (by first | rfl | exact ps | exact pu | exact lpl (by assumption) | (simp [AV.plain, AV.plains, AV.cells, pc, pov])))) rfl), ?_⟩
              refine OkP.step ?_
              refine OkO.nilCheck rfl rfl ?_
              refine OkO.nil ⟨rfl, ?_⟩
              refine OkP.step ?_
              refine OkO.fieldAddr (o := 2) rfl (by kernel_rfl) rfl ?_
              refine OkO.nil ⟨rfl, ?_⟩
              refine OkP.step ?_
              refine OkO.fieldAddr (o := 1) rfl (by kernel_rfl) rfl ?_
              refine OkO.nil ⟨rfl, ?_⟩
              refine OkP.step ?_
              refine OkO.store rfl rfl rfl (storeAt_opn (n := 1) (ag := false) (by kernel_rfl) (by first | assumption | (simp (disch := first | omega | (simp only [hNw, hPt]; omega)) only [gn0, gn1, gn2, gn3, gn4, gn5, gp0, gno, gpo] <;> first | rfl | assumption | exact gp0 _ _ _ | exact gn0 _ _)) rfl (by first | rfl | assumption) (by first | rfl | exact spl_bed (j := 3) (b := bedAt cols ci ck) (b' := { bedAt cols ci ck with fh := max (bedAt cols ci ck).fl ((bedAt cols ci ck).fh - nn) }) hbed (by omega) rfl)) ?_
              refine OkO.nil ⟨rfl, ?_⟩
              refine OkP.nil ?_
              have hwx : chg we nn (bedAt cols ci ck) = { bedAt cols ci ck with fh := max (bedAt cols ci ck).fl ((bedAt cols ci ck).fh - nn) } := by unfold chg; (repeat (first | rw [if_neg (by omega)] | rw [if_pos (by omega)]))
              refine ⟨rfl, rfl, (by (try dsimp only); repeat (first | exact gg1 | apply Grow.new | (refine Grow.put ?_ _ (by first | omega | (simp only [hNw, hPt]; omega))))), ?_, by rw [gpo _ _ _ _ (by omega)]; first | assumption | (rw [gn0]; rfl) | (rw [get_put_eq] <;> rfl) | (simp (disch := first | omega | (simp only [hNw, hPt]; omega)) only [gn0, gn1, gn2, gn3, gn4, gn5, gp0, gno, gpo] <;> first | rfl | assumption | (rw [get_put_eq] <;> rfl)), by rw [gpo _ _ _ _ (fun e9 => by omega)]; first | assumption | (rw [gn0]; rfl) | (rw [get_put_eq] <;> rfl) | (simp (disch := first | omega | (simp only [hNw, hPt]; omega)) only [gn0, gn1, gn2, gn3, gn4, gn5, gp0, gno, gpo] <;> first | rfl | assumption | (rw [get_put_eq] <;> rfl)), by simp only [hNw, hPt], Has.of (by kernel_rfl)⟩
              have hO2 := ((ow.to ((Ext.refl Hx).new (.cells [.nils, I 0] 24))).putN (m := Hx.next) (.cells [ov, I least] 24) (fun h9 => by have := (ow.ge _ h9).2.1; omega) (fun q9 h9 => by have := ow.out.lt h9; omega)).setcol (c := col.set ck (chg we nn (bedAt cols ci ck))) hbB (by rw [List.length_set]; exact hcoln)
              unfold setAt; rw [hcolg]; rw [hwx] at hO2 ⊢; exact hO2
    · -- behind it
      rintro ⟨T, D, G⟩ ⟨hD, hg, hO, a0, x0, hnx, ⟨f, hT⟩⟩
      dsimp only at *
      subst hT hD
      obtain ⟨GJ, hGJ⟩ : ∃ GJ, GJ = G := ⟨_, rfl⟩
      subst hGJ
      have mO := hO.mat
      have hgn := hg.next
      refine Ok.seq ?_
      refine Ok.region ?_
      refine OkO.load rfl rfl (ldg (n := 2) (by kernel_rfl) (by first | assumption | (simp (disch := first | omega | (simp only [hNw, hPt]; omega)) only [gn0, gn1, gn2, gn3, gn4, gn5, gp0, gno, gpo] <;> first | rfl | assumption | exact gp0 _ _ _ | exact gn0 _ _)) (by first | rfl | assumption)) ?_
      refine OkO.callE rfl rfl rfl rfl rfl (c19 (m + 210) cv cols least _ (hM.ext (hE _ (by (try dsimp only); repeat (first | exact hg | apply Grow.new | (refine Grow.put ?_ _ (by first | omega | (simp only [hNw, hPt]; omega))))))) hth) ?_ -- "sackung/sackunglaw01.Slope"
      rintro _ Ha1 ⟨cv1, rfl, qa1, fa1⟩
      have n1 := qa1.ext.next
      try simp only [hNw, hPt] at n1
      have gg1 : Grow W Ha1 := Grow.ret (by (try dsimp only); repeat (first | exact hg | apply Grow.new | (refine Grow.put ?_ _ (by first | omega | (simp only [hNw, hPt]; omega))))) qa1
      have a1 : (Ha1.get (W.next)).bind AObj.cs = some [cv, I least] := by rw [qa1.ext.get _ (by first | omega | (simp only [hNw, hPt]; omega))]; first | assumption | (rw [gn0]; rfl) | (rw [get_put_eq] <;> rfl) | (simp (disch := first | omega | (simp only [hNw, hPt]; omega)) only [gn0, gn1, gn2, gn3, gn4, gn5, gp0, gno, gpo] <;> first | rfl | assumption | (rw [get_put_eq] <;> rfl))
      have x1 : (Ha1.get (Hx.next)).bind AObj.cs = some [ov, I least] := by rw [qa1.ext.get _ (by first | omega | (simp only [hNw, hPt]; omega))]; first | assumption | (rw [gn0]; rfl) | (rw [get_put_eq] <;> rfl) | (simp (disch := first | omega | (simp only [hNw, hPt]; omega)) only [gn0, gn1, gn2, gn3, gn4, gn5, gp0, gno, gpo] <;> first | rfl | assumption | (rw [get_put_eq] <;> rfl))
      have exGJ1 : Ext GJ Ha1 := Ext.trans (by (try dsimp only); repeat (first | exact Ext.refl _ | exact Ext.refl _ | apply Ext.new | (refine Ext.put ?_ _ (by first | omega | (simp only [hNw, hPt]; omega))))) qa1.ext
      have ma1 := fa1.now (Nat.le_refl _)
      refine OkO.callE rfl rfl rfl rfl rfl (c31' (m + 1) cv1 cols least _ ma1 hv) ?_ -- "sackung/slope.Worst"
      rintro _ Hw1 ⟨qw1, x1, y1, z1, e1, rfl, at1, hd1⟩
      have n2 := qw1.ext.next
      try simp only [hNw, hPt] at n2
      have gg2 : Grow W Hw1 := Grow.ret (by (try dsimp only); repeat (first | exact gg1 | apply Grow.new | (refine Grow.put ?_ _ (by first | omega | (simp only [hNw, hPt]; omega))))) qw1
      have a2 : (Hw1.get (W.next)).bind AObj.cs = some [cv, I least] := by rw [qw1.ext.get _ (by first | omega | (simp only [hNw, hPt]; omega))]; first | assumption | (rw [gn0]; rfl) | (rw [get_put_eq] <;> rfl) | (simp (disch := first | omega | (simp only [hNw, hPt]; omega)) only [gn0, gn1, gn2, gn3, gn4, gn5, gp0, gno, gpo] <;> first | rfl | assumption | (rw [get_put_eq] <;> rfl))
      have x2 : (Hw1.get (Hx.next)).bind AObj.cs = some [ov, I least] := by rw [qw1.ext.get _ (by first | omega | (simp only [hNw, hPt]; omega))]; first | assumption | (rw [gn0]; rfl) | (rw [get_put_eq] <;> rfl) | (simp (disch := first | omega | (simp only [hNw, hPt]; omega)) only [gn0, gn1, gn2, gn3, gn4, gn5, gp0, gno, gpo] <;> first | rfl | assumption | (rw [get_put_eq] <;> rfl))
      have exGJ2 : Ext GJ Hw1 := Ext.trans (by (try dsimp only); repeat (first | exact exGJ1 | exact Ext.refl _ | apply Ext.new | (refine Ext.put ?_ _ (by first | omega | (simp only [hNw, hPt]; omega))))) qw1.ext
      have w1 := worstIs_of hd1
      have he1 : e1 = 0 := by (rcases w1 with h | ⟨_, _, h⟩); (· exact h.1); (· exact absurd h hA)
      subst he1
      refine OkO.move rfl rfl ?_
      refine OkO.extract rfl rfl rfl ?_
      refine OkO.extract rfl rfl rfl ?_
      refine OkO.extract rfl rfl rfl ?_
      refine OkO.alloc (z := [.int .i64 0, .nils]) rfl (by kernel_rfl) ?_
      refine OkO.store rfl rfl rfl (stc (n := 2) (ag := true) (by kernel_rfl) (by first | assumption | (simp (disch := first | omega | (simp only [hNw, hPt]; omega)) only [gn0, gn1, gn2, gn3, gn4, gn5, gp0, gno, gpo] <;> first | rfl | assumption | exact gp0 _ _ _ | exact gn0 _ _)) rfl (by first | rfl | assumption) (by first | rfl | exact spl_set _ _ _ (by first | assumption | omega | (simp; omega)))) ?_
      refine OkO.assign rfl rfl ?_
      refine OkO.assign rfl rfl ?_
      refine OkO.nil ?_
      refine Ok.seq ?_
      refine Ok.region ?_
      refine OkO.load rfl rfl (ldg (n := 2) (by kernel_rfl) (by first | assumption | (simp (disch := first | omega | (simp only [hNw, hPt]; omega)) only [gn0, gn1, gn2, gn3, gn4, gn5, gp0, gno, gpo] <;> first | rfl | assumption | exact gp0 _ _ _ | exact gn0 _ _)) (by first | rfl | assumption)) ?_
      refine OkO.callE rfl rfl rfl rfl rfl (c19 (m + 210) ov (setAt cols ci ck (chg we nn (bedAt cols ci ck))) least _ (mO.ext (by (try dsimp only); repeat (first | exact exGJ2 | exact Ext.refl _ | apply Ext.new | (refine Ext.put ?_ _ (by first | omega | (simp only [hNw, hPt]; omega)))))) (thin_set hth hcil)) ?_ -- "sackung/sackunglaw01.Slope"
      rintro _ Ha2 ⟨cv2, rfl, qa2, fa2⟩
      have n3 := qa2.ext.next
      try simp only [hNw, hPt] at n3
      have gg3 : Grow W Ha2 := Grow.ret (by (try dsimp only); repeat (first | exact gg2 | apply Grow.new | (refine Grow.put ?_ _ (by first | omega | (simp only [hNw, hPt]; omega))))) qa2
      have a3 : (Ha2.get (W.next)).bind AObj.cs = some [cv, I least] := by rw [qa2.ext.get _ (by first | omega | (simp only [hNw, hPt]; omega))]; first | assumption | (rw [gn0]; rfl) | (rw [get_put_eq] <;> rfl) | (simp (disch := first | omega | (simp only [hNw, hPt]; omega)) only [gn0, gn1, gn2, gn3, gn4, gn5, gp0, gno, gpo] <;> first | rfl | assumption | (rw [get_put_eq] <;> rfl))
      have x3 : (Ha2.get (Hx.next)).bind AObj.cs = some [ov, I least] := by rw [qa2.ext.get _ (by first | omega | (simp only [hNw, hPt]; omega))]; first | assumption | (rw [gn0]; rfl) | (rw [get_put_eq] <;> rfl) | (simp (disch := first | omega | (simp only [hNw, hPt]; omega)) only [gn0, gn1, gn2, gn3, gn4, gn5, gp0, gno, gpo] <;> first | rfl | assumption | (rw [get_put_eq] <;> rfl))
      have exGJ3 : Ext GJ Ha2 := Ext.trans (by (try dsimp only); repeat (first | exact exGJ2 | exact Ext.refl _ | apply Ext.new | (refine Ext.put ?_ _ (by first | omega | (simp only [hNw, hPt]; omega))))) qa2.ext
      have ma2 := fa2.now (Nat.le_refl _)
      refine OkO.callE rfl rfl rfl rfl rfl (c31' (m + 1) cv2 (setAt cols ci ck (chg we nn (bedAt cols ci ck))) least _ ma2 hxok) ?_ -- "sackung/slope.Worst"
      rintro _ Hw2 ⟨qw2, x2, y2, z2, e2, rfl, at2, hd2⟩
      have n4 := qw2.ext.next
      try simp only [hNw, hPt] at n4
      have gg4 : Grow W Hw2 := Grow.ret (by (try dsimp only); repeat (first | exact gg3 | apply Grow.new | (refine Grow.put ?_ _ (by first | omega | (simp only [hNw, hPt]; omega))))) qw2
      have a4 : (Hw2.get (W.next)).bind AObj.cs = some [cv, I least] := by rw [qw2.ext.get _ (by first | omega | (simp only [hNw, hPt]; omega))]; first | assumption | (rw [gn0]; rfl) | (rw [get_put_eq] <;> rfl) | (simp (disch := first | omega | (simp only [hNw, hPt]; omega)) only [gn0, gn1, gn2, gn3, gn4, gn5, gp0, gno, gpo] <;> first | rfl | assumption | (rw [get_put_eq] <;> rfl))
      have x4 : (Hw2.get (Hx.next)).bind AObj.cs = some [ov, I least] := by rw [qw2.ext.get _ (by first | omega | (simp only [hNw, hPt]; omega))]; first | assumption | (rw [gn0]; rfl) | (rw [get_put_eq] <;> rfl) | (simp (disch := first | omega | (simp only [hNw, hPt]; omega)) only [gn0, gn1, gn2, gn3, gn4, gn5, gp0, gno, gpo] <;> first | rfl | assumption | (rw [get_put_eq] <;> rfl))
      have exGJ4 : Ext GJ Hw2 := Ext.trans (by (try dsimp only); repeat (first | exact exGJ3 | exact Ext.refl _ | apply Ext.new | (refine Ext.put ?_ _ (by first | omega | (simp only [hNw, hPt]; omega))))) qw2.ext
      have w2 := worstIs_of hd2
      have he2 : e2 = 0 := by (rcases w2 with h | ⟨_, _, h⟩); (· exact h.1); (· exact absurd h hB)
      have hzz := (worst_better hok9 (setAt_len _ _ _ _) (setAt_head hcil) hbetter w1 w2 he2).2
      subst he2
      refine OkO.move rfl rfl ?_
      refine OkO.extract rfl rfl rfl ?_
      refine OkO.extract rfl rfl rfl ?_
      refine OkO.extract rfl rfl rfl ?_
      refine OkO.alloc (z := [.int .i64 0, .nils]) rfl (by kernel_rfl) ?_
      refine OkO.store rfl rfl rfl (stc (n := 2) (ag := true) (by kernel_rfl) (by first | assumption | (simp (disch := first | omega | (simp only [hNw, hPt]; omega)) only [gn0, gn1, gn2, gn3, gn4, gn5, gp0, gno, gpo] <;> first | rfl | assumption | exact gp0 _ _ _ | exact gn0 _ _)) rfl (by first | rfl | assumption) (by first | rfl | exact spl_set _ _ _ (by first | assumption | omega | (simp; omega)))) ?_
      refine OkO.assign rfl rfl ?_
      refine OkO.assign rfl rfl ?_
      refine OkO.nil ?_
      refine Ok.seq ?_
      refine Ok.seq ?_
      refine Ok.region ?_
      refine OkO.move rfl rfl ?_
      refine OkO.bin rfl rfl rfl (bin_neq _ _) ?_
      refine OkO.move rfl rfl ?_
      refine OkO.skip rfl ?_
      refine OkO.skip rfl ?_
      refine OkO.pick (b := false) rfl rfl nofun (fun _ => rfl) ?_
      refine OkO.move rfl rfl ?_
      refine OkO.move rfl rfl ?_
      refine OkO.bin rfl rfl rfl (bin_neq _ _) ?_
      refine OkO.move rfl rfl ?_
      refine OkO.skip rfl ?_
      refine OkO.skip rfl ?_
      refine OkO.pick (b := false) rfl rfl nofun (fun _ => rfl) ?_
      refine OkO.pick (b := false) rfl rfl nofun (fun _ => rfl) ?_
      refine OkO.move rfl rfl ?_
      refine OkO.move rfl rfl ?_
      refine OkO.bin rfl rfl rfl (bin_eql _ _) ?_
      refine OkO.move rfl rfl ?_
      refine OkO.skip rfl ?_
      refine OkO.skip rfl ?_
      refine OkO.pick (b := false) rfl rfl nofun (fun _ => rfl) ?_
      refine OkO.pick (b := false) rfl rfl nofun (fun _ => rfl) ?_
      refine OkO.move rfl rfl ?_
      refine OkO.move rfl rfl ?_
      refine OkO.bin rfl rfl rfl (bin_eql _ _) ?_
      refine OkO.move rfl rfl ?_
      refine OkO.move rfl rfl ?_
      refine OkO.move rfl rfl ?_
      refine OkO.bin rfl rfl rfl (bin_lss _ _) ?_
      refine OkO.pick (b := true) rfl rfl (fun _ => rfl) nofun ?_
      refine OkO.pick (b := false) rfl rfl nofun (fun _ => rfl) ?_
      refine OkO.nil ?_
      refine Ok.cond rfl (fun h6 => ?_) (fun h6 => ?_)
      · -- yes h6
        exact absurd h6 (by simp; omega)
      · -- no h6
        refine Ok.skip ?_
        refine Ok.seq ?_
        refine Ok.seq ?_
        refine Ok.region ?_
        refine OkO.move rfl rfl ?_
        refine OkO.bin rfl rfl rfl (bin_remU8 (by omega) (by omega) (by omega)) ?_
        refine OkO.bin rfl rfl rfl (bin_eqlU8 _ _) ?_
        refine OkO.nil ?_
        refine Ok.cond rfl (fun h7 => ?_) (fun h7 => ?_)
        · -- yes h7
          refine Ok.seq ?_
          refine Ok.region ?_
          refine OkO.callV rfl rfl rfl rfl rfl (rfl) ?_ -- "sackung/sackunglaw01.wakes"
          refine OkO.assign rfl rfl ?_
          refine OkO.nil ?_
          refine Ok.ret ⟨.inr rfl, ?_⟩
          exact back_flat rfl rfl rfl (by rw [← hW]; exact (by (try dsimp only); repeat (first | exact gg4 | apply Grow.new | (refine Grow.put ?_ _ (by first | omega | (simp only [hNw, hPt]; omega))))))
        · -- no h7
          refine Ok.skip ?_
          refine Ok.seq ?_
          refine Ok.region ?_
          refine OkO.load rfl rfl (ldg (n := 2) (by kernel_rfl) (by first | assumption | (simp (disch := first | omega | (simp only [hNw, hPt]; omega)) only [gn0, gn1, gn2, gn3, gn4, gn5, gp0, gno, gpo] <;> first | rfl | assumption | exact gp0 _ _ _ | exact gn0 _ _)) (by first | rfl | assumption)) ?_
          refine OkO.move rfl rfl ?_
          refine OkO.callE rfl rfl rfl rfl rfl (c52 (m + 210) (cols.headD []).length cv wv cols least ws _ (hM.ext (hE _ (by (try dsimp only); repeat (first | exact gg4 | apply Grow.new | (refine Grow.put ?_ _ (by first | omega | (simp only [hNw, hPt]; omega))))))) (hWs.ext (hE _ (by (try dsimp only); repeat (first | exact gg4 | apply Grow.new | (refine Grow.put ?_ _ (by first | omega | (simp only [hNw, hPt]; omega))))))) hws hv rfl hlc) ?_ -- "sackung/sackunglaw01.Path"
          rintro v52 H52 ⟨fr, us, bv, rfl, q52, m52, nn52, hs, hlu⟩
          have n5 := q52.ext.next
          try simp only [hNw, hPt] at n5
          have gg5 : Grow W H52 := Grow.ret (by (try dsimp only); repeat (first | exact gg4 | apply Grow.new | (refine Grow.put ?_ _ (by first | omega | (simp only [hNw, hPt]; omega))))) q52
          have a5 : (H52.get (W.next)).bind AObj.cs = some [cv, I least] := by rw [q52.ext.get _ (by first | omega | (simp only [hNw, hPt]; omega))]; first | assumption | (rw [gn0]; rfl) | (rw [get_put_eq] <;> rfl) | (simp (disch := first | omega | (simp only [hNw, hPt]; omega)) only [gn0, gn1, gn2, gn3, gn4, gn5, gp0, gno, gpo] <;> first | rfl | assumption | (rw [get_put_eq] <;> rfl))
          have x5 : (H52.get (Hx.next)).bind AObj.cs = some [ov, I least] := by rw [q52.ext.get _ (by first | omega | (simp only [hNw, hPt]; omega))]; first | assumption | (rw [gn0]; rfl) | (rw [get_put_eq] <;> rfl) | (simp (disch := first | omega | (simp only [hNw, hPt]; omega)) only [gn0, gn1, gn2, gn3, gn4, gn5, gp0, gno, gpo] <;> first | rfl | assumption | (rw [get_put_eq] <;> rfl))
          have exGJ5 : Ext GJ H52 := Ext.trans (by (try dsimp only); repeat (first | exact exGJ4 | exact Ext.refl _ | apply Ext.new | (refine Ext.put ?_ _ (by first | omega | (simp only [hNw, hPt]; omega))))) q52.ext
          have hU : Row H52 bv 1 (us.map fun (k : Nat) => [I (k : Int)]) := Mine.row (by rw [flatN]; exact m52) (fun x hx => by simp only [List.mem_map] at hx; obtain ⟨y, _, rfl⟩ := hx; rfl) (by omega)
          refine OkO.callE rfl rfl rfl rfl rfl (c21 (m + 210) bv (fr : Int) (ofN us) _ (ints_N hU) (by rw [ofN_len]; omega)) ?_ -- "sackung/sackunglaw01.Surface"
          rintro _ Hb ⟨bvb, rfl, qb, fb⟩
          have n6 := qb.ext.next
          try simp only [hNw, hPt] at n6
          have gg6 : Grow W Hb := Grow.ret (by (try dsimp only); repeat (first | exact gg5 | apply Grow.new | (refine Grow.put ?_ _ (by first | omega | (simp only [hNw, hPt]; omega))))) qb
          have a6 : (Hb.get (W.next)).bind AObj.cs = some [cv, I least] := by rw [qb.ext.get _ (by first | omega | (simp only [hNw, hPt]; omega))]; first | assumption | (rw [gn0]; rfl) | (rw [get_put_eq] <;> rfl) | (simp (disch := first | omega | (simp only [hNw, hPt]; omega)) only [gn0, gn1, gn2, gn3, gn4, gn5, gp0, gno, gpo] <;> first | rfl | assumption | (rw [get_put_eq] <;> rfl))
          have x6 : (Hb.get (Hx.next)).bind AObj.cs = some [ov, I least] := by rw [qb.ext.get _ (by first | omega | (simp only [hNw, hPt]; omega))]; first | assumption | (rw [gn0]; rfl) | (rw [get_put_eq] <;> rfl) | (simp (disch := first | omega | (simp only [hNw, hPt]; omega)) only [gn0, gn1, gn2, gn3, gn4, gn5, gp0, gno, gpo] <;> first | rfl | assumption | (rw [get_put_eq] <;> rfl))
          have exGJ6 : Ext GJ Hb := Ext.trans (by (try dsimp only); repeat (first | exact exGJ5 | exact Ext.refl _ | apply Ext.new | (refine Ext.put ?_ _ (by first | omega | (simp only [hNw, hPt]; omega))))) qb.ext
          have ib := fb.now (Nat.le_refl _)
          have pbv := lpl ib.1.len
          have pu : AV.plain (.agg [I (fr : Int), bvb]) = true := by simp [AV.plain, AV.plains, pbv]
          have atb : atoms [I (fr : Int), bvb] = true := by (rw [atoms, atoms, ib.2.atom.1]; rfl)
          have hsx : Surf (setAt cols ci ck (chg we nn (bedAt cols ci ck))).length ((setAt cols ci ck (chg we nn (bedAt cols ci ck))).headD []).length least fr us := by rw [setAt_len, setAt_head hcil]; exact hs
          have hsp1 := span_W hv hs
          have hsp2 := span_W hxok hsx
          refine OkO.alloc (z := [.int .i64 0, .nils]) rfl (by kernel_rfl) ?_
          refine OkO.store rfl rfl rfl (stc (n := 2) (ag := true) (by kernel_rfl) (by first | assumption | (simp (disch := first | omega | (simp only [hNw, hPt]; omega)) only [gn0, gn1, gn2, gn3, gn4, gn5, gp0, gno, gpo] <;> first | rfl | assumption | exact gp0 _ _ _ | exact gn0 _ _)) rfl (by first | rfl | assumption) (by first | rfl | exact spl_set _ _ _ (by first | assumption | omega | (simp; omega)))) ?_
          refine OkO.nil ?_
          refine Ok.seq ?_
          refine Ok.drawn [(0, true, []), (2, true, []), (7, true, [2, 0]), (1, false, [2]), (3, false, [0]), (4, true, []), (5, true, []), (6, true, []), (8, false, []), (9, true, [])] (by kernel_rfl) ?_
          refine OkP.step ?_
          refine OkO.load rfl rfl (ldg (n := 2) (by kernel_rfl) (by first | assumption | (simp (disch := first | omega | (simp only [hNw, hPt]; omega)) only [gn0, gn1, gn2, gn3, gn4, gn5, gp0, gno, gpo] <;> first | rfl | assumption | exact gp0 _ _ _ | exact gn0 _ _)) (by first | rfl | assumption)) ?_
          refine OkO.nil ⟨rfl, ?_⟩
          refine OkP.step ?_
          refine OkO.load rfl rfl (ldg (n := 2) (by kernel_rfl) (by first | assumption | (simp (disch := first | omega | (simp only [hNw, hPt]; omega)) only [gn0, gn1, gn2, gn3, gn4, gn5, gp0, gno, gpo] <;> first | rfl | assumption | exact gp0 _ _ _ | exact gn0 _ _)) (by first | rfl | assumption)) ?_
          refine OkO.nil ⟨rfl, ?_⟩
          refine OkP.step ?_
          refine OkO.alloc (z := [.int .i64 0, .int .i64 0]) rfl (by kernel_rfl) ?_
          refine OkO.nil ⟨(sco (sld rfl rfl (ldg (n := 2) (by kernel_rfl) (by first | assumption | (simp (disch := first | omega | (simp only [hNw, hPt]; omega)) only [gn0, gn1, gn2, gn3, gn4, gn5, gp0, gno, gpo] <;> first | rfl | assumption | exact gp0 _ _ _ | exact gn0 _ _)) (by first | rfl | assumption)) rfl (eqr _ (by first | rfl | exact ps | exact pu | exact lpl (by assumption) | (simp [AV.plain, AV.plains, AV.cells, pc, pov])))) (sco (sld rfl rfl (ldg (n := 2) (by kernel_rfl) (by first | assumption | (simp (disch := first | omega | (simp only [hNw, hPt]; omega)) only [gn0, gn1, gn2, gn3, gn4, gn5, gp0, gno, gpo] <;> first | rfl | assumption | exact gp0 _ _ _ | exact gn0 _ _)) (by first | rfl | assumption)) rfl (eqr _ (by first | rfl | exact ps | exact pu | exact lpl (by assumption) | (simp [AV.plain, AV.plains, AV.cells, pc, pov])))) rfl)), ?_⟩
          refine OkP.step ?_
          refine OkO.callE rfl rfl rfl rfl rfl (c19 (m + 210) cv cols least _ (hM.ext (hE _ (by (try dsimp only); repeat (first | exact gg6 | apply Grow.new | (refine Grow.put ?_ _ (by first | omega | (simp only [hNw, hPt]; omega))))))) hth) ?_ -- "sackung/sackunglaw01.Slope"
          rintro _ Ha3 ⟨cv3, rfl, qa3, fa3⟩
          have n7 := qa3.ext.next
          try simp only [hNw, hPt] at n7
          have gg7 : Grow W Ha3 := Grow.ret (by (try dsimp only); repeat (first | exact gg6 | apply Grow.new | (refine Grow.put ?_ _ (by first | omega | (simp only [hNw, hPt]; omega))))) qa3
          have a7 : (Ha3.get (W.next)).bind AObj.cs = some [cv, I least] := by rw [qa3.ext.get _ (by first | omega | (simp only [hNw, hPt]; omega))]; first | assumption | (rw [gn0]; rfl) | (rw [get_put_eq] <;> rfl) | (simp (disch := first | omega | (simp only [hNw, hPt]; omega)) only [gn0, gn1, gn2, gn3, gn4, gn5, gp0, gno, gpo] <;> first | rfl | assumption | (rw [get_put_eq] <;> rfl))
          have x7 : (Ha3.get (Hx.next)).bind AObj.cs = some [ov, I least] := by rw [qa3.ext.get _ (by first | omega | (simp only [hNw, hPt]; omega))]; first | assumption | (rw [gn0]; rfl) | (rw [get_put_eq] <;> rfl) | (simp (disch := first | omega | (simp only [hNw, hPt]; omega)) only [gn0, gn1, gn2, gn3, gn4, gn5, gp0, gno, gpo] <;> first | rfl | assumption | (rw [get_put_eq] <;> rfl))
          have u7 : (Ha3.get (Hb.next)).bind AObj.cs = some [I (fr : Int), bvb] := by rw [qa3.ext.get _ (by first | omega | (simp only [hNw, hPt]; omega))]; first | assumption | (rw [gn0]; rfl) | (rw [get_put_eq] <;> rfl) | (simp (disch := first | omega | (simp only [hNw, hPt]; omega)) only [gn0, gn1, gn2, gn3, gn4, gn5, gp0, gno, gpo] <;> first | rfl | assumption | (rw [get_put_eq] <;> rfl))
          have o7 : Ha3.get (Hb.next + 1) = some (.cells [I 0, I 0] 47) := by rw [qa3.ext.get _ (by first | omega | (simp only [hNw, hPt]; omega))]; first | assumption | exact gn0 _ _ | (simp (disch := first | omega | (simp only [hNw, hPt]; omega)) only [gn0, gn1, gn2, gn3, gn4, gn5, gp0, gno, gpo] <;> first | rfl | assumption | exact gp0 _ _ _ | exact gn0 _ _)
          have exGJ7 : Ext GJ Ha3 := Ext.trans (by (try dsimp only); repeat (first | exact exGJ6 | exact Ext.refl _ | apply Ext.new | (refine Ext.put ?_ _ (by first | omega | (simp only [hNw, hPt]; omega))))) qa3.ext
          have exHb7 : Ext Hb Ha3 := Ext.trans (by (try dsimp only); repeat (first | exact Ext.refl _ | exact Ext.refl _ | apply Ext.new | (refine Ext.put ?_ _ (by first | omega | (simp only [hNw, hPt]; omega))))) qa3.ext
          have ma3 := fa3.now (Nat.le_refl _)
          refine OkO.nil ⟨(sco (sld rfl rfl (ldg (n := 2) (by kernel_rfl) (by first | assumption | (simp (disch := first | omega | (simp only [hNw, hPt]; omega)) only [gn0, gn1, gn2, gn3, gn4, gn5, gp0, gno, gpo] <;> first | rfl | assumption | exact gp0 _ _ _ | exact gn0 _ _)) (by first | rfl | assumption)) rfl (eqr _ (by first | rfl | exact ps | exact pu | exact lpl (by assumption) | (simp [AV.plain, AV.plains, AV.cells, pc, pov])))) rfl), ?_⟩
          refine OkP.step ?_
          have h27a := c27 (m + 203) cv3 bvb cols least (fr : Int) (ofN us) Ha3 ma3 (ib.1.ext (by (try dsimp only); repeat (first | exact exHb7 | exact Ext.refl _ | apply Ext.new | (refine Ext.put ?_ _ (by first | omega | (simp only [hNw, hPt]; omega)))))) (ib.2.ext (by (try dsimp only); repeat (first | exact exHb7 | exact Ext.refl _ | apply Ext.new | (refine Ext.put ?_ _ (by first | omega | (simp only [hNw, hPt]; omega)))))) (by rw [ofN_len]; omega)
          rw [hsp1] at h27a
          obtain ⟨sa, sb, se, hspv⟩ : ∃ sa sb se, spW cols fr us = (sa, sb, se) := ⟨_, _, _, rfl⟩
          rw [hspv] at h27a
          refine OkO.callV rfl rfl rfl rfl rfl (h27a) ?_ -- "sackung/slope.Span"
          refine OkO.nil ⟨(sco (sld rfl rfl (ldg (n := 2) (by kernel_rfl) (by first | assumption | (simp (disch := first | omega | (simp only [hNw, hPt]; omega)) only [gn0, gn1, gn2, gn3, gn4, gn5, gp0, gno, gpo] <;> first | rfl | assumption | exact gp0 _ _ _ | exact gn0 _ _)) (by first | rfl | assumption)) rfl (eqr _ (by first | rfl | exact ps | exact pu | exact lpl (by assumption) | (simp [AV.plain, AV.plains, AV.cells, pc, pov])))) rfl), ?_⟩
          refine OkP.step ?_
          refine OkO.move rfl rfl ?_
          refine OkO.nil ⟨rfl, ?_⟩
          refine OkP.step ?_
          refine OkO.extract rfl rfl rfl ?_
          refine OkO.nil ⟨rfl, ?_⟩
          refine OkP.step ?_
          refine OkO.extract rfl rfl rfl ?_
          refine OkO.nil ⟨rfl, ?_⟩
          refine OkP.step ?_
          refine OkO.store rfl rfl rfl (stc (n := 2) (ag := true) (by kernel_rfl) (by first | assumption | (simp (disch := first | omega | (simp only [hNw, hPt]; omega)) only [gn0, gn1, gn2, gn3, gn4, gn5, gp0, gno, gpo] <;> first | rfl | assumption | exact gp0 _ _ _ | exact gn0 _ _)) rfl (by first | rfl | assumption) (by first | rfl | exact spl_set _ _ _ (by first | assumption | omega | (simp; omega)))) ?_
          refine OkO.nil ⟨rfl, ?_⟩
          refine OkP.step ?_
          refine OkO.assign rfl rfl ?_
          refine OkO.nil ⟨rfl, ?_⟩
          refine OkP.nil ?_
          refine Ok.seq ?_
          refine Ok.drawn [(0, true, []), (2, true, []), (7, true, [2, 0]), (1, false, [2]), (3, false, [0]), (4, true, []), (5, true, []), (6, true, []), (8, false, []), (9, true, [])] (by kernel_rfl) ?_
          refine OkP.step ?_
          refine OkO.load rfl rfl (ldg (n := 2) (by kernel_rfl) (by first | assumption | (simp (disch := first | omega | (simp only [hNw, hPt]; omega)) only [gn0, gn1, gn2, gn3, gn4, gn5, gp0, gno, gpo] <;> first | rfl | assumption | exact gp0 _ _ _ | exact gn0 _ _)) (by first | rfl | assumption)) ?_
          refine OkO.nil ⟨rfl, ?_⟩
          refine OkP.step ?_
          refine OkO.load rfl rfl (ldg (n := 2) (by kernel_rfl) (by first | assumption | (simp (disch := first | omega | (simp only [hNw, hPt]; omega)) only [gn0, gn1, gn2, gn3, gn4, gn5, gp0, gno, gpo] <;> first | rfl | assumption | exact gp0 _ _ _ | exact gn0 _ _)) (by first | rfl | assumption)) ?_
          refine OkO.nil ⟨rfl, ?_⟩
          refine OkP.step ?_
          refine OkO.alloc (z := [.int .i64 0, .int .i64 0]) rfl (by kernel_rfl) ?_
          refine OkO.nil ⟨(sco (sld rfl rfl (ldg (n := 2) (by kernel_rfl) (by first | assumption | (simp (disch := first | omega | (simp only [hNw, hPt]; omega)) only [gn0, gn1, gn2, gn3, gn4, gn5, gp0, gno, gpo] <;> first | rfl | assumption | exact gp0 _ _ _ | exact gn0 _ _)) (by first | rfl | assumption)) rfl (eqr _ (by first | rfl | exact ps | exact pu | exact lpl (by assumption) | (simp [AV.plain, AV.plains, AV.cells, pc, pov])))) (sco (sld rfl rfl (ldg (n := 2) (by kernel_rfl) (by first | assumption | (simp (disch := first | omega | (simp only [hNw, hPt]; omega)) only [gn0, gn1, gn2, gn3, gn4, gn5, gp0, gno, gpo] <;> first | rfl | assumption | exact gp0 _ _ _ | exact gn0 _ _)) (by first | rfl | assumption)) rfl (eqr _ (by first | rfl | exact ps | exact pu | exact lpl (by assumption) | (simp [AV.plain, AV.plains, AV.cells, pc, pov])))) rfl)), ?_⟩
          refine OkP.step ?_
          refine OkO.callE rfl rfl rfl rfl rfl (c19 (m + 210) ov (setAt cols ci ck (chg we nn (bedAt cols ci ck))) least _ (mO.ext (by (try dsimp only); repeat (first | exact exGJ7 | exact Ext.refl _ | apply Ext.new | (refine Ext.put ?_ _ (by first | omega | (simp only [hNw, hPt]; omega)))))) (thin_set hth hcil)) ?_ -- "sackung/sackunglaw01.Slope"
          rintro _ Ha4 ⟨cv4, rfl, qa4, fa4⟩
          have n8 := qa4.ext.next
          try simp only [hNw, hPt] at n8
          have gg8 : Grow W Ha4 := Grow.ret (by (try dsimp only); repeat (first | exact gg7 | apply Grow.new | (refine Grow.put ?_ _ (by first | omega | (simp only [hNw, hPt]; omega))))) qa4
          have a8 : (Ha4.get (W.next)).bind AObj.cs = some [cv, I least] := by rw [qa4.ext.get _ (by first | omega | (simp only [hNw, hPt]; omega))]; first | assumption | (rw [gn0]; rfl) | (rw [get_put_eq] <;> rfl) | (simp (disch := first | omega | (simp only [hNw, hPt]; omega)) only [gn0, gn1, gn2, gn3, gn4, gn5, gp0, gno, gpo] <;> first | rfl | assumption | (rw [get_put_eq] <;> rfl))
          have x8 : (Ha4.get (Hx.next)).bind AObj.cs = some [ov, I least] := by rw [qa4.ext.get _ (by first | omega | (simp only [hNw, hPt]; omega))]; first | assumption | (rw [gn0]; rfl) | (rw [get_put_eq] <;> rfl) | (simp (disch := first | omega | (simp only [hNw, hPt]; omega)) only [gn0, gn1, gn2, gn3, gn4, gn5, gp0, gno, gpo] <;> first | rfl | assumption | (rw [get_put_eq] <;> rfl))
          have u8 : (Ha4.get (Hb.next)).bind AObj.cs = some [I (fr : Int), bvb] := by rw [qa4.ext.get _ (by first | omega | (simp only [hNw, hPt]; omega))]; first | assumption | (rw [gn0]; rfl) | (rw [get_put_eq] <;> rfl) | (simp (disch := first | omega | (simp only [hNw, hPt]; omega)) only [gn0, gn1, gn2, gn3, gn4, gn5, gp0, gno, gpo] <;> first | rfl | assumption | (rw [get_put_eq] <;> rfl))
          have r8 : (Ha4.get (Hb.next + 1)).bind AObj.cs = some [I sa, I sb] := by rw [qa4.ext.get _ (by first | omega | (simp only [hNw, hPt]; omega))]; first | assumption | (rw [gn0]; rfl) | (rw [get_put_eq] <;> rfl) | (simp (disch := first | omega | (simp only [hNw, hPt]; omega)) only [gn0, gn1, gn2, gn3, gn4, gn5, gp0, gno, gpo] <;> first | rfl | assumption | (rw [get_put_eq] <;> rfl))
          have q8 : Ha4.get (Ha3.next) = some (.cells [I 0, I 0] 47) := by rw [qa4.ext.get _ (by first | omega | (simp only [hNw, hPt]; omega))]; first | assumption | exact gn0 _ _ | (simp (disch := first | omega | (simp only [hNw, hPt]; omega)) only [gn0, gn1, gn2, gn3, gn4, gn5, gp0, gno, gpo] <;> first | rfl | assumption | exact gp0 _ _ _ | exact gn0 _ _)
          have exGJ8 : Ext GJ Ha4 := Ext.trans (by (try dsimp only); repeat (first | exact exGJ7 | exact Ext.refl _ | apply Ext.new | (refine Ext.put ?_ _ (by first | omega | (simp only [hNw, hPt]; omega))))) qa4.ext
          have exHb8 : Ext Hb Ha4 := Ext.trans (by (try dsimp only); repeat (first | exact exHb7 | exact Ext.refl _ | apply Ext.new | (refine Ext.put ?_ _ (by first | omega | (simp only [hNw, hPt]; omega))))) qa4.ext
          have ma4 := fa4.now (Nat.le_refl _)
          refine OkO.nil ⟨(sco (sld rfl rfl (ldg (n := 2) (by kernel_rfl) (by first | assumption | (simp (disch := first | omega | (simp only [hNw, hPt]; omega)) only [gn0, gn1, gn2, gn3, gn4, gn5, gp0, gno, gpo] <;> first | rfl | assumption | exact gp0 _ _ _ | exact gn0 _ _)) (by first | rfl | assumption)) rfl (eqr _ (by first | rfl | exact ps | exact pu | exact lpl (by assumption) | (simp [AV.plain, AV.plains, AV.cells, pc, pov])))) rfl), ?_⟩
          refine OkP.step ?_
          have h27b := c27 (m + 203) cv4 bvb (setAt cols ci ck (chg we nn (bedAt cols ci ck))) least (fr : Int) (ofN us) Ha4 ma4 (ib.1.ext (by (try dsimp only); repeat (first | exact exHb8 | exact Ext.refl _ | apply Ext.new | (refine Ext.put ?_ _ (by first | omega | (simp only [hNw, hPt]; omega)))))) (ib.2.ext (by (try dsimp only); repeat (first | exact exHb8 | exact Ext.refl _ | apply Ext.new | (refine Ext.put ?_ _ (by first | omega | (simp only [hNw, hPt]; omega)))))) (by rw [ofN_len]; omega)
          rw [hsp2] at h27b
          obtain ⟨ta, tb, te, hspw⟩ : ∃ sa sb se, spW (setAt cols ci ck (chg we nn (bedAt cols ci ck))) fr us = (sa, sb, se) := ⟨_, _, _, rfl⟩
          rw [hspw] at h27b
          have hsum := sums_better hbetter us fr
          have hbx := setAt_beds (n := 0) (k := ck) hok9 hcil hbok2
          have hn2 : ¬ we % 5 = 2 := by simpa using h7
          obtain ⟨hdq, hsq⟩ := hsum.2.2 hn2
          have hfin : se = te ∧ sa ≤ ta ∧ tb ≤ sb := by (unfold spW at hspv hspw; rw [hdq] at hspw; split at hspv); (· rename_i hdd; rw [if_pos hdd] at hspw; cases hspv; cases hspw; exact ⟨rfl, by unfold facW; rw [hdq]; exact factorOf_mono hsum.2.1 hdd, factorOf_mono hsq hdd⟩); (· rename_i hdd; rw [if_neg hdd] at hspw; cases hspv; cases hspw; exact ⟨rfl, Int.le_refl _, Int.le_refl _⟩)
          refine OkO.callV rfl rfl rfl rfl rfl (h27b) ?_ -- "sackung/slope.Span"
          refine OkO.nil ⟨(sco (sld rfl rfl (ldg (n := 2) (by kernel_rfl) (by first | assumption | (simp (disch := first | omega | (simp only [hNw, hPt]; omega)) only [gn0, gn1, gn2, gn3, gn4, gn5, gp0, gno, gpo] <;> first | rfl | assumption | exact gp0 _ _ _ | exact gn0 _ _)) (by first | rfl | assumption)) rfl (eqr _ (by first | rfl | exact ps | exact pu | exact lpl (by assumption) | (simp [AV.plain, AV.plains, AV.cells, pc, pov])))) rfl), ?_⟩
          refine OkP.step ?_
          refine OkO.move rfl rfl ?_
          refine OkO.nil ⟨rfl, ?_⟩
          refine OkP.step ?_
          refine OkO.extract rfl rfl rfl ?_
          refine OkO.nil ⟨rfl, ?_⟩
          refine OkP.step ?_
          refine OkO.extract rfl rfl rfl ?_
          refine OkO.nil ⟨rfl, ?_⟩
          refine OkP.step ?_
          refine OkO.store rfl rfl rfl (stc (n := 2) (ag := true) (by kernel_rfl) (by first | assumption | (simp (disch := first | omega | (simp only [hNw, hPt]; omega)) only [gn0, gn1, gn2, gn3, gn4, gn5, gp0, gno, gpo] <;> first | rfl | assumption | exact gp0 _ _ _ | exact gn0 _ _)) rfl (by first | rfl | assumption) (by first | rfl | exact spl_set _ _ _ (by first | assumption | omega | (simp; omega)))) ?_
          refine OkO.nil ⟨rfl, ?_⟩
          refine OkP.step ?_
          refine OkO.assign rfl rfl ?_
          refine OkO.nil ⟨rfl, ?_⟩
          refine OkP.nil ?_
          refine Ok.seq ?_
          refine Ok.region ?_
          refine OkO.move rfl rfl ?_
          refine OkO.move rfl rfl ?_
          refine OkO.bin rfl rfl rfl (bin_eql _ _) ?_
          refine OkO.move rfl rfl ?_
          refine OkO.split (d := 211) rfl (fun g8 => ?_) (fun g8 => ?_)
          · -- true g8
            refine OkO.fieldAddr (o := 0) rfl (by kernel_rfl) rfl ?_
            refine OkO.load rfl rfl (lda (n := 1) (by kernel_rfl) (by first | assumption | (simp (disch := first | omega | (simp only [hNw, hPt]; omega)) only [gn0, gn1, gn2, gn3, gn4, gn5, gp0, gno, gpo] <;> first | rfl | assumption | exact gp0 _ _ _ | exact gn0 _ _)) (by first | rfl | assumption)) ?_
            refine OkO.fieldAddr (o := 0) rfl (by kernel_rfl) rfl ?_
            refine OkO.load rfl rfl (lda (n := 1) (by kernel_rfl) (by first | assumption | (simp (disch := first | omega | (simp only [hNw, hPt]; omega)) only [gn0, gn1, gn2, gn3, gn4, gn5, gp0, gno, gpo] <;> first | rfl | assumption | exact gp0 _ _ _ | exact gn0 _ _)) (by first | rfl | assumption)) ?_
            refine OkO.bin rfl rfl rfl (bin_geq _ _) ?_
            refine OkO.pick (b := true) rfl rfl (fun _ => rfl) nofun ?_
            refine OkO.move rfl rfl ?_
            refine OkO.split (d := 218) rfl (fun g9 => ?_) (fun g9 => ?_)
            · -- true g9
              refine OkO.fieldAddr (o := 1) rfl (by kernel_rfl) rfl ?_
              refine OkO.load rfl rfl (lda (n := 1) (by kernel_rfl) (by first | assumption | (simp (disch := first | omega | (simp only [hNw, hPt]; omega)) only [gn0, gn1, gn2, gn3, gn4, gn5, gp0, gno, gpo] <;> first | rfl | assumption | exact gp0 _ _ _ | exact gn0 _ _)) (by first | rfl | assumption)) ?_
              refine OkO.fieldAddr (o := 1) rfl (by kernel_rfl) rfl ?_
              refine OkO.load rfl rfl (lda (n := 1) (by kernel_rfl) (by first | assumption | (simp (disch := first | omega | (simp only [hNw, hPt]; omega)) only [gn0, gn1, gn2, gn3, gn4, gn5, gp0, gno, gpo] <;> first | rfl | assumption | exact gp0 _ _ _ | exact gn0 _ _)) (by first | rfl | assumption)) ?_
              refine OkO.bin rfl rfl rfl (bin_leq _ _) ?_
              refine OkO.pick (b := true) rfl rfl (fun _ => rfl) nofun ?_
              refine OkO.move rfl rfl ?_
              refine OkO.split (d := 225) rfl (fun g10 => ?_) (fun g10 => ?_)
              · -- true g10
                refine OkO.callV rfl rfl rfl rfl rfl (rfl) ?_ -- "sackung/sackunglaw01.wakes"
                refine OkO.pick (b := true) rfl rfl (fun _ => rfl) nofun ?_
                refine OkO.assign rfl rfl ?_
                refine OkO.nil ?_
                refine Ok.ret ⟨.inr rfl, ?_⟩
                exact back_flat rfl rfl rfl (by rw [← hW]; exact (by (try dsimp only); repeat (first | exact gg8 | apply Grow.new | (refine Grow.put ?_ _ (by first | omega | (simp only [hNw, hPt]; omega))))))
              · -- false g10
                exact absurd g10 (by simp; omega)
            · -- false g9
              exact absurd g9 (by simp; omega)
          · -- false g8
            exact absurd g8 (by simp [hfin.1])
theorem c13B (m : Nat) (cv wv : AV) (cols : List (List Bed)) (least : Int) (ws : List Int) (co at9 we nn : Int) (H : Heap) (hM : Mat H cv cols) (hWs : Row H wv 1 (ws.map fun w => [U8 w])) (hws : Upto 255 ws) (hco : 0 ≤ co ∧ co ≤ 255) (hat : 0 ≤ at9 ∧ at9 ≤ 255) (hwe : 0 ≤ we ∧ we ≤ 255) (hnn : 0 ≤ nn ∧ nn ≤ 65535) (hth : thinB cols = true) (hv : slOk cols least = true) (hlc : least ≤ cols.length) (hrd : readyS cols least = true) {ci ck : Nat} (hci : (ci : Int) = co % (cols.length : Int)) (hck : (ck : Int) = at9 % ((cols.headD []).length : Int)) (hcil : ci < cols.length) (hckl : ck < (cols.headD []).length) (hA : ¬ NoneAt cols (cols.headD []).length least) (hB : NoneAt (setAt cols ci ck (chg we nn (bedAt cols ci ck))) ((setAt cols ci ck (chg we nn (bedAt cols ci ck))).headD []).length least) : RR (m + 213) (.fn 13 [.agg [cv, I least], wv, .int .u8 co, .int .u8 at9, .int .u8 we, U16 nn]) H = some (.bool true, H) := by
  refine (R_fn _ _ _ _ _).trans ?_
  refine fn_ok Try.func13 rfl rfl (by kernel_rfl) (by kernel_rfl) ?_
  obtain ⟨W, hW⟩ : ∃ W : Heap, W = ⟨H.t, H.next, H.next⟩ := ⟨_, rfl⟩
  have hg : ∀ n, W.get n = H.get n := fun n => by rw [hW]; rfl
  have hN : W.next = H.next := by rw [hW]
  have hE : ∀ G, Grow W G → Ext H G := fun G g => ⟨by rw [← hN]; exact g.next, fun n k => by rw [g.get n (by rw [hN]; exact k), hg]⟩
  have hG : Grow W W := Grow.refl (by rw [hW]; exact Nat.le_refl _)
  rw [← hW]
  have hlen : lenOf cv = some cols.length := by obtain ⟨vs, hR, hvl, _⟩ := hM; rw [← hvl]; simpa using hR.len
  have pc : cv.plain = true := lpl hlen
  have ps : AV.plain (.agg [cv, I least]) = true := by simp [AV.plain, AV.plains, pc]
  have hsf := slOk_facts hv
  have hok9 := bedsOk_of hv
  have hcl9 := lens_of hv
  obtain ⟨col, hcol, hbed⟩ := bedAt_get (c := ci) (k := ck) hcl9 hcil hckl
  have hcoln := hcl9 col (List.mem_of_getElem? hcol)
  have hbok := bedAt_ok hok9 ci ck
  obtain ⟨hbok2, hbet⟩ := chg_facts (w := we) (n := nn) hbok hnn.1
  have hxok := setAt_ok (k := ck) hv hcil hbok2
  have hbl := Bed.ok_lim hbok
  unfold Bed.lim at hbl
  have hcolg : cols.getD ci [] = col := by rw [List.getD_eq_getElem?_getD, hcol]; rfl
  have hbetter : ∀ c j, Better (¬ we % 5 = 2) (bedAt cols c j) (bedAt (setAt cols ci ck (chg we nn (bedAt cols ci ck))) c j) := fun c j => by (rw [bedAt_set hcl9 hcil hckl]; split); (· rename_i q; rw [q.1, q.2]; exact hbet); (· exact Better.refl _ _)
  have hm50 := Int.emod_nonneg we (b := 5) (by omega)
  have hm51 := Int.emod_lt_of_pos we (b := 5) (by omega)
  refine Ok.seq ?_
  refine Ok.region ?_
  refine OkO.box rfl rfl ?_
  refine OkO.assign rfl rfl ?_
  refine OkO.nil ?_
  refine Ok.seq ?_
  refine Ok.seq ?_
  refine Ok.region ?_
  refine OkO.load rfl rfl (ldg (n := 2) (by kernel_rfl) (by first | assumption | (simp (disch := first | omega | (simp only [hNw, hPt]; omega)) only [gn0, gn1, gn2, gn3, gn4, gn5, gp0, gno, gpo] <;> first | rfl | assumption | exact gp0 _ _ _ | exact gn0 _ _)) (by first | rfl | assumption)) ?_
  refine OkO.callV rfl rfl rfl rfl rfl ((c51 (m + 209) cv cols least _ (hM.ext (hE _ (by (try dsimp only); repeat (first | exact hG | apply Grow.new | (refine Grow.put ?_ _ (by first | omega | (simp only [hNw, hPt]; omega)))))))).trans (by rw [hrd])) ?_ -- "sackung/sackunglaw01.ready"
  refine OkO.un rfl rfl rfl ?_
  refine OkO.nil ?_
  refine Ok.cond rfl (fun h1 => ?_) (fun h1 => ?_)
  · -- yes h1
    exact absurd h1 (by simp)
  · -- no h1
    refine Ok.skip ?_
    refine Ok.seq ?_
    refine Ok.region ?_
    refine OkO.load rfl rfl (ldg (n := 2) (by kernel_rfl) (by first | assumption | (simp (disch := first | omega | (simp only [hNw, hPt]; omega)) only [gn0, gn1, gn2, gn3, gn4, gn5, gp0, gno, gpo] <;> first | rfl | assumption | exact gp0 _ _ _ | exact gn0 _ _)) (by first | rfl | assumption)) ?_
    refine OkO.callE rfl rfl rfl rfl rfl (c55 (m + 211) (cols.headD []).length cv cols least 0 _ (hM.ext (hE _ (by (try dsimp only); repeat (first | exact hG | apply Grow.new | (refine Grow.put ?_ _ (by first | omega | (simp only [hNw, hPt]; omega))))))) hcl9 hok9 (by omega) (by omega) (by omega)) ?_ -- "sackung/sackungref01.Wetter"
    rintro _ Hx ⟨ov, bs, rfl, qx, ow, nnv⟩
    have n1 := qx.ext.next
    try simp only [hNw, hPt] at n1
    have gg1 : Grow W Hx := Grow.ret (by (try dsimp only); repeat (first | exact hG | apply Grow.new | (refine Grow.put ?_ _ (by first | omega | (simp only [hNw, hPt]; omega))))) qx
    have a1 : (Hx.get (W.next)).bind AObj.cs = some [cv, I least] := by rw [qx.ext.get _ (by first | omega | (simp only [hNw, hPt]; omega))]; first | assumption | (rw [gn0]; rfl) | (rw [get_put_eq] <;> rfl) | (simp (disch := first | omega | (simp only [hNw, hPt]; omega)) only [gn0, gn1, gn2, gn3, gn4, gn5, gp0, gno, gpo] <;> first | rfl | assumption | (rw [get_put_eq] <;> rfl))
    have ow := ow.low (k1 := W.next + 1) (by first | omega | (simp only [hNw, hPt]; omega))
    rw [wetS_zero hok9] at ow
    have on := ow.out.one
    have ato : atoms [ov, I least] = true := by (rw [atoms, on.2]; rfl)
    have mx := ow.mat
    have hlo : lenOf ov = some cols.length := by obtain ⟨ws3, hR3, hwl3, _⟩ := mx; rw [← hwl3]; simpa using hR3.len
    obtain ⟨bB, hbB⟩ : ∃ bB, bs[ci]? = some bB := ⟨_, List.getElem?_eq_getElem (by rw [ow.len]; exact hcil)⟩
    obtain ⟨hB1, _⟩ := ow.col ci bB col hbB hcol
    obtain ⟨hB2, hB3, hB4⟩ := ow.ge bB (List.mem_of_getElem? hbB)
    obtain ⟨ob, oo, ocs, j1, j2, j3, j4⟩ := (Mine.row (l := (bs.map fun b => AV.opn b (cols.headD []).length).map fun x => [x]) (by rw [sing_flat]; exact ow.out) (fun x hx => by simp only [List.mem_map] at hx; obtain ⟨y, _, rfl⟩ := hx; rfl) (by omega)).at_ ci [.opn bB (cols.headD []).length] (by rw [List.getElem?_map, List.getElem?_map, hbB]; rfl)
    have j5 := seg_one j3
    have eB : (Hx.get bB).bind AObj.cs = some (col.map Bed.c).flatten := by rw [hB1]; rfl
    have pov := lpl hlo
    have hq0 := (bed_cell (j := 0) (v := I (bedAt cols ci ck).dr) hbed rfl (by omega)).2
    have hq1 := (bed_cell (j := 1) (v := I (bedAt cols ci ck).no) hbed rfl (by omega)).2
    have hq2 := (bed_cell (j := 2) (v := I (bedAt cols ci ck).fl) hbed rfl (by omega)).2
    have hq3 := (bed_cell (j := 3) (v := I (bedAt cols ci ck).fh) hbed rfl (by omega)).2
    have hq4 := (bed_cell (j := 4) (v := I (bedAt cols ci ck).cl) hbed rfl (by omega)).2
    have hq5 := (bed_cell (j := 5) (v := I (bedAt cols ci ck).ch) hbed rfl (by omega)).2
    have hq6 := (bed_cell (j := 6) (v := I (bedAt cols ci ck).wl) hbed rfl (by omega)).2
    have hq7 := (bed_cell (j := 7) (v := I (bedAt cols ci ck).wh) hbed rfl (by omega)).2
    refine OkO.alloc (z := [.nils, .int .i64 0]) rfl (by kernel_rfl) ?_
    refine OkO.store rfl rfl rfl (stc (n := 2) (ag := true) (by kernel_rfl) (by first | assumption | (simp (disch := first | omega | (simp only [hNw, hPt]; omega)) only [gn0, gn1, gn2, gn3, gn4, gn5, gp0, gno, gpo] <;> first | rfl | assumption | exact gp0 _ _ _ | exact gn0 _ _)) rfl (by first | rfl | assumption) (by first | rfl | exact spl_set _ _ _ (by first | assumption | omega | (simp; omega)))) ?_
    refine OkO.nil ?_
    refine Ok.seq ?_
    refine Ok.drawn [(0, true, []), (1, true, []), (2, true, []), (3, true, []), (4, true, []), (5, true, []), (6, true, []), (7, true, []), (8, true, []), (9, true, []), (10, true, [])] (by kernel_rfl) ?_
    refine OkP.step ?_
    refine OkO.fieldAddr (o := 0) rfl (by kernel_rfl) rfl ?_
    refine OkO.nil ⟨rfl, ?_⟩
    refine OkP.step ?_
    refine OkO.load rfl rfl (lda (n := 1) (by kernel_rfl) (by first | assumption | (simp (disch := first | omega | (simp only [hNw, hPt]; omega)) only [gn0, gn1, gn2, gn3, gn4, gn5, gp0, gno, gpo] <;> first | rfl | assumption | exact gp0 _ _ _ | exact gn0 _ _)) (by first | rfl | assumption)) ?_
    refine OkO.nil ⟨rfl, ?_⟩
    refine OkP.step ?_
    refine OkO.move rfl rfl ?_
    refine OkO.nil ⟨rfl, ?_⟩
    refine OkP.step ?_
    refine OkO.convert (k := .i64) rfl (by kernel_rfl) rfl (wrapF_i64 (by omega) (by omega)) ?_
    refine OkO.nil ⟨rfl, ?_⟩
    refine OkP.step ?_
    refine OkO.fieldAddr (o := 0) rfl (by kernel_rfl) rfl ?_
    refine OkO.nil ⟨rfl, ?_⟩
    refine OkP.step ?_
    refine OkO.load rfl rfl (lda (n := 1) (by kernel_rfl) (by first | assumption | (simp (disch := first | omega | (simp only [hNw, hPt]; omega)) only [gn0, gn1, gn2, gn3, gn4, gn5, gp0, gno, gpo] <;> first | rfl | assumption | exact gp0 _ _ _ | exact gn0 _ _)) (by first | rfl | assumption)) ?_
    refine OkO.nil ⟨rfl, ?_⟩
    refine OkP.step ?_
    refine OkO.builtin rfl rfl rfl (bln (by kernel_rfl) (by first | assumption | rfl)) ?_
    refine OkO.nil ⟨rfl, ?_⟩
    refine OkP.step ?_
    refine OkO.bin rfl rfl rfl (bin_rem (by omega) (by omega)) ?_
    refine OkO.nil ⟨rfl, ?_⟩
    refine OkP.step ?_
    refine OkO.index (sz := 1) (n := ci) rfl rfl (congrArg (fun z => some (I z)) hci.symm) (by kernel_rfl) (by first | assumption | rfl | exact slAt_slice (by omega) | exact slAt_opn (by omega)) ?_ -- index ('Go.Operand.tmp', 35) ('Go.Operand.tmp', 41)
    refine OkO.nil ⟨rfl, ?_⟩
    refine OkP.step ?_
    refine OkO.load rfl rfl (lda (n := 1) (by kernel_rfl) (by first | assumption | (simp (disch := first | omega | (simp only [hNw, hPt]; omega)) only [gn0, gn1, gn2, gn3, gn4, gn5, gp0, gno, gpo] <;> first | rfl | assumption | exact gp0 _ _ _ | exact gn0 _ _)) (by first | rfl | assumption)) ?_
    refine OkO.nil ⟨rfl, ?_⟩
    refine OkP.step ?_
    refine OkO.assign rfl rfl ?_
    refine OkO.nil ⟨rfl, ?_⟩
    refine OkP.nil ?_
    refine Ok.seq ?_
    refine Ok.region ?_
    refine OkO.move rfl rfl ?_
    refine OkO.move rfl rfl ?_
    refine OkO.convert (k := .i64) rfl (by kernel_rfl) rfl (wrapF_i64 (by omega) (by omega)) ?_
    refine OkO.move rfl rfl ?_
    refine OkO.builtin rfl rfl rfl (bln (by kernel_rfl) (by first | assumption | rfl)) ?_
    refine OkO.bin rfl rfl rfl (bin_rem (by omega) (by omega)) ?_
    refine OkO.index (sz := 8) (n := ck) rfl rfl (congrArg (fun z => some (I z)) hck.symm) (by kernel_rfl) (by first | assumption | rfl | exact slAt_slice (by omega) | exact slAt_opn (by omega)) ?_ -- index ('Go.Operand.tmp', 44) ('Go.Operand.tmp', 49)
    refine OkO.assign rfl rfl ?_
    refine OkO.nil ?_
    refine Ok.seq ?_
    refine Ok.region ?_
    refine OkO.move rfl rfl ?_
    refine OkO.convert (k := .i64) rfl (by kernel_rfl) rfl (wrapF_i64 (by omega) (by omega)) ?_
    refine OkO.assign rfl rfl ?_
    refine OkO.nil ?_
    refine Ok.join (fun s => s.D = [] ∧ Grow W s.H ∧ OwnS (W.next + 1) s.H ov (cols.headD []).length (setAt cols ci ck (chg we nn (bedAt cols ci ck))) bs ∧ (s.H.get W.next).bind AObj.cs = some [cv, I least] ∧ (s.H.get Hx.next).bind AObj.cs = some [ov, I least] ∧ s.H.next = Hx.next + 1 ∧ Has 8 [(1, wv), (4, .int .u8 we), (6, .ptr W.next 0), (13, .ptr Hx.next 0)] s.T) ?_ ?_
    · -- to the meeting
      refine Ok.seq ?_
      refine Ok.region ?_
      refine OkO.move rfl rfl ?_
      refine OkO.bin rfl rfl rfl (bin_remU8 (by omega) (by omega) (by omega)) ?_
      refine OkO.nil ?_
      refine Ok.block ?_
      refine Ok.seq ?_
      refine Ok.region ?_
      refine OkO.bin rfl rfl rfl (bin_eqlU8 _ _) ?_
      refine OkO.assign rfl rfl ?_
      refine OkO.nil ?_
      refine Ok.cond rfl (fun h2 => ?_) (fun h2 => ?_)
      · -- yes h2
        have h50 : we % 5 = 0 := by simpa using h2
        refine Ok.drawn [(0, true, []), (1, true, []), (2, true, []), (3, true, []), (4, true, []), (5, true, []), (6, true, []), (7, true, []), (8, true, []), (9, true, []), (10, true, []), (11, true, []), (12, true, []), (13, false, [10]), (14, true, []), (15, true, []), (16, true, []), (17, false, [])] (by kernel_rfl) ?_
        refine OkP.step ?_
        refine OkO.move rfl rfl ?_
        refine OkO.nil ⟨rfl, ?_⟩
        refine OkP.step ?_
        refine OkO.move rfl rfl ?_
        refine OkO.nil ⟨rfl, ?_⟩
        refine OkP.step ?_
        refine OkO.nilCheck rfl rfl ?_
        refine OkO.nil ⟨rfl, ?_⟩
        refine OkP.step ?_
        refine OkO.fieldAddr (o := 2) rfl (by kernel_rfl) rfl ?_
        refine OkO.nil ⟨rfl, ?_⟩
        refine OkP.step ?_
        refine OkO.fieldAddr (o := 1) rfl (by kernel_rfl) rfl ?_
        refine OkO.nil ⟨rfl, ?_⟩
        refine OkP.step ?_
        refine OkO.load rfl rfl (lda (n := 1) (by kernel_rfl) (by first | assumption | (simp (disch := first | omega | (simp only [hNw, hPt]; omega)) only [gn0, gn1, gn2, gn3, gn4, gn5, gp0, gno, gpo] <;> first | rfl | assumption | exact gp0 _ _ _ | exact gn0 _ _)) (by first | rfl | assumption)) ?_
        refine OkO.nil ⟨rfl, ?_⟩
        refine OkP.step ?_
        refine OkO.move rfl rfl ?_
        refine OkO.nil ⟨rfl, ?_⟩
        refine OkP.step ?_
        refine OkO.nilCheck rfl rfl ?_
        refine OkO.nil ⟨rfl, ?_⟩
        refine OkP.step ?_
        refine OkO.fieldAddr (o := 2) rfl (by kernel_rfl) rfl ?_
        refine OkO.nil ⟨rfl, ?_⟩
        refine OkP.step ?_
        refine OkO.fieldAddr (o := 0) rfl (by kernel_rfl) rfl ?_
        refine OkO.nil ⟨rfl, ?_⟩
        refine OkP.step ?_
        refine OkO.load rfl rfl (lda (n := 1) (by kernel_rfl) (by first | assumption | (simp (disch := first | omega | (simp only [hNw, hPt]; omega)) only [gn0, gn1, gn2, gn3, gn4, gn5, gp0, gno, gpo] <;> first | rfl | assumption | exact gp0 _ _ _ | exact gn0 _ _)) (by first | rfl | assumption)) ?_
        refine OkO.nil ⟨rfl, ?_⟩
        refine OkP.step ?_
        refine OkO.move rfl rfl ?_
        refine OkO.nil ⟨rfl, ?_⟩
        refine OkP.step ?_
        refine OkO.bin rfl rfl rfl (bin_add (by omega) (by omega)) ?_
        refine OkO.nil ⟨rfl, ?_⟩
        refine OkP.step ?_
        refine OkO.builtin rfl rfl rfl (builtin_min2 _ _) ?_
        refine OkO.nil ⟨(sco (sld rfl rfl (lda (n := 1) (by kernel_rfl) (by first | assumption | (simp (disch := first | omega | (simp only [hNw, hPt]; omega)) only [gn0, gn1, gn2, gn3, gn4, gn5, gp0, gno, gpo] <;> first | rfl | assumption | exact gp0 _ _ _ | exact gn0 _ _)) (by first | rfl | assumption)) rfl (eqr _ (by first | rfl | exact ps | exact pu | exact lpl (by assumption) | (simp [AV.plain, AV.plains, AV.cells, pc, pov])))) rfl), ?_⟩
        refine OkP.step ?_
        refine OkO.nilCheck rfl rfl ?_
        refine OkO.nil ⟨rfl, ?_⟩
        refine OkP.step ?_
        refine OkO.fieldAddr (o := 2) rfl (by kernel_rfl) rfl ?_
        refine OkO.nil ⟨rfl, ?_⟩
        refine OkP.step ?_
        refine OkO.fieldAddr (o := 0) rfl (by kernel_rfl) rfl ?_
        refine OkO.nil ⟨rfl, ?_⟩
        refine OkP.step ?_
        refine OkO.store rfl rfl rfl (storeAt_opn (n := 1) (ag := false) (by kernel_rfl) (by first | assumption | (simp (disch := first | omega | (simp only [hNw, hPt]; omega)) only [gn0, gn1, gn2, gn3, gn4, gn5, gp0, gno, gpo] <;> first | rfl | assumption | exact gp0 _ _ _ | exact gn0 _ _)) rfl (by first | rfl | assumption) (by first | rfl | exact spl_bed (j := 2) (b := bedAt cols ci ck) (b' := { bedAt cols ci ck with fl := min (bedAt cols ci ck).fh ((bedAt cols ci ck).fl + nn) }) hbed (by omega) rfl)) ?_
        refine OkO.nil ⟨rfl, ?_⟩
        refine OkP.nil ?_
        have hwx : chg we nn (bedAt cols ci ck) = { bedAt cols ci ck with fl := min (bedAt cols ci ck).fh ((bedAt cols ci ck).fl + nn) } := by unfold chg; (repeat (first | rw [if_neg (by omega)] | rw [if_pos (by omega)]))
        refine ⟨rfl, rfl, (by (try dsimp only); repeat (first | exact gg1 | apply Grow.new | (refine Grow.put ?_ _ (by first | omega | (simp only [hNw, hPt]; omega))))), ?_, by rw [gpo _ _ _ _ (by omega)]; first | assumption | (rw [gn0]; rfl) | (rw [get_put_eq] <;> rfl) | (simp (disch := first | omega | (simp only [hNw, hPt]; omega)) only [gn0, gn1, gn2, gn3, gn4, gn5, gp0, gno, gpo] <;> first | rfl | assumption | (rw [get_put_eq] <;> rfl)), by rw [gpo _ _ _ _ (fun e9 => by omega)]; first | assumption | (rw [gn0]; rfl) | (rw [get_put_eq] <;> rfl) | (simp (disch := first | omega | (simp only [hNw, hPt]; omega)) only [gn0, gn1, gn2, gn3, gn4, gn5, gp0, gno, gpo] <;> first | rfl | assumption | (rw [get_put_eq] <;> rfl)), by simp only [hNw, hPt], Has.of (by kernel_rfl)⟩
        have hO2 := ((ow.to ((Ext.refl Hx).new (.cells [.nils, I 0] 24))).putN (m := Hx.next) (.cells [ov, I least] 24) (fun h9 => by have := (ow.ge _ h9).2.1; omega) (fun q9 h9 => by have := ow.out.lt h9; omega)).setcol (c := col.set ck (chg we nn (bedAt cols ci ck))) hbB (by rw [List.length_set]; exact hcoln)
        unfold setAt; rw [hcolg]; rw [hwx] at hO2 ⊢; exact hO2
      · -- no h2
        have h50 : ¬ we % 5 = 0 := by simpa using h2
        refine Ok.seq ?_
        refine Ok.region ?_
        refine OkO.bin rfl rfl rfl (bin_eqlU8 _ _) ?_
        refine OkO.assign rfl rfl ?_
        refine OkO.nil ?_
        refine Ok.cond rfl (fun h3 => ?_) (fun h3 => ?_)
        · -- yes h3
          have h51 : we % 5 = 1 := by simpa using h3
          refine Ok.drawn [(0, true, []), (1, true, []), (2, true, []), (3, true, []), (4, true, []), (5, true, []), (6, true, []), (7, true, []), (8, true, []), (9, true, []), (10, true, []), (11, true, []), (12, true, []), (13, false, [10]), (14, true, []), (15, true, []), (16, true, []), (17, false, [])] (by kernel_rfl) ?_
          refine OkP.step ?_
          refine OkO.move rfl rfl ?_
          refine OkO.nil ⟨rfl, ?_⟩
          refine OkP.step ?_
          refine OkO.move rfl rfl ?_
          refine OkO.nil ⟨rfl, ?_⟩
          refine OkP.step ?_
          refine OkO.nilCheck rfl rfl ?_
          refine OkO.nil ⟨rfl, ?_⟩
          refine OkP.step ?_
          refine OkO.fieldAddr (o := 4) rfl (by kernel_rfl) rfl ?_
          refine OkO.nil ⟨rfl, ?_⟩
          refine OkP.step ?_
          refine OkO.fieldAddr (o := 1) rfl (by kernel_rfl) rfl ?_
          refine OkO.nil ⟨rfl, ?_⟩
          refine OkP.step ?_
          refine OkO.load rfl rfl (lda (n := 1) (by kernel_rfl) (by first | assumption | (simp (disch := first | omega | (simp only [hNw, hPt]; omega)) only [gn0, gn1, gn2, gn3, gn4, gn5, gp0, gno, gpo] <;> first | rfl | assumption | exact gp0 _ _ _ | exact gn0 _ _)) (by first | rfl | assumption)) ?_
          refine OkO.nil ⟨rfl, ?_⟩
          refine OkP.step ?_
          refine OkO.move rfl rfl ?_
          refine OkO.nil ⟨rfl, ?_⟩
          refine OkP.step ?_
          refine OkO.nilCheck rfl rfl ?_
          refine OkO.nil ⟨rfl, ?_⟩
          refine OkP.step ?_
          refine OkO.fieldAddr (o := 4) rfl (by kernel_rfl) rfl ?_
          refine OkO.nil ⟨rfl, ?_⟩
          refine OkP.step ?_
          refine OkO.fieldAddr (o := 0) rfl (by kernel_rfl) rfl ?_
          refine OkO.nil ⟨rfl, ?_⟩
          refine OkP.step ?_
          refine OkO.load rfl rfl (lda (n := 1) (by kernel_rfl) (by first | assumption | (simp (disch := first | omega | (simp only [hNw, hPt]; omega)) only [gn0, gn1, gn2, gn3, gn4, gn5, gp0, gno, gpo] <;> first | rfl | assumption | exact gp0 _ _ _ | exact gn0 _ _)) (by first | rfl | assumption)) ?_
          refine OkO.nil ⟨rfl, ?_⟩
          refine OkP.step ?_
          refine OkO.move rfl rfl ?_
          refine OkO.nil ⟨rfl, ?_⟩
          refine OkP.step ?_
          refine OkO.bin rfl rfl rfl (bin_add (by omega) (by omega)) ?_
          refine OkO.nil ⟨rfl, ?_⟩
          refine OkP.step ?_
          refine OkO.builtin rfl rfl rfl (builtin_min2 _ _) ?_
          refine OkO.nil ⟨(sco (sld rfl rfl (lda (n := 1) (by kernel_rfl) (by first | assumption | (simp (disch := first | omega | (simp only [hNw, hPt]; omega)) only [gn0, gn1, gn2, gn3, gn4, gn5, gp0, gno, gpo] <;> first | rfl | assumption | exact gp0 _ _ _ | exact gn0 _ _)) (by first | rfl | assumption)) rfl (eqr _ (by first | rfl | exact ps | exact pu | exact lpl (by assumption) | (simp [AV.plain, AV.plains, AV.cells, pc, pov])))) rfl), ?_⟩
          refine OkP.step ?_
          refine OkO.nilCheck rfl rfl ?_
          refine OkO.nil ⟨rfl, ?_⟩
          refine OkP.step ?_
          refine OkO.fieldAddr (o := 4) rfl (by kernel_rfl) rfl ?_
          refine OkO.nil ⟨rfl, ?_⟩
          refine OkP.step ?_
          refine OkO.fieldAddr (o := 0) rfl (by kernel_rfl) rfl ?_
          refine OkO.nil ⟨rfl, ?_⟩
          refine OkP.step ?_
          refine OkO.store rfl rfl rfl (storeAt_opn (n := 1) (ag := false) (by kernel_rfl) (by first | assumption | (simp (disch := first | omega | (simp only [hNw, hPt]; omega)) only [gn0, gn1, gn2, gn3, gn4, gn5, gp0, gno, gpo] <;> first | rfl | assumption | exact gp0 _ _ _ | exact gn0 _ _)) rfl (by first | rfl | assumption) (by first | rfl | exact spl_bed (j := 4) (b := bedAt cols ci ck) (b' := { bedAt cols ci ck with cl := min (bedAt cols ci ck).ch ((bedAt cols ci ck).cl + nn) }) hbed (by omega) rfl)) ?_
          refine OkO.nil ⟨rfl, ?_⟩
          refine OkP.nil ?_
          have hwx : chg we nn (bedAt cols ci ck) = { bedAt cols ci ck with cl := min (bedAt cols ci ck).ch ((bedAt cols ci ck).cl + nn) } := by unfold chg; (repeat (first | rw [if_neg (by omega)] | rw [if_pos (by omega)]))
          refine ⟨rfl, rfl, (by (try dsimp only); repeat (first | exact gg1 | apply Grow.new | (refine Grow.put ?_ _ (by first | omega | (simp only [hNw, hPt]; omega))))), ?_, by rw [gpo _ _ _ _ (by omega)]; first | assumption | (rw [gn0]; rfl) | (rw [get_put_eq] <;> rfl) | (simp (disch := first | omega | (simp only [hNw, hPt]; omega)) only [gn0, gn1, gn2, gn3, gn4, gn5, gp0, gno, gpo] <;> first | rfl | assumption | (rw [get_put_eq] <;> rfl)), by rw [gpo _ _ _ _ (fun e9 => by omega)]; first | assumption | (rw [gn0]; rfl) | (rw [get_put_eq] <;> rfl) | (simp (disch := first | omega | (simp only [hNw, hPt]; omega)) only [gn0, gn1, gn2, gn3, gn4, gn5, gp0, gno, gpo] <;> first | rfl | assumption | (rw [get_put_eq] <;> rfl)), by simp only [hNw, hPt], Has.of (by kernel_rfl)⟩
          have hO2 := ((ow.to ((Ext.refl Hx).new (.cells [.nils, I 0] 24))).putN (m := Hx.next) (.cells [ov, I least] 24) (fun h9 => by have := (ow.ge _ h9).2.1; omega) (fun q9 h9 => by have := ow.out.lt h9; omega)).setcol (c := col.set ck (chg we nn (bedAt cols ci ck))) hbB (by rw [List.length_set]; exact hcoln)
          unfold setAt; rw [hcolg]; rw [hwx] at hO2 ⊢; exact hO2
        · -- no h3
          have h51 : ¬ we % 5 = 1 := by simpa using h3
          refine Ok.seq ?_
          refine Ok.region ?_
          refine OkO.bin rfl rfl rfl (bin_eqlU8 _ _) ?_
          refine OkO.assign rfl rfl ?_
          refine OkO.nil ?_
          refine Ok.cond rfl (fun h4 => ?_) (fun h4 => ?_)
          · -- yes h4
            have h52 : we % 5 = 2 := by simpa using h4
            refine Ok.region ?_
            refine OkO.move rfl rfl ?_
            refine OkO.move rfl rfl ?_
            refine OkO.nilCheck rfl rfl ?_
            refine OkO.fieldAddr (o := 0) rfl (by kernel_rfl) rfl ?_
            refine OkO.load rfl rfl (lda (n := 1) (by kernel_rfl) (by first | assumption | (simp (disch := first | omega | (simp only [hNw, hPt]; omega)) only [gn0, gn1, gn2, gn3, gn4, gn5, gp0, gno, gpo] <;> first | rfl | assumption | exact gp0 _ _ _ | exact gn0 _ _)) (by first | rfl | assumption)) ?_
            refine OkO.move rfl rfl ?_
            refine OkO.bin rfl rfl rfl (bin_sub (by omega) (by omega)) ?_
            refine OkO.builtin rfl rfl rfl (builtin_max2 _ _) ?_
            refine OkO.nilCheck rfl rfl ?_
            refine OkO.fieldAddr (o := 0) rfl (by kernel_rfl) rfl ?_
            refine OkO.store rfl rfl rfl (storeAt_opn (n := 1) (ag := false) (by kernel_rfl) (by first | assumption | (simp (disch := first | omega | (simp only [hNw, hPt]; omega)) only [gn0, gn1, gn2, gn3, gn4, gn5, gp0, gno, gpo] <;> first | rfl | assumption | exact gp0 _ _ _ | exact gn0 _ _)) rfl (by first | rfl | assumption) (by first | rfl | exact spl_bed (j := 0) (b := bedAt cols ci ck) (b' := { bedAt cols ci ck with dr := max (-100000) ((bedAt cols ci ck).dr - nn) }) hbed (by omega) rfl)) ?_
            refine OkO.nil ?_
            have hwx : chg we nn (bedAt cols ci ck) = { bedAt cols ci ck with dr := max (-100000) ((bedAt cols ci ck).dr - nn) } := by unfold chg; (repeat (first | rw [if_neg (by omega)] | rw [if_pos (by omega)]))
            refine ⟨rfl, rfl, (by (try dsimp only); repeat (first | exact gg1 | apply Grow.new | (refine Grow.put ?_ _ (by first | omega | (simp only [hNw, hPt]; omega))))), ?_, by rw [gpo _ _ _ _ (by omega)]; first | assumption | (rw [gn0]; rfl) | (rw [get_put_eq] <;> rfl) | (simp (disch := first | omega | (simp only [hNw, hPt]; omega)) only [gn0, gn1, gn2, gn3, gn4, gn5, gp0, gno, gpo] <;> first | rfl | assumption | (rw [get_put_eq] <;> rfl)), by rw [gpo _ _ _ _ (fun e9 => by omega)]; first | assumption | (rw [gn0]; rfl) | (rw [get_put_eq] <;> rfl) | (simp (disch := first | omega | (simp only [hNw, hPt]; omega)) only [gn0, gn1, gn2, gn3, gn4, gn5, gp0, gno, gpo] <;> first | rfl | assumption | (rw [get_put_eq] <;> rfl)), by simp only [hNw, hPt], Has.of (by kernel_rfl)⟩
            have hO2 := ((ow.to ((Ext.refl Hx).new (.cells [.nils, I 0] 24))).putN (m := Hx.next) (.cells [ov, I least] 24) (fun h9 => by have := (ow.ge _ h9).2.1; omega) (fun q9 h9 => by have := ow.out.lt h9; omega)).setcol (c := col.set ck (chg we nn (bedAt cols ci ck))) hbB (by rw [List.length_set]; exact hcoln)
            unfold setAt; rw [hcolg]; rw [hwx] at hO2 ⊢; exact hO2
          · -- no h4
            have h52 : ¬ we % 5 = 2 := by simpa using h4
            refine Ok.seq ?_
            refine Ok.region ?_
            refine OkO.bin rfl rfl rfl (bin_eqlU8 _ _) ?_
            refine OkO.assign rfl rfl ?_
            refine OkO.nil ?_
            refine Ok.cond rfl (fun h5 => ?_) (fun h5 => ?_)
            · -- yes h5
              have h53 : we % 5 = 3 := by simpa using h5
              refine Ok.drawn [(0, true, []), (1, true, []), (2, true, []), (3, true, []), (4, true, []), (5, true, []), (6, true, []), (7, true, []), (8, true, []), (9, true, []), (10, true, []), (11, true, []), (12, true, []), (13, false, [10]), (14, true, []), (15, true, []), (16, true, []), (17, false, [])] (by kernel_rfl) ?_
              refine OkP.step ?_
              refine OkO.move rfl rfl ?_
              refine OkO.nil ⟨rfl, ?_⟩
              refine OkP.step ?_
              refine OkO.move rfl rfl ?_
              refine OkO.nil ⟨rfl, ?_⟩
              refine OkP.step ?_
              refine OkO.nilCheck rfl rfl ?_
              refine OkO.nil ⟨rfl, ?_⟩
              refine OkP.step ?_
              refine OkO.fieldAddr (o := 6) rfl (by kernel_rfl) rfl ?_
              refine OkO.nil ⟨rfl, ?_⟩
              refine OkP.step ?_
              refine OkO.fieldAddr (o := 0) rfl (by kernel_rfl) rfl ?_
              refine OkO.nil ⟨rfl, ?_⟩
              refine OkP.step ?_
              refine OkO.load rfl rfl (lda (n := 1) (by kernel_rfl) (by first | assumption | (simp (disch := first | omega | (simp only [hNw, hPt]; omega)) only [gn0, gn1, gn2, gn3, gn4, gn5, gp0, gno, gpo] <;> first | rfl | assumption | exact gp0 _ _ _ | exact gn0 _ _)) (by first | rfl | assumption)) ?_
              refine OkO.nil ⟨rfl, ?_⟩
              refine OkP.step ?_
              refine OkO.move rfl rfl ?_
              refine OkO.nil ⟨rfl, ?_⟩
              refine OkP.step ?_
              refine OkO.nilCheck rfl rfl ?_
              refine OkO.nil ⟨rfl, ?_⟩
              refine OkP.step ?_
              refine OkO.fieldAddr (o := 6) rfl (by kernel_rfl) rfl ?_
              refine OkO.nil ⟨rfl, ?_⟩
              refine OkP.step ?_
              refine OkO.fieldAddr (o := 1) rfl (by kernel_rfl) rfl ?_
              refine OkO.nil ⟨rfl, ?_⟩
              refine OkP.step ?_
              refine OkO.load rfl rfl (lda (n := 1) (by kernel_rfl) (by first | assumption | (simp (disch := first | omega | (simp only [hNw, hPt]; omega)) only [gn0, gn1, gn2, gn3, gn4, gn5, gp0, gno, gpo] <;> first | rfl | assumption | exact gp0 _ _ _ | exact gn0 _ _)) (by first | rfl | assumption)) ?_
              refine OkO.nil ⟨rfl, ?_⟩
              refine OkP.step ?_
              refine OkO.move rfl rfl ?_
              refine OkO.nil ⟨rfl, ?_⟩
              refine OkP.step ?_
              refine OkO.bin rfl rfl rfl (bin_sub (by omega) (by omega)) ?_
              refine OkO.nil ⟨rfl, ?_⟩
              refine OkP.step ?_
              refine OkO.builtin rfl rfl rfl (builtin_max2 _ _) ?_
              refine OkO.nil ⟨(sco (sld rfl rfl (lda (n := 1) (by kernel_rfl) (by first | assumption | (simp (disch := first | omega | (simp only [hNw, hPt]; omega)) only [gn0, gn1, gn2, gn3, gn4, gn5, gp0, gno, gpo] <;> first | rfl | assumption | exact gp0 _ _ _ | exact gn0 _ _)) (by first | rfl | assumption)) rfl (eqr _ (by first | rfl | exact ps | exact pu | exact lpl (by assumption) | (simp [AV.plain, AV.plains, AV.cells, pc, pov])))) rfl), ?_⟩
              refine OkP.step ?_
              refine OkO.nilCheck rfl rfl ?_
              refine OkO.nil ⟨rfl, ?_⟩
              refine OkP.step ?_
              refine OkO.fieldAddr (o := 6) rfl (by kernel_rfl) rfl ?_
              refine OkO.nil ⟨rfl, ?_⟩
              refine OkP.step ?_
              refine OkO.fieldAddr (o := 1) rfl (by kernel_rfl) rfl ?_
              refine OkO.nil ⟨rfl, ?_⟩
              refine OkP.step ?_
              refine OkO.store rfl rfl rfl (storeAt_opn (n := 1) (ag := false) (by kernel_rfl) (by first | assumption | (simp (disch := first | omega | (simp only [hNw, hPt]; omega)) only [gn0, gn1, gn2, gn3, gn4, gn5, gp0, gno, gpo] <;> first | rfl | assumption | exact gp0 _ _ _ | exact gn0 _ _)) rfl (by first | rfl | assumption) (by first | rfl | exact spl_bed (j := 7) (b := bedAt cols ci ck) (b' := { bedAt cols ci ck with wh := max (bedAt cols ci ck).wl ((bedAt cols ci ck).wh - nn) }) hbed (by omega) rfl)) ?_
              refine OkO.nil ⟨rfl, ?_⟩
              refine OkP.nil ?_
              have hwx : chg we nn (bedAt cols ci ck) = { bedAt cols ci ck with wh := max (bedAt cols ci ck).wl ((bedAt cols ci ck).wh - nn) } := by unfold chg; (repeat (first | rw [if_neg (by omega)] | rw [if_pos (by omega)]))
              refine ⟨rfl, rfl, (by (try dsimp only); repeat (first | exact gg1 | apply Grow.new | (refine Grow.put ?_ _ (by first | omega | (simp only [hNw, hPt]; omega))))), ?_, by rw [gpo _ _ _ _ (by omega)]; first | assumption | (rw [gn0]; rfl) | (rw [get_put_eq] <;> rfl) | (simp (disch := first | omega | (simp only [hNw, hPt]; omega)) only [gn0, gn1, gn2, gn3, gn4, gn5, gp0, gno, gpo] <;> first | rfl | assumption | (rw [get_put_eq] <;> rfl)), by rw [gpo _ _ _ _ (fun e9 => by omega)]; first | assumption | (rw [gn0]; rfl) | (rw [get_put_eq] <;> rfl) | (simp (disch := first | omega | (simp only [hNw, hPt]; omega)) only [gn0, gn1, gn2, gn3, gn4, gn5, gp0, gno, gpo] <;> first | rfl | assumption | (rw [get_put_eq] <;> rfl)), by simp only [hNw, hPt], Has.of (by kernel_rfl)⟩
              have hO2 := ((ow.to ((Ext.refl Hx).new (.cells [.nils, I 0] 24))).putN (m := Hx.next) (.cells [ov, I least] 24) (fun h9 => by have := (ow.ge _ h9).2.1; omega) (fun q9 h9 => by have := ow.out.lt h9; omega)).setcol (c := col.set ck (chg we nn (bedAt cols ci ck))) hbB (by rw [List.length_set]; exact hcoln)
              unfold setAt; rw [hcolg]; rw [hwx] at hO2 ⊢; exact hO2
            · -- no h5
              have h53 : ¬ we % 5 = 3 := by simpa using h5
              refine Ok.drawn [(0, true, []), (1, true, []), (2, true, []), (3, true, []), (4, true, []), (5, true, []), (6, true, []), (7, true, []), (8, true, []), (9, true, []), (10, true, []), (11, true, []), (12, true, []), (13, false, [10]), (14, true, []), (15, true, []), (16, true, []), (17, false, [])] (by kernel_rfl) ?_
              refine OkP.step ?_
              refine OkO.move rfl rfl ?_
              refine OkO.nil ⟨rfl, ?_⟩
              refine OkP.step ?_
              refine OkO.move rfl rfl ?_
              refine OkO.nil ⟨rfl, ?_⟩
              refine OkP.step ?_
              refine OkO.nilCheck rfl rfl ?_
              refine OkO.nil ⟨rfl, ?_⟩
              refine OkP.step ?_
              refine OkO.fieldAddr (o := 2) rfl (by kernel_rfl) rfl ?_
              refine OkO.nil ⟨rfl, ?_⟩
              refine OkP.step ?_
              refine OkO.fieldAddr (o := 0) rfl (by kernel_rfl) rfl ?_
              refine OkO.nil ⟨rfl, ?_⟩
              refine OkP.step ?_
              refine OkO.load rfl rfl (lda (n := 1) (by kernel_rfl) (by first | assumption | (simp (disch := first | omega | (simp only [hNw, hPt]; omega)) only [gn0, gn1, gn2, gn3, gn4, gn5, gp0, gno, gpo] <;> first | rfl | assumption | exact gp0 _ _ _ | exact gn0 _ _)) (by first | rfl | assumption)) ?_
              refine OkO.nil ⟨rfl, ?_⟩
              refine OkP.step ?_
              refine OkO.move rfl rfl ?_
              refine OkO.nil ⟨rfl, ?_⟩
              refine OkP.step ?_
              refine OkO.nilCheck rfl rfl ?_
              refine OkO.nil ⟨rfl, ?_⟩
              refine OkP.step ?_
              refine OkO.fieldAddr (o := 2) rfl (by kernel_rfl) rfl ?_
              refine OkO.nil ⟨rfl, ?_⟩
              refine OkP.step ?_
              refine OkO.fieldAddr (o := 1) rfl (by kernel_rfl) rfl ?_
              refine OkO.nil ⟨rfl, ?_⟩
              refine OkP.step ?_
              refine OkO.load rfl rfl (lda (n := 1) (by kernel_rfl) (by first | assumption | (simp (disch := first | omega | (simp only [hNw, hPt]; omega)) only [gn0, gn1, gn2, gn3, gn4, gn5, gp0, gno, gpo] <;> first | rfl | assumption | exact gp0 _ _ _ | exact gn0 _ _)) (by first | rfl | assumption)) ?_
              refine OkO.nil ⟨rfl, ?_⟩
              refine OkP.step ?_
              refine OkO.move rfl rfl ?_
              refine OkO.nil ⟨rfl, ?_⟩
              refine OkP.step ?_
              refine OkO.bin rfl rfl rfl (bin_sub (by omega) (by omega)) ?_
              refine OkO.nil ⟨rfl, ?_⟩
              refine OkP.step ?_
              refine OkO.builtin rfl rfl rfl (builtin_max2 _ _) ?_
              refine OkO.nil ⟨(sco (sld rfl rfl (lda (n := 1) (by kernel_rfl) (by first | assumption | (simp (disch := first | omega | (simp only [hNw, hPt]; omega)) only [gn0, gn1, gn2, gn3, gn4, gn5, gp0, gno, gpo] <;> first | rfl | assumption | exact gp0 _ _ _ | exact gn0 _ _)) (by first | rfl | assumption)) rfl (eqr _ (by first | rfl | exact ps | exact pu | exact lpl (by assumption) | (simp [AV.plain, AV.plains, AV.cells, pc, pov])))) rfl), ?_⟩
              refine OkP.step ?_
              refine OkO.nilCheck rfl rfl ?_
              refine OkO.nil ⟨rfl, ?_⟩
              refine OkP.step ?_
              refine OkO.fieldAddr (o := 2) rfl (by kernel_rfl) rfl ?_
              refine OkO.nil ⟨rfl, ?_⟩
              refine OkP.step ?_
              refine OkO.fieldAddr (o := 1) rfl (by kernel_rfl) rfl ?_
              refine OkO.nil ⟨rfl, ?_⟩
              refine OkP.step ?_
              refine OkO.store rfl rfl rfl (storeAt_opn (n := 1) (ag := false) (by kernel_rfl) (by first | assumption | (simp (disch := first | omega | (simp only [hNw, hPt]; omega)) only [gn0, gn1, gn2, gn3, gn4, gn5, gp0, gno, gpo] <;> first | rfl | assumption | exact gp0 _ _ _ | exact gn0 _ _)) rfl (by first | rfl | assumption) (by first | rfl | exact spl_bed (j := 3) (b := bedAt cols ci ck) (b' := { bedAt cols ci ck with fh := max (bedAt cols ci ck).fl ((bedAt cols ci ck).fh - nn) }) hbed (by omega) rfl)) ?_
              refine OkO.nil ⟨rfl, ?_⟩
              refine OkP.nil ?_
              have hwx : chg we nn (bedAt cols ci ck) = { bedAt cols ci ck with fh := max (bedAt cols ci ck).fl ((bedAt cols ci ck).fh - nn) } := by unfold chg; (repeat (first | rw [if_neg (by omega)] | rw [if_pos (by omega)]))
              refine ⟨rfl, rfl, (by (try dsimp only); repeat (first | exact gg1 | apply Grow.new | (refine Grow.put ?_ _ (by first | omega | (simp only [hNw, hPt]; omega))))), ?_, by rw [gpo _ _ _ _ (by omega)]; first | assumption | (rw [gn0]; rfl) | (rw [get_put_eq] <;> rfl) | (simp (disch := first | omega | (simp only [hNw, hPt]; omega)) only [gn0, gn1, gn2, gn3, gn4, gn5, gp0, gno, gpo] <;> first | rfl | assumption | (rw [get_put_eq] <;> rfl)), by rw [gpo _ _ _ _ (fun e9 => by omega)]; first | assumption | (rw [gn0]; rfl) | (rw [get_put_eq] <;> rfl) | (simp (disch := first | omega | (simp only [hNw, hPt]; omega)) only [gn0, gn1, gn2, gn3, gn4, gn5, gp0, gno, gpo] <;> first | rfl | assumption | (rw [get_put_eq] <;> rfl)), by simp only [hNw, hPt], Has.of (by kernel_rfl)⟩
              have hO2 := ((ow.to ((Ext.refl Hx).new (.cells [.nils, I 0] 24))).putN (m := Hx.next) (.cells [ov, I least] 24) (fun h9 => by have := (ow.ge _ h9).2.1; omega) (fun q9 h9 => by have := ow.out.lt h9; omega)).setcol (c := col.set ck (chg we nn (bedAt cols ci ck))) hbB (by rw [List.length_set]; exact hcoln)
              unfold setAt; rw [hcolg]; rw [hwx] at hO2 ⊢; exact hO2
    · -- behind it
      rintro ⟨T, D, G⟩ ⟨hD, hg, hO, a0, x0, hnx, ⟨f, hT⟩⟩
      dsimp only at *
      subst hT hD
      obtain ⟨GJ, hGJ⟩ : ∃ GJ, GJ = G := ⟨_, rfl⟩
      subst hGJ
      have mO := hO.mat
      have hgn := hg.next
      refine Ok.seq ?_
      refine Ok.region ?_
      refine OkO.load rfl rfl (ldg (n := 2) (by kernel_rfl) (by first | assumption | (simp (disch := first | omega | (simp only [hNw, hPt]; omega)) only [gn0, gn1, gn2, gn3, gn4, gn5, gp0, gno, gpo] <;> first | rfl | assumption | exact gp0 _ _ _ | exact gn0 _ _)) (by first | rfl | assumption)) ?_
      refine OkO.callE rfl rfl rfl rfl rfl (c19 (m + 210) cv cols least _ (hM.ext (hE _ (by (try dsimp only); repeat (first | exact hg | apply Grow.new | (refine Grow.put ?_ _ (by first | omega | (simp only [hNw, hPt]; omega))))))) hth) ?_ -- "sackung/sackunglaw01.Slope"
      rintro _ Ha1 ⟨cv1, rfl, qa1, fa1⟩
      have n1 := qa1.ext.next
      try simp only [hNw, hPt] at n1
      have gg1 : Grow W Ha1 := Grow.ret (by (try dsimp only); repeat (first | exact hg | apply Grow.new | (refine Grow.put ?_ _ (by first | omega | (simp only [hNw, hPt]; omega))))) qa1
      have a1 : (Ha1.get (W.next)).bind AObj.cs = some [cv, I least] := by rw [qa1.ext.get _ (by first | omega | (simp only [hNw, hPt]; omega))]; first | assumption | (rw [gn0]; rfl) | (rw [get_put_eq] <;> rfl) | (simp (disch := first | omega | (simp only [hNw, hPt]; omega)) only [gn0, gn1, gn2, gn3, gn4, gn5, gp0, gno, gpo] <;> first | rfl | assumption | (rw [get_put_eq] <;> rfl))
      have x1 : (Ha1.get (Hx.next)).bind AObj.cs = some [ov, I least] := by rw [qa1.ext.get _ (by first | omega | (simp only [hNw, hPt]; omega))]; first | assumption | (rw [gn0]; rfl) | (rw [get_put_eq] <;> rfl) | (simp (disch := first | omega | (simp only [hNw, hPt]; omega)) only [gn0, gn1, gn2, gn3, gn4, gn5, gp0, gno, gpo] <;> first | rfl | assumption | (rw [get_put_eq] <;> rfl))
      have exGJ1 : Ext GJ Ha1 := Ext.trans (by (try dsimp only); repeat (first | exact Ext.refl _ | exact Ext.refl _ | apply Ext.new | (refine Ext.put ?_ _ (by first | omega | (simp only [hNw, hPt]; omega))))) qa1.ext
      have ma1 := fa1.now (Nat.le_refl _)
      refine OkO.callE rfl rfl rfl rfl rfl (c31' (m + 1) cv1 cols least _ ma1 hv) ?_ -- "sackung/slope.Worst"
      rintro _ Hw1 ⟨qw1, x1, y1, z1, e1, rfl, at1, hd1⟩
      have n2 := qw1.ext.next
      try simp only [hNw, hPt] at n2
      have gg2 : Grow W Hw1 := Grow.ret (by (try dsimp only); repeat (first | exact gg1 | apply Grow.new | (refine Grow.put ?_ _ (by first | omega | (simp only [hNw, hPt]; omega))))) qw1
      have a2 : (Hw1.get (W.next)).bind AObj.cs = some [cv, I least] := by rw [qw1.ext.get _ (by first | omega | (simp only [hNw, hPt]; omega))]; first | assumption | (rw [gn0]; rfl) | (rw [get_put_eq] <;> rfl) | (simp (disch := first | omega | (simp only [hNw, hPt]; omega)) only [gn0, gn1, gn2, gn3, gn4, gn5, gp0, gno, gpo] <;> first | rfl | assumption | (rw [get_put_eq] <;> rfl))
      have x2 : (Hw1.get (Hx.next)).bind AObj.cs = some [ov, I least] := by rw [qw1.ext.get _ (by first | omega | (simp only [hNw, hPt]; omega))]; first | assumption | (rw [gn0]; rfl) | (rw [get_put_eq] <;> rfl) | (simp (disch := first | omega | (simp only [hNw, hPt]; omega)) only [gn0, gn1, gn2, gn3, gn4, gn5, gp0, gno, gpo] <;> first | rfl | assumption | (rw [get_put_eq] <;> rfl))
      have exGJ2 : Ext GJ Hw1 := Ext.trans (by (try dsimp only); repeat (first | exact exGJ1 | exact Ext.refl _ | apply Ext.new | (refine Ext.put ?_ _ (by first | omega | (simp only [hNw, hPt]; omega))))) qw1.ext
      have w1 := worstIs_of hd1
      have he1 : e1 = 0 := by (rcases w1 with h | ⟨_, _, h⟩); (· exact h.1); (· exact absurd h hA)
      subst he1
      refine OkO.move rfl rfl ?_
      refine OkO.extract rfl rfl rfl ?_
      refine OkO.extract rfl rfl rfl ?_
      refine OkO.extract rfl rfl rfl ?_
      refine OkO.alloc (z := [.int .i64 0, .nils]) rfl (by kernel_rfl) ?_
      refine OkO.store rfl rfl rfl (stc (n := 2) (ag := true) (by kernel_rfl) (by first | assumption | (simp (disch := first | omega | (simp only [hNw, hPt]; omega)) only [gn0, gn1, gn2, gn3, gn4, gn5, gp0, gno, gpo] <;> first | rfl | assumption | exact gp0 _ _ _ | exact gn0 _ _)) rfl (by first | rfl | assumption) (by first | rfl | exact spl_set _ _ _ (by first | assumption | omega | (simp; omega)))) ?_
      refine OkO.assign rfl rfl ?_
      refine OkO.assign rfl rfl ?_
      refine OkO.nil ?_
      refine Ok.seq ?_
      refine Ok.region ?_
      refine OkO.load rfl rfl (ldg (n := 2) (by kernel_rfl) (by first | assumption | (simp (disch := first | omega | (simp only [hNw, hPt]; omega)) only [gn0, gn1, gn2, gn3, gn4, gn5, gp0, gno, gpo] <;> first | rfl | assumption | exact gp0 _ _ _ | exact gn0 _ _)) (by first | rfl | assumption)) ?_
      refine OkO.callE rfl rfl rfl rfl rfl (c19 (m + 210) ov (setAt cols ci ck (chg we nn (bedAt cols ci ck))) least _ (mO.ext (by (try dsimp only); repeat (first | exact exGJ2 | exact Ext.refl _ | apply Ext.new | (refine Ext.put ?_ _ (by first | omega | (simp only [hNw, hPt]; omega)))))) (thin_set hth hcil)) ?_ -- "sackung/sackunglaw01.Slope"
      rintro _ Ha2 ⟨cv2, rfl, qa2, fa2⟩
      have n3 := qa2.ext.next
      try simp only [hNw, hPt] at n3
      have gg3 : Grow W Ha2 := Grow.ret (by (try dsimp only); repeat (first | exact gg2 | apply Grow.new | (refine Grow.put ?_ _ (by first | omega | (simp only [hNw, hPt]; omega))))) qa2
      have a3 : (Ha2.get (W.next)).bind AObj.cs = some [cv, I least] := by rw [qa2.ext.get _ (by first | omega | (simp only [hNw, hPt]; omega))]; first | assumption | (rw [gn0]; rfl) | (rw [get_put_eq] <;> rfl) | (simp (disch := first | omega | (simp only [hNw, hPt]; omega)) only [gn0, gn1, gn2, gn3, gn4, gn5, gp0, gno, gpo] <;> first | rfl | assumption | (rw [get_put_eq] <;> rfl))
      have x3 : (Ha2.get (Hx.next)).bind AObj.cs = some [ov, I least] := by rw [qa2.ext.get _ (by first | omega | (simp only [hNw, hPt]; omega))]; first | assumption | (rw [gn0]; rfl) | (rw [get_put_eq] <;> rfl) | (simp (disch := first | omega | (simp only [hNw, hPt]; omega)) only [gn0, gn1, gn2, gn3, gn4, gn5, gp0, gno, gpo] <;> first | rfl | assumption | (rw [get_put_eq] <;> rfl))
      have exGJ3 : Ext GJ Ha2 := Ext.trans (by (try dsimp only); repeat (first | exact exGJ2 | exact Ext.refl _ | apply Ext.new | (refine Ext.put ?_ _ (by first | omega | (simp only [hNw, hPt]; omega))))) qa2.ext
      have ma2 := fa2.now (Nat.le_refl _)
      refine OkO.callE rfl rfl rfl rfl rfl (c31' (m + 1) cv2 (setAt cols ci ck (chg we nn (bedAt cols ci ck))) least _ ma2 hxok) ?_ -- "sackung/slope.Worst"
      rintro _ Hw2 ⟨qw2, x2, y2, z2, e2, rfl, at2, hd2⟩
      have n4 := qw2.ext.next
      try simp only [hNw, hPt] at n4
      have gg4 : Grow W Hw2 := Grow.ret (by (try dsimp only); repeat (first | exact gg3 | apply Grow.new | (refine Grow.put ?_ _ (by first | omega | (simp only [hNw, hPt]; omega))))) qw2
      have a4 : (Hw2.get (W.next)).bind AObj.cs = some [cv, I least] := by rw [qw2.ext.get _ (by first | omega | (simp only [hNw, hPt]; omega))]; first | assumption | (rw [gn0]; rfl) | (rw [get_put_eq] <;> rfl) | (simp (disch := first | omega | (simp only [hNw, hPt]; omega)) only [gn0, gn1, gn2, gn3, gn4, gn5, gp0, gno, gpo] <;> first | rfl | assumption | (rw [get_put_eq] <;> rfl))
      have x4 : (Hw2.get (Hx.next)).bind AObj.cs = some [ov, I least] := by rw [qw2.ext.get _ (by first | omega | (simp only [hNw, hPt]; omega))]; first | assumption | (rw [gn0]; rfl) | (rw [get_put_eq] <;> rfl) | (simp (disch := first | omega | (simp only [hNw, hPt]; omega)) only [gn0, gn1, gn2, gn3, gn4, gn5, gp0, gno, gpo] <;> first | rfl | assumption | (rw [get_put_eq] <;> rfl))
      have exGJ4 : Ext GJ Hw2 := Ext.trans (by (try dsimp only); repeat (first | exact exGJ3 | exact Ext.refl _ | apply Ext.new | (refine Ext.put ?_ _ (by first | omega | (simp only [hNw, hPt]; omega))))) qw2.ext
      have w2 := worstIs_of hd2
      have he2 : e2 = 7 := by (rcases w2 with ⟨_, fr, us, h⟩ | h); (· exact absurd (hB fr us h.1) (by have := h.2.1; omega)); (· exact h.1)
      subst he2
      refine OkO.move rfl rfl ?_
      refine OkO.extract rfl rfl rfl ?_
      refine OkO.extract rfl rfl rfl ?_
      refine OkO.extract rfl rfl rfl ?_
      refine OkO.alloc (z := [.int .i64 0, .nils]) rfl (by kernel_rfl) ?_
      refine OkO.store rfl rfl rfl (stc (n := 2) (ag := true) (by kernel_rfl) (by first | assumption | (simp (disch := first | omega | (simp only [hNw, hPt]; omega)) only [gn0, gn1, gn2, gn3, gn4, gn5, gp0, gno, gpo] <;> first | rfl | assumption | exact gp0 _ _ _ | exact gn0 _ _)) rfl (by first | rfl | assumption) (by first | rfl | exact spl_set _ _ _ (by first | assumption | omega | (simp; omega)))) ?_
      refine OkO.assign rfl rfl ?_
      refine OkO.assign rfl rfl ?_
      refine OkO.nil ?_
      refine Ok.seq ?_
      refine Ok.seq ?_
      refine Ok.region ?_
      refine OkO.move rfl rfl ?_
      refine OkO.bin rfl rfl rfl (bin_neq _ _) ?_
      refine OkO.move rfl rfl ?_
      refine OkO.skip rfl ?_
      refine OkO.skip rfl ?_
      refine OkO.pick (b := false) rfl rfl nofun (fun _ => rfl) ?_
      refine OkO.move rfl rfl ?_
      refine OkO.move rfl rfl ?_
      refine OkO.bin rfl rfl rfl (bin_neq _ _) ?_
      refine OkO.move rfl rfl ?_
      refine OkO.move rfl rfl ?_
      refine OkO.bin rfl rfl rfl (bin_neq _ _) ?_
      refine OkO.pick (b := true) rfl rfl (fun _ => rfl) nofun ?_
      refine OkO.pick (b := false) rfl rfl nofun (fun _ => rfl) ?_
      refine OkO.move rfl rfl ?_
      refine OkO.move rfl rfl ?_
      refine OkO.bin rfl rfl rfl (bin_eql _ _) ?_
      refine OkO.move rfl rfl ?_
      refine OkO.skip rfl ?_
      refine OkO.skip rfl ?_
      refine OkO.pick (b := false) rfl rfl nofun (fun _ => rfl) ?_
      refine OkO.pick (b := false) rfl rfl nofun (fun _ => rfl) ?_
      refine OkO.move rfl rfl ?_
      refine OkO.move rfl rfl ?_
      refine OkO.bin rfl rfl rfl (bin_eql _ _) ?_
      refine OkO.move rfl rfl ?_
      refine OkO.skip rfl ?_
      refine OkO.skip rfl ?_
      refine OkO.skip rfl ?_
      refine OkO.pick (b := false) rfl rfl nofun (fun _ => rfl) ?_
      refine OkO.pick (b := false) rfl rfl nofun (fun _ => rfl) ?_
      refine OkO.nil ?_
      refine Ok.condF rfl ?_
      refine Ok.skip ?_
      refine Ok.seq ?_
      refine Ok.seq ?_
      refine Ok.region ?_
      refine OkO.move rfl rfl ?_
      refine OkO.bin rfl rfl rfl (bin_remU8 (by omega) (by omega) (by omega)) ?_
      refine OkO.bin rfl rfl rfl (bin_eqlU8 _ _) ?_
      refine OkO.nil ?_
      refine Ok.cond rfl (fun h6 => ?_) (fun h6 => ?_)
      · -- yes h6
        refine Ok.seq ?_
        refine Ok.region ?_
        refine OkO.callV rfl rfl rfl rfl rfl (rfl) ?_ -- "sackung/sackunglaw01.wakes"
        refine OkO.assign rfl rfl ?_
        refine OkO.nil ?_
        refine Ok.ret ⟨.inr rfl, ?_⟩
        exact back_flat rfl rfl rfl (by rw [← hW]; exact (by (try dsimp only); repeat (first | exact gg4 | apply Grow.new | (refine Grow.put ?_ _ (by first | omega | (simp only [hNw, hPt]; omega))))))
      · -- no h6
        refine Ok.skip ?_
        refine Ok.seq ?_
        refine Ok.region ?_
        refine OkO.load rfl rfl (ldg (n := 2) (by kernel_rfl) (by first | assumption | (simp (disch := first | omega | (simp only [hNw, hPt]; omega)) only [gn0, gn1, gn2, gn3, gn4, gn5, gp0, gno, gpo] <;> first | rfl | assumption | exact gp0 _ _ _ | exact gn0 _ _)) (by first | rfl | assumption)) ?_
        refine OkO.move rfl rfl ?_
        refine OkO.callE rfl rfl rfl rfl rfl (c52 (m + 210) (cols.headD []).length cv wv cols least ws _ (hM.ext (hE _ (by (try dsimp only); repeat (first | exact gg4 | apply Grow.new | (refine Grow.put ?_ _ (by first | omega | (simp only [hNw, hPt]; omega))))))) (hWs.ext (hE _ (by (try dsimp only); repeat (first | exact gg4 | apply Grow.new | (refine Grow.put ?_ _ (by first | omega | (simp only [hNw, hPt]; omega))))))) hws hv rfl hlc) ?_ -- "sackung/sackunglaw01.Path"
        rintro v52 H52 ⟨fr, us, bv, rfl, q52, m52, nn52, hs, hlu⟩
        have n5 := q52.ext.next
        try simp only [hNw, hPt] at n5
        have gg5 : Grow W H52 := Grow.ret (by (try dsimp only); repeat (first | exact gg4 | apply Grow.new | (refine Grow.put ?_ _ (by first | omega | (simp only [hNw, hPt]; omega))))) q52
        have a5 : (H52.get (W.next)).bind AObj.cs = some [cv, I least] := by rw [q52.ext.get _ (by first | omega | (simp only [hNw, hPt]; omega))]; first | assumption | (rw [gn0]; rfl) | (rw [get_put_eq] <;> rfl) | (simp (disch := first | omega | (simp only [hNw, hPt]; omega)) only [gn0, gn1, gn2, gn3, gn4, gn5, gp0, gno, gpo] <;> first | rfl | assumption | (rw [get_put_eq] <;> rfl))
        have x5 : (H52.get (Hx.next)).bind AObj.cs = some [ov, I least] := by rw [q52.ext.get _ (by first | omega | (simp only [hNw, hPt]; omega))]; first | assumption | (rw [gn0]; rfl) | (rw [get_put_eq] <;> rfl) | (simp (disch := first | omega | (simp only [hNw, hPt]; omega)) only [gn0, gn1, gn2, gn3, gn4, gn5, gp0, gno, gpo] <;> first | rfl | assumption | (rw [get_put_eq] <;> rfl))
        have exGJ5 : Ext GJ H52 := Ext.trans (by (try dsimp only); repeat (first | exact exGJ4 | exact Ext.refl _ | apply Ext.new | (refine Ext.put ?_ _ (by first | omega | (simp only [hNw, hPt]; omega))))) q52.ext
        have hU : Row H52 bv 1 (us.map fun (k : Nat) => [I (k : Int)]) := Mine.row (by rw [flatN]; exact m52) (fun x hx => by simp only [List.mem_map] at hx; obtain ⟨y, _, rfl⟩ := hx; rfl) (by omega)
        refine OkO.callE rfl rfl rfl rfl rfl (c21 (m + 210) bv (fr : Int) (ofN us) _ (ints_N hU) (by rw [ofN_len]; omega)) ?_ -- "sackung/sackunglaw01.Surface"
        rintro _ Hb ⟨bvb, rfl, qb, fb⟩
        have n6 := qb.ext.next
        try simp only [hNw, hPt] at n6
        have gg6 : Grow W Hb := Grow.ret (by (try dsimp only); repeat (first | exact gg5 | apply Grow.new | (refine Grow.put ?_ _ (by first | omega | (simp only [hNw, hPt]; omega))))) qb
        have a6 : (Hb.get (W.next)).bind AObj.cs = some [cv, I least] := by rw [qb.ext.get _ (by first | omega | (simp only [hNw, hPt]; omega))]; first | assumption | (rw [gn0]; rfl) | (rw [get_put_eq] <;> rfl) | (simp (disch := first | omega | (simp only [hNw, hPt]; omega)) only [gn0, gn1, gn2, gn3, gn4, gn5, gp0, gno, gpo] <;> first | rfl | assumption | (rw [get_put_eq] <;> rfl))
        have x6 : (Hb.get (Hx.next)).bind AObj.cs = some [ov, I least] := by rw [qb.ext.get _ (by first | omega | (simp only [hNw, hPt]; omega))]; first | assumption | (rw [gn0]; rfl) | (rw [get_put_eq] <;> rfl) | (simp (disch := first | omega | (simp only [hNw, hPt]; omega)) only [gn0, gn1, gn2, gn3, gn4, gn5, gp0, gno, gpo] <;> first | rfl | assumption | (rw [get_put_eq] <;> rfl))
        have exGJ6 : Ext GJ Hb := Ext.trans (by (try dsimp only); repeat (first | exact exGJ5 | exact Ext.refl _ | apply Ext.new | (refine Ext.put ?_ _ (by first | omega | (simp only [hNw, hPt]; omega))))) qb.ext
        have ib := fb.now (Nat.le_refl _)
        have pbv := lpl ib.1.len
        have pu : AV.plain (.agg [I (fr : Int), bvb]) = true := by simp [AV.plain, AV.plains, pbv]
        have atb : atoms [I (fr : Int), bvb] = true := by (rw [atoms, atoms, ib.2.atom.1]; rfl)
        have hsx : Surf (setAt cols ci ck (chg we nn (bedAt cols ci ck))).length ((setAt cols ci ck (chg we nn (bedAt cols ci ck))).headD []).length least fr us := by rw [setAt_len, setAt_head hcil]; exact hs
        have hsp1 := span_W hv hs
        have hsp2 := span_W hxok hsx
        refine OkO.alloc (z := [.int .i64 0, .nils]) rfl (by kernel_rfl) ?_
        refine OkO.store rfl rfl rfl (stc (n := 2) (ag := true) (by kernel_rfl) (by first | assumption | (simp (disch := first | omega | (simp only [hNw, hPt]; omega)) only [gn0, gn1, gn2, gn3, gn4, gn5, gp0, gno, gpo] <;> first | rfl | assumption | exact gp0 _ _ _ | exact gn0 _ _)) rfl (by first | rfl | assumption) (by first | rfl | exact spl_set _ _ _ (by first | assumption | omega | (simp; omega)))) ?_
        refine OkO.nil ?_
        refine Ok.seq ?_
        refine Ok.drawn [(0, true, []), (2, true, []), (7, true, [2, 0]), (1, false, [2]), (3, false, [0]), (4, true, []), (5, true, []), (6, true, []), (8, false, []), (9, true, [])] (by kernel_rfl) ?_
        refine OkP.step ?_
        refine OkO.load rfl rfl (ldg (n := 2) (by kernel_rfl) (by first | assumption | (simp (disch := first | omega | (simp only [hNw, hPt]; omega)) only [gn0, gn1, gn2, gn3, gn4, gn5, gp0, gno, gpo] <;> first | rfl | assumption | exact gp0 _ _ _ | exact gn0 _ _)) (by first | rfl | assumption)) ?_
        refine OkO.nil ⟨rfl, ?_⟩
        refine OkP.step ?_
        refine OkO.load rfl rfl (ldg (n := 2) (by kernel_rfl) (by first | assumption | (simp (disch := first | omega | (simp only [hNw, hPt]; omega)) only [gn0, gn1, gn2, gn3, gn4, gn5, gp0, gno, gpo] <;> first | rfl | assumption | exact gp0 _ _ _ | exact gn0 _ _)) (by first | rfl | assumption)) ?_
        refine OkO.nil ⟨rfl, ?_⟩
        refine OkP.step ?_
        refine OkO.alloc (z := [.int .i64 0, .int .i64 0]) rfl (by kernel_rfl) ?_
        refine OkO.nil ⟨(sco (sld rfl rfl (ldg (n := 2) (by kernel_rfl) (by first | assumption | (simp (disch := first | omega | (simp only [hNw, hPt]; omega)) only [gn0, gn1, gn2, gn3, gn4, gn5, gp0, gno, gpo] <;> first | rfl | assumption | exact gp0 _ _ _ | exact gn0 _ _)) (by first | rfl | assumption)) rfl (eqr _ (by first | rfl | exact ps | exact pu | exact lpl (by assumption) | (simp [AV.plain, AV.plains, AV.cells, pc, pov])))) (sco (sld rfl rfl (ldg (n := 2) (by kernel_rfl) (by first | assumption | (simp (disch := first | omega | (simp only [hNw, hPt]; omega)) only [gn0, gn1, gn2, gn3, gn4, gn5, gp0, gno, gpo] <;> first | rfl | assumption | exact gp0 _ _ _ | exact gn0 _ _)) (by first | rfl | assumption)) rfl (eqr _ (by first | rfl | exact ps | exact pu | exact lpl (by assumption) | (simp [AV.plain, AV.plains, AV.cells, pc, pov])))) rfl)), ?_⟩
        refine OkP.step ?_
        refine OkO.callE rfl rfl rfl rfl rfl (c19 (m + 210) cv cols least _ (hM.ext (hE _ (by (try dsimp only); repeat (first | exact gg6 | apply Grow.new | (refine Grow.put ?_ _ (by first | omega | (simp only [hNw, hPt]; omega))))))) hth) ?_ -- "sackung/sackunglaw01.Slope"
        rintro _ Ha3 ⟨cv3, rfl, qa3, fa3⟩
        have n7 := qa3.ext.next
        try simp only [hNw, hPt] at n7
        have gg7 : Grow W Ha3 := Grow.ret (by (try dsimp only); repeat (first | exact gg6 | apply Grow.new | (refine Grow.put ?_ _ (by first | omega | (simp only [hNw, hPt]; omega))))) qa3
        have a7 : (Ha3.get (W.next)).bind AObj.cs = some [cv, I least] := by rw [qa3.ext.get _ (by first | omega | (simp only [hNw, hPt]; omega))]; first | assumption | (rw [gn0]; rfl) | (rw [get_put_eq] <;> rfl) | (simp (disch := first | omega | (simp only [hNw, hPt]; omega)) only [gn0, gn1, gn2, gn3, gn4, gn5, gp0, gno, gpo] <;> first | rfl | assumption | (rw [get_put_eq] <;> rfl))
        have x7 : (Ha3.get (Hx.next)).bind AObj.cs = some [ov, I least] := by rw [qa3.ext.get _ (by first | omega | (simp only [hNw, hPt]; omega))]; first | assumption | (rw [gn0]; rfl) | (rw [get_put_eq] <;> rfl) | (simp (disch := first | omega | (simp only [hNw, hPt]; omega)) only [gn0, gn1, gn2, gn3, gn4, gn5, gp0, gno, gpo] <;> first | rfl | assumption | (rw [get_put_eq] <;> rfl))
        have u7 : (Ha3.get (Hb.next)).bind AObj.cs = some [I (fr : Int), bvb] := by rw [qa3.ext.get _ (by first | omega | (simp only [hNw, hPt]; omega))]; first | assumption | (rw [gn0]; rfl) | (rw [get_put_eq] <;> rfl) | (simp (disch := first | omega | (simp only [hNw, hPt]; omega)) only [gn0, gn1, gn2, gn3, gn4, gn5, gp0, gno, gpo] <;> first | rfl | assumption | (rw [get_put_eq] <;> rfl))
        have o7 : Ha3.get (Hb.next + 1) = some (.cells [I 0, I 0] 47) := by rw [qa3.ext.get _ (by first | omega | (simp only [hNw, hPt]; omega))]; first | assumption | exact gn0 _ _ | (simp (disch := first | omega | (simp only [hNw, hPt]; omega)) only [gn0, gn1, gn2, gn3, gn4, gn5, gp0, gno, gpo] <;> first | rfl | assumption | exact gp0 _ _ _ | exact gn0 _ _)
        have exGJ7 : Ext GJ Ha3 := Ext.trans (by (try dsimp only); repeat (first | exact exGJ6 | exact Ext.refl _ | apply Ext.new | (refine Ext.put ?_ _ (by first | omega | (simp only [hNw, hPt]; omega))))) qa3.ext
        have exHb7 : Ext Hb Ha3 := Ext.trans (by (try dsimp only); repeat (first | exact Ext.refl _ | exact Ext.refl _ | apply Ext.new | (refine Ext.put ?_ _ (by first | omega | (simp only [hNw, hPt]; omega))))) qa3.ext
        have ma3 := fa3.now (Nat.le_refl _)
        refine OkO.nil ⟨(sco (sld rfl rfl (ldg (n := 2) (by kernel_rfl) (by first | assumption | (simp (disch := first | omega | (simp only [hNw, hPt]; omega)) only [gn0, gn1, gn2, gn3, gn4, gn5, gp0, gno, gpo] <;> first | rfl | assumption | exact gp0 _ _ _ | exact gn0 _ _)) (by first | rfl | assumption)) rfl (eqr _ (by first | rfl | exact ps | exact pu | exact lpl (by assumption) | (simp [AV.plain, AV.plains, AV.cells, pc, pov])))) rfl), ?_⟩
        refine OkP.step ?_
        have h27a := c27 (m + 203) cv3 bvb cols least (fr : Int) (ofN us) Ha3 ma3 (ib.1.ext (by (try dsimp only); repeat (first | exact exHb7 | exact Ext.refl _ | apply Ext.new | (refine Ext.put ?_ _ (by first | omega | (simp only [hNw, hPt]; omega)))))) (ib.2.ext (by (try dsimp only); repeat (first | exact exHb7 | exact Ext.refl _ | apply Ext.new | (refine Ext.put ?_ _ (by first | omega | (simp only [hNw, hPt]; omega)))))) (by rw [ofN_len]; omega)
        rw [hsp1] at h27a
        obtain ⟨sa, sb, se, hspv⟩ : ∃ sa sb se, spW cols fr us = (sa, sb, se) := ⟨_, _, _, rfl⟩
        rw [hspv] at h27a
        refine OkO.callV rfl rfl rfl rfl rfl (h27a) ?_ -- "sackung/slope.Span"
        refine OkO.nil ⟨(sco (sld rfl rfl (ldg (n := 2) (by kernel_rfl) (by first | assumption | (simp (disch := first | omega | (simp only [hNw, hPt]; omega)) only [gn0, gn1, gn2, gn3, gn4, gn5, gp0, gno, gpo] <;> first | rfl | assumption | exact gp0 _ _ _ | exact gn0 _ _)) (by first | rfl | assumption)) rfl (eqr _ (by first | rfl | exact ps | exact pu | exact lpl (by assumption) | (simp [AV.plain, AV.plains, AV.cells, pc, pov])))) rfl), ?_⟩
        refine OkP.step ?_
        refine OkO.move rfl rfl ?_
        refine OkO.nil ⟨rfl, ?_⟩
        refine OkP.step ?_
        refine OkO.extract rfl rfl rfl ?_
        refine OkO.nil ⟨rfl, ?_⟩
        refine OkP.step ?_
        refine OkO.extract rfl rfl rfl ?_
        refine OkO.nil ⟨rfl, ?_⟩
        refine OkP.step ?_
        refine OkO.store rfl rfl rfl (stc (n := 2) (ag := true) (by kernel_rfl) (by first | assumption | (simp (disch := first | omega | (simp only [hNw, hPt]; omega)) only [gn0, gn1, gn2, gn3, gn4, gn5, gp0, gno, gpo] <;> first | rfl | assumption | exact gp0 _ _ _ | exact gn0 _ _)) rfl (by first | rfl | assumption) (by first | rfl | exact spl_set _ _ _ (by first | assumption | omega | (simp; omega)))) ?_
        refine OkO.nil ⟨rfl, ?_⟩
        refine OkP.step ?_
        refine OkO.assign rfl rfl ?_
        refine OkO.nil ⟨rfl, ?_⟩
        refine OkP.nil ?_
        refine Ok.seq ?_
        refine Ok.drawn [(0, true, []), (2, true, []), (7, true, [2, 0]), (1, false, [2]), (3, false, [0]), (4, true, []), (5, true, []), (6, true, []), (8, false, []), (9, true, [])] (by kernel_rfl) ?_
        refine OkP.step ?_
        refine OkO.load rfl rfl (ldg (n := 2) (by kernel_rfl) (by first | assumption | (simp (disch := first | omega | (simp only [hNw, hPt]; omega)) only [gn0, gn1, gn2, gn3, gn4, gn5, gp0, gno, gpo] <;> first | rfl | assumption | exact gp0 _ _ _ | exact gn0 _ _)) (by first | rfl | assumption)) ?_
        refine OkO.nil ⟨rfl, ?_⟩
        refine OkP.step ?_
        refine OkO.load rfl rfl (ldg (n := 2) (by kernel_rfl) (by first | assumption | (simp (disch := first | omega | (simp only [hNw, hPt]; omega)) only [gn0, gn1, gn2, gn3, gn4, gn5, gp0, gno, gpo] <;> first | rfl | assumption | exact gp0 _ _ _ | exact gn0 _ _)) (by first | rfl | assumption)) ?_
        refine OkO.nil ⟨rfl, ?_⟩
        refine OkP.step ?_
        refine OkO.alloc (z := [.int .i64 0, .int .i64 0]) rfl (by kernel_rfl) ?_
        refine OkO.nil ⟨(sco (sld rfl rfl (ldg (n := 2) (by kernel_rfl) (by first | assumption | (simp (disch := first | omega | (simp only [hNw, hPt]; omega)) only [gn0, gn1, gn2, gn3, gn4, gn5, gp0, gno, gpo] <;> first | rfl | assumption | exact gp0 _ _ _ | exact gn0 _ _)) (by first | rfl | assumption)) rfl (eqr _ (by first | rfl | exact ps | exact pu | exact lpl (by assumption) | (simp [AV.plain, AV.plains, AV.cells, pc, pov])))) (sco (sld rfl rfl (ldg (n := 2) (by kernel_rfl) (by first | assumption | (simp (disch := first | omega | (simp only [hNw, hPt]; omega)) only [gn0, gn1, gn2, gn3, gn4, gn5, gp0, gno, gpo] <;> first | rfl | assumption | exact gp0 _ _ _ | exact gn0 _ _)) (by first | rfl | assumption)) rfl (eqr _ (by first | rfl | exact ps | exact pu | exact lpl (by assumption) | (simp [AV.plain, AV.plains, AV.cells, pc, pov])))) rfl)), ?_⟩
        refine OkP.step ?_
        refine OkO.callE rfl rfl rfl rfl rfl (c19 (m + 210) ov (setAt cols ci ck (chg we nn (bedAt cols ci ck))) least _ (mO.ext (by (try dsimp only); repeat (first | exact exGJ7 | exact Ext.refl _ | apply Ext.new | (refine Ext.put ?_ _ (by first | omega | (simp only [hNw, hPt]; omega)))))) (thin_set hth hcil)) ?_ -- "sackung/sackunglaw01.Slope"
        rintro _ Ha4 ⟨cv4, rfl, qa4, fa4⟩
        have n8 := qa4.ext.next
        try simp only [hNw, hPt] at n8
        have gg8 : Grow W Ha4 := Grow.ret (by (try dsimp only); repeat (first | exact gg7 | apply Grow.new | (refine Grow.put ?_ _ (by first | omega | (simp only [hNw, hPt]; omega))))) qa4
        have a8 : (Ha4.get (W.next)).bind AObj.cs = some [cv, I least] := by rw [qa4.ext.get _ (by first | omega | (simp only [hNw, hPt]; omega))]; first | assumption | (rw [gn0]; rfl) | (rw [get_put_eq] <;> rfl) | (simp (disch := first | omega | (simp only [hNw, hPt]; omega)) only [gn0, gn1, gn2, gn3, gn4, gn5, gp0, gno, gpo] <;> first | rfl | assumption | (rw [get_put_eq] <;> rfl))
        have x8 : (Ha4.get (Hx.next)).bind AObj.cs = some [ov, I least] := by rw [qa4.ext.get _ (by first | omega | (simp only [hNw, hPt]; omega))]; first | assumption | (rw [gn0]; rfl) | (rw [get_put_eq] <;> rfl) | (simp (disch := first | omega | (simp only [hNw, hPt]; omega)) only [gn0, gn1, gn2, gn3, gn4, gn5, gp0, gno, gpo] <;> first | rfl | assumption | (rw [get_put_eq] <;> rfl))
        have u8 : (Ha4.get (Hb.next)).bind AObj.cs = some [I (fr : Int), bvb] := by rw [qa4.ext.get _ (by first | omega | (simp only [hNw, hPt]; omega))]; first | assumption | (rw [gn0]; rfl) | (rw [get_put_eq] <;> rfl) | (simp (disch := first | omega | (simp only [hNw, hPt]; omega)) only [gn0, gn1, gn2, gn3, gn4, gn5, gp0, gno, gpo] <;> first | rfl | assumption | (rw [get_put_eq] <;> rfl))
        have r8 : (Ha4.get (Hb.next + 1)).bind AObj.cs = some [I sa, I sb] := by rw [qa4.ext.get _ (by first | omega | (simp only [hNw, hPt]; omega))]; first | assumption | (rw [gn0]; rfl) | (rw [get_put_eq] <;> rfl) | (simp (disch := first | omega | (simp only [hNw, hPt]; omega)) only [gn0, gn1, gn2, gn3, gn4, gn5, gp0, gno, gpo] <;> first | rfl | assumption | (rw [get_put_eq] <;> rfl))
        have q8 : Ha4.get (Ha3.next) = some (.cells [I 0, I 0] 47) := by rw [qa4.ext.get _ (by first | omega | (simp only [hNw, hPt]; omega))]; first | assumption | exact gn0 _ _ | (simp (disch := first | omega | (simp only [hNw, hPt]; omega)) only [gn0, gn1, gn2, gn3, gn4, gn5, gp0, gno, gpo] <;> first | rfl | assumption | exact gp0 _ _ _ | exact gn0 _ _)
        have exGJ8 : Ext GJ Ha4 := Ext.trans (by (try dsimp only); repeat (first | exact exGJ7 | exact Ext.refl _ | apply Ext.new | (refine Ext.put ?_ _ (by first | omega | (simp only [hNw, hPt]; omega))))) qa4.ext
        have exHb8 : Ext Hb Ha4 := Ext.trans (by (try dsimp only); repeat (first | exact exHb7 | exact Ext.refl _ | apply Ext.new | (refine Ext.put ?_ _ (by first | omega | (simp only [hNw, hPt]; omega))))) qa4.ext
        have ma4 := fa4.now (Nat.le_refl _)
        refine OkO.nil ⟨(sco (sld rfl rfl (ldg (n := 2) (by kernel_rfl) (by first | assumption | (simp (disch := first | omega | (simp only [hNw, hPt]; omega)) only [gn0, gn1, gn2, gn3, gn4, gn5, gp0, gno, gpo] <;> first | rfl | assumption | exact gp0 _ _ _ | exact gn0 _ _)) (by first | rfl | assumption)) rfl (eqr _ (by first | rfl | exact ps | exact pu | exact lpl (by assumption) | (simp [AV.plain, AV.plains, AV.cells, pc, pov])))) rfl), ?_⟩
        refine OkP.step ?_
        have h27b := c27 (m + 203) cv4 bvb (setAt cols ci ck (chg we nn (bedAt cols ci ck))) least (fr : Int) (ofN us) Ha4 ma4 (ib.1.ext (by (try dsimp only); repeat (first | exact exHb8 | exact Ext.refl _ | apply Ext.new | (refine Ext.put ?_ _ (by first | omega | (simp only [hNw, hPt]; omega)))))) (ib.2.ext (by (try dsimp only); repeat (first | exact exHb8 | exact Ext.refl _ | apply Ext.new | (refine Ext.put ?_ _ (by first | omega | (simp only [hNw, hPt]; omega)))))) (by rw [ofN_len]; omega)
        rw [hsp2] at h27b
        obtain ⟨ta, tb, te, hspw⟩ : ∃ sa sb se, spW (setAt cols ci ck (chg we nn (bedAt cols ci ck))) fr us = (sa, sb, se) := ⟨_, _, _, rfl⟩
        rw [hspw] at h27b
        have hsum := sums_better hbetter us fr
        have hbx := setAt_beds (n := 0) (k := ck) hok9 hcil hbok2
        have hn2 : ¬ we % 5 = 2 := by simpa using h6
        obtain ⟨hdq, hsq⟩ := hsum.2.2 hn2
        have hfin : se = te ∧ sa ≤ ta ∧ tb ≤ sb := by (unfold spW at hspv hspw; rw [hdq] at hspw; split at hspv); (· rename_i hdd; rw [if_pos hdd] at hspw; cases hspv; cases hspw; exact ⟨rfl, by unfold facW; rw [hdq]; exact factorOf_mono hsum.2.1 hdd, factorOf_mono hsq hdd⟩); (· rename_i hdd; rw [if_neg hdd] at hspw; cases hspv; cases hspw; exact ⟨rfl, Int.le_refl _, Int.le_refl _⟩)
        refine OkO.callV rfl rfl rfl rfl rfl (h27b) ?_ -- "sackung/slope.Span"
        refine OkO.nil ⟨(sco (sld rfl rfl (ldg (n := 2) (by kernel_rfl) (by first | assumption | (simp (disch := first | omega | (simp only [hNw, hPt]; omega)) only [gn0, gn1, gn2, gn3, gn4, gn5, gp0, gno, gpo] <;> first | rfl | assumption | exact gp0 _ _ _ | exact gn0 _ _)) (by first | rfl | assumption)) rfl (eqr _ (by first | rfl | exact ps | exact pu | exact lpl (by assumption) | (simp [AV.plain, AV.plains, AV.cells, pc, pov])))) rfl), ?_⟩
        refine OkP.step ?_
        refine OkO.move rfl rfl ?_
        refine OkO.nil ⟨rfl, ?_⟩
        refine OkP.step ?_
        refine OkO.extract rfl rfl rfl ?_
        refine OkO.nil ⟨rfl, ?_⟩
        refine OkP.step ?_
        refine OkO.extract rfl rfl rfl ?_
        refine OkO.nil ⟨rfl, ?_⟩
        refine OkP.step ?_
        refine OkO.store rfl rfl rfl (stc (n := 2) (ag := true) (by kernel_rfl) (by first | assumption | (simp (disch := first | omega | (simp only [hNw, hPt]; omega)) only [gn0, gn1, gn2, gn3, gn4, gn5, gp0, gno, gpo] <;> first | rfl | assumption | exact gp0 _ _ _ | exact gn0 _ _)) rfl (by first | rfl | assumption) (by first | rfl | exact spl_set _ _ _ (by first | assumption | omega | (simp; omega)))) ?_
        refine OkO.nil ⟨rfl, ?_⟩
        refine OkP.step ?_
        refine OkO.assign rfl rfl ?_
        refine OkO.nil ⟨rfl, ?_⟩
        refine OkP.nil ?_
        refine Ok.seq ?_
        refine Ok.region ?_
        refine OkO.move rfl rfl ?_
        refine OkO.move rfl rfl ?_
        refine OkO.bin rfl rfl rfl (bin_eql _ _) ?_
        refine OkO.move rfl rfl ?_
        refine OkO.split (d := 211) rfl (fun g7 => ?_) (fun g7 => ?_)
        · -- true g7
          refine OkO.fieldAddr (o := 0) rfl (by kernel_rfl) rfl ?_
          refine OkO.load rfl rfl (lda (n := 1) (by kernel_rfl) (by first | assumption | (simp (disch := first | omega | (simp only [hNw, hPt]; omega)) only [gn0, gn1, gn2, gn3, gn4, gn5, gp0, gno, gpo] <;> first | rfl | assumption | exact gp0 _ _ _ | exact gn0 _ _)) (by first | rfl | assumption)) ?_
          refine OkO.fieldAddr (o := 0) rfl (by kernel_rfl) rfl ?_
          refine OkO.load rfl rfl (lda (n := 1) (by kernel_rfl) (by first | assumption | (simp (disch := first | omega | (simp only [hNw, hPt]; omega)) only [gn0, gn1, gn2, gn3, gn4, gn5, gp0, gno, gpo] <;> first | rfl | assumption | exact gp0 _ _ _ | exact gn0 _ _)) (by first | rfl | assumption)) ?_
          refine OkO.bin rfl rfl rfl (bin_geq _ _) ?_
          refine OkO.pick (b := true) rfl rfl (fun _ => rfl) nofun ?_
          refine OkO.move rfl rfl ?_
          refine OkO.split (d := 218) rfl (fun g8 => ?_) (fun g8 => ?_)
          · -- true g8
            refine OkO.fieldAddr (o := 1) rfl (by kernel_rfl) rfl ?_
            refine OkO.load rfl rfl (lda (n := 1) (by kernel_rfl) (by first | assumption | (simp (disch := first | omega | (simp only [hNw, hPt]; omega)) only [gn0, gn1, gn2, gn3, gn4, gn5, gp0, gno, gpo] <;> first | rfl | assumption | exact gp0 _ _ _ | exact gn0 _ _)) (by first | rfl | assumption)) ?_
            refine OkO.fieldAddr (o := 1) rfl (by kernel_rfl) rfl ?_
            refine OkO.load rfl rfl (lda (n := 1) (by kernel_rfl) (by first | assumption | (simp (disch := first | omega | (simp only [hNw, hPt]; omega)) only [gn0, gn1, gn2, gn3, gn4, gn5, gp0, gno, gpo] <;> first | rfl | assumption | exact gp0 _ _ _ | exact gn0 _ _)) (by first | rfl | assumption)) ?_
            refine OkO.bin rfl rfl rfl (bin_leq _ _) ?_
            refine OkO.pick (b := true) rfl rfl (fun _ => rfl) nofun ?_
            refine OkO.move rfl rfl ?_
            refine OkO.split (d := 225) rfl (fun g9 => ?_) (fun g9 => ?_)
            · -- true g9
              refine OkO.callV rfl rfl rfl rfl rfl (rfl) ?_ -- "sackung/sackunglaw01.wakes"
              refine OkO.pick (b := true) rfl rfl (fun _ => rfl) nofun ?_
              refine OkO.assign rfl rfl ?_
              refine OkO.nil ?_
              refine Ok.ret ⟨.inr rfl, ?_⟩
              exact back_flat rfl rfl rfl (by rw [← hW]; exact (by (try dsimp only); repeat (first | exact gg8 | apply Grow.new | (refine Grow.put ?_ _ (by first | omega | (simp only [hNw, hPt]; omega))))))
            · -- false g9
              exact absurd g9 (by simp; omega)
          · -- false g8
            exact absurd g8 (by simp; omega)
        · -- false g7
          exact absurd g7 (by simp [hfin.1])
theorem c13C (m : Nat) (cv wv : AV) (cols : List (List Bed)) (least : Int) (ws : List Int) (co at9 we nn : Int) (H : Heap) (hM : Mat H cv cols) (hWs : Row H wv 1 (ws.map fun w => [U8 w])) (hws : Upto 255 ws) (hco : 0 ≤ co ∧ co ≤ 255) (hat : 0 ≤ at9 ∧ at9 ≤ 255) (hwe : 0 ≤ we ∧ we ≤ 255) (hnn : 0 ≤ nn ∧ nn ≤ 65535) (hth : thinB cols = true) (hv : slOk cols least = true) (hlc : least ≤ cols.length) (hrd : readyS cols least = true) {ci ck : Nat} (hci : (ci : Int) = co % (cols.length : Int)) (hck : (ck : Int) = at9 % ((cols.headD []).length : Int)) (hcil : ci < cols.length) (hckl : ck < (cols.headD []).length) (hA : NoneAt cols (cols.headD []).length least) (hB : NoneAt (setAt cols ci ck (chg we nn (bedAt cols ci ck))) ((setAt cols ci ck (chg we nn (bedAt cols ci ck))).headD []).length least) : RR (m + 213) (.fn 13 [.agg [cv, I least], wv, .int .u8 co, .int .u8 at9, .int .u8 we, U16 nn]) H = some (.bool true, H) := by
  refine (R_fn _ _ _ _ _).trans ?_
  refine fn_ok Try.func13 rfl rfl (by kernel_rfl) (by kernel_rfl) ?_
  obtain ⟨W, hW⟩ : ∃ W : Heap, W = ⟨H.t, H.next, H.next⟩ := ⟨_, rfl⟩
  have hg : ∀ n, W.get n = H.get n := fun n => by rw [hW]; rfl
  have hN : W.next = H.next := by rw [hW]
  have hE : ∀ G, Grow W G → Ext H G := fun G g => ⟨by rw [← hN]; exact g.next, fun n k => by rw [g.get n (by rw [hN]; exact k), hg]⟩
  have hG : Grow W W := Grow.refl (by rw [hW]; exact Nat.le_refl _)
  rw [← hW]
  have hlen : lenOf cv = some cols.length := by obtain ⟨vs, hR, hvl, _⟩ := hM; rw [← hvl]; simpa using hR.len
  have pc : cv.plain = true := lpl hlen
  have ps : AV.plain (.agg [cv, I least]) = true := by simp [AV.plain, AV.plains, pc]
  have hsf := slOk_facts hv
  have hok9 := bedsOk_of hv
  have hcl9 := lens_of hv
  obtain ⟨col, hcol, hbed⟩ := bedAt_get (c := ci) (k := ck) hcl9 hcil hckl
  have hcoln := hcl9 col (List.mem_of_getElem? hcol)
  have hbok := bedAt_ok hok9 ci ck
  obtain ⟨hbok2, hbet⟩ := chg_facts (w := we) (n := nn) hbok hnn.1
  have hxok := setAt_ok (k := ck) hv hcil hbok2
  have hbl := Bed.ok_lim hbok
  unfold Bed.lim at hbl
  have hcolg : cols.getD ci [] = col := by rw [List.getD_eq_getElem?_getD, hcol]; rfl
  have hbetter : ∀ c j, Better (¬ we % 5 = 2) (bedAt cols c j) (bedAt (setAt cols ci ck (chg we nn (bedAt cols ci ck))) c j) := fun c j => by (rw [bedAt_set hcl9 hcil hckl]; split); (· rename_i q; rw [q.1, q.2]; exact hbet); (· exact Better.refl _ _)
  have hm50 := Int.emod_nonneg we (b := 5) (by omega)
  have hm51 := Int.emod_lt_of_pos we (b := 5) (by omega)
  refine Ok.seq ?_
  refine Ok.region ?_
  refine OkO.box rfl rfl ?_
  refine OkO.assign rfl rfl ?_
  refine OkO.nil ?_
  refine Ok.seq ?_
  refine Ok.seq ?_
  refine Ok.region ?_
  refine OkO.load rfl rfl (ldg (n := 2) (by kernel_rfl) (by first | assumption | (simp (disch := first | omega | (simp only [hNw, hPt]; omega)) only [gn0, gn1, gn2, gn3, gn4, gn5, gp0, gno, gpo] <;> first | rfl | assumption | exact gp0 _ _ _ | exact gn0 _ _)) (by first | rfl | assumption)) ?_
  refine OkO.callV rfl rfl rfl rfl rfl ((c51 (m + 209) cv cols least _ (hM.ext (hE _ (by (try dsimp only); repeat (first | exact hG | apply Grow.new | (refine Grow.put ?_ _ (by first | omega | (simp only [hNw, hPt]; omega)))))))).trans (by rw [hrd])) ?_ -- "sackung/sackunglaw01.ready"
  refine OkO.un rfl rfl rfl ?_
  refine OkO.nil ?_
  refine Ok.cond rfl (fun h1 => ?_) (fun h1 => ?_)
  · -- yes h1
    exact absurd h1 (by simp)
  · -- no h1
    refine Ok.skip ?_
    refine Ok.seq ?_
    refine Ok.region ?_
    refine OkO.load rfl rfl (ldg (n := 2) (by kernel_rfl) (by first | assumption | (simp (disch := first | omega | (simp only [hNw, hPt]; omega)) only [gn0, gn1, gn2, gn3, gn4, gn5, gp0, gno, gpo] <;> first | rfl | assumption | exact gp0 _ _ _ | exact gn0 _ _)) (by first | rfl | assumption)) ?_
    refine OkO.callE rfl rfl rfl rfl rfl (c55 (m + 211) (cols.headD []).length cv cols least 0 _ (hM.ext (hE _ (by (try dsimp only); repeat (first | exact hG | apply Grow.new | (refine Grow.put ?_ _ (by first | omega | (simp only [hNw, hPt]; omega))))))) hcl9 hok9 (by omega) (by omega) (by omega)) ?_ -- "sackung/sackungref01.Wetter"
    rintro _ Hx ⟨ov, bs, rfl, qx, ow, nnv⟩
    have n1 := qx.ext.next
    try simp only [hNw, hPt] at n1
    have gg1 : Grow W Hx := Grow.ret (by (try dsimp only); repeat (first | exact hG | apply Grow.new | (refine Grow.put ?_ _ (by first | omega | (simp only [hNw, hPt]; omega))))) qx
    have a1 : (Hx.get (W.next)).bind AObj.cs = some [cv, I least] := by rw [qx.ext.get _ (by first | omega | (simp only [hNw, hPt]; omega))]; first | assumption | (rw [gn0]; rfl) | (rw [get_put_eq] <;> rfl) | (simp (disch := first | omega | (simp only [hNw, hPt]; omega)) only [gn0, gn1, gn2, gn3, gn4, gn5, gp0, gno, gpo] <;> first | rfl | assumption | (rw [get_put_eq] <;> rfl))
    have ow := ow.low (k1 := W.next + 1) (by first | omega | (simp only [hNw, hPt]; omega))
    rw [wetS_zero hok9] at ow
    have on := ow.out.one
    have ato : atoms [ov, I least] = true := by (rw [atoms, on.2]; rfl)
    have mx := ow.mat
    have hlo : lenOf ov = some cols.length := by obtain ⟨ws3, hR3, hwl3, _⟩ := mx; rw [← hwl3]; simpa using hR3.len
    obtain ⟨bB, hbB⟩ : ∃ bB, bs[ci]? = some bB := ⟨_, List.getElem?_eq_getElem (by rw [ow.len]; exact hcil)⟩
    obtain ⟨hB1, _⟩ := ow.col ci bB col hbB hcol
    obtain ⟨hB2, hB3, hB4⟩ := ow.ge bB (List.mem_of_getElem? hbB)
    obtain ⟨ob, oo, ocs, j1, j2, j3, j4⟩ := (Mine.row (l := (bs.map fun b => AV.opn b (cols.headD []).length).map fun x => [x]) (by rw [sing_flat]; exact ow.out) (fun x hx => by simp only [List.mem_map] at hx; obtain ⟨y, _, rfl⟩ := hx; rfl) (by omega)).at_ ci [.opn bB (cols.headD []).length] (by rw [List.getElem?_map, List.getElem?_map, hbB]; rfl)
    have j5 := seg_one j3
    have eB : (Hx.get bB).bind AObj.cs = some (col.map Bed.c).flatten := by rw [hB1]; rfl
    have pov := lpl hlo
    have hq0 := (bed_cell (j := 0) (v := I (bedAt cols ci ck).dr) hbed rfl (by omega)).2
    have hq1 := (bed_cell (j := 1) (v := I (bedAt cols ci ck).no) hbed rfl (by omega)).2
    have hq2 := (bed_cell (j := 2) (v := I (bedAt cols ci ck).fl) hbed rfl (by omega)).2
    have hq3 := (bed_cell (j := 3) (v := I (bedAt cols ci ck).fh) hbed rfl (by omega)).2
    have hq4 := (bed_cell (j := 4) (v := I (bedAt cols ci ck).cl) hbed rfl (by omega)).2
    have hq5 := (bed_cell (j := 5) (v := I (bedAt cols ci ck).ch) hbed rfl (by omega)).2
    have hq6 := (bed_cell (j := 6) (v := I (bedAt cols ci ck).wl) hbed rfl (by omega)).2
    have hq7 := (bed_cell (j := 7) (v := I (bedAt cols ci ck).wh) hbed rfl (by omega)).2
    refine OkO.alloc (z := [.nils, .int .i64 0]) rfl (by kernel_rfl) ?_
    refine OkO.store rfl rfl rfl (stc (n := 2) (ag := true) (by kernel_rfl) (by first | assumption | (simp (disch := first | omega | (simp only [hNw, hPt]; omega)) only [gn0, gn1, gn2, gn3, gn4, gn5, gp0, gno, gpo] <;> first | rfl | assumption | exact gp0 _ _ _ | exact gn0 _ _)) rfl (by first | rfl | assumption) (by first | rfl | exact spl_set _ _ _ (by first | assumption | omega | (simp; omega)))) ?_
    refine OkO.nil ?_
    refine Ok.seq ?_
    refine Ok.drawn [(0, true, []), (1, true, []), (2, true, []), (3, true, []), (4, true, []), (5, true, []), (6, true, []), (7, true, []), (8, true, []), (9, true, []), (10, true, [])] (by kernel_rfl) ?_
    refine OkP.step ?_
    refine OkO.fieldAddr (o := 0) rfl (by kernel_rfl) rfl ?_
    refine OkO.nil ⟨rfl, ?_⟩
    refine OkP.step ?_
    refine OkO.load rfl rfl (lda (n := 1) (by kernel_rfl) (by first | assumption | (simp (disch := first | omega | (simp only [hNw, hPt]; omega)) only [gn0, gn1, gn2, gn3, gn4, gn5, gp0, gno, gpo] <;> first | rfl | assumption | exact gp0 _ _ _ | exact gn0 _ _)) (by first | rfl | assumption)) ?_
    refine OkO.nil ⟨rfl, ?_⟩
    refine OkP.step ?_
    refine OkO.move rfl rfl ?_
    refine OkO.nil ⟨rfl, ?_⟩
    refine OkP.step ?_
    refine OkO.convert (k := .i64) rfl (by kernel_rfl) rfl (wrapF_i64 (by omega) (by omega)) ?_
    refine OkO.nil ⟨rfl, ?_⟩
    refine OkP.step ?_
    refine OkO.fieldAddr (o := 0) rfl (by kernel_rfl) rfl ?_
    refine OkO.nil ⟨rfl, ?_⟩
    refine OkP.step ?_
    refine OkO.load rfl rfl (lda (n := 1) (by kernel_rfl) (by first | assumption | (simp (disch := first | omega | (simp only [hNw, hPt]; omega)) only [gn0, gn1, gn2, gn3, gn4, gn5, gp0, gno, gpo] <;> first | rfl | assumption | exact gp0 _ _ _ | exact gn0 _ _)) (by first | rfl | assumption)) ?_
    refine OkO.nil ⟨rfl, ?_⟩
    refine OkP.step ?_
    refine OkO.builtin rfl rfl rfl (bln (by kernel_rfl) (by first | assumption | rfl)) ?_
    refine OkO.nil ⟨rfl, ?_⟩
    refine OkP.step ?_
    refine OkO.bin rfl rfl rfl (bin_rem (by omega) (by omega)) ?_
    refine OkO.nil ⟨rfl, ?_⟩
    refine OkP.step ?_
    refine OkO.index (sz := 1) (n := ci) rfl rfl (congrArg (fun z => some (I z)) hci.symm) (by kernel_rfl) (by first | assumption | rfl | exact slAt_slice (by omega) | exact slAt_opn (by omega)) ?_ -- index ('Go.Operand.tmp', 35) ('Go.Operand.tmp', 41)
    refine OkO.nil ⟨rfl, ?_⟩
    refine OkP.step ?_
    refine OkO.load rfl rfl (lda (n := 1) (by kernel_rfl) (by first | assumption | (simp (disch := first | omega | (simp only [hNw, hPt]; omega)) only [gn0, gn1, gn2, gn3, gn4, gn5, gp0, gno, gpo] <;> first | rfl | assumption | exact gp0 _ _ _ | exact gn0 _ _)) (by first | rfl | assumption)) ?_
    refine OkO.nil ⟨rfl, ?_⟩
    refine OkP.step ?_
    refine OkO.assign rfl rfl ?_
    refine OkO.nil ⟨rfl, ?_⟩
    refine OkP.nil ?_
    refine Ok.seq ?_
    refine Ok.region ?_
    refine OkO.move rfl rfl ?_
    refine OkO.move rfl rfl ?_
    refine OkO.convert (k := .i64) rfl (by kernel_rfl) rfl (wrapF_i64 (by omega) (by omega)) ?_
    refine OkO.move rfl rfl ?_
    refine OkO.builtin rfl rfl rfl (bln (by kernel_rfl) (by first | assumption | rfl)) ?_
    refine OkO.bin rfl rfl rfl (bin_rem (by omega) (by omega)) ?_
    refine OkO.index (sz := 8) (n := ck) rfl rfl (congrArg (fun z => some (I z)) hck.symm) (by kernel_rfl) (by first | assumption | rfl | exact slAt_slice (by omega) | exact slAt_opn (by omega)) ?_ -- index ('Go.Operand.tmp', 44) ('Go.Operand.tmp', 49)
    refine OkO.assign rfl rfl ?_
    refine OkO.nil ?_
    refine Ok.seq ?_
    refine Ok.region ?_
    refine OkO.move rfl rfl ?_
    refine OkO.convert (k := .i64) rfl (by kernel_rfl) rfl (wrapF_i64 (by omega) (by omega)) ?_
    refine OkO.assign rfl rfl ?_
    refine OkO.nil ?_
    refine Ok.join (fun s => s.D = [] ∧ Grow W s.H ∧ OwnS (W.next + 1) s.H ov (cols.headD []).length (setAt cols ci ck (chg we nn (bedAt cols ci ck))) bs ∧ (s.H.get W.next).bind AObj.cs = some [cv, I least] ∧ (s.H.get Hx.next).bind AObj.cs = some [ov, I least] ∧ s.H.next = Hx.next + 1 ∧ Has 8 [(1, wv), (4, .int .u8 we), (6, .ptr W.next 0), (13, .ptr Hx.next 0)] s.T) ?_ ?_
    · -- to the meeting
      refine Ok.seq ?_
      refine Ok.region ?_
      refine OkO.move rfl rfl ?_
      refine OkO.bin rfl rfl rfl (bin_remU8 (by omega) (by omega) (by omega)) ?_
      refine OkO.nil ?_
      refine Ok.block ?_
      refine Ok.seq ?_
      refine Ok.region ?_
      refine OkO.bin rfl rfl rfl (bin_eqlU8 _ _) ?_
      refine OkO.assign rfl rfl ?_
      refine OkO.nil ?_
      refine Ok.cond rfl (fun h2 => ?_) (fun h2 => ?_)
      · -- yes h2
        have h50 : we % 5 = 0 := by simpa using h2
        refine Ok.drawn [(0, true, []), (1, true, []), (2, true, []), (3, true, []), (4, true, []), (5, true, []), (6, true, []), (7, true, []), (8, true, []), (9, true, []), (10, true, []), (11, true, []), (12, true, []), (13, false, [10]), (14, true, []), (15, true, []), (16, true, []), (17, false, [])] (by kernel_rfl) ?_
        refine OkP.step ?_
        refine OkO.move rfl rfl ?_
        refine OkO.nil ⟨rfl, ?_⟩
        refine OkP.step ?_
        refine OkO.move rfl rfl ?_
        refine OkO.nil ⟨rfl, ?_⟩
        refine OkP.step ?_
        refine OkO.nilCheck rfl rfl ?_
        refine OkO.nil ⟨rfl, ?_⟩
        refine OkP.step ?_
        refine OkO.fieldAddr (o := 2) rfl (by kernel_rfl) rfl ?_
        refine OkO.nil ⟨rfl, ?_⟩
        refine OkP.step ?_
        refine OkO.fieldAddr (o := 1) rfl (by kernel_rfl) rfl ?_
        refine OkO.nil ⟨rfl, ?_⟩
        refine OkP.step ?_
        refine OkO.load rfl rfl (lda (n := 1) (by kernel_rfl) (by first | assumption | (simp (disch := first | omega | (simp only [hNw, hPt]; omega)) only [gn0, gn1, gn2, gn3, gn4, gn5, gp0, gno, gpo] <;> first | rfl | assumption | exact gp0 _ _ _ | exact gn0 _ _)) (by first | rfl | assumption)) ?_
        refine OkO.nil ⟨rfl, ?_⟩
        refine OkP.step ?_
        refine OkO.move rfl rfl ?_
        refine OkO.nil ⟨rfl, ?_⟩
        refine OkP.step ?_
        refine OkO.nilCheck rfl rfl ?_
        refine OkO.nil ⟨rfl, ?_⟩
        refine OkP.step ?_
        refine OkO.fieldAddr (o := 2) rfl (by kernel_rfl) rfl ?_
        refine OkO.nil ⟨rfl, ?_⟩
        refine OkP.step ?_
        refine OkO.fieldAddr (o := 0) rfl (by kernel_rfl) rfl ?_
        refine OkO.nil ⟨rfl, ?_⟩
        refine OkP.step ?_
        refine OkO.load rfl rfl (lda (n := 1) (by kernel_rfl) (by first | assumption | (simp (disch := first | omega | (simp only [hNw, hPt]; omega)) only [gn0, gn1, gn2, gn3, gn4, gn5, gp0, gno, gpo] <;> first | rfl | assumption | exact gp0 _ _ _ | exact gn0 _ _)) (by first | rfl | assumption)) ?_
        refine OkO.nil ⟨rfl, ?_⟩
        refine OkP.step ?_
        refine OkO.move rfl rfl ?_
        refine OkO.nil ⟨rfl, ?_⟩
        refine OkP.step ?_
        refine OkO.bin rfl rfl rfl (bin_add (by omega) (by omega)) ?_
        refine OkO.nil ⟨rfl, ?_⟩
        refine OkP.step ?_
        refine OkO.builtin rfl rfl rfl (builtin_min2 _ _) ?_
        refine OkO.nil ⟨(sco (sld rfl rfl (lda (n := 1) (by kernel_rfl) (by first | assumption | (simp (disch := first | omega | (simp only [hNw, hPt]; omega)) only [gn0, gn1, gn2, gn3, gn4, gn5, gp0, gno, gpo] <;> first | rfl | assumption | exact gp0 _ _ _ | exact gn0 _ _)) (by first | rfl | assumption)) rfl (eqr _ (by first | rfl | exact ps | exact pu | exact lpl (by assumption) | (simp [AV.plain, AV.plains, AV.cells, pc, pov])))) rfl), ?_⟩
        refine OkP.step ?_
        refine OkO.nilCheck rfl rfl ?_
        refine OkO.nil ⟨rfl, ?_⟩
        refine OkP.step ?_
        refine OkO.fieldAddr (o := 2) rfl (by kernel_rfl) rfl ?_
        refine OkO.nil ⟨rfl, ?_⟩
        refine OkP.step ?_
        refine OkO.fieldAddr (o := 0) rfl (by kernel_rfl) rfl ?_
        refine OkO.nil ⟨rfl, ?_⟩
        refine OkP.step ?_
        refine OkO.store rfl rfl rfl (storeAt_opn (n := 1) (ag := false) (by kernel_rfl) (by first | assumption | (simp (disch := first | omega | (simp only [hNw, hPt]; omega)) only [gn0, gn1, gn2, gn3, gn4, gn5, gp0, gno, gpo] <;> first | rfl | assumption | exact gp0 _ _ _ | exact gn0 _ _)) rfl (by first | rfl | assumption) (by first | rfl | exact spl_bed (j := 2) (b := bedAt cols ci ck) (b' := { bedAt cols ci ck with fl := min (bedAt cols ci ck).fh ((bedAt cols ci ck).fl + nn) }) hbed (by omega) rfl)) ?_
        refine OkO.nil ⟨rfl, ?_⟩
        refine OkP.nil ?_
        have hwx : chg we nn (bedAt cols ci ck) = { bedAt cols ci ck with fl := min (bedAt cols ci ck).fh ((bedAt cols ci ck).fl + nn) } := by unfold chg; (repeat (first | rw [if_neg (by omega)] | rw [if_pos (by omega)]))
        refine ⟨rfl, rfl, (by (try dsimp only); repeat (first | exact gg1 | apply Grow.new | (refine Grow.put ?_ _ (by first | omega | (simp only [hNw, hPt]; omega))))), ?_, by rw [gpo _ _ _ _ (by omega)]; first | assumption | (rw [gn0]; rfl) | (rw [get_put_eq] <;> rfl) | (simp (disch := first | omega | (simp only [hNw, hPt]; omega)) only [gn0, gn1, gn2, gn3, gn4, gn5, gp0, gno, gpo] <;> first | rfl | assumption | (rw [get_put_eq] <;> rfl)), by rw [gpo _ _ _ _ (fun e9 => by omega)]; first | assumption | (rw [gn0]; rfl) | (rw [get_put_eq] <;> rfl) | (simp (disch := first | omega | (simp only [hNw, hPt]; omega)) only [gn0, gn1, gn2, gn3, gn4, gn5, gp0, gno, gpo] <;> first | rfl | assumption | (rw [get_put_eq] <;> rfl)), by simp only [hNw, hPt], Has.of (by kernel_rfl)⟩
        have hO2 := ((ow.to ((Ext.refl Hx).new (.cells [.nils, I 0] 24))).putN (m := Hx.next) (.cells [ov, I least] 24) (fun h9 => by have := (ow.ge _ h9).2.1; omega) (fun q9 h9 => by have := ow.out.lt h9; omega)).setcol (c := col.set ck (chg we nn (bedAt cols ci ck))) hbB (by rw [List.length_set]; exact hcoln)
        unfold setAt; rw [hcolg]; rw [hwx] at hO2 ⊢; exact hO2
      · -- no h2
        have h50 : ¬ we % 5 = 0 := by simpa using h2
        refine Ok.seq ?_
        refine Ok.region ?_
        refine OkO.bin rfl rfl rfl (bin_eqlU8 _ _) ?_
        refine OkO.assign rfl rfl ?_
        refine OkO.nil ?_
        refine Ok.cond rfl (fun h3 => ?_) (fun h3 => ?_)
        · -- yes h3
          have h51 : we % 5 = 1 := by simpa using h3
          refine Ok.drawn [(0, true, []), (1, true, []), (2, true, []), (3, true, []), (4, true, []), (5, true, []), (6, true, []), (7, true, []), (8, true, []), (9, true, []), (10, true, []), (11, true, []), (12, true, []), (13, false, [10]), (14, true, []), (15, true, []), (16, true, []), (17, false, [])] (by kernel_rfl) ?_
          refine OkP.step ?_
          refine OkO.move rfl rfl ?_
          refine OkO.nil ⟨rfl, ?_⟩
          refine OkP.step ?_
          refine OkO.move rfl rfl ?_
          refine OkO.nil ⟨rfl, ?_⟩
          refine OkP.step ?_
          refine OkO.nilCheck rfl rfl ?_
          refine OkO.nil ⟨rfl, ?_⟩
          refine OkP.step ?_
          refine OkO.fieldAddr (o := 4) rfl (by kernel_rfl) rfl ?_
          refine OkO.nil ⟨rfl, ?_⟩
          refine OkP.step ?_
          refine OkO.fieldAddr (o := 1) rfl (by kernel_rfl) rfl ?_
          refine OkO.nil ⟨rfl, ?_⟩
          refine OkP.step ?_
          refine OkO.load rfl rfl (lda (n := 1) (by kernel_rfl) (by first | assumption | (simp (disch := first | omega | (simp only [hNw, hPt]; omega)) only [gn0, gn1, gn2, gn3, gn4, gn5, gp0, gno, gpo] <;> first | rfl | assumption | exact gp0 _ _ _ | exact gn0 _ _)) (by first | rfl | assumption)) ?_
          refine OkO.nil ⟨rfl, ?_⟩
          refine OkP.step ?_
          refine OkO.move rfl rfl ?_
          refine OkO.nil ⟨rfl, ?_⟩
          refine OkP.step ?_
          refine OkO.nilCheck rfl rfl ?_
          refine OkO.nil ⟨rfl, ?_⟩
          refine OkP.step ?_
          refine OkO.fieldAddr (o := 4) rfl (by kernel_rfl) rfl ?_
          refine OkO.nil ⟨rfl, ?_⟩
          refine OkP.step ?_
          refine OkO.fieldAddr (o := 0) rfl (by kernel_rfl) rfl ?_
          refine OkO.nil ⟨rfl, ?_⟩
          refine OkP.step ?_
          refine OkO.load rfl rfl (lda (n := 1) (by kernel_rfl) (by first | assumption | (simp (disch := first | omega | (simp only [hNw, hPt]; omega)) only [gn0, gn1, gn2, gn3, gn4, gn5, gp0, gno, gpo] <;> first | rfl | assumption | exact gp0 _ _ _ | exact gn0 _ _)) (by first | rfl | assumption)) ?_
          refine OkO.nil ⟨rfl, ?_⟩
          refine OkP.step ?_
          refine OkO.move rfl rfl ?_
          refine OkO.nil ⟨rfl, ?_⟩
          refine OkP.step ?_
          refine OkO.bin rfl rfl rfl (bin_add (by omega) (by omega)) ?_
          refine OkO.nil ⟨rfl, ?_⟩
          refine OkP.step ?_
          refine OkO.builtin rfl rfl rfl (builtin_min2 _ _) ?_
          refine OkO.nil ⟨(sco (sld rfl rfl (lda (n := 1) (by kernel_rfl) (by first | assumption | (simp (disch := first | omega | (simp only [hNw, hPt]; omega)) only [gn0, gn1, gn2, gn3, gn4, gn5, gp0, gno, gpo] <;> first | rfl | assumption | exact gp0 _ _ _ | exact gn0 _ _)) (by first | rfl | assumption)) rfl (eqr _ (by first | rfl | exact ps | exact pu | exact lpl (by assumption) | (simp [AV.plain, AV.plains, AV.cells, pc, pov])))) rfl), ?_⟩
          refine OkP.step ?_
          refine OkO.nilCheck rfl rfl ?_
          refine OkO.nil ⟨rfl, ?_⟩
          refine OkP.step ?_
          refine OkO.fieldAddr (o := 4) rfl (by kernel_rfl) rfl ?_
          refine OkO.nil ⟨rfl, ?_⟩
          refine OkP.step ?_
          refine OkO.fieldAddr (o := 0) rfl (by kernel_rfl) rfl ?_
          refine OkO.nil ⟨rfl, ?_⟩
          refine OkP.step ?_
          refine OkO.store rfl rfl rfl (storeAt_opn (n := 1) (ag := false) (by kernel_rfl) (by first | assumption | (simp (disch := first | omega | (simp only [hNw, hPt]; omega)) only [gn0, gn1, gn2, gn3, gn4, gn5, gp0, gno, gpo] <;> first | rfl | assumption | exact gp0 _ _ _ | exact gn0 _ _)) rfl (by first | rfl | assumption) (by first | rfl | exact spl_bed (j := 4) (b := bedAt cols ci ck) (b' := { bedAt cols ci ck with cl := min (bedAt cols ci ck).ch ((bedAt cols ci ck).cl + nn) }) hbed (by omega) rfl)) ?_
          refine OkO.nil ⟨rfl, ?_⟩
          refine OkP.nil ?_
          have hwx : chg we nn (bedAt cols ci ck) = { bedAt cols ci ck with cl := min (bedAt cols ci ck).ch ((bedAt cols ci ck).cl + nn) } := by unfold chg; (repeat (first | rw [if_neg (by omega)] | rw [if_pos (by omega)]))
          refine ⟨rfl, rfl, (by (try dsimp only); repeat (first | exact gg1 | apply Grow.new | (refine Grow.put ?_ _ (by first | omega | (simp only [hNw, hPt]; omega))))), ?_, by rw [gpo _ _ _ _ (by omega)]; first | assumption | (rw [gn0]; rfl) | (rw [get_put_eq] <;> rfl) | (simp (disch := first | omega | (simp only [hNw, hPt]; omega)) only [gn0, gn1, gn2, gn3, gn4, gn5, gp0, gno, gpo] <;> first | rfl | assumption | (rw [get_put_eq] <;> rfl)), by rw [gpo _ _ _ _ (fun e9 => by omega)]; first | assumption | (rw [gn0]; rfl) | (rw [get_put_eq] <;> rfl) | (simp (disch := first | omega | (simp only [hNw, hPt]; omega)) only [gn0, gn1, gn2, gn3, gn4, gn5, gp0, gno, gpo] <;> first | rfl | assumption | (rw [get_put_eq] <;> rfl)), by simp only [hNw, hPt], Has.of (by kernel_rfl)⟩
          have hO2 := ((ow.to ((Ext.refl Hx).new (.cells [.nils, I 0] 24))).putN (m := Hx.next) (.cells [ov, I least] 24) (fun h9 => by have := (ow.ge _ h9).2.1; omega) (fun q9 h9 => by have := ow.out.lt h9; omega)).setcol (c := col.set ck (chg we nn (bedAt cols ci ck))) hbB (by rw [List.length_set]; exact hcoln)
          unfold setAt; rw [hcolg]; rw [hwx] at hO2 ⊢; exact hO2
        · -- no h3
          have h51 : ¬ we % 5 = 1 := by simpa using h3
          refine Ok.seq ?_
          refine Ok.region ?_
          refine OkO.bin rfl rfl rfl (bin_eqlU8 _ _) ?_
          refine OkO.assign rfl rfl ?_
          refine OkO.nil ?_
          refine Ok.cond rfl (fun h4 => ?_) (fun h4 => ?_)
          · -- yes h4
            have h52 : we % 5 = 2 := by simpa using h4
            refine Ok.region ?_
            refine OkO.move rfl rfl ?_
            refine OkO.move rfl rfl ?_
            refine OkO.nilCheck rfl rfl ?_
            refine OkO.fieldAddr (o := 0) rfl (by kernel_rfl) rfl ?_
            refine OkO.load rfl rfl (lda (n := 1) (by kernel_rfl) (by first | assumption | (simp (disch := first | omega | (simp only [hNw, hPt]; omega)) only [gn0, gn1, gn2, gn3, gn4, gn5, gp0, gno, gpo] <;> first | rfl | assumption | exact gp0 _ _ _ | exact gn0 _ _)) (by first | rfl | assumption)) ?_
            refine OkO.move rfl rfl ?_
            refine OkO.bin rfl rfl rfl (bin_sub (by omega) (by omega)) ?_
            refine OkO.builtin rfl rfl rfl (builtin_max2 _ _) ?_
            refine OkO.nilCheck rfl rfl ?_
            refine OkO.fieldAddr (o := 0) rfl (by kernel_rfl) rfl ?_
            refine OkO.store rfl rfl rfl (storeAt_opn (n := 1) (ag := false) (by kernel_rfl) (by first | assumption | (simp (disch := first | omega | (simp only [hNw, hPt]; omega)) only [gn0, gn1, gn2, gn3, gn4, gn5, gp0, gno, gpo] <;> first | rfl | assumption | exact gp0 _ _ _ | exact gn0 _ _)) rfl (by first | rfl | assumption) (by first | rfl | exact spl_bed (j := 0) (b := bedAt cols ci ck) (b' := { bedAt cols ci ck with dr := max (-100000) ((bedAt cols ci ck).dr - nn) }) hbed (by omega) rfl)) ?_
            refine OkO.nil ?_
            have hwx : chg we nn (bedAt cols ci ck) = { bedAt cols ci ck with dr := max (-100000) ((bedAt cols ci ck).dr - nn) } := by unfold chg; (repeat (first | rw [if_neg (by omega)] | rw [if_pos (by omega)]))
            refine ⟨rfl, rfl, (by (try dsimp only); repeat (first | exact gg1 | apply Grow.new | (refine Grow.put ?_ _ (by first | omega | (simp only [hNw, hPt]; omega))))), ?_, by rw [gpo _ _ _ _ (by omega)]; first | assumption | (rw [gn0]; rfl) | (rw [get_put_eq] <;> rfl) | (simp (disch := first | omega | (simp only [hNw, hPt]; omega)) only [gn0, gn1, gn2, gn3, gn4, gn5, gp0, gno, gpo] <;> first | rfl | assumption | (rw [get_put_eq] <;> rfl)), by rw [gpo _ _ _ _ (fun e9 => by omega)]; first | assumption | (rw [gn0]; rfl) | (rw [get_put_eq] <;> rfl) | (simp (disch := first | omega | (simp only [hNw, hPt]; omega)) only [gn0, gn1, gn2, gn3, gn4, gn5, gp0, gno, gpo] <;> first | rfl | assumption | (rw [get_put_eq] <;> rfl)), by simp only [hNw, hPt], Has.of (by kernel_rfl)⟩
            have hO2 := ((ow.to ((Ext.refl Hx).new (.cells [.nils, I 0] 24))).putN (m := Hx.next) (.cells [ov, I least] 24) (fun h9 => by have := (ow.ge _ h9).2.1; omega) (fun q9 h9 => by have := ow.out.lt h9; omega)).setcol (c := col.set ck (chg we nn (bedAt cols ci ck))) hbB (by rw [List.length_set]; exact hcoln)
            unfold setAt; rw [hcolg]; rw [hwx] at hO2 ⊢; exact hO2
          · -- no h4
            have h52 : ¬ we % 5 = 2 := by simpa using h4
            refine Ok.seq ?_
            refine Ok.region ?_
            refine OkO.bin rfl rfl rfl (bin_eqlU8 _ _) ?_
            refine OkO.assign rfl rfl ?_
            refine OkO.nil ?_
            refine Ok.cond rfl (fun h5 => ?_) (fun h5 => ?_)
            · -- yes h5
              have h53 : we % 5 = 3 := by simpa using h5
              refine Ok.drawn [(0, true, []), (1, true, []), (2, true, []), (3, true, []), (4, true, []), (5, true, []), (6, true, []), (7, true, []), (8, true, []), (9, true, []), (10, true, []), (11, true, []), (12, true, []), (13, false, [10]), (14, true, []), (15, true, []), (16, true, []), (17, false, [])] (by kernel_rfl) ?_
              refine OkP.step ?_
              refine OkO.move rfl rfl ?_
              refine OkO.nil ⟨rfl, ?_⟩
              refine OkP.step ?_
              refine OkO.move rfl rfl ?_
              refine OkO.nil ⟨rfl, ?_⟩
              refine OkP.step ?_
              refine OkO.nilCheck rfl rfl ?_
              refine OkO.nil ⟨rfl, ?_⟩
              refine OkP.step ?_
              refine OkO.fieldAddr (o := 6) rfl (by kernel_rfl) rfl ?_
              refine OkO.nil ⟨rfl, ?_⟩
              refine OkP.step ?_
              refine OkO.fieldAddr (o := 0) rfl (by kernel_rfl) rfl ?_
              refine OkO.nil ⟨rfl, ?_⟩
              refine OkP.step ?_
              refine OkO.load rfl rfl (lda (n := 1) (by kernel_rfl) (by first | assumption | (simp (disch := first | omega | (simp only [hNw, hPt]; omega)) only [gn0, gn1, gn2, gn3, gn4, gn5, gp0, gno, gpo] <;> first | rfl | assumption | exact gp0 _ _ _ | exact gn0 _ _)) (by first | rfl | assumption)) ?_
              refine OkO.nil ⟨rfl, ?_⟩
              refine OkP.step ?_
              refine OkO.move rfl rfl ?_
              refine OkO.nil ⟨rfl, ?_⟩
              refine OkP.step ?_
              refine OkO.nilCheck rfl rfl ?_
              refine OkO.nil ⟨rfl, ?_⟩
              refine OkP.step ?_
              refine OkO.fieldAddr (o := 6) rfl (by kernel_rfl) rfl ?_
              refine OkO.nil ⟨rfl, ?_⟩
              refine OkP.step ?_
              refine OkO.fieldAddr (o := 1) rfl (by kernel_rfl) rfl ?_
              refine OkO.nil ⟨rfl, ?_⟩
              refine OkP.step ?_
              refine OkO.load rfl rfl (lda (n := 1) (by kernel_rfl) (by first | assumption | (simp (disch := first | omega | (simp only [hNw, hPt]; omega)) only [gn0, gn1, gn2, gn3, gn4, gn5, gp0, gno, gpo] <;> first | rfl | assumption | exact gp0 _ _ _ | exact gn0 _ _)) (by first | rfl | assumption)) ?_
              refine OkO.nil ⟨rfl, ?_⟩
              refine OkP.step ?_
              refine OkO.move rfl rfl ?_
              refine OkO.nil ⟨rfl, ?_⟩
              refine OkP.step ?_
              refine OkO.bin rfl rfl rfl (bin_sub (by omega) (by omega)) ?_
              refine OkO.nil ⟨rfl, ?_⟩
              refine OkP.step ?_
              refine OkO.builtin rfl rfl rfl (builtin_max2 _ _) ?_
              refine OkO.nil ⟨(sco (sld rfl rfl (lda (n := 1) (by kernel_rfl) (by first | assumption | (simp (disch := first | omega | (simp only [hNw, hPt]; omega)) only [gn0, gn1, gn2, gn3, gn4, gn5, gp0, gno, gpo] <;> first | rfl | assumption | exact gp0 _ _ _ | exact gn0 _ _)) (by first | rfl | assumption)) rfl (eqr _ (by first | rfl | exact ps | exact pu | exact lpl (by assumption) | (simp [AV.plain, AV.plains, AV.cells, pc, pov])))) rfl), ?_⟩
              refine OkP.step ?_
              refine OkO.nilCheck rfl rfl ?_
              refine OkO.nil ⟨rfl, ?_⟩
              refine OkP.step ?_
              refine OkO.fieldAddr (o := 6) rfl (by kernel_rfl) rfl ?_
              refine OkO.nil ⟨rfl, ?_⟩
              refine OkP.step ?_
              refine OkO.fieldAddr (o := 1) rfl (by kernel_rfl) rfl ?_
              refine OkO.nil ⟨rfl, ?_⟩
              refine OkP.step ?_
              refine OkO.store rfl rfl rfl (storeAt_opn (n := 1) (ag := false) (by kernel_rfl) (by first | assumption | (simp (disch := first | omega | (simp only [hNw, hPt]; omega)) only [gn0, gn1, gn2, gn3, gn4, gn5, gp0, gno, gpo] <;> first | rfl | assumption | exact gp0 _ _ _ | exact gn0 _ _)) rfl (by first | rfl | assumption) (by first | rfl | exact spl_bed (j := 7) (b := bedAt cols ci ck) (b' := { bedAt cols ci ck with wh := max (bedAt cols ci ck).wl ((bedAt cols ci ck).wh - nn) }) hbed (by omega) rfl)) ?_
              refine OkO.nil ⟨rfl, ?_⟩
              refine OkP.nil ?_
              have hwx : chg we nn (bedAt cols ci ck) = { bedAt cols ci ck with wh := max (bedAt cols ci ck).wl ((bedAt cols ci ck).wh - nn) } := by unfold chg; (repeat (first | rw [if_neg (by omega)] | rw [if_pos (by omega)]))
              refine ⟨rfl, rfl, (by (try dsimp only); repeat (first | exact gg1 | apply Grow.new | (refine Grow.put ?_ _ (by first | omega | (simp only [hNw, hPt]; omega))))), ?_, by rw [gpo _ _ _ _ (by omega)]; first | assumption | (rw [gn0]; rfl) | (rw [get_put_eq] <;> rfl) | (simp (disch := first | omega | (simp only [hNw, hPt]; omega)) only [gn0, gn1, gn2, gn3, gn4, gn5, gp0, gno, gpo] <;> first | rfl | assumption | (rw [get_put_eq] <;> rfl)), by rw [gpo _ _ _ _ (fun e9 => by omega)]; first | assumption | (rw [gn0]; rfl) | (rw [get_put_eq] <;> rfl) | (simp (disch := first | omega | (simp only [hNw, hPt]; omega)) only [gn0, gn1, gn2, gn3, gn4, gn5, gp0, gno, gpo] <;> first | rfl | assumption | (rw [get_put_eq] <;> rfl)), by simp only [hNw, hPt], Has.of (by kernel_rfl)⟩
              have hO2 := ((ow.to ((Ext.refl Hx).new (.cells [.nils, I 0] 24))).putN (m := Hx.next) (.cells [ov, I least] 24) (fun h9 => by have := (ow.ge _ h9).2.1; omega) (fun q9 h9 => by have := ow.out.lt h9; omega)).setcol (c := col.set ck (chg we nn (bedAt cols ci ck))) hbB (by rw [List.length_set]; exact hcoln)
              unfold setAt; rw [hcolg]; rw [hwx] at hO2 ⊢; exact hO2
            · -- no h5
              have h53 : ¬ we % 5 = 3 := by simpa using h5
              refine Ok.drawn [(0, true, []), (1, true, []), (2, true, []), (3, true, []), (4, true, []), (5, true, []), (6, true, []), (7, true, []), (8, true, []), (9, true, []), (10, true, []), (11, true, []), (12, true, []), (13, false, [10]), (14, true, []), (15, true, []), (16, true, []), (17, false, [])] (by kernel_rfl) ?_
              refine OkP.step ?_
              refine OkO.move rfl rfl ?_
              refine OkO.nil ⟨rfl, ?_⟩
              refine OkP.step ?_
              refine OkO.move rfl rfl ?_
              refine OkO.nil ⟨rfl, ?_⟩
              refine OkP.step ?_
              refine OkO.nilCheck rfl rfl ?_
              refine OkO.nil ⟨rfl, ?_⟩
              refine OkP.step ?_
              refine OkO.fieldAddr (o := 2) rfl (by kernel_rfl) rfl ?_
              refine OkO.nil ⟨rfl, ?_⟩
              refine OkP.step ?_
              refine OkO.fieldAddr (o := 0) rfl (by kernel_rfl) rfl ?_
              refine OkO.nil ⟨rfl, ?_⟩
              refine OkP.step ?_
              refine OkO.load rfl rfl (lda (n := 1) (by kernel_rfl) (by first | assumption | (simp (disch := first | omega | (simp only [hNw, hPt]; omega)) only [gn0, gn1, gn2, gn3, gn4, gn5, gp0, gno, gpo] <;> first | rfl | assumption | exact gp0 _ _ _ | exact gn0 _ _)) (by first | rfl | assumption)) ?_
              refine OkO.nil ⟨rfl, ?_⟩
              refine OkP.step ?_
              refine OkO.move rfl rfl ?_
              refine OkO.nil ⟨rfl, ?_⟩
              refine OkP.step ?_
              refine OkO.nilCheck rfl rfl ?_
              refine OkO.nil ⟨rfl, ?_⟩
              refine OkP.step ?_
              refine OkO.fieldAddr (o := 2) rfl (by kernel_rfl) rfl ?_
              refine OkO.nil ⟨rfl, ?_⟩
              refine OkP.step ?_
              refine OkO.fieldAddr (o := 1) rfl (by kernel_rfl) rfl ?_
              refine OkO.nil ⟨rfl, ?_⟩
              refine OkP.step ?_
              refine OkO.load rfl rfl (lda (n := 1) (by kernel_rfl) (by first | assumption | (simp (disch := first | omega | (simp only [hNw, hPt]; omega)) only [gn0, gn1, gn2, gn3, gn4, gn5, gp0, gno, gpo] <;> first | rfl | assumption | exact gp0 _ _ _ | exact gn0 _ _)) (by first | rfl | assumption)) ?_
              refine OkO.nil ⟨rfl, ?_⟩
              refine OkP.step ?_
              refine OkO.move rfl rfl ?_
              refine OkO.nil ⟨rfl, ?_⟩
              refine OkP.step ?_
              refine OkO.bin rfl rfl rfl (bin_sub (by omega) (by omega)) ?_
              refine OkO.nil ⟨rfl, ?_⟩
              refine OkP.step ?_
              refine OkO.builtin rfl rfl rfl (builtin_max2 _ _) ?_
              refine OkO.nil ⟨(sco (sld rfl rfl (lda (n := 1) (by kernel_rfl) (by first | assumption | (simp (disch := first | omega | (simp only [hNw, hPt]; omega)) only [gn0, gn1, gn2, gn3, gn4, gn5, gp0, gno, gpo] <;> first | rfl | assumption | exact gp0 _ _ _ | exact gn0 _ _)) (by first | rfl | assumption)) rfl (eqr _ (by first | rfl | exact ps | exact pu | exact lpl (by assumption) | (simp [AV.plain, AV.plains, AV.cells, pc, pov])))) rfl), ?_⟩
              refine OkP.step ?_
              refine OkO.nilCheck rfl rfl ?_
              refine OkO.nil ⟨rfl, ?_⟩
              refine OkP.step ?_
              refine OkO.fieldAddr (o := 2) rfl (by kernel_rfl) rfl ?_
              refine OkO.nil ⟨rfl, ?_⟩
              refine OkP.step ?_
              refine OkO.fieldAddr (o := 1) rfl (by kernel_rfl) rfl ?_
              refine OkO.nil ⟨rfl, ?_⟩
              refine OkP.step ?_
              refine OkO.store rfl rfl rfl (storeAt_opn (n := 1) (ag := false) (by kernel_rfl) (by first | assumption | (simp (disch := first | omega | (simp only [hNw, hPt]; omega)) only [gn0, gn1, gn2, gn3, gn4, gn5, gp0, gno, gpo] <;> first | rfl | assumption | exact gp0 _ _ _ | exact gn0 _ _)) rfl (by first | rfl | assumption) (by first | rfl | exact spl_bed (j := 3) (b := bedAt cols ci ck) (b' := { bedAt cols ci ck with fh := max (bedAt cols ci ck).fl ((bedAt cols ci ck).fh - nn) }) hbed (by omega) rfl)) ?_
              refine OkO.nil ⟨rfl, ?_⟩
              refine OkP.nil ?_
              have hwx : chg we nn (bedAt cols ci ck) = { bedAt cols ci ck with fh := max (bedAt cols ci ck).fl ((bedAt cols ci ck).fh - nn) } := by unfold chg; (repeat (first | rw [if_neg (by omega)] | rw [if_pos (by omega)]))
              refine ⟨rfl, rfl, (by (try dsimp only); repeat (first | exact gg1 | apply Grow.new | (refine Grow.put ?_ _ (by first | omega | (simp only [hNw, hPt]; omega))))), ?_, by rw [gpo _ _ _ _ (by omega)]; first | assumption | (rw [gn0]; rfl) | (rw [get_put_eq] <;> rfl) | (simp (disch := first | omega | (simp only [hNw, hPt]; omega)) only [gn0, gn1, gn2, gn3, gn4, gn5, gp0, gno, gpo] <;> first | rfl | assumption | (rw [get_put_eq] <;> rfl)), by rw [gpo _ _ _ _ (fun e9 => by omega)]; first | assumption | (rw [gn0]; rfl) | (rw [get_put_eq] <;> rfl) | (simp (disch := first | omega | (simp only [hNw, hPt]; omega)) only [gn0, gn1, gn2, gn3, gn4, gn5, gp0, gno, gpo] <;> first | rfl | assumption | (rw [get_put_eq] <;> rfl)), by simp only [hNw, hPt], Has.of (by kernel_rfl)⟩
              have hO2 := ((ow.to ((Ext.refl Hx).new (.cells [.nils, I 0] 24))).putN (m := Hx.next) (.cells [ov, I least] 24) (fun h9 => by have := (ow.ge _ h9).2.1; omega) (fun q9 h9 => by have := ow.out.lt h9; omega)).setcol (c := col.set ck (chg we nn (bedAt cols ci ck))) hbB (by rw [List.length_set]; exact hcoln)
              unfold setAt; rw [hcolg]; rw [hwx] at hO2 ⊢; exact hO2
    · -- behind it
      rintro ⟨T, D, G⟩ ⟨hD, hg, hO, a0, x0, hnx, ⟨f, hT⟩⟩
      dsimp only at *
      subst hT hD
      obtain ⟨GJ, hGJ⟩ : ∃ GJ, GJ = G := ⟨_, rfl⟩
      subst hGJ
      have mO := hO.mat
      have hgn := hg.next
      refine Ok.seq ?_
      refine Ok.region ?_
      refine OkO.load rfl rfl (ldg (n := 2) (by kernel_rfl) (by first | assumption | (simp (disch := first | omega | (simp only [hNw, hPt]; omega)) only [gn0, gn1, gn2, gn3, gn4, gn5, gp0, gno, gpo] <;> first | rfl | assumption | exact gp0 _ _ _ | exact gn0 _ _)) (by first | rfl | assumption)) ?_
      refine OkO.callE rfl rfl rfl rfl rfl (c19 (m + 210) cv cols least _ (hM.ext (hE _ (by (try dsimp only); repeat (first | exact hg | apply Grow.new | (refine Grow.put ?_ _ (by first | omega | (simp only [hNw, hPt]; omega))))))) hth) ?_ -- "sackung/sackunglaw01.Slope"
      rintro _ Ha1 ⟨cv1, rfl, qa1, fa1⟩
      have n1 := qa1.ext.next
      try simp only [hNw, hPt] at n1
      have gg1 : Grow W Ha1 := Grow.ret (by (try dsimp only); repeat (first | exact hg | apply Grow.new | (refine Grow.put ?_ _ (by first | omega | (simp only [hNw, hPt]; omega))))) qa1
      have a1 : (Ha1.get (W.next)).bind AObj.cs = some [cv, I least] := by rw [qa1.ext.get _ (by first | omega | (simp only [hNw, hPt]; omega))]; first | assumption | (rw [gn0]; rfl) | (rw [get_put_eq] <;> rfl) | (simp (disch := first | omega | (simp only [hNw, hPt]; omega)) only [gn0, gn1, gn2, gn3, gn4, gn5, gp0, gno, gpo] <;> first | rfl | assumption | (rw [get_put_eq] <;> rfl))
      have x1 : (Ha1.get (Hx.next)).bind AObj.cs = some [ov, I least] := by rw [qa1.ext.get _ (by first | omega | (simp only [hNw, hPt]; omega))]; first | assumption | (rw [gn0]; rfl) | (rw [get_put_eq] <;> rfl) | (simp (disch := first | omega | (simp only [hNw, hPt]; omega)) only [gn0, gn1, gn2, gn3, gn4, gn5, gp0, gno, gpo] <;> first | rfl | assumption | (rw [get_put_eq] <;> rfl))
      have exGJ1 : Ext GJ Ha1 := Ext.trans (by (try dsimp only); repeat (first | exact Ext.refl _ | exact Ext.refl _ | apply Ext.new | (refine Ext.put ?_ _ (by first | omega | (simp only [hNw, hPt]; omega))))) qa1.ext
      have ma1 := fa1.now (Nat.le_refl _)
      refine OkO.callE rfl rfl rfl rfl rfl (c31' (m + 1) cv1 cols least _ ma1 hv) ?_ -- "sackung/slope.Worst"
      rintro _ Hw1 ⟨qw1, x1, y1, z1, e1, rfl, at1, hd1⟩
      have n2 := qw1.ext.next
      try simp only [hNw, hPt] at n2
      have gg2 : Grow W Hw1 := Grow.ret (by (try dsimp only); repeat (first | exact gg1 | apply Grow.new | (refine Grow.put ?_ _ (by first | omega | (simp only [hNw, hPt]; omega))))) qw1
      have a2 : (Hw1.get (W.next)).bind AObj.cs = some [cv, I least] := by rw [qw1.ext.get _ (by first | omega | (simp only [hNw, hPt]; omega))]; first | assumption | (rw [gn0]; rfl) | (rw [get_put_eq] <;> rfl) | (simp (disch := first | omega | (simp only [hNw, hPt]; omega)) only [gn0, gn1, gn2, gn3, gn4, gn5, gp0, gno, gpo] <;> first | rfl | assumption | (rw [get_put_eq] <;> rfl))
      have x2 : (Hw1.get (Hx.next)).bind AObj.cs = some [ov, I least] := by rw [qw1.ext.get _ (by first | omega | (simp only [hNw, hPt]; omega))]; first | assumption | (rw [gn0]; rfl) | (rw [get_put_eq] <;> rfl) | (simp (disch := first | omega | (simp only [hNw, hPt]; omega)) only [gn0, gn1, gn2, gn3, gn4, gn5, gp0, gno, gpo] <;> first | rfl | assumption | (rw [get_put_eq] <;> rfl))
      have exGJ2 : Ext GJ Hw1 := Ext.trans (by (try dsimp only); repeat (first | exact exGJ1 | exact Ext.refl _ | apply Ext.new | (refine Ext.put ?_ _ (by first | omega | (simp only [hNw, hPt]; omega))))) qw1.ext
      have w1 := worstIs_of hd1
      have he1 : e1 = 7 := by (rcases w1 with ⟨_, fr, us, h⟩ | h); (· exact absurd (hA fr us h.1) (by have := h.2.1; omega)); (· exact h.1)
      subst he1
      refine OkO.move rfl rfl ?_
      refine OkO.extract rfl rfl rfl ?_
      refine OkO.extract rfl rfl rfl ?_
      refine OkO.extract rfl rfl rfl ?_
      refine OkO.alloc (z := [.int .i64 0, .nils]) rfl (by kernel_rfl) ?_
      refine OkO.store rfl rfl rfl (stc (n := 2) (ag := true) (by kernel_rfl) (by first | assumption | (simp (disch := first | omega | (simp only [hNw, hPt]; omega)) only [gn0, gn1, gn2, gn3, gn4, gn5, gp0, gno, gpo] <;> first | rfl | assumption | exact gp0 _ _ _ | exact gn0 _ _)) rfl (by first | rfl | assumption) (by first | rfl | exact spl_set _ _ _ (by first | assumption | omega | (simp; omega)))) ?_
      refine OkO.assign rfl rfl ?_
      refine OkO.assign rfl rfl ?_
      refine OkO.nil ?_
      refine Ok.seq ?_
      refine Ok.region ?_
      refine OkO.load rfl rfl (ldg (n := 2) (by kernel_rfl) (by first | assumption | (simp (disch := first | omega | (simp only [hNw, hPt]; omega)) only [gn0, gn1, gn2, gn3, gn4, gn5, gp0, gno, gpo] <;> first | rfl | assumption | exact gp0 _ _ _ | exact gn0 _ _)) (by first | rfl | assumption)) ?_
      refine OkO.callE rfl rfl rfl rfl rfl (c19 (m + 210) ov (setAt cols ci ck (chg we nn (bedAt cols ci ck))) least _ (mO.ext (by (try dsimp only); repeat (first | exact exGJ2 | exact Ext.refl _ | apply Ext.new | (refine Ext.put ?_ _ (by first | omega | (simp only [hNw, hPt]; omega)))))) (thin_set hth hcil)) ?_ -- "sackung/sackunglaw01.Slope"
      rintro _ Ha2 ⟨cv2, rfl, qa2, fa2⟩
      have n3 := qa2.ext.next
      try simp only [hNw, hPt] at n3
      have gg3 : Grow W Ha2 := Grow.ret (by (try dsimp only); repeat (first | exact gg2 | apply Grow.new | (refine Grow.put ?_ _ (by first | omega | (simp only [hNw, hPt]; omega))))) qa2
      have a3 : (Ha2.get (W.next)).bind AObj.cs = some [cv, I least] := by rw [qa2.ext.get _ (by first | omega | (simp only [hNw, hPt]; omega))]; first | assumption | (rw [gn0]; rfl) | (rw [get_put_eq] <;> rfl) | (simp (disch := first | omega | (simp only [hNw, hPt]; omega)) only [gn0, gn1, gn2, gn3, gn4, gn5, gp0, gno, gpo] <;> first | rfl | assumption | (rw [get_put_eq] <;> rfl))
      have x3 : (Ha2.get (Hx.next)).bind AObj.cs = some [ov, I least] := by rw [qa2.ext.get _ (by first | omega | (simp only [hNw, hPt]; omega))]; first | assumption | (rw [gn0]; rfl) | (rw [get_put_eq] <;> rfl) | (simp (disch := first | omega | (simp only [hNw, hPt]; omega)) only [gn0, gn1, gn2, gn3, gn4, gn5, gp0, gno, gpo] <;> first | rfl | assumption | (rw [get_put_eq] <;> rfl))
      have exGJ3 : Ext GJ Ha2 := Ext.trans (by (try dsimp only); repeat (first | exact exGJ2 | exact Ext.refl _ | apply Ext.new | (refine Ext.put ?_ _ (by first | omega | (simp only [hNw, hPt]; omega))))) qa2.ext
      have ma2 := fa2.now (Nat.le_refl _)
      refine OkO.callE rfl rfl rfl rfl rfl (c31' (m + 1) cv2 (setAt cols ci ck (chg we nn (bedAt cols ci ck))) least _ ma2 hxok) ?_ -- "sackung/slope.Worst"
      rintro _ Hw2 ⟨qw2, x2, y2, z2, e2, rfl, at2, hd2⟩
      have n4 := qw2.ext.next
      try simp only [hNw, hPt] at n4
      have gg4 : Grow W Hw2 := Grow.ret (by (try dsimp only); repeat (first | exact gg3 | apply Grow.new | (refine Grow.put ?_ _ (by first | omega | (simp only [hNw, hPt]; omega))))) qw2
      have a4 : (Hw2.get (W.next)).bind AObj.cs = some [cv, I least] := by rw [qw2.ext.get _ (by first | omega | (simp only [hNw, hPt]; omega))]; first | assumption | (rw [gn0]; rfl) | (rw [get_put_eq] <;> rfl) | (simp (disch := first | omega | (simp only [hNw, hPt]; omega)) only [gn0, gn1, gn2, gn3, gn4, gn5, gp0, gno, gpo] <;> first | rfl | assumption | (rw [get_put_eq] <;> rfl))
      have x4 : (Hw2.get (Hx.next)).bind AObj.cs = some [ov, I least] := by rw [qw2.ext.get _ (by first | omega | (simp only [hNw, hPt]; omega))]; first | assumption | (rw [gn0]; rfl) | (rw [get_put_eq] <;> rfl) | (simp (disch := first | omega | (simp only [hNw, hPt]; omega)) only [gn0, gn1, gn2, gn3, gn4, gn5, gp0, gno, gpo] <;> first | rfl | assumption | (rw [get_put_eq] <;> rfl))
      have exGJ4 : Ext GJ Hw2 := Ext.trans (by (try dsimp only); repeat (first | exact exGJ3 | exact Ext.refl _ | apply Ext.new | (refine Ext.put ?_ _ (by first | omega | (simp only [hNw, hPt]; omega))))) qw2.ext
      have w2 := worstIs_of hd2
      have he2 : e2 = 7 := by (rcases w2 with ⟨_, fr, us, h⟩ | h); (· exact absurd (hB fr us h.1) (by have := h.2.1; omega)); (· exact h.1)
      subst he2
      refine OkO.move rfl rfl ?_
      refine OkO.extract rfl rfl rfl ?_
      refine OkO.extract rfl rfl rfl ?_
      refine OkO.extract rfl rfl rfl ?_
      refine OkO.alloc (z := [.int .i64 0, .nils]) rfl (by kernel_rfl) ?_
      refine OkO.store rfl rfl rfl (stc (n := 2) (ag := true) (by kernel_rfl) (by first | assumption | (simp (disch := first | omega | (simp only [hNw, hPt]; omega)) only [gn0, gn1, gn2, gn3, gn4, gn5, gp0, gno, gpo] <;> first | rfl | assumption | exact gp0 _ _ _ | exact gn0 _ _)) rfl (by first | rfl | assumption) (by first | rfl | exact spl_set _ _ _ (by first | assumption | omega | (simp; omega)))) ?_
      refine OkO.assign rfl rfl ?_
      refine OkO.assign rfl rfl ?_
      refine OkO.nil ?_
      refine Ok.seq ?_
      refine Ok.seq ?_
      refine Ok.region ?_
      refine OkO.move rfl rfl ?_
      refine OkO.bin rfl rfl rfl (bin_neq _ _) ?_
      refine OkO.move rfl rfl ?_
      refine OkO.move rfl rfl ?_
      refine OkO.bin rfl rfl rfl (bin_neq _ _) ?_
      refine OkO.pick (b := true) rfl rfl (fun _ => rfl) nofun ?_
      refine OkO.move rfl rfl ?_
      refine OkO.move rfl rfl ?_
      refine OkO.bin rfl rfl rfl (bin_neq _ _) ?_
      refine OkO.move rfl rfl ?_
      refine OkO.move rfl rfl ?_
      refine OkO.bin rfl rfl rfl (bin_neq _ _) ?_
      refine OkO.pick (b := true) rfl rfl (fun _ => rfl) nofun ?_
      refine OkO.pick (b := false) rfl rfl nofun (fun _ => rfl) ?_
      refine OkO.move rfl rfl ?_
      refine OkO.move rfl rfl ?_
      refine OkO.bin rfl rfl rfl (bin_eql _ _) ?_
      refine OkO.move rfl rfl ?_
      refine OkO.move rfl rfl ?_
      refine OkO.bin rfl rfl rfl (bin_eql _ _) ?_
      refine OkO.pick (b := true) rfl rfl (fun _ => rfl) nofun ?_
      refine OkO.pick (b := false) rfl rfl nofun (fun _ => rfl) ?_
      refine OkO.move rfl rfl ?_
      refine OkO.move rfl rfl ?_
      refine OkO.bin rfl rfl rfl (bin_eql _ _) ?_
      refine OkO.move rfl rfl ?_
      refine OkO.skip rfl ?_
      refine OkO.skip rfl ?_
      refine OkO.skip rfl ?_
      refine OkO.pick (b := false) rfl rfl nofun (fun _ => rfl) ?_
      refine OkO.pick (b := false) rfl rfl nofun (fun _ => rfl) ?_
      refine OkO.nil ?_
      refine Ok.condF rfl ?_
      refine Ok.skip ?_
      refine Ok.seq ?_
      refine Ok.seq ?_
      refine Ok.region ?_
      refine OkO.move rfl rfl ?_
      refine OkO.bin rfl rfl rfl (bin_remU8 (by omega) (by omega) (by omega)) ?_
      refine OkO.bin rfl rfl rfl (bin_eqlU8 _ _) ?_
      refine OkO.nil ?_
      refine Ok.cond rfl (fun h6 => ?_) (fun h6 => ?_)
      · -- yes h6
        refine Ok.seq ?_
        refine Ok.region ?_
        refine OkO.callV rfl rfl rfl rfl rfl (rfl) ?_ -- "sackung/sackunglaw01.wakes"
        refine OkO.assign rfl rfl ?_
        refine OkO.nil ?_
        refine Ok.ret ⟨.inr rfl, ?_⟩
        exact back_flat rfl rfl rfl (by rw [← hW]; exact (by (try dsimp only); repeat (first | exact gg4 | apply Grow.new | (refine Grow.put ?_ _ (by first | omega | (simp only [hNw, hPt]; omega))))))
      · -- no h6
        refine Ok.skip ?_
        refine Ok.seq ?_
        refine Ok.region ?_
        refine OkO.load rfl rfl (ldg (n := 2) (by kernel_rfl) (by first | assumption | (simp (disch := first | omega | (simp only [hNw, hPt]; omega)) only [gn0, gn1, gn2, gn3, gn4, gn5, gp0, gno, gpo] <;> first | rfl | assumption | exact gp0 _ _ _ | exact gn0 _ _)) (by first | rfl | assumption)) ?_
        refine OkO.move rfl rfl ?_
        refine OkO.callE rfl rfl rfl rfl rfl (c52 (m + 210) (cols.headD []).length cv wv cols least ws _ (hM.ext (hE _ (by (try dsimp only); repeat (first | exact gg4 | apply Grow.new | (refine Grow.put ?_ _ (by first | omega | (simp only [hNw, hPt]; omega))))))) (hWs.ext (hE _ (by (try dsimp only); repeat (first | exact gg4 | apply Grow.new | (refine Grow.put ?_ _ (by first | omega | (simp only [hNw, hPt]; omega))))))) hws hv rfl hlc) ?_ -- "sackung/sackunglaw01.Path"
        rintro v52 H52 ⟨fr, us, bv, rfl, q52, m52, nn52, hs, hlu⟩
        have n5 := q52.ext.next
        try simp only [hNw, hPt] at n5
        have gg5 : Grow W H52 := Grow.ret (by (try dsimp only); repeat (first | exact gg4 | apply Grow.new | (refine Grow.put ?_ _ (by first | omega | (simp only [hNw, hPt]; omega))))) q52
        have a5 : (H52.get (W.next)).bind AObj.cs = some [cv, I least] := by rw [q52.ext.get _ (by first | omega | (simp only [hNw, hPt]; omega))]; first | assumption | (rw [gn0]; rfl) | (rw [get_put_eq] <;> rfl) | (simp (disch := first | omega | (simp only [hNw, hPt]; omega)) only [gn0, gn1, gn2, gn3, gn4, gn5, gp0, gno, gpo] <;> first | rfl | assumption | (rw [get_put_eq] <;> rfl))
        have x5 : (H52.get (Hx.next)).bind AObj.cs = some [ov, I least] := by rw [q52.ext.get _ (by first | omega | (simp only [hNw, hPt]; omega))]; first | assumption | (rw [gn0]; rfl) | (rw [get_put_eq] <;> rfl) | (simp (disch := first | omega | (simp only [hNw, hPt]; omega)) only [gn0, gn1, gn2, gn3, gn4, gn5, gp0, gno, gpo] <;> first | rfl | assumption | (rw [get_put_eq] <;> rfl))
        have exGJ5 : Ext GJ H52 := Ext.trans (by (try dsimp only); repeat (first | exact exGJ4 | exact Ext.refl _ | apply Ext.new | (refine Ext.put ?_ _ (by first | omega | (simp only [hNw, hPt]; omega))))) q52.ext
        have hU : Row H52 bv 1 (us.map fun (k : Nat) => [I (k : Int)]) := Mine.row (by rw [flatN]; exact m52) (fun x hx => by simp only [List.mem_map] at hx; obtain ⟨y, _, rfl⟩ := hx; rfl) (by omega)
        refine OkO.callE rfl rfl rfl rfl rfl (c21 (m + 210) bv (fr : Int) (ofN us) _ (ints_N hU) (by rw [ofN_len]; omega)) ?_ -- "sackung/sackunglaw01.Surface"
        rintro _ Hb ⟨bvb, rfl, qb, fb⟩
        have n6 := qb.ext.next
        try simp only [hNw, hPt] at n6
        have gg6 : Grow W Hb := Grow.ret (by (try dsimp only); repeat (first | exact gg5 | apply Grow.new | (refine Grow.put ?_ _ (by first | omega | (simp only [hNw, hPt]; omega))))) qb
        have a6 : (Hb.get (W.next)).bind AObj.cs = some [cv, I least] := by rw [qb.ext.get _ (by first | omega | (simp only [hNw, hPt]; omega))]; first | assumption | (rw [gn0]; rfl) | (rw [get_put_eq] <;> rfl) | (simp (disch := first | omega | (simp only [hNw, hPt]; omega)) only [gn0, gn1, gn2, gn3, gn4, gn5, gp0, gno, gpo] <;> first | rfl | assumption | (rw [get_put_eq] <;> rfl))
        have x6 : (Hb.get (Hx.next)).bind AObj.cs = some [ov, I least] := by rw [qb.ext.get _ (by first | omega | (simp only [hNw, hPt]; omega))]; first | assumption | (rw [gn0]; rfl) | (rw [get_put_eq] <;> rfl) | (simp (disch := first | omega | (simp only [hNw, hPt]; omega)) only [gn0, gn1, gn2, gn3, gn4, gn5, gp0, gno, gpo] <;> first | rfl | assumption | (rw [get_put_eq] <;> rfl))
        have exGJ6 : Ext GJ Hb := Ext.trans (by (try dsimp only); repeat (first | exact exGJ5 | exact Ext.refl _ | apply Ext.new | (refine Ext.put ?_ _ (by first | omega | (simp only [hNw, hPt]; omega))))) qb.ext
        have ib := fb.now (Nat.le_refl _)
        have pbv := lpl ib.1.len
        have pu : AV.plain (.agg [I (fr : Int), bvb]) = true := by simp [AV.plain, AV.plains, pbv]
        have atb : atoms [I (fr : Int), bvb] = true := by (rw [atoms, atoms, ib.2.atom.1]; rfl)
        have hsx : Surf (setAt cols ci ck (chg we nn (bedAt cols ci ck))).length ((setAt cols ci ck (chg we nn (bedAt cols ci ck))).headD []).length least fr us := by rw [setAt_len, setAt_head hcil]; exact hs
        have hsp1 := span_W hv hs
        have hsp2 := span_W hxok hsx
        refine OkO.alloc (z := [.int .i64 0, .nils]) rfl (by kernel_rfl) ?_
        refine OkO.store rfl rfl rfl (stc (n := 2) (ag := true) (by kernel_rfl) (by first | assumption | (simp (disch := first | omega | (simp only [hNw, hPt]; omega)) only [gn0, gn1, gn2, gn3, gn4, gn5, gp0, gno, gpo] <;> first | rfl | assumption | exact gp0 _ _ _ | exact gn0 _ _)) rfl (by first | rfl | assumption) (by first | rfl | exact spl_set _ _ _ (by first | assumption | omega | (simp; omega)))) ?_
        refine OkO.nil ?_
        refine Ok.seq ?_
        refine Ok.drawn [(0, true, []), (2, true, []), (7, true, [2, 0]), (1, false, [2]), (3, false, [0]), (4, true, []), (5, true, []), (6, true, []), (8, false, []), (9, true, [])] (by kernel_rfl) ?_
        refine OkP.step ?_
        refine OkO.load rfl rfl (ldg (n := 2) (by kernel_rfl) (by first | assumption | (simp (disch := first | omega | (simp only [hNw, hPt]; omega)) only [gn0, gn1, gn2, gn3, gn4, gn5, gp0, gno, gpo] <;> first | rfl | assumption | exact gp0 _ _ _ | exact gn0 _ _)) (by first | rfl | assumption)) ?_
        refine OkO.nil ⟨rfl, ?_⟩
        refine OkP.step ?_
        refine OkO.load rfl rfl (ldg (n := 2) (by kernel_rfl) (by first | assumption | (simp (disch := first | omega | (simp only [hNw, hPt]; omega)) only [gn0, gn1, gn2, gn3, gn4, gn5, gp0, gno, gpo] <;> first | rfl | assumption | exact gp0 _ _ _ | exact gn0 _ _)) (by first | rfl | assumption)) ?_
        refine OkO.nil ⟨rfl, ?_⟩
        refine OkP.step ?_
        refine OkO.alloc (z := [.int .i64 0, .int .i64 0]) rfl (by kernel_rfl) ?_
        refine OkO.nil ⟨(sco (sld rfl rfl (ldg (n := 2) (by kernel_rfl) (by first | assumption | (simp (disch := first | omega | (simp only [hNw, hPt]; omega)) only [gn0, gn1, gn2, gn3, gn4, gn5, gp0, gno, gpo] <;> first | rfl | assumption | exact gp0 _ _ _ | exact gn0 _ _)) (by first | rfl | assumption)) rfl (eqr _ (by first | rfl | exact ps | exact pu | exact lpl (by assumption) | (simp [AV.plain, AV.plains, AV.cells, pc, pov])))) (sco (sld rfl rfl (ldg (n := 2) (by kernel_rfl) (by first | assumption | (simp (disch := first | omega | (simp only [hNw, hPt]; omega)) only [gn0, gn1, gn2, gn3, gn4, gn5, gp0, gno, gpo] <;> first | rfl | assumption | exact gp0 _ _ _ | exact gn0 _ _)) (by first | rfl | assumption)) rfl (eqr _ (by first | rfl | exact ps | exact pu | exact lpl (by assumption) | (simp [AV.plain, AV.plains, AV.cells, pc, pov])))) rfl)), ?_⟩
        refine OkP.step ?_
        refine OkO.callE rfl rfl rfl rfl rfl (c19 (m + 210) cv cols least _ (hM.ext (hE _ (by (try dsimp only); repeat (first | exact gg6 | apply Grow.new | (refine Grow.put ?_ _ (by first | omega | (simp only [hNw, hPt]; omega))))))) hth) ?_ -- "sackung/sackunglaw01.Slope"
        rintro _ Ha3 ⟨cv3, rfl, qa3, fa3⟩
        have n7 := qa3.ext.next
        try simp only [hNw, hPt] at n7
        have gg7 : Grow W Ha3 := Grow.ret (by (try dsimp only); repeat (first | exact gg6 | apply Grow.new | (refine Grow.put ?_ _ (by first | omega | (simp only [hNw, hPt]; omega))))) qa3
        have a7 : (Ha3.get (W.next)).bind AObj.cs = some [cv, I least] := by rw [qa3.ext.get _ (by first | omega | (simp only [hNw, hPt]; omega))]; first | assumption | (rw [gn0]; rfl) | (rw [get_put_eq] <;> rfl) | (simp (disch := first | omega | (simp only [hNw, hPt]; omega)) only [gn0, gn1, gn2, gn3, gn4, gn5, gp0, gno, gpo] <;> first | rfl | assumption | (rw [get_put_eq] <;> rfl))
        have x7 : (Ha3.get (Hx.next)).bind AObj.cs = some [ov, I least] := by rw [qa3.ext.get _ (by first | omega | (simp only [hNw, hPt]; omega))]; first | assumption | (rw [gn0]; rfl) | (rw [get_put_eq] <;> rfl) | (simp (disch := first | omega | (simp only [hNw, hPt]; omega)) only [gn0, gn1, gn2, gn3, gn4, gn5, gp0, gno, gpo] <;> first | rfl | assumption | (rw [get_put_eq] <;> rfl))
        have u7 : (Ha3.get (Hb.next)).bind AObj.cs = some [I (fr : Int), bvb] := by rw [qa3.ext.get _ (by first | omega | (simp only [hNw, hPt]; omega))]; first | assumption | (rw [gn0]; rfl) | (rw [get_put_eq] <;> rfl) | (simp (disch := first | omega | (simp only [hNw, hPt]; omega)) only [gn0, gn1, gn2, gn3, gn4, gn5, gp0, gno, gpo] <;> first | rfl | assumption | (rw [get_put_eq] <;> rfl))
        have o7 : Ha3.get (Hb.next + 1) = some (.cells [I 0, I 0] 47) := by rw [qa3.ext.get _ (by first | omega | (simp only [hNw, hPt]; omega))]; first | assumption | exact gn0 _ _ | (simp (disch := first | omega | (simp only [hNw, hPt]; omega)) only [gn0, gn1, gn2, gn3, gn4, gn5, gp0, gno, gpo] <;> first | rfl | assumption | exact gp0 _ _ _ | exact gn0 _ _)
        have exGJ7 : Ext GJ Ha3 := Ext.trans (by (try dsimp only); repeat (first | exact exGJ6 | exact Ext.refl _ | apply Ext.new | (refine Ext.put ?_ _ (by first | omega | (simp only [hNw, hPt]; omega))))) qa3.ext
        have exHb7 : Ext Hb Ha3 := Ext.trans (by (try dsimp only); repeat (first | exact Ext.refl _ | exact Ext.refl _ | apply Ext.new | (refine Ext.put ?_ _ (by first | omega | (simp only [hNw, hPt]; omega))))) qa3.ext
        have ma3 := fa3.now (Nat.le_refl _)
        refine OkO.nil ⟨(sco (sld rfl rfl (ldg (n := 2) (by kernel_rfl) (by first | assumption | (simp (disch := first | omega | (simp only [hNw, hPt]; omega)) only [gn0, gn1, gn2, gn3, gn4, gn5, gp0, gno, gpo] <;> first | rfl | assumption | exact gp0 _ _ _ | exact gn0 _ _)) (by first | rfl | assumption)) rfl (eqr _ (by first | rfl | exact ps | exact pu | exact lpl (by assumption) | (simp [AV.plain, AV.plains, AV.cells, pc, pov])))) rfl), ?_⟩
        refine OkP.step ?_
        have h27a := c27 (m + 203) cv3 bvb cols least (fr : Int) (ofN us) Ha3 ma3 (ib.1.ext (by (try dsimp only); repeat (first | exact exHb7 | exact Ext.refl _ | apply Ext.new | (refine Ext.put ?_ _ (by first | omega | (simp only [hNw, hPt]; omega)))))) (ib.2.ext (by (try dsimp only); repeat (first | exact exHb7 | exact Ext.refl _ | apply Ext.new | (refine Ext.put ?_ _ (by first | omega | (simp only [hNw, hPt]; omega)))))) (by rw [ofN_len]; omega)
        rw [hsp1] at h27a
        obtain ⟨sa, sb, se, hspv⟩ : ∃ sa sb se, spW cols fr us = (sa, sb, se) := ⟨_, _, _, rfl⟩
        rw [hspv] at h27a
        refine OkO.callV rfl rfl rfl rfl rfl (h27a) ?_ -- "sackung/slope.Span"
        refine OkO.nil ⟨(sco (sld rfl rfl (ldg (n := 2) (by kernel_rfl) (by first | assumption | (simp (disch := first | omega | (simp only [hNw, hPt]; omega)) only [gn0, gn1, gn2, gn3, gn4, gn5, gp0, gno, gpo] <;> first | rfl | assumption | exact gp0 _ _ _ | exact gn0 _ _)) (by first | rfl | assumption)) rfl (eqr _ (by first | rfl | exact ps | exact pu | exact lpl (by assumption) | (simp [AV.plain, AV.plains, AV.cells, pc, pov])))) rfl), ?_⟩
        refine OkP.step ?_
        refine OkO.move rfl rfl ?_
        refine OkO.nil ⟨rfl, ?_⟩
        refine OkP.step ?_
        refine OkO.extract rfl rfl rfl ?_
        refine OkO.nil ⟨rfl, ?_⟩
        refine OkP.step ?_
        refine OkO.extract rfl rfl rfl ?_
        refine OkO.nil ⟨rfl, ?_⟩
        refine OkP.step ?_
        refine OkO.store rfl rfl rfl (stc (n := 2) (ag := true) (by kernel_rfl) (by first | assumption | (simp (disch := first | omega | (simp only [hNw, hPt]; omega)) only [gn0, gn1, gn2, gn3, gn4, gn5, gp0, gno, gpo] <;> first | rfl | assumption | exact gp0 _ _ _ | exact gn0 _ _)) rfl (by first | rfl | assumption) (by first | rfl | exact spl_set _ _ _ (by first | assumption | omega | (simp; omega)))) ?_
        refine OkO.nil ⟨rfl, ?_⟩
        refine OkP.step ?_
        refine OkO.assign rfl rfl ?_
        refine OkO.nil ⟨rfl, ?_⟩
        refine OkP.nil ?_
        refine Ok.seq ?_
        refine Ok.drawn [(0, true, []), (2, true, []), (7, true, [2, 0]), (1, false, [2]), (3, false, [0]), (4, true, []), (5, true, []), (6, true, []), (8, false, []), (9, true, [])] (by kernel_rfl) ?_
        refine OkP.step ?_
        refine OkO.load rfl rfl (ldg (n := 2) (by kernel_rfl) (by first | assumption | (simp (disch := first | omega | (simp only [hNw, hPt]; omega)) only [gn0, gn1, gn2, gn3, gn4, gn5, gp0, gno, gpo] <;> first | rfl | assumption | exact gp0 _ _ _ | exact gn0 _ _)) (by first | rfl | assumption)) ?_
        refine OkO.nil ⟨rfl, ?_⟩
        refine OkP.step ?_
        refine OkO.load rfl rfl (ldg (n := 2) (by kernel_rfl) (by first | assumption | (simp (disch := first | omega | (simp only [hNw, hPt]; omega)) only [gn0, gn1, gn2, gn3, gn4, gn5, gp0, gno, gpo] <;> first | rfl | assumption | exact gp0 _ _ _ | exact gn0 _ _)) (by first | rfl | assumption)) ?_
        refine OkO.nil ⟨rfl, ?_⟩
        refine OkP.step ?_
        refine OkO.alloc (z := [.int .i64 0, .int .i64 0]) rfl (by kernel_rfl) ?_
        refine OkO.nil ⟨(sco (sld rfl rfl (ldg (n := 2) (by kernel_rfl) (by first | assumption | (simp (disch := first | omega | (simp only [hNw, hPt]; omega)) only [gn0, gn1, gn2, gn3, gn4, gn5, gp0, gno, gpo] <;> first | rfl | assumption | exact gp0 _ _ _ | exact gn0 _ _)) (by first | rfl | assumption)) rfl (eqr _ (by first | rfl | exact ps | exact pu | exact lpl (by assumption) | (simp [AV.plain, AV.plains, AV.cells, pc, pov])))) (sco (sld rfl rfl (ldg (n := 2) (by kernel_rfl) (by first | assumption | (simp (disch := first | omega | (simp only [hNw, hPt]; omega)) only [gn0, gn1, gn2, gn3, gn4, gn5, gp0, gno, gpo] <;> first | rfl | assumption | exact gp0 _ _ _ | exact gn0 _ _)) (by first | rfl | assumption)) rfl (eqr _ (by first | rfl | exact ps | exact pu | exact lpl (by assumption) | (simp [AV.plain, AV.plains, AV.cells, pc, pov])))) rfl)), ?_⟩
        refine OkP.step ?_
        refine OkO.callE rfl rfl rfl rfl rfl (c19 (m + 210) ov (setAt cols ci ck (chg we nn (bedAt cols ci ck))) least _ (mO.ext (by (try dsimp only); repeat (first | exact exGJ7 | exact Ext.refl _ | apply Ext.new | (refine Ext.put ?_ _ (by first | omega | (simp only [hNw, hPt]; omega)))))) (thin_set hth hcil)) ?_ -- "sackung/sackunglaw01.Slope"
        rintro _ Ha4 ⟨cv4, rfl, qa4, fa4⟩
        have n8 := qa4.ext.next
        try simp only [hNw, hPt] at n8
        have gg8 : Grow W Ha4 := Grow.ret (by (try dsimp only); repeat (first | exact gg7 | apply Grow.new | (refine Grow.put ?_ _ (by first | omega | (simp only [hNw, hPt]; omega))))) qa4
        have a8 : (Ha4.get (W.next)).bind AObj.cs = some [cv, I least] := by rw [qa4.ext.get _ (by first | omega | (simp only [hNw, hPt]; omega))]; first | assumption | (rw [gn0]; rfl) | (rw [get_put_eq] <;> rfl) | (simp (disch := first | omega | (simp only [hNw, hPt]; omega)) only [gn0, gn1, gn2, gn3, gn4, gn5, gp0, gno, gpo] <;> first | rfl | assumption | (rw [get_put_eq] <;> rfl))
        have x8 : (Ha4.get (Hx.next)).bind AObj.cs = some [ov, I least] := by rw [qa4.ext.get _ (by first | omega | (simp only [hNw, hPt]; omega))]; first | assumption | (rw [gn0]; rfl) | (rw [get_put_eq] <;> rfl) | (simp (disch := first | omega | (simp only [hNw, hPt]; omega)) only [gn0, gn1, gn2, gn3, gn4, gn5, gp0, gno, gpo] <;> first | rfl | assumption | (rw [get_put_eq] <;> rfl))
        have u8 : (Ha4.get (Hb.next)).bind AObj.cs = some [I (fr : Int), bvb] := by rw [qa4.ext.get _ (by first | omega | (simp only [hNw, hPt]; omega))]; first | assumption | (rw [gn0]; rfl) | (rw [get_put_eq] <;> rfl) | (simp (disch := first | omega | (simp only [hNw, hPt]; omega)) only [gn0, gn1, gn2, gn3, gn4, gn5, gp0, gno, gpo] <;> first | rfl | assumption | (rw [get_put_eq] <;> rfl))
        have r8 : (Ha4.get (Hb.next + 1)).bind AObj.cs = some [I sa, I sb] := by rw [qa4.ext.get _ (by first | omega | (simp only [hNw, hPt]; omega))]; first | assumption | (rw [gn0]; rfl) | (rw [get_put_eq] <;> rfl) | (simp (disch := first | omega | (simp only [hNw, hPt]; omega)) only [gn0, gn1, gn2, gn3, gn4, gn5, gp0, gno, gpo] <;> first | rfl | assumption | (rw [get_put_eq] <;> rfl))
        have q8 : Ha4.get (Ha3.next) = some (.cells [I 0, I 0] 47) := by rw [qa4.ext.get _ (by first | omega | (simp only [hNw, hPt]; omega))]; first | assumption | exact gn0 _ _ | (simp (disch := first | omega | (simp only [hNw, hPt]; omega)) only [gn0, gn1, gn2, gn3, gn4, gn5, gp0, gno, gpo] <;> first | rfl | assumption | exact gp0 _ _ _ | exact gn0 _ _)
        have exGJ8 : Ext GJ Ha4 := Ext.trans (by (try dsimp only); repeat (first | exact exGJ7 | exact Ext.refl _ | apply Ext.new | (refine Ext.put ?_ _ (by first | omega | (simp only [hNw, hPt]; omega))))) qa4.ext
        have exHb8 : Ext Hb Ha4 := Ext.trans (by (try dsimp only); repeat (first | exact exHb7 | exact Ext.refl _ | apply Ext.new | (refine Ext.put ?_ _ (by first | omega | (simp only [hNw, hPt]; omega))))) qa4.ext
        have ma4 := fa4.now (Nat.le_refl _)
        refine OkO.nil ⟨(sco (sld rfl rfl (ldg (n := 2) (by kernel_rfl) (by first | assumption | (simp (disch := first | omega | (simp only [hNw, hPt]; omega)) only [gn0, gn1, gn2, gn3, gn4, gn5, gp0, gno, gpo] <;> first | rfl | assumption | exact gp0 _ _ _ | exact gn0 _ _)) (by first | rfl | assumption)) rfl (eqr _ (by first | rfl | exact ps | exact pu | exact lpl (by assumption) | (simp [AV.plain, AV.plains, AV.cells, pc, pov])))) rfl), ?_⟩
        refine OkP.step ?_
        have h27b := c27 (m + 203) cv4 bvb (setAt cols ci ck (chg we nn (bedAt cols ci ck))) least (fr : Int) (ofN us) Ha4 ma4 (ib.1.ext (by (try dsimp only); repeat (first | exact exHb8 | exact Ext.refl _ | apply Ext.new | (refine Ext.put ?_ _ (by first | omega | (simp only [hNw, hPt]; omega)))))) (ib.2.ext (by (try dsimp only); repeat (first | exact exHb8 | exact Ext.refl _ | apply Ext.new | (refine Ext.put ?_ _ (by first | omega | (simp only [hNw, hPt]; omega)))))) (by rw [ofN_len]; omega)
        rw [hsp2] at h27b
        obtain ⟨ta, tb, te, hspw⟩ : ∃ sa sb se, spW (setAt cols ci ck (chg we nn (bedAt cols ci ck))) fr us = (sa, sb, se) := ⟨_, _, _, rfl⟩
        rw [hspw] at h27b
        have hsum := sums_better hbetter us fr
        have hbx := setAt_beds (n := 0) (k := ck) hok9 hcil hbok2
        have hn2 : ¬ we % 5 = 2 := by simpa using h6
        obtain ⟨hdq, hsq⟩ := hsum.2.2 hn2
        have hfin : se = te ∧ sa ≤ ta ∧ tb ≤ sb := by (unfold spW at hspv hspw; rw [hdq] at hspw; split at hspv); (· rename_i hdd; rw [if_pos hdd] at hspw; cases hspv; cases hspw; exact ⟨rfl, by unfold facW; rw [hdq]; exact factorOf_mono hsum.2.1 hdd, factorOf_mono hsq hdd⟩); (· rename_i hdd; rw [if_neg hdd] at hspw; cases hspv; cases hspw; exact ⟨rfl, Int.le_refl _, Int.le_refl _⟩)
        refine OkO.callV rfl rfl rfl rfl rfl (h27b) ?_ -- "sackung/slope.Span"
        refine OkO.nil ⟨(sco (sld rfl rfl (ldg (n := 2) (by kernel_rfl) (by first | assumption | (simp (disch := first | omega | (simp only [hNw, hPt]; omega)) only [gn0, gn1, gn2, gn3, gn4, gn5, gp0, gno, gpo] <;> first | rfl | assumption | exact gp0 _ _ _ | exact gn0 _ _)) (by first | rfl | assumption)) rfl (eqr _ (by first | rfl | exact ps | exact pu | exact lpl (by assumption) | (simp [AV.plain, AV.plains, AV.cells, pc, pov])))) rfl), ?_⟩
        refine OkP.step ?_
        refine OkO.move rfl rfl ?_
        refine OkO.nil ⟨rfl, ?_⟩
        refine OkP.step ?_
        refine OkO.extract rfl rfl rfl ?_
        refine OkO.nil ⟨rfl, ?_⟩
        refine OkP.step ?_
        refine OkO.extract rfl rfl rfl ?_
        refine OkO.nil ⟨rfl, ?_⟩
        refine OkP.step ?_
        refine OkO.store rfl rfl rfl (stc (n := 2) (ag := true) (by kernel_rfl) (by first | assumption | (simp (disch := first | omega | (simp only [hNw, hPt]; omega)) only [gn0, gn1, gn2, gn3, gn4, gn5, gp0, gno, gpo] <;> first | rfl | assumption | exact gp0 _ _ _ | exact gn0 _ _)) rfl (by first | rfl | assumption) (by first | rfl | exact spl_set _ _ _ (by first | assumption | omega | (simp; omega)))) ?_
        refine OkO.nil ⟨rfl, ?_⟩
        refine OkP.step ?_
        refine OkO.assign rfl rfl ?_
        refine OkO.nil ⟨rfl, ?_⟩
        refine OkP.nil ?_
        refine Ok.seq ?_
        refine Ok.region ?_
        refine OkO.move rfl rfl ?_
        refine OkO.move rfl rfl ?_
        refine OkO.bin rfl rfl rfl (bin_eql _ _) ?_
        refine OkO.move rfl rfl ?_
        refine OkO.split (d := 211) rfl (fun g7 => ?_) (fun g7 => ?_)
        · -- true g7
          refine OkO.fieldAddr (o := 0) rfl (by kernel_rfl) rfl ?_
          refine OkO.load rfl rfl (lda (n := 1) (by kernel_rfl) (by first | assumption | (simp (disch := first | omega | (simp only [hNw, hPt]; omega)) only [gn0, gn1, gn2, gn3, gn4, gn5, gp0, gno, gpo] <;> first | rfl | assumption | exact gp0 _ _ _ | exact gn0 _ _)) (by first | rfl | assumption)) ?_
          refine OkO.fieldAddr (o := 0) rfl (by kernel_rfl) rfl ?_
          refine OkO.load rfl rfl (lda (n := 1) (by kernel_rfl) (by first | assumption | (simp (disch := first | omega | (simp only [hNw, hPt]; omega)) only [gn0, gn1, gn2, gn3, gn4, gn5, gp0, gno, gpo] <;> first | rfl | assumption | exact gp0 _ _ _ | exact gn0 _ _)) (by first | rfl | assumption)) ?_
          refine OkO.bin rfl rfl rfl (bin_geq _ _) ?_
          refine OkO.pick (b := true) rfl rfl (fun _ => rfl) nofun ?_
          refine OkO.move rfl rfl ?_
          refine OkO.split (d := 218) rfl (fun g8 => ?_) (fun g8 => ?_)
          · -- true g8
            refine OkO.fieldAddr (o := 1) rfl (by kernel_rfl) rfl ?_
            refine OkO.load rfl rfl (lda (n := 1) (by kernel_rfl) (by first | assumption | (simp (disch := first | omega | (simp only [hNw, hPt]; omega)) only [gn0, gn1, gn2, gn3, gn4, gn5, gp0, gno, gpo] <;> first | rfl | assumption | exact gp0 _ _ _ | exact gn0 _ _)) (by first | rfl | assumption)) ?_
            refine OkO.fieldAddr (o := 1) rfl (by kernel_rfl) rfl ?_
            refine OkO.load rfl rfl (lda (n := 1) (by kernel_rfl) (by first | assumption | (simp (disch := first | omega | (simp only [hNw, hPt]; omega)) only [gn0, gn1, gn2, gn3, gn4, gn5, gp0, gno, gpo] <;> first | rfl | assumption | exact gp0 _ _ _ | exact gn0 _ _)) (by first | rfl | assumption)) ?_
            refine OkO.bin rfl rfl rfl (bin_leq _ _) ?_
            refine OkO.pick (b := true) rfl rfl (fun _ => rfl) nofun ?_
            refine OkO.move rfl rfl ?_
            refine OkO.split (d := 225) rfl (fun g9 => ?_) (fun g9 => ?_)
            · -- true g9
              refine OkO.callV rfl rfl rfl rfl rfl (rfl) ?_ -- "sackung/sackunglaw01.wakes"
              refine OkO.pick (b := true) rfl rfl (fun _ => rfl) nofun ?_
              refine OkO.assign rfl rfl ?_
              refine OkO.nil ?_
              refine Ok.ret ⟨.inr rfl, ?_⟩
              exact back_flat rfl rfl rfl (by rw [← hW]; exact (by (try dsimp only); repeat (first | exact gg8 | apply Grow.new | (refine Grow.put ?_ _ (by first | omega | (simp only [hNw, hPt]; omega))))))
            · -- false g9
              exact absurd g9 (by simp; omega)
          · -- false g8
            exact absurd g8 (by simp; omega)
        · -- false g7
          exact absurd g7 (by simp [hfin.1])
theorem c13W (m : Nat) (cv wv : AV) (cols : List (List Bed)) (least : Int) (ws : List Int) (co at9 we nn : Int) (H : Heap) (hM : Mat H cv cols) (hWs : Row H wv 1 (ws.map fun w => [U8 w])) (hws : Upto 255 ws) (hco : 0 ≤ co ∧ co ≤ 255) (hat : 0 ≤ at9 ∧ at9 ≤ 255) (hwe : 0 ≤ we ∧ we ≤ 255) (hnn : 0 ≤ nn ∧ nn ≤ 65535) (hrd : readyS cols least = false) : RR (m + 213) (.fn 13 [.agg [cv, I least], wv, .int .u8 co, .int .u8 at9, .int .u8 we, U16 nn]) H = some (.bool true, H) := by
  refine (R_fn _ _ _ _ _).trans ?_
  refine fn_ok Try.func13 rfl rfl (by kernel_rfl) (by kernel_rfl) ?_
  obtain ⟨W, hW⟩ : ∃ W : Heap, W = ⟨H.t, H.next, H.next⟩ := ⟨_, rfl⟩
  have hg : ∀ n, W.get n = H.get n := fun n => by rw [hW]; rfl
  have hN : W.next = H.next := by rw [hW]
  have hE : ∀ G, Grow W G → Ext H G := fun G g => ⟨by rw [← hN]; exact g.next, fun n k => by rw [g.get n (by rw [hN]; exact k), hg]⟩
  have hG : Grow W W := Grow.refl (by rw [hW]; exact Nat.le_refl _)
  rw [← hW]
  refine Ok.seq ?_
  refine Ok.region ?_
  refine OkO.box rfl rfl ?_
  refine OkO.assign rfl rfl ?_
  refine OkO.nil ?_
  refine Ok.seq ?_
  refine Ok.seq ?_
  refine Ok.region ?_
  refine OkO.load rfl rfl (ldg (n := 2) (by kernel_rfl) (by first | assumption | (simp (disch := first | omega | (simp only [hNw, hPt]; omega)) only [gn0, gn1, gn2, gn3, gn4, gn5, gp0, gno, gpo] <;> first | rfl | assumption | exact gp0 _ _ _ | exact gn0 _ _)) (by first | rfl | assumption)) ?_
  refine OkO.callV rfl rfl rfl rfl rfl ((c51 (m + 209) cv cols least _ (hM.ext (hE _ (by (try dsimp only); repeat (first | exact hG | apply Grow.new | (refine Grow.put ?_ _ (by first | omega | (simp only [hNw, hPt]; omega)))))))).trans (by rw [hrd])) ?_ -- "sackung/sackunglaw01.ready"
  refine OkO.un rfl rfl rfl ?_
  refine OkO.nil ?_
  refine Ok.cond rfl (fun h1 => ?_) (fun h1 => ?_)
  · -- yes h1
    refine Ok.seq ?_
    refine Ok.region ?_
    refine OkO.callV rfl rfl rfl rfl rfl (rfl) ?_ -- "sackung/sackunglaw01.wakes"
    refine OkO.assign rfl rfl ?_
    refine OkO.nil ?_
    refine Ok.ret ⟨.inr rfl, ?_⟩
    exact back_flat rfl rfl rfl (by rw [← hW]; exact (by (try dsimp only); repeat (first | exact hG | apply Grow.new | (refine Grow.put ?_ _ (by first | omega | (simp only [hNw, hPt]; omega))))))
  · -- no h1
    exact absurd h1 (by simp)
theorem c13 (m : Nat) (cv wv : AV) (cols : List (List Bed)) (least : Int) (ws : List Int) (co at9 we nn : Int) (H : Heap) (hM : Mat H cv cols) (hWs : Row H wv 1 (ws.map fun w => [U8 w])) (hws : Upto 255 ws) (hco : 0 ≤ co ∧ co ≤ 255) (hat : 0 ≤ at9 ∧ at9 ≤ 255) (hwe : 0 ≤ we ∧ we ≤ 255) (hnn : 0 ≤ nn ∧ nn ≤ 65535) : RR (m + 213) (.fn 13 [.agg [cv, I least], wv, .int .u8 co, .int .u8 at9, .int .u8 we, U16 nn]) H = some (.bool true, H) := by
  cases hrd : readyS cols least with
  | false => exact c13W m cv wv cols least ws co at9 we nn H hM hWs hws hco hat hwe hnn hrd
  | true =>
    obtain ⟨h1, h2, h3⟩ := ready_facts hrd
    have hf := slOk_facts h2
    have a1 := Int.emod_nonneg co (b := (cols.length : Int)) (by omega)
    have a2 := Int.emod_lt_of_pos co (b := (cols.length : Int)) (by omega)
    have a3 := Int.emod_nonneg at9 (b := ((cols.headD []).length : Int)) (by omega)
    have a4 := Int.emod_lt_of_pos at9 (b := ((cols.headD []).length : Int)) (by omega)
    obtain ⟨ci, hci⟩ : ∃ ci : Nat, (ci : Int) = co % (cols.length : Int) := ⟨(co % (cols.length : Int)).toNat, by omega⟩
    obtain ⟨ck, hck⟩ : ∃ ck : Nat, (ck : Int) = at9 % ((cols.headD []).length : Int) := ⟨(at9 % ((cols.headD []).length : Int)).toNat, by omega⟩
    have b1 : ci < cols.length := by omega
    have b2 : ck < (cols.headD []).length := by omega
    have hbet : ∀ c j, Better (¬ we % 5 = 2) (bedAt cols c j) (bedAt (setAt cols ci ck (chg we nn (bedAt cols ci ck))) c j) := fun c j => by
      rw [bedAt_set (lens_of h2) b1 b2]
      split
      · rename_i q
        rw [q.1, q.2]
        exact (chg_facts (bedAt_ok (bedsOk_of h2) ci ck) hnn.1).2
      · exact Better.refl _ _
    by_cases hA : NoneAt cols (cols.headD []).length least
    · have hB : NoneAt (setAt cols ci ck (chg we nn (bedAt cols ci ck))) ((setAt cols ci ck (chg we nn (bedAt cols ci ck))).headD []).length least := fun fr us hs => by
        rw [setAt_len, setAt_head b1] at hs
        have := (sums_better hbet us fr).1
        have := hA fr us hs
        omega
      exact c13C m cv wv cols least ws co at9 we nn H hM hWs hws hco hat hwe hnn h1 h2 h3 hrd hci hck b1 b2 hA hB
    · by_cases hB : NoneAt (setAt cols ci ck (chg we nn (bedAt cols ci ck))) ((setAt cols ci ck (chg we nn (bedAt cols ci ck))).headD []).length least
      · exact c13B m cv wv cols least ws co at9 we nn H hM hWs hws hco hat hwe hnn h1 h2 h3 hrd hci hck b1 b2 hA hB
      · exact c13A m cv wv cols least ws co at9 we nn H hM hWs hws hco hat hwe hnn h1 h2 h3 hrd hci hck b1 b2 hA hB
end
end Go.Ev

set_option linter.unusedVariables false
namespace Go.Ev
open Go Go.Proofs Go.ChangeShapes Go.WideShapes Go.RowKit
variable {H : Type} {enc : TypeId × Value → H} {P : Program} {w : World} {base : Nat} {spare : Nat → Bool} {held : Bool}
/-- Six parameters, each read for itself. -/
theorem trodAll_six {t0 t1 t2 t3 t4 t5 : TypeId} {args : Array Value} {ds : List (DataW H)} {ps : List MemPlace} (h : DataW.TrodAll enc P w base spare held [t0, t1, t2, t3, t4, t5] args.toList ds ps) :
    ∃ v0 v1 v2 v3 v4 v5 d0 d1 d2 d3 d4 d5 p0 p1 p2 p3 p4 p5, args = #[v0, v1, v2, v3, v4, v5] ∧ ds = [d0, d1, d2, d3, d4, d5] ∧ ps = p0 ++ p1 ++ p2 ++ p3 ++ p4 ++ p5 ∧ DataW.Trod enc P w base spare held t0 v0 d0 p0 ∧ DataW.Trod enc P w base spare held t1 v1 d1 p1 ∧ DataW.Trod enc P w base spare held t2 v2 d2 p2 ∧ DataW.Trod enc P w base spare held t3 v3 d3 p3 ∧ DataW.Trod enc P w base spare held t4 v4 d4 p4 ∧ DataW.Trod enc P w base spare held t5 v5 d5 p5 := by
  obtain ⟨v0, r0, d0, s0, p0, q0, hargs, rfl, rfl, h0, k0⟩ := trodAll_cons h
  obtain ⟨v1, r1, d1, s1, p1, q1, rfl, rfl, rfl, h1, k1⟩ := trodAll_cons k0
  obtain ⟨v2, r2, d2, s2, p2, q2, rfl, rfl, rfl, h2, k2⟩ := trodAll_cons k1
  obtain ⟨v3, r3, d3, s3, p3, q3, rfl, rfl, rfl, h3, k3⟩ := trodAll_cons k2
  obtain ⟨v4, v5, d4, d5, p4, p5, q4, q5, e1, rfl, rfl, h4, h5⟩ : ∃ v4 v5 d4 d5 p4 p5, ∃ (_ _ : Unit), r3 = [v4, v5] ∧ s3 = [d4, d5] ∧ q3 = p4 ++ p5 ∧ DataW.Trod enc P w base spare held t4 v4 d4 p4 ∧ DataW.Trod enc P w base spare held t5 v5 d5 p5 := by
    obtain ⟨v4, r4, d4, s4, p4, q4, rfl, rfl, rfl, h4, k4⟩ := trodAll_cons k3
    obtain ⟨v5, r5, d5, s5, p5, q5, rfl, rfl, rfl, h5, k5⟩ := trodAll_cons k4
    obtain ⟨rfl, rfl, rfl⟩ := trodAll_nil k5
    exact ⟨v4, v5, d4, d5, p4, p5, (), (), rfl, rfl, by simp, h4, h5⟩
  subst e1
  exact ⟨v0, v1, v2, v3, v4, v5, d0, d1, d2, d3, d4, d5, p0, p1, p2, p3, p4, p5, by cases args; simp_all, rfl, by simp, h0, h1, h2, h3, h4, h5⟩
theorem trodAll_mk6 {t0 t1 t2 t3 t4 t5 : TypeId} {v0 v1 v2 v3 v4 v5 : Value} {d0 d1 d2 d3 d4 d5 : DataW H} {p0 p1 p2 p3 p4 p5 : List MemPlace} (h0 : DataW.Trod enc P w base spare held t0 v0 d0 p0) (h1 : DataW.Trod enc P w base spare held t1 v1 d1 p1)
    (h2 : DataW.Trod enc P w base spare held t2 v2 d2 p2) (h3 : DataW.Trod enc P w base spare held t3 v3 d3 p3) (h4 : DataW.Trod enc P w base spare held t4 v4 d4 p4) (h5 : DataW.Trod enc P w base spare held t5 v5 d5 p5) :
    DataW.TrodAll enc P w base spare held [t0, t1, t2, t3, t4, t5] [v0, v1, v2, v3, v4, v5] [d0, d1, d2, d3, d4, d5] (p0 ++ (p1 ++ (p2 ++ (p3 ++ (p4 ++ p5))))) :=
  ⟨p0, p1 ++ (p2 ++ (p3 ++ (p4 ++ p5))), h0, ⟨p1, p2 ++ (p3 ++ (p4 ++ p5)), h1, trodAll_mk4 h2 h3 h4 h5, rfl⟩, rfl⟩
end Go.Ev

