/-
  Functions of the program, reckoned by the evaluator: what each answers, and that it leaves what came in as it was.
-/
import Derived.Test.YtfhomicfhgiidaaPt27
set_option maxRecDepth 100000
set_option linter.unusedSimpArgs false
set_option linter.unusedVariables false
namespace Go.Ev
open Go Go.Proofs
noncomputable section
def hdS (cols : List (List Bed)) (least : Int) (fr : Nat) (us : List Nat) : List (List Nat) := if us ≠ [] ∧ surfB cols least (fr : Int) (ofN us) = true then [us] else []
def nearB (us : List Nat) (b : Nat) : Bool := match us.getLast? with
  | none => true
  | some k => inB ((b : Int) - (k : Int)) (-1) 1
/-- The surfaces that go on from some beds. -/
def surfs (cols : List (List Bed)) (least : Int) (n fr : Nat) : Nat → List Nat → List (List Nat)
  | 0, us => hdS cols least fr us
  | d + 1, us => hdS cols least fr us ++ (List.range n).flatMap fun b => if nearB us b = true then surfs cols least n fr d (us ++ [b]) else []
def goOn (cols : List (List Bed)) (least : Int) (n fr d : Nat) (us : List Nat) (b : Nat) : List (List Nat) := if nearB us b = true then surfs cols least n fr d (us ++ [b]) else []
def upTo (cols : List (List Bed)) (least : Int) (n fr d : Nat) (us : List Nat) (b : Nat) : List (List Nat) := hdS cols least fr us ++ (List.range b).flatMap (goOn cols least n fr d us)
theorem upTo_zero (cols : List (List Bed)) (least : Int) (n fr d : Nat) (us : List Nat) : upTo cols least n fr d us 0 = hdS cols least fr us := by simp [upTo]
theorem upTo_yes {cols : List (List Bed)} {least : Int} {n fr d : Nat} {us : List Nat} {b : Nat} (h : nearB us b = true) : upTo cols least n fr d us (b + 1) = upTo cols least n fr d us b ++ surfs cols least n fr d (us ++ [b]) := by
  unfold upTo
  rw [List.range_succ, List.flatMap_append, List.append_assoc]
  simp [goOn, h]
theorem upTo_no {cols : List (List Bed)} {least : Int} {n fr d : Nat} {us : List Nat} {b : Nat} (h : nearB us b = false) : upTo cols least n fr d us (b + 1) = upTo cols least n fr d us b := by
  unfold upTo
  rw [List.range_succ, List.flatMap_append]
  simp [goOn, h]
theorem upTo_all (cols : List (List Bed)) (least : Int) (n fr d : Nat) (us : List Nat) : upTo cols least n fr d us n = surfs cols least n fr (d + 1) us := rfl
theorem hdS_len (cols : List (List Bed)) (least : Int) (fr : Nat) (us : List Nat) : (hdS cols least fr us).length ≤ 1 := by
  unfold hdS
  split <;> simp
theorem flatMap_len {g : Nat → List (List Nat)} {Q : Nat} (h : ∀ x, (g x).length ≤ Q) : ∀ b, ((List.range b).flatMap g).length ≤ b * Q
  | 0 => by simp
  | b + 1 => by
    have h1 := flatMap_len h b
    have h2 := h b
    rw [List.range_succ, List.flatMap_append, List.length_append, Nat.add_mul]
    simp only [List.flatMap_cons, List.flatMap_nil, List.append_nil]
    omega
theorem surfs_len (cols : List (List Bed)) (least : Int) (n fr : Nat) : ∀ (d : Nat) (us : List Nat), (surfs cols least n fr d us).length ≤ (n + 1) ^ (d + 1)
  | 0, us => by
    have := hdS_len cols least fr us
    rw [surfs]
    simp
    omega
  | d + 1, us => by
    have h1 := hdS_len cols least fr us
    have h2 := flatMap_len (g := goOn cols least n fr d us) (Q := (n + 1) ^ (d + 1)) (fun x => by
      unfold goOn
      split
      · exact surfs_len cols least n fr d _
      · simp) n
    have h3 : surfs cols least n fr (d + 1) us = hdS cols least fr us ++ (List.range n).flatMap (goOn cols least n fr d us) := rfl
    have h4 : (n + 1) ^ (d + 1 + 1) = n * (n + 1) ^ (d + 1) + (n + 1) ^ (d + 1) := by rw [Nat.pow_succ (n := n + 1) (m := d + 1), Nat.mul_comm, Nat.add_mul, Nat.one_mul]
    have h5 : 1 ≤ (n + 1) ^ (d + 1) := Nat.one_le_pow _ _ (by omega)
    rw [h3, List.length_append, h4]
    omega
theorem upTo_len {cols : List (List Bed)} {least : Int} {n fr d : Nat} {us : List Nat} {b : Nat} (hb : b ≤ n) : (upTo cols least n fr d us b).length ≤ (n + 1) ^ (d + 1 + 1) := by
  have h1 := hdS_len cols least fr us
  have h2 := flatMap_len (g := goOn cols least n fr d us) (Q := (n + 1) ^ (d + 1)) (fun x => by
      unfold goOn
      split
      · exact surfs_len cols least n fr d _
      · simp) b
  have h4 : (n + 1) ^ (d + 1 + 1) = n * (n + 1) ^ (d + 1) + (n + 1) ^ (d + 1) := by rw [Nat.pow_succ (n := n + 1) (m := d + 1), Nat.mul_comm, Nat.add_mul, Nat.one_mul]
  have h5 : 1 ≤ (n + 1) ^ (d + 1) := Nat.one_le_pow _ _ (by omega)
  have h6 : b * (n + 1) ^ (d + 1) ≤ n * (n + 1) ^ (d + 1) := Nat.mul_le_mul_right _ hb
  unfold upTo
  rw [List.length_append, h4]
  omega
theorem Mine.far {k0 : Nat} {G : Heap} {v : AV} {e : TypeId} {sz : Nat} {cs : List AV} (h : Mine k0 G v e sz cs) {j : Nat} (hj : j < k0) : ∀ m, v ≠ .opn j m := fun m hm => by
  rcases h with ⟨h, _⟩ | ⟨b, n, h, _, _, h4, _⟩
  · rw [h] at hm; cases hm
  · rw [h] at hm; cases hm; omega
theorem Srf.low {k0 k1 : Nat} {G : Heap} {v : AV} {fr : Nat} {bvs : List AV} {L : List (List Nat)} (h : Srf k1 G v fr bvs L) (hk : k0 ≤ k1) : Srf k0 G v fr bvs L := ⟨h.1.low hk, h.2⟩
theorem Srf.none (k0 : Nat) (G : Heap) (fr : Nat) : Srf k0 G .nils fr [] [] := ⟨Mine.nil _ _ _ _, rfl, fun j x u h _ => by simp at h⟩
theorem hdS_no {cols : List (List Bed)} {least : Int} {fr : Nat} {us : List Nat} (h : us = [] ∨ surfB cols least (fr : Int) (ofN us) = false) : hdS cols least fr us = [] := by
  unfold hdS
  rw [if_neg]
  rintro ⟨h1, h2⟩
  rcases h with h | h
  · exact h1 h
  · rw [h] at h2; cases h2
theorem hdS_yes {cols : List (List Bed)} {least : Int} {fr : Nat} {us : List Nat} (h1 : us ≠ []) (h2 : surfB cols least (fr : Int) (ofN us) = true) : hdS cols least fr us = [us] := by
  unfold hdS
  rw [if_pos ⟨h1, h2⟩]
theorem c73s (m : Nat) (cv : AV) (cols : List (List Bed)) (least : Int) (n fr d : Nat) (us : List Nat) (bu : AV) (H : Heap) (hM : Mat H cv cols) (hv : slOk cols least = true) (hgk : (cols.headD []).length = n) (hd : fr + us.length + d = cols.length) (hbd : ∀ k ∈ us, k < n) (hU : Mine 0 H bu 3 1 (ints us)) (hq : (n + 1) ^ (d + 1) ≤ 20000000) (ih : ∀ (d1 : Nat) (us' : List Nat) (bu' : AV) (G : Heap), d = d1 + 1 → fr + us'.length + d1 = cols.length → (∀ k ∈ us', k < n) → Mat G cv cols → Mine 0 G bu' 3 1 (ints us') → ∃ v H', RR (m + 2) (.fn 73 [.agg [cv, I least], .agg [I (fr : Int), bu']]) G = some (v, H') ∧ Ret G H' ∧ ∃ bvs, Srf G.next H' v fr bvs (surfs cols least n fr d1 us')) : ∃ v H', RR (m + 3) (.fn 73 [.agg [cv, I least], .agg [I (fr : Int), bu]]) H = some (v, H') ∧ Ret H H' ∧ ∃ bvs, Srf H.next H' v fr bvs (surfs cols least n fr d us) := by
  show ∃ v H', evFn Try.prog (RR (m + 2)) 73 [.agg [cv, I least], .agg [I (fr : Int), bu]] H = some (v, H') ∧ Ret H H' ∧ ∃ bvs, Srf H.next H' v fr bvs (surfs cols least n fr d us)
  refine fn_okE Try.func73 rfl rfl (by kernel_rfl) (by kernel_rfl) ?_
  obtain ⟨W, hW, hg, hN, hE, hG⟩ := wOf H
  rw [← hW]
  have hsf := slOk_facts hv
  obtain ⟨vs, hR, hvl, hvv⟩ := id hM
  have hlen : lenOf cv = some cols.length := by rw [← hvl]; simpa using hR.len
  have pc : cv.plain = true := lpl hlen
  have hg0 : ∀ j, W.get j = H.get j := hg
  have hul : lenOf bu = some us.length := by simpa using (Mine.row (l := us.map fun (k : Nat) => [I (k : Int)]) (by rw [flatN]; exact hU) (fun x hx => by simp only [List.mem_map] at hx; obtain ⟨y, _, rfl⟩ := hx; rfl) (by omega)).len
  have pbu := lpl hul
  have hone := hU.one
  have hat : atoms [I (fr : Int), bu] = true := by rw [atoms, atoms, hone.2]; rfl
  obtain ⟨cb, co, ccs, j1, j20, j3, j4⟩ := hR.at_ 0 [vs[0]'(by omega)] (by simp [show 0 < vs.length by omega])
  have j5 := seg_one j3
  obtain ⟨col, hcol⟩ : ∃ col, cols[0]? = some col := ⟨_, List.getElem?_eq_getElem (by omega)⟩
  have hcn : col.length = n := by rw [← hgk]; cases cols with | nil => simp at hcol | cons a l => simp at hcol; rw [← hcol]; rfl
  have hlcol : lenOf (vs[0]'(by omega)) = some n := by rw [← hcn]; simpa using (hvv 0 _ col (List.getElem?_eq_getElem (by omega)) hcol).len
  have hn5 : n ≤ 5 := by omega
  refine kS ?_; refine kR ?_; refine OkO.box rfl rfl ?_; refine OkO.box rfl rfl ?_; refine oA rfl rfl ?_; refine oN ?_; refine kS ?_; refine kR ?_; refine oA rfl rfl ?_; refine oN ?_; refine kS ?_; refine kS ?_; refine kR ?_; refine oF (o := 1) rfl (by kernel_rfl) rfl ?_; refine oL rfl rfl (qla0 1) ?_; refine oB rfl rfl rfl qbl ?_; refine OkO.bin rfl rfl rfl (bin_gtr _ _) ?_; refine oM rfl rfl ?_
  refine OkO.split (d := 12) rfl (fun g1 => ?_) (fun g1 => ?_)
  · have hne : us ≠ [] := by (intro h9; rw [h9] at g1; simp at g1)
    refine oL rfl rfl (qlg7 2) ?_; refine oL rfl rfl (qlg7 2) ?_; refine oV rfl rfl rfl rfl rfl (c35 m cv bu cols least (fr : Int) (ofN us) _ (hM.ext (hE _ (by (try dsimp only); repeat (first | exact hg | exact g2 | exact hG | apply Grow.new | (refine Grow.put ?_ _ (by first | omega | (simp only [hNw, hPt]; omega))))))) (ints_N (Mine.row (l := us.map fun (k : Nat) => [I (k : Int)]) (by rw [flatN]; exact hU.to (hE _ (by (try dsimp only); repeat (first | exact hg | exact g2 | exact hG | apply Grow.new | (refine Grow.put ?_ _ (by first | omega | (simp only [hNw, hPt]; omega))))))) (fun x hx => by simp only [List.mem_map] at hx; obtain ⟨y, _, rfl⟩ := hx; rfl) (by omega))) hv (by rw [ofN_len]; omega)) ?_; refine OkO.pick (b := true) rfl rfl (fun _ => rfl) nofun ?_; refine oN ?_
    refine Ok.cond rfl (fun h2 => ?_) (fun h2 => ?_)
    · refine kR ?_
      refine oM rfl rfl ?_; refine oL rfl rfl (qlg7 2) ?_; refine OkO.buildSlice (el := 27) (sz := 2) (z := [.int .i64 0, .nils]) rfl (by kernel_rfl) (by decide) rfl rfl ?_; refine OkO.builtinE rfl rfl rfl (Mine.app3 (W := W) (k0 := W.next + 2) (t := 57) (u := 57) (sz := 2) (by_ := 32) (e := 27) (n := 1) (new := [I (fr : Int), bu]) (Mine.nil _ _ _ _) (by (try dsimp only); repeat (first | exact hg | exact g2 | exact hG | apply Grow.new | (refine Grow.put ?_ _ (by first | omega | (simp only [hNw, hPt]; omega))))) (by omega) (by first | omega | (simp only [hNw, hPt]; omega)) (by kernel_rfl) (by kernel_rfl) (elems_new (n := 1) (sz := 2) rfl) rfl rfl (by simp) (by omega) hat) ?_
      rintro v2 G2 ⟨q1, q2, q3, q4⟩
      simp only [hNw, hPt] at q3
      have f02 : G2.get W.next = some (.cells [cv, I least] 24) := by rw [q4 _ (by first | omega | (simp only [hNw, hPt]; omega)) (by intro m; simp)]; simp (disch := first | omega | (simp only [hNw, hPt]; omega)) only [gN] <;> rfl
      have f12 : G2.get (W.next + 1) = some (.cells [I (fr : Int), bu] 27) := by rw [q4 _ (by first | omega | (simp only [hNw, hPt]; omega)) (by intro m; simp)]; simp (disch := first | omega | (simp only [hNw, hPt]; omega)) only [gN] <;> rfl
      have hbu2 : Mine 0 G2 bu 3 1 (ints us) := hU.to (hE _ q2)
      have hs0 : Srf (W.next + 2) G2 v2 fr [bu] (hdS cols least fr us) := by (rw [hdS_yes hne (by first | assumption | simpa using h2)]; exact ⟨q1, rfl, fun j x u hx hu => by (cases j with | zero => (simp at hx hu; subst hx hu; exact hbu2) | succ j => simp at hx)⟩)
      have v2a := q1.one
      have e02 : (G2.get W.next).bind AObj.cs = some [cv, I least] := by rw [f02]; rfl
      have e12 : (G2.get (W.next + 1)).bind AObj.cs = some [I (fr : Int), bu] := by rw [f12]; rfl
      refine oA rfl rfl ?_; refine oN ?_; refine kS ?_; refine kS ?_; refine kR ?_; refine oF (o := 0) rfl (by kernel_rfl) rfl ?_; refine oL rfl rfl (qla0 1) ?_; refine oF (o := 1) rfl (by kernel_rfl) rfl ?_; refine oL rfl rfl (qla0 1) ?_; refine oB rfl rfl rfl qbl ?_; refine OkO.bin rfl rfl rfl (bin_add (by omega) (by omega)) ?_; refine oF (o := 0) rfl (by kernel_rfl) rfl ?_; refine oL rfl rfl (qla0 1) ?_; refine oB rfl rfl rfl qbl ?_; refine OkO.bin rfl rfl rfl (bin_geq _ _) ?_; refine oN ?_
      refine Ok.cond rfl (fun h3 => ?_) (fun h3 => ?_)
      · have hd0 : d = 0 := by (have h9 : (cols.length : Int) ≤ (fr : Int) + (us.length : Int) := by simpa using h3); omega
        refine kS ?_; refine kR ?_; refine oM rfl rfl ?_; refine oA rfl rfl ?_; refine oN ?_
        refine Ok.ret ⟨.inr rfl, ?_⟩
        refine back_newA rfl rfl (by rw [← hW]; exact q2) (fun H9 p1 p2 => ⟨p1, [bu], ?_⟩)
        rw [hd0]
        exact (Srf.low (hs0) (by omega)).back p2
      · have hd1 : ∃ d1, d = d1 + 1 := ⟨d - 1, by (have h9 : ¬ (cols.length : Int) ≤ (fr : Int) + (us.length : Int) := by simpa using h3); omega⟩
        obtain ⟨d1, hdd⟩ := hd1
        refine Ok.skip ?_; refine kS ?_; refine kS ?_; refine kR ?_; refine oA rfl rfl ?_; refine oN ?_; refine Ok.block ?_
        refine Ok.loop (fun n9 s_ => ∃ (b : Nat) (ov : AV) (bvs : List AV), n9 = n - b ∧ b ≤ n ∧ Srf (W.next + 2) s_.H ov fr bvs (upTo cols least n fr d1 us b) ∧ Grow W s_.H ∧ W.next + 2 ≤ s_.H.next ∧ s_.H.get W.next = some (.cells [cv, I least] 24) ∧ s_.H.get (W.next + 1) = some (.cells [I (fr : Int), bu] 27) ∧ Has 7 [(2, .ptr W.next 0), (3, .ptr (W.next + 1) 0), (5, ov), (6, I (b : Int))] s_.T ∧ s_.D = []) (n) (by unfold loopFuel; omega)
          ⟨0, v2, [bu], rfl, Nat.zero_le _, by rw [upTo_zero]; exact hs0, q2, (by show W.next + 2 ≤ G2.next; omega), f02, f12, Has.of (by kernel_rfl), rfl⟩ ?_
        rintro n9 ⟨T, D, G⟩ ⟨b, ov, bvs, hn9, hb, hsr, hg, hgx, f0, f1, ⟨f, hT⟩, hD⟩
        dsimp only at *
        subst hT hD
        have hgn := hg.next
        have e0 : (G.get W.next).bind AObj.cs = some [cv, I least] := by rw [f0]; rfl
        have e1 : (G.get (W.next + 1)).bind AObj.cs = some [I (fr : Int), bu] := by rw [f1]; rfl
        have jc2 : (G.get cb).bind AObj.cs = some ccs := by rw [hg.get _ (by omega), hg0]; exact j20
        have hbl9 : bvs.length ≤ 20000000 := by (have := upTo_len (cols := cols) (least := least) (fr := fr) (d := d1) (us := us) hb; have h7 := hsr.2.1; have h6 : (n + 1) ^ (d1 + 1 + 1) ≤ 20000000 := (by rw [← hdd]; exact hq); omega)
        have hov := hsr.1.one
        refine kS ?_; refine kS ?_; refine kR ?_; refine oM rfl rfl ?_; refine oF (o := 0) rfl (by kernel_rfl) rfl ?_; refine oL rfl rfl (qla0 1) ?_; refine qX (sz := 1) (n := 0) rfl rfl rfl ?_; refine oL rfl rfl (qla0 1) ?_; refine oB rfl rfl rfl qbl ?_; refine OkO.bin rfl rfl rfl (bin_lss _ _) ?_; refine oN ?_
        refine Ok.cond rfl (fun h4 => ?_) (fun h4 => ?_)
        · have hbl : b < n := by simpa using h4
          refine Ok.skip ?_; refine kS ?_; refine Ok.block ?_; refine kS ?_; refine kR ?_; refine oF (o := 1) rfl (by kernel_rfl) rfl ?_; refine oL rfl rfl (qla0 1) ?_; refine oB rfl rfl rfl qbl ?_; refine oA rfl rfl ?_; refine oN ?_; refine kS ?_; refine kR ?_; refine oM rfl rfl ?_; refine OkO.bin rfl rfl rfl (bin_eql _ _) ?_; refine oM rfl rfl ?_
          refine OkO.split (d := 46) rfl (fun g5 => ?_) (fun g5 => ?_)
          · have hus0 : us = [] := by simpa using g5
            have hnear : nearB us b = true := by rw [hus0]; rfl
            refine oK rfl ?_; refine oK rfl ?_; refine oK rfl ?_; refine oK rfl ?_; refine oK rfl ?_; refine oK rfl ?_; refine oK rfl ?_; refine oK rfl ?_; refine oK rfl ?_; refine OkO.pick (b := true) rfl rfl (fun _ => rfl) nofun ?_; refine oN ?_; refine Ok.condT rfl ?_; refine Ok.drawn [(0, true, []), (1, true, []), (2, true, []), (3, true, []), (4, true, [3, 1]), (5, true, []), (6, true, []), (8, true, []), (9, true, [6, 3, 1]), (7, false, [3, 1]), (10, false, [6, 3, 1]), (11, true, []), (12, false, [6, 3]), (13, false, [6, 3, 1]), (14, false, [])] (by kernel_rfl) ?_; refine pS ?_; refine oM rfl rfl ?_; refine oN ⟨rfl, ?_⟩; refine pS ?_; refine oL rfl rfl (qlg7 2) ?_; refine oN ⟨rfl, ?_⟩; refine pS ?_; refine oF (o := 0) rfl (by kernel_rfl) rfl ?_; refine oN ⟨rfl, ?_⟩; refine pS ?_; refine oL rfl rfl (qla0 1) ?_; refine oN ⟨rfl, ?_⟩; refine pS ?_; refine OkO.buildSlice (el := 3) (sz := 1) (z := [.int .i64 0]) rfl (by kernel_rfl) (by decide) rfl rfl ?_
            refine oN ⟨(sco (qsa8 1 rfl rfl rfl) (sco (qsg9 2 rfl rfl rfl) rfl)), ?_⟩; refine pS ?_; refine oF (o := 1) rfl (by kernel_rfl) rfl ?_; refine oN ⟨rfl, ?_⟩; refine pS ?_; refine oL rfl rfl (qla0 1) ?_; refine oN ⟨rfl, ?_⟩; refine pS ?_; refine oM rfl rfl ?_; refine oN ⟨rfl, ?_⟩; refine pS ?_; refine OkO.buildSlice (el := 3) (sz := 1) (z := [.int .i64 0]) rfl (by kernel_rfl) (by decide) rfl rfl ?_
            refine oN ⟨(sco (qsa8 1 rfl rfl rfl) (sco (qsa8 1 rfl rfl rfl) (sco (qsg9 2 rfl rfl rfl) rfl))), ?_⟩; refine pS ?_; refine OkO.builtinE rfl rfl rfl (lit_copy (G := G) (b := b) (x := bu) (us := us) ((Mine.row (l := us.map fun (k : Nat) => [I (k : Int)]) (by rw [flatN]; exact hU.to (hE _ (by (try dsimp only); repeat (first | exact hg | exact g2 | exact hG | apply Grow.new | (refine Grow.put ?_ _ (by first | omega | (simp only [hNw, hPt]; omega))))))) (fun x hx => by simp only [List.mem_map] at hx; obtain ⟨y, _, rfl⟩ := hx; rfl) (by omega))) (by omega)) ?_
            rintro v1 G1 hL1
            have e01 : (G1.get W.next).bind AObj.cs = some [cv, I least] := by rw [hL1.old (by omega)]; exact e0
            have e11 : (G1.get (W.next + 1)).bind AObj.cs = some [I (fr : Int), bu] := by rw [hL1.old (by omega)]; exact e1
            refine oN ⟨(sco (qsa8 1 rfl rfl rfl) (sco (qsg9 2 rfl rfl rfl) rfl)), ?_⟩; refine pS ?_; refine OkO.builtinE rfl rfl rfl (lead_app (W := W) (b := b) hL1 hg (by omega)) ?_
            rintro _ G2 ⟨q1, q2, q3, ⟨bk, mm, rfl⟩, q4⟩
            have e02 : (G2.get W.next).bind AObj.cs = some [cv, I least] := by rw [q4 _ (by omega)]; exact e0
            have e12 : (G2.get (W.next + 1)).bind AObj.cs = some [I (fr : Int), bu] := by rw [q4 _ (by omega)]; exact e1
            refine oN ⟨(sco (qsa8 1 rfl rfl rfl) (sco (qsa8 1 rfl rfl rfl) (sco (qsg9 2 rfl rfl rfl) rfl))), ?_⟩; refine pS ?_; refine OkO.build (z := [.int .i64 0, .nils]) (pl := [(0, 1), (1, 1)]) rfl (by kernel_rfl) rfl rfl ?_; refine oN ⟨rfl, ?_⟩; refine pS ?_; refine oE rfl rfl rfl rfl rfl (ih d1 (us ++ [b]) (.opn bk mm) G2 hdd (by simp only [List.length_append, List.length_cons, List.length_nil]; omega) (fun k hk => by (rcases List.mem_append.1 hk with h9 | h9); (· exact hbd k h9); (· simp at h9; omega)) (hM.ext (hE _ q2)) (q1.low (Nat.zero_le _))) ?_
            rintro v9 H9 ⟨q9, bvs9, hs9⟩
            have g9 : Grow W H9 := Grow.ret q2 q9
            have n9x := q9.ext.next
            have e03 : (H9.get W.next).bind AObj.cs = some [cv, I least] := by rw [q9.ext.get _ (by omega)]; exact e02
            have e13 : (H9.get (W.next + 1)).bind AObj.cs = some [I (fr : Int), bu] := by rw [q9.ext.get _ (by omega)]; exact e12
            have hsr9 : Srf (W.next + 2) H9 ov fr bvs (upTo cols least n fr d1 us b) := hsr.to ⟨by omega, fun j hj => (q9.ext.get j (by omega)).trans (q4 j hj)⟩
            have hbl8 : bvs9.length ≤ 20000000 := by (have h8 := surfs_len cols least n fr d1 (us ++ [b]); have h7 := hs9.2.1; have h6 : (n + 1) ^ (d1 + 1) ≤ (n + 1) ^ (d + 1) := Nat.pow_le_pow_right (by omega) (by omega); omega)
            have hcl9 := cellsOf_len fr bvs
            have hcl8 := cellsOf_len fr bvs9
            refine oN ⟨(sco (qsa8 1 rfl rfl rfl) (sco (qsa8 1 rfl rfl rfl) rfl)), ?_⟩; refine pS ?_; refine OkO.builtinE rfl rfl rfl (Mine.app3 (W := W) (k0 := W.next + 2) (t := 57) (u := 57) (sz := 2) (by_ := 32) (e := 27) hsr9.1 g9 (by omega) (by omega) (by kernel_rfl) (by kernel_rfl) hs9.elems.1 hs9.elems.2 hcl8 (by omega) (by omega) hs9.atoms) ?_
            rintro v3 G3 ⟨r1, r2, r3, r4⟩
            have hsr3 := hsr9.add hs9 r1 r3 r4
            have f03 : G3.get W.next = some (.cells [cv, I least] 24) := by rw [r4 _ (by omega) (hsr9.1.far (by omega)), q9.ext.get _ (by omega), q4 _ (by omega)]; exact f0
            have f13 : G3.get (W.next + 1) = some (.cells [I (fr : Int), bu] 27) := by rw [r4 _ (by omega) (hsr9.1.far (by omega)), q9.ext.get _ (by omega), q4 _ (by omega)]; exact f1
            have e04 : (G3.get W.next).bind AObj.cs = some [cv, I least] := by rw [f03]; rfl
            have e14 : (G3.get (W.next + 1)).bind AObj.cs = some [I (fr : Int), bu] := by rw [f13]; rfl
            refine oN ⟨(sco (qsa8 1 rfl rfl rfl) (sco (qsa8 1 rfl rfl rfl) (sco (qsg9 2 rfl rfl rfl) rfl))), ?_⟩; refine pS ?_; refine oA rfl rfl ?_; refine oN ⟨rfl, ?_⟩; refine OkP.nil ?_; refine kR ?_; refine oM rfl rfl ?_; refine OkO.bin rfl rfl rfl (bin_add (by omega) (by omega)) ?_; refine oA rfl rfl ?_; refine oN ?_
            first | exact ⟨n - (b + 1), by omega, b + 1, v3, bvs ++ bvs9, rfl, by omega, by rw [upTo_yes hnear]; exact hsr3, r2, (by show W.next + 2 ≤ G3.next; omega), f03, f13, Has.of (by kernel_rfl), rfl⟩ | exact ⟨n - (b + 1), by omega, b + 1, ov, bvs, rfl, by omega, by rw [upTo_no hnear]; exact hsr, hg, hgx, f0, f1, Has.of (by kernel_rfl), rfl⟩
          · have hus1 : us ≠ [] := by simpa using g5
            have husl := List.length_pos_iff.2 hus1
            obtain ⟨y, hy⟩ : ∃ y, us[us.length - 1]? = some y := ⟨_, List.getElem?_eq_getElem (by omega)⟩
            have hyn : y < n := hbd y (List.mem_of_getElem? hy)
            have hglast : us.getLast? = some y := by rw [List.getLast?_eq_getElem?]; exact hy
            obtain ⟨ub, uo, ucs, u1, u2, u3, u4⟩ := (Mine.row (l := us.map fun (k : Nat) => [I (k : Int)]) (by rw [flatN]; exact hU.to (hE _ hg)) (fun x hx => by simp only [List.mem_map] at hx; obtain ⟨y, _, rfl⟩ := hx; rfl) (by omega)).at_ (us.length - 1) [I (y : Int)] (by rw [List.getElem?_map, hy]; rfl)
            have u5 := seg_one u3
            refine oM rfl rfl ?_; refine oF (o := 1) rfl (by kernel_rfl) rfl ?_; refine oL rfl rfl (qla0 1) ?_; refine oM rfl rfl ?_; refine OkO.bin rfl rfl rfl (bin_sub (by omega) (by omega)) ?_; refine qX (sz := 1) (n := us.length - 1) rfl rfl (congrArg (fun z => some (I z)) (by omega)) ?_; refine oL rfl rfl (qla0 1) ?_; refine OkO.bin rfl rfl rfl (bin_sub (by omega) (by omega)) ?_; refine oV rfl rfl rfl rfl rfl (c37 (m + 1) _ _ _ _) ?_; refine OkO.pick (b := false) rfl rfl nofun (fun _ => rfl) ?_; refine oN ?_
            refine Ok.cond rfl (fun h6 => ?_) (fun h6 => ?_)
            · have hnear : nearB us b = true := by (unfold nearB; rw [hglast]; exact h6)
              refine Ok.drawn [(0, true, []), (1, true, []), (2, true, []), (3, true, []), (4, true, [3, 1]), (5, true, []), (6, true, []), (8, true, []), (9, true, [6, 3, 1]), (7, false, [3, 1]), (10, false, [6, 3, 1]), (11, true, []), (12, false, [6, 3]), (13, false, [6, 3, 1]), (14, false, [])] (by kernel_rfl) ?_; refine pS ?_; refine oM rfl rfl ?_; refine oN ⟨rfl, ?_⟩; refine pS ?_; refine oL rfl rfl (qlg7 2) ?_; refine oN ⟨rfl, ?_⟩; refine pS ?_; refine oF (o := 0) rfl (by kernel_rfl) rfl ?_; refine oN ⟨rfl, ?_⟩; refine pS ?_; refine oL rfl rfl (qla0 1) ?_; refine oN ⟨rfl, ?_⟩; refine pS ?_; refine OkO.buildSlice (el := 3) (sz := 1) (z := [.int .i64 0]) rfl (by kernel_rfl) (by decide) rfl rfl ?_
              refine oN ⟨(sco (qsa8 1 rfl rfl rfl) (sco (qsg9 2 rfl rfl rfl) rfl)), ?_⟩; refine pS ?_; refine oF (o := 1) rfl (by kernel_rfl) rfl ?_; refine oN ⟨rfl, ?_⟩; refine pS ?_; refine oL rfl rfl (qla0 1) ?_; refine oN ⟨rfl, ?_⟩; refine pS ?_; refine oM rfl rfl ?_; refine oN ⟨rfl, ?_⟩; refine pS ?_; refine OkO.buildSlice (el := 3) (sz := 1) (z := [.int .i64 0]) rfl (by kernel_rfl) (by decide) rfl rfl ?_
              refine oN ⟨(sco (qsa8 1 rfl rfl rfl) (sco (qsa8 1 rfl rfl rfl) (sco (qsg9 2 rfl rfl rfl) rfl))), ?_⟩; refine pS ?_; refine OkO.builtinE rfl rfl rfl (lit_copy (G := G) (b := b) (x := bu) (us := us) ((Mine.row (l := us.map fun (k : Nat) => [I (k : Int)]) (by rw [flatN]; exact hU.to (hE _ (by (try dsimp only); repeat (first | exact hg | exact g2 | exact hG | apply Grow.new | (refine Grow.put ?_ _ (by first | omega | (simp only [hNw, hPt]; omega))))))) (fun x hx => by simp only [List.mem_map] at hx; obtain ⟨y, _, rfl⟩ := hx; rfl) (by omega))) (by omega)) ?_
              rintro v1 G1 hL1
              have e01 : (G1.get W.next).bind AObj.cs = some [cv, I least] := by rw [hL1.old (by omega)]; exact e0
              have e11 : (G1.get (W.next + 1)).bind AObj.cs = some [I (fr : Int), bu] := by rw [hL1.old (by omega)]; exact e1
              refine oN ⟨(sco (qsa8 1 rfl rfl rfl) (sco (qsg9 2 rfl rfl rfl) rfl)), ?_⟩; refine pS ?_; refine OkO.builtinE rfl rfl rfl (lead_app (W := W) (b := b) hL1 hg (by omega)) ?_
              rintro _ G2 ⟨q1, q2, q3, ⟨bk, mm, rfl⟩, q4⟩
              have e02 : (G2.get W.next).bind AObj.cs = some [cv, I least] := by rw [q4 _ (by omega)]; exact e0
              have e12 : (G2.get (W.next + 1)).bind AObj.cs = some [I (fr : Int), bu] := by rw [q4 _ (by omega)]; exact e1
              refine oN ⟨(sco (qsa8 1 rfl rfl rfl) (sco (qsa8 1 rfl rfl rfl) (sco (qsg9 2 rfl rfl rfl) rfl))), ?_⟩; refine pS ?_; refine OkO.build (z := [.int .i64 0, .nils]) (pl := [(0, 1), (1, 1)]) rfl (by kernel_rfl) rfl rfl ?_; refine oN ⟨rfl, ?_⟩; refine pS ?_; refine oE rfl rfl rfl rfl rfl (ih d1 (us ++ [b]) (.opn bk mm) G2 hdd (by simp only [List.length_append, List.length_cons, List.length_nil]; omega) (fun k hk => by (rcases List.mem_append.1 hk with h9 | h9); (· exact hbd k h9); (· simp at h9; omega)) (hM.ext (hE _ q2)) (q1.low (Nat.zero_le _))) ?_
              rintro v9 H9 ⟨q9, bvs9, hs9⟩
              have g9 : Grow W H9 := Grow.ret q2 q9
              have n9x := q9.ext.next
              have e03 : (H9.get W.next).bind AObj.cs = some [cv, I least] := by rw [q9.ext.get _ (by omega)]; exact e02
              have e13 : (H9.get (W.next + 1)).bind AObj.cs = some [I (fr : Int), bu] := by rw [q9.ext.get _ (by omega)]; exact e12
              have hsr9 : Srf (W.next + 2) H9 ov fr bvs (upTo cols least n fr d1 us b) := hsr.to ⟨by omega, fun j hj => (q9.ext.get j (by omega)).trans (q4 j hj)⟩
              have hbl8 : bvs9.length ≤ 20000000 := by (have h8 := surfs_len cols least n fr d1 (us ++ [b]); have h7 := hs9.2.1; have h6 : (n + 1) ^ (d1 + 1) ≤ (n + 1) ^ (d + 1) := Nat.pow_le_pow_right (by omega) (by omega); omega)
              have hcl9 := cellsOf_len fr bvs
              have hcl8 := cellsOf_len fr bvs9
              refine oN ⟨(sco (qsa8 1 rfl rfl rfl) (sco (qsa8 1 rfl rfl rfl) rfl)), ?_⟩; refine pS ?_; refine OkO.builtinE rfl rfl rfl (Mine.app3 (W := W) (k0 := W.next + 2) (t := 57) (u := 57) (sz := 2) (by_ := 32) (e := 27) hsr9.1 g9 (by omega) (by omega) (by kernel_rfl) (by kernel_rfl) hs9.elems.1 hs9.elems.2 hcl8 (by omega) (by omega) hs9.atoms) ?_
              rintro v3 G3 ⟨r1, r2, r3, r4⟩
              have hsr3 := hsr9.add hs9 r1 r3 r4
              have f03 : G3.get W.next = some (.cells [cv, I least] 24) := by rw [r4 _ (by omega) (hsr9.1.far (by omega)), q9.ext.get _ (by omega), q4 _ (by omega)]; exact f0
              have f13 : G3.get (W.next + 1) = some (.cells [I (fr : Int), bu] 27) := by rw [r4 _ (by omega) (hsr9.1.far (by omega)), q9.ext.get _ (by omega), q4 _ (by omega)]; exact f1
              have e04 : (G3.get W.next).bind AObj.cs = some [cv, I least] := by rw [f03]; rfl
              have e14 : (G3.get (W.next + 1)).bind AObj.cs = some [I (fr : Int), bu] := by rw [f13]; rfl
              refine oN ⟨(sco (qsa8 1 rfl rfl rfl) (sco (qsa8 1 rfl rfl rfl) (sco (qsg9 2 rfl rfl rfl) rfl))), ?_⟩; refine pS ?_; refine oA rfl rfl ?_; refine oN ⟨rfl, ?_⟩; refine OkP.nil ?_; refine kR ?_; refine oM rfl rfl ?_; refine OkO.bin rfl rfl rfl (bin_add (by omega) (by omega)) ?_; refine oA rfl rfl ?_; refine oN ?_
              first | exact ⟨n - (b + 1), by omega, b + 1, v3, bvs ++ bvs9, rfl, by omega, by rw [upTo_yes hnear]; exact hsr3, r2, (by show W.next + 2 ≤ G3.next; omega), f03, f13, Has.of (by kernel_rfl), rfl⟩ | exact ⟨n - (b + 1), by omega, b + 1, ov, bvs, rfl, by omega, by rw [upTo_no hnear]; exact hsr, hg, hgx, f0, f1, Has.of (by kernel_rfl), rfl⟩
            · have hnear : nearB us b = false := by (unfold nearB; rw [hglast]; simpa using h6)
              refine Ok.skip ?_; refine kR ?_; refine oM rfl rfl ?_; refine OkO.bin rfl rfl rfl (bin_add (by omega) (by omega)) ?_; refine oA rfl rfl ?_; refine oN ?_
              first | exact ⟨n - (b + 1), by omega, b + 1, v3, bvs ++ bvs9, rfl, by omega, by rw [upTo_yes hnear]; exact hsr3, r2, (by show W.next + 2 ≤ G3.next; omega), f03, f13, Has.of (by kernel_rfl), rfl⟩ | exact ⟨n - (b + 1), by omega, b + 1, ov, bvs, rfl, by omega, by rw [upTo_no hnear]; exact hsr, hg, hgx, f0, f1, Has.of (by kernel_rfl), rfl⟩
        · have hbe : b = n := by (have : ¬ b < n := by simpa using h4); omega
          subst hbe
          rw [upTo_all, ← hdd] at hsr
          refine Ok.exit ?_; refine kS ?_; refine kR ?_; refine oM rfl rfl ?_; refine oA rfl rfl ?_; refine oN ?_
          refine Ok.ret ⟨.inr rfl, ?_⟩
          refine back_newA rfl rfl (by rw [← hW]; exact hg) (fun H9 p1 p2 => ⟨p1, bvs, ?_⟩)
          exact (hsr.low (by omega)).back p2
    · have hh0 : hdS cols least fr us = [] := hdS_no (.inr (by simpa using h2))
      refine Ok.skip ?_; refine kS ?_; refine kS ?_; refine kR ?_; refine oF (o := 0) rfl (by kernel_rfl) rfl ?_; refine oL rfl rfl (qla0 1) ?_; refine oF (o := 1) rfl (by kernel_rfl) rfl ?_; refine oL rfl rfl (qla0 1) ?_; refine oB rfl rfl rfl qbl ?_; refine OkO.bin rfl rfl rfl (bin_add (by omega) (by omega)) ?_; refine oF (o := 0) rfl (by kernel_rfl) rfl ?_; refine oL rfl rfl (qla0 1) ?_; refine oB rfl rfl rfl qbl ?_; refine OkO.bin rfl rfl rfl (bin_geq _ _) ?_; refine oN ?_
      refine Ok.cond rfl (fun h7 => ?_) (fun h7 => ?_)
      · have hd0 : d = 0 := by (have h9 : (cols.length : Int) ≤ (fr : Int) + (us.length : Int) := by simpa using h7); omega
        refine kS ?_; refine kR ?_; refine oM rfl rfl ?_; refine oA rfl rfl ?_; refine oN ?_
        refine Ok.ret ⟨.inr rfl, ?_⟩
        refine back_newA rfl rfl (by rw [← hW]; exact (by (try dsimp only); repeat (first | exact hg | exact g2 | exact hG | apply Grow.new | (refine Grow.put ?_ _ (by first | omega | (simp only [hNw, hPt]; omega)))))) (fun H9 p1 p2 => ⟨p1, [], ?_⟩)
        rw [hd0]
        exact (Srf.low (show Srf _ _ _ _ _ _ from by (show Srf (W.next + 2) _ _ _ _ (hdS cols least fr us); rw [hh0]; exact Srf.none _ _ _)) (by omega)).back p2
      · have hd1 : ∃ d1, d = d1 + 1 := ⟨d - 1, by (have h9 : ¬ (cols.length : Int) ≤ (fr : Int) + (us.length : Int) := by simpa using h7); omega⟩
        obtain ⟨d1, hdd⟩ := hd1
        refine Ok.skip ?_; refine kS ?_; refine kS ?_; refine kR ?_; refine oA rfl rfl ?_; refine oN ?_; refine Ok.block ?_
        refine Ok.loop (fun n9 s_ => ∃ (b : Nat) (ov : AV) (bvs : List AV), n9 = n - b ∧ b ≤ n ∧ Srf (W.next + 2) s_.H ov fr bvs (upTo cols least n fr d1 us b) ∧ Grow W s_.H ∧ W.next + 2 ≤ s_.H.next ∧ s_.H.get W.next = some (.cells [cv, I least] 24) ∧ s_.H.get (W.next + 1) = some (.cells [I (fr : Int), bu] 27) ∧ Has 7 [(2, .ptr W.next 0), (3, .ptr (W.next + 1) 0), (5, ov), (6, I (b : Int))] s_.T ∧ s_.D = []) (n) (by unfold loopFuel; omega)
          ⟨0, .nils, [], rfl, Nat.zero_le _, by rw [upTo_zero, hh0]; exact Srf.none _ _ _, (by (try dsimp only); repeat (first | exact hg | exact g2 | exact hG | apply Grow.new | (refine Grow.put ?_ _ (by first | omega | (simp only [hNw, hPt]; omega))))), (by first | omega | (simp only [hNw, hPt]; omega)), (by first | assumption | (simp (disch := first | omega | (simp only [hNw, hPt]; omega)) only [gN] <;> first | rfl | assumption)), (by first | assumption | (simp (disch := first | omega | (simp only [hNw, hPt]; omega)) only [gN] <;> first | rfl | assumption)), Has.of (by kernel_rfl), rfl⟩ ?_
        rintro n9 ⟨T, D, G⟩ ⟨b, ov, bvs, hn9, hb, hsr, hg, hgx, f0, f1, ⟨f, hT⟩, hD⟩
        dsimp only at *
        subst hT hD
        have hgn := hg.next
        have e0 : (G.get W.next).bind AObj.cs = some [cv, I least] := by rw [f0]; rfl
        have e1 : (G.get (W.next + 1)).bind AObj.cs = some [I (fr : Int), bu] := by rw [f1]; rfl
        have jc2 : (G.get cb).bind AObj.cs = some ccs := by rw [hg.get _ (by omega), hg0]; exact j20
        have hbl9 : bvs.length ≤ 20000000 := by (have := upTo_len (cols := cols) (least := least) (fr := fr) (d := d1) (us := us) hb; have h7 := hsr.2.1; have h6 : (n + 1) ^ (d1 + 1 + 1) ≤ 20000000 := (by rw [← hdd]; exact hq); omega)
        have hov := hsr.1.one
        refine kS ?_; refine kS ?_; refine kR ?_; refine oM rfl rfl ?_; refine oF (o := 0) rfl (by kernel_rfl) rfl ?_; refine oL rfl rfl (qla0 1) ?_; refine qX (sz := 1) (n := 0) rfl rfl rfl ?_; refine oL rfl rfl (qla0 1) ?_; refine oB rfl rfl rfl qbl ?_; refine OkO.bin rfl rfl rfl (bin_lss _ _) ?_; refine oN ?_
        refine Ok.cond rfl (fun h8 => ?_) (fun h8 => ?_)
        · have hbl : b < n := by simpa using h8
          refine Ok.skip ?_; refine kS ?_; refine Ok.block ?_; refine kS ?_; refine kR ?_; refine oF (o := 1) rfl (by kernel_rfl) rfl ?_; refine oL rfl rfl (qla0 1) ?_; refine oB rfl rfl rfl qbl ?_; refine oA rfl rfl ?_; refine oN ?_; refine kS ?_; refine kR ?_; refine oM rfl rfl ?_; refine OkO.bin rfl rfl rfl (bin_eql _ _) ?_; refine oM rfl rfl ?_
          refine OkO.split (d := 46) rfl (fun g9 => ?_) (fun g9 => ?_)
          · have hus0 : us = [] := by simpa using g9
            have hnear : nearB us b = true := by rw [hus0]; rfl
            refine oK rfl ?_; refine oK rfl ?_; refine oK rfl ?_; refine oK rfl ?_; refine oK rfl ?_; refine oK rfl ?_; refine oK rfl ?_; refine oK rfl ?_; refine oK rfl ?_; refine OkO.pick (b := true) rfl rfl (fun _ => rfl) nofun ?_; refine oN ?_; refine Ok.condT rfl ?_; refine Ok.drawn [(0, true, []), (1, true, []), (2, true, []), (3, true, []), (4, true, [3, 1]), (5, true, []), (6, true, []), (8, true, []), (9, true, [6, 3, 1]), (7, false, [3, 1]), (10, false, [6, 3, 1]), (11, true, []), (12, false, [6, 3]), (13, false, [6, 3, 1]), (14, false, [])] (by kernel_rfl) ?_; refine pS ?_; refine oM rfl rfl ?_; refine oN ⟨rfl, ?_⟩; refine pS ?_; refine oL rfl rfl (qlg7 2) ?_; refine oN ⟨rfl, ?_⟩; refine pS ?_; refine oF (o := 0) rfl (by kernel_rfl) rfl ?_; refine oN ⟨rfl, ?_⟩; refine pS ?_; refine oL rfl rfl (qla0 1) ?_; refine oN ⟨rfl, ?_⟩; refine pS ?_; refine OkO.buildSlice (el := 3) (sz := 1) (z := [.int .i64 0]) rfl (by kernel_rfl) (by decide) rfl rfl ?_
            refine oN ⟨(sco (qsa8 1 rfl rfl rfl) (sco (qsg9 2 rfl rfl rfl) rfl)), ?_⟩; refine pS ?_; refine oF (o := 1) rfl (by kernel_rfl) rfl ?_; refine oN ⟨rfl, ?_⟩; refine pS ?_; refine oL rfl rfl (qla0 1) ?_; refine oN ⟨rfl, ?_⟩; refine pS ?_; refine oM rfl rfl ?_; refine oN ⟨rfl, ?_⟩; refine pS ?_; refine OkO.buildSlice (el := 3) (sz := 1) (z := [.int .i64 0]) rfl (by kernel_rfl) (by decide) rfl rfl ?_
            refine oN ⟨(sco (qsa8 1 rfl rfl rfl) (sco (qsa8 1 rfl rfl rfl) (sco (qsg9 2 rfl rfl rfl) rfl))), ?_⟩; refine pS ?_; refine OkO.builtinE rfl rfl rfl (lit_copy (G := G) (b := b) (x := bu) (us := us) ((Mine.row (l := us.map fun (k : Nat) => [I (k : Int)]) (by rw [flatN]; exact hU.to (hE _ (by (try dsimp only); repeat (first | exact hg | exact g2 | exact hG | apply Grow.new | (refine Grow.put ?_ _ (by first | omega | (simp only [hNw, hPt]; omega))))))) (fun x hx => by simp only [List.mem_map] at hx; obtain ⟨y, _, rfl⟩ := hx; rfl) (by omega))) (by omega)) ?_
            rintro v1 G1 hL1
            have e01 : (G1.get W.next).bind AObj.cs = some [cv, I least] := by rw [hL1.old (by omega)]; exact e0
            have e11 : (G1.get (W.next + 1)).bind AObj.cs = some [I (fr : Int), bu] := by rw [hL1.old (by omega)]; exact e1
            refine oN ⟨(sco (qsa8 1 rfl rfl rfl) (sco (qsg9 2 rfl rfl rfl) rfl)), ?_⟩; refine pS ?_; refine OkO.builtinE rfl rfl rfl (lead_app (W := W) (b := b) hL1 hg (by omega)) ?_
            rintro _ G2 ⟨q1, q2, q3, ⟨bk, mm, rfl⟩, q4⟩
            have e02 : (G2.get W.next).bind AObj.cs = some [cv, I least] := by rw [q4 _ (by omega)]; exact e0
            have e12 : (G2.get (W.next + 1)).bind AObj.cs = some [I (fr : Int), bu] := by rw [q4 _ (by omega)]; exact e1
            refine oN ⟨(sco (qsa8 1 rfl rfl rfl) (sco (qsa8 1 rfl rfl rfl) (sco (qsg9 2 rfl rfl rfl) rfl))), ?_⟩; refine pS ?_; refine OkO.build (z := [.int .i64 0, .nils]) (pl := [(0, 1), (1, 1)]) rfl (by kernel_rfl) rfl rfl ?_; refine oN ⟨rfl, ?_⟩; refine pS ?_; refine oE rfl rfl rfl rfl rfl (ih d1 (us ++ [b]) (.opn bk mm) G2 hdd (by simp only [List.length_append, List.length_cons, List.length_nil]; omega) (fun k hk => by (rcases List.mem_append.1 hk with h9 | h9); (· exact hbd k h9); (· simp at h9; omega)) (hM.ext (hE _ q2)) (q1.low (Nat.zero_le _))) ?_
            rintro v9 H9 ⟨q9, bvs9, hs9⟩
            have g9 : Grow W H9 := Grow.ret q2 q9
            have n9x := q9.ext.next
            have e03 : (H9.get W.next).bind AObj.cs = some [cv, I least] := by rw [q9.ext.get _ (by omega)]; exact e02
            have e13 : (H9.get (W.next + 1)).bind AObj.cs = some [I (fr : Int), bu] := by rw [q9.ext.get _ (by omega)]; exact e12
            have hsr9 : Srf (W.next + 2) H9 ov fr bvs (upTo cols least n fr d1 us b) := hsr.to ⟨by omega, fun j hj => (q9.ext.get j (by omega)).trans (q4 j hj)⟩
            have hbl8 : bvs9.length ≤ 20000000 := by (have h8 := surfs_len cols least n fr d1 (us ++ [b]); have h7 := hs9.2.1; have h6 : (n + 1) ^ (d1 + 1) ≤ (n + 1) ^ (d + 1) := Nat.pow_le_pow_right (by omega) (by omega); omega)
            have hcl9 := cellsOf_len fr bvs
            have hcl8 := cellsOf_len fr bvs9
            refine oN ⟨(sco (qsa8 1 rfl rfl rfl) (sco (qsa8 1 rfl rfl rfl) rfl)), ?_⟩; refine pS ?_; refine OkO.builtinE rfl rfl rfl (Mine.app3 (W := W) (k0 := W.next + 2) (t := 57) (u := 57) (sz := 2) (by_ := 32) (e := 27) hsr9.1 g9 (by omega) (by omega) (by kernel_rfl) (by kernel_rfl) hs9.elems.1 hs9.elems.2 hcl8 (by omega) (by omega) hs9.atoms) ?_
            rintro v3 G3 ⟨r1, r2, r3, r4⟩
            have hsr3 := hsr9.add hs9 r1 r3 r4
            have f03 : G3.get W.next = some (.cells [cv, I least] 24) := by rw [r4 _ (by omega) (hsr9.1.far (by omega)), q9.ext.get _ (by omega), q4 _ (by omega)]; exact f0
            have f13 : G3.get (W.next + 1) = some (.cells [I (fr : Int), bu] 27) := by rw [r4 _ (by omega) (hsr9.1.far (by omega)), q9.ext.get _ (by omega), q4 _ (by omega)]; exact f1
            have e04 : (G3.get W.next).bind AObj.cs = some [cv, I least] := by rw [f03]; rfl
            have e14 : (G3.get (W.next + 1)).bind AObj.cs = some [I (fr : Int), bu] := by rw [f13]; rfl
            refine oN ⟨(sco (qsa8 1 rfl rfl rfl) (sco (qsa8 1 rfl rfl rfl) (sco (qsg9 2 rfl rfl rfl) rfl))), ?_⟩; refine pS ?_; refine oA rfl rfl ?_; refine oN ⟨rfl, ?_⟩; refine OkP.nil ?_; refine kR ?_; refine oM rfl rfl ?_; refine OkO.bin rfl rfl rfl (bin_add (by omega) (by omega)) ?_; refine oA rfl rfl ?_; refine oN ?_
            first | exact ⟨n - (b + 1), by omega, b + 1, v3, bvs ++ bvs9, rfl, by omega, by rw [upTo_yes hnear]; exact hsr3, r2, (by show W.next + 2 ≤ G3.next; omega), f03, f13, Has.of (by kernel_rfl), rfl⟩ | exact ⟨n - (b + 1), by omega, b + 1, ov, bvs, rfl, by omega, by rw [upTo_no hnear]; exact hsr, hg, hgx, f0, f1, Has.of (by kernel_rfl), rfl⟩
          · have hus1 : us ≠ [] := by simpa using g9
            have husl := List.length_pos_iff.2 hus1
            obtain ⟨y, hy⟩ : ∃ y, us[us.length - 1]? = some y := ⟨_, List.getElem?_eq_getElem (by omega)⟩
            have hyn : y < n := hbd y (List.mem_of_getElem? hy)
            have hglast : us.getLast? = some y := by rw [List.getLast?_eq_getElem?]; exact hy
            obtain ⟨ub, uo, ucs, u1, u2, u3, u4⟩ := (Mine.row (l := us.map fun (k : Nat) => [I (k : Int)]) (by rw [flatN]; exact hU.to (hE _ hg)) (fun x hx => by simp only [List.mem_map] at hx; obtain ⟨y, _, rfl⟩ := hx; rfl) (by omega)).at_ (us.length - 1) [I (y : Int)] (by rw [List.getElem?_map, hy]; rfl)
            have u5 := seg_one u3
            refine oM rfl rfl ?_; refine oF (o := 1) rfl (by kernel_rfl) rfl ?_; refine oL rfl rfl (qla0 1) ?_; refine oM rfl rfl ?_; refine OkO.bin rfl rfl rfl (bin_sub (by omega) (by omega)) ?_; refine qX (sz := 1) (n := us.length - 1) rfl rfl (congrArg (fun z => some (I z)) (by omega)) ?_; refine oL rfl rfl (qla0 1) ?_; refine OkO.bin rfl rfl rfl (bin_sub (by omega) (by omega)) ?_; refine oV rfl rfl rfl rfl rfl (c37 (m + 1) _ _ _ _) ?_; refine OkO.pick (b := false) rfl rfl nofun (fun _ => rfl) ?_; refine oN ?_
            refine Ok.cond rfl (fun h10 => ?_) (fun h10 => ?_)
            · have hnear : nearB us b = true := by (unfold nearB; rw [hglast]; exact h10)
              refine Ok.drawn [(0, true, []), (1, true, []), (2, true, []), (3, true, []), (4, true, [3, 1]), (5, true, []), (6, true, []), (8, true, []), (9, true, [6, 3, 1]), (7, false, [3, 1]), (10, false, [6, 3, 1]), (11, true, []), (12, false, [6, 3]), (13, false, [6, 3, 1]), (14, false, [])] (by kernel_rfl) ?_; refine pS ?_; refine oM rfl rfl ?_; refine oN ⟨rfl, ?_⟩; refine pS ?_; refine oL rfl rfl (qlg7 2) ?_; refine oN ⟨rfl, ?_⟩; refine pS ?_; refine oF (o := 0) rfl (by kernel_rfl) rfl ?_; refine oN ⟨rfl, ?_⟩; refine pS ?_; refine oL rfl rfl (qla0 1) ?_; refine oN ⟨rfl, ?_⟩; refine pS ?_; refine OkO.buildSlice (el := 3) (sz := 1) (z := [.int .i64 0]) rfl (by kernel_rfl) (by decide) rfl rfl ?_
              refine oN ⟨(sco (qsa8 1 rfl rfl rfl) (sco (qsg9 2 rfl rfl rfl) rfl)), ?_⟩; refine pS ?_; refine oF (o := 1) rfl (by kernel_rfl) rfl ?_; refine oN ⟨rfl, ?_⟩; refine pS ?_; refine oL rfl rfl (qla0 1) ?_; refine oN ⟨rfl, ?_⟩; refine pS ?_; refine oM rfl rfl ?_; refine oN ⟨rfl, ?_⟩; refine pS ?_; refine OkO.buildSlice (el := 3) (sz := 1) (z := [.int .i64 0]) rfl (by kernel_rfl) (by decide) rfl rfl ?_
              refine oN ⟨(sco (qsa8 1 rfl rfl rfl) (sco (qsa8 1 rfl rfl rfl) (sco (qsg9 2 rfl rfl rfl) rfl))), ?_⟩; refine pS ?_; refine OkO.builtinE rfl rfl rfl (lit_copy (G := G) (b := b) (x := bu) (us := us) ((Mine.row (l := us.map fun (k : Nat) => [I (k : Int)]) (by rw [flatN]; exact hU.to (hE _ (by (try dsimp only); repeat (first | exact hg | exact g2 | exact hG | apply Grow.new | (refine Grow.put ?_ _ (by first | omega | (simp only [hNw, hPt]; omega))))))) (fun x hx => by simp only [List.mem_map] at hx; obtain ⟨y, _, rfl⟩ := hx; rfl) (by omega))) (by omega)) ?_
              rintro v1 G1 hL1
              have e01 : (G1.get W.next).bind AObj.cs = some [cv, I least] := by rw [hL1.old (by omega)]; exact e0
              have e11 : (G1.get (W.next + 1)).bind AObj.cs = some [I (fr : Int), bu] := by rw [hL1.old (by omega)]; exact e1
              refine oN ⟨(sco (qsa8 1 rfl rfl rfl) (sco (qsg9 2 rfl rfl rfl) rfl)), ?_⟩; refine pS ?_; refine OkO.builtinE rfl rfl rfl (lead_app (W := W) (b := b) hL1 hg (by omega)) ?_
              rintro _ G2 ⟨q1, q2, q3, ⟨bk, mm, rfl⟩, q4⟩
              have e02 : (G2.get W.next).bind AObj.cs = some [cv, I least] := by rw [q4 _ (by omega)]; exact e0
              have e12 : (G2.get (W.next + 1)).bind AObj.cs = some [I (fr : Int), bu] := by rw [q4 _ (by omega)]; exact e1
              refine oN ⟨(sco (qsa8 1 rfl rfl rfl) (sco (qsa8 1 rfl rfl rfl) (sco (qsg9 2 rfl rfl rfl) rfl))), ?_⟩; refine pS ?_; refine OkO.build (z := [.int .i64 0, .nils]) (pl := [(0, 1), (1, 1)]) rfl (by kernel_rfl) rfl rfl ?_; refine oN ⟨rfl, ?_⟩; refine pS ?_; refine oE rfl rfl rfl rfl rfl (ih d1 (us ++ [b]) (.opn bk mm) G2 hdd (by simp only [List.length_append, List.length_cons, List.length_nil]; omega) (fun k hk => by (rcases List.mem_append.1 hk with h9 | h9); (· exact hbd k h9); (· simp at h9; omega)) (hM.ext (hE _ q2)) (q1.low (Nat.zero_le _))) ?_
              rintro v9 H9 ⟨q9, bvs9, hs9⟩
              have g9 : Grow W H9 := Grow.ret q2 q9
              have n9x := q9.ext.next
              have e03 : (H9.get W.next).bind AObj.cs = some [cv, I least] := by rw [q9.ext.get _ (by omega)]; exact e02
              have e13 : (H9.get (W.next + 1)).bind AObj.cs = some [I (fr : Int), bu] := by rw [q9.ext.get _ (by omega)]; exact e12
              have hsr9 : Srf (W.next + 2) H9 ov fr bvs (upTo cols least n fr d1 us b) := hsr.to ⟨by omega, fun j hj => (q9.ext.get j (by omega)).trans (q4 j hj)⟩
              have hbl8 : bvs9.length ≤ 20000000 := by (have h8 := surfs_len cols least n fr d1 (us ++ [b]); have h7 := hs9.2.1; have h6 : (n + 1) ^ (d1 + 1) ≤ (n + 1) ^ (d + 1) := Nat.pow_le_pow_right (by omega) (by omega); omega)
              have hcl9 := cellsOf_len fr bvs
              have hcl8 := cellsOf_len fr bvs9
              refine oN ⟨(sco (qsa8 1 rfl rfl rfl) (sco (qsa8 1 rfl rfl rfl) rfl)), ?_⟩; refine pS ?_; refine OkO.builtinE rfl rfl rfl (Mine.app3 (W := W) (k0 := W.next + 2) (t := 57) (u := 57) (sz := 2) (by_ := 32) (e := 27) hsr9.1 g9 (by omega) (by omega) (by kernel_rfl) (by kernel_rfl) hs9.elems.1 hs9.elems.2 hcl8 (by omega) (by omega) hs9.atoms) ?_
              rintro v3 G3 ⟨r1, r2, r3, r4⟩
              have hsr3 := hsr9.add hs9 r1 r3 r4
              have f03 : G3.get W.next = some (.cells [cv, I least] 24) := by rw [r4 _ (by omega) (hsr9.1.far (by omega)), q9.ext.get _ (by omega), q4 _ (by omega)]; exact f0
              have f13 : G3.get (W.next + 1) = some (.cells [I (fr : Int), bu] 27) := by rw [r4 _ (by omega) (hsr9.1.far (by omega)), q9.ext.get _ (by omega), q4 _ (by omega)]; exact f1
              have e04 : (G3.get W.next).bind AObj.cs = some [cv, I least] := by rw [f03]; rfl
              have e14 : (G3.get (W.next + 1)).bind AObj.cs = some [I (fr : Int), bu] := by rw [f13]; rfl
              refine oN ⟨(sco (qsa8 1 rfl rfl rfl) (sco (qsa8 1 rfl rfl rfl) (sco (qsg9 2 rfl rfl rfl) rfl))), ?_⟩; refine pS ?_; refine oA rfl rfl ?_; refine oN ⟨rfl, ?_⟩; refine OkP.nil ?_; refine kR ?_; refine oM rfl rfl ?_; refine OkO.bin rfl rfl rfl (bin_add (by omega) (by omega)) ?_; refine oA rfl rfl ?_; refine oN ?_
              first | exact ⟨n - (b + 1), by omega, b + 1, v3, bvs ++ bvs9, rfl, by omega, by rw [upTo_yes hnear]; exact hsr3, r2, (by show W.next + 2 ≤ G3.next; omega), f03, f13, Has.of (by kernel_rfl), rfl⟩ | exact ⟨n - (b + 1), by omega, b + 1, ov, bvs, rfl, by omega, by rw [upTo_no hnear]; exact hsr, hg, hgx, f0, f1, Has.of (by kernel_rfl), rfl⟩
            · have hnear : nearB us b = false := by (unfold nearB; rw [hglast]; simpa using h10)
              refine Ok.skip ?_; refine kR ?_; refine oM rfl rfl ?_; refine OkO.bin rfl rfl rfl (bin_add (by omega) (by omega)) ?_; refine oA rfl rfl ?_; refine oN ?_
              first | exact ⟨n - (b + 1), by omega, b + 1, v3, bvs ++ bvs9, rfl, by omega, by rw [upTo_yes hnear]; exact hsr3, r2, (by show W.next + 2 ≤ G3.next; omega), f03, f13, Has.of (by kernel_rfl), rfl⟩ | exact ⟨n - (b + 1), by omega, b + 1, ov, bvs, rfl, by omega, by rw [upTo_no hnear]; exact hsr, hg, hgx, f0, f1, Has.of (by kernel_rfl), rfl⟩
        · have hbe : b = n := by (have : ¬ b < n := by simpa using h8); omega
          subst hbe
          rw [upTo_all, ← hdd] at hsr
          refine Ok.exit ?_; refine kS ?_; refine kR ?_; refine oM rfl rfl ?_; refine oA rfl rfl ?_; refine oN ?_
          refine Ok.ret ⟨.inr rfl, ?_⟩
          refine back_newA rfl rfl (by rw [← hW]; exact hg) (fun H9 p1 p2 => ⟨p1, bvs, ?_⟩)
          exact (hsr.low (by omega)).back p2
  · have hne : us = [] := by (have h9 : ¬ 0 < us.length := by simpa using g1); exact List.eq_nil_of_length_eq_zero (by omega)
    have hh0 : hdS cols least fr us = [] := hdS_no (.inl hne)
    refine oK rfl ?_; refine oK rfl ?_; refine oK rfl ?_; refine OkO.pick (b := false) rfl rfl nofun (fun _ => rfl) ?_; refine oN ?_; refine Ok.condF rfl ?_; refine Ok.skip ?_; refine kS ?_; refine kS ?_; refine kR ?_; refine oF (o := 0) rfl (by kernel_rfl) rfl ?_; refine oL rfl rfl (qla0 1) ?_; refine oF (o := 1) rfl (by kernel_rfl) rfl ?_; refine oL rfl rfl (qla0 1) ?_; refine oB rfl rfl rfl qbl ?_; refine OkO.bin rfl rfl rfl (bin_add (by omega) (by omega)) ?_; refine oF (o := 0) rfl (by kernel_rfl) rfl ?_; refine oL rfl rfl (qla0 1) ?_; refine oB rfl rfl rfl qbl ?_; refine OkO.bin rfl rfl rfl (bin_geq _ _) ?_; refine oN ?_
    refine Ok.cond rfl (fun h11 => ?_) (fun h11 => ?_)
    · have hd0 : d = 0 := by (have h9 : (cols.length : Int) ≤ (fr : Int) + (us.length : Int) := by simpa using h11); omega
      refine kS ?_; refine kR ?_; refine oM rfl rfl ?_; refine oA rfl rfl ?_; refine oN ?_
      refine Ok.ret ⟨.inr rfl, ?_⟩
      refine back_newA rfl rfl (by rw [← hW]; exact (by (try dsimp only); repeat (first | exact hg | exact g2 | exact hG | apply Grow.new | (refine Grow.put ?_ _ (by first | omega | (simp only [hNw, hPt]; omega)))))) (fun H9 p1 p2 => ⟨p1, [], ?_⟩)
      rw [hd0]
      exact (Srf.low (show Srf _ _ _ _ _ _ from by (show Srf (W.next + 2) _ _ _ _ (hdS cols least fr us); rw [hh0]; exact Srf.none _ _ _)) (by omega)).back p2
    · have hd1 : ∃ d1, d = d1 + 1 := ⟨d - 1, by (have h9 : ¬ (cols.length : Int) ≤ (fr : Int) + (us.length : Int) := by simpa using h11); omega⟩
      obtain ⟨d1, hdd⟩ := hd1
      refine Ok.skip ?_; refine kS ?_; refine kS ?_; refine kR ?_; refine oA rfl rfl ?_; refine oN ?_; refine Ok.block ?_
      refine Ok.loop (fun n9 s_ => ∃ (b : Nat) (ov : AV) (bvs : List AV), n9 = n - b ∧ b ≤ n ∧ Srf (W.next + 2) s_.H ov fr bvs (upTo cols least n fr d1 us b) ∧ Grow W s_.H ∧ W.next + 2 ≤ s_.H.next ∧ s_.H.get W.next = some (.cells [cv, I least] 24) ∧ s_.H.get (W.next + 1) = some (.cells [I (fr : Int), bu] 27) ∧ Has 7 [(2, .ptr W.next 0), (3, .ptr (W.next + 1) 0), (5, ov), (6, I (b : Int))] s_.T ∧ s_.D = []) (n) (by unfold loopFuel; omega)
        ⟨0, .nils, [], rfl, Nat.zero_le _, by rw [upTo_zero, hh0]; exact Srf.none _ _ _, (by (try dsimp only); repeat (first | exact hg | exact g2 | exact hG | apply Grow.new | (refine Grow.put ?_ _ (by first | omega | (simp only [hNw, hPt]; omega))))), (by first | omega | (simp only [hNw, hPt]; omega)), (by first | assumption | (simp (disch := first | omega | (simp only [hNw, hPt]; omega)) only [gN] <;> first | rfl | assumption)), (by first | assumption | (simp (disch := first | omega | (simp only [hNw, hPt]; omega)) only [gN] <;> first | rfl | assumption)), Has.of (by kernel_rfl), rfl⟩ ?_
      rintro n9 ⟨T, D, G⟩ ⟨b, ov, bvs, hn9, hb, hsr, hg, hgx, f0, f1, ⟨f, hT⟩, hD⟩
      dsimp only at *
      subst hT hD
      have hgn := hg.next
      have e0 : (G.get W.next).bind AObj.cs = some [cv, I least] := by rw [f0]; rfl
      have e1 : (G.get (W.next + 1)).bind AObj.cs = some [I (fr : Int), bu] := by rw [f1]; rfl
      have jc2 : (G.get cb).bind AObj.cs = some ccs := by rw [hg.get _ (by omega), hg0]; exact j20
      have hbl9 : bvs.length ≤ 20000000 := by (have := upTo_len (cols := cols) (least := least) (fr := fr) (d := d1) (us := us) hb; have h7 := hsr.2.1; have h6 : (n + 1) ^ (d1 + 1 + 1) ≤ 20000000 := (by rw [← hdd]; exact hq); omega)
      have hov := hsr.1.one
      refine kS ?_; refine kS ?_; refine kR ?_; refine oM rfl rfl ?_; refine oF (o := 0) rfl (by kernel_rfl) rfl ?_; refine oL rfl rfl (qla0 1) ?_; refine qX (sz := 1) (n := 0) rfl rfl rfl ?_; refine oL rfl rfl (qla0 1) ?_; refine oB rfl rfl rfl qbl ?_; refine OkO.bin rfl rfl rfl (bin_lss _ _) ?_; refine oN ?_
      refine Ok.cond rfl (fun h12 => ?_) (fun h12 => ?_)
      · have hbl : b < n := by simpa using h12
        refine Ok.skip ?_; refine kS ?_; refine Ok.block ?_; refine kS ?_; refine kR ?_; refine oF (o := 1) rfl (by kernel_rfl) rfl ?_; refine oL rfl rfl (qla0 1) ?_; refine oB rfl rfl rfl qbl ?_; refine oA rfl rfl ?_; refine oN ?_; refine kS ?_; refine kR ?_; refine oM rfl rfl ?_; refine OkO.bin rfl rfl rfl (bin_eql _ _) ?_; refine oM rfl rfl ?_
        refine OkO.split (d := 46) rfl (fun g13 => ?_) (fun g13 => ?_)
        · have hus0 : us = [] := by simpa using g13
          have hnear : nearB us b = true := by rw [hus0]; rfl
          refine oK rfl ?_; refine oK rfl ?_; refine oK rfl ?_; refine oK rfl ?_; refine oK rfl ?_; refine oK rfl ?_; refine oK rfl ?_; refine oK rfl ?_; refine oK rfl ?_; refine OkO.pick (b := true) rfl rfl (fun _ => rfl) nofun ?_; refine oN ?_; refine Ok.condT rfl ?_; refine Ok.drawn [(0, true, []), (1, true, []), (2, true, []), (3, true, []), (4, true, [3, 1]), (5, true, []), (6, true, []), (8, true, []), (9, true, [6, 3, 1]), (7, false, [3, 1]), (10, false, [6, 3, 1]), (11, true, []), (12, false, [6, 3]), (13, false, [6, 3, 1]), (14, false, [])] (by kernel_rfl) ?_; refine pS ?_; refine oM rfl rfl ?_; refine oN ⟨rfl, ?_⟩; refine pS ?_; refine oL rfl rfl (qlg7 2) ?_; refine oN ⟨rfl, ?_⟩; refine pS ?_; refine oF (o := 0) rfl (by kernel_rfl) rfl ?_; refine oN ⟨rfl, ?_⟩; refine pS ?_; refine oL rfl rfl (qla0 1) ?_; refine oN ⟨rfl, ?_⟩; refine pS ?_; refine OkO.buildSlice (el := 3) (sz := 1) (z := [.int .i64 0]) rfl (by kernel_rfl) (by decide) rfl rfl ?_
          refine oN ⟨(sco (qsa8 1 rfl rfl rfl) (sco (qsg9 2 rfl rfl rfl) rfl)), ?_⟩; refine pS ?_; refine oF (o := 1) rfl (by kernel_rfl) rfl ?_; refine oN ⟨rfl, ?_⟩; refine pS ?_; refine oL rfl rfl (qla0 1) ?_; refine oN ⟨rfl, ?_⟩; refine pS ?_; refine oM rfl rfl ?_; refine oN ⟨rfl, ?_⟩; refine pS ?_; refine OkO.buildSlice (el := 3) (sz := 1) (z := [.int .i64 0]) rfl (by kernel_rfl) (by decide) rfl rfl ?_
          refine oN ⟨(sco (qsa8 1 rfl rfl rfl) (sco (qsa8 1 rfl rfl rfl) (sco (qsg9 2 rfl rfl rfl) rfl))), ?_⟩; refine pS ?_; refine OkO.builtinE rfl rfl rfl (lit_copy (G := G) (b := b) (x := bu) (us := us) ((Mine.row (l := us.map fun (k : Nat) => [I (k : Int)]) (by rw [flatN]; exact hU.to (hE _ (by (try dsimp only); repeat (first | exact hg | exact g2 | exact hG | apply Grow.new | (refine Grow.put ?_ _ (by first | omega | (simp only [hNw, hPt]; omega))))))) (fun x hx => by simp only [List.mem_map] at hx; obtain ⟨y, _, rfl⟩ := hx; rfl) (by omega))) (by omega)) ?_
          rintro v1 G1 hL1
          have e01 : (G1.get W.next).bind AObj.cs = some [cv, I least] := by rw [hL1.old (by omega)]; exact e0
          have e11 : (G1.get (W.next + 1)).bind AObj.cs = some [I (fr : Int), bu] := by rw [hL1.old (by omega)]; exact e1
          refine oN ⟨(sco (qsa8 1 rfl rfl rfl) (sco (qsg9 2 rfl rfl rfl) rfl)), ?_⟩; refine pS ?_; refine OkO.builtinE rfl rfl rfl (lead_app (W := W) (b := b) hL1 hg (by omega)) ?_
          rintro _ G2 ⟨q1, q2, q3, ⟨bk, mm, rfl⟩, q4⟩
          have e02 : (G2.get W.next).bind AObj.cs = some [cv, I least] := by rw [q4 _ (by omega)]; exact e0
          have e12 : (G2.get (W.next + 1)).bind AObj.cs = some [I (fr : Int), bu] := by rw [q4 _ (by omega)]; exact e1
          refine oN ⟨(sco (qsa8 1 rfl rfl rfl) (sco (qsa8 1 rfl rfl rfl) (sco (qsg9 2 rfl rfl rfl) rfl))), ?_⟩; refine pS ?_; refine OkO.build (z := [.int .i64 0, .nils]) (pl := [(0, 1), (1, 1)]) rfl (by kernel_rfl) rfl rfl ?_; refine oN ⟨rfl, ?_⟩; refine pS ?_; refine oE rfl rfl rfl rfl rfl (ih d1 (us ++ [b]) (.opn bk mm) G2 hdd (by simp only [List.length_append, List.length_cons, List.length_nil]; omega) (fun k hk => by (rcases List.mem_append.1 hk with h9 | h9); (· exact hbd k h9); (· simp at h9; omega)) (hM.ext (hE _ q2)) (q1.low (Nat.zero_le _))) ?_
          rintro v9 H9 ⟨q9, bvs9, hs9⟩
          have g9 : Grow W H9 := Grow.ret q2 q9
          have n9x := q9.ext.next
          have e03 : (H9.get W.next).bind AObj.cs = some [cv, I least] := by rw [q9.ext.get _ (by omega)]; exact e02
          have e13 : (H9.get (W.next + 1)).bind AObj.cs = some [I (fr : Int), bu] := by rw [q9.ext.get _ (by omega)]; exact e12
          have hsr9 : Srf (W.next + 2) H9 ov fr bvs (upTo cols least n fr d1 us b) := hsr.to ⟨by omega, fun j hj => (q9.ext.get j (by omega)).trans (q4 j hj)⟩
          have hbl8 : bvs9.length ≤ 20000000 := by (have h8 := surfs_len cols least n fr d1 (us ++ [b]); have h7 := hs9.2.1; have h6 : (n + 1) ^ (d1 + 1) ≤ (n + 1) ^ (d + 1) := Nat.pow_le_pow_right (by omega) (by omega); omega)
          have hcl9 := cellsOf_len fr bvs
          have hcl8 := cellsOf_len fr bvs9
          refine oN ⟨(sco (qsa8 1 rfl rfl rfl) (sco (qsa8 1 rfl rfl rfl) rfl)), ?_⟩; refine pS ?_; refine OkO.builtinE rfl rfl rfl (Mine.app3 (W := W) (k0 := W.next + 2) (t := 57) (u := 57) (sz := 2) (by_ := 32) (e := 27) hsr9.1 g9 (by omega) (by omega) (by kernel_rfl) (by kernel_rfl) hs9.elems.1 hs9.elems.2 hcl8 (by omega) (by omega) hs9.atoms) ?_
          rintro v3 G3 ⟨r1, r2, r3, r4⟩
          have hsr3 := hsr9.add hs9 r1 r3 r4
          have f03 : G3.get W.next = some (.cells [cv, I least] 24) := by rw [r4 _ (by omega) (hsr9.1.far (by omega)), q9.ext.get _ (by omega), q4 _ (by omega)]; exact f0
          have f13 : G3.get (W.next + 1) = some (.cells [I (fr : Int), bu] 27) := by rw [r4 _ (by omega) (hsr9.1.far (by omega)), q9.ext.get _ (by omega), q4 _ (by omega)]; exact f1
          have e04 : (G3.get W.next).bind AObj.cs = some [cv, I least] := by rw [f03]; rfl
          have e14 : (G3.get (W.next + 1)).bind AObj.cs = some [I (fr : Int), bu] := by rw [f13]; rfl
          refine oN ⟨(sco (qsa8 1 rfl rfl rfl) (sco (qsa8 1 rfl rfl rfl) (sco (qsg9 2 rfl rfl rfl) rfl))), ?_⟩; refine pS ?_; refine oA rfl rfl ?_; refine oN ⟨rfl, ?_⟩; refine OkP.nil ?_; refine kR ?_; refine oM rfl rfl ?_; refine OkO.bin rfl rfl rfl (bin_add (by omega) (by omega)) ?_; refine oA rfl rfl ?_; refine oN ?_
          first | exact ⟨n - (b + 1), by omega, b + 1, v3, bvs ++ bvs9, rfl, by omega, by rw [upTo_yes hnear]; exact hsr3, r2, (by show W.next + 2 ≤ G3.next; omega), f03, f13, Has.of (by kernel_rfl), rfl⟩ | exact ⟨n - (b + 1), by omega, b + 1, ov, bvs, rfl, by omega, by rw [upTo_no hnear]; exact hsr, hg, hgx, f0, f1, Has.of (by kernel_rfl), rfl⟩
        · have hus1 : us ≠ [] := by simpa using g13
          have husl := List.length_pos_iff.2 hus1
          obtain ⟨y, hy⟩ : ∃ y, us[us.length - 1]? = some y := ⟨_, List.getElem?_eq_getElem (by omega)⟩
          have hyn : y < n := hbd y (List.mem_of_getElem? hy)
          have hglast : us.getLast? = some y := by rw [List.getLast?_eq_getElem?]; exact hy
          obtain ⟨ub, uo, ucs, u1, u2, u3, u4⟩ := (Mine.row (l := us.map fun (k : Nat) => [I (k : Int)]) (by rw [flatN]; exact hU.to (hE _ hg)) (fun x hx => by simp only [List.mem_map] at hx; obtain ⟨y, _, rfl⟩ := hx; rfl) (by omega)).at_ (us.length - 1) [I (y : Int)] (by rw [List.getElem?_map, hy]; rfl)
          have u5 := seg_one u3
          refine oM rfl rfl ?_; refine oF (o := 1) rfl (by kernel_rfl) rfl ?_; refine oL rfl rfl (qla0 1) ?_; refine oM rfl rfl ?_; refine OkO.bin rfl rfl rfl (bin_sub (by omega) (by omega)) ?_; refine qX (sz := 1) (n := us.length - 1) rfl rfl (congrArg (fun z => some (I z)) (by omega)) ?_; refine oL rfl rfl (qla0 1) ?_; refine OkO.bin rfl rfl rfl (bin_sub (by omega) (by omega)) ?_; refine oV rfl rfl rfl rfl rfl (c37 (m + 1) _ _ _ _) ?_; refine OkO.pick (b := false) rfl rfl nofun (fun _ => rfl) ?_; refine oN ?_
          refine Ok.cond rfl (fun h14 => ?_) (fun h14 => ?_)
          · have hnear : nearB us b = true := by (unfold nearB; rw [hglast]; exact h14)
            refine Ok.drawn [(0, true, []), (1, true, []), (2, true, []), (3, true, []), (4, true, [3, 1]), (5, true, []), (6, true, []), (8, true, []), (9, true, [6, 3, 1]), (7, false, [3, 1]), (10, false, [6, 3, 1]), (11, true, []), (12, false, [6, 3]), (13, false, [6, 3, 1]), (14, false, [])] (by kernel_rfl) ?_; refine pS ?_; refine oM rfl rfl ?_; refine oN ⟨rfl, ?_⟩; refine pS ?_; refine oL rfl rfl (qlg7 2) ?_; refine oN ⟨rfl, ?_⟩; refine pS ?_; refine oF (o := 0) rfl (by kernel_rfl) rfl ?_; refine oN ⟨rfl, ?_⟩; refine pS ?_; refine oL rfl rfl (qla0 1) ?_; refine oN ⟨rfl, ?_⟩; refine pS ?_; refine OkO.buildSlice (el := 3) (sz := 1) (z := [.int .i64 0]) rfl (by kernel_rfl) (by decide) rfl rfl ?_
            refine oN ⟨(sco (qsa8 1 rfl rfl rfl) (sco (qsg9 2 rfl rfl rfl) rfl)), ?_⟩; refine pS ?_; refine oF (o := 1) rfl (by kernel_rfl) rfl ?_; refine oN ⟨rfl, ?_⟩; refine pS ?_; refine oL rfl rfl (qla0 1) ?_; refine oN ⟨rfl, ?_⟩; refine pS ?_; refine oM rfl rfl ?_; refine oN ⟨rfl, ?_⟩; refine pS ?_; refine OkO.buildSlice (el := 3) (sz := 1) (z := [.int .i64 0]) rfl (by kernel_rfl) (by decide) rfl rfl ?_
            refine oN ⟨(sco (qsa8 1 rfl rfl rfl) (sco (qsa8 1 rfl rfl rfl) (sco (qsg9 2 rfl rfl rfl) rfl))), ?_⟩; refine pS ?_; refine OkO.builtinE rfl rfl rfl (lit_copy (G := G) (b := b) (x := bu) (us := us) ((Mine.row (l := us.map fun (k : Nat) => [I (k : Int)]) (by rw [flatN]; exact hU.to (hE _ (by (try dsimp only); repeat (first | exact hg | exact g2 | exact hG | apply Grow.new | (refine Grow.put ?_ _ (by first | omega | (simp only [hNw, hPt]; omega))))))) (fun x hx => by simp only [List.mem_map] at hx; obtain ⟨y, _, rfl⟩ := hx; rfl) (by omega))) (by omega)) ?_
            rintro v1 G1 hL1
            have e01 : (G1.get W.next).bind AObj.cs = some [cv, I least] := by rw [hL1.old (by omega)]; exact e0
            have e11 : (G1.get (W.next + 1)).bind AObj.cs = some [I (fr : Int), bu] := by rw [hL1.old (by omega)]; exact e1
            refine oN ⟨(sco (qsa8 1 rfl rfl rfl) (sco (qsg9 2 rfl rfl rfl) rfl)), ?_⟩; refine pS ?_; refine OkO.builtinE rfl rfl rfl (lead_app (W := W) (b := b) hL1 hg (by omega)) ?_
            rintro _ G2 ⟨q1, q2, q3, ⟨bk, mm, rfl⟩, q4⟩
            have e02 : (G2.get W.next).bind AObj.cs = some [cv, I least] := by rw [q4 _ (by omega)]; exact e0
            have e12 : (G2.get (W.next + 1)).bind AObj.cs = some [I (fr : Int), bu] := by rw [q4 _ (by omega)]; exact e1
            refine oN ⟨(sco (qsa8 1 rfl rfl rfl) (sco (qsa8 1 rfl rfl rfl) (sco (qsg9 2 rfl rfl rfl) rfl))), ?_⟩; refine pS ?_; refine OkO.build (z := [.int .i64 0, .nils]) (pl := [(0, 1), (1, 1)]) rfl (by kernel_rfl) rfl rfl ?_; refine oN ⟨rfl, ?_⟩; refine pS ?_; refine oE rfl rfl rfl rfl rfl (ih d1 (us ++ [b]) (.opn bk mm) G2 hdd (by simp only [List.length_append, List.length_cons, List.length_nil]; omega) (fun k hk => by (rcases List.mem_append.1 hk with h9 | h9); (· exact hbd k h9); (· simp at h9; omega)) (hM.ext (hE _ q2)) (q1.low (Nat.zero_le _))) ?_
            rintro v9 H9 ⟨q9, bvs9, hs9⟩
            have g9 : Grow W H9 := Grow.ret q2 q9
            have n9x := q9.ext.next
            have e03 : (H9.get W.next).bind AObj.cs = some [cv, I least] := by rw [q9.ext.get _ (by omega)]; exact e02
            have e13 : (H9.get (W.next + 1)).bind AObj.cs = some [I (fr : Int), bu] := by rw [q9.ext.get _ (by omega)]; exact e12
            have hsr9 : Srf (W.next + 2) H9 ov fr bvs (upTo cols least n fr d1 us b) := hsr.to ⟨by omega, fun j hj => (q9.ext.get j (by omega)).trans (q4 j hj)⟩
            have hbl8 : bvs9.length ≤ 20000000 := by (have h8 := surfs_len cols least n fr d1 (us ++ [b]); have h7 := hs9.2.1; have h6 : (n + 1) ^ (d1 + 1) ≤ (n + 1) ^ (d + 1) := Nat.pow_le_pow_right (by omega) (by omega); omega)
            have hcl9 := cellsOf_len fr bvs
            have hcl8 := cellsOf_len fr bvs9
            refine oN ⟨(sco (qsa8 1 rfl rfl rfl) (sco (qsa8 1 rfl rfl rfl) rfl)), ?_⟩; refine pS ?_; refine OkO.builtinE rfl rfl rfl (Mine.app3 (W := W) (k0 := W.next + 2) (t := 57) (u := 57) (sz := 2) (by_ := 32) (e := 27) hsr9.1 g9 (by omega) (by omega) (by kernel_rfl) (by kernel_rfl) hs9.elems.1 hs9.elems.2 hcl8 (by omega) (by omega) hs9.atoms) ?_
            rintro v3 G3 ⟨r1, r2, r3, r4⟩
            have hsr3 := hsr9.add hs9 r1 r3 r4
            have f03 : G3.get W.next = some (.cells [cv, I least] 24) := by rw [r4 _ (by omega) (hsr9.1.far (by omega)), q9.ext.get _ (by omega), q4 _ (by omega)]; exact f0
            have f13 : G3.get (W.next + 1) = some (.cells [I (fr : Int), bu] 27) := by rw [r4 _ (by omega) (hsr9.1.far (by omega)), q9.ext.get _ (by omega), q4 _ (by omega)]; exact f1
            have e04 : (G3.get W.next).bind AObj.cs = some [cv, I least] := by rw [f03]; rfl
            have e14 : (G3.get (W.next + 1)).bind AObj.cs = some [I (fr : Int), bu] := by rw [f13]; rfl
            refine oN ⟨(sco (qsa8 1 rfl rfl rfl) (sco (qsa8 1 rfl rfl rfl) (sco (qsg9 2 rfl rfl rfl) rfl))), ?_⟩; refine pS ?_; refine oA rfl rfl ?_; refine oN ⟨rfl, ?_⟩; refine OkP.nil ?_; refine kR ?_; refine oM rfl rfl ?_; refine OkO.bin rfl rfl rfl (bin_add (by omega) (by omega)) ?_; refine oA rfl rfl ?_; refine oN ?_
            first | exact ⟨n - (b + 1), by omega, b + 1, v3, bvs ++ bvs9, rfl, by omega, by rw [upTo_yes hnear]; exact hsr3, r2, (by show W.next + 2 ≤ G3.next; omega), f03, f13, Has.of (by kernel_rfl), rfl⟩ | exact ⟨n - (b + 1), by omega, b + 1, ov, bvs, rfl, by omega, by rw [upTo_no hnear]; exact hsr, hg, hgx, f0, f1, Has.of (by kernel_rfl), rfl⟩
          · have hnear : nearB us b = false := by (unfold nearB; rw [hglast]; simpa using h14)
            refine Ok.skip ?_; refine kR ?_; refine oM rfl rfl ?_; refine OkO.bin rfl rfl rfl (bin_add (by omega) (by omega)) ?_; refine oA rfl rfl ?_; refine oN ?_
            first | exact ⟨n - (b + 1), by omega, b + 1, v3, bvs ++ bvs9, rfl, by omega, by rw [upTo_yes hnear]; exact hsr3, r2, (by show W.next + 2 ≤ G3.next; omega), f03, f13, Has.of (by kernel_rfl), rfl⟩ | exact ⟨n - (b + 1), by omega, b + 1, ov, bvs, rfl, by omega, by rw [upTo_no hnear]; exact hsr, hg, hgx, f0, f1, Has.of (by kernel_rfl), rfl⟩
      · have hbe : b = n := by (have : ¬ b < n := by simpa using h12); omega
        subst hbe
        rw [upTo_all, ← hdd] at hsr
        refine Ok.exit ?_; refine kS ?_; refine kR ?_; refine oM rfl rfl ?_; refine oA rfl rfl ?_; refine oN ?_
        refine Ok.ret ⟨.inr rfl, ?_⟩
        refine back_newA rfl rfl (by rw [← hW]; exact hg) (fun H9 p1 p2 => ⟨p1, bvs, ?_⟩)
        exact (hsr.low (by omega)).back p2
end
end Go.Ev

set_option maxRecDepth 100000
set_option linter.unusedSimpArgs false
set_option linter.unusedVariables false
namespace Go.Ev
open Go Go.Proofs
noncomputable section
theorem c73 (m : Nat) : ∀ (d : Nat) (cv : AV) (cols : List (List Bed)) (least : Int) (n fr : Nat) (us : List Nat) (bu : AV) (H : Heap) (hM : Mat H cv cols) (hv : slOk cols least = true) (hgk : (cols.headD []).length = n) (hd : fr + us.length + d = cols.length) (hbd : ∀ k ∈ us, k < n) (hU : Mine 0 H bu 3 1 (ints us)) (hq : (n + 1) ^ (d + 1) ≤ 20000000), ∃ v H', RR (m + d + 3) (.fn 73 [.agg [cv, I least], .agg [I (fr : Int), bu]]) H = some (v, H') ∧ Ret H H' ∧ ∃ bvs, Srf H.next H' v fr bvs (surfs cols least n fr d us)
  | 0, cv, cols, least, n, fr, us, bu, H, hM, hv, hgk, hd, hbd, hU, hq => c73s m cv cols least n fr 0 us bu H hM hv hgk hd hbd hU hq (fun d1 _ _ _ h => by omega)
  | d + 1, cv, cols, least, n, fr, us, bu, H, hM, hv, hgk, hd, hbd, hU, hq => by
    have hq' : (n + 1) ^ (d + 1) ≤ 20000000 := Nat.le_trans (Nat.pow_le_pow_right (by omega) (by omega)) hq
    rw [show m + (d + 1) + 3 = (m + d + 1) + 3 from by omega]
    refine c73s (m + d + 1) cv cols least n fr (d + 1) us bu H hM hv hgk hd hbd hU hq (fun d1 us' bu' G h1 h2 h3 h4 h5 => ?_)
    have hd1 : d1 = d := by omega
    subst hd1
    rw [show m + d1 + 1 + 2 = m + d1 + 3 from by omega]
    exact c73 m d1 cv cols least n fr us' bu' G h4 hv hgk h2 h3 h5 hq'
theorem walk_at {n k b : Nat} {t : List Nat} : ∀ (us : List Nat), Walk n (us ++ b :: t) → us.getLast? = some k → Nxt n k b
  | [], _, h => by simp at h
  | [x], h, hk => by
    simp at hk
    subst hk
    exact h.2.1
  | x :: y :: l, h, hk => walk_at (y :: l) h.2.2 (by simpa using hk)
theorem ofN_inj {a c : List Nat} (h : ofN a = ofN c) : a = c := by
  exact (List.map_inj_right (f := fun (k : Nat) => (k : Int)) (fun x y hx => by omega)).1 h
theorem surfs_sound {cols : List (List Bed)} {least : Int} {n fr : Nat} : ∀ {d : Nat} {us u : List Nat}, u ∈ surfs cols least n fr d us → u ≠ [] ∧ surfB cols least (fr : Int) (ofN u) = true
  | 0, us, u, h => by
    rw [surfs] at h
    unfold hdS at h
    split at h
    · simp at h; subst h; assumption
    · simp at h
  | d + 1, us, u, h => by
    rw [surfs, List.mem_append] at h
    rcases h with h | h
    · unfold hdS at h
      split at h
      · simp at h; subst h; assumption
      · simp at h
    · obtain ⟨b, _, h⟩ := List.mem_flatMap.1 h
      split at h
      · exact surfs_sound h
      · simp at h
theorem surfs_full {cols : List (List Bed)} {least : Int} {n fr : Nat} : ∀ (tl : List Nat) {d : Nat} {us : List Nat}, us ++ tl ≠ [] → surfB cols least (fr : Int) (ofN (us ++ tl)) = true → Walk n (us ++ tl) → tl.length ≤ d → us ++ tl ∈ surfs cols least n fr d us
  | [], 0, us, h1, h2, _, _ => by
    rw [List.append_nil] at h1 h2 ⊢
    rw [surfs, hdS_yes h1 h2]
    simp
  | [], d + 1, us, h1, h2, _, _ => by
    rw [List.append_nil] at h1 h2 ⊢
    rw [surfs, hdS_yes h1 h2]
    simp
  | b :: t, 0, us, _, _, _, h => by simp at h
  | b :: t, d + 1, us, h1, h2, h3, h4 => by
    have e : us ++ b :: t = (us ++ [b]) ++ t := by simp
    have hi := h3.lt us.length (by simp)
    have hbn : b < n := by simpa using hi
    have hnear : nearB us b = true := by
      unfold nearB
      cases hg : us.getLast? with
      | none => rfl
      | some k =>
        have hx : Nxt n k b := walk_at us h3 hg
        have hx2 := hx.2
        simp [inB]
        omega
    rw [e] at h1 h2 h3 ⊢
    have := surfs_full t h1 h2 h3 (d := d) (by simp at h4; omega)
    rw [surfs, List.mem_append]
    refine .inr (List.mem_flatMap.2 ⟨b, List.mem_range.2 hbn, ?_⟩)
    rw [if_pos hnear]
    exact this
theorem surfs_mem {cols : List (List Bed)} {least : Int} {fr : Nat} {u : List Nat} (hv : slOk cols least = true) {d : Nat} (hd : fr + d = cols.length) : u ∈ surfs cols least (cols.headD []).length fr d [] ↔ Surf cols.length (cols.headD []).length least fr u := by
  constructor
  · intro h
    obtain ⟨h1, h2⟩ := surfs_sound h
    obtain ⟨f0, u2, e1, e2, hs⟩ := surf_N hv h2
    have hf : f0 = fr := by omega
    have hu : u2 = u := (ofN_inj e2).symm
    subst hf hu
    exact hs
  · intro hs
    have := surfs_full (cols := cols) (least := least) (fr := fr) u (us := []) (d := d) (by simpa using hs.2.1) (by simpa using surf_B hv hs) (by simpa using hs.1) (by have := hs.2.2.2; omega)
    simpa using this
end
end Go.Ev

set_option maxRecDepth 100000
set_option linter.unusedSimpArgs false
set_option linter.unusedVariables false
namespace Go.Ev
open Go Go.Proofs
noncomputable section
/-- Surfaces, each with the slice that holds its beds. -/
abbrev QL := List (Nat × List Nat × AV)
def cellsQ (Q : QL) : List AV := (Q.map fun q => [I (q.1 : Int), q.2.2]).flatten
def SA (k0 : Nat) (G : Heap) (v : AV) (Q : QL) : Prop := Mine k0 G v 27 2 (cellsQ Q) ∧ ∀ q ∈ Q, Mine 0 G q.2.2 3 1 (ints q.2.1)
theorem cellsQ_len (Q : QL) : (cellsQ Q).length = Q.length * 2 := by
  unfold cellsQ
  rw [flatten_len _ 2 (fun x hx => by obtain ⟨y, _, rfl⟩ := List.mem_map.1 hx; rfl), List.length_map]
theorem cellsQ_app (a c : QL) : cellsQ (a ++ c) = cellsQ a ++ cellsQ c := by simp [cellsQ]
theorem Srf.toQ {k0 : Nat} {G : Heap} {v : AV} {fr : Nat} : ∀ {bvs : List AV} {L : List (List Nat)}, Srf k0 G v fr bvs L → ∃ Q : QL, SA k0 G v Q ∧ Q.length = L.length ∧ ∀ f us, (∃ x, (f, us, x) ∈ Q) ↔ f = fr ∧ us ∈ L := by
  have key : ∀ (bvs : List AV) (L : List (List Nat)), bvs.length = L.length → (∀ (j : Nat) x u, bvs[j]? = some x → L[j]? = some u → Mine 0 G x 3 1 (ints u)) → ∃ Q : QL, cellsQ Q = cellsOf fr bvs ∧ Q.length = L.length ∧ (∀ q ∈ Q, Mine 0 G q.2.2 3 1 (ints q.2.1)) ∧ ∀ f us, (∃ x, (f, us, x) ∈ Q) ↔ f = fr ∧ us ∈ L := by
    intro bvs
    induction bvs with
    | nil =>
      intro L hl _
      have : L = [] := List.eq_nil_of_length_eq_zero (by simpa using hl.symm)
      subst this
      exact ⟨[], rfl, rfl, nofun, fun f us => by simp⟩
    | cons a l ih =>
      intro L hl h
      cases L with
      | nil => simp at hl
      | cons u L =>
        obtain ⟨Q, h1, h2, h3, h4⟩ := ih L (by simpa using hl) (fun j x u hx hu => h (j + 1) x u (by simpa using hx) (by simpa using hu))
        refine ⟨(fr, u, a) :: Q, ?_, by simp [h2], fun q hq => ?_, fun f us => ?_⟩
        · show [I (fr : Int), a] ++ cellsQ Q = [I (fr : Int), a] ++ cellsOf fr l
          rw [h1]
        · rcases List.mem_cons.1 hq with rfl | hq
          · exact h 0 a u rfl rfl
          · exact h3 q hq
        · constructor
          · rintro ⟨x, hx⟩
            rcases List.mem_cons.1 hx with e | hx
            · cases e; exact ⟨rfl, by simp⟩
            · have := (h4 f us).1 ⟨x, hx⟩
              exact ⟨this.1, by simp [this.2]⟩
          · rintro ⟨rfl, hu⟩
            rcases List.mem_cons.1 hu with rfl | hu
            · exact ⟨a, by simp⟩
            · obtain ⟨x, hx⟩ := (h4 f us).2 ⟨rfl, hu⟩
              exact ⟨x, by simp [hx]⟩
  intro bvs L h
  obtain ⟨Q, h1, h2, h3, h4⟩ := key bvs L h.2.1 h.2.2
  exact ⟨Q, ⟨by rw [h1]; exact h.1, h3⟩, h2, h4⟩
theorem SA.add {k0 k1 : Nat} {H9 G3 : Heap} {v v9 v3 : AV} {Q Q9 : QL} (h : SA k0 H9 v Q) (h9 : SA k1 H9 v9 Q9) (hm : Mine k0 G3 v3 27 2 (cellsQ Q ++ cellsQ Q9)) (hn : H9.next ≤ G3.next)
    (hg : ∀ j, j < H9.next → (∀ m, v ≠ .opn j m) → G3.get j = H9.get j) : SA k0 G3 v3 (Q ++ Q9) := by
  refine ⟨by rw [cellsQ_app]; exact hm, fun q hq => ?_⟩
  rcases List.mem_append.1 hq with hq | hq
  · exact (h.2 q hq).off h.1 (by decide) hn hg
  · exact (h9.2 q hq).off h.1 (by decide) hn hg
theorem SA.to {k0 : Nat} {G G' : Heap} {v : AV} {Q : QL} (h : SA k0 G v Q) (g : Ext G G') : SA k0 G' v Q := ⟨h.1.to g, fun q hq => (h.2 q hq).to g⟩
theorem SA.low {k0 k1 : Nat} {G : Heap} {v : AV} {Q : QL} (h : SA k1 G v Q) (hk : k0 ≤ k1) : SA k0 G v Q := ⟨h.1.low hk, h.2⟩
theorem SA.none (k0 : Nat) (G : Heap) : SA k0 G .nils [] := ⟨Mine.nil _ _ _ _, nofun⟩
theorem SA.atoms {k0 : Nat} {G : Heap} {v : AV} {Q : QL} (h : SA k0 G v Q) : Go.Ev.atoms (cellsQ Q) = true := by
  have key : ∀ (l : QL), (∀ q ∈ l, q.2.2.atom = true) → Go.Ev.atoms (cellsQ l) = true := by
    intro l
    induction l with
    | nil => intro _; rfl
    | cons a l ih =>
      intro hl
      have e : cellsQ (a :: l) = [I (a.1 : Int), a.2.2] ++ cellsQ l := rfl
      rw [e]
      refine atoms_app _ _ ?_ (ih fun x hx => hl x (by simp [hx]))
      rw [Go.Ev.atoms, Go.Ev.atoms, hl a (by simp)]
      rfl
  exact key _ fun q hq => (h.2 q hq).one.2
theorem SA.row {k0 : Nat} {G : Heap} {v : AV} {Q : QL} (h : SA k0 G v Q) : Row G v 2 (Q.map fun q => [I (q.1 : Int), q.2.2]) :=
  Mine.row (l := Q.map fun q => [I (q.1 : Int), q.2.2]) h.1 (fun x hx => by obtain ⟨y, _, rfl⟩ := List.mem_map.1 hx; rfl) (by omega)
theorem SA.elems {k0 : Nat} {G : Heap} {v : AV} {Q : QL} (h : SA k0 G v Q) : Go.Ev.elems G v 2 = some (cellsQ Q) ∧ lenOf v = some Q.length :=
  ⟨h.row.elems (fun x hx => by obtain ⟨y, _, rfl⟩ := List.mem_map.1 hx; rfl), by simpa using h.row.len⟩
theorem SA.back {H G H' : Heap} {v : AV} {Q : QL} (h : SA H.next G v Q) (r : (H' = H ∧ v.flat = true) ∨ ((∀ n, H'.get n = G.get n) ∧ H'.next = G.next)) : SA H.next H' v Q := by
  rcases r with ⟨e, hf⟩ | ⟨r1, r2⟩
  · have hb : Q = [] := by
      rcases h.1 with ⟨_, h1⟩ | ⟨b, n, h1, _⟩
      · have := cellsQ_len Q
        rw [h1] at this
        exact List.eq_nil_of_length_eq_zero (by simp at this; omega)
      · rw [h1] at hf; cases hf
    subst hb
    exact ⟨h.1.backT (V := v) (.inl ⟨e, hf⟩) id, nofun⟩
  · exact h.to ⟨by omega, fun j _ => r1 j⟩
/-- All surfaces of a slope. -/
def AllQ (cols : List (List Bed)) (least : Int) (Q : QL) : Prop := ∀ fr us, (∃ x, (fr, us, x) ∈ Q) ↔ Surf cols.length (cols.headD []).length least fr us
theorem c33 (m : Nat) (cv : AV) (cols : List (List Bed)) (least : Int) (H : Heap) (hM : Mat H cv cols) (hv : slOk cols least = true) (hq : ((cols.headD []).length + 1) ^ (cols.length + 1) ≤ 20000) : ∃ v H', RR (m + 16) (.fn 33 [.agg [cv, I least]]) H = some (v, H') ∧ ∃ Q : QL, Ret H H' ∧ SA H.next H' v Q ∧ AllQ cols least Q ∧ Q.length ≤ 300000 := by
  show ∃ v H', evFn Try.prog (RR (m + 15)) 33 [.agg [cv, I least]] H = some (v, H') ∧ ∃ Q : QL, Ret H H' ∧ SA H.next H' v Q ∧ AllQ cols least Q ∧ Q.length ≤ 300000
  refine fn_okE Try.func33 rfl rfl (by kernel_rfl) (by kernel_rfl) ?_
  obtain ⟨W, hW, hg, hN, hE, hG⟩ := wOf H
  rw [← hW]
  have hsf := slOk_facts hv
  obtain ⟨vs, hR, hvl, hvv⟩ := id hM
  have hlen : lenOf cv = some cols.length := by rw [← hvl]; simpa using hR.len
  have pc : cv.plain = true := lpl hlen
  refine kS ?_; refine kR ?_; refine OkO.box rfl rfl ?_; refine oA rfl rfl ?_; refine oN ?_; refine kS ?_; refine kR ?_; refine oA rfl rfl ?_; refine oN ?_; refine kS ?_; refine kS ?_; refine kR ?_; refine oA rfl rfl ?_; refine oN ?_; refine Ok.block ?_
  refine Ok.loop (fun n9 s_ => ∃ (i : Nat) (ov : AV) (Q : QL), n9 = cols.length - i ∧ i ≤ cols.length ∧ SA (W.next + 1) s_.H ov Q ∧ (∀ f us, (∃ x, (f, us, x) ∈ Q) ↔ f < i ∧ Surf cols.length (cols.headD []).length least f us) ∧ Q.length ≤ i * 20000 ∧ Grow W s_.H ∧ W.next + 1 ≤ s_.H.next ∧ s_.H.get W.next = some (.cells [cv, I least] 24) ∧ Has 5 [(1, .ptr W.next 0), (3, ov), (4, I (i : Int))] s_.T ∧ s_.D = []) (cols.length) (by unfold loopFuel; omega)
    ⟨0, .nils, [], rfl, Nat.zero_le _, SA.none _ _, fun f us => by simp, by simp, (by (try dsimp only); repeat (first | exact hG | apply Grow.new | (refine Grow.put ?_ _ (by first | omega | (simp only [hNw, hPt]; omega))))), (by first | omega | (simp only [hNw, hPt]; omega)), (by first | assumption | (simp (disch := first | omega | (simp only [hNw, hPt]; omega)) only [gN] <;> first | rfl | assumption | exact gp0 _ _ _ | exact gn0 _ _)), Has.of (by kernel_rfl), rfl⟩ ?_
  rintro n9 ⟨T, D, G⟩ ⟨i, ov, Q, hn9, hi, hsr, hal, hQl, hg, hgx, f0, ⟨f, hT⟩, hD⟩
  dsimp only at *
  subst hT hD
  have hgn := hg.next
  have e0 : (G.get W.next).bind AObj.cs = some [cv, I least] := by rw [f0]; rfl
  have hov := hsr.1.one
  refine kS ?_; refine kS ?_; refine kR ?_; refine oM rfl rfl ?_; refine oF (o := 0) rfl (by kernel_rfl) rfl ?_; refine oL rfl rfl (qla0 1) ?_; refine oB rfl rfl rfl qbl ?_; refine OkO.bin rfl rfl rfl (bin_lss _ _) ?_; refine oN ?_
  refine Ok.cond rfl (fun h1 => ?_) (fun h1 => ?_)
  · have hil : i < cols.length := by simpa using h1
    have hqi : ((cols.headD []).length + 1) ^ (cols.length - i + 1) ≤ ((cols.headD []).length + 1) ^ (cols.length + 1) := Nat.pow_le_pow_right (by omega) (by omega)
    refine Ok.skip ?_; refine kS ?_; refine Ok.block ?_; refine kR ?_; refine oM rfl rfl ?_; refine oL rfl rfl (qlg7 2) ?_; refine oM rfl rfl ?_; refine OkO.build (z := [.int .i64 0, .nils]) (pl := [(0, 1), (1, 1)]) rfl (by kernel_rfl) rfl rfl ?_; refine oE rfl rfl rfl rfl rfl ((by rw [show m + 15 = (m + (12 - (cols.length - i))) + (cols.length - i) + 3 from by omega]; exact c73 (m + (12 - (cols.length - i))) (cols.length - i) cv cols least (cols.headD []).length i [] .nils _ (hM.ext (hE _ hg)) hv rfl (by simp only [List.length_nil]; omega) nofun (Mine.nil _ _ _ _) (by omega))) ?_
    rintro v9 H9 ⟨q9, bvs9, hs9⟩
    obtain ⟨Q9, hQ9, hl9, hm9⟩ := hs9.toQ
    have g9 : Grow W H9 := Grow.ret hg q9
    have n9x := q9.ext.next
    have e03 : (H9.get W.next).bind AObj.cs = some [cv, I least] := by rw [q9.ext.get _ (by omega)]; exact e0
    have hsr9 : SA (W.next + 1) H9 ov Q := hsr.to q9.ext
    have hl8 := surfs_len cols least (cols.headD []).length i (cols.length - i) []
    have hcl9 := cellsQ_len Q
    have hcl8 := cellsQ_len Q9
    refine OkO.builtinE rfl rfl rfl (Mine.app3 (W := W) (k0 := W.next + 1) (t := 57) (u := 57) (sz := 2) (by_ := 32) (e := 27) hsr9.1 g9 (by omega) (by omega) (by kernel_rfl) (by kernel_rfl) hQ9.elems.1 hQ9.elems.2 hcl8 (by omega) (by omega) hQ9.atoms) ?_
    rintro v3 G3 ⟨r1, r2, r3, r4⟩
    have hsr3 := hsr9.add hQ9 r1 r3 r4
    have f03 : G3.get W.next = some (.cells [cv, I least] 24) := by rw [r4 _ (by omega) (hsr9.1.far (by omega)), q9.ext.get _ (by omega)]; exact f0
    have e04 : (G3.get W.next).bind AObj.cs = some [cv, I least] := by rw [f03]; rfl
    have hal3 : ∀ f us, (∃ x, (f, us, x) ∈ Q ++ Q9) ↔ f < i + 1 ∧ Surf cols.length (cols.headD []).length least f us := fun f us => by (have h1 := hal f us; have h2 := hm9 f us; rw [surfs_mem hv (by omega)] at h2; constructor; (· rintro ⟨x, hx⟩; rcases List.mem_append.1 hx with hx | hx; (· have h3 := h1.1 ⟨x, hx⟩; exact ⟨by omega, h3.2⟩); (· have h3 := h2.1 ⟨x, hx⟩; exact ⟨by omega, by rw [h3.1]; exact h3.2⟩)); (· rintro ⟨h3, h4⟩; by_cases h5 : f < i; (· obtain ⟨x, hx⟩ := h1.2 ⟨h5, h4⟩; exact ⟨x, by simp [hx]⟩); (· have h6 : f = i := (by omega); subst h6; obtain ⟨x, hx⟩ := h2.2 ⟨rfl, h4⟩; exact ⟨x, by simp [hx]⟩)))
    refine oA rfl rfl ?_; refine oN ?_; refine kR ?_; refine oM rfl rfl ?_; refine OkO.bin rfl rfl rfl (bin_add (by omega) (by omega)) ?_; refine oA rfl rfl ?_; refine oN ?_
    exact ⟨cols.length - (i + 1), by omega, i + 1, v3, Q ++ Q9, rfl, by omega, hsr3, hal3, (by rw [List.length_append]; omega), r2, (by show W.next + 1 ≤ G3.next; omega), f03, Has.of (by kernel_rfl), rfl⟩
  · have hil : i = cols.length := by (have : ¬ i < cols.length := by simpa using h1); omega
    refine Ok.exit ?_; refine kS ?_; refine kR ?_; refine oM rfl rfl ?_; refine oA rfl rfl ?_; refine oN ?_
    refine Ok.ret ⟨.inr rfl, ?_⟩
    refine back_newA rfl rfl (by rw [← hW]; exact hg) (fun H9 p1 p2 => ⟨Q, p1, (hsr.low (by omega)).back p2, fun fr us => ?_, by omega⟩)
    rw [hal fr us, hil]
    exact ⟨fun h => h.2, fun h => ⟨by have h1 := h.2.2.2; have h2 := List.length_pos_iff.2 h.2.1; omega, h⟩⟩
end
end Go.Ev

set_option maxRecDepth 100000
set_option linter.unusedSimpArgs false
set_option linter.unusedVariables false
namespace Go.Ev
open Go Go.Proofs
noncomputable section
def lowQ (cols : List (List Bed)) (q : Nat × List Nat × AV) : Int := refFactor (bedsW cols q.1 q.2.1) ((bedsW cols q.1 q.2.1).map (endT false))
def BestQ (cols : List (List Bed)) (l : QL) (best : Int) : Prop := (best = -1 ∧ ∀ q ∈ l, lowQ cols q < 0) ∨ (0 ≤ best ∧ (∃ q ∈ l, lowQ cols q = best) ∧ ∀ q ∈ l, 0 ≤ lowQ cols q → best ≤ lowQ cols q)
theorem lowQ_fac {cols : List (List Bed)} {q : Nat × List Nat × AV} : lowQ cols q = if drive (bedsW cols q.1 q.2.1) < 1 then -1 else facW cols q.1 q.2.1 := by
  unfold lowQ refFactor
  split
  · rfl
  · unfold facW factorOf
    rw [held_end false weak (fun _ => rfl)]
    first | rfl | omega
theorem BestQ.same {cols : List (List Bed)} {l : QL} {best : Int} {q : Nat × List Nat × AV} (h : BestQ cols l best) (hq : lowQ cols q < 0 ∨ (0 ≤ best ∧ best ≤ lowQ cols q)) : BestQ cols (l ++ [q]) best := by
  rcases h with ⟨h1, h2⟩ | ⟨h1, ⟨x, hx, h2⟩, h3⟩
  · refine .inl ⟨h1, fun y hy => ?_⟩
    rcases List.mem_append.1 hy with hy | hy
    · exact h2 y hy
    · simp at hy; subst hy; omega
  · refine .inr ⟨h1, ⟨x, by simp [hx], h2⟩, fun y hy hy0 => ?_⟩
    rcases List.mem_append.1 hy with hy | hy
    · exact h3 y hy hy0
    · simp at hy; subst hy; omega
theorem BestQ.new {cols : List (List Bed)} {l : QL} {best : Int} {q : Nat × List Nat × AV} (h : BestQ cols l best) (h0 : 0 ≤ lowQ cols q) (hq : best < 0 ∨ lowQ cols q < best) : BestQ cols (l ++ [q]) (lowQ cols q) := by
  refine .inr ⟨h0, ⟨q, by simp, rfl⟩, fun y hy hy0 => ?_⟩
  rcases List.mem_append.1 hy with hy | hy
  · rcases h with ⟨h1, h2⟩ | ⟨h1, _, h3⟩
    · have := h2 y hy; omega
    · have := h3 y hy hy0; omega
  · simp at hy; subst hy; omega
/-- What Lowest says of all surfaces. -/
theorem BestQ.all {cols : List (List Bed)} {least : Int} {Q : QL} {best : Int} (hok : BedsOk cols) (h : BestQ cols Q best) (ha : AllQ cols least Q) : (best = -1 ∧ NoneAt cols (cols.headD []).length least) ∨ (0 ≤ best ∧ ∃ fr us, LowAt cols (cols.headD []).length least best fr us) := by
  rcases h with ⟨h1, h2⟩ | ⟨h1, ⟨q, hq, h2⟩, h3⟩
  · refine .inl ⟨h1, fun fr us hs => ?_⟩
    obtain ⟨x, hx⟩ := (ha fr us).2 hs
    have h4 := h2 _ hx
    rw [lowQ_fac] at h4
    by_cases hd : drive (bedsW cols fr us) < 1
    · exact hd
    · dsimp only at h4
      rw [if_neg hd] at h4
      have := (facW_bd hok (fr := fr) (us := us) (by omega)).1
      omega
  · obtain ⟨fr, us, x⟩ := q
    have hs := (ha fr us).1 ⟨x, hq⟩
    have hd : ¬ drive (bedsW cols fr us) < 1 := fun hd => by
      rw [lowQ_fac] at h2
      dsimp only at h2
      rw [if_pos hd] at h2
      omega
    refine .inr ⟨h1, fr, us, hs, by omega, ?_, fun fr' us' hs' hd' => ?_⟩
    · rw [lowQ_fac] at h2
      dsimp only at h2
      rw [if_neg hd] at h2
      exact h2
    · obtain ⟨x', hx'⟩ := (ha fr' us').2 hs'
      have h4 := h3 _ hx'
      rw [lowQ_fac] at h4
      dsimp only at h4
      rw [if_neg (by omega)] at h4
      exact h4 (facW_bd hok (fr := fr') (us := us') hd').1
theorem low_eq {cols : List (List Bed)} {least : Int} {n : Nat} {a c : Int} {fr fr' : Nat} {us us' : List Nat} (h : LowAt cols n least a fr us) (h' : LowAt cols n least c fr' us') : a = c := by
  have h1 := h.2.2.2 fr' us' h'.1 h'.2.1
  have h2 := h'.2.2.2 fr us h.1 h.2.1
  have h3 := h.2.2.1
  have h4 := h'.2.2.1
  omega
theorem c32 (m : Nat) (cv av : AV) (cols : List (List Bed)) (least : Int) (Q : QL) (z : Int) (H : Heap) (hM : Mat H cv cols) (hv : slOk cols least = true) (hA : SA 0 H av Q) (hS : AllQ cols least Q) (hl9 : Q.length ≤ 300000) (hz : ∀ best, BestQ cols Q best → best = z) : RR (m + 4) (.fn 32 [.agg [cv, I least], av]) H = some (I z, H) := by
  refine (R_fn _ _ _ _ _).trans ?_; refine fn_ok Try.func32 rfl rfl (by kernel_rfl) (by kernel_rfl) ?_
  obtain ⟨W, hW, hg, hN, hE, hG⟩ := wOf H
  rw [← hW]
  have hsf := slOk_facts hv
  have pc : cv.plain = true := by obtain ⟨vs, hR, _, _⟩ := hM; exact lpl hR.len
  have hal := hA.elems.2
  have pav := lpl hal
  have hg0 : ∀ j, W.get j = H.get j := hg
  have hAW : SA 0 W av Q := hA.to ⟨by omega, fun j _ => hg0 j⟩
  refine kS ?_; refine kR ?_; refine OkO.box rfl rfl ?_; refine oA rfl rfl ?_; refine oN ?_; refine kS ?_; refine kR ?_; refine oA rfl rfl ?_; refine oN ?_; refine kS ?_; refine kS ?_; refine kR ?_; refine oA rfl rfl ?_; refine oN ?_; refine Ok.block ?_
  refine Ok.loop (fun n9 s_ => ∃ (i : Nat) (best : Int), n9 = Q.length - i ∧ i ≤ Q.length ∧ BestQ cols (Q.take i) best ∧ -1 ≤ best ∧ best ≤ 10000 ∧ Grow W s_.H ∧ s_.H.get W.next = some (.cells [cv, I least] 24) ∧ Has 6 [(1, av), (2, .ptr W.next 0), (5, I best), (6, I (i : Int))] s_.T ∧ s_.D = []) (Q.length) (by unfold loopFuel; omega)
    ⟨0, -1, rfl, Nat.zero_le _, .inl ⟨rfl, by simp⟩, by omega, by omega, (by (try dsimp only); repeat (first | exact hG | apply Grow.new | (refine Grow.put ?_ _ (by first | omega | (simp only [hNw, hPt]; omega))))), (by first | assumption | (simp (disch := first | omega | (simp only [hNw, hPt]; omega)) only [gN] <;> first | rfl | assumption | exact gp0 _ _ _ | exact gn0 _ _)), Has.of (by kernel_rfl), rfl⟩ ?_
  rintro n9 ⟨T, D, G⟩ ⟨i, best, hn9, hi, hbest, hb1, hb2, hg, f0, ⟨f, hT⟩, hD⟩
  dsimp only at *
  subst hT hD
  have hgn := hg.next
  have e0 : (G.get W.next).bind AObj.cs = some [cv, I least] := by rw [f0]; rfl
  refine kS ?_; refine kS ?_; refine kR ?_; refine oM rfl rfl ?_; refine oM rfl rfl ?_; refine oB rfl rfl rfl qbl ?_; refine OkO.bin rfl rfl rfl (bin_lss _ _) ?_; refine oN ?_
  refine Ok.cond rfl (fun h1 => ?_) (fun h1 => ?_)
  · have hil : i < Q.length := by simpa using h1
    obtain ⟨⟨fr, us, x⟩, hqe⟩ : ∃ q, q = Q[i] := ⟨_, rfl⟩
    have hqi : Q[i] = (fr, us, x) := hqe.symm
    have hqm : (fr, us, x) ∈ Q := by rw [← hqi]; exact List.getElem_mem hil
    have hs := (hS fr us).1 ⟨x, hqm⟩
    have hmx : Mine 0 G x 3 1 (ints us) := (hA.2 _ hqm).to (hE _ hg)
    have hone := hmx.one
    obtain ⟨ub, uo, ucs, u1, u2, u3, u4⟩ := (hA.to (hE _ hg)).row.at_ i [I (fr : Int), x] (by rw [List.getElem?_map, List.getElem?_eq_getElem hil, hqi]; rfl)
    have hlq : lowQ cols (fr, us, x) = refFactor (bedsW cols fr us) ((bedsW cols fr us).map (endT false)) := rfl
    have hlb : -1 ≤ lowQ cols (fr, us, x) ∧ lowQ cols (fr, us, x) ≤ 10000 := by (rw [lowQ_fac]; split; (· omega); (· have := facW_bd (bedsOk_of hv) (fr := fr) (us := us) (by dsimp only at *; omega); dsimp only; omega))
    refine Ok.skip ?_; refine kS ?_; refine Ok.block ?_; refine kS ?_; refine Ok.drawn [(0, true, []), (1, true, []), (2, true, []), (3, true, []), (4, true, []), (5, false, []), (6, true, []), (7, true, [])] (by kernel_rfl) ?_; refine pS ?_; refine oL rfl rfl (qlg7 2) ?_; refine oN ⟨rfl, ?_⟩; refine pS ?_; refine oM rfl rfl ?_; refine oN ⟨rfl, ?_⟩; refine pS ?_; refine oM rfl rfl ?_; refine oN ⟨rfl, ?_⟩; refine pS ?_; refine qX (sz := 2) (n := i) rfl rfl rfl ?_; refine oN ⟨rfl, ?_⟩; refine pS ?_; refine oL rfl rfl (qlg7 2) ?_; refine oN ⟨rfl, ?_⟩; refine pS ?_
    have h28 := c28 m cv x cols least fr us (bedsW cols fr us) G (hM.ext (hE _ hg)) (Mine.row (l := us.map fun (k : Nat) => [I (k : Int)]) (by rw [flatN]; exact hmx) (fun x hx => by simp only [List.mem_map] at hx; obtain ⟨y, _, rfl⟩ := hx; rfl) (by omega)) (picks_W (lens_of hv) hs.1 hs.2.2.2) (by have := hs.2.2.2; omega) (by have := hs.2.2.2; omega) (bedsW_ok (bedsOk_of hv) us fr)
    refine oV rfl rfl rfl rfl rfl (h28) ?_; refine oN ⟨rfl, ?_⟩; refine pS ?_; refine OkO.field (ag := false) (o := 0) (n := 1) rfl (by kernel_rfl) rfl rfl ?_; refine oN ⟨rfl, ?_⟩; refine pS ?_; refine oA rfl rfl ?_; refine oN ⟨rfl, ?_⟩; refine OkP.nil ?_; refine kS ?_; refine kR ?_; refine oM rfl rfl ?_; refine OkO.bin rfl rfl rfl (bin_geq _ _) ?_; refine oM rfl rfl ?_
    refine OkO.split (d := 23) rfl (fun g2 => ?_) (fun g2 => ?_)
    · have hg0 : 0 ≤ lowQ cols (fr, us, x) := by (rw [hlq]; simpa using g2)
      refine oM rfl rfl ?_; refine OkO.bin rfl rfl rfl (bin_lss _ _) ?_; refine oM rfl rfl ?_
      refine OkO.split (d := 26) rfl (fun g3 => ?_) (fun g3 => ?_)
      · have hlt : best < 0 ∨ lowQ cols (fr, us, x) < best := .inl (by simpa using g3)
        refine oK rfl ?_; refine oK rfl ?_; refine oK rfl ?_; refine OkO.pick (b := true) rfl rfl (fun _ => rfl) nofun ?_; refine OkO.pick (b := true) rfl rfl (fun _ => rfl) nofun ?_; refine oN ?_; refine Ok.condT rfl ?_; refine kR ?_; refine oM rfl rfl ?_; refine oA rfl rfl ?_; refine oN ?_; refine kR ?_; refine oM rfl rfl ?_; refine OkO.bin rfl rfl rfl (bin_add (by omega) (by omega)) ?_; refine oA rfl rfl ?_; refine oN ?_
        first | exact ⟨Q.length - (i + 1), by omega, i + 1, lowQ cols (fr, us, x), rfl, by omega, by (rw [List.take_succ_eq_append_getElem hil, hqi]; exact hbest.new hg0 hlt), by omega, by omega, hg, f0, Has.of (by kernel_rfl), rfl⟩ | exact ⟨Q.length - (i + 1), by omega, i + 1, best, rfl, by omega, by (rw [List.take_succ_eq_append_getElem hil, hqi]; exact hbest.same hsame), by omega, by omega, hg, f0, Has.of (by kernel_rfl), rfl⟩
      · refine oM rfl rfl ?_
        refine oM rfl rfl ?_; refine OkO.bin rfl rfl rfl (bin_lss _ _) ?_; refine OkO.pick (b := false) rfl rfl nofun (fun _ => rfl) ?_; refine OkO.pick (b := true) rfl rfl (fun _ => rfl) nofun ?_; refine oN ?_
        refine Ok.cond rfl (fun h4 => ?_) (fun h4 => ?_)
        · have hlt : best < 0 ∨ lowQ cols (fr, us, x) < best := .inr (by rw [hlq]; simpa using h4)
          refine kR ?_; refine oM rfl rfl ?_; refine oA rfl rfl ?_; refine oN ?_; refine kR ?_; refine oM rfl rfl ?_; refine OkO.bin rfl rfl rfl (bin_add (by omega) (by omega)) ?_; refine oA rfl rfl ?_; refine oN ?_
          first | exact ⟨Q.length - (i + 1), by omega, i + 1, lowQ cols (fr, us, x), rfl, by omega, by (rw [List.take_succ_eq_append_getElem hil, hqi]; exact hbest.new hg0 hlt), by omega, by omega, hg, f0, Has.of (by kernel_rfl), rfl⟩ | exact ⟨Q.length - (i + 1), by omega, i + 1, best, rfl, by omega, by (rw [List.take_succ_eq_append_getElem hil, hqi]; exact hbest.same hsame), by omega, by omega, hg, f0, Has.of (by kernel_rfl), rfl⟩
        · have hsame : lowQ cols (fr, us, x) < 0 ∨ (0 ≤ best ∧ best ≤ lowQ cols (fr, us, x)) := .inr ⟨by simpa using g3, by rw [hlq]; simpa using h4⟩
          refine Ok.skip ?_; refine kR ?_; refine oM rfl rfl ?_; refine OkO.bin rfl rfl rfl (bin_add (by omega) (by omega)) ?_; refine oA rfl rfl ?_; refine oN ?_
          first | exact ⟨Q.length - (i + 1), by omega, i + 1, lowQ cols (fr, us, x), rfl, by omega, by (rw [List.take_succ_eq_append_getElem hil, hqi]; exact hbest.new hg0 hlt), by omega, by omega, hg, f0, Has.of (by kernel_rfl), rfl⟩ | exact ⟨Q.length - (i + 1), by omega, i + 1, best, rfl, by omega, by (rw [List.take_succ_eq_append_getElem hil, hqi]; exact hbest.same hsame), by omega, by omega, hg, f0, Has.of (by kernel_rfl), rfl⟩
    · have hsame : lowQ cols (fr, us, x) < 0 ∨ (0 ≤ best ∧ best ≤ lowQ cols (fr, us, x)) := .inl (by rw [hlq]; simpa using g2)
      refine oK rfl ?_; refine oK rfl ?_; refine oK rfl ?_; refine oK rfl ?_; refine oK rfl ?_; refine oK rfl ?_; refine oK rfl ?_; refine OkO.pick (b := false) rfl rfl nofun (fun _ => rfl) ?_; refine oN ?_; refine Ok.condF rfl ?_; refine Ok.skip ?_; refine kR ?_; refine oM rfl rfl ?_; refine OkO.bin rfl rfl rfl (bin_add (by omega) (by omega)) ?_; refine oA rfl rfl ?_; refine oN ?_
      first | exact ⟨Q.length - (i + 1), by omega, i + 1, lowQ cols (fr, us, x), rfl, by omega, by (rw [List.take_succ_eq_append_getElem hil, hqi]; exact hbest.new hg0 hlt), by omega, by omega, hg, f0, Has.of (by kernel_rfl), rfl⟩ | exact ⟨Q.length - (i + 1), by omega, i + 1, best, rfl, by omega, by (rw [List.take_succ_eq_append_getElem hil, hqi]; exact hbest.same hsame), by omega, by omega, hg, f0, Has.of (by kernel_rfl), rfl⟩
  · have hil : i = Q.length := by (have : ¬ i < Q.length := by simpa using h1); omega
    refine Ok.exit ?_; refine kS ?_; refine kR ?_; refine oM rfl rfl ?_; refine oA rfl rfl ?_; refine oN ?_
    refine Ok.ret ⟨.inr rfl, ?_⟩
    exact back_flat rfl (congrArg I (hz best (by rw [hil, List.take_length] at hbest; exact hbest))) rfl (by rw [← hW]; exact hg)
end
end Go.Ev

set_option maxRecDepth 100000
set_option linter.unusedSimpArgs false
set_option linter.unusedVariables false
namespace Go.Ev
open Go Go.Proofs
noncomputable section
theorem few_facts {cols : List (List Bed)} {least : Int} (h : fewB cols least = true) : thinB cols = true ∧ (slOk cols least = true → ((cols.headD []).length + 1) ^ (cols.length + 1) ≤ 20000) := by
  unfold fewB at h
  split at h
  · refine ⟨by assumption, fun hv => ?_⟩
    rw [if_pos hv] at h
    have hf := slOk_facts hv
    simp only [Bool.or_eq_true, Bool.and_eq_true, decide_eq_true_eq] at h
    rcases h with h | h
    · have h1 : ((cols.headD []).length + 1) ^ (cols.length + 1) ≤ 4 ^ (cols.length + 1) := Nat.pow_le_pow_left (by omega) _
      have h2 : 4 ^ (cols.length + 1) ≤ 4 ^ 7 := Nat.pow_le_pow_right (by omega) (by omega)
      omega
    · have h1 : ((cols.headD []).length + 1) ^ (cols.length + 1) ≤ 6 ^ (cols.length + 1) := Nat.pow_le_pow_left (by omega) _
      have h2 : 6 ^ (cols.length + 1) ≤ 6 ^ 5 := Nat.pow_le_pow_right (by omega) (by omega)
      omega
  · cases h
end
end Go.Ev

set_option maxRecDepth 100000
set_option linter.unusedSimpArgs false
set_option linter.unusedVariables false
namespace Go.Ev
open Go Go.Proofs
noncomputable section
theorem best_exists (cols : List (List Bed)) (Q : QL) : ∃ best, BestQ cols Q best := by
  have key : ∀ n, n ≤ Q.length → ∃ best, BestQ cols (Q.take n) best := by
    intro n
    induction n with
    | zero => intro _; exact ⟨-1, .inl ⟨rfl, by simp⟩⟩
    | succ n ih =>
      intro hn
      obtain ⟨best, hb⟩ := ih (by omega)
      rw [List.take_succ_eq_append_getElem (by omega : n < Q.length)]
      by_cases h : lowQ cols Q[n] < 0 ∨ (0 ≤ best ∧ best ≤ lowQ cols Q[n])
      · exact ⟨best, hb.same h⟩
      · exact ⟨_, hb.new (by omega) (by omega)⟩
  have := key Q.length (Nat.le_refl _)
  rwa [List.take_length] at this
theorem best_unique {cols : List (List Bed)} {least : Int} {Q : QL} {a c : Int} (hok : BedsOk cols) (hS : AllQ cols least Q) (ha : BestQ cols Q a) (hc : BestQ cols Q c) : a = c := by
  rcases ha.all hok hS with ⟨h1, h2⟩ | ⟨h1, f1, u1, h2⟩ <;> rcases hc.all hok hS with ⟨h3, h4⟩ | ⟨h3, f2, u2, h4⟩
  · omega
  · exact absurd (h2 f2 u2 h4.1) (by have := h4.2.1; omega)
  · exact absurd (h4 f1 u1 h2.1) (by have := h2.2.1; omega)
  · exact low_eq h2 h4
theorem best_below {cols : List (List Bed)} {least : Int} {Q : QL} {a fa : Int} (hok : BedsOk cols) (hS : AllQ cols least Q) (ha : BestQ cols Q a) (hf : 0 ≤ fa ∧ fa ≤ 10000) : belowB cols.length (cols.headD []).length least (prC cols fa) = true ↔ 0 ≤ a ∧ a < fa := by
  rcases ha.all hok hS with ⟨h1, h2⟩ | ⟨h1, f1, u1, h2⟩
  · have hw : WorstIs cols least 7 0 := .inr ⟨rfl, rfl, h2⟩
    rw [worst_below hok hw hf]
    omega
  · have hw : WorstIs cols least 0 a := .inl ⟨rfl, f1, u1, h2⟩
    rw [worst_below hok hw hf]
    omega
theorem c40 (m : Nat) (cv av : AV) (cols : List (List Bed)) (least fa : Int) (Q : QL) (H : Heap) (hM : Mat H cv cols) (hv : slOk cols least = true) (hA : SA 0 H av Q) (hS : AllQ cols least Q) (hl9 : Q.length ≤ 300000) (hf : 0 ≤ fa ∧ fa ≤ 10000) : RR (m + 5) (.fn 40 [.agg [cv, I least], av, I fa]) H = some (.bool (!belowB cols.length (cols.headD []).length least (prC cols fa)), H) := by
  refine (R_fn _ _ _ _ _).trans ?_; refine fn_ok Try.func40 rfl rfl (by kernel_rfl) (by kernel_rfl) ?_
  obtain ⟨W, hW, hg, hN, hE, hG⟩ := wOf H
  rw [← hW]
  have pc : cv.plain = true := by obtain ⟨vs, hR, _, _⟩ := hM; exact lpl hR.len
  have pav := lpl hA.elems.2
  obtain ⟨best, hb⟩ := best_exists cols Q
  have hbb := best_below (bedsOk_of hv) hS hb hf
  refine kS ?_; refine kR ?_; refine OkO.box rfl rfl ?_; refine oA rfl rfl ?_; refine oN ?_; refine kS ?_; refine kR ?_; refine oL rfl rfl (qlg7 2) ?_; refine oM rfl rfl ?_; refine oV rfl rfl rfl rfl rfl (c32 m cv av cols least Q best _ (hM.ext (hE _ (by (try dsimp only); repeat (first | exact hG | apply Grow.new | (refine Grow.put ?_ _ (by first | omega | (simp only [hNw, hPt]; omega))))))) hv (hA.to (hE _ (by (try dsimp only); repeat (first | exact hG | apply Grow.new | (refine Grow.put ?_ _ (by first | omega | (simp only [hNw, hPt]; omega))))))) hS hl9 (fun c hc => best_unique (bedsOk_of hv) hS hc hb)) ?_; refine oA rfl rfl ?_; refine oN ?_; refine kS ?_; refine kR ?_; refine oM rfl rfl ?_; refine OkO.bin rfl rfl rfl (bin_lss _ _) ?_; refine oM rfl rfl ?_
  refine OkO.split (d := 13) rfl (fun g1 => ?_) (fun g1 => ?_)
  · refine oK rfl ?_
    refine oK rfl ?_; refine oK rfl ?_; refine OkO.pick (b := true) rfl rfl (fun _ => rfl) nofun ?_; refine oA rfl rfl ?_; refine oN ?_
    refine Ok.ret ⟨.inr rfl, ?_⟩
    exact back_flat rfl (congrArg AV.bool (by have h5 : best < 0 := (by simpa using g1); cases h6 : belowB cols.length (cols.headD []).length least (prC cols fa) with | false => rfl | true => (have := hbb.1 h6; omega))) rfl (by rw [← hW]; exact (by (try dsimp only); repeat (first | exact hG | apply Grow.new | (refine Grow.put ?_ _ (by first | omega | (simp only [hNw, hPt]; omega))))))
  · refine oM rfl rfl ?_
    refine oM rfl rfl ?_; refine OkO.bin rfl rfl rfl (bin_geq _ _) ?_; refine OkO.pick (b := false) rfl rfl nofun (fun _ => rfl) ?_; refine oA rfl rfl ?_; refine oN ?_
    refine Ok.ret ⟨.inr rfl, ?_⟩
    exact back_flat rfl (congrArg AV.bool (by have h5 : ¬ best < 0 := (by simpa using g1); by_cases h7 : fa ≤ best; (· (cases h6 : belowB cols.length (cols.headD []).length least (prC cols fa) with | false => simp [h7] | true => (have := hbb.1 h6; omega))); (· (cases h6 : belowB cols.length (cols.headD []).length least (prC cols fa) with | true => simp [h7] | false => (have := hbb.2 ⟨by omega, by omega⟩; rw [this] at h6; cases h6))))) rfl (by rw [← hW]; exact (by (try dsimp only); repeat (first | exact hG | apply Grow.new | (refine Grow.put ?_ _ (by first | omega | (simp only [hNw, hPt]; omega))))))
end
end Go.Ev

set_option maxRecDepth 100000
set_option linter.unusedSimpArgs false
set_option linter.unusedVariables false
namespace Go.Ev
open Go Go.Proofs
noncomputable section
section
variable {H0 : Type} {enc : TypeId × Value → H0} {w : World} {base : Nat} {sp : Nat → Bool} {hd : Bool}
theorem int_arg {H : Heap} (hs : Snap w H) {v : Value} {d : DataW H0} {p : List MemPlace} (hv : ∃ n, v = .int .i64 n) (h : DataW.Trod enc Try.prog w base sp hd 3 v d p) : ∃ x : Int, argAV w.heap.size v = I x := by
  obtain ⟨n, rfl⟩ := hv
  exact ⟨n, rfl⟩
end
end
end Go.Ev

set_option maxRecDepth 100000
set_option linter.unusedSimpArgs false
set_option linter.unusedVariables false
namespace Go.Ev
open Go Go.Proofs
noncomputable section
def highQ (cols : List (List Bed)) (q : Nat × List Nat × AV) : Int := refFactor (bedsW cols q.1 q.2.1) ((bedsW cols q.1 q.2.1).map (endT true))
def hitQ (cols : List (List Bed)) (fa : Int) (sb : Bool) (k : Nat) (q : Nat × List Nat × AV) : Bool := !decide (lowQ cols q < 0) && (inB (k : Int) (q.1 : Int) ((q.1 : Int) + (q.2.1.length : Int) - 1) && (if sb = true then decide (highQ cols q < fa) else decide (lowQ cols q < fa)))
def movL (cols : List (List Bed)) (fa : Int) (sb : Bool) (Q : QL) (k : Nat) : List Nat := (List.range k).filter fun c => Q.any (hitQ cols fa sb c)
/-- The price of which the walk's sum tells whether a column moves. -/
def prM (cols : List (List Bed)) (fa : Int) (sb : Bool) : Nat → Nat → Int := if sb = true then prS cols fa else prC cols fa
end
end Go.Ev

set_option maxRecDepth 100000
set_option linter.unusedSimpArgs false
set_option linter.unusedVariables false
namespace Go.Ev
open Go Go.Proofs
noncomputable section
end
end Go.Ev

set_option maxRecDepth 100000
set_option linter.unusedSimpArgs false
set_option linter.unusedVariables false
namespace Go.Ev
open Go Go.Proofs
noncomputable section
/-- A table of numbers (by row, column and bed) keeps what a proof asks of it. -/
structure ProvedT (pr : Nat → Nat → Int) (N n L : Nat) (t : Nat → Nat → Nat → Int) : Prop where
  first : ∀ c k, c < N → k < n → t 0 c k ≤ pr c k
  up : ∀ r c k j, r + 1 < L → c + 1 < N → k < n → Nxt n k j → t (r + 1) (c + 1) j ≤ pr (c + 1) j + t r c k
  on : ∀ c k j, c + 1 < N → k < n → Nxt n k j → t (L - 1) (c + 1) j ≤ pr (c + 1) j + t (L - 1) c k
  whole : ∀ c k, c < N → L - 1 ≤ c → k < n → 0 ≤ t (L - 1) c k
theorem walkSum_app (pr : Nat → Nat → Int) : ∀ (us : List Nat) (c k : Nat), walkSum pr c (us ++ [k]) = walkSum pr c us + pr (c + us.length) k
  | [], c, k => by simp [walkSum]
  | j :: l, c, k => by
    rw [List.cons_append, walkSum, walkSum_app pr l (c + 1) k, walkSum, List.length_cons, show c + 1 + l.length = c + (l.length + 1) from by omega]
    omega
/-- Where a number of a table comes from: it is the sum of a walk, or it is past any. -/
def FromW (pr : Nat → Nat → Int) (n L : Nat) (M : Int) (r c k : Nat) (x : Int) : Prop :=
  (∃ fr us, Walk n (us ++ [k]) ∧ fr + us.length = c ∧ (us.length = r ∨ (r = L - 1 ∧ r ≤ us.length)) ∧ x = walkSum pr fr (us ++ [k])) ∨ M - 10000000000 * (c + 1 : Int) ≤ x
theorem FromW.first {pr : Nat → Nat → Int} {n L c k : Nat} {M : Int} (hk : k < n) : FromW pr n L M 0 c k (pr c k) :=
  .inl ⟨c, [], hk, rfl, .inl rfl, by simp [walkSum]⟩
theorem FromW.top {pr : Nat → Nat → Int} {n L r c k : Nat} {M : Int} : FromW pr n L M r c k M := .inr (by omega)
theorem FromW.step {pr : Nat → Nat → Int} {n L r r' c k j : Nat} {M x : Int} (hB : PrB pr) (h : FromW pr n L M r c k x) (hn : Nxt n k j) (hr : r' = r + 1 ∨ (r' = r ∧ r = L - 1)) (hL : r' ≤ L - 1) : FromW pr n L M r' (c + 1) j (pr (c + 1) j + x) := by
  have hb := hB (c + 1) j
  rcases h with ⟨fr, us, h1, h2, h3, h4⟩ | h
  · refine .inl ⟨fr, us ++ [k], ?_, by simp; omega, ?_, ?_⟩
    · exact h1.snoc hn.1 (fun z hz => by simp at hz; subst hz; exact hn)
    · simp only [List.length_append, List.length_cons, List.length_nil]
      omega
    · rw [walkSum_app pr (us ++ [k]) fr j, h4]
      simp only [List.length_append, List.length_cons, List.length_nil]
      rw [show fr + (us.length + (0 + 1)) = c + 1 from by omega]
      omega
  · refine .inr ?_
    push_cast
    omega
/-- A number that comes from a walk is not below 0 where no surface is. -/
theorem FromW.whole {pr : Nat → Nat → Int} {N n L c k : Nat} {M x : Int} (h : FromW pr n L M (L - 1) c k x) (hL : 1 ≤ L) (hc : c < N) (hN : N ≤ 100) (hM : 10000000000000 ≤ M) (hb : belowB N n (L : Int) pr = false) : 0 ≤ x := by
  rcases h with ⟨fr, us, h1, h2, h3, h4⟩ | h
  · rw [h4]
    refine (belowB_false.1 hb) fr (us ++ [k]) ⟨h1, by simp, ?_, ?_⟩
    · simp only [List.length_append, List.length_cons, List.length_nil]
      omega
    · simp only [List.length_append, List.length_cons, List.length_nil]
      omega
  · omega
end
end Go.Ev

set_option maxRecDepth 100000
set_option linter.unusedSimpArgs false
set_option linter.unusedVariables false
namespace Go.Ev
open Go Go.Proofs
noncomputable section
def minL (a : Int) (l : List Int) : Int := l.foldl min a
theorem minL_take (a : Int) (l : List Int) (i : Nat) (h : i < l.length) : minL a (l.take (i + 1)) = min (minL a (l.take i)) l[i] := by
  unfold minL
  rw [List.take_succ_eq_append_getElem h, List.foldl_append]
  rfl
theorem minL_le : ∀ (l : List Int) (a : Int), minL a l ≤ a ∧ ∀ x ∈ l, minL a l ≤ x
  | [], a => ⟨Int.le_refl _, nofun⟩
  | y :: l, a => by
    have h := minL_le l (min a y)
    have e : minL a (y :: l) = minL (min a y) l := rfl
    rw [e]
    refine ⟨by omega, fun x hx => ?_⟩
    rcases List.mem_cons.1 hx with rfl | hx
    · omega
    · exact h.2 x hx
theorem minL_or : ∀ (l : List Int) (a : Int), minL a l = a ∨ minL a l ∈ l
  | [], a => .inl rfl
  | y :: l, a => by
    have e : minL a (y :: l) = minL (min a y) l := rfl
    rw [e]
    rcases minL_or l (min a y) with h | h
    · rw [h]
      rcases Int.le_total a y with h1 | h1
      · exact .inl (by omega)
      · exact .inr (by rw [show min a y = y from by omega]; simp)
    · exact .inr (by simp [h])
theorem c110 (m : Nat) (lv : AV) (a : Int) (l : List Int) (H : Heap) (hL : Row H lv 1 (l.map fun x => [I x])) (hl9 : l.length ≤ 1000) : RR (m + 1) (.fn 110 [I a, lv]) H = some (I (minL a l), H) := by
  refine (R_fn _ _ _ _ _).trans ?_; refine fn_ok Try.func110 rfl rfl (by kernel_rfl) (by kernel_rfl) ?_
  obtain ⟨W, hW, hg, hN, hE, hG⟩ := wOf H
  rw [← hW]
  have hll : lenOf lv = some l.length := by simpa using hL.len
  have pl := lpl hll
  have hLW : Row W lv 1 (l.map fun x => [I x]) := hL.ext ⟨by omega, fun j _ => hg j⟩
  refine kS ?_; refine kR ?_; refine oA rfl rfl ?_; refine oN ?_; refine kS ?_; refine kS ?_; refine kR ?_; refine oM rfl rfl ?_; refine oB rfl rfl rfl qbl ?_; refine oM rfl rfl ?_; refine oN ?_; refine Ok.block ?_
  refine Ok.loop (fun n9 s_ => ∃ i : Nat, n9 = l.length - i ∧ i ≤ l.length ∧ Has 5 [(0, I (minL a (l.take i))), (7, lv), (8, I (l.length : Int)), (9, I (i : Int))] s_.T ∧ s_.D = [] ∧ Grow W s_.H) (l.length) (by unfold loopFuel; omega)
    ⟨0, rfl, Nat.zero_le _, Has.of (by kernel_rfl), rfl, hG⟩ ?_
  rintro n9 ⟨T, D, G⟩ ⟨i, hn9, hi, ⟨f, hT⟩, hD, hg⟩
  dsimp only at *
  subst hT hD
  have hgn := hg.next
  refine kS ?_; refine kR ?_; refine OkO.bin rfl rfl rfl (bin_lss _ _) ?_; refine oN ?_; refine kS ?_
  refine Ok.cond rfl (fun h1 => ?_) (fun h1 => ?_)
  · have hil : i < l.length := by simpa using h1
    obtain ⟨ub, uo, ucs, u1, u2, u3, u4⟩ := (hLW.grow hg).at_ i [I l[i]] (by rw [List.getElem?_map, List.getElem?_eq_getElem hil]; rfl)
    have u5 := seg_one u3
    refine Ok.skip ?_; refine kS ?_; refine Ok.block ?_; refine kS ?_; refine kR ?_; refine qX (sz := 1) (n := i) rfl rfl rfl ?_; refine oL rfl rfl (qla0 1) ?_; refine oA rfl rfl ?_; refine oN ?_; refine kR ?_; refine oM rfl rfl ?_; refine oM rfl rfl ?_; refine oB rfl rfl rfl (builtin_min2 _ _) ?_; refine oA rfl rfl ?_; refine oN ?_; refine kR ?_; refine OkO.bin rfl rfl rfl (bin_add (by omega) (by omega)) ?_; refine oM rfl rfl ?_; refine oN ?_
    exact ⟨l.length - (i + 1), by omega, i + 1, rfl, by omega, (by rw [minL_take a l i hil]; exact Has.of (by kernel_rfl)), rfl, hg⟩
  · have hil : i = l.length := by (have : ¬ i < l.length := by simpa using h1); omega
    refine Ok.exit ?_; refine kS ?_; refine kR ?_; refine oM rfl rfl ?_; refine oA rfl rfl ?_; refine oN ?_
    refine Ok.ret ⟨.inr rfl, ?_⟩
    exact back_flat rfl (congrArg I (by rw [hil, List.take_length])) rfl (by rw [← hW]; exact hg)
end
end Go.Ev

set_option maxRecDepth 100000
set_option linter.unusedSimpArgs false
set_option linter.unusedVariables false
namespace Go.Ev
open Go Go.Proofs
noncomputable section
noncomputable def as100 : Code := match Try.f100.body.bind rangeOf with | some r => r.1 | none => .skip
noncomputable def bd100 : Code := match Try.f100.body.bind rangeOf with | some r => r.2 | none => .skip
/-- A column of numbers of a table, as it reads. -/
def TabAt (H : Heap) (tv : AV) (r c : Nat) (l : List Int) : Prop :=
  ∃ (rows : List AV) (rv : AV) (cs : List AV) (cv : AV), Row H tv 1 (rows.map fun x => [x]) ∧ rows[r]? = some rv ∧ Row H rv 1 (cs.map fun x => [x]) ∧ cs[c]? = some cv ∧ Row H cv 1 (l.map fun x => [I x])
theorem TabAt.ext {H G : Heap} {tv : AV} {r c : Nat} {l : List Int} (h : TabAt H tv r c l) (g : Ext H G) : TabAt G tv r c l := by
  obtain ⟨rows, rv, cs, cv, h1, h2, h3, h4, h5⟩ := h
  exact ⟨rows, rv, cs, cv, h1.ext g, h2, h3.ext g, h4, h5.ext g⟩
theorem Mine.ne {k0 : Nat} {G : Heap} {v : AV} {e : TypeId} {sz : Nat} {cs : List AV} (h : Mine k0 G v e sz cs) {j : Nat} {o : AObj} (hj : G.get j = some o) (ho : ∀ a b c, o ≠ .opn a b c) : ∀ m, v ≠ .opn j m := fun m hm => by
  rcases h with ⟨h, _⟩ | ⟨b, n, h, h2, _⟩
  · rw [h] at hm; cases hm
  · rw [h] at hm; cases hm
    rw [hj] at h2
    cases h2
    exact ho _ _ _ rfl
/-- The limits that are in so far. -/
def Lims (cost : Int) (A B : Nat → Int) (r L k n j : Nat) (l : List Int) : Prop :=
  (r = 0 → cost ∈ l) ∧ (∀ i, k - 1 ≤ i → i < j → Nxt n k i → (0 < r → cost + A i ∈ l) ∧ (r + 1 = L → cost + B i ∈ l)) ∧ ∀ x ∈ l, (r = 0 ∧ x = cost) ∨ ∃ i, Nxt n k i ∧ ((0 < r ∧ x = cost + A i) ∨ (r + 1 = L ∧ x = cost + B i))
theorem Lims.step {cost : Int} {A B : Nat → Int} {r L k n j : Nat} {l l1 l2 : List Int} (h : Lims cost A B r L k n j l) (hj : Nxt n k j) (h1 : (0 < r ∧ l1 = [cost + A j]) ∨ (¬ 0 < r ∧ l1 = [])) (h2 : (r + 1 = L ∧ l2 = [cost + B j]) ∨ (¬ r + 1 = L ∧ l2 = [])) : Lims cost A B r L k n (j + 1) (l ++ l1 ++ l2) := by
  obtain ⟨a1, a2, a3⟩ := h
  refine ⟨fun hr => by simp [a1 hr], fun i i1 i2 i3 => ?_, fun x hx => ?_⟩
  · by_cases hi : i < j
    · obtain ⟨b1, b2⟩ := a2 i i1 hi i3
      exact ⟨fun hr => by simp [b1 hr], fun hr => by simp [b2 hr]⟩
    · have hi' : i = j := by omega
      subst hi'
      refine ⟨fun hr => ?_, fun hr => ?_⟩
      · rcases h1 with ⟨_, e⟩ | ⟨e, _⟩
        · rw [e]; simp
        · exact absurd hr e
      · rcases h2 with ⟨_, e⟩ | ⟨e, _⟩
        · rw [e]; simp
        · exact absurd hr e
  · rcases List.mem_append.1 hx with hx | hx
    · rcases List.mem_append.1 hx with hx | hx
      · exact a3 x hx
      · rcases h1 with ⟨e0, e⟩ | ⟨_, e⟩
        · rw [e] at hx; simp at hx; exact .inr ⟨j, hj, .inl ⟨e0, hx⟩⟩
        · rw [e] at hx; simp at hx
    · rcases h2 with ⟨e0, e⟩ | ⟨_, e⟩
      · rw [e] at hx; simp at hx; exact .inr ⟨j, hj, .inr ⟨e0, hx⟩⟩
      · rw [e] at hx; simp at hx
structure MoJ (W : Heap) (N Pb : Nat) (cv tv : AV) (fa cost : Int) (A B : Nat → Int) (r L c k n : Nat) (T0 : Tr AV) (j : Nat) (G : Heap) : Prop where
  ext : Ext W G
  nx : Pb + 4 ≤ G.next
  b0 : G.get N = some (.cells [cv, I (L : Int), I fa, .fn 66 [] []] 119)
  b1 : G.get (N + 1) = some (.cells [tv] 60)
  b2 : G.get (N + 2) = some (.cells [I (r : Int)] 3)
  b3 : G.get (N + 3) = some (.cells [I ((c + 1 : Nat) : Int), I (k : Int)] 145)
  b4 : G.get (N + 4) = some (.cells [I cost] 3)
  b5 : ∃ lv l, G.get (N + 5) = some (.cells [lv] 25) ∧ Mine (N + 6) G lv 3 1 (l.map I) ∧ Lims cost A B r L k n j l ∧ l.length ≤ 2 * j + 3
  p0 : G.get Pb = some (.cells [I (k : Int)] 3)
  p1 : G.get (Pb + 1) = some (.cells [I (n : Int)] 3)
  p2 : G.get (Pb + 2) = some .defd
  p3 : G.get (Pb + 3) = some (.loop .ready none T0 [37] as100 bd100 (Pb + 2))
theorem MoJ.to {W : Heap} {N Pb : Nat} {cv tv : AV} {fa cost : Int} {A B : Nat → Int} {r L c k n : Nat} {T0 : Tr AV} {j : Nat} {G G' : Heap} (hNP : N + 6 ≤ Pb) (h : MoJ W N Pb cv tv fa cost A B r L c k n T0 j G) (e : Ext G G') : MoJ W N Pb cv tv fa cost A B r L c k n T0 j G' := by
  have hn := h.nx
  obtain ⟨lv, l, h1, h2, h3⟩ := h.b5
  exact ⟨h.ext.trans e, Nat.le_trans hn e.next, by rw [e.get _ (by omega)]; exact h.b0, by rw [e.get _ (by omega)]; exact h.b1, by rw [e.get _ (by omega)]; exact h.b2, by rw [e.get _ (by omega)]; exact h.b3, by rw [e.get _ (by omega)]; exact h.b4, ⟨lv, l, by rw [e.get _ (by omega)]; exact h1, h2.to e, h3⟩, by rw [e.get _ (by omega)]; exact h.p0, by rw [e.get _ (by omega)]; exact h.p1, by rw [e.get _ (by omega)]; exact h.p2, by rw [e.get _ (by omega)]; exact h.p3⟩
theorem Mine.putO {k0 : Nat} {G : Heap} {v : AV} {e : TypeId} {sz : Nat} {cs : List AV} (h : Mine k0 G v e sz cs) {j : Nat} {o : AObj} (o' : AObj) (hj : G.get j = some o) (ho : ∀ a b c, o ≠ .opn a b c) : Mine k0 (G.put j o') v e sz cs := by
  have hne := h.ne hj ho
  rcases h with h | ⟨b, n, h, h2, h3, h4, h5⟩
  · exact .inl h
  · refine .inr ⟨b, n, h, ?_, h3, h4, h5⟩
    rw [gpo _ _ _ _ (fun e => hne n (by rw [h, e]))]
    exact h2
end
end Go.Ev

set_option maxRecDepth 100000
set_option linter.unusedSimpArgs false
set_option linter.unusedVariables false
namespace Go.Ev
open Go Go.Proofs
noncomputable section
theorem r100 (m N Pb : Nat) (cv tv : AV) (fa cost : Int) (A B : Nat → Int) (r L c k n j : Nat) (T0 : Tr AV) (W G : Heap) (hN : W.next = N) (hNP : N + 6 ≤ Pb) (hH : Has 7 [(4, .ptr N 0), (5, .ptr (N + 1) 0), (6, .ptr (N + 2) 0), (7, .ptr (N + 3) 0), (9, .ptr (N + 4) 0), (10, .ptr (N + 5) 0)] T0) (hJ : MoJ W N Pb cv tv fa cost A B r L c k n T0 j G) (hlo : N ≤ G.lo)
    (hA : 0 < r → ∃ tl, TabAt W tv (r - 1) c tl ∧ ∀ i, i < n → tl[i]? = some (A i)) (hB : r + 1 = L → ∃ tl, TabAt W tv r c tl ∧ ∀ i, i < n → tl[i]? = some (B i)) (hcb : -10000000000 ≤ cost ∧ cost ≤ 10000000000) (hAb : ∀ i, -10000000000000000 ≤ A i ∧ A i ≤ 10000000000000000) (hBb : ∀ i, -10000000000000000 ≤ B i ∧ B i ≤ 10000000000000000) (hr9 : r ≤ 100) (hL9 : 1 ≤ L ∧ L ≤ 100) (hc9 : c ≤ 1000) (hk9 : k ≤ 1000) (hjk : k - 1 ≤ j) (hjn : j < n) (hj1 : j ≤ k + 1) (hj2 : k ≤ j + 1) :
    ∃ v H', RR (m + 1) (.round (Pb + 3) [I (j : Int)]) G = some (v, H') ∧ v = .bool true ∧ MoJ W N Pb cv tv fa cost A B r L c k n T0 (j + 1) H' ∧ N ≤ H'.lo ∧ H'.lo ≤ Pb + 3 ∧ G.next ≤ H'.next := by
  show ∃ v H', evRound Try.prog (RR m) (Pb + 3) [I (j : Int)] G = some (v, H') ∧ v = .bool true ∧ MoJ W N Pb cv tv fa cost A B r L c k n T0 (j + 1) H' ∧ N ≤ H'.lo ∧ H'.lo ≤ Pb + 3 ∧ G.next ≤ H'.next
  subst hN
  obtain ⟨fr, hT⟩ := hH
  subst hT
  obtain ⟨N, hN⟩ : ∃ N, N = W.next := ⟨_, rfl⟩
  rw [← hN] at hJ hlo hNP ⊢
  have hg : Grow W G := ⟨hJ.ext.next, hJ.ext.get, by omega⟩
  have hn9 := hJ.nx
  have hAj := hAb j
  have hBj := hBb j
  have hnx : Nxt n k j := ⟨hjn, hj1, hj2⟩
  have b0w := hJ.b0
  have b1w := hJ.b1
  have b2w := hJ.b2
  have b3w := hJ.b3
  have b4w := hJ.b4
  obtain ⟨lv, l, b5w, hm, hlim, hll⟩ := hJ.b5
  have p0w := hJ.p0
  have p1w := hJ.p1
  have p2w := hJ.p2
  have p3w := hJ.p3
  obtain ⟨ml, hlv, _⟩ := hm.len
  have on1 := hm.one
  refine round_okX p3w rfl ?_; refine kR ?_; refine oA rfl rfl ?_; refine oN ?_
  refine ⟨rfl, _, _, _, _, _, _, p3w, ?_⟩
  obtain ⟨G9, hG9⟩ : ∃ G9, G9 = G.put (Pb + 3) (.loop .busy none (mkT 7 0 1 (upd fr [(4, .ptr N 0), (5, .ptr (N + 1) 0), (6, .ptr (N + 2) 0), (7, .ptr (N + 3) 0), (9, .ptr (N + 4) 0), (10, .ptr (N + 5) 0)])) [37] as100 bd100 (Pb + 2)) := ⟨_, rfl⟩
  dsimp only
  rw [← hG9]
  have hg9 : Grow W G9 := by rw [hG9]; exact hg.put _ (by omega)
  have hm9 : Mine (N + 6) G9 lv 3 1 (l.map I) := by rw [hG9]; exact hm.putO _ p3w (by intro a b c; simp)
  have n99 : G9.next = G.next := by rw [hG9]; rfl
  have b0v : G9.get (N) = some (.cells [cv, I (L : Int), I fa, .fn 66 [] []] 119) := by rw [hG9]; rw [gpo _ _ _ _ (by omega)]; exact b0w
  have b1v : G9.get (N + 1) = some (.cells [tv] 60) := by rw [hG9]; rw [gpo _ _ _ _ (by omega)]; exact b1w
  have b2v : G9.get (N + 2) = some (.cells [I (r : Int)] 3) := by rw [hG9]; rw [gpo _ _ _ _ (by omega)]; exact b2w
  have b3v : G9.get (N + 3) = some (.cells [I ((c + 1 : Nat) : Int), I (k : Int)] 145) := by rw [hG9]; rw [gpo _ _ _ _ (by omega)]; exact b3w
  have b4v : G9.get (N + 4) = some (.cells [I cost] 3) := by rw [hG9]; rw [gpo _ _ _ _ (by omega)]; exact b4w
  have p0v : G9.get (Pb) = some (.cells [I (k : Int)] 3) := by rw [hG9]; rw [gpo _ _ _ _ (by omega)]; exact p0w
  have p1v : G9.get (Pb + 1) = some (.cells [I (n : Int)] 3) := by rw [hG9]; rw [gpo _ _ _ _ (by omega)]; exact p1w
  have p2v : G9.get (Pb + 2) = some .defd := by rw [hG9]; rw [gpo _ _ _ _ (by omega)]; exact p2w
  have p3v : G9.get (Pb + 3) = some (.loop .busy none (mkT 7 0 1 (upd fr [(4, .ptr N 0), (5, .ptr (N + 1) 0), (6, .ptr (N + 2) 0), (7, .ptr (N + 3) 0), (9, .ptr (N + 4) 0), (10, .ptr (N + 5) 0)])) [37] as100 bd100 (Pb + 2)) := by rw [hG9]; exact gp0 _ _ _
  have b5v : G9.get (N + 5) = some (.cells [lv] 25) := by rw [hG9, gpo _ _ _ _ (by omega)]; exact b5w
  have eb5v : (G9.get (N + 5)).bind AObj.cs = some [lv] := by rw [b5v]; rfl
  have eb0v : (G9.get (N)).bind AObj.cs = some [cv, I (L : Int), I fa, .fn 66 [] []] := by rw [b0v]; rfl
  have eb1v : (G9.get (N + 1)).bind AObj.cs = some [tv] := by rw [b1v]; rfl
  have eb2v : (G9.get (N + 2)).bind AObj.cs = some [I (r : Int)] := by rw [b2v]; rfl
  have eb3v : (G9.get (N + 3)).bind AObj.cs = some [I ((c + 1 : Nat) : Int), I (k : Int)] := by rw [b3v]; rfl
  have eb4v : (G9.get (N + 4)).bind AObj.cs = some [I cost] := by rw [b4v]; rfl
  refine Ok.block ?_; refine kS ?_; refine kS ?_; refine kR ?_; refine oL rfl rfl (qla0 1) ?_; refine OkO.bin rfl rfl rfl (bin_gtr _ _) ?_; refine oN ?_
  refine Ok.cond rfl (fun h1 => ?_) (fun h1 => ?_)
  · have hr0 : 0 < r := by simpa using h1
    obtain ⟨tl, htb, htl⟩ := hA hr0
    obtain ⟨rows, rv, cs, cvv, t1, t2, t3, t4, t5⟩ := htb
    obtain ⟨ab, ao, acs, a1, a2, a3, a4⟩ := t1.at_ (r - 1) [rv] (by rw [List.getElem?_map, t2]; rfl)
    have a5 := seg_one a3
    obtain ⟨ib, io, ics, i1, i2, i3, i4⟩ := t3.at_ c [cvv] (by rw [List.getElem?_map, t4]; rfl)
    have i5 := seg_one i3
    obtain ⟨kb, ko, kcs, k1, k2, k3, k4⟩ := t5.at_ j [I (A j)] (by rw [List.getElem?_map, htl j hjn]; rfl)
    have k5 := seg_one k3
    have a6 : (G9.get ab).bind AObj.cs = some acs := by rw [hg9.get _ a4]; exact a2
    have i6 : (G9.get ib).bind AObj.cs = some ics := by rw [hg9.get _ i4]; exact i2
    have k6 : (G9.get kb).bind AObj.cs = some kcs := by rw [hg9.get _ k4]; exact k2
    have tl1 := t1.len
    have tl3 := t3.len
    have tl5 := t5.len
    clear t1 t3 t5
    refine Ok.drawn [(0, true, []), (1, true, []), (2, true, []), (3, true, []), (4, true, []), (5, true, []), (6, true, []), (7, true, []), (8, true, []), (9, true, []), (10, true, []), (11, true, []), (12, true, []), (13, true, []), (14, true, []), (15, true, []), (16, true, [14, 11, 8, 6, 3, 2, 1, 0]), (17, false, [14, 11, 8, 6, 3, 2, 1]), (18, false, [])] (by kernel_rfl) ?_; refine pS ?_; refine oL rfl rfl (qla0 1) ?_; refine oN ⟨rfl, ?_⟩; refine pS ?_; refine oL rfl rfl (qla0 1) ?_; refine oN ⟨rfl, ?_⟩; refine pS ?_; refine oL rfl rfl (qla0 1) ?_; refine oN ⟨rfl, ?_⟩; refine pS ?_; refine oL rfl rfl (qla0 1) ?_; refine oN ⟨rfl, ?_⟩; refine pS ?_; refine OkO.bin rfl rfl rfl (bin_sub (by omega) (by omega)) ?_; refine oN ⟨rfl, ?_⟩; refine pS ?_; refine qX (sz := 1) (n := r - 1) rfl rfl (congrArg (fun z => some (I z)) (by omega)) ?_; refine oN ⟨rfl, ?_⟩; refine pS ?_; refine oL rfl rfl (qla0 1) ?_; refine oN ⟨rfl, ?_⟩; refine pS ?_; refine oF (o := 0) rfl (by kernel_rfl) rfl ?_; refine oN ⟨rfl, ?_⟩; refine pS ?_; refine oL rfl rfl (qla0 1) ?_; refine oN ⟨rfl, ?_⟩; refine pS ?_; refine OkO.bin rfl rfl rfl (bin_sub (by omega) (by omega)) ?_; refine oN ⟨rfl, ?_⟩; refine pS ?_; refine qX (sz := 1) (n := c) rfl rfl (congrArg (fun z => some (I z)) (by omega)) ?_; refine oN ⟨rfl, ?_⟩; refine pS ?_; refine oL rfl rfl (qla0 1) ?_; refine oN ⟨rfl, ?_⟩; refine pS ?_; refine oM rfl rfl ?_; refine oN ⟨rfl, ?_⟩; refine pS ?_; refine qX (sz := 1) (n := j) rfl rfl rfl ?_; refine oN ⟨rfl, ?_⟩; refine pS ?_; refine oL rfl rfl (qla0 1) ?_; refine oN ⟨rfl, ?_⟩; refine pS ?_; refine OkO.bin rfl rfl rfl (bin_add (by omega) (by omega)) ?_; refine oN ⟨rfl, ?_⟩; refine pS ?_; refine OkO.buildSlice (el := 3) (sz := 1) (z := [.int .i64 0]) rfl (by kernel_rfl) (by decide) rfl rfl ?_
    refine oN ⟨(sco (qsa3 1 rfl rfl rfl) (sco (qsa3 1 rfl rfl rfl) (sco (qsa3 1 rfl rfl rfl) (sco (qsa3 1 rfl rfl rfl) (sco (qsa3 1 rfl rfl rfl) (sco (qsa3 1 rfl rfl rfl) (sco (qsa3 1 rfl rfl rfl) (sco (qsa3 1 rfl rfl rfl) rfl)))))))), ?_⟩; refine pS ?_; refine OkO.builtinE rfl rfl rfl (Mine.app2 (W := W) (k0 := N + 6) (t := 25) (u := 25) (sz := 1) (by_ := 8) (e := 3) (n := 1) (new := [I (cost + A j)]) (Mine.to (hm9) (by (try dsimp only); repeat (first | exact Ext.refl _ | apply Ext.new | (refine Ext.put ?_ _ (by first | omega | (simp only [hNw, hPt]; omega)))))) (by (try dsimp only); repeat (first | exact hg9 | exact q2 | exact s2 | apply Grow.new | (refine Grow.put ?_ _ (by first | omega | (simp only [hNw, hPt]; omega))))) (by omega) (by first | omega | (simp only [hNw, hPt]; omega)) (by kernel_rfl) (by kernel_rfl) (elems_new (n := 1) (sz := 1) rfl) rfl rfl (by simp only [List.length_map, List.length_append, List.length_cons, List.length_nil]; omega) (by omega) (by omega) rfl) ?_
    rintro v2 G2 ⟨q1, q2, _, q4, q3, ⟨mv2, hv2⟩⟩
    obtain ⟨bk2, hbk2⟩ : ∃ bk, v2 = .opn bk mv2 := ⟨_, hv2⟩
    subst hbk2
    clear hv2
    simp only [hNw, hPt] at q3
    have b0x : G2.get (N) = some (.cells [cv, I (L : Int), I fa, .fn 66 [] []] 119) := by rw [q4 _ (by first | omega | (simp only [hNw, hPt]; omega)) (hm9.ne b0v (by intro a b c; simp)), gno _ _ _ (by first | omega | (simp only [hNw, hPt]; omega))]; exact b0v
    have b1x : G2.get (N + 1) = some (.cells [tv] 60) := by rw [q4 _ (by first | omega | (simp only [hNw, hPt]; omega)) (hm9.ne b1v (by intro a b c; simp)), gno _ _ _ (by first | omega | (simp only [hNw, hPt]; omega))]; exact b1v
    have b2x : G2.get (N + 2) = some (.cells [I (r : Int)] 3) := by rw [q4 _ (by first | omega | (simp only [hNw, hPt]; omega)) (hm9.ne b2v (by intro a b c; simp)), gno _ _ _ (by first | omega | (simp only [hNw, hPt]; omega))]; exact b2v
    have b3x : G2.get (N + 3) = some (.cells [I ((c + 1 : Nat) : Int), I (k : Int)] 145) := by rw [q4 _ (by first | omega | (simp only [hNw, hPt]; omega)) (hm9.ne b3v (by intro a b c; simp)), gno _ _ _ (by first | omega | (simp only [hNw, hPt]; omega))]; exact b3v
    have b4x : G2.get (N + 4) = some (.cells [I cost] 3) := by rw [q4 _ (by first | omega | (simp only [hNw, hPt]; omega)) (hm9.ne b4v (by intro a b c; simp)), gno _ _ _ (by first | omega | (simp only [hNw, hPt]; omega))]; exact b4v
    have p0x : G2.get (Pb) = some (.cells [I (k : Int)] 3) := by rw [q4 _ (by first | omega | (simp only [hNw, hPt]; omega)) (hm9.ne p0v (by intro a b c; simp)), gno _ _ _ (by first | omega | (simp only [hNw, hPt]; omega))]; exact p0v
    have p1x : G2.get (Pb + 1) = some (.cells [I (n : Int)] 3) := by rw [q4 _ (by first | omega | (simp only [hNw, hPt]; omega)) (hm9.ne p1v (by intro a b c; simp)), gno _ _ _ (by first | omega | (simp only [hNw, hPt]; omega))]; exact p1v
    have p2x : G2.get (Pb + 2) = some .defd := by rw [q4 _ (by first | omega | (simp only [hNw, hPt]; omega)) (hm9.ne p2v (by intro a b c; simp)), gno _ _ _ (by first | omega | (simp only [hNw, hPt]; omega))]; exact p2v
    have p3x : G2.get (Pb + 3) = some (.loop .busy none (mkT 7 0 1 (upd fr [(4, .ptr N 0), (5, .ptr (N + 1) 0), (6, .ptr (N + 2) 0), (7, .ptr (N + 3) 0), (9, .ptr (N + 4) 0), (10, .ptr (N + 5) 0)])) [37] as100 bd100 (Pb + 2)) := by rw [q4 _ (by first | omega | (simp only [hNw, hPt]; omega)) (hm9.ne p3v (by intro a b c; simp)), gno _ _ _ (by first | omega | (simp only [hNw, hPt]; omega))]; exact p3v
    have eb0x : (G2.get (N)).bind AObj.cs = some [cv, I (L : Int), I fa, .fn 66 [] []] := by rw [b0x]; rfl
    have eb1x : (G2.get (N + 1)).bind AObj.cs = some [tv] := by rw [b1x]; rfl
    have eb2x : (G2.get (N + 2)).bind AObj.cs = some [I (r : Int)] := by rw [b2x]; rfl
    have eb3x : (G2.get (N + 3)).bind AObj.cs = some [I ((c + 1 : Nat) : Int), I (k : Int)] := by rw [b3x]; rfl
    have eb4x : (G2.get (N + 4)).bind AObj.cs = some [I cost] := by rw [b4x]; rfl
    have b5x : G2.get (N + 5) = some (.cells [lv] 25) := by rw [q4 _ (by first | omega | (simp only [hNw, hPt]; omega)) (hm9.far (by omega)), gno _ _ _ (by first | omega | (simp only [hNw, hPt]; omega))]; exact b5v
    have eb5x : (G2.get (N + 5)).bind AObj.cs = some [lv] := by rw [b5x]; rfl
    obtain ⟨ml2, hl2, _⟩ := q1.len
    have a7x : (G2.get ab).bind AObj.cs = some acs := by rw [q2.get _ a4]; exact a2
    have i7x : (G2.get ib).bind AObj.cs = some ics := by rw [q2.get _ i4]; exact i2
    have k7x : (G2.get kb).bind AObj.cs = some kcs := by rw [q2.get _ k4]; exact k2
    refine oN ⟨(sco (qsa3 1 rfl rfl rfl) (sco (qsa3 1 rfl rfl rfl) (sco (qsa3 1 rfl rfl rfl) (sco (qsa3 1 rfl rfl rfl) (sco (qsa3 1 rfl rfl rfl) (sco (qsa3 1 rfl rfl rfl) (sco (qsa3 1 rfl rfl rfl) rfl))))))), ?_⟩; refine pS ?_; refine oT rfl rfl rfl (sAc (n := 1) (ag := false) (by kernel_rfl) (by first | assumption | (simp (disch := first | omega | (simp only [hNw, hPt]; omega)) only [gN] <;> first | rfl | assumption | exact gp0 _ _ _ | exact gn0 _ _)) rfl (by first | rfl | assumption) (by first | rfl | exact spl_set _ _ _ (by first | assumption | omega | (simp; omega)))) ?_; refine oN ⟨rfl, ?_⟩; refine OkP.nil ?_; refine kS ?_; refine kR ?_; refine oL rfl rfl (qla0 1) ?_; refine oF (o := 0) rfl (by kernel_rfl) rfl ?_; refine oF (o := 1) rfl (by kernel_rfl) rfl ?_; refine oL rfl rfl (qla0 1) ?_; refine OkO.bin rfl rfl rfl (bin_sub (by omega) (by omega)) ?_; refine OkO.bin rfl rfl rfl (bin_eql _ _) ?_; refine oN ?_
    refine Ok.cond rfl (fun h2 => ?_) (fun h2 => ?_)
    · have hrl : r + 1 = L := by (have h9 : (r : Int) = (L : Int) - 1 := by simpa using h2); omega
      clear a1 a2 a3 a4 a5 a6 i1 i2 i3 i4 i5 i6 k1 k2 k3 k4 k5 k6 a7x i7x k7x
      obtain ⟨tl, htb, htl⟩ := hB hrl
      obtain ⟨rows, rv, cs, cvv, t1, t2, t3, t4, t5⟩ := htb
      obtain ⟨ab, ao, acs, a1, a2, a3, a4⟩ := t1.at_ (r) [rv] (by rw [List.getElem?_map, t2]; rfl)
      have a5 := seg_one a3
      obtain ⟨ib, io, ics, i1, i2, i3, i4⟩ := t3.at_ c [cvv] (by rw [List.getElem?_map, t4]; rfl)
      have i5 := seg_one i3
      obtain ⟨kb, ko, kcs, k1, k2, k3, k4⟩ := t5.at_ j [I (B j)] (by rw [List.getElem?_map, htl j hjn]; rfl)
      have k5 := seg_one k3
      have a6 : (G2.get ab).bind AObj.cs = some acs := by rw [q2.get _ a4]; exact a2
      have i6 : (G2.get ib).bind AObj.cs = some ics := by rw [q2.get _ i4]; exact i2
      have k6 : (G2.get kb).bind AObj.cs = some kcs := by rw [q2.get _ k4]; exact k2
      have tl1 := t1.len
      have tl3 := t3.len
      have tl5 := t5.len
      clear t1 t3 t5
      refine Ok.drawn [(0, true, []), (1, true, []), (2, true, []), (3, true, []), (4, true, []), (5, true, []), (6, true, []), (7, true, []), (8, true, []), (9, true, []), (10, true, []), (11, true, []), (12, true, []), (13, true, []), (14, true, []), (15, true, [13, 10, 7, 5, 3, 2, 1, 0]), (16, false, [13, 10, 7, 5, 3, 2, 1]), (17, false, [])] (by kernel_rfl) ?_; refine pS ?_; refine oL rfl rfl (qla0 1) ?_; refine oN ⟨rfl, ?_⟩; refine pS ?_; refine oL rfl rfl (qla0 1) ?_; refine oN ⟨rfl, ?_⟩; refine pS ?_; refine oL rfl rfl (qla0 1) ?_; refine oN ⟨rfl, ?_⟩; refine pS ?_; refine oL rfl rfl (qla0 1) ?_; refine oN ⟨rfl, ?_⟩; refine pS ?_; refine qX (sz := 1) (n := r) rfl rfl rfl ?_; refine oN ⟨rfl, ?_⟩; refine pS ?_; refine oL rfl rfl (qla0 1) ?_; refine oN ⟨rfl, ?_⟩; refine pS ?_; refine oF (o := 0) rfl (by kernel_rfl) rfl ?_; refine oN ⟨rfl, ?_⟩; refine pS ?_; refine oL rfl rfl (qla0 1) ?_; refine oN ⟨rfl, ?_⟩; refine pS ?_; refine OkO.bin rfl rfl rfl (bin_sub (by omega) (by omega)) ?_; refine oN ⟨rfl, ?_⟩; refine pS ?_; refine qX (sz := 1) (n := c) rfl rfl (congrArg (fun z => some (I z)) (by omega)) ?_; refine oN ⟨rfl, ?_⟩; refine pS ?_; refine oL rfl rfl (qla0 1) ?_; refine oN ⟨rfl, ?_⟩; refine pS ?_; refine oM rfl rfl ?_; refine oN ⟨rfl, ?_⟩; refine pS ?_; refine qX (sz := 1) (n := j) rfl rfl rfl ?_; refine oN ⟨rfl, ?_⟩; refine pS ?_; refine oL rfl rfl (qla0 1) ?_; refine oN ⟨rfl, ?_⟩; refine pS ?_; refine OkO.bin rfl rfl rfl (bin_add (by omega) (by omega)) ?_; refine oN ⟨rfl, ?_⟩; refine pS ?_; refine OkO.buildSlice (el := 3) (sz := 1) (z := [.int .i64 0]) rfl (by kernel_rfl) (by decide) rfl rfl ?_
      refine oN ⟨(sco (qsa3 1 rfl rfl rfl) (sco (qsa3 1 rfl rfl rfl) (sco (qsa3 1 rfl rfl rfl) (sco (qsa3 1 rfl rfl rfl) (sco (qsa3 1 rfl rfl rfl) (sco (qsa3 1 rfl rfl rfl) (sco (qsa3 1 rfl rfl rfl) (sco (qsa3 1 rfl rfl rfl) rfl)))))))), ?_⟩; refine pS ?_; refine OkO.builtinE rfl rfl rfl (Mine.app2 (W := W) (k0 := N + 6) (t := 25) (u := 25) (sz := 1) (by_ := 8) (e := 3) (n := 1) (new := [I (cost + B j)]) (Mine.to ((Mine.put (n := N + 5) q1 (.cells [.opn bk2 mv2] 25) (by omega))) (by (try dsimp only); repeat (first | exact Ext.refl _ | apply Ext.new | (refine Ext.put ?_ _ (by first | omega | (simp only [hNw, hPt]; omega)))))) (by (try dsimp only); repeat (first | exact hg9 | exact q2 | exact s2 | apply Grow.new | (refine Grow.put ?_ _ (by first | omega | (simp only [hNw, hPt]; omega))))) (by omega) (by first | omega | (simp only [hNw, hPt]; omega)) (by kernel_rfl) (by kernel_rfl) (elems_new (n := 1) (sz := 1) rfl) rfl rfl (by simp only [List.length_map, List.length_append, List.length_cons, List.length_nil]; omega) (by omega) (by omega) rfl) ?_
      rintro v3 G3 ⟨s1, s2, _, s4, s3, ⟨mv3, hv3⟩⟩
      obtain ⟨bk3, hbk3⟩ : ∃ bk, v3 = .opn bk mv3 := ⟨_, hv3⟩
      subst hbk3
      clear hv3
      simp only [hNw, hPt] at s3
      have b0y : G3.get (N) = some (.cells [cv, I (L : Int), I fa, .fn 66 [] []] 119) := by rw [s4 _ (by first | omega | (simp only [hNw, hPt]; omega)) (Mine.ne (Mine.put (n := N + 5) q1 (.cells [.opn bk2 mv2] 25) (by omega)) (show _ = some (.cells [cv, I (L : Int), I fa, .fn 66 [] []] 119) from by rw [gpo _ _ _ _ (by omega)]; exact b0x) (by intro a b c; simp))]; simp (disch := first | omega | (simp only [hNw, hPt]; omega)) only [gN]; exact b0x
      have b1y : G3.get (N + 1) = some (.cells [tv] 60) := by rw [s4 _ (by first | omega | (simp only [hNw, hPt]; omega)) (Mine.ne (Mine.put (n := N + 5) q1 (.cells [.opn bk2 mv2] 25) (by omega)) (show _ = some (.cells [tv] 60) from by rw [gpo _ _ _ _ (by omega)]; exact b1x) (by intro a b c; simp))]; simp (disch := first | omega | (simp only [hNw, hPt]; omega)) only [gN]; exact b1x
      have b2y : G3.get (N + 2) = some (.cells [I (r : Int)] 3) := by rw [s4 _ (by first | omega | (simp only [hNw, hPt]; omega)) (Mine.ne (Mine.put (n := N + 5) q1 (.cells [.opn bk2 mv2] 25) (by omega)) (show _ = some (.cells [I (r : Int)] 3) from by rw [gpo _ _ _ _ (by omega)]; exact b2x) (by intro a b c; simp))]; simp (disch := first | omega | (simp only [hNw, hPt]; omega)) only [gN]; exact b2x
      have b3y : G3.get (N + 3) = some (.cells [I ((c + 1 : Nat) : Int), I (k : Int)] 145) := by rw [s4 _ (by first | omega | (simp only [hNw, hPt]; omega)) (Mine.ne (Mine.put (n := N + 5) q1 (.cells [.opn bk2 mv2] 25) (by omega)) (show _ = some (.cells [I ((c + 1 : Nat) : Int), I (k : Int)] 145) from by rw [gpo _ _ _ _ (by omega)]; exact b3x) (by intro a b c; simp))]; simp (disch := first | omega | (simp only [hNw, hPt]; omega)) only [gN]; exact b3x
      have b4y : G3.get (N + 4) = some (.cells [I cost] 3) := by rw [s4 _ (by first | omega | (simp only [hNw, hPt]; omega)) (Mine.ne (Mine.put (n := N + 5) q1 (.cells [.opn bk2 mv2] 25) (by omega)) (show _ = some (.cells [I cost] 3) from by rw [gpo _ _ _ _ (by omega)]; exact b4x) (by intro a b c; simp))]; simp (disch := first | omega | (simp only [hNw, hPt]; omega)) only [gN]; exact b4x
      have p0y : G3.get (Pb) = some (.cells [I (k : Int)] 3) := by rw [s4 _ (by first | omega | (simp only [hNw, hPt]; omega)) (Mine.ne (Mine.put (n := N + 5) q1 (.cells [.opn bk2 mv2] 25) (by omega)) (show _ = some (.cells [I (k : Int)] 3) from by rw [gpo _ _ _ _ (by omega)]; exact p0x) (by intro a b c; simp))]; simp (disch := first | omega | (simp only [hNw, hPt]; omega)) only [gN]; exact p0x
      have p1y : G3.get (Pb + 1) = some (.cells [I (n : Int)] 3) := by rw [s4 _ (by first | omega | (simp only [hNw, hPt]; omega)) (Mine.ne (Mine.put (n := N + 5) q1 (.cells [.opn bk2 mv2] 25) (by omega)) (show _ = some (.cells [I (n : Int)] 3) from by rw [gpo _ _ _ _ (by omega)]; exact p1x) (by intro a b c; simp))]; simp (disch := first | omega | (simp only [hNw, hPt]; omega)) only [gN]; exact p1x
      have p2y : G3.get (Pb + 2) = some .defd := by rw [s4 _ (by first | omega | (simp only [hNw, hPt]; omega)) (Mine.ne (Mine.put (n := N + 5) q1 (.cells [.opn bk2 mv2] 25) (by omega)) (show _ = some .defd from by rw [gpo _ _ _ _ (by omega)]; exact p2x) (by intro a b c; simp))]; simp (disch := first | omega | (simp only [hNw, hPt]; omega)) only [gN]; exact p2x
      have p3y : G3.get (Pb + 3) = some (.loop .busy none (mkT 7 0 1 (upd fr [(4, .ptr N 0), (5, .ptr (N + 1) 0), (6, .ptr (N + 2) 0), (7, .ptr (N + 3) 0), (9, .ptr (N + 4) 0), (10, .ptr (N + 5) 0)])) [37] as100 bd100 (Pb + 2)) := by rw [s4 _ (by first | omega | (simp only [hNw, hPt]; omega)) (Mine.ne (Mine.put (n := N + 5) q1 (.cells [.opn bk2 mv2] 25) (by omega)) (show _ = some (.loop .busy none (mkT 7 0 1 (upd fr [(4, .ptr N 0), (5, .ptr (N + 1) 0), (6, .ptr (N + 2) 0), (7, .ptr (N + 3) 0), (9, .ptr (N + 4) 0), (10, .ptr (N + 5) 0)])) [37] as100 bd100 (Pb + 2)) from by rw [gpo _ _ _ _ (by omega)]; exact p3x) (by intro a b c; simp))]; simp (disch := first | omega | (simp only [hNw, hPt]; omega)) only [gN]; exact p3x
      have eb0y : (G3.get (N)).bind AObj.cs = some [cv, I (L : Int), I fa, .fn 66 [] []] := by rw [b0y]; rfl
      have eb1y : (G3.get (N + 1)).bind AObj.cs = some [tv] := by rw [b1y]; rfl
      have eb2y : (G3.get (N + 2)).bind AObj.cs = some [I (r : Int)] := by rw [b2y]; rfl
      have eb3y : (G3.get (N + 3)).bind AObj.cs = some [I ((c + 1 : Nat) : Int), I (k : Int)] := by rw [b3y]; rfl
      have eb4y : (G3.get (N + 4)).bind AObj.cs = some [I cost] := by rw [b4y]; rfl
      have b5y : G3.get (N + 5) = some (.cells [.opn bk2 mv2] 25) := by rw [s4 _ (by first | omega | (simp only [hNw, hPt]; omega)) (Mine.far (Mine.put (n := N + 5) q1 (.cells [.opn bk2 mv2] 25) (by omega)) (by omega)), gno _ _ _ (by first | omega | (simp only [hNw, hPt]; omega))]; exact gp0 _ _ _
      have eb5y : (G3.get (N + 5)).bind AObj.cs = some [.opn bk2 mv2] := by rw [b5y]; rfl
      obtain ⟨ml3, hl3, _⟩ := s1.len
      have a7y : (G3.get ab).bind AObj.cs = some acs := by rw [s2.get _ a4]; exact a2
      have i7y : (G3.get ib).bind AObj.cs = some ics := by rw [s2.get _ i4]; exact i2
      have k7y : (G3.get kb).bind AObj.cs = some kcs := by rw [s2.get _ k4]; exact k2
      refine oN ⟨(sco (qsa3 1 rfl rfl rfl) (sco (qsa3 1 rfl rfl rfl) (sco (qsa3 1 rfl rfl rfl) (sco (qsa3 1 rfl rfl rfl) (sco (qsa3 1 rfl rfl rfl) (sco (qsa3 1 rfl rfl rfl) (sco (qsa3 1 rfl rfl rfl) rfl))))))), ?_⟩; refine pS ?_; refine oT rfl rfl rfl (sAc (n := 1) (ag := false) (by kernel_rfl) (by first | assumption | (simp (disch := first | omega | (simp only [hNw, hPt]; omega)) only [gN] <;> first | rfl | assumption | exact gp0 _ _ _ | exact gn0 _ _)) rfl (by first | rfl | assumption) (by first | rfl | exact spl_set _ _ _ (by first | assumption | omega | (simp; omega)))) ?_; refine oN ⟨rfl, ?_⟩; refine OkP.nil ?_
      refine ⟨_, _, _, _, _, _, _, (by first | assumption | (simp (disch := first | omega | (simp only [hNw, hPt]; omega)) only [gN] <;> first | rfl | assumption | exact gp0 _ _ _ | exact gn0 _ _)), .inl ⟨rfl, rfl, ⟨(Grow.ext (W := W) (by (try dsimp only); repeat (first | exact hg9 | exact q2 | exact s2 | apply Grow.new | (refine Grow.put ?_ _ (by first | omega | (simp only [hNw, hPt]; omega)))))), (by first | omega | (simp only [hNw, hPt]; omega)), (by first | assumption | (simp (disch := first | omega | (simp only [hNw, hPt]; omega)) only [gN] <;> first | rfl | assumption | exact gp0 _ _ _ | exact gn0 _ _)), (by first | assumption | (simp (disch := first | omega | (simp only [hNw, hPt]; omega)) only [gN] <;> first | rfl | assumption | exact gp0 _ _ _ | exact gn0 _ _)), (by first | assumption | (simp (disch := first | omega | (simp only [hNw, hPt]; omega)) only [gN] <;> first | rfl | assumption | exact gp0 _ _ _ | exact gn0 _ _)), (by first | assumption | (simp (disch := first | omega | (simp only [hNw, hPt]; omega)) only [gN] <;> first | rfl | assumption | exact gp0 _ _ _ | exact gn0 _ _)), (by first | assumption | (simp (disch := first | omega | (simp only [hNw, hPt]; omega)) only [gN] <;> first | rfl | assumption | exact gp0 _ _ _ | exact gn0 _ _)), ⟨_, l ++ [cost + A j] ++ [cost + B j], (by first | assumption | (simp (disch := first | omega | (simp only [hNw, hPt]; omega)) only [gN] <;> first | rfl | assumption | exact gp0 _ _ _ | exact gn0 _ _)), by simpa using (Mine.putO (Mine.put s1 _ (by omega)) _ (by first | exact p3y | (rw [gpo _ _ _ _ (by omega)]; exact p3y)) (by intro a b c; simp)), hlim.step hnx (.inl ⟨hr0, rfl⟩) (.inl ⟨hrl, rfl⟩), by simp; omega⟩, (by first | assumption | (simp (disch := first | omega | (simp only [hNw, hPt]; omega)) only [gN] <;> first | rfl | assumption | exact gp0 _ _ _ | exact gn0 _ _)), (by first | assumption | (simp (disch := first | omega | (simp only [hNw, hPt]; omega)) only [gN] <;> first | rfl | assumption | exact gp0 _ _ _ | exact gn0 _ _)), (by first | assumption | (simp (disch := first | omega | (simp only [hNw, hPt]; omega)) only [gN] <;> first | rfl | assumption | exact gp0 _ _ _ | exact gn0 _ _)), (by first | assumption | (simp (disch := first | omega | (simp only [hNw, hPt]; omega)) only [gN] <;> first | rfl | assumption | exact gp0 _ _ _ | exact gn0 _ _))⟩, (Nat.le_trans (Nat.le_of_eq hN) (Grow.lo (W := W) (by (try dsimp only); repeat (first | exact hg9 | exact q2 | exact s2 | apply Grow.new | (refine Grow.put ?_ _ (by first | omega | (simp only [hNw, hPt]; omega))))))), (by simp only [Heap.lo_put, Heap.lo_new]; omega), (by first | omega | (simp only [hNw, hPt]; omega))⟩⟩
    · have hrl : ¬ r + 1 = L := by (have h9 : ¬ (r : Int) = (L : Int) - 1 := by simpa using h2); omega
      refine Ok.skip ?_
      refine ⟨_, _, _, _, _, _, _, (by first | assumption | (simp (disch := first | omega | (simp only [hNw, hPt]; omega)) only [gN] <;> first | rfl | assumption | exact gp0 _ _ _ | exact gn0 _ _)), .inl ⟨rfl, rfl, ⟨(Grow.ext (W := W) (by (try dsimp only); repeat (first | exact hg9 | exact q2 | exact s2 | apply Grow.new | (refine Grow.put ?_ _ (by first | omega | (simp only [hNw, hPt]; omega)))))), (by first | omega | (simp only [hNw, hPt]; omega)), (by first | assumption | (simp (disch := first | omega | (simp only [hNw, hPt]; omega)) only [gN] <;> first | rfl | assumption | exact gp0 _ _ _ | exact gn0 _ _)), (by first | assumption | (simp (disch := first | omega | (simp only [hNw, hPt]; omega)) only [gN] <;> first | rfl | assumption | exact gp0 _ _ _ | exact gn0 _ _)), (by first | assumption | (simp (disch := first | omega | (simp only [hNw, hPt]; omega)) only [gN] <;> first | rfl | assumption | exact gp0 _ _ _ | exact gn0 _ _)), (by first | assumption | (simp (disch := first | omega | (simp only [hNw, hPt]; omega)) only [gN] <;> first | rfl | assumption | exact gp0 _ _ _ | exact gn0 _ _)), (by first | assumption | (simp (disch := first | omega | (simp only [hNw, hPt]; omega)) only [gN] <;> first | rfl | assumption | exact gp0 _ _ _ | exact gn0 _ _)), ⟨_, l ++ [cost + A j] ++ [], (by first | assumption | (simp (disch := first | omega | (simp only [hNw, hPt]; omega)) only [gN] <;> first | rfl | assumption | exact gp0 _ _ _ | exact gn0 _ _)), by simpa using (Mine.putO (Mine.put q1 _ (by omega)) _ (by first | exact p3x | (rw [gpo _ _ _ _ (by omega)]; exact p3x)) (by intro a b c; simp)), hlim.step hnx (.inl ⟨hr0, rfl⟩) (.inr ⟨hrl, rfl⟩), by simp; omega⟩, (by first | assumption | (simp (disch := first | omega | (simp only [hNw, hPt]; omega)) only [gN] <;> first | rfl | assumption | exact gp0 _ _ _ | exact gn0 _ _)), (by first | assumption | (simp (disch := first | omega | (simp only [hNw, hPt]; omega)) only [gN] <;> first | rfl | assumption | exact gp0 _ _ _ | exact gn0 _ _)), (by first | assumption | (simp (disch := first | omega | (simp only [hNw, hPt]; omega)) only [gN] <;> first | rfl | assumption | exact gp0 _ _ _ | exact gn0 _ _)), (by first | assumption | (simp (disch := first | omega | (simp only [hNw, hPt]; omega)) only [gN] <;> first | rfl | assumption | exact gp0 _ _ _ | exact gn0 _ _))⟩, (Nat.le_trans (Nat.le_of_eq hN) (Grow.lo (W := W) (by (try dsimp only); repeat (first | exact hg9 | exact q2 | exact s2 | apply Grow.new | (refine Grow.put ?_ _ (by first | omega | (simp only [hNw, hPt]; omega))))))), (by simp only [Heap.lo_put, Heap.lo_new]; omega), (by first | omega | (simp only [hNw, hPt]; omega))⟩⟩
  · have hr0 : ¬ 0 < r := by simpa using h1
    refine Ok.skip ?_; refine kS ?_; refine kR ?_; refine oL rfl rfl (qla0 1) ?_; refine oF (o := 0) rfl (by kernel_rfl) rfl ?_; refine oF (o := 1) rfl (by kernel_rfl) rfl ?_; refine oL rfl rfl (qla0 1) ?_; refine OkO.bin rfl rfl rfl (bin_sub (by omega) (by omega)) ?_; refine OkO.bin rfl rfl rfl (bin_eql _ _) ?_; refine oN ?_
    refine Ok.cond rfl (fun h3 => ?_) (fun h3 => ?_)
    · have hrl : r + 1 = L := by (have h9 : (r : Int) = (L : Int) - 1 := by simpa using h3); omega
      obtain ⟨tl, htb, htl⟩ := hB hrl
      obtain ⟨rows, rv, cs, cvv, t1, t2, t3, t4, t5⟩ := htb
      obtain ⟨ab, ao, acs, a1, a2, a3, a4⟩ := t1.at_ (r) [rv] (by rw [List.getElem?_map, t2]; rfl)
      have a5 := seg_one a3
      obtain ⟨ib, io, ics, i1, i2, i3, i4⟩ := t3.at_ c [cvv] (by rw [List.getElem?_map, t4]; rfl)
      have i5 := seg_one i3
      obtain ⟨kb, ko, kcs, k1, k2, k3, k4⟩ := t5.at_ j [I (B j)] (by rw [List.getElem?_map, htl j hjn]; rfl)
      have k5 := seg_one k3
      have a6 : (G9.get ab).bind AObj.cs = some acs := by rw [hg9.get _ a4]; exact a2
      have i6 : (G9.get ib).bind AObj.cs = some ics := by rw [hg9.get _ i4]; exact i2
      have k6 : (G9.get kb).bind AObj.cs = some kcs := by rw [hg9.get _ k4]; exact k2
      have tl1 := t1.len
      have tl3 := t3.len
      have tl5 := t5.len
      clear t1 t3 t5
      refine Ok.drawn [(0, true, []), (1, true, []), (2, true, []), (3, true, []), (4, true, []), (5, true, []), (6, true, []), (7, true, []), (8, true, []), (9, true, []), (10, true, []), (11, true, []), (12, true, []), (13, true, []), (14, true, []), (15, true, [13, 10, 7, 5, 3, 2, 1, 0]), (16, false, [13, 10, 7, 5, 3, 2, 1]), (17, false, [])] (by kernel_rfl) ?_; refine pS ?_; refine oL rfl rfl (qla0 1) ?_; refine oN ⟨rfl, ?_⟩; refine pS ?_; refine oL rfl rfl (qla0 1) ?_; refine oN ⟨rfl, ?_⟩; refine pS ?_; refine oL rfl rfl (qla0 1) ?_; refine oN ⟨rfl, ?_⟩; refine pS ?_; refine oL rfl rfl (qla0 1) ?_; refine oN ⟨rfl, ?_⟩; refine pS ?_; refine qX (sz := 1) (n := r) rfl rfl rfl ?_; refine oN ⟨rfl, ?_⟩; refine pS ?_; refine oL rfl rfl (qla0 1) ?_; refine oN ⟨rfl, ?_⟩; refine pS ?_; refine oF (o := 0) rfl (by kernel_rfl) rfl ?_; refine oN ⟨rfl, ?_⟩; refine pS ?_; refine oL rfl rfl (qla0 1) ?_; refine oN ⟨rfl, ?_⟩; refine pS ?_; refine OkO.bin rfl rfl rfl (bin_sub (by omega) (by omega)) ?_; refine oN ⟨rfl, ?_⟩; refine pS ?_; refine qX (sz := 1) (n := c) rfl rfl (congrArg (fun z => some (I z)) (by omega)) ?_; refine oN ⟨rfl, ?_⟩; refine pS ?_; refine oL rfl rfl (qla0 1) ?_; refine oN ⟨rfl, ?_⟩; refine pS ?_; refine oM rfl rfl ?_; refine oN ⟨rfl, ?_⟩; refine pS ?_; refine qX (sz := 1) (n := j) rfl rfl rfl ?_; refine oN ⟨rfl, ?_⟩; refine pS ?_; refine oL rfl rfl (qla0 1) ?_; refine oN ⟨rfl, ?_⟩; refine pS ?_; refine OkO.bin rfl rfl rfl (bin_add (by omega) (by omega)) ?_; refine oN ⟨rfl, ?_⟩; refine pS ?_; refine OkO.buildSlice (el := 3) (sz := 1) (z := [.int .i64 0]) rfl (by kernel_rfl) (by decide) rfl rfl ?_
      refine oN ⟨(sco (qsa3 1 rfl rfl rfl) (sco (qsa3 1 rfl rfl rfl) (sco (qsa3 1 rfl rfl rfl) (sco (qsa3 1 rfl rfl rfl) (sco (qsa3 1 rfl rfl rfl) (sco (qsa3 1 rfl rfl rfl) (sco (qsa3 1 rfl rfl rfl) (sco (qsa3 1 rfl rfl rfl) rfl)))))))), ?_⟩; refine pS ?_; refine OkO.builtinE rfl rfl rfl (Mine.app2 (W := W) (k0 := N + 6) (t := 25) (u := 25) (sz := 1) (by_ := 8) (e := 3) (n := 1) (new := [I (cost + B j)]) (Mine.to (hm9) (by (try dsimp only); repeat (first | exact Ext.refl _ | apply Ext.new | (refine Ext.put ?_ _ (by first | omega | (simp only [hNw, hPt]; omega)))))) (by (try dsimp only); repeat (first | exact hg9 | exact q2 | exact s2 | apply Grow.new | (refine Grow.put ?_ _ (by first | omega | (simp only [hNw, hPt]; omega))))) (by omega) (by first | omega | (simp only [hNw, hPt]; omega)) (by kernel_rfl) (by kernel_rfl) (elems_new (n := 1) (sz := 1) rfl) rfl rfl (by simp only [List.length_map, List.length_append, List.length_cons, List.length_nil]; omega) (by omega) (by omega) rfl) ?_
      rintro v3 G3 ⟨s1, s2, _, s4, s3, ⟨mv3, hv3⟩⟩
      obtain ⟨bk3, hbk3⟩ : ∃ bk, v3 = .opn bk mv3 := ⟨_, hv3⟩
      subst hbk3
      clear hv3
      simp only [hNw, hPt] at s3
      have b0y : G3.get (N) = some (.cells [cv, I (L : Int), I fa, .fn 66 [] []] 119) := by rw [s4 _ (by first | omega | (simp only [hNw, hPt]; omega)) (hm9.ne b0v (by intro a b c; simp))]; simp (disch := first | omega | (simp only [hNw, hPt]; omega)) only [gN]; exact b0v
      have b1y : G3.get (N + 1) = some (.cells [tv] 60) := by rw [s4 _ (by first | omega | (simp only [hNw, hPt]; omega)) (hm9.ne b1v (by intro a b c; simp))]; simp (disch := first | omega | (simp only [hNw, hPt]; omega)) only [gN]; exact b1v
      have b2y : G3.get (N + 2) = some (.cells [I (r : Int)] 3) := by rw [s4 _ (by first | omega | (simp only [hNw, hPt]; omega)) (hm9.ne b2v (by intro a b c; simp))]; simp (disch := first | omega | (simp only [hNw, hPt]; omega)) only [gN]; exact b2v
      have b3y : G3.get (N + 3) = some (.cells [I ((c + 1 : Nat) : Int), I (k : Int)] 145) := by rw [s4 _ (by first | omega | (simp only [hNw, hPt]; omega)) (hm9.ne b3v (by intro a b c; simp))]; simp (disch := first | omega | (simp only [hNw, hPt]; omega)) only [gN]; exact b3v
      have b4y : G3.get (N + 4) = some (.cells [I cost] 3) := by rw [s4 _ (by first | omega | (simp only [hNw, hPt]; omega)) (hm9.ne b4v (by intro a b c; simp))]; simp (disch := first | omega | (simp only [hNw, hPt]; omega)) only [gN]; exact b4v
      have p0y : G3.get (Pb) = some (.cells [I (k : Int)] 3) := by rw [s4 _ (by first | omega | (simp only [hNw, hPt]; omega)) (hm9.ne p0v (by intro a b c; simp))]; simp (disch := first | omega | (simp only [hNw, hPt]; omega)) only [gN]; exact p0v
      have p1y : G3.get (Pb + 1) = some (.cells [I (n : Int)] 3) := by rw [s4 _ (by first | omega | (simp only [hNw, hPt]; omega)) (hm9.ne p1v (by intro a b c; simp))]; simp (disch := first | omega | (simp only [hNw, hPt]; omega)) only [gN]; exact p1v
      have p2y : G3.get (Pb + 2) = some .defd := by rw [s4 _ (by first | omega | (simp only [hNw, hPt]; omega)) (hm9.ne p2v (by intro a b c; simp))]; simp (disch := first | omega | (simp only [hNw, hPt]; omega)) only [gN]; exact p2v
      have p3y : G3.get (Pb + 3) = some (.loop .busy none (mkT 7 0 1 (upd fr [(4, .ptr N 0), (5, .ptr (N + 1) 0), (6, .ptr (N + 2) 0), (7, .ptr (N + 3) 0), (9, .ptr (N + 4) 0), (10, .ptr (N + 5) 0)])) [37] as100 bd100 (Pb + 2)) := by rw [s4 _ (by first | omega | (simp only [hNw, hPt]; omega)) (hm9.ne p3v (by intro a b c; simp))]; simp (disch := first | omega | (simp only [hNw, hPt]; omega)) only [gN]; exact p3v
      have eb0y : (G3.get (N)).bind AObj.cs = some [cv, I (L : Int), I fa, .fn 66 [] []] := by rw [b0y]; rfl
      have eb1y : (G3.get (N + 1)).bind AObj.cs = some [tv] := by rw [b1y]; rfl
      have eb2y : (G3.get (N + 2)).bind AObj.cs = some [I (r : Int)] := by rw [b2y]; rfl
      have eb3y : (G3.get (N + 3)).bind AObj.cs = some [I ((c + 1 : Nat) : Int), I (k : Int)] := by rw [b3y]; rfl
      have eb4y : (G3.get (N + 4)).bind AObj.cs = some [I cost] := by rw [b4y]; rfl
      have b5y : G3.get (N + 5) = some (.cells [lv] 25) := by rw [s4 _ (by first | omega | (simp only [hNw, hPt]; omega)) (hm9.far (by omega)), gno _ _ _ (by omega)]; exact b5v
      have eb5y : (G3.get (N + 5)).bind AObj.cs = some [lv] := by rw [b5y]; rfl
      obtain ⟨ml3, hl3, _⟩ := s1.len
      have a7y : (G3.get ab).bind AObj.cs = some acs := by rw [s2.get _ a4]; exact a2
      have i7y : (G3.get ib).bind AObj.cs = some ics := by rw [s2.get _ i4]; exact i2
      have k7y : (G3.get kb).bind AObj.cs = some kcs := by rw [s2.get _ k4]; exact k2
      refine oN ⟨(sco (qsa3 1 rfl rfl rfl) (sco (qsa3 1 rfl rfl rfl) (sco (qsa3 1 rfl rfl rfl) (sco (qsa3 1 rfl rfl rfl) (sco (qsa3 1 rfl rfl rfl) (sco (qsa3 1 rfl rfl rfl) (sco (qsa3 1 rfl rfl rfl) rfl))))))), ?_⟩; refine pS ?_; refine oT rfl rfl rfl (sAc (n := 1) (ag := false) (by kernel_rfl) (by first | assumption | (simp (disch := first | omega | (simp only [hNw, hPt]; omega)) only [gN] <;> first | rfl | assumption | exact gp0 _ _ _ | exact gn0 _ _)) rfl (by first | rfl | assumption) (by first | rfl | exact spl_set _ _ _ (by first | assumption | omega | (simp; omega)))) ?_; refine oN ⟨rfl, ?_⟩; refine OkP.nil ?_
      refine ⟨_, _, _, _, _, _, _, (by first | assumption | (simp (disch := first | omega | (simp only [hNw, hPt]; omega)) only [gN] <;> first | rfl | assumption | exact gp0 _ _ _ | exact gn0 _ _)), .inl ⟨rfl, rfl, ⟨(Grow.ext (W := W) (by (try dsimp only); repeat (first | exact hg9 | exact q2 | exact s2 | apply Grow.new | (refine Grow.put ?_ _ (by first | omega | (simp only [hNw, hPt]; omega)))))), (by first | omega | (simp only [hNw, hPt]; omega)), (by first | assumption | (simp (disch := first | omega | (simp only [hNw, hPt]; omega)) only [gN] <;> first | rfl | assumption | exact gp0 _ _ _ | exact gn0 _ _)), (by first | assumption | (simp (disch := first | omega | (simp only [hNw, hPt]; omega)) only [gN] <;> first | rfl | assumption | exact gp0 _ _ _ | exact gn0 _ _)), (by first | assumption | (simp (disch := first | omega | (simp only [hNw, hPt]; omega)) only [gN] <;> first | rfl | assumption | exact gp0 _ _ _ | exact gn0 _ _)), (by first | assumption | (simp (disch := first | omega | (simp only [hNw, hPt]; omega)) only [gN] <;> first | rfl | assumption | exact gp0 _ _ _ | exact gn0 _ _)), (by first | assumption | (simp (disch := first | omega | (simp only [hNw, hPt]; omega)) only [gN] <;> first | rfl | assumption | exact gp0 _ _ _ | exact gn0 _ _)), ⟨_, l ++ [] ++ [cost + B j], (by first | assumption | (simp (disch := first | omega | (simp only [hNw, hPt]; omega)) only [gN] <;> first | rfl | assumption | exact gp0 _ _ _ | exact gn0 _ _)), by simpa using (Mine.putO (Mine.put s1 _ (by omega)) _ (by first | exact p3y | (rw [gpo _ _ _ _ (by omega)]; exact p3y)) (by intro a b c; simp)), hlim.step hnx (.inr ⟨hr0, rfl⟩) (.inl ⟨hrl, rfl⟩), by simp; omega⟩, (by first | assumption | (simp (disch := first | omega | (simp only [hNw, hPt]; omega)) only [gN] <;> first | rfl | assumption | exact gp0 _ _ _ | exact gn0 _ _)), (by first | assumption | (simp (disch := first | omega | (simp only [hNw, hPt]; omega)) only [gN] <;> first | rfl | assumption | exact gp0 _ _ _ | exact gn0 _ _)), (by first | assumption | (simp (disch := first | omega | (simp only [hNw, hPt]; omega)) only [gN] <;> first | rfl | assumption | exact gp0 _ _ _ | exact gn0 _ _)), (by first | assumption | (simp (disch := first | omega | (simp only [hNw, hPt]; omega)) only [gN] <;> first | rfl | assumption | exact gp0 _ _ _ | exact gn0 _ _))⟩, (Nat.le_trans (Nat.le_of_eq hN) (Grow.lo (W := W) (by (try dsimp only); repeat (first | exact hg9 | exact q2 | exact s2 | apply Grow.new | (refine Grow.put ?_ _ (by first | omega | (simp only [hNw, hPt]; omega))))))), (by simp only [Heap.lo_put, Heap.lo_new]; omega), (by first | omega | (simp only [hNw, hPt]; omega))⟩⟩
    · have hrl : ¬ r + 1 = L := by (have h9 : ¬ (r : Int) = (L : Int) - 1 := by simpa using h3); omega
      refine Ok.skip ?_
      refine ⟨_, _, _, _, _, _, _, (by first | assumption | (simp (disch := first | omega | (simp only [hNw, hPt]; omega)) only [gN] <;> first | rfl | assumption | exact gp0 _ _ _ | exact gn0 _ _)), .inl ⟨rfl, rfl, ⟨(Grow.ext (W := W) (by (try dsimp only); repeat (first | exact hg9 | exact q2 | exact s2 | apply Grow.new | (refine Grow.put ?_ _ (by first | omega | (simp only [hNw, hPt]; omega)))))), (by first | omega | (simp only [hNw, hPt]; omega)), (by first | assumption | (simp (disch := first | omega | (simp only [hNw, hPt]; omega)) only [gN] <;> first | rfl | assumption | exact gp0 _ _ _ | exact gn0 _ _)), (by first | assumption | (simp (disch := first | omega | (simp only [hNw, hPt]; omega)) only [gN] <;> first | rfl | assumption | exact gp0 _ _ _ | exact gn0 _ _)), (by first | assumption | (simp (disch := first | omega | (simp only [hNw, hPt]; omega)) only [gN] <;> first | rfl | assumption | exact gp0 _ _ _ | exact gn0 _ _)), (by first | assumption | (simp (disch := first | omega | (simp only [hNw, hPt]; omega)) only [gN] <;> first | rfl | assumption | exact gp0 _ _ _ | exact gn0 _ _)), (by first | assumption | (simp (disch := first | omega | (simp only [hNw, hPt]; omega)) only [gN] <;> first | rfl | assumption | exact gp0 _ _ _ | exact gn0 _ _)), ⟨_, l ++ [] ++ [], (by first | assumption | (simp (disch := first | omega | (simp only [hNw, hPt]; omega)) only [gN] <;> first | rfl | assumption | exact gp0 _ _ _ | exact gn0 _ _)), by simpa using (Mine.putO hm9 _ (by first | exact p3v | (rw [gpo _ _ _ _ (by omega)]; exact p3v)) (by intro a b c; simp)), hlim.step hnx (.inr ⟨hr0, rfl⟩) (.inr ⟨hrl, rfl⟩), by simp; omega⟩, (by first | assumption | (simp (disch := first | omega | (simp only [hNw, hPt]; omega)) only [gN] <;> first | rfl | assumption | exact gp0 _ _ _ | exact gn0 _ _)), (by first | assumption | (simp (disch := first | omega | (simp only [hNw, hPt]; omega)) only [gN] <;> first | rfl | assumption | exact gp0 _ _ _ | exact gn0 _ _)), (by first | assumption | (simp (disch := first | omega | (simp only [hNw, hPt]; omega)) only [gN] <;> first | rfl | assumption | exact gp0 _ _ _ | exact gn0 _ _)), (by first | assumption | (simp (disch := first | omega | (simp only [hNw, hPt]; omega)) only [gN] <;> first | rfl | assumption | exact gp0 _ _ _ | exact gn0 _ _))⟩, (Nat.le_trans (Nat.le_of_eq hN) (Grow.lo (W := W) (by (try dsimp only); repeat (first | exact hg9 | exact q2 | exact s2 | apply Grow.new | (refine Grow.put ?_ _ (by first | omega | (simp only [hNw, hPt]; omega))))))), (by simp only [Heap.lo_put, Heap.lo_new]; omega), (by first | omega | (simp only [hNw, hPt]; omega))⟩⟩
end
end Go.Ev

set_option maxRecDepth 100000
set_option linter.unusedSimpArgs false
set_option linter.unusedVariables false
namespace Go.Ev
open Go Go.Proofs
noncomputable section
/-- What a place of a table is given: the greatest number that is allowed. -/
def MostIs (cost : Int) (A B : Nat → Int) (r L c k n : Nat) (x : Int) : Prop :=
  x ≤ 1000000000000000 ∧ (r = 0 → x ≤ cost) ∧ (0 < c → ∀ i, Nxt n k i → (0 < r → x ≤ cost + A i) ∧ (r + 1 = L → x ≤ cost + B i)) ∧
    (x = 1000000000000000 ∨ (r = 0 ∧ x = cost) ∨ (0 < c ∧ ∃ i, Nxt n k i ∧ ((0 < r ∧ x = cost + A i) ∨ (r + 1 = L ∧ x = cost + B i))))
theorem flatI : ∀ (l : List Int), (l.map fun x => [I x]).flatten = l.map I
  | [] => rfl
  | a :: l => by rw [List.map_cons, List.flatten_cons, flatI l]; rfl
theorem lims_most {cost : Int} {A B : Nat → Int} {r L c k n : Nat} {l : List Int} (hc : 0 < c) (h : Lims cost A B r L k n (min (k + 2) n) l) : MostIs cost A B r L c k n (minL 1000000000000000 l) := by
  obtain ⟨h1, h2, h3⟩ := h
  have hm := minL_le l 1000000000000000
  refine ⟨hm.1, fun hr => hm.2 _ (h1 hr), fun _ i hi => ?_, ?_⟩
  · have hi2 := hi.2
    have hi1 := hi.1
    have := h2 i (by omega) (by omega) hi
    exact ⟨fun hr => hm.2 _ (this.1 hr), fun hr => hm.2 _ (this.2 hr)⟩
  · rcases minL_or l 1000000000000000 with h | h
    · exact .inl h
    · rcases h3 _ h with h | h
      · exact .inr (.inl h)
      · exact .inr (.inr ⟨hc, h⟩)
theorem most_edge {cost : Int} {A B : Nat → Int} {r L k n : Nat} {l : List Int} (h : (r = 0 ∧ l = [cost]) ∨ (r ≠ 0 ∧ l = [])) : MostIs cost A B r L 0 k n (minL 1000000000000000 l) := by
  rcases h with ⟨hr, rfl⟩ | ⟨hr, rfl⟩
  · have hm := minL_le [cost] 1000000000000000
    refine ⟨hm.1, fun _ => hm.2 _ (by simp), fun h => by omega, ?_⟩
    rcases minL_or [cost] 1000000000000000 with h | h
    · exact .inl h
    · simp at h
      exact .inr (.inl ⟨hr, h⟩)
  · exact ⟨Int.le_refl _, fun h => absurd h hr, fun h => by omega, .inl rfl⟩
theorem c100 (m : Nat) (cv tv : AV) (cols : List (List Bed)) (fa : Int) (A B : Nat → Int) (r L c k n : Nat) (H : Heap) (hM : Mat H cv cols) (hcl : ∀ c ∈ cols, c.length = n) (hok : BedsOk cols) (hf : 0 ≤ fa ∧ fa ≤ 10000) (hc : c < cols.length) (hk : k < n) (hN9 : cols.length ≤ 100) (hn9 : n ≤ 100) (hr9 : r ≤ 100) (hL9 : 1 ≤ L ∧ L ≤ 100) (hA : 0 < r → 0 < c → ∃ tl, TabAt H tv (r - 1) (c - 1) tl ∧ ∀ i, i < n → tl[i]? = some (A i)) (hB : r + 1 = L → 0 < c → ∃ tl, TabAt H tv r (c - 1) tl ∧ ∀ i, i < n → tl[i]? = some (B i)) (hAb : ∀ i, -10000000000000000 ≤ A i ∧ A i ≤ 10000000000000000) (hBb : ∀ i, -10000000000000000 ≤ B i ∧ B i ≤ 10000000000000000) (htv : ∃ q, lenOf tv = some q) : ∃ v H', RR (m + 5) (.fn 100 [.agg [cv, I (L : Int), I fa, .fn 66 [] []], tv, I (r : Int), .agg [I (c : Int), I (k : Int)]]) H = some (v, H') ∧ ∃ x, v = I x ∧ H' = H ∧ MostIs (prC cols fa c k) A B r L c k n x := by
  show ∃ v H', evFn Try.prog (RR (m + 4)) 100 [.agg [cv, I (L : Int), I fa, .fn 66 [] []], tv, I (r : Int), .agg [I (c : Int), I (k : Int)]] H = some (v, H') ∧ ∃ x, v = I x ∧ H' = H ∧ MostIs (prC cols fa c k) A B r L c k n x
  refine fn_okE Try.func100 rfl rfl (by kernel_rfl) (by kernel_rfl) ?_
  obtain ⟨W, hW, hg, hN, hE, hG⟩ := wOf H
  rw [← hW]
  obtain ⟨vs, hR, hvl, hv⟩ := id hM
  have hlen : lenOf cv = some cols.length := by rw [← hvl]; simpa using hR.len
  have pc : cv.plain = true := lpl hlen
  obtain ⟨tq, htl⟩ := htv
  have htc := len_cells htl
  obtain ⟨col, hp1, hp2⟩ := bedAt_get hcl hc hk
  obtain ⟨bed, hbed⟩ : ∃ bed, bed = bedAt cols c k := ⟨_, rfl⟩
  rw [← hbed] at hp2
  have hbok : bed.ok = true := by rw [hbed]; exact bedAt_ok hok c k
  have hpr : prC cols fa c k = costOf fa bed := by rw [hbed]; rfl
  have hcb := prC_bd hok hf c k
  rw [hpr] at hcb
  have hcn : col.length = n := hcl col (List.mem_of_getElem? hp1)
  have hcl2 : c < vs.length := by omega
  obtain ⟨cb, co, ccs, j1, j20, j3, j4⟩ := hR.at_ c [vs[c]] (by simp [hcl2])
  have j5 := seg_one j3
  have hlcol : lenOf vs[c] = some n := by rw [← hcn]; simpa using (hv c vs[c] col (by simp [hcl2]) hp1).len
  have j2 : (W.get cb).bind AObj.cs = some ccs := by rw [hg]; exact j20
  rw [hpr]
  refine kS ?_; refine kR ?_; refine OkO.box rfl rfl ?_; refine OkO.box rfl rfl ?_; refine OkO.box rfl rfl ?_; refine OkO.box rfl rfl ?_; refine oA rfl rfl ?_; refine oN ?_; refine kS ?_; refine kR ?_; refine oL rfl rfl (qlg7 4) ?_; refine oL rfl rfl (qlg7 2) ?_; refine oV rfl rfl rfl rfl rfl (c71 m cv cols (L : Int) fa c k col bed _ (hM.ext (hE _ (by (try dsimp only); repeat (first | exact hG | apply Grow.new | (refine Grow.put ?_ _ (by first | omega | (simp only [hNw, hPt]; omega))))))) hp1 hp2 hbok (by omega) (by omega) hf) ?_; refine OkO.alloc (z := [.int .i64 0]) rfl (by kernel_rfl) ?_; refine oT rfl rfl rfl (sAc (n := 1) (ag := false) (by kernel_rfl) (by first | assumption | (simp (disch := first | omega | (simp only [hNw, hPt]; omega)) only [gN] <;> first | rfl | assumption | exact gp0 _ _ _ | exact gn0 _ _)) rfl (by first | rfl | assumption) (by first | rfl | exact spl_set _ _ _ (by first | assumption | omega | (simp; omega)))) ?_; refine oN ?_; refine kS ?_; refine kR ?_; refine OkO.alloc (z := [.nils]) rfl (by kernel_rfl) ?_; refine oN ?_; refine kS ?_; refine kS ?_; refine kR ?_; refine oL rfl rfl (qla0 1) ?_; refine OkO.bin rfl rfl rfl (bin_eql _ _) ?_; refine oN ?_
  refine Ok.cond rfl (fun h1 => ?_) (fun h1 => ?_)
  · have hr0 : r = 0 := by (have h9 : (r : Int) = 0 := by simpa using h1); omega
    refine kR ?_; refine oL rfl rfl (qla0 1) ?_; refine oL rfl rfl (qla0 1) ?_; refine OkO.buildSlice (el := 3) (sz := 1) (z := [.int .i64 0]) rfl (by kernel_rfl) (by decide) rfl rfl ?_; refine OkO.builtinE rfl rfl rfl (Mine.app2 (W := W) (k0 := W.next + 6) (t := 25) (u := 25) (sz := 1) (by_ := 8) (e := 3) (n := 1) (new := [I (costOf fa bed)]) (Mine.nil _ _ _ _) (by (try dsimp only); repeat (first | exact g3 | exact g2 | exact hG | apply Grow.new | (refine Grow.put ?_ _ (by first | omega | (simp only [hNw, hPt]; omega))))) (by omega) (by first | omega | (simp only [hNw, hPt]; omega)) (by kernel_rfl) (by kernel_rfl) (elems_new (n := 1) (sz := 1) rfl) rfl rfl (by simp) (by omega) (by omega) rfl) ?_
    rintro v2 G2 ⟨q1, g2, _, q4, q3, ⟨mv2, hv2⟩⟩
    obtain ⟨bk2, hbk2⟩ : ∃ bk, v2 = .opn bk mv2 := ⟨_, hv2⟩
    subst hbk2
    clear hv2
    simp only [hNw, hPt] at q3
    have b0x : G2.get (W.next) = some (.cells [cv, I (L : Int), I fa, .fn 66 [] []] 119) := by rw [q4 _ (by first | omega | (simp only [hNw, hPt]; omega)) (by intro m; simp)]; first | assumption | (simp (disch := first | omega | (simp only [hNw, hPt]; omega)) only [gN] <;> first | rfl | assumption | exact gp0 _ _ _ | exact gn0 _ _)
    have b1x : G2.get (W.next + 1) = some (.cells [tv] 60) := by rw [q4 _ (by first | omega | (simp only [hNw, hPt]; omega)) (by intro m; simp)]; simp (disch := first | omega | (simp only [hNw, hPt]; omega)) only [gN]; exact congrArg (fun l => some (AObj.cells l 60)) htc
    have b2x : G2.get (W.next + 2) = some (.cells [I (r : Int)] 3) := by rw [q4 _ (by first | omega | (simp only [hNw, hPt]; omega)) (by intro m; simp)]; first | assumption | (simp (disch := first | omega | (simp only [hNw, hPt]; omega)) only [gN] <;> first | rfl | assumption | exact gp0 _ _ _ | exact gn0 _ _)
    have b3x : G2.get (W.next + 3) = some (.cells [I (c : Int), I (k : Int)] 145) := by rw [q4 _ (by first | omega | (simp only [hNw, hPt]; omega)) (by intro m; simp)]; first | assumption | (simp (disch := first | omega | (simp only [hNw, hPt]; omega)) only [gN] <;> first | rfl | assumption | exact gp0 _ _ _ | exact gn0 _ _)
    have b4x : G2.get (W.next + 4) = some (.cells [I (costOf fa bed)] 3) := by rw [q4 _ (by first | omega | (simp only [hNw, hPt]; omega)) (by intro m; simp)]; first | assumption | (simp (disch := first | omega | (simp only [hNw, hPt]; omega)) only [gN] <;> first | rfl | assumption | exact gp0 _ _ _ | exact gn0 _ _)
    have eb0x : (G2.get (W.next)).bind AObj.cs = some [cv, I (L : Int), I fa, .fn 66 [] []] := by rw [b0x]; rfl
    have eb1x : (G2.get (W.next + 1)).bind AObj.cs = some [tv] := by rw [b1x]; rfl
    have eb2x : (G2.get (W.next + 2)).bind AObj.cs = some [I (r : Int)] := by rw [b2x]; rfl
    have eb3x : (G2.get (W.next + 3)).bind AObj.cs = some [I (c : Int), I (k : Int)] := by rw [b3x]; rfl
    have eb4x : (G2.get (W.next + 4)).bind AObj.cs = some [I (costOf fa bed)] := by rw [b4x]; rfl
    have b5x : G2.get (W.next + 5) = some (.cells [.nils] 25) := by rw [q4 _ (by first | omega | (simp only [hNw, hPt]; omega)) (by intro m; simp)]; first | assumption | (simp (disch := first | omega | (simp only [hNw, hPt]; omega)) only [gN] <;> first | rfl | assumption | exact gp0 _ _ _ | exact gn0 _ _)
    have eb5x : (G2.get (W.next + 5)).bind AObj.cs = some [.nils] := by rw [b5x]; rfl
    have hcbx : (G2.get cb).bind AObj.cs = some ccs := by rw [g2.get _ (by omega), hg]; exact j20
    obtain ⟨ml2, hl2, _⟩ := q1.len
    refine oT rfl rfl rfl (sAc (n := 1) (ag := false) (by kernel_rfl) (by first | assumption | (simp (disch := first | omega | (simp only [hNw, hPt]; omega)) only [gN] <;> first | rfl | assumption | exact gp0 _ _ _ | exact gn0 _ _)) rfl (by first | rfl | assumption) (by first | rfl | exact spl_set _ _ _ (by first | assumption | omega | (simp; omega)))) ?_; refine oN ?_; refine kS ?_; refine kS ?_; refine kR ?_; refine oF (o := 0) rfl (by kernel_rfl) rfl ?_; refine oL rfl rfl (qla0 1) ?_; refine OkO.bin rfl rfl rfl (bin_eql _ _) ?_; refine oN ?_
    refine Ok.cond rfl (fun h2 => ?_) (fun h2 => ?_)
    · have hc0 : c = 0 := by (have h9 : (c : Int) = 0 := by simpa using h2); omega
      refine kS ?_; refine kR ?_; refine oL rfl rfl (qla0 1) ?_; refine oV rfl rfl rfl rfl rfl (c110 (m + 3) (.opn bk2 mv2) 1000000000000000 [costOf fa bed] _ (Mine.row (l := [costOf fa bed].map fun x => [I x]) (Mine.put (n := W.next + 5) q1 _ (by omega)) (fun x hx => by simp at hx; rw [hx]; rfl) (by omega)) (by simp)) ?_; refine oA rfl rfl ?_; refine oN ?_
      refine Ok.ret ⟨.inr rfl, ?_⟩
      exact ⟨_, _, back_flat rfl rfl rfl (by rw [← hW]; exact (by (try dsimp only); repeat (first | exact g3 | exact g2 | exact hG | apply Grow.new | (refine Grow.put ?_ _ (by first | omega | (simp only [hNw, hPt]; omega)))))), _, rfl, rfl, by (subst hc0; exact most_edge (.inl ⟨hr0, rfl⟩))⟩
    · have hc0 : c ≠ 0 := by (intro h9; rw [h9] at h2; simp at h2)
      obtain ⟨c1, hc1⟩ : ∃ c1, c = c1 + 1 := ⟨c - 1, by omega⟩
      subst hc1
      refine Ok.skip ?_; refine kS ?_; refine kS ?_; refine Ok.drawn [(0, true, []), (1, true, []), (2, true, []), (3, true, []), (4, true, []), (5, true, []), (6, true, []), (7, true, []), (8, true, []), (9, true, []), (10, false, [8, 6, 4])] (by kernel_rfl) ?_; refine pS ?_; refine oF (o := 1) rfl (by kernel_rfl) rfl ?_; refine oN ⟨rfl, ?_⟩; refine pS ?_; refine oL rfl rfl (qla0 1) ?_; refine oN ⟨rfl, ?_⟩; refine pS ?_; refine oF (o := 0) rfl (by kernel_rfl) rfl ?_; refine oN ⟨rfl, ?_⟩; refine pS ?_; refine oF (o := 0) rfl (by kernel_rfl) rfl ?_; refine oN ⟨rfl, ?_⟩; refine pS ?_; refine oL rfl rfl (qla0 1) ?_; refine oN ⟨rfl, ?_⟩; refine pS ?_; refine oF (o := 0) rfl (by kernel_rfl) rfl ?_; refine oN ⟨rfl, ?_⟩; refine pS ?_; refine oL rfl rfl (qla0 1) ?_; refine oN ⟨rfl, ?_⟩; refine pS ?_; refine qX (sz := 1) (n := c1 + 1) rfl rfl rfl ?_; refine oN ⟨rfl, ?_⟩; refine pS ?_; refine oL rfl rfl (qla0 1) ?_; refine oN ⟨rfl, ?_⟩; refine pS ?_; refine oB rfl rfl rfl qbl ?_; refine oN ⟨rfl, ?_⟩; refine pS ?_; refine oE rfl rfl rfl rfl rfl (c111 (m + 3) (k : Int) (n : Int) _) ?_
      rintro v111 H111 ⟨rfl, q111, z5, z6, n111⟩
      have n111p : H111.next = G2.next + 2 := n111
      have b0z : H111.get (W.next) = some (.cells [cv, I (L : Int), I fa, .fn 66 [] []] 119) := by rw [q111.ext.get _ (by first | omega | (simp only [hNw, hPt]; omega))]; first | assumption | exact (by first | assumption | (simp (disch := first | omega | (simp only [hNw, hPt]; omega)) only [gN] <;> first | rfl | assumption | exact gp0 _ _ _ | exact gn0 _ _))
      have b1z : H111.get (W.next + 1) = some (.cells [tv] 60) := by rw [q111.ext.get _ (by first | omega | (simp only [hNw, hPt]; omega))]; first | assumption | exact (by simp (disch := first | omega | (simp only [hNw, hPt]; omega)) only [gN]; first | assumption | exact congrArg (fun l => some (AObj.cells l 60)) htc)
      have b2z : H111.get (W.next + 2) = some (.cells [I (r : Int)] 3) := by rw [q111.ext.get _ (by first | omega | (simp only [hNw, hPt]; omega))]; first | assumption | exact (by first | assumption | (simp (disch := first | omega | (simp only [hNw, hPt]; omega)) only [gN] <;> first | rfl | assumption | exact gp0 _ _ _ | exact gn0 _ _))
      have b3z : H111.get (W.next + 3) = some (.cells [I ((c1 + 1 : Nat) : Int), I (k : Int)] 145) := by rw [q111.ext.get _ (by first | omega | (simp only [hNw, hPt]; omega))]; first | assumption | exact (by first | assumption | (simp (disch := first | omega | (simp only [hNw, hPt]; omega)) only [gN] <;> first | rfl | assumption | exact gp0 _ _ _ | exact gn0 _ _))
      have b4z : H111.get (W.next + 4) = some (.cells [I (costOf fa bed)] 3) := by rw [q111.ext.get _ (by first | omega | (simp only [hNw, hPt]; omega))]; first | assumption | exact (by first | assumption | (simp (disch := first | omega | (simp only [hNw, hPt]; omega)) only [gN] <;> first | rfl | assumption | exact gp0 _ _ _ | exact gn0 _ _))
      have eb0z : (H111.get (W.next)).bind AObj.cs = some [cv, I (L : Int), I fa, .fn 66 [] []] := by rw [b0z]; rfl
      have eb1z : (H111.get (W.next + 1)).bind AObj.cs = some [tv] := by rw [b1z]; rfl
      have eb2z : (H111.get (W.next + 2)).bind AObj.cs = some [I (r : Int)] := by rw [b2z]; rfl
      have eb3z : (H111.get (W.next + 3)).bind AObj.cs = some [I ((c1 + 1 : Nat) : Int), I (k : Int)] := by rw [b3z]; rfl
      have eb4z : (H111.get (W.next + 4)).bind AObj.cs = some [I (costOf fa bed)] := by rw [b4z]; rfl
      have b5z : H111.get (W.next + 5) = some (.cells [.opn bk2 mv2] 25) := by rw [q111.ext.get _ (by first | omega | (simp only [hNw, hPt]; omega))]; first | exact gp0 _ _ _ | exact gn0 _ _
      have g111 : Grow W H111 := Grow.ret (by (try dsimp only); repeat (first | exact g3 | exact g2 | exact hG | apply Grow.new | (refine Grow.put ?_ _ (by first | omega | (simp only [hNw, hPt]; omega))))) q111
      have hcbz : (H111.get cb).bind AObj.cs = some ccs := by rw [g111.get _ (by omega), hg]; exact j20
      have m5z : Mine (W.next + 6) H111 (.opn bk2 mv2) 3 1 (([costOf fa bed] : List Int).map I) := (Mine.put (n := W.next + 5) q1 (.cells [.opn bk2 mv2] 25) (by omega)).to q111.ext
      refine oN ⟨(sco (qsa5 1 rfl rfl rfl) (sco (qsa5 1 rfl rfl rfl) (sco (qsa5 1 rfl rfl rfl) rfl))), ?_⟩; refine OkP.nil ?_; refine Ok.block ?_
      refine Ok.rangeX rfl rfl (fun T0 hT0 => ?_)
      have hH : Has 7 [(4, .ptr W.next 0), (5, .ptr (W.next + 1) 0), (6, .ptr (W.next + 2) 0), (7, .ptr (W.next + 3) 0), (9, .ptr (W.next + 4) 0), (10, .ptr (W.next + 5) 0)] T0 := by rw [hT0]; exact Has.of (by kernel_rfl)
      have hJ0 : MoJ W W.next G2.next cv tv fa (costOf fa bed) A B r L c1 k n T0 (k - 1) ((H111.new .defd).new (.loop .ready none T0 [37] as100 bd100 (G2.next + 2))) := ⟨(g111.ext.new _).new _, by simp only [hNw]; omega, by rw [gno _ _ _ (by simp only [hNw]; omega), gno _ _ _ (by omega)]; exact b0z, by rw [gno _ _ _ (by simp only [hNw]; omega), gno _ _ _ (by omega)]; exact b1z, by rw [gno _ _ _ (by simp only [hNw]; omega), gno _ _ _ (by omega)]; exact b2z, by rw [gno _ _ _ (by simp only [hNw]; omega), gno _ _ _ (by omega)]; exact b3z, by rw [gno _ _ _ (by simp only [hNw]; omega), gno _ _ _ (by omega)]; exact b4z, ⟨.opn bk2 mv2, [costOf fa bed], by rw [gno _ _ _ (by simp only [hNw]; omega), gno _ _ _ (by omega)]; exact b5z, (m5z.to (Grow.toNew _ _)).to (Grow.toNew _ _), ⟨fun _ => by simp, fun i i1 i2 _ => by omega, fun x hx => .inl ⟨hr0, by simpa using hx⟩⟩, by simp⟩, by rw [gno _ _ _ (by simp only [hNw]; omega), gno _ _ _ (by omega)]; exact z5, by rw [gno _ _ _ (by simp only [hNw]; omega), gno _ _ _ (by omega)]; exact z6, by rw [gno _ _ _ (by simp only [hNw]; omega), ← n111p]; exact gn0 _ _, by rw [show G2.next + 3 = H111.next + 1 from by omega]; exact gn1 _ _ _⟩
      have hA' : 0 < r → ∃ tl, TabAt W tv (r - 1) c1 tl ∧ ∀ i, i < n → tl[i]? = some (A i) := fun h9 => by (obtain ⟨tl, t1, t2⟩ := hA h9 (by omega); exact ⟨tl, t1.ext ⟨by omega, fun j _ => hg j⟩, t2⟩)
      have hB' : r + 1 = L → ∃ tl, TabAt W tv r c1 tl ∧ ∀ i, i < n → tl[i]? = some (B i) := fun h9 => by (obtain ⟨tl, t1, t2⟩ := hB h9 (by omega); exact ⟨tl, t1.ext ⟨by omega, fun j _ => hg j⟩, t2⟩)
      obtain ⟨v3, H3, k1, k2, k3⟩ := c112 (m + 3) (G2.next + 3) G2.next (G2.next + 1) W.next k n (MoJ W W.next G2.next cv tv fa (costOf fa bed) A B r L c1 k n T0) ((H111.new .defd).new (.loop .ready none T0 [37] as100 bd100 (G2.next + 2))) (fun i G G' h x => h.to (by omega) x) (fun i G h => ⟨by rw [h.p0]; rfl, by rw [h.p1]; rfl, by have := h.nx; omega⟩) (fun i G i1 i2 i3 hj hk9 => r100 (m + 2) W.next G2.next cv tv fa _ A B r L c1 k n i T0 W G rfl (by omega) hH hj hk9 hA' hB' hcb hAb hBb hr9 hL9 (by omega) (by omega) (by omega) i1 i2 i3) hJ0 (by show W.next ≤ H111.lo; exact g111.lo) (by omega) hk (by omega)
      have kn := k2.nx
      obtain ⟨lv, l, y5, ym, ylim, yl⟩ := k2.b5
      have ey5 : (H3.get (W.next + 5)).bind AObj.cs = some [lv] := by rw [y5]; rfl
      have y7 := k2.p2
      have y8 := k2.p3
      obtain ⟨mly, hly, _⟩ := ym.len
      have g3 : Grow W H3 := ⟨k2.ext.next, k2.ext.get, k3⟩
      rw [n111p]
      refine ⟨v3, H3, k1, _, _, T0, [37], as100, bd100, G2.next + 2, y8, .inl ⟨rfl, rfl, ?_⟩⟩
      clear k1 hJ0
      refine kS ?_; refine kR ?_; refine oL rfl rfl (qla0 1) ?_; refine oV rfl rfl rfl rfl rfl (c110 (m + 3) lv 1000000000000000 l _ (Mine.row (l := l.map fun x => [I x]) (by rw [flatI]; exact (ym.putO _ y8 (by intro a b c; simp)).putO _ (gp0 _ _ _) (by intro a b c; simp)) (fun x hx => by obtain ⟨y, _, rfl⟩ := List.mem_map.1 hx; rfl) (by omega)) (by omega)) ?_; refine oA rfl rfl ?_; refine oN ?_
      refine Ok.ret ⟨.inr rfl, ?_⟩
      rw [back_mark (d := G2.next + 2) (by first | assumption | (simp (disch := first | omega | (simp only [hNw, hPt]; omega)) only [gN] <;> first | rfl | assumption | exact gp0 _ _ _ | exact gn0 _ _))]
      exact ⟨_, _, back_flat (resV_tmp rfl resV_nil) rfl rfl (by rw [← hW]; exact (by (try dsimp only); repeat (first | exact g3 | exact g2 | exact hG | apply Grow.new | (refine Grow.put ?_ _ (by first | omega | (simp only [hNw, hPt]; omega)))))), _, rfl, rfl, lims_most (by omega) ylim⟩
  · have hr0 : r ≠ 0 := by (intro h9; rw [h9] at h1; simp at h1)
    refine Ok.skip ?_; refine kS ?_; refine kS ?_; refine kR ?_; refine oF (o := 0) rfl (by kernel_rfl) rfl ?_; refine oL rfl rfl (qla0 1) ?_; refine OkO.bin rfl rfl rfl (bin_eql _ _) ?_; refine oN ?_
    refine Ok.cond rfl (fun h3 => ?_) (fun h3 => ?_)
    · have hc0 : c = 0 := by (have h9 : (c : Int) = 0 := by simpa using h3); omega
      refine kS ?_; refine kR ?_; refine oL rfl rfl (qla0 1) ?_; refine oV rfl rfl rfl rfl rfl (c110 (m + 3) .nils 1000000000000000 [] _ (Row.nil _ _) (by simp)) ?_; refine oA rfl rfl ?_; refine oN ?_
      refine Ok.ret ⟨.inr rfl, ?_⟩
      exact ⟨_, _, back_flat rfl rfl rfl (by rw [← hW]; exact (by (try dsimp only); repeat (first | exact g3 | exact g2 | exact hG | apply Grow.new | (refine Grow.put ?_ _ (by first | omega | (simp only [hNw, hPt]; omega)))))), _, rfl, rfl, by (subst hc0; exact most_edge (.inr ⟨hr0, rfl⟩))⟩
    · have hc0 : c ≠ 0 := by (intro h9; rw [h9] at h3; simp at h3)
      obtain ⟨c1, hc1⟩ : ∃ c1, c = c1 + 1 := ⟨c - 1, by omega⟩
      subst hc1
      refine Ok.skip ?_; refine kS ?_; refine kS ?_; refine Ok.drawn [(0, true, []), (1, true, []), (2, true, []), (3, true, []), (4, true, []), (5, true, []), (6, true, []), (7, true, []), (8, true, []), (9, true, []), (10, false, [8, 6, 4])] (by kernel_rfl) ?_; refine pS ?_; refine oF (o := 1) rfl (by kernel_rfl) rfl ?_; refine oN ⟨rfl, ?_⟩; refine pS ?_; refine oL rfl rfl (qla0 1) ?_; refine oN ⟨rfl, ?_⟩; refine pS ?_; refine oF (o := 0) rfl (by kernel_rfl) rfl ?_; refine oN ⟨rfl, ?_⟩; refine pS ?_; refine oF (o := 0) rfl (by kernel_rfl) rfl ?_; refine oN ⟨rfl, ?_⟩; refine pS ?_; refine oL rfl rfl (qla0 1) ?_; refine oN ⟨rfl, ?_⟩; refine pS ?_; refine oF (o := 0) rfl (by kernel_rfl) rfl ?_; refine oN ⟨rfl, ?_⟩; refine pS ?_; refine oL rfl rfl (qla0 1) ?_; refine oN ⟨rfl, ?_⟩; refine pS ?_; refine qX (sz := 1) (n := c1 + 1) rfl rfl rfl ?_; refine oN ⟨rfl, ?_⟩; refine pS ?_; refine oL rfl rfl (qla0 1) ?_; refine oN ⟨rfl, ?_⟩; refine pS ?_; refine oB rfl rfl rfl qbl ?_; refine oN ⟨rfl, ?_⟩; refine pS ?_; refine oE rfl rfl rfl rfl rfl (c111 (m + 3) (k : Int) (n : Int) _) ?_
      rintro v111 H111 ⟨rfl, q111, z5, z6, n111⟩
      have n111p : H111.next = (W.next + 6) + 2 := n111
      have b0z : H111.get (W.next) = some (.cells [cv, I (L : Int), I fa, .fn 66 [] []] 119) := by rw [q111.ext.get _ (by first | omega | (simp only [hNw, hPt]; omega))]; first | assumption | exact (by first | assumption | (simp (disch := first | omega | (simp only [hNw, hPt]; omega)) only [gN] <;> first | rfl | assumption | exact gp0 _ _ _ | exact gn0 _ _))
      have b1z : H111.get (W.next + 1) = some (.cells [tv] 60) := by rw [q111.ext.get _ (by first | omega | (simp only [hNw, hPt]; omega))]; first | assumption | exact (by simp (disch := first | omega | (simp only [hNw, hPt]; omega)) only [gN]; first | assumption | exact congrArg (fun l => some (AObj.cells l 60)) htc)
      have b2z : H111.get (W.next + 2) = some (.cells [I (r : Int)] 3) := by rw [q111.ext.get _ (by first | omega | (simp only [hNw, hPt]; omega))]; first | assumption | exact (by first | assumption | (simp (disch := first | omega | (simp only [hNw, hPt]; omega)) only [gN] <;> first | rfl | assumption | exact gp0 _ _ _ | exact gn0 _ _))
      have b3z : H111.get (W.next + 3) = some (.cells [I ((c1 + 1 : Nat) : Int), I (k : Int)] 145) := by rw [q111.ext.get _ (by first | omega | (simp only [hNw, hPt]; omega))]; first | assumption | exact (by first | assumption | (simp (disch := first | omega | (simp only [hNw, hPt]; omega)) only [gN] <;> first | rfl | assumption | exact gp0 _ _ _ | exact gn0 _ _))
      have b4z : H111.get (W.next + 4) = some (.cells [I (costOf fa bed)] 3) := by rw [q111.ext.get _ (by first | omega | (simp only [hNw, hPt]; omega))]; first | assumption | exact (by first | assumption | (simp (disch := first | omega | (simp only [hNw, hPt]; omega)) only [gN] <;> first | rfl | assumption | exact gp0 _ _ _ | exact gn0 _ _))
      have eb0z : (H111.get (W.next)).bind AObj.cs = some [cv, I (L : Int), I fa, .fn 66 [] []] := by rw [b0z]; rfl
      have eb1z : (H111.get (W.next + 1)).bind AObj.cs = some [tv] := by rw [b1z]; rfl
      have eb2z : (H111.get (W.next + 2)).bind AObj.cs = some [I (r : Int)] := by rw [b2z]; rfl
      have eb3z : (H111.get (W.next + 3)).bind AObj.cs = some [I ((c1 + 1 : Nat) : Int), I (k : Int)] := by rw [b3z]; rfl
      have eb4z : (H111.get (W.next + 4)).bind AObj.cs = some [I (costOf fa bed)] := by rw [b4z]; rfl
      have b5z : H111.get (W.next + 5) = some (.cells [.nils] 25) := by rw [q111.ext.get _ (by first | omega | (simp only [hNw, hPt]; omega))]; first | exact gp0 _ _ _ | exact gn0 _ _
      have g111 : Grow W H111 := Grow.ret (by (try dsimp only); repeat (first | exact g3 | exact g2 | exact hG | apply Grow.new | (refine Grow.put ?_ _ (by first | omega | (simp only [hNw, hPt]; omega))))) q111
      have hcbz : (H111.get cb).bind AObj.cs = some ccs := by rw [g111.get _ (by omega), hg]; exact j20
      have m5z : Mine (W.next + 6) H111 (.nils) 3 1 (([] : List Int).map I) := Mine.nil _ _ _ _
      refine oN ⟨(sco (qsa5 1 rfl rfl rfl) (sco (qsa5 1 rfl rfl rfl) (sco (qsa5 1 rfl rfl rfl) rfl))), ?_⟩; refine OkP.nil ?_; refine Ok.block ?_
      refine Ok.rangeX rfl rfl (fun T0 hT0 => ?_)
      have hH : Has 7 [(4, .ptr W.next 0), (5, .ptr (W.next + 1) 0), (6, .ptr (W.next + 2) 0), (7, .ptr (W.next + 3) 0), (9, .ptr (W.next + 4) 0), (10, .ptr (W.next + 5) 0)] T0 := by rw [hT0]; exact Has.of (by kernel_rfl)
      have hJ0 : MoJ W W.next (W.next + 6) cv tv fa (costOf fa bed) A B r L c1 k n T0 (k - 1) ((H111.new .defd).new (.loop .ready none T0 [37] as100 bd100 ((W.next + 6) + 2))) := ⟨(g111.ext.new _).new _, by simp only [hNw]; omega, by rw [gno _ _ _ (by simp only [hNw]; omega), gno _ _ _ (by omega)]; exact b0z, by rw [gno _ _ _ (by simp only [hNw]; omega), gno _ _ _ (by omega)]; exact b1z, by rw [gno _ _ _ (by simp only [hNw]; omega), gno _ _ _ (by omega)]; exact b2z, by rw [gno _ _ _ (by simp only [hNw]; omega), gno _ _ _ (by omega)]; exact b3z, by rw [gno _ _ _ (by simp only [hNw]; omega), gno _ _ _ (by omega)]; exact b4z, ⟨.nils, [], by rw [gno _ _ _ (by simp only [hNw]; omega), gno _ _ _ (by omega)]; exact b5z, (m5z.to (Grow.toNew _ _)).to (Grow.toNew _ _), ⟨fun h9 => absurd h9 hr0, fun i i1 i2 _ => by omega, fun x hx => by simp at hx⟩, by simp⟩, by rw [gno _ _ _ (by simp only [hNw]; omega), gno _ _ _ (by omega)]; exact z5, by rw [gno _ _ _ (by simp only [hNw]; omega), gno _ _ _ (by omega)]; exact z6, by rw [gno _ _ _ (by simp only [hNw]; omega), ← n111p]; exact gn0 _ _, by rw [show (W.next + 6) + 3 = H111.next + 1 from by omega]; exact gn1 _ _ _⟩
      have hA' : 0 < r → ∃ tl, TabAt W tv (r - 1) c1 tl ∧ ∀ i, i < n → tl[i]? = some (A i) := fun h9 => by (obtain ⟨tl, t1, t2⟩ := hA h9 (by omega); exact ⟨tl, t1.ext ⟨by omega, fun j _ => hg j⟩, t2⟩)
      have hB' : r + 1 = L → ∃ tl, TabAt W tv r c1 tl ∧ ∀ i, i < n → tl[i]? = some (B i) := fun h9 => by (obtain ⟨tl, t1, t2⟩ := hB h9 (by omega); exact ⟨tl, t1.ext ⟨by omega, fun j _ => hg j⟩, t2⟩)
      obtain ⟨v3, H3, k1, k2, k3⟩ := c112 (m + 3) ((W.next + 6) + 3) (W.next + 6) ((W.next + 6) + 1) W.next k n (MoJ W W.next (W.next + 6) cv tv fa (costOf fa bed) A B r L c1 k n T0) ((H111.new .defd).new (.loop .ready none T0 [37] as100 bd100 ((W.next + 6) + 2))) (fun i G G' h x => h.to (by omega) x) (fun i G h => ⟨by rw [h.p0]; rfl, by rw [h.p1]; rfl, by have := h.nx; omega⟩) (fun i G i1 i2 i3 hj hk9 => r100 (m + 2) W.next (W.next + 6) cv tv fa _ A B r L c1 k n i T0 W G rfl (by omega) hH hj hk9 hA' hB' hcb hAb hBb hr9 hL9 (by omega) (by omega) (by omega) i1 i2 i3) hJ0 (by show W.next ≤ H111.lo; exact g111.lo) (by omega) hk (by omega)
      have kn := k2.nx
      obtain ⟨lv, l, y5, ym, ylim, yl⟩ := k2.b5
      have ey5 : (H3.get (W.next + 5)).bind AObj.cs = some [lv] := by rw [y5]; rfl
      have y7 := k2.p2
      have y8 := k2.p3
      obtain ⟨mly, hly, _⟩ := ym.len
      have g3 : Grow W H3 := ⟨k2.ext.next, k2.ext.get, k3⟩
      rw [n111p]
      refine ⟨v3, H3, k1, _, _, T0, [37], as100, bd100, (W.next + 6) + 2, y8, .inl ⟨rfl, rfl, ?_⟩⟩
      clear k1 hJ0
      refine kS ?_; refine kR ?_; refine oL rfl rfl (qla0 1) ?_; refine oV rfl rfl rfl rfl rfl (c110 (m + 3) lv 1000000000000000 l _ (Mine.row (l := l.map fun x => [I x]) (by rw [flatI]; exact (ym.putO _ y8 (by intro a b c; simp)).putO _ (gp0 _ _ _) (by intro a b c; simp)) (fun x hx => by obtain ⟨y, _, rfl⟩ := List.mem_map.1 hx; rfl) (by omega)) (by omega)) ?_; refine oA rfl rfl ?_; refine oN ?_
      refine Ok.ret ⟨.inr rfl, ?_⟩
      rw [back_mark (d := (W.next + 6) + 2) (by first | assumption | (simp (disch := first | omega | (simp only [hNw, hPt]; omega)) only [gN] <;> first | rfl | assumption | exact gp0 _ _ _ | exact gn0 _ _))]
      exact ⟨_, _, back_flat (resV_tmp rfl resV_nil) rfl rfl (by rw [← hW]; exact (by (try dsimp only); repeat (first | exact g3 | exact g2 | exact hG | apply Grow.new | (refine Grow.put ?_ _ (by first | omega | (simp only [hNw, hPt]; omega)))))), _, rfl, rfl, lims_most (by omega) ylim⟩
end
end Go.Ev

