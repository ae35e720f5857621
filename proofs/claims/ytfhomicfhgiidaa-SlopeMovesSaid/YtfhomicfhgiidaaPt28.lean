/-
  Functions of the program, reckoned by the evaluator: what each answers, and that it leaves what came in as it was.
-/
import Derived.Test.YtfhomicfhgiidaaPt27
set_option maxRecDepth 100000
set_option linter.unusedSimpArgs false
set_option linter.unusedVariables false
namespace Go.Ev
open Go Go.Proofs
noncomputable section
def hdS (cols : List (List Bed)) (least : Int) (fr : Nat) (us : List Nat) : List (List Nat) := if us ≠ [] ∧ surfB cols least (fr : Int) (ofN us) = true then [us] else []
def nearB (us : List Nat) (b : Nat) : Bool := match us.getLast? with
  | none => true
  | some k => inB ((b : Int) - (k : Int)) (-1) 1
/-- The surfaces that go on from some beds. -/
def surfs (cols : List (List Bed)) (least : Int) (n fr : Nat) : Nat → List Nat → List (List Nat)
  | 0, us => hdS cols least fr us
  | d + 1, us => hdS cols least fr us ++ (List.range n).flatMap fun b => if nearB us b = true then surfs cols least n fr d (us ++ [b]) else []
def goOn (cols : List (List Bed)) (least : Int) (n fr d : Nat) (us : List Nat) (b : Nat) : List (List Nat) := if nearB us b = true then surfs cols least n fr d (us ++ [b]) else []
def upTo (cols : List (List Bed)) (least : Int) (n fr d : Nat) (us : List Nat) (b : Nat) : List (List Nat) := hdS cols least fr us ++ (List.range b).flatMap (goOn cols least n fr d us)
theorem upTo_zero (cols : List (List Bed)) (least : Int) (n fr d : Nat) (us : List Nat) : upTo cols least n fr d us 0 = hdS cols least fr us := by simp [upTo]
theorem upTo_yes {cols : List (List Bed)} {least : Int} {n fr d : Nat} {us : List Nat} {b : Nat} (h : nearB us b = true) : upTo cols least n fr d us (b + 1) = upTo cols least n fr d us b ++ surfs cols least n fr d (us ++ [b]) := by
  unfold upTo
  rw [List.range_succ, List.flatMap_append, List.append_assoc]
  simp [goOn, h]
theorem upTo_no {cols : List (List Bed)} {least : Int} {n fr d : Nat} {us : List Nat} {b : Nat} (h : nearB us b = false) : upTo cols least n fr d us (b + 1) = upTo cols least n fr d us b := by
  unfold upTo
  rw [List.range_succ, List.flatMap_append]
  simp [goOn, h]
theorem upTo_all (cols : List (List Bed)) (least : Int) (n fr d : Nat) (us : List Nat) : upTo cols least n fr d us n = surfs cols least n fr (d + 1) us := rfl
theorem hdS_len (cols : List (List Bed)) (least : Int) (fr : Nat) (us : List Nat) : (hdS cols least fr us).length ≤ 1 := by
  unfold hdS
  split <;> simp
theorem flatMap_len {g : Nat → List (List Nat)} {Q : Nat} (h : ∀ x, (g x).length ≤ Q) : ∀ b, ((List.range b).flatMap g).length ≤ b * Q
  | 0 => by simp
  | b + 1 => by
    have h1 := flatMap_len h b
    have h2 := h b
    rw [List.range_succ, List.flatMap_append, List.length_append, Nat.add_mul]
    simp only [List.flatMap_cons, List.flatMap_nil, List.append_nil]
    omega
theorem surfs_len (cols : List (List Bed)) (least : Int) (n fr : Nat) : ∀ (d : Nat) (us : List Nat), (surfs cols least n fr d us).length ≤ (n + 1) ^ (d + 1)
  | 0, us => by
    have := hdS_len cols least fr us
    rw [surfs]
    simp
    omega
  | d + 1, us => by
    have h1 := hdS_len cols least fr us
    have h2 := flatMap_len (g := goOn cols least n fr d us) (Q := (n + 1) ^ (d + 1)) (fun x => by
      unfold goOn
      split
      · exact surfs_len cols least n fr d _
      · simp) n
    have h3 : surfs cols least n fr (d + 1) us = hdS cols least fr us ++ (List.range n).flatMap (goOn cols least n fr d us) := rfl
    have h4 : (n + 1) ^ (d + 1 + 1) = n * (n + 1) ^ (d + 1) + (n + 1) ^ (d + 1) := by rw [Nat.pow_succ (n := n + 1) (m := d + 1), Nat.mul_comm, Nat.add_mul, Nat.one_mul]
    have h5 : 1 ≤ (n + 1) ^ (d + 1) := Nat.one_le_pow _ _ (by omega)
    rw [h3, List.length_append, h4]
    omega
theorem upTo_len {cols : List (List Bed)} {least : Int} {n fr d : Nat} {us : List Nat} {b : Nat} (hb : b ≤ n) : (upTo cols least n fr d us b).length ≤ (n + 1) ^ (d + 1 + 1) := by
  have h1 := hdS_len cols least fr us
  have h2 := flatMap_len (g := goOn cols least n fr d us) (Q := (n + 1) ^ (d + 1)) (fun x => by
      unfold goOn
      split
      · exact surfs_len cols least n fr d _
      · simp) b
  have h4 : (n + 1) ^ (d + 1 + 1) = n * (n + 1) ^ (d + 1) + (n + 1) ^ (d + 1) := by rw [Nat.pow_succ (n := n + 1) (m := d + 1), Nat.mul_comm, Nat.add_mul, Nat.one_mul]
  have h5 : 1 ≤ (n + 1) ^ (d + 1) := Nat.one_le_pow _ _ (by omega)
  have h6 : b * (n + 1) ^ (d + 1) ≤ n * (n + 1) ^ (d + 1) := Nat.mul_le_mul_right _ hb
  unfold upTo
  rw [List.length_append, h4]
  omega
theorem Mine.far {k0 : Nat} {G : Heap} {v : AV} {e : TypeId} {sz : Nat} {cs : List AV} (h : Mine k0 G v e sz cs) {j : Nat} (hj : j < k0) : ∀ m, v ≠ .opn j m := fun m hm => by
  rcases h with ⟨h, _⟩ | ⟨b, n, h, _, _, h4, _⟩
  · rw [h] at hm; cases hm
  · rw [h] at hm; cases hm; omega
theorem Srf.low {k0 k1 : Nat} {G : Heap} {v : AV} {fr : Nat} {bvs : List AV} {L : List (List Nat)} (h : Srf k1 G v fr bvs L) (hk : k0 ≤ k1) : Srf k0 G v fr bvs L := ⟨h.1.low hk, h.2⟩
theorem Srf.none (k0 : Nat) (G : Heap) (fr : Nat) : Srf k0 G .nils fr [] [] := ⟨Mine.nil _ _ _ _, rfl, fun j x u h _ => by simp at h⟩
theorem hdS_no {cols : List (List Bed)} {least : Int} {fr : Nat} {us : List Nat} (h : us = [] ∨ surfB cols least (fr : Int) (ofN us) = false) : hdS cols least fr us = [] := by
  unfold hdS
  rw [if_neg]
  rintro ⟨h1, h2⟩
  rcases h with h | h
  · exact h1 h
  · rw [h] at h2; cases h2
theorem hdS_yes {cols : List (List Bed)} {least : Int} {fr : Nat} {us : List Nat} (h1 : us ≠ []) (h2 : surfB cols least (fr : Int) (ofN us) = true) : hdS cols least fr us = [us] := by
  unfold hdS
  rw [if_pos ⟨h1, h2⟩]
theorem c73s (m : Nat) (cv : AV) (cols : List (List Bed)) (least : Int) (n fr d : Nat) (us : List Nat) (bu : AV) (H : Heap) (hM : Mat H cv cols) (hv : slOk cols least = true) (hgk : (cols.headD []).length = n) (hd : fr + us.length + d = cols.length) (hbd : ∀ k ∈ us, k < n) (hU : Mine 0 H bu 3 1 (ints us)) (hq : (n + 1) ^ (d + 1) ≤ 20000000) (ih : ∀ (d1 : Nat) (us' : List Nat) (bu' : AV) (G : Heap), d = d1 + 1 → fr + us'.length + d1 = cols.length → (∀ k ∈ us', k < n) → Mat G cv cols → Mine 0 G bu' 3 1 (ints us') → ∃ v H', RR (m + 2) (.fn 73 [.agg [cv, I least], .agg [I (fr : Int), bu']]) G = some (v, H') ∧ Ret G H' ∧ ∃ bvs, Srf G.next H' v fr bvs (surfs cols least n fr d1 us')) : ∃ v H', RR (m + 3) (.fn 73 [.agg [cv, I least], .agg [I (fr : Int), bu]]) H = some (v, H') ∧ Ret H H' ∧ ∃ bvs, Srf H.next H' v fr bvs (surfs cols least n fr d us) := by
  show ∃ v H', evFn Try.prog (RR (m + 2)) 73 [.agg [cv, I least], .agg [I (fr : Int), bu]] H = some (v, H') ∧ Ret H H' ∧ ∃ bvs, Srf H.next H' v fr bvs (surfs cols least n fr d us)
  refine fn_okE Try.func73 rfl rfl (by kernel_rfl) (by kernel_rfl) ?_
  obtain ⟨W, hW⟩ : ∃ W : Heap, W = ⟨H.t, H.next, H.next⟩ := ⟨_, rfl⟩
  have hg : ∀ n, W.get n = H.get n := fun n => by rw [hW]; rfl
  have hN : W.next = H.next := by rw [hW]
  have hE : ∀ G, Grow W G → Ext H G := fun G g => ⟨by rw [← hN]; exact g.next, fun n k => by rw [g.get n (by rw [hN]; exact k), hg]⟩
  have hG : Grow W W := Grow.refl (by rw [hW]; exact Nat.le_refl _)
  rw [← hW]
  have hsf := slOk_facts hv
  obtain ⟨vs, hR, hvl, hvv⟩ := id hM
  have hlen : lenOf cv = some cols.length := by rw [← hvl]; simpa using hR.len
  have pc : cv.plain = true := lpl hlen
  have hg0 : ∀ j, W.get j = H.get j := hg
  have hul : lenOf bu = some us.length := by simpa using (Mine.row (l := us.map fun (k : Nat) => [I (k : Int)]) (by rw [flatN]; exact hU) (fun x hx => by simp only [List.mem_map] at hx; obtain ⟨y, _, rfl⟩ := hx; rfl) (by omega)).len
  have pbu := lpl hul
  have hone := hU.one
  have hat : atoms [I (fr : Int), bu] = true := by rw [atoms, atoms, hone.2]; rfl
  obtain ⟨cb, co, ccs, j1, j20, j3, j4⟩ := hR.at_ 0 [vs[0]'(by omega)] (by simp [show 0 < vs.length by omega])
  have j5 := seg_one j3
  obtain ⟨col, hcol⟩ : ∃ col, cols[0]? = some col := ⟨_, List.getElem?_eq_getElem (by omega)⟩
  have hcn : col.length = n := by rw [← hgk]; cases cols with | nil => simp at hcol | cons a l => simp at hcol; rw [← hcol]; rfl
  have hlcol : lenOf (vs[0]'(by omega)) = some n := by rw [← hcn]; simpa using (hvv 0 _ col (List.getElem?_eq_getElem (by omega)) hcol).len
  have hn5 : n ≤ 5 := by omega
  refine Ok.seq ?_
  refine Ok.region ?_
  refine OkO.box rfl rfl ?_
  refine OkO.box rfl rfl ?_
  refine OkO.assign rfl rfl ?_
  refine OkO.nil ?_
  refine Ok.seq ?_
  refine Ok.region ?_
  refine OkO.assign rfl rfl ?_
  refine OkO.nil ?_
  refine Ok.seq ?_
  refine Ok.seq ?_
  refine Ok.region ?_
  refine OkO.fieldAddr (o := 1) rfl (by kernel_rfl) rfl ?_
  refine OkO.load rfl rfl (lda (n := 1) (by kernel_rfl) (by first | assumption | (simp (disch := first | omega | (simp only [hNw, hPt]; omega)) only [gn0, gn1, gn2, gn3, gn4, gn5, gp0, gno, gpo] <;> first | rfl | assumption | exact gp0 _ _ _ | exact gn0 _ _)) (by first | rfl | assumption)) ?_
  refine OkO.builtin rfl rfl rfl (bln (by kernel_rfl) (by first | assumption | rfl)) ?_
  refine OkO.bin rfl rfl rfl (bin_gtr _ _) ?_
  refine OkO.move rfl rfl ?_
  refine OkO.split (d := 12) rfl (fun g1 => ?_) (fun g1 => ?_)
  · -- true g1
    have hne : us ≠ [] := by (intro h9; rw [h9] at g1; simp at g1)
    refine OkO.load rfl rfl (ldg (n := 2) (by kernel_rfl) (by first | assumption | (simp (disch := first | omega | (simp only [hNw, hPt]; omega)) only [gn0, gn1, gn2, gn3, gn4, gn5, gp0, gno, gpo] <;> first | rfl | assumption | exact gp0 _ _ _ | exact gn0 _ _)) (by first | rfl | assumption)) ?_
    refine OkO.load rfl rfl (ldg (n := 2) (by kernel_rfl) (by first | assumption | (simp (disch := first | omega | (simp only [hNw, hPt]; omega)) only [gn0, gn1, gn2, gn3, gn4, gn5, gp0, gno, gpo] <;> first | rfl | assumption | exact gp0 _ _ _ | exact gn0 _ _)) (by first | rfl | assumption)) ?_
    refine OkO.callV rfl rfl rfl rfl rfl (c35 m cv bu cols least (fr : Int) (ofN us) _ (hM.ext (hE _ (by (try dsimp only); repeat (first | exact hg | exact g2 | exact hG | apply Grow.new | (refine Grow.put ?_ _ (by first | omega | (simp only [hNw, hPt]; omega))))))) (ints_N (Mine.row (l := us.map fun (k : Nat) => [I (k : Int)]) (by rw [flatN]; exact hU.to (hE _ (by (try dsimp only); repeat (first | exact hg | exact g2 | exact hG | apply Grow.new | (refine Grow.put ?_ _ (by first | omega | (simp only [hNw, hPt]; omega))))))) (fun x hx => by simp only [List.mem_map] at hx; obtain ⟨y, _, rfl⟩ := hx; rfl) (by omega))) hv (by rw [ofN_len]; omega)) ?_ -- "sackung/sackungref01.IsSurface"
    refine OkO.pick (b := true) rfl rfl (fun _ => rfl) nofun ?_
    refine OkO.nil ?_
    refine Ok.cond rfl (fun h2 => ?_) (fun h2 => ?_)
    · -- yes h2
      refine Ok.region ?_
      refine OkO.move rfl rfl ?_
      refine OkO.load rfl rfl (ldg (n := 2) (by kernel_rfl) (by first | assumption | (simp (disch := first | omega | (simp only [hNw, hPt]; omega)) only [gn0, gn1, gn2, gn3, gn4, gn5, gp0, gno, gpo] <;> first | rfl | assumption | exact gp0 _ _ _ | exact gn0 _ _)) (by first | rfl | assumption)) ?_
      refine OkO.buildSlice (el := 27) (sz := 2) (z := [.int .i64 0, .nils]) rfl (by kernel_rfl) (by decide) rfl rfl ?_
      refine OkO.builtinE rfl rfl rfl (Mine.app3 (W := W) (k0 := W.next + 2) (t := 57) (u := 57) (sz := 2) (by_ := 32) (e := 27) (n := 1) (new := [I (fr : Int), bu]) (Mine.nil _ _ _ _) (by (try dsimp only); repeat (first | exact hg | exact g2 | exact hG | apply Grow.new | (refine Grow.put ?_ _ (by first | omega | (simp only [hNw, hPt]; omega))))) (by omega) (by first | omega | (simp only [hNw, hPt]; omega)) (by kernel_rfl) (by kernel_rfl) (elems_new (n := 1) (sz := 2) rfl) rfl rfl (by simp) (by omega) hat) ?_
      rintro v2 G2 ⟨q1, q2, q3, q4⟩
      simp only [hNw, hPt] at q3
      have f02 : G2.get W.next = some (.cells [cv, I least] 24) := by rw [q4 _ (by first | omega | (simp only [hNw, hPt]; omega)) (by intro m; simp)]; simp (disch := first | omega | (simp only [hNw, hPt]; omega)) only [gn0, gn1, gn2, gn3, gn4, gn5, gp0, gno, gpo] <;> rfl
      have f12 : G2.get (W.next + 1) = some (.cells [I (fr : Int), bu] 27) := by rw [q4 _ (by first | omega | (simp only [hNw, hPt]; omega)) (by intro m; simp)]; simp (disch := first | omega | (simp only [hNw, hPt]; omega)) only [gn0, gn1, gn2, gn3, gn4, gn5, gp0, gno, gpo] <;> rfl
      have hbu2 : Mine 0 G2 bu 3 1 (ints us) := hU.to (hE _ q2)
      have hs0 : Srf (W.next + 2) G2 v2 fr [bu] (hdS cols least fr us) := by (rw [hdS_yes hne (by first | assumption | simpa using h2)]; exact ⟨q1, rfl, fun j x u hx hu => by (cases j with | zero => (simp at hx hu; subst hx hu; exact hbu2) | succ j => simp at hx)⟩)
      have v2a := q1.one
      have e02 : (G2.get W.next).bind AObj.cs = some [cv, I least] := by rw [f02]; rfl
      have e12 : (G2.get (W.next + 1)).bind AObj.cs = some [I (fr : Int), bu] := by rw [f12]; rfl
      refine OkO.assign rfl rfl ?_
      refine OkO.nil ?_
      refine Ok.seq ?_
      refine Ok.seq ?_
      refine Ok.region ?_
      refine OkO.fieldAddr (o := 0) rfl (by kernel_rfl) rfl ?_
      refine OkO.load rfl rfl (lda (n := 1) (by kernel_rfl) (by first | assumption | (simp (disch := first | omega | (simp only [hNw, hPt]; omega)) only [gn0, gn1, gn2, gn3, gn4, gn5, gp0, gno, gpo] <;> first | rfl | assumption | exact gp0 _ _ _ | exact gn0 _ _)) (by first | rfl | assumption)) ?_
      refine OkO.fieldAddr (o := 1) rfl (by kernel_rfl) rfl ?_
      refine OkO.load rfl rfl (lda (n := 1) (by kernel_rfl) (by first | assumption | (simp (disch := first | omega | (simp only [hNw, hPt]; omega)) only [gn0, gn1, gn2, gn3, gn4, gn5, gp0, gno, gpo] <;> first | rfl | assumption | exact gp0 _ _ _ | exact gn0 _ _)) (by first | rfl | assumption)) ?_
      refine OkO.builtin rfl rfl rfl (bln (by kernel_rfl) (by first | assumption | rfl)) ?_
      refine OkO.bin rfl rfl rfl (bin_add (by omega) (by omega)) ?_
      refine OkO.fieldAddr (o := 0) rfl (by kernel_rfl) rfl ?_
      refine OkO.load rfl rfl (lda (n := 1) (by kernel_rfl) (by first | assumption | (simp (disch := first | omega | (simp only [hNw, hPt]; omega)) only [gn0, gn1, gn2, gn3, gn4, gn5, gp0, gno, gpo] <;> first | rfl | assumption | exact gp0 _ _ _ | exact gn0 _ _)) (by first | rfl | assumption)) ?_
      refine OkO.builtin rfl rfl rfl (bln (by kernel_rfl) (by first | assumption | rfl)) ?_
      refine OkO.bin rfl rfl rfl (bin_geq _ _) ?_
      refine OkO.nil ?_
      refine Ok.cond rfl (fun h3 => ?_) (fun h3 => ?_)
      · -- yes h3
        have hd0 : d = 0 := by (have h9 : (cols.length : Int) ≤ (fr : Int) + (us.length : Int) := by simpa using h3); omega
        refine Ok.seq ?_
        refine Ok.region ?_
        refine OkO.move rfl rfl ?_
        refine OkO.assign rfl rfl ?_
        refine OkO.nil ?_
        refine Ok.ret ⟨.inr rfl, ?_⟩
        refine back_newA rfl rfl (by rw [← hW]; exact q2) (fun H9 p1 p2 => ⟨p1, [bu], ?_⟩)
        rw [hd0]
        exact (Srf.low (hs0) (by omega)).back p2
      · -- no h3
        have hd1 : ∃ d1, d = d1 + 1 := ⟨d - 1, by (have h9 : ¬ (cols.length : Int) ≤ (fr : Int) + (us.length : Int) := by simpa using h3); omega⟩
        obtain ⟨d1, hdd⟩ := hd1
        refine Ok.skip ?_
        refine Ok.seq ?_
        refine Ok.seq ?_
        refine Ok.region ?_
        refine OkO.assign rfl rfl ?_
        refine OkO.nil ?_
        refine Ok.block ?_
        refine Ok.loop (fun n9 s_ => ∃ (b : Nat) (ov : AV) (bvs : List AV), n9 = n - b ∧ b ≤ n ∧ Srf (W.next + 2) s_.H ov fr bvs (upTo cols least n fr d1 us b) ∧ Grow W s_.H ∧ W.next + 2 ≤ s_.H.next ∧ s_.H.get W.next = some (.cells [cv, I least] 24) ∧ s_.H.get (W.next + 1) = some (.cells [I (fr : Int), bu] 27) ∧ Has 7 [(2, .ptr W.next 0), (3, .ptr (W.next + 1) 0), (5, ov), (6, I (b : Int))] s_.T ∧ s_.D = []) (n) (by unfold loopFuel; omega)
          ⟨0, v2, [bu], rfl, Nat.zero_le _, by rw [upTo_zero]; exact hs0, q2, (by show W.next + 2 ≤ G2.next; omega), f02, f12, Has.of (by kernel_rfl), rfl⟩ ?_
        rintro n9 ⟨T, D, G⟩ ⟨b, ov, bvs, hn9, hb, hsr, hg, hgx, f0, f1, ⟨f, hT⟩, hD⟩
        dsimp only at *
        subst hT hD
        have hgn := hg.next
        have e0 : (G.get W.next).bind AObj.cs = some [cv, I least] := by rw [f0]; rfl
        have e1 : (G.get (W.next + 1)).bind AObj.cs = some [I (fr : Int), bu] := by rw [f1]; rfl
        have jc2 : (G.get cb).bind AObj.cs = some ccs := by rw [hg.get _ (by omega), hg0]; exact j20
        have hbl9 : bvs.length ≤ 20000000 := by (have := upTo_len (cols := cols) (least := least) (fr := fr) (d := d1) (us := us) hb; have h7 := hsr.2.1; have h6 : (n + 1) ^ (d1 + 1 + 1) ≤ 20000000 := (by rw [← hdd]; exact hq); omega)
        have hov := hsr.1.one
        refine Ok.seq ?_
        refine Ok.seq ?_
        refine Ok.region ?_
        refine OkO.move rfl rfl ?_
        refine OkO.fieldAddr (o := 0) rfl (by kernel_rfl) rfl ?_
        refine OkO.load rfl rfl (lda (n := 1) (by kernel_rfl) (by first | assumption | (simp (disch := first | omega | (simp only [hNw, hPt]; omega)) only [gn0, gn1, gn2, gn3, gn4, gn5, gp0, gno, gpo] <;> first | rfl | assumption | exact gp0 _ _ _ | exact gn0 _ _)) (by first | rfl | assumption)) ?_
        refine OkO.index (sz := 1) (n := 0) rfl rfl rfl (by kernel_rfl) (by first | assumption | rfl | exact slAt_slice (by omega) | exact slAt_opn (by omega)) ?_ -- index ('Go.Operand.tmp', 34) ('Go.Operand.const', ('Go.Value.int', 'Go.IntKind.i64', 0))
        refine OkO.load rfl rfl (lda (n := 1) (by kernel_rfl) (by first | assumption | (simp (disch := first | omega | (simp only [hNw, hPt]; omega)) only [gn0, gn1, gn2, gn3, gn4, gn5, gp0, gno, gpo] <;> first | rfl | assumption | exact gp0 _ _ _ | exact gn0 _ _)) (by first | rfl | assumption)) ?_
        refine OkO.builtin rfl rfl rfl (bln (by kernel_rfl) (by first | assumption | rfl)) ?_
        refine OkO.bin rfl rfl rfl (bin_lss _ _) ?_
        refine OkO.nil ?_
        refine Ok.cond rfl (fun h4 => ?_) (fun h4 => ?_)
        · -- yes h4
          have hbl : b < n := by simpa using h4
          refine Ok.skip ?_
          refine Ok.seq ?_
          refine Ok.block ?_
          refine Ok.seq ?_
          refine Ok.region ?_
          refine OkO.fieldAddr (o := 1) rfl (by kernel_rfl) rfl ?_
          refine OkO.load rfl rfl (lda (n := 1) (by kernel_rfl) (by first | assumption | (simp (disch := first | omega | (simp only [hNw, hPt]; omega)) only [gn0, gn1, gn2, gn3, gn4, gn5, gp0, gno, gpo] <;> first | rfl | assumption | exact gp0 _ _ _ | exact gn0 _ _)) (by first | rfl | assumption)) ?_
          refine OkO.builtin rfl rfl rfl (bln (by kernel_rfl) (by first | assumption | rfl)) ?_
          refine OkO.assign rfl rfl ?_
          refine OkO.nil ?_
          refine Ok.seq ?_
          refine Ok.region ?_
          refine OkO.move rfl rfl ?_
          refine OkO.bin rfl rfl rfl (bin_eql _ _) ?_
          refine OkO.move rfl rfl ?_
          refine OkO.split (d := 46) rfl (fun g5 => ?_) (fun g5 => ?_)
          · -- true g5
            have hus0 : us = [] := by simpa using g5
            have hnear : nearB us b = true := by rw [hus0]; rfl
            refine OkO.skip rfl ?_
            refine OkO.skip rfl ?_
            refine OkO.skip rfl ?_
            refine OkO.skip rfl ?_
            refine OkO.skip rfl ?_
            refine OkO.skip rfl ?_
            refine OkO.skip rfl ?_
            refine OkO.skip rfl ?_
            refine OkO.skip rfl ?_
            refine OkO.pick (b := true) rfl rfl (fun _ => rfl) nofun ?_
            refine OkO.nil ?_
            refine Ok.condT rfl ?_
            refine Ok.drawn [(0, true, []), (1, true, []), (2, true, []), (3, true, []), (4, true, [3, 1]), (5, true, []), (6, true, []), (8, true, []), (9, true, [6, 3, 1]), (7, false, [3, 1]), (10, false, [6, 3, 1]), (11, true, []), (12, false, [6, 3]), (13, false, [6, 3, 1]), (14, false, [])] (by kernel_rfl) ?_
            refine OkP.step ?_
            refine OkO.move rfl rfl ?_
            refine OkO.nil ⟨rfl, ?_⟩
            refine OkP.step ?_
            refine OkO.load rfl rfl (ldg (n := 2) (by kernel_rfl) (by first | assumption | (simp (disch := first | omega | (simp only [hNw, hPt]; omega)) only [gn0, gn1, gn2, gn3, gn4, gn5, gp0, gno, gpo] <;> first | rfl | assumption | exact gp0 _ _ _ | exact gn0 _ _)) (by first | rfl | assumption)) ?_
            refine OkO.nil ⟨rfl, ?_⟩
            refine OkP.step ?_
            refine OkO.fieldAddr (o := 0) rfl (by kernel_rfl) rfl ?_
            refine OkO.nil ⟨rfl, ?_⟩
            refine OkP.step ?_
            refine OkO.load rfl rfl (lda (n := 1) (by kernel_rfl) (by first | assumption | (simp (disch := first | omega | (simp only [hNw, hPt]; omega)) only [gn0, gn1, gn2, gn3, gn4, gn5, gp0, gno, gpo] <;> first | rfl | assumption | exact gp0 _ _ _ | exact gn0 _ _)) (by first | rfl | assumption)) ?_
            refine OkO.nil ⟨rfl, ?_⟩
            refine OkP.step ?_
            refine OkO.buildSlice (el := 3) (sz := 1) (z := [.int .i64 0]) rfl (by kernel_rfl) (by decide) rfl rfl ?_
            refine OkO.nil ⟨(sco (sld rfl rfl (lda (n := 1) (by kernel_rfl) (by first | assumption | (simp (disch := first | omega | (simp only [hNw, hPt]; omega)) only [gn0, gn1, gn2, gn3, gn4, gn5, gp0, gno, gpo] <;> first | rfl | assumption | exact gp0 _ _ _ | exact gn0 _ _)) (by first | rfl | assumption)) rfl (eqr _ (by first | rfl | exact lpl (by assumption) | (simp [AV.plain, AV.plains, AV.cells, pc, pbu])))) (sco (sld rfl rfl (ldg (n := 2) (by kernel_rfl) (by first | assumption | (simp (disch := first | omega | (simp only [hNw, hPt]; omega)) only [gn0, gn1, gn2, gn3, gn4, gn5, gp0, gno, gpo] <;> first | rfl | assumption | exact gp0 _ _ _ | exact gn0 _ _)) (by first | rfl | assumption)) rfl (eqr _ (by first | rfl | exact lpl (by assumption) | (simp [AV.plain, AV.plains, AV.cells, pc, pbu])))) rfl)), ?_⟩
            refine OkP.step ?_
            refine OkO.fieldAddr (o := 1) rfl (by kernel_rfl) rfl ?_
            refine OkO.nil ⟨rfl, ?_⟩
            refine OkP.step ?_
            refine OkO.load rfl rfl (lda (n := 1) (by kernel_rfl) (by first | assumption | (simp (disch := first | omega | (simp only [hNw, hPt]; omega)) only [gn0, gn1, gn2, gn3, gn4, gn5, gp0, gno, gpo] <;> first | rfl | assumption | exact gp0 _ _ _ | exact gn0 _ _)) (by first | rfl | assumption)) ?_
            refine OkO.nil ⟨rfl, ?_⟩
            refine OkP.step ?_
            refine OkO.move rfl rfl ?_
            refine OkO.nil ⟨rfl, ?_⟩
            refine OkP.step ?_
            refine OkO.buildSlice (el := 3) (sz := 1) (z := [.int .i64 0]) rfl (by kernel_rfl) (by decide) rfl rfl ?_
            refine OkO.nil ⟨(sco (sld rfl rfl (lda (n := 1) (by kernel_rfl) (by first | assumption | (simp (disch := first | omega | (simp only [hNw, hPt]; omega)) only [gn0, gn1, gn2, gn3, gn4, gn5, gp0, gno, gpo] <;> first | rfl | assumption | exact gp0 _ _ _ | exact gn0 _ _)) (by first | rfl | assumption)) rfl (eqr _ (by first | rfl | exact lpl (by assumption) | (simp [AV.plain, AV.plains, AV.cells, pc, pbu])))) (sco (sld rfl rfl (lda (n := 1) (by kernel_rfl) (by first | assumption | (simp (disch := first | omega | (simp only [hNw, hPt]; omega)) only [gn0, gn1, gn2, gn3, gn4, gn5, gp0, gno, gpo] <;> first | rfl | assumption | exact gp0 _ _ _ | exact gn0 _ _)) (by first | rfl | assumption)) rfl (eqr _ (by first | rfl | exact lpl (by assumption) | (simp [AV.plain, AV.plains, AV.cells, pc, pbu])))) (sco (sld rfl rfl (ldg (n := 2) (by kernel_rfl) (by first | assumption | (simp (disch := first | omega | (simp only [hNw, hPt]; omega)) only [gn0, gn1, gn2, gn3, gn4, gn5, gp0, gno, gpo] <;> first | rfl | assumption | exact gp0 _ _ _ | exact gn0 _ _)) (by first | rfl | assumption)) rfl (eqr _ (by first | rfl | exact lpl (by assumption) | (simp [AV.plain, AV.plains, AV.cells, pc, pbu])))) rfl))), ?_⟩
            refine OkP.step ?_
            refine OkO.builtinE rfl rfl rfl (lit_copy (G := G) (b := b) (x := bu) (us := us) ((Mine.row (l := us.map fun (k : Nat) => [I (k : Int)]) (by rw [flatN]; exact hU.to (hE _ (by (try dsimp only); repeat (first | exact hg | exact g2 | exact hG | apply Grow.new | (refine Grow.put ?_ _ (by first | omega | (simp only [hNw, hPt]; omega))))))) (fun x hx => by simp only [List.mem_map] at hx; obtain ⟨y, _, rfl⟩ := hx; rfl) (by omega))) (by omega)) ?_
            rintro v1 G1 hL1
            have e01 : (G1.get W.next).bind AObj.cs = some [cv, I least] := by rw [hL1.old (by omega)]; exact e0
            have e11 : (G1.get (W.next + 1)).bind AObj.cs = some [I (fr : Int), bu] := by rw [hL1.old (by omega)]; exact e1
            refine OkO.nil ⟨(sco (sld rfl rfl (lda (n := 1) (by kernel_rfl) (by first | assumption | (simp (disch := first | omega | (simp only [hNw, hPt]; omega)) only [gn0, gn1, gn2, gn3, gn4, gn5, gp0, gno, gpo] <;> first | rfl | assumption | exact gp0 _ _ _ | exact gn0 _ _)) (by first | rfl | assumption)) rfl (eqr _ (by first | rfl | exact lpl (by assumption) | (simp [AV.plain, AV.plains, AV.cells, pc, pbu])))) (sco (sld rfl rfl (ldg (n := 2) (by kernel_rfl) (by first | assumption | (simp (disch := first | omega | (simp only [hNw, hPt]; omega)) only [gn0, gn1, gn2, gn3, gn4, gn5, gp0, gno, gpo] <;> first | rfl | assumption | exact gp0 _ _ _ | exact gn0 _ _)) (by first | rfl | assumption)) rfl (eqr _ (by first | rfl | exact lpl (by assumption) | (simp [AV.plain, AV.plains, AV.cells, pc, pbu])))) rfl)), ?_⟩
            refine OkP.step ?_
            refine OkO.builtinE rfl rfl rfl (lead_app (W := W) (b := b) hL1 hg (by omega)) ?_
            rintro _ G2 ⟨q1, q2, q3, ⟨bk, mm, rfl⟩, q4⟩
            have e02 : (G2.get W.next).bind AObj.cs = some [cv, I least] := by rw [q4 _ (by omega)]; exact e0
            have e12 : (G2.get (W.next + 1)).bind AObj.cs = some [I (fr : Int), bu] := by rw [q4 _ (by omega)]; exact e1
            refine OkO.nil ⟨(sco (sld rfl rfl (lda (n := 1) (by kernel_rfl) (by first | assumption | (simp (disch := first | omega | (simp only [hNw, hPt]; omega)) only [gn0, gn1, gn2, gn3, gn4, gn5, gp0, gno, gpo] <;> first | rfl | assumption | exact gp0 _ _ _ | exact gn0 _ _)) (by first | rfl | assumption)) rfl (eqr _ (by first | rfl | exact lpl (by assumption) | (simp [AV.plain, AV.plains, AV.cells, pc, pbu])))) (sco (sld rfl rfl (lda (n := 1) (by kernel_rfl) (by first | assumption | (simp (disch := first | omega | (simp only [hNw, hPt]; omega)) only [gn0, gn1, gn2, gn3, gn4, gn5, gp0, gno, gpo] <;> first | rfl | assumption | exact gp0 _ _ _ | exact gn0 _ _)) (by first | rfl | assumption)) rfl (eqr _ (by first | rfl | exact lpl (by assumption) | (simp [AV.plain, AV.plains, AV.cells, pc, pbu])))) (sco (sld rfl rfl (ldg (n := 2) (by kernel_rfl) (by first | assumption | (simp (disch := first | omega | (simp only [hNw, hPt]; omega)) only [gn0, gn1, gn2, gn3, gn4, gn5, gp0, gno, gpo] <;> first | rfl | assumption | exact gp0 _ _ _ | exact gn0 _ _)) (by first | rfl | assumption)) rfl (eqr _ (by first | rfl | exact lpl (by assumption) | (simp [AV.plain, AV.plains, AV.cells, pc, pbu])))) rfl))), ?_⟩
            refine OkP.step ?_
            refine OkO.build (z := [.int .i64 0, .nils]) (pl := [(0, 1), (1, 1)]) rfl (by kernel_rfl) rfl rfl ?_
            refine OkO.nil ⟨rfl, ?_⟩
            refine OkP.step ?_
            refine OkO.callE rfl rfl rfl rfl rfl (ih d1 (us ++ [b]) (.opn bk mm) G2 hdd (by simp only [List.length_append, List.length_cons, List.length_nil]; omega) (fun k hk => by (rcases List.mem_append.1 hk with h9 | h9); (· exact hbd k h9); (· simp at h9; omega)) (hM.ext (hE _ q2)) (q1.low (Nat.zero_le _))) ?_ -- "sackung/sackungref01.Surfaces"
            rintro v9 H9 ⟨q9, bvs9, hs9⟩
            have g9 : Grow W H9 := Grow.ret q2 q9
            have n9x := q9.ext.next
            have e03 : (H9.get W.next).bind AObj.cs = some [cv, I least] := by rw [q9.ext.get _ (by omega)]; exact e02
            have e13 : (H9.get (W.next + 1)).bind AObj.cs = some [I (fr : Int), bu] := by rw [q9.ext.get _ (by omega)]; exact e12
            have hsr9 : Srf (W.next + 2) H9 ov fr bvs (upTo cols least n fr d1 us b) := hsr.to ⟨by omega, fun j hj => (q9.ext.get j (by omega)).trans (q4 j hj)⟩
            have hbl8 : bvs9.length ≤ 20000000 := by (have h8 := surfs_len cols least n fr d1 (us ++ [b]); have h7 := hs9.2.1; have h6 : (n + 1) ^ (d1 + 1) ≤ (n + 1) ^ (d + 1) := Nat.pow_le_pow_right (by omega) (by omega); omega)
            have hcl9 := cellsOf_len fr bvs
            have hcl8 := cellsOf_len fr bvs9
            refine OkO.nil ⟨(sco (sld rfl rfl (lda (n := 1) (by kernel_rfl) (by first | assumption | (simp (disch := first | omega | (simp only [hNw, hPt]; omega)) only [gn0, gn1, gn2, gn3, gn4, gn5, gp0, gno, gpo] <;> first | rfl | assumption | exact gp0 _ _ _ | exact gn0 _ _)) (by first | rfl | assumption)) rfl (eqr _ (by first | rfl | exact lpl (by assumption) | (simp [AV.plain, AV.plains, AV.cells, pc, pbu])))) (sco (sld rfl rfl (lda (n := 1) (by kernel_rfl) (by first | assumption | (simp (disch := first | omega | (simp only [hNw, hPt]; omega)) only [gn0, gn1, gn2, gn3, gn4, gn5, gp0, gno, gpo] <;> first | rfl | assumption | exact gp0 _ _ _ | exact gn0 _ _)) (by first | rfl | assumption)) rfl (eqr _ (by first | rfl | exact lpl (by assumption) | (simp [AV.plain, AV.plains, AV.cells, pc, pbu])))) rfl)), ?_⟩
            refine OkP.step ?_
            refine OkO.builtinE rfl rfl rfl (Mine.app3 (W := W) (k0 := W.next + 2) (t := 57) (u := 57) (sz := 2) (by_ := 32) (e := 27) hsr9.1 g9 (by omega) (by omega) (by kernel_rfl) (by kernel_rfl) hs9.elems.1 hs9.elems.2 hcl8 (by omega) (by omega) hs9.atoms) ?_
            rintro v3 G3 ⟨r1, r2, r3, r4⟩
            have hsr3 := hsr9.add hs9 r1 r3 r4
            have f03 : G3.get W.next = some (.cells [cv, I least] 24) := by rw [r4 _ (by omega) (hsr9.1.far (by omega)), q9.ext.get _ (by omega), q4 _ (by omega)]; exact f0
            have f13 : G3.get (W.next + 1) = some (.cells [I (fr : Int), bu] 27) := by rw [r4 _ (by omega) (hsr9.1.far (by omega)), q9.ext.get _ (by omega), q4 _ (by omega)]; exact f1
            have e04 : (G3.get W.next).bind AObj.cs = some [cv, I least] := by rw [f03]; rfl
            have e14 : (G3.get (W.next + 1)).bind AObj.cs = some [I (fr : Int), bu] := by rw [f13]; rfl
            refine OkO.nil ⟨(sco (sld rfl rfl (lda (n := 1) (by kernel_rfl) (by first | assumption | (simp (disch := first | omega | (simp only [hNw, hPt]; omega)) only [gn0, gn1, gn2, gn3, gn4, gn5, gp0, gno, gpo] <;> first | rfl | assumption | exact gp0 _ _ _ | exact gn0 _ _)) (by first | rfl | assumption)) rfl (eqr _ (by first | rfl | exact lpl (by assumption) | (simp [AV.plain, AV.plains, AV.cells, pc, pbu])))) (sco (sld rfl rfl (lda (n := 1) (by kernel_rfl) (by first | assumption | (simp (disch := first | omega | (simp only [hNw, hPt]; omega)) only [gn0, gn1, gn2, gn3, gn4, gn5, gp0, gno, gpo] <;> first | rfl | assumption | exact gp0 _ _ _ | exact gn0 _ _)) (by first | rfl | assumption)) rfl (eqr _ (by first | rfl | exact lpl (by assumption) | (simp [AV.plain, AV.plains, AV.cells, pc, pbu])))) (sco (sld rfl rfl (ldg (n := 2) (by kernel_rfl) (by first | assumption | (simp (disch := first | omega | (simp only [hNw, hPt]; omega)) only [gn0, gn1, gn2, gn3, gn4, gn5, gp0, gno, gpo] <;> first | rfl | assumption | exact gp0 _ _ _ | exact gn0 _ _)) (by first | rfl | assumption)) rfl (eqr _ (by first | rfl | exact lpl (by assumption) | (simp [AV.plain, AV.plains, AV.cells, pc, pbu])))) rfl))), ?_⟩
            refine OkP.step ?_
            refine OkO.assign rfl rfl ?_
            refine OkO.nil ⟨rfl, ?_⟩
            refine OkP.nil ?_
            refine Ok.region ?_
            refine OkO.move rfl rfl ?_
            refine OkO.bin rfl rfl rfl (bin_add (by omega) (by omega)) ?_
            refine OkO.assign rfl rfl ?_
            refine OkO.nil ?_
            first | exact ⟨n - (b + 1), by omega, b + 1, v3, bvs ++ bvs9, rfl, by omega, by rw [upTo_yes hnear]; exact hsr3, r2, (by show W.next + 2 ≤ G3.next; omega), f03, f13, Has.of (by kernel_rfl), rfl⟩ | exact ⟨n - (b + 1), by omega, b + 1, ov, bvs, rfl, by omega, by rw [upTo_no hnear]; exact hsr, hg, hgx, f0, f1, Has.of (by kernel_rfl), rfl⟩
          · -- false g5
            have hus1 : us ≠ [] := by simpa using g5
            have husl := List.length_pos_iff.2 hus1
            obtain ⟨y, hy⟩ : ∃ y, us[us.length - 1]? = some y := ⟨_, List.getElem?_eq_getElem (by omega)⟩
            have hyn : y < n := hbd y (List.mem_of_getElem? hy)
            have hglast : us.getLast? = some y := by rw [List.getLast?_eq_getElem?]; exact hy
            obtain ⟨ub, uo, ucs, u1, u2, u3, u4⟩ := (Mine.row (l := us.map fun (k : Nat) => [I (k : Int)]) (by rw [flatN]; exact hU.to (hE _ hg)) (fun x hx => by simp only [List.mem_map] at hx; obtain ⟨y, _, rfl⟩ := hx; rfl) (by omega)).at_ (us.length - 1) [I (y : Int)] (by rw [List.getElem?_map, hy]; rfl)
            have u5 := seg_one u3
            refine OkO.move rfl rfl ?_
            refine OkO.fieldAddr (o := 1) rfl (by kernel_rfl) rfl ?_
            refine OkO.load rfl rfl (lda (n := 1) (by kernel_rfl) (by first | assumption | (simp (disch := first | omega | (simp only [hNw, hPt]; omega)) only [gn0, gn1, gn2, gn3, gn4, gn5, gp0, gno, gpo] <;> first | rfl | assumption | exact gp0 _ _ _ | exact gn0 _ _)) (by first | rfl | assumption)) ?_
            refine OkO.move rfl rfl ?_
            refine OkO.bin rfl rfl rfl (bin_sub (by omega) (by omega)) ?_
            refine OkO.index (sz := 1) (n := us.length - 1) rfl rfl (congrArg (fun z => some (I z)) (by omega)) (by kernel_rfl) (by first | assumption | rfl | exact slAt_slice (by omega) | exact slAt_opn (by omega)) ?_ -- index ('Go.Operand.tmp', 49) ('Go.Operand.tmp', 51)
            refine OkO.load rfl rfl (lda (n := 1) (by kernel_rfl) (by first | assumption | (simp (disch := first | omega | (simp only [hNw, hPt]; omega)) only [gn0, gn1, gn2, gn3, gn4, gn5, gp0, gno, gpo] <;> first | rfl | assumption | exact gp0 _ _ _ | exact gn0 _ _)) (by first | rfl | assumption)) ?_
            refine OkO.bin rfl rfl rfl (bin_sub (by omega) (by omega)) ?_
            refine OkO.callV rfl rfl rfl rfl rfl (c37 (m + 1) _ _ _ _) ?_ -- "sackung/sackungref01.In"
            refine OkO.pick (b := false) rfl rfl nofun (fun _ => rfl) ?_
            refine OkO.nil ?_
            refine Ok.cond rfl (fun h6 => ?_) (fun h6 => ?_)
            · -- yes h6
              have hnear : nearB us b = true := by (unfold nearB; rw [hglast]; exact h6)
              refine Ok.drawn [(0, true, []), (1, true, []), (2, true, []), (3, true, []), (4, true, [3, 1]), (5, true, []), (6, true, []), (8, true, []), (9, true, [6, 3, 1]), (7, false, [3, 1]), (10, false, [6, 3, 1]), (11, true, []), (12, false, [6, 3]), (13, false, [6, 3, 1]), (14, false, [])] (by kernel_rfl) ?_
              refine OkP.step ?_
              refine OkO.move rfl rfl ?_
              refine OkO.nil ⟨rfl, ?_⟩
              refine OkP.step ?_
              refine OkO.load rfl rfl (ldg (n := 2) (by kernel_rfl) (by first | assumption | (simp (disch := first | omega | (simp only [hNw, hPt]; omega)) only [gn0, gn1, gn2, gn3, gn4, gn5, gp0, gno, gpo] <;> first | rfl | assumption | exact gp0 _ _ _ | exact gn0 _ _)) (by first | rfl | assumption)) ?_
              refine OkO.nil ⟨rfl, ?_⟩
              refine OkP.step ?_
              refine OkO.fieldAddr (o := 0) rfl (by kernel_rfl) rfl ?_
              refine OkO.nil ⟨rfl, ?_⟩
              refine OkP.step ?_
              refine OkO.load rfl rfl (lda (n := 1) (by kernel_rfl) (by first | assumption | (simp (disch := first | omega | (simp only [hNw, hPt]; omega)) only [gn0, gn1, gn2, gn3, gn4, gn5, gp0, gno, gpo] <;> first | rfl | assumption | exact gp0 _ _ _ | exact gn0 _ _)) (by first | rfl | assumption)) ?_
              refine OkO.nil ⟨rfl, ?_⟩
              refine OkP.step ?_
              refine OkO.buildSlice (el := 3) (sz := 1) (z := [.int .i64 0]) rfl (by kernel_rfl) (by decide) rfl rfl ?_
              refine OkO.nil ⟨(sco (sld rfl rfl (lda (n := 1) (by kernel_rfl) (by first | assumption | (simp (disch := first | omega | (simp only [hNw, hPt]; omega)) only [gn0, gn1, gn2, gn3, gn4, gn5, gp0, gno, gpo] <;> first | rfl | assumption | exact gp0 _ _ _ | exact gn0 _ _)) (by first | rfl | assumption)) rfl (eqr _ (by first | rfl | exact lpl (by assumption) | (simp [AV.plain, AV.plains, AV.cells, pc, pbu])))) (sco (sld rfl rfl (ldg (n := 2) (by kernel_rfl) (by first | assumption | (simp (disch := first | omega | (simp only [hNw, hPt]; omega)) only [gn0, gn1, gn2, gn3, gn4, gn5, gp0, gno, gpo] <;> first | rfl | assumption | exact gp0 _ _ _ | exact gn0 _ _)) (by first | rfl | assumption)) rfl (eqr _ (by first | rfl | exact lpl (by assumption) | (simp [AV.plain, AV.plains, AV.cells, pc, pbu])))) rfl)), ?_⟩
              refine OkP.step ?_
              refine OkO.fieldAddr (o := 1) rfl (by kernel_rfl) rfl ?_
              refine OkO.nil ⟨rfl, ?_⟩
              refine OkP.step ?_
              refine OkO.load rfl rfl (lda (n := 1) (by kernel_rfl) (by first | assumption | (simp (disch := first | omega | (simp only [hNw, hPt]; omega)) only [gn0, gn1, gn2, gn3, gn4, gn5, gp0, gno, gpo] <;> first | rfl | assumption | exact gp0 _ _ _ | exact gn0 _ _)) (by first | rfl | assumption)) ?_
              refine OkO.nil ⟨rfl, ?_⟩
              refine OkP.step ?_
              refine OkO.move rfl rfl ?_
              refine OkO.nil ⟨rfl, ?_⟩
              refine OkP.step ?_
              refine OkO.buildSlice (el := 3) (sz := 1) (z := [.int .i64 0]) rfl (by kernel_rfl) (by decide) rfl rfl ?_
              refine OkO.nil ⟨(sco (sld rfl rfl (lda (n := 1) (by kernel_rfl) (by first | assumption | (simp (disch := first | omega | (simp only [hNw, hPt]; omega)) only [gn0, gn1, gn2, gn3, gn4, gn5, gp0, gno, gpo] <;> first | rfl | assumption | exact gp0 _ _ _ | exact gn0 _ _)) (by first | rfl | assumption)) rfl (eqr _ (by first | rfl | exact lpl (by assumption) | (simp [AV.plain, AV.plains, AV.cells, pc, pbu])))) (sco (sld rfl rfl (lda (n := 1) (by kernel_rfl) (by first | assumption | (simp (disch := first | omega | (simp only [hNw, hPt]; omega)) only [gn0, gn1, gn2, gn3, gn4, gn5, gp0, gno, gpo] <;> first | rfl | assumption | exact gp0 _ _ _ | exact gn0 _ _)) (by first | rfl | assumption)) rfl (eqr _ (by first | rfl | exact lpl (by assumption) | (simp [AV.plain, AV.plains, AV.cells, pc, pbu])))) (sco (sld rfl rfl (ldg (n := 2) (by kernel_rfl) (by first | assumption | (simp (disch := first | omega | (simp only [hNw, hPt]; omega)) only [gn0, gn1, gn2, gn3, gn4, gn5, gp0, gno, gpo] <;> first | rfl | assumption | exact gp0 _ _ _ | exact gn0 _ _)) (by first | rfl | assumption)) rfl (eqr _ (by first | rfl | exact lpl (by assumption) | (simp [AV.plain, AV.plains, AV.cells, pc, pbu])))) rfl))), ?_⟩
              refine OkP.step ?_
              refine OkO.builtinE rfl rfl rfl (lit_copy (G := G) (b := b) (x := bu) (us := us) ((Mine.row (l := us.map fun (k : Nat) => [I (k : Int)]) (by rw [flatN]; exact hU.to (hE _ (by (try dsimp only); repeat (first | exact hg | exact g2 | exact hG | apply Grow.new | (refine Grow.put ?_ _ (by first | omega | (simp only [hNw, hPt]; omega))))))) (fun x hx => by simp only [List.mem_map] at hx; obtain ⟨y, _, rfl⟩ := hx; rfl) (by omega))) (by omega)) ?_
              rintro v1 G1 hL1
              have e01 : (G1.get W.next).bind AObj.cs = some [cv, I least] := by rw [hL1.old (by omega)]; exact e0
              have e11 : (G1.get (W.next + 1)).bind AObj.cs = some [I (fr : Int), bu] := by rw [hL1.old (by omega)]; exact e1
              refine OkO.nil ⟨(sco (sld rfl rfl (lda (n := 1) (by kernel_rfl) (by first | assumption | (simp (disch := first | omega | (simp only [hNw, hPt]; omega)) only [gn0, gn1, gn2, gn3, gn4, gn5, gp0, gno, gpo] <;> first | rfl | assumption | exact gp0 _ _ _ | exact gn0 _ _)) (by first | rfl | assumption)) rfl (eqr _ (by first | rfl | exact lpl (by assumption) | (simp [AV.plain, AV.plains, AV.cells, pc, pbu])))) (sco (sld rfl rfl (ldg (n := 2) (by kernel_rfl) (by first | assumption | (simp (disch := first | omega | (simp only [hNw, hPt]; omega)) only [gn0, gn1, gn2, gn3, gn4, gn5, gp0, gno, gpo] <;> first | rfl | assumption | exact gp0 _ _ _ | exact gn0 _ _)) (by first | rfl | assumption)) rfl (eqr _ (by first | rfl | exact lpl (by assumption) | (simp [AV.plain, AV.plains, AV.cells, pc, pbu])))) rfl)), ?_⟩
              refine OkP.step ?_
              refine OkO.builtinE rfl rfl rfl (lead_app (W := W) (b := b) hL1 hg (by omega)) ?_
              rintro _ G2 ⟨q1, q2, q3, ⟨bk, mm, rfl⟩, q4⟩
              have e02 : (G2.get W.next).bind AObj.cs = some [cv, I least] := by rw [q4 _ (by omega)]; exact e0
              have e12 : (G2.get (W.next + 1)).bind AObj.cs = some [I (fr : Int), bu] := by rw [q4 _ (by omega)]; exact e1
              refine OkO.nil ⟨(sco (sld rfl rfl (lda (n := 1) (by kernel_rfl) (by first | assumption | (simp (disch := first | omega | (simp only [hNw, hPt]; omega)) only [gn0, gn1, gn2, gn3, gn4, gn5, gp0, gno, gpo] <;> first | rfl | assumption | exact gp0 _ _ _ | exact gn0 _ _)) (by first | rfl | assumption)) rfl (eqr _ (by first | rfl | exact lpl (by assumption) | (simp [AV.plain, AV.plains, AV.cells, pc, pbu])))) (sco (sld rfl rfl (lda (n := 1) (by kernel_rfl) (by first | assumption | (simp (disch := first | omega | (simp only [hNw, hPt]; omega)) only [gn0, gn1, gn2, gn3, gn4, gn5, gp0, gno, gpo] <;> first | rfl | assumption | exact gp0 _ _ _ | exact gn0 _ _)) (by first | rfl | assumption)) rfl (eqr _ (by first | rfl | exact lpl (by assumption) | (simp [AV.plain, AV.plains, AV.cells, pc, pbu])))) (sco (sld rfl rfl (ldg (n := 2) (by kernel_rfl) (by first | assumption | (simp (disch := first | omega | (simp only [hNw, hPt]; omega)) only [gn0, gn1, gn2, gn3, gn4, gn5, gp0, gno, gpo] <;> first | rfl | assumption | exact gp0 _ _ _ | exact gn0 _ _)) (by first | rfl | assumption)) rfl (eqr _ (by first | rfl | exact lpl (by assumption) | (simp [AV.plain, AV.plains, AV.cells, pc, pbu])))) rfl))), ?_⟩
              refine OkP.step ?_
              refine OkO.build (z := [.int .i64 0, .nils]) (pl := [(0, 1), (1, 1)]) rfl (by kernel_rfl) rfl rfl ?_
              refine OkO.nil ⟨rfl, ?_⟩
              refine OkP.step ?_
              refine OkO.callE rfl rfl rfl rfl rfl (ih d1 (us ++ [b]) (.opn bk mm) G2 hdd (by simp only [List.length_append, List.length_cons, List.length_nil]; omega) (fun k hk => by (rcases List.mem_append.1 hk with h9 | h9); (· exact hbd k h9); (· simp at h9; omega)) (hM.ext (hE _ q2)) (q1.low (Nat.zero_le _))) ?_ -- "sackung/sackungref01.Surfaces"
              rintro v9 H9 ⟨q9, bvs9, hs9⟩
              have g9 : Grow W H9 := Grow.ret q2 q9
              have n9x := q9.ext.next
              have e03 : (H9.get W.next).bind AObj.cs = some [cv, I least] := by rw [q9.ext.get _ (by omega)]; exact e02
              have e13 : (H9.get (W.next + 1)).bind AObj.cs = some [I (fr : Int), bu] := by rw [q9.ext.get _ (by omega)]; exact e12
              have hsr9 : Srf (W.next + 2) H9 ov fr bvs (upTo cols least n fr d1 us b) := hsr.to ⟨by omega, fun j hj => (q9.ext.get j (by omega)).trans (q4 j hj)⟩
              have hbl8 : bvs9.length ≤ 20000000 := by (have h8 := surfs_len cols least n fr d1 (us ++ [b]); have h7 := hs9.2.1; have h6 : (n + 1) ^ (d1 + 1) ≤ (n + 1) ^ (d + 1) := Nat.pow_le_pow_right (by omega) (by omega); omega)
              have hcl9 := cellsOf_len fr bvs
              have hcl8 := cellsOf_len fr bvs9
              refine OkO.nil ⟨(sco (sld rfl rfl (lda (n := 1) (by kernel_rfl) (by first | assumption | (simp (disch := first | omega | (simp only [hNw, hPt]; omega)) only [gn0, gn1, gn2, gn3, gn4, gn5, gp0, gno, gpo] <;> first | rfl | assumption | exact gp0 _ _ _ | exact gn0 _ _)) (by first | rfl | assumption)) rfl (eqr _ (by first | rfl | exact lpl (by assumption) | (simp [AV.plain, AV.plains, AV.cells, pc, pbu])))) (sco (sld rfl rfl (lda (n := 1) (by kernel_rfl) (by first | assumption | (simp (disch := first | omega | (simp only [hNw, hPt]; omega)) only [gn0, gn1, gn2, gn3, gn4, gn5, gp0, gno, gpo] <;> first | rfl | assumption | exact gp0 _ _ _ | exact gn0 _ _)) (by first | rfl | assumption)) rfl (eqr _ (by first | rfl | exact lpl (by assumption) | (simp [AV.plain, AV.plains, AV.cells, pc, pbu])))) rfl)), ?_⟩
              refine OkP.step ?_
              refine OkO.builtinE rfl rfl rfl (Mine.app3 (W := W) (k0 := W.next + 2) (t := 57) (u := 57) (sz := 2) (by_ := 32) (e := 27) hsr9.1 g9 (by omega) (by omega) (by kernel_rfl) (by kernel_rfl) hs9.elems.1 hs9.elems.2 hcl8 (by omega) (by omega) hs9.atoms) ?_
              rintro v3 G3 ⟨r1, r2, r3, r4⟩
              have hsr3 := hsr9.add hs9 r1 r3 r4
              have f03 : G3.get W.next = some (.cells [cv, I least] 24) := by rw [r4 _ (by omega) (hsr9.1.far (by omega)), q9.ext.get _ (by omega), q4 _ (by omega)]; exact f0
              have f13 : G3.get (W.next + 1) = some (.cells [I (fr : Int), bu] 27) := by rw [r4 _ (by omega) (hsr9.1.far (by omega)), q9.ext.get _ (by omega), q4 _ (by omega)]; exact f1
              have e04 : (G3.get W.next).bind AObj.cs = some [cv, I least] := by rw [f03]; rfl
              have e14 : (G3.get (W.next + 1)).bind AObj.cs = some [I (fr : Int), bu] := by rw [f13]; rfl
              refine OkO.nil ⟨(sco (sld rfl rfl (lda (n := 1) (by kernel_rfl) (by first | assumption | (simp (disch := first | omega | (simp only [hNw, hPt]; omega)) only [gn0, gn1, gn2, gn3, gn4, gn5, gp0, gno, gpo] <;> first | rfl | assumption | exact gp0 _ _ _ | exact gn0 _ _)) (by first | rfl | assumption)) rfl (eqr _ (by first | rfl | exact lpl (by assumption) | (simp [AV.plain, AV.plains, AV.cells, pc, pbu])))) (sco (sld rfl rfl (lda (n := 1) (by kernel_rfl) (by first | assumption | (simp (disch := first | omega | (simp only [hNw, hPt]; omega)) only [gn0, gn1, gn2, gn3, gn4, gn5, gp0, gno, gpo] <;> first | rfl | assumption | exact gp0 _ _ _ | exact gn0 _ _)) (by first | rfl | assumption)) rfl (eqr _ (by first | rfl | exact lpl (by assumption) | (simp [AV.plain, AV.plains, AV.cells, pc, pbu])))) (sco (sld rfl rfl (ldg (n := 2) (by kernel_rfl) (by first | assumption | (simp (disch := first | omega | (simp only [hNw, hPt]; omega)) only [gn0, gn1, gn2, gn3, gn4, gn5, gp0, gno, gpo] <;> first | rfl | assumption | exact gp0 _ _ _ | exact gn0 _ _)) (by first | rfl | assumption)) rfl (eqr _ (by first | rfl | exact lpl (by assumption) | (simp [AV.plain, AV.plains, AV.cells, pc, pbu])))) rfl))), ?_⟩
              refine OkP.step ?_
              refine OkO.assign rfl rfl ?_
              refine OkO.nil ⟨rfl, ?_⟩
              refine OkP.nil ?_
              refine Ok.region ?_
              refine OkO.move rfl rfl ?_
              refine OkO.bin rfl rfl rfl (bin_add (by omega) (by omega)) ?_
              refine OkO.assign rfl rfl ?_
              refine OkO.nil ?_
              first | exact ⟨n - (b + 1), by omega, b + 1, v3, bvs ++ bvs9, rfl, by omega, by rw [upTo_yes hnear]; exact hsr3, r2, (by show W.next + 2 ≤ G3.next; omega), f03, f13, Has.of (by kernel_rfl), rfl⟩ | exact ⟨n - (b + 1), by omega, b + 1, ov, bvs, rfl, by omega, by rw [upTo_no hnear]; exact hsr, hg, hgx, f0, f1, Has.of (by kernel_rfl), rfl⟩
            · -- no h6
              have hnear : nearB us b = false := by (unfold nearB; rw [hglast]; simpa using h6)
              refine Ok.skip ?_
              refine Ok.region ?_
              refine OkO.move rfl rfl ?_
              refine OkO.bin rfl rfl rfl (bin_add (by omega) (by omega)) ?_
              refine OkO.assign rfl rfl ?_
              refine OkO.nil ?_
              first | exact ⟨n - (b + 1), by omega, b + 1, v3, bvs ++ bvs9, rfl, by omega, by rw [upTo_yes hnear]; exact hsr3, r2, (by show W.next + 2 ≤ G3.next; omega), f03, f13, Has.of (by kernel_rfl), rfl⟩ | exact ⟨n - (b + 1), by omega, b + 1, ov, bvs, rfl, by omega, by rw [upTo_no hnear]; exact hsr, hg, hgx, f0, f1, Has.of (by kernel_rfl), rfl⟩
        · -- no h4
          have hbe : b = n := by (have : ¬ b < n := by simpa using h4); omega
          subst hbe
          rw [upTo_all, ← hdd] at hsr
          refine Ok.exit ?_
          refine Ok.seq ?_
          refine Ok.region ?_
          refine OkO.move rfl rfl ?_
          refine OkO.assign rfl rfl ?_
          refine OkO.nil ?_
          refine Ok.ret ⟨.inr rfl, ?_⟩
          refine back_newA rfl rfl (by rw [← hW]; exact hg) (fun H9 p1 p2 => ⟨p1, bvs, ?_⟩)
          exact (hsr.low (by omega)).back p2
    · -- no h2
      have hh0 : hdS cols least fr us = [] := hdS_no (.inr (by simpa using h2))
      refine Ok.skip ?_
      refine Ok.seq ?_
      refine Ok.seq ?_
      refine Ok.region ?_
      refine OkO.fieldAddr (o := 0) rfl (by kernel_rfl) rfl ?_
      refine OkO.load rfl rfl (lda (n := 1) (by kernel_rfl) (by first | assumption | (simp (disch := first | omega | (simp only [hNw, hPt]; omega)) only [gn0, gn1, gn2, gn3, gn4, gn5, gp0, gno, gpo] <;> first | rfl | assumption | exact gp0 _ _ _ | exact gn0 _ _)) (by first | rfl | assumption)) ?_
      refine OkO.fieldAddr (o := 1) rfl (by kernel_rfl) rfl ?_
      refine OkO.load rfl rfl (lda (n := 1) (by kernel_rfl) (by first | assumption | (simp (disch := first | omega | (simp only [hNw, hPt]; omega)) only [gn0, gn1, gn2, gn3, gn4, gn5, gp0, gno, gpo] <;> first | rfl | assumption | exact gp0 _ _ _ | exact gn0 _ _)) (by first | rfl | assumption)) ?_
      refine OkO.builtin rfl rfl rfl (bln (by kernel_rfl) (by first | assumption | rfl)) ?_
      refine OkO.bin rfl rfl rfl (bin_add (by omega) (by omega)) ?_
      refine OkO.fieldAddr (o := 0) rfl (by kernel_rfl) rfl ?_
      refine OkO.load rfl rfl (lda (n := 1) (by kernel_rfl) (by first | assumption | (simp (disch := first | omega | (simp only [hNw, hPt]; omega)) only [gn0, gn1, gn2, gn3, gn4, gn5, gp0, gno, gpo] <;> first | rfl | assumption | exact gp0 _ _ _ | exact gn0 _ _)) (by first | rfl | assumption)) ?_
      refine OkO.builtin rfl rfl rfl (bln (by kernel_rfl) (by first | assumption | rfl)) ?_
      refine OkO.bin rfl rfl rfl (bin_geq _ _) ?_
      refine OkO.nil ?_
      refine Ok.cond rfl (fun h7 => ?_) (fun h7 => ?_)
      · -- yes h7
        have hd0 : d = 0 := by (have h9 : (cols.length : Int) ≤ (fr : Int) + (us.length : Int) := by simpa using h7); omega
        refine Ok.seq ?_
        refine Ok.region ?_
        refine OkO.move rfl rfl ?_
        refine OkO.assign rfl rfl ?_
        refine OkO.nil ?_
        refine Ok.ret ⟨.inr rfl, ?_⟩
        refine back_newA rfl rfl (by rw [← hW]; exact (by (try dsimp only); repeat (first | exact hg | exact g2 | exact hG | apply Grow.new | (refine Grow.put ?_ _ (by first | omega | (simp only [hNw, hPt]; omega)))))) (fun H9 p1 p2 => ⟨p1, [], ?_⟩)
        rw [hd0]
        exact (Srf.low (show Srf _ _ _ _ _ _ from by (show Srf (W.next + 2) _ _ _ _ (hdS cols least fr us); rw [hh0]; exact Srf.none _ _ _)) (by omega)).back p2
      · -- no h7
        have hd1 : ∃ d1, d = d1 + 1 := ⟨d - 1, by (have h9 : ¬ (cols.length : Int) ≤ (fr : Int) + (us.length : Int) := by simpa using h7); omega⟩
        obtain ⟨d1, hdd⟩ := hd1
        refine Ok.skip ?_
        refine Ok.seq ?_
        refine Ok.seq ?_
        refine Ok.region ?_
        refine OkO.assign rfl rfl ?_
        refine OkO.nil ?_
        refine Ok.block ?_
        refine Ok.loop (fun n9 s_ => ∃ (b : Nat) (ov : AV) (bvs : List AV), n9 = n - b ∧ b ≤ n ∧ Srf (W.next + 2) s_.H ov fr bvs (upTo cols least n fr d1 us b) ∧ Grow W s_.H ∧ W.next + 2 ≤ s_.H.next ∧ s_.H.get W.next = some (.cells [cv, I least] 24) ∧ s_.H.get (W.next + 1) = some (.cells [I (fr : Int), bu] 27) ∧ Has 7 [(2, .ptr W.next 0), (3, .ptr (W.next + 1) 0), (5, ov), (6, I (b : Int))] s_.T ∧ s_.D = []) (n) (by unfold loopFuel; omega)
          ⟨0, .nils, [], rfl, Nat.zero_le _, by rw [upTo_zero, hh0]; exact Srf.none _ _ _, (by (try dsimp only); repeat (first | exact hg | exact g2 | exact hG | apply Grow.new | (refine Grow.put ?_ _ (by first | omega | (simp only [hNw, hPt]; omega))))), (by first | omega | (simp only [hNw, hPt]; omega)), (by first | assumption | (simp (disch := first | omega | (simp only [hNw, hPt]; omega)) only [gn0, gn1, gn2, gn3, gn4, gn5, gp0, gno, gpo] <;> first | rfl | assumption)), (by first | assumption | (simp (disch := first | omega | (simp only [hNw, hPt]; omega)) only [gn0, gn1, gn2, gn3, gn4, gn5, gp0, gno, gpo] <;> first | rfl | assumption)), Has.of (by kernel_rfl), rfl⟩ ?_
        rintro n9 ⟨T, D, G⟩ ⟨b, ov, bvs, hn9, hb, hsr, hg, hgx, f0, f1, ⟨f, hT⟩, hD⟩
        dsimp only at *
        subst hT hD
        have hgn := hg.next
        have e0 : (G.get W.next).bind AObj.cs = some [cv, I least] := by rw [f0]; rfl
        have e1 : (G.get (W.next + 1)).bind AObj.cs = some [I (fr : Int), bu] := by rw [f1]; rfl
        have jc2 : (G.get cb).bind AObj.cs = some ccs := by rw [hg.get _ (by omega), hg0]; exact j20
        have hbl9 : bvs.length ≤ 20000000 := by (have := upTo_len (cols := cols) (least := least) (fr := fr) (d := d1) (us := us) hb; have h7 := hsr.2.1; have h6 : (n + 1) ^ (d1 + 1 + 1) ≤ 20000000 := (by rw [← hdd]; exact hq); omega)
        have hov := hsr.1.one
        refine Ok.seq ?_
        refine Ok.seq ?_
        refine Ok.region ?_
        refine OkO.move rfl rfl ?_
        refine OkO.fieldAddr (o := 0) rfl (by kernel_rfl) rfl ?_
        refine OkO.load rfl rfl (lda (n := 1) (by kernel_rfl) (by first | assumption | (simp (disch := first | omega | (simp only [hNw, hPt]; omega)) only [gn0, gn1, gn2, gn3, gn4, gn5, gp0, gno, gpo] <;> first | rfl | assumption | exact gp0 _ _ _ | exact gn0 _ _)) (by first | rfl | assumption)) ?_
        refine OkO.index (sz := 1) (n := 0) rfl rfl rfl (by kernel_rfl) (by first | assumption | rfl | exact slAt_slice (by omega) | exact slAt_opn (by omega)) ?_ -- index ('Go.Operand.tmp', 34) ('Go.Operand.const', ('Go.Value.int', 'Go.IntKind.i64', 0))
        refine OkO.load rfl rfl (lda (n := 1) (by kernel_rfl) (by first | assumption | (simp (disch := first | omega | (simp only [hNw, hPt]; omega)) only [gn0, gn1, gn2, gn3, gn4, gn5, gp0, gno, gpo] <;> first | rfl | assumption | exact gp0 _ _ _ | exact gn0 _ _)) (by first | rfl | assumption)) ?_
        refine OkO.builtin rfl rfl rfl (bln (by kernel_rfl) (by first | assumption | rfl)) ?_
        refine OkO.bin rfl rfl rfl (bin_lss _ _) ?_
        refine OkO.nil ?_
        refine Ok.cond rfl (fun h8 => ?_) (fun h8 => ?_)
        · -- yes h8
          have hbl : b < n := by simpa using h8
          refine Ok.skip ?_
          refine Ok.seq ?_
          refine Ok.block ?_
          refine Ok.seq ?_
          refine Ok.region ?_
          refine OkO.fieldAddr (o := 1) rfl (by kernel_rfl) rfl ?_
          refine OkO.load rfl rfl (lda (n := 1) (by kernel_rfl) (by first | assumption | (simp (disch := first | omega | (simp only [hNw, hPt]; omega)) only [gn0, gn1, gn2, gn3, gn4, gn5, gp0, gno, gpo] <;> first | rfl | assumption | exact gp0 _ _ _ | exact gn0 _ _)) (by first | rfl | assumption)) ?_
          refine OkO.builtin rfl rfl rfl (bln (by kernel_rfl) (by first | assumption | rfl)) ?_
          refine OkO.assign rfl rfl ?_
          refine OkO.nil ?_
          refine Ok.seq ?_
          refine Ok.region ?_
          refine OkO.move rfl rfl ?_
          refine OkO.bin rfl rfl rfl (bin_eql _ _) ?_
          refine OkO.move rfl rfl ?_
          refine OkO.split (d := 46) rfl (fun g9 => ?_) (fun g9 => ?_)
          · -- true g9
            have hus0 : us = [] := by simpa using g9
            have hnear : nearB us b = true := by rw [hus0]; rfl
            refine OkO.skip rfl ?_
            refine OkO.skip rfl ?_
            refine OkO.skip rfl ?_
            refine OkO.skip rfl ?_
            refine OkO.skip rfl ?_
            refine OkO.skip rfl ?_
            refine OkO.skip rfl ?_
            refine OkO.skip rfl ?_
            refine OkO.skip rfl ?_
            refine OkO.pick (b := true) rfl rfl (fun _ => rfl) nofun ?_
            refine OkO.nil ?_
            refine Ok.condT rfl ?_
            refine Ok.drawn [(0, true, []), (1, true, []), (2, true, []), (3, true, []), (4, true, [3, 1]), (5, true, []), (6, true, []), (8, true, []), (9, true, [6, 3, 1]), (7, false, [3, 1]), (10, false, [6, 3, 1]), (11, true, []), (12, false, [6, 3]), (13, false, [6, 3, 1]), (14, false, [])] (by kernel_rfl) ?_
            refine OkP.step ?_
            refine OkO.move rfl rfl ?_
            refine OkO.nil ⟨rfl, ?_⟩
            refine OkP.step ?_
            refine OkO.load rfl rfl (ldg (n := 2) (by kernel_rfl) (by first | assumption | (simp (disch := first | omega | (simp only [hNw, hPt]; omega)) only [gn0, gn1, gn2, gn3, gn4, gn5, gp0, gno, gpo] <;> first | rfl | assumption | exact gp0 _ _ _ | exact gn0 _ _)) (by first | rfl | assumption)) ?_
            refine OkO.nil ⟨rfl, ?_⟩
            refine OkP.step ?_
            refine OkO.fieldAddr (o := 0) rfl (by kernel_rfl) rfl ?_
            refine OkO.nil ⟨rfl, ?_⟩
            refine OkP.step ?_
            refine OkO.load rfl rfl (lda (n := 1) (by kernel_rfl) (by first | assumption | (simp (disch := first | omega | (simp only [hNw, hPt]; omega)) only [gn0, gn1, gn2, gn3, gn4, gn5, gp0, gno, gpo] <;> first | rfl | assumption | exact gp0 _ _ _ | exact gn0 _ _)) (by first | rfl | assumption)) ?_
            refine OkO.nil ⟨rfl, ?_⟩
            refine OkP.step ?_
            refine OkO.buildSlice (el := 3) (sz := 1) (z := [.int .i64 0]) rfl (by kernel_rfl) (by decide) rfl rfl ?_
            refine OkO.nil ⟨(sco (sld rfl rfl (lda (n := 1) (by kernel_rfl) (by first | assumption | (simp (disch := first | omega | (simp only [hNw, hPt]; omega)) only [gn0, gn1, gn2, gn3, gn4, gn5, gp0, gno, gpo] <;> first | rfl | assumption | exact gp0 _ _ _ | exact gn0 _ _)) (by first | rfl | assumption)) rfl (eqr _ (by first | rfl | exact lpl (by assumption) | (simp [AV.plain, AV.plains, AV.cells, pc, pbu])))) (sco (sld rfl rfl (ldg (n := 2) (by kernel_rfl) (by first | assumption | (simp (disch := first | omega | (simp only [hNw, hPt]; omega)) only [gn0, gn1, gn2, gn3, gn4, gn5, gp0, gno, gpo] <;> first | rfl | assumption | exact gp0 _ _ _ | exact gn0 _ _)) (by first | rfl | assumption)) rfl (eqr _ (by first | rfl | exact lpl (by assumption) | (simp [AV.plain, AV.plains, AV.cells, pc, pbu])))) rfl)), ?_⟩
            refine OkP.step ?_
            refine OkO.fieldAddr (o := 1) rfl (by kernel_rfl) rfl ?_
            refine OkO.nil ⟨rfl, ?_⟩
            refine OkP.step ?_
            refine OkO.load rfl rfl (lda (n := 1) (by kernel_rfl) (by first | assumption | (simp (disch := first | omega | (simp only [hNw, hPt]; omega)) only [gn0, gn1, gn2, gn3, gn4, gn5, gp0, gno, gpo] <;> first | rfl | assumption | exact gp0 _ _ _ | exact gn0 _ _)) (by first | rfl | assumption)) ?_
            refine OkO.nil ⟨rfl, ?_⟩
            refine OkP.step ?_
            refine OkO.move rfl rfl ?_
            refine OkO.nil ⟨rfl, ?_⟩
            refine OkP.step ?_
            refine OkO.buildSlice (el := 3) (sz := 1) (z := [.int .i64 0]) rfl (by kernel_rfl) (by decide) rfl rfl ?_
            refine OkO.nil ⟨(sco (sld rfl rfl (lda (n := 1) (by kernel_rfl) (by first | assumption | (simp (disch := first | omega | (simp only [hNw, hPt]; omega)) only [gn0, gn1, gn2, gn3, gn4, gn5, gp0, gno, gpo] <;> first | rfl | assumption | exact gp0 _ _ _ | exact gn0 _ _)) (by first | rfl | assumption)) rfl (eqr _ (by first | rfl | exact lpl (by assumption) | (simp [AV.plain, AV.plains, AV.cells, pc, pbu])))) (sco (sld rfl rfl (lda (n := 1) (by kernel_rfl) (by first | assumption | (simp (disch := first | omega | (simp only [hNw, hPt]; omega)) only [gn0, gn1, gn2, gn3, gn4, gn5, gp0, gno, gpo] <;> first | rfl | assumption | exact gp0 _ _ _ | exact gn0 _ _)) (by first | rfl | assumption)) rfl (eqr _ (by first | rfl | exact lpl (by assumption) | (simp [AV.plain, AV.plains, AV.cells, pc, pbu])))) (sco (sld rfl rfl (ldg (n := 2) (by kernel_rfl) (by first | assumption | (simp (disch := first | omega | (simp only [hNw, hPt]; omega)) only [gn0, gn1, gn2, gn3, gn4, gn5, gp0, gno, gpo] <;> first | rfl | assumption | exact gp0 _ _ _ | exact gn0 _ _)) (by first | rfl | assumption)) rfl (eqr _ (by first | rfl | exact lpl (by assumption) | (simp [AV.plain, AV.plains, AV.cells, pc, pbu])))) rfl))), ?_⟩
            refine OkP.step ?_
            refine OkO.builtinE rfl rfl rfl (lit_copy (G := G) (b := b) (x := bu) (us := us) ((Mine.row (l := us.map fun (k : Nat) => [I (k : Int)]) (by rw [flatN]; exact hU.to (hE _ (by (try dsimp only); repeat (first | exact hg | exact g2 | exact hG | apply Grow.new | (refine Grow.put ?_ _ (by first | omega | (simp only [hNw, hPt]; omega))))))) (fun x hx => by simp only [List.mem_map] at hx; obtain ⟨y, _, rfl⟩ := hx; rfl) (by omega))) (by omega)) ?_
            rintro v1 G1 hL1
            have e01 : (G1.get W.next).bind AObj.cs = some [cv, I least] := by rw [hL1.old (by omega)]; exact e0
            have e11 : (G1.get (W.next + 1)).bind AObj.cs = some [I (fr : Int), bu] := by rw [hL1.old (by omega)]; exact e1
            refine OkO.nil ⟨(sco (sld rfl rfl (lda (n := 1) (by kernel_rfl) (by first | assumption | (simp (disch := first | omega | (simp only [hNw, hPt]; omega)) only [gn0, gn1, gn2, gn3, gn4, gn5, gp0, gno, gpo] <;> first | rfl | assumption | exact gp0 _ _ _ | exact gn0 _ _)) (by first | rfl | assumption)) rfl (eqr _ (by first | rfl | exact lpl (by assumption) | (simp [AV.plain, AV.plains, AV.cells, pc, pbu])))) (sco (sld rfl rfl (ldg (n := 2) (by kernel_rfl) (by first | assumption | (simp (disch := first | omega | (simp only [hNw, hPt]; omega)) only [gn0, gn1, gn2, gn3, gn4, gn5, gp0, gno, gpo] <;> first | rfl | assumption | exact gp0 _ _ _ | exact gn0 _ _)) (by first | rfl | assumption)) rfl (eqr _ (by first | rfl | exact lpl (by assumption) | (simp [AV.plain, AV.plains, AV.cells, pc, pbu])))) rfl)), ?_⟩
            refine OkP.step ?_
            refine OkO.builtinE rfl rfl rfl (lead_app (W := W) (b := b) hL1 hg (by omega)) ?_
            rintro _ G2 ⟨q1, q2, q3, ⟨bk, mm, rfl⟩, q4⟩
            have e02 : (G2.get W.next).bind AObj.cs = some [cv, I least] := by rw [q4 _ (by omega)]; exact e0
            have e12 : (G2.get (W.next + 1)).bind AObj.cs = some [I (fr : Int), bu] := by rw [q4 _ (by omega)]; exact e1
            refine OkO.nil ⟨(sco (sld rfl rfl (lda (n := 1) (by kernel_rfl) (by first | assumption | (simp (disch := first | omega | (simp only [hNw, hPt]; omega)) only [gn0, gn1, gn2, gn3, gn4, gn5, gp0, gno, gpo] <;> first | rfl | assumption | exact gp0 _ _ _ | exact gn0 _ _)) (by first | rfl | assumption)) rfl (eqr _ (by first | rfl | exact lpl (by assumption) | (simp [AV.plain, AV.plains, AV.cells, pc, pbu])))) (sco (sld rfl rfl (lda (n := 1) (by kernel_rfl) (by first | assumption | (simp (disch := first | omega | (simp only [hNw, hPt]; omega)) only [gn0, gn1, gn2, gn3, gn4, gn5, gp0, gno, gpo] <;> first | rfl | assumption | exact gp0 _ _ _ | exact gn0 _ _)) (by first | rfl | assumption)) rfl (eqr _ (by first | rfl | exact lpl (by assumption) | (simp [AV.plain, AV.plains, AV.cells, pc, pbu])))) (sco (sld rfl rfl (ldg (n := 2) (by kernel_rfl) (by first | assumption | (simp (disch := first | omega | (simp only [hNw, hPt]; omega)) only [gn0, gn1, gn2, gn3, gn4, gn5, gp0, gno, gpo] <;> first | rfl | assumption | exact gp0 _ _ _ | exact gn0 _ _)) (by first | rfl | assumption)) rfl (eqr _ (by first | rfl | exact lpl (by assumption) | (simp [AV.plain, AV.plains, AV.cells, pc, pbu])))) rfl))), ?_⟩
            refine OkP.step ?_
            refine OkO.build (z := [.int .i64 0, .nils]) (pl := [(0, 1), (1, 1)]) rfl (by kernel_rfl) rfl rfl ?_
            refine OkO.nil ⟨rfl, ?_⟩
            refine OkP.step ?_
            refine OkO.callE rfl rfl rfl rfl rfl (ih d1 (us ++ [b]) (.opn bk mm) G2 hdd (by simp only [List.length_append, List.length_cons, List.length_nil]; omega) (fun k hk => by (rcases List.mem_append.1 hk with h9 | h9); (· exact hbd k h9); (· simp at h9; omega)) (hM.ext (hE _ q2)) (q1.low (Nat.zero_le _))) ?_ -- "sackung/sackungref01.Surfaces"
            rintro v9 H9 ⟨q9, bvs9, hs9⟩
            have g9 : Grow W H9 := Grow.ret q2 q9
            have n9x := q9.ext.next
            have e03 : (H9.get W.next).bind AObj.cs = some [cv, I least] := by rw [q9.ext.get _ (by omega)]; exact e02
            have e13 : (H9.get (W.next + 1)).bind AObj.cs = some [I (fr : Int), bu] := by rw [q9.ext.get _ (by omega)]; exact e12
            have hsr9 : Srf (W.next + 2) H9 ov fr bvs (upTo cols least n fr d1 us b) := hsr.to ⟨by omega, fun j hj => (q9.ext.get j (by omega)).trans (q4 j hj)⟩
            have hbl8 : bvs9.length ≤ 20000000 := by (have h8 := surfs_len cols least n fr d1 (us ++ [b]); have h7 := hs9.2.1; have h6 : (n + 1) ^ (d1 + 1) ≤ (n + 1) ^ (d + 1) := Nat.pow_le_pow_right (by omega) (by omega); omega)
            have hcl9 := cellsOf_len fr bvs
            have hcl8 := cellsOf_len fr bvs9
            refine OkO.nil ⟨(sco (sld rfl rfl (lda (n := 1) (by kernel_rfl) (by first | assumption | (simp (disch := first | omega | (simp only [hNw, hPt]; omega)) only [gn0, gn1, gn2, gn3, gn4, gn5, gp0, gno, gpo] <;> first | rfl | assumption | exact gp0 _ _ _ | exact gn0 _ _)) (by first | rfl | assumption)) rfl (eqr _ (by first | rfl | exact lpl (by assumption) | (simp [AV.plain, AV.plains, AV.cells, pc, pbu])))) (sco (sld rfl rfl (lda (n := 1) (by kernel_rfl) (by first | assumption | (simp (disch := first | omega | (simp only [hNw, hPt]; omega)) only [gn0, gn1, gn2, gn3, gn4, gn5, gp0, gno, gpo] <;> first | rfl | assumption | exact gp0 _ _ _ | exact gn0 _ _)) (by first | rfl | assumption)) rfl (eqr _ (by first | rfl | exact lpl (by assumption) | (simp [AV.plain, AV.plains, AV.cells, pc, pbu])))) rfl)), ?_⟩
            refine OkP.step ?_
            refine OkO.builtinE rfl rfl rfl (Mine.app3 (W := W) (k0 := W.next + 2) (t := 57) (u := 57) (sz := 2) (by_ := 32) (e := 27) hsr9.1 g9 (by omega) (by omega) (by kernel_rfl) (by kernel_rfl) hs9.elems.1 hs9.elems.2 hcl8 (by omega) (by omega) hs9.atoms) ?_
            rintro v3 G3 ⟨r1, r2, r3, r4⟩
            have hsr3 := hsr9.add hs9 r1 r3 r4
            have f03 : G3.get W.next = some (.cells [cv, I least] 24) := by rw [r4 _ (by omega) (hsr9.1.far (by omega)), q9.ext.get _ (by omega), q4 _ (by omega)]; exact f0
            have f13 : G3.get (W.next + 1) = some (.cells [I (fr : Int), bu] 27) := by rw [r4 _ (by omega) (hsr9.1.far (by omega)), q9.ext.get _ (by omega), q4 _ (by omega)]; exact f1
            have e04 : (G3.get W.next).bind AObj.cs = some [cv, I least] := by rw [f03]; rfl
            have e14 : (G3.get (W.next + 1)).bind AObj.cs = some [I (fr : Int), bu] := by rw [f13]; rfl
            refine OkO.nil ⟨(sco (sld rfl rfl (lda (n := 1) (by kernel_rfl) (by first | assumption | (simp (disch := first | omega | (simp only [hNw, hPt]; omega)) only [gn0, gn1, gn2, gn3, gn4, gn5, gp0, gno, gpo] <;> first | rfl | assumption | exact gp0 _ _ _ | exact gn0 _ _)) (by first | rfl | assumption)) rfl (eqr _ (by first | rfl | exact lpl (by assumption) | (simp [AV.plain, AV.plains, AV.cells, pc, pbu])))) (sco (sld rfl rfl (lda (n := 1) (by kernel_rfl) (by first | assumption | (simp (disch := first | omega | (simp only [hNw, hPt]; omega)) only [gn0, gn1, gn2, gn3, gn4, gn5, gp0, gno, gpo] <;> first | rfl | assumption | exact gp0 _ _ _ | exact gn0 _ _)) (by first | rfl | assumption)) rfl (eqr _ (by first | rfl | exact lpl (by assumption) | (simp [AV.plain, AV.plains, AV.cells, pc, pbu])))) (sco (sld rfl rfl (ldg (n := 2) (by kernel_rfl) (by first | assumption | (simp (disch := first | omega | (simp only [hNw, hPt]; omega)) only [gn0, gn1, gn2, gn3, gn4, gn5, gp0, gno, gpo] <;> first | rfl | assumption | exact gp0 _ _ _ | exact gn0 _ _)) (by first | rfl | assumption)) rfl (eqr _ (by first | rfl | exact lpl (by assumption) | (simp [AV.plain, AV.plains, AV.cells, pc, pbu])))) rfl))), ?_⟩
            refine OkP.step ?_
            refine OkO.assign rfl rfl ?_
            refine OkO.nil ⟨rfl, ?_⟩
            refine OkP.nil ?_
            refine Ok.region ?_
            refine OkO.move rfl rfl ?_
            refine OkO.bin rfl rfl rfl (bin_add (by omega) (by omega)) ?_
            refine OkO.assign rfl rfl ?_
            refine OkO.nil ?_
            first | exact ⟨n - (b + 1), by omega, b + 1, v3, bvs ++ bvs9, rfl, by omega, by rw [upTo_yes hnear]; exact hsr3, r2, (by show W.next + 2 ≤ G3.next; omega), f03, f13, Has.of (by kernel_rfl), rfl⟩ | exact ⟨n - (b + 1), by omega, b + 1, ov, bvs, rfl, by omega, by rw [upTo_no hnear]; exact hsr, hg, hgx, f0, f1, Has.of (by kernel_rfl), rfl⟩
          · -- false g9
            have hus1 : us ≠ [] := by simpa using g9
            have husl := List.length_pos_iff.2 hus1
            obtain ⟨y, hy⟩ : ∃ y, us[us.length - 1]? = some y := ⟨_, List.getElem?_eq_getElem (by omega)⟩
            have hyn : y < n := hbd y (List.mem_of_getElem? hy)
            have hglast : us.getLast? = some y := by rw [List.getLast?_eq_getElem?]; exact hy
            obtain ⟨ub, uo, ucs, u1, u2, u3, u4⟩ := (Mine.row (l := us.map fun (k : Nat) => [I (k : Int)]) (by rw [flatN]; exact hU.to (hE _ hg)) (fun x hx => by simp only [List.mem_map] at hx; obtain ⟨y, _, rfl⟩ := hx; rfl) (by omega)).at_ (us.length - 1) [I (y : Int)] (by rw [List.getElem?_map, hy]; rfl)
            have u5 := seg_one u3
            refine OkO.move rfl rfl ?_
            refine OkO.fieldAddr (o := 1) rfl (by kernel_rfl) rfl ?_
            refine OkO.load rfl rfl (lda (n := 1) (by kernel_rfl) (by first | assumption | (simp (disch := first | omega | (simp only [hNw, hPt]; omega)) only [gn0, gn1, gn2, gn3, gn4, gn5, gp0, gno, gpo] <;> first | rfl | assumption | exact gp0 _ _ _ | exact gn0 _ _)) (by first | rfl | assumption)) ?_
            refine OkO.move rfl rfl ?_
            refine OkO.bin rfl rfl rfl (bin_sub (by omega) (by omega)) ?_
            refine OkO.index (sz := 1) (n := us.length - 1) rfl rfl (congrArg (fun z => some (I z)) (by omega)) (by kernel_rfl) (by first | assumption | rfl | exact slAt_slice (by omega) | exact slAt_opn (by omega)) ?_ -- index ('Go.Operand.tmp', 49) ('Go.Operand.tmp', 51)
            refine OkO.load rfl rfl (lda (n := 1) (by kernel_rfl) (by first | assumption | (simp (disch := first | omega | (simp only [hNw, hPt]; omega)) only [gn0, gn1, gn2, gn3, gn4, gn5, gp0, gno, gpo] <;> first | rfl | assumption | exact gp0 _ _ _ | exact gn0 _ _)) (by first | rfl | assumption)) ?_
            refine OkO.bin rfl rfl rfl (bin_sub (by omega) (by omega)) ?_
            refine OkO.callV rfl rfl rfl rfl rfl (c37 (m + 1) _ _ _ _) ?_ -- "sackung/sackungref01.In"
            refine OkO.pick (b := false) rfl rfl nofun (fun _ => rfl) ?_
            refine OkO.nil ?_
            refine Ok.cond rfl (fun h10 => ?_) (fun h10 => ?_)
            · -- yes h10
              have hnear : nearB us b = true := by (unfold nearB; rw [hglast]; exact h10)
              refine Ok.drawn [(0, true, []), (1, true, []), (2, true, []), (3, true, []), (4, true, [3, 1]), (5, true, []), (6, true, []), (8, true, []), (9, true, [6, 3, 1]), (7, false, [3, 1]), (10, false, [6, 3, 1]), (11, true, []), (12, false, [6, 3]), (13, false, [6, 3, 1]), (14, false, [])] (by kernel_rfl) ?_
              refine OkP.step ?_
              refine OkO.move rfl rfl ?_
              refine OkO.nil ⟨rfl, ?_⟩
              refine OkP.step ?_
              refine OkO.load rfl rfl (ldg (n := 2) (by kernel_rfl) (by first | assumption | (simp (disch := first | omega | (simp only [hNw, hPt]; omega)) only [gn0, gn1, gn2, gn3, gn4, gn5, gp0, gno, gpo] <;> first | rfl | assumption | exact gp0 _ _ _ | exact gn0 _ _)) (by first | rfl | assumption)) ?_
              refine OkO.nil ⟨rfl, ?_⟩
              refine OkP.step ?_
              refine OkO.fieldAddr (o := 0) rfl (by kernel_rfl) rfl ?_
              refine OkO.nil ⟨rfl, ?_⟩
              refine OkP.step ?_
              refine OkO.load rfl rfl (lda (n := 1) (by kernel_rfl) (by first | assumption | (simp (disch := first | omega | (simp only [hNw, hPt]; omega)) only [gn0, gn1, gn2, gn3, gn4, gn5, gp0, gno, gpo] <;> first | rfl | assumption | exact gp0 _ _ _ | exact gn0 _ _)) (by first | rfl | assumption)) ?_
              refine OkO.nil ⟨rfl, ?_⟩
              refine OkP.step ?_
              refine OkO.buildSlice (el := 3) (sz := 1) (z := [.int .i64 0]) rfl (by kernel_rfl) (by decide) rfl rfl ?_
              refine OkO.nil ⟨(sco (sld rfl rfl (lda (n := 1) (by kernel_rfl) (by first | assumption | (simp (disch := first | omega | (simp only [hNw, hPt]; omega)) only [gn0, gn1, gn2, gn3, gn4, gn5, gp0, gno, gpo] <;> first | rfl | assumption | exact gp0 _ _ _ | exact gn0 _ _)) (by first | rfl | assumption)) rfl (eqr _ (by first | rfl | exact lpl (by assumption) | (simp [AV.plain, AV.plains, AV.cells, pc, pbu])))) (sco (sld rfl rfl (ldg (n := 2) (by kernel_rfl) (by first | assumption | (simp (disch := first | omega | (simp only [hNw, hPt]; omega)) only [gn0, gn1, gn2, gn3, gn4, gn5, gp0, gno, gpo] <;> first | rfl | assumption | exact gp0 _ _ _ | exact gn0 _ _)) (by first | rfl | assumption)) rfl (eqr _ (by first | rfl | exact lpl (by assumption) | (simp [AV.plain, AV.plains, AV.cells, pc, pbu])))) rfl)), ?_⟩
              refine OkP.step ?_
              refine OkO.fieldAddr (o := 1) rfl (by kernel_rfl) rfl ?_
              refine OkO.nil ⟨rfl, ?_⟩
              refine OkP.step ?_
              refine OkO.load rfl rfl (lda (n := 1) (by kernel_rfl) (by first | assumption | (simp (disch := first | omega | (simp only [hNw, hPt]; omega)) only [gn0, gn1, gn2, gn3, gn4, gn5, gp0, gno, gpo] <;> first | rfl | assumption | exact gp0 _ _ _ | exact gn0 _ _)) (by first | rfl | assumption)) ?_
              refine OkO.nil ⟨rfl, ?_⟩
              refine OkP.step ?_
              refine OkO.move rfl rfl ?_
              refine OkO.nil ⟨rfl, ?_⟩
              refine OkP.step ?_
              refine OkO.buildSlice (el := 3) (sz := 1) (z := [.int .i64 0]) rfl (by kernel_rfl) (by decide) rfl rfl ?_
              refine OkO.nil ⟨(sco (sld rfl rfl (lda (n := 1) (by kernel_rfl) (by first | assumption | (simp (disch := first | omega | (simp only [hNw, hPt]; omega)) only [gn0, gn1, gn2, gn3, gn4, gn5, gp0, gno, gpo] <;> first | rfl | assumption | exact gp0 _ _ _ | exact gn0 _ _)) (by first | rfl | assumption)) rfl (eqr _ (by first | rfl | exact lpl (by assumption) | (simp [AV.plain, AV.plains, AV.cells, pc, pbu])))) (sco (sld rfl rfl (lda (n := 1) (by kernel_rfl) (by first | assumption | (simp (disch := first | omega | (simp only [hNw, hPt]; omega)) only [gn0, gn1, gn2, gn3, gn4, gn5, gp0, gno, gpo] <;> first | rfl | assumption | exact gp0 _ _ _ | exact gn0 _ _)) (by first | rfl | assumption)) rfl (eqr _ (by first | rfl | exact lpl (by assumption) | (simp [AV.plain, AV.plains, AV.cells, pc, pbu])))) (sco (sld rfl rfl (ldg (n := 2) (by kernel_rfl) (by first | assumption | (simp (disch := first | omega | (simp only [hNw, hPt]; omega)) only [gn0, gn1, gn2, gn3, gn4, gn5, gp0, gno, gpo] <;> first | rfl | assumption | exact gp0 _ _ _ | exact gn0 _ _)) (by first | rfl | assumption)) rfl (eqr _ (by first | rfl | exact lpl (by assumption) | (simp [AV.plain, AV.plains, AV.cells, pc, pbu])))) rfl))), ?_⟩
              refine OkP.step ?_
              refine OkO.builtinE rfl rfl rfl (lit_copy (G := G) (b := b) (x := bu) (us := us) ((Mine.row (l := us.map fun (k : Nat) => [I (k : Int)]) (by rw [flatN]; exact hU.to (hE _ (by (try dsimp only); repeat (first | exact hg | exact g2 | exact hG | apply Grow.new | (refine Grow.put ?_ _ (by first | omega | (simp only [hNw, hPt]; omega))))))) (fun x hx => by simp only [List.mem_map] at hx; obtain ⟨y, _, rfl⟩ := hx; rfl) (by omega))) (by omega)) ?_
              rintro v1 G1 hL1
              have e01 : (G1.get W.next).bind AObj.cs = some [cv, I least] := by rw [hL1.old (by omega)]; exact e0
              have e11 : (G1.get (W.next + 1)).bind AObj.cs = some [I (fr : Int), bu] := by rw [hL1.old (by omega)]; exact e1
              refine OkO.nil ⟨(sco (sld rfl rfl (lda (n := 1) (by kernel_rfl) (by first | assumption | (simp (disch := first | omega | (simp only [hNw, hPt]; omega)) only [gn0, gn1, gn2, gn3, gn4, gn5, gp0, gno, gpo] <;> first | rfl | assumption | exact gp0 _ _ _ | exact gn0 _ _)) (by first | rfl | assumption)) rfl (eqr _ (by first | rfl | exact lpl (by assumption) | (simp [AV.plain, AV.plains, AV.cells, pc, pbu])))) (sco (sld rfl rfl (ldg (n := 2) (by kernel_rfl) (by first | assumption | (simp (disch := first | omega | (simp only [hNw, hPt]; omega)) only [gn0, gn1, gn2, gn3, gn4, gn5, gp0, gno, gpo] <;> first | rfl | assumption | exact gp0 _ _ _ | exact gn0 _ _)) (by first | rfl | assumption)) rfl (eqr _ (by first | rfl | exact lpl (by assumption) | (simp [AV.plain, AV.plains, AV.cells, pc, pbu])))) rfl)), ?_⟩
              refine OkP.step ?_
              refine OkO.builtinE rfl rfl rfl (lead_app (W := W) (b := b) hL1 hg (by omega)) ?_
              rintro _ G2 ⟨q1, q2, q3, ⟨bk, mm, rfl⟩, q4⟩
              have e02 : (G2.get W.next).bind AObj.cs = some [cv, I least] := by rw [q4 _ (by omega)]; exact e0
              have e12 : (G2.get (W.next + 1)).bind AObj.cs = some [I (fr : Int), bu] := by rw [q4 _ (by omega)]; exact e1
              refine OkO.nil ⟨(sco (sld rfl rfl (lda (n := 1) (by kernel_rfl) (by first | assumption | (simp (disch := first | omega | (simp only [hNw, hPt]; omega)) only [gn0, gn1, gn2, gn3, gn4, gn5, gp0, gno, gpo] <;> first | rfl | assumption | exact gp0 _ _ _ | exact gn0 _ _)) (by first | rfl | assumption)) rfl (eqr _ (by first | rfl | exact lpl (by assumption) | (simp [AV.plain, AV.plains, AV.cells, pc, pbu])))) (sco (sld rfl rfl (lda (n := 1) (by kernel_rfl) (by first | assumption | (simp (disch := first | omega | (simp only [hNw, hPt]; omega)) only [gn0, gn1, gn2, gn3, gn4, gn5, gp0, gno, gpo] <;> first | rfl | assumption | exact gp0 _ _ _ | exact gn0 _ _)) (by first | rfl | assumption)) rfl (eqr _ (by first | rfl | exact lpl (by assumption) | (simp [AV.plain, AV.plains, AV.cells, pc, pbu])))) (sco (sld rfl rfl (ldg (n := 2) (by kernel_rfl) (by first | assumption | (simp (disch := first | omega | (simp only [hNw, hPt]; omega)) only [gn0, gn1, gn2, gn3, gn4, gn5, gp0, gno, gpo] <;> first | rfl | assumption | exact gp0 _ _ _ | exact gn0 _ _)) (by first | rfl | assumption)) rfl (eqr _ (by first | rfl | exact lpl (by assumption) | (simp [AV.plain, AV.plains, AV.cells, pc, pbu])))) rfl))), ?_⟩
              refine OkP.step ?_
              refine OkO.build (z := [.int .i64 0, .nils]) (pl := [(0, 1), (1, 1)]) rfl (by kernel_rfl) rfl rfl ?_
              refine OkO.nil ⟨rfl, ?_⟩
              refine OkP.step ?_
              refine OkO.callE rfl rfl rfl rfl rfl (ih d1 (us ++ [b]) (.opn bk mm) G2 hdd (by simp only [List.length_append, List.length_cons, List.length_nil]; omega) (fun k hk => by (rcases List.mem_append.1 hk with h9 | h9); (· exact hbd k h9); (· simp at h9; omega)) (hM.ext (hE _ q2)) (q1.low (Nat.zero_le _))) ?_ -- "sackung/sackungref01.Surfaces"
              rintro v9 H9 ⟨q9, bvs9, hs9⟩
              have g9 : Grow W H9 := Grow.ret q2 q9
              have n9x := q9.ext.next
              have e03 : (H9.get W.next).bind AObj.cs = some [cv, I least] := by rw [q9.ext.get _ (by omega)]; exact e02
              have e13 : (H9.get (W.next + 1)).bind AObj.cs = some [I (fr : Int), bu] := by rw [q9.ext.get _ (by omega)]; exact e12
              have hsr9 : Srf (W.next + 2) H9 ov fr bvs (upTo cols least n fr d1 us b) := hsr.to ⟨by omega, fun j hj => (q9.ext.get j (by omega)).trans (q4 j hj)⟩
              have hbl8 : bvs9.length ≤ 20000000 := by (have h8 := surfs_len cols least n fr d1 (us ++ [b]); have h7 := hs9.2.1; have h6 : (n + 1) ^ (d1 + 1) ≤ (n + 1) ^ (d + 1) := Nat.pow_le_pow_right (by omega) (by omega); omega)
              have hcl9 := cellsOf_len fr bvs
              have hcl8 := cellsOf_len fr bvs9
              refine OkO.nil ⟨(sco (sld rfl rfl (lda (n := 1) (by kernel_rfl) (by first | assumption | (simp (disch := first | omega | (simp only [hNw, hPt]; omega)) only [gn0, gn1, gn2, gn3, gn4, gn5, gp0, gno, gpo] <;> first | rfl | assumption | exact gp0 _ _ _ | exact gn0 _ _)) (by first | rfl | assumption)) rfl (eqr _ (by first | rfl | exact lpl (by assumption) | (simp [AV.plain, AV.plains, AV.cells, pc, pbu])))) (sco (sld rfl rfl (lda (n := 1) (by kernel_rfl) (by first | assumption | (simp (disch := first | omega | (simp only [hNw, hPt]; omega)) only [gn0, gn1, gn2, gn3, gn4, gn5, gp0, gno, gpo] <;> first | rfl | assumption | exact gp0 _ _ _ | exact gn0 _ _)) (by first | rfl | assumption)) rfl (eqr _ (by first | rfl | exact lpl (by assumption) | (simp [AV.plain, AV.plains, AV.cells, pc, pbu])))) rfl)), ?_⟩
              refine OkP.step ?_
              refine OkO.builtinE rfl rfl rfl (Mine.app3 (W := W) (k0 := W.next + 2) (t := 57) (u := 57) (sz := 2) (by_ := 32) (e := 27) hsr9.1 g9 (by omega) (by omega) (by kernel_rfl) (by kernel_rfl) hs9.elems.1 hs9.elems.2 hcl8 (by omega) (by omega) hs9.atoms) ?_
              rintro v3 G3 ⟨r1, r2, r3, r4⟩
              have hsr3 := hsr9.add hs9 r1 r3 r4
              have f03 : G3.get W.next = some (.cells [cv, I least] 24) := by rw [r4 _ (by omega) (hsr9.1.far (by omega)), q9.ext.get _ (by omega), q4 _ (by omega)]; exact f0
              have f13 : G3.get (W.next + 1) = some (.cells [I (fr : Int), bu] 27) := by rw [r4 _ (by omega) (hsr9.1.far (by omega)), q9.ext.get _ (by omega), q4 _ (by omega)]; exact f1
              have e04 : (G3.get W.next).bind AObj.cs = some [cv, I least] := by rw [f03]; rfl
              have e14 : (G3.get (W.next + 1)).bind AObj.cs = some [I (fr : Int), bu] := by rw [f13]; rfl
              refine OkO.nil ⟨(sco (sld rfl rfl (lda (n := 1) (by kernel_rfl) (by first | assumption | (simp (disch := first | omega | (simp only [hNw, hPt]; omega)) only [gn0, gn1, gn2, gn3, gn4, gn5, gp0, gno, gpo] <;> first | rfl | assumption | exact gp0 _ _ _ | exact gn0 _ _)) (by first | rfl | assumption)) rfl (eqr _ (by first | rfl | exact lpl (by assumption) | (simp [AV.plain, AV.plains, AV.cells, pc, pbu])))) (sco (sld rfl rfl (lda (n := 1) (by kernel_rfl) (by first | assumption | (simp (disch := first | omega | (simp only [hNw, hPt]; omega)) only [gn0, gn1, gn2, gn3, gn4, gn5, gp0, gno, gpo] <;> first | rfl | assumption | exact gp0 _ _ _ | exact gn0 _ _)) (by first | rfl | assumption)) rfl (eqr _ (by first | rfl | exact lpl (by assumption) | (simp [AV.plain, AV.plains, AV.cells, pc, pbu])))) (sco (sld rfl rfl (ldg (n := 2) (by kernel_rfl) (by first | assumption | (simp (disch := first | omega | (simp only [hNw, hPt]; omega)) only [gn0, gn1, gn2, gn3, gn4, gn5, gp0, gno, gpo] <;> first | rfl | assumption | exact gp0 _ _ _ | exact gn0 _ _)) (by first | rfl | assumption)) rfl (eqr _ (by first | rfl | exact lpl (by assumption) | (simp [AV.plain, AV.plains, AV.cells, pc, pbu])))) rfl))), ?_⟩
              refine OkP.step ?_
              refine OkO.assign rfl rfl ?_
              refine OkO.nil ⟨rfl, ?_⟩
              refine OkP.nil ?_
              refine Ok.region ?_
              refine OkO.move rfl rfl ?_
              refine OkO.bin rfl rfl rfl (bin_add (by omega) (by omega)) ?_
              refine OkO.assign rfl rfl ?_
              refine OkO.nil ?_
              first | exact ⟨n - (b + 1), by omega, b + 1, v3, bvs ++ bvs9, rfl, by omega, by rw [upTo_yes hnear]; exact hsr3, r2, (by show W.next + 2 ≤ G3.next; omega), f03, f13, Has.of (by kernel_rfl), rfl⟩ | exact ⟨n - (b + 1), by omega, b + 1, ov, bvs, rfl, by omega, by rw [upTo_no hnear]; exact hsr, hg, hgx, f0, f1, Has.of (by kernel_rfl), rfl⟩
            · -- no h10
              have hnear : nearB us b = false := by (unfold nearB; rw [hglast]; simpa using h10)
              refine Ok.skip ?_
              refine Ok.region ?_
              refine OkO.move rfl rfl ?_
              refine OkO.bin rfl rfl rfl (bin_add (by omega) (by omega)) ?_
              refine OkO.assign rfl rfl ?_
              refine OkO.nil ?_
              first | exact ⟨n - (b + 1), by omega, b + 1, v3, bvs ++ bvs9, rfl, by omega, by rw [upTo_yes hnear]; exact hsr3, r2, (by show W.next + 2 ≤ G3.next; omega), f03, f13, Has.of (by kernel_rfl), rfl⟩ | exact ⟨n - (b + 1), by omega, b + 1, ov, bvs, rfl, by omega, by rw [upTo_no hnear]; exact hsr, hg, hgx, f0, f1, Has.of (by kernel_rfl), rfl⟩
        · -- no h8
          have hbe : b = n := by (have : ¬ b < n := by simpa using h8); omega
          subst hbe
          rw [upTo_all, ← hdd] at hsr
          refine Ok.exit ?_
          refine Ok.seq ?_
          refine Ok.region ?_
          refine OkO.move rfl rfl ?_
          refine OkO.assign rfl rfl ?_
          refine OkO.nil ?_
          refine Ok.ret ⟨.inr rfl, ?_⟩
          refine back_newA rfl rfl (by rw [← hW]; exact hg) (fun H9 p1 p2 => ⟨p1, bvs, ?_⟩)
          exact (hsr.low (by omega)).back p2
  · -- false g1
    have hne : us = [] := by (have h9 : ¬ 0 < us.length := by simpa using g1); exact List.eq_nil_of_length_eq_zero (by omega)
    have hh0 : hdS cols least fr us = [] := hdS_no (.inl hne)
    refine OkO.skip rfl ?_
    refine OkO.skip rfl ?_
    refine OkO.skip rfl ?_
    refine OkO.pick (b := false) rfl rfl nofun (fun _ => rfl) ?_
    refine OkO.nil ?_
    refine Ok.condF rfl ?_
    refine Ok.skip ?_
    refine Ok.seq ?_
    refine Ok.seq ?_
    refine Ok.region ?_
    refine OkO.fieldAddr (o := 0) rfl (by kernel_rfl) rfl ?_
    refine OkO.load rfl rfl (lda (n := 1) (by kernel_rfl) (by first | assumption | (simp (disch := first | omega | (simp only [hNw, hPt]; omega)) only [gn0, gn1, gn2, gn3, gn4, gn5, gp0, gno, gpo] <;> first | rfl | assumption | exact gp0 _ _ _ | exact gn0 _ _)) (by first | rfl | assumption)) ?_
    refine OkO.fieldAddr (o := 1) rfl (by kernel_rfl) rfl ?_
    refine OkO.load rfl rfl (lda (n := 1) (by kernel_rfl) (by first | assumption | (simp (disch := first | omega | (simp only [hNw, hPt]; omega)) only [gn0, gn1, gn2, gn3, gn4, gn5, gp0, gno, gpo] <;> first | rfl | assumption | exact gp0 _ _ _ | exact gn0 _ _)) (by first | rfl | assumption)) ?_
    refine OkO.builtin rfl rfl rfl (bln (by kernel_rfl) (by first | assumption | rfl)) ?_
    refine OkO.bin rfl rfl rfl (bin_add (by omega) (by omega)) ?_
    refine OkO.fieldAddr (o := 0) rfl (by kernel_rfl) rfl ?_
    refine OkO.load rfl rfl (lda (n := 1) (by kernel_rfl) (by first | assumption | (simp (disch := first | omega | (simp only [hNw, hPt]; omega)) only [gn0, gn1, gn2, gn3, gn4, gn5, gp0, gno, gpo] <;> first | rfl | assumption | exact gp0 _ _ _ | exact gn0 _ _)) (by first | rfl | assumption)) ?_
    refine OkO.builtin rfl rfl rfl (bln (by kernel_rfl) (by first | assumption | rfl)) ?_
    refine OkO.bin rfl rfl rfl (bin_geq _ _) ?_
    refine OkO.nil ?_
    refine Ok.cond rfl (fun h11 => ?_) (fun h11 => ?_)
    · -- yes h11
      have hd0 : d = 0 := by (have h9 : (cols.length : Int) ≤ (fr : Int) + (us.length : Int) := by simpa using h11); omega
      refine Ok.seq ?_
      refine Ok.region ?_
      refine OkO.move rfl rfl ?_
      refine OkO.assign rfl rfl ?_
      refine OkO.nil ?_
      refine Ok.ret ⟨.inr rfl, ?_⟩
      refine back_newA rfl rfl (by rw [← hW]; exact (by (try dsimp only); repeat (first | exact hg | exact g2 | exact hG | apply Grow.new | (refine Grow.put ?_ _ (by first | omega | (simp only [hNw, hPt]; omega)))))) (fun H9 p1 p2 => ⟨p1, [], ?_⟩)
      rw [hd0]
      exact (Srf.low (show Srf _ _ _ _ _ _ from by (show Srf (W.next + 2) _ _ _ _ (hdS cols least fr us); rw [hh0]; exact Srf.none _ _ _)) (by omega)).back p2
    · -- no h11
      have hd1 : ∃ d1, d = d1 + 1 := ⟨d - 1, by (have h9 : ¬ (cols.length : Int) ≤ (fr : Int) + (us.length : Int) := by simpa using h11); omega⟩
      obtain ⟨d1, hdd⟩ := hd1
      refine Ok.skip ?_
      refine Ok.seq ?_
      refine Ok.seq ?_
      refine Ok.region ?_
      refine OkO.assign rfl rfl ?_
      refine OkO.nil ?_
      refine Ok.block ?_
      refine Ok.loop (fun n9 s_ => ∃ (b : Nat) (ov : AV) (bvs : List AV), n9 = n - b ∧ b ≤ n ∧ Srf (W.next + 2) s_.H ov fr bvs (upTo cols least n fr d1 us b) ∧ Grow W s_.H ∧ W.next + 2 ≤ s_.H.next ∧ s_.H.get W.next = some (.cells [cv, I least] 24) ∧ s_.H.get (W.next + 1) = some (.cells [I (fr : Int), bu] 27) ∧ Has 7 [(2, .ptr W.next 0), (3, .ptr (W.next + 1) 0), (5, ov), (6, I (b : Int))] s_.T ∧ s_.D = []) (n) (by unfold loopFuel; omega)
        ⟨0, .nils, [], rfl, Nat.zero_le _, by rw [upTo_zero, hh0]; exact Srf.none _ _ _, (by (try dsimp only); repeat (first | exact hg | exact g2 | exact hG | apply Grow.new | (refine Grow.put ?_ _ (by first | omega | (simp only [hNw, hPt]; omega))))), (by first | omega | (simp only [hNw, hPt]; omega)), (by first | assumption | (simp (disch := first | omega | (simp only [hNw, hPt]; omega)) only [gn0, gn1, gn2, gn3, gn4, gn5, gp0, gno, gpo] <;> first | rfl | assumption)), (by first | assumption | (simp (disch := first | omega | (simp only [hNw, hPt]; omega)) only [gn0, gn1, gn2, gn3, gn4, gn5, gp0, gno, gpo] <;> first | rfl | assumption)), Has.of (by kernel_rfl), rfl⟩ ?_
      rintro n9 ⟨T, D, G⟩ ⟨b, ov, bvs, hn9, hb, hsr, hg, hgx, f0, f1, ⟨f, hT⟩, hD⟩
      dsimp only at *
      subst hT hD
      have hgn := hg.next
      have e0 : (G.get W.next).bind AObj.cs = some [cv, I least] := by rw [f0]; rfl
      have e1 : (G.get (W.next + 1)).bind AObj.cs = some [I (fr : Int), bu] := by rw [f1]; rfl
      have jc2 : (G.get cb).bind AObj.cs = some ccs := by rw [hg.get _ (by omega), hg0]; exact j20
      have hbl9 : bvs.length ≤ 20000000 := by (have := upTo_len (cols := cols) (least := least) (fr := fr) (d := d1) (us := us) hb; have h7 := hsr.2.1; have h6 : (n + 1) ^ (d1 + 1 + 1) ≤ 20000000 := (by rw [← hdd]; exact hq); omega)
      have hov := hsr.1.one
      refine Ok.seq ?_
      refine Ok.seq ?_
      refine Ok.region ?_
      refine OkO.move rfl rfl ?_
      refine OkO.fieldAddr (o := 0) rfl (by kernel_rfl) rfl ?_
      refine OkO.load rfl rfl (lda (n := 1) (by kernel_rfl) (by first | assumption | (simp (disch := first | omega | (simp only [hNw, hPt]; omega)) only [gn0, gn1, gn2, gn3, gn4, gn5, gp0, gno, gpo] <;> first | rfl | assumption | exact gp0 _ _ _ | exact gn0 _ _)) (by first | rfl | assumption)) ?_
      refine OkO.index (sz := 1) (n := 0) rfl rfl rfl (by kernel_rfl) (by first | assumption | rfl | exact slAt_slice (by omega) | exact slAt_opn (by omega)) ?_ -- index ('Go.Operand.tmp', 34) ('Go.Operand.const', ('Go.Value.int', 'Go.IntKind.i64', 0))
      refine OkO.load rfl rfl (lda (n := 1) (by kernel_rfl) (by first | assumption | (simp (disch := first | omega | (simp only [hNw, hPt]; omega)) only [gn0, gn1, gn2, gn3, gn4, gn5, gp0, gno, gpo] <;> first | rfl | assumption | exact gp0 _ _ _ | exact gn0 _ _)) (by first | rfl | assumption)) ?_
      refine OkO.builtin rfl rfl rfl (bln (by kernel_rfl) (by first | assumption | rfl)) ?_
      refine OkO.bin rfl rfl rfl (bin_lss _ _) ?_
      refine OkO.nil ?_
      refine Ok.cond rfl (fun h12 => ?_) (fun h12 => ?_)
      · -- yes h12
        have hbl : b < n := by simpa using h12
        refine Ok.skip ?_
        refine Ok.seq ?_
        refine Ok.block ?_
        refine Ok.seq ?_
        refine Ok.region ?_
        refine OkO.fieldAddr (o := 1) rfl (by kernel_rfl) rfl ?_
        refine OkO.load rfl rfl (lda (n := 1) (by kernel_rfl) (by first | assumption | (simp (disch := first | omega | (simp only [hNw, hPt]; omega)) only [gn0, gn1, gn2, gn3, gn4, gn5, gp0, gno, gpo] <;> first | rfl | assumption | exact gp0 _ _ _ | exact gn0 _ _)) (by first | rfl | assumption)) ?_
        refine OkO.builtin rfl rfl rfl (bln (by kernel_rfl) (by first | assumption | rfl)) ?_
        refine OkO.assign rfl rfl ?_
        refine OkO.nil ?_
        refine Ok.seq ?_
        refine Ok.region ?_
        refine OkO.move rfl rfl ?_
        refine OkO.bin rfl rfl rfl (bin_eql _ _) ?_
        refine OkO.move rfl rfl ?_
        refine OkO.split (d := 46) rfl (fun g13 => ?_) (fun g13 => ?_)
        · -- true g13
          have hus0 : us = [] := by simpa using g13
          have hnear : nearB us b = true := by rw [hus0]; rfl
          refine OkO.skip rfl ?_
          refine OkO.skip rfl ?_
          refine OkO.skip rfl ?_
          refine OkO.skip rfl ?_
          refine OkO.skip rfl ?_
          refine OkO.skip rfl ?_
          refine OkO.skip rfl ?_
          refine OkO.skip rfl ?_
          refine OkO.skip rfl ?_
          refine OkO.pick (b := true) rfl rfl (fun _ => rfl) nofun ?_
          refine OkO.nil ?_
          refine Ok.condT rfl ?_
          refine Ok.drawn [(0, true, []), (1, true, []), (2, true, []), (3, true, []), (4, true, [3, 1]), (5, true, []), (6, true, []), (8, true, []), (9, true, [6, 3, 1]), (7, false, [3, 1]), (10, false, [6, 3, 1]), (11, true, []), (12, false, [6, 3]), (13, false, [6, 3, 1]), (14, false, [])] (by kernel_rfl) ?_
          refine OkP.step ?_
          refine OkO.move rfl rfl ?_
          refine OkO.nil ⟨rfl, ?_⟩
          refine OkP.step ?_
          refine OkO.load rfl rfl (ldg (n := 2) (by kernel_rfl) (by first | assumption | (simp (disch := first | omega | (simp only [hNw, hPt]; omega)) only [gn0, gn1, gn2, gn3, gn4, gn5, gp0, gno, gpo] <;> first | rfl | assumption | exact gp0 _ _ _ | exact gn0 _ _)) (by first | rfl | assumption)) ?_
          refine OkO.nil ⟨rfl, ?_⟩
          refine OkP.step ?_
          refine OkO.fieldAddr (o := 0) rfl (by kernel_rfl) rfl ?_
          refine OkO.nil ⟨rfl, ?_⟩
          refine OkP.step ?_
          refine OkO.load rfl rfl (lda (n := 1) (by kernel_rfl) (by first | assumption | (simp (disch := first | omega | (simp only [hNw, hPt]; omega)) only [gn0, gn1, gn2, gn3, gn4, gn5, gp0, gno, gpo] <;> first | rfl | assumption | exact gp0 _ _ _ | exact gn0 _ _)) (by first | rfl | assumption)) ?_
          refine OkO.nil ⟨rfl, ?_⟩
          refine OkP.step ?_
          refine OkO.buildSlice (el := 3) (sz := 1) (z := [.int .i64 0]) rfl (by kernel_rfl) (by decide) rfl rfl ?_
          refine OkO.nil ⟨(sco (sld rfl rfl (lda (n := 1) (by kernel_rfl) (by first | assumption | (simp (disch := first | omega | (simp only [hNw, hPt]; omega)) only [gn0, gn1, gn2, gn3, gn4, gn5, gp0, gno, gpo] <;> first | rfl | assumption | exact gp0 _ _ _ | exact gn0 _ _)) (by first | rfl | assumption)) rfl (eqr _ (by first | rfl | exact lpl (by assumption) | (simp [AV.plain, AV.plains, AV.cells, pc, pbu])))) (sco (sld rfl rfl (ldg (n := 2) (by kernel_rfl) (by first | assumption | (simp (disch := first | omega | (simp only [hNw, hPt]; omega)) only [gn0, gn1, gn2, gn3, gn4, gn5, gp0, gno, gpo] <;> first | rfl | assumption | exact gp0 _ _ _ | exact gn0 _ _)) (by first | rfl | assumption)) rfl (eqr _ (by first | rfl | exact lpl (by assumption) | (simp [AV.plain, AV.plains, AV.cells, pc, pbu])))) rfl)), ?_⟩
          refine OkP.step ?_
          refine OkO.fieldAddr (o := 1) rfl (by kernel_rfl) rfl ?_
          refine OkO.nil ⟨rfl, ?_⟩
          refine OkP.step ?_
          refine OkO.load rfl rfl (lda (n := 1) (by kernel_rfl) (by first | assumption | (simp (disch := first | omega | (simp only [hNw, hPt]; omega)) only [gn0, gn1, gn2, gn3, gn4, gn5, gp0, gno, gpo] <;> first | rfl | assumption | exact gp0 _ _ _ | exact gn0 _ _)) (by first | rfl | assumption)) ?_
          refine OkO.nil ⟨rfl, ?_⟩
          refine OkP.step ?_
          refine OkO.move rfl rfl ?_
          refine OkO.nil ⟨rfl, ?_⟩
          refine OkP.step ?_
          refine OkO.buildSlice (el := 3) (sz := 1) (z := [.int .i64 0]) rfl (by kernel_rfl) (by decide) rfl rfl ?_
          refine OkO.nil ⟨(sco (sld rfl rfl (lda (n := 1) (by kernel_rfl) (by first | assumption | (simp (disch := first | omega | (simp only [hNw, hPt]; omega)) only [gn0, gn1, gn2, gn3, gn4, gn5, gp0, gno, gpo] <;> first | rfl | assumption | exact gp0 _ _ _ | exact gn0 _ _)) (by first | rfl | assumption)) rfl (eqr _ (by first | rfl | exact lpl (by assumption) | (simp [AV.plain, AV.plains, AV.cells, pc, pbu])))) (sco (sld rfl rfl (lda (n := 1) (by kernel_rfl) (by first | assumption | (simp (disch := first | omega | (simp only [hNw, hPt]; omega)) only [gn0, gn1, gn2, gn3, gn4, gn5, gp0, gno, gpo] <;> first | rfl | assumption | exact gp0 _ _ _ | exact gn0 _ _)) (by first | rfl | assumption)) rfl (eqr _ (by first | rfl | exact lpl (by assumption) | (simp [AV.plain, AV.plains, AV.cells, pc, pbu])))) (sco (sld rfl rfl (ldg (n := 2) (by kernel_rfl) (by first | assumption | (simp (disch := first | omega | (simp only [hNw, hPt]; omega)) only [gn0, gn1, gn2, gn3, gn4, gn5, gp0, gno, gpo] <;> first | rfl | assumption | exact gp0 _ _ _ | exact gn0 _ _)) (by first | rfl | assumption)) rfl (eqr _ (by first | rfl | exact lpl (by assumption) | (simp [AV.plain, AV.plains, AV.cells, pc, pbu])))) rfl))), ?_⟩
          refine OkP.step ?_
          refine OkO.builtinE rfl rfl rfl (lit_copy (G := G) (b := b) (x := bu) (us := us) ((Mine.row (l := us.map fun (k : Nat) => [I (k : Int)]) (by rw [flatN]; exact hU.to (hE _ (by (try dsimp only); repeat (first | exact hg | exact g2 | exact hG | apply Grow.new | (refine Grow.put ?_ _ (by first | omega | (simp only [hNw, hPt]; omega))))))) (fun x hx => by simp only [List.mem_map] at hx; obtain ⟨y, _, rfl⟩ := hx; rfl) (by omega))) (by omega)) ?_
          rintro v1 G1 hL1
          have e01 : (G1.get W.next).bind AObj.cs = some [cv, I least] := by rw [hL1.old (by omega)]; exact e0
          have e11 : (G1.get (W.next + 1)).bind AObj.cs = some [I (fr : Int), bu] := by rw [hL1.old (by omega)]; exact e1
          refine OkO.nil ⟨(sco (sld rfl rfl (lda (n := 1) (by kernel_rfl) (by first | assumption | (simp (disch := first | omega | (simp only [hNw, hPt]; omega)) only [gn0, gn1, gn2, gn3, gn4, gn5, gp0, gno, gpo] <;> first | rfl | assumption | exact gp0 _ _ _ | exact gn0 _ _)) (by first | rfl | assumption)) rfl (eqr _ (by first | rfl | exact lpl (by assumption) | (simp [AV.plain, AV.plains, AV.cells, pc, pbu])))) (sco (sld rfl rfl (ldg (n := 2) (by kernel_rfl) (by first | assumption | (simp (disch := first | omega | (simp only [hNw, hPt]; omega)) only [gn0, gn1, gn2, gn3, gn4, gn5, gp0, gno, gpo] <;> first | rfl | assumption | exact gp0 _ _ _ | exact gn0 _ _)) (by first | rfl | assumption)) rfl (eqr _ (by first | rfl | exact lpl (by assumption) | (simp [AV.plain, AV.plains, AV.cells, pc, pbu])))) rfl)), ?_⟩
          refine OkP.step ?_
          refine OkO.builtinE rfl rfl rfl (lead_app (W := W) (b := b) hL1 hg (by omega)) ?_
          rintro _ G2 ⟨q1, q2, q3, ⟨bk, mm, rfl⟩, q4⟩
          have e02 : (G2.get W.next).bind AObj.cs = some [cv, I least] := by rw [q4 _ (by omega)]; exact e0
          have e12 : (G2.get (W.next + 1)).bind AObj.cs = some [I (fr : Int), bu] := by rw [q4 _ (by omega)]; exact e1
          refine OkO.nil ⟨(sco (sld rfl rfl (lda (n := 1) (by kernel_rfl) (by first | assumption | (simp (disch := first | omega | (simp only [hNw, hPt]; omega)) only [gn0, gn1, gn2, gn3, gn4, gn5, gp0, gno, gpo] <;> first | rfl | assumption | exact gp0 _ _ _ | exact gn0 _ _)) (by first | rfl | assumption)) rfl (eqr _ (by first | rfl | exact lpl (by assumption) | (simp [AV.plain, AV.plains, AV.cells, pc, pbu])))) (sco (sld rfl rfl (lda (n := 1) (by kernel_rfl) (by first | assumption | (simp (disch := first | omega | (simp only [hNw, hPt]; omega)) only [gn0, gn1, gn2, gn3, gn4, gn5, gp0, gno, gpo] <;> first | rfl | assumption | exact gp0 _ _ _ | exact gn0 _ _)) (by first | rfl | assumption)) rfl (eqr _ (by first | rfl | exact lpl (by assumption) | (simp [AV.plain, AV.plains, AV.cells, pc, pbu])))) (sco (sld rfl rfl (ldg (n := 2) (by kernel_rfl) (by first | assumption | (simp (disch := first | omega | (simp only [hNw, hPt]; omega)) only [gn0, gn1, gn2, gn3, gn4, gn5, gp0, gno, gpo] <;> first | rfl | assumption | exact gp0 _ _ _ | exact gn0 _ _)) (by first | rfl | assumption)) rfl (eqr _ (by first | rfl | exact lpl (by assumption) | (simp [AV.plain, AV.plains, AV.cells, pc, pbu])))) rfl))), ?_⟩
          refine OkP.step ?_
          refine OkO.build (z := [.int .i64 0, .nils]) (pl := [(0, 1), (1, 1)]) rfl (by kernel_rfl) rfl rfl ?_
          refine OkO.nil ⟨rfl, ?_⟩
          refine OkP.step ?_
          refine OkO.callE rfl rfl rfl rfl rfl (ih d1 (us ++ [b]) (.opn bk mm) G2 hdd (by simp only [List.length_append, List.length_cons, List.length_nil]; omega) (fun k hk => by (rcases List.mem_append.1 hk with h9 | h9); (· exact hbd k h9); (· simp at h9; omega)) (hM.ext (hE _ q2)) (q1.low (Nat.zero_le _))) ?_ -- "sackung/sackungref01.Surfaces"
          rintro v9 H9 ⟨q9, bvs9, hs9⟩
          have g9 : Grow W H9 := Grow.ret q2 q9
          have n9x := q9.ext.next
          have e03 : (H9.get W.next).bind AObj.cs = some [cv, I least] := by rw [q9.ext.get _ (by omega)]; exact e02
          have e13 : (H9.get (W.next + 1)).bind AObj.cs = some [I (fr : Int), bu] := by rw [q9.ext.get _ (by omega)]; exact e12
          have hsr9 : Srf (W.next + 2) H9 ov fr bvs (upTo cols least n fr d1 us b) := hsr.to ⟨by omega, fun j hj => (q9.ext.get j (by omega)).trans (q4 j hj)⟩
          have hbl8 : bvs9.length ≤ 20000000 := by (have h8 := surfs_len cols least n fr d1 (us ++ [b]); have h7 := hs9.2.1; have h6 : (n + 1) ^ (d1 + 1) ≤ (n + 1) ^ (d + 1) := Nat.pow_le_pow_right (by omega) (by omega); omega)
          have hcl9 := cellsOf_len fr bvs
          have hcl8 := cellsOf_len fr bvs9
          refine OkO.nil ⟨(sco (sld rfl rfl (lda (n := 1) (by kernel_rfl) (by first | assumption | (simp (disch := first | omega | (simp only [hNw, hPt]; omega)) only [gn0, gn1, gn2, gn3, gn4, gn5, gp0, gno, gpo] <;> first | rfl | assumption | exact gp0 _ _ _ | exact gn0 _ _)) (by first | rfl | assumption)) rfl (eqr _ (by first | rfl | exact lpl (by assumption) | (simp [AV.plain, AV.plains, AV.cells, pc, pbu])))) (sco (sld rfl rfl (lda (n := 1) (by kernel_rfl) (by first | assumption | (simp (disch := first | omega | (simp only [hNw, hPt]; omega)) only [gn0, gn1, gn2, gn3, gn4, gn5, gp0, gno, gpo] <;> first | rfl | assumption | exact gp0 _ _ _ | exact gn0 _ _)) (by first | rfl | assumption)) rfl (eqr _ (by first | rfl | exact lpl (by assumption) | (simp [AV.plain, AV.plains, AV.cells, pc, pbu])))) rfl)), ?_⟩
          refine OkP.step ?_
          refine OkO.builtinE rfl rfl rfl (Mine.app3 (W := W) (k0 := W.next + 2) (t := 57) (u := 57) (sz := 2) (by_ := 32) (e := 27) hsr9.1 g9 (by omega) (by omega) (by kernel_rfl) (by kernel_rfl) hs9.elems.1 hs9.elems.2 hcl8 (by omega) (by omega) hs9.atoms) ?_
          rintro v3 G3 ⟨r1, r2, r3, r4⟩
          have hsr3 := hsr9.add hs9 r1 r3 r4
          have f03 : G3.get W.next = some (.cells [cv, I least] 24) := by rw [r4 _ (by omega) (hsr9.1.far (by omega)), q9.ext.get _ (by omega), q4 _ (by omega)]; exact f0
          have f13 : G3.get (W.next + 1) = some (.cells [I (fr : Int), bu] 27) := by rw [r4 _ (by omega) (hsr9.1.far (by omega)), q9.ext.get _ (by omega), q4 _ (by omega)]; exact f1
          have e04 : (G3.get W.next).bind AObj.cs = some [cv, I least] := by rw [f03]; rfl
          have e14 : (G3.get (W.next + 1)).bind AObj.cs = some [I (fr : Int), bu] := by rw [f13]; rfl
          refine OkO.nil ⟨(sco (sld rfl rfl (lda (n := 1) (by kernel_rfl) (by first | assumption | (simp (disch := first | omega | (simp only [hNw, hPt]; omega)) only [gn0, gn1, gn2, gn3, gn4, gn5, gp0, gno, gpo] <;> first | rfl | assumption | exact gp0 _ _ _ | exact gn0 _ _)) (by first | rfl | assumption)) rfl (eqr _ (by first | rfl | exact lpl (by assumption) | (simp [AV.plain, AV.plains, AV.cells, pc, pbu])))) (sco (sld rfl rfl (lda (n := 1) (by kernel_rfl) (by first | assumption | (simp (disch := first | omega | (simp only [hNw, hPt]; omega)) only [gn0, gn1, gn2, gn3, gn4, gn5, gp0, gno, gpo] <;> first | rfl | assumption | exact gp0 _ _ _ | exact gn0 _ _)) (by first | rfl | assumption)) rfl (eqr _ (by first | rfl | exact lpl (by assumption) | (simp [AV.plain, AV.plains, AV.cells, pc, pbu])))) (sco (sld rfl rfl (ldg (n := 2) (by kernel_rfl) (by first | assumption | (simp (disch := first | omega | (simp only [hNw, hPt]; omega)) only [gn0, gn1, gn2, gn3, gn4, gn5, gp0, gno, gpo] <;> first | rfl | assumption | exact gp0 _ _ _ | exact gn0 _ _)) (by first | rfl | assumption)) rfl (eqr _ (by first | rfl | exact lpl (by assumption) | (simp [AV.plain, AV.plains, AV.cells, pc, pbu])))) rfl))), ?_⟩
          refine OkP.step ?_
          refine OkO.assign rfl rfl ?_
          refine OkO.nil ⟨rfl, ?_⟩
          refine OkP.nil ?_
          refine Ok.region ?_
          refine OkO.move rfl rfl ?_
          refine OkO.bin rfl rfl rfl (bin_add (by omega) (by omega)) ?_
          refine OkO.assign rfl rfl ?_
          refine OkO.nil ?_
          first | exact ⟨n - (b + 1), by omega, b + 1, v3, bvs ++ bvs9, rfl, by omega, by rw [upTo_yes hnear]; exact hsr3, r2, (by show W.next + 2 ≤ G3.next; omega), f03, f13, Has.of (by kernel_rfl), rfl⟩ | exact ⟨n - (b + 1), by omega, b + 1, ov, bvs, rfl, by omega, by rw [upTo_no hnear]; exact hsr, hg, hgx, f0, f1, Has.of (by kernel_rfl), rfl⟩
        · -- false g13
          have hus1 : us ≠ [] := by simpa using g13
          have husl := List.length_pos_iff.2 hus1
          obtain ⟨y, hy⟩ : ∃ y, us[us.length - 1]? = some y := ⟨_, List.getElem?_eq_getElem (by omega)⟩
          have hyn : y < n := hbd y (List.mem_of_getElem? hy)
          have hglast : us.getLast? = some y := by rw [List.getLast?_eq_getElem?]; exact hy
          obtain ⟨ub, uo, ucs, u1, u2, u3, u4⟩ := (Mine.row (l := us.map fun (k : Nat) => [I (k : Int)]) (by rw [flatN]; exact hU.to (hE _ hg)) (fun x hx => by simp only [List.mem_map] at hx; obtain ⟨y, _, rfl⟩ := hx; rfl) (by omega)).at_ (us.length - 1) [I (y : Int)] (by rw [List.getElem?_map, hy]; rfl)
          have u5 := seg_one u3
          refine OkO.move rfl rfl ?_
          refine OkO.fieldAddr (o := 1) rfl (by kernel_rfl) rfl ?_
          refine OkO.load rfl rfl (lda (n := 1) (by kernel_rfl) (by first | assumption | (simp (disch := first | omega | (simp only [hNw, hPt]; omega)) only [gn0, gn1, gn2, gn3, gn4, gn5, gp0, gno, gpo] <;> first | rfl | assumption | exact gp0 _ _ _ | exact gn0 _ _)) (by first | rfl | assumption)) ?_
          refine OkO.move rfl rfl ?_
          refine OkO.bin rfl rfl rfl (bin_sub (by omega) (by omega)) ?_
          refine OkO.index (sz := 1) (n := us.length - 1) rfl rfl (congrArg (fun z => some (I z)) (by omega)) (by kernel_rfl) (by first | assumption | rfl | exact slAt_slice (by omega) | exact slAt_opn (by omega)) ?_ -- index ('Go.Operand.tmp', 49) ('Go.Operand.tmp', 51)
          refine OkO.load rfl rfl (lda (n := 1) (by kernel_rfl) (by first | assumption | (simp (disch := first | omega | (simp only [hNw, hPt]; omega)) only [gn0, gn1, gn2, gn3, gn4, gn5, gp0, gno, gpo] <;> first | rfl | assumption | exact gp0 _ _ _ | exact gn0 _ _)) (by first | rfl | assumption)) ?_
          refine OkO.bin rfl rfl rfl (bin_sub (by omega) (by omega)) ?_
          refine OkO.callV rfl rfl rfl rfl rfl (c37 (m + 1) _ _ _ _) ?_ -- "sackung/sackungref01.In"
          refine OkO.pick (b := false) rfl rfl nofun (fun _ => rfl) ?_
          refine OkO.nil ?_
          refine Ok.cond rfl (fun h14 => ?_) (fun h14 => ?_)
          · -- yes h14
            have hnear : nearB us b = true := by (unfold nearB; rw [hglast]; exact h14)
            refine Ok.drawn [(0, true, []), (1, true, []), (2, true, []), (3, true, []), (4, true, [3, 1]), (5, true, []), (6, true, []), (8, true, []), (9, true, [6, 3, 1]), (7, false, [3, 1]), (10, false, [6, 3, 1]), (11, true, []), (12, false, [6, 3]), (13, false, [6, 3, 1]), (14, false, [])] (by kernel_rfl) ?_
            refine OkP.step ?_
            refine OkO.move rfl rfl ?_
            refine OkO.nil ⟨rfl, ?_⟩
            refine OkP.step ?_
            refine OkO.load rfl rfl (ldg (n := 2) (by kernel_rfl) (by first | assumption | (simp (disch := first | omega | (simp only [hNw, hPt]; omega)) only [gn0, gn1, gn2, gn3, gn4, gn5, gp0, gno, gpo] <;> first | rfl | assumption | exact gp0 _ _ _ | exact gn0 _ _)) (by first | rfl | assumption)) ?_
            refine OkO.nil ⟨rfl, ?_⟩
            refine OkP.step ?_
            refine OkO.fieldAddr (o := 0) rfl (by kernel_rfl) rfl ?_
            refine OkO.nil ⟨rfl, ?_⟩
            refine OkP.step ?_
            refine OkO.load rfl rfl (lda (n := 1) (by kernel_rfl) (by first | assumption | (simp (disch := first | omega | (simp only [hNw, hPt]; omega)) only [gn0, gn1, gn2, gn3, gn4, gn5, gp0, gno, gpo] <;> first | rfl | assumption | exact gp0 _ _ _ | exact gn0 _ _)) (by first | rfl | assumption)) ?_
            refine OkO.nil ⟨rfl, ?_⟩
            refine OkP.step ?_
            refine OkO.buildSlice (el := 3) (sz := 1) (z := [.int .i64 0]) rfl (by kernel_rfl) (by decide) rfl rfl ?_
            refine OkO.nil ⟨(sco (sld rfl rfl (lda (n := 1) (by kernel_rfl) (by first | assumption | (simp (disch := first | omega | (simp only [hNw, hPt]; omega)) only [gn0, gn1, gn2, gn3, gn4, gn5, gp0, gno, gpo] <;> first | rfl | assumption | exact gp0 _ _ _ | exact gn0 _ _)) (by first | rfl | assumption)) rfl (eqr _ (by first | rfl | exact lpl (by assumption) | (simp [AV.plain, AV.plains, AV.cells, pc, pbu])))) (sco (sld rfl rfl (ldg (n := 2) (by kernel_rfl) (by first | assumption | (simp (disch := first | omega | (simp only [hNw, hPt]; omega)) only [gn0, gn1, gn2, gn3, gn4, gn5, gp0, gno, gpo] <;> first | rfl | assumption | exact gp0 _ _ _ | exact gn0 _ _)) (by first | rfl | assumption)) rfl (eqr _ (by first | rfl | exact lpl (by assumption) | (simp [AV.plain, AV.plains, AV.cells, pc, pbu])))) rfl)), ?_⟩
            refine OkP.step ?_
            refine OkO.fieldAddr (o := 1) rfl (by kernel_rfl) rfl ?_
            refine OkO.nil ⟨rfl, ?_⟩
            refine OkP.step ?_
            refine OkO.load rfl rfl (lda (n := 1) (by kernel_rfl) (by first | assumption | (simp (disch := first | omega | (simp only [hNw, hPt]; omega)) only [gn0, gn1, gn2, gn3, gn4, gn5, gp0, gno, gpo] <;> first | rfl | assumption | exact gp0 _ _ _ | exact gn0 _ _)) (by first | rfl | assumption)) ?_
            refine OkO.nil ⟨rfl, ?_⟩
            refine OkP.step ?_
            refine OkO.move rfl rfl ?_
            refine OkO.nil ⟨rfl, ?_⟩
            refine OkP.step ?_
            refine OkO.buildSlice (el := 3) (sz := 1) (z := [.int .i64 0]) rfl (by kernel_rfl) (by decide) rfl rfl ?_
            refine OkO.nil ⟨(sco (sld rfl rfl (lda (n := 1) (by kernel_rfl) (by first | assumption | (simp (disch := first | omega | (simp only [hNw, hPt]; omega)) only [gn0, gn1, gn2, gn3, gn4, gn5, gp0, gno, gpo] <;> first | rfl | assumption | exact gp0 _ _ _ | exact gn0 _ _)) (by first | rfl | assumption)) rfl (eqr _ (by first | rfl | exact lpl (by assumption) | (simp [AV.plain, AV.plains, AV.cells, pc, pbu])))) (sco (sld rfl rfl (lda (n := 1) (by kernel_rfl) (by first | assumption | (simp (disch := first | omega | (simp only [hNw, hPt]; omega)) only [gn0, gn1, gn2, gn3, gn4, gn5, gp0, gno, gpo] <;> first | rfl | assumption | exact gp0 _ _ _ | exact gn0 _ _)) (by first | rfl | assumption)) rfl (eqr _ (by first | rfl | exact lpl (by assumption) | (simp [AV.plain, AV.plains, AV.cells, pc, pbu])))) (sco (sld rfl rfl (ldg (n := 2) (by kernel_rfl) (by first | assumption | (simp (disch := first | omega | (simp only [hNw, hPt]; omega)) only [gn0, gn1, gn2, gn3, gn4, gn5, gp0, gno, gpo] <;> first | rfl | assumption | exact gp0 _ _ _ | exact gn0 _ _)) (by first | rfl | assumption)) rfl (eqr _ (by first | rfl | exact lpl (by assumption) | (simp [AV.plain, AV.plains, AV.cells, pc, pbu])))) rfl))), ?_⟩
            refine OkP.step ?_
            refine OkO.builtinE rfl rfl rfl (lit_copy (G := G) (b := b) (x := bu) (us := us) ((Mine.row (l := us.map fun (k : Nat) => [I (k : Int)]) (by rw [flatN]; exact hU.to (hE _ (by (try dsimp only); repeat (first | exact hg | exact g2 | exact hG | apply Grow.new | (refine Grow.put ?_ _ (by first | omega | (simp only [hNw, hPt]; omega))))))) (fun x hx => by simp only [List.mem_map] at hx; obtain ⟨y, _, rfl⟩ := hx; rfl) (by omega))) (by omega)) ?_
            rintro v1 G1 hL1
            have e01 : (G1.get W.next).bind AObj.cs = some [cv, I least] := by rw [hL1.old (by omega)]; exact e0
            have e11 : (G1.get (W.next + 1)).bind AObj.cs = some [I (fr : Int), bu] := by rw [hL1.old (by omega)]; exact e1
            refine OkO.nil ⟨(sco (sld rfl rfl (lda (n := 1) (by kernel_rfl) (by first | assumption | (simp (disch := first | omega | (simp only [hNw, hPt]; omega)) only [gn0, gn1, gn2, gn3, gn4, gn5, gp0, gno, gpo] <;> first | rfl | assumption | exact gp0 _ _ _ | exact gn0 _ _)) (by first | rfl | assumption)) rfl (eqr _ (by first | rfl | exact lpl (by assumption) | (simp [AV.plain, AV.plains, AV.cells, pc, pbu])))) (sco (sld rfl rfl (ldg (n := 2) (by kernel_rfl) (by first | assumption | (simp (disch := first | omega | (simp only [hNw, hPt]; omega)) only [gn0, gn1, gn2, gn3, gn4, gn5, gp0, gno, gpo] <;> first | rfl | assumption | exact gp0 _ _ _ | exact gn0 _ _)) (by first | rfl | assumption)) rfl (eqr _ (by first | rfl | exact lpl (by assumption) | (simp [AV.plain, AV.plains, AV.cells, pc, pbu])))) rfl)), ?_⟩
            refine OkP.step ?_
            refine OkO.builtinE rfl rfl rfl (lead_app (W := W) (b := b) hL1 hg (by omega)) ?_
            rintro _ G2 ⟨q1, q2, q3, ⟨bk, mm, rfl⟩, q4⟩
            have e02 : (G2.get W.next).bind AObj.cs = some [cv, I least] := by rw [q4 _ (by omega)]; exact e0
            have e12 : (G2.get (W.next + 1)).bind AObj.cs = some [I (fr : Int), bu] := by rw [q4 _ (by omega)]; exact e1
            refine OkO.nil ⟨(sco (sld rfl rfl (lda (n := 1) (by kernel_rfl) (by first | assumption | (simp (disch := first | omega | (simp only [hNw, hPt]; omega)) only [gn0, gn1, gn2, gn3, gn4, gn5, gp0, gno, gpo] <;> first | rfl | assumption | exact gp0 _ _ _ | exact gn0 _ _)) (by first | rfl | assumption)) rfl (eqr _ (by first | rfl | exact lpl (by assumption) | (simp [AV.plain, AV.plains, AV.cells, pc, pbu])))) (sco (sld rfl rfl (lda (n := 1) (by kernel_rfl) (by first | assumption | (simp (disch := first | omega | (simp only [hNw, hPt]; omega)) only [gn0, gn1, gn2, gn3, gn4, gn5, gp0, gno, gpo] <;> first | rfl | assumption | exact gp0 _ _ _ | exact gn0 _ _)) (by first | rfl | assumption)) rfl (eqr _ (by first | rfl | exact lpl (by assumption) | (simp [AV.plain, AV.plains, AV.cells, pc, pbu])))) (sco (sld rfl rfl (ldg (n := 2) (by kernel_rfl) (by first | assumption | (simp (disch := first | omega | (simp only [hNw, hPt]; omega)) only [gn0, gn1, gn2, gn3, gn4, gn5, gp0, gno, gpo] <;> first | rfl | assumption | exact gp0 _ _ _ | exact gn0 _ _)) (by first | rfl | assumption)) rfl (eqr _ (by first | rfl | exact lpl (by assumption) | (simp [AV.plain, AV.plains, AV.cells, pc, pbu])))) rfl))), ?_⟩
            refine OkP.step ?_
            refine OkO.build (z := [.int .i64 0, .nils]) (pl := [(0, 1), (1, 1)]) rfl (by kernel_rfl) rfl rfl ?_
            refine OkO.nil ⟨rfl, ?_⟩
            refine OkP.step ?_
            refine OkO.callE rfl rfl rfl rfl rfl (ih d1 (us ++ [b]) (.opn bk mm) G2 hdd (by simp only [List.length_append, List.length_cons, List.length_nil]; omega) (fun k hk => by (rcases List.mem_append.1 hk with h9 | h9); (· exact hbd k h9); (· simp at h9; omega)) (hM.ext (hE _ q2)) (q1.low (Nat.zero_le _))) ?_ -- "sackung/sackungref01.Surfaces"
            rintro v9 H9 ⟨q9, bvs9, hs9⟩
            have g9 : Grow W H9 := Grow.ret q2 q9
            have n9x := q9.ext.next
            have e03 : (H9.get W.next).bind AObj.cs = some [cv, I least] := by rw [q9.ext.get _ (by omega)]; exact e02
            have e13 : (H9.get (W.next + 1)).bind AObj.cs = some [I (fr : Int), bu] := by rw [q9.ext.get _ (by omega)]; exact e12
            have hsr9 : Srf (W.next + 2) H9 ov fr bvs (upTo cols least n fr d1 us b) := hsr.to ⟨by omega, fun j hj => (q9.ext.get j (by omega)).trans (q4 j hj)⟩
            have hbl8 : bvs9.length ≤ 20000000 := by (have h8 := surfs_len cols least n fr d1 (us ++ [b]); have h7 := hs9.2.1; have h6 : (n + 1) ^ (d1 + 1) ≤ (n + 1) ^ (d + 1) := Nat.pow_le_pow_right (by omega) (by omega); omega)
            have hcl9 := cellsOf_len fr bvs
            have hcl8 := cellsOf_len fr bvs9
            refine OkO.nil ⟨(sco (sld rfl rfl (lda (n := 1) (by kernel_rfl) (by first | assumption | (simp (disch := first | omega | (simp only [hNw, hPt]; omega)) only [gn0, gn1, gn2, gn3, gn4, gn5, gp0, gno, gpo] <;> first | rfl | assumption | exact gp0 _ _ _ | exact gn0 _ _)) (by first | rfl | assumption)) rfl (eqr _ (by first | rfl | exact lpl (by assumption) | (simp [AV.plain, AV.plains, AV.cells, pc, pbu])))) (sco (sld rfl rfl (lda (n := 1) (by kernel_rfl) (by first | assumption | (simp (disch := first | omega | (simp only [hNw, hPt]; omega)) only [gn0, gn1, gn2, gn3, gn4, gn5, gp0, gno, gpo] <;> first | rfl | assumption | exact gp0 _ _ _ | exact gn0 _ _)) (by first | rfl | assumption)) rfl (eqr _ (by first | rfl | exact lpl (by assumption) | (simp [AV.plain, AV.plains, AV.cells, pc, pbu])))) rfl)), ?_⟩
            refine OkP.step ?_
            refine OkO.builtinE rfl rfl rfl (Mine.app3 (W := W) (k0 := W.next + 2) (t := 57) (u := 57) (sz := 2) (by_ := 32) (e := 27) hsr9.1 g9 (by omega) (by omega) (by kernel_rfl) (by kernel_rfl) hs9.elems.1 hs9.elems.2 hcl8 (by omega) (by omega) hs9.atoms) ?_
            rintro v3 G3 ⟨r1, r2, r3, r4⟩
            have hsr3 := hsr9.add hs9 r1 r3 r4
            have f03 : G3.get W.next = some (.cells [cv, I least] 24) := by rw [r4 _ (by omega) (hsr9.1.far (by omega)), q9.ext.get _ (by omega), q4 _ (by omega)]; exact f0
            have f13 : G3.get (W.next + 1) = some (.cells [I (fr : Int), bu] 27) := by rw [r4 _ (by omega) (hsr9.1.far (by omega)), q9.ext.get _ (by omega), q4 _ (by omega)]; exact f1
            have e04 : (G3.get W.next).bind AObj.cs = some [cv, I least] := by rw [f03]; rfl
            have e14 : (G3.get (W.next + 1)).bind AObj.cs = some [I (fr : Int), bu] := by rw [f13]; rfl
            refine OkO.nil ⟨(sco (sld rfl rfl (lda (n := 1) (by kernel_rfl) (by first | assumption | (simp (disch := first | omega | (simp only [hNw, hPt]; omega)) only [gn0, gn1, gn2, gn3, gn4, gn5, gp0, gno, gpo] <;> first | rfl | assumption | exact gp0 _ _ _ | exact gn0 _ _)) (by first | rfl | assumption)) rfl (eqr _ (by first | rfl | exact lpl (by assumption) | (simp [AV.plain, AV.plains, AV.cells, pc, pbu])))) (sco (sld rfl rfl (lda (n := 1) (by kernel_rfl) (by first | assumption | (simp (disch := first | omega | (simp only [hNw, hPt]; omega)) only [gn0, gn1, gn2, gn3, gn4, gn5, gp0, gno, gpo] <;> first | rfl | assumption | exact gp0 _ _ _ | exact gn0 _ _)) (by first | rfl | assumption)) rfl (eqr _ (by first | rfl | exact lpl (by assumption) | (simp [AV.plain, AV.plains, AV.cells, pc, pbu])))) (sco (sld rfl rfl (ldg (n := 2) (by kernel_rfl) (by first | assumption | (simp (disch := first | omega | (simp only [hNw, hPt]; omega)) only [gn0, gn1, gn2, gn3, gn4, gn5, gp0, gno, gpo] <;> first | rfl | assumption | exact gp0 _ _ _ | exact gn0 _ _)) (by first | rfl | assumption)) rfl (eqr _ (by first | rfl | exact lpl (by assumption) | (simp [AV.plain, AV.plains, AV.cells, pc, pbu])))) rfl))), ?_⟩
            refine OkP.step ?_
            refine OkO.assign rfl rfl ?_
            refine OkO.nil ⟨rfl, ?_⟩
            refine OkP.nil ?_
            refine Ok.region ?_
            refine OkO.move rfl rfl ?_
            refine OkO.bin rfl rfl rfl (bin_add (by omega) (by omega)) ?_
            refine OkO.assign rfl rfl ?_
            refine OkO.nil ?_
            first | exact ⟨n - (b + 1), by omega, b + 1, v3, bvs ++ bvs9, rfl, by omega, by rw [upTo_yes hnear]; exact hsr3, r2, (by show W.next + 2 ≤ G3.next; omega), f03, f13, Has.of (by kernel_rfl), rfl⟩ | exact ⟨n - (b + 1), by omega, b + 1, ov, bvs, rfl, by omega, by rw [upTo_no hnear]; exact hsr, hg, hgx, f0, f1, Has.of (by kernel_rfl), rfl⟩
          · -- no h14
            have hnear : nearB us b = false := by (unfold nearB; rw [hglast]; simpa using h14)
            refine Ok.skip ?_
            refine Ok.region ?_
            refine OkO.move rfl rfl ?_
            refine OkO.bin rfl rfl rfl (bin_add (by omega) (by omega)) ?_
            refine OkO.assign rfl rfl ?_
            refine OkO.nil ?_
            first | exact ⟨n - (b + 1), by omega, b + 1, v3, bvs ++ bvs9, rfl, by omega, by rw [upTo_yes hnear]; exact hsr3, r2, (by show W.next + 2 ≤ G3.next; omega), f03, f13, Has.of (by kernel_rfl), rfl⟩ | exact ⟨n - (b + 1), by omega, b + 1, ov, bvs, rfl, by omega, by rw [upTo_no hnear]; exact hsr, hg, hgx, f0, f1, Has.of (by kernel_rfl), rfl⟩
      · -- no h12
        have hbe : b = n := by (have : ¬ b < n := by simpa using h12); omega
        subst hbe
        rw [upTo_all, ← hdd] at hsr
        refine Ok.exit ?_
        refine Ok.seq ?_
        refine Ok.region ?_
        refine OkO.move rfl rfl ?_
        refine OkO.assign rfl rfl ?_
        refine OkO.nil ?_
        refine Ok.ret ⟨.inr rfl, ?_⟩
        refine back_newA rfl rfl (by rw [← hW]; exact hg) (fun H9 p1 p2 => ⟨p1, bvs, ?_⟩)
        exact (hsr.low (by omega)).back p2
end
end Go.Ev

set_option maxRecDepth 100000
set_option linter.unusedSimpArgs false
set_option linter.unusedVariables false
namespace Go.Ev
open Go Go.Proofs
noncomputable section
theorem c73 (m : Nat) : ∀ (d : Nat) (cv : AV) (cols : List (List Bed)) (least : Int) (n fr : Nat) (us : List Nat) (bu : AV) (H : Heap) (hM : Mat H cv cols) (hv : slOk cols least = true) (hgk : (cols.headD []).length = n) (hd : fr + us.length + d = cols.length) (hbd : ∀ k ∈ us, k < n) (hU : Mine 0 H bu 3 1 (ints us)) (hq : (n + 1) ^ (d + 1) ≤ 20000000), ∃ v H', RR (m + d + 3) (.fn 73 [.agg [cv, I least], .agg [I (fr : Int), bu]]) H = some (v, H') ∧ Ret H H' ∧ ∃ bvs, Srf H.next H' v fr bvs (surfs cols least n fr d us)
  | 0, cv, cols, least, n, fr, us, bu, H, hM, hv, hgk, hd, hbd, hU, hq => c73s m cv cols least n fr 0 us bu H hM hv hgk hd hbd hU hq (fun d1 _ _ _ h => by omega)
  | d + 1, cv, cols, least, n, fr, us, bu, H, hM, hv, hgk, hd, hbd, hU, hq => by
    have hq' : (n + 1) ^ (d + 1) ≤ 20000000 := Nat.le_trans (Nat.pow_le_pow_right (by omega) (by omega)) hq
    rw [show m + (d + 1) + 3 = (m + d + 1) + 3 from by omega]
    refine c73s (m + d + 1) cv cols least n fr (d + 1) us bu H hM hv hgk hd hbd hU hq (fun d1 us' bu' G h1 h2 h3 h4 h5 => ?_)
    have hd1 : d1 = d := by omega
    subst hd1
    rw [show m + d1 + 1 + 2 = m + d1 + 3 from by omega]
    exact c73 m d1 cv cols least n fr us' bu' G h4 hv hgk h2 h3 h5 hq'
theorem walk_at {n k b : Nat} {t : List Nat} : ∀ (us : List Nat), Walk n (us ++ b :: t) → us.getLast? = some k → Nxt n k b
  | [], _, h => by simp at h
  | [x], h, hk => by
    simp at hk
    subst hk
    exact h.2.1
  | x :: y :: l, h, hk => walk_at (y :: l) h.2.2 (by simpa using hk)
theorem ofN_inj {a c : List Nat} (h : ofN a = ofN c) : a = c := by
  exact (List.map_inj_right (f := fun (k : Nat) => (k : Int)) (fun x y hx => by omega)).1 h
theorem surfs_sound {cols : List (List Bed)} {least : Int} {n fr : Nat} : ∀ {d : Nat} {us u : List Nat}, u ∈ surfs cols least n fr d us → u ≠ [] ∧ surfB cols least (fr : Int) (ofN u) = true
  | 0, us, u, h => by
    rw [surfs] at h
    unfold hdS at h
    split at h
    · simp at h; subst h; assumption
    · simp at h
  | d + 1, us, u, h => by
    rw [surfs, List.mem_append] at h
    rcases h with h | h
    · unfold hdS at h
      split at h
      · simp at h; subst h; assumption
      · simp at h
    · obtain ⟨b, _, h⟩ := List.mem_flatMap.1 h
      split at h
      · exact surfs_sound h
      · simp at h
theorem surfs_full {cols : List (List Bed)} {least : Int} {n fr : Nat} : ∀ (tl : List Nat) {d : Nat} {us : List Nat}, us ++ tl ≠ [] → surfB cols least (fr : Int) (ofN (us ++ tl)) = true → Walk n (us ++ tl) → tl.length ≤ d → us ++ tl ∈ surfs cols least n fr d us
  | [], 0, us, h1, h2, _, _ => by
    rw [List.append_nil] at h1 h2 ⊢
    rw [surfs, hdS_yes h1 h2]
    simp
  | [], d + 1, us, h1, h2, _, _ => by
    rw [List.append_nil] at h1 h2 ⊢
    rw [surfs, hdS_yes h1 h2]
    simp
  | b :: t, 0, us, _, _, _, h => by simp at h
  | b :: t, d + 1, us, h1, h2, h3, h4 => by
    have e : us ++ b :: t = (us ++ [b]) ++ t := by simp
    have hi := h3.lt us.length (by simp)
    have hbn : b < n := by simpa using hi
    have hnear : nearB us b = true := by
      unfold nearB
      cases hg : us.getLast? with
      | none => rfl
      | some k =>
        have hx : Nxt n k b := walk_at us h3 hg
        have hx2 := hx.2
        simp [inB]
        omega
    rw [e] at h1 h2 h3 ⊢
    have := surfs_full t h1 h2 h3 (d := d) (by simp at h4; omega)
    rw [surfs, List.mem_append]
    refine .inr (List.mem_flatMap.2 ⟨b, List.mem_range.2 hbn, ?_⟩)
    rw [if_pos hnear]
    exact this
theorem surfs_mem {cols : List (List Bed)} {least : Int} {fr : Nat} {u : List Nat} (hv : slOk cols least = true) {d : Nat} (hd : fr + d = cols.length) : u ∈ surfs cols least (cols.headD []).length fr d [] ↔ Surf cols.length (cols.headD []).length least fr u := by
  constructor
  · intro h
    obtain ⟨h1, h2⟩ := surfs_sound h
    obtain ⟨f0, u2, e1, e2, hs⟩ := surf_N hv h2
    have hf : f0 = fr := by omega
    have hu : u2 = u := (ofN_inj e2).symm
    subst hf hu
    exact hs
  · intro hs
    have := surfs_full (cols := cols) (least := least) (fr := fr) u (us := []) (d := d) (by simpa using hs.2.1) (by simpa using surf_B hv hs) (by simpa using hs.1) (by have := hs.2.2.2; omega)
    simpa using this
end
end Go.Ev

set_option maxRecDepth 100000
set_option linter.unusedSimpArgs false
set_option linter.unusedVariables false
namespace Go.Ev
open Go Go.Proofs
noncomputable section
/-- Surfaces, each with the slice that holds its beds. -/
abbrev QL := List (Nat × List Nat × AV)
def cellsQ (Q : QL) : List AV := (Q.map fun q => [I (q.1 : Int), q.2.2]).flatten
def SA (k0 : Nat) (G : Heap) (v : AV) (Q : QL) : Prop := Mine k0 G v 27 2 (cellsQ Q) ∧ ∀ q ∈ Q, Mine 0 G q.2.2 3 1 (ints q.2.1)
theorem cellsQ_len (Q : QL) : (cellsQ Q).length = Q.length * 2 := by
  unfold cellsQ
  rw [flatten_len _ 2 (fun x hx => by obtain ⟨y, _, rfl⟩ := List.mem_map.1 hx; rfl), List.length_map]
theorem cellsQ_app (a c : QL) : cellsQ (a ++ c) = cellsQ a ++ cellsQ c := by simp [cellsQ]
theorem Srf.toQ {k0 : Nat} {G : Heap} {v : AV} {fr : Nat} : ∀ {bvs : List AV} {L : List (List Nat)}, Srf k0 G v fr bvs L → ∃ Q : QL, SA k0 G v Q ∧ Q.length = L.length ∧ ∀ f us, (∃ x, (f, us, x) ∈ Q) ↔ f = fr ∧ us ∈ L := by
  have key : ∀ (bvs : List AV) (L : List (List Nat)), bvs.length = L.length → (∀ (j : Nat) x u, bvs[j]? = some x → L[j]? = some u → Mine 0 G x 3 1 (ints u)) → ∃ Q : QL, cellsQ Q = cellsOf fr bvs ∧ Q.length = L.length ∧ (∀ q ∈ Q, Mine 0 G q.2.2 3 1 (ints q.2.1)) ∧ ∀ f us, (∃ x, (f, us, x) ∈ Q) ↔ f = fr ∧ us ∈ L := by
    intro bvs
    induction bvs with
    | nil =>
      intro L hl _
      have : L = [] := List.eq_nil_of_length_eq_zero (by simpa using hl.symm)
      subst this
      exact ⟨[], rfl, rfl, nofun, fun f us => by simp⟩
    | cons a l ih =>
      intro L hl h
      cases L with
      | nil => simp at hl
      | cons u L =>
        obtain ⟨Q, h1, h2, h3, h4⟩ := ih L (by simpa using hl) (fun j x u hx hu => h (j + 1) x u (by simpa using hx) (by simpa using hu))
        refine ⟨(fr, u, a) :: Q, ?_, by simp [h2], fun q hq => ?_, fun f us => ?_⟩
        · show [I (fr : Int), a] ++ cellsQ Q = [I (fr : Int), a] ++ cellsOf fr l
          rw [h1]
        · rcases List.mem_cons.1 hq with rfl | hq
          · exact h 0 a u rfl rfl
          · exact h3 q hq
        · constructor
          · rintro ⟨x, hx⟩
            rcases List.mem_cons.1 hx with e | hx
            · cases e; exact ⟨rfl, by simp⟩
            · have := (h4 f us).1 ⟨x, hx⟩
              exact ⟨this.1, by simp [this.2]⟩
          · rintro ⟨rfl, hu⟩
            rcases List.mem_cons.1 hu with rfl | hu
            · exact ⟨a, by simp⟩
            · obtain ⟨x, hx⟩ := (h4 f us).2 ⟨rfl, hu⟩
              exact ⟨x, by simp [hx]⟩
  intro bvs L h
  obtain ⟨Q, h1, h2, h3, h4⟩ := key bvs L h.2.1 h.2.2
  exact ⟨Q, ⟨by rw [h1]; exact h.1, h3⟩, h2, h4⟩
theorem SA.add {k0 k1 : Nat} {H9 G3 : Heap} {v v9 v3 : AV} {Q Q9 : QL} (h : SA k0 H9 v Q) (h9 : SA k1 H9 v9 Q9) (hm : Mine k0 G3 v3 27 2 (cellsQ Q ++ cellsQ Q9)) (hn : H9.next ≤ G3.next)
    (hg : ∀ j, j < H9.next → (∀ m, v ≠ .opn j m) → G3.get j = H9.get j) : SA k0 G3 v3 (Q ++ Q9) := by
  refine ⟨by rw [cellsQ_app]; exact hm, fun q hq => ?_⟩
  rcases List.mem_append.1 hq with hq | hq
  · exact (h.2 q hq).off h.1 (by decide) hn hg
  · exact (h9.2 q hq).off h.1 (by decide) hn hg
theorem SA.to {k0 : Nat} {G G' : Heap} {v : AV} {Q : QL} (h : SA k0 G v Q) (g : Ext G G') : SA k0 G' v Q := ⟨h.1.to g, fun q hq => (h.2 q hq).to g⟩
theorem SA.low {k0 k1 : Nat} {G : Heap} {v : AV} {Q : QL} (h : SA k1 G v Q) (hk : k0 ≤ k1) : SA k0 G v Q := ⟨h.1.low hk, h.2⟩
theorem SA.none (k0 : Nat) (G : Heap) : SA k0 G .nils [] := ⟨Mine.nil _ _ _ _, nofun⟩
theorem SA.atoms {k0 : Nat} {G : Heap} {v : AV} {Q : QL} (h : SA k0 G v Q) : Go.Ev.atoms (cellsQ Q) = true := by
  have key : ∀ (l : QL), (∀ q ∈ l, q.2.2.atom = true) → Go.Ev.atoms (cellsQ l) = true := by
    intro l
    induction l with
    | nil => intro _; rfl
    | cons a l ih =>
      intro hl
      have e : cellsQ (a :: l) = [I (a.1 : Int), a.2.2] ++ cellsQ l := rfl
      rw [e]
      refine atoms_app _ _ ?_ (ih fun x hx => hl x (by simp [hx]))
      rw [Go.Ev.atoms, Go.Ev.atoms, hl a (by simp)]
      rfl
  exact key _ fun q hq => (h.2 q hq).one.2
theorem SA.row {k0 : Nat} {G : Heap} {v : AV} {Q : QL} (h : SA k0 G v Q) : Row G v 2 (Q.map fun q => [I (q.1 : Int), q.2.2]) :=
  Mine.row (l := Q.map fun q => [I (q.1 : Int), q.2.2]) h.1 (fun x hx => by obtain ⟨y, _, rfl⟩ := List.mem_map.1 hx; rfl) (by omega)
theorem SA.elems {k0 : Nat} {G : Heap} {v : AV} {Q : QL} (h : SA k0 G v Q) : Go.Ev.elems G v 2 = some (cellsQ Q) ∧ lenOf v = some Q.length :=
  ⟨h.row.elems (fun x hx => by obtain ⟨y, _, rfl⟩ := List.mem_map.1 hx; rfl), by simpa using h.row.len⟩
theorem SA.back {H G H' : Heap} {v : AV} {Q : QL} (h : SA H.next G v Q) (r : (H' = H ∧ v.flat = true) ∨ ((∀ n, H'.get n = G.get n) ∧ H'.next = G.next)) : SA H.next H' v Q := by
  rcases r with ⟨e, hf⟩ | ⟨r1, r2⟩
  · have hb : Q = [] := by
      rcases h.1 with ⟨_, h1⟩ | ⟨b, n, h1, _⟩
      · have := cellsQ_len Q
        rw [h1] at this
        exact List.eq_nil_of_length_eq_zero (by simp at this; omega)
      · rw [h1] at hf; cases hf
    subst hb
    exact ⟨h.1.backT (V := v) (.inl ⟨e, hf⟩) id, nofun⟩
  · exact h.to ⟨by omega, fun j _ => r1 j⟩
/-- All surfaces of a slope. -/
def AllQ (cols : List (List Bed)) (least : Int) (Q : QL) : Prop := ∀ fr us, (∃ x, (fr, us, x) ∈ Q) ↔ Surf cols.length (cols.headD []).length least fr us
theorem c33 (m : Nat) (cv : AV) (cols : List (List Bed)) (least : Int) (H : Heap) (hM : Mat H cv cols) (hv : slOk cols least = true) (hq : ((cols.headD []).length + 1) ^ (cols.length + 1) ≤ 20000) : ∃ v H', RR (m + 16) (.fn 33 [.agg [cv, I least]]) H = some (v, H') ∧ ∃ Q : QL, Ret H H' ∧ SA H.next H' v Q ∧ AllQ cols least Q ∧ Q.length ≤ 300000 := by
  show ∃ v H', evFn Try.prog (RR (m + 15)) 33 [.agg [cv, I least]] H = some (v, H') ∧ ∃ Q : QL, Ret H H' ∧ SA H.next H' v Q ∧ AllQ cols least Q ∧ Q.length ≤ 300000
  refine fn_okE Try.func33 rfl rfl (by kernel_rfl) (by kernel_rfl) ?_
  obtain ⟨W, hW⟩ : ∃ W : Heap, W = ⟨H.t, H.next, H.next⟩ := ⟨_, rfl⟩
  have hg : ∀ n, W.get n = H.get n := fun n => by rw [hW]; rfl
  have hN : W.next = H.next := by rw [hW]
  have hE : ∀ G, Grow W G → Ext H G := fun G g => ⟨by rw [← hN]; exact g.next, fun n k => by rw [g.get n (by rw [hN]; exact k), hg]⟩
  have hG : Grow W W := Grow.refl (by rw [hW]; exact Nat.le_refl _)
  rw [← hW]
  have hsf := slOk_facts hv
  obtain ⟨vs, hR, hvl, hvv⟩ := id hM
  have hlen : lenOf cv = some cols.length := by rw [← hvl]; simpa using hR.len
  have pc : cv.plain = true := lpl hlen
  refine Ok.seq ?_
  refine Ok.region ?_
  refine OkO.box rfl rfl ?_
  refine OkO.assign rfl rfl ?_
  refine OkO.nil ?_
  refine Ok.seq ?_
  refine Ok.region ?_
  refine OkO.assign rfl rfl ?_
  refine OkO.nil ?_
  refine Ok.seq ?_
  refine Ok.seq ?_
  refine Ok.region ?_
  refine OkO.assign rfl rfl ?_
  refine OkO.nil ?_
  refine Ok.block ?_
  refine Ok.loop (fun n9 s_ => ∃ (i : Nat) (ov : AV) (Q : QL), n9 = cols.length - i ∧ i ≤ cols.length ∧ SA (W.next + 1) s_.H ov Q ∧ (∀ f us, (∃ x, (f, us, x) ∈ Q) ↔ f < i ∧ Surf cols.length (cols.headD []).length least f us) ∧ Q.length ≤ i * 20000 ∧ Grow W s_.H ∧ W.next + 1 ≤ s_.H.next ∧ s_.H.get W.next = some (.cells [cv, I least] 24) ∧ Has 5 [(1, .ptr W.next 0), (3, ov), (4, I (i : Int))] s_.T ∧ s_.D = []) (cols.length) (by unfold loopFuel; omega)
    ⟨0, .nils, [], rfl, Nat.zero_le _, SA.none _ _, fun f us => by simp, by simp, (by (try dsimp only); repeat (first | exact hG | apply Grow.new | (refine Grow.put ?_ _ (by first | omega | (simp only [hNw, hPt]; omega))))), (by first | omega | (simp only [hNw, hPt]; omega)), (by first | assumption | (simp (disch := first | omega | (simp only [hNw, hPt]; omega)) only [gn0, gn1, gn2, gn3, gn4, gn5, gp0, gno, gpo] <;> first | rfl | assumption | exact gp0 _ _ _ | exact gn0 _ _)), Has.of (by kernel_rfl), rfl⟩ ?_
  rintro n9 ⟨T, D, G⟩ ⟨i, ov, Q, hn9, hi, hsr, hal, hQl, hg, hgx, f0, ⟨f, hT⟩, hD⟩
  dsimp only at *
  subst hT hD
  have hgn := hg.next
  have e0 : (G.get W.next).bind AObj.cs = some [cv, I least] := by rw [f0]; rfl
  have hov := hsr.1.one
  refine Ok.seq ?_
  refine Ok.seq ?_
  refine Ok.region ?_
  refine OkO.move rfl rfl ?_
  refine OkO.fieldAddr (o := 0) rfl (by kernel_rfl) rfl ?_
  refine OkO.load rfl rfl (lda (n := 1) (by kernel_rfl) (by first | assumption | (simp (disch := first | omega | (simp only [hNw, hPt]; omega)) only [gn0, gn1, gn2, gn3, gn4, gn5, gp0, gno, gpo] <;> first | rfl | assumption | exact gp0 _ _ _ | exact gn0 _ _)) (by first | rfl | assumption)) ?_
  refine OkO.builtin rfl rfl rfl (bln (by kernel_rfl) (by first | assumption | rfl)) ?_
  refine OkO.bin rfl rfl rfl (bin_lss _ _) ?_
  refine OkO.nil ?_
  refine Ok.cond rfl (fun h1 => ?_) (fun h1 => ?_)
  · -- yes h1
    have hil : i < cols.length := by simpa using h1
    have hqi : ((cols.headD []).length + 1) ^ (cols.length - i + 1) ≤ ((cols.headD []).length + 1) ^ (cols.length + 1) := Nat.pow_le_pow_right (by omega) (by omega)
    refine Ok.skip ?_
    refine Ok.seq ?_
    refine Ok.block ?_
    refine Ok.region ?_
    refine OkO.move rfl rfl ?_
    refine OkO.load rfl rfl (ldg (n := 2) (by kernel_rfl) (by first | assumption | (simp (disch := first | omega | (simp only [hNw, hPt]; omega)) only [gn0, gn1, gn2, gn3, gn4, gn5, gp0, gno, gpo] <;> first | rfl | assumption | exact gp0 _ _ _ | exact gn0 _ _)) (by first | rfl | assumption)) ?_
    refine OkO.move rfl rfl ?_
    refine OkO.build (z := [.int .i64 0, .nils]) (pl := [(0, 1), (1, 1)]) rfl (by kernel_rfl) rfl rfl ?_
    refine OkO.callE rfl rfl rfl rfl rfl ((by rw [show m + 15 = (m + (12 - (cols.length - i))) + (cols.length - i) + 3 from by omega]; exact c73 (m + (12 - (cols.length - i))) (cols.length - i) cv cols least (cols.headD []).length i [] .nils _ (hM.ext (hE _ hg)) hv rfl (by simp only [List.length_nil]; omega) nofun (Mine.nil _ _ _ _) (by omega))) ?_ -- "sackung/sackungref01.Surfaces"
    rintro v9 H9 ⟨q9, bvs9, hs9⟩
    obtain ⟨Q9, hQ9, hl9, hm9⟩ := hs9.toQ
    have g9 : Grow W H9 := Grow.ret hg q9
    have n9x := q9.ext.next
    have e03 : (H9.get W.next).bind AObj.cs = some [cv, I least] := by rw [q9.ext.get _ (by omega)]; exact e0
    have hsr9 : SA (W.next + 1) H9 ov Q := hsr.to q9.ext
    have hl8 := surfs_len cols least (cols.headD []).length i (cols.length - i) []
    have hcl9 := cellsQ_len Q
    have hcl8 := cellsQ_len Q9
    refine OkO.builtinE rfl rfl rfl (Mine.app3 (W := W) (k0 := W.next + 1) (t := 57) (u := 57) (sz := 2) (by_ := 32) (e := 27) hsr9.1 g9 (by omega) (by omega) (by kernel_rfl) (by kernel_rfl) hQ9.elems.1 hQ9.elems.2 hcl8 (by omega) (by omega) hQ9.atoms) ?_
    rintro v3 G3 ⟨r1, r2, r3, r4⟩
    have hsr3 := hsr9.add hQ9 r1 r3 r4
    have f03 : G3.get W.next = some (.cells [cv, I least] 24) := by rw [r4 _ (by omega) (hsr9.1.far (by omega)), q9.ext.get _ (by omega)]; exact f0
    have e04 : (G3.get W.next).bind AObj.cs = some [cv, I least] := by rw [f03]; rfl
    have hal3 : ∀ f us, (∃ x, (f, us, x) ∈ Q ++ Q9) ↔ f < i + 1 ∧ Surf cols.length (cols.headD []).length least f us := fun f us => by (have h1 := hal f us; have h2 := hm9 f us; rw [surfs_mem hv (by omega)] at h2; constructor; (· rintro ⟨x, hx⟩; rcases List.mem_append.1 hx with hx | hx; (· have h3 := h1.1 ⟨x, hx⟩; exact ⟨by omega, h3.2⟩); (· have h3 := h2.1 ⟨x, hx⟩; exact ⟨by omega, by rw [h3.1]; exact h3.2⟩)); (· rintro ⟨h3, h4⟩; by_cases h5 : f < i; (· obtain ⟨x, hx⟩ := h1.2 ⟨h5, h4⟩; exact ⟨x, by simp [hx]⟩); (· have h6 : f = i := (by omega); subst h6; obtain ⟨x, hx⟩ := h2.2 ⟨rfl, h4⟩; exact ⟨x, by simp [hx]⟩)))
    refine OkO.assign rfl rfl ?_
    refine OkO.nil ?_
    refine Ok.region ?_
    refine OkO.move rfl rfl ?_
    refine OkO.bin rfl rfl rfl (bin_add (by omega) (by omega)) ?_
    refine OkO.assign rfl rfl ?_
    refine OkO.nil ?_
    exact ⟨cols.length - (i + 1), by omega, i + 1, v3, Q ++ Q9, rfl, by omega, hsr3, hal3, (by rw [List.length_append]; omega), r2, (by show W.next + 1 ≤ G3.next; omega), f03, Has.of (by kernel_rfl), rfl⟩
  · -- no h1
    have hil : i = cols.length := by (have : ¬ i < cols.length := by simpa using h1); omega
    refine Ok.exit ?_
    refine Ok.seq ?_
    refine Ok.region ?_
    refine OkO.move rfl rfl ?_
    refine OkO.assign rfl rfl ?_
    refine OkO.nil ?_
    refine Ok.ret ⟨.inr rfl, ?_⟩
    refine back_newA rfl rfl (by rw [← hW]; exact hg) (fun H9 p1 p2 => ⟨Q, p1, (hsr.low (by omega)).back p2, fun fr us => ?_, by omega⟩)
    rw [hal fr us, hil]
    exact ⟨fun h => h.2, fun h => ⟨by have h1 := h.2.2.2; have h2 := List.length_pos_iff.2 h.2.1; omega, h⟩⟩
end
end Go.Ev

set_option maxRecDepth 100000
set_option linter.unusedSimpArgs false
set_option linter.unusedVariables false
namespace Go.Ev
open Go Go.Proofs
noncomputable section
def lowQ (cols : List (List Bed)) (q : Nat × List Nat × AV) : Int := refFactor (bedsW cols q.1 q.2.1) ((bedsW cols q.1 q.2.1).map (endT false))
def BestQ (cols : List (List Bed)) (l : QL) (best : Int) : Prop := (best = -1 ∧ ∀ q ∈ l, lowQ cols q < 0) ∨ (0 ≤ best ∧ (∃ q ∈ l, lowQ cols q = best) ∧ ∀ q ∈ l, 0 ≤ lowQ cols q → best ≤ lowQ cols q)
theorem lowQ_fac {cols : List (List Bed)} {q : Nat × List Nat × AV} : lowQ cols q = if drive (bedsW cols q.1 q.2.1) < 1 then -1 else facW cols q.1 q.2.1 := by
  unfold lowQ refFactor
  split
  · rfl
  · unfold facW factorOf
    rw [held_end false weak (fun _ => rfl)]
    first | rfl | omega
theorem BestQ.same {cols : List (List Bed)} {l : QL} {best : Int} {q : Nat × List Nat × AV} (h : BestQ cols l best) (hq : lowQ cols q < 0 ∨ (0 ≤ best ∧ best ≤ lowQ cols q)) : BestQ cols (l ++ [q]) best := by
  rcases h with ⟨h1, h2⟩ | ⟨h1, ⟨x, hx, h2⟩, h3⟩
  · refine .inl ⟨h1, fun y hy => ?_⟩
    rcases List.mem_append.1 hy with hy | hy
    · exact h2 y hy
    · simp at hy; subst hy; omega
  · refine .inr ⟨h1, ⟨x, by simp [hx], h2⟩, fun y hy hy0 => ?_⟩
    rcases List.mem_append.1 hy with hy | hy
    · exact h3 y hy hy0
    · simp at hy; subst hy; omega
theorem BestQ.new {cols : List (List Bed)} {l : QL} {best : Int} {q : Nat × List Nat × AV} (h : BestQ cols l best) (h0 : 0 ≤ lowQ cols q) (hq : best < 0 ∨ lowQ cols q < best) : BestQ cols (l ++ [q]) (lowQ cols q) := by
  refine .inr ⟨h0, ⟨q, by simp, rfl⟩, fun y hy hy0 => ?_⟩
  rcases List.mem_append.1 hy with hy | hy
  · rcases h with ⟨h1, h2⟩ | ⟨h1, _, h3⟩
    · have := h2 y hy; omega
    · have := h3 y hy hy0; omega
  · simp at hy; subst hy; omega
/-- What Lowest says of all surfaces. -/
theorem BestQ.all {cols : List (List Bed)} {least : Int} {Q : QL} {best : Int} (hok : BedsOk cols) (h : BestQ cols Q best) (ha : AllQ cols least Q) : (best = -1 ∧ NoneAt cols (cols.headD []).length least) ∨ (0 ≤ best ∧ ∃ fr us, LowAt cols (cols.headD []).length least best fr us) := by
  rcases h with ⟨h1, h2⟩ | ⟨h1, ⟨q, hq, h2⟩, h3⟩
  · refine .inl ⟨h1, fun fr us hs => ?_⟩
    obtain ⟨x, hx⟩ := (ha fr us).2 hs
    have h4 := h2 _ hx
    rw [lowQ_fac] at h4
    by_cases hd : drive (bedsW cols fr us) < 1
    · exact hd
    · dsimp only at h4
      rw [if_neg hd] at h4
      have := (facW_bd hok (fr := fr) (us := us) (by omega)).1
      omega
  · obtain ⟨fr, us, x⟩ := q
    have hs := (ha fr us).1 ⟨x, hq⟩
    have hd : ¬ drive (bedsW cols fr us) < 1 := fun hd => by
      rw [lowQ_fac] at h2
      dsimp only at h2
      rw [if_pos hd] at h2
      omega
    refine .inr ⟨h1, fr, us, hs, by omega, ?_, fun fr' us' hs' hd' => ?_⟩
    · rw [lowQ_fac] at h2
      dsimp only at h2
      rw [if_neg hd] at h2
      exact h2
    · obtain ⟨x', hx'⟩ := (ha fr' us').2 hs'
      have h4 := h3 _ hx'
      rw [lowQ_fac] at h4
      dsimp only at h4
      rw [if_neg (by omega)] at h4
      exact h4 (facW_bd hok (fr := fr') (us := us') hd').1
end
end Go.Ev

set_option maxRecDepth 100000
set_option linter.unusedSimpArgs false
set_option linter.unusedVariables false
namespace Go.Ev
open Go Go.Proofs
noncomputable section
theorem few_facts {cols : List (List Bed)} {least : Int} (h : fewB cols least = true) : thinB cols = true ∧ (slOk cols least = true → ((cols.headD []).length + 1) ^ (cols.length + 1) ≤ 20000) := by
  unfold fewB at h
  split at h
  · refine ⟨by assumption, fun hv => ?_⟩
    rw [if_pos hv] at h
    have hf := slOk_facts hv
    simp only [Bool.or_eq_true, Bool.and_eq_true, decide_eq_true_eq] at h
    rcases h with h | h
    · have h1 : ((cols.headD []).length + 1) ^ (cols.length + 1) ≤ 4 ^ (cols.length + 1) := Nat.pow_le_pow_left (by omega) _
      have h2 : 4 ^ (cols.length + 1) ≤ 4 ^ 7 := Nat.pow_le_pow_right (by omega) (by omega)
      omega
    · have h1 : ((cols.headD []).length + 1) ^ (cols.length + 1) ≤ 6 ^ (cols.length + 1) := Nat.pow_le_pow_left (by omega) _
      have h2 : 6 ^ (cols.length + 1) ≤ 6 ^ 5 := Nat.pow_le_pow_right (by omega) (by omega)
      omega
  · cases h
end
end Go.Ev

set_option maxRecDepth 100000
set_option linter.unusedSimpArgs false
set_option linter.unusedVariables false
namespace Go.Ev
open Go Go.Proofs
noncomputable section
theorem c43 (m : Nat) (cv : AV) (cols : List (List Bed)) (least fa : Int) (H : Heap) (hM : Mat H cv cols) : RR (m + 4) (.fn 43 [.agg [cv, I least], I fa]) H = some (I (if slOk cols least = true then (if inB fa 0 10000 = true then 0 else 2) else 1), H) := by
  refine (R_fn _ _ _ _ _).trans ?_
  refine fn_ok Try.func43 rfl rfl (by kernel_rfl) (by kernel_rfl) ?_
  obtain ⟨W, hW⟩ : ∃ W : Heap, W = ⟨H.t, H.next, H.next⟩ := ⟨_, rfl⟩
  have hg : ∀ n, W.get n = H.get n := fun n => by rw [hW]; rfl
  have hN : W.next = H.next := by rw [hW]
  have hE : ∀ G, Grow W G → Ext H G := fun G g => ⟨by rw [← hN]; exact g.next, fun n k => by rw [g.get n (by rw [hN]; exact k), hg]⟩
  have hG : Grow W W := Grow.refl (by rw [hW]; exact Nat.le_refl _)
  rw [← hW]
  have pc : cv.plain = true := by obtain ⟨vs, hR, _, _⟩ := hM; exact lpl hR.len
  refine Ok.seq ?_
  refine Ok.region ?_
  refine OkO.box rfl rfl ?_
  refine OkO.assign rfl rfl ?_
  refine OkO.nil ?_
  refine Ok.seq ?_
  refine Ok.seq ?_
  refine Ok.region ?_
  refine OkO.load rfl rfl (ldg (n := 2) (by kernel_rfl) (by first | assumption | (simp (disch := first | omega | (simp only [hNw, hPt]; omega)) only [gn0, gn1, gn2, gn3, gn4, gn5, gp0, gno, gpo] <;> first | rfl | assumption | exact gp0 _ _ _ | exact gn0 _ _)) (by first | rfl | assumption)) ?_
  refine OkO.callV rfl rfl rfl rfl rfl (c23 (m + 1) cv cols least _ (hM.ext (hE _ (by (try dsimp only); repeat (first | exact hG | apply Grow.new | (refine Grow.put ?_ _ (by first | omega | (simp only [hNw, hPt]; omega)))))))) ?_ -- "sackung/sackungref01.Right"
  refine OkO.un rfl rfl rfl ?_
  refine OkO.nil ?_
  refine Ok.cond rfl (fun h1 => ?_) (fun h1 => ?_)
  · -- yes h1
    refine Ok.seq ?_
    refine Ok.region ?_
    refine OkO.assign rfl rfl ?_
    refine OkO.nil ?_
    refine Ok.ret ⟨.inr rfl, ?_⟩
    exact back_flat rfl (congrArg I (by simp_all)) rfl (by rw [← hW]; exact (by (try dsimp only); repeat (first | exact hG | apply Grow.new | (refine Grow.put ?_ _ (by first | omega | (simp only [hNw, hPt]; omega))))))
  · -- no h1
    refine Ok.skip ?_
    refine Ok.seq ?_
    refine Ok.seq ?_
    refine Ok.region ?_
    refine OkO.move rfl rfl ?_
    refine OkO.callV rfl rfl rfl rfl rfl (c37 (m + 2) _ _ _ _) ?_ -- "sackung/sackungref01.In"
    refine OkO.un rfl rfl rfl ?_
    refine OkO.nil ?_
    refine Ok.cond rfl (fun h2 => ?_) (fun h2 => ?_)
    · -- yes h2
      refine Ok.seq ?_
      refine Ok.region ?_
      refine OkO.assign rfl rfl ?_
      refine OkO.nil ?_
      refine Ok.ret ⟨.inr rfl, ?_⟩
      exact back_flat rfl (congrArg I (by simp_all)) rfl (by rw [← hW]; exact (by (try dsimp only); repeat (first | exact hG | apply Grow.new | (refine Grow.put ?_ _ (by first | omega | (simp only [hNw, hPt]; omega))))))
    · -- no h2
      refine Ok.skip ?_
      refine Ok.seq ?_
      refine Ok.region ?_
      refine OkO.assign rfl rfl ?_
      refine OkO.nil ?_
      refine Ok.ret ⟨.inr rfl, ?_⟩
      exact back_flat rfl (congrArg I (by simp_all)) rfl (by rw [← hW]; exact (by (try dsimp only); repeat (first | exact hG | apply Grow.new | (refine Grow.put ?_ _ (by first | omega | (simp only [hNw, hPt]; omega))))))
end
end Go.Ev

set_option maxRecDepth 100000
set_option linter.unusedSimpArgs false
set_option linter.unusedVariables false
namespace Go.Ev
open Go Go.Proofs
noncomputable section
section
variable {H0 : Type} {enc : TypeId × Value → H0} {w : World} {base : Nat} {sp : Nat → Bool} {hd : Bool}
theorem int_arg {H : Heap} (hs : Snap w H) {v : Value} {d : DataW H0} {p : List MemPlace} (hv : ∃ n, v = .int .i64 n) (h : DataW.Trod enc Try.prog w base sp hd 3 v d p) : ∃ x : Int, argAV w.heap.size v = I x := by
  obtain ⟨n, rfl⟩ := hv
  exact ⟨n, rfl⟩
end
end
end Go.Ev

set_option maxRecDepth 100000
set_option linter.unusedSimpArgs false
set_option linter.unusedVariables false
namespace Go.Ev
open Go Go.Proofs
noncomputable section
def highQ (cols : List (List Bed)) (q : Nat × List Nat × AV) : Int := refFactor (bedsW cols q.1 q.2.1) ((bedsW cols q.1 q.2.1).map (endT true))
def hitQ (cols : List (List Bed)) (fa : Int) (sb : Bool) (k : Nat) (q : Nat × List Nat × AV) : Bool := !decide (lowQ cols q < 0) && (inB (k : Int) (q.1 : Int) ((q.1 : Int) + (q.2.1.length : Int) - 1) && (if sb = true then decide (highQ cols q < fa) else decide (lowQ cols q < fa)))
theorem highQ_fac {cols : List (List Bed)} {q : Nat × List Nat × AV} : highQ cols q = if drive (bedsW cols q.1 q.2.1) < 1 then -1 else facS cols q.1 q.2.1 := by
  unfold highQ refFactor
  split
  · rfl
  · unfold facS factorOf
    rw [held_end true strong (fun _ => rfl)]
    first | rfl | omega
def movL (cols : List (List Bed)) (fa : Int) (sb : Bool) (Q : QL) (k : Nat) : List Nat := (List.range k).filter fun c => Q.any (hitQ cols fa sb c)
theorem movL_yes {cols : List (List Bed)} {fa : Int} {sb : Bool} {Q : QL} {k : Nat} (h : Q.any (hitQ cols fa sb k) = true) : ints (movL cols fa sb Q (k + 1)) = ints (movL cols fa sb Q k) ++ [I (k : Int)] := by
  unfold movL ints
  rw [List.range_succ, List.filter_append, List.map_append]
  simp only [List.filter_cons, List.filter_nil]
  rw [if_pos h]
  rfl
theorem movL_no {cols : List (List Bed)} {fa : Int} {sb : Bool} {Q : QL} {k : Nat} (h : Q.any (hitQ cols fa sb k) = false) : movL cols fa sb Q (k + 1) = movL cols fa sb Q k := by
  unfold movL
  rw [List.range_succ, List.filter_append]
  simp only [List.filter_cons, List.filter_nil]
  rw [if_neg (by rw [h]; simp), List.append_nil]
theorem movL_len (cols : List (List Bed)) (fa : Int) (sb : Bool) (Q : QL) (k : Nat) : (movL cols fa sb Q k).length ≤ k := by
  have := List.length_filter_le (fun c => Q.any (hitQ cols fa sb c)) (List.range k)
  rw [List.length_range] at this
  exact this
theorem any_step {f : (Nat × List Nat × AV) → Bool} {Q : QL} {i : Nat} {q : Nat × List Nat × AV} {a c : Bool} (h : i < Q.length) (hq : Q[i] = q) (ha : a = (Q.take i).any f) (hc : c = (a || f q)) : c = (Q.take (i + 1)).any f := by
  rw [List.take_succ_eq_append_getElem h, List.any_append, hq, hc, ha]
  simp
theorem sorted_ext : ∀ (a c : List Nat), a.Pairwise (· < ·) → c.Pairwise (· < ·) → (∀ x, x ∈ a ↔ x ∈ c) → a = c
  | [], [], _, _, _ => rfl
  | [], y :: l, _, _, h => by have := (h y).2 (by simp); simp at this
  | x :: l, [], _, _, h => by have := (h x).1 (by simp); simp at this
  | x :: l, y :: r, ha, hc, h => by
    obtain ⟨a1, a2⟩ := List.pairwise_cons.1 ha
    obtain ⟨c1, c2⟩ := List.pairwise_cons.1 hc
    have e : x = y := by
      rcases List.mem_cons.1 ((h x).1 (by simp)) with e | e
      · exact e
      · have h1 := c1 x e
        rcases List.mem_cons.1 ((h y).2 (by simp)) with e2 | e2
        · exact e2.symm
        · have := a1 y e2; omega
    subst e
    rw [sorted_ext l r a2 c2 fun z => ?_]
    constructor
    · intro hz
      rcases List.mem_cons.1 ((h z).1 (by simp [hz])) with e2 | e2
      · have := a1 z hz; omega
      · exact e2
    · intro hz
      rcases List.mem_cons.1 ((h z).2 (by simp [hz])) with e2 | e2
      · have := c1 z hz; omega
      · exact e2
/-- The price of which the walk's sum tells whether a column moves. -/
def prM (cols : List (List Bed)) (fa : Int) (sb : Bool) : Nat → Nat → Int := if sb = true then prS cols fa else prC cols fa
theorem movL_at {cols : List (List Bed)} {fa least : Int} {sb : Bool} {Q : QL} (hok : BedsOk cols) (hf : 0 ≤ fa ∧ fa ≤ 10000) (hS : AllQ cols least Q) : MovesAt (prM cols fa sb) cols.length (cols.headD []).length least (movL cols fa sb Q cols.length) := by
  refine ⟨fun col => ?_, List.Pairwise.filter _ List.pairwise_lt_range⟩
  unfold movL
  rw [List.mem_filter, List.mem_range, List.any_eq_true]
  refine and_congr_right fun _ => ?_
  constructor
  · rintro ⟨⟨fr, us, x⟩, hq, hh⟩
    have hs := (hS fr us).1 ⟨x, hq⟩
    unfold hitQ at hh
    simp only [Bool.and_eq_true, Bool.not_eq_true', decide_eq_false_iff_not, inB, decide_eq_true_eq] at hh
    obtain ⟨h1, ⟨h2, h3⟩, h4⟩ := hh
    have hd : ¬ drive (bedsW cols fr us) < 1 := fun hd => h1 (by rw [lowQ_fac]; dsimp only; rw [if_pos hd]; omega)
    refine ⟨fr, us, hs, ?_, by omega, by omega⟩
    unfold prM
    cases sb with
    | true =>
      rw [if_pos rfl] at h4 ⊢
      have h5 := of_decide_eq_true h4
      rw [highQ_fac] at h5
      dsimp only at h5
      rw [if_neg hd] at h5
      exact (belowS_iff hok hf fr us).2 ⟨by omega, h5⟩
    | false =>
      rw [if_neg (by simp)] at h4 ⊢
      have h5 := of_decide_eq_true h4
      rw [lowQ_fac] at h5
      dsimp only at h5
      rw [if_neg hd] at h5
      exact (below_iff hok hf fr us).2 ⟨by omega, h5⟩
  · rintro ⟨fr, us, hs, hw, h1, h2⟩
    obtain ⟨x, hx⟩ := (hS fr us).2 hs
    refine ⟨(fr, us, x), hx, ?_⟩
    unfold prM at hw
    have hd : 1 ≤ drive (bedsW cols fr us) := by
      cases sb with
      | true => rw [if_pos rfl] at hw; exact ((belowS_iff hok hf fr us).1 hw).1
      | false => rw [if_neg (by simp)] at hw; exact ((below_iff hok hf fr us).1 hw).1
    have hlo : lowQ cols (fr, us, x) = facW cols fr us := by rw [lowQ_fac]; dsimp only; rw [if_neg (by omega)]
    have hhi : highQ cols (fr, us, x) = facS cols fr us := by rw [highQ_fac]; dsimp only; rw [if_neg (by omega)]
    have h0 := (facW_bd hok (fr := fr) (us := us) hd).1
    unfold hitQ
    simp only [Bool.and_eq_true, Bool.not_eq_true', decide_eq_false_iff_not, inB, decide_eq_true_eq, hlo, hhi]
    refine ⟨by omega, ⟨by omega, by omega⟩, ?_⟩
    cases sb with
    | true =>
      rw [if_pos rfl] at hw ⊢
      exact decide_eq_true ((belowS_iff hok hf fr us).1 hw).2
    | false =>
      rw [if_neg (by simp)] at hw ⊢
      exact decide_eq_true ((below_iff hok hf fr us).1 hw).2
theorem c47 (m : Nat) (cv av : AV) (cols : List (List Bed)) (least fa : Int) (sb : Bool) (Q : QL) (H : Heap) (hM : Mat H cv cols) (hv : slOk cols least = true) (hA : SA 0 H av Q) (hS : AllQ cols least Q) (hl9 : Q.length ≤ 300000) : ∃ v H', RR (m + 4) (.fn 47 [.agg [cv, I least], av, I fa, .bool sb]) H = some (v, H') ∧ Ret H H' ∧ Mine H.next H' v 3 1 (ints (movL cols fa sb Q cols.length)) := by
  show ∃ v H', evFn Try.prog (RR (m + 3)) 47 [.agg [cv, I least], av, I fa, .bool sb] H = some (v, H') ∧ Ret H H' ∧ Mine H.next H' v 3 1 (ints (movL cols fa sb Q cols.length))
  refine fn_okE Try.func47 rfl rfl (by kernel_rfl) (by kernel_rfl) ?_
  obtain ⟨W, hW⟩ : ∃ W : Heap, W = ⟨H.t, H.next, H.next⟩ := ⟨_, rfl⟩
  have hg : ∀ n, W.get n = H.get n := fun n => by rw [hW]; rfl
  have hN : W.next = H.next := by rw [hW]
  have hE : ∀ G, Grow W G → Ext H G := fun G g => ⟨by rw [← hN]; exact g.next, fun n k => by rw [g.get n (by rw [hN]; exact k), hg]⟩
  have hG : Grow W W := Grow.refl (by rw [hW]; exact Nat.le_refl _)
  rw [← hW]
  have hsf := slOk_facts hv
  obtain ⟨vs, hR, hvl, hvv⟩ := id hM
  have hlen : lenOf cv = some cols.length := by rw [← hvl]; simpa using hR.len
  have pc : cv.plain = true := lpl hlen
  have hal := hA.elems.2
  have pav := lpl hal
  refine Ok.seq ?_
  refine Ok.region ?_
  refine OkO.box rfl rfl ?_
  refine OkO.assign rfl rfl ?_
  refine OkO.nil ?_
  refine Ok.seq ?_
  refine Ok.region ?_
  refine OkO.assign rfl rfl ?_
  refine OkO.nil ?_
  refine Ok.seq ?_
  refine Ok.seq ?_
  refine Ok.region ?_
  refine OkO.assign rfl rfl ?_
  refine OkO.nil ?_
  refine Ok.block ?_
  refine Ok.loop (fun n9 s_ => ∃ (k : Nat) (ov : AV), n9 = cols.length - k ∧ k ≤ cols.length ∧ Mine (W.next + 1) s_.H ov 3 1 (ints (movL cols fa sb Q k)) ∧ Grow W s_.H ∧ W.next + 1 ≤ s_.H.next ∧ s_.H.get W.next = some (.cells [cv, I least] 24) ∧ Has 7 [(1, av), (2, I fa), (3, .bool sb), (4, .ptr W.next 0), (9, ov), (10, I (k : Int))] s_.T ∧ s_.D = []) (cols.length) (by unfold loopFuel; omega)
    ⟨0, .nils, rfl, Nat.zero_le _, Mine.nil _ _ _ _, (by (try dsimp only); repeat (first | exact hg | exact hG | apply Grow.new | (refine Grow.put ?_ _ (by first | omega | (simp only [hNw, hPt]; omega))))), (by first | omega | (simp only [hNw, hPt]; omega)), (by first | assumption | (simp (disch := first | omega | (simp only [hNw, hPt]; omega)) only [gn0, gn1, gn2, gn3, gn4, gn5, gp0, gno, gpo] <;> first | rfl | assumption | exact gp0 _ _ _ | exact gn0 _ _)), Has.of (by kernel_rfl), rfl⟩ ?_
  rintro n9 ⟨T, D, G⟩ ⟨k, ov, hn9, hk, hm, hg, hgx, f0, ⟨f, hT⟩, hD⟩
  dsimp only at *
  subst hT hD
  have hgn := hg.next
  have e0 : (G.get W.next).bind AObj.cs = some [cv, I least] := by rw [f0]; rfl
  have hov := hm.one
  refine Ok.seq ?_
  refine Ok.seq ?_
  refine Ok.region ?_
  refine OkO.move rfl rfl ?_
  refine OkO.fieldAddr (o := 0) rfl (by kernel_rfl) rfl ?_
  refine OkO.load rfl rfl (lda (n := 1) (by kernel_rfl) (by first | assumption | (simp (disch := first | omega | (simp only [hNw, hPt]; omega)) only [gn0, gn1, gn2, gn3, gn4, gn5, gp0, gno, gpo] <;> first | rfl | assumption | exact gp0 _ _ _ | exact gn0 _ _)) (by first | rfl | assumption)) ?_
  refine OkO.builtin rfl rfl rfl (bln (by kernel_rfl) (by first | assumption | rfl)) ?_
  refine OkO.bin rfl rfl rfl (bin_lss _ _) ?_
  refine OkO.nil ?_
  refine Ok.cond rfl (fun h1 => ?_) (fun h1 => ?_)
  · -- yes h1
    have hkl : k < cols.length := by simpa using h1
    refine Ok.skip ?_
    refine Ok.seq ?_
    refine Ok.block ?_
    refine Ok.seq ?_
    refine Ok.region ?_
    refine OkO.assign rfl rfl ?_
    refine OkO.nil ?_
    refine Ok.seq ?_
    refine Ok.seq ?_
    refine Ok.region ?_
    refine OkO.assign rfl rfl ?_
    refine OkO.nil ?_
    refine Ok.block ?_
    obtain ⟨G1, hG1⟩ : ∃ G1, G1 = G := ⟨_, rfl⟩
    subst hG1
    refine Ok.loop (fun n8 s_ => ∃ (i : Nat) (is_ : Bool), n8 = Q.length - i ∧ i ≤ Q.length ∧ is_ = (Q.take i).any (hitQ cols fa sb k) ∧ Ext G1 s_.H ∧ Grow W s_.H ∧ Has 7 [(1, av), (2, I fa), (3, .bool sb), (4, .ptr W.next 0), (9, ov), (10, I (k : Int)), (11, .bool is_), (12, I (i : Int))] s_.T ∧ s_.D = []) (Q.length) (by unfold loopFuel; omega)
      ⟨0, false, rfl, Nat.zero_le _, by simp, Ext.refl _, hg, Has.of (by kernel_rfl), rfl⟩ ?_
    rintro n8 ⟨T, D2, G⟩ ⟨i, is_, hn8, hi, his, hxg, hg, ⟨f2, hT⟩, hD⟩
    dsimp only at *
    subst hT hD
    have hgn := hg.next
    have f0b : G.get W.next = some (.cells [cv, I least] 24) := (hxg.get _ (by omega)).trans f0
    have e0b : (G.get W.next).bind AObj.cs = some [cv, I least] := by rw [f0b]; rfl
    have hxn := hxg.next
    refine Ok.seq ?_
    refine Ok.seq ?_
    refine Ok.region ?_
    refine OkO.move rfl rfl ?_
    refine OkO.move rfl rfl ?_
    refine OkO.builtin rfl rfl rfl (bln (by kernel_rfl) (by first | assumption | rfl)) ?_
    refine OkO.bin rfl rfl rfl (bin_lss _ _) ?_
    refine OkO.nil ?_
    refine Ok.cond rfl (fun h2 => ?_) (fun h2 => ?_)
    · -- yes h2
      have hil : i < Q.length := by simpa using h2
      obtain ⟨⟨fr, us, x⟩, hqe⟩ : ∃ q, q = Q[i] := ⟨_, rfl⟩
      have hqi : Q[i] = (fr, us, x) := hqe.symm
      have hqm : (fr, us, x) ∈ Q := by rw [← hqi]; exact List.getElem_mem hil
      have hs := (hS fr us).1 ⟨x, hqm⟩
      have hs4 := hs.2.2.2
      have hmx : Mine 0 G x 3 1 (ints us) := (hA.2 _ hqm).to (hE _ hg)
      have hone := hmx.one
      have hat : atoms [I (fr : Int), x] = true := by rw [atoms, atoms, hone.2]; rfl
      have hxl : lenOf x = some us.length := by simpa using (Mine.row (l := us.map fun (k : Nat) => [I (k : Int)]) (by rw [flatN]; exact hmx) (fun x hx => by simp only [List.mem_map] at hx; obtain ⟨y, _, rfl⟩ := hx; rfl) (by omega)).len
      have pxv := lpl hxl
      obtain ⟨ub, uo, ucs, u1, u2, u3, u4⟩ := (hA.to (hE _ hg)).row.at_ i [I (fr : Int), x] (by rw [List.getElem?_map, List.getElem?_eq_getElem hil, hqi]; rfl)
      have hlq : lowQ cols (fr, us, x) = refFactor (bedsW cols fr us) ((bedsW cols fr us).map (endT false)) := rfl
      have hhq : highQ cols (fr, us, x) = refFactor (bedsW cols fr us) ((bedsW cols fr us).map (endT true)) := rfl
      have hdef : hitQ cols fa sb k (fr, us, x) = (!decide (lowQ cols (fr, us, x) < 0) && (inB (k : Int) (fr : Int) ((fr : Int) + (us.length : Int) - 1) && (if sb = true then decide (highQ cols (fr, us, x) < fa) else decide (lowQ cols (fr, us, x) < fa)))) := rfl
      refine Ok.skip ?_
      refine Ok.seq ?_
      refine Ok.block ?_
      refine Ok.seq ?_
      refine Ok.drawn [(0, true, []), (1, true, []), (2, true, []), (3, true, []), (4, true, []), (5, true, []), (6, true, []), (7, true, []), (8, true, []), (10, true, [8, 4, 3]), (11, true, [8, 4, 3]), (9, false, [3]), (12, false, [8, 4]), (13, false, [])] (by kernel_rfl) ?_
      refine OkP.step ?_
      refine OkO.move rfl rfl ?_
      refine OkO.nil ⟨rfl, ?_⟩
      refine OkP.step ?_
      refine OkO.move rfl rfl ?_
      refine OkO.nil ⟨rfl, ?_⟩
      refine OkP.step ?_
      refine OkO.index (sz := 2) (n := i) rfl rfl rfl (by kernel_rfl) (by first | assumption | rfl | exact slAt_slice (by omega) | exact slAt_opn (by omega)) ?_ -- index ('Go.Operand.tmp', 28) ('Go.Operand.tmp', 29)
      refine OkO.nil ⟨rfl, ?_⟩
      refine OkP.step ?_
      refine OkO.load rfl rfl (ldg (n := 2) (by kernel_rfl) (by first | assumption | (simp (disch := first | omega | (simp only [hNw, hPt]; omega)) only [gn0, gn1, gn2, gn3, gn4, gn5, gp0, gno, gpo] <;> first | rfl | assumption | exact gp0 _ _ _ | exact gn0 _ _)) (by first | rfl | assumption)) ?_
      refine OkO.nil ⟨rfl, ?_⟩
      refine OkP.step ?_
      refine OkO.load rfl rfl (ldg (n := 2) (by kernel_rfl) (by first | assumption | (simp (disch := first | omega | (simp only [hNw, hPt]; omega)) only [gn0, gn1, gn2, gn3, gn4, gn5, gp0, gno, gpo] <;> first | rfl | assumption | exact gp0 _ _ _ | exact gn0 _ _)) (by first | rfl | assumption)) ?_
      refine OkO.nil ⟨rfl, ?_⟩
      refine OkP.step ?_
      refine OkO.move rfl rfl ?_
      refine OkO.nil ⟨rfl, ?_⟩
      refine OkP.step ?_
      refine OkO.move rfl rfl ?_
      refine OkO.nil ⟨rfl, ?_⟩
      refine OkP.step ?_
      refine OkO.index (sz := 2) (n := i) rfl rfl rfl (by kernel_rfl) (by first | assumption | rfl | exact slAt_slice (by omega) | exact slAt_opn (by omega)) ?_ -- index ('Go.Operand.tmp', 33) ('Go.Operand.tmp', 34)
      refine OkO.nil ⟨rfl, ?_⟩
      refine OkP.step ?_
      refine OkO.load rfl rfl (ldg (n := 2) (by kernel_rfl) (by first | assumption | (simp (disch := first | omega | (simp only [hNw, hPt]; omega)) only [gn0, gn1, gn2, gn3, gn4, gn5, gp0, gno, gpo] <;> first | rfl | assumption | exact gp0 _ _ _ | exact gn0 _ _)) (by first | rfl | assumption)) ?_
      refine OkO.nil ⟨rfl, ?_⟩
      refine OkP.step ?_
      refine OkO.alloc (z := [.int .i64 0, .nils]) rfl (by kernel_rfl) ?_
      refine OkO.nil ⟨(sco (sld rfl rfl (ldg (n := 2) (by kernel_rfl) (by first | assumption | (simp (disch := first | omega | (simp only [hNw, hPt]; omega)) only [gn0, gn1, gn2, gn3, gn4, gn5, gp0, gno, gpo] <;> first | rfl | assumption | exact gp0 _ _ _ | exact gn0 _ _)) (by first | rfl | assumption)) rfl (eqr _ (by first | rfl | exact lpl (by assumption) | (simp [AV.plain, AV.plains, AV.cells, pc, pav, pxv])))) (sco (sld rfl rfl (ldg (n := 2) (by kernel_rfl) (by first | assumption | (simp (disch := first | omega | (simp only [hNw, hPt]; omega)) only [gn0, gn1, gn2, gn3, gn4, gn5, gp0, gno, gpo] <;> first | rfl | assumption | exact gp0 _ _ _ | exact gn0 _ _)) (by first | rfl | assumption)) rfl (eqr _ (by first | rfl | exact lpl (by assumption) | (simp [AV.plain, AV.plains, AV.cells, pc, pav, pxv])))) (sco (sld rfl rfl (ldg (n := 2) (by kernel_rfl) (by first | assumption | (simp (disch := first | omega | (simp only [hNw, hPt]; omega)) only [gn0, gn1, gn2, gn3, gn4, gn5, gp0, gno, gpo] <;> first | rfl | assumption | exact gp0 _ _ _ | exact gn0 _ _)) (by first | rfl | assumption)) rfl (eqr _ (by first | rfl | exact lpl (by assumption) | (simp [AV.plain, AV.plains, AV.cells, pc, pav, pxv])))) rfl))), ?_⟩
      refine OkP.step ?_
      refine OkO.alloc (z := [.int .i64 0, .int .i64 0]) rfl (by kernel_rfl) ?_
      refine OkO.nil ⟨(sco (sld rfl rfl (ldg (n := 2) (by kernel_rfl) (by first | assumption | (simp (disch := first | omega | (simp only [hNw, hPt]; omega)) only [gn0, gn1, gn2, gn3, gn4, gn5, gp0, gno, gpo] <;> first | rfl | assumption | exact gp0 _ _ _ | exact gn0 _ _)) (by first | rfl | assumption)) rfl (eqr _ (by first | rfl | exact lpl (by assumption) | (simp [AV.plain, AV.plains, AV.cells, pc, pav, pxv])))) (sco (sld rfl rfl (ldg (n := 2) (by kernel_rfl) (by first | assumption | (simp (disch := first | omega | (simp only [hNw, hPt]; omega)) only [gn0, gn1, gn2, gn3, gn4, gn5, gp0, gno, gpo] <;> first | rfl | assumption | exact gp0 _ _ _ | exact gn0 _ _)) (by first | rfl | assumption)) rfl (eqr _ (by first | rfl | exact lpl (by assumption) | (simp [AV.plain, AV.plains, AV.cells, pc, pav, pxv])))) (sco (sld rfl rfl (ldg (n := 2) (by kernel_rfl) (by first | assumption | (simp (disch := first | omega | (simp only [hNw, hPt]; omega)) only [gn0, gn1, gn2, gn3, gn4, gn5, gp0, gno, gpo] <;> first | rfl | assumption | exact gp0 _ _ _ | exact gn0 _ _)) (by first | rfl | assumption)) rfl (eqr _ (by first | rfl | exact lpl (by assumption) | (simp [AV.plain, AV.plains, AV.cells, pc, pav, pxv])))) rfl))), ?_⟩
      refine OkP.step ?_
      refine OkO.callV rfl rfl rfl rfl rfl (c28 m cv x cols least fr us (bedsW cols fr us) _ (hM.ext (hE _ (by (try dsimp only); repeat (first | exact hg | exact hG | apply Grow.new | (refine Grow.put ?_ _ (by first | omega | (simp only [hNw, hPt]; omega))))))) (Mine.row (l := us.map fun (k : Nat) => [I (k : Int)]) (by rw [flatN]; exact (hA.2 _ hqm).to (hE _ (by (try dsimp only); repeat (first | exact hg | exact hG | apply Grow.new | (refine Grow.put ?_ _ (by first | omega | (simp only [hNw, hPt]; omega))))))) (fun x hx => by simp only [List.mem_map] at hx; obtain ⟨y, _, rfl⟩ := hx; rfl) (by omega)) (picks_W (lens_of hv) hs.1 hs.2.2.2) (by have := hs.2.2.2; omega) (by have := hs.2.2.2; omega) (bedsW_ok (bedsOk_of hv) us fr)) ?_ -- "sackung/sackungref01.Span"
      refine OkO.nil ⟨(sco (sld rfl rfl (ldg (n := 2) (by kernel_rfl) (by first | assumption | (simp (disch := first | omega | (simp only [hNw, hPt]; omega)) only [gn0, gn1, gn2, gn3, gn4, gn5, gp0, gno, gpo] <;> first | rfl | assumption | exact gp0 _ _ _ | exact gn0 _ _)) (by first | rfl | assumption)) rfl (eqr _ (by first | rfl | exact lpl (by assumption) | (simp [AV.plain, AV.plains, AV.cells, pc, pav, pxv])))) rfl), ?_⟩
      refine OkP.step ?_
      refine OkO.store rfl rfl rfl (stc (n := 2) (ag := true) (by kernel_rfl) (by first | assumption | (simp (disch := first | omega | (simp only [hNw, hPt]; omega)) only [gn0, gn1, gn2, gn3, gn4, gn5, gp0, gno, gpo] <;> first | rfl | assumption | exact gp0 _ _ _ | exact gn0 _ _)) rfl (by first | rfl | assumption) (by first | rfl | exact spl_set _ _ _ (by first | assumption | omega | (simp; omega)))) ?_
      refine OkO.nil ⟨(sco (sld rfl rfl (ldg (n := 2) (by kernel_rfl) (by first | assumption | (simp (disch := first | omega | (simp only [hNw, hPt]; omega)) only [gn0, gn1, gn2, gn3, gn4, gn5, gp0, gno, gpo] <;> first | rfl | assumption | exact gp0 _ _ _ | exact gn0 _ _)) (by first | rfl | assumption)) rfl (eqr _ (by first | rfl | exact lpl (by assumption) | (simp [AV.plain, AV.plains, AV.cells, pc, pav, pxv])))) (sco (sld rfl rfl (ldg (n := 2) (by kernel_rfl) (by first | assumption | (simp (disch := first | omega | (simp only [hNw, hPt]; omega)) only [gn0, gn1, gn2, gn3, gn4, gn5, gp0, gno, gpo] <;> first | rfl | assumption | exact gp0 _ _ _ | exact gn0 _ _)) (by first | rfl | assumption)) rfl (eqr _ (by first | rfl | exact lpl (by assumption) | (simp [AV.plain, AV.plains, AV.cells, pc, pav, pxv])))) rfl)), ?_⟩
      refine OkP.step ?_
      refine OkO.store rfl rfl rfl (stc (n := 2) (ag := true) (by kernel_rfl) (by first | assumption | (simp (disch := first | omega | (simp only [hNw, hPt]; omega)) only [gn0, gn1, gn2, gn3, gn4, gn5, gp0, gno, gpo] <;> first | rfl | assumption | exact gp0 _ _ _ | exact gn0 _ _)) rfl (by first | rfl | assumption) (by first | rfl | exact spl_set _ _ _ (by first | assumption | omega | (simp; omega)))) ?_
      refine OkO.nil ⟨rfl, ?_⟩
      refine OkP.nil ?_
      refine Ok.seq ?_
      refine Ok.seq ?_
      refine Ok.region ?_
      refine OkO.fieldAddr (o := 0) rfl (by kernel_rfl) rfl ?_
      refine OkO.load rfl rfl (lda (n := 1) (by kernel_rfl) (by first | assumption | (simp (disch := first | omega | (simp only [hNw, hPt]; omega)) only [gn0, gn1, gn2, gn3, gn4, gn5, gp0, gno, gpo] <;> first | rfl | assumption | exact gp0 _ _ _ | exact gn0 _ _)) (by first | rfl | assumption)) ?_
      refine OkO.bin rfl rfl rfl (bin_lss _ _) ?_
      refine OkO.move rfl rfl ?_
      refine OkO.split (d := 41) rfl (fun g3 => ?_) (fun g3 => ?_)
      · -- true g3
        have hE1 : is_ = (is_ || hitQ cols fa sb k (fr, us, x)) := by rw [hdef]; rw [← hlq] at g3; simp [g3]
        refine OkO.skip rfl ?_
        refine OkO.skip rfl ?_
        refine OkO.skip rfl ?_
        refine OkO.skip rfl ?_
        refine OkO.skip rfl ?_
        refine OkO.skip rfl ?_
        refine OkO.skip rfl ?_
        refine OkO.skip rfl ?_
        refine OkO.skip rfl ?_
        refine OkO.skip rfl ?_
        refine OkO.skip rfl ?_
        refine OkO.skip rfl ?_
        refine OkO.pick (b := true) rfl rfl (fun _ => rfl) nofun ?_
        refine OkO.nil ?_
        refine Ok.condT rfl ?_
        refine Ok.exit ?_
        refine Ok.region ?_
        refine OkO.move rfl rfl ?_
        refine OkO.bin rfl rfl rfl (bin_add (by omega) (by omega)) ?_
        refine OkO.assign rfl rfl ?_
        refine OkO.nil ?_
        first | exact ⟨Q.length - (i + 1), by omega, i + 1, is_, rfl, by omega, any_step hil hqi his hE1, (by (try dsimp only); repeat (first | exact hxg | apply Ext.new | (refine Ext.put ?_ _ (by first | omega | (simp only [hNw, hPt]; omega))))), (by (try dsimp only); repeat (first | exact hg | exact hG | apply Grow.new | (refine Grow.put ?_ _ (by first | omega | (simp only [hNw, hPt]; omega))))), Has.of (by kernel_rfl), rfl⟩ | exact ⟨Q.length - (i + 1), by omega, i + 1, true, rfl, by omega, any_step hil hqi his hE2, (by (try dsimp only); repeat (first | exact hxg | apply Ext.new | (refine Ext.put ?_ _ (by first | omega | (simp only [hNw, hPt]; omega))))), (by (try dsimp only); repeat (first | exact hg | exact hG | apply Grow.new | (refine Grow.put ?_ _ (by first | omega | (simp only [hNw, hPt]; omega))))), Has.of (by kernel_rfl), rfl⟩ | exact ⟨Q.length - (i + 1), by omega, i + 1, false, rfl, by omega, any_step hil hqi his hE4, (by (try dsimp only); repeat (first | exact hxg | apply Ext.new | (refine Ext.put ?_ _ (by first | omega | (simp only [hNw, hPt]; omega))))), (by (try dsimp only); repeat (first | exact hg | exact hG | apply Grow.new | (refine Grow.put ?_ _ (by first | omega | (simp only [hNw, hPt]; omega))))), Has.of (by kernel_rfl), rfl⟩ | exact ⟨Q.length - (i + 1), by omega, i + 1, (decide (lowQ cols (fr, us, x) < fa)), rfl, by omega, any_step hil hqi his hE5, (by (try dsimp only); repeat (first | exact hxg | apply Ext.new | (refine Ext.put ?_ _ (by first | omega | (simp only [hNw, hPt]; omega))))), (by (try dsimp only); repeat (first | exact hg | exact hG | apply Grow.new | (refine Grow.put ?_ _ (by first | omega | (simp only [hNw, hPt]; omega))))), Has.of (by kernel_rfl), rfl⟩
      · -- false g3
        refine OkO.move rfl rfl ?_
        refine OkO.fieldAddr (o := 0) rfl (by kernel_rfl) rfl ?_
        refine OkO.load rfl rfl (lda (n := 1) (by kernel_rfl) (by first | assumption | (simp (disch := first | omega | (simp only [hNw, hPt]; omega)) only [gn0, gn1, gn2, gn3, gn4, gn5, gp0, gno, gpo] <;> first | rfl | assumption | exact gp0 _ _ _ | exact gn0 _ _)) (by first | rfl | assumption)) ?_
        refine OkO.fieldAddr (o := 0) rfl (by kernel_rfl) rfl ?_
        refine OkO.load rfl rfl (lda (n := 1) (by kernel_rfl) (by first | assumption | (simp (disch := first | omega | (simp only [hNw, hPt]; omega)) only [gn0, gn1, gn2, gn3, gn4, gn5, gp0, gno, gpo] <;> first | rfl | assumption | exact gp0 _ _ _ | exact gn0 _ _)) (by first | rfl | assumption)) ?_
        refine OkO.fieldAddr (o := 1) rfl (by kernel_rfl) rfl ?_
        refine OkO.load rfl rfl (lda (n := 1) (by kernel_rfl) (by first | assumption | (simp (disch := first | omega | (simp only [hNw, hPt]; omega)) only [gn0, gn1, gn2, gn3, gn4, gn5, gp0, gno, gpo] <;> first | rfl | assumption | exact gp0 _ _ _ | exact gn0 _ _)) (by first | rfl | assumption)) ?_
        refine OkO.builtin rfl rfl rfl (bln (by kernel_rfl) (by first | assumption | rfl)) ?_
        refine OkO.bin rfl rfl rfl (bin_add (by omega) (by omega)) ?_
        refine OkO.bin rfl rfl rfl (bin_sub (by omega) (by omega)) ?_
        refine OkO.callV rfl rfl rfl rfl rfl (c37 (m + 2) _ _ _ _) ?_ -- "sackung/sackungref01.In"
        refine OkO.un rfl rfl rfl ?_
        refine OkO.pick (b := false) rfl rfl nofun (fun _ => rfl) ?_
        refine OkO.nil ?_
        refine Ok.cond rfl (fun h4 => ?_) (fun h4 => ?_)
        · -- yes h4
          have hE1 : is_ = (is_ || hitQ cols fa sb k (fr, us, x)) := by rw [hdef]; simp at h4; simp [h4]
          refine Ok.exit ?_
          refine Ok.region ?_
          refine OkO.move rfl rfl ?_
          refine OkO.bin rfl rfl rfl (bin_add (by omega) (by omega)) ?_
          refine OkO.assign rfl rfl ?_
          refine OkO.nil ?_
          first | exact ⟨Q.length - (i + 1), by omega, i + 1, is_, rfl, by omega, any_step hil hqi his hE1, (by (try dsimp only); repeat (first | exact hxg | apply Ext.new | (refine Ext.put ?_ _ (by first | omega | (simp only [hNw, hPt]; omega))))), (by (try dsimp only); repeat (first | exact hg | exact hG | apply Grow.new | (refine Grow.put ?_ _ (by first | omega | (simp only [hNw, hPt]; omega))))), Has.of (by kernel_rfl), rfl⟩ | exact ⟨Q.length - (i + 1), by omega, i + 1, true, rfl, by omega, any_step hil hqi his hE2, (by (try dsimp only); repeat (first | exact hxg | apply Ext.new | (refine Ext.put ?_ _ (by first | omega | (simp only [hNw, hPt]; omega))))), (by (try dsimp only); repeat (first | exact hg | exact hG | apply Grow.new | (refine Grow.put ?_ _ (by first | omega | (simp only [hNw, hPt]; omega))))), Has.of (by kernel_rfl), rfl⟩ | exact ⟨Q.length - (i + 1), by omega, i + 1, false, rfl, by omega, any_step hil hqi his hE4, (by (try dsimp only); repeat (first | exact hxg | apply Ext.new | (refine Ext.put ?_ _ (by first | omega | (simp only [hNw, hPt]; omega))))), (by (try dsimp only); repeat (first | exact hg | exact hG | apply Grow.new | (refine Grow.put ?_ _ (by first | omega | (simp only [hNw, hPt]; omega))))), Has.of (by kernel_rfl), rfl⟩ | exact ⟨Q.length - (i + 1), by omega, i + 1, (decide (lowQ cols (fr, us, x) < fa)), rfl, by omega, any_step hil hqi his hE5, (by (try dsimp only); repeat (first | exact hxg | apply Ext.new | (refine Ext.put ?_ _ (by first | omega | (simp only [hNw, hPt]; omega))))), (by (try dsimp only); repeat (first | exact hg | exact hG | apply Grow.new | (refine Grow.put ?_ _ (by first | omega | (simp only [hNw, hPt]; omega))))), Has.of (by kernel_rfl), rfl⟩
        · -- no h4
          refine Ok.skip ?_
          refine Ok.region ?_
          refine OkO.move rfl rfl ?_
          refine OkO.move rfl rfl ?_
          refine OkO.split (d := 56) rfl (fun g5 => ?_) (fun g5 => ?_)
          · -- true g5
            have hE2 : true = (is_ || hitQ cols fa sb k (fr, us, x)) := by simp [g5]
            refine OkO.skip rfl ?_
            refine OkO.skip rfl ?_
            refine OkO.skip rfl ?_
            refine OkO.skip rfl ?_
            refine OkO.skip rfl ?_
            refine OkO.skip rfl ?_
            refine OkO.skip rfl ?_
            refine OkO.pick (b := true) rfl rfl (fun _ => rfl) nofun ?_
            refine OkO.move rfl rfl ?_
            refine OkO.skip rfl ?_
            refine OkO.skip rfl ?_
            refine OkO.skip rfl ?_
            refine OkO.skip rfl ?_
            refine OkO.skip rfl ?_
            refine OkO.skip rfl ?_
            refine OkO.skip rfl ?_
            refine OkO.skip rfl ?_
            refine OkO.pick (b := true) rfl rfl (fun _ => rfl) nofun ?_
            refine OkO.assign rfl rfl ?_
            refine OkO.nil ?_
            refine Ok.region ?_
            refine OkO.move rfl rfl ?_
            refine OkO.bin rfl rfl rfl (bin_add (by omega) (by omega)) ?_
            refine OkO.assign rfl rfl ?_
            refine OkO.nil ?_
            first | exact ⟨Q.length - (i + 1), by omega, i + 1, is_, rfl, by omega, any_step hil hqi his hE1, (by (try dsimp only); repeat (first | exact hxg | apply Ext.new | (refine Ext.put ?_ _ (by first | omega | (simp only [hNw, hPt]; omega))))), (by (try dsimp only); repeat (first | exact hg | exact hG | apply Grow.new | (refine Grow.put ?_ _ (by first | omega | (simp only [hNw, hPt]; omega))))), Has.of (by kernel_rfl), rfl⟩ | exact ⟨Q.length - (i + 1), by omega, i + 1, true, rfl, by omega, any_step hil hqi his hE2, (by (try dsimp only); repeat (first | exact hxg | apply Ext.new | (refine Ext.put ?_ _ (by first | omega | (simp only [hNw, hPt]; omega))))), (by (try dsimp only); repeat (first | exact hg | exact hG | apply Grow.new | (refine Grow.put ?_ _ (by first | omega | (simp only [hNw, hPt]; omega))))), Has.of (by kernel_rfl), rfl⟩ | exact ⟨Q.length - (i + 1), by omega, i + 1, false, rfl, by omega, any_step hil hqi his hE4, (by (try dsimp only); repeat (first | exact hxg | apply Ext.new | (refine Ext.put ?_ _ (by first | omega | (simp only [hNw, hPt]; omega))))), (by (try dsimp only); repeat (first | exact hg | exact hG | apply Grow.new | (refine Grow.put ?_ _ (by first | omega | (simp only [hNw, hPt]; omega))))), Has.of (by kernel_rfl), rfl⟩ | exact ⟨Q.length - (i + 1), by omega, i + 1, (decide (lowQ cols (fr, us, x) < fa)), rfl, by omega, any_step hil hqi his hE5, (by (try dsimp only); repeat (first | exact hxg | apply Ext.new | (refine Ext.put ?_ _ (by first | omega | (simp only [hNw, hPt]; omega))))), (by (try dsimp only); repeat (first | exact hg | exact hG | apply Grow.new | (refine Grow.put ?_ _ (by first | omega | (simp only [hNw, hPt]; omega))))), Has.of (by kernel_rfl), rfl⟩
          · -- false g5
            refine OkO.move rfl rfl ?_
            refine OkO.move rfl rfl ?_
            refine OkO.split (d := 58) rfl (fun g6 => ?_) (fun g6 => ?_)
            · -- true g6
              refine OkO.fieldAddr (o := 1) rfl (by kernel_rfl) rfl ?_
              refine OkO.load rfl rfl (lda (n := 1) (by kernel_rfl) (by first | assumption | (simp (disch := first | omega | (simp only [hNw, hPt]; omega)) only [gn0, gn1, gn2, gn3, gn4, gn5, gp0, gno, gpo] <;> first | rfl | assumption | exact gp0 _ _ _ | exact gn0 _ _)) (by first | rfl | assumption)) ?_
              refine OkO.move rfl rfl ?_
              refine OkO.bin rfl rfl rfl (bin_lss _ _) ?_
              refine OkO.pick (b := true) rfl rfl (fun _ => rfl) nofun ?_
              refine OkO.pick (b := false) rfl rfl nofun (fun _ => rfl) ?_
              refine OkO.move rfl rfl ?_
              refine OkO.split (d := 65) rfl (fun g7 => ?_) (fun g7 => ?_)
              · -- true g7
                have hE2 : true = (is_ || hitQ cols fa sb k (fr, us, x)) := by rw [hdef]; rw [← hlq] at g3; rw [← hhq] at g7; simp at h4; simp [g3, h4, g6, g7]
                refine OkO.skip rfl ?_
                refine OkO.skip rfl ?_
                refine OkO.skip rfl ?_
                refine OkO.skip rfl ?_
                refine OkO.skip rfl ?_
                refine OkO.skip rfl ?_
                refine OkO.skip rfl ?_
                refine OkO.skip rfl ?_
                refine OkO.pick (b := true) rfl rfl (fun _ => rfl) nofun ?_
                refine OkO.assign rfl rfl ?_
                refine OkO.nil ?_
                refine Ok.region ?_
                refine OkO.move rfl rfl ?_
                refine OkO.bin rfl rfl rfl (bin_add (by omega) (by omega)) ?_
                refine OkO.assign rfl rfl ?_
                refine OkO.nil ?_
                first | exact ⟨Q.length - (i + 1), by omega, i + 1, is_, rfl, by omega, any_step hil hqi his hE1, (by (try dsimp only); repeat (first | exact hxg | apply Ext.new | (refine Ext.put ?_ _ (by first | omega | (simp only [hNw, hPt]; omega))))), (by (try dsimp only); repeat (first | exact hg | exact hG | apply Grow.new | (refine Grow.put ?_ _ (by first | omega | (simp only [hNw, hPt]; omega))))), Has.of (by kernel_rfl), rfl⟩ | exact ⟨Q.length - (i + 1), by omega, i + 1, true, rfl, by omega, any_step hil hqi his hE2, (by (try dsimp only); repeat (first | exact hxg | apply Ext.new | (refine Ext.put ?_ _ (by first | omega | (simp only [hNw, hPt]; omega))))), (by (try dsimp only); repeat (first | exact hg | exact hG | apply Grow.new | (refine Grow.put ?_ _ (by first | omega | (simp only [hNw, hPt]; omega))))), Has.of (by kernel_rfl), rfl⟩ | exact ⟨Q.length - (i + 1), by omega, i + 1, false, rfl, by omega, any_step hil hqi his hE4, (by (try dsimp only); repeat (first | exact hxg | apply Ext.new | (refine Ext.put ?_ _ (by first | omega | (simp only [hNw, hPt]; omega))))), (by (try dsimp only); repeat (first | exact hg | exact hG | apply Grow.new | (refine Grow.put ?_ _ (by first | omega | (simp only [hNw, hPt]; omega))))), Has.of (by kernel_rfl), rfl⟩ | exact ⟨Q.length - (i + 1), by omega, i + 1, (decide (lowQ cols (fr, us, x) < fa)), rfl, by omega, any_step hil hqi his hE5, (by (try dsimp only); repeat (first | exact hxg | apply Ext.new | (refine Ext.put ?_ _ (by first | omega | (simp only [hNw, hPt]; omega))))), (by (try dsimp only); repeat (first | exact hg | exact hG | apply Grow.new | (refine Grow.put ?_ _ (by first | omega | (simp only [hNw, hPt]; omega))))), Has.of (by kernel_rfl), rfl⟩
              · -- false g7
                refine OkO.move rfl rfl ?_
                refine OkO.un rfl rfl rfl ?_
                refine OkO.move rfl rfl ?_
                refine OkO.split (d := 68) rfl (fun g8 => ?_) (fun g8 => ?_)
                · -- true g8
                  exact absurd g8 (by simp [g6])
                · -- false g8
                  have hE4 : false = (is_ || hitQ cols fa sb k (fr, us, x)) := by rw [hdef]; rw [← hhq] at g7; simp [g5, g6, g7]
                  refine OkO.skip rfl ?_
                  refine OkO.skip rfl ?_
                  refine OkO.skip rfl ?_
                  refine OkO.skip rfl ?_
                  refine OkO.pick (b := false) rfl rfl nofun (fun _ => rfl) ?_
                  refine OkO.pick (b := false) rfl rfl nofun (fun _ => rfl) ?_
                  refine OkO.assign rfl rfl ?_
                  refine OkO.nil ?_
                  refine Ok.region ?_
                  refine OkO.move rfl rfl ?_
                  refine OkO.bin rfl rfl rfl (bin_add (by omega) (by omega)) ?_
                  refine OkO.assign rfl rfl ?_
                  refine OkO.nil ?_
                  first | exact ⟨Q.length - (i + 1), by omega, i + 1, is_, rfl, by omega, any_step hil hqi his hE1, (by (try dsimp only); repeat (first | exact hxg | apply Ext.new | (refine Ext.put ?_ _ (by first | omega | (simp only [hNw, hPt]; omega))))), (by (try dsimp only); repeat (first | exact hg | exact hG | apply Grow.new | (refine Grow.put ?_ _ (by first | omega | (simp only [hNw, hPt]; omega))))), Has.of (by kernel_rfl), rfl⟩ | exact ⟨Q.length - (i + 1), by omega, i + 1, true, rfl, by omega, any_step hil hqi his hE2, (by (try dsimp only); repeat (first | exact hxg | apply Ext.new | (refine Ext.put ?_ _ (by first | omega | (simp only [hNw, hPt]; omega))))), (by (try dsimp only); repeat (first | exact hg | exact hG | apply Grow.new | (refine Grow.put ?_ _ (by first | omega | (simp only [hNw, hPt]; omega))))), Has.of (by kernel_rfl), rfl⟩ | exact ⟨Q.length - (i + 1), by omega, i + 1, false, rfl, by omega, any_step hil hqi his hE4, (by (try dsimp only); repeat (first | exact hxg | apply Ext.new | (refine Ext.put ?_ _ (by first | omega | (simp only [hNw, hPt]; omega))))), (by (try dsimp only); repeat (first | exact hg | exact hG | apply Grow.new | (refine Grow.put ?_ _ (by first | omega | (simp only [hNw, hPt]; omega))))), Has.of (by kernel_rfl), rfl⟩ | exact ⟨Q.length - (i + 1), by omega, i + 1, (decide (lowQ cols (fr, us, x) < fa)), rfl, by omega, any_step hil hqi his hE5, (by (try dsimp only); repeat (first | exact hxg | apply Ext.new | (refine Ext.put ?_ _ (by first | omega | (simp only [hNw, hPt]; omega))))), (by (try dsimp only); repeat (first | exact hg | exact hG | apply Grow.new | (refine Grow.put ?_ _ (by first | omega | (simp only [hNw, hPt]; omega))))), Has.of (by kernel_rfl), rfl⟩
            · -- false g6
              refine OkO.skip rfl ?_
              refine OkO.skip rfl ?_
              refine OkO.skip rfl ?_
              refine OkO.skip rfl ?_
              refine OkO.pick (b := false) rfl rfl nofun (fun _ => rfl) ?_
              refine OkO.pick (b := false) rfl rfl nofun (fun _ => rfl) ?_
              refine OkO.move rfl rfl ?_
              refine OkO.move rfl rfl ?_
              refine OkO.un rfl rfl rfl ?_
              refine OkO.move rfl rfl ?_
              refine OkO.split (d := 68) rfl (fun g9 => ?_) (fun g9 => ?_)
              · -- true g9
                have hE5 : decide (lowQ cols (fr, us, x) < fa) = (is_ || hitQ cols fa sb k (fr, us, x)) := by rw [hdef]; rw [← hlq] at g3; simp at h4; simp [g3, h4, g6, g5]
                refine OkO.fieldAddr (o := 0) rfl (by kernel_rfl) rfl ?_
                refine OkO.load rfl rfl (lda (n := 1) (by kernel_rfl) (by first | assumption | (simp (disch := first | omega | (simp only [hNw, hPt]; omega)) only [gn0, gn1, gn2, gn3, gn4, gn5, gp0, gno, gpo] <;> first | rfl | assumption | exact gp0 _ _ _ | exact gn0 _ _)) (by first | rfl | assumption)) ?_
                refine OkO.move rfl rfl ?_
                refine OkO.bin rfl rfl rfl (bin_lss _ _) ?_
                refine OkO.pick (b := true) rfl rfl (fun _ => rfl) nofun ?_
                refine OkO.pick (b := false) rfl rfl nofun (fun _ => rfl) ?_
                refine OkO.assign rfl rfl ?_
                refine OkO.nil ?_
                refine Ok.region ?_
                refine OkO.move rfl rfl ?_
                refine OkO.bin rfl rfl rfl (bin_add (by omega) (by omega)) ?_
                refine OkO.assign rfl rfl ?_
                refine OkO.nil ?_
                first | exact ⟨Q.length - (i + 1), by omega, i + 1, is_, rfl, by omega, any_step hil hqi his hE1, (by (try dsimp only); repeat (first | exact hxg | apply Ext.new | (refine Ext.put ?_ _ (by first | omega | (simp only [hNw, hPt]; omega))))), (by (try dsimp only); repeat (first | exact hg | exact hG | apply Grow.new | (refine Grow.put ?_ _ (by first | omega | (simp only [hNw, hPt]; omega))))), Has.of (by kernel_rfl), rfl⟩ | exact ⟨Q.length - (i + 1), by omega, i + 1, true, rfl, by omega, any_step hil hqi his hE2, (by (try dsimp only); repeat (first | exact hxg | apply Ext.new | (refine Ext.put ?_ _ (by first | omega | (simp only [hNw, hPt]; omega))))), (by (try dsimp only); repeat (first | exact hg | exact hG | apply Grow.new | (refine Grow.put ?_ _ (by first | omega | (simp only [hNw, hPt]; omega))))), Has.of (by kernel_rfl), rfl⟩ | exact ⟨Q.length - (i + 1), by omega, i + 1, false, rfl, by omega, any_step hil hqi his hE4, (by (try dsimp only); repeat (first | exact hxg | apply Ext.new | (refine Ext.put ?_ _ (by first | omega | (simp only [hNw, hPt]; omega))))), (by (try dsimp only); repeat (first | exact hg | exact hG | apply Grow.new | (refine Grow.put ?_ _ (by first | omega | (simp only [hNw, hPt]; omega))))), Has.of (by kernel_rfl), rfl⟩ | exact ⟨Q.length - (i + 1), by omega, i + 1, (decide (lowQ cols (fr, us, x) < fa)), rfl, by omega, any_step hil hqi his hE5, (by (try dsimp only); repeat (first | exact hxg | apply Ext.new | (refine Ext.put ?_ _ (by first | omega | (simp only [hNw, hPt]; omega))))), (by (try dsimp only); repeat (first | exact hg | exact hG | apply Grow.new | (refine Grow.put ?_ _ (by first | omega | (simp only [hNw, hPt]; omega))))), Has.of (by kernel_rfl), rfl⟩
              · -- false g9
                exact absurd g9 (by simp [g6])
    · -- no h2
      have hil : i = Q.length := by (have : ¬ i < Q.length := by simpa using h2); omega
      have hm2 : Mine (W.next + 1) G ov 3 1 (ints (movL cols fa sb Q k)) := hm.to hxg
      refine Ok.exit ?_
      refine Ok.seq ?_
      refine Ok.region ?_
      refine OkO.move rfl rfl ?_
      refine OkO.nil ?_
      refine Ok.cond rfl (fun h10 => ?_) (fun h10 => ?_)
      · -- yes h10
        have hany : Q.any (hitQ cols fa sb k) = true := by (rw [hil, List.take_length] at his; rw [← his]; exact h10)
        refine Ok.region ?_
        refine OkO.move rfl rfl ?_
        refine OkO.move rfl rfl ?_
        refine OkO.buildSlice (el := 3) (sz := 1) (z := [.int .i64 0]) rfl (by kernel_rfl) (by decide) rfl rfl ?_
        refine OkO.builtinE rfl rfl rfl (Mine.app3 (W := W) (k0 := W.next + 1) (t := 25) (u := 25) (sz := 1) (by_ := 8) (e := 3) (n := 1) (new := [I (k : Int)]) (hm2.to (by (try dsimp only); repeat (first | exact Ext.refl _ | assumption | apply Ext.new | (refine Ext.put ?_ _ (by first | omega | (simp only [hNw, hPt]; omega)))))) (by (try dsimp only); repeat (first | exact hg | exact hG | apply Grow.new | (refine Grow.put ?_ _ (by first | omega | (simp only [hNw, hPt]; omega))))) (by omega) (by first | omega | (simp only [hNw, hPt]; omega)) (by kernel_rfl) (by kernel_rfl) (elems_new (n := 1) (sz := 1) rfl) rfl rfl (by have h9 := movL_len cols fa sb Q k; simp only [ints, List.length_map]; omega) (by omega) rfl) ?_
        rintro v2 G2 ⟨q1, q2, q3, q4⟩
        simp only [hNw, hPt] at q3
        have f02 : G2.get W.next = some (.cells [cv, I least] 24) := by rw [q4 _ (by first | omega | (simp only [hNw, hPt]; omega)) (hm2.far (by omega)), gno _ _ _ (by omega)]; exact f0b
        refine OkO.assign rfl rfl ?_
        refine OkO.nil ?_
        refine Ok.region ?_
        refine OkO.move rfl rfl ?_
        refine OkO.bin rfl rfl rfl (bin_add (by omega) (by omega)) ?_
        refine OkO.assign rfl rfl ?_
        refine OkO.nil ?_
        first | exact ⟨cols.length - (k + 1), by omega, k + 1, v2, rfl, by omega, (by rw [movL_yes hany]; exact q1), q2, (by show W.next + 1 ≤ G2.next; omega), f02, Has.of (by kernel_rfl), rfl⟩ | exact ⟨cols.length - (k + 1), by omega, k + 1, ov, rfl, by omega, (by rw [movL_no hany]; exact hm2), hg, (by show W.next + 1 ≤ G.next; omega), f0b, Has.of (by kernel_rfl), rfl⟩
      · -- no h10
        have hany : Q.any (hitQ cols fa sb k) = false := by (rw [hil, List.take_length] at his; rw [← his]; simpa using h10)
        refine Ok.skip ?_
        refine Ok.region ?_
        refine OkO.move rfl rfl ?_
        refine OkO.bin rfl rfl rfl (bin_add (by omega) (by omega)) ?_
        refine OkO.assign rfl rfl ?_
        refine OkO.nil ?_
        first | exact ⟨cols.length - (k + 1), by omega, k + 1, v2, rfl, by omega, (by rw [movL_yes hany]; exact q1), q2, (by show W.next + 1 ≤ G2.next; omega), f02, Has.of (by kernel_rfl), rfl⟩ | exact ⟨cols.length - (k + 1), by omega, k + 1, ov, rfl, by omega, (by rw [movL_no hany]; exact hm2), hg, (by show W.next + 1 ≤ G.next; omega), f0b, Has.of (by kernel_rfl), rfl⟩
  · -- no h1
    have hkl : k = cols.length := by (have : ¬ k < cols.length := by simpa using h1); omega
    refine Ok.exit ?_
    refine Ok.seq ?_
    refine Ok.region ?_
    refine OkO.move rfl rfl ?_
    refine OkO.assign rfl rfl ?_
    refine OkO.nil ?_
    refine Ok.ret ⟨.inr rfl, ?_⟩
    refine back_newA rfl rfl (by rw [← hW]; exact hg) (fun H9 p1 p2 => ⟨p1, ?_⟩)
    rw [hkl] at hm
    exact (hm.low (by omega)).backT p2 id
end
end Go.Ev

set_option maxRecDepth 100000
set_option linter.unusedSimpArgs false
set_option linter.unusedVariables false
namespace Go.Ev
open Go Go.Proofs
noncomputable section
theorem c46 (m : Nat) (uv wv : AV) (us : List Nat) (H : Heap) (hU : Row H uv 1 (us.map fun (k : Nat) => [I (k : Int)])) (hV : Row H wv 1 (us.map fun (k : Nat) => [I (k : Int)])) (hl9 : us.length ≤ 1000) : RR (m + 1) (.fn 46 [uv, wv]) H = some (.bool true, H) := by
  refine (R_fn _ _ _ _ _).trans ?_
  refine fn_ok Try.func46 rfl rfl (by kernel_rfl) (by kernel_rfl) ?_
  obtain ⟨W, hW⟩ : ∃ W : Heap, W = ⟨H.t, H.next, H.next⟩ := ⟨_, rfl⟩
  have hg : ∀ n, W.get n = H.get n := fun n => by rw [hW]; rfl
  have hN : W.next = H.next := by rw [hW]
  have hE : ∀ G, Grow W G → Ext H G := fun G g => ⟨by rw [← hN]; exact g.next, fun n k => by rw [g.get n (by rw [hN]; exact k), hg]⟩
  have hG : Grow W W := Grow.refl (by rw [hW]; exact Nat.le_refl _)
  rw [← hW]
  have hul : lenOf uv = some us.length := by simpa using hU.len
  have hwl : lenOf wv = some us.length := by simpa using hV.len
  have pu := lpl hul
  have pw := lpl hwl
  have hUW : Row W uv 1 (us.map fun (k : Nat) => [I (k : Int)]) := hU.ext ⟨by omega, fun j _ => hg j⟩
  have hVW : Row W wv 1 (us.map fun (k : Nat) => [I (k : Int)]) := hV.ext ⟨by omega, fun j _ => hg j⟩
  refine Ok.seq ?_
  refine Ok.region ?_
  refine OkO.assign rfl rfl ?_
  refine OkO.nil ?_
  refine Ok.seq ?_
  refine Ok.seq ?_
  refine Ok.region ?_
  refine OkO.move rfl rfl ?_
  refine OkO.builtin rfl rfl rfl (bln (by kernel_rfl) (by first | assumption | rfl)) ?_
  refine OkO.move rfl rfl ?_
  refine OkO.builtin rfl rfl rfl (bln (by kernel_rfl) (by first | assumption | rfl)) ?_
  refine OkO.bin rfl rfl rfl (bin_neq _ _) ?_
  refine OkO.nil ?_
  refine Ok.cond rfl (fun h1 => ?_) (fun h1 => ?_)
  · -- yes h1
    exact absurd h1 (by simp)
  · -- no h1
    refine Ok.skip ?_
    refine Ok.seq ?_
    refine Ok.seq ?_
    refine Ok.region ?_
    refine OkO.assign rfl rfl ?_
    refine OkO.nil ?_
    refine Ok.block ?_
    refine Ok.loop (fun n9 s_ => ∃ i : Nat, n9 = us.length - i ∧ i ≤ us.length ∧ Has 5 [(0, uv), (1, wv), (5, I (i : Int))] s_.T ∧ s_.D = [] ∧ Grow W s_.H) (us.length) (by unfold loopFuel; omega)
      ⟨0, rfl, Nat.zero_le _, Has.of (by kernel_rfl), rfl, hG⟩ ?_
    rintro n9 ⟨T, D, G⟩ ⟨i, hn9, hi, ⟨f, hT⟩, hD, hg⟩
    dsimp only at *
    subst hT hD
    have hgn := hg.next
    refine Ok.seq ?_
    refine Ok.seq ?_
    refine Ok.region ?_
    refine OkO.move rfl rfl ?_
    refine OkO.move rfl rfl ?_
    refine OkO.builtin rfl rfl rfl (bln (by kernel_rfl) (by first | assumption | rfl)) ?_
    refine OkO.bin rfl rfl rfl (bin_lss _ _) ?_
    refine OkO.nil ?_
    refine Ok.cond rfl (fun h2 => ?_) (fun h2 => ?_)
    · -- yes h2
      have hil : i < us.length := by simpa using h2
      obtain ⟨y, hy⟩ : ∃ y, us[i]? = some y := ⟨_, List.getElem?_eq_getElem hil⟩
      obtain ⟨ub, uo, ucs, u1, u2, u3, u4⟩ := (hUW.grow hg).at_ i [I (y : Int)] (by rw [List.getElem?_map, hy]; rfl)
      have u5 := seg_one u3
      obtain ⟨vb, vo, vcs, v1, v2, v3, v4⟩ := (hVW.grow hg).at_ i [I (y : Int)] (by rw [List.getElem?_map, hy]; rfl)
      have v5 := seg_one v3
      refine Ok.skip ?_
      refine Ok.seq ?_
      refine Ok.block ?_
      refine Ok.seq ?_
      refine Ok.drawn [(0, true, []), (1, true, []), (2, true, []), (3, true, []), (4, true, []), (5, true, []), (6, true, []), (7, true, []), (8, true, [])] (by kernel_rfl) ?_
      refine OkP.step ?_
      refine OkO.move rfl rfl ?_
      refine OkO.nil ⟨rfl, ?_⟩
      refine OkP.step ?_
      refine OkO.move rfl rfl ?_
      refine OkO.nil ⟨rfl, ?_⟩
      refine OkP.step ?_
      refine OkO.index (sz := 1) (n := i) rfl rfl rfl (by kernel_rfl) (by first | assumption | rfl | exact slAt_slice (by omega) | exact slAt_opn (by omega)) ?_ -- index ('Go.Operand.tmp', 17) ('Go.Operand.tmp', 18)
      refine OkO.nil ⟨rfl, ?_⟩
      refine OkP.step ?_
      refine OkO.load rfl rfl (lda (n := 1) (by kernel_rfl) (by first | assumption | (simp (disch := first | omega | (simp only [hNw, hPt]; omega)) only [gn0, gn1, gn2, gn3, gn4, gn5, gp0, gno, gpo] <;> first | rfl | assumption | exact gp0 _ _ _ | exact gn0 _ _)) (by first | rfl | assumption)) ?_
      refine OkO.nil ⟨rfl, ?_⟩
      refine OkP.step ?_
      refine OkO.move rfl rfl ?_
      refine OkO.nil ⟨rfl, ?_⟩
      refine OkP.step ?_
      refine OkO.move rfl rfl ?_
      refine OkO.nil ⟨rfl, ?_⟩
      refine OkP.step ?_
      refine OkO.index (sz := 1) (n := i) rfl rfl rfl (by kernel_rfl) (by first | assumption | rfl | exact slAt_slice (by omega) | exact slAt_opn (by omega)) ?_ -- index ('Go.Operand.tmp', 21) ('Go.Operand.tmp', 22)
      refine OkO.nil ⟨rfl, ?_⟩
      refine OkP.step ?_
      refine OkO.load rfl rfl (lda (n := 1) (by kernel_rfl) (by first | assumption | (simp (disch := first | omega | (simp only [hNw, hPt]; omega)) only [gn0, gn1, gn2, gn3, gn4, gn5, gp0, gno, gpo] <;> first | rfl | assumption | exact gp0 _ _ _ | exact gn0 _ _)) (by first | rfl | assumption)) ?_
      refine OkO.nil ⟨rfl, ?_⟩
      refine OkP.step ?_
      refine OkO.bin rfl rfl rfl (bin_neq _ _) ?_
      refine OkO.nil ⟨rfl, ?_⟩
      refine OkP.nil ?_
      refine Ok.cond rfl (fun h3 => ?_) (fun h3 => ?_)
      · -- yes h3
        exact absurd h3 (by simp)
      · -- no h3
        refine Ok.skip ?_
        refine Ok.region ?_
        refine OkO.move rfl rfl ?_
        refine OkO.bin rfl rfl rfl (bin_add (by omega) (by omega)) ?_
        refine OkO.assign rfl rfl ?_
        refine OkO.nil ?_
        exact ⟨us.length - (i + 1), by omega, i + 1, rfl, by omega, Has.of (by kernel_rfl), rfl, hg⟩
    · -- no h2
      have hil : i = us.length := by (have : ¬ i < us.length := by simpa using h2); omega
      refine Ok.exit ?_
      refine Ok.seq ?_
      refine Ok.region ?_
      refine OkO.assign rfl rfl ?_
      refine OkO.nil ?_
      refine Ok.ret ⟨.inr rfl, ?_⟩
      exact back_flat rfl rfl rfl (by rw [← hW]; exact hg)
theorem c45E (m : Nat) (cv : AV) (cols : List (List Bed)) (least fa g : Int) (H : Heap) (hM : Mat H cv cols) (hask : (if slOk cols least = true then (if inB fa 0 10000 = true then 0 else 2) else 1) = g) (hg0 : g ≠ 0) : RR (m + 209) (.fn 45 [.agg [cv, I least], I fa]) H = some (.tup [.nils, .nils, I g], H) := by
  refine (R_fn _ _ _ _ _).trans ?_
  refine fn_ok Try.func45 rfl rfl (by kernel_rfl) (by kernel_rfl) ?_
  obtain ⟨W, hW⟩ : ∃ W : Heap, W = ⟨H.t, H.next, H.next⟩ := ⟨_, rfl⟩
  have hg : ∀ n, W.get n = H.get n := fun n => by rw [hW]; rfl
  have hN : W.next = H.next := by rw [hW]
  have hE : ∀ G, Grow W G → Ext H G := fun G g => ⟨by rw [← hN]; exact g.next, fun n k => by rw [g.get n (by rw [hN]; exact k), hg]⟩
  have hG : Grow W W := Grow.refl (by rw [hW]; exact Nat.le_refl _)
  rw [← hW]
  have pc : cv.plain = true := by obtain ⟨vs, hR, _, _⟩ := hM; exact lpl hR.len
  refine Ok.seq ?_
  refine Ok.region ?_
  refine OkO.box rfl rfl ?_
  refine OkO.assign rfl rfl ?_
  refine OkO.assign rfl rfl ?_
  refine OkO.assign rfl rfl ?_
  refine OkO.nil ?_
  refine Ok.seq ?_
  refine Ok.seq ?_
  refine Ok.region ?_
  refine OkO.load rfl rfl (ldg (n := 2) (by kernel_rfl) (by first | assumption | (simp (disch := first | omega | (simp only [hNw, hPt]; omega)) only [gn0, gn1, gn2, gn3, gn4, gn5, gp0, gno, gpo] <;> first | rfl | assumption | exact gp0 _ _ _ | exact gn0 _ _)) (by first | rfl | assumption)) ?_
  refine OkO.move rfl rfl ?_
  refine OkO.callV rfl rfl rfl rfl rfl ((c76 (m + 199) cv cols least fa _ (hM.ext (hE _ (by (try dsimp only); repeat (first | exact hG | apply Grow.new | (refine Grow.put ?_ _ (by first | omega | (simp only [hNw, hPt]; omega)))))))).trans (by rw [hask])) ?_ -- "sackung/slope.checkFactor"
  refine OkO.assign rfl rfl ?_
  refine OkO.nil ?_
  refine Ok.seq ?_
  refine Ok.region ?_
  refine OkO.move rfl rfl ?_
  refine OkO.bin rfl rfl rfl (bin_neq _ _) ?_
  refine OkO.nil ?_
  refine Ok.cond rfl (fun h1 => ?_) (fun h1 => ?_)
  · -- yes h1
    refine Ok.seq ?_
    refine Ok.region ?_
    refine OkO.move rfl rfl ?_
    refine OkO.assign rfl rfl ?_
    refine OkO.assign rfl rfl ?_
    refine OkO.assign rfl rfl ?_
    refine OkO.nil ?_
    refine Ok.ret ⟨.inr rfl, ?_⟩
    exact back_flat rfl rfl rfl (by rw [← hW]; exact (by (try dsimp only); repeat (first | exact hG | apply Grow.new | (refine Grow.put ?_ _ (by first | omega | (simp only [hNw, hPt]; omega))))))
  · -- no h1
    exact absurd h1 (by simp [hg0])
theorem c8E1 (m : Nat) (cv : AV) (cols : List (List Bed)) (least fa : Int) (H : Heap) (hM : Mat H cv cols) (hfew : fewB cols least = true) (hth : thinB cols = true) (hask : (if slOk cols least = true then (if inB fa 0 10000 = true then 0 else 2) else 1) = (1 : Int))  : RR (m + 212) (.fn 8 [.agg [cv, I least], I fa]) H = some (.bool true, H) := by
  refine (R_fn _ _ _ _ _).trans ?_
  refine fn_ok Try.func8 rfl rfl (by kernel_rfl) (by kernel_rfl) ?_
  obtain ⟨W, hW⟩ : ∃ W : Heap, W = ⟨H.t, H.next, H.next⟩ := ⟨_, rfl⟩
  have hg : ∀ n, W.get n = H.get n := fun n => by rw [hW]; rfl
  have hN : W.next = H.next := by rw [hW]
  have hE : ∀ G, Grow W G → Ext H G := fun G g => ⟨by rw [← hN]; exact g.next, fun n k => by rw [g.get n (by rw [hN]; exact k), hg]⟩
  have hG : Grow W W := Grow.refl (by rw [hW]; exact Nat.le_refl _)
  rw [← hW]
  have pc : cv.plain = true := by obtain ⟨vs, hR, _, _⟩ := hM; exact lpl hR.len
  have ps : AV.plain (.agg [cv, I least]) = true := by simp [AV.plain, AV.plains, pc]
  refine Ok.seq ?_
  refine Ok.region ?_
  refine OkO.box rfl rfl ?_
  refine OkO.assign rfl rfl ?_
  refine OkO.nil ?_
  refine Ok.seq ?_
  refine Ok.seq ?_
  refine Ok.region ?_
  refine OkO.load rfl rfl (ldg (n := 2) (by kernel_rfl) (by first | assumption | (simp (disch := first | omega | (simp only [hNw, hPt]; omega)) only [gn0, gn1, gn2, gn3, gn4, gn5, gp0, gno, gpo] <;> first | rfl | assumption | exact gp0 _ _ _ | exact gn0 _ _)) (by first | rfl | assumption)) ?_
  refine OkO.callV rfl rfl rfl rfl rfl ((c30 (m + 207) cv cols least _ (hM.ext (hE _ (by (try dsimp only); repeat (first | exact hG | apply Grow.new | (refine Grow.put ?_ _ (by first | omega | (simp only [hNw, hPt]; omega)))))))).trans (by rw [hfew])) ?_ -- "sackung/sackunglaw01.Few"
  refine OkO.un rfl rfl rfl ?_
  refine OkO.nil ?_
  refine Ok.cond rfl (fun h1 => ?_) (fun h1 => ?_)
  · -- yes h1
    exact absurd h1 (by simp)
  · -- no h1
    refine Ok.skip ?_
    refine Ok.seq ?_
    refine Ok.region ?_
    refine OkO.load rfl rfl (ldg (n := 2) (by kernel_rfl) (by first | assumption | (simp (disch := first | omega | (simp only [hNw, hPt]; omega)) only [gn0, gn1, gn2, gn3, gn4, gn5, gp0, gno, gpo] <;> first | rfl | assumption | exact gp0 _ _ _ | exact gn0 _ _)) (by first | rfl | assumption)) ?_
    refine OkO.callE rfl rfl rfl rfl rfl (c19 (m + 209) cv cols least _ (hM.ext (hE _ (by (try dsimp only); repeat (first | exact hG | apply Grow.new | (refine Grow.put ?_ _ (by first | omega | (simp only [hNw, hPt]; omega))))))) hth) ?_ -- "sackung/sackunglaw01.Slope"
    rintro _ Ha1 ⟨cv1, rfl, qa1, fa1⟩
    have n1 := qa1.ext.next
    try simp only [hNw, hPt] at n1
    have gg1 : Grow W Ha1 := Grow.ret (by (try dsimp only); repeat (first | exact hG | apply Grow.new | (refine Grow.put ?_ _ (by first | omega | (simp only [hNw, hPt]; omega))))) qa1
    have a1 : (Ha1.get (W.next)).bind AObj.cs = some [cv, I least] := by rw [qa1.ext.get _ (by first | omega | (simp only [hNw, hPt]; omega))]; first | assumption | (rw [gn0]; rfl) | (rw [get_put_eq] <;> rfl) | (simp (disch := first | omega | (simp only [hNw, hPt]; omega)) only [gn0, gn1, gn2, gn3, gn4, gn5, gp0, gno, gpo] <;> first | rfl | assumption | (rw [get_put_eq] <;> rfl))
    have ma1 := fa1.now (Nat.le_refl _)
    refine OkO.move rfl rfl ?_
    refine OkO.callV rfl rfl rfl rfl rfl (c45E (m + 2) cv1 cols least fa 1 _ ma1 hask (by decide)) ?_ -- "sackung/slope.Moves"
    refine OkO.move rfl rfl ?_
    refine OkO.extract rfl rfl rfl ?_
    refine OkO.extract rfl rfl rfl ?_
    refine OkO.extract rfl rfl rfl ?_
    refine OkO.assign rfl rfl ?_
    refine OkO.assign rfl rfl ?_
    refine OkO.assign rfl rfl ?_
    refine OkO.nil ?_
    refine Ok.seq ?_
    refine Ok.seq ?_
    refine Ok.region ?_
    refine OkO.load rfl rfl (ldg (n := 2) (by kernel_rfl) (by first | assumption | (simp (disch := first | omega | (simp only [hNw, hPt]; omega)) only [gn0, gn1, gn2, gn3, gn4, gn5, gp0, gno, gpo] <;> first | rfl | assumption | exact gp0 _ _ _ | exact gn0 _ _)) (by first | rfl | assumption)) ?_
    refine OkO.move rfl rfl ?_
    refine OkO.callV rfl rfl rfl rfl rfl ((c43 (m + 207) cv cols least fa _ (hM.ext (hE _ (by (try dsimp only); repeat (first | exact gg1 | apply Grow.new | (refine Grow.put ?_ _ (by first | omega | (simp only [hNw, hPt]; omega)))))))).trans (by rw [hask])) ?_ -- "sackung/sackunglaw01.asked"
    refine OkO.assign rfl rfl ?_
    refine OkO.nil ?_
    refine Ok.seq ?_
    refine Ok.region ?_
    refine OkO.move rfl rfl ?_
    refine OkO.bin rfl rfl rfl (bin_neq _ _) ?_
    refine OkO.nil ?_
    refine Ok.condT rfl ?_
    refine Ok.seq ?_
    refine Ok.region ?_
    refine OkO.move rfl rfl ?_
    refine OkO.move rfl rfl ?_
    refine OkO.bin rfl rfl rfl (bin_eql _ _) ?_
    refine OkO.move rfl rfl ?_
    refine OkO.move rfl rfl ?_
    refine OkO.builtin rfl rfl rfl (bln (by kernel_rfl) (by first | assumption | rfl)) ?_
    refine OkO.move rfl rfl ?_
    refine OkO.builtin rfl rfl rfl (bln (by kernel_rfl) (by first | assumption | rfl)) ?_
    refine OkO.bin rfl rfl rfl (bin_add (by omega) (by omega)) ?_
    refine OkO.bin rfl rfl rfl (bin_eql _ _) ?_
    refine OkO.pick (b := true) rfl rfl (fun _ => rfl) nofun ?_
    refine OkO.move rfl rfl ?_
    refine OkO.split (d := 38) rfl (fun g2 => ?_) (fun g2 => ?_)
    · -- true g2
      refine OkO.callV rfl rfl rfl rfl rfl (rfl) ?_ -- "sackung/sackunglaw01.wakes"
      refine OkO.pick (b := true) rfl rfl (fun _ => rfl) nofun ?_
      refine OkO.assign rfl rfl ?_
      refine OkO.nil ?_
      refine Ok.ret ⟨.inr rfl, ?_⟩
      exact back_flat rfl rfl rfl (by rw [← hW]; exact (by (try dsimp only); repeat (first | exact gg1 | apply Grow.new | (refine Grow.put ?_ _ (by first | omega | (simp only [hNw, hPt]; omega))))))
    · -- false g2
      exact absurd g2 (by simp)
theorem c8E2 (m : Nat) (cv : AV) (cols : List (List Bed)) (least fa : Int) (H : Heap) (hM : Mat H cv cols) (hfew : fewB cols least = true) (hth : thinB cols = true) (hask : (if slOk cols least = true then (if inB fa 0 10000 = true then 0 else 2) else 1) = (2 : Int))  : RR (m + 212) (.fn 8 [.agg [cv, I least], I fa]) H = some (.bool true, H) := by
  refine (R_fn _ _ _ _ _).trans ?_
  refine fn_ok Try.func8 rfl rfl (by kernel_rfl) (by kernel_rfl) ?_
  obtain ⟨W, hW⟩ : ∃ W : Heap, W = ⟨H.t, H.next, H.next⟩ := ⟨_, rfl⟩
  have hg : ∀ n, W.get n = H.get n := fun n => by rw [hW]; rfl
  have hN : W.next = H.next := by rw [hW]
  have hE : ∀ G, Grow W G → Ext H G := fun G g => ⟨by rw [← hN]; exact g.next, fun n k => by rw [g.get n (by rw [hN]; exact k), hg]⟩
  have hG : Grow W W := Grow.refl (by rw [hW]; exact Nat.le_refl _)
  rw [← hW]
  have pc : cv.plain = true := by obtain ⟨vs, hR, _, _⟩ := hM; exact lpl hR.len
  have ps : AV.plain (.agg [cv, I least]) = true := by simp [AV.plain, AV.plains, pc]
  refine Ok.seq ?_
  refine Ok.region ?_
  refine OkO.box rfl rfl ?_
  refine OkO.assign rfl rfl ?_
  refine OkO.nil ?_
  refine Ok.seq ?_
  refine Ok.seq ?_
  refine Ok.region ?_
  refine OkO.load rfl rfl (ldg (n := 2) (by kernel_rfl) (by first | assumption | (simp (disch := first | omega | (simp only [hNw, hPt]; omega)) only [gn0, gn1, gn2, gn3, gn4, gn5, gp0, gno, gpo] <;> first | rfl | assumption | exact gp0 _ _ _ | exact gn0 _ _)) (by first | rfl | assumption)) ?_
  refine OkO.callV rfl rfl rfl rfl rfl ((c30 (m + 207) cv cols least _ (hM.ext (hE _ (by (try dsimp only); repeat (first | exact hG | apply Grow.new | (refine Grow.put ?_ _ (by first | omega | (simp only [hNw, hPt]; omega)))))))).trans (by rw [hfew])) ?_ -- "sackung/sackunglaw01.Few"
  refine OkO.un rfl rfl rfl ?_
  refine OkO.nil ?_
  refine Ok.cond rfl (fun h1 => ?_) (fun h1 => ?_)
  · -- yes h1
    exact absurd h1 (by simp)
  · -- no h1
    refine Ok.skip ?_
    refine Ok.seq ?_
    refine Ok.region ?_
    refine OkO.load rfl rfl (ldg (n := 2) (by kernel_rfl) (by first | assumption | (simp (disch := first | omega | (simp only [hNw, hPt]; omega)) only [gn0, gn1, gn2, gn3, gn4, gn5, gp0, gno, gpo] <;> first | rfl | assumption | exact gp0 _ _ _ | exact gn0 _ _)) (by first | rfl | assumption)) ?_
    refine OkO.callE rfl rfl rfl rfl rfl (c19 (m + 209) cv cols least _ (hM.ext (hE _ (by (try dsimp only); repeat (first | exact hG | apply Grow.new | (refine Grow.put ?_ _ (by first | omega | (simp only [hNw, hPt]; omega))))))) hth) ?_ -- "sackung/sackunglaw01.Slope"
    rintro _ Ha1 ⟨cv1, rfl, qa1, fa1⟩
    have n1 := qa1.ext.next
    try simp only [hNw, hPt] at n1
    have gg1 : Grow W Ha1 := Grow.ret (by (try dsimp only); repeat (first | exact hG | apply Grow.new | (refine Grow.put ?_ _ (by first | omega | (simp only [hNw, hPt]; omega))))) qa1
    have a1 : (Ha1.get (W.next)).bind AObj.cs = some [cv, I least] := by rw [qa1.ext.get _ (by first | omega | (simp only [hNw, hPt]; omega))]; first | assumption | (rw [gn0]; rfl) | (rw [get_put_eq] <;> rfl) | (simp (disch := first | omega | (simp only [hNw, hPt]; omega)) only [gn0, gn1, gn2, gn3, gn4, gn5, gp0, gno, gpo] <;> first | rfl | assumption | (rw [get_put_eq] <;> rfl))
    have ma1 := fa1.now (Nat.le_refl _)
    refine OkO.move rfl rfl ?_
    refine OkO.callV rfl rfl rfl rfl rfl (c45E (m + 2) cv1 cols least fa 2 _ ma1 hask (by decide)) ?_ -- "sackung/slope.Moves"
    refine OkO.move rfl rfl ?_
    refine OkO.extract rfl rfl rfl ?_
    refine OkO.extract rfl rfl rfl ?_
    refine OkO.extract rfl rfl rfl ?_
    refine OkO.assign rfl rfl ?_
    refine OkO.assign rfl rfl ?_
    refine OkO.assign rfl rfl ?_
    refine OkO.nil ?_
    refine Ok.seq ?_
    refine Ok.seq ?_
    refine Ok.region ?_
    refine OkO.load rfl rfl (ldg (n := 2) (by kernel_rfl) (by first | assumption | (simp (disch := first | omega | (simp only [hNw, hPt]; omega)) only [gn0, gn1, gn2, gn3, gn4, gn5, gp0, gno, gpo] <;> first | rfl | assumption | exact gp0 _ _ _ | exact gn0 _ _)) (by first | rfl | assumption)) ?_
    refine OkO.move rfl rfl ?_
    refine OkO.callV rfl rfl rfl rfl rfl ((c43 (m + 207) cv cols least fa _ (hM.ext (hE _ (by (try dsimp only); repeat (first | exact gg1 | apply Grow.new | (refine Grow.put ?_ _ (by first | omega | (simp only [hNw, hPt]; omega)))))))).trans (by rw [hask])) ?_ -- "sackung/sackunglaw01.asked"
    refine OkO.assign rfl rfl ?_
    refine OkO.nil ?_
    refine Ok.seq ?_
    refine Ok.region ?_
    refine OkO.move rfl rfl ?_
    refine OkO.bin rfl rfl rfl (bin_neq _ _) ?_
    refine OkO.nil ?_
    refine Ok.condT rfl ?_
    refine Ok.seq ?_
    refine Ok.region ?_
    refine OkO.move rfl rfl ?_
    refine OkO.move rfl rfl ?_
    refine OkO.bin rfl rfl rfl (bin_eql _ _) ?_
    refine OkO.move rfl rfl ?_
    refine OkO.move rfl rfl ?_
    refine OkO.builtin rfl rfl rfl (bln (by kernel_rfl) (by first | assumption | rfl)) ?_
    refine OkO.move rfl rfl ?_
    refine OkO.builtin rfl rfl rfl (bln (by kernel_rfl) (by first | assumption | rfl)) ?_
    refine OkO.bin rfl rfl rfl (bin_add (by omega) (by omega)) ?_
    refine OkO.bin rfl rfl rfl (bin_eql _ _) ?_
    refine OkO.pick (b := true) rfl rfl (fun _ => rfl) nofun ?_
    refine OkO.move rfl rfl ?_
    refine OkO.split (d := 38) rfl (fun g2 => ?_) (fun g2 => ?_)
    · -- true g2
      refine OkO.callV rfl rfl rfl rfl rfl (rfl) ?_ -- "sackung/sackunglaw01.wakes"
      refine OkO.pick (b := true) rfl rfl (fun _ => rfl) nofun ?_
      refine OkO.assign rfl rfl ?_
      refine OkO.nil ?_
      refine Ok.ret ⟨.inr rfl, ?_⟩
      exact back_flat rfl rfl rfl (by rw [← hW]; exact (by (try dsimp only); repeat (first | exact gg1 | apply Grow.new | (refine Grow.put ?_ _ (by first | omega | (simp only [hNw, hPt]; omega))))))
    · -- false g2
      exact absurd g2 (by simp)
theorem c8G (m : Nat) (cv : AV) (cols : List (List Bed)) (least fa : Int) (H : Heap) (hM : Mat H cv cols) (hfew : fewB cols least = true) (hth : thinB cols = true) (hask : (if slOk cols least = true then (if inB fa 0 10000 = true then 0 else 2) else 1) = (0 : Int)) (hv : slOk cols least = true) (hf : 0 ≤ fa ∧ fa ≤ 10000) (hq : ((cols.headD []).length + 1) ^ (cols.length + 1) ≤ 20000) : RR (m + 212) (.fn 8 [.agg [cv, I least], I fa]) H = some (.bool true, H) := by
  refine (R_fn _ _ _ _ _).trans ?_
  refine fn_ok Try.func8 rfl rfl (by kernel_rfl) (by kernel_rfl) ?_
  obtain ⟨W, hW⟩ : ∃ W : Heap, W = ⟨H.t, H.next, H.next⟩ := ⟨_, rfl⟩
  have hg : ∀ n, W.get n = H.get n := fun n => by rw [hW]; rfl
  have hN : W.next = H.next := by rw [hW]
  have hE : ∀ G, Grow W G → Ext H G := fun G g => ⟨by rw [← hN]; exact g.next, fun n k => by rw [g.get n (by rw [hN]; exact k), hg]⟩
  have hG : Grow W W := Grow.refl (by rw [hW]; exact Nat.le_refl _)
  rw [← hW]
  have pc : cv.plain = true := by obtain ⟨vs, hR, _, _⟩ := hM; exact lpl hR.len
  have ps : AV.plain (.agg [cv, I least]) = true := by simp [AV.plain, AV.plains, pc]
  have hsf := slOk_facts hv
  refine Ok.seq ?_
  refine Ok.region ?_
  refine OkO.box rfl rfl ?_
  refine OkO.assign rfl rfl ?_
  refine OkO.nil ?_
  refine Ok.seq ?_
  refine Ok.seq ?_
  refine Ok.region ?_
  refine OkO.load rfl rfl (ldg (n := 2) (by kernel_rfl) (by first | assumption | (simp (disch := first | omega | (simp only [hNw, hPt]; omega)) only [gn0, gn1, gn2, gn3, gn4, gn5, gp0, gno, gpo] <;> first | rfl | assumption | exact gp0 _ _ _ | exact gn0 _ _)) (by first | rfl | assumption)) ?_
  refine OkO.callV rfl rfl rfl rfl rfl ((c30 (m + 207) cv cols least _ (hM.ext (hE _ (by (try dsimp only); repeat (first | exact hG | apply Grow.new | (refine Grow.put ?_ _ (by first | omega | (simp only [hNw, hPt]; omega)))))))).trans (by rw [hfew])) ?_ -- "sackung/sackunglaw01.Few"
  refine OkO.un rfl rfl rfl ?_
  refine OkO.nil ?_
  refine Ok.cond rfl (fun h1 => ?_) (fun h1 => ?_)
  · -- yes h1
    exact absurd h1 (by simp)
  · -- no h1
    refine Ok.skip ?_
    refine Ok.seq ?_
    refine Ok.region ?_
    refine OkO.load rfl rfl (ldg (n := 2) (by kernel_rfl) (by first | assumption | (simp (disch := first | omega | (simp only [hNw, hPt]; omega)) only [gn0, gn1, gn2, gn3, gn4, gn5, gp0, gno, gpo] <;> first | rfl | assumption | exact gp0 _ _ _ | exact gn0 _ _)) (by first | rfl | assumption)) ?_
    refine OkO.callE rfl rfl rfl rfl rfl (c19 (m + 209) cv cols least _ (hM.ext (hE _ (by (try dsimp only); repeat (first | exact hG | apply Grow.new | (refine Grow.put ?_ _ (by first | omega | (simp only [hNw, hPt]; omega))))))) hth) ?_ -- "sackung/sackunglaw01.Slope"
    rintro _ Ha1 ⟨cv1, rfl, qa1, fa1⟩
    have n1 := qa1.ext.next
    try simp only [hNw, hPt] at n1
    have gg1 : Grow W Ha1 := Grow.ret (by (try dsimp only); repeat (first | exact hG | apply Grow.new | (refine Grow.put ?_ _ (by first | omega | (simp only [hNw, hPt]; omega))))) qa1
    have a1 : (Ha1.get (W.next)).bind AObj.cs = some [cv, I least] := by rw [qa1.ext.get _ (by first | omega | (simp only [hNw, hPt]; omega))]; first | assumption | (rw [gn0]; rfl) | (rw [get_put_eq] <;> rfl) | (simp (disch := first | omega | (simp only [hNw, hPt]; omega)) only [gn0, gn1, gn2, gn3, gn4, gn5, gp0, gno, gpo] <;> first | rfl | assumption | (rw [get_put_eq] <;> rfl))
    have ma1 := fa1.now (Nat.le_refl _)
    refine OkO.move rfl rfl ?_
    refine OkO.callE rfl rfl rfl rfl rfl (c45 (m + 2) cv1 cols least fa _ ma1 hv hf) ?_ -- "sackung/slope.Moves"
    rintro _ Hm ⟨aa, bb, av, bv, rfl, qm, hma, hmb, mva, mvb⟩
    have n2 := qm.ext.next
    try simp only [hNw, hPt] at n2
    have gg2 : Grow W Hm := Grow.ret (by (try dsimp only); repeat (first | exact gg1 | apply Grow.new | (refine Grow.put ?_ _ (by first | omega | (simp only [hNw, hPt]; omega))))) qm
    have a2 : (Hm.get (W.next)).bind AObj.cs = some [cv, I least] := by rw [qm.ext.get _ (by first | omega | (simp only [hNw, hPt]; omega))]; first | assumption | (rw [gn0]; rfl) | (rw [get_put_eq] <;> rfl) | (simp (disch := first | omega | (simp only [hNw, hPt]; omega)) only [gn0, gn1, gn2, gn3, gn4, gn5, gp0, gno, gpo] <;> first | rfl | assumption | (rw [get_put_eq] <;> rfl))
    have hRa : Row Hm av 1 (aa.map fun (k : Nat) => [I (k : Int)]) := Mine.row (by rw [flatN]; exact hma) (fun x hx => by simp only [List.mem_map] at hx; obtain ⟨y, _, rfl⟩ := hx; rfl) (by omega)
    have hRb : Row Hm bv 1 (bb.map fun (k : Nat) => [I (k : Int)]) := Mine.row (by rw [flatN]; exact hmb) (fun x hx => by simp only [List.mem_map] at hx; obtain ⟨y, _, rfl⟩ := hx; rfl) (by omega)
    have hal9 := mva.len
    have hbl9 := mvb.len
    refine OkO.move rfl rfl ?_
    refine OkO.extract rfl rfl rfl ?_
    refine OkO.extract rfl rfl rfl ?_
    refine OkO.extract rfl rfl rfl ?_
    refine OkO.assign rfl rfl ?_
    refine OkO.assign rfl rfl ?_
    refine OkO.assign rfl rfl ?_
    refine OkO.nil ?_
    refine Ok.seq ?_
    refine Ok.seq ?_
    refine Ok.region ?_
    refine OkO.load rfl rfl (ldg (n := 2) (by kernel_rfl) (by first | assumption | (simp (disch := first | omega | (simp only [hNw, hPt]; omega)) only [gn0, gn1, gn2, gn3, gn4, gn5, gp0, gno, gpo] <;> first | rfl | assumption | exact gp0 _ _ _ | exact gn0 _ _)) (by first | rfl | assumption)) ?_
    refine OkO.move rfl rfl ?_
    refine OkO.callV rfl rfl rfl rfl rfl ((c43 (m + 207) cv cols least fa _ (hM.ext (hE _ (by (try dsimp only); repeat (first | exact gg2 | apply Grow.new | (refine Grow.put ?_ _ (by first | omega | (simp only [hNw, hPt]; omega)))))))).trans (by rw [hask])) ?_ -- "sackung/sackunglaw01.asked"
    refine OkO.assign rfl rfl ?_
    refine OkO.nil ?_
    refine Ok.seq ?_
    refine Ok.region ?_
    refine OkO.move rfl rfl ?_
    refine OkO.bin rfl rfl rfl (bin_neq _ _) ?_
    refine OkO.nil ?_
    refine Ok.condF rfl ?_
    refine Ok.skip ?_
    refine Ok.seq ?_
    refine Ok.region ?_
    refine OkO.load rfl rfl (ldg (n := 2) (by kernel_rfl) (by first | assumption | (simp (disch := first | omega | (simp only [hNw, hPt]; omega)) only [gn0, gn1, gn2, gn3, gn4, gn5, gp0, gno, gpo] <;> first | rfl | assumption | exact gp0 _ _ _ | exact gn0 _ _)) (by first | rfl | assumption)) ?_
    refine OkO.callE rfl rfl rfl rfl rfl (c33 (m + 195) cv cols least _ (hM.ext (hE _ (by (try dsimp only); repeat (first | exact gg2 | apply Grow.new | (refine Grow.put ?_ _ (by first | omega | (simp only [hNw, hPt]; omega))))))) hv hq) ?_ -- "sackung/sackungref01.All"
    rintro v33 H33 ⟨Q, q33, hA33, hS33, hl33⟩
    have n3 := q33.ext.next
    try simp only [hNw, hPt] at n3
    have gg3 : Grow W H33 := Grow.ret (by (try dsimp only); repeat (first | exact gg2 | apply Grow.new | (refine Grow.put ?_ _ (by first | omega | (simp only [hNw, hPt]; omega))))) q33
    have a3 : (H33.get (W.next)).bind AObj.cs = some [cv, I least] := by rw [q33.ext.get _ (by first | omega | (simp only [hNw, hPt]; omega))]; first | assumption | (rw [gn0]; rfl) | (rw [get_put_eq] <;> rfl) | (simp (disch := first | omega | (simp only [hNw, hPt]; omega)) only [gn0, gn1, gn2, gn3, gn4, gn5, gp0, gno, gpo] <;> first | rfl | assumption | (rw [get_put_eq] <;> rfl))
    have exHm3 : Ext Hm H33 := Ext.trans (by (try dsimp only); repeat (first | exact Ext.refl _ | exact Ext.refl _ | apply Ext.new | (refine Ext.put ?_ _ (by first | omega | (simp only [hNw, hPt]; omega))))) q33.ext
    have pv33 := lpl hA33.elems.2
    have v33o := hA33.1.one
    have heq1 : movL cols fa true Q cols.length = aa := by (have h9 := movL_at (sb := true) (bedsOk_of hv) hf hS33; exact sorted_ext _ _ h9.2 mva.2 (fun x => (h9.1 x).trans (mva.1 x).symm))
    have heq2 : movL cols fa false Q cols.length = bb := by (have h9 := movL_at (sb := false) (bedsOk_of hv) hf hS33; exact sorted_ext _ _ h9.2 mvb.2 (fun x => (h9.1 x).trans (mvb.1 x).symm))
    refine OkO.assign rfl rfl ?_
    refine OkO.nil ?_
    refine Ok.seq ?_
    refine Ok.region ?_
    refine OkO.move rfl rfl ?_
    refine OkO.bin rfl rfl rfl (bin_eql _ _) ?_
    refine OkO.move rfl rfl ?_
    refine OkO.move rfl rfl ?_
    refine OkO.load rfl rfl (ldg (n := 2) (by kernel_rfl) (by first | assumption | (simp (disch := first | omega | (simp only [hNw, hPt]; omega)) only [gn0, gn1, gn2, gn3, gn4, gn5, gp0, gno, gpo] <;> first | rfl | assumption | exact gp0 _ _ _ | exact gn0 _ _)) (by first | rfl | assumption)) ?_
    refine OkO.move rfl rfl ?_
    refine OkO.move rfl rfl ?_
    refine OkO.callE rfl rfl rfl rfl rfl (c47 (m + 207) cv v33 cols least fa true Q _ (hM.ext (hE _ (by (try dsimp only); repeat (first | exact gg3 | apply Grow.new | (refine Grow.put ?_ _ (by first | omega | (simp only [hNw, hPt]; omega))))))) hv ((hA33.to (by (try dsimp only); repeat (first | exact Ext.refl _ | exact Ext.refl _ | apply Ext.new | (refine Ext.put ?_ _ (by first | omega | (simp only [hNw, hPt]; omega)))))).low (Nat.zero_le _)) hS33 hl33) ?_ -- "sackung/sackungref01.Moves"
    rintro w1 Hw1 ⟨qw1, mw1⟩
    have n4 := qw1.ext.next
    try simp only [hNw, hPt] at n4
    have gg4 : Grow W Hw1 := Grow.ret (by (try dsimp only); repeat (first | exact gg3 | apply Grow.new | (refine Grow.put ?_ _ (by first | omega | (simp only [hNw, hPt]; omega))))) qw1
    have a4 : (Hw1.get (W.next)).bind AObj.cs = some [cv, I least] := by rw [qw1.ext.get _ (by first | omega | (simp only [hNw, hPt]; omega))]; first | assumption | (rw [gn0]; rfl) | (rw [get_put_eq] <;> rfl) | (simp (disch := first | omega | (simp only [hNw, hPt]; omega)) only [gn0, gn1, gn2, gn3, gn4, gn5, gp0, gno, gpo] <;> first | rfl | assumption | (rw [get_put_eq] <;> rfl))
    have exHm4 : Ext Hm Hw1 := Ext.trans (by (try dsimp only); repeat (first | exact exHm3 | exact Ext.refl _ | apply Ext.new | (refine Ext.put ?_ _ (by first | omega | (simp only [hNw, hPt]; omega))))) qw1.ext
    have exH334 : Ext H33 Hw1 := Ext.trans (by (try dsimp only); repeat (first | exact Ext.refl _ | exact Ext.refl _ | apply Ext.new | (refine Ext.put ?_ _ (by first | omega | (simp only [hNw, hPt]; omega))))) qw1.ext
    rw [heq1] at mw1
    have hRw1 : Row Hw1 w1 1 (aa.map fun (k : Nat) => [I (k : Int)]) := Mine.row (by rw [flatN]; exact mw1) (fun x hx => by simp only [List.mem_map] at hx; obtain ⟨y, _, rfl⟩ := hx; rfl) (by omega)
    refine OkO.callV rfl rfl rfl rfl rfl (c46 (m + 210) av w1 aa _ (hRa.ext (by (try dsimp only); repeat (first | exact exHm4 | exact Ext.refl _ | apply Ext.new | (refine Ext.put ?_ _ (by first | omega | (simp only [hNw, hPt]; omega)))))) hRw1 (by omega)) ?_ -- "sackung/sackunglaw01.ints"
    refine OkO.pick (b := true) rfl rfl (fun _ => rfl) nofun ?_
    refine OkO.move rfl rfl ?_
    refine OkO.split (d := 53) rfl (fun g2 => ?_) (fun g2 => ?_)
    · -- true g2
      refine OkO.move rfl rfl ?_
      refine OkO.load rfl rfl (ldg (n := 2) (by kernel_rfl) (by first | assumption | (simp (disch := first | omega | (simp only [hNw, hPt]; omega)) only [gn0, gn1, gn2, gn3, gn4, gn5, gp0, gno, gpo] <;> first | rfl | assumption | exact gp0 _ _ _ | exact gn0 _ _)) (by first | rfl | assumption)) ?_
      refine OkO.move rfl rfl ?_
      refine OkO.move rfl rfl ?_
      refine OkO.callE rfl rfl rfl rfl rfl (c47 (m + 207) cv v33 cols least fa false Q _ (hM.ext (hE _ (by (try dsimp only); repeat (first | exact gg4 | apply Grow.new | (refine Grow.put ?_ _ (by first | omega | (simp only [hNw, hPt]; omega))))))) hv ((hA33.to (by (try dsimp only); repeat (first | exact exH334 | exact Ext.refl _ | apply Ext.new | (refine Ext.put ?_ _ (by first | omega | (simp only [hNw, hPt]; omega)))))).low (Nat.zero_le _)) hS33 hl33) ?_ -- "sackung/sackungref01.Moves"
      rintro w2 Hw2 ⟨qw2, mw2⟩
      have n5 := qw2.ext.next
      try simp only [hNw, hPt] at n5
      have gg5 : Grow W Hw2 := Grow.ret (by (try dsimp only); repeat (first | exact gg4 | apply Grow.new | (refine Grow.put ?_ _ (by first | omega | (simp only [hNw, hPt]; omega))))) qw2
      have a5 : (Hw2.get (W.next)).bind AObj.cs = some [cv, I least] := by rw [qw2.ext.get _ (by first | omega | (simp only [hNw, hPt]; omega))]; first | assumption | (rw [gn0]; rfl) | (rw [get_put_eq] <;> rfl) | (simp (disch := first | omega | (simp only [hNw, hPt]; omega)) only [gn0, gn1, gn2, gn3, gn4, gn5, gp0, gno, gpo] <;> first | rfl | assumption | (rw [get_put_eq] <;> rfl))
      have exHm5 : Ext Hm Hw2 := Ext.trans (by (try dsimp only); repeat (first | exact exHm4 | exact Ext.refl _ | apply Ext.new | (refine Ext.put ?_ _ (by first | omega | (simp only [hNw, hPt]; omega))))) qw2.ext
      have exH335 : Ext H33 Hw2 := Ext.trans (by (try dsimp only); repeat (first | exact exH334 | exact Ext.refl _ | apply Ext.new | (refine Ext.put ?_ _ (by first | omega | (simp only [hNw, hPt]; omega))))) qw2.ext
      rw [heq2] at mw2
      have hRw2 : Row Hw2 w2 1 (bb.map fun (k : Nat) => [I (k : Int)]) := Mine.row (by rw [flatN]; exact mw2) (fun x hx => by simp only [List.mem_map] at hx; obtain ⟨y, _, rfl⟩ := hx; rfl) (by omega)
      refine OkO.callV rfl rfl rfl rfl rfl (c46 (m + 210) bv w2 bb _ (hRb.ext (by (try dsimp only); repeat (first | exact exHm5 | exact Ext.refl _ | apply Ext.new | (refine Ext.put ?_ _ (by first | omega | (simp only [hNw, hPt]; omega)))))) hRw2 (by omega)) ?_ -- "sackung/sackunglaw01.ints"
      refine OkO.pick (b := true) rfl rfl (fun _ => rfl) nofun ?_
      refine OkO.move rfl rfl ?_
      refine OkO.split (d := 61) rfl (fun g3 => ?_) (fun g3 => ?_)
      · -- true g3
        refine OkO.callV rfl rfl rfl rfl rfl (rfl) ?_ -- "sackung/sackunglaw01.wakes"
        refine OkO.pick (b := true) rfl rfl (fun _ => rfl) nofun ?_
        refine OkO.assign rfl rfl ?_
        refine OkO.nil ?_
        refine Ok.ret ⟨.inr rfl, ?_⟩
        exact back_flat rfl rfl rfl (by rw [← hW]; exact (by (try dsimp only); repeat (first | exact gg5 | apply Grow.new | (refine Grow.put ?_ _ (by first | omega | (simp only [hNw, hPt]; omega))))))
      · -- false g3
        exact absurd g3 (by simp)
    · -- false g2
      exact absurd g2 (by simp)
theorem c8W (m : Nat) (cv : AV) (cols : List (List Bed)) (least fa : Int) (H : Heap) (hM : Mat H cv cols) (hfew : fewB cols least = false) : RR (m + 212) (.fn 8 [.agg [cv, I least], I fa]) H = some (.bool true, H) := by
  refine (R_fn _ _ _ _ _).trans ?_
  refine fn_ok Try.func8 rfl rfl (by kernel_rfl) (by kernel_rfl) ?_
  obtain ⟨W, hW⟩ : ∃ W : Heap, W = ⟨H.t, H.next, H.next⟩ := ⟨_, rfl⟩
  have hg : ∀ n, W.get n = H.get n := fun n => by rw [hW]; rfl
  have hN : W.next = H.next := by rw [hW]
  have hE : ∀ G, Grow W G → Ext H G := fun G g => ⟨by rw [← hN]; exact g.next, fun n k => by rw [g.get n (by rw [hN]; exact k), hg]⟩
  have hG : Grow W W := Grow.refl (by rw [hW]; exact Nat.le_refl _)
  rw [← hW]
  refine Ok.seq ?_
  refine Ok.region ?_
  refine OkO.box rfl rfl ?_
  refine OkO.assign rfl rfl ?_
  refine OkO.nil ?_
  refine Ok.seq ?_
  refine Ok.seq ?_
  refine Ok.region ?_
  refine OkO.load rfl rfl (ldg (n := 2) (by kernel_rfl) (by first | assumption | (simp (disch := first | omega | (simp only [hNw, hPt]; omega)) only [gn0, gn1, gn2, gn3, gn4, gn5, gp0, gno, gpo] <;> first | rfl | assumption | exact gp0 _ _ _ | exact gn0 _ _)) (by first | rfl | assumption)) ?_
  refine OkO.callV rfl rfl rfl rfl rfl ((c30 (m + 207) cv cols least _ (hM.ext (hE _ (by (try dsimp only); repeat (first | exact hG | apply Grow.new | (refine Grow.put ?_ _ (by first | omega | (simp only [hNw, hPt]; omega)))))))).trans (by rw [hfew])) ?_ -- "sackung/sackunglaw01.Few"
  refine OkO.un rfl rfl rfl ?_
  refine OkO.nil ?_
  refine Ok.cond rfl (fun h1 => ?_) (fun h1 => ?_)
  · -- yes h1
    refine Ok.seq ?_
    refine Ok.region ?_
    refine OkO.callV rfl rfl rfl rfl rfl (rfl) ?_ -- "sackung/sackunglaw01.wakes"
    refine OkO.assign rfl rfl ?_
    refine OkO.nil ?_
    refine Ok.ret ⟨.inr rfl, ?_⟩
    exact back_flat rfl rfl rfl (by rw [← hW]; exact (by (try dsimp only); repeat (first | exact hG | apply Grow.new | (refine Grow.put ?_ _ (by first | omega | (simp only [hNw, hPt]; omega))))))
  · -- no h1
    exact absurd h1 (by simp)
theorem c8 (m : Nat) (cv : AV) (cols : List (List Bed)) (least fa : Int) (H : Heap) (hM : Mat H cv cols) : RR (m + 212) (.fn 8 [.agg [cv, I least], I fa]) H = some (.bool true, H) := by
  cases hfew : fewB cols least with
  | false => exact c8W m cv cols least fa H hM hfew
  | true =>
    obtain ⟨h1, h2⟩ := few_facts hfew
    cases hv : slOk cols least with
    | false => exact c8E1 m cv cols least fa H hM hfew h1 (by simp [hv])
    | true =>
      cases hi : inB fa 0 10000 with
      | false => exact c8E2 m cv cols least fa H hM hfew h1 (by simp [hv, hi])
      | true =>
        have hf : 0 ≤ fa ∧ fa ≤ 10000 := by simpa [inB] using hi
        exact c8G m cv cols least fa H hM hfew h1 (by simp [hv, hi]) hv hf (h2 hv)
end
end Go.Ev

