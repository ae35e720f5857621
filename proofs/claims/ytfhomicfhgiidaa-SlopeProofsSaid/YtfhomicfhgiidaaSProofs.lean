/-
  For any slope at hand, any factor, and any table that is handed in, or the one that Proof gives with a number changed, Proof gives a table that proves the factor just where no surface is below it, and ProveLeast says of a table what the document says: SlopeProofs returns true, and its arguments read behind the call as they did.
  Conditions: none. The call is reckoned by an evaluator that is proved sound (the Ev texts), function by function (the G and K texts), in whatever order a region draws.
-/
import Derived.Test.YtfhomicfhgiidaaPt27
import Derived.Test.YtfhomicfhgiidaaPt30
import Derived.Test.YtfhomicfhgiidaaWk
import Derived.Test.YtfhomicfhgiidaaRows
import Derived.ProofKit
import Derived.OpenShut
import Derived.Carry
namespace Go.Proofs.Ytfhomicfhgiidaa.slopeProofs
open Go.ChangeShapes Go.WideShapes Go.ChangeAt Go.RowKit

theorem own : ownKnob Try.prog.godebug = none := by kernel_rfl

section
variable {H : Type} {enc : TypeId × Value → H} {P : Program}
/-- The row's last step where the call left all old blocks as they were. -/
theorem below_post {f : Func} {s : ChangeSpec} {apart fresh handsOn again : Bool} {W W' : World} {args : Array Value} {v : Value} {ds gs : List (DataW H)} {before pa pv : List MemPlace}
    (hW : DataW.Whole enc P f.params.toList s.vars apart W args.toList ds gs before)
    (hres : ∀ (b : Nat) (sp : Nat → Bool) (hd : Bool), DataW.TrodAll enc P W' b sp hd f.resultTypes.toList (v.resultList f.resultTypes.size) (s.fn H (ds ++ gs)).results [])
    (hargs : ∀ sp : Nat → Bool, (∀ p ∈ before, sp p.block = true) → DataW.TrodAll enc P W' 0 sp true f.params.toList args.toList (s.fn H (ds ++ gs)).args pa)
    (hvars : ∀ sp : Nat → Bool, (∀ p ∈ before, sp p.block = true) → DataW.TrodVars enc P W' sp s.vars (s.fn H (ds ++ gs)).vars pv)
    (hps : before = pa ++ pv) (hb : Below W.heap.size W W')
    (hok : ∀ (j : Nat) (t : TypeId) (r : Value), f.resultTypes[j]? = some t → (v.resultList f.resultTypes.size)[j]? = some r → Value.okWide P W' .any 0 t r) :
    s.post enc P f apart fresh handsOn again W args v W' := by
  have hlt : ∀ p ∈ before, p.block < W.heap.size := fun p hp => hW.lt p hp
  have hold : ∀ p ∈ before, (fun b => decide (b < W.heap.size)) p.block = true := fun p hp => by simpa using hlt p hp
  refine ⟨ds, gs, before, [], pa, pv, hW, hres _ _ _, hargs _ hold, hvars _ hold, World.keptBut_mono (fun p hp => ⟨hp, ?_⟩) (hb.frame (· ∈ before)), fun _ => ?_⟩
  · rw [hps, List.mem_append] at hp
    exact Or.inr hp
  · obtain ⟨_, _, _, _, _, hz, hn⟩ := hW
    refine ⟨hok, _, _, ([] ++ pa) ++ pv, ⟨[] ++ pa, pv, trodAll_append (hargs _ (fun _ _ => rfl)) (hres _ _ _), hvars _ (fun _ _ => rfl), rfl, ?_, ?_⟩, ?_⟩
    · intro b off hp
      have hin : MemPlace.cell b off ∈ before := by rw [hps]; simpa using hp
      rw [hb.frozen (hlt _ hin)]
      exact hz b off hin
    · intro ha
      have := hn ha
      rw [hps] at this
      simpa using this
    · intro p hp _
      rw [hps]
      simpa using hp
end

theorem laidOut : laidOutB Try.prog = true := by kernel_rfl

theorem law_all {H : Type} {enc : TypeId × Value → H} (W : World) (v0 v1 v2 v3 v4 v5 v6 v7 : Value) {d0 d1 d2 d3 d4 d5 d6 d7 : DataW H} {p0 p1 p2 p3 p4 p5 p6 p7 : List MemPlace} {b : Nat} {sp0 : Nat → Bool} {hd0 : Bool} {sp1 : Nat → Bool} {hd1 : Bool} {sp2 : Nat → Bool} {hd2 : Bool} {sp3 : Nat → Bool} {hd3 : Bool} {sp4 : Nat → Bool} {hd4 : Bool} {sp5 : Nat → Bool} {hd5 : Bool} {sp6 : Nat → Bool} {hd6 : Bool} {sp7 : Nat → Bool} {hd7 : Bool}
    (k0 : ∃ cs, v0 = .agg cs ∧ cs.size = Try.prog.cellsOf 24) (k1 : ∃ n, v1 = .int .i64 n) (k2 : ∃ a len cap, v2 = .slice a len cap) (k3 : ∃ n, v3 = .bool n) (k4 : ∃ n, v4 = .int .u8 n) (k5 : ∃ n, v5 = .int .u8 n) (k6 : ∃ n, v6 = .int .u8 n) (k7 : ∃ n, v7 = .int .i8 n)
    (h0 : DataW.Trod enc Try.prog W b sp0 hd0 24 v0 d0 p0) (h1 : DataW.Trod enc Try.prog W b sp1 hd1 3 v1 d1 p1) (h2 : DataW.Trod enc Try.prog W b sp2 hd2 60 v2 d2 p2) (h3 : DataW.Trod enc Try.prog W b sp3 hd3 4 v3 d3 p3) (h4 : DataW.Trod enc Try.prog W b sp4 hd4 5 v4 d4 p4) (h5 : DataW.Trod enc Try.prog W b sp5 hd5 5 v5 d5 p5) (h6 : DataW.Trod enc Try.prog W b sp6 hd6 5 v6 d6 p6) (h7 : DataW.Trod enc Try.prog W b sp7 hd7 61 v7 d7 p7) :
    Calls Try.prog 6 #[v0, v1, v2, v3, v4, v5, v6, v7] W fun e W' => e = .returned (.bool true) ∧ Below W.heap.size W W' := by
  obtain ⟨H0, hs⟩ := Go.Ev.snap_exists W
  obtain ⟨cv, cols, least, ha0, hM⟩ := Go.Ev.slope_open hs k0 h0
  obtain ⟨fa, ha1⟩ := Go.Ev.int_arg hs k1 h1
  obtain ⟨tv, TT, ha2, hTT⟩ := Go.Ev.tab60_arg hs k2 h2
  obtain ⟨ow, ha3⟩ := Go.Ev.bool_arg hs k3 h3
  obtain ⟨rw9, ha4, hurw9⟩ := Go.Ev.u8_arg hs k4 h4
  obtain ⟨cn9, ha5, hucn9⟩ := Go.Ev.u8_arg hs k5 h5
  obtain ⟨bd9, ha6, hubd9⟩ := Go.Ev.u8_arg hs k6 h6
  obtain ⟨by9, ha7, hby⟩ := Go.Ev.i8_arg hs k7 h7
  have he := Go.Ev.c6 0 cv tv cols least fa TT ow rw9 cn9 bd9 by9 H0 hM hTT hurw9 hucn9 hubd9 hby
  have he' : Go.Ev.evFn Try.prog (Go.Ev.RR 212) 6 ((#[v0, v1, v2, v3, v4, v5, v6, v7] : Array Value).toList.map (Go.Ev.argAV W.heap.size)) H0 = some (.bool true, H0) := by
    show Go.Ev.evFn Try.prog (Go.Ev.RR 212) 6 [Go.Ev.argAV W.heap.size v0, Go.Ev.argAV W.heap.size v1, Go.Ev.argAV W.heap.size v2, Go.Ev.argAV W.heap.size v3, Go.Ev.argAV W.heap.size v4, Go.Ev.argAV W.heap.size v5, Go.Ev.argAV W.heap.size v6, Go.Ev.argAV W.heap.size v7] H0 = _
    rw [ha0, ha1, ha2, ha3, ha4, ha5, ha6, ha7, ← Go.Ev.R_fn]
    exact he
  have := Go.Ev.over mixed (Go.Ev.runO_good mixed nO_good 212) hs rfl he'
  exact this

set_option maxRecDepth 100000 in
theorem lifted (os : Os) (started : os.Started) (H : Type) (enc : TypeId × Value → H) :
    ReturnsInHanded {} Try.checked os 6 .any (Rows.slopeProofsSpec.pre6 enc Try.prog Try.f6 Rows.slopeProofsRow.domain false) (Rows.slopeProofsSpec.post enc Try.prog Try.f6 false true false false) := by
  refine returnsInHanded_of_change (C := Try.checked) own started (by kernel_rfl) Try.func6
    (ChangeSpec.witness6 (enc := enc) (C := Try.checked) false ⟨#[], #[.agg #[.slice none 0 0, .int .i64 0], .int .i64 0, .slice none 0 0, .bool false, .int .u8 0, .int .u8 0, .int .u8 0, .int .i8 0], []⟩ 8 (by kernel_rfl) (by kernel_rfl) (by kernel_rfl) (by kernel_rfl)) ?_
  intro W base args ds gs before hval0 hW hcnd _
  have hval : ∀ (j : Nat) t v, Try.f6.params[j]? = some t → args[j]? = some v → Value.okWide Try.prog W .any base t v := hval0
  have hW' := hW
  obtain ⟨p, q, hA0, hV, rfl, hfz, hnd⟩ := hW
  have hA : DataW.TrodAll enc Try.prog W 0 (fun _ => true) true Try.f6.params.toList args.toList ds p := hA0
  rw [Try.params6] at hA hval
  obtain ⟨v0, v1, v2, v3, v4, v5, v6, v7, d0, d1, d2, d3, d4, d5, d6, d7, p0, p1, p2, p3, p4, p5, p6, p7, rfl, rfl, rfl, h0, h1, h2, h3, h4, h5, h6, h7⟩ := Go.Ev.trodAll_eight hA
  obtain ⟨rfl, rfl⟩ := trodVars_none hV
  have k0 := okWide_struct Try.underlying24 (hval 0 24 v0 rfl rfl)
  have k1 := okWide_int Try.underlying3 (hval 1 3 v1 rfl rfl)
  have k2 := okWide_slice Try.underlying60 (hval 2 60 v2 rfl rfl)
  have k3 := okWide_bool Try.underlying4 (hval 3 4 v3 rfl rfl)
  have k4 := okWide_int Try.underlying5 (hval 4 5 v4 rfl rfl)
  have k5 := okWide_int Try.underlying5 (hval 5 5 v5 rfl rfl)
  have k6 := okWide_int Try.underlying5 (hval 6 5 v6 rfl rfl)
  have k7 := okWide_int Try.underlying61 (hval 7 61 v7 rfl rfl)
  clear hA0 hval0 hA hV hval
  simp only [List.append_nil] at hW'
  have hlt : ∀ x ∈ p0 ++ (p1 ++ (p2 ++ (p3 ++ (p4 ++ (p5 ++ (p6 ++ p7)))))), x.block < W.heap.size := fun x hx => hW'.lt x (by simpa using hx)
  refine (law_all W v0 v1 v2 v3 v4 v5 v6 v7 k0 k1 k2 k3 k4 k5 k6 k7 h0 h1 h2 h3 h4 h5 h6 h7).mono fun e W' ⟨he, hb⟩ => ?_
  subst he
  have hargs : ∀ sp : Nat → Bool, (∀ x ∈ p0 ++ (p1 ++ (p2 ++ (p3 ++ (p4 ++ (p5 ++ (p6 ++ p7)))))), sp x.block = true) → DataW.TrodAll enc Try.prog W' 0 sp true [24, 3, 60, 4, 5, 5, 5, 61] [v0, v1, v2, v3, v4, v5, v6, v7] [d0, d1, d2, d3, d4, d5, d6, d7] (p0 ++ (p1 ++ (p2 ++ (p3 ++ (p4 ++ (p5 ++ (p6 ++ p7))))))) := fun sp hsp =>
    Go.Ev.trodAll_mk8 (WideElems.Trod_stays laidOut (by kernel_rfl) (of_decide_eq_true (by kernel_rfl)) h0 (fun x hx => hb.same (hlt x (by simp [hx]))) (fun x hx => hsp x (by simp [hx]))) (WideElems.Trod_stays laidOut (by kernel_rfl) (of_decide_eq_true (by kernel_rfl)) h1 (fun x hx => hb.same (hlt x (by simp [hx]))) (fun x hx => hsp x (by simp [hx]))) (WideElems.Trod_stays laidOut (by kernel_rfl) (of_decide_eq_true (by kernel_rfl)) h2 (fun x hx => hb.same (hlt x (by simp [hx]))) (fun x hx => hsp x (by simp [hx]))) (WideElems.Trod_stays laidOut (by kernel_rfl) (of_decide_eq_true (by kernel_rfl)) h3 (fun x hx => hb.same (hlt x (by simp [hx]))) (fun x hx => hsp x (by simp [hx]))) (WideElems.Trod_stays laidOut (by kernel_rfl) (of_decide_eq_true (by kernel_rfl)) h4 (fun x hx => hb.same (hlt x (by simp [hx]))) (fun x hx => hsp x (by simp [hx]))) (WideElems.Trod_stays laidOut (by kernel_rfl) (of_decide_eq_true (by kernel_rfl)) h5 (fun x hx => hb.same (hlt x (by simp [hx]))) (fun x hx => hsp x (by simp [hx]))) (WideElems.Trod_stays laidOut (by kernel_rfl) (of_decide_eq_true (by kernel_rfl)) h6 (fun x hx => hb.same (hlt x (by simp [hx]))) (fun x hx => hsp x (by simp [hx]))) (WideElems.Trod_stays laidOut (by kernel_rfl) (of_decide_eq_true (by kernel_rfl)) h7 (fun x hx => hb.same (hlt x (by simp [hx]))) (fun x hx => hsp x (by simp [hx])))
  exact ⟨_, rfl, below_post (pa := p0 ++ (p1 ++ (p2 ++ (p3 ++ (p4 ++ (p5 ++ (p6 ++ p7))))))) (pv := []) hW' (fun _ _ _ => (trodAll_cons_mk (shut_bool Try.underlying4 _) trodAll_mk0)) hargs (fun _ _ => rfl) (by simp)
    hb (ok_one (by kernel_rfl) rfl (okWide_bool_mk Try.underlying4 _))⟩

theorem proved : Rows.SlopeProofsSaid :=
  OpenClaim.holds_of_wide 6 Try.f6 rfl rfl rfl rfl rfl rfl rfl ⟨rfl, rfl, rfl, rfl, rfl⟩ rfl rfl rfl rfl rfl (by kernel_rfl) Try.func6 (by kernel_rfl)
    (of_decide_eq_true (by kernel_rfl)) (by unfold Func.isWrapper; first | (rw [if_pos (by decide +kernel)]; kernel_rfl) | (rw [if_neg (by decide +kernel)]; exact ⟨rfl, rfl⟩))
    (fun os started H enc _ => lifted os started H enc)
#print axioms proved
end Go.Proofs.Ytfhomicfhgiidaa.slopeProofs
