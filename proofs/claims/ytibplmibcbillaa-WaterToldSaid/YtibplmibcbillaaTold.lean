/-
  For any ground at hand, any days, words for the truth and for the readings, and a word for another soak: the soaks that agree with what a run told hold the truth, fewer readings leave no fewer soaks, and another soak agrees just if it lies in the range: WaterTold returns true, and its arguments read behind the call as they did.
  Conditions: none. The call is reckoned by an evaluator that is proved sound (the Ev texts), function by function (the V texts), in whatever order a region draws.
-/
import Derived.Test.YtibplmibcbillaaPt34
import Derived.Test.YtibplmibcbillaaPt35
import Derived.Test.YtibplmibcbillaaPt33
import Derived.Test.YtibplmibcbillaaWk
import Derived.Test.YtibplmibcbillaaRows
import Derived.ProofKit
import Derived.OpenShut
import Derived.Carry
namespace Go.Proofs.Ytibplmibcbillaa.waterTold
open Go.ChangeShapes Go.WideShapes Go.ChangeAt Go.RowKit

theorem own : ownKnob Try.prog.godebug = none := by kernel_rfl

section
variable {H : Type} {enc : TypeId × Value → H} {P : Program}
/-- The row's last step where the call left all old blocks as they were. -/
theorem below_post {f : Func} {s : ChangeSpec} {apart fresh handsOn again : Bool} {W W' : World} {args : Array Value} {v : Value} {ds gs : List (DataW H)} {before pa pv : List MemPlace}
    (hW : DataW.Whole enc P f.params.toList s.vars apart W args.toList ds gs before)
    (hres : ∀ (b : Nat) (sp : Nat → Bool) (hd : Bool), DataW.TrodAll enc P W' b sp hd f.resultTypes.toList (v.resultList f.resultTypes.size) (s.fn H (ds ++ gs)).results [])
    (hargs : ∀ sp : Nat → Bool, (∀ p ∈ before, sp p.block = true) → DataW.TrodAll enc P W' 0 sp true f.params.toList args.toList (s.fn H (ds ++ gs)).args pa)
    (hvars : ∀ sp : Nat → Bool, (∀ p ∈ before, sp p.block = true) → DataW.TrodVars enc P W' sp s.vars (s.fn H (ds ++ gs)).vars pv)
    (hps : before = pa ++ pv) (hb : Below W.heap.size W W')
    (hok : ∀ (j : Nat) (t : TypeId) (r : Value), f.resultTypes[j]? = some t → (v.resultList f.resultTypes.size)[j]? = some r → Value.okWide P W' .any 0 t r) :
    s.post enc P f apart fresh handsOn again W args v W' := by
  have hlt : ∀ p ∈ before, p.block < W.heap.size := fun p hp => hW.lt p hp
  have hold : ∀ p ∈ before, (fun b => decide (b < W.heap.size)) p.block = true := fun p hp => by simpa using hlt p hp
  refine ⟨ds, gs, before, [], pa, pv, hW, hres _ _ _, hargs _ hold, hvars _ hold, World.keptBut_mono (fun p hp => ⟨hp, ?_⟩) (hb.frame (· ∈ before)), fun _ => ?_⟩
  · rw [hps, List.mem_append] at hp
    exact Or.inr hp
  · obtain ⟨_, _, _, _, _, hz, hn⟩ := hW
    refine ⟨hok, _, _, ([] ++ pa) ++ pv, ⟨[] ++ pa, pv, trodAll_append (hargs _ (fun _ _ => rfl)) (hres _ _ _), hvars _ (fun _ _ => rfl), rfl, ?_, ?_⟩, ?_⟩
    · intro b off hp
      have hin : MemPlace.cell b off ∈ before := by rw [hps]; simpa using hp
      rw [hb.frozen (hlt _ hin)]
      exact hz b off hin
    · intro ha
      have := hn ha
      rw [hps] at this
      simpa using this
    · intro p hp _
      rw [hps]
      simpa using hp
end

theorem laidOut : laidOutB Try.prog = true := by kernel_rfl

theorem law_all {H : Type} {enc : TypeId × Value → H} (W : World) (v0 v1 v2 v3 v4 : Value) {d0 d1 d2 d3 d4 : DataW H} {p0 p1 p2 p3 p4 : List MemPlace} {b : Nat} {sp0 : Nat → Bool} {hd0 : Bool} {sp1 : Nat → Bool} {hd1 : Bool} {sp2 : Nat → Bool} {hd2 : Bool} {sp3 : Nat → Bool} {hd3 : Bool} {sp4 : Nat → Bool} {hd4 : Bool}
    (k0 : ∃ cs, v0 = .agg cs ∧ cs.size = Try.prog.cellsOf 26) (k1 : ∃ a len cap, v1 = .slice a len cap) (k2 : ∃ a len cap, v2 = .slice a len cap) (k3 : ∃ a len cap, v3 = .slice a len cap) (k4 : ∃ n, v4 = .int .u16 n)
    (h0 : DataW.Trod enc Try.prog W b sp0 hd0 26 v0 d0 p0) (h1 : DataW.Trod enc Try.prog W b sp1 hd1 27 v1 d1 p1) (h2 : DataW.Trod enc Try.prog W b sp2 hd2 85 v2 d2 p2) (h3 : DataW.Trod enc Try.prog W b sp3 hd3 85 v3 d3 p3) (h4 : DataW.Trod enc Try.prog W b sp4 hd4 64 v4 d4 p4) :
    Calls Try.prog 13 #[v0, v1, v2, v3, v4] W fun e W' => e = .returned (.bool true) ∧ Below W.heap.size W W' := by
  obtain ⟨H0, hs⟩ := Go.Ev.snap_exists W
  obtain ⟨cv, cs, g, ha0, hR⟩ := Go.Ev.ground_arg hs k0 h0
  obtain ⟨dv, ds, ha1, hY⟩ := Go.Ev.days_arg hs k1 h1
  obtain ⟨wv, ws, ha2, hWs, hws⟩ := Go.Ev.words_arg hs k2 h2
  obtain ⟨wv2, ws2, ha3, hWs2, hws2⟩ := Go.Ev.words_arg hs k3 h3
  obtain ⟨w, ha4, hw1, hw2⟩ := Go.Ev.u16_arg hs k4 h4
  have he := Go.EvN.c13 0 cv dv wv wv2 cs g ds ws ws2 w H0 hR hY hWs hws hWs2 hws2 ⟨hw1, hw2⟩
  have he' : Go.EvN.FnN Try.prog (Go.Ev.RR 41) 13 ((#[v0, v1, v2, v3, v4] : Array Value).toList.map (Go.Ev.argAV W.heap.size)) H0 fun u _ => u = .bool true := by
    show Go.EvN.FnN Try.prog (Go.Ev.RR 41) 13 [Go.Ev.argAV W.heap.size v0, Go.Ev.argAV W.heap.size v1, Go.Ev.argAV W.heap.size v2, Go.Ev.argAV W.heap.size v3, Go.Ev.argAV W.heap.size v4] H0 _
    rw [ha0, ha1, ha2, ha3, ha4]
    exact he
  have := Go.EvN.overN ⟨Go.Ev.runO_good mixed nO_good 41, mixed⟩ hs rfl he'
  exact this

set_option maxRecDepth 100000 in
theorem lifted (os : Os) (started : os.Started) (H : Type) (enc : TypeId × Value → H) :
    ReturnsInHanded {} Try.checked os 13 .any (Rows.waterToldSpec.pre6 enc Try.prog Try.f13 Rows.waterToldRow.domain false) (Rows.waterToldSpec.post enc Try.prog Try.f13 false true false false) := by
  refine returnsInHanded_of_change (C := Try.checked) own started (by kernel_rfl) Try.func13
    (ChangeSpec.witness6 (enc := enc) (C := Try.checked) false ⟨#[], #[.agg #[.slice none 0 0, .int .i64 0, .int .i64 0, .int .i64 0, .int .i64 0, .int .i64 0], .slice none 0 0, .slice none 0 0, .slice none 0 0, .int .u16 0], []⟩ 8 (by kernel_rfl) (by kernel_rfl) (by kernel_rfl) (by kernel_rfl)) ?_
  intro W base args ds gs before hval0 hW hcnd _
  have hval : ∀ (j : Nat) t v, Try.f13.params[j]? = some t → args[j]? = some v → Value.okWide Try.prog W .any base t v := hval0
  have hW' := hW
  obtain ⟨p, q, hA0, hV, rfl, hfz, hnd⟩ := hW
  have hA : DataW.TrodAll enc Try.prog W 0 (fun _ => true) true Try.f13.params.toList args.toList ds p := hA0
  rw [Try.params13] at hA hval
  obtain ⟨v0, v1, v2, v3, v4, d0, d1, d2, d3, d4, p0, p1, p2, p3, p4, rfl, rfl, rfl, h0, h1, h2, h3, h4⟩ := Go.Ev.trodAll_five hA
  obtain ⟨rfl, rfl⟩ := trodVars_none hV
  have k0 := okWide_struct Try.underlying26 (hval 0 26 v0 rfl rfl)
  have k1 := okWide_slice Try.underlying27 (hval 1 27 v1 rfl rfl)
  have k2 := okWide_slice Try.underlying85 (hval 2 85 v2 rfl rfl)
  have k3 := okWide_slice Try.underlying85 (hval 3 85 v3 rfl rfl)
  have k4 := okWide_int Try.underlying64 (hval 4 64 v4 rfl rfl)
  clear hA0 hval0 hA hV hval
  simp only [List.append_nil] at hW'
  have hlt : ∀ x ∈ p0 ++ (p1 ++ (p2 ++ (p3 ++ p4))), x.block < W.heap.size := fun x hx => hW'.lt x (by simpa using hx)
  refine (law_all W v0 v1 v2 v3 v4 k0 k1 k2 k3 k4 h0 h1 h2 h3 h4).mono fun e W' ⟨he, hb⟩ => ?_
  subst he
  have hargs : ∀ sp : Nat → Bool, (∀ x ∈ p0 ++ p1 ++ p2 ++ p3 ++ p4, sp x.block = true) → DataW.TrodAll enc Try.prog W' 0 sp true [26, 27, 85, 85, 64] [v0, v1, v2, v3, v4] [d0, d1, d2, d3, d4] (p0 ++ (p1 ++ (p2 ++ (p3 ++ p4)))) := fun sp hsp =>
    Go.Ev.trodAll_mk5 (WideElems.Trod_stays laidOut (by kernel_rfl) (of_decide_eq_true (by kernel_rfl)) h0 (fun x hx => hb.same (hlt x (by simp [hx]))) (fun x hx => hsp x (by simp [hx]))) (WideElems.Trod_stays laidOut (by kernel_rfl) (of_decide_eq_true (by kernel_rfl)) h1 (fun x hx => hb.same (hlt x (by simp [hx]))) (fun x hx => hsp x (by simp [hx]))) (WideElems.Trod_stays laidOut (by kernel_rfl) (of_decide_eq_true (by kernel_rfl)) h2 (fun x hx => hb.same (hlt x (by simp [hx]))) (fun x hx => hsp x (by simp [hx]))) (WideElems.Trod_stays laidOut (by kernel_rfl) (of_decide_eq_true (by kernel_rfl)) h3 (fun x hx => hb.same (hlt x (by simp [hx]))) (fun x hx => hsp x (by simp [hx]))) (WideElems.Trod_stays laidOut (by kernel_rfl) (of_decide_eq_true (by kernel_rfl)) h4 (fun x hx => hb.same (hlt x (by simp [hx]))) (fun x hx => hsp x (by simp [hx])))
  exact ⟨_, rfl, below_post (pa := p0 ++ (p1 ++ (p2 ++ (p3 ++ p4)))) (pv := []) hW' (fun _ _ _ => (trodAll_cons_mk (shut_bool Try.underlying4 _) trodAll_mk0)) hargs (fun _ _ => rfl) (by simp)
    hb (ok_one (by kernel_rfl) rfl (okWide_bool_mk Try.underlying4 _))⟩

theorem proved : Rows.WaterToldSaid :=
  OpenClaim.holds_of_wide 13 Try.f13 rfl rfl rfl rfl rfl rfl rfl ⟨rfl, rfl, rfl, rfl, rfl⟩ rfl rfl rfl rfl rfl (by kernel_rfl) Try.func13 (by kernel_rfl)
    (of_decide_eq_true (by kernel_rfl)) (by unfold Func.isWrapper; first | (rw [if_pos (by decide +kernel)]; kernel_rfl) | (rw [if_neg (by decide +kernel)]; exact ⟨rfl, rfl⟩))
    (fun os started H enc _ => lifted os started H enc)
#print axioms proved
end Go.Proofs.Ytibplmibcbillaa.waterTold
