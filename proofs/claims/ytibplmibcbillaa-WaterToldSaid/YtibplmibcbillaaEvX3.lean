/-
  Functions of the program, reckoned by the evaluator: what each answers, and that it leaves what came in as it was.
-/
import Derived.KernelRfl
import Derived.Test.YtibplmibcbillaaEvX2
set_option linter.unusedSimpArgs false
set_option linter.unusedVariables false
namespace Go.Ev
open Go.RowKit
noncomputable section
variable {P : Program} {rec : Rec} {ro : Option Nat}

/-- Of an array's type: how many elements it has, and how many cells one of them. -/
def arrSz (P : Program) (t : TypeId) : Option (Nat × Nat) := match mkTI P t with
  | some { d := .array n e, .. } => (mkTI P e).map fun ei => (n, ei.size)
  | _ => none

theorem evIndexAddr_arr {T : Tr AV} {H : Heap} {t : TypeId} {x i : Operand} {b off len sz n : Nat} {k : IntKind} (hx : opd T x = some (.ptr b off)) (hi : opd T i = some (.int k (n : Int))) (ht : arrSz P t = some (len, sz)) (hn : n < len) :
    evIndexAddr P T H t x i = some (.val (.ptr b (off + n * sz)) H) := by
  unfold arrSz at ht
  unfold evIndexAddr
  rw [hx, hi]
  split at ht
  · rename_i e; rw [e]
    simp only [Option.map_eq_some_iff, Prod.mk.injEq] at ht
    obtain ⟨ei, h1, h2, h3⟩ := ht
    subst h2
    show (match Nat.blt n _, mkTI P _ with
      | true, some ei => some (Out.val (.ptr b (off + n * ei.size)) H)
      | _, _ => none) = _
    rw [h1, Nat.blt_eq.mpr hn]
    simp only [h3]
  · cases ht

theorem OkO.indexArr {ops : Array Oper} {d : Option Tmp} {t : TypeId} {ps : String} {e : Array Edge} {g : Option (Nat × Bool)} {l : List Oper} {T : Tr AV} {H : Heap} {K : Tr AV → Heap → Prop} {x i : Operand} {ty : TypeId} {b off len sz : Nat} {k : IntKind} {n : Nat} (hg : wantedA ops g T = some true) (hx : opd T x = some (.ptr b off)) (hi : opd T i = some (.int k (n : Int))) (ht : arrSz P ty = some (len, sz)) (hn : n < len) (h : OkO P rec ops l (putD T d (.ptr b (off + n * sz))) H K) : OkO P rec ops (⟨d, .indexAddr ty x i, t, ps, e, g⟩ :: l) T H K :=
  OkO.val hg (show evIndexAddr P T H ty x i = _ from evIndexAddr_arr hx hi ht hn) h

theorem evSlice_arr {T : Tr AV} {H : Heap} {t : TypeId} {x : Operand} {hi : Option Operand} {b off len sz m : Nat} {u : Option AV} (hx : opd T x = some (.ptr b off)) (ht : arrSz P t = some (len, sz)) (hh : optd T hi = some u) (hb : bounds u len = some m) (hm : m ≤ len) :
    evSlice P T H t x none hi = some (.val (.slice b off m len) H) := by
  unfold arrSz at ht
  unfold evSlice
  rw [hx, hh]
  split at ht
  · rename_i e; rw [e]
    simp only [Option.map_eq_some_iff, Prod.mk.injEq] at ht
    obtain ⟨ei, h1, h2, h3⟩ := ht
    subst h2
    show (match bounds u _, mkTI P _ with
      | some m, some _ => (match Nat.ble m _ with
        | true => some (Out.val (.slice b off m _) H)
        | false => none)
      | _, _ => none) = _
    rw [hb, h1]
    dsimp only
    rw [Nat.ble_eq_true_of_le hm]
  · cases ht

theorem OkO.sliceArr {ops : Array Oper} {d : Option Tmp} {t : TypeId} {ps : String} {e : Array Edge} {g : Option (Nat × Bool)} {l : List Oper} {T : Tr AV} {H : Heap} {K : Tr AV → Heap → Prop} {ty : TypeId} {x : Operand} {hi : Option Operand} {b off len sz m : Nat} {u : Option AV} (hg : wantedA ops g T = some true) (hx : opd T x = some (.ptr b off)) (ht : arrSz P ty = some (len, sz)) (hh : optd T hi = some u) (hb : bounds u len = some m) (hm : m ≤ len)
    (h : OkO P rec ops l (putD T d (.slice b off m len)) H K) : OkO P rec ops (⟨d, .slice ty x none hi none, t, ps, e, g⟩ :: l) T H K :=
  OkO.val hg (show evSlice P T H ty x none hi = _ from evSlice_arr hx ht hh hb hm) h

theorem builtin_copy {H : Heap} {t u el : TypeId} {b off len cap n sz : Nat} {s : AV} {cs new l : List AV} (ht : elemSz P t = some sz) (hs : elems H s sz = some new) (hn : lenOf s = some n) (hb : H.get b = some (.cells cs el)) (hl : n ≤ len) (ha : atoms new = true) (hsp : spl cs off new = some l) :
    builtinF P H .copy [t, u] [.slice b off len cap, s] = some (.val (.int .i64 (n : Int)) (H.put b (.cells l el))) := by
  show copyAt P H t b off len s = _
  unfold elemSz at ht
  unfold copyAt
  split at ht
  · rename_i e; rw [e]
    simp only [Option.map_eq_some_iff] at ht
    obtain ⟨ei, h1, h2⟩ := ht
    dsimp only
    rw [h1]
    dsimp only
    rw [h2, hs, hn, hb]
    dsimp only
    rw [Nat.ble_eq_true_of_le hl, ha]
    dsimp only
    rw [hsp]
    rfl
  · cases ht

theorem OkO.roundE {ops : Array Oper} {d : Option Tmp} {t : TypeId} {ps : String} {e : Array Edge} {g : Option (Nat × Bool)} {l : List Oper} {T : Tr AV} {H : Heap} {K : Tr AV → Heap → Prop} {c : Call} {x : Operand} {as : List AV} {k : Nat} {S : AV → Heap → Prop}
    (hg : wantedA ops g T = some true) (hc : c.callee = .value x) (hx : opd T x = some (.yield k)) (ha : opds T c.args.toList = some as) (hr : ∃ v H', rec (.round k as) H = some (v, H') ∧ S v H')
    (h : ∀ v H', S v H' → OkO P rec ops l (putD T d v) H' K) : OkO P rec ops (⟨d, .call c, t, ps, e, g⟩ :: l) T H K := by
  obtain ⟨v, H', h1, h2⟩ := hr
  obtain ⟨T', H2, h3, h4⟩ := h v H' h2
  refine ⟨T', H2, ?_, h4⟩
  have he : evOp P T H (.call c) = some (.round k as) := by
    show evCall P T H c = _
    unfold evCall; rw [ha]; dsimp only; rw [hc]; dsimp only; rw [hx]; rfl
  show evStep P rec ops ⟨d, .call c, t, ps, e, g⟩ (evOps P rec ops l) T H = _
  unfold evStep
  dsimp only
  rw [hg, he]
  show retOf (rec (.round k as) H) T d (evOps P rec ops l) = _
  rw [h1]
  exact h3

theorem Ok.range {g : Operand} {ps : Array Tmp} {as bd : Code} {T : Tr AV} {D : List Nat} {H : Heap} {Q : Ex → St → Prop} {gv : AV} {f : FuncId} {args : List AV} (hg : opd T g = some gv) (hc : callV gv [.yield (H.next + 1)] = some (.fn f args))
    (hr : ∃ v H3, rec (.fn f args) ((H.new .defd).new (.loop .ready none T ps.toList as bd H.next)) = some (v, H3) ∧ ∃ T2 ps2 as2 bd2 d2, H3.get (H.next + 1) = some (.loop .ready none T2 ps2 as2 bd2 d2) ∧
      Q .norm ⟨T, H.next :: D, (H3.put (H.next + 1) (.loop .exhausted none T2 ps2 as2 bd2 d2)).put (H.next + 1) .dead⟩) : Ok P rec none (.rangeFunc g ps as bd) ⟨T, D, H⟩ Q := by
  obtain ⟨v, H3, h1, T2, ps2, as2, bd2, d2, h2, h3⟩ := hr
  refine ⟨_, _, ?_, h3⟩
  show evRange rec none g ps as bd ⟨T, D, H⟩ = _
  unfold evRange
  dsimp only
  rw [hg]
  show rangeGo rec ps as bd ⟨T, D, H⟩ gv H.next (H.new .defd) [H.next] = _
  unfold rangeGo
  have e : (H.new .defd).next = H.next + 1 := by simp
  rw [e, hc]
  dsimp only
  rw [h1]
  dsimp only
  unfold rangeEnd
  rw [h2]
  rfl

theorem round_ok {l : Nat} {args : List AV} {H : Heap} {st : LoopState} {pd : Option Code} {T T' : Tr AV} {ps : List Tmp} {as bd : Code} {d : Nat} {S : AV → Heap → Prop} (hl : H.get l = some (.loop st pd T ps as bd d)) (hp : setPs T ps args = some T')
    (h : Ok P rec (some l) as ⟨T', [], H⟩ fun x s1 => x = .norm ∧ ∃ pd T2 ps2 as2 bd2 d2, s1.H.get l = some (.loop .ready pd T2 ps2 as2 bd2 d2) ∧ Ok P rec (some l) bd ⟨s1.T, s1.D, s1.H.put l (.loop .busy pd T2 ps2 as2 bd2 d2)⟩ fun x s2 => x = .norm ∧
      ∃ st3 pd3 T3 ps3 as3 bd3 d3, s2.H.get l = some (.loop st3 pd3 T3 ps3 as3 bd3 d3) ∧ S (.bool true) (s2.H.put l (.loop .ready none T3 ps3 as3 bd3 d3))) :
    ∃ v H', evRound P rec l args H = some (v, H') ∧ S v H' := by
  obtain ⟨x, s1, h1, rfl, pd2, T2, ps2, as2, bd2, d2, h2, x, s2, h3, rfl, st3, pd3, T3, ps3, as3, bd3, d3, h4, h5⟩ := h
  refine ⟨_, _, ?_, h5⟩
  unfold evRound
  rw [hl]
  dsimp only
  rw [hp]
  dsimp only
  rw [h1]
  dsimp only
  rw [h2]
  dsimp only
  rw [h3]
  dsimp only
  unfold endR
  rw [h4]
  rfl

theorem back_mark {fn : Func} {H : Heap} {T : Tr AV} {d : Nat} {G : Heap} (h : G.get d = some .defd) : evBack P fn H ⟨T, [d], G⟩ = evBack P fn H ⟨T, [], G.put d .shut⟩ := by
  have e : shuts [d] G = some (G.put d .shut) := by
    unfold shuts
    rw [h]
    rfl
  unfold evBack
  dsimp only
  rw [e]
  rfl

theorem Ext.new {H G : Heap} (h : Ext H G) (o : AObj) : Ext H (G.new o) := h.trans (Grow.toNew G o)
theorem Ext.put {H G : Heap} (h : Ext H G) {n : Nat} (o : AObj) (hn : H.next ≤ n) : Ext H (G.put n o) :=
  ⟨h.next, fun m k => by rw [gpo _ _ _ _ (by omega)]; exact h.get m k⟩

theorem Mine.back {k0 : Nat} {H G H' : Heap} {v : AV} {e : TypeId} {sz : Nat} {l : List (List AV)} (hm : Mine k0 G v e sz l.flatten) (hs : ∀ x ∈ l, x.length = sz) (hz : 0 < sz)
    (r : (H' = H ∧ v.flat = true) ∨ ((∀ n, H'.get n = G.get n) ∧ H'.next = G.next)) : Row H' v sz l ∧ Cut H' v sz := by
  have hrow := hm.row hs hz
  rcases r with ⟨_, hf⟩ | ⟨h1, h2⟩
  · rcases hm with ⟨rfl, _⟩ | ⟨b, n, rfl, _⟩
    · have hl : l = [] := by
        have := hrow.len
        cases l with
        | nil => rfl
        | cons a b => simp [lenOf] at this
      subst hl
      exact ⟨Row.nil _ _, .inr (.inr rfl)⟩
    · cases hf
  · exact ⟨hrow.same h1 h2, hm.cut.same h1 h2⟩

theorem Ret.trans {A B C : Heap} (h : Ret A B) (k : Ret B C) : Ret A C := ⟨h.ext.trans k.ext, fun n h1 h2 => k.lo n (h.lo n h1 h2) (Nat.le_trans h2 h.ext.next)⟩
theorem gn3 (H : Heap) (a b c d : AObj) : ((((H.new a).new b).new c).new d).get (H.next + 3) = some d := gn0 (((H.new a).new b).new c) d
theorem gn4 (H : Heap) (a b c d e : AObj) : (((((H.new a).new b).new c).new d).new e).get (H.next + 4) = some e := gn0 ((((H.new a).new b).new c).new d) e
theorem gn5 (H : Heap) (a b c d e f : AObj) : ((((((H.new a).new b).new c).new d).new e).new f).get (H.next + 5) = some f := gn0 (((((H.new a).new b).new c).new d).new e) f
theorem gN : (∀ (H : Heap) (o : AObj), (H.new o).get H.next = some o) ∧ (∀ (H : Heap) (a b : AObj), ((H.new a).new b).get (H.next + 1) = some b) ∧ (∀ (H : Heap) (a b c : AObj), (((H.new a).new b).new c).get (H.next + 2) = some c) ∧ (∀ (H : Heap) (a b c d : AObj), ((((H.new a).new b).new c).new d).get (H.next + 3) = some d) ∧ (∀ (H : Heap) (a b c d e : AObj), (((((H.new a).new b).new c).new d).new e).get (H.next + 4) = some e) ∧ (∀ (H : Heap) (a b c d e f : AObj), ((((((H.new a).new b).new c).new d).new e).new f).get (H.next + 5) = some f) ∧ (∀ (H : Heap) (n : Nat) (o : AObj), (H.put n o).get n = some o) ∧ (∀ (H : Heap) (n : Nat) (o : AObj), n ≠ H.next → (H.new o).get n = H.get n) ∧ (∀ (H : Heap) (n m : Nat) (o : AObj), m ≠ n → (H.put n o).get m = H.get m) := ⟨gn0, gn1, gn2, gn3, gn4, gn5, gp0, gno, gpo⟩
theorem qsa0 {P : Program} {ops : Array Oper} {d : Tmp} {x : Operand} {ty t : TypeId} {ps : String} {e : Array Edge} {g : Option (Nat × Bool)} {T : Tr AV} {H : Heap} {b off : Nat} {cs : List AV} {v : AV} (n : Nat) (hg : wantedA ops g T = some true) (hx : opd T x = some (.ptr b off)) (hd : T.get d = some v) (h : shape P ty = some (false, n) := by kernel_rfl) (hb : (H.get b).bind AObj.cs = some cs := by first | assumption | (simp (disch := first | omega | (simp only [hNw, hPt]; omega)) only [gN] <;> first | rfl | assumption | exact gp0 _ _ _ | exact gn0 _ _)) (hv : cs[off]? = some v := by first | rfl | assumption) (he : AV.plain v = true := by first | rfl | exact lpl (by assumption) | (simp [AV.plain, AV.plains, AV.cells, AV.plain])) : still P ops T H ⟨some d, .load ty x, t, ps, e, g⟩ = true := sld hg hx (lda h hb hv) hd (eqr _ he)
theorem qsg1 {P : Program} {ops : Array Oper} {d : Tmp} {x : Operand} {ty t : TypeId} {ps : String} {e : Array Edge} {g : Option (Nat × Bool)} {T : Tr AV} {H : Heap} {b off : Nat} {cs l : List AV} (n : Nat) (hg : wantedA ops g T = some true) (hx : opd T x = some (.ptr b off)) (hd : T.get d = some (.agg l)) (h : shape P ty = some (true, n) := by kernel_rfl) (hb : (H.get b).bind AObj.cs = some cs := by first | assumption | (simp (disch := first | omega | (simp only [hNw, hPt]; omega)) only [gN] <;> first | rfl | assumption | exact gp0 _ _ _ | exact gn0 _ _)) (hv : seg cs off n = some l := by first | rfl | assumption) (he : AV.plain (.agg l) = true := by first | rfl | exact lpl (by assumption) | (simp [AV.plain, AV.plains, AV.cells, AV.plain])) : still P ops T H ⟨some d, .load ty x, t, ps, e, g⟩ = true := sld hg hx (ldg h hb hv) hd (eqr _ he)
theorem qsa2 {P : Program} {ops : Array Oper} {d : Tmp} {x : Operand} {ty t : TypeId} {ps : String} {e : Array Edge} {g : Option (Nat × Bool)} {T : Tr AV} {H : Heap} {b off : Nat} {cs : List AV} {v : AV} (n : Nat) (hg : wantedA ops g T = some true) (hx : opd T x = some (.ptr b off)) (hd : T.get d = some v) (h : shape P ty = some (false, n) := by kernel_rfl) (hb : (H.get b).bind AObj.cs = some cs := by first | assumption | (simp (disch := first | omega | (simp only [hNw, hPt]; omega)) only [gN] <;> first | rfl | assumption | exact gp0 _ _ _ | exact gn0 _ _)) (hv : cs[off]? = some v := by first | rfl | assumption) (he : AV.plain v = true := by first | rfl | exact lpl (by assumption) | (simp [AV.plain, AV.plains, AV.cells, pc, pd])) : still P ops T H ⟨some d, .load ty x, t, ps, e, g⟩ = true := sld hg hx (lda h hb hv) hd (eqr _ he)
theorem qsa3 {P : Program} {ops : Array Oper} {d : Tmp} {x : Operand} {ty t : TypeId} {ps : String} {e : Array Edge} {g : Option (Nat × Bool)} {T : Tr AV} {H : Heap} {b off : Nat} {cs : List AV} {v : AV} (n : Nat) (hg : wantedA ops g T = some true) (hx : opd T x = some (.ptr b off)) (hd : T.get d = some v) (h : shape P ty = some (false, n) := by kernel_rfl) (hb : (H.get b).bind AObj.cs = some cs := by first | assumption | (simp (disch := first | omega | (simp only [hNw, hPt]; omega)) only [gN] <;> first | rfl | assumption | exact gp0 _ _ _ | exact gn0 _ _)) (hv : cs[off]? = some v := by first | rfl | assumption) (he : AV.plain v = true := by first | rfl | exact lpl (by assumption) | (simp [AV.plain, AV.plains, AV.cells, pc, pd, plv, prv])) : still P ops T H ⟨some d, .load ty x, t, ps, e, g⟩ = true := sld hg hx (lda h hb hv) hd (eqr _ he)
theorem qsg4 {P : Program} {ops : Array Oper} {d : Tmp} {x : Operand} {ty t : TypeId} {ps : String} {e : Array Edge} {g : Option (Nat × Bool)} {T : Tr AV} {H : Heap} {b off : Nat} {cs l : List AV} (n : Nat) (hg : wantedA ops g T = some true) (hx : opd T x = some (.ptr b off)) (hd : T.get d = some (.agg l)) (h : shape P ty = some (true, n) := by kernel_rfl) (hb : (H.get b).bind AObj.cs = some cs := by first | assumption | (simp (disch := first | omega | (simp only [hNw, hPt]; omega)) only [gN] <;> first | rfl | assumption | exact gp0 _ _ _ | exact gn0 _ _)) (hv : seg cs off n = some l := by first | rfl | assumption) (he : AV.plain (.agg l) = true := by first | rfl | exact lpl (by assumption) | (simp [AV.plain, AV.plains, AV.cells, pc, pd])) : still P ops T H ⟨some d, .load ty x, t, ps, e, g⟩ = true := sld hg hx (ldg h hb hv) hd (eqr _ he)
theorem qsa5 {P : Program} {ops : Array Oper} {d : Tmp} {x : Operand} {ty t : TypeId} {ps : String} {e : Array Edge} {g : Option (Nat × Bool)} {T : Tr AV} {H : Heap} {b off : Nat} {cs : List AV} {v : AV} (n : Nat) (hg : wantedA ops g T = some true) (hx : opd T x = some (.ptr b off)) (hd : T.get d = some v) (h : shape P ty = some (false, n) := by kernel_rfl) (hb : (H.get b).bind AObj.cs = some cs := by first | assumption | (simp (disch := first | omega | (simp only [hNw, hPt]; omega)) only [gN] <;> first | rfl | assumption | exact gp0 _ _ _ | exact gn0 _ _)) (hv : cs[off]? = some v := by first | rfl | assumption) (he : AV.plain v = true := by first | rfl | exact lpl (by assumption) | (simp [AV.plain, AV.plains, AV.cells, pc, pd, pl, pr])) : still P ops T H ⟨some d, .load ty x, t, ps, e, g⟩ = true := sld hg hx (lda h hb hv) hd (eqr _ he)
theorem qsg6 {P : Program} {ops : Array Oper} {d : Tmp} {x : Operand} {ty t : TypeId} {ps : String} {e : Array Edge} {g : Option (Nat × Bool)} {T : Tr AV} {H : Heap} {b off : Nat} {cs l : List AV} (n : Nat) (hg : wantedA ops g T = some true) (hx : opd T x = some (.ptr b off)) (hd : T.get d = some (.agg l)) (h : shape P ty = some (true, n) := by kernel_rfl) (hb : (H.get b).bind AObj.cs = some cs := by first | assumption | (simp (disch := first | omega | (simp only [hNw, hPt]; omega)) only [gN] <;> first | rfl | assumption | exact gp0 _ _ _ | exact gn0 _ _)) (hv : seg cs off n = some l := by first | rfl | assumption) (he : AV.plain (.agg l) = true := by first | rfl | exact lpl (by assumption) | (simp [AV.plain, AV.plains, AV.cells, pc, pd, pl, pr])) : still P ops T H ⟨some d, .load ty x, t, ps, e, g⟩ = true := sld hg hx (ldg h hb hv) hd (eqr _ he)
theorem qla7 {P : Program} {H : Heap} {t : TypeId} {b off : Nat} {cs : List AV} {v : AV} (n : Nat) (h : shape P t = some (false, n) := by kernel_rfl) (hb : (H.get b).bind AObj.cs = some cs := by first | assumption | (simp (disch := first | omega | (simp only [hNw, hPt]; omega)) only [gN] <;> first | rfl | assumption | exact gp0 _ _ _ | exact gn0 _ _)) (hv : cs[off]? = some v := by first | rfl | assumption) : loadAt P H t b off = some v := lda h hb hv
theorem qlg8 {P : Program} {H : Heap} {t : TypeId} {b off : Nat} {cs l : List AV} (n : Nat) (h : shape P t = some (true, n) := by kernel_rfl) (hb : (H.get b).bind AObj.cs = some cs := by first | assumption | (simp (disch := first | omega | (simp only [hNw, hPt]; omega)) only [gN] <;> first | rfl | assumption | exact gp0 _ _ _ | exact gn0 _ _)) (hv : seg cs off n = some l := by first | rfl | assumption) : loadAt P H t b off = some (.agg l) := ldg h hb hv
theorem qsg9 {P : Program} {ops : Array Oper} {d : Tmp} {x : Operand} {ty t : TypeId} {ps : String} {e : Array Edge} {g : Option (Nat × Bool)} {T : Tr AV} {H : Heap} {b off : Nat} {cs l : List AV} (n : Nat) (hg : wantedA ops g T = some true) (hx : opd T x = some (.ptr b off)) (hd : T.get d = some (.agg l)) (h : shape P ty = some (true, n) := by kernel_rfl) (hb : (H.get b).bind AObj.cs = some cs := by first | assumption | (simp (disch := first | omega | (simp only [hNw, hPt]; omega)) only [gN] <;> first | rfl | assumption | exact gp0 _ _ _ | exact gn0 _ _)) (hv : seg cs off n = some l := by first | rfl | assumption) (he : AV.plain (.agg l) = true := by first | rfl | exact lpl (by assumption) | (simp [AV.plain, AV.plains, AV.cells, pc, pd, plv, prv, pcv])) : still P ops T H ⟨some d, .load ty x, t, ps, e, g⟩ = true := sld hg hx (ldg h hb hv) hd (eqr _ he)
theorem qsa10 {P : Program} {ops : Array Oper} {d : Tmp} {x : Operand} {ty t : TypeId} {ps : String} {e : Array Edge} {g : Option (Nat × Bool)} {T : Tr AV} {H : Heap} {b off : Nat} {cs : List AV} {v : AV} (n : Nat) (hg : wantedA ops g T = some true) (hx : opd T x = some (.ptr b off)) (hd : T.get d = some v) (h : shape P ty = some (false, n) := by kernel_rfl) (hb : (H.get b).bind AObj.cs = some cs := by first | assumption | (simp (disch := first | omega | (simp only [hNw, hPt]; omega)) only [gN] <;> first | rfl | assumption | exact gp0 _ _ _ | exact gn0 _ _)) (hv : cs[off]? = some v := by first | rfl | assumption) (he : AV.plain v = true := by first | rfl | exact lpl (by assumption) | (simp [AV.plain, AV.plains, AV.cells, pc, pd, plv, prv, pcv])) : still P ops T H ⟨some d, .load ty x, t, ps, e, g⟩ = true := sld hg hx (lda h hb hv) hd (eqr _ he)
theorem qbl {P : Program} {H : Heap} {t : TypeId} {v : AV} {n : Nat} (ht : isSlice P t = true := by kernel_rfl) (hn : lenOf v = some n := by first | assumption | rfl) : builtinF P H .len [t] [v] = some (.val (.int .i64 (n : Int)) H) := bln ht hn
theorem qX {P : Program} {rec : Rec} {ops : Array Oper} {d : Option Tmp} {t : TypeId} {ps : String} {e : Array Edge} {g : Option (Nat × Bool)} {l : List Oper} {T : Tr AV} {H : Heap} {K : Tr AV → Heap → Prop} {x i : Operand} {ty : TypeId} {b off sz : Nat} {u : AV} {k : IntKind} {n : Nat} (hg : wantedA ops g T = some true) (hx : opd T x = some u) (hi : opd T i = some (.int k (n : Int))) (h : OkO P rec ops l (putD T d (.ptr b off)) H K) (ht : elemSz P ty = some sz := by kernel_rfl) (ha : slAt u sz n = some (b, off) := by first | assumption | rfl | exact slAt_slice (by omega) | exact slAt_opn (by omega)) : OkO P rec ops (⟨d, .indexAddr ty x i, t, ps, e, g⟩ :: l) T H K := oX hg hx hi ht ha h
theorem Ok.rangeT {g : Operand} {ps : Array Tmp} {as bd : Code} {T : Tr AV} {D : List Nat} {H : Heap} {Q : Ex → St → Prop} {gv : AV} {f : FuncId} {args : List AV} (hg : opd T g = some gv) (hc : callV gv [.yield (H.next + 1)] = some (.fn f args))
    (hr : ∀ T0, T0 = T → ∃ v H3, rec (.fn f args) ((H.new .defd).new (.loop .ready none T0 ps.toList as bd H.next)) = some (v, H3) ∧ ∃ T2 ps2 as2 bd2 d2, H3.get (H.next + 1) = some (.loop .ready none T2 ps2 as2 bd2 d2) ∧
      Q .norm ⟨T, H.next :: D, (H3.put (H.next + 1) (.loop .exhausted none T2 ps2 as2 bd2 d2)).put (H.next + 1) .dead⟩) : Ok P rec none (.rangeFunc g ps as bd) ⟨T, D, H⟩ Q :=
  Ok.range hg hc (hr T rfl)

/-- The first range over a function in a text: what it assigns, and its body. -/
def rangeOf : Code → Option (Code × Code)
  | .rangeFunc _ _ as bd => some (as, bd)
  | .seq x y => match rangeOf x with
    | some r => some r
    | none => rangeOf y
  | .block _ c => rangeOf c
  | .loop c => rangeOf c
  | .scope c => rangeOf c
  | .cond _ x y => match rangeOf x with
    | some r => some r
    | none => rangeOf y
  | _ => none
/-- The kind that a number is turned into. -/
def convOk (P : Program) (src dst : TypeId) : Option IntKind := match mkTI P src, mkTI P dst with
  | some _, some { d := .int k, .. } => some k
  | _, _ => none

theorem OkO.convert {ops : Array Oper} {d : Option Tmp} {t : TypeId} {ps : String} {e : Array Edge} {g : Option (Nat × Bool)} {l : List Oper} {T : Tr AV} {H : Heap} {K : Tr AV → Heap → Prop} {x : Operand} {s u : TypeId} {k k' : IntKind} {n n' : Int} (hg : wantedA ops g T = some true) (hc : convOk P s u = some k) (hx : opd T x = some (.int k' n)) (hw : wrapF k n = n') (h : OkO P rec ops l (putD T d (.int k n')) H K) : OkO P rec ops (⟨d, .convert s u x, t, ps, e, g⟩ :: l) T H K :=
  OkO.val hg (show evConv P T H s u x = some (.val (.int k n') H) by
    unfold convOk at hc
    unfold evConv
    rw [hx]
    split at hc
    · rename_i e1 e2
      cases hc
      rw [e1, e2]
      dsimp only
      rw [hw]
    · cases hc) h

theorem evMakeSlice_of {T : Tr AV} {H : Heap} {t e : TypeId} {x c : Operand} {sz n : Nat} {z : List AV} (ht : buildSl P t = some (e, sz, z)) (hb : ∃ by_, elemTI P t = some (e, sz, by_) ∧ by_ ≤ 1000000) (hx : opd T x = some (.int .i64 (n : Int))) (hc : opd T c = some (.int .i64 (n : Int))) (hn : n ≤ 1000000) :
    evMakeSlice P T H t x c = some (.val (.slice H.next 0 n n) (H.new (.cells (rep z n) e))) := by
  obtain ⟨by_, hb, hbl⟩ := hb
  unfold buildSl at ht
  unfold elemTI at hb
  unfold evMakeSlice
  rw [hx, hc]
  split at ht
  · rename_i ag0 s0 b0 z0 e0 e1
    rw [e1]
    rw [e1] at hb
    dsimp only at hb
    split at ht
    · rename_i ag2 d2 sz2 by2 z2 e2
      rw [e2] at hb
      split at ht
      · rename_i e3
        simp only [Option.some.injEq, Prod.mk.injEq] at ht
        obtain ⟨rfl, rfl, rfl⟩ := ht
        simp only [Option.map_some, e3, Option.some.injEq, Prod.mk.injEq, true_and] at hb
        subst hb
        show (match mkTI P e0 with
          | some { size := sz, bytes := by_, zero := some z, .. } => (match Nat.ble n n, Nat.ble n 1000000, Nat.ble by_ 1000000, Nat.beq z.length sz with
            | true, true, true, true => some (Out.val (.slice H.next 0 n n) (H.new (.cells (rep z n) e0)))
            | _, _, _, _ => none)
          | _ => none) = _
        rw [e2]
        dsimp only
        rw [Nat.ble_eq_true_of_le (Nat.le_refl n), Nat.ble_eq_true_of_le hn, Nat.ble_eq_true_of_le hbl, e3]
      · cases ht
    · cases ht
  · cases ht

theorem OkO.makeSlice {ops : Array Oper} {d : Option Tmp} {t : TypeId} {ps : String} {e : Array Edge} {g : Option (Nat × Bool)} {l : List Oper} {T : Tr AV} {H : Heap} {K : Tr AV → Heap → Prop} {x c : Operand} {ty el : TypeId} {sz n by_ : Nat} {z : List AV} (hg : wantedA ops g T = some true) (ht : buildSl P ty = some (el, sz, z)) (hb : elemTI P ty = some (el, sz, by_)) (hbl : by_ ≤ 1000000)
    (hx : opd T x = some (.int .i64 (n : Int))) (hc : opd T c = some (.int .i64 (n : Int))) (hn : n ≤ 1000000) (h : OkO P rec ops l (putD T d (.slice H.next 0 n n)) (H.new (.cells (rep z n) el)) K) : OkO P rec ops (⟨d, .makeSlice ty x c, t, ps, e, g⟩ :: l) T H K :=
  OkO.val hg (show evMakeSlice P T H ty x c = _ from evMakeSlice_of ht ⟨by_, hb, hbl⟩ hx hc hn) h
theorem slAt_slice {b off len cap sz n : Nat} (h : n < len) : slAt (.slice b off len cap) sz n = some (b, off + n * sz) := by simp [slAt, h]
theorem Mine.backF {H G H' : Heap} {v : AV} {e : TypeId} {sz : Nat} {l : List (List AV)} (hm : Mine H.next G v e sz l.flatten) (hs : ∀ x ∈ l, x.length = sz) (hz : 0 < sz)
    (r : (H' = H ∧ v.flat = true) ∨ ((∀ n, H'.get n = G.get n) ∧ H'.next = G.next)) : Fr H.next H'.next H' (fun X => Row X v sz l) := by
  rcases r with ⟨_, hf⟩ | ⟨h1, h2⟩
  · have hrow := hm.row hs hz
    rcases hm with ⟨rfl, _⟩ | ⟨b, n, rfl, _⟩
    · have hl : l = [] := by
        have := hrow.len
        cases l with
        | nil => rfl
        | cons a b => simp [lenOf] at this
      subst hl
      exact fun X _ _ => Row.nil _ _
    · cases hf
  · intro X h3 h4
    rcases hm with h | ⟨b, n, a1, a2, a3, a4, a5⟩
    · exact Mine.row (k0 := H.next) (e := e) (.inl h) hs hz
    · exact Mine.row (k0 := H.next) (e := e) (.inr ⟨b, n, a1, by rw [h4 b a4 (by omega), h1]; exact a2, a3, a4, by omega⟩) hs hz

theorem Cut.atom {H : Heap} {v : AV} {sz : Nat} (h : Cut H v sz) : v.atom = true ∧ v.cells = [v] := by
  rcases h with ⟨b, off, len, cap, rfl, _⟩ | ⟨b, len, cs, e, rfl, _⟩ | rfl <;> exact ⟨rfl, rfl⟩
/-- Where two ways meet: what is known behind both. -/
theorem Ok.join {x y : Code} {s : St} {Q : Ex → St → Prop} (J : St → Prop) (h1 : Ok P rec ro x s fun e s' => e = .norm ∧ J s') (h2 : ∀ s', J s' → Ok P rec ro y s' Q) : Ok P rec ro (.seq x y) s Q :=
  kS (h1.mono fun e s' h => by obtain ⟨rfl, hj⟩ := h; exact h2 s' hj)
end
end Go.Ev

