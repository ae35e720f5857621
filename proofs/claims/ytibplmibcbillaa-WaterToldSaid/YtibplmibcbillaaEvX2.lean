/-
  Functions of the program, reckoned by the evaluator: what each answers, and that it leaves what came in as it was.
-/
import Derived.Test.YtibplmibcbillaaEvW
import Derived.IntWalk
set_option linter.unusedSimpArgs false
set_option linter.unusedVariables false
namespace Go.Ev
open Go.RowKit
noncomputable section
variable {P : Program} {rec : Rec} {ro : Option Nat}

theorem gn0 (H : Heap) (o : AObj) : (H.new o).get H.next = some o := by rw [Heap.get_new, if_pos rfl]
theorem gno (H : Heap) (n : Nat) (o : AObj) (h : n ≠ H.next) : (H.new o).get n = H.get n := by rw [Heap.get_new, if_neg h]
theorem gn1 (H : Heap) (a b : AObj) : ((H.new a).new b).get (H.next + 1) = some b := gn0 (H.new a) b
theorem gn2 (H : Heap) (a b c : AObj) : (((H.new a).new b).new c).get (H.next + 2) = some c := gn0 ((H.new a).new b) c
theorem gp0 (H : Heap) (n : Nat) (o : AObj) : (H.put n o).get n = some o := by rw [Heap.get_put, if_pos rfl]
theorem gpo (H : Heap) (n m : Nat) (o : AObj) (h : m ≠ n) : (H.put n o).get m = H.get m := by rw [Heap.get_put, if_neg h]
theorem gM : (∀ (H : Heap) (o : AObj), (H.new o).get H.next = some o) ∧ (∀ (H : Heap) (a b : AObj), ((H.new a).new b).get (H.next + 1) = some b) ∧ (∀ (H : Heap) (a b c : AObj), (((H.new a).new b).new c).get (H.next + 2) = some c) ∧ (∀ (H : Heap) (n : Nat) (o : AObj), (H.put n o).get n = some o) ∧ (∀ (H : Heap) (n : Nat) (o : AObj), n ≠ H.next → (H.new o).get n = H.get n) ∧ (∀ (H : Heap) (n m : Nat) (o : AObj), m ≠ n → (H.put n o).get m = H.get m) := ⟨gn0, gn1, gn2, gp0, gno, gpo⟩

/-- What was there is there, and was not written. -/
structure Grow (W G : Heap) : Prop where
  next : W.next ≤ G.next
  get : ∀ n, n < W.next → G.get n = W.get n
  lo : W.next ≤ G.lo

theorem Grow.refl {W : Heap} (h : W.next ≤ W.lo) : Grow W W := ⟨Nat.le_refl _, fun _ _ => rfl, h⟩
theorem Grow.new {W G : Heap} (h : Grow W G) (o : AObj) : Grow W (G.new o) := ⟨Nat.le_succ_of_le h.next, fun n k => by rw [gno _ _ _ (by have := h.next; omega)]; exact h.get n k, h.lo⟩
theorem Grow.put {W G : Heap} (h : Grow W G) {n : Nat} (o : AObj) (hn : W.next ≤ n) : Grow W (G.put n o) :=
  ⟨h.next, fun m k => by rw [gpo _ _ _ _ (by omega)]; exact h.get m k, by rw [Heap.lo_put]; have := h.lo; omega⟩

theorem leave_flat {H G : Heap} {v : AV} (hv : v.flat = true) (h : H.next ≤ G.lo) : leave H v G = (v, H) := by
  unfold leave
  rw [hv, Nat.ble_eq_true_of_le h]

theorem back_flat {fn : Func} {H : Heap} {T : Tr AV} {G : Heap} {vs : List AV} {v : AV} (hr : resV P T G fn.results.toList = some vs) (hv : resOf vs = v) (hf : v.flat = true) (hg : Grow ⟨H.t, H.next, H.next⟩ G) :
    evBack P fn H ⟨T, [], G⟩ = some (v, H) := by
  unfold evBack
  show (match some G with | some H' => (match resV P T H' fn.results.toList with | some vs => some (leave H (resOf vs) H') | none => none) | none => none) = _
  dsimp only
  rw [hr]
  dsimp only
  rw [hv]; exact congrArg some (leave_flat (H := H) hf hg.lo)

theorem evUn_of {T : Tr AV} {H : Heap} {op : UnOp} {x : Operand} {u v : AV} (hx : opd T x = some u) (hv : un op u = some v) : evUn T H op x = some (.val v H) := by
  unfold evUn; rw [hx]; dsimp only; rw [hv]; rfl

theorem evStore_at {T : Tr AV} {H H' : Heap} {t : TypeId} {a x : Operand} {b off : Nat} {v : AV} (ha : opd T a = some (.ptr b off)) (hx : opd T x = some v) (hs : storeAt P H t b off v = some H') : evStore P T H t a x = some (.unit H') := by
  unfold evStore; rw [ha, hx]; dsimp only; rw [hs]; rfl

theorem sAc {H : Heap} {t : TypeId} {b off n : Nat} {v : AV} {ag : Bool} {cs l : List AV} {e : TypeId} (hs : shape P t = some (ag, n)) (hb : H.get b = some (.cells cs e)) (hn : Nat.beq v.cells.length n = true) (hat : atoms v.cells = true)
    (hl : spl cs off v.cells = some l) : storeAt P H t b off v = some (H.put b (.cells l e)) := by
  unfold shape at hs
  simp only [Option.map_eq_some_iff, Prod.mk.injEq] at hs
  obtain ⟨ti, h1, h2, h3⟩ := hs
  unfold storeAt
  rw [h1, hb]
  dsimp only
  rw [h3, hn, hat]
  dsimp only
  rw [hl]
  rfl

/-- Where an element of a slice lies. -/
def slAt (v : AV) (sz n : Nat) : Option (Nat × Nat) := match v with
  | .slice b off len _ => if n < len then some (b, off + n * sz) else none
  | .opn b len => if n < len then some (b, n * sz) else none
  | .tail b _ off len => if n < len then some (b, off + n * sz) else none
  | _ => none

theorem evIndexAddr_at {T : Tr AV} {H : Heap} {t : TypeId} {x i : Operand} {b off sz : Nat} {u : AV} {k : IntKind} {n : Nat} (hx : opd T x = some u) (hi : opd T i = some (.int k (n : Int))) (ht : elemSz P t = some sz) (ha : slAt u sz n = some (b, off)) :
    evIndexAddr P T H t x i = some (.val (.ptr b off) H) := by
  unfold elemSz at ht
  unfold evIndexAddr
  rw [hx, hi]
  split at ht
  · rename_i e; rw [e]
    simp only [Option.map_eq_some_iff] at ht
    obtain ⟨ei, h1, h2⟩ := ht
    cases u <;> simp only [slAt] at ha <;> try (cases ha; done)
    all_goals
      split at ha
      · rename_i hn
        cases ha
        have hb := Nat.blt_eq.mpr hn
        first
          | (show (match Nat.blt n _, mkTI P _ with
              | true, some ei => some (Out.val (.ptr _ (_ + n * ei.size)) H)
              | _, _ => none) = _
             rw [h1, hb]; simp only [h2])
          | (show (match Nat.blt n _, mkTI P _ with
              | true, some ei => some (Out.val (.ptr _ (n * ei.size)) H)
              | _, _ => none) = _
             rw [h1, hb]; simp only [h2])
      · cases ha
  · cases ht

theorem oM {ops : Array Oper} {d : Option Tmp} {t : TypeId} {ps : String} {e : Array Edge} {g : Option (Nat × Bool)} {l : List Oper} {T : Tr AV} {H : Heap} {K : Tr AV → Heap → Prop} {x : Operand} {v : AV} (hg : wantedA ops g T = some true) (hx : opd T x = some v) (h : OkO P rec ops l (putD T d v) H K) : OkO P rec ops (⟨d, .move x, t, ps, e, g⟩ :: l) T H K :=
  OkO.val hg (show evMove T H x = _ from evMove_of hx) h
theorem oA {ops : Array Oper} {d : Option Tmp} {t : TypeId} {ps : String} {e : Array Edge} {g : Option (Nat × Bool)} {l : List Oper} {T : Tr AV} {H : Heap} {K : Tr AV → Heap → Prop} {x : Operand} {v : AV} (hg : wantedA ops g T = some true) (hx : opd T x = some v) (h : OkO P rec ops l (putD T d v) H K) : OkO P rec ops (⟨d, .assign x, t, ps, e, g⟩ :: l) T H K :=
  OkO.val hg (show evMove T H x = _ from evMove_of hx) h
theorem OkO.pick {ops : Array Oper} {d : Option Tmp} {t : TypeId} {ps : String} {e : Array Edge} {g : Option (Nat × Bool)} {l : List Oper} {T : Tr AV} {H : Heap} {K : Tr AV → Heap → Prop} {c x y : Operand} {b : Bool} {v : AV} (hg : wantedA ops g T = some true) (hc : opd T c = some (.bool b)) (hx : b = true → opd T x = some v) (hy : b = false → opd T y = some v) (h : OkO P rec ops l (putD T d v) H K) : OkO P rec ops (⟨d, .pick c x y, t, ps, e, g⟩ :: l) T H K :=
  OkO.val hg (show evPick T H c x y = _ from evPick_of hc hx hy) h
theorem OkO.box {ops : Array Oper} {d : Option Tmp} {t : TypeId} {ps : String} {e : Array Edge} {g : Option (Nat × Bool)} {l : List Oper} {T : Tr AV} {H : Heap} {K : Tr AV → Heap → Prop} {x : Operand} {v : AV} {ty : TypeId} (hg : wantedA ops g T = some true) (hx : opd T x = some v) (h : OkO P rec ops l (putD T d (.ptr H.next 0)) (H.new (.cells v.cells ty)) K) : OkO P rec ops (⟨d, .box ty x, t, ps, e, g⟩ :: l) T H K :=
  OkO.val hg (show evBox T H ty x = _ from evBox_of hx) h
theorem OkO.alloc {ops : Array Oper} {d : Option Tmp} {t : TypeId} {ps : String} {e : Array Edge} {g : Option (Nat × Bool)} {l : List Oper} {T : Tr AV} {H : Heap} {K : Tr AV → Heap → Prop} {z : List AV} {ty : TypeId} (hg : wantedA ops g T = some true) (hz : zeroOf P ty = some z) (h : OkO P rec ops l (putD T d (.ptr H.next 0)) (H.new (.cells z ty)) K) : OkO P rec ops (⟨d, .alloc ty, t, ps, e, g⟩ :: l) T H K :=
  OkO.val hg (show evAlloc P H ty = _ from evAlloc_of hz) h
theorem oF {ops : Array Oper} {d : Option Tmp} {t : TypeId} {ps : String} {e : Array Edge} {g : Option (Nat × Bool)} {l : List Oper} {T : Tr AV} {H : Heap} {K : Tr AV → Heap → Prop} {x : Operand} {s : TypeId} {f o b off : Nat} (hg : wantedA ops g T = some true) (ho : fieldOff P s f = some o) (hx : opd T x = some (.ptr b off)) (h : OkO P rec ops l (putD T d (.ptr b (off + o))) H K) : OkO P rec ops (⟨d, .fieldAddr s x f, t, ps, e, g⟩ :: l) T H K :=
  OkO.val hg (show evFieldAddr P T H s x f = _ from evFieldAddr_of ho hx) h
theorem oL {ops : Array Oper} {d : Option Tmp} {t : TypeId} {ps : String} {e : Array Edge} {g : Option (Nat × Bool)} {l : List Oper} {T : Tr AV} {H : Heap} {K : Tr AV → Heap → Prop} {x : Operand} {ty : TypeId} {b off : Nat} {v : AV} (hg : wantedA ops g T = some true) (hx : opd T x = some (.ptr b off)) (hl : loadAt P H ty b off = some v) (h : OkO P rec ops l (putD T d v) H K) : OkO P rec ops (⟨d, .load ty x, t, ps, e, g⟩ :: l) T H K :=
  OkO.val hg (show evLoad P T H ty x = _ from evLoad_of hx hl) h
theorem oT {ops : Array Oper} {d : Option Tmp} {t : TypeId} {ps : String} {e : Array Edge} {g : Option (Nat × Bool)} {l : List Oper} {T : Tr AV} {H : Heap} {K : Tr AV → Heap → Prop} {x a : Operand} {ty : TypeId} {b off : Nat} {v : AV} {H' : Heap} (hg : wantedA ops g T = some true) (ha : opd T a = some (.ptr b off)) (hx : opd T x = some v) (hs : storeAt P H ty b off v = some H') (h : OkO P rec ops l (putD T d undefA) H' K) : OkO P rec ops (⟨d, .store ty a x, t, ps, e, g⟩ :: l) T H K :=
  OkO.unit hg (show evStore P T H ty a x = _ from evStore_at ha hx hs) h
theorem OkO.bin {ops : Array Oper} {d : Option Tmp} {t : TypeId} {ps : String} {e : Array Edge} {g : Option (Nat × Bool)} {l : List Oper} {T : Tr AV} {H : Heap} {K : Tr AV → Heap → Prop} {x y : Operand} {op : BinOp} {ty u : TypeId} {k k' : IntKind} {a b : Int} {v : AV} (hg : wantedA ops g T = some true) (hx : opd T x = some (.int k a)) (hy : opd T y = some (.int k' b)) (hv : bin op k a k' b = some v) (h : OkO P rec ops l (putD T d v) H K) : OkO P rec ops (⟨d, .binOp op ty x y u, t, ps, e, g⟩ :: l) T H K :=
  OkO.val hg (show evBin P T H op ty x y = _ from evBin_int hx hy hv) h
theorem OkO.un {ops : Array Oper} {d : Option Tmp} {t : TypeId} {ps : String} {e : Array Edge} {g : Option (Nat × Bool)} {l : List Oper} {T : Tr AV} {H : Heap} {K : Tr AV → Heap → Prop} {x : Operand} {op : UnOp} {ty : TypeId} {u v : AV} (hg : wantedA ops g T = some true) (hx : opd T x = some u) (hv : un op u = some v) (h : OkO P rec ops l (putD T d v) H K) : OkO P rec ops (⟨d, .unOp op ty x, t, ps, e, g⟩ :: l) T H K :=
  OkO.val hg (show evUn T H op x = _ from evUn_of hx hv) h
theorem oX {ops : Array Oper} {d : Option Tmp} {t : TypeId} {ps : String} {e : Array Edge} {g : Option (Nat × Bool)} {l : List Oper} {T : Tr AV} {H : Heap} {K : Tr AV → Heap → Prop} {x i : Operand} {ty : TypeId} {b off sz : Nat} {u : AV} {k : IntKind} {n : Nat} (hg : wantedA ops g T = some true) (hx : opd T x = some u) (hi : opd T i = some (.int k (n : Int))) (ht : elemSz P ty = some sz) (ha : slAt u sz n = some (b, off)) (h : OkO P rec ops l (putD T d (.ptr b off)) H K) : OkO P rec ops (⟨d, .indexAddr ty x i, t, ps, e, g⟩ :: l) T H K :=
  OkO.val hg (show evIndexAddr P T H ty x i = _ from evIndexAddr_at hx hi ht ha) h

theorem oB {ops : Array Oper} {d : Option Tmp} {t : TypeId} {ps : String} {e : Array Edge} {g : Option (Nat × Bool)} {l : List Oper} {T : Tr AV} {H H' : Heap} {K : Tr AV → Heap → Prop} {c : Call} {b : Builtin} {as : List AV} {v : AV}
    (hg : wantedA ops g T = some true) (hc : c.callee = .builtin b) (ha : opds T c.args.toList = some as) (hb : builtinF P H b c.argTypes.toList as = some (.val v H')) (h : OkO P rec ops l (putD T d v) H' K) :
    OkO P rec ops (⟨d, .call c, t, ps, e, g⟩ :: l) T H K :=
  OkO.val hg (show evCall P T H c = _ by unfold evCall; rw [ha]; dsimp only; rw [hc]; exact hb) h

theorem oV {ops : Array Oper} {d : Option Tmp} {t : TypeId} {ps : String} {e : Array Edge} {g : Option (Nat × Bool)} {l : List Oper} {T : Tr AV} {H H' : Heap} {K : Tr AV → Heap → Prop} {c : Call} {x : Operand} {fv : AV} {as args : List AV} {f : FuncId} {v : AV}
    (hg : wantedA ops g T = some true) (hc : c.callee = .value x) (hx : opd T x = some fv) (ha : opds T c.args.toList = some as) (hf : Go.Ev.callV fv as = some (.fn f args)) (hr : rec (.fn f args) H = some (v, H')) (h : OkO P rec ops l (putD T d v) H' K) :
    OkO P rec ops (⟨d, .call c, t, ps, e, g⟩ :: l) T H K :=
  OkO.call hg (show evCall P T H c = _ by unfold evCall; rw [ha]; dsimp only; rw [hc]; dsimp only; rw [hx]; exact hf) hr h

/-! ### Frames at a loop's head -/
def mkT : Nat → Nat → Nat → (Nat → Option AV) → Tr AV
  | 0, _, _, _ => .nil
  | d + 1, m, w, f => .node (f (Nat.pred (Nat.add m w))) (mkT d m (Nat.mul 2 w) f) (mkT d (Nat.add m w) (Nat.mul 2 w) f)

def upd (f : Nat → Option AV) : List (Nat × AV) → Nat → Option AV
  | [], k => f k
  | p :: ps, k => match Nat.beq p.1 k with
    | true => some p.2
    | false => upd f ps k

/-- The frame has these values, whatever else it has. -/
def Has (d : Nat) (kv : List (Nat × AV)) (T : Tr AV) : Prop := ∃ f, T = mkT d 0 1 (upd f kv)
theorem Has.of {d : Nat} {kv : List (Nat × AV)} {T : Tr AV} (h : T = mkT d 0 1 (upd (fun k => T.get k) kv)) : Has d kv T := ⟨_, h⟩

/-! ### Numbers -/
theorem wrapF_i64 {n : Int} (h1 : -9223372036854775808 ≤ n) (h2 : n < 9223372036854775808) : wrapF .i64 n = n := by
  rw [wrapF_eq]; exact IntWalk.i64_in _ ⟨h1, by omega⟩
theorem bin_add {a b : Int} (h1 : -9223372036854775808 ≤ a + b) (h2 : a + b < 9223372036854775808) : bin .add .i64 a .i64 b = some (.int .i64 (a + b)) := congrArg (fun n => some (AV.int .i64 n)) (wrapF_i64 h1 h2)
theorem bin_sub {a b : Int} (h1 : -9223372036854775808 ≤ a - b) (h2 : a - b < 9223372036854775808) : bin .sub .i64 a .i64 b = some (.int .i64 (a - b)) := congrArg (fun n => some (AV.int .i64 n)) (wrapF_i64 h1 h2)
theorem bin_mul {a b : Int} (h1 : -9223372036854775808 ≤ a * b) (h2 : a * b < 9223372036854775808) : bin .mul .i64 a .i64 b = some (.int .i64 (a * b)) := congrArg (fun n => some (AV.int .i64 n)) (wrapF_i64 h1 h2)
theorem bin_lss (a b : Int) : bin .lss .i64 a .i64 b = some (.bool (decide (a < b))) := by show some (AV.bool (ltI a b)) = _; rw [ltI_eq]
theorem bin_gtr (a b : Int) : bin .gtr .i64 a .i64 b = some (.bool (decide (b < a))) := by show some (AV.bool (ltI b a)) = _; rw [ltI_eq]
theorem bin_leq (a b : Int) : bin .leq .i64 a .i64 b = some (.bool (decide (a ≤ b))) := by
  show some (AV.bool (!(ltI b a))) = _; rw [ltI_eq]; congr 2; rw [Bool.eq_iff_iff]; simp
theorem bin_geq (a b : Int) : bin .geq .i64 a .i64 b = some (.bool (decide (b ≤ a))) := by
  show some (AV.bool (!(ltI a b))) = _; rw [ltI_eq]; congr 2; rw [Bool.eq_iff_iff]; simp
theorem bin_eql (a b : Int) : bin .eql .i64 a .i64 b = some (.bool (decide (a = b))) := by show some (AV.bool (eqI a b)) = _; rw [eqI_eq]; rfl
theorem bin_neq (a b : Int) : bin .neq .i64 a .i64 b = some (.bool (decide (a ≠ b))) := by
  show some (AV.bool (!(eqI a b))) = _; rw [eqI_eq]; congr 2; rw [Bool.eq_iff_iff]; simp

/-! ### A slice's rows -/
/-- A slice whose elements have these cells. -/
structure Row (H : Heap) (v : AV) (sz : Nat) (l : List (List AV)) : Prop where
  len : lenOf v = some l.length
  at_ : ∀ i x, l[i]? = some x → ∃ b off cs, slAt v sz i = some (b, off) ∧ (H.get b).bind AObj.cs = some cs ∧ seg cs off sz = some x ∧ b < H.next

theorem Row.grow {W G : Heap} {v : AV} {sz : Nat} {l : List (List AV)} (h : Row W v sz l) (g : Grow W G) : Row G v sz l :=
  ⟨h.len, fun i x k => let ⟨b, off, cs, h1, h2, h3, h4⟩ := h.at_ i x k; ⟨b, off, cs, h1, by rw [g.get b h4]; exact h2, h3, Nat.lt_of_lt_of_le h4 g.next⟩⟩

theorem lenF_slice {H : Heap} {t : TypeId} {v : AV} {n : Nat} (ht : isSlice P t = true) (hn : lenOf v = some n) : lenF P H t v = some n := by
  unfold isSlice at ht
  unfold lenF
  split at ht
  · rename_i e; rw [e]; exact hn
  · cases ht

theorem bln {H : Heap} {t : TypeId} {v : AV} {n : Nat} (ht : isSlice P t = true) (hn : lenOf v = some n) : builtinF P H .len [t] [v] = some (.val (.int .i64 (n : Int)) H) := by
  show (lenF P H t v).map _ = _
  rw [lenF_slice ht hn]; rfl

theorem lay_same : ∀ (T : Tr AV) (p : Pos) (v : AV), T.look p = some v → Tr.lay v T p = T := by
  intro T
  induction T with
  | nil => intro p v h; cases h
  | node u l r ihl ihr =>
    intro p v h
    cases p with
    | here => change u = some v at h; subst h; rfl
    | left p => show Tr.node u (Tr.lay v l p) r = _; rw [ihl p v h]
    | right p => show Tr.node u l (Tr.lay v r p) = _; rw [ihr p v h]

/-- A bool in the frame is true or false. -/
theorem OkO.split {ops : Array Oper} {l : List Oper} {T : Tr AV} {H : Heap} {K : Tr AV → Heap → Prop} {d : Tmp} {b : Bool} (hd : T.get d = some (.bool b)) (h1 : b = true → OkO P rec ops l (putD T (some d) (.bool true)) H K)
    (h2 : b = false → OkO P rec ops l (putD T (some d) (.bool false)) H K) : OkO P rec ops l T H K := by
  have e : putD T (some d) (.bool b) = T := lay_same T (pos d) _ hd
  cases b with
  | true => rw [← e]; exact h1 rfl
  | false => rw [← e]; exact h2 rfl

theorem Ok.condT {c : Operand} {x y : Code} {s : St} {Q : Ex → St → Prop} (hc : opd s.T c = some (.bool true)) (h : Ok P rec ro x s Q) : Ok P rec ro (.cond c x y) s Q := Ok.cond hc (fun _ => h) nofun
theorem Ok.condF {c : Operand} {x y : Code} {s : St} {Q : Ex → St → Prop} (hc : opd s.T c = some (.bool false)) (h : Ok P rec ro y s Q) : Ok P rec ro (.cond c x y) s Q := Ok.cond hc nofun (fun _ => h)

/-! ### Regions whose order is drawn -/
def mkPlan (ops : List Oper) : List (Nat × Bool × List Nat) → List Entry
  | [] => []
  | p :: ps => ⟨p.1, ops.getD p.1 default, p.2.1, p.2.2.map fun i => ops.getD i default⟩ :: mkPlan ops ps

def OkP (P : Program) (rec : Rec) (ops : Array Oper) (l : List Entry) (T : Tr AV) (H : Heap) (K : Tr AV → Heap → Prop) : Prop := ∃ T' H', evPlan P rec ops l T H = some (T', H') ∧ K T' H'

theorem OkP.nil {ops : Array Oper} {T : Tr AV} {H : Heap} {K : Tr AV → Heap → Prop} (h : K T H) : OkP P rec ops [] T H K := ⟨T, H, rfl, h⟩

theorem evStep_cut (P : Program) (rec : Rec) (ops : Array Oper) (o : Oper) (k : Tr AV → Heap → Option (Tr AV × Heap)) (T : Tr AV) (H : Heap) :
    evStep P rec ops o k T H = match evStep P rec ops o (fun T H => some (T, H)) T H with | some (T', H') => k T' H' | none => none := by
  obtain ⟨d, op, t, ps, e, g⟩ := o
  show @Option.rec Bool _ _ _ (wantedA ops g T) = match @Option.rec Bool (fun _ => Option (Tr AV × Heap)) _ _ (wantedA ops g T) with | some (T', H') => k T' H' | none => none
  cases wantedA ops g T with
  | none => rfl
  | some b =>
    cases b with
    | false => rfl
    | true =>
      show outOf rec T d k H (evOp P T H op) = match outOf rec T d (fun T H => some (T, H)) H (evOp P T H op) with | some (T', H') => k T' H' | none => none
      cases evOp P T H op with
      | none => rfl
      | some o =>
        cases o with
        | val v H1 => rfl
        | unit H1 => rfl
        | fn f as =>
          show retOf (rec (.fn f as) H) T d k = match retOf (rec (.fn f as) H) T d (fun T H => some (T, H)) with | some (T', H') => k T' H' | none => none
          cases rec (.fn f as) H with
          | none => rfl
          | some r => rfl
        | round l as =>
          show retOf (rec (.round l as) H) T d k = match retOf (rec (.round l as) H) T d (fun T H => some (T, H)) with | some (T', H') => k T' H' | none => none
          cases rec (.round l as) H with
          | none => rfl
          | some r => rfl

theorem pS {ops : Array Oper} {e : Entry} {es : List Entry} {T : Tr AV} {H : Heap} {K : Tr AV → Heap → Prop} (h : OkO P rec ops [e.o] T H fun T' H' => stills P ops T' H' e.check = true ∧ OkP P rec ops es T' H' K) : OkP P rec ops (e :: es) T H K := by
  obtain ⟨T1, H1, h1, h2, T2, H2, h3, h4⟩ := h
  refine ⟨T2, H2, ?_, h4⟩
  show evStep P rec ops e.o (fun T H => match stills P ops T H e.check with | true => evPlan P rec ops es T H | false => none) T H = _
  rw [evStep_cut]
  have : evStep P rec ops e.o (fun T H => some (T, H)) T H = some (T1, H1) := h1
  rw [this]
  dsimp only
  rw [h2]
  exact h3

theorem Ok.drawn {id : Nat} {ops : Array Oper} {T : Tr AV} {D : List Nat} {H : Heap} {Q : Ex → St → Prop} (order : List (Nat × Bool × List Nat)) (hp : planOf ops = some (mkPlan ops.toList order))
    (h : OkP P rec ops (mkPlan ops.toList order) T H fun T' H' => Q .norm ⟨T', D, H'⟩) : Ok P rec ro (.region id ops true) ⟨T, D, H⟩ Q := by
  obtain ⟨T', H', h1, h2⟩ := h
  refine Ok.plan ?_ h2
  show (match planOf ops with | some pl => evPlan P rec ops pl T H | none => none) = _
  rw [hp]
  exact h1

/-- What was split ahead of a step of a plan. -/
theorem OkP.split {ops : Array Oper} {l : List Entry} {T : Tr AV} {H : Heap} {K : Tr AV → Heap → Prop} {d : Tmp} {b : Bool} (hd : T.get d = some (.bool b)) (h1 : b = true → OkP P rec ops l (putD T (some d) (.bool true)) H K)
    (h2 : b = false → OkP P rec ops l (putD T (some d) (.bool false)) H K) : OkP P rec ops l T H K := by
  have e : putD T (some d) (.bool b) = T := lay_same T (pos d) _ hd
  cases b with
  | true => rw [← e]; exact h1 rfl
  | false => rw [← e]; exact h2 rfl


mutual
def AV.plain : AV → Bool
  | .iface _ _ => false
  | .raw v => match v with
    | .slice _ _ _ => true
    | _ => false
  | .fn _ a b => AV.plains a && AV.plains b
  | .agg cs | .tup cs => AV.plains cs
  | _ => true
def AV.plains : List AV → Bool
  | [] => true
  | v :: vs => AV.plain v && AV.plains vs
end
mutual
theorem eqr : ∀ v : AV, v.plain = true → AV.eqv v v = true
  | .int k n, _ => by simp [AV.eqv, eqI_eq]; cases k <;> rfl
  | .bool _, _ => by simp [AV.eqv]
  | .str s, _ => by rw [AV.eqv, beq_toListBytes]; exact beq_self_eq_true _
  | .ptr _ _, _ => by simp [AV.eqv]
  | .nilp, _ => rfl
  | .slice _ _ _ _, _ => by simp [AV.eqv]
  | .opn _ _, _ => by simp [AV.eqv]
  | .tail _ _ _ _, _ => by simp [AV.eqv]
  | .nils, _ => rfl
  | .map _, _ => by simp [AV.eqv]
  | .nilm, _ => rfl
  | .fn _ a b, h => by
    simp only [AV.plain, Bool.and_eq_true] at h
    simp [AV.eqv, eqvs_refl a h.1, eqvs_refl b h.2]
  | .yield _, _ => by simp [AV.eqv]
  | .nilf, _ => rfl
  | .nili, _ => rfl
  | .agg cs, h => by simp only [AV.plain] at h; simp [AV.eqv, eqvs_refl cs h]
  | .tup cs, h => by simp only [AV.plain] at h; simp [AV.eqv, eqvs_refl cs h]
  | .iface _ _, h => by simp [AV.plain] at h
  | .raw v, h => by
    cases v <;> simp [AV.plain] at h
    simp [AV.eqv, rawEq]
theorem eqvs_refl : ∀ l : List AV, AV.plains l = true → AV.eqvs l l = true
  | [], _ => rfl
  | v :: vs, h => by
    simp only [AV.plains, Bool.and_eq_true] at h
    simp [AV.eqvs, eqr v h.1, eqvs_refl vs h.2]
end

theorem lpl {v : AV} {n : Nat} (h : lenOf v = some n) : v.plain = true := by
  cases v with
  | raw u => cases u <;> simp [lenOf] at h; rfl
  | _ => first | rfl | simp [lenOf] at h

theorem sld {ops : Array Oper} {d : Tmp} {x : Operand} {ty t : TypeId} {ps : String} {e : Array Edge} {g : Option (Nat × Bool)} {T : Tr AV} {H : Heap} {b off : Nat} {v : AV} (hg : wantedA ops g T = some true) (hx : opd T x = some (.ptr b off)) (hl : loadAt P H ty b off = some v) (hd : T.get d = some v)
    (he : AV.eqv v v = true) : still P ops T H ⟨some d, .load ty x, t, ps, e, g⟩ = true := by
  unfold still
  dsimp only
  rw [hg]
  dsimp only
  rw [show evOp P T H (.load ty x) = some (.val v H) from evLoad_of hx hl]
  dsimp only
  rw [hd]
  exact he

theorem ssk {ops : Array Oper} {d : Option Tmp} {op : Op} {t : TypeId} {ps : String} {e : Array Edge} {g : Option (Nat × Bool)} {T : Tr AV} {H : Heap} (hg : wantedA ops g T = some false) : still P ops T H ⟨d, op, t, ps, e, g⟩ = true := by
  unfold still
  dsimp only
  rw [hg]

theorem svl {ops : Array Oper} {d : Tmp} {op : Op} {t : TypeId} {ps : String} {e : Array Edge} {g : Option (Nat × Bool)} {T : Tr AV} {H H' : Heap} {v : AV} (hg : wantedA ops g T = some true) (ho : evOp P T H op = some (.val v H')) (hd : T.get d = some v) (he : AV.eqv v v = true) :
    still P ops T H ⟨some d, op, t, ps, e, g⟩ = true := by
  unfold still
  dsimp only
  rw [hg]
  dsimp only
  rw [ho]
  dsimp only
  rw [hd]
  exact he

theorem ecb {T : Tr AV} {H H' : Heap} {c : Call} {b : Builtin} {as : List AV} {v : AV} (hc : c.callee = .builtin b) (ha : opds T c.args.toList = some as) (hb : builtinF P H b c.argTypes.toList as = some (.val v H')) : evOp P T H (.call c) = some (.val v H') := by
  show evCall P T H c = _
  unfold evCall; rw [ha]; dsimp only; rw [hc]; exact hb

theorem sco {ops : Array Oper} {o : Oper} {os : List Oper} {T : Tr AV} {H : Heap} (h1 : still P ops T H o = true) (h2 : stills P ops T H os = true) : stills P ops T H (o :: os) = true := by
  show (match still P ops T H o with | true => stills P ops T H os | false => false) = true
  rw [h1]; exact h2

theorem evMakeFunc_of {T : Tr AV} {H : Heap} {f : FuncId} {first cap : Array Operand} {a b : List AV} (ha : opds T first.toList = some a) (hb : opds T cap.toList = some b) : evMakeFunc T H (.func f) first cap = some (.val (.fn f a b) H) := by
  unfold evMakeFunc; rw [ha, hb]

theorem evExtract_of {T : Tr AV} {H : Heap} {x : Operand} {i : Nat} {vs : List AV} {v : AV} (hx : opd T x = some (.tup vs)) (hv : vs[i]? = some v) : evExtract T H x i = some (.val v H) := by
  unfold evExtract; rw [hx]; dsimp only; rw [hv]; rfl

/-- How a field lies in a struct by value. -/
def fieldSel (P : Program) (t : TypeId) (f : Nat) : Option (Bool × Nat × Nat) := match mkTI P t with
  | some { d := .struct fs, .. } => match fs[f]? with
    | some fd => (mkTI P fd.type).map fun fi => (fi.agg, fd.offset, fi.size)
    | none => none
  | _ => none

theorem evField_of {T : Tr AV} {H : Heap} {t : TypeId} {x : Operand} {f o n : Nat} {ag : Bool} {cs : List AV} {v : AV} (hs : fieldSel P t f = some (ag, o, n)) (hx : opd T x = some (.agg cs)) (hv : (match ag with | true => (seg cs o n).map .agg | false => cs[o]?) = some v) :
    evField P T H t x f = some (.val v H) := by
  unfold fieldSel at hs
  unfold evField
  rw [hx]
  split at hs
  · rename_i e; rw [e]
    dsimp only
    split at hs
    · rename_i e; rw [e]
      simp only [Option.map_eq_some_iff, Prod.mk.injEq] at hs
      obtain ⟨fi, h1, h2, h3, h4⟩ := hs
      dsimp only
      rw [h1]
      dsimp only
      rw [h2, h3, h4]
      cases ag with
      | true =>
        dsimp only at hv ⊢
        simp only [Option.map_eq_some_iff] at hv
        obtain ⟨l, hl, rfl⟩ := hv
        rw [hl]; rfl
      | false => dsimp only at hv ⊢; rw [hv]; rfl
    · cases hs
  · cases hs

/-- How a struct or an array is built: its zero cells, and where its parts lie. -/
def buildOf (P : Program) (t : TypeId) : Option (List AV × (List (Nat × Nat) ⊕ Nat)) := match mkTI P t with
  | some ti => match ti.zero, ti.d with
    | some z, .struct fs => (placesOf P fs).map fun pl => (z, .inl pl)
    | some z, .array _ e => (mkTI P e).map fun ei => (z, .inr ei.size)
    | _, _ => none
  | none => none

theorem evBuild_of {T : Tr AV} {H : Heap} {t : TypeId} {ps : Array (Nat × Operand)} {z : List AV} {pl : List (Nat × Nat)} {vs : List (Nat × AV)} {cs : List AV} (hb : buildOf P t = some (z, .inl pl)) (hp : parts T ps.toList = some vs) (hc : fillS (fun i => pl[i]?) z vs = some cs) :
    evBuild P T H t ps = some (.val (.agg cs) H) := by
  unfold buildOf at hb
  unfold evBuild
  rw [hp]
  split at hb
  · rename_i e; rw [e]
    dsimp only
    split at hb
    · rename_i e1 e2; rw [e1, e2]
      simp only [Option.map_eq_some_iff, Prod.mk.injEq, Sum.inl.injEq] at hb
      obtain ⟨pl', h1, rfl, rfl⟩ := hb
      dsimp only
      rw [h1]
      dsimp only
      rw [hc]; rfl
    · simp at hb
    · cases hb
  · cases hb

theorem OkO.makeFunc {ops : Array Oper} {d : Option Tmp} {t : TypeId} {ps : String} {e : Array Edge} {g : Option (Nat × Bool)} {l : List Oper} {T : Tr AV} {H : Heap} {K : Tr AV → Heap → Prop} {f : FuncId} {first cap : Array Operand} {a b : List AV} (hg : wantedA ops g T = some true) (ha : opds T first.toList = some a) (hb : opds T cap.toList = some b) (h : OkO P rec ops l (putD T d (.fn f a b)) H K) : OkO P rec ops (⟨d, .makeFunc (.func f) first cap, t, ps, e, g⟩ :: l) T H K :=
  OkO.val hg (show evMakeFunc T H (.func f) first cap = _ from evMakeFunc_of ha hb) h
theorem OkO.extract {ops : Array Oper} {d : Option Tmp} {t : TypeId} {ps : String} {e : Array Edge} {g : Option (Nat × Bool)} {l : List Oper} {T : Tr AV} {H : Heap} {K : Tr AV → Heap → Prop} {x : Operand} {i : Nat} {vs : List AV} {v : AV} (hg : wantedA ops g T = some true) (hx : opd T x = some (.tup vs)) (hv : vs[i]? = some v) (h : OkO P rec ops l (putD T d v) H K) : OkO P rec ops (⟨d, .extract x i, t, ps, e, g⟩ :: l) T H K :=
  OkO.val hg (show evExtract T H x i = _ from evExtract_of hx hv) h
theorem OkO.field {ops : Array Oper} {d : Option Tmp} {t : TypeId} {ps : String} {e : Array Edge} {g : Option (Nat × Bool)} {l : List Oper} {T : Tr AV} {H : Heap} {K : Tr AV → Heap → Prop} {ty : TypeId} {x : Operand} {f o n : Nat} {ag : Bool} {cs : List AV} {v : AV} (hg : wantedA ops g T = some true) (hs : fieldSel P ty f = some (ag, o, n)) (hx : opd T x = some (.agg cs)) (hv : (match ag with | true => (seg cs o n).map .agg | false => cs[o]?) = some v) (h : OkO P rec ops l (putD T d v) H K) : OkO P rec ops (⟨d, .field ty x f, t, ps, e, g⟩ :: l) T H K :=
  OkO.val hg (show evField P T H ty x f = _ from evField_of hs hx hv) h
theorem OkO.build {ops : Array Oper} {d : Option Tmp} {t : TypeId} {ps : String} {e : Array Edge} {g : Option (Nat × Bool)} {l : List Oper} {T : Tr AV} {H : Heap} {K : Tr AV → Heap → Prop} {ty : TypeId} {pa : Array (Nat × Operand)} {z : List AV} {pl : List (Nat × Nat)} {vs : List (Nat × AV)} {cs : List AV} (hg : wantedA ops g T = some true) (hb : buildOf P ty = some (z, .inl pl)) (hp : parts T pa.toList = some vs) (hc : fillS (fun i => pl[i]?) z vs = some cs) (h : OkO P rec ops l (putD T d (.agg cs)) H K) : OkO P rec ops (⟨d, .build ty pa, t, ps, e, g⟩ :: l) T H K :=
  OkO.val hg (show evBuild P T H ty pa = _ from evBuild_of hb hp hc) h
theorem OkO.binT {ops : Array Oper} {d : Option Tmp} {t : TypeId} {ps : String} {e : Array Edge} {g : Option (Nat × Bool)} {l : List Oper} {T : Tr AV} {H : Heap} {K : Tr AV → Heap → Prop} {x y : Operand} {op : BinOp} {ty u : TypeId} {a b v : AV} (hg : wantedA ops g T = some true) (hx : opd T x = some a) (hy : opd T y = some b) (hv : binT P op ty a b = some v) (h : OkO P rec ops l (putD T d v) H K) : OkO P rec ops (⟨d, .binOp op ty x y u, t, ps, e, g⟩ :: l) T H K :=
  OkO.val hg (show evBin P T H op ty x y = _ by unfold evBin; rw [hx, hy]; dsimp only; rw [hv]; rfl) h

/-- What was there is there. -/
structure Ext (H G : Heap) : Prop where
  next : H.next ≤ G.next
  get : ∀ n, n < H.next → G.get n = H.get n

theorem wOf (H : Heap) : ∃ W : Heap, W = ⟨H.t, H.next, H.next⟩ ∧ (∀ n, W.get n = H.get n) ∧ W.next = H.next ∧ (∀ G, Grow W G → Ext H G) ∧ Grow W W :=
  ⟨⟨H.t, H.next, H.next⟩, rfl, fun _ => rfl, rfl, fun _ g => ⟨g.next, fun n k => g.get n k⟩, Grow.refl (Nat.le_refl _)⟩
theorem Ext.refl (H : Heap) : Ext H H := ⟨Nat.le_refl _, fun _ _ => rfl⟩
theorem Ext.trans {A B C : Heap} (h : Ext A B) (k : Ext B C) : Ext A C := ⟨Nat.le_trans h.next k.next, fun n q => (k.get n (Nat.lt_of_lt_of_le q h.next)).trans (h.get n q)⟩
theorem Grow.ext {W G : Heap} (h : Grow W G) : Ext W G := ⟨h.next, h.get⟩
theorem Row.ext {W G : Heap} {v : AV} {sz : Nat} {l : List (List AV)} (h : Row W v sz l) (g : Ext W G) : Row G v sz l :=
  ⟨h.len, fun i x k => let ⟨b, off, cs, h1, h2, h3, h4⟩ := h.at_ i x k; ⟨b, off, cs, h1, by rw [g.get b h4]; exact h2, h3, Nat.lt_of_lt_of_le h4 g.next⟩⟩

theorem seg_get {cs l : List AV} {off n : Nat} (h : seg cs off n = some l) (i : Nat) (hi : i < n) : cs[off + i]? = l[i]? := by
  rcases seg_spec h with ⟨rfl, hle⟩ | ⟨rfl, _⟩
  · rw [List.getElem?_take, if_pos hi, List.getElem?_drop]
  · omega
theorem seg_one {cs : List AV} {off : Nat} {x : AV} (h : seg cs off 1 = some [x]) : cs[off]? = some x := by simpa using seg_get h 0 (by omega)

theorem bin_quo {a b : Int} (h0 : 0 ≤ a) (h1 : a < 9223372036854775808) (hb : 0 < b) : bin .quo .i64 a .i64 b = some (.int .i64 (a / b)) := by
  show (if eqI b 0 then none else some (AV.int .i64 (wrapF .i64 (a.tdiv b)))) = _
  rw [eqI_eq, if_neg (by simp; omega), Int.tdiv_eq_ediv_of_nonneg h0]
  have h2 : 0 ≤ a / b := Int.ediv_nonneg h0 (by omega)
  have h3 : a / b ≤ a := Int.ediv_le_self _ h0
  rw [wrapF_i64 (by omega) (by omega)]

theorem bin_rem {a b : Int} (h0 : 0 ≤ a) (hb : 0 < b) : bin .rem .i64 a .i64 b = some (.int .i64 (a % b)) := by
  show (if eqI b 0 then none else some (AV.int .i64 (a.tmod b))) = _
  rw [eqI_eq, if_neg (by simp; omega), Int.tmod_eq_emod_of_nonneg h0]

theorem builtin_max2 {H : Heap} {tys : List TypeId} (a b : Int) : builtinF P H .max tys [.int .i64 a, .int .i64 b] = some (.val (.int .i64 (max a b)) H) := by
  simp only [builtinF, minmax, ltI_eq, Option.map_some, if_true, Bool.false_eq_true, if_false, decide_eq_true_eq]
  congr 3
  rw [Int.max_def]; split <;> split <;> omega

theorem builtin_min2 {H : Heap} {tys : List TypeId} (a b : Int) : builtinF P H .min tys [.int .i64 a, .int .i64 b] = some (.val (.int .i64 (min a b)) H) := by
  simp only [builtinF, minmax, ltI_eq, Option.map_some, if_true, Bool.false_eq_true, if_false, decide_eq_true_eq]
  congr 3
  rw [Int.min_def]; split <;> split <;> omega

/-! ### Slices that grow -/
/-- Of a slice's type: the element's type, cells and bytes. -/
def elemTI (P : Program) (t : TypeId) : Option (TypeId × Nat × Nat) := match mkTI P t with
  | some { d := .slice e, .. } => match mkTI P e with
    | some ei => match ei.zero.map List.length with
      | some zl => match Nat.beq zl ei.size with
        | true => some (e, ei.size, ei.bytes)
        | false => none
      | none => none
    | none => none
  | _ => none

theorem append_go {H : Heap} {t e : TypeId} {sz by_ m n : Nat} {s x : AV} {new : List AV} (ht : elemTI P t = some (e, sz, by_)) (hx : elems H x sz = some new) (hn : lenOf x = some n) (hm : lenOf s = some m)
    (hb : (m + n) * (by_ + 1) ≤ 4294967296) (hz : 0 < sz) (ha : atoms new = true) : append P H t s x = append.appendGo H e sz s new n := by
  unfold elemTI at ht
  unfold append
  split at ht
  · rename_i e1; rw [e1]
    dsimp only
    split at ht
    · rename_i e2; rw [e2]
      split at ht
      · rename_i zl e3
        split at ht
        · rename_i e4
          simp only [Option.some.injEq, Prod.mk.injEq] at ht
          obtain ⟨rfl, rfl, rfl⟩ := ht
          dsimp only
          rw [hx, hn, hm]
          dsimp only
          rw [Nat.ble_eq_true_of_le hb, show Nat.blt 0 _ = true from Nat.blt_eq.mpr hz, e3, ha]
          dsimp only
          rw [e4]
        · cases ht
      · cases ht
    · cases ht
  · cases ht

/-- A slice that the call made (from a name on), and that holds these cells. -/
def Mine (k0 : Nat) (G : Heap) (v : AV) (e : TypeId) (sz : Nat) (cs : List AV) : Prop :=
  (v = .nils ∧ cs = []) ∨ ∃ b n, v = .opn b n ∧ G.get b = some (.opn cs e sz) ∧ cs.length = n * sz ∧ k0 ≤ b ∧ b < G.next

theorem Mine.nil (k0 : Nat) (G : Heap) (e : TypeId) (sz : Nat) : Mine k0 G .nils e sz [] := .inl ⟨rfl, rfl⟩

theorem Mine.len {k0 : Nat} {G : Heap} {v : AV} {e : TypeId} {sz : Nat} {cs : List AV} (h : Mine k0 G v e sz cs) : ∃ m, lenOf v = some m ∧ cs.length = m * sz := by
  rcases h with ⟨rfl, rfl⟩ | ⟨b, n, rfl, _, h, _⟩
  · exact ⟨0, rfl, by simp⟩
  · exact ⟨n, rfl, h⟩

theorem Mine.to {k0 : Nat} {G G' : Heap} {v : AV} {e : TypeId} {sz : Nat} {cs : List AV} (h : Mine k0 G v e sz cs) (g : Ext G G') : Mine k0 G' v e sz cs := by
  rcases h with h | ⟨b, n, h1, h2, h3, h4, h5⟩
  · exact .inl h
  · exact .inr ⟨b, n, h1, by rw [g.get b h5]; exact h2, h3, h4, Nat.lt_of_lt_of_le h5 g.next⟩

/-- What was there below a name is there, and the heap has grown. -/
structure Kept (k0 : Nat) (G G' : Heap) : Prop where
  next : G.next ≤ G'.next
  get : ∀ j, j < k0 → j < G.next → G'.get j = G.get j

theorem Mine.app2 {W G : Heap} {k0 : Nat} {t u e : TypeId} {sz by_ n : Nat} {v x : AV} {cs new : List AV} (h : Mine k0 G v e sz cs) (hg : Grow W G) (hk : W.next ≤ k0) (hk2 : k0 ≤ G.next) (hu : isSlice P u = true) (ht : elemTI P t = some (e, sz, by_))
    (hx : elems G x sz = some new) (hn : lenOf x = some n) (hl : new.length = n * sz) (hb : (cs.length + n) * (by_ + 1) ≤ 4294967296) (hz : 0 < sz) (h0 : 0 < n) (ha : atoms new = true) :
    ∃ v' G', builtinF P G .append [t, u] [v, x] = some (.val v' G') ∧ Mine k0 G' v' e sz (cs ++ new) ∧ Grow W G' ∧ Kept k0 G G' ∧ (∀ j, j < G.next → (∀ m, v ≠ .opn j m) → G'.get j = G.get j) ∧ G'.next = G.next + 1 ∧ ∃ m, v' = .opn G.next m := by
  obtain ⟨m, hm, hml⟩ := h.len
  have hb' : (m + n) * (by_ + 1) ≤ 4294967296 := by
    have h1 : m ≤ cs.length := by rw [hml]; exact Nat.le_mul_of_pos_right m hz
    exact Nat.le_trans (Nat.mul_le_mul_right _ (by omega)) hb
  have e1 : builtinF P G .append [t, u] [v, x] = (append P G t v x).map fun (v, H) => .val v H := by
    show (appendT P G t u v x).map _ = _
    unfold appendT
    unfold isSlice at hu
    split at hu
    · rename_i e; rw [e]
    · cases hu
  rw [e1, append_go ht hx hn hm hb' hz ha]
  obtain ⟨n', rfl⟩ : ∃ n', n = n' + 1 := ⟨n - 1, by omega⟩
  rcases h with ⟨rfl, rfl⟩ | ⟨b, k, rfl, hg1, hl1, hb1, hb2⟩
  · exact ⟨_, _, rfl, .inr ⟨G.next, n' + 1, rfl, gn0 _ _, by simpa using hl, hk2, by simp⟩, hg.new _, ⟨by simp, fun j _ hj => gno _ _ _ (by omega)⟩, fun j hj _ => gno _ _ _ (by omega), by simp, _, rfl⟩
  · refine ⟨.opn G.next (k + (n' + 1)), (G.put b .dead).new (.opn (cs ++ new) e sz), ?_, .inr ⟨G.next, k + (n' + 1), rfl, ?_, ?_, hk2, by simp⟩, (hg.put _ (Nat.le_trans hk hb1)).new _, ⟨by simp, fun q h1 h2 => ?_⟩, fun j hj hne => ?_, by simp, _, rfl⟩
    · unfold append.appendGo
      dsimp only
      rw [hg1]
      dsimp only
      rw [show Nat.beq sz sz = true from by simp, show Nat.beq e e = true from by simp, show Nat.beq cs.length (k * sz) = true from by simp [hl1]]
      rfl
    · exact gn0 (G.put b .dead) _
    · simp [hl1, hl, Nat.add_mul]
    · rw [gno _ _ _ (by simp; omega), gpo _ _ _ _ (by omega)]
    · rw [gno _ _ _ (by simp; omega), gpo _ _ _ _ (fun e => hne k (by rw [e]))]

theorem Mine.app {W G : Heap} {k0 : Nat} {t u e : TypeId} {sz by_ n : Nat} {v x : AV} {cs new : List AV} (h : Mine k0 G v e sz cs) (hg : Grow W G) (hk : W.next ≤ k0) (hk2 : k0 ≤ G.next) (hu : isSlice P u = true) (ht : elemTI P t = some (e, sz, by_))
    (hx : elems G x sz = some new) (hn : lenOf x = some n) (hl : new.length = n * sz) (hb : (cs.length + n) * (by_ + 1) ≤ 4294967296) (hz : 0 < sz) (h0 : 0 < n) (ha : atoms new = true) :
    ∃ v' G', builtinF P G .append [t, u] [v, x] = some (.val v' G') ∧ Mine k0 G' v' e sz (cs ++ new) ∧ Grow W G' ∧ Kept k0 G G' := by
  obtain ⟨v', G', h1, h2, h3, h4, _⟩ := h.app2 hg hk hk2 hu ht hx hn hl hb hz h0 ha
  exact ⟨v', G', h1, h2, h3, h4⟩

/-- Its elements can be read. -/
theorem Mine.row {k0 : Nat} {G : Heap} {v : AV} {e : TypeId} {sz : Nat} {l : List (List AV)} (h : Mine k0 G v e sz l.flatten) (hs : ∀ x ∈ l, x.length = sz) (hz : 0 < sz) : Row G v sz l := by
  have hfl : l.flatten.length = l.length * sz := by
    clear h
    induction l with
    | nil => simp
    | cons x l ih => rw [List.flatten_cons, List.length_append, ih (fun y hy => hs y (by simp [hy])), hs x (by simp), List.length_cons, Nat.add_mul]; omega
  have hseg : ∀ i x, l[i]? = some x → seg l.flatten (i * sz) sz = some x := by
    clear h hfl
    induction l with
    | nil => intro i x k; simp at k
    | cons y l ih =>
      intro i x k
      cases i with
      | zero =>
        simp only [List.getElem?_cons_zero, Option.some.injEq] at k
        subst k
        have hy := hs y (by simp)
        unfold seg
        simp only [List.flatten_cons, Nat.zero_mul, List.drop_zero]
        rw [List.take_append_of_le_length (by omega), List.take_of_length_le (by omega)]
        rw [show Nat.beq y.length sz = true from by simp [hy]]
      | succ i =>
        have hy := hs y (by simp)
        have := ih (fun z hz => hs z (by simp [hz])) i x (by simpa using k)
        unfold seg at this ⊢
        rw [List.flatten_cons, show (i + 1) * sz = y.length + i * sz from by rw [hy, Nat.add_mul]; omega]
        rw [show (y ++ l.flatten).drop (y.length + i * sz) = l.flatten.drop (i * sz) from by rw [List.drop_append, List.drop_of_length_le (by omega)]; simp]
        exact this
  rcases h with ⟨rfl, h⟩ | ⟨b, n, rfl, h1, h2, _, h4⟩
  · rw [h] at hfl
    have : l.length = 0 := by
      rcases Nat.eq_zero_or_pos l.length with h | h
      · exact h
      · have := Nat.mul_pos h hz; simp at hfl; omega
    obtain rfl := List.eq_nil_of_length_eq_zero this
    exact ⟨rfl, fun i x k => by simp at k⟩
  · have hn : n = l.length := Nat.eq_of_mul_eq_mul_right hz (by omega)
    subst hn
    refine ⟨rfl, fun i x k => ⟨b, i * sz, l.flatten, ?_, by rw [h1]; rfl, hseg i x k, h4⟩⟩
    have := (List.getElem?_eq_some_iff.1 k).1
    simp [slAt, this]

/-- Of a slice's type: the element's type, its cells and their zeros. -/
def buildSl (P : Program) (t : TypeId) : Option (TypeId × Nat × List AV) := match mkTI P t with
  | some { d := .slice e, .. } => match mkTI P e with
    | some { size := sz, zero := some z, .. } => match Nat.beq z.length sz with
      | true => some (e, sz, z)
      | false => none
    | _ => none
  | _ => none

theorem evBuildSlice_of {T : Tr AV} {H : Heap} {t e : TypeId} {len sz : Nat} {ps : Array (Nat × Operand)} {z : List AV} {vs : List (Nat × AV)} {cs : List AV} (ht : buildSl P t = some (e, sz, z)) (hl : len * sz ≤ 16777216) (hp : parts T ps.toList = some vs)
    (hc : fillS (fun i => some (i * sz, sz)) (rep z len) vs = some cs) : evBuildSlice P T H t len ps = some (.val (.slice H.next 0 len len) (H.new (.cells cs e))) := by
  unfold buildSl at ht
  unfold evBuildSlice
  rw [hp]
  split at ht
  · rename_i e1; rw [e1]
    dsimp only
    split at ht
    · rename_i e2; rw [e2]
      dsimp only
      split at ht
      · rename_i e3
        simp only [Option.some.injEq, Prod.mk.injEq] at ht
        obtain ⟨rfl, rfl, rfl⟩ := ht
        rw [Nat.ble_eq_true_of_le hl, e3]
        dsimp only
        rw [hc]; rfl
      · cases ht
    · cases ht
  · cases ht
theorem OkO.buildSlice {ops : Array Oper} {d : Option Tmp} {t : TypeId} {ps : String} {e : Array Edge} {g : Option (Nat × Bool)} {l : List Oper} {T : Tr AV} {H : Heap} {K : Tr AV → Heap → Prop} {ty el : TypeId} {len sz : Nat} {pa : Array (Nat × Operand)} {z : List AV} {vs : List (Nat × AV)} {cs : List AV} (hg : wantedA ops g T = some true) (ht : buildSl P ty = some (el, sz, z)) (hl : len * sz ≤ 16777216) (hp : parts T pa.toList = some vs) (hc : fillS (fun i => some (i * sz, sz)) (rep z len) vs = some cs) (h : OkO P rec ops l (putD T d (.slice H.next 0 len len)) (H.new (.cells cs el)) K) : OkO P rec ops (⟨d, .buildSlice ty len pa, t, ps, e, g⟩ :: l) T H K :=
  OkO.val hg (show evBuildSlice P T H ty len pa = _ from evBuildSlice_of ht hl hp hc) h

theorem resV_nil {T : Tr AV} {G : Heap} : resV P T G [] = some [] := rfl
theorem resV_tmp {T : Tr AV} {G : Heap} {t : Tmp} {v : AV} {vs : List AV} {rs : List ResultVar} (h : T.get t = some v) (k : resV P T G rs = some vs) : resV P T G (.tmp t :: rs) = some (v :: vs) := by
  unfold resV; rw [h, k]
theorem resV_cell {T : Tr AV} {G : Heap} {a : Tmp} {t : TypeId} {b off : Nat} {v : AV} {vs : List AV} {rs : List ResultVar} (h : T.get a = some (.ptr b off)) (hl : loadAt P G t b off = some v) (k : resV P T G rs = some vs) :
    resV P T G (.cell a t :: rs) = some (v :: vs) := by
  unfold resV; rw [h]; dsimp only; rw [hl, k]

/-- A call came back: what was there is there, and was not written. -/
structure Ret (H G : Heap) : Prop where
  ext : Ext H G
  lo : ∀ k, k ≤ H.lo → k ≤ H.next → k ≤ G.lo

theorem Ret.refl (H : Heap) : Ret H H := ⟨Ext.refl H, fun _ h _ => h⟩
theorem Grow.ret {W G G' : Heap} (h : Grow W G) (k : Ret G G') : Grow W G' :=
  ⟨Nat.le_trans h.next k.ext.next, fun n hn => (k.ext.get n (Nat.lt_of_lt_of_le hn h.next)).trans (h.get n hn), k.lo _ h.lo h.next⟩

theorem back_new {fn : Func} {H : Heap} {T : Tr AV} {G : Heap} {vs : List AV} {v : AV} (hr : resV P T G fn.results.toList = some vs) (hv : resOf vs = v) (hg : Grow ⟨H.t, H.next, H.next⟩ G) :
    ∃ H', evBack P fn H ⟨T, [], G⟩ = some (v, H') ∧ Ret H H' ∧ (v.flat = true → H' = H ∨ ((∀ n, H'.get n = G.get n) ∧ H'.next = G.next)) ∧ (v.flat = false → (∀ n, H'.get n = G.get n) ∧ H'.next = G.next) := by
  have e : evBack P fn H ⟨T, [], G⟩ = some (leave H v G) := by
    unfold evBack
    show (match some G with | some H' => (match resV P T H' fn.results.toList with | some vs => some (leave H (resOf vs) H') | none => none) | none => none) = _
    dsimp only
    rw [hr]
    dsimp only
    rw [hv]
  have hx : Ext H G := ⟨hg.next, fun n k => hg.get n k⟩
  have hlo : H.next ≤ G.lo := hg.lo
  unfold leave at e
  cases hf : v.flat with
  | true =>
    rw [hf, Nat.ble_eq_true_of_le hlo] at e
    exact ⟨H, e, Ret.refl H, fun _ => .inl rfl, nofun⟩
  | false =>
    rw [hf, Nat.ble_eq_true_of_le hlo] at e
    refine ⟨_, e, ⟨⟨hx.next, fun n k => hx.get n k⟩, fun k h1 h2 => ?_⟩, nofun, fun _ => ⟨fun _ => rfl, rfl⟩⟩
    show k ≤ @Bool.rec (fun _ => Nat) G.lo H.lo (Nat.ble H.lo G.lo)
    cases Nat.ble H.lo G.lo with
    | true => exact h1
    | false => show k ≤ G.lo; omega

theorem Row.same {G G' : Heap} {v : AV} {sz : Nat} {l : List (List AV)} (h : Row G v sz l) (hg : ∀ n, G'.get n = G.get n) (hn : G'.next = G.next) : Row G' v sz l :=
  ⟨h.len, fun i x k => let ⟨b, off, cs, h1, h2, h3, h4⟩ := h.at_ i x k; ⟨b, off, cs, h1, by rw [hg]; exact h2, h3, by rw [hn]; exact h4⟩⟩

theorem Row.nil (H : Heap) (sz : Nat) : Row H .nils sz [] := ⟨rfl, fun i x k => by simp at k⟩

/-- A call by its body, with what is known of what it leaves. -/
theorem fn_okE {rec : Rec} {f : FuncId} {fn : Func} {c : Code} {args : List AV} {H : Heap} {S : AV → Heap → Prop} (hf : P.funcs[f]? = some fn) (hc : fn.body = some c) (hn : (fn.name == "runtime.NumGoroutine") = false) (hk : frameOk fn = true)
    (hl : Nat.ble args.length fn.ntmps = true) (h : Ok P rec none c ⟨setArgs (blank fn.ntmps) 0 args, [], ⟨H.t, H.next, H.next⟩⟩ fun x s => (x = .norm ∨ x = .ret) ∧ ∃ v H', evBack P fn H s = some (v, H') ∧ S v H') :
    ∃ v H', evFn P rec f args H = some (v, H') ∧ S v H' := by
  obtain ⟨x, s, h1, hx, v, H', h2, h3⟩ := h
  refine ⟨v, H', ?_, h3⟩
  exact fn_ok hf hc hn hk hl ⟨x, s, h1, hx, h2⟩

theorem oE {ops : Array Oper} {d : Option Tmp} {t : TypeId} {ps : String} {e : Array Edge} {g : Option (Nat × Bool)} {l : List Oper} {T : Tr AV} {H : Heap} {K : Tr AV → Heap → Prop} {c : Call} {x : Operand} {fv : AV} {as args : List AV} {f : FuncId} {S : AV → Heap → Prop}
    (hg : wantedA ops g T = some true) (hc : c.callee = .value x) (hx : opd T x = some fv) (ha : opds T c.args.toList = some as) (hf : Go.Ev.callV fv as = some (.fn f args)) (hr : ∃ v H', rec (.fn f args) H = some (v, H') ∧ S v H')
    (h : ∀ v H', S v H' → OkO P rec ops l (putD T d v) H' K) : OkO P rec ops (⟨d, .call c, t, ps, e, g⟩ :: l) T H K := by
  obtain ⟨v, H', h1, h2⟩ := hr
  exact oV hg hc hx ha hf h1 (h v H' h2)

theorem OkO.builtinE {ops : Array Oper} {d : Option Tmp} {t : TypeId} {ps : String} {e : Array Edge} {g : Option (Nat × Bool)} {l : List Oper} {T : Tr AV} {H : Heap} {K : Tr AV → Heap → Prop} {c : Call} {b : Builtin} {as : List AV} {S : AV → Heap → Prop}
    (hg : wantedA ops g T = some true) (hc : c.callee = .builtin b) (ha : opds T c.args.toList = some as) (hb : ∃ v H', builtinF P H b c.argTypes.toList as = some (.val v H') ∧ S v H') (h : ∀ v H', S v H' → OkO P rec ops l (putD T d v) H' K) :
    OkO P rec ops (⟨d, .call c, t, ps, e, g⟩ :: l) T H K := by
  obtain ⟨v, H', h1, h2⟩ := hb
  exact oB hg hc ha h1 (h v H' h2)

theorem Grow.toNew (G : Heap) (o : AObj) : Ext G (G.new o) := ⟨by simp, fun n k => gno _ _ _ (by omega)⟩

theorem elems_new {H : Heap} {cs : List AV} {e : TypeId} {n sz : Nat} (h : cs.length = n * sz) : elems (H.new (.cells cs e)) (.slice H.next 0 n n) sz = some cs := by
  cases n with
  | zero =>
    have : cs = [] := List.eq_nil_of_length_eq_zero (by omega)
    rw [this]; rfl
  | succ n =>
    show (match ((H.new (.cells cs e)).get H.next).bind AObj.cs with | some cs => seg cs 0 ((n + 1) * sz) | none => none) = some cs
    rw [gn0]
    show seg cs 0 ((n + 1) * sz) = some cs
    unfold seg
    rw [List.drop_zero, List.take_of_length_le (by omega)]
    simp [h]

theorem flatten_len (l : List (List AV)) (k : Nat) (h : ∀ x ∈ l, x.length = k) : l.flatten.length = l.length * k := by
  induction l with
  | nil => simp
  | cons x l ih => rw [List.flatten_cons, List.length_append, ih (fun y hy => h y (by simp [hy])), h x (by simp), List.length_cons, Nat.add_mul]; omega

/-- All cells of a slice that can be read. -/
theorem Row.elems {H : Heap} {v : AV} {sz : Nat} {l : List (List AV)} (h : Row H v sz l) (hs : ∀ x ∈ l, x.length = sz) : Go.Ev.elems H v sz = some l.flatten := by
  cases l with
  | nil =>
    unfold Go.Ev.elems
    rw [h.len]
    rfl
  | cons y l =>
    have hrun : ∀ (l : List (List AV)) (cs : List AV) (off : Nat), (∀ x ∈ l, x.length = sz) → (∀ i x, l[i]? = some x → seg cs (off + i * sz) sz = some x) → l ≠ [] → seg cs off (l.length * sz) = some l.flatten := by
      intro l
      induction l with
      | nil => intro cs off _ _ h; exact absurd rfl h
      | cons y l ih =>
        intro cs off hs hg _
        have hy := hg 0 y rfl
        rw [Nat.zero_mul, Nat.add_zero] at hy
        have hyl := hs y (by simp)
        have hy2 : (cs.drop off).take sz = y := by
          rcases seg_spec hy with ⟨h, _⟩ | ⟨h, h2⟩
          · exact h.symm
          · subst h h2; simp
        cases hl : l with
        | nil => subst hl; simpa using hy
        | cons z l' =>
          have h2 := ih cs (off + sz) (fun x hx => hs x (by simp [hx])) (fun i x k => by
            have := hg (i + 1) x (by simpa using k)
            rwa [Nat.add_mul, Nat.one_mul, Nat.add_comm (i * sz) sz, ← Nat.add_assoc] at this) (by rw [hl]; simp)
          have hle : (cs.drop (off + sz)).take (l.length * sz) = l.flatten := by
            rcases seg_spec h2 with ⟨h, _⟩ | ⟨h, h3⟩
            · exact h.symm
            · rw [h, h3]; simp
          have hfl : l.flatten.length = l.length * sz := by
            exact flatten_len l sz (fun x hx => hs x (by simp [hx]))
          rw [← hl]
          unfold seg
          have e : (cs.drop off).take ((y :: l).length * sz) = (y :: l).flatten := by
            rw [List.length_cons, Nat.add_mul, Nat.one_mul, Nat.add_comm, List.take_add, hy2, List.drop_drop, hle, List.flatten_cons]
          rw [e]
          dsimp only
          rw [show Nat.beq (y :: l).flatten.length ((y :: l).length * sz) = true from by rw [List.flatten_cons, List.length_append, hfl, hyl, List.length_cons, Nat.add_mul, Nat.one_mul, Nat.add_comm]; exact Nat.beq_refl _]
    obtain ⟨b, off, cs, h1, h2, h3, h4⟩ := h.at_ 0 y rfl
    have hlen := h.len
    have key : ∀ off0, (∀ i, i < (y :: l).length → slAt v sz i = some (b, off0 + i * sz)) → seg cs off0 ((y :: l).length * sz) = some (y :: l).flatten := fun off0 ha =>
      hrun _ cs off0 hs (fun i x k => by
        obtain ⟨b', off', cs', g1, g2, g3, g4⟩ := h.at_ i x k
        rw [ha i (List.getElem?_eq_some_iff.1 k).1] at g1
        cases g1
        rw [h2] at g2
        cases g2
        exact g3) (by simp)
    have eGo : Go.Ev.elems H v sz = elemsGo H v sz := by unfold Go.Ev.elems; rw [hlen]; rfl
    rw [eGo]
    cases v <;> simp only [slAt, lenOf, reduceCtorEq, Option.some.injEq] at h1 hlen
    · subst hlen
      rw [if_pos (by simp)] at h1
      cases h1
      simp only [elemsGo, h2]
      exact key _ (fun i hi => by simp only [slAt]; rw [if_pos hi])
    · subst hlen
      rw [if_pos (by simp)] at h1
      cases h1
      simp only [elemsGo, h2]
      exact key 0 (fun i hi => by simp only [slAt]; rw [if_pos hi, Nat.zero_add])
    · subst hlen
      rw [if_pos (by simp)] at h1
      cases h1
      simp only [elemsGo, h2]
      exact key _ (fun i hi => by simp only [slAt]; rw [if_pos hi])

theorem back_newQ {fn : Func} {H : Heap} {T : Tr AV} {G : Heap} {vs : List AV} {v : AV} {S : AV → Heap → Prop} (hr : resV P T G fn.results.toList = some vs) (hv : resOf vs = v) (hg : Grow ⟨H.t, H.next, H.next⟩ G) (hf : v.flat = false)
    (k : ∀ H', Ret H H' → (∀ n, H'.get n = G.get n) → H'.next = G.next → S v H') : ∃ v H', evBack P fn H ⟨T, [], G⟩ = some (v, H') ∧ S v H' := by
  obtain ⟨H', h1, h2, _, h4⟩ := back_new hr hv hg
  obtain ⟨h5, h6⟩ := h4 hf
  exact ⟨v, H', h1, k H' h2 h5 h6⟩

/-- A slice of which a part can be taken. -/
def Cut (H : Heap) (v : AV) (sz : Nat) : Prop :=
  (∃ b off len cap, v = .slice b off len cap ∧ len ≤ cap) ∨ (∃ b len cs e, v = .opn b len ∧ H.get b = some (.opn cs e sz) ∧ len * sz ≤ cs.length ∧ b < H.next) ∨ v = .nils

theorem Cut.ext {H G : Heap} {v : AV} {sz : Nat} (h : Cut H v sz) (g : Ext H G) : Cut G v sz := by
  rcases h with h | ⟨b, len, cs, e, h1, h2, h3, h4⟩ | h
  · exact .inl h
  · exact .inr (.inl ⟨b, len, cs, e, h1, by rw [g.get b h4]; exact h2, h3, Nat.lt_of_lt_of_le h4 g.next⟩)
  · exact .inr (.inr h)

theorem Cut.same {G G' : Heap} {v : AV} {sz : Nat} (h : Cut G v sz) (hg : ∀ n, G'.get n = G.get n) (hn : G'.next = G.next) : Cut G' v sz := h.ext ⟨by omega, fun n _ => hg n⟩

/-- A slice stands in one cell. -/
def One (v : AV) : Prop := v.cells = [v] ∧ v.atom = true ∧ v.flat = false
theorem Cut.one {G : Heap} {v : AV} {sz : Nat} (h : Cut G v sz) (hn : v ≠ .nils) : One v := by
  rcases h with ⟨_, _, _, _, rfl, _⟩ | ⟨_, _, _, _, rfl, _⟩ | rfl
  · exact ⟨rfl, rfl, rfl⟩
  · exact ⟨rfl, rfl, rfl⟩
  · exact absurd rfl hn

theorem Mine.cut {k0 : Nat} {G : Heap} {v : AV} {e : TypeId} {sz : Nat} {cs : List AV} (h : Mine k0 G v e sz cs) : Cut G v sz := by
  rcases h with ⟨rfl, _⟩ | ⟨b, n, h1, h2, h3, _, h5⟩
  · exact .inr (.inr rfl)
  · exact .inr (.inl ⟨b, n, cs, e, h1, h2, by omega, h5⟩)

theorem sliceOf_cut {H : Heap} {v : AV} {sz k : Nat} {kk : IntKind} {l : List (List AV)} (hc : Cut H v sz) (hr : Row H v sz l) (hk : k ≤ l.length) (hz : 0 < sz) : ∃ v', sliceOf H sz v (some (.int kk (k : Int))) none = some v' ∧ ∀ H0, Row H0 v sz l → Row H0 v' sz (l.drop k) := by
  rcases hc with ⟨b, off, len, cap, rfl, h1⟩ | ⟨b, len, cs, e, rfl, h1, h2, h3⟩ | rfl
  · have hl : len = l.length := by have := hr.len; simpa [lenOf] using this
    subst hl
    have e1 : sliceOf H sz (.slice b off l.length cap) (some (.int kk (k : Int))) none = (match Nat.ble k l.length, Nat.ble l.length cap, Nat.beq cap k with
      | true, true, true => some (.slice b off (l.length - k) (cap - k))
      | true, true, false => some (.slice b (off + k * sz) (l.length - k) (cap - k))
      | _, _, _ => none) := rfl
    rw [e1, Nat.ble_eq_true_of_le hk, Nat.ble_eq_true_of_le h1]
    cases hq : Nat.beq cap k with
    | true =>
      have := Nat.eq_of_beq_eq_true hq
      refine ⟨_, rfl, fun H0 hr => ⟨by simp [lenOf], fun i x q => ?_⟩⟩
      rw [List.drop_of_length_le (by omega)] at q; simp at q
    | false =>
      refine ⟨_, rfl, fun H0 hr => ⟨by simp [lenOf], fun i x q => ?_⟩⟩
      rw [List.getElem?_drop] at q
      obtain ⟨b', off', cs, g1, g2, g3, g4⟩ := hr.at_ (k + i) x q
      have hi := (List.getElem?_eq_some_iff.1 q).1
      simp only [slAt] at g1 ⊢
      rw [if_pos hi] at g1
      rw [if_pos (by omega)]
      cases g1
      exact ⟨_, _, cs, rfl, g2, by rw [show off + k * sz + i * sz = off + (k + i) * sz from by rw [Nat.add_mul]; omega]; exact g3, g4⟩
  · have hl : len = l.length := by have := hr.len; simpa [lenOf] using this
    subst hl
    have e1 : ∀ j : Nat, sliceOf H sz (.opn b l.length) (some (.int kk (j : Int))) none = (match H.get b, some j, some l.length with
        | some (.opn cs _ sz'), some l_1, some h => (match Nat.beq sz' sz, Nat.blt 0 sz, Nat.ble (l.length * sz) cs.length, Nat.ble l_1 h, Nat.ble h l.length with
          | true, true, true, true, true => (match l_1 with
            | 0 => some (AV.opn b h)
            | _ => some (AV.tail b l_1 (l_1 * sz) (h - l_1)))
          | _, _, _, _, _ => none)
        | _, _, _ => none) := fun j => rfl
    rw [e1, h1]
    dsimp only
    rw [show Nat.beq sz sz = true from by simp, show Nat.blt 0 sz = true from Nat.blt_eq.mpr hz, Nat.ble_eq_true_of_le h2, Nat.ble_eq_true_of_le hk, Nat.ble_eq_true_of_le (Nat.le_refl _)]
    dsimp only
    cases k with
    | zero => exact ⟨_, rfl, fun H0 hr => by simpa using hr⟩
    | succ k =>
      refine ⟨_, rfl, fun H0 hr => ⟨by simp [lenOf], fun i x q => ?_⟩⟩
      rw [List.getElem?_drop] at q
      obtain ⟨b', off', cs', g1, g2, g3, g4⟩ := hr.at_ (k + 1 + i) x q
      have hi := (List.getElem?_eq_some_iff.1 q).1
      simp only [slAt] at g1 ⊢
      rw [if_pos hi] at g1
      rw [if_pos (by omega)]
      cases g1
      exact ⟨_, _, cs', rfl, g2, by rw [← Nat.add_mul]; exact g3, g4⟩
  · have hl : l = [] := by
      have := hr.len
      cases l with
      | nil => rfl
      | cons a b => simp [lenOf] at this
    subst hl
    obtain rfl : k = 0 := by simpa using hk
    exact ⟨.nils, rfl, fun H0 hr => hr⟩

theorem back_newA {fn : Func} {H : Heap} {T : Tr AV} {G : Heap} {vs : List AV} {v : AV} {S : AV → Heap → Prop} (hr : resV P T G fn.results.toList = some vs) (hv : resOf vs = v) (hg : Grow ⟨H.t, H.next, H.next⟩ G)
    (k : ∀ H', Ret H H' → (H' = H ∧ v.flat = true ∨ ((∀ n, H'.get n = G.get n) ∧ H'.next = G.next)) → S v H') : ∃ v H', evBack P fn H ⟨T, [], G⟩ = some (v, H') ∧ S v H' := by
  obtain ⟨H', h1, h2, h3, h4⟩ := back_new hr hv hg
  refine ⟨v, H', h1, k H' h2 ?_⟩
  cases hf : v.flat with
  | true =>
    rcases h3 hf with h | h
    · exact .inl ⟨h, rfl⟩
    · exact .inr h
  | false => exact .inr (h4 hf)

/-- What is known of a heap by its names from k to e alone. -/
def Fr (k e : Nat) (G : Heap) (S : Heap → Prop) : Prop := ∀ G' : Heap, e ≤ G'.next → (∀ n, k ≤ n → n < e → G'.get n = G.get n) → S G'
theorem Fr.to {k e : Nat} {G G' : Heap} {S : Heap → Prop} (h : Fr k e G S) (hg : ∀ n, k ≤ n → n < e → G'.get n = G.get n) : Fr k e G' S := fun X h1 h2 => h X h1 fun n a b => (h2 n a b).trans (hg n a b)
theorem Fr.wide {k e k' e' : Nat} {G : Heap} {S : Heap → Prop} (h : Fr k e G S) (hk : k' ≤ k) (he : e ≤ e') : Fr k' e' G S := fun X h1 h2 => h X (Nat.le_trans he h1) fun n a b => h2 n (Nat.le_trans hk a) (Nat.lt_of_lt_of_le b he)
theorem Fr.mono {k e : Nat} {G : Heap} {S R : Heap → Prop} (h : Fr k e G S) (hs : ∀ G, S G → R G) : Fr k e G R := fun X h1 h2 => hs X (h X h1 h2)

theorem Mine.one {k0 : Nat} {G : Heap} {v : AV} {e : TypeId} {sz : Nat} {cs : List AV} (h : Mine k0 G v e sz cs) : v.cells = [v] ∧ v.atom = true := by
  rcases h with ⟨rfl, _⟩ | ⟨b, n, rfl, _⟩
  · exact ⟨rfl, rfl⟩
  · exact ⟨rfl, rfl⟩

theorem Mine.fr {k0 : Nat} {G : Heap} {v : AV} {e : TypeId} {sz : Nat} {cs : List AV} (h : Mine k0 G v e sz cs) : Fr k0 G.next G fun G' => Mine k0 G' v e sz cs := by
  intro G' h1 h2
  rcases h with h | ⟨b, n, a1, a2, a3, a4, a5⟩
  · exact .inl h
  · exact .inr ⟨b, n, a1, by rw [h2 b a4 a5]; exact a2, a3, a4, Nat.lt_of_lt_of_le a5 h1⟩

/-- What is appended to an empty slice that was just made: a copy. -/
theorem app_lit {W G : Heap} {t u e el : TypeId} {sz by_ : Nat} {x : AV} {rows : List (List AV)} (hg : Grow W G) (hu : isSlice P u = true) (ht : elemTI P t = some (e, sz, by_)) (hr : Row (G.new (.cells [] el)) x sz rows) (hs : ∀ y ∈ rows, y.length = sz)
    (hb : rows.length * (by_ + 1) ≤ 4294967296) (hz : 0 < sz) (ha : atoms rows.flatten = true) :
    ∃ v' G', builtinF P (G.new (.cells [] el)) .append [t, u] [.slice G.next 0 0 0, x] = some (.val v' G') ∧ Fr G.next G'.next G' (fun X => Row X v' sz rows ∧ Cut X v' sz) ∧ Grow W G' ∧ One v' ∧ Kept G.next G G' := by
  have he := hr.elems hs
  have hl := hr.len
  have e1 : builtinF P (G.new (.cells [] el)) .append [t, u] [.slice G.next 0 0 0, x] = (append P (G.new (.cells [] el)) t (.slice G.next 0 0 0) x).map fun (v, H) => .val v H := by
    show (appendT P _ t u _ x).map _ = _
    unfold appendT
    unfold isSlice at hu
    split at hu
    · rename_i e; rw [e]
    · cases hu
  have e2 := append_go (s := .slice G.next 0 0 0) ht he hl rfl (by simpa using hb) hz ha
  rw [e1, e2]
  cases hrl : rows with
  | nil =>
    subst hrl
    refine ⟨.slice G.next 0 0 0, (G.new (.cells [] el)).put G.next (.cells [] el), ?_, fun X _ _ => ⟨⟨rfl, fun i x k => by simp at k⟩, .inl ⟨_, _, _, _, rfl, Nat.le_refl _⟩⟩, (hg.new _).put _ hg.next, ⟨rfl, rfl, rfl⟩, by simp, fun j h1 h2 => ?_⟩
    · unfold append.appendGo
      simp [gn0, spl]
    · rw [gpo _ _ _ _ (by omega), gno _ _ _ (by omega)]
  | cons y ys =>
    rw [← hrl]
    have hn : 0 < rows.length := by rw [hrl]; simp
    have hfl : rows.flatten.length = rows.length * sz := flatten_len rows sz hs
    have hm : Mine G.next ((G.new (.cells [] el)).new (.opn rows.flatten e sz)) (.opn (G.next + 1) rows.length) e sz rows.flatten := .inr ⟨G.next + 1, rows.length, rfl, gn0 (G.new _) _, hfl, by omega, by simp⟩
    refine ⟨.opn (G.next + 1) rows.length, (G.new (.cells [] el)).new (.opn rows.flatten e sz), ?_, hm.fr.mono fun X h => ⟨h.row hs hz, h.cut⟩, (hg.new _).new _, ⟨rfl, rfl, rfl⟩, by simp; omega, fun j h1 h2 => ?_⟩
    · unfold append.appendGo
      dsimp only
      rw [show Nat.ble (0 + rows.length) 0 = false from by cases h : Nat.ble (0 + rows.length) 0 with | false => rfl | true => (have := Nat.le_of_ble_eq_true h; omega)]
      dsimp only
      rw [show elems (G.new (.cells [] el)) (.slice G.next 0 0 0) sz = some [] from rfl]
      simp
    · rw [gno _ _ _ (by simp; omega), gno _ _ _ (by omega)]
end
end Go.Ev

