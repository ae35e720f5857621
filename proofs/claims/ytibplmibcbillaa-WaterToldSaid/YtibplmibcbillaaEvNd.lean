/-
  The rules of EvX2, EvX3, EvM and EvZ once more, for calls that may come to one of some outcomes.
-/
import Derived.Test.YtibplmibcbillaaEvNc
set_option linter.unusedSimpArgs false
set_option linter.unusedVariables false
namespace Go.EvN
open Go.Ev Go.RowKit
noncomputable section
variable {P : Program} {rec : Rec} {ro : Option Nat}
section
variable {κ : Type} [DecidableEq κ] {enc : κ → AV} {kt : TypeId}
theorem oM {ops : Array Oper} {d : Option Tmp} {t : TypeId} {ps : String} {e : Array Edge} {g : Option (Nat × Bool)} {l : List Oper} {T : Tr AV} {H : Heap} {K : Tr AV → Heap → Prop} {x : Operand} {v : AV} (hg : wantedA ops g T = some true) (hx : opd T x = some v) (h : OkO P rec ops l (putD T d v) H K) : OkO P rec ops (⟨d, .move x, t, ps, e, g⟩ :: l) T H K :=
  OkO.val hg (show evMove T H x = _ from evMove_of hx) h
theorem oA {ops : Array Oper} {d : Option Tmp} {t : TypeId} {ps : String} {e : Array Edge} {g : Option (Nat × Bool)} {l : List Oper} {T : Tr AV} {H : Heap} {K : Tr AV → Heap → Prop} {x : Operand} {v : AV} (hg : wantedA ops g T = some true) (hx : opd T x = some v) (h : OkO P rec ops l (putD T d v) H K) : OkO P rec ops (⟨d, .assign x, t, ps, e, g⟩ :: l) T H K :=
  OkO.val hg (show evMove T H x = _ from evMove_of hx) h
theorem OkO.pick {ops : Array Oper} {d : Option Tmp} {t : TypeId} {ps : String} {e : Array Edge} {g : Option (Nat × Bool)} {l : List Oper} {T : Tr AV} {H : Heap} {K : Tr AV → Heap → Prop} {c x y : Operand} {b : Bool} {v : AV} (hg : wantedA ops g T = some true) (hc : opd T c = some (.bool b)) (hx : b = true → opd T x = some v) (hy : b = false → opd T y = some v) (h : OkO P rec ops l (putD T d v) H K) : OkO P rec ops (⟨d, .pick c x y, t, ps, e, g⟩ :: l) T H K :=
  OkO.val hg (show evPick T H c x y = _ from evPick_of hc hx hy) h
theorem OkO.box {ops : Array Oper} {d : Option Tmp} {t : TypeId} {ps : String} {e : Array Edge} {g : Option (Nat × Bool)} {l : List Oper} {T : Tr AV} {H : Heap} {K : Tr AV → Heap → Prop} {x : Operand} {v : AV} {ty : TypeId} (hg : wantedA ops g T = some true) (hx : opd T x = some v) (h : OkO P rec ops l (putD T d (.ptr H.next 0)) (H.new (.cells v.cells ty)) K) : OkO P rec ops (⟨d, .box ty x, t, ps, e, g⟩ :: l) T H K :=
  OkO.val hg (show evBox T H ty x = _ from evBox_of hx) h
theorem OkO.alloc {ops : Array Oper} {d : Option Tmp} {t : TypeId} {ps : String} {e : Array Edge} {g : Option (Nat × Bool)} {l : List Oper} {T : Tr AV} {H : Heap} {K : Tr AV → Heap → Prop} {z : List AV} {ty : TypeId} (hg : wantedA ops g T = some true) (hz : zeroOf P ty = some z) (h : OkO P rec ops l (putD T d (.ptr H.next 0)) (H.new (.cells z ty)) K) : OkO P rec ops (⟨d, .alloc ty, t, ps, e, g⟩ :: l) T H K :=
  OkO.val hg (show evAlloc P H ty = _ from evAlloc_of hz) h
theorem oF {ops : Array Oper} {d : Option Tmp} {t : TypeId} {ps : String} {e : Array Edge} {g : Option (Nat × Bool)} {l : List Oper} {T : Tr AV} {H : Heap} {K : Tr AV → Heap → Prop} {x : Operand} {s : TypeId} {f o b off : Nat} (hg : wantedA ops g T = some true) (ho : fieldOff P s f = some o) (hx : opd T x = some (.ptr b off)) (h : OkO P rec ops l (putD T d (.ptr b (off + o))) H K) : OkO P rec ops (⟨d, .fieldAddr s x f, t, ps, e, g⟩ :: l) T H K :=
  OkO.val hg (show evFieldAddr P T H s x f = _ from evFieldAddr_of ho hx) h
theorem oL {ops : Array Oper} {d : Option Tmp} {t : TypeId} {ps : String} {e : Array Edge} {g : Option (Nat × Bool)} {l : List Oper} {T : Tr AV} {H : Heap} {K : Tr AV → Heap → Prop} {x : Operand} {ty : TypeId} {b off : Nat} {v : AV} (hg : wantedA ops g T = some true) (hx : opd T x = some (.ptr b off)) (hl : loadAt P H ty b off = some v) (h : OkO P rec ops l (putD T d v) H K) : OkO P rec ops (⟨d, .load ty x, t, ps, e, g⟩ :: l) T H K :=
  OkO.val hg (show evLoad P T H ty x = _ from evLoad_of hx hl) h
theorem oT {ops : Array Oper} {d : Option Tmp} {t : TypeId} {ps : String} {e : Array Edge} {g : Option (Nat × Bool)} {l : List Oper} {T : Tr AV} {H : Heap} {K : Tr AV → Heap → Prop} {x a : Operand} {ty : TypeId} {b off : Nat} {v : AV} {H' : Heap} (hg : wantedA ops g T = some true) (ha : opd T a = some (.ptr b off)) (hx : opd T x = some v) (hs : storeAt P H ty b off v = some H') (h : OkO P rec ops l (putD T d undefA) H' K) : OkO P rec ops (⟨d, .store ty a x, t, ps, e, g⟩ :: l) T H K :=
  OkO.unit hg (show evStore P T H ty a x = _ from evStore_at ha hx hs) h
theorem OkO.bin {ops : Array Oper} {d : Option Tmp} {t : TypeId} {ps : String} {e : Array Edge} {g : Option (Nat × Bool)} {l : List Oper} {T : Tr AV} {H : Heap} {K : Tr AV → Heap → Prop} {x y : Operand} {op : BinOp} {ty u : TypeId} {k k' : IntKind} {a b : Int} {v : AV} (hg : wantedA ops g T = some true) (hx : opd T x = some (.int k a)) (hy : opd T y = some (.int k' b)) (hv : bin op k a k' b = some v) (h : OkO P rec ops l (putD T d v) H K) : OkO P rec ops (⟨d, .binOp op ty x y u, t, ps, e, g⟩ :: l) T H K :=
  OkO.val hg (show evBin P T H op ty x y = _ from evBin_int hx hy hv) h
theorem OkO.un {ops : Array Oper} {d : Option Tmp} {t : TypeId} {ps : String} {e : Array Edge} {g : Option (Nat × Bool)} {l : List Oper} {T : Tr AV} {H : Heap} {K : Tr AV → Heap → Prop} {x : Operand} {op : UnOp} {ty : TypeId} {u v : AV} (hg : wantedA ops g T = some true) (hx : opd T x = some u) (hv : un op u = some v) (h : OkO P rec ops l (putD T d v) H K) : OkO P rec ops (⟨d, .unOp op ty x, t, ps, e, g⟩ :: l) T H K :=
  OkO.val hg (show evUn T H op x = _ from evUn_of hx hv) h
theorem oX {ops : Array Oper} {d : Option Tmp} {t : TypeId} {ps : String} {e : Array Edge} {g : Option (Nat × Bool)} {l : List Oper} {T : Tr AV} {H : Heap} {K : Tr AV → Heap → Prop} {x i : Operand} {ty : TypeId} {b off sz : Nat} {u : AV} {k : IntKind} {n : Nat} (hg : wantedA ops g T = some true) (hx : opd T x = some u) (hi : opd T i = some (.int k (n : Int))) (ht : elemSz P ty = some sz) (ha : slAt u sz n = some (b, off)) (h : OkO P rec ops l (putD T d (.ptr b off)) H K) : OkO P rec ops (⟨d, .indexAddr ty x i, t, ps, e, g⟩ :: l) T H K :=
  OkO.val hg (show evIndexAddr P T H ty x i = _ from evIndexAddr_at hx hi ht ha) h
theorem oB {ops : Array Oper} {d : Option Tmp} {t : TypeId} {ps : String} {e : Array Edge} {g : Option (Nat × Bool)} {l : List Oper} {T : Tr AV} {H H' : Heap} {K : Tr AV → Heap → Prop} {c : Call} {b : Builtin} {as : List AV} {v : AV}
    (hg : wantedA ops g T = some true) (hc : c.callee = .builtin b) (ha : opds T c.args.toList = some as) (hb : builtinF P H b c.argTypes.toList as = some (.val v H')) (h : OkO P rec ops l (putD T d v) H' K) :
    OkO P rec ops (⟨d, .call c, t, ps, e, g⟩ :: l) T H K :=
  OkO.val hg (show evCall P T H c = _ by unfold evCall; rw [ha]; dsimp only; rw [hc]; exact hb) h
theorem oV {ops : Array Oper} {d : Option Tmp} {t : TypeId} {ps : String} {e : Array Edge} {g : Option (Nat × Bool)} {l : List Oper} {T : Tr AV} {H H' : Heap} {K : Tr AV → Heap → Prop} {c : Call} {x : Operand} {fv : AV} {as args : List AV} {f : FuncId} {v : AV}
    (hg : wantedA ops g T = some true) (hc : c.callee = .value x) (hx : opd T x = some fv) (ha : opds T c.args.toList = some as) (hf : Go.Ev.callV fv as = some (.fn f args)) (hr : rec (.fn f args) H = some (v, H')) (h : OkO P rec ops l (putD T d v) H' K) :
    OkO P rec ops (⟨d, .call c, t, ps, e, g⟩ :: l) T H K :=
  OkO.call hg (show evCall P T H c = _ by unfold evCall; rw [ha]; dsimp only; rw [hc]; dsimp only; rw [hx]; exact hf) hr h
theorem OkO.makeFunc {ops : Array Oper} {d : Option Tmp} {t : TypeId} {ps : String} {e : Array Edge} {g : Option (Nat × Bool)} {l : List Oper} {T : Tr AV} {H : Heap} {K : Tr AV → Heap → Prop} {f : FuncId} {first cap : Array Operand} {a b : List AV} (hg : wantedA ops g T = some true) (ha : opds T first.toList = some a) (hb : opds T cap.toList = some b) (h : OkO P rec ops l (putD T d (.fn f a b)) H K) : OkO P rec ops (⟨d, .makeFunc (.func f) first cap, t, ps, e, g⟩ :: l) T H K :=
  OkO.val hg (show evMakeFunc T H (.func f) first cap = _ from evMakeFunc_of ha hb) h
theorem OkO.extract {ops : Array Oper} {d : Option Tmp} {t : TypeId} {ps : String} {e : Array Edge} {g : Option (Nat × Bool)} {l : List Oper} {T : Tr AV} {H : Heap} {K : Tr AV → Heap → Prop} {x : Operand} {i : Nat} {vs : List AV} {v : AV} (hg : wantedA ops g T = some true) (hx : opd T x = some (.tup vs)) (hv : vs[i]? = some v) (h : OkO P rec ops l (putD T d v) H K) : OkO P rec ops (⟨d, .extract x i, t, ps, e, g⟩ :: l) T H K :=
  OkO.val hg (show evExtract T H x i = _ from evExtract_of hx hv) h
theorem OkO.field {ops : Array Oper} {d : Option Tmp} {t : TypeId} {ps : String} {e : Array Edge} {g : Option (Nat × Bool)} {l : List Oper} {T : Tr AV} {H : Heap} {K : Tr AV → Heap → Prop} {ty : TypeId} {x : Operand} {f o n : Nat} {ag : Bool} {cs : List AV} {v : AV} (hg : wantedA ops g T = some true) (hs : fieldSel P ty f = some (ag, o, n)) (hx : opd T x = some (.agg cs)) (hv : (match ag with | true => (seg cs o n).map .agg | false => cs[o]?) = some v) (h : OkO P rec ops l (putD T d v) H K) : OkO P rec ops (⟨d, .field ty x f, t, ps, e, g⟩ :: l) T H K :=
  OkO.val hg (show evField P T H ty x f = _ from evField_of hs hx hv) h
theorem OkO.build {ops : Array Oper} {d : Option Tmp} {t : TypeId} {ps : String} {e : Array Edge} {g : Option (Nat × Bool)} {l : List Oper} {T : Tr AV} {H : Heap} {K : Tr AV → Heap → Prop} {ty : TypeId} {pa : Array (Nat × Operand)} {z : List AV} {pl : List (Nat × Nat)} {vs : List (Nat × AV)} {cs : List AV} (hg : wantedA ops g T = some true) (hb : buildOf P ty = some (z, .inl pl)) (hp : parts T pa.toList = some vs) (hc : fillS (fun i => pl[i]?) z vs = some cs) (h : OkO P rec ops l (putD T d (.agg cs)) H K) : OkO P rec ops (⟨d, .build ty pa, t, ps, e, g⟩ :: l) T H K :=
  OkO.val hg (show evBuild P T H ty pa = _ from evBuild_of hb hp hc) h
theorem OkO.binT {ops : Array Oper} {d : Option Tmp} {t : TypeId} {ps : String} {e : Array Edge} {g : Option (Nat × Bool)} {l : List Oper} {T : Tr AV} {H : Heap} {K : Tr AV → Heap → Prop} {x y : Operand} {op : BinOp} {ty u : TypeId} {a b v : AV} (hg : wantedA ops g T = some true) (hx : opd T x = some a) (hy : opd T y = some b) (hv : binT P op ty a b = some v) (h : OkO P rec ops l (putD T d v) H K) : OkO P rec ops (⟨d, .binOp op ty x y u, t, ps, e, g⟩ :: l) T H K :=
  OkO.val hg (show evBin P T H op ty x y = _ by unfold evBin; rw [hx, hy]; dsimp only; rw [hv]; rfl) h
theorem OkO.buildSlice {ops : Array Oper} {d : Option Tmp} {t : TypeId} {ps : String} {e : Array Edge} {g : Option (Nat × Bool)} {l : List Oper} {T : Tr AV} {H : Heap} {K : Tr AV → Heap → Prop} {ty el : TypeId} {len sz : Nat} {pa : Array (Nat × Operand)} {z : List AV} {vs : List (Nat × AV)} {cs : List AV} (hg : wantedA ops g T = some true) (ht : buildSl P ty = some (el, sz, z)) (hl : len * sz ≤ 16777216) (hp : parts T pa.toList = some vs) (hc : fillS (fun i => some (i * sz, sz)) (rep z len) vs = some cs) (h : OkO P rec ops l (putD T d (.slice H.next 0 len len)) (H.new (.cells cs el)) K) : OkO P rec ops (⟨d, .buildSlice ty len pa, t, ps, e, g⟩ :: l) T H K :=
  OkO.val hg (show evBuildSlice P T H ty len pa = _ from evBuildSlice_of ht hl hp hc) h
theorem oE {ops : Array Oper} {d : Option Tmp} {t : TypeId} {ps : String} {e : Array Edge} {g : Option (Nat × Bool)} {l : List Oper} {T : Tr AV} {H : Heap} {K : Tr AV → Heap → Prop} {c : Call} {x : Operand} {fv : AV} {as args : List AV} {f : FuncId} {S : AV → Heap → Prop}
    (hg : wantedA ops g T = some true) (hc : c.callee = .value x) (hx : opd T x = some fv) (ha : opds T c.args.toList = some as) (hf : Go.Ev.callV fv as = some (.fn f args)) (hr : ∃ v H', rec (.fn f args) H = some (v, H') ∧ S v H')
    (h : ∀ v H', S v H' → OkO P rec ops l (putD T d v) H' K) : OkO P rec ops (⟨d, .call c, t, ps, e, g⟩ :: l) T H K := by
  obtain ⟨v, H', h1, h2⟩ := hr
  exact oV hg hc hx ha hf h1 (h v H' h2)
theorem OkO.builtinE {ops : Array Oper} {d : Option Tmp} {t : TypeId} {ps : String} {e : Array Edge} {g : Option (Nat × Bool)} {l : List Oper} {T : Tr AV} {H : Heap} {K : Tr AV → Heap → Prop} {c : Call} {b : Builtin} {as : List AV} {S : AV → Heap → Prop}
    (hg : wantedA ops g T = some true) (hc : c.callee = .builtin b) (ha : opds T c.args.toList = some as) (hb : ∃ v H', builtinF P H b c.argTypes.toList as = some (.val v H') ∧ S v H') (h : ∀ v H', S v H' → OkO P rec ops l (putD T d v) H' K) :
    OkO P rec ops (⟨d, .call c, t, ps, e, g⟩ :: l) T H K := by
  obtain ⟨v, H', h1, h2⟩ := hb
  exact oB hg hc ha h1 (h v H' h2)
theorem OkO.indexArr {ops : Array Oper} {d : Option Tmp} {t : TypeId} {ps : String} {e : Array Edge} {g : Option (Nat × Bool)} {l : List Oper} {T : Tr AV} {H : Heap} {K : Tr AV → Heap → Prop} {x i : Operand} {ty : TypeId} {b off len sz : Nat} {k : IntKind} {n : Nat} (hg : wantedA ops g T = some true) (hx : opd T x = some (.ptr b off)) (hi : opd T i = some (.int k (n : Int))) (ht : arrSz P ty = some (len, sz)) (hn : n < len) (h : OkO P rec ops l (putD T d (.ptr b (off + n * sz))) H K) : OkO P rec ops (⟨d, .indexAddr ty x i, t, ps, e, g⟩ :: l) T H K :=
  OkO.val hg (show evIndexAddr P T H ty x i = _ from evIndexAddr_arr hx hi ht hn) h
theorem OkO.sliceArr {ops : Array Oper} {d : Option Tmp} {t : TypeId} {ps : String} {e : Array Edge} {g : Option (Nat × Bool)} {l : List Oper} {T : Tr AV} {H : Heap} {K : Tr AV → Heap → Prop} {ty : TypeId} {x : Operand} {hi : Option Operand} {b off len sz m : Nat} {u : Option AV} (hg : wantedA ops g T = some true) (hx : opd T x = some (.ptr b off)) (ht : arrSz P ty = some (len, sz)) (hh : optd T hi = some u) (hb : bounds u len = some m) (hm : m ≤ len)
    (h : OkO P rec ops l (putD T d (.slice b off m len)) H K) : OkO P rec ops (⟨d, .slice ty x none hi none, t, ps, e, g⟩ :: l) T H K :=
  OkO.val hg (show evSlice P T H ty x none hi = _ from evSlice_arr hx ht hh hb hm) h
theorem OkO.convert {ops : Array Oper} {d : Option Tmp} {t : TypeId} {ps : String} {e : Array Edge} {g : Option (Nat × Bool)} {l : List Oper} {T : Tr AV} {H : Heap} {K : Tr AV → Heap → Prop} {x : Operand} {s u : TypeId} {k k' : IntKind} {n n' : Int} (hg : wantedA ops g T = some true) (hc : convOk P s u = some k) (hx : opd T x = some (.int k' n)) (hw : wrapF k n = n') (h : OkO P rec ops l (putD T d (.int k n')) H K) : OkO P rec ops (⟨d, .convert s u x, t, ps, e, g⟩ :: l) T H K :=
  OkO.val hg (show evConv P T H s u x = some (.val (.int k n') H) by
    unfold convOk at hc
    unfold evConv
    rw [hx]
    split at hc
    · rename_i e1 e2
      cases hc
      rw [e1, e2]
      dsimp only
      rw [hw]
    · cases hc) h
theorem OkO.makeSlice {ops : Array Oper} {d : Option Tmp} {t : TypeId} {ps : String} {e : Array Edge} {g : Option (Nat × Bool)} {l : List Oper} {T : Tr AV} {H : Heap} {K : Tr AV → Heap → Prop} {x c : Operand} {ty el : TypeId} {sz n by_ : Nat} {z : List AV} (hg : wantedA ops g T = some true) (ht : buildSl P ty = some (el, sz, z)) (hb : elemTI P ty = some (el, sz, by_)) (hbl : by_ ≤ 1000000)
    (hx : opd T x = some (.int .i64 (n : Int))) (hc : opd T c = some (.int .i64 (n : Int))) (hn : n ≤ 1000000) (h : OkO P rec ops l (putD T d (.slice H.next 0 n n)) (H.new (.cells (rep z n) el)) K) : OkO P rec ops (⟨d, .makeSlice ty x c, t, ps, e, g⟩ :: l) T H K :=
  OkO.val hg (show evMakeSlice P T H ty x c = _ from evMakeSlice_of ht ⟨by_, hb, hbl⟩ hx hc hn) h
theorem OkO.makeMap {ops : Array Oper} {d : Option Tmp} {t : TypeId} {ps : String} {e : Array Edge} {g : Option (Nat × Bool)} {l : List Oper} {T : Tr AV} {H : Heap} {K : Tr AV → Heap → Prop} {ty : TypeId} (hg : wantedA ops g T = some true) (h : OkO P rec ops l (putD T d (.map H.next)) (H.new (.map [] 0)) K) :
    OkO P rec ops (⟨d, .makeMap ty none, t, ps, e, g⟩ :: l) T H K := OkO.val hg rfl h
theorem OkO.lookup {ops : Array Oper} {d : Option Tmp} {t : TypeId} {ps : String} {e : Array Edge} {g : Option (Nat × Bool)} {l : List Oper} {T : Tr AV} {H : Heap} {K : Tr AV → Heap → Prop} {ty : TypeId} {x y : Operand} {ok : Bool} {z : AV} {b : Nat} {o : AObj} {f : κ → Option AV} (key : κ) (v : AV) (hg : wantedA ops g T = some true)
    (ht : mapTy P ty = some (kt, z)) (hk : Keys P kt enc) (hx : opd T x = some (.map b)) (hy : opd T y = some (enc key)) (hb : H.get b = some o) (ho : MapO o enc f)
    (hv : (match f key with
      | some v => (match ok with | true => AV.tup [v, .bool true] | false => v)
      | none => (match ok with | true => .tup [z, .bool false] | false => z)) = v) (h : OkO P rec ops l (putD T d v) H K) : OkO P rec ops (⟨d, .lookup ty x y ok, t, ps, e, g⟩ :: l) T H K :=
  OkO.val hg (show evLookup P T H ty x y ok = _ from evLookup_val key ht hk hx hy hb ho hv) h
theorem OkO.mapUpdate {ops : Array Oper} {d : Option Tmp} {t : TypeId} {ps : String} {e : Array Edge} {g : Option (Nat × Bool)} {l : List Oper} {T : Tr AV} {H : Heap} {K : Tr AV → Heap → Prop} {ty : TypeId} {x y w : Operand} {z v : AV} {b : Nat} {o : AObj} {f : κ → Option AV} (key : κ) (hg : wantedA ops g T = some true)
    (ht : mapTy P ty = some (kt, z)) (hk : Keys P kt enc) (hx : opd T x = some (.map b)) (hy : opd T y = some (enc key)) (hw : opd T w = some v) (hb : H.get b = some o) (ho : MapO o enc f)
    (h : ∀ o', MapO o' enc (updK f key v) → OkO P rec ops l (putD T d undefA) (H.put b o') K) : OkO P rec ops (⟨d, .mapUpdate ty x y w, t, ps, e, g⟩ :: l) T H K := by
  obtain ⟨o', h1, h2⟩ := evMapUpdate_of key ht hk hx hy hw hb ho
  exact OkO.unit hg (show evMapUpdate P T H ty x y w = _ from h1) (h o' h2)
theorem OkO.mapEntry {ops : Array Oper} {d : Option Tmp} {t : TypeId} {ps : String} {e : Array Edge} {g : Option (Nat × Bool)} {l : List Oper} {T : Tr AV} {H : Heap} {K : Tr AV → Heap → Prop} {ty : TypeId} {x y : Operand} {z : AV} {b : Nat} {o : AObj} {f : κ → Option AV} (key : κ) (hg : wantedA ops g T = some true)
    (ht : mapTy P ty = some (kt, z)) (hk : Keys P kt enc) (hx : opd T x = some (.map b)) (hy : opd T y = some (enc key)) (hb : H.get b = some o) (ho : MapO o enc f)
    (h : ∀ o' n, SlotO o' enc (updK f key ((f key).getD z)) key n → OkO P rec ops l (putD T d (.tup [(f key).getD z, .int .i64 (n : Nat)])) (H.put b o') K) : OkO P rec ops (⟨d, .mapEntry ty x y, t, ps, e, g⟩ :: l) T H K := by
  obtain ⟨o', n, h1, h2⟩ := evMapEntry_of key ht hk hx hy hb ho
  exact OkO.val hg (show evMapEntry P T H ty x y = _ from h1) (h o' n h2)
theorem OkO.entryStore {ops : Array Oper} {d : Option Tmp} {t : TypeId} {ps : String} {e : Array Edge} {g : Option (Nat × Bool)} {l : List Oper} {T : Tr AV} {H : Heap} {K : Tr AV → Heap → Prop} {ty : TypeId} {x y w : Operand} {v : AV} {b n : Nat} {o : AObj} {f : κ → Option AV} {key : κ} {k : IntKind} (hg : wantedA ops g T = some true)
    (hx : opd T x = some (.map b)) (hy : opd T y = some (.int k (n : Nat))) (hw : opd T w = some v) (hb : H.get b = some o) (ho : SlotO o enc f key n)
    (h : ∀ o', MapO o' enc (updK f key v) → OkO P rec ops l (putD T d undefA) (H.put b o') K) : OkO P rec ops (⟨d, .entryStore ty x y w, t, ps, e, g⟩ :: l) T H K := by
  obtain ⟨o', h1, h2⟩ := evEntryStore_of hx hy hw hb ho
  exact OkO.unit hg (show evEntryStore T H x y w = _ from h1) (h o' h2)
theorem OkO.nilCheck {ops : Array Oper} {d : Option Tmp} {t : TypeId} {ps : String} {e : Array Edge} {g : Option (Nat × Bool)} {l : List Oper} {T : Tr AV} {H : Heap} {K : Tr AV → Heap → Prop} {x : Operand} {b off : Nat} (hg : wantedA ops g T = some true) (hx : opd T x = some (.ptr b off)) (h : OkO P rec ops l (putD T d (.ptr b off)) H K) :
    OkO P rec ops (⟨d, .nilCheck x, t, ps, e, g⟩ :: l) T H K :=
  OkO.val hg (show evNil T H x = some (.val (.ptr b off) H) by unfold evNil; rw [hx]) h
end
end
end Go.EvN

