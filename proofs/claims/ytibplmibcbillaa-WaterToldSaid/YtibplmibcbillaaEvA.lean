/-
  A closed evaluator for the model's code: values whose blocks are names, a heap of names, a step for each operation.
-/
import Derived.RangeFuncLeaves
import Derived.RangeFuncCalls
set_option linter.unusedSimpArgs false
set_option linter.unusedVariables false
namespace Go.Ev
noncomputable section

/-- A value whose blocks are names. -/
inductive AV where
  | int (k : IntKind) (n : Int)
  | bool (b : Bool)
  | str (s : ByteArray)
  | ptr (b off : Nat)
  | nilp
  | slice (b off len cap : Nat)
  | opn (b len : Nat)
  | tail (b i off len : Nat)
  | nils
  | map (b : Nat)
  | nilm
  | fn (f : FuncId) (first cap : List AV)
  | yield (b : Nat)
  | nilf
  | iface (t : TypeId) (v : AV)
  | nili
  | agg (cs : List AV)
  | tup (vs : List AV)
  | raw (v : Value)
  deriving Inhabited

inductive Tr (α : Type) where
  | nil
  | node (v : Option α) (l r : Tr α)

/-- A way down a tree. -/
inductive Pos where
  | here
  | left (p : Pos)
  | right (p : Pos)
  deriving DecidableEq

/-- The way of a number from one on: its binary digits, the lowest first, up to the leading one. -/
noncomputable def posF (fuel : Nat) : Nat → Pos :=
  @Nat.rec (fun _ => Nat → Pos) (fun _ => .here) (fun _ go n =>
    @Bool.rec (fun _ => Pos) (@Bool.rec (fun _ => Pos) (.right (go (Nat.div n 2))) (.left (go (Nat.div n 2))) (Nat.beq (Nat.mod n 2) 0)) .here (Nat.beq n 1)) fuel
noncomputable def pos (n : Nat) : Pos := posF (Nat.succ n) (Nat.succ n)

noncomputable def Tr.look {α : Type} (t : Tr α) : Pos → Option α :=
  @Tr.rec α (fun _ => Pos → Option α) (fun _ => none) (fun v _ _ gl gr p => @Pos.rec (fun _ => Option α) v (fun p _ => gl p) (fun p _ => gr p) p) t
noncomputable def Tr.one {α : Type} (x : α) (p : Pos) : Tr α :=
  @Pos.rec (fun _ => Tr α) (.node (some x) .nil .nil) (fun _ t => .node none t .nil) (fun _ t => .node none .nil t) p
noncomputable def Tr.lay {α : Type} (x : α) (t : Tr α) : Pos → Tr α :=
  @Tr.rec α (fun _ => Pos → Tr α) (fun p => Tr.one x p) (fun v l r sl sr p =>
    @Pos.rec (fun _ => Tr α) (.node (some x) l r) (fun p _ => .node v (sl p) r) (fun p _ => .node v l (sr p)) p) t
noncomputable def Tr.get {α : Type} (t : Tr α) (n : Nat) : Option α := t.look (pos n)
noncomputable def Tr.set {α : Type} (t : Tr α) (n : Nat) (x : α) : Tr α := Tr.lay x t (pos n)

inductive AObj where
  | cells (cs : List AV) (elem : TypeId)
  | ext (cs : List AV)
  | opn (cs : List AV) (elem : TypeId) (sz : Nat)
  | map (es : List (AV × AV × Nat)) (clock : Nat)
  | loop (st : LoopState) (pending : Option Code) (T : Tr AV) (params : List Tmp) (assign body : Code) (defers : Nat)
  | defd
  | shut
  | dead
  | iter (m : Option Nat) (since : Nat) (seen : List Nat) (last : Nat)

/-- 'lo': every block written since the running call began has at least this name. -/
structure Heap where
  t : Tr AObj
  next : Nat
  lo : Nat

def Heap.get (H : Heap) (n : Nat) : Option AObj := H.t.look (pos n)
def Heap.put (H : Heap) (n : Nat) (o : AObj) : Heap :=
  @Heap.rec (fun _ => Heap) (fun t next lo => ⟨Tr.lay o t (pos n), next, @Bool.rec (fun _ => Nat) n lo (Nat.ble lo n)⟩) H
def Heap.new (H : Heap) (o : AObj) : Heap :=
  @Heap.rec (fun _ => Heap) (fun t next lo => ⟨Tr.lay o t (pos next), Nat.succ next, lo⟩) H

def avs : List Value → Option (List AV) → Option (List AV)
  | [], acc => acc.map List.reverse
  | v :: vs, acc => avs vs (match v, acc with
    | .int k n, some l => some (.int k n :: l)
    | .bool b, some l => some (.bool b :: l)
    | .string s, some l => some (.str s :: l)
    | .pointer none, some l => some (.nilp :: l)
    | .slice none 0 0, some l => some (.nils :: l)
    | .map none, some l => some (.nilm :: l)
    | .nilFunc, some l => some (.nilf :: l)
    | .nilIface, some l => some (.nili :: l)
    | _, _ => none)

def av : Value → Option AV
  | .agg cs => (avs cs.toList (some [])).map .agg
  | v => match avs [v] (some []) with
    | some [x] => some x
    | _ => none

inductive TD where
  | other
  | int (k : IntKind)
  | str
  | slice (elem : TypeId)
  | array (n : Nat) (elem : TypeId)
  | struct (fs : List Field)
  | map (key elem : TypeId)

structure TI where
  agg : Bool
  size : Nat
  bytes : Nat
  zero : Option (List AV)
  d : TD

def aggOf : TypeDesc → Bool
  | .struct _ | .array _ _ => true
  | _ => false

def tdOf : TypeDesc → TD
  | .int k => .int k
  | .string => .str
  | .slice e => .slice e
  | .array n e => .array n e
  | .struct fs => .struct fs.toList
  | .map k e => .map k e
  | _ => .other

def mkTI (P : Program) (t : TypeId) : Option TI :=
  match P.info? t, P.underlying t with
  | some i, some d => some { agg := aggOf d, size := i.size, bytes := i.bytes, zero := i.zero.bind fun v => avs v.cells.toList (some []), d := tdOf d }
  | _, _ => none

structure St where
  T : Tr AV
  D : List Nat
  H : Heap

def opd (T : Tr AV) (x : Operand) : Option AV :=
  @Operand.rec (fun _ => Option AV) (fun t => T.look (pos t)) (fun v => av v) (fun _ => none) (fun f => some (.fn f [] [])) x

def opds (T : Tr AV) (xs : List Operand) : Option (List AV) :=
  @List.rec Operand (fun _ => Option (List AV)) (some []) (fun x _ r =>
    @Option.rec AV (fun _ => Option (List AV)) none (fun v => @Option.rec (List AV) (fun _ => Option (List AV)) none (fun vs => some (v :: vs)) r) (opd T x)) xs

def AV.cells : AV → List AV
  | .agg cs => cs
  | .raw v => v.cells.toList.map .raw
  | v => [v]

/-- The part of a list from a place on. -/
def seg (cs : List AV) (off n : Nat) : Option (List AV) :=
  let l := (cs.drop off).take n
  match Nat.beq l.length n with
  | true => some l
  | false => none

def spl (cs : List AV) (off : Nat) (new : List AV) : Option (List AV) :=
  match Nat.ble (off + new.length) cs.length with
  | true => some (cs.take off ++ (new ++ cs.drop (off + new.length)))
  | false => none

def AObj.cs : AObj → Option (List AV)
  | .cells cs _ => some cs
  | .opn cs _ _ => some cs
  | .ext cs => some cs
  | _ => none

def loadAt (P : Program) (H : Heap) (t : TypeId) (b off : Nat) : Option AV :=
  match mkTI P t, (H.get b).bind AObj.cs with
  | some ti, some cs => match ti.agg with
    | true => (seg cs off ti.size).map .agg
    | false => cs[off]?
  | _, _ => none

/-- May it stand in a cell? -/
def AV.atom : AV → Bool
  | .agg _ | .tup _ => false
  | .raw v => match v with
    | .slice _ _ _ => true
    | _ => false
  | _ => true

def atoms : List AV → Bool
  | [] => true
  | v :: vs => match v.atom with
    | true => atoms vs
    | false => false

def storeAt (P : Program) (H : Heap) (t : TypeId) (b off : Nat) (v : AV) : Option Heap :=
  match mkTI P t, H.get b with
  | some ti, some (.cells cs e) => match Nat.beq v.cells.length ti.size, atoms v.cells with
    | true, true => (spl cs off v.cells).map fun cs' => H.put b (.cells cs' e)
    | _, _ => none
  | some ti, some (.opn cs e sz) => match Nat.beq v.cells.length ti.size, atoms v.cells with
    | true, true => (spl cs off v.cells).map fun cs' => H.put b (.opn cs' e sz)
    | _, _ => none
  | _, _ => none

def ltI : Int → Int → Bool
  | .ofNat a, .ofNat b => Nat.blt a b
  | .ofNat _, .negSucc _ => false
  | .negSucc _, .ofNat _ => true
  | .negSucc a, .negSucc b => Nat.blt b a

def eqI : Int → Int → Bool
  | .ofNat a, .ofNat b => Nat.beq a b
  | .negSucc a, .negSucc b => Nat.beq a b
  | _, _ => false

def wrapF (k : IntKind) (n : Int) : Int :=
  match k, n with
  | .i64, .ofNat m => if Nat.blt m 9223372036854775808 then n else k.wrap n
  | .i64, .negSucc m => if Nat.blt m 9223372036854775808 then n else k.wrap n
  | _, _ => k.wrap n

def sameKind : IntKind → IntKind → Bool
  | .i8, .i8 | .i16, .i16 | .i32, .i32 | .i64, .i64 | .u8, .u8 | .u16, .u16 | .u32, .u32 | .u64, .u64 => true
  | _, _ => false

def binF (op : BinOp) (k : IntKind) (a b : Int) : Option AV :=
  match op with
  | .add => some (.int k (wrapF k (a + b)))
  | .sub => some (.int k (wrapF k (a - b)))
  | .mul => some (.int k (wrapF k (a * b)))
  | .quo => if eqI b 0 then none else some (.int k (wrapF k (a.tdiv b)))
  | .rem => if eqI b 0 then none else some (.int k (a.tmod b))
  | .eql => some (.bool (eqI a b))
  | .neq => some (.bool (!(eqI a b)))
  | .lss => some (.bool (ltI a b))
  | .leq => some (.bool (!(ltI b a)))
  | .gtr => some (.bool (ltI b a))
  | .geq => some (.bool (!(ltI a b)))
  | _ => none

def bin (op : BinOp) (k : IntKind) (x : Int) (k' : IntKind) (y : Int) : Option AV :=
  match op with
  | .shr => match x, y with
    | .ofNat a, .ofNat b => match Nat.ble b 8 with
      | true => some (.int k (.ofNat (Nat.shiftRight a b)))
      | false => none
    | _, _ => none
  | .shl => none
  | op => match sameKind k k' with
    | true => binF op k x y
    | false => none

def un (op : UnOp) (x : AV) : Option AV :=
  match op, x with
  | .not, .bool b => some (.bool (!b))
  | .neg, .int k n => some (.int k (wrapF k (0 - n)))
  | _, _ => none

def fillS (place : Nat → Option (Nat × Nat)) (cells : List AV) : List (Nat × AV) → Option (List AV)
  | [] => some cells
  | (i, v) :: rest => match place i with
    | none => none
    | some (off, size) => match Nat.beq v.cells.length size with
      | true => match spl cells off v.cells with
        | some cs => fillS place cs rest
        | none => none
      | false => none

def parts (T : Tr AV) : List (Nat × Operand) → Option (List (Nat × AV))
  | [] => some []
  | (i, x) :: xs => match opd T x, parts T xs with
    | some v, some vs => some ((i, v) :: vs)
    | _, _ => none

def rep (z : List AV) : Nat → List AV
  | 0 => []
  | n + 1 => z ++ rep z n

def placesOf (P : Program) : List Field → Option (List (Nat × Nat))
  | [] => some []
  | f :: fs => match mkTI P f.type, placesOf P fs with
    | some ti, some l => some ((f.offset, ti.size) :: l)
    | _, _ => none

def minmax (mx : Bool) (k : IntKind) : Int → List AV → Option AV
  | a, [] => some (.int k a)
  | a, .int _ b :: rest => minmax mx k (if (if mx then ltI a b else ltI b a) then b else a) rest
  | _, _ => none

def lenOf : AV → Option Nat
  | .nils => some 0
  | .slice _ _ len _ => some len
  | .opn _ len => some len
  | .tail _ _ _ len => some len
  | .raw v => match v with
    | .slice _ len _ => some len
    | _ => none
  | _ => none

/-- What is in the cells of a slice. -/
def elemsGo (H : Heap) (v : AV) (sz : Nat) : Option (List AV) :=
  match v with
  | .nils => some []
  | .slice b off len _ => match (H.get b).bind AObj.cs with
    | some cs => seg cs off (len * sz)
    | none => none
  | .opn b len => match (H.get b).bind AObj.cs with
    | some cs => seg cs 0 (len * sz)
    | none => none
  | .tail b _ off len => match (H.get b).bind AObj.cs with
    | some cs => seg cs off (len * sz)
    | none => none
  | .raw v => match v with
    | .slice _ 0 _ => some []
    | _ => none
  | _ => none

def elems (H : Heap) (v : AV) (sz : Nat) : Option (List AV) :=
  match lenOf v with
  | some 0 => some []
  | _ => elemsGo H v sz

def append (P : Program) (H : Heap) (t : TypeId) (s x : AV) : Option (AV × Heap) :=
  match mkTI P t with
  | some { d := .slice e, .. } => match mkTI P e with
    | some ei => match elems H x ei.size, lenOf x, lenOf s with
      | some new, some n, some m => match Nat.ble ((m + n) * (ei.bytes + 1)) 4294967296, Nat.blt 0 ei.size, ei.zero.map List.length, atoms new with
        | true, true, some zl, true => match Nat.beq zl ei.size with
          | false => none
          | true => appendGo H e ei.size s new n
        | _, _, _, _ => none
      | _, _, _ => none
    | none => none
  | _ => none
where
  appendGo (H : Heap) (e : TypeId) (size : Nat) (s : AV) (new : List AV) (n : Nat) : Option (AV × Heap) :=
    match s with
    | .nils => match n with
      | 0 => some (.nils, H)
      | _ => some (.opn H.next n, H.new (.opn new e size))
    | .slice b off len cap => match Nat.ble (len + n) cap with
      | true => match H.get b with
        | some (.cells cs el) => (spl cs (off + len * size) new).map fun cs' => (.slice b off (len + n) cap, H.put b (.cells cs' el))
        | _ => none
      | false => match elems H s size with
        | some old => some (.opn H.next (len + n), H.new (.opn (old ++ new) e size))
        | none => none
    | .opn b len => match H.get b with
      | some (.opn cs el sz) => match Nat.beq sz size, Nat.beq el e, Nat.beq cs.length (len * sz) with
        | true, true, true => match n with
          | 0 => some (s, H)
          | _ => some (.opn H.next (len + n), (H.put b .dead).new (.opn (cs ++ new) el sz))
        | true, true, false => (spl cs (len * sz) new).map fun cs' => (.opn b (len + n), H.put b (.opn cs' el sz))
        | _, _, _ => none
      | _ => none
    | _ => none

/-- Equality at a type, as the model does it: numbers, bools, texts, structs and arrays of these. -/
def eqT (P : Program) : Nat → TypeId → AV → AV → Option Bool
  | 0, _, _, _ => none
  | d + 1, t, x, y => match P.underlying t, x, y with
    | some .bool, .bool a, .bool b => some (a == b)
    | some (.int _), .int k a, .int k' b => match sameKind k k' with
      | true => some (eqI a b)
      | false => none
    | some .string, .str a, .str b => some (a == b)
    | some (.pointer _), .nilp, .nilp => some true
    | some (.pointer _), .nilp, .ptr _ _ => some false
    | some (.pointer _), .ptr _ _, .nilp => some false
    | some (.slice _), .nils, .nils => some true
    | some (.slice _), .nils, .slice _ _ _ _ => some false
    | some (.slice _), .nils, .opn _ _ => some false
    | some (.slice _), .nils, .tail _ _ _ _ => some false
    | some (.slice _), .tail _ _ _ _, .nils => some false
    | some (.slice _), .slice _ _ _ _, .nils => some false
    | some (.slice _), .opn _ _, .nils => some false
    | some (.func _ _ _), .nilf, .nilf => some true
    | some (.func _ _ _), .nilf, .fn _ _ _ => some false
    | some (.func _ _ _), .fn _ _ _, .nilf => some false
    | some (.struct fs), .agg xs, .agg ys => match P.stoodInHeld t with
      | true => none
      | false => eqFs (eqT P d) xs ys fs.toList
    | some (.array n e), .agg xs, .agg ys => match mkTI P e with
      | some ei => eqAs (eqT P d e) e ei.size xs ys n 0
      | none => none
    | _, _, _ => none
where
  eqAs (go : AV → AV → Option Bool) (e : TypeId) (sz : Nat) (xs ys : List AV) : Nat → Nat → Option Bool
    | 0, _ => some true
    | n + 1, i => match part P e xs (i * sz), part P e ys (i * sz) with
      | some a, some b => match go a b with
        | some true => eqAs go e sz xs ys n (i + 1)
        | some false => some false
        | none => none
      | _, _ => none
  eqFs (go : TypeId → AV → AV → Option Bool) (xs ys : List AV) : List Field → Option Bool
    | [] => some true
    | f :: fs => match part P f.type xs f.offset, part P f.type ys f.offset, f.name == "_" with
      | some a, some b, false => match go f.type a b with
        | some true => eqFs go xs ys fs
        | some false => some false
        | none => none
      | _, _, _ => none
  part (P : Program) (t : TypeId) (cs : List AV) (off : Nat) : Option AV :=
    match mkTI P t with
    | some ti => match ti.agg with
      | true => (seg cs off ti.size).map .agg
      | false => cs[off]?
    | none => none

def findK (P : Program) (t : TypeId) (k : AV) : List (AV × AV × Nat) → Nat → Option (Option (Nat × AV × Nat))
  | [], _ => some none
  | (k', v, born) :: es, i => match eqT P 8 t k k' with
    | some true => some (some (i, v, born))
    | some false => findK P t k es (i + 1)
    | none => none

def setV (es : List (AV × AV × Nat)) (i : Nat) (k v : AV) : List (AV × AV × Nat) :=
  match es, i with
  | [], _ => []
  | (_, _, born) :: rest, 0 => (k, v, born) :: rest
  | e :: rest, n + 1 => e :: setV rest n k v

def bornAt (es : List (AV × AV × Nat)) (n : Nat) (v : AV) : Option (List (AV × AV × Nat)) :=
  match es with
  | [] => none
  | (k, x, b) :: rest => match Nat.beq b n with
    | true => some ((k, v, b) :: rest)
    | false => (bornAt rest n v).map ((k, x, b) :: ·)

def zeroV (P : Program) (t : TypeId) : Option AV :=
  match P.info? t with
  | some i => match i.zero with
    | some v => av v
    | none => none
  | none => none

/-- May a value be a map's key? (Numbers, bools, texts, structs and arrays of these.) -/
def chkT (P : Program) : Nat → TypeId → AV → Bool
  | 0, _, _ => false
  | d + 1, t, x => match P.underlying t, x with
    | some (.int _), _ | some .string, _ | some .bool, _ => true
    | some (.struct fs), .agg xs => chkFs (chkT P d) xs fs.toList
    | some (.array n e), .agg xs => match mkTI P e with
      | some ei => chkAs (chkT P d e) e ei.size xs n 0
      | none => false
    | _, _ => false
where
  chkAs (go : AV → Bool) (e : TypeId) (sz : Nat) (xs : List AV) : Nat → Nat → Bool
    | 0, _ => true
    | n + 1, i => match eqT.part P e xs (i * sz) with
      | some a => match go a with
        | true => chkAs go e sz xs n (i + 1)
        | false => false
      | none => false
  chkFs (go : TypeId → AV → Bool) (xs : List AV) : List Field → Bool
    | [] => true
    | f :: fs => match eqT.part P f.type xs f.offset, f.name == "_" with
      | some a, false => match go f.type a with
        | true => chkFs go xs fs
        | false => false
      | _, _ => false

def sameAtom : AV → AV → Bool
  | .int j a, .int k b => sameKind j k && eqI a b
  | .bool a, .bool b => a == b
  | .str a, .str b => a == b
  | _, _ => false

def sameAtoms : List AV → List AV → Bool
  | [], [] => true
  | x :: xs, y :: ys => match sameAtom x y with
    | true => sameAtoms xs ys
    | false => false
  | _, _ => false

/-- The very same key. -/
def sameKey : AV → AV → Bool
  | .agg xs, .agg ys => sameAtoms xs ys
  | x, y => sameAtom x y

def keyAt (es : List (AV × AV × Nat)) (i : Nat) (k : AV) : Bool :=
  match es[i]? with
  | some e => sameKey e.1 k
  | none => false

inductive Out where
  | val (v : AV) (H : Heap)
  | unit (H : Heap)
  | fn (f : FuncId) (args : List AV)
  | round (l : Nat) (args : List AV)

def callV (f : AV) (args : List AV) : Option Out :=
  match f with
  | .fn f first cap => some (.fn f (first ++ (args ++ cap)))
  | .yield l => some (.round l args)
  | _ => none

def bounds (x : Option AV) (d : Nat) : Option Nat :=
  match x with
  | none => some d
  | some (.int _ (.ofNat n)) => some n
  | _ => none

def optd (T : Tr AV) : Option Operand → Option (Option AV)
  | none => some none
  | some x => (opd T x).map some

def sliceOf (H : Heap) (sz : Nat) (x : AV) (lo : Option AV) (hi : Option AV) : Option AV :=
  match x with
  | .slice b off len cap => match bounds lo 0, bounds hi len with
    | some l, some h => match Nat.ble l h, Nat.ble h cap, Nat.beq cap l with
      | true, true, true => some (.slice b off (h - l) (cap - l))
      | true, true, false => some (.slice b (off + l * sz) (h - l) (cap - l))
      | _, _, _ => none
    | _, _ => none
  | .nils => match bounds lo 0, bounds hi 0 with
    | some 0, some 0 => some .nils
    | _, _ => none
  | .opn b len => match H.get b, bounds lo 0, bounds hi len with
    | some (.opn cs _ sz'), some l, some h => match Nat.beq sz' sz, Nat.blt 0 sz, Nat.ble (len * sz) cs.length, Nat.ble l h, Nat.ble h len with
      | true, true, true, true, true => match l with
        | 0 => some (.opn b h)
        | _ => some (.tail b l (l * sz) (h - l))
      | _, _, _, _, _ => none
    | _, _, _ => none
  | .raw (.slice a len c) => match bounds lo 0, bounds hi len with
    | some 0, some 0 => some (.raw (.slice (match Nat.beq c 0 with
      | true => a
      | false => a.map (·.add 0)) 0 c))
    | _, _ => none
  | _ => none

def lenF (P : Program) (H : Heap) (t : TypeId) (x : AV) : Option Nat :=
  match mkTI P t with
  | some { d := .slice _, .. } => lenOf x
  | some { d := .array n _, .. } => some n
  | some { d := .str, .. } => match x with
    | .str s => some s.size
    | _ => none
  | some { d := .map _ _, .. } => match x with
    | .nilm => some 0
    | .map b => match H.get b with
      | some (.map es _) => some es.length
      | _ => none
    | _ => none
  | _ => none

def appendT (P : Program) (H : Heap) (t u : TypeId) (s x : AV) : Option (AV × Heap) :=
  match mkTI P u with
  | some { d := .slice _, .. } => append P H t s x
  | _ => none

/-- What a slice holds, laid into cells that another one shows. -/
def copyAt (P : Program) (H : Heap) (t : TypeId) (b off len : Nat) (s : AV) : Option Out :=
  match mkTI P t with
  | some { d := .slice e, .. } => match mkTI P e with
    | some ei => match elems H s ei.size, lenOf s, H.get b with
      | some new, some n, some (.cells cs el) => match Nat.ble n len, atoms new with
        | true, true => (spl cs off new).map fun cs' => .val (.int .i64 (n : Int)) (H.put b (.cells cs' el))
        | _, _ => none
      | _, _, _ => none
    | none => none
  | _ => none

def builtinF (P : Program) (H : Heap) (b : Builtin) (tys : List TypeId) (args : List AV) : Option Out :=
  match b, tys, args with
  | .len, [t], [x] => (lenF P H t x).map fun (n : Nat) => .val (.int .i64 (n : Int)) H
  | .append, [t, u], [s, x] => (appendT P H t u s x).map fun (v, H) => .val v H
  | .copy, [t, _], [.slice b off len _, s] => copyAt P H t b off len s
  | .max, _, .int k a :: rest => (minmax true k a rest).map fun v => .val v H
  | .min, _, .int k a :: rest => (minmax false k a rest).map fun v => .val v H
  | _, _, _ => none

def evMove (T : Tr AV) (H : Heap) (x : Operand) : Option Out :=
  (opd T x).map fun v => .val v H

def evPick (T : Tr AV) (H : Heap) (c : Operand) (a : Operand) (b : Operand) : Option Out :=
  match opd T c with
  | some (.bool true) => (opd T a).map fun v => .val v H
  | some (.bool false) => (opd T b).map fun v => .val v H
  | _ => none

def evAlloc (P : Program) (H : Heap) (e : TypeId) : Option Out :=
  match mkTI P e with
  | some { zero := some z, .. } => some (.val (.ptr H.next 0) (H.new (.cells z e)))
  | _ => none

def evBox (T : Tr AV) (H : Heap) (e : TypeId) (x : Operand) : Option Out :=
  (opd T x).map fun v => .val (.ptr H.next 0) (H.new (.cells v.cells e))

def evBuild (P : Program) (T : Tr AV) (H : Heap) (t : TypeId) (ps : Array (Nat × Operand)) : Option Out :=
  match mkTI P t, parts T ps.toList with
  | some ti, some vs => match ti.zero, ti.d with
    | some z, .struct fs => match placesOf P fs with
      | some pl => (fillS (fun i => pl[i]?) z vs).map fun cs => .val (.agg cs) H
      | none => none
    | some z, .array _ e => match mkTI P e with
      | some ei => (fillS (fun i => some (i * ei.size, ei.size)) z vs).map fun cs => .val (.agg cs) H
      | none => none
    | _, _ => none
  | _, _ => none

def evBuildSlice (P : Program) (T : Tr AV) (H : Heap) (t : TypeId) (len : Nat) (ps : Array (Nat × Operand)) : Option Out :=
  match mkTI P t, parts T ps.toList with
  | some { d := .slice e, .. }, some vs => match mkTI P e with
    | some { size := sz, zero := some z, .. } => match Nat.ble (len * sz) 16777216, Nat.beq z.length sz with
      | true, true => (fillS (fun i => some (i * sz, sz)) (rep z len) vs).map fun cs => .val (.slice H.next 0 len len) (H.new (.cells cs e))
      | _, _ => none
    | _ => none
  | _, _ => none

def evLoad (P : Program) (T : Tr AV) (H : Heap) (t : TypeId) (x : Operand) : Option Out :=
  match opd T x with
  | some (.ptr b off) => (loadAt P H t b off).map fun v => .val v H
  | _ => none

def evStore (P : Program) (T : Tr AV) (H : Heap) (t : TypeId) (a : Operand) (x : Operand) : Option Out :=
  match opd T a, opd T x with
  | some (.ptr b off), some v => (storeAt P H t b off v).map .unit
  | _, _ => none

def evNil (T : Tr AV) (H : Heap) (x : Operand) : Option Out :=
  match opd T x with
  | some (.ptr b off) => some (.val (.ptr b off) H)
  | some (.fn f a b) => some (.val (.fn f a b) H)
  | some (.yield l) => some (.val (.yield l) H)
  | _ => none

def eqB (P : Program) (t : TypeId) (x y : AV) : Option Bool :=
  match x, y with
  | .str a, .str b => some (a == b)
  | .agg a, .agg b => match P.eqGuardType P.depth t with
    | true => none
    | false => eqT P 8 t (.agg a) (.agg b)
  | .nili, _ => none
  | x, y => eqT P 8 t x y

def binT (P : Program) (op : BinOp) (t : TypeId) (x y : AV) : Option AV :=
  match x, y with
  | .int k a, .int k' b => bin op k a k' b
  | x, y => match op with
    | .eql => (eqB P t x y).map .bool
    | .neq => (eqB P t x y).map fun b => .bool (!b)
    | _ => none

def evBin (P : Program) (T : Tr AV) (H : Heap) (op : BinOp) (t : TypeId) (x : Operand) (y : Operand) : Option Out :=
  match opd T x, opd T y with
  | some a, some b => (binT P op t a b).map fun v => .val v H
  | _, _ => none

def evUn (T : Tr AV) (H : Heap) (op : UnOp) (x : Operand) : Option Out :=
  match opd T x with
  | some a => (un op a).map fun v => .val v H
  | none => none

def evConv (P : Program) (T : Tr AV) (H : Heap) (src : TypeId) (dst : TypeId) (x : Operand) : Option Out :=
  match mkTI P src, mkTI P dst, opd T x with
  | some _, some { d := .int k, .. }, some (.int _ n) => some (.val (.int k (wrapF k n)) H)
  | _, _, _ => none

def evMakeFunc (T : Tr AV) (H : Heap) (fn : Fn) (first : Array Operand) (cap : Array Operand) : Option Out :=
  match fn, opds T first.toList, opds T cap.toList with
  | .func f, some a, some b => some (.val (.fn f a b) H)
  | _, _, _ => none

def evMakeMap (H : Heap) : Option Out :=
  some (.val (.map H.next) (H.new (.map [] 0)))

def evMakeSlice (P : Program) (T : Tr AV) (H : Heap) (t : TypeId) (l : Operand) (c : Operand) : Option Out :=
  match mkTI P t, opd T l, opd T c with
  | some { d := .slice e, .. }, some (.int .i64 (.ofNat n)), some (.int .i64 (.ofNat m)) => match mkTI P e with
    | some { size := sz, bytes := by_, zero := some z, .. } => match Nat.ble n m, Nat.ble m 1000000, Nat.ble by_ 1000000, Nat.beq z.length sz with
      | true, true, true, true => some (.val (.slice H.next 0 n m) (H.new (.cells (rep z m) e)))
      | _, _, _, _ => none
    | _ => none
  | _, _, _ => none

def evSlice (P : Program) (T : Tr AV) (H : Heap) (t : TypeId) (x : Operand) (lo : Option Operand) (hi : Option Operand) : Option Out :=
  match mkTI P t, opd T x, optd T lo, optd T hi with
  | some { d := .slice e, .. }, some s, some l, some h => match mkTI P e with
    | some ei => (sliceOf H ei.size s l h).map fun v => .val v H
    | none => none
  | some { d := .array n e, .. }, some (.ptr b off), some none, some h => match bounds h n, mkTI P e with
    | some m, some _ => match Nat.ble m n with
      | true => some (.val (.slice b off m n) H)
      | false => none
    | _, _ => none
  | _, _, _, _ => none

def evFieldAddr (P : Program) (T : Tr AV) (H : Heap) (s : TypeId) (x : Operand) (f : Nat) : Option Out :=
  match mkTI P s, opd T x with
  | some { d := .struct fs, .. }, some (.ptr b off) => match fs[f]? with
    | some fd => match mkTI P fd.type with
      | some fi => match fi.size with
        | 0 => none
        | _ => some (.val (.ptr b (off + fd.offset)) H)
      | none => none
    | none => none
  | _, _ => none

def evField (P : Program) (T : Tr AV) (H : Heap) (t : TypeId) (x : Operand) (f : Nat) : Option Out :=
  match mkTI P t, opd T x with
  | some { d := .struct fs, .. }, some (.agg cs) => match fs[f]? with
    | some fd => match mkTI P fd.type with
      | some fi => match fi.agg with
        | true => (seg cs fd.offset fi.size).map fun l => .val (.agg l) H
        | false => (cs[fd.offset]?).map fun v => .val v H
      | none => none
    | none => none
  | _, _ => none

def evIndexAddr (P : Program) (T : Tr AV) (H : Heap) (t : TypeId) (x : Operand) (i : Operand) : Option Out :=
  match mkTI P t, opd T x, opd T i with
  | some { d := .slice e, .. }, some (.slice b off len _), some (.int _ (.ofNat n)) => match Nat.blt n len, mkTI P e with
    | true, some ei => some (.val (.ptr b (off + n * ei.size)) H)
    | _, _ => none
  | some { d := .slice e, .. }, some (.opn b len), some (.int _ (.ofNat n)) => match Nat.blt n len, mkTI P e with
    | true, some ei => some (.val (.ptr b (n * ei.size)) H)
    | _, _ => none
  | some { d := .slice e, .. }, some (.tail b _ off len), some (.int _ (.ofNat n)) => match Nat.blt n len, mkTI P e with
    | true, some ei => some (.val (.ptr b (off + n * ei.size)) H)
    | _, _ => none
  | some { d := .array len e, .. }, some (.ptr b off), some (.int _ (.ofNat n)) => match Nat.blt n len, mkTI P e with
    | true, some ei => some (.val (.ptr b (off + n * ei.size)) H)
    | _, _ => none
  | _, _, _ => none

def mapOf (H : Heap) (m : AV) : Option (List (AV × AV × Nat)) :=
  match m with
  | .nilm => some []
  | .map b => match H.get b with
    | some (.map es _) => some es
    | _ => none
  | _ => none

def evLookup (P : Program) (T : Tr AV) (H : Heap) (t : TypeId) (x : Operand) (k : Operand) (ok : Bool) : Option Out :=
  match mkTI P t, opd T x, opd T k with
  | some { d := .map kt e, .. }, some m, some key => match mapOf H m, zeroV P e, chkT P 8 kt key with
    | some es, some z, true => match findK P kt key es 0 with
      | some (some (_, v, _)) => some (.val (match ok with | true => .tup [v, .bool true] | false => v) H)
      | some none => some (.val (match ok with | true => .tup [z, .bool false] | false => z) H)
      | none => none
    | _, _, _ => none
  | _, _, _ => none

def evMapUpdate (P : Program) (T : Tr AV) (H : Heap) (t : TypeId) (m : Operand) (k : Operand) (x : Operand) : Option Out :=
  match mkTI P t, opd T m, opd T k, opd T x with
  | some { d := .map kt _, .. }, some (.map b), some key, some v => match H.get b, chkT P 8 kt key with
    | some (.map es clock), true => match findK P kt key es 0 with
      | some (some (i, _, _)) => match keyAt es i key with
        | true => some (.unit (H.put b (.map (setV es i key v) clock)))
        | false => none
      | some none => some (.unit (H.put b (.map (es ++ [(key, v, clock)]) (clock + 1))))
      | none => none
    | _, _ => none
  | _, _, _, _ => none

def evMapEntry (P : Program) (T : Tr AV) (H : Heap) (t : TypeId) (m : Operand) (k : Operand) : Option Out :=
  match mkTI P t, opd T m, opd T k with
  | some { d := .map kt e, .. }, some (.map b), some key => match H.get b, zeroV P e, chkT P 8 kt key with
    | some (.map es clock), some z, true => match findK P kt key es 0 with
      | some (some (i, v, born)) => match keyAt es i key with
        | true => some (.val (.tup [v, .int .i64 born]) (H.put b (.map (setV es i key v) clock)))
        | false => none
      | some none => some (.val (.tup [z, .int .i64 clock]) (H.put b (.map (es ++ [(key, z, clock)]) (clock + 1))))
      | none => none
    | _, _, _ => none
  | _, _, _ => none

def evEntryStore (T : Tr AV) (H : Heap) (m : Operand) (s : Operand) (x : Operand) : Option Out :=
  match opd T m, opd T s, opd T x with
  | some (.map b), some (.int _ (.ofNat n)), some v => match H.get b with
    | some (.map es clock) => (bornAt es n v).map fun es' => .unit (H.put b (.map es' clock))
    | _ => none
  | _, _, _ => none

def evExtract (T : Tr AV) (H : Heap) (x : Operand) (i : Nat) : Option Out :=
  match opd T x with
  | some (.tup vs) => (vs[i]?).map fun v => .val v H
  | _ => none

def evCall (P : Program) (T : Tr AV) (H : Heap) (c : Call) : Option Out :=
  match opds T c.args.toList with
  | some args => match c.callee with
    | .value f => match opd T f with
      | some fv => callV fv args
      | none => none
    | .builtin b => builtinF P H b c.argTypes.toList args
    | .invoke _ _ => none
  | none => none

def evOp (P : Program) (T : Tr AV) (H : Heap) (o : Op) : Option Out :=
  match o with
  | .move x | .assign x => evMove T H x
  | .pick c a b => evPick T H c a b
  | .alloc e => evAlloc P H e
  | .box e x => evBox T H e x
  | .build t ps => evBuild P T H t ps
  | .buildSlice t len ps => evBuildSlice P T H t len ps
  | .load t x => evLoad P T H t x
  | .store t a x => evStore P T H t a x
  | .nilCheck x => evNil T H x
  | .binOp op t x y _ => evBin P T H op t x y
  | .unOp op _ x => evUn T H op x
  | .convert src dst x => evConv P T H src dst x
  | .makeFunc fn first cap => evMakeFunc T H fn first cap
  | .makeMap _ none => evMakeMap H
  | .makeSlice t l c => evMakeSlice P T H t l c
  | .slice t x lo hi none => evSlice P T H t x lo hi
  | .fieldAddr s x f => evFieldAddr P T H s x f
  | .field t x f => evField P T H t x f
  | .indexAddr t x i => evIndexAddr P T H t x i
  | .lookup t x k ok => evLookup P T H t x k ok
  | .mapUpdate t m k x => evMapUpdate P T H t m k x
  | .mapEntry t m k => evMapEntry P T H t m k
  | .entryStore _ m s x => evEntryStore T H m s x
  | .extract x i => evExtract T H x i
  | .call c => evCall P T H c
  | _ => none

inductive Job where
  | fn (f : FuncId) (args : List AV)
  | round (l : Nat) (args : List AV)

abbrev Rec := Job → Heap → Option (AV × Heap)

def undefA : AV := .tup []

def putD (T : Tr AV) (d : Option Tmp) (v : AV) : Tr AV :=
  @Option.rec Tmp (fun _ => Tr AV) T (fun d => Tr.lay v T (pos d)) d

def wantedA (ops : Array Oper) (g : Option (Nat × Bool)) (T : Tr AV) : Option Bool :=
  @Option.rec (Nat × Bool) (fun _ => Option Bool) (some true) (fun g => match (ops[g.1]?).bind (·.dst) with
    | some d => match T.get d with
      | some (.bool b) => some (b == g.2)
      | some (.raw _) => none
      | some _ => some false
      | none => none
    | none => some false) g

def retOf (r : Option (AV × Heap)) (T : Tr AV) (d : Option Tmp) (k : Tr AV → Heap → Option (Tr AV × Heap)) : Option (Tr AV × Heap) :=
  @Option.rec (AV × Heap) (fun _ => Option (Tr AV × Heap)) none (fun r => @Prod.rec AV Heap (fun _ => Option (Tr AV × Heap)) (fun v H => k (putD T d v) H) r) r

def outOf (rec : Rec) (T : Tr AV) (d : Option Tmp) (k : Tr AV → Heap → Option (Tr AV × Heap)) (H : Heap) (o : Option Out) : Option (Tr AV × Heap) :=
  @Option.rec Out (fun _ => Option (Tr AV × Heap)) none (fun o =>
    @Out.rec (fun _ => Option (Tr AV × Heap)) (fun v H => k (putD T d v) H) (fun H => k (putD T d undefA) H)
      (fun f args => retOf (rec (.fn f args) H) T d k) (fun l args => retOf (rec (.round l args) H) T d k) o) o

def evStep (P : Program) (rec : Rec) (ops : Array Oper) (o : Oper) (k : Tr AV → Heap → Option (Tr AV × Heap)) (T : Tr AV) (H : Heap) : Option (Tr AV × Heap) :=
  @Oper.rec (fun _ => Option (Tr AV × Heap)) (fun dst op _ _ _ guard =>
    @Option.rec Bool (fun _ => Option (Tr AV × Heap)) none (fun b =>
      @Bool.rec (fun _ => Option (Tr AV × Heap)) (k (putD T dst undefA) H) (outOf rec T dst k H (evOp P T H op)) b) (wantedA ops guard T)) o

def evOps (P : Program) (rec : Rec) (ops : Array Oper) (l : List Oper) : Tr AV → Heap → Option (Tr AV × Heap) :=
  @List.rec Oper (fun _ => Tr AV → Heap → Option (Tr AV × Heap)) (fun T H => some (T, H)) (fun o _ k T H => evStep P rec ops o k T H) l

/-! ### A region whose order is drawn -/
/-- What is reckoned of its operands alone. -/
def pureOp : Op → Bool
  | .move _ | .assign _ | .pick _ _ _ | .build _ _ | .nilCheck _ | .binOp _ _ _ _ _ | .unOp _ _ _ | .convert _ _ _ | .makeFunc _ _ _ | .fieldAddr _ _ _ | .field _ _ _ | .indexAddr _ _ _ | .extract _ _ => true
  | .call c => match c.callee with
    | .builtin .max => true
    | .builtin .min => true
    | _ => false
  | _ => false

/-- What reads memory, and turns nothing. -/
def readOp : Op → Bool
  | .load _ _ | .lookup _ _ _ _ | .slice _ _ _ _ _ => true
  | .call c => match c.callee with
    | .builtin .len => true
    | _ => false
  | _ => false

/-- What lays one new block. -/
def newOp : Op → Bool
  | .alloc _ | .box _ _ | .buildSlice _ _ _ | .makeSlice _ _ _ => true
  | _ => false

def bit (m i : Nat) : Bool := Nat.beq (Nat.mod (Nat.div m (Nat.pow 2 i)) 2) 1
def addBit (m i : Nat) : Nat := if bit m i then m else Nat.add m (Nat.pow 2 i)

def predsIn (done : Nat) (o : Oper) : Bool := o.after.toList.all fun e => !(Region.binds .any e) || bit done e.on
def isPred (o : Oper) (i : Nat) : Bool := o.after.toList.any fun e => Region.binds .any e && Nat.beq e.on i

def tmpsOf : List Operand → List Tmp
  | [] => []
  | .tmp t :: xs => t :: tmpsOf xs
  | _ :: xs => tmpsOf xs

/-- The temporaries that an operation looks at. -/
def readsOf (ops : Array Oper) (o : Oper) : List Tmp :=
  (match o.guard with
    | some g => match (ops[g.1]?).bind (·.dst) with
      | some d => [d]
      | none => []
    | none => []) ++ tmpsOf o.op.operands.toList

/-- Nobody but those that wait for it looks at its result. -/
def quietDst (ops : Array Oper) (l : List (Nat × Oper × List Tmp)) (i : Nat) (d : Tmp) : Bool :=
  l.all fun p => !(p.2.2.contains d) || isPred p.2.1 i

structure Entry where
  i : Nat
  o : Oper
  stable : Bool
  check : List Oper
  deriving Inhabited

def stableAt (ops : Array Oper) (l : List (Nat × Oper × List Tmp)) (p : Nat × Oper × List Tmp) : Bool :=
  (pureOp p.2.1.op || readOp p.2.1.op || newOp p.2.1.op) && (match p.2.1.dst with
    | some d => quietDst ops l p.1 d
    | none => false)

/-- One pass: the stable operations that can be taken. -/
def takeStable (ops : Array Oper) (l : List (Nat × Oper × List Tmp)) : List (Nat × Oper × List Tmp) → Nat → List Entry → Nat × List Entry
  | [], done, acc => (done, acc)
  | p :: ps, done, acc => match !(bit done p.1) && predsIn done p.2.1 && stableAt ops l p with
    | true => takeStable ops l ps (addBit done p.1) ({ i := p.1, o := p.2.1, stable := true, check := if newOp p.2.1.op then (acc.filter fun e => e.stable && readOp e.o.op).map (·.o) else [] } :: acc)
    | false => takeStable ops l ps done acc

def takeOne (l : List (Nat × Oper × List Tmp)) : List (Nat × Oper × List Tmp) → Nat → List Entry → Nat × List Entry
  | [], done, acc => (done, acc)
  | p :: ps, done, acc => match !(bit done p.1) && predsIn done p.2.1 with
    | true => (addBit done p.1, { i := p.1, o := p.2.1, stable := false, check := (acc.filter fun e => e.stable && readOp e.o.op && !(isPred p.2.1 e.i)).map (·.o) } :: acc)
    | false => takeOne l ps done acc

def planGo (ops : Array Oper) (l : List (Nat × Oper × List Tmp)) : Nat → Nat → List Entry → List Entry
  | 0, _, acc => acc.reverse
  | f + 1, done, acc =>
    let r := takeStable ops l l done acc
    let q := takeOne l l r.1 r.2
    planGo ops l f q.1 q.2

def withReads (ops : Array Oper) : List Oper → Nat → List (Nat × Oper × List Tmp)
  | [], _ => []
  | o :: os, i => (i, o, readsOf ops o) :: withReads ops os (i + 1)

/-- Is the plan one that serves whatever order is drawn? -/
def planOk (ops : Array Oper) (l : List (Nat × Oper × List Tmp)) : List Entry → Nat → Bool
  | [], done => l.all fun p => bit done p.1
  | e :: es, done =>
    (match l[e.i]? with
      | some p => Nat.beq p.1 e.i
      | none => false) && !(bit done e.i) && predsIn done e.o &&
    (match e.stable with
      | true => true
      | false => l.all fun p => bit done p.1 || Nat.beq p.1 e.i || !(predsIn done p.2.1)) &&
    planOk ops l es (addBit done e.i)

def noTwice : List (Option Tmp) → Bool
  | [] => true
  | none :: xs => noTwice xs
  | some d :: xs => !(xs.contains (some d)) && noTwice xs

def orderOk (l : List (Nat × Oper × List Tmp)) : Bool :=
  noTwice (l.map (·.2.1.dst)) && l.all fun p => l.all fun q => match p.2.1.dst with
    | some d => !(q.2.2.contains d) || (!(Nat.beq p.1 q.1) && (isPred q.2.1 p.1 || isPred p.2.1 q.1))
    | none => true

def planOf (ops : Array Oper) : Option (List Entry) :=
  let l := withReads ops ops.toList 0
  let pl := planGo ops l (l.length + 1) 0 []
  match planOk ops l pl 0 && orderOk l with
  | true => some pl
  | false => none

/-- The very same slice of what came in. -/
def rawEq : Value → Value → Bool
  | .slice a n c, .slice b m d => decide (a = b) && Nat.beq n m && Nat.beq c d
  | _, _ => false

mutual
def AV.eqv : AV → AV → Bool
  | .int k a, .int k' b => sameKind k k' && eqI a b
  | .bool a, .bool b => a == b
  | .str a, .str b => a == b
  | .ptr b o, .ptr b' o' => Nat.beq b b' && Nat.beq o o'
  | .nilp, .nilp => true
  | .slice a b c d, .slice a' b' c' d' => Nat.beq a a' && Nat.beq b b' && Nat.beq c c' && Nat.beq d d'
  | .opn a b, .opn a' b' => Nat.beq a a' && Nat.beq b b'
  | .tail a b c d, .tail a' b' c' d' => Nat.beq a a' && Nat.beq b b' && Nat.beq c c' && Nat.beq d d'
  | .nils, .nils => true
  | .map a, .map a' => Nat.beq a a'
  | .nilm, .nilm => true
  | .fn f a b, .fn f' a' b' => Nat.beq f f' && AV.eqvs a a' && AV.eqvs b b'
  | .yield a, .yield a' => Nat.beq a a'
  | .nilf, .nilf => true
  | .nili, .nili => true
  | .agg a, .agg a' => AV.eqvs a a'
  | .tup a, .tup a' => AV.eqvs a a'
  | .raw a, .raw b => rawEq a b
  | _, _ => false
def AV.eqvs : List AV → List AV → Bool
  | [], [] => true
  | x :: xs, y :: ys => AV.eqv x y && AV.eqvs xs ys
  | _, _ => false
end

/-- Does it still read what it read? -/
def still (P : Program) (ops : Array Oper) (T : Tr AV) (H : Heap) (o : Oper) : Bool :=
  match wantedA ops o.guard T with
  | some false => true
  | some true => match evOp P T H o.op, o.dst with
    | some (.val v _), some d => match T.get d with
      | some u => AV.eqv v u
      | none => false
    | _, _ => false
  | none => false

def stills (P : Program) (ops : Array Oper) (T : Tr AV) (H : Heap) : List Oper → Bool
  | [] => true
  | o :: os => match still P ops T H o with
    | true => stills P ops T H os
    | false => false

def evPlan (P : Program) (rec : Rec) (ops : Array Oper) : List Entry → Tr AV → Heap → Option (Tr AV × Heap)
  | [], T, H => some (T, H)
  | e :: es, T, H => evStep P rec ops e.o (fun T H => match stills P ops T H e.check with
    | true => evPlan P rec ops es T H
    | false => none) T H

def evRegion (P : Program) (rec : Rec) (ops : Array Oper) (draw : Bool) (T : Tr AV) (H : Heap) : Option (Tr AV × Heap) :=
  match draw with
  | false => evOps P rec ops ops.toList T H
  | true => match planOf ops with
    | some pl => evPlan P rec ops pl T H
    | none => none

inductive Ex where
  | norm
  | exit (id : Nat)
  | ret

def evLoop (body : St → Option (Ex × St)) : Nat → St → Option (Ex × St)
  | 0, _ => none
  | n + 1, s => match body s with
    | some (.norm, s) => evLoop body n s
    | r => r

def loopFuel : Nat := 1152921504606846976

def rangeStart (ro : Option Nat) (s : St) : Option (Nat × Heap × List Nat) :=
  match ro with
  | none => some (s.H.next, s.H.new .defd, [s.H.next])
  | some l => match s.H.get l with
    | some (.loop _ _ _ _ _ _ d) => some (d, s.H, [])
    | _ => none

def rangeEnd (s : St) (marks : List Nat) (l : Nat) (H3 : Heap) : Option (Ex × St) :=
  match H3.get l with
  | some (.loop st pending T2 ps2 as2 bd2 d2) => match st with
    | .busy => none
    | _ =>
      let s' : St := { T := s.T, D := marks ++ s.D, H := (H3.put l (.loop .exhausted pending T2 ps2 as2 bd2 d2)).put l .dead }
      match pending with
      | none => some (.norm, s')
      | some .ret => some (.ret, s')
      | some (.exit id) => some (.exit id, s')
      | _ => none
  | _ => none

def rangeGo (rec : Rec) (ps : Array Tmp) (assign body : Code) (s : St) (gv : AV) (d : Nat) (H1 : Heap) (marks : List Nat) : Option (Ex × St) :=
  match callV gv [.yield H1.next] with
  | some (.fn f args) => match rec (.fn f args) (H1.new (.loop .ready none s.T ps.toList assign body d)) with
    | some (_, H3) => rangeEnd s marks H1.next H3
    | none => none
  | _ => none

def evRange (rec : Rec) (ro : Option Nat) (g : Operand) (ps : Array Tmp) (assign body : Code) (s : St) : Option (Ex × St) :=
  match opd s.T g, rangeStart ro s with
  | some gv, some (d, H1, marks) => rangeGo rec ps assign body s gv d H1 marks
  | _, _ => none

def evCode (P : Program) (rec : Rec) (ro : Option Nat) : Code → St → Option (Ex × St)
  | .skip, s => some (.norm, s)
  | .region _ ops draw, s => match evRegion P rec ops draw s.T s.H with
    | some (T, H) => some (.norm, { s with T, H })
    | none => none
  | .seq x y, s => match evCode P rec ro x s with
    | some (.norm, s) => evCode P rec ro y s
    | r => r
  | .cond c x y, s => match opd s.T c with
    | some (.bool true) => evCode P rec ro x s
    | some (.bool false) => evCode P rec ro y s
    | _ => none
  | .block id c, s => match evCode P rec ro c s with
    | some (.exit id', s) => if Nat.beq id' id then some (.norm, s) else some (.exit id', s)
    | r => r
  | .loop c, s => evLoop (evCode P rec ro c) loopFuel s
  | .rangeFunc g ps assign body, s => evRange rec ro g ps assign body s
  | .exit id, s => some (.exit id, s)
  | .scope c, s => evCode P rec ro c s
  | .label _, s => some (.norm, s)
  | .ret, s => some (.ret, s)
  | _, _ => none

/-- A frame with nothing in it: a tree of some depth. -/
def blankD (d : Nat) : Tr AV := @Nat.rec (fun _ => Tr AV) .nil (fun _ t => .node none t t) d
def blank (n : Nat) : Tr AV := blankD (Nat.succ (Nat.log2 (Nat.succ n)))

/-- All temporaries that are written lie in the frame. -/
def codeOk (n : Nat) : Code → Bool
  | .region _ ops _ => ops.toList.all fun o => match o.dst with
    | some d => Nat.blt d n
    | none => true
  | .seq x y => codeOk n x && codeOk n y
  | .cond _ x y => codeOk n x && codeOk n y
  | .block _ c => codeOk n c
  | .loop c => codeOk n c
  | .scope c => codeOk n c
  | .rangeFunc _ ps as bd => ps.toList.all (fun d => Nat.blt d n) && codeOk n as && codeOk n bd
  | _ => true

def setArgs (T : Tr AV) : Nat → List AV → Tr AV
  | _, [] => T
  | i, v :: vs => setArgs (T.set i v) (i + 1) vs

def setPs (T : Tr AV) : List Tmp → List AV → Option (Tr AV)
  | [], [] => some T
  | p :: ps, v :: vs => setPs (T.set p v) ps vs
  | _, _ => none

def shuts : List Nat → Heap → Option Heap
  | [], H => some H
  | d :: ds, H => match H.get d with
    | some .defd => shuts ds (H.put d .shut)
    | _ => none

def resV (P : Program) (T : Tr AV) (H : Heap) : List ResultVar → Option (List AV)
  | [] => some []
  | .tmp t :: rs => match T.get t, resV P T H rs with
    | some v, some vs => some (v :: vs)
    | _, _ => none
  | .cell a t :: rs => match T.get a with
    | some (.ptr b off) => match loadAt P H t b off, resV P T H rs with
      | some v, some vs => some (v :: vs)
      | _, _ => none
    | _ => none

def resOf (vs : List AV) : AV :=
  match vs with
  | [v] => v
  | vs => .tup vs

mutual
/-- No name of a block in it. -/
def AV.flat : AV → Bool
  | .int _ _ | .bool _ | .str _ | .nilp | .nils | .nilm | .nilf | .nili => true
  | .agg vs | .tup vs => AV.flats vs
  | _ => false
def AV.flats : List AV → Bool
  | [] => true
  | v :: vs => match AV.flat v with
    | true => AV.flats vs
    | false => false
end

/-- Behind a call: where nothing older was written and nothing new is handed back, the heap is as it was. -/
def leave (H0 : Heap) (v : AV) (H : Heap) : AV × Heap :=
  match Nat.ble H0.next H.lo, v.flat with
  | true, true => (v, H0)
  | _, _ => (v, ⟨H.t, H.next, @Bool.rec (fun _ => Nat) H.lo H0.lo (Nat.ble H0.lo H.lo)⟩)

def evBack (P : Program) (fn : Func) (H0 : Heap) (s : St) : Option (AV × Heap) :=
  match shuts s.D s.H with
  | some H => match resV P s.T H fn.results.toList with
    | some vs => some (leave H0 (resOf vs) H)
    | none => none
  | none => none

def frameOk (fn : Func) : Bool :=
  match fn.body with
  | some c => codeOk fn.ntmps c
  | none => false

def evFn (P : Program) (rec : Rec) (f : FuncId) (args : List AV) (H : Heap) : Option (AV × Heap) :=
  match P.funcs[f]? with
  | some fn => match fn.body, fn.name == "runtime.NumGoroutine", frameOk fn with
    | some c, false, true => match Nat.ble args.length fn.ntmps with
      | false => none
      | true => match evCode P rec none c { T := setArgs (blank fn.ntmps) 0 args, D := [], H := ⟨H.t, H.next, H.next⟩ } with
        | some (.norm, s) | some (.ret, s) => evBack P fn H s
        | _ => none
    | _, _, _ => none
  | none => none



def endR (H : Heap) (l : Nat) (jump : Option Code) : Option (AV × Heap) :=
  match H.get l with
  | some (.loop _ _ T ps as bd d) => some (.bool jump.isNone, H.put l (.loop (if jump.isNone then .ready else .done) jump T ps as bd d))
  | _ => none

def evRound (P : Program) (rec : Rec) (l : Nat) (args : List AV) (H : Heap) : Option (AV × Heap) :=
  match H.get l with
  | some (.loop _ _ T ps assign body _) => match setPs T ps args with
    | some T' => match evCode P rec (some l) assign { T := T', D := [], H } with
      | some (.norm, s1) => match s1.H.get l with
        | some (.loop .ready pd T2 ps2 as2 bd2 d2) =>
          match evCode P rec (some l) body { s1 with H := s1.H.put l (.loop .busy pd T2 ps2 as2 bd2 d2) } with
          | some (.norm, s2) => endR s2.H l none
          | some (.ret, s2) => endR s2.H l (some .ret)
          | some (.exit id, s2) => endR s2.H l (some (.exit id))
          | none => none
        | _ => none
      | _ => none
    | none => none
  | _ => none

def run (P : Program) : Nat → Rec
  | 0 => fun _ _ => none
  | n + 1 => fun j H => match j with
    | .fn f args => evFn P (run P n) f args H
    | .round l args => evRound P (run P n) l args H

end
end Go.Ev

