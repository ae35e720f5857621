/-
  The evaluator of EvA once more, made so that the kernel does it fast: what is known of the code is reckoned once, and kept as a function.
-/
import Derived.Test.YtibplmibcbillaaEvA
namespace Go.Ev
noncomputable section

abbrev R := Option (Tr AV × Heap)
abbrev HF := Tr AV → Heap → Option Out
/-- Functions in a box: a closed box is opened once. -/
structure HK where
  f : HF
structure OK where
  f : Tr AV → Option AV
structure PK where
  f : Tr AV → AV → Tr AV
structure FK where
  f : Tr AV → Heap → R
structure CK where
  f : St → Option (Ex × St)

/-! Cases with closed arms. -/
def ptrE (v : AV) : (Nat → Nat → Option Out) → Option Out :=
  @AV.rec (fun _ => (Nat → Nat → Option Out) → Option Out) (fun _ => Unit)
    (fun _ _ _ => none) (fun _ _ => none) (fun _ _ => none) (fun b off k => k b off) (fun _ => none) (fun _ _ _ _ _ => none) (fun _ _ _ => none) (fun _ _ _ _ _ => none) (fun _ => none)
    (fun _ _ => none) (fun _ => none) (fun _ _ _ _ _ _ => none) (fun _ _ => none) (fun _ => none) (fun _ _ _ _ => none) (fun _ => none) (fun _ _ _ => none) (fun _ _ _ => none) (fun _ _ => none) () (fun _ _ _ _ => ()) v

def boolE (v : AV) : (Bool → Option Out) → Option Out :=
  @AV.rec (fun _ => (Bool → Option Out) → Option Out) (fun _ => Unit)
    (fun _ _ _ => none) (fun b k => k b) (fun _ _ => none) (fun _ _ _ => none) (fun _ => none) (fun _ _ _ _ _ => none) (fun _ _ _ => none) (fun _ _ _ _ _ => none) (fun _ => none)
    (fun _ _ => none) (fun _ => none) (fun _ _ _ _ _ _ => none) (fun _ _ => none) (fun _ => none) (fun _ _ _ _ => none) (fun _ => none) (fun _ _ _ => none) (fun _ _ _ => none) (fun _ _ => none) () (fun _ _ _ _ => ()) v

def bind1 (x : Option AV) (k : AV → Option Out) : Option Out := @Option.rec AV (fun _ => Option Out) none k x

def opdK (x : Operand) : OK :=
  @Operand.rec (fun _ => OK) (fun t => ⟨fun T => T.look (pos t)⟩) (fun v => ⟨fun _ => av v⟩) (fun _ => ⟨fun _ => none⟩) (fun f => ⟨fun _ => some (.fn f [] [])⟩) x
def opdF (x : Operand) : Tr AV → Option AV := fun T => (opdK x).f T

def moveF (x : Operand) : HF := fun T H => bind1 ((opdK x).f T) (fun v => some (.val v H))

def pickF (c a b : Operand) : HF := fun T H => bind1 ((opdK c).f T) (fun v => boolE v (fun t => @Bool.rec (fun _ => Option Out) (moveF b T H) (moveF a T H) t))

def boxF (e : TypeId) (x : Operand) : HF := fun T H => bind1 ((opdK x).f T) (fun v => some (.val (.ptr H.next 0) (H.new (.cells v.cells e))))

def cellsE (o : Option AObj) : (List AV → Option Out) → Option Out :=
  @Option.rec AObj (fun _ => (List AV → Option Out) → Option Out) (fun _ => none) (fun o =>
    @AObj.rec (fun _ => (List AV → Option Out) → Option Out) (fun cs _ k => k cs) (fun cs k => k cs) (fun cs _ _ k => k cs) (fun _ _ _ => none) (fun _ _ _ _ _ _ _ _ => none) (fun _ => none) (fun _ => none) (fun _ => none) (fun _ _ _ _ _ => none) o) o

def nthL (l : List AV) : Nat → Option AV :=
  @List.rec AV (fun _ => Nat → Option AV) (fun _ => none) (fun v _ g n => @Bool.rec (fun _ => Option AV) (g (Nat.pred n)) (some v) (Nat.beq n 0)) l

def takeL (n : Nat) : List AV → Option (List AV) :=
  @Nat.rec (fun _ => List AV → Option (List AV)) (fun _ => some []) (fun _ g l => @List.rec AV (fun _ => Option (List AV)) none (fun v r _ => @Option.rec (List AV) (fun _ => Option (List AV)) none (fun t => some (v :: t)) (g r)) l) n

def dropL (n : Nat) : List AV → List AV :=
  @Nat.rec (fun _ => List AV → List AV) (fun l => l) (fun _ g l => @List.rec AV (fun _ => List AV) [] (fun _ r _ => g r) l) n

def loadGo (agg : Bool) (size : Nat) : Heap → Nat → List AV → Option Out :=
  @Bool.rec (fun _ => Heap → Nat → List AV → Option Out)
    (fun H off cs => bind1 (nthL cs off) (fun v => some (.val v H)))
    (fun H off cs => @Option.rec (List AV) (fun _ => Option Out) none (fun l => some (.val (.agg l) H)) (takeL size (dropL off cs))) agg

def loadF (P : Program) (t : TypeId) (x : Operand) : HF :=
  @Option.rec TI (fun _ => HF) (fun _ _ => none) (fun ti => @id ((Heap → Nat → List AV → Option Out) → HF) (fun go T H => bind1 ((opdK x).f T) (fun v => ptrE v (fun b off => cellsE (H.t.look (pos b)) (go H off)))) (loadGo ti.agg ti.size)) (mkTI P t)

def opK (P : Program) (o : Op) : HK :=
  match o with
  | .move x | .assign x => ⟨moveF x⟩
  | .pick c a b => ⟨pickF c a b⟩
  | .box e x => ⟨boxF e x⟩
  | .load t x => ⟨loadF P t x⟩
  | .alloc e => ⟨fun _ H => evAlloc P H e⟩
  | .build t ps => ⟨fun T H => evBuild P T H t ps⟩
  | .buildSlice t len ps => ⟨fun T H => evBuildSlice P T H t len ps⟩
  | .store t a x => ⟨fun T H => evStore P T H t a x⟩
  | .binOp op t x y _ => ⟨fun T H => evBin P T H op t x y⟩
  | .unOp op _ x => ⟨fun T H => evUn T H op x⟩
  | .fieldAddr s x f => ⟨fun T H => evFieldAddr P T H s x f⟩
  | .indexAddr t x i => ⟨fun T H => evIndexAddr P T H t x i⟩
  | .extract x i => ⟨fun T H => evExtract T H x i⟩
  | .call c => ⟨fun T H => evCall P T H c⟩
  | o => ⟨fun T H => evOp P T H o⟩

def retE (r : Option (AV × Heap)) : (AV → Heap → R) → R :=
  @Option.rec (AV × Heap) (fun _ => (AV → Heap → R) → R) (fun _ => none) (fun p => @Prod.rec AV Heap (fun _ => (AV → Heap → R) → R) (fun v H k => k v H) p) r

def outE (rec : Rec) (H : Heap) (o : Option Out) : (AV → Heap → R) → R :=
  @Option.rec Out (fun _ => Rec → Heap → (AV → Heap → R) → R) (fun _ _ _ => none) (fun o =>
    @Out.rec (fun _ => Rec → Heap → (AV → Heap → R) → R) (fun v H _ _ k => k v H) (fun H _ _ k => k undefA H)
      (fun f args rec H k => retE (rec (.fn f args) H) k) (fun l args rec H k => retE (rec (.round l args) H) k) o) o rec H

def putK (d : Option Tmp) : PK :=
  @Option.rec Tmp (fun _ => PK) ⟨fun T _ => T⟩ (fun d => ⟨fun T v => Tr.lay v T (pos d)⟩) d

def stepGo (f : HK) (put : PK) (rec : Rec) (k : FK) : Tr AV → Heap → R :=
  fun T H => outE rec H (f.f T H) (fun v H => k.f (put.f T v) H)

def guardGo (w : Tr AV → Option Bool) (put : PK) (k yes : FK) : Tr AV → Heap → R :=
  fun T H => @Option.rec Bool (fun _ => R) none (fun b => @Bool.rec (fun _ => R) (k.f (put.f T undefA) H) (yes.f T H) b) (w T)

def stepF (P : Program) (rec : Rec) (ops : Array Oper) (o : Oper) (k : FK) : FK :=
  @Oper.rec (fun _ => FK) (fun dst op _ _ _ guard =>
    @Option.rec (Nat × Bool) (fun _ => FK) ⟨stepGo (opK P op) (putK dst) rec k⟩
      (fun g => ⟨guardGo (wantedA ops (some g)) (putK dst) k ⟨stepGo (opK P op) (putK dst) rec k⟩⟩) guard) o

def opsF (P : Program) (rec : Rec) (ops : Array Oper) (l : List Oper) : FK :=
  @List.rec Oper (fun _ => FK) ⟨fun T H => some (T, H)⟩ (fun o _ k => stepF P rec ops o k) l

abbrev CF := St → Option (Ex × St)

def exE (r : Option (Ex × St)) : CF → CF → (Nat → CF) → Option (Ex × St) :=
  @Option.rec (Ex × St) (fun _ => CF → CF → (Nat → CF) → Option (Ex × St)) (fun _ _ _ => none) (fun p =>
    @Prod.rec Ex St (fun _ => CF → CF → (Nat → CF) → Option (Ex × St)) (fun e s n r x => @Ex.rec (fun _ => CF → CF → (Nat → CF) → Option (Ex × St)) (fun n _ _ => n s) (fun id _ _ x => x id s) (fun _ r _ => r s) e n r x) p) r

def retK : CF := fun s => some (.ret, s)
def exitK (id : Nat) : CF := fun s => some (.exit id, s)
def normK : CF := fun s => some (.norm, s)

def seqF (fx fy : CK) : CK := ⟨fun s => exE (fx.f s) fy.f retK exitK⟩

def regionF (f : FK) : CK := ⟨fun s =>
  @Option.rec (Tr AV × Heap) (fun _ => Option (Ex × St)) none (fun p => @Prod.rec _ _ (fun _ => Option (Ex × St)) (fun T H => some (.norm, ⟨T, s.D, H⟩)) p) (f.f s.T s.H)⟩

def condE (v : Option AV) : CF → CF → CF :=
  @Option.rec AV (fun _ => CF → CF → CF) (fun _ _ _ => none) (fun v =>
   @AV.rec (fun _ => CF → CF → CF) (fun _ => Unit)
    (fun _ _ _ _ _ => none) (fun b x y => @Bool.rec (fun _ => CF → CF → CF) (fun _ y => y) (fun x _ => x) b x y) (fun _ _ _ _ => none) (fun _ _ _ _ _ => none) (fun _ _ _ => none) (fun _ _ _ _ _ _ _ => none) (fun _ _ _ _ _ => none) (fun _ _ _ _ _ _ _ => none) (fun _ _ _ => none)
    (fun _ _ _ _ => none) (fun _ _ _ => none) (fun _ _ _ _ _ _ _ _ => none) (fun _ _ _ _ => none) (fun _ _ _ => none) (fun _ _ _ _ _ _ => none) (fun _ _ _ => none) (fun _ _ _ _ _ => none) (fun _ _ _ _ _ => none) (fun _ _ _ _ => none) () (fun _ _ _ _ => ()) v) v

def condF (c : Operand) (fx fy : CK) : CK := ⟨fun s => condE ((opdK c).f s.T) fx.f fy.f s⟩

def blockK (id id' : Nat) : CF := @Bool.rec (fun _ => CF) (exitK id') normK (Nat.beq id' id)
def blockF (id : Nat) (f : CK) : CK := ⟨fun s => exE (f.f s) normK retK (blockK id)⟩

def loopF (f : CK) (n : Nat) : CF :=
  @Nat.rec (fun _ => CF) (fun _ => none) (fun _ go s => exE (f.f s) go retK exitK) n

def checkF (P : Program) (ops : Array Oper) (c : List Oper) (k : FK) : FK := match c with
  | [] => k
  | o :: os => ⟨fun T H => match stills P ops T H (o :: os) with
    | true => k.f T H
    | false => none⟩

def planGoF (P : Program) (rec : Rec) (ops : Array Oper) (l : List Entry) : FK :=
  @List.rec Entry (fun _ => FK) ⟨fun T H => some (T, H)⟩ (fun e _ k => stepF P rec ops e.o (checkF P ops e.check k)) l

def planK (P : Program) (rec : Rec) (ops : Array Oper) : FK := match planOf ops with
  | some pl => planGoF P rec ops pl
  | none => ⟨fun _ _ => none⟩

def regionD (P : Program) (rec : Rec) (ops : Array Oper) (draw : Bool) : CK :=
  @Bool.rec (fun _ => CK) (regionF (opsF P rec ops ops.toList)) (regionF (planK P rec ops)) draw

def codeF (P : Program) (rec : Rec) (ro : Option Nat) (c : Code) : CK :=
  @Code.rec (fun _ => CK) ⟨normK⟩ (fun _ ops draw => regionD P rec ops draw) (fun _ _ fx fy => seqF fx fy) (fun c _ _ fx fy => condF c fx fy)
    (fun id _ f => blockF id f) (fun _ f => ⟨loopF f loopFuel⟩) (fun g ps as bd _ _ => ⟨fun s => evRange rec ro g ps as bd s⟩) (fun id => ⟨exitK id⟩) (fun _ f => f) (fun _ => ⟨normK⟩) (fun _ => ⟨fun _ => none⟩) ⟨retK⟩ (fun _ => ⟨fun _ => none⟩) c

def backF (P : Program) (fn : Func) (H : Heap) (r : Option (Ex × St)) : Option (AV × Heap) := match r with
  | some (.norm, s) | some (.ret, s) => evBack P fn H s
  | _ => none

structure TK where
  t : Tr AV
def callGo (P : Program) (fn : Func) (k : CK) (b : TK) : List AV → Heap → Option (AV × Heap) := fun args H => match Nat.ble args.length fn.ntmps with
  | false => none
  | true => backF P fn H (k.f ⟨setArgs b.t 0 args, [], ⟨H.t, H.next, H.next⟩⟩)
def callF (P : Program) (fn : Func) (k : CK) : List AV → Heap → Option (AV × Heap) := callGo P fn k ⟨blank fn.ntmps⟩

def fnF (P : Program) (rec : Rec) (f : FuncId) : List AV → Heap → Option (AV × Heap) :=
  match P.funcs[f]? with
  | some fn => match fn.body, fn.name == "runtime.NumGoroutine", frameOk fn with
    | some c, false, true => callF P fn (codeF P rec none c)
    | _, _, _ => fun _ _ => none
  | none => fun _ _ => none

def roundF (P : Program) (rec : Rec) (l : Nat) (args : List AV) (H : Heap) : Option (AV × Heap) :=
  match H.get l with
  | some (.loop _ _ T ps assign body _) => match setPs T ps args with
    | some T' => match (codeF P rec (some l) assign).f { T := T', D := [], H } with
      | some (.norm, s1) => match s1.H.get l with
        | some (.loop .ready pd T2 ps2 as2 bd2 d2) =>
          match (codeF P rec (some l) body).f { s1 with H := s1.H.put l (.loop .busy pd T2 ps2 as2 bd2 d2) } with
          | some (.norm, s2) => endR s2.H l none
          | some (.ret, s2) => endR s2.H l (some .ret)
          | some (.exit id, s2) => endR s2.H l (some (.exit id))
          | none => none
        | _ => none
      | _ => none
    | none => none
  | _ => none

def runF (P : Program) (n : Nat) : Rec :=
  @Nat.rec (fun _ => Rec) (fun _ _ => none) (fun _ r j => @Job.rec (fun _ => Heap → Option (AV × Heap)) (fun f args => fnF P r f args) (fun l args => roundF P r l args) j) n
end
end Go.Ev

