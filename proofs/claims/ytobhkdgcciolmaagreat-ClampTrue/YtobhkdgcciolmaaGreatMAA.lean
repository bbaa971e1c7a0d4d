import GoSem.Step
import Derived.Defers
import Derived.Recover
set_option linter.unusedSimpArgs false
namespace Go.AbsE
inductive AVal where
 | int (k : IntKind) (n : Int)
 | bool (b : Bool)
 | str (s : ByteArray)
 | nilptr
 | ptr (b off : Nat)
 | nilslice
 | slice (b off len cap : Nat)
 | gsl (b off i len : Nat)
 | nilmap
 | map (b : Nat)
 | nilfunc
 | func (fn : Fn) (first cap : List AVal)
 | yield (l : Nat)
 | nilIface
 | iface (t : TypeId) (v : AVal)
 | agg (cs : List AVal)
 | tuple (vs : List AVal)
 | lit (n : Nat) (cs : List AVal)
 deriving Inhabited
inductive Tr (α : Type) where
 | leaf
 | node (x : Option α) (a b c d : Tr α)
inductive Pth where
 | here
 | a (p : Pth)
 | b (p : Pth)
 | c (p : Pth)
 | d (p : Pth)
 | nowhere
 deriving DecidableEq
noncomputable def mkP (i : Nat) (p : Pth) : Pth :=
 Nat.rec (motive := fun _ => Pth) (.a p) (fun i _ => Nat.rec (motive := fun _ => Pth) (.b p) (fun i _ => Nat.rec (motive := fun _ => Pth) (.c p) (fun _ _ => .d p) i) i) i
noncomputable def pthF (f : Nat) : Nat → Pth :=
 Nat.rec (motive := fun _ => Nat → Pth) (fun _ => .here)
  (fun _ ih n => Nat.rec (motive := fun _ => Pth) .here (fun m _ => mkP (m % 4) (ih (m / 4))) n) f
noncomputable def pth (n : Nat) : Pth := pthF n n
namespace Tr
variable {α : Type}
noncomputable def get (t : Tr α) (p : Pth) : Option α :=
 Pth.rec (motive := fun _ => Tr α → Option α)
  (fun t => Tr.rec (motive := fun _ => Option α) none (fun x _ _ _ _ _ _ _ _ => x) t)
  (fun _ ih t => Tr.rec (motive := fun _ => Option α) none (fun _ a _ _ _ _ _ _ _ => ih a) t)
  (fun _ ih t => Tr.rec (motive := fun _ => Option α) none (fun _ _ b _ _ _ _ _ _ => ih b) t)
  (fun _ ih t => Tr.rec (motive := fun _ => Option α) none (fun _ _ _ c _ _ _ _ _ => ih c) t)
  (fun _ ih t => Tr.rec (motive := fun _ => Option α) none (fun _ _ _ _ d _ _ _ _ => ih d) t)
  (fun _ => none) p t
noncomputable def put (t : Tr α) (p : Pth) (v : Option α) : Tr α :=
 Pth.rec (motive := fun _ => Tr α → Tr α)
  (fun t => Tr.rec (motive := fun _ => Tr α) (.node v .leaf .leaf .leaf .leaf) (fun _ a b c d _ _ _ _ => .node v a b c d) t)
  (fun _ ih t => Tr.rec (motive := fun _ => Tr α) (.node none (ih .leaf) .leaf .leaf .leaf) (fun x a b c d _ _ _ _ => .node x (ih a) b c d) t)
  (fun _ ih t => Tr.rec (motive := fun _ => Tr α) (.node none .leaf (ih .leaf) .leaf .leaf) (fun x a b c d _ _ _ _ => .node x a (ih b) c d) t)
  (fun _ ih t => Tr.rec (motive := fun _ => Tr α) (.node none .leaf .leaf (ih .leaf) .leaf) (fun x a b c d _ _ _ _ => .node x a b (ih c) d) t)
  (fun _ ih t => Tr.rec (motive := fun _ => Tr α) (.node none .leaf .leaf .leaf (ih .leaf)) (fun x a b c d _ _ _ _ => .node x a b c (ih d)) t)
  (fun t => t) p t
structure PG (α : Type) where
 run : Tr α → Option α
noncomputable def mkGet (p : Pth) : PG α :=
 Pth.rec (motive := fun _ => PG α)
  ⟨fun t => Tr.rec (motive := fun _ => Option α) none (fun x _ _ _ _ _ _ _ _ => x) t⟩
  (fun _ ih => ⟨fun t => Tr.rec (motive := fun _ => Option α) none (fun _ a _ _ _ _ _ _ _ => ih.run a) t⟩)
  (fun _ ih => ⟨fun t => Tr.rec (motive := fun _ => Option α) none (fun _ _ b _ _ _ _ _ _ => ih.run b) t⟩)
  (fun _ ih => ⟨fun t => Tr.rec (motive := fun _ => Option α) none (fun _ _ _ c _ _ _ _ _ => ih.run c) t⟩)
  (fun _ ih => ⟨fun t => Tr.rec (motive := fun _ => Option α) none (fun _ _ _ _ d _ _ _ _ => ih.run d) t⟩)
  ⟨fun _ => none⟩ p
structure PP (α : Type) where
 run : Tr α → α → Tr α
noncomputable def mkPut (p : Pth) : PP α :=
 Pth.rec (motive := fun _ => PP α)
  ⟨fun t v => Tr.rec (motive := fun _ => Tr α) (.node (some v) .leaf .leaf .leaf .leaf) (fun _ a b c d _ _ _ _ => .node (some v) a b c d) t⟩
  (fun _ ih => ⟨fun t v => Tr.rec (motive := fun _ => Tr α) (.node none (ih.run .leaf v) .leaf .leaf .leaf) (fun x a b c d _ _ _ _ => .node x (ih.run a v) b c d) t⟩)
  (fun _ ih => ⟨fun t v => Tr.rec (motive := fun _ => Tr α) (.node none .leaf (ih.run .leaf v) .leaf .leaf) (fun x a b c d _ _ _ _ => .node x a (ih.run b v) c d) t⟩)
  (fun _ ih => ⟨fun t v => Tr.rec (motive := fun _ => Tr α) (.node none .leaf .leaf (ih.run .leaf v) .leaf) (fun x a b c d _ _ _ _ => .node x a b (ih.run c v) d) t⟩)
  (fun _ ih => ⟨fun t v => Tr.rec (motive := fun _ => Tr α) (.node none .leaf .leaf .leaf (ih.run .leaf v)) (fun x a b c d _ _ _ _ => .node x a b c (ih.run d v)) t⟩)
  ⟨fun t _ => t⟩ p
end Tr
structure AEntry where
 v : AVal
 recovered : Bool
inductive ADef where
 | call (fn : Fn) (cap : List AVal) (args : List AVal)
 | collected (b : Nat)
inductive AMode where
 | run
 | returning
 | panicking (chain : List AEntry)
structure AMapE where
 key : Value
 val : AVal
 born : Nat
structure ALoop where
 state : LoopState
 pending : Option Code
 fn : FuncId
 n : Nat
 tmps : Tr AVal
 params : List Tmp
 assign : Code
 body : Code
 defers : Nat
inductive Kd where
 | plain
 | grow
 | ro
def Kd.isRo : Kd → Bool
 | .ro => true
 | _ => false
inductive ABlk where
 | cells (kd : Kd) (cs : List AVal) (elem : TypeId)
 | win (lo : Nat) (cs : List AVal)
 | map (es : List AMapE) (clock : Nat)
 | loop (l : ALoop)
 | deferred (ds : Option (List ADef))
 | iter (m since : Nat) (seen : List Nat) (stepped : Nat)
 | romap (es : List AMapE) (clock : Nat)
structure DOp where
 i : Nat
 bef : Nat
 quiet : Bool
 o : Oper
 lit : Bool
structure DFact where
 i : Nat
 o : Oper
 v : AVal
 t : Tr AVal
 lit : Bool
inductive AItem where
 | code (c : Code)
 | inBlock (id : Nat)
 | inLoop (body : Code)
 | inScope (body : Code)
 | inRegion (all : Array Oper) (i : Nat) (rest : List Oper)
 | inRangeFunc (l : Nat)
 | endRangeFunc (l : Nat)
 | beginRound
 | inDrawn (all : Array Oper) (c : List DOp) (facts : List DFact) (ta : Tr AVal)
 | waitDrawn (all : Array Oper) (c : List DOp) (facts : List DFact) (ta : Tr AVal)
structure AFr where
 fn : FuncId
 n : Nat
 tmps : Tr AVal
 todo : List AItem
 defers : List ADef
 mode : AMode
 deferredKind : Bool
 round : Option Nat
structure AH where
 t : Tr ABlk
 next : Nat
structure AM where
 stack : List AFr
 h : AH
noncomputable def pureRun (P : Program) {α : Type} : Sem α → Option α
 | .pure a => some a
 | .program k => pureRun P (k P)
 | _ => none
mutual
noncomputable def AVal.ground : AVal → Option Value
 | .int k n => some (.int k n)
 | .bool b => some (.bool b)
 | .str s => some (.string s)
 | .agg cs => match grounds cs with | some l => some (.agg l.toArray) | none => none
 | .tuple cs => match grounds cs with | some l => some (.tuple l.toArray) | none => none
 | _ => none
noncomputable def grounds : List AVal → Option (List Value)
 | [] => some []
 | a :: r => match a.ground with
  | some v => match grounds r with | some l => some (v :: l) | none => none
  | none => none
end
noncomputable def absS : Value → Option AVal
 | .int k n => some (.int k n)
 | .bool b => some (.bool b)
 | .string s => some (.str s)
 | .pointer none => some .nilptr
 | .slice none 0 0 => some .nilslice
 | .map none => some .nilmap
 | .nilFunc => some .nilfunc
 | .nilIface => some .nilIface
 | _ => none
noncomputable def mapO {α β : Type} (f : α → Option β) : List α → Option (List β)
 | [] => some []
 | a :: r => match f a with
  | some b => match mapO f r with | some l => some (b :: l) | none => none
  | none => none
noncomputable def absV : Value → Option AVal
 | .agg cs => match mapO absS cs.toList with | some l => some (.agg l) | none => none
 | .tuple cs => match mapO absS cs.toList with | some l => some (.tuple l) | none => none
 | .iface t v => match absS v with | some a => some (.iface t a) | none => none
 | .func (.yield _) _ _ => none
 | .func fn ⟨[]⟩ ⟨[]⟩ => some (.func fn [] [])
 | v => absS v
noncomputable def AVal.cells : AVal → List AVal
 | .agg cs => cs
 | v => [v]
noncomputable def ev (t : Tr AVal) : Operand → Option AVal
 | .tmp i => (Tr.mkGet (pth i)).run t
 | .const v => absV v
 | .func f => some (.func (.func f) [] [])
 | .global _ => none
noncomputable def evs (t : Tr AVal) (l : List Operand) : Option (List AVal) := mapO (ev t) l
noncomputable def isAggT (P : Program) (t : TypeId) : Option Bool :=
 match P.underlying t with
 | some (.struct _) => some true
 | some (.array _ _) => some true
 | some _ => some false
 | none => none
noncomputable def sizeT (P : Program) (t : TypeId) : Option Nat := match P.info? t with | some i => some i.size | none => none
noncomputable def bytesT (P : Program) (t : TypeId) : Option Nat := match P.info? t with | some i => some i.bytes | none => none
noncomputable def zeroT (P : Program) (t : TypeId) : Option AVal :=
 match P.info? t with
 | some i => match i.zero with | some v => absV v | none => none
 | none => none
noncomputable def AH.get (h : AH) (b : Nat) : Option ABlk := match h with | ⟨t, _⟩ => t.get (pth b)
noncomputable def AH.set (h : AH) (b : Nat) (o : Option ABlk) : Option AH :=
 match h with | ⟨t, next⟩ => some ⟨t.put (pth b) o, next⟩
noncomputable def AH.new (h : AH) (o : ABlk) : Option (Nat × AH) :=
 match h with | ⟨t, next⟩ => some (next, ⟨t.put (pth next) (some o), Nat.succ next⟩)
noncomputable def slice? {α : Type} (l : List α) (off n : Nat) : Option (List α) :=
 let r := (l.drop off).take n
 cond (Nat.beq r.length n) (some r) none
noncomputable def splice {α : Type} : List α → Nat → List α → Option (List α)
 | l, 0, [] => some l
 | _ :: l, 0, x :: xs => match splice l 0 xs with | some r => some (x :: r) | none => none
 | [], 0, _ :: _ => none
 | y :: l, n + 1, xs => match splice l n xs with | some r => some (y :: r) | none => none
 | [], _ + 1, _ => none
noncomputable def loadCells (h : AH) (b off n : Nat) : Option (List AVal) :=
 match h.get b with
 | some (.cells _ cs _) => slice? cs off n
 | some (.win lo cs) => cond (Nat.ble lo off) (slice? cs (off - lo) n) none
 | _ => none
noncomputable def scalar : AVal → Bool
 | .agg _ => false
 | .tuple _ => false
 | .lit _ _ => false
 | _ => true
noncomputable def scalars : List AVal → Bool
 | [] => true
 | a :: l => cond (scalar a) (scalars l) false
noncomputable def storeCells (h : AH) (b off : Nat) (vs : List AVal) : Option AH :=
 match h.get b with
 | some (.cells g cs e) => cond g.isRo none (cond (scalars vs) (match splice cs off vs with | some cs => h.set b (some (.cells g cs e)) | none => none) none)
 | _ => none
noncomputable def loadVar (P : Program) (h : AH) (t : TypeId) (b off : Nat) : Option AVal :=
 match isAggT P t with
 | some true => match sizeT P t with
  | some n => match loadCells h b off n with | some cs => some (.agg cs) | none => none
  | none => none
 | some false => match loadCells h b off 1 with
  | some [v] => some v
  | _ => none
 | none => none
noncomputable def storeVar (P : Program) (h : AH) (t : TypeId) (b off : Nat) (v : AVal) : Option AH :=
 match sizeT P t with
 | some n => cond (Nat.beq v.cells.length n) (storeCells h b off v.cells) none
 | none => none
noncomputable def partT (P : Program) (t : TypeId) (cs : List AVal) (off : Nat) : Option AVal :=
 match isAggT P t with
 | some true => match sizeT P t with
  | some n => match slice? cs off n with | some l => some (.agg l) | none => none
  | none => none
 | some false => match slice? cs off 1 with
  | some [v] => some v
  | _ => none
 | none => none
inductive ANext where
 | val (v : AVal) (h : AH)
 | enter (f : FuncId) (args : List AVal) (h : AH)
 | round (l : Nat) (args : List AVal) (h : AH)
 | defer (d : ADef) (h : AH)
 | recover (h : AH)
 | panic (v : AVal) (h : AH)
noncomputable def undefA : AVal := .tuple []
noncomputable def valO (h : AH) : Option AVal → Option ANext
 | some v => some (.val v h)
 | none => none
noncomputable def aFunc (P : Program) (f : FuncId) : Option Func :=
 match P.funcs[f]? with
 | some fn => cond (fn.name == "runtime.NumGoroutine") none (match fn.body with | some _ => some fn | none => none)
 | none => none
noncomputable def aEnter (P : Program) (f : FuncId) (args : List AVal) (h : AH) : Option ANext :=
 match aFunc P f with
 | some _ => some (.enter f args h)
 | none => none
noncomputable def aFollow (P : Program) : List FieldStep → TypeId → AVal → Option (TypeId × AVal)
 | [], t, x => some (t, x)
 | s :: rest, _, x =>
  match P.underlying s.struct, x with
  | some (.struct fields), .agg cs =>
   match fields[s.index]? with
   | some f => cond s.deref none (match partT P f.type cs f.offset with | some y => aFollow P rest f.type y | none => none)
   | none => none
  | _, _ => none
noncomputable def findM (name : String) : List Method → Option Method
 | [] => none
 | m :: r => cond (m.name == name) (some m) (findM name r)
noncomputable def aMethod (P : Program) : Nat → TypeId → AVal → String → Option (FuncId × AVal)
 | 0, _, _, _ => none
 | k + 1, t, v, name =>
  match P.info? t with
  | none => none
  | some i =>
   match findM name i.methods.toList with
   | none => none
   | some m =>
    match aFollow P m.path.toList t v with
    | none => none
    | some (xt, x) =>
     match m.func with
     | none => match x with | .iface t' v' => aMethod P k t' v' name | _ => none
     | some (f, ptr) =>
      match P.underlying xt, ptr with
      | some (.pointer _), true => some (f, x)
      | some (.pointer _), false => none
      | some _, false => some (f, x)
      | _, _ => none
noncomputable def aInvokeIface (P : Program) (recv : AVal) (name : String) (args : List AVal) (h : AH) : Option ANext :=
 match recv with
 | .iface t v => match aMethod P 8 t v name with
  | some (f, r) => aEnter P f (r :: args) h
  | none => none
 | _ => none
noncomputable def aInvoke (P : Program) (fn : Fn) (cap args : List AVal) (h : AH) : Option ANext :=
 match fn with
 | .func f => aEnter P f (args ++ cap) h
 | .method name => match args with | recv :: r => aInvokeIface P recv name r h | [] => none
 | .methodOf t name => match args with
  | recv :: r => match P.underlying t with
   | some (.interface _) => aInvokeIface P recv name r h
   | some _ => aInvokeIface P (.iface t recv) name r h
   | none => none
  | [] => none
 | .via t path f pointer => match args with
  | x :: r => match aFollow P path.toList t x with
   | some (xt, y) => match P.underlying xt, pointer with
    | some (.pointer _), true => aEnter P f (y :: r) h
    | some (.pointer _), false => none
    | some _, false => aEnter P f (y :: r) h
    | _, _ => none
   | none => none
  | [] => none
 | .yield _ => none
noncomputable def wrap64 (n : Int) : Int :=
 match n with
 | .ofNat m => cond (Nat.blt m 9223372036854775808) (.ofNat m) (IntKind.i64.wrap (.ofNat m))
 | .negSucc m => cond (Nat.blt m 9223372036854775808) (.negSucc m) (IntKind.i64.wrap (.negSucc m))
noncomputable def addI (a b : Int) : Int :=
 match a with
 | .ofNat m => match b with
  | .ofNat n => wrap64 (.ofNat (Nat.add m n))
  | .negSucc _ => wrap64 (a + b)
 | .negSucc _ => wrap64 (a + b)
noncomputable def subI (a b : Int) : Int :=
 match a with
 | .ofNat m => match b with
  | .ofNat n => cond (Nat.ble n m) (wrap64 (.ofNat (Nat.sub m n))) (wrap64 (a - b))
  | .negSucc _ => wrap64 (a - b)
 | .negSucc _ => wrap64 (a - b)
noncomputable def eqI (a b : Int) : Bool :=
 match a with
 | .ofNat m => match b with | .ofNat n => Nat.beq m n | .negSucc _ => false
 | .negSucc m => match b with | .ofNat _ => false | .negSucc n => Nat.beq m n
noncomputable def ltI (a b : Int) : Bool :=
 match a with
 | .ofNat m => match b with | .ofNat n => Nat.blt m n | .negSucc _ => false
 | .negSucc m => match b with | .ofNat _ => true | .negSucc n => Nat.blt n m
noncomputable def binI (P : Program) (op : BinOp) (t : TypeId) (a b : Int) : Option AVal :=
 match op with
 | .add => some (.int .i64 (addI a b))
 | .sub => some (.int .i64 (subI a b))
 | .eql => some (.bool (eqI a b))
 | .neq => some (.bool (not (eqI a b)))
 | .lss => some (.bool (ltI a b))
 | .leq => some (.bool (not (ltI b a)))
 | .gtr => some (.bool (ltI b a))
 | .geq => some (.bool (not (ltI a b)))
 | _ => match pureRun P (binOp op t (.int .i64 a) (.int .i64 b)) with | some v => absV v | none => none
noncomputable def binAgg (P : Program) (op : BinOp) (t : TypeId) (xs ys : List AVal) : Option AVal :=
 match grounds xs, grounds ys with
 | some X, some Y => cond (P.eqGuardType P.depth t) none (match pureRun P (binOp op t (.agg X.toArray) (.agg Y.toArray)) with | some v => absV v | none => none)
 | _, _ => none
noncomputable def eqOrNeq (P : Program) (op : BinOp) (t : TypeId) (b : Bool) : Option AVal :=
 match P.underlying t with
 | some (.interface _) => match op with | .eql => some (.bool b) | .neq => some (.bool (not b)) | _ => none
 | _ => none
noncomputable def binOther (P : Program) (op : BinOp) (t : TypeId) (kst : Bool) (x y : AVal) : Option AVal :=
 match x, y with
 | .nilIface, .nilIface => cond kst (eqOrNeq P op t true) none
 | .nilIface, .iface _ _ => eqOrNeq P op t false
 | .iface _ _, .nilIface => eqOrNeq P op t false
 | .agg xs, .agg ys => binAgg P op t xs ys
 | .int k a, .int k' b => match pureRun P (binOp op t (.int k a) (.int k' b)) with | some v => absV v | none => none
 | .bool a, .bool b => match pureRun P (binOp op t (.bool a) (.bool b)) with | some v => absV v | none => none
 | .str a, .str b => match pureRun P (binOp op t (.string a) (.string b)) with | some v => absV v | none => none
 | _, _ => none
noncomputable def aBinOp (P : Program) (op : BinOp) (t : TypeId) (kst : Bool) (x y : AVal) : Option AVal :=
 match x with
 | .int k a => match k with
  | .i64 => match y with
   | .int k' b => match k' with
    | .i64 => binI P op t a b
    | _ => binOther P op t kst x y
   | _ => none
  | _ => binOther P op t kst x y
 | _ => binOther P op t kst x y
noncomputable def aIdx (i : Int) : Option Nat := match i with | .ofNat n => some n | .negSucc _ => none
noncomputable def aInt : AVal → Option Nat
 | .int _ (.ofNat n) => some n
 | _ => none
noncomputable def aFillA (place : Nat → Option (Nat × Nat)) (cells : List AVal) : List (Nat × AVal) → Option (List AVal)
 | [] => some cells
 | (i, v) :: rest =>
  match place i with
  | none => none
  | some (off, size) => cond (Nat.beq v.cells.length size) (match splice cells off v.cells with | some cs => aFillA place cs rest | none => none) none
noncomputable def placesT (P : Program) : List Field → Option (List (Nat × Nat))
 | [] => some []
 | f :: r => match sizeT P f.type with
  | some n => match placesT P r with | some l => some ((f.offset, n) :: l) | none => none
  | none => none
noncomputable def evParts (t : Tr AVal) : List (Nat × Operand) → Option (List (Nat × AVal))
 | [] => some []
 | (i, x) :: r => match ev t x with
  | some v => match evParts t r with | some l => some ((i, v) :: l) | none => none
  | none => none
noncomputable def repl {α : Type} (z : List α) : Nat → List α
 | 0 => []
 | n + 1 => z ++ repl z n
noncomputable def aSlElems (s : AVal) : Option (Nat × Nat × Nat) :=
 match s with
 | .slice b off len _ => some (b, off, len)
 | .gsl b off _ len => some (b, off, len)
 | _ => none
noncomputable def srcCells (h : AH) (size n : Nat) (s : AVal) : Option (List AVal) :=
 match s with
 | .nilslice => some []
 | .slice b off _ _ => loadCells h b off (n * size)
 | .gsl b off _ _ => loadCells h b off (n * size)
 | .lit _ cs => slice? cs 0 (n * size)
 | _ => none
noncomputable def lenA : AVal → Option Nat
 | .lit n _ => some n
 | .nilslice => some 0
 | .slice _ _ n _ => some n
 | .gsl _ _ _ n => some n
 | _ => none
noncomputable def growNew (h : AH) (e : TypeId) (cs : List AVal) (len : Nat) : Option ANext :=
 match h.new (.cells .grow cs e) with
 | some (b, h) => some (.val (.gsl b 0 0 len) h)
 | none => none
noncomputable def eqSize (P : Program) (t : TypeId) (n : Nat) : Bool :=
 match sizeT P t with
 | some m => Nat.beq m n
 | none => false
noncomputable def appSlice (h : AH) (e size b off len cap n : Nat) (old : Option (List AVal)) (new : List AVal) : Option ANext :=
 cond (Nat.ble (len + n) cap)
  (match storeCells h b (off + len * size) new with | some h => some (.val (.slice b off (len + n) cap) h) | none => none)
  (match old with
   | some old => growNew h e (old ++ new) (len + n)
   | none => none)
noncomputable def appGsl (P : Program) (h : AH) (e size b off i len n : Nat) (old : Option (List AVal)) (new : List AVal) : Option ANext :=
 match h.get b with
 | some (.cells .grow cs el) =>
  cond (Nat.beq off (i * size)) (cond (eqSize P el size) (cond (Nat.beq el e)
   (cond (Nat.ble (off + (len + n) * size) cs.length)
    (match storeCells h b (off + len * size) new with | some h => some (.val (.gsl b off i (len + n)) h) | none => none)
    (cond (Nat.beq i 0) (cond (scalars new)
     (match old with
     | some old => match h.set b none with
      | some h => growNew h e (old ++ new) (len + n)
      | none => none
     | none => none) none) none)) none) none) none
 | _ => none
noncomputable def aAppend (P : Program) (h : AH) (t1 t2 : TypeId) (s x : AVal) : Option ANext :=
 match P.underlying t1, P.underlying t2 with
 | some (.slice e), some (.slice _) =>
  match sizeT P e, bytesT P e, zeroT P e, lenA s, lenA x with
  | some size, some bytes, some z, some sl, some n =>
   match srcCells h size n x with
   | none => none
   | some new =>
    cond (Nat.blt ((sl + n + 300) * 2 * (bytes + 1)) 281474976710656) (cond (Nat.blt 0 size) (cond (Nat.beq z.cells.length size)
     (match s with
     | .nilslice => cond (Nat.beq n 0) (some (.val .nilslice h)) (growNew h e new n)
     | .slice b off len cap => appSlice h e size b off len cap n (srcCells h size len s) new
     | .gsl b off i len => appGsl P h e size b off i len n (srcCells h size len s) new
     | .lit m cs => cond (Nat.beq n 0) (some (.val (.lit m cs) h)) (match srcCells h size m s with | some old => growNew h e (old ++ new) (m + n) | none => none)
     | _ => none) none) none) none
  | _, _, _, _, _ => none
 | _, _ => none
noncomputable def aBuiltin (P : Program) (h : AH) (b : Builtin) (argTypes : Array TypeId) (type : TypeId) (consts : Array Bool) (args : List AVal) : Option ANext :=
 match b with
 | .len => match args, argTypes.toList with
  | [x], t :: _ =>
   match P.underlying t with
   | some (.slice _) => match lenA x with | some n => some (.val (.int .i64 n) h) | none => none
   | some (.array n _) => some (.val (.int .i64 n) h)
   | some .string => match x with | .str s => some (.val (.int .i64 s.size) h) | _ => none
   | some (.map _ _) => match x with
    | .nilmap => some (.val (.int .i64 0) h)
    | .map b => match h.get b with | some (.map es _) => some (.val (.int .i64 es.length) h) | _ => none
    | _ => none
   | _ => none
  | _, _ => none
 | .append => match args, argTypes.toList with
  | [s, x], [t1, t2] => aAppend P h t1 t2 s x
  | _, _ => none
 | .copy => match args, argTypes.toList with
  | [d, s], t :: _ =>
   match P.underlying t with
   | some (.slice e) => match sizeT P e, lenA d, lenA s with
    | some size, some dl, some sl =>
     match srcCells h size (Nat.min sl dl) s with
     | none => none
     | some cs => match aSlElems d with
      | some (b, off, _) => match storeCells h b off cs with | some h => some (.val (.int .i64 (Nat.min sl dl)) h) | none => none
      | none => match d with | .nilslice => some (.val (.int .i64 0) h) | _ => none
    | _, _, _ => none
   | _ => none
  | _, _ => none
 | .recover => some (.recover h)
 | .panic => match args with
  | [.iface t v] => some (.panic (.iface t v) h)
  | _ => none
 | .min | .max => match grounds args with
  | some l => match pureRun P (builtin b argTypes type consts l.toArray) with
   | some (.value v) => valO h (absV v)
   | _ => none
  | none => none
 | .clear => match args, argTypes.toList with
  | [x], t :: _ => match P.underlying t with
   | some (.slice e) => match x, zeroT P e with
    | .slice b off n _, some z => cond (Nat.beq n 0) (some (.val undefA h)) (match storeCells h b off (repl z.cells n) with | some h => some (.val undefA h) | none => none)
    | _, _ => none
   | _ => none
  | _, _ => none
 | _ => none
noncomputable def aMapFind (P : Program) (kt : TypeId) (k : Value) : List AMapE → Option (Option AVal)
 | [] => some none
 | e :: r => match pureRun P (Op.equal kt k e.key) with
  | some true => some (some e.val)
  | some false => aMapFind P kt k r
  | none => none
noncomputable def aMapSet (P : Program) (kt : TypeId) (k : Value) (v : AVal) (clock : Nat) : List AMapE → Option (List AMapE × Nat)
 | [] => some ([{ key := k, val := v, born := clock }], clock + 1)
 | e :: r => match pureRun P (Op.equal kt k e.key) with
  | some true => cond (Instr.sameBits 10000 e.key k) (some ({ e with key := k, val := v } :: r, clock)) none
  | some false => match aMapSet P kt k v clock r with | some (l, c) => some (e :: l, c) | none => none
  | none => none
noncomputable def bound (x : Option AVal) (d : Nat) (top : Nat) : Option Nat :=
 match x with
 | none => some d
 | some v => match aInt v with
  | some n => cond (Nat.ble n top) (some n) none
  | none => none
noncomputable def evO (t : Tr AVal) : Option Operand → Option (Option AVal)
 | none => some none
 | some x => match ev t x with | some v => some (some v) | none => none
noncomputable def nilCheckOk (P : Program) : AVal → Bool
 | .nilptr | .nilIface | .nilfunc | .yield _ => false
 | .func (.method name) (.iface t w :: _) _ => match aMethod P 8 t w name with | some _ => true | none => false
 | .func (.method _) _ _ => false
 | _ => true
noncomputable def opPick (t : Tr AVal) (h : AH) (c a b : Operand) : Option ANext :=
 match ev t c with
 | some (.bool x) => cond x (valO h (ev t a)) (valO h (ev t b))
 | _ => none
noncomputable def ptrTo (x : Option (Nat × AH)) : Option ANext :=
 match x with
 | some (b, h) => some (.val (.ptr b 0) h)
 | none => none
noncomputable def opAlloc (P : Program) (h : AH) (e : TypeId) : Option ANext :=
 match zeroT P e with
 | some z => ptrTo (h.new (.cells .plain z.cells e))
 | none => none
noncomputable def opBox (t : Tr AVal) (h : AH) (e : TypeId) (x : Operand) : Option ANext :=
 match ev t x with
 | some v => ptrTo (h.new (.cells .plain v.cells e))
 | none => none
noncomputable def opBuild (P : Program) (t : Tr AVal) (h : AH) (ty : TypeId) (parts : Array (Nat × Operand)) : Option ANext :=
 match zeroT P ty, evParts t parts.toList, P.underlying ty with
 | some z, some ps, some (.struct fields) => match placesT P fields.toList with
  | some pl => match aFillA (fun i => pl[i]?) z.cells ps with | some cs => some (.val (.agg cs) h) | none => none
  | none => none
 | some z, some ps, some (.array _ elem) => match sizeT P elem with
  | some size => match aFillA (fun i => some (i * size, size)) z.cells ps with | some cs => some (.val (.agg cs) h) | none => none
  | none => none
 | _, _, _ => none
noncomputable def opBuildSlice (P : Program) (t : Tr AVal) (h : AH) (ty : TypeId) (len : Nat) (parts : Array (Nat × Operand)) : Option ANext :=
 match P.underlying ty, evParts t parts.toList with
 | some (.slice elem), some ps => match sizeT P elem, zeroT P elem with
  | some size, some z =>
   cond (Nat.ble (len * size) 100000) (cond (Nat.beq z.cells.length size)
    (match aFillA (fun i => some (i * size, size)) (repl z.cells len) ps with
    | some cs => match h.new (.cells .plain cs elem) with | some (b, h) => some (.val (.slice b 0 len len) h) | none => none
    | none => none) none) none
  | _, _ => none
 | _, _ => none
noncomputable def opLoad (P : Program) (t : Tr AVal) (h : AH) (ty : TypeId) (a : Operand) : Option ANext :=
 match ev t a with
 | some (.ptr b off) => valO h (loadVar P h ty b off)
 | _ => none
noncomputable def opStore (P : Program) (t : Tr AVal) (h : AH) (ty : TypeId) (a x : Operand) : Option ANext :=
 match ev t a, ev t x with
 | some (.ptr b off), some v => match storeVar P h ty b off v with | some h => some (.val undefA h) | none => none
 | _, _ => none
noncomputable def opNilCheck (P : Program) (t : Tr AVal) (h : AH) (x : Operand) : Option ANext :=
 match ev t x with
 | some v => cond (nilCheckOk P v) (some (.val v h)) none
 | none => none
def isConstO : Operand → Bool
 | .const _ => true
 | _ => false
noncomputable def opBin (P : Program) (t : Tr AVal) (h : AH) (op : BinOp) (ty : TypeId) (x y : Operand) : Option ANext :=
 match ev t x, ev t y with
 | some a, some b => valO h (aBinOp P op ty (isConstO x || isConstO y) a b)
 | _, _ => none
noncomputable def opUn (P : Program) (t : Tr AVal) (h : AH) (op : UnOp) (x : Operand) : Option ANext :=
 match ev t x with
 | some (.bool b) => match op with | .not => some (.val (.bool (not b)) h) | _ => none
 | some (.int k n) => match pureRun P (Op.unary op (.int k n)) with | some r => valO h (absV r) | none => none
 | _ => none
noncomputable def opConvert (P : Program) (t : Tr AVal) (h : AH) (src dst : TypeId) (x : Operand) : Option ANext :=
 match ev t x with
 | some (.int k n) => match pureRun P (convert src dst (.int k n)) with | some r => valO h (absV r) | none => none
 | _ => none
noncomputable def opMakeInterface (P : Program) (t : Tr AVal) (h : AH) (ty : TypeId) (x : Operand) : Option ANext :=
 match P.underlying ty, ev t x with
 | some (.interface _), _ => none
 | some _, some v => some (.val (.iface ty v) h)
 | _, _ => none
noncomputable def opMakeFunc (t : Tr AVal) (h : AH) (fn : Fn) (first cap : Array Operand) : Option ANext :=
 match fn with
 | .yield _ => none
 | _ => match evs t first.toList, evs t cap.toList with
  | some f, some c => some (.val (.func fn f c) h)
  | _, _ => none
noncomputable def opMakeMap (h : AH) : Option ANext :=
 match h.new (.map [] 0) with
 | some (b, h) => some (.val (.map b) h)
 | none => none
noncomputable def opMakeSlice (P : Program) (t : Tr AVal) (h : AH) (ty : TypeId) (l c : Operand) : Option ANext :=
 match P.underlying ty, ev t l, ev t c with
 | some (.slice elem), some (.int .i64 (.ofNat l)), some (.int .i64 (.ofNat c)) =>
  match sizeT P elem, bytesT P elem, zeroT P elem with
  | some size, some bytes, some z =>
   cond (Nat.ble l c) (cond (Nat.ble ((c + 1) * (bytes + 1)) 1000000) (cond (Nat.beq z.cells.length size)
    (match h.new (.cells .plain (repl z.cells c) elem) with | some (b, h) => some (.val (.slice b 0 l c) h) | none => none) none) none) none
  | _, _, _ => none
 | _, _, _ => none
noncomputable def cut (len cap : Nat) (lo hi : Option AVal) : Option (Nat × Nat) :=
 match bound hi len cap with
 | some hh => match bound lo 0 hh with
  | some l => some (l, hh)
  | none => none
 | none => none
noncomputable def sliceOf (P : Program) (h : AH) (size : Nat) (v : AVal) (lo hi : Option AVal) : Option ANext :=
 match v with
 | .slice b off len cap => match cut len cap lo hi with
  | some (l, hh) => cond (Nat.ble len cap) (cond (Nat.beq l cap) (some (.val (.slice b off (hh - l) (cap - l)) h)) (some (.val (.slice b (off + l * size) (hh - l) (cap - l)) h))) none
  | none => none
 | .gsl b off i len => match cut len len lo hi, h.get b with
  | some (l, hh), some (.cells .grow cs el) => cond (Nat.beq off (i * size)) (cond (Nat.ble (off + len * size) cs.length) (cond (Nat.blt 0 size) (cond (eqSize P el size)
    (cond (Nat.beq l 0) (some (.val (.gsl b off i hh) h)) (cond (Nat.blt l len) (some (.val (.gsl b (off + l * size) (i + l) (hh - l)) h)) none)) none) none) none) none
  | _, _ => none
 | .nilslice => match cut 0 0 lo hi with
  | some _ => some (.val .nilslice h)
  | none => none
 | _ => none
noncomputable def sliceOfArr (h : AH) (n size : Nat) (v : AVal) (lo hi : Option AVal) : Option ANext :=
 match v with
 | .ptr b off => match cut n n lo hi with
  | some (l, hh) => cond (Nat.beq l n) (some (.val (.slice b off (hh - l) (n - l)) h)) (some (.val (.slice b (off + l * size) (hh - l) (n - l)) h))
  | none => none
 | _ => none
noncomputable def opSlice (P : Program) (t : Tr AVal) (h : AH) (ty : TypeId) (x : Operand) (lo hi : Option Operand) : Option ANext :=
 match ev t x, evO t lo, evO t hi with
 | some v, some lo, some hi => match P.underlying ty with
  | some (.slice elem) => match sizeT P elem with | some size => sliceOf P h size v lo hi | none => none
  | some (.array n elem) => match sizeT P elem with | some size => sliceOfArr h n size v lo hi | none => none
  | _ => none
 | _, _, _ => none
noncomputable def opSlice3 (P : Program) (t : Tr AVal) (h : AH) (ty : TypeId) (x lo hi mx : Operand) : Option ANext :=
 match P.underlying ty, ev t x with
 | some (.slice elem), some (.slice b off _ cap) => match sizeT P elem, ev t lo, ev t hi, ev t mx with
  | some size, some lv, some hv, some mv => match aInt lv, aInt hv, aInt mv with
   | some l, some hh, some m => cond (Nat.ble l hh) (cond (Nat.ble hh m) (cond (Nat.ble m cap) (cond (Nat.beq m l) (some (.val (.slice b off (hh - l) (m - l)) h)) (some (.val (.slice b (off + l * size) (hh - l) (m - l)) h))) none) none) none
   | _, _, _ => none
  | _, _, _, _ => none
 | _, _ => none
noncomputable def opFieldAddr (P : Program) (t : Tr AVal) (h : AH) (s : TypeId) (x : Operand) (f : Nat) : Option ANext :=
 match P.underlying s, ev t x with
 | some (.struct fields), some (.ptr b off) => match fields[f]? with
  | some fd => match sizeT P fd.type with
   | some n => cond (Nat.beq n 0) none (some (.val (.ptr b (off + fd.offset)) h))
   | none => none
  | none => none
 | _, _ => none
noncomputable def opField (P : Program) (t : Tr AVal) (h : AH) (s : TypeId) (x : Operand) (f : Nat) : Option ANext :=
 match P.underlying s, ev t x with
 | some (.struct fields), some (.agg cs) => match fields[f]? with
  | some fd => valO h (partT P fd.type cs fd.offset)
  | none => none
 | _, _ => none
noncomputable def opIndexAddr (P : Program) (t : Tr AVal) (h : AH) (ty : TypeId) (x i : Operand) : Option ANext :=
 match P.underlying ty, ev t x, ev t i with
 | some (.array len elem), some (.ptr b off), some (.int _ (.ofNat i)) => match sizeT P elem with
  | some size => cond (Nat.blt i len) (some (.val (.ptr b (off + i * size)) h)) none
  | none => none
 | some (.slice elem), some s, some (.int _ (.ofNat i)) => match sizeT P elem, aSlElems s with
  | some size, some (b, off, len) => cond (Nat.blt i len) (some (.val (.ptr b (off + i * size)) h)) none
  | _, _ => none
 | _, _, _ => none
noncomputable def opIndex (P : Program) (t : Tr AVal) (h : AH) (ty : TypeId) (x i : Operand) : Option ANext :=
 match P.underlying ty, ev t x, ev t i with
 | some (.array len elem), some (.agg cs), some (.int _ (.ofNat i)) => match sizeT P elem with
  | some size => cond (Nat.blt i len) (valO h (partT P elem cs (i * size))) none
  | none => none
 | some .string, some (.str s), some (.int k n) => match pureRun P (Instr.index ty (.string s) (.int k n)) with | some r => valO h (absV r) | none => none
 | _, _, _ => none
noncomputable def okPair (commaOk ok : Bool) (v : AVal) (h : AH) : Option ANext :=
 some (.val (cond commaOk (.tuple [v, .bool ok]) v) h)
noncomputable def opLookup (P : Program) (t : Tr AVal) (h : AH) (ty : TypeId) (x k : Operand) (commaOk : Bool) : Option ANext :=
 match P.underlying ty, ev t x, ev t k with
 | some (.map kt et), some (.map b), some key => match h.get b, key.ground, zeroT P et with
  | some (.map es _), some K, some z =>
   match pureRun P (Instr.checkKey es.isEmpty 10000 kt K) with
   | some _ => match aMapFind P kt K es with
    | some (some v) => okPair commaOk true v h
    | some none => okPair commaOk false z h
    | none => none
   | none => none
  | _, _, _ => none
 | _, _, _ => none
noncomputable def opMapUpdate (P : Program) (t : Tr AVal) (h : AH) (ty : TypeId) (m k x : Operand) : Option ANext :=
 match P.underlying ty, ev t m, ev t k, ev t x with
 | some (.map kt _), some (.map b), some key, some v => match h.get b, key.ground with
  | some (.map es clock), some K =>
   match pureRun P (Instr.checkKey false 10000 kt K) with
   | some _ => match aMapSet P kt K v clock es with
    | some (es, clock) => match h.set b (some (.map es clock)) with | some h => some (.val undefA h) | none => none
    | none => none
   | none => none
  | _, _ => none
 | _, _, _, _ => none
noncomputable def findBorn (s : Nat) : List AMapE → Option AMapE
 | [] => none
 | en :: l => cond (Nat.beq en.born s) (some en) (findBorn s l)
noncomputable def lastOf : List Nat → Option Nat
 | [] => none
 | x :: l => match lastOf l with | some y => some y | none => some x
noncomputable def mapB (h : AH) (b : Nat) : Option (List AMapE × Nat) :=
 match h.get b with
 | some (.map es c) => some (es, c)
 | some (.romap es c) => some (es, c)
 | _ => none
noncomputable def opRange (P : Program) (t : Tr AVal) (h : AH) (ty : TypeId) (x : Operand) : Option ANext :=
 match P.underlying ty, ev t x with
 | some (.map _ _), some (.map b) => match mapB h b with
  | some (_, clock) => ptrTo (h.new (.iter b clock [] clock))
  | _ => none
 | _, _ => none
noncomputable def entryV (en : AMapE) : Option AVal :=
 match absV en.key with | some k => some (.tuple [k, en.val]) | none => none
noncomputable def entryIn (h : AH) (es : List AMapE) (seen : List Nat) : Option ANext :=
 match lastOf seen with
 | some s => match findBorn s es with
  | some en => valO h (entryV en)
  | none => none
 | none => none
noncomputable def opEntry (t : Tr AVal) (h : AH) (it : Operand) : Option ANext :=
 match ev t it with
 | some (.ptr b 0) => match h.get b with
  | some (.iter m _ seen stepped) => match mapB h m with
   | some (es, clock) => cond (Nat.beq clock stepped) (entryIn h es seen) none
   | none => none
  | _ => none
 | _ => none
noncomputable def failPair (P : Program) (h : AH) (asserted : TypeId) (commaOk : Bool) : Option ANext :=
 cond commaOk (match zeroT P asserted with | some z => okPair true false z h | none => none) none
noncomputable def opTypeAssert (P : Program) (t : Tr AVal) (h : AH) (x : Operand) (asserted : TypeId) (commaOk : Bool) : Option ANext :=
 match P.underlying asserted, ev t x with
 | some (.interface _), _ => none
 | some _, some (.iface ty v) => cond (Nat.beq ty asserted) (okPair commaOk true v h) (failPair P h asserted commaOk)
 | some _, some .nilIface => failPair P h asserted commaOk
 | _, _ => none
noncomputable def opExtract (t : Tr AVal) (h : AH) (x : Operand) (i : Nat) : Option ANext :=
 match ev t x with
 | some (.tuple vs) => valO h (vs[i]?)
 | _ => none
noncomputable def callWith (P : Program) (t : Tr AVal) (h : AH) (callee : Callee) (argTypes : Array TypeId) (consts : Array Bool) (type : TypeId) (args : List AVal) : Option ANext :=
 match callee with
 | .builtin b => aBuiltin P h b argTypes type consts args
 | .invoke r name => match ev t r with
  | some recv => aInvokeIface P recv name args h
  | none => none
 | .value f => match ev t f with
  | some (.func fn first cap) => aInvoke P fn cap (first ++ args) h
  | some (.yield l) => some (.round l args h)
  | _ => none
noncomputable def opCall (P : Program) (t : Tr AVal) (h : AH) (c : Call) (type : TypeId) : Option ANext :=
 match evs t c.args.toList with
 | none => none
 | some args => callWith P t h c.callee c.argTypes (c.args.map fun | .const _ => true | _ => false) type args
noncomputable def opDefer (t : Tr AVal) (h : AH) (c : Call) : Option ANext :=
 match evs t c.args.toList with
 | none => none
 | some args => match c.callee with
  | .value f => match ev t f with
   | some (.func fn first cap) => some (.defer (.call fn cap (first ++ args)) h)
   | _ => none
  | _ => none
noncomputable def opPanic (t : Tr AVal) (h : AH) (x : Operand) : Option ANext :=
 match ev t x with
 | some (.iface ty v) => some (.panic (.iface ty v) h)
 | _ => none
structure PH where
 run : Tr AVal → AH → Option ANext
noncomputable def prep (P : Program) (o : Oper) : PH :=
 match o.op with
 | .move x => ⟨fun t h => valO h (ev t x)⟩
 | .assign x => ⟨fun t h => valO h (ev t x)⟩
 | .pick c a b => ⟨fun t h => opPick t h c a b⟩
 | .alloc e => ⟨fun _ h => opAlloc P h e⟩
 | .box e x => ⟨fun t h => opBox t h e x⟩
 | .build ty parts => ⟨fun t h => opBuild P t h ty parts⟩
 | .buildSlice ty len parts => ⟨fun t h => opBuildSlice P t h ty len parts⟩
 | .load ty a => ⟨fun t h => opLoad P t h ty a⟩
 | .store ty a x => ⟨fun t h => opStore P t h ty a x⟩
 | .nilCheck x => ⟨fun t h => opNilCheck P t h x⟩
 | .binOp op ty x y _ => ⟨fun t h => opBin P t h op ty x y⟩
 | .unOp op _ x => ⟨fun t h => opUn P t h op x⟩
 | .convert src dst x => ⟨fun t h => opConvert P t h src dst x⟩
 | .makeInterface ty x => ⟨fun t h => opMakeInterface P t h ty x⟩
 | .makeFunc fn first cap => ⟨fun t h => opMakeFunc t h fn first cap⟩
 | .makeMap _ none => ⟨fun _ h => opMakeMap h⟩
 | .makeSlice ty l c => ⟨fun t h => opMakeSlice P t h ty l c⟩
 | .slice ty x lo hi none => ⟨fun t h => opSlice P t h ty x lo hi⟩
 | .slice ty x (some lo) (some hi) (some mx) => ⟨fun t h => opSlice3 P t h ty x lo hi mx⟩
 | .fieldAddr s x f => ⟨fun t h => opFieldAddr P t h s x f⟩
 | .field s x f => ⟨fun t h => opField P t h s x f⟩
 | .indexAddr ty x i => ⟨fun t h => opIndexAddr P t h ty x i⟩
 | .index ty x i => ⟨fun t h => opIndex P t h ty x i⟩
 | .lookup ty x k commaOk => ⟨fun t h => opLookup P t h ty x k commaOk⟩
 | .mapUpdate ty m k x => ⟨fun t h => opMapUpdate P t h ty m k x⟩
 | .typeAssert x _ asserted commaOk => ⟨fun t h => opTypeAssert P t h x asserted commaOk⟩
 | .range ty x => ⟨fun t h => opRange P t h ty x⟩
 | .entry it => ⟨fun t h => opEntry t h it⟩
 | .extract x i => ⟨fun t h => opExtract t h x i⟩
 | .call c => ⟨fun t h => opCall P t h c o.type⟩
 | .defer c => ⟨fun t h => opDefer t h c⟩
 | .panic x => ⟨fun t h => opPanic t h x⟩
 | _ => ⟨fun _ _ => none⟩
noncomputable def aOp (P : Program) (t : Tr AVal) (h : AH) (o : Oper) : Option ANext := (prep P o).run t h
inductive R where
 | norm (t : Tr AVal) (h : AH)
 | exit (id : Nat) (t : Tr AVal) (h : AH)
 | ret (t : Tr AVal) (h : AH)
 | susp (k : List AItem) (t : Tr AVal) (x : ANext)
 | slow (k : List AItem) (t : Tr AVal) (h : AH)
 | stuck (i : Nat)
noncomputable def wantedA (all : Array Oper) (t : Tr AVal) (o : Oper) : Option Bool :=
 match o.guard with
 | none => some true
 | some (j, want) => match all[j]? with
  | some oj => match oj.dst with
   | some d => match t.get (pth d) with
    | some (.bool b) => some (cond b want (not want))
    | some _ => some false
    | none => none
   | none => none
  | none => none
structure PW where
 run : Tr AVal → Option Bool
noncomputable def prepW (all : Array Oper) (o : Oper) : PW :=
 match o.guard with
 | none => ⟨fun _ => some true⟩
 | some _ => ⟨fun t => wantedA all t o⟩
structure PD where
 run : Tr AVal → AVal → Option (Tr AVal)
noncomputable def prepD (n : Nat) (o : Oper) : PD :=
 match o.dst with
 | none => ⟨fun t _ => some t⟩
 | some i => cond (Nat.blt i n) ⟨fun t v => some ((Tr.mkPut (pth i)).run t v)⟩ ⟨fun _ _ => none⟩
structure PF where
 run : Tr AVal → AH → R
structure PK where
 run : AH → Option (Tr AVal) → R
structure PA where
 run : Tr AVal → Option ANext → R
structure PB where
 run : Tr AVal → AH → Option Bool → R
noncomputable def contP (i : Nat) (kf : PF) : PK := ⟨fun h x => match x with | some t => kf.run t h | none => .stuck i⟩
noncomputable def afterP (n i : Nat) (all : Array Oper) (o : Oper) (rest : List Oper) (kf : PF) : PA :=
 ⟨fun t x => match x with
  | none => .stuck i
  | some x => match x with
   | .val v h => (contP i kf).run h ((prepD n o).run t v)
   | x => .susp [.inRegion all i (o :: rest)] t x⟩
noncomputable def guardP (P : Program) (n i : Nat) (all : Array Oper) (o : Oper) (rest : List Oper) (kf : PF) : PB :=
 ⟨fun t h w => match w with
  | none => .stuck i
  | some w => cond w ((afterP n i all o rest kf).run t ((prep P o).run t h)) ((contP i kf).run h ((prepD n o).run t undefA))⟩
noncomputable def opP (P : Program) (n i : Nat) (all : Array Oper) (o : Oper) (rest : List Oper) (kf : PF) : PF :=
 match o.guard with
 | none => ⟨fun t h => (afterP n i all o rest kf).run t ((prep P o).run t h)⟩
 | some _ => ⟨fun t h => (guardP P n i all o rest kf).run t h (wantedA all t o)⟩
noncomputable def runOpsP (P : Program) (n : Nat) (all : Array Oper) (ops : List Oper) : Nat → PF :=
 List.rec (motive := fun _ => Nat → PF) (fun _ => ⟨fun t h => .norm t h⟩) (fun o rest ih i => opP P n i all o rest (ih (i + 1))) ops
noncomputable def runOps (P : Program) (n : Nat) (all : Array Oper) (ops : List Oper) (i : Nat) (t : Tr AVal) (h : AH) : R := (runOpsP P n all ops i).run t h
mutual
noncomputable def sameA : AVal → AVal → Bool
 | .int k a, .int k' b => cond (decide (k = k')) (eqI a b) false
 | .bool a, .bool b => cond a b (not b)
 | .nilptr, .nilptr => true
 | .ptr b o, .ptr b' o' => cond (Nat.beq b b') (Nat.beq o o') false
 | .nilslice, .nilslice => true
 | .slice b o l c, .slice b' o' l' c' => cond (Nat.beq b b') (cond (Nat.beq o o') (cond (Nat.beq l l') (Nat.beq c c') false) false) false
 | .gsl b o l c, .gsl b' o' l' c' => cond (Nat.beq b b') (cond (Nat.beq o o') (cond (Nat.beq l l') (Nat.beq c c') false) false) false
 | .nilmap, .nilmap => true
 | .map b, .map b' => Nat.beq b b'
 | .nilfunc, .nilfunc => true
 | .func f a b, .func f' a' b' => cond (decide (f = f')) (cond (sameAs a a') (sameAs b b') false) false
 | .yield b, .yield b' => Nat.beq b b'
 | .nilIface, .nilIface => true
 | .iface t v, .iface t' v' => cond (Nat.beq t t') (sameA v v') false
 | .agg a, .agg b => sameAs a b
 | .tuple a, .tuple b => sameAs a b
 | .lit n a, .lit m b => cond (Nat.beq n m) (sameAs a b) false
 | _, _ => false
noncomputable def sameAs : List AVal → List AVal → Bool
 | [], [] => true
 | a :: l, b :: m => cond (sameA a b) (sameAs l m) false
 | _, _ => false
end
def quietOp : Op → Bool
 | .move _ | .assign _ | .pick .. | .binOp .. | .unOp .. | .convert .. | .makeInterface .. | .makeFunc .. | .fieldAddr .. | .field .. | .indexAddr .. | .index .. | .extract .. | .build .. | .load .. | .nilCheck _ => true
 | .lookup .. | .typeAssert .. => true
 | .slice _ _ _ _ none => true
 | .call { callee := .builtin .len, .. } => true
 | .call { callee := .builtin .min, .. } => true
 | .call { callee := .builtin .max, .. } => true
 | _ => false
noncomputable def opLit (P : Program) (t : Tr AVal) (h : AH) (o : Oper) : Option ANext :=
 match o.op with
 | .buildSlice ty len parts => match P.underlying ty, evParts t parts.toList with
  | some (.slice elem), some ps => match sizeT P elem, zeroT P elem with
   | some size, some z =>
    cond (Nat.ble (len * size) 100000) (cond (Nat.beq z.cells.length size)
     (match aFillA (fun i => some (i * size, size)) (repl z.cells len) ps with
     | some cs => some (.val (.lit len cs) h)
     | none => none) none) none
   | _, _ => none
  | _, _ => none
 | _ => none
noncomputable def prepX (P : Program) (lit : Bool) (o : Oper) : PH := cond lit ⟨fun t h => opLit P t h o⟩ (prep P o)
noncomputable def aOpX (P : Program) (lit : Bool) (t : Tr AVal) (h : AH) (o : Oper) : Option ANext := (prepX P lit o).run t h
noncomputable def hasTmp (d : Tmp) : List Operand → Bool
 | [] => false
 | x :: l => match x with
  | .tmp i => cond (Nat.beq i d) true (hasTmp d l)
  | _ => hasTmp d l
noncomputable def litUse (d : Tmp) : List Oper → Bool
 | [] => true
 | o :: r => match o.op with
  | .call c => match c.callee with
   | .builtin b => match b with
    | .append => litUse d r
    | _ => cond (hasTmp d o.op.operands.toList) false (litUse d r)
   | _ => cond (hasTmp d o.op.operands.toList) false (litUse d r)
  | op => cond (hasTmp d op.operands.toList) false (litUse d r)
noncomputable def isLit (all : List Oper) (o : Oper) : Bool :=
 match o.op with
 | .buildSlice _ _ _ => match o.dst with
  | some d => litUse d all
  | none => false
 | _ => false
noncomputable def sub? (a b : Nat) : Bool := Nat.beq (Nat.land a b) a
noncomputable def bit? (m i : Nat) : Bool := Nat.beq (Nat.land (Nat.shiftRight m i) 1) 1
noncomputable def nthN : List Nat → Nat → Nat
 | [], _ => 0
 | a :: _, 0 => a
 | _ :: l, n + 1 => nthN l n
noncomputable def befM (k : Nat) (acc : List Nat) : List Edge → Nat → Nat
 | [], s => s
 | e :: l, s => befM k acc l (cond (Region.binds .any e) (cond (Nat.blt e.on k) (Nat.lor (Nat.lor s (Nat.pow 2 e.on)) (nthN acc (k - 1 - e.on))) s) s)
noncomputable def befL : List Oper → Nat → List Nat → List Nat
 | [], _, acc => acc
 | o :: r, k, acc => befL r (k + 1) (befM k acc o.after.toList 0 :: acc)
noncomputable def mkDs (all : List Oper) : List Oper → List Nat → Nat → List DOp
 | o :: r, b :: bs, k => match isLit all o with
  | lit => ⟨k, b, cond lit true (quietOp o.op), o, lit⟩ :: mkDs all r bs (k + 1)
 | _, _, _ => []
structure DPass where
 taken : List DOp
 rest : List DOp
 mask : Nat
noncomputable def passQ : List DOp → Nat → DPass
 | [], m => ⟨[], [], m⟩
 | d :: l, m => cond (cond d.quiet (sub? d.bef m) false)
   (match passQ l (Nat.lor m (Nat.pow 2 d.i)) with | ⟨t, r, m⟩ => ⟨d :: t, r, m⟩)
   (match passQ l m with | ⟨t, r, m⟩ => ⟨t, d :: r, m⟩)
noncomputable def eager : Nat → List DOp → Nat → List DOp
 | 0, _, _ => []
 | f + 1, l, m => match passQ l m with
  | ⟨t, r, m⟩ => t ++ (match r with | [] => [] | d :: r => d :: eager f r (Nat.lor m (Nat.pow 2 d.i)))
noncomputable def allBef (i : Nat) : List DOp → Bool
 | [] => true
 | d :: l => cond (bit? d.bef i) (allBef i l) false
noncomputable def chkC (n : Nat) : List DOp → Nat → Bool
 | [], m => Nat.beq m (Nat.sub (Nat.pow 2 n) 1)
 | d :: l, m => cond (bit? m d.i) false (cond (sub? d.bef m) (cond (cond d.quiet true (allBef d.i l)) (chkC n l (Nat.lor m (Nat.pow 2 d.i))) false) false)
noncomputable def wrT : List Oper → Nat → Tr Nat → Option (Tr Nat)
 | [], _, t => some t
 | o :: r, k, t => match o.dst with
  | none => wrT r (k + 1) t
  | some d => cond (Nat.blt d 1000000) (match t.get (pth d) with | some _ => none | none => wrT r (k + 1) (t.put (pth d) (some k))) none
def tmpOf : Operand → Option Tmp
 | .tmp t => some t
 | _ => none
noncomputable def tmpsOf : List Operand → List Tmp
 | [] => []
 | x :: l => match x with
  | .tmp t => t :: tmpsOf l
  | _ => tmpsOf l
noncomputable def readsO (all : Array Oper) (o : Oper) : List Tmp :=
 match o.guard with
 | none => tmpsOf o.op.operands.toList
 | some (j, _) => match all[j]? with
  | some oj => match oj.dst with
   | some d => d :: tmpsOf o.op.operands.toList
   | none => tmpsOf o.op.operands.toList
  | none => tmpsOf o.op.operands.toList
noncomputable def rdX (wr : Tr Nat) (befs : List Nat) (i bef : Nat) : List Tmp → Bool
 | [] => true
 | x :: l => match wr.get (pth x) with
  | none => rdX wr befs i bef l
  | some w => cond (cond (Nat.beq w i) true (cond (bit? bef w) true (bit? (nthN befs w) i))) (rdX wr befs i bef l) false
noncomputable def rdAll (all : Array Oper) (wr : Tr Nat) (befs : List Nat) : List DOp → Bool
 | [] => true
 | d :: l => cond (rdX wr befs d.i d.bef (readsO all d.o)) (rdAll all wr befs l) false
noncomputable def edgesOk (k : Nat) : List Edge → Bool
 | [] => true
 | e :: l => cond (Region.binds .text e) (cond (Nat.blt e.on k) (edgesOk k l) false) (edgesOk k l)
noncomputable def gcM : List Edge → Nat → Nat
 | [], s => s
 | e :: l, s => gcM l (cond (Region.binds .gc e) (Nat.lor s (Nat.pow 2 e.on)) s)
noncomputable def mkGs : List Oper → Nat → List DOp
 | [], _ => []
 | o :: r, k => ⟨k, gcM o.after.toList 0, true, o, false⟩ :: mkGs r (k + 1)
noncomputable def eagerG : Nat → List DOp → Nat → List DOp
 | 0, _, _ => []
 | f + 1, l, m => match passQ l m with
  | ⟨t, r, m⟩ => t ++ (match r with | [] => [] | d :: r => eagerG f (d :: r) m)
noncomputable def gcOk (l : List Oper) (n : Nat) : Bool := chkC n (eagerG (n + 1) (mkGs l 0) 0) 0
noncomputable def edgesAll : List Oper → Nat → Bool
 | [], _ => true
 | o :: r, k => cond (edgesOk k o.after.toList) (edgesAll r (k + 1)) false
noncomputable def planW (all : Array Oper) (l : List Oper) (n : Nat) (befs : List Nat) (ds : List DOp) : Option (List DOp) :=
 match wrT l 0 .leaf with
 | none => none
 | some wr => cond (cond (edgesAll l 0) (gcOk l n) false) (cond (rdAll all wr befs ds) (match eager (n + 1) ds 0 with | c => cond (chkC n c 0) (some c) none) none) none
noncomputable def plan (all : Array Oper) : Option (List DOp) :=
 match all.toList with
 | l => match (befL l 0 []).reverse with
  | befs => planW all l l.length befs (mkDs l l befs 0)
noncomputable def recheck (P : Program) (h : AH) : List DFact → Bool
 | [] => true
 | f :: l => match f with
  | ⟨_, o, v, t, lit⟩ => match aOpX P lit t h o with
   | some (.val v' _) => cond (sameA v v') (recheck P h l) false
   | _ => false
noncomputable def dropF (bef : Nat) : List DFact → List DFact
 | [] => []
 | f :: l => cond (bit? bef f.i) (dropF bef l) (f :: dropF bef l)
noncomputable def eraseT : List Oper → Tr AVal → Tr AVal
 | [], t => t
 | o :: r, t => eraseT r (match o.dst with | some d => t.put (pth d) none | none => t)
structure PC where
 run : Tr AVal → List DFact → Tr AVal → AH → R
structure PCo where
 run : Tr AVal → List DFact → AH → Option (Tr AVal) → R
structure PCa where
 run : Tr AVal → List DFact → Tr AVal → AH → Option ANext → R
structure PCw where
 run : Tr AVal → List DFact → Tr AVal → AH → Option Bool → R
noncomputable def goOn (kf : PC) : PCo := ⟨fun tf facts h x => match x with | some ta => kf.run tf facts ta h | none => .stuck 21⟩
noncomputable def goQuiet (n : Nat) (d : DOp) (kf : PC) : PCa :=
 ⟨fun tf facts ta _ x => match x with
  | some (.val v h) => (goOn kf).run tf (⟨d.i, d.o, v, ta, d.lit⟩ :: facts) h ((prepD n d.o).run ta v)
  | _ => .stuck 22⟩
noncomputable def checked (P : Program) (kf : PCo) : PCo := ⟨fun tf facts h x => cond (recheck P h facts) (kf.run tf facts h x) (.stuck 23)⟩
noncomputable def goNoisy (P : Program) (n : Nat) (all : Array Oper) (d : DOp) (c : List DOp) (kf : PC) : PCa :=
 ⟨fun tf facts ta _ x => match x with
  | none => .stuck 24
  | some x => match x with
   | .val v h => (checked P (goOn kf)).run tf (dropF d.bef facts) h ((prepD n d.o).run ta v)
   | x => .susp [.waitDrawn all (d :: c) facts ta] tf x⟩
noncomputable def goGuard (P : Program) (n : Nat) (d : DOp) (ka : PCa) (kf : PC) : PCw :=
 ⟨fun tf facts ta h w => match w with
  | none => .stuck 25
  | some w => cond w (ka.run tf facts ta h ((prepX P d.lit d.o).run ta h)) ((goOn kf).run tf facts h ((prepD n d.o).run ta undefA))⟩
noncomputable def stepC (P : Program) (n : Nat) (all : Array Oper) (d : DOp) (ka : PCa) (kf : PC) : PC :=
 match d.o.guard with
 | none => ⟨fun tf facts ta h => ka.run tf facts ta h ((prepX P d.lit d.o).run ta h)⟩
 | some _ => ⟨fun tf facts ta h => (goGuard P n d ka kf).run tf facts ta h (wantedA all ta d.o)⟩
noncomputable def runC (P : Program) (n : Nat) (all : Array Oper) (c : List DOp) : PC :=
 List.rec (motive := fun _ => PC) ⟨fun _ _ ta h => .norm ta h⟩
  (fun d c kf => stepC P n all d (cond d.quiet (goQuiet n d kf) (goNoisy P n all d c kf)) kf) c
noncomputable def runDrawn (P : Program) (n : Nat) (all : Array Oper) : PF :=
 match plan all with
 | none => ⟨fun _ _ => .stuck 20⟩
 | some c => ⟨fun t h => (runC P n all c).run (eraseT all.toList t) [] t h⟩
noncomputable def againD (P : Program) (n : Nat) (all : Array Oper) (c : List DOp) (facts : List DFact) (tf ta : Tr AVal) (h : AH) : R :=
 cond (recheck P h facts) ((runC P n all c).run tf facts ta h) (.stuck 26)
noncomputable def seqR (b : Code) (fb : PF) : R → R
 | .norm t h => fb.run t h
 | .susp k t x => .susp (k ++ [.code b]) t x
 | .slow k t h => .slow (k ++ [.code b]) t h
 | r => r
noncomputable def blockR (id : Nat) : R → R
 | .exit id' t h => cond (Nat.beq id id') (.norm t h) (.exit id' t h)
 | .susp k t x => .susp (k ++ [.inBlock id]) t x
 | .slow k t h => .slow (k ++ [.inBlock id]) t h
 | r => r
noncomputable def scopeR (body : Code) : R → R
 | .susp k t x => .susp (k ++ [.inScope body]) t x
 | .slow k t h => .slow (k ++ [.inScope body]) t h
 | r => r
noncomputable def loopR (body : Code) (again : Tr AVal → AH → R) : R → R
 | .norm t h => again t h
 | .susp k t x => .susp (k ++ [.inLoop body]) t x
 | .slow k t h => .slow (k ++ [.inLoop body]) t h
 | r => r
def loopFuel : Nat := 1000000
noncomputable def loopN (body : Code) (f : PF) (fuel : Nat) : Tr AVal → AH → R :=
 Nat.rec (motive := fun _ => Tr AVal → AH → R) (fun _ _ => .stuck 0) (fun _ ih t h => loopR body ih (f.run t h)) fuel
noncomputable def loopAll (body : Code) (f : PF) (t : Tr AVal) (h : AH) : R := loopN body f loopFuel t h
noncomputable def condR (ft fe : PF) (t : Tr AVal) (h : AH) : Option AVal → R
 | some (.bool b) => cond b (ft.run t h) (fe.run t h)
 | _ => .stuck 1
noncomputable def den (P : Program) (n : Nat) (c : Code) : PF :=
 Code.rec (motive := fun _ => PF)
  (skip := ⟨fun t h => .norm t h⟩)
  (region := fun _ ops draw => cond draw (runDrawn P n ops) (runOpsP P n ops ops.toList 0))
  (seq := fun _ b fa fb => ⟨fun t h => seqR b fb (fa.run t h)⟩)
  (cond := fun c _ _ ft fe => ⟨fun t h => condR ft fe t h (ev t c)⟩)
  (block := fun id _ f => ⟨fun t h => blockR id (f.run t h)⟩)
  (loop := fun body f => ⟨fun t h => loopAll body f t h⟩)
  (rangeFunc := fun f ps assign body _ _ => ⟨fun t h => .slow [.code (.rangeFunc f ps assign body)] t h⟩)
  (exit := fun id => ⟨fun t h => .exit id t h⟩)
  (scope := fun body f => ⟨fun t h => scopeR body (f.run t h)⟩)
  (label := fun _ => ⟨fun t h => .norm t h⟩)
  (goto := fun _ => ⟨fun _ _ => .stuck 2⟩)
  (ret := ⟨fun t h => .ret t h⟩)
  (refuse := fun _ => ⟨fun _ _ => .stuck 3⟩) c
noncomputable def runItem (P : Program) (n : Nat) (it : AItem) (t : Tr AVal) (h : AH) : R :=
 match it with
 | .code c => (den P n c).run t h
 | .inBlock _ => .norm t h
 | .inScope _ => .norm t h
 | .inLoop body => (den P n (.loop body)).run t h
 | .inRegion all i ops => runOps P n all ops i t h
 | .inDrawn all c facts ta => againD P n all c facts t ta h
 | .waitDrawn _ _ _ _ => .stuck 31
 | it => .slow [it] t h
noncomputable def itemR (it : AItem) : R → R
 | .exit id t h => match it with
  | .inBlock id' => cond (Nat.beq id' id) (.norm t h) (.exit id t h)
  | _ => .exit id t h
 | r => r
noncomputable def runTodo (P : Program) (n : Nat) : List AItem → R → R
 | [], r => r
 | it :: k, r => match r with
  | .norm t h => runTodo P n k (runItem P n it t h)
  | .susp s t x => .susp (s ++ it :: k) t x
  | .slow s t h => .slow (s ++ it :: k) t h
  | r => runTodo P n k (itemR it r)
end Go.AbsE
namespace Go.AbsE
noncomputable def AFr.finishRun (fn n : Nat) (tmps : Tr AVal) (todo : List AItem) (defers : List ADef) (dk : Bool) (round : Option Nat) (v : AVal) : Option AFr :=
 match todo with
 | [] => none
 | it :: k => match it with
  | .inRegion all i ops => match ops with
   | [] => none
   | o :: rest => match (prepD n o).run tmps v with
    | some t => some ⟨fn, n, t, .inRegion all (i + 1) rest :: k, defers, .run, dk, round⟩
    | none => none
  | .waitDrawn all c facts ta => match c with
   | [] => none
   | d :: c => match (prepD n d.o).run ta v with
    | some ta => some ⟨fn, n, tmps, .inDrawn all c (dropF d.bef facts) ta :: k, defers, .run, dk, round⟩
    | none => none
  | .inRangeFunc l => some ⟨fn, n, tmps, .endRangeFunc l :: k, defers, .run, dk, round⟩
  | .beginRound => some ⟨fn, n, tmps, k, defers, .run, dk, round⟩
  | _ => none
noncomputable def AFr.finish (fr : AFr) (v : AVal) : Option AFr :=
 match fr with
 | ⟨fn, n, tmps, todo, defers, mode, dk, round⟩ =>
  match mode with
  | .run => AFr.finishRun fn n tmps todo defers dk round v
  | _ => none
noncomputable def AFr.raise (fr : AFr) (vs : List AEntry) : AFr :=
 match fr with
 | ⟨fn, n, tmps, todo, defers, mode, dk, round⟩ =>
  match mode with
  | .panicking chain => ⟨fn, n, tmps, todo, defers, .panicking (vs ++ chain), dk, round⟩
  | _ => ⟨fn, n, tmps, todo, defers, .panicking vs, dk, round⟩
noncomputable def aGetLoop (h : AH) (l : Nat) : Option ALoop :=
 match h.get l with
 | some (.loop r) => some r
 | _ => none
noncomputable def putArgs : Tr AVal → Nat → List Tmp → List AVal → Option (Tr AVal)
 | t, _, [], [] => some t
 | t, n, p :: ps, a :: as => cond (Nat.blt p n) (putArgs (t.put (pth p) (some a)) n ps as) none
 | _, _, _, _ => none
noncomputable def fromArgs : Tr AVal → Nat → List AVal → Tr AVal
 | t, _, [] => t
 | t, i, a :: as => fromArgs (t.put (pth i) (some a)) (i + 1) as
noncomputable def aFrame (P : Program) (f : FuncId) (args : List AVal) (deferredKind : Bool) : Option AFr :=
 match aFunc P f with
 | some fn => match fn.body with
  | some c => cond (Nat.ble args.length fn.ntmps) (cond (Nat.ble fn.ntmps 1000000)
    (some ⟨f, fn.ntmps, fromArgs .leaf 0 args, [.code c], [], .run, deferredKind, none⟩) none) none
  | none => none
 | none => none
noncomputable def aResults (P : Program) (h : AH) (t : Tr AVal) : List ResultVar → Option (List AVal)
 | [] => some []
 | .tmp i :: r => match t.get (pth i) with
  | some v => match aResults P h t r with | some l => some (v :: l) | none => none
  | none => none
 | .cell a ty :: r => match t.get (pth a) with
  | some (.ptr b off) => match loadVar P h ty b off with
   | some v => match aResults P h t r with | some l => some (v :: l) | none => none
   | none => none
  | _ => none
noncomputable def oneOrTuple : List AVal → AVal
 | [v] => v
 | vs => .tuple vs
noncomputable def aResult (P : Program) (h : AH) (f : FuncId) (t : Tr AVal) : Option AVal :=
 match P.funcs[f]? with
 | some fn => match aResults P h t fn.results.toList with | some vs => some (oneOrTuple vs) | none => none
 | none => none
noncomputable def settleA (fr : AFr) : AFr :=
 match fr with
 | ⟨fn, n, tmps, todo, defers, mode, dk, round⟩ =>
  match mode with
  | .panicking (e :: _) => cond e.recovered ⟨fn, n, tmps, todo, defers, .returning, dk, round⟩ fr
  | _ => fr
noncomputable def one (h : AH) (rest : List AFr) : Option AFr → Option AM
 | some fr => some ⟨fr :: rest, h⟩
 | none => none
noncomputable def aReturn (deferredKind : Bool) (rest : List AFr) (v : AVal) (h : AH) : Option AM :=
 match rest with
 | [] => none
 | c :: rest => cond deferredKind (some ⟨settleA c :: rest, h⟩) (one h rest (c.finish v))
noncomputable def endRoundA (dk : Bool) (rest : List AFr) (h : AH) (l : Nat) (st : LoopState) (pending : Option Code) (go : Bool) : Option AM :=
 match aGetLoop h l with
 | some r => match h.set l (some (.loop { r with state := st, pending })) with
  | some h => cond dk none (aReturn false rest (.bool go) h)
  | none => none
 | none => none
noncomputable def aLeave (fr : AFr) (rest : List AFr) (h : AH) (jump : Option Code) : Option AM :=
 match fr with
 | ⟨fn, n, tmps, todo, defers, _, dk, round⟩ =>
  match round with
  | none => match jump with
   | none => some ⟨⟨fn, n, tmps, todo, defers, .returning, dk, none⟩ :: rest, h⟩
   | some .ret => some ⟨⟨fn, n, tmps, todo, defers, .returning, dk, none⟩ :: rest, h⟩
   | _ => none
  | some l => match jump with
   | none => endRoundA dk rest h l .ready none true
   | some c => endRoundA dk rest h l .done (some c) false
noncomputable def aRecover (rest : List AFr) : Option (AVal × List AFr) :=
 match rest with
 | ⟨fn, n, tmps, todo, defers, mode, dk', round⟩ :: r => match mode with
  | .panicking (e :: older) => cond e.recovered none (some (e.v, ⟨fn, n, tmps, todo, defers, .panicking ({ v := e.v, recovered := true } :: older), dk', round⟩ :: r))
  | _ => none
 | [] => none
noncomputable def nextRound (P : Program) (fr : AFr) (rest : List AFr) (h : AH) (l : Nat) (args : List AVal) : Option AM :=
 match aGetLoop h l with
 | some r => match putArgs r.tmps r.n r.params args, P.funcs[r.fn]? with
  | some t, some _ => some ⟨⟨r.fn, r.n, t, [.code r.assign, .beginRound, .code r.body], [], .run, false, some l⟩ :: fr :: rest, h⟩
  | _, _ => none
 | none => none
noncomputable def nextDefer (fr : AFr) (rest : List AFr) (h : AH) (d : ADef) : Option AM :=
 match fr with
 | ⟨fn, n, tmps, todo, defers, mode, dk, round⟩ => match round with
  | none => one h rest (AFr.finish ⟨fn, n, tmps, todo, d :: defers, mode, dk, none⟩ undefA)
  | some _ => none
noncomputable def nextRecover (fr : AFr) (rest : List AFr) (h : AH) : Option AM :=
 match fr.round with
 | some _ => none
 | none => cond fr.deferredKind
   (match rest with
   | [] => none
   | _ => match aRecover rest with
    | some (v, rest) => one h rest (fr.finish v)
    | none => one h rest (fr.finish .nilIface))
   (one h rest (fr.finish .nilIface))
structure Jump where
 run : FuncId → List AVal → AH → Option AVal
noncomputable def enterJ (P : Program) (fr : AFr) (rest : List AFr) (f : FuncId) (args : List AVal) (h : AH) : Option AVal → Option AM
 | some v => one h rest (fr.finish v)
 | none => one h (fr :: rest) (aFrame P f args false)
noncomputable def aNext (P : Program) (J : Jump) (fr : AFr) (rest : List AFr) (x : ANext) : Option AM :=
 match x with
 | .val v h => one h rest (fr.finish v)
 | .enter f args h => enterJ P fr rest f args h (J.run f args h)
 | .round l args h => nextRound P fr rest h l args
 | .defer d h => nextDefer fr rest h d
 | .recover h => nextRecover fr rest h
 | .panic v h => some ⟨fr.raise [{ v, recovered := false }] :: rest, h⟩
noncomputable def doBegin (fr : AFr) (rest : List AFr) (h : AH) (k : List AItem) : Option AM :=
 match fr with
 | ⟨fn, n, tmps, _, defers, mode, dk, round⟩ => match round with
  | some l => match aGetLoop h l with
   | some r => match r.state with
    | .ready => match h.set l (some (.loop { r with state := .busy })) with
     | some h => some ⟨⟨fn, n, tmps, k, defers, mode, dk, some l⟩ :: rest, h⟩
     | none => none
    | _ => none
   | none => none
  | none => none
noncomputable def doEndLoop (fr : AFr) (rest : List AFr) (h : AH) (l : Nat) (k : List AItem) : Option AM :=
 match fr with
 | ⟨fn, n, tmps, _, defers, mode, dk, round⟩ => match aGetLoop h l with
  | some r => match r.state with
   | .busy => none
   | _ => match h.set l (some (.loop { r with state := .exhausted })) with
    | some h => some ⟨⟨fn, n, tmps, (match r.pending with | some c => .code c :: k | none => k), defers, mode, dk, round⟩ :: rest, h⟩
    | none => none
  | none => none
noncomputable def doRangeFunc (P : Program) (fr : AFr) (rest : List AFr) (h : AH) (f : Operand) (params : Array Tmp) (assign body : Code) (k : List AItem) : Option AM :=
 match fr with
 | ⟨fn, n, tmps, _, defers, mode, dk, round⟩ =>
  match (match round with
   | some l => match aGetLoop h l with | some r => some (r.defers, ([] : List ADef), h) | none => none
   | none => match h.new (.deferred (some [])) with | some (d, h) => some (d, [.collected d], h) | none => none) with
  | none => none
  | some (d, mark, h) =>
   match h.new (.loop ⟨.ready, none, fn, n, tmps, params.toList, assign, body, d⟩) with
   | none => none
   | some (l, h) =>
    match ev tmps f with
    | some (.func g first cap) => match aInvoke P g cap (first ++ [.yield l]) h with
     | some (.enter g args h) => one h (⟨fn, n, tmps, .inRangeFunc l :: k, mark ++ defers, mode, dk, round⟩ :: rest) (aFrame P g args false)
     | _ => none
    | _ => none
noncomputable def doSlow (P : Program) (fr : AFr) (rest : List AFr) (h : AH) (todo : List AItem) : Option AM :=
 match todo with
 | .code (.rangeFunc f params assign body) :: k => doRangeFunc P fr rest h f params assign body k
 | .beginRound :: k => doBegin fr rest h k
 | .endRangeFunc l :: k => doEndLoop fr rest h l k
 | _ => none
noncomputable def aExec (P : Program) (J : Jump) (fn n : Nat) (defers : List ADef) (dk : Bool) (round : Option Nat) (rest : List AFr) (r : R) : Option AM :=
 match r with
 | .norm t h => aLeave ⟨fn, n, t, [], defers, .run, dk, round⟩ rest h none
 | .ret t h => aLeave ⟨fn, n, t, [], defers, .run, dk, round⟩ rest h (some .ret)
 | .exit id t h => aLeave ⟨fn, n, t, [], defers, .run, dk, round⟩ rest h (some (.exit id))
 | .susp k t x => aNext P J ⟨fn, n, t, k, defers, .run, dk, round⟩ rest x
 | .slow k t h => doSlow P ⟨fn, n, t, k, defers, .run, dk, round⟩ rest h k
 | .stuck _ => none
noncomputable def aUnwind (P : Program) (fr : AFr) (rest : List AFr) (h : AH) : Option AM :=
 match fr with
 | ⟨fn, n, tmps, todo, defers, mode, dk, round⟩ =>
  match defers with
  | .collected b :: ds => match h.get b with
   | some (.deferred (some calls)) => match h.set b (some (.deferred none)) with
    | some h => some ⟨⟨fn, n, tmps, todo, calls ++ ds, mode, dk, round⟩ :: rest, h⟩
    | none => none
   | _ => none
  | .call g cap args :: ds => match aInvoke P g cap args h with
   | some (.enter f args h) => one h (⟨fn, n, tmps, todo, ds, mode, dk, round⟩ :: rest) (aFrame P f args true)
   | _ => none
  | [] => match mode with
   | .run => none
   | .panicking chain => match rest with
    | c :: rest => some ⟨c.raise chain :: rest, h⟩
    | [] => none
   | .returning => match aResult P h fn tmps with
    | some v => aReturn dk rest v h
    | none => none
noncomputable def aStep (P : Program) (J : Jump) (m : AM) : Option AM :=
 match m with
 | ⟨stack, h⟩ => match stack with
  | [] => none
  | fr :: rest => match fr with
   | ⟨fn, n, tmps, todo, defers, mode, dk, round⟩ => match mode with
    | .run => aExec P J fn n defers dk round rest (runTodo P n todo (.norm tmps h))
    | _ => aUnwind P fr rest h
noncomputable def aRun (P : Program) (J : Jump) (n : Nat) (m : AM) : AM :=
 Nat.rec (motive := fun _ => AM → AM) (fun m => m) (fun _ ih m => match aStep P J m with | some m => ih m | none => m) n m
noncomputable def aDone (P : Program) (f : FuncId) (m : AM) : Option (AVal × AH) :=
 match m with
 | ⟨[⟨fn, _, tmps, _, defers, mode, dk, _⟩], h⟩ =>
  match mode, defers with
  | .returning, [] => cond (Nat.beq fn f) (cond dk none (match aResult P h fn tmps with | some v => some (v, h) | none => none)) none
  | _, _ => none
 | _ => none
noncomputable def aCall (P : Program) (J : Jump) (fuel : Nat) (f : FuncId) (args : List AVal) (h : AH) : Option AM :=
 match aFrame P f args false with
 | some fr => some (aRun P J fuel ⟨[fr], h⟩)
 | none => none
noncomputable def noJ : Jump := ⟨fun _ _ _ => none⟩
def h0 : AH := ⟨.leaf, 0⟩
end Go.AbsE

set_option linter.unusedSimpArgs false
namespace Go.AbsE
open Go
structure Env where
  loc : Nat → Option (Nat × Nat)
  imm : Nat → Option (List Value)
instance : CoeFun Env (fun _ => Nat → Option (Nat × Nat)) := ⟨Env.loc⟩
def Env.le (e e' : Env) : Prop := (∀ b x, e b = some x → e' b = some x) ∧ ∀ B x, e.imm B = some x → e'.imm B = some x
theorem Env.le_refl (e : Env) : Env.le e e := ⟨fun _ _ h => h, fun _ _ h => h⟩
theorem Env.le_trans {a b c : Env} (h : Env.le a b) (k : Env.le b c) : Env.le a c := ⟨fun _ _ x => k.1 _ _ (h.1 _ _ x), fun _ _ x => k.2 _ _ (h.2 _ _ x)⟩
mutual
inductive VR (e : Env) : AVal → Value → Prop
  | int (k n) : VR e (.int k n) (.int k n)
  | bool (b) : VR e (.bool b) (.bool b)
  | str (s) : VR e (.str s) (.string s)
  | nilptr : VR e .nilptr (.pointer none)
  | ptr {b off B c} (h : e b = some (B, c)) : VR e (.ptr b off) (.pointer (some ⟨B, off, none⟩))
  | nilslice : VR e .nilslice (.slice none 0 0)
  | slice {b off len cap B c} (h : e b = some (B, c)) : VR e (.slice b off len cap) (.slice (some ⟨B, off, none⟩) len cap)
  | gsl {b off i len B c} (h : e b = some (B, c)) : VR e (.gsl b off i len) (.slice (some ⟨B, off, none⟩) len (c - i))
  | nilmap : VR e .nilmap (.map none)
  | map {b B c} (h : e b = some (B, c)) : VR e (.map b) (.map (some B))
  | nilfunc : VR e .nilfunc .nilFunc
  | func {fn first cap F C} (hf : ∀ l, fn ≠ .yield l) (h1 : VRs e first F) (h2 : VRs e cap C) : VR e (.func fn first cap) (.func fn F.toArray C.toArray)
  | yield {l L c} (h : e l = some (L, c)) : VR e (.yield l) (.func (.yield L) #[] #[])
  | nilIface : VR e .nilIface .nilIface
  | iface {t v V} (h : VR e v V) : VR e (.iface t v) (.iface t V)
  | agg {cs CS} (h : VRs e cs CS) : VR e (.agg cs) (.agg CS.toArray)
  | tuple {cs CS} (h : VRs e cs CS) : VR e (.tuple cs) (.tuple CS.toArray)
  | lit {n cs CS B} (hi : e.imm B = some CS) (h : VRs e cs CS) : VR e (.lit n cs) (.slice (some ⟨B, 0, none⟩) n n)
inductive VRs (e : Env) : List AVal → List Value → Prop
  | nil : VRs e [] []
  | cons {a v l m} (h : VR e a v) (hs : VRs e l m) : VRs e (a :: l) (v :: m)
end
mutual
theorem VR.mono {e e' : Env} (he : Env.le e e') : ∀ {a v}, VR e a v → VR e' a v
  | _, _, .int k n => .int k n
  | _, _, .bool b => .bool b
  | _, _, .str s => .str s
  | _, _, .nilptr => .nilptr
  | _, _, .ptr h => .ptr (he.1 _ _ h)
  | _, _, .nilslice => .nilslice
  | _, _, .slice h => .slice (he.1 _ _ h)
  | _, _, .gsl h => .gsl (he.1 _ _ h)
  | _, _, .nilmap => .nilmap
  | _, _, .map h => .map (he.1 _ _ h)
  | _, _, .nilfunc => .nilfunc
  | _, _, .func hf h1 h2 => .func hf (VRs.mono he h1) (VRs.mono he h2)
  | _, _, .yield h => .yield (he.1 _ _ h)
  | _, _, .nilIface => .nilIface
  | _, _, .iface h => .iface (VR.mono he h)
  | _, _, .agg h => .agg (VRs.mono he h)
  | _, _, .tuple h => .tuple (VRs.mono he h)
  | _, _, .lit hi h => .lit (he.2 _ _ hi) (VRs.mono he h)
theorem VRs.mono {e e' : Env} (he : Env.le e e') : ∀ {l m}, VRs e l m → VRs e' l m
  | _, _, .nil => .nil
  | _, _, .cons h hs => .cons (VR.mono he h) (VRs.mono he hs)
end
namespace VRs
variable {e : Env}
theorem length : ∀ {l m}, VRs e l m → l.length = m.length
  | _, _, .nil => rfl
  | _, _, .cons _ hs => by simp [length hs]
theorem append : ∀ {l m l' m'}, VRs e l m → VRs e l' m' → VRs e (l ++ l') (m ++ m')
  | _, _, _, _, .nil, k => k
  | _, _, _, _, .cons h hs, k => .cons h (append hs k)
theorem take : ∀ {l m} (n : Nat), VRs e l m → VRs e (l.take n) (m.take n)
  | _, _, 0, _ => by simp; exact .nil
  | _, _, n + 1, .nil => by simp; exact .nil
  | _, _, n + 1, .cons h hs => by simp; exact .cons h (take n hs)
theorem drop : ∀ {l m} (n : Nat), VRs e l m → VRs e (l.drop n) (m.drop n)
  | _, _, 0, h => by simpa using h
  | _, _, n + 1, .nil => by simp; exact .nil
  | _, _, n + 1, .cons h hs => by simp; exact drop n hs
theorem get : ∀ {l m} (i : Nat) {a}, VRs e l m → l[i]? = some a → ∃ v, m[i]? = some v ∧ VR e a v
  | _, _, 0, _, .cons h hs, k => by simp at k; subst k; exact ⟨_, by simp, h⟩
  | _, _, i + 1, _, .cons h hs, k => by simp at k; obtain ⟨v, h1, h2⟩ := get i hs k; exact ⟨v, by simpa using h1, h2⟩
theorem splice : ∀ {l m} (n : Nat) {xs ys l'}, VRs e l m → VRs e xs ys → AbsE.splice l n xs = some l' →
    VRs e l' (m.take n ++ ys ++ m.drop (n + ys.length)) ∧ n + ys.length ≤ m.length
  | _, _, 0, [], _, l', h, .nil, k => by simp [AbsE.splice] at k; subst k; simpa using h
  | _, _, 0, _ :: _, _, l', .cons h hs, .cons h' hs', k => by
    simp only [AbsE.splice] at k
    split at k
    · rename_i r hr
      cases k
      obtain ⟨h1, h2⟩ := splice 0 hs hs' hr
      refine ⟨?_, by simp at h2 ⊢; omega⟩
      simp at h1 ⊢
      exact .cons h' h1
    · cases k
  | _, _, 0, _ :: _, _, l', .nil, _, k => by simp [AbsE.splice] at k
  | _, _, n + 1, _, ys, l', .cons h hs, h', k => by
    simp only [AbsE.splice] at k
    split at k
    · rename_i r hr
      cases k
      obtain ⟨h1, h2⟩ := splice n hs h' hr
      refine ⟨?_, by simp; omega⟩
      have e1 : n + 1 + ys.length = (n + ys.length) + 1 := Nat.add_right_comm n 1 _
      rw [e1]
      simp at h1 ⊢
      exact .cons h h1
    · cases k
  | _, _, n + 1, _, _, l', .nil, _, k => by simp [AbsE.splice] at k
end VRs
def unP : Pth → Nat
  | .here => 0
  | .a p => 4 * unP p + 1
  | .b p => 4 * unP p + 2
  | .c p => 4 * unP p + 3
  | .d p => 4 * unP p + 4
  | .nowhere => 0
theorem unP_mkP {i : Nat} (hi : i < 4) (p : Pth) : unP (mkP i p) = 4 * unP p + i + 1 := by
  have hi' : i = 0 ∨ i = 1 ∨ i = 2 ∨ i = 3 := by omega
  rcases hi' with rfl | rfl | rfl | rfl <;> rfl
theorem unP_pthF : ∀ (f n : Nat), n ≤ f → unP (pthF f n) = n := by
  intro f
  induction f with
  | zero => intro n hn; have : n = 0 := by omega
            subst this; rfl
  | succ f ih =>
    intro n hn
    cases n with
    | zero => rfl
    | succ m =>
      show unP (mkP (m % 4) (pthF f (m / 4))) = m + 1
      rw [unP_mkP (Nat.mod_lt _ (by omega)), ih (m / 4) (by omega)]
      omega
def Pth.ok : Pth → Prop
  | .here => True
  | .a p => p.ok
  | .b p => p.ok
  | .c p => p.ok
  | .d p => p.ok
  | .nowhere => False
theorem mkP_ok {i : Nat} (hi : i < 4) {p : Pth} (h : p.ok) : (mkP i p).ok := by
  have hi' : i = 0 ∨ i = 1 ∨ i = 2 ∨ i = 3 := by omega
  rcases hi' with rfl | rfl | rfl | rfl <;> exact h
theorem pthF_ok : ∀ (f n : Nat), (pthF f n).ok := by
  intro f
  induction f with
  | zero => intro n; exact trivial
  | succ f ih =>
    intro n
    cases n with
    | zero => exact trivial
    | succ n => exact mkP_ok (Nat.mod_lt _ (by omega)) (ih (n / 4))
theorem pth_ok' (n : Nat) : (pth n).ok := pthF_ok _ _
theorem pth_inj' {m n : Nat} (h : pth m = pth n) : m = n := by
  have h1 := unP_pthF m m (Nat.le_refl m)
  have h2 := unP_pthF n n (Nat.le_refl n)
  have h : pthF m m = pthF n n := h
  rw [← h1, ← h2, h]
theorem pth_ok {n : Nat} (_ : n < 10000000000) : (pth n).ok := pth_ok' n
theorem pth_inj {m n : Nat} (_ : m < 10000000000) (h : pth m = pth n) : m = n := pth_inj' h
namespace Tr
variable {α : Type}
theorem get_leaf (p : Pth) : (Tr.leaf : Tr α).get p = none := by cases p <;> rfl
theorem get_node (p : Pth) (x : Option α) (a b c d : Tr α) : (Tr.node x a b c d).get p =
    (match p with | .here => x | .a p => a.get p | .b p => b.get p | .c p => c.get p | .d p => d.get p | .nowhere => none) := by cases p <;> rfl
theorem put_leaf_a (p : Pth) (v : Option α) : (Tr.leaf : Tr α).put (.a p) v = .node none (Tr.leaf.put p v) .leaf .leaf .leaf := rfl
theorem put_node_a (p : Pth) (v x : Option α) (a b c d : Tr α) : (Tr.node x a b c d).put (.a p) v = .node x (a.put p v) b c d := rfl
theorem put_leaf_b (p : Pth) (v : Option α) : (Tr.leaf : Tr α).put (.b p) v = .node none .leaf (Tr.leaf.put p v) .leaf .leaf := rfl
theorem put_node_b (p : Pth) (v x : Option α) (a b c d : Tr α) : (Tr.node x a b c d).put (.b p) v = .node x a (b.put p v) c d := rfl
theorem put_leaf_c (p : Pth) (v : Option α) : (Tr.leaf : Tr α).put (.c p) v = .node none .leaf .leaf (Tr.leaf.put p v) .leaf := rfl
theorem put_node_c (p : Pth) (v x : Option α) (a b c d : Tr α) : (Tr.node x a b c d).put (.c p) v = .node x a b (c.put p v) d := rfl
theorem put_leaf_d (p : Pth) (v : Option α) : (Tr.leaf : Tr α).put (.d p) v = .node none .leaf .leaf .leaf (Tr.leaf.put p v) := rfl
theorem put_node_d (p : Pth) (v x : Option α) (a b c d : Tr α) : (Tr.node x a b c d).put (.d p) v = .node x a b c (d.put p v) := rfl
theorem put_leaf_here (v : Option α) : (Tr.leaf : Tr α).put .here v = .node v .leaf .leaf .leaf .leaf := rfl
theorem put_node_here (v x : Option α) (a b c d : Tr α) : (Tr.node x a b c d).put .here v = .node v a b c d := rfl
theorem mkGet_eq (p : Pth) (t : Tr α) : (mkGet p).run t = t.get p := by
  induction p generalizing t with
  | here => cases t <;> rfl
  | a p ih => cases t with | leaf => rfl | node x a b c d => exact ih a
  | b p ih => cases t with | leaf => rfl | node x a b c d => exact ih b
  | c p ih => cases t with | leaf => rfl | node x a b c d => exact ih c
  | d p ih => cases t with | leaf => rfl | node x a b c d => exact ih d
  | nowhere => rfl
theorem mkPut_eq (p : Pth) (t : Tr α) (v : α) : (mkPut p).run t v = t.put p (some v) := by
  induction p generalizing t with
  | here => cases t <;> rfl
  | a p ih => cases t with | leaf => exact congrArg (fun q => Tr.node none q .leaf .leaf .leaf) (ih .leaf) | node x a b c d => exact congrArg (fun q => Tr.node x q b c d) (ih a)
  | b p ih => cases t with | leaf => exact congrArg (fun q => Tr.node none .leaf q .leaf .leaf) (ih .leaf) | node x a b c d => exact congrArg (fun q => Tr.node x a q c d) (ih b)
  | c p ih => cases t with | leaf => exact congrArg (fun q => Tr.node none .leaf .leaf q .leaf) (ih .leaf) | node x a b c d => exact congrArg (fun q => Tr.node x a b q d) (ih c)
  | d p ih => cases t with | leaf => exact congrArg (fun q => Tr.node none .leaf .leaf .leaf q) (ih .leaf) | node x a b c d => exact congrArg (fun q => Tr.node x a b c q) (ih d)
  | nowhere => rfl
theorem get_put (p q : Pth) (hp : p.ok) (t : Tr α) (v : Option α) : (t.put p v).get q = if p = q then v else t.get q := by
  induction p generalizing q t with
  | here => cases t <;> cases q <;> simp [put_leaf_here, put_node_here, get_node, get_leaf]
  | a p ih => cases t <;> cases q <;> simp [put_leaf_a, put_node_a, get_node, get_leaf, ih _ hp]
  | b p ih => cases t <;> cases q <;> simp [put_leaf_b, put_node_b, get_node, get_leaf, ih _ hp]
  | c p ih => cases t <;> cases q <;> simp [put_leaf_c, put_node_c, get_node, get_leaf, ih _ hp]
  | d p ih => cases t <;> cases q <;> simp [put_leaf_d, put_node_d, get_node, get_leaf, ih _ hp]
  | nowhere => exact hp.elim
end Tr
end Go.AbsE
