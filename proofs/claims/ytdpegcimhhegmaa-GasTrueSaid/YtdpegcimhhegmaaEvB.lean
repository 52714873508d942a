import Derived.Test.YtdpegcimhhegmaaEvA
import Derived.Laws.StructEq
import Derived.Laws.Tables
import Derived.Laws.Build
set_option linter.unusedVariables false
set_option linter.unusedSimpArgs false
set_option linter.unusedSectionVars false
noncomputable section
namespace Go.Ev
variable {G : Ctx}

/-! ### Constants, operands -/
def ofV1 : Value → Option (AV G)
  | .bool b => some (.bool b)
  | .int k n => some (.int k n)
  | .string s => some (.str s)
  | .pointer none => some .nilp
  | .slice none 0 0 => some .nils
  | .map none => some .nilm
  | .nilFunc => some .nilf
  | .nilIface => some .nili
  | _ => none

def ofVl : List Value → Option (List (AV G))
  | [] => some []
  | v :: r => match ofV1 v, ofVl r with
    | some a, some l => some (a :: l)
    | _, _ => none

def ofV : Value → Option (AV G)
  | .agg cs => (ofVl cs.toList).map .agg
  | .tuple cs => (ofVl cs.toList).map .tuple
  | .iface t v => (ofV1 v).map (.iface t)
  | v => ofV1 v


def rho (tm : (TT G)) : Operand → Option (AV G)
  | .tmp t => some (getT tm t)
  | .const v => ofV v
  | .global _ => none
  | .func f => some (.func (.func f) [] [])

def rhos (tm : (TT G)) : List Operand → Option (List (AV G))
  | [] => some []
  | x :: r => match rho tm x, rhos tm r with
    | some a, some l => some (a :: l)
    | _, _ => none

/-! ### Types -/
/-- some (some n): a row of n cells; some none: one cell. -/
def rowOf (P : Program) (t : TypeId) : Option (Option Nat) :=
  match P.underlying t with
  | some (.struct _) => (P.info? t).map fun i => some i.size
  | some (.array _ _) => (P.info? t).map fun i => some i.size
  | some _ => some none
  | none => none

def szOf (P : Program) (t : TypeId) : Option Nat := (P.info? t).map (·.size)

def sub (vs : List (AV G)) (off n : Nat) : Option (List (AV G)) :=
  if off + n ≤ vs.length then some ((vs.drop off).take n) else none

def partA (P : Program) (t : TypeId) (cs : List (AV G)) (off : Nat) : Option (AV G) :=
  match rowOf P t with
  | some (some n) => (sub cs off n).map .agg
  | some none => cs[off]?
  | none => none

/-! ### Numbers -/
noncomputable def fwrap (k : IntKind) (n : Int) : Int :=
  match k with
  | .i64 => Int.rec (fun m => Bool.rec (IntKind.wrap .i64 n) n (Nat.ble m (nat_lit 9223372036854775807))) (fun m => Bool.rec (IntKind.wrap .i64 n) n (Nat.ble m (nat_lit 9223372036854775807))) n
  | k => k.wrap n

theorem fwrap_i64 (n : Int) : fwrap .i64 n = if -9223372036854775808 ≤ n ∧ n ≤ 9223372036854775807 then n else IntKind.wrap .i64 n := by
  cases n with
  | ofNat m =>
    show (Bool.rec _ _ (Nat.ble m 9223372036854775807) : Int) = _
    rw [Tr.brec]
    by_cases h : m ≤ 9223372036854775807
    · rw [if_pos (Nat.ble_eq_true_of_le h), if_pos (by simp only [Int.ofNat_eq_natCast]; omega)]
    · rw [if_neg (fun k => h (Nat.le_of_ble_eq_true k)), if_neg (by simp only [Int.ofNat_eq_natCast]; omega)]
  | negSucc m =>
    show (Bool.rec _ _ (Nat.ble m 9223372036854775807) : Int) = _
    rw [Tr.brec]
    by_cases h : m ≤ 9223372036854775807
    · rw [if_pos (Nat.ble_eq_true_of_le h), if_pos (by omega)]
    · rw [if_neg (fun k => h (Nat.le_of_ble_eq_true k)), if_neg (by omega)]

noncomputable def intOp (op : BinOp) (k : IntKind) (x y : Int) : Option (AV G) :=
  match op with
  | .add => some (.int k (fwrap k (x + y)))
  | .sub => some (.int k (fwrap k (x - y)))
  | .mul => some (.int k (fwrap k (x * y)))
  | .quo => if y = 0 then none else some (.int k (fwrap k (x.tdiv y)))
  | .rem => if y = 0 then none else some (.int k (x.tmod y))
  | .and => some (.int k (k.wrap (BitVec.ofInt k.bits x &&& BitVec.ofInt k.bits y).toNat))
  | .or => some (.int k (k.wrap (BitVec.ofInt k.bits x ||| BitVec.ofInt k.bits y).toNat))
  | .xor => some (.int k (k.wrap (BitVec.ofInt k.bits x ^^^ BitVec.ofInt k.bits y).toNat))
  | .andNot => some (.int k (k.wrap (BitVec.ofInt k.bits x &&& ~~~ BitVec.ofInt k.bits y).toNat))
  | .eql => some (.bool (x == y))
  | .neq => some (.bool (x != y))
  | .lss => some (.bool (ltI x y))
  | .leq => some (.bool (leI x y))
  | .gtr => some (.bool (ltI y x))
  | .geq => some (.bool (leI y x))
  | _ => none

def shiftOp (op : BinOp) (k : IntKind) (x y : Int) : Option (AV G) :=
  if y < 0 then none else
  match op with
  | .shl => some (.int k (k.wrap (x * 2 ^ (min y.toNat k.bits))))
  | .shr => some (.int k (x.fdiv (2 ^ (min y.toNat k.bits))))
  | _ => none

def strOp (op : BinOp) (x y : ByteArray) : Option (AV G) :=
  match op with
  | .add => if x.size + y.size ≤ 9223372036854775807 then some (.str (x ++ y)) else none
  | .eql => some (.bool (x.toList == y.toList))
  | .neq => some (.bool !(x.toList == y.toList))
  | .lss => some (.bool (Op.bytesLess x.toList y.toList))
  | .leq => some (.bool (Op.bytesLess x.toList y.toList || x.toList == y.toList))
  | .gtr => some (.bool !(Op.bytesLess x.toList y.toList || x.toList == y.toList))
  | .geq => some (.bool !(Op.bytesLess x.toList y.toList))
  | _ => none

/-! ### Symbols -/
def AV.sv : (AV G) → Option SV
  | .sx x lo hi => some ⟨x, lo, hi⟩
  | .int .i64 n => some ⟨.c n, n, n⟩
  | _ => none

def SV.av (a : SV) : (AV G) := .sx a.x a.lo a.hi

/-- Two integers of which one is a symbol. -/
def symPair : (AV G) → (AV G) → Option (SV × SV)
  | .sx x lo hi, b => match b.sv with
    | some c => some (⟨x, lo, hi⟩, c)
    | none => none
  | .int .i64 n, .sx y lo hi => some (⟨.c n, n, n⟩, ⟨y, lo, hi⟩)
  | _, _ => none

def avO : Option SV → Option (AV G)
  | some r => some r.av
  | none => none

def boolO : Option Bool → Option (AV G)
  | some r => some (.bool r)
  | none => none

def notO : Option Bool → Option (AV G)
  | some r => some (.bool !r)
  | none => none

def symOp (op : BinOp) (a b : SV) : Option (AV G) :=
  match op with
  | .add => avO (mkS64 G 0 a b)
  | .sub => avO (mkS64 G 1 a b)
  | .mul => avO (mkS64 G 2 a b)
  | .quo => match posS G b with
    | true => avO (mkS64 G 5 a b)
    | false => none
  | .rem => match posS G b with
    | true => avO (mkS64 G 6 a b)
    | false => none
  | .eql => boolO (eqS G a b)
  | .neq => notO (eqS G a b)
  | .lss => boolO (ltS G a b)
  | .leq => notO (ltS G b a)
  | .gtr => boolO (ltS G b a)
  | .geq => notO (ltS G a b)
  | _ => none

/-! ### Equality -/
def eqFs (P : Program) (rec : TypeId → (AV G) → (AV G) → Option Bool) (xs ys : List (AV G)) : List Field → Option Bool
  | [] => some true
  | f :: fs =>
    if f.name ≠ "_" then
      match partA P f.type xs f.offset, partA P f.type ys f.offset with
      | some a, some b => match rec f.type a b with
        | some true => eqFs P rec xs ys fs
        | r => r
      | _, _ => none
    else eqFs P rec xs ys fs

def eqEs (P : Program) (rec : (AV G) → (AV G) → Option Bool) (elem : TypeId) (n : Nat) (xs ys : List (AV G)) : List Nat → Option Bool
  | [] => some true
  | i :: r =>
    match partA P elem xs (i * n), partA P elem ys (i * n) with
    | some a, some b => match rec a b with
      | some true => eqEs P rec elem n xs ys r
      | o => o
    | _, _ => none

def eqA (P : Program) : Nat → TypeId → (AV G) → (AV G) → Option Bool
  | 0, _, _, _ => none
  | f + 1, t, x, y =>
    match P.underlying t, x, y with
    | some .bool, .bool a, .bool b => some (a == b)
    | some (.int _), .int k a, .int k' b => if k = k' then some (a == b) else none
    | some (.int _), .sx x l u, b => match symPair (G := G) (.sx x l u) b with
      | some (p, q) => eqS G p q
      | none => none
    | some (.int _), .int k a, .sx y l u => match symPair (G := G) (.int k a) (.sx y l u) with
      | some (p, q) => eqS G p q
      | none => none
    | some .string, .str a, .str b => some (a == b)
    | some (.pointer _), .nilp, .nilp => some true
    | some (.pointer _), .nilp, .ptr _ _ => some false
    | some (.pointer _), .ptr _ _, .nilp => some false
    | some (.interface _), .nili, .nili => some true
    | some (.interface _), .nili, .iface _ _ => some false
    | some (.interface _), .iface _ _, .nili => some false
    | some (.slice _), .nils, .nils => some true
    | some (.slice _), .nils, .slice _ _ _ _ _ => some false
    | some (.slice _), .slice _ _ _ _ _, .nils => some false
    | some (.func _ _ _), .nilf, .nilf => some true
    | some (.struct fs), .agg xs, .agg ys => if P.stoodInHeld t then none else eqFs P (eqA P f) xs ys fs.toList
    | some (.array len e), .agg xs, .agg ys => match szOf P e with
      | some n => eqEs P (eqA P f e) e n xs ys (List.range len)
      | none => none
    | _, _, _ => none

def eqFuel : Nat := 12

/-- An interface type without methods. -/
def nilOk (P : Program) (t : TypeId) : Bool :=
  match P.underlying t with
  | some (.interface ms) => ms.isEmpty
  | _ => false

def binA (P : Program) (op : BinOp) (t : TypeId) (a b : (AV G)) : Option (AV G) :=
  match op, a, b with
  | .shl, .int k x, .int _ y => shiftOp .shl k x y
  | .shr, .int k x, .int _ y => shiftOp .shr k x y
  | op, .int k x, .int k' y => if k = k' then intOp op k x y else none
  | op, .str x, .str y => strOp op x y
  | op, .sx x l u, b => match symPair (G := G) (.sx x l u) b with
    | some (p, q) => symOp op p q
    | none => none
  | op, .int k n, .sx y l u => match symPair (G := G) (.int k n) (.sx y l u) with
    | some (p, q) => symOp op p q
    | none => none
  | .eql, .agg xs, .agg ys => if P.eqGuardType P.depth t then none else (eqA P eqFuel t (.agg xs) (.agg ys)).map .bool
  | .neq, .agg xs, .agg ys => if P.eqGuardType P.depth t then none else (eqA P eqFuel t (.agg xs) (.agg ys)).map fun b => .bool !b
  | .eql, .nili, .nili => if nilOk P t = true then some (.bool true) else none
  | .neq, .nili, .nili => if nilOk P t = true then some (.bool false) else none
  | .eql, a, b => (eqA P eqFuel t a b).map .bool
  | .neq, a, b => (eqA P eqFuel t a b).map fun b => .bool !b
  | _, _, _ => none

def unA (op : UnOp) (a : (AV G)) : Option (AV G) :=
  match op, a with
  | .neg, .int k n => some (.int k (fwrap k (0 - n)))
  | .not, .bool b => some (.bool !b)
  | .neg, .sx x l u => avO (mkS64 G 1 ⟨.c 0, 0, 0⟩ ⟨x, l, u⟩)
  | _, _ => none

/-! ### Places -/
def fieldOf (P : Program) (t : TypeId) (f : Nat) : Option Field :=
  match P.underlying t with
  | some (.struct fs) => fs[f]?
  | _ => none

def boundA (v : Option (AV G)) (dflt y : Nat) : Option Nat :=
  match v with
  | none => some dflt
  | some (.int _ i) => if 0 ≤ i ∧ i ≤ y then some i.toNat else none
  | some _ => none

/-- A bound that is given must be a number. -/
def optRho (tm : (TT G)) : Option Operand → Option (Option (AV G))
  | none => some none
  | some x => (rho tm x).map some

/-- How far a slice can surely be cut. -/
def capB (g : Bool) (len cap : Nat) : Nat := match g with | true => len | false => cap

/-- Of a slice: cut from l to h; the capacity is c (exact), or grown. -/
def cutA (id off l h m cap size : Nat) (grown : Bool) : Option (AV G) :=
  if grown then (if l = 0 then some (.slice id off h cap true) else if h = l then none else some (.slice id (off + l * size) (h - l) cap true))
  else some (.slice id (if m = l then off else off + l * size) (h - l) (m - l) false)

def AV.parts : (AV G) → List (AV G)
  | .agg cs => cs
  | v => [v]

def fillA (place : Nat → Option (Nat × Nat)) (cells : List (AV G)) : List (Nat × (AV G)) → Option (List (AV G))
  | [] => some cells
  | (i, v) :: rest =>
    match place i with
    | none => none
    | some (off, size) =>
      if v.parts.length = size ∧ off + v.parts.length ≤ cells.length then fillA place (splice cells off v.parts) rest else none

def AV.one : (AV G) → Bool
  | .agg _ | .tuple _ => false
  | _ => true

def rhoParts (tm : (TT G)) : List (Nat × Operand) → Option (List (Nat × (AV G)))
  | [] => some []
  | (i, x) :: r => match rho tm x, rhoParts tm r with
    | some a, some l => some ((i, a) :: l)
    | _, _ => none

def placesOf (P : Program) : List Field → Option (List (Nat × Nat))
  | [] => some []
  | f :: r => match szOf P f.type, placesOf P r with
    | some n, some l => some ((f.offset, n) :: l)
    | _, _ => none

def zeroOf (P : Program) (t : TypeId) : Option (AV G) :=
  match P.info? t with
  | some i => match i.zero with
    | some z => ofV z
    | none => none
  | none => none

def buildA (P : Program) (t : TypeId) (parts : List (Nat × (AV G))) : Option (AV G) :=
  match (zeroOf P t : Option (AV G)), P.underlying t with
  | some z, some (.struct fs) => match placesOf P fs.toList with
    | some pl => (fillA (fun i => pl[i]?) z.parts parts).map .agg
    | none => none
  | some z, some (.array _ e) => match szOf P e with
    | some n => (fillA (fun i => some (i * n, n)) z.parts parts).map .agg
    | none => none
  | _, _ => none

def minA : (AV G) → List (AV G) → Option (AV G)
  | a, [] => some a
  | .int k x, .int _ y :: r => minA (.int k (if y < x then y else x)) r
  | a, b :: r => match symPair a b with
    | some (p, q) => match mkS G 3 p q with
      | some z => minA z.av r
      | none => none
    | none => none

def maxA : (AV G) → List (AV G) → Option (AV G)
  | a, [] => some a
  | .int k x, .int _ y :: r => maxA (.int k (if y > x then y else x)) r
  | a, b :: r => match symPair a b with
    | some (p, q) => match mkS G 4 p q with
      | some z => maxA z.av r
      | none => none
    | none => none

/-- Calls of built-in functions that look at nothing. -/
def builtinA (P : Program) (b : Builtin) (argTypes : Array TypeId) (args : List (AV G)) : Option (AV G) :=
  match b, args with
  | .len, [x] => match argTypes[0]? with
    | some t => match P.underlying t, x with
      | some .string, .str s => some (.int .i64 s.size)
      | some (.array n _), _ => some (.int .i64 n)
      | some (.slice _), .slice _ _ n _ _ => some (.int .i64 n)
      | some (.slice _), .nils => some (.int .i64 0)
      | some (.map _ _), .nilm => some (.int .i64 0)
      | _, _ => none
    | none => none
  | .min, a :: r => minA a r
  | .max, a :: r => maxA a r
  | _, _ => none

/-! ### Operations that look at no memory -/
def armPick (P : Program) (tm : (TT G)) (c : Operand) (a : Operand) (b : Operand) : Option (AV G) :=
  match rho tm c with
    | some (.bool t) => if t then rho tm a else rho tm b
    | _ => none

def armNilCheck (P : Program) (tm : (TT G)) (x : Operand) : Option (AV G) :=
  match rho tm x with
    | some (.ptr id off) => some (.ptr id off)
    | some (.slice id off n c g) => some (.slice id off n c g)
    | some (.map id) => some (.map id)
    | _ => none

def armBinOp (P : Program) (tm : (TT G)) (op : BinOp) (t : TypeId) (x : Operand) (y : Operand) : Option (AV G) :=
  match rho tm x, rho tm y with
    | some a, some b => binA P op t a b
    | _, _ => none

def armUnOp (P : Program) (tm : (TT G)) (op : UnOp) (x : Operand) : Option (AV G) :=
  match rho tm x with
    | some a => unA op a
    | none => none

def armConvert (P : Program) (tm : (TT G)) (src : TypeId) (dst : TypeId) (x : Operand) : Option (AV G) :=
  match P.underlying src, P.underlying dst, rho tm x with
    | some _, some (.int k), some (.int _ n) => some (.int k (fwrap k n))
    | some _, some (.int .i64), some (.sx x l u) => if fit64 ⟨x, l, u⟩ = true then some (.sx x l u) else none
    | some .string, some .string, some (.str s) => some (.str s)
    | _, _, _ => none

def armMakeFunc (P : Program) (tm : (TT G)) (fn : Fn) (f : Array Operand) (c : Array Operand) : Option (AV G) :=
  match rhos tm f.toList, rhos tm c.toList with
    | some f, some c => some (.func fn f c)
    | _, _ => none

def armFieldAddr (P : Program) (tm : (TT G)) (s : TypeId) (x : Operand) (f : Nat) : Option (AV G) :=
  match rho tm x, fieldOf P s f with
    | some (.ptr id off), some fd => match szOf P fd.type with
      | some n => if n = 0 then none else some (.ptr id (off + fd.offset))
      | none => none
    | _, _ => none

def armField (P : Program) (tm : (TT G)) (t : TypeId) (x : Operand) (f : Nat) : Option (AV G) :=
  match rho tm x, fieldOf P t f with
    | some (.agg cs), some fd => partA P fd.type cs fd.offset
    | _, _ => none

def armIndexAddr (P : Program) (tm : (TT G)) (t : TypeId) (x : Operand) (i : Operand) : Option (AV G) :=
  match P.underlying t, rho tm x, rho tm i with
    | some (.array len e), some (.ptr id off), some (.int _ i) => match szOf P e with
      | some n => if 0 ≤ i ∧ i < len then some (.ptr id (off + i.toNat * n)) else none
      | none => none
    | some (.slice e), some (.slice id off len _ _), some (.int _ i) => match szOf P e with
      | some n => if 0 ≤ i ∧ i < len then some (.ptr id (off + i.toNat * n)) else none
      | none => none
    | _, _, _ => none

def armIndex (P : Program) (tm : (TT G)) (t : TypeId) (x : Operand) (i : Operand) : Option (AV G) :=
  match P.underlying t, rho tm x, rho tm i with
    | some (.array len e), some (.agg cs), some (.int _ i) => match szOf P e with
      | some n => if 0 ≤ i ∧ i < len then partA P e cs (i.toNat * n) else none
      | none => none
    | some .string, some (.str s), some (.int _ i) => if 0 ≤ i then match s[i.toNat]? with
      | some b => some (.int .u8 b.toNat)
      | none => none
      else none
    | _, _, _ => none

def armExtract (P : Program) (tm : (TT G)) (x : Operand) (i : Nat) : Option (AV G) :=
  match rho tm x with
    | some (.tuple vs) => vs[i]?
    | _ => none

def armSlice (P : Program) (tm : (TT G)) (t : TypeId) (x : Operand) (lo : Option Operand) (hi : Option Operand) (mx : Option Operand) : Option (AV G) :=
  match P.underlying t, rho tm x, optRho tm lo, optRho tm hi, mx with
    | some .string, some (.str s), some lo, some hi, none =>
      match boundA hi s.size s.size with
      | some h => match boundA lo 0 h with
        | some l => some (.str (s.extract l h))
        | none => none
      | none => none
    | some (.slice e), some .nils, some lo, some hi, none =>
      match szOf P e, boundA hi 0 0 with
      | some _, some h => match boundA lo 0 h with
        | some _ => some .nils
        | none => none
      | _, _ => none
    | some (.slice e), some (.slice id off len cap g), some lo, some hi, none =>
      match szOf P e, boundA hi len (capB g len cap) with
      | some n, some h => match boundA lo 0 h with
        | some l => cutA id off l h cap cap n g
        | none => none
      | _, _ => none
    | some (.array n e), some (.ptr id off), some lo, some hi, none =>
      match szOf P e, boundA hi n n with
      | some sz, some h => match boundA lo 0 h with
        | some l => some (.slice id (if n = l then off else off + l * sz) (h - l) (n - l) false)
        | none => none
      | _, _ => none
    | some (.slice e), some (.slice id off len cap g), some lo, some (some (.int _ hi)), some mx =>
      match szOf P e, rho tm mx with
      | some n, some (.int _ m) =>
        if 0 ≤ m ∧ m ≤ (capB g len cap) ∧ 0 ≤ hi ∧ hi ≤ m then
          match boundA lo 0 hi.toNat with
          | some l => some (.slice id (if m.toNat = l then off else off + l * n) (hi.toNat - l) (m.toNat - l) false)
          | none => none
        else none
      | _, _ => none
    | _, _, _, _, _ => none

def armBuild (P : Program) (tm : (TT G)) (t : TypeId) (parts : Array (Nat × Operand)) : Option (AV G) :=
  match rhoParts tm parts.toList with
    | some ps => buildA P t ps
    | none => none

def armMakeInterface (P : Program) (tm : (TT G)) (t : TypeId) (x : Operand) : Option (AV G) :=
  match P.underlying t, rho tm x with
    | some (.interface _), _ => none
    | some _, some a => some (.iface t a)
    | _, _ => none

def armCall (P : Program) (tm : (TT G)) (c : Call) : Option (AV G) :=
  match c.callee with
    | .builtin b => match rhos tm c.args.toList with
      | some as => builtinA P b c.argTypes as
      | none => none
    | _ => none

def pureOp (P : Program) (tm : (TT G)) (o : Op) : Option (AV G) :=
  match o with
  | .move x | .assign x => rho tm x
  | .pick c a b => armPick P tm c a b
  | .nilCheck x => armNilCheck P tm x
  | .binOp op t x y _ => armBinOp P tm op t x y
  | .unOp op _ x => armUnOp P tm op x
  | .convert src dst x => armConvert P tm src dst x
  | .makeFunc fn f c => armMakeFunc P tm fn f c
  | .fieldAddr s x f => armFieldAddr P tm s x f
  | .field t x f => armField P tm t x f
  | .indexAddr t x i => armIndexAddr P tm t x i
  | .index t x i => armIndex P tm t x i
  | .extract x i => armExtract P tm x i
  | .slice t x lo hi mx => armSlice P tm t x lo hi mx
  | .build t parts => armBuild P tm t parts
  | .makeInterface t x => armMakeInterface P tm t x
  | .call c => armCall P tm c
  | _ => none

/-! ### Looking at memory -/
def AH.read (h : (AH G)) (id off n : Nat) : Option (List (AV G)) :=
  match h.objs.get id with
  | some (.cells vs _) => sub vs off n
  | _ => none

def AH.read1 (h : (AH G)) (id off : Nat) : Option (AV G) :=
  match h.objs.get id with
  | some (.cells vs _) => vs[off]?
  | _ => none

def AH.ents (h : (AH G)) (id : Nat) : Option (List ((AV G) × (AV G))) :=
  match h.objs.get id with
  | some (.map es) => some es
  | _ => none

def findA (P : Program) (kt : TypeId) (k : (AV G)) : List ((AV G) × (AV G)) → Option (Option (AV G))
  | [] => some none
  | (k', v) :: r => match eqA P eqFuel kt k k' with
    | some true => some (some v)
    | some false => findA P kt k r
    | none => none

def chkFs (P : Program) (rec : TypeId → (AV G) → Bool) (xs : List (AV G)) : List Field → Bool
  | [] => true
  | f :: fs => if f.name ≠ "_" then (match partA P f.type xs f.offset with | some a => rec f.type a && chkFs P rec xs fs | none => false) else chkFs P rec xs fs

def chkEs (P : Program) (rec : (AV G) → Bool) (elem : TypeId) (n : Nat) (xs : List (AV G)) : List Nat → Bool
  | [] => true
  | i :: r => match partA P elem xs (i * n) with | some a => rec a && chkEs P rec elem n xs r | none => false

/-- A key that can be one. -/
def chkA (P : Program) : Nat → TypeId → (AV G) → Bool
  | 0, _, _ => false
  | f + 1, t, x =>
    match P.underlying t, x with
    | some (.struct fs), .agg xs => chkFs P (chkA P f) xs fs.toList
    | some (.array len e), .agg xs => match szOf P e with
      | some n => chkEs P (chkA P f e) e n xs (List.range len)
      | none => false
    | some .bool, .bool _ => true
    | some (.int _), .int _ _ => true
    | some (.int _), .sx _ _ _ => true
    | some .string, .str _ => true
    | _, _ => false

def readOp (P : Program) (tm : (TT G)) (h : (AH G)) (o : Op) : Option (AV G) :=
  match o with
  | .load t x => match rho tm x, rowOf P t with
    | some (.ptr id off), some (some n) => (h.read id off n).map .agg
    | some (.ptr id off), some none => h.read1 id off
    | _, _ => none
  | .lookup t x i ok => match P.underlying t, rho tm x, rho tm i with
    | some (.map kt et), some m, some k =>
      if chkA P eqFuel kt k then
        match (match m with | .nilm => some [] | .map id => h.ents id | _ => none) with
        | some es => match findA P kt k es with
          | some (some v) => some (if ok then .tuple [v, .bool true] else v)
          | some none => match zeroOf P et with
            | some z => some (if ok then .tuple [z, .bool false] else z)
            | none => none
          | none => none
        | none => none
      else none
    | _, _, _ => none
  | _ => none

/-! ### Turning memory -/
def reptA (z : List (AV G)) : Nat → List (AV G)
  | 0 => []
  | n + 1 => z ++ reptA z n

/-- Room for as many elements can be asked for. -/
def fitsA (need bytes : Nat) : Bool := decide ((2 * need + 1024) * bytes ≤ 281474976710656) && decide (need ≤ 4611686018427387904)

def bytesA (s : ByteArray) : List (AV G) := s.data.toList.map fun b => .int .u8 b.toNat

def oneAll : List (AV G) → Bool
  | [] => true
  | a :: r => a.one && oneAll r

def newsOf (P : Program) (h : (AH G)) (t : TypeId) (size : Nat) (x : (AV G)) : Option (Nat × List (AV G)) :=
  match P.underlying t, x with
  | some (.slice _), .nils => some (0, [])
  | some (.slice _), .slice id off n _ _ => match h.read id off (n * size) with
    | some cs => some (n, cs)
    | none => none
  | some .string, .str s => if size = 1 then some (s.size, bytesA s) else none
  | _, _ => none

def appendA (P : Program) (h : (AH G)) (argTypes : List TypeId) (args : List (AV G)) : Option ((AV G) × (AH G)) :=
  match argTypes, args with
  | [t, tx], [s, x] =>
    match P.underlying t with
    | some (.slice e) => match P.info? e with
      | some i => match (zeroOf P e : Option (AV G)), newsOf P h tx i.size x with
        | some z, some (n, news) =>
          if oneAll news = true ∧ z.parts.length = i.size then
          match s with
          | .nils =>
            if n = 0 then some (.nils, h)
            else if fitsA n i.bytes = true then some (.slice h.next 0 n i.size true, h.allocC news) else none
          | .slice id off len cap false =>
            if n = 0 then some (.slice id off len cap false, h)
            else if len + n ≤ cap then match h.write id (off + len * i.size) news with
              | some h' => some (.slice id off (len + n) cap false, h')
              | none => none
            else match h.read id off (len * i.size) with
              | some old => if fitsA (len + n) i.bytes = true then some (.slice h.next 0 (len + n) i.size true, h.allocC (old ++ news)) else none
              | none => none
          | .slice id off len cap true =>
            if n = 0 then some (.slice id off len cap true, h)
            else if off = 0 ∧ cap = i.size ∧ fitsA (len + n) i.bytes = true then
              match h.objs.get id with
              | some (.cells vs (some _)) =>
                if vs.length = len * i.size then match h.push id news with
                  | some h' => some (.slice h.next 0 (len + n) i.size true, h')
                  | none => none
                else none
              | _ => none
            else none
          | _ => none
          else none
        | _, _ => none
      | none => none
    | _ => none
  | _, _ => none

def copyA (P : Program) (h : (AH G)) (argTypes : List TypeId) (args : List (AV G)) : Option ((AV G) × (AH G)) :=
  match argTypes, args with
  | [t, tx], [.slice id off len _ _, x] =>
    match P.underlying t with
    | some (.slice e) => match szOf P e with
      | some sz => match P.underlying tx, x with
        | some (.slice _), .slice id2 off2 n2 _ _ =>
          match h.read id2 off2 (Nat.min n2 len * sz) with
          | some cs => if oneAll cs = true then match h.write id off cs with
            | some h' => some (.int .i64 (Nat.min n2 len), h')
            | none => none
            else none
          | none => none
        | _, _ => none
      | none => none
    | _ => none
  | _, _ => none

def stepOp (P : Program) (tm : (TT G)) (h : (AH G)) (o : Op) : Option ((AV G) × (AH G)) :=
  match o with
  | .alloc e => match (zeroOf P e : Option (AV G)) with
    | some z => some (.ptr h.next 0, h.allocC z.parts)
    | none => none
  | .box _ x => match rho tm x with
    | some a => some (.ptr h.next 0, h.allocC a.parts)
    | none => none
  | .store t x v => match rho tm x, rho tm v, szOf P t with
    | some (.ptr id off), some a, some n =>
      if a.parts.length = n ∧ oneAll a.parts = true then match h.write id off a.parts with
        | some h' => some (undefA, h')
        | none => none
      else none
    | _, _, _ => none
  | .buildSlice t len parts => match P.underlying t, rhoParts tm parts.toList with
    | some (.slice e), some ps => match szOf P e, (zeroOf P e : Option (AV G)) with
      | some n, some z =>
        if len * n ≤ 16777216 ∧ 0 < n ∧ z.parts.length = n then match fillA (fun i => some (i * n, n)) (reptA z.parts len) ps with
          | some cs => some (.slice h.next 0 len len false, h.allocC cs)
          | none => none
        else none
      | _, _ => none
    | _, _ => none
  | .makeSlice t l c => match P.underlying t, rho tm l, rho tm c with
    | some (.slice e), some (.int _ l), some (.int _ c) => match P.info? e, (zeroOf P e : Option (AV G)) with
      | some i, some z =>
        if 0 ≤ l ∧ l ≤ c ∧ c ≤ 1000000 ∧ i.bytes ≤ 1000000 ∧ 0 < i.size ∧ z.parts.length = i.size then some (.slice h.next 0 l.toNat c.toNat false, h.allocC (reptA z.parts c.toNat))
        else none
      | _, _ => none
    | _, _, _ => none
  | .makeMap _ none => some (.map h.next, h.allocO (.map []))
  | .mapUpdate t m k v | .insert t m k v => match P.underlying t, rho tm m, rho tm k, rho tm v with
    | some (.map kt _), some (.map id), some k, some v =>
      if chkA P eqFuel kt k then
        match h.ents id with
        | some es => match findA P kt k es with
          | some none => some (undefA, h.putO id (.map (es ++ [(k, v)])))
          | _ => none
        | none => none
      else none
    | _, _, _, _ => none
  | .call c => match c.callee with
    | .builtin .append => match rhos tm c.args.toList with
      | some as => appendA P h c.argTypes.toList as
      | none => none
    | .builtin .copy => match rhos tm c.args.toList with
      | some as => copyA P h c.argTypes.toList as
      | none => none
    | _ => none
  | _ => none

end Go.Ev
end

noncomputable section
namespace Go.Ev
variable {G : Ctx}

section
variable {e : (Env G)}

theorem ofV1_sound : ∀ {v : Value} {a : (AV G)}, ofV1 v = some a → VR e a v := by
  intro v a h
  unfold ofV1 at h
  split at h <;> first | (cases h; simp [VR]; done) | cases h

theorem ofVl_sound : ∀ {vs : List Value} {as : List (AV G)}, ofVl vs = some as → VRs e as vs
  | [], as, h => by simp only [ofVl] at h; cases h; simp [VRs]
  | v :: r, as, h => by
    simp only [ofVl] at h
    split at h
    · rename_i x l h1 h2
      cases h
      simp only [VRs]
      exact ⟨v, r, rfl, ofV1_sound h1, ofVl_sound h2⟩
    · cases h

theorem ofV_sound {v : Value} {a : (AV G)} (h : ofV v = some a) : VR e a v := by
  unfold ofV at h
  split at h
  · obtain ⟨l, h1, rfl⟩ := Option.map_eq_some_iff.1 h
    simp only [VR]; exact ⟨_, rfl, ofVl_sound h1⟩
  · obtain ⟨l, h1, rfl⟩ := Option.map_eq_some_iff.1 h
    simp only [VR]; exact ⟨_, rfl, ofVl_sound h1⟩
  · obtain ⟨l, h1, rfl⟩ := Option.map_eq_some_iff.1 h
    simp only [VR]; exact ⟨_, rfl, ofV1_sound h1⟩
  · exact ofV1_sound h

theorem VR_undef : VR e undefA undef := by
  simp only [undefA, VR, undef]; exact ⟨_, rfl, by simp [VRs]⟩

theorem getT_sound {tm : (TT G)} {vs : Array Value} (t : Nat) (h : TRs e tm vs) : VR e (getT tm t) (vs.getD t undef) := by
  cases hv : vs[t]? with
  | some v => rw [Array.getD_eq_getD_getElem?, hv]; exact h.get t v hv
  | none =>
    have := Array.getElem?_eq_none_iff.1 hv
    have := h.size
    rw [getT_none (h.out t (by omega)), Array.getD_eq_getD_getElem?, hv]; exact VR_undef

theorem ofT_sound {l : List (AV G)} {vs : Array Value} (n : Nat) (h : VRs e l vs.toList) : TRs e (ofT l n) (vs ++ Array.replicate (n - vs.size) undef) := by
  have hl : vs.size = l.length := by have := h.length; simpa using this
  refine ⟨by simp [ofT, hl], fun i hi => ?_, fun i v hv => ?_⟩
  · have hi' : l.length + (n - l.length) ≤ i := hi
    show (fillT l 0 .nil).get i = none
    rw [get_fillT, if_neg (by omega)]; rfl
  · show VR e (getV ((fillT l 0 .nil).get i)) v
    rw [get_fillT]
    by_cases hlt : i < l.length
    · rw [if_pos (by omega)]
      rw [Array.getElem?_append_left (by omega)] at hv
      have h1 : l[i]? = some l[i] := by simp [hlt]
      obtain ⟨u, k1, k2⟩ := h.get h1
      have : u = v := by
        have k1' : vs[i]? = some u := by simpa using k1
        exact Option.some.inj (k1'.symm.trans hv)
      subst this
      rw [Nat.sub_zero, h1]; exact k2
    · rw [if_neg (by omega)]
      rw [Array.getElem?_append_right (by omega), Array.getElem?_replicate] at hv
      split at hv
      · cases hv; exact VR_undef
      · cases hv

theorem rho_sound {tm : (TT G)} {a : Act} (ht : TRs e tm a.tmps) {x : Operand} {v : (AV G)} (h : rho tm x = some v) : VR e v (a.eval x) := by
  unfold rho at h
  split at h
  · cases h
    exact getT_sound (e := e) (tm := tm) (vs := a.tmps) _ ht
  · exact ofV_sound h
  · cases h
  · cases h
    simp [Act.eval, VR, VRs]

theorem rhos_sound {tm : (TT G)} {a : Act} (ht : TRs e tm a.tmps) : ∀ {xs : List Operand} {vs : List (AV G)}, rhos tm xs = some vs → VRs e vs (xs.map a.eval)
  | [], vs, h => by simp only [rhos] at h; cases h; simp [VRs]
  | x :: r, vs, h => by
    simp only [rhos] at h
    split at h
    · rename_i b l h1 h2
      cases h
      simp only [List.map_cons, VRs]
      exact ⟨_, _, rfl, rho_sound ht h1, rhos_sound ht h2⟩
    · cases h

end

/-! ### Inversions -/
section
variable {e : (Env G)} {v : Value}
theorem VR.int {k n} (h : VR e (.int k n) v) : v = .int k n := by simpa [VR] using h
theorem VR.bool {b} (h : VR e (.bool b) v) : v = .bool b := by simpa [VR] using h
theorem VR.str {s} (h : VR e (.str s) v) : v = .string s := by simpa [VR] using h
theorem VR.ptr {id off} (h : VR e (.ptr id off) v) : ∃ b o, e.φ id = some (b, o) ∧ v = .pointer (some ⟨b, o + off, none⟩) := by simpa [VR] using h
theorem VR.agg {cs} (h : VR e (.agg cs) v) : ∃ xs, v = .agg xs ∧ VRs e cs xs.toList := by simpa [VR] using h
theorem VR.tuple {cs} (h : VR e (.tuple cs) v) : ∃ xs, v = .tuple xs ∧ VRs e cs xs.toList := by simpa [VR] using h
theorem VR.slice {id off len cap g} (h : VR e (.slice id off len cap g) v) : ∃ b o c, e.φ id = some (b, o) ∧ v = .slice (some ⟨b, o + off, none⟩) len c ∧ len ≤ c ∧ (g = false → c = cap) ∧ (g = true → off = 0 → c * cap ≤ e.room id) := by
  simpa only [VR] using h
end

theorem fwrap_eq (k : IntKind) (n : Int) : fwrap k n = k.wrap n := by
  by_cases hk : k = .i64
  · subst hk
    rw [fwrap_i64]
    split
    · rename_i h
      simp only [IntKind.wrap, IntKind.bits, IntKind.signed]
      simp
      split <;> omega
    · rfl
  · cases k <;> first | exact absurd rfl hk | rfl

section
variable {P : Program} {e : (Env G)}

theorem sub_sound {cs : List (AV G)} {xs : List Value} {off n : Nat} {r : List (AV G)} (h : VRs e cs xs) (hs : sub cs off n = some r) : VRs e r ((xs.drop off).take n) ∧ off + n ≤ xs.length := by
  unfold sub at hs
  split at hs
  · cases hs; exact ⟨VRs.take _ (VRs.drop _ h), by rw [h.length]; assumption⟩
  · cases hs

def isRowD : TypeDesc → Bool
  | .struct _ | .array _ _ => true
  | _ => false

theorem run_isAgg {t : TypeId} {d : TypeDesc} (hd : P.underlying t = some d) (w : World) : (isAgg t).run P w = .ok (isRowD d) w := by
  unfold isAgg
  rw [Sem.run_bind, run_underlying hd w]
  cases d <;> simp [isRowD]

theorem part_sound {t : TypeId} {cs : List (AV G)} {xs : Array Value} {off : Nat} {v : (AV G)} (h : VRs e cs xs.toList) (hp : partA P t cs off = some v) :
    ∃ v', VR e v v' ∧ ∀ w, (part t xs off).run P w = .ok v' w := by
  unfold partA rowOf at hp
  cases hd : P.underlying t with
  | none => simp [hd] at hp
  | some d =>
    have hrow : ∀ (hx : isRowD d = true) (hp : (match ((P.info? t).map fun i => some i.size : Option (Option Nat)) with | some (some n) => (sub cs off n).map AV.agg | some none => cs[off]? | none => none) = some v),
        ∃ v', VR e v v' ∧ ∀ w, (part t xs off).run P w = .ok v' w := by
      intro hx hp
      cases hi : P.info? t with
      | none => simp [hi] at hp
      | some i =>
        simp [hi] at hp
        obtain ⟨r, hr, rfl⟩ := hp
        obtain ⟨h1, h2⟩ := sub_sound h hr
        refine ⟨.agg (xs.extract off (off + i.size)), ?_, fun w => ?_⟩
        · simp only [VR]
          refine ⟨_, rfl, ?_⟩
          have : (xs.extract off (off + i.size)).toList = (xs.toList.drop off).take i.size := by
            simp [Array.toList_extract, List.extract_eq_take_drop]
          rw [this]; exact h1
        · simp [part, run_isAgg hd, hx, sizeOf, typeInfo, hi]
    have hone : ∀ (hx : isRowD d = false) (hp : cs[off]? = some v), ∃ v', VR e v v' ∧ ∀ w, (part t xs off).run P w = .ok v' w := by
      intro hx hp
      obtain ⟨v', h1, h2⟩ := h.get hp
      refine ⟨v', h2, fun w => ?_⟩
      have h1' : xs[off]? = some v' := by simpa using h1
      simp [part, run_isAgg hd, hx, h1']
    rw [hd] at hp
    cases d <;> first | exact hrow rfl hp | exact hone rfl hp

theorem intOp_sound {t : TypeId} {op : BinOp} {k : IntKind} {x y : Int} {v : (AV G)} (hop : op ≠ .shl ∧ op ≠ .shr) (h : intOp op k x y = some v) : ∃ v', VR e v v' ∧ ∀ w, (binOp op t (.int k x) (.int k y)).run P w = .ok v' w := by
  unfold intOp at h
  split at h <;> first
    | (cases h; done)
    | (cases h; refine ⟨_, by simp only [VR]; exact rfl, fun w => ?_⟩; simp [binOp, Op.intArith, Op.intBits, Op.intCmp, fwrap_eq, ltI_eq, leI_eq]; done)
    | (split at h
       · cases h
       · cases h; rename_i hy; refine ⟨_, by simp only [VR]; exact rfl, fun w => ?_⟩; simp [binOp, Op.intDiv, hy, fwrap_eq])
end
end Go.Ev
end

noncomputable section
namespace Go.Ev
section
variable {G : Ctx} {P : Program} {e : Env G}

theorem sv_sound {a : AV G} {s : SV} (h : a.sv = some s) {v : Value} (hv : VR e a v) : v = .int .i64 (s.x.eval e.opq) ∧ s.ok e.opq := by
  unfold AV.sv at h
  split at h
  · cases h; simp only [VR] at hv; exact ⟨hv.1, hv.2⟩
  · cases h; cases hv.int; exact ⟨rfl, Int.le_refl _, Int.le_refl _⟩
  · cases h

theorem SV.av_VR {s : SV} (h : s.ok e.opq) : VR e s.av (.int .i64 (s.x.eval e.opq)) := by
  simp only [SV.av, VR]; exact ⟨trivial, h⟩

theorem symPair_sound {a b : AV G} {p q : SV} (h : symPair a b = some (p, q)) {x y : Value} (ha : VR e a x) (hb : VR e b y) :
    x = .int .i64 (p.x.eval e.opq) ∧ y = .int .i64 (q.x.eval e.opq) ∧ p.ok e.opq ∧ q.ok e.opq := by
  unfold symPair at h
  split at h
  · split at h
    · rename_i c hc
      cases h
      simp only [VR] at ha
      obtain ⟨h1, h2⟩ := sv_sound hc hb
      exact ⟨ha.1, h1, ha.2, h2⟩
    · cases h
  · cases h
    simp only [VR] at hb
    cases ha.int
    exact ⟨rfl, hb.1, ⟨Int.le_refl _, Int.le_refl _⟩, hb.2⟩
  · cases h

theorem wrap64_in {n : Int} (h1 : -9223372036854775808 ≤ n) (h2 : n ≤ 9223372036854775807) : IntKind.wrap .i64 n = n := by
  rw [← fwrap_eq, fwrap_i64, if_pos ⟨h1, h2⟩]

theorem avO_some {r : Option SV} {v : AV G} (h : avO r = some v) : ∃ z, r = some z ∧ v = z.av := by
  unfold avO at h; split at h
  · cases h; exact ⟨_, rfl, rfl⟩
  · cases h

theorem boolO_some {r : Option Bool} {v : AV G} (h : boolO r = some v) : ∃ z, r = some z ∧ v = .bool z := by
  unfold boolO at h; split at h
  · cases h; exact ⟨_, rfl, rfl⟩
  · cases h

theorem notO_some {r : Option Bool} {v : AV G} (h : notO r = some v) : ∃ z, r = some z ∧ v = .bool !z := by
  unfold notO at h; split at h
  · cases h; exact ⟨_, rfl, rfl⟩
  · cases h

theorem le_not (a b : Int) : decide (a ≤ b) = !decide (b < a) := by
  by_cases h : b < a
  · rw [decide_eq_true h]; exact decide_eq_false (by omega)
  · rw [decide_eq_false h]; exact decide_eq_true (by omega)

theorem symOp_sound {op : BinOp} {p q : SV} {v : AV G} {t : TypeId} (h : symOp op p q = some v) (hp : p.ok e.opq) (hq : q.ok e.opq) :
    ∃ v', VR e v v' ∧ ∀ w, (binOp op t (.int .i64 (p.x.eval e.opq)) (.int .i64 (q.x.eval e.opq))).run P w = .ok v' w := by
  have hG := e.holds
  unfold symOp at h
  split at h
  · obtain ⟨z, hz, rfl⟩ := avO_some h
    obtain ⟨h1, h2, h3, h4⟩ := mkS64_sound hG hz hp hq
    refine ⟨_, SV.av_VR h2, fun w => ?_⟩
    simp only [sxOp] at h1 h3 h4
    simp [binOp, Op.intArith, wrap64_in h3 h4, h1]
  · obtain ⟨z, hz, rfl⟩ := avO_some h
    obtain ⟨h1, h2, h3, h4⟩ := mkS64_sound hG hz hp hq
    refine ⟨_, SV.av_VR h2, fun w => ?_⟩
    simp only [sxOp] at h1 h3 h4
    simp [binOp, Op.intArith, wrap64_in h3 h4, h1]
  · obtain ⟨z, hz, rfl⟩ := avO_some h
    obtain ⟨h1, h2, h3, h4⟩ := mkS64_sound hG hz hp hq
    refine ⟨_, SV.av_VR h2, fun w => ?_⟩
    simp only [sxOp] at h1 h3 h4
    simp [binOp, Op.intArith, wrap64_in h3 h4, h1]
  · split at h
    · rename_i hl
      have hl := posS_sound hG hl hq
      obtain ⟨z, hz, rfl⟩ := avO_some h
      obtain ⟨h1, h2, h3, h4⟩ := mkS64_sound hG hz hp hq
      refine ⟨_, SV.av_VR h2, fun w => ?_⟩
      have := hq.1
      have hne : q.x.eval e.opq ≠ 0 := by omega
      simp only [sxOp] at h1 h3 h4
      simp [binOp, Op.intDiv, hne, wrap64_in h3 h4, h1]
    · cases h
  · split at h
    · rename_i hl
      have hl := posS_sound hG hl hq
      obtain ⟨z, hz, rfl⟩ := avO_some h
      obtain ⟨h1, h2, h3, h4⟩ := mkS64_sound hG hz hp hq
      refine ⟨_, SV.av_VR h2, fun w => ?_⟩
      have := hq.1
      have hne : q.x.eval e.opq ≠ 0 := by omega
      simp only [sxOp] at h1 h3 h4
      simp [binOp, Op.intDiv, hne, h1]
    · cases h
  · obtain ⟨z, hz, rfl⟩ := boolO_some h
    have k := eqS_sound hG hz hp hq
    refine ⟨.bool z, by simp [VR], fun w => ?_⟩
    simp only [binOp, Op.intCmp]
    rw [← k]
    by_cases hh : p.x.eval e.opq = q.x.eval e.opq <;> simp [hh]
  · obtain ⟨z, hz, rfl⟩ := notO_some h
    have k := eqS_sound hG hz hp hq
    refine ⟨.bool !z, by simp [VR], fun w => ?_⟩
    simp only [binOp, Op.intCmp]
    rw [← k]
    by_cases hh : p.x.eval e.opq = q.x.eval e.opq <;> simp [hh]
  · obtain ⟨z, hz, rfl⟩ := boolO_some h
    have k := ltS_sound hG hz hp hq
    refine ⟨.bool z, by simp [VR], fun w => ?_⟩
    simp [binOp, Op.intCmp, k]
  · obtain ⟨z, hz, rfl⟩ := notO_some h
    have k := ltS_sound hG hz hq hp
    refine ⟨.bool !z, by simp [VR], fun w => ?_⟩
    rw [← k]
    simp [binOp, Op.intCmp, le_not]
  · obtain ⟨z, hz, rfl⟩ := boolO_some h
    have k := ltS_sound hG hz hq hp
    refine ⟨.bool z, by simp [VR], fun w => ?_⟩
    simp [binOp, Op.intCmp, k]
  · obtain ⟨z, hz, rfl⟩ := notO_some h
    have k := ltS_sound hG hz hp hq
    refine ⟨.bool !z, by simp [VR], fun w => ?_⟩
    rw [← k]
    simp [binOp, Op.intCmp, le_not]
  · cases h
end
end Go.Ev
end

noncomputable section
namespace Go.Ev
variable {G : Ctx}
section
variable {P : Program} {e : (Env G)}

theorem eqFs_sound {rec : TypeId → (AV G) → (AV G) → Option Bool} {d : Nat} (hrec : ∀ t a b r x y, rec t a b = some r → VR e a x → VR e b y → ∀ w, (Op.equalIn d t x y).run P w = .ok r w) {cs ds : List (AV G)} {xs ys : Array Value}
    (hx : VRs e cs xs.toList) (hy : VRs e ds ys.toList) : ∀ {fs : List Field} {r : Bool}, eqFs P rec cs ds fs = some r → ∀ w, (Op.eqFields d xs ys fs).run P w = .ok r w
  | [], r, h, w => by simp only [eqFs] at h; cases h; simp [Op.eqFields]
  | f :: fs, r, h, w => by
    simp only [eqFs] at h
    simp only [Op.eqFields]
    split at h
    · rename_i hn
      rw [if_pos hn]
      split at h
      · rename_i a b ha hb
        obtain ⟨a', ha1, ha2⟩ := part_sound hx ha
        obtain ⟨b', hb1, hb2⟩ := part_sound hy hb
        simp only [Sem.run_bind, ha2, hb2, Result.andThen_ok]
        split at h
        · rename_i hr
          rw [hrec _ _ _ _ _ _ hr ha1 hb1]
          simp only [Result.andThen_ok, Bool.not_true, Bool.false_eq_true, if_false]
          exact eqFs_sound hrec hx hy h w
        · rename_i hr
          rw [hrec _ _ _ _ _ _ h ha1 hb1]
          cases r with
          | true => exact absurd h hr
          | false => simp
      · cases h
    · rename_i hn
      rw [if_neg hn]
      exact eqFs_sound hrec hx hy h w

theorem eqEs_sound {rec : (AV G) → (AV G) → Option Bool} {d n : Nat} {elem : TypeId} (hrec : ∀ a b r x y, rec a b = some r → VR e a x → VR e b y → ∀ w, (Op.equalIn d elem x y).run P w = .ok r w) {cs ds : List (AV G)} {xs ys : Array Value}
    (hx : VRs e cs xs.toList) (hy : VRs e ds ys.toList) : ∀ {l : List Nat} {r : Bool}, eqEs P rec elem n cs ds l = some r → ∀ w,
      ((forIn l ((none, ()) : Option Bool × Unit) (fun i _ => do
        let a ← part elem xs (i * n)
        let b ← part elem ys (i * n)
        let r ← Op.equalIn d elem a b
        if (!r) = true then pure (ForInStep.done (some false, ())) else pure (ForInStep.yield (none, ()))) : Sem (Option Bool × Unit))).run P w = .ok (if r then (none, ()) else (some false, ())) w
  | [], r, h, w => by simp only [eqEs] at h; cases h; simp
  | i :: l, r, h, w => by
    simp only [eqEs] at h
    split at h
    · rename_i a b ha hb
      obtain ⟨a', ha1, ha2⟩ := part_sound hx ha
      obtain ⟨b', hb1, hb2⟩ := part_sound hy hb
      simp only [List.forIn_cons, Sem.run_bind, ha2, hb2, Result.andThen_ok]
      split at h
      · rename_i hr
        rw [hrec _ _ _ _ _ hr ha1 hb1]
        simp only [Result.andThen_ok, Bool.not_true, Bool.false_eq_true, if_false, Sem.run_pure]
        exact eqEs_sound hrec hx hy h w
      · rename_i hr
        rw [hrec _ _ _ _ _ h ha1 hb1]
        cases r with
        | true => exact absurd h hr
        | false => simp
    · cases h

theorem run_sizeOf {t : TypeId} {n : Nat} (h : szOf P t = some n) (w : World) : (sizeOf t).run P w = .ok n w := by
  unfold szOf at h
  obtain ⟨i, hi, rfl⟩ := Option.map_eq_some_iff.1 h
  simp [sizeOf, typeInfo, hi]

theorem eqA_sound : ∀ {f : Nat} {t : TypeId} {a b : (AV G)} {r : Bool} {x y : Value}, eqA P f t a b = some r → VR e a x → VR e b y → ∀ d, f ≤ d → ∀ w, (Op.equalIn d t x y).run P w = .ok r w
  | 0, _, _, _, _, _, _, h, _, _, _, _, _ => by simp [eqA] at h
  | f + 1, t, a, b, r, x, y, h, ha, hb, 0, hd, _ => by omega
  | f + 1, t, a, b, r, x, y, h, ha, hb, d + 1, hd, w => by
    have ih : ∀ t a b r x y, eqA P f t a b = some r → VR e a x → VR e b y → ∀ w, (Op.equalIn d t x y).run P w = .ok r w := fun t a b r x y h h1 h2 => eqA_sound h h1 h2 d (by omega)
    unfold eqA at h
    split at h
    · rename_i h0; cases ha.bool; cases hb.bool; cases h; simp [Op.equalIn, run_underlying h0]
    · rename_i h0; cases ha.int; cases hb.int
      split at h
      · rename_i hk; subst hk; cases h; simp [Op.equalIn, run_underlying h0]
      · cases h
    · rename_i h0
      split at h
      · rename_i p q hpq
        obtain ⟨rfl, rfl, k1, k2⟩ := symPair_sound hpq ha hb
        have k := eqS_sound e.holds h k1 k2
        simp only [Op.equalIn, Sem.run_bind, run_underlying h0, Result.andThen_ok]
        rw [← k]
        by_cases hh : p.x.eval e.opq = q.x.eval e.opq <;> simp [hh]
      · cases h
    · rename_i h0
      split at h
      · rename_i p q hpq
        obtain ⟨rfl, rfl, k1, k2⟩ := symPair_sound hpq ha hb
        have k := eqS_sound e.holds h k1 k2
        simp only [Op.equalIn, Sem.run_bind, run_underlying h0, Result.andThen_ok]
        rw [← k]
        by_cases hh : p.x.eval e.opq = q.x.eval e.opq <;> simp [hh]
      · cases h
    · rename_i h0; cases ha.str; cases hb.str; cases h; simp [Op.equalIn, run_underlying h0]
    · rename_i h0; simp only [VR] at ha hb; subst ha hb; cases h; simp [Op.equalIn, run_underlying h0]
    · rename_i h0; simp only [VR] at ha hb; subst ha; obtain ⟨_, _, _, rfl⟩ := hb; cases h; simp [Op.equalIn, run_underlying h0]
    · rename_i h0; simp only [VR] at ha hb; subst hb; obtain ⟨_, _, _, rfl⟩ := ha; cases h; simp [Op.equalIn, run_underlying h0]
    · rename_i h0; simp only [VR] at ha hb; subst ha hb; cases h; simp [Op.equalIn, run_underlying h0]
    · rename_i h0; simp only [VR] at ha hb; subst ha; obtain ⟨_, rfl, _⟩ := hb; cases h; simp [Op.equalIn, run_underlying h0]
    · rename_i h0; simp only [VR] at ha hb; subst hb; obtain ⟨_, rfl, _⟩ := ha; cases h; simp [Op.equalIn, run_underlying h0]
    · rename_i h0; simp only [VR] at ha hb; subst ha hb; cases h; simp [Op.equalIn, run_underlying h0]
    · rename_i h0; simp only [VR] at ha hb; subst ha; obtain ⟨_, _, _, _, rfl, _⟩ := hb; cases h; simp [Op.equalIn, run_underlying h0]
    · rename_i h0; simp only [VR] at ha hb; subst hb; obtain ⟨_, _, _, _, rfl, _⟩ := ha; cases h; simp [Op.equalIn, run_underlying h0]
    · rename_i h0; simp only [VR] at ha hb; subst ha hb; cases h; simp [Op.equalIn, run_underlying h0]
    · rename_i fs cs ds h0
      obtain ⟨xs, rfl, hx⟩ := ha.agg
      obtain ⟨ys, rfl, hy⟩ := hb.agg
      split at h
      · cases h
      · rename_i hp
        have hf : P.fieldsOf t = fs := by simp [Program.fieldsOf, h0]
        rw [run_equalIn_struct w d t xs ys (by rw [hf]; exact h0) (by simpa using hp), hf]
        exact eqFs_sound ih hx hy h w
    · rename_i len el cs ds h0
      obtain ⟨xs, rfl, hx⟩ := ha.agg
      obtain ⟨ys, rfl, hy⟩ := hb.agg
      split at h
      · rename_i n hn
        have key := eqEs_sound (P := P) (n := n) (elem := el) (d := d) (fun a b r x y => ih el a b r x y) hx hy h w
        simp only [Op.equalIn, Sem.run_bind, run_underlying h0, Result.andThen_ok, run_sizeOf hn]
        rw [Std.Legacy.Range.forIn_eq_forIn_range']
        simp only [Std.Legacy.Range.size, Nat.sub_zero, Nat.add_sub_cancel, Nat.div_one, ← List.range_eq_range']
        rw [key]
        cases r <;> simp
      · cases h
    · cases h
end
end Go.Ev
end

noncomputable section
namespace Go.Ev
variable {G : Ctx}
section
variable {P : Program} {e : (Env G)}

theorem eqGuard_quiet (op : BinOp) (t : TypeId) (ox oy : Operand) (x y : Value) (w : World) (h1 : ¬ (x = .nilIface ∧ y = .nilIface)) (h2 : ∀ xs ys, ¬ (x = .agg xs ∧ y = .agg ys)) : (eqGuard op t ox oy x y).run P w = .ok () w := by
  unfold eqGuard
  cases x <;> cases y <;> first | exact absurd ⟨rfl, rfl⟩ h1 | exact absurd ⟨rfl, rfl⟩ (h2 _ _) | (cases op <;> rfl)

/-- The two values are neither both numbers nor both strings (and so on): '==' asks Op.equal. -/
theorem binOp_eql (t : TypeId) (x y : Value) (h : match x, y with | .int _ _, .int _ _ => False | .float _ _, .float _ _ => False | .complex _ _ _, .complex _ _ _ => False | .string _, .string _ => False | _, _ => True) :
    binOp .eql t x y = (do pure (.bool (← Op.equal t x y))) ∧ binOp .neq t x y = (do pure (.bool (!(← Op.equal t x y)))) := by
  cases x <;> cases y <;> first | exact h.elim | exact ⟨rfl, rfl⟩

def eqShape : Value → Value → Prop := fun x y => match x, y with | .int _ _, .int _ _ => False | .float _ _, .float _ _ => False | .complex _ _ _, .complex _ _ _ => False | .string _, .string _ => False | _, _ => True

theorem run_eq_pair {op : BinOp} (hop : op = .eql ∨ op = .neq) {t : TypeId} {x y : Value} {r : Bool} (hs : ∀ w, (Op.equalIn 10000 t x y).run P w = .ok r w) (hsh : eqShape x y) (w : World) :
    (binOp op t x y).run P w = .ok (.bool (if op = .eql then r else !r)) w := by
  obtain ⟨h1, h2⟩ := binOp_eql t x y hsh
  rcases hop with rfl | rfl
  · rw [h1]; simp [Op.equal, Op.maxDepth, hs]
  · rw [h2]; simp [Op.equal, Op.maxDepth, hs]

theorem eqA_pair {op : BinOp} (hop : op = .eql ∨ op = .neq) {t : TypeId} {a b : (AV G)} {r : Bool} {x y : Value} (h : eqA P eqFuel t a b = some r) (ha : VR e a x) (hb : VR e b y)
    (hni : ¬ (∃ k n k' n', a = .int k n ∧ b = .int k' n')) (hx1 : ¬ ∃ x l u, a = .sx x l u) (hx2 : ¬ ∃ k n x l u, a = .int k n ∧ b = .sx x l u) (hns : ¬ (∃ s s', a = .str s ∧ b = .str s')) (w : World) :
    (binOp op t x y).run P w = .ok (.bool (if op = .eql then r else !r)) w := by
  have hs := fun w => eqA_sound h ha hb 10000 (by decide) w
  refine run_eq_pair hop hs ?_ w
  clear hs
  unfold eqFuel at h
  unfold eqA at h
  split at h <;> first
    | (exfalso; exact hni ⟨_, _, _, _, rfl, rfl⟩)
    | (exfalso; exact hx1 ⟨_, _, _, rfl⟩)
    | (exfalso; exact hx2 ⟨_, _, _, _, _, rfl, rfl⟩)
    | (exfalso; exact hns ⟨_, _, rfl, rfl⟩)
    | (simp only [VR] at ha hb; subst ha hb; trivial)
    | (simp only [VR] at ha hb; subst ha; obtain ⟨_, _, _, rfl⟩ := hb; trivial)
    | (simp only [VR] at ha hb; subst hb; obtain ⟨_, _, _, rfl⟩ := ha; trivial)
    | (simp only [VR] at ha hb; subst ha; obtain ⟨_, rfl, _⟩ := hb; trivial)
    | (simp only [VR] at ha hb; subst hb; obtain ⟨_, rfl, _⟩ := ha; trivial)
    | (simp only [VR] at ha hb; subst ha; obtain ⟨_, _, _, _, rfl, _⟩ := hb; trivial)
    | (simp only [VR] at ha hb; subst hb; obtain ⟨_, _, _, _, rfl, _⟩ := ha; trivial)
    | (obtain ⟨_, rfl, _⟩ := ha.agg; obtain ⟨_, rfl, _⟩ := hb.agg; trivial)
    | cases h

theorem eqA_guard {t : TypeId} {a b : (AV G)} {r : Bool} {x y : Value} (h : eqA P eqFuel t a b = some r) (ha : VR e a x) (hb : VR e b y)
    (hx1 : ¬ ∃ x l u, a = .sx x l u) (hx2 : ¬ ∃ k n x l u, a = .int k n ∧ b = .sx x l u) (hna : ¬ (∃ cs ds, a = .agg cs ∧ b = .agg ds)) (hni : ¬ (a = .nili ∧ b = .nili)) (op : BinOp) (ox oy : Operand) (w : World) : (eqGuard op t ox oy x y).run P w = .ok () w := by
  refine eqGuard_quiet op t ox oy x y w ?_ ?_ <;>
  · unfold eqFuel at h
    unfold eqA at h
    split at h <;> first
      | (exfalso; exact hx1 ⟨_, _, _, rfl⟩)
      | (exfalso; exact hx2 ⟨_, _, _, _, _, rfl, rfl⟩)
      | (exfalso; exact hna ⟨_, _, rfl, rfl⟩)
      | (exfalso; exact hni ⟨rfl, rfl⟩)
      | (simp only [VR] at ha hb; subst ha hb; simp; done)
      | (simp only [VR] at ha hb; subst ha; obtain ⟨_, _, _, rfl⟩ := hb; simp; done)
      | (simp only [VR] at ha hb; subst hb; obtain ⟨_, _, _, rfl⟩ := ha; simp; done)
      | (simp only [VR] at ha hb; subst ha; obtain ⟨_, rfl, _⟩ := hb; simp; done)
      | (simp only [VR] at ha hb; subst hb; obtain ⟨_, rfl, _⟩ := ha; simp; done)
      | (simp only [VR] at ha hb; subst ha; obtain ⟨_, _, _, _, rfl, _⟩ := hb; simp; done)
      | (simp only [VR] at ha hb; subst hb; obtain ⟨_, _, _, _, rfl, _⟩ := ha; simp; done)
      | cases h

theorem nil_guard {op : BinOp} {t : TypeId} (hn : nilOk P t = true) {ox oy : Operand} {w : World} : (eqGuard op t ox oy .nilIface .nilIface).run P w = .ok () w := by
  unfold nilOk at hn
  split at hn
  · rename_i ms hu
    have hms : ms.isEmpty = true := hn
    have h1 : ∀ d, (Op.eqGuardIn (d + 1) t .nilIface .nilIface).run P w = .ok false w := fun d => by
      unfold Op.eqGuardIn
      simp [Sem.run_bind, run_underlying hu, hms]
    have h2 : (Op.eqGuardIn Op.maxDepth t .nilIface .nilIface).run P w = .ok false w := by
      rw [show Op.maxDepth = (Op.maxDepth - 1) + 1 from rfl]; exact h1 _
    cases op <;> first | rfl | (simp only [eqGuard]; simp; split <;> simp [Sem.run_bind, h2])
  · cases hn
theorem nil_eql {t : TypeId} (hn : nilOk P t = true) (w : World) : (binOp .eql t .nilIface .nilIface).run P w = .ok (.bool true) w := by
  unfold nilOk at hn
  split at hn
  · rename_i ms hu
    have h1 : ∀ d, (Op.equalIn (d + 1) t .nilIface .nilIface).run P w = .ok true w := fun d => by
      unfold Op.equalIn
      simp [Sem.run_bind, run_underlying hu]
    simp only [binOp, Op.equal]
    rw [show Op.maxDepth = (Op.maxDepth - 1) + 1 from rfl]
    simp [Sem.run_bind, h1]
  · cases hn
theorem nil_neq {t : TypeId} (hn : nilOk P t = true) (w : World) : (binOp .neq t .nilIface .nilIface).run P w = .ok (.bool false) w := by
  unfold nilOk at hn
  split at hn
  · rename_i ms hu
    have h1 : ∀ d, (Op.equalIn (d + 1) t .nilIface .nilIface).run P w = .ok true w := fun d => by
      unfold Op.equalIn
      simp [Sem.run_bind, run_underlying hu]
    simp only [binOp, Op.equal]
    rw [show Op.maxDepth = (Op.maxDepth - 1) + 1 from rfl]
    simp [Sem.run_bind, h1]
  · cases hn

theorem binA_sound {op : BinOp} {t : TypeId} {a b v : (AV G)} {x y : Value} (h : binA P op t a b = some v) (ha : VR e a x) (hb : VR e b y) (ox oy : Operand) :
    ∃ v', VR e v v' ∧ ∀ w, ((do eqGuard op t ox oy x y; binOp op t x y : Sem Value)).run P w = .ok v' w := by
  unfold binA at h
  split at h
  · cases ha.int; cases hb.int
    unfold shiftOp at h
    split at h
    · cases h
    · rename_i hy
      cases h
      refine ⟨_, by simp only [VR]; exact rfl, fun w => ?_⟩
      simp [eqGuard, binOp, Op.shift, hy]
  · cases ha.int; cases hb.int
    unfold shiftOp at h
    split at h
    · cases h
    · rename_i hy
      cases h
      refine ⟨_, by simp only [VR]; exact rfl, fun w => ?_⟩
      simp [eqGuard, binOp, Op.shift, hy]
  · rename_i hop1 hop2
    cases ha.int; cases hb.int
    split at h
    · rename_i hk
      subst hk
      obtain ⟨v', h1, h2⟩ := intOp_sound (P := P) (e := e) (t := t) ⟨hop1, hop2⟩ h
      refine ⟨v', h1, fun w => ?_⟩
      rw [Sem.run_bind, eqGuard_quiet op t ox oy _ _ w (by simp) (by simp)]
      exact h2 w
    · cases h
  · cases ha.str; cases hb.str
    unfold strOp at h
    split at h <;> first
      | (cases h; done)
      | (cases h; refine ⟨_, by simp only [VR]; exact rfl, fun w => ?_⟩; rw [Sem.run_bind, eqGuard_quiet _ t ox oy _ _ w (by simp) (by simp)]; simp [binOp, Op.stringOp]; done)
      | (split at h
         · rename_i hs
           cases h; refine ⟨_, by simp only [VR]; exact rfl, fun w => ?_⟩; rw [Sem.run_bind, eqGuard_quiet _ t ox oy _ _ w (by simp) (by simp)]
           simp only [binOp, Op.stringOp, Result.andThen_ok]
           rw [if_neg (by simp only [IntKind.max, IntKind.signed, IntKind.bits]; simp; omega)]
           rfl
         · cases h)
  · split at h
    · rename_i p q hpq
      obtain ⟨rfl, rfl, k1, k2⟩ := symPair_sound hpq ha hb
      obtain ⟨v', h1, h2⟩ := symOp_sound (P := P) (t := t) h k1 k2
      refine ⟨v', h1, fun w => ?_⟩
      rw [Sem.run_bind, eqGuard_quiet op t ox oy _ _ w (by simp) (by simp)]
      exact h2 w
    · cases h
  · split at h
    · rename_i p q hpq
      obtain ⟨rfl, rfl, k1, k2⟩ := symPair_sound hpq ha hb
      obtain ⟨v', h1, h2⟩ := symOp_sound (P := P) (t := t) h k1 k2
      refine ⟨v', h1, fun w => ?_⟩
      rw [Sem.run_bind, eqGuard_quiet op t ox oy _ _ w (by simp) (by simp)]
      exact h2 w
    · cases h
  · split at h
    · cases h
    · rename_i hm
      obtain ⟨r, hr, rfl⟩ := Option.map_eq_some_iff.1 h
      obtain ⟨xs, rfl, hx⟩ := ha.agg
      obtain ⟨ys, rfl, hy⟩ := hb.agg
      refine ⟨.bool r, by simp [VR], fun w => ?_⟩
      rw [Sem.run_bind, run_eqGuard_agg w _ t ox oy xs ys (by simpa using hm)]
      simpa using eqA_pair (.inl rfl) hr ha hb (by simp) (by simp) (by simp) (by simp) w
  · split at h
    · cases h
    · rename_i hm
      obtain ⟨r, hr, rfl⟩ := Option.map_eq_some_iff.1 h
      obtain ⟨xs, rfl, hx⟩ := ha.agg
      obtain ⟨ys, rfl, hy⟩ := hb.agg
      refine ⟨.bool !r, by simp [VR], fun w => ?_⟩
      rw [Sem.run_bind, run_eqGuard_agg w _ t ox oy xs ys (by simpa using hm)]
      simpa using eqA_pair (.inr rfl) hr ha hb (by simp) (by simp) (by simp) (by simp) w
  · split at h
    · rename_i hn
      cases h
      simp only [VR] at ha hb
      subst ha hb
      refine ⟨.bool true, by simp [VR], fun w => ?_⟩
      rw [Sem.run_bind, nil_guard hn]
      exact nil_eql hn w
    · cases h
  · split at h
    · rename_i hn
      cases h
      simp only [VR] at ha hb
      subst ha hb
      refine ⟨.bool false, by simp [VR], fun w => ?_⟩
      rw [Sem.run_bind, nil_guard hn]
      exact nil_neq hn w
    · cases h
  · skip
    rename_i h5 h1 h2 h6 h3 h4
    obtain ⟨r, hr, rfl⟩ := Option.map_eq_some_iff.1 h
    refine ⟨.bool r, by simp [VR], fun w => ?_⟩
    rw [Sem.run_bind, eqA_guard hr ha hb (fun ⟨_, _, _, k⟩ => h5 _ _ _ k) (fun ⟨_, _, _, _, _, k, k'⟩ => h6 _ _ _ _ _ k k') (fun ⟨_, _, k, k'⟩ => h3 _ _ k k') (fun ⟨k, k'⟩ => h4 k k')]
    simpa using eqA_pair (.inl rfl) hr ha hb (fun ⟨_, _, _, _, k, k'⟩ => h1 _ _ _ _ k k') (fun ⟨_, _, _, k⟩ => h5 _ _ _ k) (fun ⟨_, _, _, _, _, k, k'⟩ => h6 _ _ _ _ _ k k') (fun ⟨_, _, k, k'⟩ => h2 _ _ k k') w
  · rename_i h5 h1 h2 h6 h3 h4
    obtain ⟨r, hr, rfl⟩ := Option.map_eq_some_iff.1 h
    refine ⟨.bool !r, by simp [VR], fun w => ?_⟩
    rw [Sem.run_bind, eqA_guard hr ha hb (fun ⟨_, _, _, k⟩ => h5 _ _ _ k) (fun ⟨_, _, _, _, _, k, k'⟩ => h6 _ _ _ _ _ k k') (fun ⟨_, _, k, k'⟩ => h3 _ _ k k') (fun ⟨k, k'⟩ => h4 k k')]
    simpa using eqA_pair (.inr rfl) hr ha hb (fun ⟨_, _, _, _, k, k'⟩ => h1 _ _ _ _ k k') (fun ⟨_, _, _, k⟩ => h5 _ _ _ k) (fun ⟨_, _, _, _, _, k, k'⟩ => h6 _ _ _ _ _ k k') (fun ⟨_, _, k, k'⟩ => h2 _ _ k k') w
  · cases h
end
end Go.Ev
end

noncomputable section
namespace Go.Ev
variable {G : Ctx}
section
variable {P : Program} {e : (Env G)}

theorem VR_parts {a : (AV G)} {v : Value} (h : VR e a v) : VRs e a.parts v.cells.toList := by
  have one : ∀ {x : Value}, VR e a x → x.cells = #[x] → a.parts = [a] → VRs e a.parts x.cells.toList := fun h1 h2 h3 => by
    rw [h2, h3]; simp only [VRs]; exact ⟨_, _, rfl, h1, rfl⟩
  cases a with
  | agg cs => obtain ⟨xs, rfl, hx⟩ := h.agg; exact hx
  | opq k =>
    have h0 := h; simp only [VR] at h0; subst h0
    exact one h (by have := e.one k; cases hk : e.opq k <;> first | rfl | (rw [hk] at this; cases this)) rfl
  | sx x l u => have h0 := h; simp only [VR] at h0; obtain ⟨rfl, _⟩ := h0; exact one h rfl rfl
  | bool b => cases h.bool; exact one h rfl rfl
  | int k n => cases h.int; exact one h rfl rfl
  | str s => cases h.str; exact one h rfl rfl
  | ptr id off => obtain ⟨_, _, _, rfl⟩ := h.ptr; exact one h rfl rfl
  | slice id off len cap g => obtain ⟨_, _, _, _, rfl, _⟩ := h.slice; exact one h rfl rfl
  | tuple cs => obtain ⟨xs, rfl, hx⟩ := h.tuple; exact one h rfl rfl
  | iface t x => have h0 := h; simp only [VR] at h0; obtain ⟨_, rfl, _⟩ := h0; exact one h rfl rfl
  | func fn f c => have h0 := h; simp only [VR] at h0; obtain ⟨_, _, rfl, _⟩ := h0; exact one h rfl rfl
  | map id => have h0 := h; simp only [VR] at h0; obtain ⟨_, _, _, rfl⟩ := h0; exact one h rfl rfl
  | yield id => have h0 := h; simp only [VR] at h0; obtain ⟨_, _, _, rfl⟩ := h0; exact one h rfl rfl
  | nilp => have h0 := h; simp only [VR] at h0; subst h0; exact one h rfl rfl
  | nils => have h0 := h; simp only [VR] at h0; subst h0; exact one h rfl rfl
  | nilm => have h0 := h; simp only [VR] at h0; subst h0; exact one h rfl rfl
  | nilf => have h0 := h; simp only [VR] at h0; subst h0; exact one h rfl rfl
  | nili => have h0 := h; simp only [VR] at h0; subst h0; exact one h rfl rfl

theorem set_splice (L : List Value) (v : Value) (vs : List Value) (n : Nat) (h : n + (vs.length + 1) ≤ L.length) :
    (L.set n v).take (n + 1) ++ vs ++ (L.set n v).drop (n + 1 + vs.length) = L.take n ++ v :: vs ++ L.drop (n + (vs.length + 1)) := by
  have h1 : (L.set n v).take (n + 1) = L.take n ++ [v] := by
    rw [List.take_succ_eq_append_getElem (by simp; omega), List.take_set_of_le (Nat.le_refl n)]
    simp
  have h2 : (L.set n v).drop (n + 1 + vs.length) = L.drop (n + (vs.length + 1)) := by
    rw [List.drop_set_of_lt (by omega)]
    congr 1; omega
  rw [h1, h2]; simp

theorem foldl_set (off : Nat) : ∀ (vs : List Value) (k : Nat) (c : Array Value), off + k + vs.length ≤ c.size →
    ((vs.zipIdx k).foldl (fun cs (x : Value × Nat) => cs.setIfInBounds (off + x.2) x.1) c).toList = c.toList.take (off + k) ++ vs ++ c.toList.drop (off + k + vs.length)
  | [], k, c, _ => by simp
  | v :: vs, k, c, h => by
    simp only [List.length_cons] at h
    simp only [List.zipIdx_cons, List.foldl_cons]
    rw [foldl_set off vs (k + 1) _ (by simp; omega)]
    have := set_splice c.toList v vs (off + k) (by simpa using h)
    simp only [Array.toList_setIfInBounds, List.length_cons]
    rw [← this, Nat.add_assoc off k 1]

theorem VRs.splice {cs ds : List (AV G)} {xs ys : List Value} {off : Nat} (h : VRs e cs xs) (k : VRs e ds ys) : VRs e (splice cs off ds) (xs.take off ++ ys ++ xs.drop (off + ys.length)) := by
  unfold Ev.splice
  rw [k.length]
  exact ((h.take off).append k).append (h.drop _)

def PartsR (e : (Env G)) : List (Nat × (AV G)) → List (Nat × Value) → Prop
  | [], l => l = []
  | (i, a) :: r, l => ∃ v l', l = (i, v) :: l' ∧ VR e a v ∧ PartsR e r l'

theorem fillA_sound {place : Nat → Option (Nat × Nat)} : ∀ {ps : List (Nat × (AV G))} {l : List (Nat × Value)} {cs r : List (AV G)} {xs : Array Value}, PartsR e ps l → VRs e cs xs.toList → fillA place cs ps = some r →
    ∃ ys, Instr.fill place xs l = some ys ∧ VRs e r ys.toList
  | [], l, cs, r, xs, hp, hx, h => by
    simp only [PartsR] at hp; subst hp
    simp only [fillA] at h; cases h
    exact ⟨xs, rfl, hx⟩
  | (i, a) :: ps, l, cs, r, xs, hp, hx, h => by
    simp only [PartsR] at hp
    obtain ⟨v, l', rfl, hv, hr⟩ := hp
    simp only [fillA] at h
    split at h
    · cases h
    · rename_i off size hpl
      split at h
      · rename_i hc
        have hpv := VR_parts hv
        have hl := hpv.length
        have hxl := hx.length
        simp only [Array.length_toList] at hl hxl
        have hfold : (v.cells.zipIdx.foldl (fun cs (x : Value × Nat) => cs.setIfInBounds (off + x.2) x.1) xs).toList = xs.toList.take off ++ v.cells.toList ++ xs.toList.drop (off + v.cells.toList.length) := by
          have := foldl_set off v.cells.toList 0 xs (by simp; omega)
          rw [← Array.foldl_toList, Array.toList_zipIdx]
          simpa using this
        obtain ⟨ys, h1, h2⟩ := fillA_sound (xs := v.cells.zipIdx.foldl (fun cs (x : Value × Nat) => cs.setIfInBounds (off + x.2) x.1) xs) hr (by rw [hfold]; exact hx.splice hpv) h
        refine ⟨ys, ?_, h2⟩
        simp only [Instr.fill, hpl]
        have : ¬ (v.cells.size ≠ size || off + v.cells.size > xs.size) = true := by simp; omega
        rw [if_neg this]
        exact h1
      · cases h

theorem rhoParts_sound {tm : (TT G)} {a : Act} (ht : TRs e tm a.tmps) : ∀ {l : List (Nat × Operand)} {ps : List (Nat × (AV G))}, rhoParts tm l = some ps →
    PartsR e ps (l.map fun p => (p.1, a.eval p.2))
  | [], ps, h => by simp only [rhoParts] at h; cases h; simp [PartsR]
  | (i, x) :: l, ps, h => by
    simp only [rhoParts] at h
    split at h
    · rename_i b r h1 h2
      cases h
      simp only [PartsR, List.map_cons]
      exact ⟨_, _, rfl, rho_sound ht h1, rhoParts_sound ht h2⟩
    · cases h

theorem placesOf_sound : ∀ {fs : List Field} {pl : List (Nat × Nat)}, placesOf P fs = some pl → fs.mapM (fun f => (P.info? f.type).map fun i => (f.offset, i.size)) = some pl
  | [], pl, h => by simp only [placesOf] at h; cases h; rfl
  | f :: fs, pl, h => by
    simp only [placesOf] at h
    split at h
    · rename_i n r h1 h2
      cases h
      unfold szOf at h1
      obtain ⟨i, hi, rfl⟩ := Option.map_eq_some_iff.1 h1
      simp [List.mapM_cons, hi, placesOf_sound h2]
    · cases h

theorem zeroOf_sound {t : TypeId} {z : (AV G)} (h : zeroOf P t = some z) : ∃ i v, P.info? t = some i ∧ i.zero = some v ∧ VR e z v := by
  unfold zeroOf at h
  split at h
  · rename_i i hi
    split at h
    · rename_i v hz
      exact ⟨i, v, hi, hz, ofV_sound h⟩
    · cases h
  · cases h

theorem buildA_sound {t : TypeId} {ps : List (Nat × (AV G))} {l : List (Nat × Value)} {v : (AV G)} (hp : PartsR e ps l) (h : buildA P t ps = some v) : ∃ cells, P.built t l = some cells ∧ VR e v (.agg cells) := by
  unfold buildA at h
  split at h
  · rename_i z fs hz hu
    obtain ⟨i, zv, hi, hzv, hzr⟩ := zeroOf_sound (e := e) hz
    split at h
    · rename_i pl hpl
      obtain ⟨cs, hcs, rfl⟩ := Option.map_eq_some_iff.1 h
      obtain ⟨ys, h1, h2⟩ := fillA_sound hp (VR_parts hzr) hcs
      refine ⟨ys, ?_, by simp only [VR]; exact ⟨_, rfl, h2⟩⟩
      have hm := placesOf_sound hpl
      unfold Program.built
      simp only [hi, hu, hzv, hm]
      have : (fun x : Nat => pl.toArray[x]?) = fun x : Nat => pl[x]? := by funext x; simp
      rw [this]; exact h1
    · cases h
  · rename_i z n el hz hu
    obtain ⟨i, zv, hi, hzv, hzr⟩ := zeroOf_sound (e := e) hz
    split at h
    · rename_i m hm
      obtain ⟨cs, hcs, rfl⟩ := Option.map_eq_some_iff.1 h
      obtain ⟨ys, h1, h2⟩ := fillA_sound hp (VR_parts hzr) hcs
      refine ⟨ys, ?_, by simp only [VR]; exact ⟨_, rfl, h2⟩⟩
      unfold szOf at hm
      obtain ⟨ie, hie, rfl⟩ := Option.map_eq_some_iff.1 hm
      unfold Program.built
      simp only [hi, hu, hzv, hie]
      exact h1
    · cases h
  · cases h
end
end Go.Ev
end

noncomputable section
namespace Go.Ev
variable {G : Ctx}
section
variable {P : Program} {e : (Env G)} {a : Act} {tm : (TT G)}

/-- The operation gives v', whatever the world. -/
def Gives (P : Program) (a : Act) (o : Oper) (v' : Value) : Prop := ∀ w, (execOp a.eval o).run P w = .ok (.value v') w

def OptR (e : (Env G)) : Option (AV G) → Option Value → Prop
  | none, none => True
  | some a, some x => VR e a x
  | _, _ => False

theorem boundA_sound {v : Option (AV G)} {d y n : Nat} {x : Option Value} (h : boundA v d y = some n) (hx : OptR e v x) :
    (v = none ∧ x = none ∧ n = d) ∨ ∃ i : Int, ∃ k, x = some (.int k i) ∧ 0 ≤ i ∧ i ≤ y ∧ n = i.toNat := by
  unfold boundA at h
  split at h
  · cases h
    cases x with
    | none => exact .inl ⟨rfl, rfl, rfl⟩
    | some x => exact hx.elim
  · rename_i k i
    split at h
    · rename_i hi
      cases h
      cases x with
      | none => exact hx.elim
      | some x =>
        have hx' : VR e (.int k i) x := hx
        cases hx'.int; exact .inr ⟨i, k, rfl, hi.1, hi.2, rfl⟩
    · cases h
  · cases h

theorem optRho_sound (ht : TRs e tm a.tmps) {x : Option Operand} {r : Option (AV G)} (h : optRho tm x = some r) : OptR e r (x.map a.eval) := by
  unfold optRho at h
  split at h
  · cases h; simp [OptR]
  · obtain ⟨b, hb, rfl⟩ := Option.map_eq_some_iff.1 h
    simpa [OptR] using rho_sound ht hb

theorem run_sliceBound_in (k : IntKind) (i : Int) (y : Nat) (code : BoundsCode) (h1 : 0 ≤ i) (h2 : i ≤ y) (w : World) : (Instr.sliceBound (.int k i) y code).run P w = .ok i.toNat w := by
  simp [Instr.sliceBound, asIntOf, h1, h2]

theorem run_sliceBounds {isS : Bool} {len cap h l : Nat} {lo hi : Option Value} {vlo vhi : Option (AV G)} {bound : Nat} (hb : bound ≤ cap) (hl : len ≤ cap) (hlo : OptR e vlo lo)
    (hhi : OptR e vhi hi) (h1 : boundA vhi len bound = some h) (h2 : boundA vlo 0 h = some l) (w : World) :
    (Instr.sliceBounds isS len cap lo hi none).run P w = .ok (l, h, cap) w ∧ l ≤ h ∧ h ≤ cap := by
  rcases boundA_sound h1 hhi with ⟨rfl, rfl, rfl⟩ | ⟨i, k, rfl, hi0, hi1, rfl⟩
  · rcases boundA_sound h2 hlo with ⟨rfl, rfl, rfl⟩ | ⟨j, k', rfl, hj0, hj1, rfl⟩
    · exact ⟨by simp [Instr.sliceBounds], by omega, hl⟩
    · refine ⟨?_, by omega, hl⟩
      simp [Instr.sliceBounds, run_sliceBound_in k' j h _ hj0 hj1]
  · rcases boundA_sound h2 hlo with ⟨rfl, rfl, rfl⟩ | ⟨j, k', rfl, hj0, hj1, rfl⟩
    · refine ⟨?_, by omega, by omega⟩
      simp [Instr.sliceBounds, run_sliceBound_in k i cap _ hi0 (by omega)]
    · refine ⟨?_, by omega, by omega⟩
      simp [Instr.sliceBounds, run_sliceBound_in k i cap _ hi0 (by omega), run_sliceBound_in k' j i.toNat _ hj0 (by omega)]

theorem minA_sound : ∀ {l : List (AV G)} {b v : (AV G)} {x : Value} {xs : List Value}, minA b l = some v → VR e b x → VRs e l xs → ∃ v', VR e v v' ∧ ∀ w, (xs.foldlM Builtin.min2 x).run P w = .ok v' w
  | [], b, v, x, xs, h, hb, hl => by
    simp only [VRs] at hl; subst hl
    unfold minA at h; cases h
    exact ⟨x, hb, fun w => by simp⟩
  | c :: l, b, v, x, xs, h, hb, hl => by
    simp only [VRs] at hl
    obtain ⟨y, ys, rfl, hc, hl⟩ := hl
    unfold minA at h
    split at h
    · rename_i heq; cases heq
    · rename_i k n k' m r heq
      cases heq
      cases hb.int; cases hc.int
      obtain ⟨v', h1, h2⟩ := minA_sound h (x := .int k (if m < n then m else n)) (by simp [VR]) hl
      exact ⟨v', h1, fun w => by simp [Builtin.min2, h2]⟩
    · rename_i heq
      cases heq
      split at h
      · rename_i p q hpq
        split at h
        · rename_i z hz
          obtain ⟨rfl, rfl, k1, k2⟩ := symPair_sound hpq hb hc
          obtain ⟨h3, h4⟩ := mkS_sound e.holds hz k1 k2
          obtain ⟨v', h1, h2⟩ := minA_sound h (SV.av_VR h4) hl
          refine ⟨v', h1, fun w => ?_⟩
          simp only [sxOp] at h3
          rw [h3] at h2
          simp [Builtin.min2, h2]
        · cases h
      · cases h

theorem maxA_sound : ∀ {l : List (AV G)} {b v : (AV G)} {x : Value} {xs : List Value}, maxA b l = some v → VR e b x → VRs e l xs → ∃ v', VR e v v' ∧ ∀ w, (xs.foldlM Builtin.max2 x).run P w = .ok v' w
  | [], b, v, x, xs, h, hb, hl => by
    simp only [VRs] at hl; subst hl
    unfold maxA at h; cases h
    exact ⟨x, hb, fun w => by simp⟩
  | c :: l, b, v, x, xs, h, hb, hl => by
    simp only [VRs] at hl
    obtain ⟨y, ys, rfl, hc, hl⟩ := hl
    unfold maxA at h
    split at h
    · rename_i heq; cases heq
    · rename_i k n k' m r heq
      cases heq
      cases hb.int; cases hc.int
      obtain ⟨v', h1, h2⟩ := maxA_sound h (x := .int k (if m > n then m else n)) (by simp [VR]) hl
      exact ⟨v', h1, fun w => by simp [Builtin.max2, h2]⟩
    · rename_i heq
      cases heq
      split at h
      · rename_i p q hpq
        split at h
        · rename_i z hz
          obtain ⟨rfl, rfl, k1, k2⟩ := symPair_sound hpq hb hc
          obtain ⟨h3, h4⟩ := mkS_sound e.holds hz k1 k2
          obtain ⟨v', h1, h2⟩ := maxA_sound h (SV.av_VR h4) hl
          refine ⟨v', h1, fun w => ?_⟩
          simp only [sxOp] at h3
          rw [h3] at h2
          simp [Builtin.max2, h2]
        · cases h
      · cases h

theorem builtinA_sound {b : Builtin} {ats : Array TypeId} {as : List (AV G)} {v : (AV G)} {xs : List Value} {type : TypeId} {consts : Array Bool} (h : builtinA P b ats as = some v) (hx : VRs e as xs) :
    ∃ v', VR e v v' ∧ ∀ w, (builtin b ats type consts xs.toArray).run P w = .ok (.value v') w := by
  unfold builtinA at h
  split at h
  · -- len
    rename_i x
    simp only [VRs] at hx
    obtain ⟨y, _, rfl, hxy, rfl⟩ := hx
    split at h
    · rename_i t hat
      split at h
      · rename_i hu; cases hxy.str; cases h
        exact ⟨_, by simp only [VR]; exact rfl, fun w => by simp [builtin, Builtin.len_, hat, run_underlying hu, goInt]⟩
      · rename_i hu; cases h
        exact ⟨_, by simp only [VR]; exact rfl, fun w => by simp [builtin, Builtin.len_, hat, run_underlying hu, goInt]⟩
      · rename_i hu; obtain ⟨_, _, _, _, rfl, _⟩ := hxy.slice; cases h
        exact ⟨_, by simp only [VR]; exact rfl, fun w => by simp [builtin, Builtin.len_, hat, run_underlying hu, goInt]⟩
      · rename_i hu; simp only [VR] at hxy; subst hxy; cases h
        exact ⟨_, by simp only [VR]; exact rfl, fun w => by simp [builtin, Builtin.len_, hat, run_underlying hu, goInt]⟩
      · rename_i hu; simp only [VR] at hxy; subst hxy; cases h
        exact ⟨_, by simp only [VR]; exact rfl, fun w => by simp [builtin, Builtin.len_, hat, run_underlying hu, goInt]⟩
      · cases h
    · cases h
  · rename_i c r
    simp only [VRs] at hx
    obtain ⟨y, ys, rfl, h1, h2⟩ := hx
    obtain ⟨v', k1, k2⟩ := minA_sound (P := P) h h1 h2
    exact ⟨v', k1, fun w => by simp [builtin, Builtin.min_, k2]⟩
  · rename_i c r
    simp only [VRs] at hx
    obtain ⟨y, ys, rfl, h1, h2⟩ := hx
    obtain ⟨v', k1, k2⟩ := maxA_sound (P := P) h h1 h2
    exact ⟨v', k1, fun w => by simp [builtin, Builtin.max_, k2]⟩
  · cases h

theorem fieldOf_sound {t : TypeId} {f : Nat} {fd : Field} (h : fieldOf P t f = some fd) : ∃ fs, P.underlying t = some (.struct fs) ∧ fs[f]? = some fd := by
  unfold fieldOf at h
  split at h
  · rename_i fs hu; exact ⟨fs, hu, h⟩
  · cases h

theorem addr_add (b o n : Nat) : (⟨b, o, none⟩ : Addr).add n = ⟨b, o + n, none⟩ := Addr.add_mid b o n

theorem cutA_sound {id off l h cap size : Nat} {g : Bool} {v : (AV G)} {b o c : Nat} (hc : cutA id off l h cap cap size g = some v) (hφ : e.φ id = some (b, o)) (hg0 : g = false → c = cap) (hg1 : g = true → off = 0 → c * cap ≤ e.room id)
    (hlh : l ≤ h) (hhc : h ≤ c) : VR e v (.slice (some (if c = l then ⟨b, o + off, none⟩ else (⟨b, o + off, none⟩ : Addr).add (l * size))) (h - l) (c - l)) := by
  unfold cutA at hc
  cases g with
  | true =>
    simp only [if_true] at hc
    split at hc
    · rename_i hl; subst hl; cases hc
      simp only [VR]
      refine ⟨b, o, c, hφ, ?_, by omega, by simp, fun _ ho => hg1 rfl ho⟩
      simp only [Nat.sub_zero, Nat.zero_mul]
      split <;> simp [addr_add]
    · split at hc
      · cases hc
      · rename_i hl0 hlh'
        cases hc
        simp only [VR]
        refine ⟨b, o, c - l, hφ, ?_, by omega, by simp, fun _ ho => ?_⟩
        · rw [if_neg (by omega), addr_add, Nat.add_assoc]
        · have := hg1 rfl (by omega)
          exact Nat.le_trans (Nat.mul_le_mul_right _ (Nat.sub_le _ _)) this
  | false =>
    simp only [Bool.false_eq_true, if_false] at hc
    cases hc
    have hcc := hg0 rfl
    subst hcc
    simp only [VR]
    refine ⟨b, o, c - l, hφ, ?_, by omega, fun _ => rfl, by simp⟩
    split
    · rfl
    · rw [addr_add, Nat.add_assoc]

theorem pureOp_sound (ht : TRs e tm a.tmps) {o : Oper} {v : (AV G)} (h : pureOp P tm o.op = some v) : ∃ v', VR e v v' ∧ Gives P a o v' := by
  unfold pureOp armPick armNilCheck armBinOp armUnOp armConvert armMakeFunc armFieldAddr armField armIndexAddr armIndex armExtract armSlice armBuild armMakeInterface armCall at h
  split at h
  · rename_i x ho; exact ⟨_, rho_sound ht h, fun w => by simp [execOp, ho]⟩
  · rename_i x ho; exact ⟨_, rho_sound ht h, fun w => by simp [execOp, ho]⟩
  · rename_i c x y ho
    split at h
    · rename_i t hc
      have h1 := (rho_sound ht hc).bool
      split at h
      · rename_i hb; exact ⟨_, rho_sound ht h, fun w => by simp [execOp, ho, h1, asBool, hb]⟩
      · rename_i hb; exact ⟨_, rho_sound ht h, fun w => by simp [execOp, ho, h1, asBool, hb]⟩
    · cases h
  · rename_i x ho
    split at h
    · rename_i hx; cases h
      have hv := rho_sound ht hx
      obtain ⟨b, o', _, h1⟩ := hv.ptr
      exact ⟨_, hv, fun w => by simp [execOp, ho, h1]⟩
    · rename_i hx; cases h
      have hv := rho_sound ht hx
      obtain ⟨b, o', c, _, h1, _⟩ := hv.slice
      exact ⟨_, hv, fun w => by simp [execOp, ho, h1]⟩
    · rename_i hx; cases h
      have hv := rho_sound ht hx
      have h0 := hv; simp only [VR] at h0
      obtain ⟨b, o', _, h1⟩ := h0
      exact ⟨_, hv, fun w => by simp [execOp, ho, h1]⟩
    · cases h
  · rename_i op t x y yt ho
    split at h
    · rename_i p q hp hq
      obtain ⟨v', h1, h2⟩ := binA_sound h (rho_sound ht hp) (rho_sound ht hq) x y
      exact ⟨v', h1, fun w => by simp only [execOp, ho]; rw [Sem.run_bind, h2 w]; rfl⟩
    · cases h
  · rename_i op t x ho
    split at h
    · rename_i p hp
      have hv := rho_sound ht hp
      unfold unA at h
      split at h
      · cases h; have h1 := hv.int
        exact ⟨_, by simp only [VR]; exact rfl, fun w => by simp [execOp, ho, h1, Op.unary, Op.intArith, fwrap_eq]⟩
      · cases h; have h1 := hv.bool
        exact ⟨_, by simp only [VR]; exact rfl, fun w => by simp [execOp, ho, h1, Op.unary]⟩
      · rename_i sx l u
        obtain ⟨z, hz, rfl⟩ := avO_some h
        simp only [VR] at hv
        obtain ⟨h0, h0'⟩ := hv
        obtain ⟨h1, h2, h3, h4⟩ := mkS64_sound (o := e.opq) e.holds hz ⟨Int.le_refl _, Int.le_refl _⟩ h0'
        refine ⟨_, SV.av_VR h2, fun w => ?_⟩
        simp only [sxOp, SX.eval] at h1 h3 h4
        rw [Int.zero_sub] at h1 h3 h4
        simp [execOp, ho, h0, Op.unary, Op.intArith, h1, wrap64_in h3 h4]
      · cases h
    · cases h
  · rename_i src dst x ho
    split at h
    · rename_i d k k' n hs hd hx
      cases h; have h1 := (rho_sound ht hx).int
      refine ⟨_, by simp only [VR]; exact rfl, fun w => ?_⟩
      simp only [execOp, ho, convert, Sem.run_bind, run_underlying hs, run_underlying hd, Result.andThen_ok, h1]
      cases d <;> simp [Conv.intToInt, fwrap_eq]
    · rename_i d sx l u hs hd hx
      split at h
      · rename_i hf
        cases h; have hv := rho_sound ht hx
        have h1 := hv
        simp only [VR] at h1
        obtain ⟨h1, h2, h3⟩ := h1
        refine ⟨_, hv, fun w => ?_⟩
        have hr : IntKind.wrap .i64 (sx.eval e.opq) = sx.eval e.opq := by
          unfold fit64 at hf
          cases h3' : leI (-9223372036854775808) l with
          | false => simp only [h3'] at hf; cases hf
          | true =>
            simp only [h3'] at hf
            have h5 := leI_true h3'
            have h4 := leI_true (x := u) hf
            exact wrap64_in (by omega) (by omega)
        simp only [execOp, ho, convert, Sem.run_bind, run_underlying hs, run_underlying hd, Result.andThen_ok, h1]
        cases d <;> simp [Conv.intToInt, hr]
      · cases h
    · rename_i s hs hd hx
      cases h; have h1 := (rho_sound ht hx).str
      refine ⟨_, by simp only [VR]; exact rfl, fun w => ?_⟩
      simp [execOp, ho, convert, Sem.run_bind, run_underlying hs, run_underlying hd, Result.andThen_ok, h1]
    · cases h
  · rename_i fn f c ho
    split at h
    · rename_i fs cs hf hc
      cases h
      refine ⟨.func fn (f.map a.eval) (c.map a.eval), ?_, fun w => by simp [execOp, ho, Instr.makeFunc]⟩
      simp only [VR]
      exact ⟨_, _, rfl, by simpa using rhos_sound ht hf, by simpa using rhos_sound ht hc⟩
    · cases h
  · rename_i s x f ho
    split at h
    · rename_i id off fd hx hf
      split at h
      · rename_i n hn
        split at h
        · cases h
        · rename_i hn0
          cases h
          obtain ⟨b, o', hφ, h1⟩ := (rho_sound ht hx).ptr
          obtain ⟨fs, hu, hfd⟩ := fieldOf_sound hf
          refine ⟨.pointer (some ⟨b, o' + (off + fd.offset), none⟩), by simp only [VR]; exact ⟨b, o', hφ, rfl⟩, fun w => ?_⟩
          simp [execOp, ho, Instr.fieldAt, run_underlying hu, hfd, h1, Instr.sureAddr, fieldPlace, run_sizeOf hn, hn0, addr_add, Nat.add_assoc]
      · cases h
    · cases h
  · rename_i t x f ho
    split at h
    · rename_i cs fd hx hf
      obtain ⟨xs, h1, h2⟩ := (rho_sound ht hx).agg
      obtain ⟨fs, hu, hfd⟩ := fieldOf_sound hf
      obtain ⟨v', k1, k2⟩ := part_sound h2 h
      exact ⟨v', k1, fun w => by simp [execOp, ho, Instr.field, run_underlying hu, hfd, h1, asAgg, k2]⟩
    · cases h
  · rename_i t x i ho
    split at h
    · rename_i len el id off k n hu hx hi
      split at h
      · rename_i sz hsz
        split at h
        · rename_i hb
          cases h
          obtain ⟨b, o', hφ, h1⟩ := (rho_sound ht hx).ptr
          have h2 := (rho_sound ht hi).int
          refine ⟨.pointer (some ⟨b, o' + (off + n.toNat * sz), none⟩), by simp only [VR]; exact ⟨b, o', hφ, rfl⟩, fun w => ?_⟩
          simp [execOp, ho, Instr.indexAt, asIntOf, h2, run_underlying hu, h1, Instr.sureAddr, hb.1, hb.2, run_sizeOf hsz, addr_add, Nat.add_assoc]
        · cases h
      · cases h
    · rename_i el id off len cap g k n hu hx hi
      split at h
      · rename_i sz hsz
        split at h
        · rename_i hb
          cases h
          obtain ⟨b, o', c, hφ, h1, _⟩ := (rho_sound ht hx).slice
          have h2 := (rho_sound ht hi).int
          refine ⟨.pointer (some ⟨b, o' + (off + n.toNat * sz), none⟩), by simp only [VR]; exact ⟨b, o', hφ, rfl⟩, fun w => ?_⟩
          simp [execOp, ho, Instr.indexAt, asIntOf, h2, run_underlying hu, h1, hb.1, hb.2, run_sizeOf hsz, addr_add, Nat.add_assoc]
        · cases h
      · cases h
    · cases h
  · rename_i t x i ho
    split at h
    · rename_i len el cs k n hu hx hi
      split at h
      · rename_i sz hsz
        split at h
        · rename_i hb
          obtain ⟨xs, h1, h2⟩ := (rho_sound ht hx).agg
          have h3 := (rho_sound ht hi).int
          obtain ⟨v', k1, k2⟩ := part_sound h2 h
          exact ⟨v', k1, fun w => by simp [execOp, ho, Instr.index, asIntOf, h3, run_underlying hu, h1, hb.1, hb.2, run_sizeOf hsz, k2]⟩
        · cases h
      · cases h
    · rename_i s k n hu hx hi
      have h1 := (rho_sound ht hx).str
      have h3 := (rho_sound ht hi).int
      split at h
      · rename_i hn
        split at h
        · rename_i b hb
          cases h
          exact ⟨_, by simp only [VR]; exact rfl, fun w => by simp [execOp, ho, Instr.index, asIntOf, h3, run_underlying hu, h1, hn, hb]⟩
        · cases h
      · cases h
    · cases h
  · rename_i x i ho
    split at h
    · rename_i vs hx
      obtain ⟨xs, h1, h2⟩ := (rho_sound ht hx).tuple
      obtain ⟨v', k1, k2⟩ := h2.get h
      have k1' : xs[i]? = some v' := by simpa using k1
      exact ⟨v', k2, fun w => by simp [execOp, ho, Instr.extract, h1, k1']⟩
    · cases h
  · rename_i t x lo hi mx ho
    split at h
    · -- a string
      rename_i s vlo vhi hu hx hlo hhi
      split at h
      · rename_i hh hbh
        split at h
        · rename_i l hbl
          cases h
          have h1 := (rho_sound ht hx).str
          refine ⟨_, by simp only [VR]; exact rfl, fun w => ?_⟩
          have hb := fun w => (run_sliceBounds (P := P) (isS := false) (Nat.le_refl s.size) (Nat.le_refl s.size) (optRho_sound ht hlo) (optRho_sound ht hhi) hbh hbl w).1
          simp [execOp, ho, Instr.sliceAt, Instr.slice, run_underlying hu, h1, hb]
        · cases h
      · cases h
    · -- nil
      rename_i el vlo vhi hu hx hlo hhi
      split at h
      · rename_i n hh hsz hbh
        split at h
        · rename_i l hbl
          cases h
          have hv := rho_sound ht hx
          have h1 := hv; simp only [VR] at h1
          have hb := fun w => run_sliceBounds (P := P) (isS := true) (Nat.le_refl 0) (Nat.le_refl 0) (optRho_sound ht hlo) (optRho_sound ht hhi) hbh hbl w
          have hz := (hb default).2
          obtain rfl : hh = 0 := by omega
          obtain rfl : l = 0 := by omega
          have hb' := fun w => (hb w).1
          refine ⟨.slice none 0 0, by simp [VR], fun w => ?_⟩
          simp [execOp, ho, Instr.sliceAt, Instr.slice, run_underlying hu, h1, hb', run_sizeOf hsz]
        · cases h
      · cases h
    · rename_i el id off len cap g vlo vhi hu hx hlo hhi
      split at h
      · rename_i n hh hsz hbh
        split at h
        · rename_i l hbl
          have hv := rho_sound ht hx
          obtain ⟨b, o', c, hφ, h1, hlc, hg0, hg1⟩ := hv.slice
          have hb := fun w => run_sliceBounds (P := P) (isS := true) (cap := c) (len := len) (bound := capB g len cap) (by cases g with | true => exact hlc | false => simp [capB, hg0 rfl]) hlc (optRho_sound ht hlo) (optRho_sound ht hhi) hbh hbl w
          have hz := (hb default).2
          refine ⟨_, cutA_sound h hφ hg0 hg1 hz.1 hz.2, fun w => ?_⟩
          have hb' := fun w => (hb w).1
          simp only [execOp, ho, Instr.sliceAt, Instr.slice, Option.map_none, Sem.run_bind, run_underlying hu, Result.andThen_ok, h1, hb', run_sizeOf hsz, Sem.run_pure]
          split <;> rfl
        · cases h
      · cases h
    · rename_i n el id off vlo vhi hu hx hlo hhi
      split at h
      · rename_i sz hh hsz hbh
        split at h
        · rename_i l hbl
          cases h
          obtain ⟨b, o', hφ, h1⟩ := (rho_sound ht hx).ptr
          have hb := fun w => run_sliceBounds (P := P) (isS := false) (Nat.le_refl n) (Nat.le_refl n) (optRho_sound ht hlo) (optRho_sound ht hhi) hbh hbl w
          have hz := (hb default).2
          have hb' := fun w => (hb w).1
          refine ⟨.slice (some (if n = l then ⟨b, o' + off, none⟩ else (⟨b, o' + off, none⟩ : Addr).add (l * sz))) (hh - l) (n - l), ?_, fun w => ?_⟩
          · simp only [VR]
            refine ⟨b, o', n - l, hφ, ?_, by omega, fun _ => rfl, by simp⟩
            split
            · rfl
            · rw [addr_add, Nat.add_assoc]
          · simp only [execOp, ho, Instr.sliceAt, Option.map_none, Sem.run_bind, run_underlying hu, Result.andThen_ok, h1, Instr.sureAddr, hb', run_sizeOf hsz, Sem.run_pure]
        · cases h
      · cases h
    · rename_i el id off len cap g vlo k hi' mx' hu hx hlo hhi
      split at h
      · rename_i sz k' m hsz hm
        split at h
        · rename_i hcond
          split at h
          · rename_i l hbl
            cases h
            have hv := rho_sound ht hx
            obtain ⟨b, o', c, hφ, h1, hlc, hg0, hg1⟩ := hv.slice
            have hmv := (rho_sound ht hm).int
            have hh0 : ∃ y, hi.map a.eval = some y ∧ y = .int k hi' := by
              have := optRho_sound ht hhi
              cases hq : hi.map a.eval with
              | none => rw [hq] at this; exact this.elim
              | some y => rw [hq] at this; exact ⟨y, rfl, VR.int (e := e) this⟩
            obtain ⟨_, hh1, rfl⟩ := hh0
            obtain ⟨hm0, hm1, hhi0, hhim⟩ := hcond
            have hmc : m ≤ c := by
              cases g with
              | true => simp [capB] at hm1; omega
              | false => simp [capB] at hm1; have := hg0 rfl; omega
            have hbs : ∀ w, (Instr.sliceBounds true len c (lo.map a.eval) (some (.int k hi')) (some (.int k' m))).run P w = .ok (l, hi'.toNat, m.toNat) w := by
              intro w
              have e1 : ∀ code w, (Instr.sliceBound (.int k' m) c code).run P w = .ok m.toNat w := fun code w => run_sliceBound_in k' m c code hm0 hmc w
              have e2 : ∀ code w, (Instr.sliceBound (.int k hi') m.toNat code).run P w = .ok hi'.toNat w := fun code w => run_sliceBound_in k hi' m.toNat code hhi0 (by omega) w
              rcases boundA_sound hbl (optRho_sound ht hlo) with ⟨hl1, hl2, rfl⟩ | ⟨j, k2, hl1, hj0, hj1, rfl⟩
              · rw [hl2]; simp [Instr.sliceBounds, e1, e2]
              · have e3 : ∀ code w, (Instr.sliceBound (.int k2 j) hi'.toNat code).run P w = .ok j.toNat w := fun code w => run_sliceBound_in k2 j hi'.toNat code hj0 hj1 w
                rw [hl1]; simp [Instr.sliceBounds, e1, e2, e3]
            refine ⟨.slice (some (if m.toNat = l then ⟨b, o' + off, none⟩ else (⟨b, o' + off, none⟩ : Addr).add (l * sz))) (hi'.toNat - l) (m.toNat - l), ?_, fun w => ?_⟩
            · simp only [VR]
              refine ⟨b, o', m.toNat - l, hφ, ?_, by omega, fun _ => rfl, by simp⟩
              split
              · rfl
              · rw [addr_add, Nat.add_assoc]
            · simp only [execOp, ho, Instr.sliceAt, Instr.slice, Option.map_some, Sem.run_bind, run_underlying hu, Result.andThen_ok, h1, hh1, hmv, hbs, run_sizeOf hsz, Sem.run_pure]
              split <;> rfl
          · cases h
        · cases h
      · cases h
    · cases h
  · rename_i t parts ho
    split at h
    · rename_i ps hps
      obtain ⟨cells, k1, k2⟩ := buildA_sound (rhoParts_sound ht hps) h
      refine ⟨_, k2, fun w => ?_⟩
      have := run_build (P := P) w t (parts.map fun (i, x) => (i, a.eval x)) cells (by simpa using k1)
      simp only [execOp, ho, Sem.run_bind, this, Result.andThen_ok]
      rfl
    · cases h
  · rename_i t x ho
    split at h
    · cases h
    · rename_i d p hni hu hx
      cases h
      refine ⟨.iface t (a.eval x), by simp only [VR]; exact ⟨_, rfl, rho_sound ht hx⟩, fun w => ?_⟩
      have : P.concrete t = true := by
        unfold Program.concrete
        rw [hu]
        cases d <;> first | rfl | exact (hni _ rfl).elim
      simp [execOp, ho, run_makeInterface w t _ this]
    · cases h
  · rename_i c ho
    split at h
    · rename_i b hb
      split at h
      · rename_i as has
        obtain ⟨v', k1, k2⟩ := builtinA_sound (P := P) (type := o.type) (consts := c.args.map fun | .const _ => true | _ => false) h (rhos_sound ht has)
        refine ⟨v', k1, fun w => ?_⟩
        have hargs : (c.args.toList.map a.eval).toArray = c.args.map a.eval := by apply Array.ext'; simp
        rw [hargs] at k2
        simp only [execOp, ho, resolve, hb, Sem.run_bind, Sem.run_pure, Result.andThen_ok, invoke]
        exact k2 w
      · cases h
    · cases h
  · cases h
end
end Go.Ev
end

