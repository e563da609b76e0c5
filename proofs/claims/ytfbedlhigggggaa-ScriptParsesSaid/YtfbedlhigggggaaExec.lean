/- An executor over abstract memory: what a run of the program does, computed. Its own blocks bear numbers; what a slice's spare room is stays open. -/
import Derived.WalkKit
import Derived.Calls
import Derived.Orders
import Derived.Below
namespace Go.Proofs.Ytfbedlhigggggaa
open Go

/-! A tree by numbers. -/
inductive Tr (α : Type) where
  | nil
  | node (v : Option α) (l r : Tr α)
def Tr.get {α : Type} : Tr α → Nat → Option α
  | .nil, _ => none
  | .node v l r, i => match i with
    | 0 => v
    | k + 1 => bif Nat.beq (k % 2) 0 then l.get (k / 2) else r.get (k / 2)
def Tr.setF {α : Type} (v : Option α) : Nat → Tr α → Nat → Tr α
  | 0, t, _ => t
  | f + 1, .nil, i => match i with
    | 0 => .node v .nil .nil
    | k + 1 => bif Nat.beq (k % 2) 0 then .node none (Tr.setF v f .nil (k / 2)) .nil else .node none .nil (Tr.setF v f .nil (k / 2))
  | f + 1, .node x l r, i => match i with
    | 0 => .node v l r
    | k + 1 => bif Nat.beq (k % 2) 0 then .node x (Tr.setF v f l (k / 2)) r else .node x l (Tr.setF v f r (k / 2))
def Tr.set {α : Type} (t : Tr α) (i : Nat) (v : Option α) : Tr α := Tr.setF v (i + 1) t i

/-! Abstract memory. kind: 0 the run's own; 1 made of a string's bytes; 2 an argument's, read only; 3 a map: each cell a tuple of a key and what stands at it; 4 an iterator over a text: the text, the place. es: cells of an element. -/
structure AObj where
  cells : List Value
  elem : TypeId
  kind : Nat
  es : Nat
structure AHeap where
  n : Nat
  t : Tr AObj
def AHeap.get (h : AHeap) (i : Nat) : Option AObj := if i < h.n then h.t.get i else none
/-- A row of cells. -/
def AHeap.cel (h : AHeap) (i : Nat) : Option AObj :=
  match h.get i with
  | some o => if Nat.ble 3 o.kind then none else some o
  | none => none
def AHeap.push (h : AHeap) (o : AObj) : AHeap := ⟨h.n + 1, h.t.set h.n (some o)⟩
def AHeap.put (h : AHeap) (i : Nat) (o : Option AObj) : AHeap := ⟨h.n, h.t.set i o⟩
structure St where
  nt : Nat
  tmps : Tr Value
  heap : AHeap

/-! Values without addresses. -/
def flat0 : Value → Bool
  | .bool _ | .int _ _ | .float _ _ | .complex _ _ _ | .string _ | .nilFunc | .nilIface => true
  | .pointer none | .slice none _ _ | .map none | .chan none => true
  | .func _ f c => f.isEmpty && c.isEmpty
  | _ => false
def flat1 : Value → Bool
  | .agg cs => cs.toList.all flat0
  | v => flat0 v
def flat2 : Value → Bool
  | .tuple vs => vs.toList.all flat1
  | v => flat1 v

/-- A run that touches no memory and draws nothing. -/
def pureRun (P : Program) {α : Type} : Sem α → Option α
  | .pure a => some a
  | .program k => pureRun P (k P)
  | .mark _ k => pureRun P k
  | _ => none

def ev (T : Tr Value) : Operand → Option Value
  | .tmp t => some ((T.get t).getD undef)
  | .const v => if flat2 v then some v else none
  | .func f => some (.func (.func f) #[] #[])
  | .global _ => none
def evs (T : Tr Value) : List Operand → Option (List Value)
  | [] => some []
  | x :: r => (ev T x).bind fun v => (evs T r).bind fun l => some (v :: l)
def evParts (T : Tr Value) : List (Nat × Operand) → Option (List (Nat × Value))
  | [] => some []
  | (i, x) :: r => (ev T x).bind fun v => (evParts T r).bind fun l => some ((i, v) :: l)
def evOpt (T : Tr Value) : Option Operand → Option (Option Value)
  | none => some none
  | some x => (ev T x).bind fun v => some (some v)

def noTup : Value → Bool
  | .tuple _ => false
  | _ => true
section
variable (P : Program)
def sizeP (t : TypeId) : Option Nat := (P.info? t).map (·.size)
def isAggP (t : TypeId) : Option Bool := (P.underlying t).map fun | .struct _ => true | .array _ _ => true | _ => false
def one : Value → Bool
  | .agg _ | .tuple _ => false
  | _ => true
def bare : Value → Bool
  | .agg _ | .tuple _ | .func _ _ _ => false
  | _ => true
def takeN (l : List Value) (off n : Nat) : Option (List Value) :=
  if n = 0 then some [] else if off + n ≤ l.length then some ((l.drop off).take n) else none
def aload (h : AHeap) (t : TypeId) (a : Addr) : Option Value :=
  if a.spot.isSome then none else
  match h.cel a.block, isAggP P t with
  | some o, some true => (sizeP P t).bind fun s => (takeN o.cells a.off s).bind fun cs => some (.agg cs.toArray)
  | some o, some false => o.cells[a.off]?
  | _, _ => none
def splice : List Value → Nat → List Value → List Value
  | l, _, [] => l
  | l, off, v :: vs => splice (l.set off v) (off + 1) vs
/-- The cells vs, stored from off on. -/
def astore (h : AHeap) (i off : Nat) (vs : List Value) : Option AHeap :=
  match h.cel i with
  | some o => if o.kind = 2 ∨ o.cells.length < off + vs.length then none else some (h.put i (some { o with cells := splice o.cells off vs }))
  | none => none
def anew (h : AHeap) (elem : TypeId) (kind es : Nat) (cells : List Value) : Value × AHeap := (.pointer (some ⟨h.n, 0, none⟩), h.push ⟨cells, elem, kind, es⟩)
/-- The cells of a value that is no tuple. -/
def cellsV : Value → Option (List Value)
  | .tuple _ => none
  | v => some v.cells.toList
/-- A type's zero value, without addresses. -/
def zeroP (t : TypeId) : Option Value :=
  match (P.info? t).bind (·.zero) with
  | some z => if z.cells.toList.all flat0 then some z else none
  | none => none
def sliceB (v : Option Value) (d hi : Nat) : Option Nat :=
  match v with
  | none => some d
  | some (.int _ (.ofNat i)) => if i ≤ hi then some i else none
  | _ => none
/-- A slice's open end: its room may be more than the number says. -/
def opened : Nat := 0
def aslice (t : TypeId) (a : Addr) (n c : Nat) (lo hi mx : Option Value) : Option Value :=
  match P.underlying t with
  | some (.slice e) => (sizeP P e).bind fun s =>
    if (mx.isSome && hi.isNone) || Nat.beq s 0 then none else (sliceB mx c c).bind fun m => (sliceB hi n m).bind fun h => (sliceB lo 0 h).bind fun l =>
      some (.slice (some ⟨a.block, a.off + (if m = l ∧ (mx.isSome ∨ a.spot = none) then 0 else l * s), if mx.isSome then none else a.spot⟩) (h - l) (m - l))
  | _ => none
/-- Is the number one of the first n? (Where n bears an unknown number, too.) -/
def ltN : Int → Nat → Bool
  | .ofNat a, n => Nat.ble (a + 1) n
  | .negSucc _, _ => false
theorem ltN_ok (i : Int) (n : Nat) : ltN i n = true ↔ (0 ≤ i ∧ i < (n : Int)) := by
  cases i with
  | ofNat a => simp only [ltN, Nat.ble_eq, Int.ofNat_eq_natCast]; omega
  | negSucc a => simp only [ltN, Bool.false_eq_true, false_iff]; omega
def aindexAddr (t : TypeId) (x ix : Value) : Option Value :=
  match P.underlying t, x, ix with
  | some (.slice e), .slice (some a) n _, .int _ i => (sizeP P e).bind fun s => @ite _ (0 ≤ i ∧ i < (n : Int)) (decidable_of_iff _ (ltN_ok i n)) (some (.pointer (some ⟨a.block, a.off + i.toNat * s, none⟩))) none
  | some (.array n e), .pointer (some a), .int _ i => (sizeP P e).bind fun s => if (0 ≤ i ∧ i < n) ∧ a.spot = none then some (.pointer (some ⟨a.block, a.off + i.toNat * s, none⟩)) else none
  | _, _, _ => none
def afieldAddr (t : TypeId) (x : Value) (f : Nat) : Option Value :=
  match P.underlying t, x with
  | some (.struct fs), .pointer (some a) => match fs[f]? with
    | some fd => (sizeP P fd.type).bind fun s => if s = 0 || a.spot.isSome then none else some (.pointer (some ⟨a.block, a.off + fd.offset, none⟩))
    | none => none
  | _, _ => none
def apart (t : TypeId) (cs : Array Value) (off : Nat) : Option Value :=
  match isAggP P t with
  | some true => (sizeP P t).bind fun s => some (.agg (cs.extract off (off + s)))
  | some false => cs[off]?
  | none => none
def afield (t : TypeId) (x : Value) (f : Nat) : Option Value :=
  match P.underlying t, x with
  | some (.struct fs), .agg cs => match fs[f]? with
    | some fd => apart P fd.type cs fd.offset
    | none => none
  | _, _ => none
def aparts : List (Nat × Value) → List Value
  | [] => []
  | (_, v) :: r => v :: aparts r
def noTuples : List (Nat × Value) → Bool
  | [] => true
  | (_, .tuple _) :: _ => false
  | _ :: r => noTuples r
def abuild (t : TypeId) (parts : List (Nat × Value)) : Option Value :=
  if noTuples parts then
    match P.underlying t, zeroP P t with
    | some (.struct fields), some z =>
      match pureRun P (fields.mapM fun f => do pure (f.offset, ← sizeOf f.type)) with
      | some places => match Instr.fill (places[·]?) z.cells parts with
        | some cells => some (.agg cells)
        | none => none
      | none => none
    | some (.array _ e), some z => (sizeP P e).bind fun size => match Instr.fill (fun i => some (i * size, size)) z.cells parts with
      | some cells => some (.agg cells)
      | none => none
    | _, _ => none
  else none
def abuildSlice (t : TypeId) (len : Nat) (parts : List (Nat × Value)) (h : AHeap) : Option (Value × AHeap) :=
  match P.underlying t with
  | some (.slice e) => match sizeP P e, zeroP P e with
    | some s, some z => if len * s > 2 ^ 24 ∨ z.cells.size = 0 ∨ noTuples parts = false then none else
        match Instr.fill (fun k => some (k * s, s)) ((Array.range (len * s)).map (z.cells[· % z.cells.size]!)) parts with
        | some cells => some (.slice (some ⟨h.n, 0, none⟩) len len, (anew h e 0 s cells.toList).2)
        | none => none
    | _, _ => none
  | _ => none
def amakeSlice (t : TypeId) (l c : Value) (h : AHeap) : Option (Value × AHeap) :=
  match P.underlying t, l, c with
  | some (.slice e), .int _ l, .int _ c => match P.info? e, zeroP P e with
    | some i, some z => if 0 ≤ l ∧ l ≤ c ∧ (i.bytes : Int) * c ≤ 2 ^ 32 ∧ c ≤ 2 ^ 32 ∧ z.cells.size ≠ 0 then
          some (.slice (some ⟨h.n, 0, none⟩) l.toNat c.toNat, (anew h e 0 i.size ((Array.range (c.toNat * i.size)).map (z.cells[· % z.cells.size]!)).toList).2)
        else none
    | _, _ => none
  | _, _, _ => none
/-- The first n elements of a slice, or of a string. -/
def firsts (h : AHeap) (size n : Nat) : Value → Option (List Value)
  | .slice (some a) _ _ => if n * size = 0 then some [] else match h.cel a.block with
    | some o => takeN o.cells a.off (n * size)
    | none => none
  | .slice none _ _ => some []
  | .string s => some ((s.extract 0 n).data.toList.map fun b => .int .u8 b.toNat)
  | _ => none
def lenV : Value → Option Nat
  | .slice _ n _ => some n
  | .string s => some s.size
  | _ => none
def agrow (h : AHeap) (e : TypeId) (kind es need : Nat) (cells : List Value) : Option (Value × AHeap) :=
  some (.slice (some ⟨h.n, 0, some opened⟩) need need, (anew h e kind es cells).2)
/-- What append must know of the element's type. -/
def apInfo (u1 : TypeDesc) (e : TypeId) : Option TypeInfo :=
  match u1 with
  | .int _ => none
  | _ => match P.info? e with
    | some i => match i.zero with
      | some z => if z.cells.size = i.size ∧ i.size ≠ 0 then some i else none
      | none => none
    | none => none
def aappendTo (e : TypeId) (i : TypeInfo) (base : Option Addr) (n c m : Nat) (new : List Value) (h : AHeap) : Option (Value × AHeap) :=
  if n + m ≤ c then
    (match base with
     | some a => (astore h a.block (a.off + n * i.size) new).bind fun h' => some (.slice (some a) (n + m) c, h')
     | none => if m = 0 then some (.slice none (n + m) c, h) else none)
  else match base with
    | none => if n = 0 then agrow h e 0 i.size m new else none
    | some a => if a.spot.isNone then (firsts h i.size n (.slice (some a) n c)).bind fun old => if old.length ≠ n * i.size then none else agrow h e 0 i.size (n + m) (old ++ new)
      else if a.off = 0 then (match h.cel a.block with
        | some o => if o.kind = 2 ∨ o.es ≠ i.size ∨ o.elem ≠ e then none else (firsts h i.size n (.slice (some a) n c)).bind fun old => if old.length ≠ n * i.size then none else agrow (h.put a.block none) e o.kind i.size (n + m) (old ++ new)
        | none => none)
      else none
def aappend (types : Array TypeId) (s x : Value) (h : AHeap) : Option (Value × AHeap) :=
  match types[0]?, types[1]?, s with
  | some t0, some t1, .slice base n c =>
    match P.underlying t0, P.underlying t1 with
    | some (.slice e), some (.int _) => match apInfo P .bool e, zeroP P e, x with
      | some i, some z, .int .i64 (.ofNat m) => if (n + m) * i.bytes > 2 ^ 32 ∨ n + m > 2 ^ 32 ∨ z.cells.size ≠ i.size then none else aappendTo e i base n c m ((Array.range (m * i.size)).map (z.cells[· % i.size]!)).toList h
      | _, _, _ => none
    | some (.slice e), some u1 => match apInfo P u1 e, lenV x with
      | some i, some m => (firsts h i.size m x).bind fun new => if (n + m) * i.bytes > 2 ^ 32 ∨ n + m > 2 ^ 32 ∨ new.length ≠ m * i.size then none else aappendTo e i base n c m new h
      | _, _ => none
    | _, _ => none
  | _, _, _ => none
def acopy (types : Array TypeId) (d x : Value) (h : AHeap) : Option (Value × AHeap) :=
  match types[0]?, d with
  | some t0, .slice base n _ => match P.underlying t0, lenV x with
    | some (.slice e), some m => (sizeP P e).bind fun size => (firsts h size (Nat.min m n) x).bind fun cells =>
      (match base with
       | some a => if cells.isEmpty then some (goInt (Nat.min m n), h) else (astore h a.block a.off cells).bind fun h' => some (goInt (Nat.min m n), h')
       | none => some (goInt (Nat.min m n), h))
    | _, _ => none
  | _, _ => none
def aclear (types : Array TypeId) (d : Value) (h : AHeap) : Option (Value × AHeap) :=
  match types[0]?, d with
  | some t0, .slice base n _ => match P.underlying t0 with
    | some (.slice e) => match P.info? e, zeroP P e, base with
      | some i, some z, some a => if z.cells.size ≠ i.size ∨ i.size = 0 then none else (astore h a.block a.off ((Array.range (n * i.size)).map (z.cells[· % i.size]!)).toList).bind fun h' => some (.tuple #[], h')
      | _, _, none => if n = 0 then some (.tuple #[], h) else none
      | _, _, _ => none
    | _ => none
  | _, _ => none
def bytesOf : List Value → Option (List UInt8)
  | [] => some []
  | .int .u8 n :: r => if 0 ≤ n ∧ n ≤ 255 then (bytesOf r).bind fun l => some (UInt8.ofNat n.toNat :: l) else none
  | _ => none
def aconvert (src dst : TypeId) (x : Value) (h : AHeap) : Option (Value × AHeap) :=
  match P.underlying src, P.underlying dst, x with
  | some (.slice e), some .string, .slice (some a) n _ => match P.underlying e with
    | some (.int .u8) => if n = 0 then some (.string ⟨#[]⟩, h) else match h.cel a.block with
      | some o => (takeN o.cells a.off n).bind fun cs => (bytesOf cs).bind fun l => some (.string ⟨l.toArray⟩, h)
      | none => none
    | _ => none
  | some .string, some (.slice e), .string s => match P.underlying e with
    | some (.int .u8) => if s.size > 2 ^ 32 then none else some (.slice (some ⟨h.n, 0, some opened⟩) s.size s.size, (anew h e 1 1 (s.data.toList.map fun b => .int .u8 b.toNat)).2)
    | _ => none
  | _, _, _ => none
/-! Whole numbers at once, and tokens: '.iface t (.iface lo (.iface hi (.int k c)))' stands for the t-th unknown number, which lies from lo to hi, and c more. -/
def rng : Value → Option (IntKind × Int × Int)
  | .int k a => some (k, a, a)
  | .iface _ (.iface lo (.iface hi (.int k c))) => some (k, (lo : Int) + c, (hi : Int) + c)
  | _ => none
def inK : IntKind → Int → Bool
  | .i64, z => decide (-9223372036854775808 ≤ z) && decide (z ≤ 9223372036854775807)
  | .u8, z => decide (0 ≤ z) && decide (z ≤ 255)
  | _, _ => false
def shiftV (d : Int) : Value → Option Value
  | .int k a => if inK k (a + d) then some (.int k (a + d)) else none
  | .iface t (.iface lo (.iface hi (.int k c))) => if inK k ((lo : Int) + (c + d)) && inK k ((hi : Int) + (c + d)) then some (.iface t (.iface lo (.iface hi (.int k (c + d))))) else none
  | _ => none
/-- A number that is not known, turned round. -/
def negT : Value → Option Value
  | .iface t (.iface lo (.iface hi (.int .i64 c))) => if t < 1000000 ∧ lo ≤ 1099511627776 ∧ hi ≤ 1099511627776 ∧ -1099511627776 ≤ c ∧ c ≤ 1099511627776 then
      some (.iface (t + 1000000) (.iface (1099511627776 - hi) (.iface (1099511627776 - lo) (.int .i64 (-1099511627776 - c))))) else none
  | _ => none
def fastU (op : UnOp) (x : Value) : Option Value :=
  match op with
  | .neg => negT x
  | _ => none
def cmpR (op : BinOp) (l1 h1 l2 h2 : Int) : Option Bool :=
  match op with
  | .lss => if h1 < l2 then some true else if h2 ≤ l1 then some false else none
  | .leq => if h1 ≤ l2 then some true else if h2 < l1 then some false else none
  | .gtr => if h2 < l1 then some true else if h1 ≤ l2 then some false else none
  | .geq => if h2 ≤ l1 then some true else if h1 < l2 then some false else none
  | .eql => if h1 < l2 ∨ h2 < l1 then some false else if l1 = h1 ∧ l2 = h2 ∧ l1 = l2 then some true else none
  | .neq => if h1 < l2 ∨ h2 < l1 then some true else if l1 = h1 ∧ l2 = h2 ∧ l1 = l2 then some false else none
  | _ => none
def sameTok : Value → Value → Option (Int × Int)
  | .iface t (.iface _ (.iface _ (.int k c))), .iface t' (.iface _ (.iface _ (.int k' c'))) => if t = t' ∧ k = k' then some (c, c') else none
  | _, _ => none
def litV : Value → Option Int
  | .int _ a => some a
  | _ => none
def fastB (op : BinOp) (x y : Value) : Option Value :=
  match rng x, rng y with
  | some (k, l1, h1), some (k', l2, h2) => if k = k' then
      match op with
      | .add => match litV y with
        | some b => shiftV b x
        | none => (litV x).bind fun a => shiftV a y
      | .sub => match litV y with
        | some b => shiftV (-b) x
        | none => (litV x).bind fun a => (negT y).bind (shiftV a)
      | .mul => match litV x, litV y with
        | some a, some b => if inK k (a * b) then some (.int k (a * b)) else none
        | none, some b => if b = 1 ∧ inK k l1 = true ∧ inK k h1 = true then some x else none
        | some a, none => if a = 1 ∧ inK k l2 = true ∧ inK k h2 = true then some y else none
        | none, none => none
      | .rem => (litV y).bind fun b => if 0 ≤ l1 ∧ h1 < b then some x else (litV x).bind fun a => if 0 ≤ a ∧ 0 < b then some (.int k (a % b)) else none
      | .quo => (litV y).bind fun b => if 0 ≤ l1 ∧ h1 < b ∧ inK k 0 = true then some (.int k 0) else (litV x).bind fun a => if 0 ≤ a ∧ 0 < b ∧ inK k (a / b) = true then some (.int k (a / b)) else none
      | op => match sameTok x y with
        | some (c, c') => (cmpR op c c c' c').map .bool
        | none => (cmpR op l1 h1 l2 h2).map .bool
    else none
  | _, _ => match x, y, op with
    | .chan (some k), .int .i64 b, .quo => if k < 1000000 ∧ b = 8 then some (.chan (some (k + 3000000))) else none
    | _, _, _ => none
/-- A number as one of another kind. -/
def fastC (src dst : TypeId) (x : Value) : Option Value :=
  match P.underlying src, P.underlying dst with
  | some _, some (.int k') => match x with
    | .int _ a => if inK k' a then some (.int k' a) else none
    | .iface t (.iface lo (.iface hi (.int _ c))) => if inK k' ((lo : Int) + c) && inK k' ((hi : Int) + c) then some (.iface t (.iface lo (.iface hi (.int k' c)))) else none
    | .chan (some k) => if k < 1000000 ∧ k' = .u8 then some (.iface (k + 2000000) (.iface 0 (.iface 255 (.int .u8 0)))) else none
    | _ => none
  | some _, some (.float .f64) => match x with
    | .iface t (.iface lo (.iface hi (.int .i64 (.ofNat c)))) => some (.iface t (.iface lo (.iface hi (.iface 0 (.float .f64 c)))))
    | _ => none
  | _, _ => none

/-- Are two values of one cell one? -/
def aeqV (d : Nat) (t : TypeId) (x y : Value) : Option Bool :=
  match P.underlying t with
  | some (.int _) => match fastB .eql x y with
    | some (.bool b) => some b
    | _ => none
  | some (.complex _) => match x, y with
    | .iface a (.iface _ (.iface h1 (.iface b (.iface _ (.iface h2 (.complex _ c e)))))), .iface a' (.iface _ (.iface _ (.iface b' (.iface _ (.iface _ (.complex _ c' e')))))) => if Nat.beq a a' && Nat.beq b b' && Nat.beq c c' && Nat.beq e e' && Nat.ble (h1 + c) 1000000 && Nat.ble (h2 + e) 1000000 then some true else none
    | x, y => if flat0 x && flat0 y then pureRun P (Op.equalIn d t x y) else none
  | _ => if flat0 x && flat0 y then pureRun P (Op.equalIn d t x y) else none
def aeqFs (eq : TypeId → Value → Value → Option Bool) (xs ys : Array Value) : List Field → Option Bool
  | [] => some true
  | f :: fs => if f.name = "_" then none else (apart P f.type xs f.offset).bind fun a => (apart P f.type ys f.offset).bind fun b => (eq f.type a b).bind fun r => if r then aeqFs eq xs ys fs else some false
/-- Two structs, field by field; numbers in them may be tokens. -/
def aeqS : Nat → TypeId → Value → Value → Option Bool
  | 0, _, _, _ => none
  | d + 1, t, x, y => match x, y with
    | .agg xs, .agg ys => match P.underlying t with
      | some (.struct fs) => if P.stoodInHeld t then none else aeqFs P (aeqS d) xs ys fs.toList
      | _ => none
    | _, _ => aeqV P (d + 1) t x y
/-- Are two values with addresses one? -/
def aeql (h : AHeap) (t : TypeId) (x y : Value) : Option Bool :=
  match P.underlying t, x, y with
  | some (.pointer _), .pointer none, .pointer (some _) => some false
  | some (.pointer _), .pointer (some _), .pointer none => some false
  | some (.pointer e), .pointer (some a), .pointer (some b) => match sizeP P e, h.get a.block, h.get b.block with
    | some s, some o, some o' => if s = 0 || o.kind != 0 || o'.kind != 0 || a.spot.isSome || b.spot.isSome then none else some (Nat.beq a.block b.block && Nat.beq a.off b.off)
    | _, _, _ => none
  | some (.slice _), .slice none _ _, .slice (some _) _ _ => some false
  | some (.slice _), .slice (some _) _ _, .slice none _ _ => some false
  | some (.func _ _ _), .nilFunc, .func _ _ _ => some false
  | some (.func _ _ _), .func _ _ _, .nilFunc => some false
  | some (.struct _), .agg xs, .agg ys => if P.eqGuardType P.depth t then none else aeqS P 10000 t (.agg xs) (.agg ys)
  | _, _, _ => none

/-- Two whole numbers as floats, as one complex number. -/
def cplxT : Value → Value → Option Value
  | .iface t (.iface lo (.iface hi (.iface _ (.float _ c)))), .iface u (.iface lo' (.iface hi' (.iface _ (.float _ d)))) => some (.iface t (.iface lo (.iface hi (.iface u (.iface lo' (.iface hi' (.complex .f64 c d)))))))
  | _, _ => none
/-! Maps: keys without addresses. -/
def beq0 : Value → Value → Bool
  | .bool a, .bool b => a == b
  | .int k a, .int k' b => k == k' && a == b
  | .float k a, .float k' b => k == k' && a == b
  | .complex k a b, .complex k' c d => k == k' && a == c && b == d
  | .string a, .string b => decide (a.data.toList = b.data.toList)
  | .pointer a, .pointer b => a == b
  | .slice a n c, .slice b m d => a == b && n == m && c == d
  | .nilFunc, .nilFunc | .nilIface, .nilIface => true
  | .map a, .map b => a == b
  | _, _ => false
def beqL : List Value → List Value → Bool
  | [], [] => true
  | a :: r, b :: s => beq0 a b && beqL r s
  | _, _ => false
def beq1 : Value → Value → Bool
  | .agg a, .agg b => beqL a.toList b.toList
  | a, b => beq0 a b
def beqT : List Value → List Value → Bool
  | [], [] => true
  | a :: r, b :: s => beq1 a b && beqT r s
  | _, _ => false
def beq2 : Value → Value → Bool
  | .tuple a, .tuple b => beqT a.toList b.toList
  | a, b => beq1 a b
def beqI : Value → Value → Bool
  | .iface t (.iface lo (.iface hi (.int k c))), .iface t' (.iface lo' (.iface hi' (.int k' c'))) => Nat.beq t t' && Nat.beq lo lo' && Nat.beq hi hi' && k == k' && c == c'
  | .iface t (.iface lo (.iface hi (.iface u (.iface lo2 (.iface hi2 (.complex k c d)))))), .iface t' (.iface lo' (.iface hi' (.iface u' (.iface lo2' (.iface hi2' (.complex k' c' d')))))) => Nat.beq t t' && Nat.beq lo lo' && Nat.beq hi hi' && Nat.beq u u' && Nat.beq lo2 lo2' && Nat.beq hi2 hi2' && k == k' && Nat.beq c c' && Nat.beq d d'
  | .chan a, .chan b => a == b
  | a, b => beq0 a b
def beqIL : List Value → List Value → Bool
  | [], [] => true
  | a :: r, b :: s => beqI a b && beqIL r s
  | _, _ => false
def beqI1 : Value → Value → Bool
  | .agg a, .agg b => beqIL a.toList b.toList
  | a, b => beqI a b
/-- A key of one cell: a text, or a whole number of the type's kind. -/
def keyCell (t : TypeId) (v : Value) : Bool :=
  match P.underlying t, v with
  | some .string, .string _ => true
  | some (.int k), .int k' _ => k == k'
  | _, _ => false
def keyCells : List Field → Nat → List Value → Bool
  | [], _, [] => true
  | f :: fs, i, v :: vs => keyCell P f.type v && Nat.beq f.offset i && f.name != "_" && keyCells fs (i + 1) vs
  | _, _, _ => false
/-- A key that fits its type: by its cells alone it is told from others. -/
def keyFit (t : TypeId) (v : Value) : Bool :=
  match v with
  | .agg cs => match P.underlying t with
    | some (.struct fs) => !P.stoodInHeld t && keyCells P fs.toList 0 cs.toList
    | _ => false
  | v => keyCell P t v
def findE (t : TypeId) (k : Value) : List Value → Nat → Option (Option (Nat × Value))
  | [], _ => some none
  | .tuple ⟨[a, b]⟩ :: r, i => if keyFit P t a then if beq1 k a then some (some (i, b)) else findE t k r (i + 1) else none
  | _ :: _, _ => none
def mapOf (h : AHeap) (t : TypeId) (r : Nat) : Option (AObj × TypeId × TypeId) :=
  match P.underlying t, h.get r with
  | some (.map kt et), some o => if o.kind = 3 then some (o, kt, et) else none
  | _, _ => none
def alookup (h : AHeap) (t : TypeId) (r : Nat) (k : Value) (ok : Bool) : Option Value :=
  (mapOf P h t r).bind fun (o, kt, et) => if keyFit P kt k then (findE P kt k o.cells 0).bind fun
    | some (_, v) => if noTup v then some (if ok then .tuple #[v, .bool true] else v) else none
    | none => (zeroP P et).bind fun z => some (if ok then .tuple #[z, .bool false] else z)
  else none
def amapUpdate (h : AHeap) (t : TypeId) (r : Nat) (k v : Value) : Option AHeap :=
  (mapOf P h t r).bind fun (o, kt, _) => if keyFit P kt k && noTup v then (findE P kt k o.cells 0).bind fun
    | some (i, _) => some (h.put r (some { o with cells := o.cells.set i (.tuple #[k, v]) }))
    | none => some (h.put r (some { o with cells := o.cells ++ [.tuple #[k, v]] }))
  else none
def amapDelete (h : AHeap) (t : TypeId) (r : Nat) (k : Value) : Option AHeap :=
  (mapOf P h t r).bind fun (o, kt, _) => if keyFit P kt k then (findE P kt k o.cells 0).bind fun
    | some (i, _) => some (h.put r (some { o with cells := o.cells.eraseIdx i }))
    | none => some h
  else none

/-- The next letter of a text. -/
def anext (h : AHeap) (a : Addr) : Option (Value × AHeap) :=
  if a.off = 0 then match h.get a.block with
    | some ⟨[.string s, .int .i64 (.ofNat pos)], e, 4, es⟩ =>
      if pos < s.size then some (.tuple #[.bool true, goInt pos, .int .i32 (Utf8.decode s pos).1], h.put a.block (some ⟨[.string s, goInt (pos + (Utf8.decode s pos).2)], e, 4, es⟩))
      else some (.tuple #[.bool false], h)
    | _ => none
  else none

abbrev XCall := FuncId → List Value → AHeap → Option (Value × AHeap)
def atomic (h : AHeap) (v : Option Value) : Option (Value × AHeap) := v.bind fun v => some (v, h)
def nextValue : Next → Option Value
  | .value v => some v
  | _ => none
/-- By the model's own words, over values without addresses. -/
def noSel : Op → Bool
  | .select .. => false
  | _ => true
def xpure (o : Oper) (T : Tr Value) (h : AHeap) : Option (Value × AHeap) :=
  if noSel o.op then (evs T o.op.operands.toList).bind fun vs => if vs.all flat2 then
    (pureRun P (execOp (fun x => (ev T x).getD undef) o)).bind fun nx => (nextValue nx).bind fun v => if flat2 v then some (v, h) else none
  else none else none
def orPure (r : Option (Value × AHeap)) (o : Oper) (T : Tr Value) (h : AHeap) : Option (Value × AHeap) :=
  match r with
  | some x => some x
  | none => xpure P o T h
/-- A function that has no text: the model's own row answers. -/
def outer (f : FuncId) : Bool :=
  match P.funcs[f]? with
  | some fn => fn.body.isNone
  | none => false
def xdelete (types : Array TypeId) (m k : Value) (h : AHeap) : Option (Value × AHeap) :=
  match types[0]?, m with
  | some t, .map (some r) => (amapDelete P h t r k).bind fun h' => some (.tuple #[], h')
  | _, _ => none
def xlen (types : Array TypeId) (m : Value) (h : AHeap) : Option (Value × AHeap) :=
  match types[0]?, m with
  | some t, .map (some r) => (mapOf P h t r).bind fun q => some (goInt q.1.cells.length, h)
  | _, _ => none
def xbuiltin2 (b : Builtin) (types : Array TypeId) (args : List Value) (h : AHeap) : Option (Value × AHeap) :=
  match b with
  | .clear => match args with
    | [d] => aclear P types d h
    | _ => none
  | .len => match args with
    | [m] => xlen P types m h
    | _ => none
  | .delete => match args with
    | [m, k] => xdelete P types m k h
    | _ => none
  | _ => none
def iLeB : Int → Int → Bool
  | .ofNat m, .ofNat n => Nat.ble m n
  | .negSucc m, .negSucc n => Nat.ble n m
  | .negSucc _, .ofNat _ => true
  | .ofNat _, .negSucc _ => false
/-- The lesser one, or the greater one, of two numbers in ranges. -/
def pickR (mn : Bool) (x y : Value) : Option Value :=
  match sameTok x y with
  | some (c, c') => if c ≤ c' then some (if mn then x else y) else some (if mn then y else x)
  | none => match rng x, rng y with
    | some (k, l1, h1), some (k', l2, h2) => if k = k' then if iLeB h1 l2 = true then some (if mn then x else y) else if iLeB h2 l1 = true then some (if mn then y else x) else none else none
    | _, _ => none
def pickB (r : Option Value) (h : AHeap) : Option (Value × AHeap) :=
  match r with
  | some v => some (v, h)
  | none => none
def xbuiltin (b : Builtin) (types : Array TypeId) (args : List Value) (h : AHeap) : Option (Value × AHeap) :=
  match b, args with
  | .append, [s, x] => aappend P types s x h
  | .copy, [d, x] => acopy P types d x h
  | .len, [.slice (some _) n _] => match (types[0]?).bind P.underlying with
    | some (.slice _) => some (goInt n, h)
    | _ => none
  | .cap, [.slice (some a) _ c] => match (types[0]?).bind P.underlying with
    | some (.slice _) => if a.spot.isSome then none else some (goInt c, h)
    | _ => none
  | .min, [x, y] => pickB (pickR true x y) h
  | .max, [x, y] => pickB (pickR false x y) h
  | .complex, [x, y] => pickB (cplxT x y) h
  | b, args => xbuiltin2 P b types args h
def xop (call : XCall) (o : Oper) (T : Tr Value) (h : AHeap) : Option (Value × AHeap) :=
  match o.op with
  | .move x | .assign x => atomic h (ev T x)
  | .pick c a b => match ev T c with
    | some (.bool t) => atomic h (if t then ev T a else ev T b)
    | _ => none
  | .extract t ix => match ev T t with
    | some (.tuple vs) => atomic h vs[ix]?
    | _ => none
  | .nilCheck x => match ev T x with
    | some (.pointer (some a)) => some (.pointer (some a), h)
    | _ => none
  | .alloc e => match zeroP P e with
    | some z => some (anew h e 0 z.cells.toList.length z.cells.toList)
    | none => none
  | .box e x => (ev T x).bind fun v => (cellsV v).bind fun cs => some (anew h e 0 cs.length cs)
  | .build t ps => (evParts T ps.toList).bind fun l => atomic h (abuild P t l)
  | .buildSlice t n ps => (evParts T ps.toList).bind fun l => abuildSlice P t n l h
  | .load t a => match ev T a with
    | some (.pointer (some a)) => atomic h (aload P h t a)
    | _ => none
  | .store t a x => match ev T a, ev T x with
    | some (.pointer (some a)), some v => (cellsV v).bind fun cs => if a.spot.isSome || sizeP P t != some cs.length then none else (astore h a.block a.off cs).bind fun h' => some (undef, h')
    | _, _ => none
  | .binOp op t x y _ => match ev T x, ev T y with
    | some a, some b => match fastB op a b with
      | some r => some (r, h)
      | none => match op with
        | .eql => match aeql P h t a b with
          | some r => some (.bool r, h)
          | none => xpure P o T h
        | .neq => match aeql P h t a b with
          | some r => some (.bool (!r), h)
          | none => xpure P o T h
        | _ => xpure P o T h
    | _, _ => none
  | .unOp op _ x => match (ev T x).bind (fastU op) with
    | some r => some (r, h)
    | none => xpure P o T h
  | .convert s d x => (ev T x).bind fun v => match fastC P s d v with
    | some r => some (r, h)
    | none => orPure P (aconvert P s d v h) o T h
  | .makeSlice t l c => match ev T l, ev T c with
    | some l, some c => amakeSlice P t l c h
    | _, _ => none
  | .slice t x lo hi mx => match ev T x with
    | some (.slice (some a) n c) => (evOpt T lo).bind fun lo => (evOpt T hi).bind fun hi => (evOpt T mx).bind fun mx => atomic h (aslice P t a n c lo hi mx)
    | _ => xpure P o T h
  | .fieldAddr t x f => (ev T x).bind fun v => atomic h (afieldAddr P t v f)
  | .field t x f => (ev T x).bind fun v => atomic h (afield P t v f)
  | .indexAddr t x i => match ev T x, ev T i with
    | some x, some i => atomic h (aindexAddr P t x i)
    | _, _ => none
  | .makeFunc fn f c => (evs T f.toList).bind fun f => (evs T c.toList).bind fun c => if f.all bare && c.all bare then some (.func fn f.toArray c.toArray, h) else none
  | .range t x => match P.underlying t, ev T x with
    | some .string, some (.string s) => some (.pointer (some ⟨h.n, 0, none⟩), h.push ⟨[.string s, goInt 0], 0, 4, 0⟩)
    | _, _ => none
  | .next x true => match ev T x with
    | some (.pointer (some a)) => anext h a
    | _ => none
  | .makeMap _ none => some (.map (some h.n), h.push ⟨[], 0, 3, 0⟩)
  | .lookup t x k ok => match ev T x, ev T k with
    | some (.map (some r)), some k => atomic h (alookup P h t r k ok)
    | _, _ => xpure P o T h
  | .mapUpdate t x k v => match ev T x, ev T k, ev T v with
    | some (.map (some r)), some k, some v => (amapUpdate P h t r k v).bind fun h' => some (undef, h')
    | _, _, _ => none
  | .call c => match c.callee with
    | .builtin b => (evs T c.args.toList).bind fun args => orPure P (xbuiltin P b c.argTypes args h) o T h
    | .value f => match ev T f with
      | some (.func (.func id) first captured) => (evs T c.args.toList).bind fun args => if outer P id then xpure P o T h else call id (first.toList ++ args ++ captured.toList) h
      | _ => none
    | _ => none
  | _ => xpure P o T h

def yieldedX (ops : Array Oper) (T : Tr Value) (j : Nat) : Option Bool :=
  match (ops[j]?).bind (·.dst) with
  | some d => match T.get d with
    | some (.bool b) => some b
    | _ => none
  | none => none
def wantedX (ops : Array Oper) (o : Oper) (T : Tr Value) : Bool :=
  match o.guard with
  | none => true
  | some (j, want) => yieldedX ops T j == some want
def putX (st : St) (dst : Option Tmp) (v : Value) (h : AHeap) : Option St :=
  match dst with
  | some d => if d < st.nt then some { st with tmps := st.tmps.set d (some v), heap := h } else none
  | none => some { st with heap := h }
def xstep (call : XCall) (ops : Array Oper) (o : Oper) (st : St) : Option St :=
  if wantedX ops o st.tmps then (xop P call o st.tmps st.heap).bind fun r => putX st o.dst r.1 r.2
  else putX st o.dst undef st.heap
def xops (call : XCall) (ops : Array Oper) : List Oper → St → Option St
  | [], st => some st
  | o :: rest, st => match xstep P call ops o st with
    | some st' => xops call ops rest st'
    | none => none

/-! Regions that draw their order. -/
/-- An operation that may turn memory that is there. -/
def effect : Op → Bool
  | .store .. | .mapUpdate .. | .mapEntry .. | .entryStore .. | .insert .. | .assign _ | .next .. => true
  | .call { callee := .value _, .. } => true
  | .call { callee := .builtin .append, .. } | .call { callee := .builtin .copy, .. } | .call { callee := .builtin .delete, .. } | .call { callee := .builtin .clear, .. } => true
  | .call { callee := .invoke .., .. } => true
  | _ => false
/-! Code. -/
inductive XExit where
  | normal | ret
  | exit (id : Nat)
  | goto (l : Nat)
inductive Task where
  | code (c : Code)
  | within (c rest : Code)
  | looping (c : Code)
def resV (st : St) : List ResultVar → Option (List Value)
  | [] => some []
  | .tmp t :: r => (resV st r).bind fun l => some ((st.tmps.get t).getD undef :: l)
  | .cell a t :: r => match st.tmps.get a with
    | some (.pointer (some ad)) => (aload P st.heap t ad).bind fun v => (resV st r).bind fun l => some (v :: l)
    | _ => none
def resX (st : St) (rs : Array ResultVar) : Option Value :=
  (resV P st rs.toList).bind fun l => match l with
    | [v] => some v
    | l => if l.all noTup then some (.tuple l.toArray) else none
def argsTr : List Value → Nat → Tr Value → Tr Value
  | [], _, t => t
  | v :: r, i, t => argsTr r (i + 1) (t.set i (some v))
/-- ok: the functions that may be entered. over: answers that are known by a contract, of calls that turn nothing. -/
structure Cfg where
  ok : Nat → Bool
  over : FuncId → List Value → Option Value
  summ : FuncId → List Value → AHeap → Option (Value × AHeap) := fun _ _ _ => none
def callX (okF : Cfg) (code : Code → St → Option (XExit × St)) (f : FuncId) (args : List Value) (h : AHeap) : Option (Value × AHeap) :=
  match okF.over f args with
  | some v => some (v, h)
  | none => match okF.summ f args h with
  | some r => some r
  | none => if okF.ok f then
    match P.funcs[f]? with
    | some fn => match fn.body with
      | some body => if fn.name == "runtime.NumGoroutine" then none else match code body ⟨args.length + (fn.ntmps - args.length), argsTr args 0 .nil, h⟩ with
        | some (.normal, st) | some (.ret, st) => (resX P st fn.results).bind fun v => some (v, st.heap)
        | _ => none
      | none => none
    | none => none
  else none
/-! A region that draws: run in the text's order, where any order that its edges allow comes to the same. -/
def edgeTo (o : Oper) (j : Nat) : Bool := o.after.toList.any fun e => Region.binds .any e && Nat.beq e.on j
def isChain : Ground → Bool
  | .chain => true
  | _ => false
def mover (ops : Array Oper) (i : Nat) (o : Oper) : Bool := effect o.op || ops.toList.any fun o' => o'.after.toList.any fun e => Nat.beq e.on i && isChain e.ground
def drawOk (ops : Array Oper) : Bool :=
  ops.toList.zipIdx.all fun (o, i) => (noSel o.op && (o.dst.isSome || mover ops i o)) && o.after.toList.all (fun e => !Region.binds .any e || decide (e.on < i)) &&
    (match o.dst with
     | none => true
     | some d => ops.toList.zipIdx.all fun (o', j) => Nat.beq j i || !(o'.dst == some d)) &&
    (Oper.looksAt ops o).all (fun t => ops.toList.zipIdx.all fun (o', j) => !(o'.dst == some t) || (if j < i then edgeTo o j else Nat.beq j i || edgeTo o' i)) &&
    (!mover ops i o || ops.toList.zipIdx.all fun (o', j) => !(decide (i < j) && mover ops j o') || edgeTo o' i || ops.toList.zipIdx.any fun (o'', k) => decide (i < k) && decide (k < j) && mover ops k o'')
def aliveAt (H : AHeap) (i : Nat) : Bool := !decide (i < H.n) || match H.get i with
  | some o => Nat.beq o.kind 0
  | none => false
/-- What an operation reads is the same at another stage. -/
def readOk (o : Oper) (T : Tr Value) (v : Value) (n : Nat) (H : AHeap) : Bool :=
  match o.op with
  | .load t x => match ev T x with
    | some (.pointer (some a)) => decide (a.block < n) && (!decide (a.block < H.n) || match aload P H t a with
      | some u => beqI1 u v
      | none => false)
    | _ => true
  | .convert s d x => match ev T x with
    | some (.slice (some a) m c) => decide (a.block < n) && (!decide (a.block < H.n) || match aconvert P s d (.slice (some a) m c) H with
      | some r => beq0 r.1 v
      | none => false)
    | _ => true
  | .lookup t x k ok => match ev T x, ev T k with
    | some (.map (some r)), some k => decide (r < n) && (!decide (r < H.n) || match alookup P H t r k ok with
      | some u => beq2 u v
      | none => false)
    | _, _ => true
  | .call c => match c.callee with
    | .builtin .len => match evs T c.args.toList with
      | some [.map (some r)] => decide (r < n) && (!decide (r < H.n) || match xlen P c.argTypes (.map (some r)) H with
        | some u => beq0 u.1 v
        | none => false)
      | _ => true
    | _ => true
  | .binOp _ _ x y _ => match ev T x, ev T y with
    | some (.pointer (some a)), some (.pointer (some b)) => decide (a.block < n) && decide (b.block < n) && aliveAt H a.block && aliveAt H b.block
    | _, _ => true
  | _ => true
def xtrace (call : XCall) (ops : Array Oper) : List Oper → St → Option (List St)
  | [], st => some [st]
  | o :: l, st => match xstep P call ops o st with
    | some st' => (xtrace call ops l st').bind fun r => some (st :: r)
    | none => none
def stagesX (ops : Array Oper) : List St → Nat → List Oper → List (Nat × AHeap)
  | s :: ss, i, o :: l => if mover ops i o then (i, s.heap) :: stagesX ops ss (i + 1) l else stagesX ops ss (i + 1) l
  | s :: _, i, [] => [(i, s.heap)]
  | [], _, _ => []
/-- What an operation waits for, over several steps. -/
def reachTo (ops : Array Oper) : Nat → Oper → Nat → Bool
  | 0, o, j => edgeTo o j
  | n + 1, o, j => edgeTo o j || o.after.toList.any fun e => Region.binds .any e && match ops[e.on]? with
    | some o' => reachTo ops n o' j
    | none => false
/-- Operation i is never done while the movers ahead of q, and no others, have been. -/
def outOf (ops : Array Oper) (i : Nat) (o : Oper) (q : Nat) : Bool :=
  ops.toList.zipIdx.any fun (o', m) => mover ops m o' && (decide (m < q) && reachTo ops 6 o' i || decide (q ≤ m) && reachTo ops 6 o m)
def valAt (o : Oper) (s : St) : Value :=
  match o.dst with
  | some d => (s.tmps.get d).getD undef
  | none => undef
def readsOk (ops : Array Oper) (hs : List (Nat × AHeap)) : List St → Nat → List Oper → Bool
  | s :: s' :: ss, i, o :: l => (!wantedX ops o s.tmps || hs.all fun (q, H) => readOk P o s.tmps (valAt o s') s.heap.n H || outOf ops i o q) && readsOk ops hs (s' :: ss) (i + 1) l
  | _, _, _ => true
def xdraw (call : XCall) (ops : Array Oper) (st : St) : Option St :=
  (xtrace P call ops ops.toList st).bind fun ss => if drawOk ops && readsOk P ops (stagesX ops ss 0 ops.toList) ss 0 ops.toList then ss.getLast? else none
def xrun (okF : Cfg) : Nat → Task → St → Option (XExit × St)
  | 0, _, _ => none
  | n + 1, task, st => match task with
    | .within c rest => match xrun okF n (.code rest) st with
      | some (.goto l, st') => match findLabel c l with
        | some rest' => xrun okF n (.within c rest') st'
        | none => some (.goto l, st')
      | r => r
    | .looping b => match xrun okF n (.code b) st with
      | some (.normal, st') => xrun okF n (.looping b) st'
      | r => r
    | .code c => match c with
      | .skip => some (.normal, st)
      | .label _ => some (.normal, st)
      | .ret => some (.ret, st)
      | .exit id => some (.exit id, st)
      | .goto l => some (.goto l, st)
      | .region _ ops draw => if draw then (xdraw P (callX P okF fun c st => xrun okF n (.code c) st) ops st).bind fun st' => some (.normal, st')
        else (xops P (callX P okF fun c st => xrun okF n (.code c) st) ops ops.toList st).bind fun st' => some (.normal, st')
      | .seq a b => match xrun okF n (.code a) st with
        | some (.normal, st') => xrun okF n (.code b) st'
        | r => r
      | .cond c a b => match ev st.tmps c with
        | some (.bool t) => xrun okF n (.code (if t then a else b)) st
        | _ => none
      | .block id b => match xrun okF n (.code b) st with
        | some (.exit id', st') => if id' = id then some (.normal, st') else some (.exit id', st')
        | r => r
      | .loop b => xrun okF n (.looping b) st
      | .scope b => xrun okF n (.within b b) st
      | _ => none
def xcall (okF : Cfg) (n : Nat) (f : FuncId) (args : List Value) (h : AHeap) : Option (Value × AHeap) :=
  callX P okF (fun c st => xrun P okF n (.code c) st) f args h
end
def h0 : AHeap := ⟨0, .nil⟩
end Go.Proofs.Ytfbedlhigggggaa
