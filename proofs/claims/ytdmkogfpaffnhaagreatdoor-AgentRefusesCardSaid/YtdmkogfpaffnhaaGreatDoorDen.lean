/- The executor once more, as plain terms: code turned into calls of small functions, value by value. -/
import Derived.Test.YtdmkogfpaffnhaaGreatDoorRun
namespace Go.Proofs.YtdmkogfpaffnhaaGreatDoor
open Go

/-! Constants that stand high: what depends on them is unfolded first, where terms are compared. -/
def tl0 : Nat := 0
def tl1 : Nat := tl0
def tl2 : Nat := tl1
def tl3 : Nat := tl2
def tl4 : Nat := tl3
def tl5 : Nat := tl4
def tl6 : Nat := tl5
def tl7 : Nat := tl6
def tl8 : Nat := tl7
def tl9 : Nat := tl8
def tl10 : Nat := tl9
def tl11 : Nat := tl10
def tl12 : Nat := tl11
def tl13 : Nat := tl12
def tl14 : Nat := tl13
def tl15 : Nat := tl14
def tl16 : Nat := tl15
def tl17 : Nat := tl16
def tl18 : Nat := tl17
def tl19 : Nat := tl18
def tl20 : Nat := tl19
def tl21 : Nat := tl20
def tl22 : Nat := tl21
def tl23 : Nat := tl22
def tl24 : Nat := tl23
def tl25 : Nat := tl24
def tl26 : Nat := tl25
def tl27 : Nat := tl26
def tl28 : Nat := tl27
def tl29 : Nat := tl28
def tl30 : Nat := tl29
def tl31 : Nat := tl30
def tl32 : Nat := tl31
def tl33 : Nat := tl32
def tl34 : Nat := tl33
def tl35 : Nat := tl34
def tl36 : Nat := tl35
def tl37 : Nat := tl36
def tl38 : Nat := tl37
def tl39 : Nat := tl38
def tl40 : Nat := tl39
/-- A choice that is unfolded first. -/
def ifH {α : Type} (p : Prop) [d : Decidable p] (a b : α) : α := (fun _ : Nat => match d with
  | .isTrue _ => a
  | .isFalse _ => b) tl40
theorem ifH_eq {α : Type} {p : Prop} [d : Decidable p] {a b : α} : ifH p a b = if p then a else b := by
  unfold ifH
  cases d <;> rfl

abbrev R := Option (Value × AHeap)
abbrev KV := Value → AHeap → R
abbrev KT := Tr Value → AHeap → R
def NF : Nat → Type
  | 0 => AHeap → R
  | n + 1 => Value → NF n
def lamN : (n : Nat) → (List Value → AHeap → R) → NF n
  | 0, f => f []
  | n + 1, f => fun v => lamN n (fun l => f (v :: l))
def appN : (n : Nat) → NF n → List Value → AHeap → R
  | 0, f, _, h => f h
  | n + 1, f, v :: l, h => appN n (f v) l h
  | _ + 1, _, [], _ => none
def getT (T : Tr Value) (i : Nat) : Value := (T.get i).getD undef
def setAll : List Nat → List Value → Tr Value → Tr Value
  | a :: as, v :: vs, T => setAll as vs (T.set a (some v))
  | _, _, T => T
/-- A value that is used more than once bears a name. -/
def withJ {α : Type} (J : α) (body : α → R) : R := body J
def loopN (F n : Nat) (step : NF n → NF n) : NF n := Nat.rec (motive := fun _ => NF n) (lamN n fun _ _ => none) (fun _ ih => step ih) F
def scopeN (F n : Nat) (step : (Nat → NF n) → Nat → NF n) : Nat → NF n := Nat.rec (motive := fun _ => Nat → NF n) (fun _ => lamN n fun _ _ => none) (fun _ ih => step ih) F
def labN (n : Nat) (l : Nat) : List (Nat × NF n) → NF n
  | [] => lamN n fun _ _ => none
  | (a, f) :: r => bif Nat.beq a l then f else labN n l r

/-! The small functions. -/
def oIf (v : Value) (a b : R) : R :=
  match v with
  | .bool t => bif t then a else b
  | _ => none
def oGuard (g : Value) (want : Bool) (h : AHeap) (body : KV → R) (k : KV) : R :=
  match g with
  | .bool b => bif b == want then body k else k undef h
  | _ => k undef h
def oPick (c a b : Value) (h : AHeap) (k : KV) : R :=
  match c with
  | .bool t => k (bif t then a else b) h
  | _ => none
def oExt (v : Value) (ix : Nat) (h : AHeap) (k : KV) : R :=
  match v with
  | .tuple vs => match vs[ix]? with
    | some u => k u h
    | none => none
  | _ => none
def oNil (v : Value) (h : AHeap) (k : KV) : R :=
  match v with
  | .pointer (some _) => k v h
  | _ => none
def oNew (cells : List Value) (e es : Nat) (h : AHeap) (k : KV) : R := k (.pointer (some ⟨h.n, 0, none⟩)) (h.push ⟨cells, e, 0, es⟩)
def oBox (v : Value) (e : Nat) (h : AHeap) (k : KV) : R :=
  match v with
  | .tuple _ => none
  | .agg cs => oNew cs.toList e cs.toList.length h k
  | v => oNew [v] e 1 h k
def oLoad1 (x : Value) (h : AHeap) (k : KV) : R :=
  match x with
  | .pointer (some a) => match a.spot with
    | some _ => none
    | none => match h.cel a.block with
      | some o => match o.cells[a.off]? with
        | some v => k v h
        | none => none
      | none => none
  | _ => none
def oLoadN (s : Nat) (x : Value) (h : AHeap) (k : KV) : R :=
  match x with
  | .pointer (some a) => match a.spot with
    | some _ => none
    | none => match h.cel a.block with
      | some o => match takeN o.cells a.off s with
        | some cs => k (.agg cs.toArray) h
        | none => none
      | none => none
  | _ => none
def oStore (s : Nat) (x v : Value) (h : AHeap) (k : KV) : R :=
  match x with
  | .pointer (some a) => match a.spot with
    | some _ => none
    | none => match cellsV v with
      | some cs => bif Nat.beq s cs.length then (match astore h a.block a.off cs with
        | some h' => k undef h'
        | none => none) else none
      | none => none
  | _ => none
def oField (off : Nat) (x : Value) (h : AHeap) (k : KV) : R :=
  match x with
  | .pointer (some a) => match a.spot with
    | some _ => none
    | none => k (.pointer (some ⟨a.block, a.off + off, none⟩)) h
  | _ => none
def oPart1 (off : Nat) (x : Value) (h : AHeap) (k : KV) : R :=
  match x with
  | .agg cs => match cs[off]? with
    | some v => k v h
    | none => none
  | _ => none
def oPartN (off s : Nat) (x : Value) (h : AHeap) (k : KV) : R :=
  match x with
  | .agg cs => k (.agg (cs.extract off (off + s))) h
  | _ => none
def oIdx (s : Nat) (x i : Value) (h : AHeap) (k : KV) : R :=
  match x, i with
  | .slice (some a) n _, .int _ i => match i with
    | .ofNat m => bif Nat.blt m n then k (.pointer (some ⟨a.block, a.off + m * s, none⟩)) h else none
    | .negSucc _ => none
  | _, _ => none
def oCall (c : XCall) (f : FuncId) (args : List Value) (h : AHeap) (k : KV) : R :=
  match c f args h with
  | some r => k r.1 r.2
  | none => none
def oRes (r : R) (k : KV) : R :=
  match r with
  | some r => k r.1 r.2
  | none => none
def oLen (x : Value) (els : R) (h : AHeap) (k : KV) : R :=
  match x with
  | .slice (some _) n _ => k (goInt n) h
  | _ => oRes els k
/-- Whole numbers that are known; else what else says. -/
def oInt2 (f : IntKind → Int → Int → Option Value) (x y : Value) (els : R) (h : AHeap) (k : KV) : R :=
  match x, y with
  | .int p a, .int q b => match f p a b with
    | some v => bif p == q then k v h else oRes els k
    | none => oRes els k
  | _, _ => oRes els k

/-! What a region that draws reads, whatever its order. -/
def sensitive (o : Oper) : Bool :=
  match o.op with
  | .load .. | .convert .. | .lookup .. | .binOp .. => true
  | .call { callee := .builtin .len, .. } => true
  | _ => false
def moversOf (ops : Array Oper) : List Nat := (ops.toList.zipIdx.filter fun (o, i) => mover ops i o).map (·.2)
def nextAt (ops : Array Oper) (i q : Nat) : Bool := Nat.ble i q && ops.toList.zipIdx.all fun (o, j) => !(Nat.ble i j && Nat.blt j q && mover ops j o)
def staticReads (ops : Array Oper) : Bool :=
  ops.toList.zipIdx.all fun (o, i) => !sensitive o || (o.dst.isSome && (moversOf ops ++ [ops.size]).all fun q => nextAt ops i q || outOf ops i o q)
def iLt : Int → Int → Bool
  | .ofNat a, .ofNat b => Nat.blt a b
  | .ofNat _, .negSucc _ => false
  | .negSucc _, .ofNat _ => true
  | .negSucc a, .negSucc b => Nat.blt b a
def iEq : Int → Int → Bool
  | .ofNat a, .ofNat b => Nat.beq a b
  | .negSucc a, .negSucc b => Nat.beq a b
  | _, _ => false
def inK' (k : IntKind) (z : Int) : Bool :=
  match k with
  | .i64 => match z with
    | .ofNat a => Nat.blt a 9223372036854775808
    | .negSucc a => Nat.blt a 9223372036854775808
  | .u8 => match z with
    | .ofNat a => Nat.blt a 256
    | .negSucc _ => false
  | _ => false
def fAdd (k : IntKind) (a b : Int) : Option Value := bif inK' k (Int.add a b) then some (.int k (Int.add a b)) else none
def fSub (k : IntKind) (a b : Int) : Option Value := bif inK' k (Int.add a (Int.neg b)) then some (.int k (Int.add a (Int.neg b))) else none
def fLss (_ : IntKind) (a b : Int) : Option Value := some (.bool (iLt a b))
def fLeq (_ : IntKind) (a b : Int) : Option Value := some (.bool (!iLt b a))
def fGtr (_ : IntKind) (a b : Int) : Option Value := some (.bool (iLt b a))
def fGeq (_ : IntKind) (a b : Int) : Option Value := some (.bool (!iLt a b))
def fEql (_ : IntKind) (a b : Int) : Option Value := some (.bool (iEq a b))
def fNeq (_ : IntKind) (a b : Int) : Option Value := some (.bool (!iEq a b))
def regionOf : Code → Nat → Option (Array Oper)
  | .region i ops _, id => if Nat.beq i id then some ops else none
  | .seq a b, id | .cond _ a b, id => match regionOf a id with
    | some r => some r
    | none => regionOf b id
  | .block _ b, id | .loop b, id | .scope b, id => regionOf b id
  | _, _ => none
def opsAt (P : Program) (f id : Nat) : Array Oper :=
  match P.funcs[f]? with
  | some fn => match fn.body with
    | some b => (regionOf b id).getD #[]
    | none => #[]
  | none => #[]
def opAt (P : Program) (f id i : Nat) : Oper :=
  match P.funcs[f]? with
  | some fn => match fn.body with
    | some b => match regionOf b id with
      | some ops => ops.getD i default
      | none => default
    | none => default
  | none => default
section
variable (P : Program)
/-- An operation by the executor's own words: its slots I hold vs. -/
def oGen (c : XCall) (o : Oper) (I : List Nat) (vs : List Value) (h : AHeap) : R := xop P c o (setAll I vs .nil) h
def tmpsOf (l : List Operand) : List Nat := (l.filterMap fun | .tmp t => some t | _ => none).eraseDups
def genR (c : XCall) (o : Oper) (T : Tr Value) (h : AHeap) : R := oGen P c o (tmpsOf o.op.operands.toList) ((tmpsOf o.op.operands.toList).map (getT T)) h
def gen (c : XCall) (o : Oper) (T : Tr Value) (h : AHeap) (k : KV) : R := oRes (genR P c o T h) k
def intOp (op : BinOp) : Option (IntKind → Int → Int → Option Value) :=
  match op with
  | .add => some fAdd
  | .sub => some fSub
  | .lss => some fLss
  | .leq => some fLeq
  | .gtr => some fGtr
  | .geq => some fGeq
  | .eql => some fEql
  | .neq => some fNeq
  | _ => none
/-- One operation. -/
def den1 (c : XCall) (o : Oper) (T : Tr Value) (h : AHeap) (k : KV) : R :=
  match o.op with
  | .move x | .assign x => match ev T x with
    | some v => k v h
    | none => none
  | .pick q x y => match ev T q, ev T x, ev T y with
    | some q, some x, some y => oPick q x y h k
    | _, _, _ => none
  | .extract x ix => match ev T x with
    | some v => oExt v ix h k
    | none => none
  | .nilCheck x => match ev T x with
    | some v => oNil v h k
    | none => none
  | .alloc e => match zeroP P e with
    | some z => oNew z.cells.toList e z.cells.toList.length h k
    | none => none
  | .box e x => match ev T x with
    | some v => oBox v e h k
    | none => none
  | .load t x => match ev T x, isAggP P t with
    | some v, some false => oLoad1 v h k
    | some v, some true => match sizeP P t with
      | some s => oLoadN s v h k
      | none => none
    | _, _ => none
  | .store t x y => match ev T x, ev T y, sizeP P t with
    | some x, some y, some s => oStore s x y h k
    | _, _, _ => none
  | .fieldAddr t x f => match P.underlying t, ev T x with
    | some (.struct fs), some v => match fs[f]? with
      | some fd => match sizeP P fd.type with
        | some s => ifH (s = 0) none (oField fd.offset v h k)
        | none => none
      | none => none
    | _, _ => none
  | .field t x f => match P.underlying t, ev T x with
    | some (.struct fs), some v => match fs[f]? with
      | some fd => match isAggP P fd.type with
        | some true => match sizeP P fd.type with
          | some s => oPartN fd.offset s v h k
          | none => none
        | some false => oPart1 fd.offset v h k
        | none => none
      | none => none
    | _, _ => none
  | .indexAddr t x i => match P.underlying t with
    | some (.slice e) => match sizeP P e, ev T x, ev T i with
      | some s, some x, some i => oIdx s x i h k
      | _, _, _ => none
    | _ => gen P c o T h k
  | .binOp op _ x y _ => match intOp op, ev T x, ev T y with
    | some f, some x, some y => oInt2 f x y (genR P c o T h) h k
    | _, _, _ => gen P c o T h k
  | .call q => match q.callee with
    | .value (.func id) => ifH (outer P id = true) (gen P c o T h k) (match evs T q.args.toList with
      | some args => oCall c id args h k
      | none => none)
    | .builtin .len => match q.argTypes[0]? with
      | some t => match P.underlying t, evs T q.args.toList with
        | some (.slice _), some [x] => oLen x (genR P c o T h) h k
        | _, _ => gen P c o T h k
      | none => none
    | _ => gen P c o T h k
  | _ => gen P c o T h k
def denPut (nt : Nat) (dst : Option Tmp) (v : Value) (T : Tr Value) (k : Tr Value → R) : R :=
  match dst with
  | none => k T
  | some d => ifH (d < nt) (k (T.set d (some v))) none
/-- What is read is as it is where it is read: looked at anew. -/
def oChk (b : Bool) (k : R) : R := bif b then k else none
def chkAt (o : Oper) (I : List Nat) (vs : List Value) (v : Value) (h : AHeap) : Bool := readOk P o (setAll I vs .nil) v h.n h
def denChk (dr : Bool) (o : Oper) (T : Tr Value) (h : AHeap) (v : Value) (k : R) : R :=
  ifH ((dr && sensitive o) = true) (oChk (chkAt P o (tmpsOf o.op.operands.toList) ((tmpsOf o.op.operands.toList).map (getT T)) v h) k) k
def denOps (c : XCall) (nt : Nat) (dr : Bool) (ops : Array Oper) : List Oper → Tr Value → AHeap → KT → R
  | [], T, h, k => k T h
  | o :: rest, T, h, k => match o.guard with
    | none => den1 P c o T h fun v h' => denChk P dr o T h v (denPut nt o.dst v T fun T => denOps c nt dr ops rest T h' k)
    | some (j, want) => match (ops[j]?).bind (·.dst) with
      | some d => oGuard (getT T d) want h (fun k => den1 P c o T h fun v h' => denChk P dr o T h v (k v h')) fun v h => denPut nt o.dst v T fun T => denOps c nt dr ops rest T h k
      | none => none
end
/-! Code. -/
/-- A region that must be looked at as it runs. -/
def oDraw (r : Option St) (k : St → R) : R :=
  match r with
  | some st => k st
  | none => none
def assigned : Code → List Nat
  | .region _ ops _ => ops.toList.filterMap (·.dst)
  | .seq a b => assigned a ++ assigned b
  | .cond _ a b => assigned a ++ assigned b
  | .block _ b | .loop b | .scope b => assigned b
  | _ => []
def asgn (c : Code) : List Nat := (assigned c).eraseDups
def labelsOf : Code → List Nat
  | .label l => [l]
  | .seq a b => labelsOf a ++ labelsOf b
  | _ => []
abbrev KE := XExit → Tr Value → AHeap → R
section
variable (P : Program)
def den (c : XCall) (nt F : Nat) : Nat → Code → Tr Value → AHeap → KE → R
  | 0, _, _, _, _ => none
  | D + 1, code, T, h, k => match code with
    | .skip | .label _ => k .normal T h
    | .ret => k .ret T h
    | .exit id => k (.exit id) T h
    | .goto l => k (.goto l) T h
    | .region id ops draw => ifH ((draw && !(drawOk ops && staticReads ops)) = true) (oDraw (xdraw P c ops ⟨nt, T, h⟩) fun st => k .normal (setAll (asgn (.region id ops draw)) ((asgn (.region id ops draw)).map (getT st.tmps)) T) st.heap) (denOps P c nt draw ops ops.toList T h fun T h => k .normal T h)
    | .seq a b => den c nt F D a T h fun e T h => match e with
      | .normal => den c nt F D b T h k
      | e => k e T h
    | .cond x a b => match ev T x with
      | some v => withJ (lamN (asgn (.cond x a b)).length fun vs h => k .normal (setAll (asgn (.cond x a b)) vs T) h) fun j =>
          oIf v
            (den c nt F D a T h fun e T' h => match e with
              | .normal => appN (asgn (.cond x a b)).length j ((asgn (.cond x a b)).map (getT T')) h
              | e => k e T' h)
            (den c nt F D b T h fun e T' h => match e with
              | .normal => appN (asgn (.cond x a b)).length j ((asgn (.cond x a b)).map (getT T')) h
              | e => k e T' h)
      | none => none
    | .block id b => withJ (lamN (asgn b).length fun vs h => k .normal (setAll (asgn b) vs T) h) fun j =>
        den c nt F D b T h fun e T' h => match e with
          | .normal => appN (asgn b).length j ((asgn b).map (getT T')) h
          | .exit id' => ifH (id' = id) (appN (asgn b).length j ((asgn b).map (getT T')) h) (k (.exit id') T' h)
          | e => k e T' h
    | .loop b => appN (asgn b).length (loopN F (asgn b).length fun ih => lamN (asgn b).length fun vs h =>
        den c nt F D b (setAll (asgn b) vs T) h fun e T' h => match e with
          | .normal => appN (asgn b).length ih ((asgn b).map (getT T')) h
          | e => k e T' h) ((asgn b).map (getT T)) h
    | .scope b => withJ (scopeN F (asgn b).length fun ih l => labN (asgn b).length l ((labelsOf b).map fun l' => (l', lamN (asgn b).length fun vs h => match findLabel b l' with
          | some rest => den c nt F D rest (setAll (asgn b) vs T) h fun e T' h => match e with
            | .goto l => ifH ((labelsOf b).contains l = true) (appN (asgn b).length (ih l) ((asgn b).map (getT T')) h) none
            | e => k e T' h
          | none => none))) fun S =>
        den c nt F D b T h fun e T' h => match e with
          | .goto l => ifH ((labelsOf b).contains l = true) (appN (asgn b).length (S l) ((asgn b).map (getT T')) h) none
          | e => k e T' h
    | _ => none
def denRes (T : Tr Value) (h : AHeap) : List ResultVar → (List Value → R) → R
  | [], k => k []
  | .tmp t :: r, k => denRes T h r fun l => k (getT T t :: l)
  | .cell a t :: r, k => match isAggP P t with
    | some false => oLoad1 (getT T a) h fun v _ => denRes T h r fun l => k (v :: l)
    | some true => match sizeP P t with
      | some s => oLoadN s (getT T a) h fun v _ => denRes T h r fun l => k (v :: l)
      | none => none
    | none => none
def endV : List Value → AHeap → R
  | [v], h => some (v, h)
  | l, h => if l.all noTup then some (.tuple l.toArray, h) else none
/-- A function, its n arguments one by one. -/
def denF (fn : Func) (n F D : Nat) (c : XCall) : NF n :=
  lamN n fun args h => match fn.body with
    | some body => den P c (n + (fn.ntmps - n)) F D body (argsTr args 0 .nil) h fun e T h => match e with
      | .normal | .ret => denRes P T h fn.results.toList fun l => endV l h
      | _ => none
    | none => none
end
end Go.Proofs.YtdmkogfpaffnhaaGreatDoor
