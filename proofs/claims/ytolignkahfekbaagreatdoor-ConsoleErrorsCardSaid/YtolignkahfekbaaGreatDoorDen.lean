/- The executor once more, as plain terms: code turned into calls of small functions, value by value. -/
import Derived.Test.YtolignkahfekbaaGreatDoorDenB
namespace Go.Proofs.YtolignkahfekbaaGreatDoor
open Go

/-! Constants that stand high: what depends on them is unfolded first, where terms are compared. -/
def tl0 : Nat := 0
def tl1 : Nat := tl0
def tl2 : Nat := tl1
def tl3 : Nat := tl2
def tl4 : Nat := tl3
def tl5 : Nat := tl4
def tl6 : Nat := tl5
def tl7 : Nat := tl6
def tl8 : Nat := tl7
def tl9 : Nat := tl8
def tl10 : Nat := tl9
def tl11 : Nat := tl10
def tl12 : Nat := tl11
def tl13 : Nat := tl12
def tl14 : Nat := tl13
def tl15 : Nat := tl14
def tl16 : Nat := tl15
def tl17 : Nat := tl16
def tl18 : Nat := tl17
def tl19 : Nat := tl18
def tl20 : Nat := tl19
def tl21 : Nat := tl20
def tl22 : Nat := tl21
def tl23 : Nat := tl22
def tl24 : Nat := tl23
def tl25 : Nat := tl24
def tl26 : Nat := tl25
def tl27 : Nat := tl26
def tl28 : Nat := tl27
def tl29 : Nat := tl28
def tl30 : Nat := tl29
def tl31 : Nat := tl30
def tl32 : Nat := tl31
def tl33 : Nat := tl32
def tl34 : Nat := tl33
def tl35 : Nat := tl34
def tl36 : Nat := tl35
def tl37 : Nat := tl36
def tl38 : Nat := tl37
def tl39 : Nat := tl38
def tl40 : Nat := tl39
/-- A choice that is unfolded first. -/
def ifH {α : Type} (p : Prop) [d : Decidable p] (a b : α) : α := (fun _ : Nat => match d with
  | .isTrue _ => a
  | .isFalse _ => b) tl40
theorem ifH_eq {α : Type} {p : Prop} [d : Decidable p] {a b : α} : ifH p a b = if p then a else b := by
  unfold ifH
  cases d <;> rfl

abbrev R := Option (Value × AHeap)
abbrev KV := Value → AHeap → R
abbrev KT := Tr Value → AHeap → R
def NF : Nat → Type
  | 0 => AHeap → R
  | n + 1 => Value → NF n
def lamN : (n : Nat) → (List Value → AHeap → R) → NF n
  | 0, f => f []
  | n + 1, f => fun v => lamN n (fun l => f (v :: l))
def appN : (n : Nat) → NF n → List Value → AHeap → R
  | 0, f, _, h => f h
  | n + 1, f, v :: l, h => appN n (f v) l h
  | _ + 1, _, [], _ => none
def getT (T : Tr Value) (i : Nat) : Value := (T.get i).getD undef
def setAll : List Nat → List Value → Tr Value → Tr Value
  | a :: as, v :: vs, T => setAll as vs (T.set a (some v))
  | _, _, T => T
/-- A value that is used more than once bears a name. -/
def withJ {α : Type} (J : α) (body : α → R) : R := body J
def loopN (F n : Nat) (step : NF n → NF n) : NF n := Nat.rec (motive := fun _ => NF n) (lamN n fun _ _ => none) (fun _ ih => step ih) F
def scopeN (F n : Nat) (step : (Nat → NF n) → Nat → NF n) : Nat → NF n := Nat.rec (motive := fun _ => Nat → NF n) (fun _ => lamN n fun _ _ => none) (fun _ ih => step ih) F
def labN (n : Nat) (l : Nat) : List (Nat × NF n) → NF n
  | [] => lamN n fun _ _ => none
  | (a, f) :: r => bif Nat.beq a l then f else labN n l r

def iLt : Int → Int → Bool
  | .ofNat a, .ofNat b => Nat.blt a b
  | .ofNat _, .negSucc _ => false
  | .negSucc _, .ofNat _ => true
  | .negSucc a, .negSucc b => Nat.blt b a
def iEq : Int → Int → Bool
  | .ofNat a, .ofNat b => Nat.beq a b
  | .negSucc a, .negSucc b => Nat.beq a b
  | _, _ => false
def inK' (k : IntKind) (z : Int) : Bool :=
  match k with
  | .i64 => match z with
    | .ofNat a => Nat.blt a 9223372036854775808
    | .negSucc a => Nat.blt a 9223372036854775808
  | .u8 => match z with
    | .ofNat a => Nat.blt a 256
    | .negSucc _ => false
  | _ => false
def fAdd (k : IntKind) (a b : Int) : Option Value := bif inK' k (Int.add a b) then some (.int k (Int.add a b)) else none
def fSub (k : IntKind) (a b : Int) : Option Value := bif inK' k (Int.add a (Int.neg b)) then some (.int k (Int.add a (Int.neg b))) else none
def fLss (_ : IntKind) (a b : Int) : Option Value := some (.bool (iLt a b))
def fLeq (_ : IntKind) (a b : Int) : Option Value := some (.bool (!iLt b a))
def fGtr (_ : IntKind) (a b : Int) : Option Value := some (.bool (iLt b a))
def fGeq (_ : IntKind) (a b : Int) : Option Value := some (.bool (!iLt a b))
def fEql (_ : IntKind) (a b : Int) : Option Value := some (.bool (iEq a b))
def fNeq (_ : IntKind) (a b : Int) : Option Value := some (.bool (!iEq a b))
/-! The small functions, as they are meant. -/
def pIf (v : Value) (a b : R) : R :=
  match v with
  | .bool t => bif t then a else b
  | _ => none
def pGuard (g : Value) (want : Bool) (h : AHeap) (body : KV → R) (k : KV) : R :=
  match g with
  | .bool b => bif b == want then body k else k undef h
  | _ => k undef h
def pPick (c a b : Value) (h : AHeap) (k : KV) : R :=
  match c with
  | .bool t => k (bif t then a else b) h
  | _ => none
def pExt (v : Value) (ix : Nat) (h : AHeap) (k : KV) : R :=
  match v with
  | .tuple vs => match vs[ix]? with
    | some u => k u h
    | none => none
  | _ => none
def pNil (v : Value) (h : AHeap) (k : KV) : R :=
  match v with
  | .pointer (some _) => k v h
  | _ => none
def pNew (cells : List Value) (e es : Nat) (h : AHeap) (k : KV) : R := k (.pointer (some ⟨h.n, 0, none⟩)) (h.push ⟨cells, e, 0, es⟩)
def pBox (v : Value) (e : Nat) (h : AHeap) (k : KV) : R :=
  match v with
  | .tuple _ => none
  | .agg cs => pNew cs.toList e cs.toList.length h k
  | v => pNew [v] e 1 h k
def pLoad1 (x : Value) (h : AHeap) (k : KV) : R :=
  match x with
  | .pointer (some a) => match a.spot with
    | some _ => none
    | none => match h.cel a.block with
      | some o => match o.cells[a.off]? with
        | some v => k v h
        | none => none
      | none => none
  | _ => none
def pLoadN (s : Nat) (x : Value) (h : AHeap) (k : KV) : R :=
  match x with
  | .pointer (some a) => match a.spot with
    | some _ => none
    | none => match h.cel a.block with
      | some o => match takeN o.cells a.off s with
        | some cs => k (.agg cs.toArray) h
        | none => none
      | none => none
  | _ => none
def pStore (s : Nat) (x v : Value) (h : AHeap) (k : KV) : R :=
  match x with
  | .pointer (some a) => match a.spot with
    | some _ => none
    | none => match cellsV v with
      | some cs => bif Nat.beq s cs.length then (match astore h a.block a.off cs with
        | some h' => k undef h'
        | none => none) else none
      | none => none
  | _ => none
def pField (off : Nat) (x : Value) (h : AHeap) (k : KV) : R :=
  match x with
  | .pointer (some a) => match a.spot with
    | some _ => none
    | none => k (.pointer (some ⟨a.block, a.off + off, none⟩)) h
  | _ => none
def pPart1 (off : Nat) (x : Value) (h : AHeap) (k : KV) : R :=
  match x with
  | .agg cs => match cs[off]? with
    | some v => k v h
    | none => none
  | _ => none
def pPartN (off s : Nat) (x : Value) (h : AHeap) (k : KV) : R :=
  match x with
  | .agg cs => k (.agg (cs.extract off (off + s))) h
  | _ => none
def pIdx (s : Nat) (x i : Value) (h : AHeap) (k : KV) : R :=
  match x, i with
  | .slice (some a) n _, .int _ i => match i with
    | .ofNat m => bif Nat.blt m n then k (.pointer (some ⟨a.block, a.off + m * s, none⟩)) h else none
    | .negSucc _ => none
  | _, _ => none
def pCall (c : XCall) (f : FuncId) (args : List Value) (h : AHeap) (k : KV) : R :=
  match c f args h with
  | some r => k r.1 r.2
  | none => none
def pRes (r : R) (k : KV) : R :=
  match r with
  | some r => k r.1 r.2
  | none => none
def pLen (x : Value) (els : R) (h : AHeap) (k : KV) : R :=
  match x with
  | .slice (some _) n _ => k (goInt n) h
  | _ => pRes els k
/-- Whole numbers that are known; else what else says. -/
def pInt2 (f : IntKind → Int → Int → Option Value) (x y : Value) (els : R) (h : AHeap) (k : KV) : R :=
  match x, y with
  | .int p a, .int q b => match f p a b with
    | some v => bif p == q then k v h else pRes els k
    | none => pRes els k
  | _, _ => pRes els k

/-! The small functions, quick for the kernel; each is what it is meant to be. -/
noncomputable def litK {β : Type} (n : Nat) (k : Nat → β) : β := Nat.rec (motive := fun _ => β) (k 0) (fun m _ => k (Nat.succ m)) n
theorem litK_eq {β : Type} (n : Nat) (k : Nat → β) : litK n k = k n := by cases n <;> rfl
noncomputable def ptrK {β : Type} (x : Value) (no : β) (k : Nat → Nat → β) : β := vPtr x no fun a => Option.rec (motive := fun _ => β) no (fun ad => Addr.rec (motive := fun _ => β) (fun b o s => Option.rec (motive := fun _ => β) (k b o) (fun _ => no) s) ad) a
theorem ptrK_eq {β : Type} (x : Value) (no : β) (k : Nat → Nat → β) : ptrK x no k = match x with
    | .pointer (some a) => match a.spot with
      | some _ => no
      | none => k a.block a.off
    | _ => no := by
  unfold ptrK
  rw [vPtr_eq]
  cases x <;> try rfl
  rename_i a
  cases a with
  | none => rfl
  | some a => obtain ⟨b, o, s⟩ := a; cases s <;> rfl
noncomputable def oIf (v : Value) (a b : R) : R := vBool v none fun t => Bool.rec (motive := fun _ => R) b a t
theorem oIf_eq (v : Value) (a b : R) : oIf v a b = pIf v a b := by unfold oIf pIf; rw [vBool_eq]; cases v <;> try rfl
                                                                   rename_i t; cases t <;> rfl
noncomputable def oGuard (g : Value) (want : Bool) (h : AHeap) (body : KV → R) (k : KV) : R :=
  vBool g (k undef h) fun b => Bool.rec (motive := fun _ => R) (Bool.rec (motive := fun _ => R) (body k) (k undef h) want) (Bool.rec (motive := fun _ => R) (k undef h) (body k) want) b
theorem oGuard_eq (g : Value) (want : Bool) (h : AHeap) (body : KV → R) (k : KV) : oGuard g want h body k = pGuard g want h body k := by
  unfold oGuard pGuard; rw [vBool_eq]; cases g <;> try rfl
  rename_i b; cases b <;> cases want <;> rfl
noncomputable def oPick (c a b : Value) (h : AHeap) (k : KV) : R := vBool c none fun t => Bool.rec (motive := fun _ => R) (k b h) (k a h) t
theorem oPick_eq (c a b : Value) (h : AHeap) (k : KV) : oPick c a b h k = pPick c a b h k := by
  unfold oPick pPick; rw [vBool_eq]; cases c <;> try rfl
  rename_i t; cases t <;> rfl
noncomputable def oExt (v : Value) (ix : Nat) (h : AHeap) (k : KV) : R := vTup v none fun vs => Array.rec (motive := fun _ => R) (fun l => nthK l ix none fun u => k u h) vs
theorem oExt_eq (v : Value) (ix : Nat) (h : AHeap) (k : KV) : oExt v ix h k = pExt v ix h k := by
  unfold oExt pExt; rw [vTup_eq]; cases v <;> try rfl
  rename_i vs
  obtain ⟨l⟩ := vs
  simp only [nthK_eq, List.getElem?_toArray]
  cases l[ix]? <;> rfl
noncomputable def oNil (v : Value) (h : AHeap) (k : KV) : R := vPtr v none fun a => Option.rec (motive := fun _ => R) none (fun _ => k v h) a
theorem oNil_eq (v : Value) (h : AHeap) (k : KV) : oNil v h k = pNil v h k := by
  unfold oNil pNil; rw [vPtr_eq]; cases v <;> try rfl
  rename_i a; cases a <;> rfl
noncomputable def oNew (cells : List Value) (e es : Nat) (h : AHeap) (k : KV) : R :=
  AHeap.rec (motive := fun _ => R) (fun n t => litK n fun n => k (.pointer (some ⟨n, 0, none⟩)) ⟨Nat.succ n, setR (some ⟨cells, e, 0, es⟩) (Nat.succ n) t n⟩) h
theorem oNew_eq (cells : List Value) (e es : Nat) (h : AHeap) (k : KV) : oNew cells e es h k = pNew cells e es h k := by
  unfold oNew pNew
  obtain ⟨n, t⟩ := h
  simp only [litK_eq, setR_eq]
  rfl
noncomputable def oBox (v : Value) (e : Nat) (h : AHeap) (k : KV) : R :=
  vCells v none (oNew [v] e 1 h k) fun cs => Array.rec (motive := fun _ => R) (fun l => oNew l e l.length h k) cs
theorem oBox_eq (v : Value) (e : Nat) (h : AHeap) (k : KV) : oBox v e h k = pBox v e h k := by
  unfold oBox pBox; rw [vCells_eq]; simp only [oNew_eq]; cases v <;> try rfl
noncomputable def oLoad1 (x : Value) (h : AHeap) (k : KV) : R :=
  ptrK x none fun b o => celK h b none fun q => AObj.rec (motive := fun _ => R) (fun c _ _ _ => nthK c o none fun v => k v h) q
theorem oLoad1_eq (x : Value) (h : AHeap) (k : KV) : oLoad1 x h k = pLoad1 x h k := by
  unfold oLoad1 pLoad1; rw [ptrK_eq]; simp only [celK_eq]
  cases x <;> try rfl
  rename_i a
  cases a with
  | none => rfl
  | some a =>
    simp only
    cases a.spot with
    | some _ => rfl
    | none =>
      simp only
      cases h.cel a.block with
      | none => rfl
      | some o => obtain ⟨c, e, q, s⟩ := o; exact nthK_eq _ _ _ _
noncomputable def oLoadN (s : Nat) (x : Value) (h : AHeap) (k : KV) : R :=
  ptrK x none fun b o => celK h b none fun q => AObj.rec (motive := fun _ => R) (fun c _ _ _ => takeK s (dropL o c) none fun l => k (.agg ⟨l⟩) h) q
theorem takeN_take (l : List Value) (off n : Nat) : takeN l off n = if n ≤ (l.drop off).length then some ((l.drop off).take n) else none := by
  unfold takeN
  by_cases h0 : n = 0
  · subst h0; simp
  · rw [if_neg h0]
    by_cases h1 : off + n ≤ l.length
    · rw [if_pos h1, if_pos (by rw [List.length_drop]; omega)]
    · rw [if_neg h1, if_neg (by rw [List.length_drop]; omega)]
theorem oLoadN_eq (s : Nat) (x : Value) (h : AHeap) (k : KV) : oLoadN s x h k = pLoadN s x h k := by
  unfold oLoadN pLoadN; rw [ptrK_eq]; simp only [celK_eq]
  cases x <;> try rfl
  rename_i a
  cases a with
  | none => rfl
  | some a =>
    simp only
    cases a.spot with
    | some _ => rfl
    | none =>
      simp only
      cases h.cel a.block with
      | none => rfl
      | some o =>
        obtain ⟨c, e, q, es⟩ := o
        simp only [takeK_eq, dropL_eq, takeN_take]
        by_cases h1 : s ≤ (c.drop a.off).length
        · rw [if_pos h1, if_pos h1]
        · rw [if_neg h1, if_neg h1]
noncomputable def putK (h : AHeap) (b o : Nat) (vs : List Value) (k : AHeap → R) : R :=
  celK h b none fun q => AObj.rec (motive := fun _ => R) (fun c e q s => Bool.rec (motive := fun _ => R) (spliceK o vs c none fun c' => AHeap.rec (motive := fun _ => R) (fun n t => k ⟨n, setR (some ⟨c', e, q, s⟩) (Nat.succ b) t b⟩) h) none (Nat.beq q 2)) q
theorem putK_eq (h : AHeap) (b o : Nat) (vs : List Value) (k : AHeap → R) : putK h b o vs k = match astore h b o vs with
    | some h' => k h'
    | none => none := by
  unfold putK astore; simp only [celK_eq]
  obtain ⟨n, t⟩ := h
  cases (⟨n, t⟩ : AHeap).cel b with
  | none => rfl
  | some q =>
    obtain ⟨c, e, q, s⟩ := q
    simp only [spliceK_eq, setR_eq]
    by_cases h2 : q = 2
    · subst h2; simp
    · have e1 : Nat.beq q 2 = false := by rw [Bool.eq_false_iff]; intro h; exact h2 (Nat.eq_of_beq_eq_true h)
      simp only [e1, h2, false_or]
      by_cases h3 : o + vs.length ≤ c.length
      · rw [if_pos h3, if_neg (by omega)]; rfl
      · rw [if_neg h3, if_pos (by omega)]
noncomputable def oStore (s : Nat) (x v : Value) (h : AHeap) (k : KV) : R :=
  ptrK x none fun b o => vCells v none (Bool.rec (motive := fun _ => R) none (putK h b o [v] fun h' => k undef h') (Nat.beq s 1)) fun cs => Array.rec (motive := fun _ => R) (fun l => Bool.rec (motive := fun _ => R) none (putK h b o l fun h' => k undef h') (isLen s l)) cs
theorem oStore_eq (s : Nat) (x v : Value) (h : AHeap) (k : KV) : oStore s x v h k = pStore s x v h k := by
  unfold oStore pStore; rw [ptrK_eq]
  cases x <;> try rfl
  rename_i a
  cases a with
  | none => rfl
  | some a =>
    simp only
    cases a.spot with
    | some _ => rfl
    | none =>
      simp only [vCells_eq, putK_eq, isLen_eq]
      have key : ∀ vs : List Value, (Bool.rec (motive := fun _ => R) none (match astore h a.block a.off vs with | some h' => k undef h' | none => none) (Nat.beq s vs.length)) = bif Nat.beq s vs.length then (match astore h a.block a.off vs with | some h' => k undef h' | none => none) else none := by
        intro vs; cases Nat.beq s vs.length <;> rfl
      cases v <;> first | exact key [_] | rfl | skip
      rename_i cs
      exact key cs.toList
noncomputable def oField (off : Nat) (x : Value) (h : AHeap) (k : KV) : R := ptrK x none fun b o => k (.pointer (some ⟨b, Nat.add o off, none⟩)) h
theorem oField_eq (off : Nat) (x : Value) (h : AHeap) (k : KV) : oField off x h k = pField off x h k := by
  unfold oField pField; rw [ptrK_eq]; rfl
noncomputable def oPart1 (off : Nat) (x : Value) (h : AHeap) (k : KV) : R := vAgg x none fun cs => Array.rec (motive := fun _ => R) (fun l => nthK l off none fun v => k v h) cs
theorem oPart1_eq (off : Nat) (x : Value) (h : AHeap) (k : KV) : oPart1 off x h k = pPart1 off x h k := by
  unfold oPart1 pPart1; rw [vAgg_eq]; cases x <;> try rfl
  rename_i vs
  obtain ⟨l⟩ := vs
  simp only [nthK_eq, List.getElem?_toArray]
  cases l[off]? <;> rfl
noncomputable def oPartN (off s : Nat) (x : Value) (h : AHeap) (k : KV) : R := vAgg x none fun cs => Array.rec (motive := fun _ => R) (fun l => takeK s (dropL off l) none fun l => k (.agg ⟨l⟩) h) cs
theorem oPartN_le {off s : Nat} {x : Value} {h : AHeap} {k : KV} {y : Value × AHeap} (e : oPartN off s x h k = some y) : pPartN off s x h k = some y := by
  unfold oPartN at e; unfold pPartN
  rw [vAgg_eq] at e
  cases x <;> try (cases e; done)
  rename_i vs
  obtain ⟨l⟩ := vs
  simp only [takeK_eq, dropL_eq] at e ⊢
  split at e
  · rw [← e]
    congr 2
    apply Array.ext'
    simp [List.extract]
  · cases e
noncomputable def oIdx (s : Nat) (x i : Value) (h : AHeap) (k : KV) : R :=
  vSlice x none fun a n _ => Option.rec (motive := fun _ => R) none (fun ad => vInt i none fun _ z => Int.rec (motive := fun _ => R) (fun m => Bool.rec (motive := fun _ => R) none (Addr.rec (motive := fun _ => R) (fun b o _ => k (.pointer (some ⟨b, Nat.add o (Nat.mul m s), none⟩)) h) ad) (Nat.ble (Nat.succ m) n)) (fun _ => none) z) a
theorem oIdx_eq (s : Nat) (x i : Value) (h : AHeap) (k : KV) : oIdx s x i h k = pIdx s x i h k := by
  unfold oIdx pIdx; rw [vSlice_eq]; cases x <;> try rfl
  rename_i a n c
  cases a with
  | none => rfl
  | some ad =>
    simp only [vInt_eq]
    cases i <;> try rfl
    rename_i p z
    cases z with
    | negSucc m => rfl
    | ofNat m =>
      obtain ⟨b, o, q⟩ := ad
      show (Bool.rec (motive := fun _ => R) _ _ (Nat.ble (Nat.succ m) n)) = bif Nat.ble (m + 1) n then _ else _
      cases Nat.ble (m + 1) n <;> rfl
noncomputable def oRes (r : R) (k : KV) : R := Option.rec (motive := fun _ => R) none (fun p => Prod.rec (motive := fun _ => R) (fun v h => k v h) p) r
theorem oRes_eq (r : R) (k : KV) : oRes r k = pRes r k := by unfold oRes pRes; cases r <;> rfl
noncomputable def oCall (c : XCall) (f : FuncId) (args : List Value) (h : AHeap) (k : KV) : R := oRes (c f args h) k
theorem oCall_eq (c : XCall) (f : FuncId) (args : List Value) (h : AHeap) (k : KV) : oCall c f args h k = pCall c f args h k := by
  unfold oCall; rw [oRes_eq]; rfl
noncomputable def oLen (x : Value) (els : R) (h : AHeap) (k : KV) : R := vSlice x (oRes els k) fun a n _ => Option.rec (motive := fun _ => R) (oRes els k) (fun _ => k (.int .i64 (.ofNat n)) h) a
theorem oLen_eq (x : Value) (els : R) (h : AHeap) (k : KV) : oLen x els h k = pLen x els h k := by
  unfold oLen pLen; rw [vSlice_eq]; simp only [oRes_eq]
  cases x <;> try rfl
  rename_i a n c
  cases a <;> rfl
noncomputable def oAdd (x y : Value) (els : R) (h : AHeap) (k : KV) : R := i64K x (pInt2 fAdd x y els h k) fun a => i64K y (pInt2 fAdd x y els h k) fun b => Bool.rec (motive := fun _ => R) (pInt2 fAdd x y els h k) (litK (Nat.add a b) fun c => k (.int .i64 (.ofNat c)) h) (Nat.ble (Nat.succ (Nat.add a b)) 9223372036854775808)
noncomputable def oSub (x y : Value) (els : R) (h : AHeap) (k : KV) : R := i64K x (pInt2 fSub x y els h k) fun a => i64K y (pInt2 fSub x y els h k) fun b => Bool.rec (motive := fun _ => R) (pInt2 fSub x y els h k) (Bool.rec (motive := fun _ => R) (pInt2 fSub x y els h k) (litK (Nat.sub a b) fun c => k (.int .i64 (.ofNat c)) h) (Nat.ble (Nat.succ a) 9223372036854775808)) (Nat.ble b a)
noncomputable def oLss (x y : Value) (els : R) (h : AHeap) (k : KV) : R := i64K x (pInt2 fLss x y els h k) fun a => i64K y (pInt2 fLss x y els h k) fun b => k (.bool (Nat.ble (Nat.succ a) b)) h
noncomputable def oLeq (x y : Value) (els : R) (h : AHeap) (k : KV) : R := i64K x (pInt2 fLeq x y els h k) fun a => i64K y (pInt2 fLeq x y els h k) fun b => k (.bool (Nat.ble a b)) h
noncomputable def oGtr (x y : Value) (els : R) (h : AHeap) (k : KV) : R := i64K x (pInt2 fGtr x y els h k) fun a => i64K y (pInt2 fGtr x y els h k) fun b => k (.bool (Nat.ble (Nat.succ b) a)) h
noncomputable def oGeq (x y : Value) (els : R) (h : AHeap) (k : KV) : R := i64K x (pInt2 fGeq x y els h k) fun a => i64K y (pInt2 fGeq x y els h k) fun b => k (.bool (Nat.ble b a)) h
noncomputable def oEql (x y : Value) (els : R) (h : AHeap) (k : KV) : R := i64K x (pInt2 fEql x y els h k) fun a => i64K y (pInt2 fEql x y els h k) fun b => k (.bool (Nat.beq a b)) h
noncomputable def oNeq (x y : Value) (els : R) (h : AHeap) (k : KV) : R := i64K x (pInt2 fNeq x y els h k) fun a => i64K y (pInt2 fNeq x y els h k) fun b => k (.bool (Bool.rec (motive := fun _ => Bool) true false (Nat.beq a b))) h
theorem two_eq {f : IntKind → Int → Int → Option Value} {x y : Value} {els : R} {h : AHeap} {k : KV} {q : Nat → Nat → R} (e : ∀ a b : Nat, x = .int .i64 (.ofNat a) → y = .int .i64 (.ofNat b) → q a b = pInt2 f x y els h k) :
    (i64K x (pInt2 f x y els h k) fun a => i64K y (pInt2 f x y els h k) fun b => q a b) = pInt2 f x y els h k := by
  rw [i64K_eq]
  split
  · rename_i a
    rw [i64K_eq]
    split
    · rename_i b; exact e a b rfl rfl
    · rfl
  · rfl
theorem not_ble (a b : Nat) : (!Nat.ble (a + 1) b) = Nat.ble b a := by
  cases h : Nat.ble b a with
  | true =>
    have h1 := Nat.ble_eq.mp h
    have : Nat.ble (a + 1) b = false := by rw [Bool.eq_false_iff]; intro h2; have := Nat.ble_eq.mp h2; omega
    rw [this]; rfl
  | false =>
    have : Nat.ble (a + 1) b = true := by
      apply Nat.ble_eq.mpr
      apply Classical.byContradiction
      intro h2
      rw [Nat.ble_eq.mpr (show b ≤ a by omega)] at h
      cases h
    rw [this]; rfl
theorem oAdd_eq (x y : Value) (els : R) (h : AHeap) (k : KV) : oAdd x y els h k = pInt2 fAdd x y els h k := two_eq fun a b hx hy => by
  subst hx hy
  cases hb : Nat.ble (Nat.succ (Nat.add a b)) 9223372036854775808 with
  | false => rfl
  | true =>
    simp only [litK_eq]
    have h2 : inK' .i64 (Int.add (.ofNat a) (.ofNat b)) = true := hb
    simp only [pInt2, fAdd, h2]
    rfl
theorem oSub_eq (x y : Value) (els : R) (h : AHeap) (k : KV) : oSub x y els h k = pInt2 fSub x y els h k := two_eq fun a b hx hy => by
  subst hx hy
  cases hb : Nat.ble b a with
  | false => rfl
  | true =>
    cases ha : Nat.ble (Nat.succ a) 9223372036854775808 with
    | false => rfl
    | true =>
      simp only [litK_eq]
      have h1 := Nat.ble_eq.mp hb
      have h2 := Nat.ble_eq.mp ha
      have e : Int.add (.ofNat a) (Int.neg (.ofNat b)) = .ofNat (Nat.sub a b) := by
        show (a : Int) + -(b : Int) = ((a - b : Nat) : Int)
        omega
      have h3 : inK' .i64 (Int.add (.ofNat a) (Int.neg (.ofNat b))) = true := by
        rw [e]
        show Nat.ble (Nat.sub a b + 1) 9223372036854775808 = true
        apply Nat.ble_eq.mpr
        show a - b + 1 ≤ _
        omega
      simp only [pInt2, fSub, h3]
      simp only [e]
      rfl
theorem oLss_eq (x y : Value) (els : R) (h : AHeap) (k : KV) : oLss x y els h k = pInt2 fLss x y els h k := two_eq fun a b hx hy => by subst hx hy; rfl
theorem oGtr_eq (x y : Value) (els : R) (h : AHeap) (k : KV) : oGtr x y els h k = pInt2 fGtr x y els h k := two_eq fun a b hx hy => by subst hx hy; rfl
theorem oLeq_eq (x y : Value) (els : R) (h : AHeap) (k : KV) : oLeq x y els h k = pInt2 fLeq x y els h k := two_eq fun a b hx hy => by
  subst hx hy; show k (.bool (Nat.ble a b)) h = k (.bool (!Nat.ble (b + 1) a)) h; rw [not_ble]
theorem oGeq_eq (x y : Value) (els : R) (h : AHeap) (k : KV) : oGeq x y els h k = pInt2 fGeq x y els h k := two_eq fun a b hx hy => by
  subst hx hy; show k (.bool (Nat.ble b a)) h = k (.bool (!Nat.ble (a + 1) b)) h; rw [not_ble]
theorem oEql_eq (x y : Value) (els : R) (h : AHeap) (k : KV) : oEql x y els h k = pInt2 fEql x y els h k := two_eq fun a b hx hy => by subst hx hy; rfl
theorem oNeq_eq (x y : Value) (els : R) (h : AHeap) (k : KV) : oNeq x y els h k = pInt2 fNeq x y els h k := two_eq fun a b hx hy => by
  subst hx hy; show k (.bool (Bool.rec (motive := fun _ => Bool) true false (Nat.beq a b))) h = k (.bool (!Nat.beq a b)) h
  cases Nat.beq a b <;> rfl

/-! Texts, structs, rows. -/
noncomputable def oNot (x : Value) (els : R) (h : AHeap) (k : KV) : R := vBool x (oRes els k) fun b => k (.bool (Bool.rec (motive := fun _ => Bool) true false b)) h
noncomputable def oSEq (x y : Value) (els : R) (h : AHeap) (k : KV) : R := vStr x (oRes els k) fun a => vStr y (oRes els k) fun b => k (.bool (beqB a b)) h
noncomputable def oSNe (x y : Value) (els : R) (h : AHeap) (k : KV) : R := vStr x (oRes els k) fun a => vStr y (oRes els k) fun b => k (.bool (Bool.rec (motive := fun _ => Bool) true false (beqB a b))) h
noncomputable def oSAdd (x y : Value) (els : R) (h : AHeap) (k : KV) : R := vStr x (oRes els k) fun a => vStr y (oRes els k) fun b =>
  Bool.rec (motive := fun _ => R) (oRes els k) (appK a b fun l => k (.string ⟨⟨l⟩⟩) h) (Nat.ble (Nat.add (lenR a) (lenR b)) 1000000000)
noncomputable def oBuild (z : List Value) (pl : List (Nat × Nat)) (vs : List Value) (h : AHeap) (k : KV) : R := fillK pl vs z none fun l => k (.agg ⟨l⟩) h
noncomputable def oBuildS (z : List Value) (pl : List (Nat × Nat)) (e s n : Nat) (vs : List Value) (h : AHeap) (k : KV) : R := fillK pl vs z none fun l =>
  AHeap.rec (motive := fun _ => R) (fun m t => litK m fun m => k (.slice (some ⟨m, 0, none⟩) n n) ⟨Nat.succ m, setR (some ⟨l, e, 0, s⟩) (Nat.succ m) t m⟩) h
noncomputable def appV {β : Type} (l m : List Value) (k : List Value → β) : β := List.rec (motive := fun _ => (List Value → β) → β) (fun k => k m) (fun a _ ih k => ih fun t => k (a :: t)) l k
theorem appV_eq {β : Type} (m : List Value) : ∀ (l : List Value) (k : List Value → β), appV l m k = k (l ++ m)
  | [], k => rfl
  | a :: l, k => by
    show appV l m (fun t => k (a :: t)) = _
    rw [appV_eq m l]
    rfl
noncomputable def growK (h : AHeap) (e kind es need : Nat) (cells : List Value) (k : KV) : R :=
  AHeap.rec (motive := fun _ => R) (fun m t => litK m fun m => k (.slice (some ⟨m, 0, some opened⟩) need need) ⟨Nat.succ m, setR (some ⟨cells, e, kind, es⟩) (Nat.succ m) t m⟩) h
theorem growK_eq (h : AHeap) (e kind es need : Nat) (cells : List Value) (k : KV) : growK h e kind es need cells k = k (.slice (some ⟨h.n, 0, some opened⟩) need need) (anew h e kind es cells).2 := by
  obtain ⟨m, t⟩ := h
  unfold growK
  simp only [litK_eq, setR_eq]
  rfl
noncomputable def firstsK (h : AHeap) (a : Addr) (cnt : Nat) (k : List Value → R) : R :=
  Nat.rec (motive := fun _ => R) (k []) (fun _ _ => Addr.rec (motive := fun _ => R) (fun b o _ => celK h b none fun q => AObj.rec (motive := fun _ => R) (fun c _ _ _ => takeK cnt (dropL o c) none k) q) a) cnt
theorem firstsK_some {h : AHeap} {a : Addr} {size n l c : Nat} {k : List Value → R} {x : Value × AHeap} (e : firstsK h a (Nat.mul n size) k = some x) : ∃ new, firsts h size n (.slice (some a) l c) = some new ∧ new.length = n * size ∧ k new = some x := by
  unfold firsts
  have hm : Nat.mul n size = n * size := rfl
  rw [hm] at e
  generalize n * size = cnt at e ⊢
  cases cnt with
  | zero => exact ⟨[], by simp, rfl, e⟩
  | succ cnt =>
    obtain ⟨b, o, s⟩ := a
    have e : celK h b none (fun q => AObj.rec (motive := fun _ => R) (fun c _ _ _ => takeK (cnt + 1) (dropL o c) none k) q) = some x := e
    rw [celK_eq] at e
    simp only [Nat.add_one_ne_zero, if_false]
    split at e
    · rename_i q hq
      obtain ⟨c', e', kd, es⟩ := q
      simp only [takeK_eq, dropL_eq] at e
      split at e
      · rename_i hl
        refine ⟨_, ?_, ?_, e⟩
        · rw [hq]
          simp only [takeN_take]
          rw [if_pos hl]
        · rw [List.length_take]; omega
      · cases e
    · cases e
noncomputable def newK (yb : Option Addr) (m es : Nat) (h : AHeap) (k : List Value → R) : R := Option.rec (motive := fun _ => R) (Bool.rec (motive := fun _ => R) none (k []) (Nat.beq m 0)) (fun a => firstsK h a (Nat.mul m es) k) yb
theorem newK_some {yb : Option Addr} {m es c : Nat} {h : AHeap} {k : List Value → R} {x : Value × AHeap} (e : newK yb m es h k = some x) : ∃ new, firsts h es m (.slice yb m c) = some new ∧ new.length = m * es ∧ k new = some x := by
  cases yb with
  | none =>
    have e : (Bool.rec (motive := fun _ => R) none (k []) (Nat.beq m 0)) = some x := e
    cases hb : Nat.beq m 0 with
    | false => rw [hb] at e; cases e
    | true =>
      rw [hb] at e
      have := Nat.eq_of_beq_eq_true hb
      subst this
      exact ⟨[], rfl, by simp, e⟩
  | some a => exact firstsK_some e
/-- Room of a run's own behind a row. -/
noncomputable def ownK (h : AHeap) (e es : Nat) (b : Nat) (k : Nat → AHeap → R) : R :=
  celK h b none fun q => AObj.rec (motive := fun _ => R) (fun _ e' kd es' => Bool.rec (motive := fun _ => R) (Bool.rec (motive := fun _ => R) none (Bool.rec (motive := fun _ => R) none (AHeap.rec (motive := fun _ => R) (fun n t => k kd ⟨n, setR none (Nat.succ b) t b⟩) h) (Nat.beq e' e)) (Nat.beq es' es)) none (Nat.beq kd 2)) q
noncomputable def oAppTo (e es : Nat) (base : Option Addr) (n c m : Nat) (new : List Value) (h : AHeap) (k : KV) : R := litK (Nat.add n m) fun nm =>
  Bool.rec (motive := fun _ => R)
    (Option.rec (motive := fun _ => R) (Bool.rec (motive := fun _ => R) none (growK h e 0 es m new k) (Nat.beq n 0))
      (fun a => Option.rec (motive := fun _ => R) (firstsK h a (Nat.mul n es) fun old => appV old new fun all => growK h e 0 es nm all k)
        (fun _ => Bool.rec (motive := fun _ => R) none (ownK h e es a.block fun kd h' => firstsK h a (Nat.mul n es) fun old => appV old new fun all => growK h' e kd es nm all k) (Nat.beq a.off 0)) a.spot) base)
    (Option.rec (motive := fun _ => R) (Bool.rec (motive := fun _ => R) none (k (.slice none nm c) h) (Nat.beq m 0))
      (fun a => putK h a.block (Nat.add a.off (Nat.mul n es)) new fun h' => k (.slice (some a) nm c) h') base)
    (Nat.ble nm c)
noncomputable def oApp (e es by_ : Nat) (x y : Value) (els : R) (h : AHeap) (k : KV) : R :=
  vSlice x (oRes els k) fun base n c => vSlice y (oRes els k) fun yb m _ => newK yb m es h fun new =>
    Bool.rec (motive := fun _ => R) none (oAppTo e es base n c m new h k) (Nat.ble (Nat.mul (Nat.add n m) (Nat.succ by_)) 4294967296)
theorem oAppTo_ok {e : TypeId} {i : TypeInfo} {base : Option Addr} {n c m : Nat} {new : List Value} {h : AHeap} {k : KV} {x : Value × AHeap} (hx : oAppTo e i.size base n c m new h k = some x) : ∃ v h', aappendTo e i base n c m new h = some (v, h') ∧ k v h' = some x := by
  unfold oAppTo at hx
  rw [litK_eq] at hx
  have hnm : Nat.add n m = n + m := rfl
  rw [hnm] at hx
  unfold aappendTo
  by_cases hc : n + m ≤ c
  · rw [if_pos hc]
    rw [show Nat.ble (n + m) c = true from Nat.ble_eq.mpr hc] at hx
    cases base with
    | none =>
      have hx : (Bool.rec (motive := fun _ => R) none (k (.slice none (n + m) c) h) (Nat.beq m 0)) = some x := hx
      cases hb : Nat.beq m 0 with
      | false => rw [hb] at hx; cases hx
      | true =>
        rw [hb] at hx
        exact ⟨_, h, by simp only; rw [if_pos (Nat.eq_of_beq_eq_true hb)], hx⟩
    | some a =>
      have hx : putK h a.block (Nat.add a.off (Nat.mul n i.size)) new (fun h' => k (.slice (some a) (n + m) c) h') = some x := hx
      rw [putK_eq] at hx
      split at hx
      · rename_i h' hst
        have hst' : astore h a.block (a.off + n * i.size) new = some h' := hst
        exact ⟨_, h', by simp only [hst', Option.bind_some], hx⟩
      · cases hx
  · rw [if_neg hc]
    rw [show Nat.ble (n + m) c = false from by rw [Bool.eq_false_iff]; intro h2; exact hc (Nat.ble_eq.mp h2)] at hx
    cases base with
    | none =>
      have hx : (Bool.rec (motive := fun _ => R) none (growK h e 0 i.size m new k) (Nat.beq n 0)) = some x := hx
      cases hb : Nat.beq n 0 with
      | false => rw [hb] at hx; cases hx
      | true =>
        rw [hb] at hx
        have hx : growK h e 0 i.size m new k = some x := hx
        rw [growK_eq] at hx
        exact ⟨_, _, by simp only [agrow]; rw [if_pos (Nat.eq_of_beq_eq_true hb)], hx⟩
    | some a =>
      have hx : (Option.rec (motive := fun _ => R) (firstsK h a (Nat.mul n i.size) fun old => appV old new fun all => growK h e 0 i.size (n + m) all k)
        (fun _ => Bool.rec (motive := fun _ => R) none (ownK h e i.size a.block fun kd h' => firstsK h a (Nat.mul n i.size) fun old => appV old new fun all => growK h' e kd i.size (n + m) all k) (Nat.beq a.off 0)) a.spot) = some x := hx
      simp only
      cases hsp : a.spot with
      | none =>
        rw [hsp] at hx
        have hx : firstsK h a (Nat.mul n i.size) (fun old => appV old new fun all => growK h e 0 i.size (n + m) all k) = some x := hx
        obtain ⟨old, g1, g2, g3⟩ := firstsK_some (l := n) (c := c) hx
        rw [appV_eq, growK_eq] at g3
        refine ⟨_, _, ?_, g3⟩
        simp only [Option.isNone_none, if_true, g1, Option.bind_some, agrow]
        rw [if_neg (by simpa using g2)]
      | some sp =>
        rw [hsp] at hx
        have hx : (Bool.rec (motive := fun _ => R) none (ownK h e i.size a.block fun kd h' => firstsK h a (Nat.mul n i.size) fun old => appV old new fun all => growK h' e kd i.size (n + m) all k) (Nat.beq a.off 0)) = some x := hx
        cases hb : Nat.beq a.off 0 with
        | false => rw [hb] at hx; cases hx
        | true =>
          rw [hb] at hx
          have hoff := Nat.eq_of_beq_eq_true hb
          have hx : ownK h e i.size a.block (fun kd h' => firstsK h a (Nat.mul n i.size) fun old => appV old new fun all => growK h' e kd i.size (n + m) all k) = some x := hx
          unfold ownK at hx
          rw [celK_eq] at hx
          split at hx
          · rename_i q hq
            obtain ⟨c', e', kd, es'⟩ := q
            simp only at hx
            cases h1 : Nat.beq kd 2 with
            | true => rw [h1] at hx; cases hx
            | false =>
              rw [h1] at hx
              cases h2 : Nat.beq es' i.size with
              | false => rw [h2] at hx; cases hx
              | true =>
                rw [h2] at hx
                cases h3 : Nat.beq e' e with
                | false => rw [h3] at hx; cases hx
                | true =>
                  rw [h3] at hx
                  obtain ⟨hn, ht⟩ := h
                  have hx : firstsK ⟨hn, ht⟩ a (Nat.mul n i.size) (fun old => appV old new fun all => growK ⟨hn, setR none (Nat.succ a.block) ht a.block⟩ e kd i.size (n + m) all k) = some x := hx
                  obtain ⟨old, g1, g2, g3⟩ := firstsK_some (l := n) (c := c) hx
                  rw [appV_eq, growK_eq, setR_eq] at g3
                  have k1 : ¬ kd = 2 := fun e => by subst e; cases h1
                  have k2 := Nat.eq_of_beq_eq_true h2
                  have k3 := Nat.eq_of_beq_eq_true h3
                  refine ⟨_, _, ?_, g3⟩
                  simp only [Option.isNone_some, Bool.false_eq_true, if_false, hoff, if_true, hq]
                  rw [if_neg (by simp [k1, k2, k3])]
                  simp only [g1, Option.bind_some, agrow]
                  rw [if_neg (by simpa using g2)]
                  rfl
          · cases hx
def placesOf (place : Nat → Option (Nat × Nat)) : List Nat → Option (List (Nat × Nat))
  | [] => some []
  | i :: r => match place i, placesOf place r with
    | some p, some l => some (p :: l)
    | _, _ => none
theorem placesOf_ok (place : Nat → Option (Nat × Nat)) : ∀ (is : List Nat) (pl : List (Nat × Nat)), placesOf place is = some pl → is.map place = pl.map some
  | [], pl, h => by simp only [placesOf, Option.some.injEq] at h; subst h; rfl
  | i :: r, pl, h => by
    simp only [placesOf] at h
    split at h
    · rename_i p l h1 h2
      simp only [Option.some.injEq] at h
      subst h
      simp only [List.map_cons, h1, placesOf_ok place r l h2]
    · cases h
/-- A struct's zero cells, and where its parts stand. -/
def planOf (P : Program) (t : TypeId) (is : List Nat) : Option (List Value × List (Nat × Nat)) :=
  match P.underlying t, zeroP P t with
  | some (.struct fields), some z => match pureRun P (fields.mapM fun f => do pure (f.offset, ← sizeOf f.type)) with
    | some places => match placesOf (places[·]?) is with
      | some pl => some (z.cells.toList, pl)
      | none => none
    | none => none
  | _, _ => none
def planSl (P : Program) (t : TypeId) (n : Nat) (is : List Nat) : Option (List Value × List (Nat × Nat) × TypeId × Nat) :=
  match P.underlying t with
  | some (.slice e) => match sizeP P e, zeroP P e with
    | some s, some z => if n * s > 2 ^ 24 ∨ z.cells.size = 0 then none else match placesOf (fun k => some (k * s, s)) is with
      | some pl => some (((Array.range (n * s)).map (z.cells[· % z.cells.size]!)).toList, pl, e, s)
      | none => none
    | _, _ => none
  | _ => none
def apPlan (P : Program) (types : Array TypeId) : Option (TypeId × TypeInfo) :=
  match types[0]?, types[1]? with
  | some t0, some t1 => match P.underlying t0, P.underlying t1 with
    | some (.slice e), some u1 => match apInfo P u1 e with
      | some i => some (e, i)
      | none => none
    | _, _ => none
  | _, _ => none
noncomputable def strOp (P : Program) (t : TypeId) (op : BinOp) : Option (Value → Value → R → AHeap → KV → R) :=
  match P.underlying t with
  | some .string => match op with
    | .eql => some oSEq
    | .neq => some oSNe
    | .add => some oSAdd
    | _ => none
  | _ => none

/-! What a region that draws reads, whatever its order. -/
def sensitive (o : Oper) : Bool :=
  match o.op with
  | .load .. | .convert .. | .lookup .. | .binOp .. => true
  | .call { callee := .builtin .len, .. } => true
  | _ => false
def moversOf (ops : Array Oper) : List Nat := (ops.toList.zipIdx.filter fun (o, i) => mover ops i o).map (·.2)
def nextAt (ops : Array Oper) (i q : Nat) : Bool := Nat.ble i q && ops.toList.zipIdx.all fun (o, j) => !(Nat.ble i j && Nat.blt j q && mover ops j o)
def staticReads (ops : Array Oper) : Bool :=
  ops.toList.zipIdx.all fun (o, i) => !sensitive o || (o.dst.isSome && (moversOf ops ++ [ops.size]).all fun q => nextAt ops i q || outOf ops i o q)
/-- At which stages what an operation reads must be looked at. -/
def needQ (ops : Array Oper) (i : Nat) (o : Oper) : List Nat := if sensitive o then (moversOf ops ++ [ops.size]).filter fun q => !outOf ops i o q else []
def needsFrom (ops : Array Oper) : Nat → List Oper → List (List Nat)
  | _, [] => []
  | k, o :: l => needQ ops k o :: needsFrom ops (k + 1) l
def needs (ops : Array Oper) : List (List Nat) := needsFrom ops 0 ops.toList
def stageOk (P : Program) (o : Oper) (T : Tr Value) (v : Value) (n : Nat) (sq : Option St) : Bool :=
  match sq with
  | some s => readOk P o T v n s.heap
  | none => false
def readsL (P : Program) (ops : Array Oper) (ss : List St) : List (List Nat) → List St → List Oper → Bool
  | [] :: nl, _ :: r, _ :: l => readsL P ops ss nl r l
  | (q :: qs) :: nl, s :: s' :: r, o :: l => ((!wantedX ops o s.tmps) || (q :: qs).all fun q => stageOk P o s.tmps (valAt o s') s.heap.n ss[q]?) && readsL P ops ss nl (s' :: r) l
  | _, _, [] => true
  | _, _, _ => false
def xdrawL (P : Program) (c : XCall) (ops : Array Oper) (nl : List (List Nat)) (st : St) : Option St :=
  (xtrace P c ops ops.toList st).bind fun ss => bif readsL P ops ss nl ss ops.toList then ss.getLast? else none
def regionOf : Code → Nat → Option (Array Oper)
  | .region i ops _, id => bif Nat.beq i id then some ops else none
  | .seq a b, id | .cond _ a b, id => match regionOf a id with
    | some r => some r
    | none => regionOf b id
  | .block _ b, id | .loop b, id | .scope b, id => regionOf b id
  | _, _ => none
def opsIn (fn : Func) (id : Nat) : Array Oper :=
  match fn.body with
  | some b => (regionOf b id).getD #[]
  | none => #[]
def nthO : List Oper → Nat → Oper
  | [], _ => default
  | a :: _, 0 => a
  | _ :: l, i + 1 => nthO l i
def opIn (fn : Func) (id i : Nat) : Oper :=
  match fn.body with
  | some b => match regionOf b id with
    | some ops => nthO ops.toList i
    | none => default
  | none => default
section
variable (P : Program)
/-- An operation by the executor's own words: its slots I hold vs. -/
def oGen (c : XCall) (o : Oper) (I : List Nat) (vs : List Value) (h : AHeap) : R := xop P c o (setAll I vs .nil) h
def tmpsOf (l : List Operand) : List Nat := (l.filterMap fun | .tmp t => some t | _ => none).eraseDups
noncomputable def genR (c : XCall) (o : Oper) (T : Tr Value) (h : AHeap) : R := oGen P c o (tmpsOf o.op.operands.toList) ((tmpsOf o.op.operands.toList).map (getT T)) h
noncomputable def gen (c : XCall) (o : Oper) (T : Tr Value) (h : AHeap) (k : KV) : R := oRes (genR P c o T h) k
def fOp (op : BinOp) : Option (IntKind → Int → Int → Option Value) :=
  match op with
  | .add => some fAdd
  | .sub => some fSub
  | .lss => some fLss
  | .leq => some fLeq
  | .gtr => some fGtr
  | .geq => some fGeq
  | .eql => some fEql
  | .neq => some fNeq
  | _ => none
noncomputable def intOp (op : BinOp) : Option (Value → Value → R → AHeap → KV → R) :=
  match op with
  | .add => some oAdd
  | .sub => some oSub
  | .lss => some oLss
  | .leq => some oLeq
  | .gtr => some oGtr
  | .geq => some oGeq
  | .eql => some oEql
  | .neq => some oNeq
  | _ => none
theorem intOp_f {op : BinOp} {g : Value → Value → R → AHeap → KV → R} (e : intOp op = some g) : ∃ f, fOp op = some f ∧ ∀ x y els h k, g x y els h k = pInt2 f x y els h k := by
  cases op <;> simp only [intOp, Option.some.injEq] at e <;> first | (cases e; done) | skip
  all_goals subst e
  · exact ⟨_, rfl, oAdd_eq⟩
  · exact ⟨_, rfl, oSub_eq⟩
  · exact ⟨_, rfl, oEql_eq⟩
  · exact ⟨_, rfl, oNeq_eq⟩
  · exact ⟨_, rfl, oLss_eq⟩
  · exact ⟨_, rfl, oLeq_eq⟩
  · exact ⟨_, rfl, oGtr_eq⟩
  · exact ⟨_, rfl, oGeq_eq⟩
/-- One operation. -/
noncomputable def den1 (c : XCall) (o : Oper) (T : Tr Value) (h : AHeap) (k : KV) : R :=
  match o.op with
  | .move x | .assign x => match ev T x with
    | some v => k v h
    | none => none
  | .pick q x y => match ev T q, ev T x, ev T y with
    | some q, some x, some y => oPick q x y h k
    | _, _, _ => none
  | .extract x ix => match ev T x with
    | some v => oExt v ix h k
    | none => none
  | .nilCheck x => match ev T x with
    | some v => oNil v h k
    | none => none
  | .alloc e => match zeroP P e with
    | some z => oNew z.cells.toList e z.cells.toList.length h k
    | none => none
  | .box e x => match ev T x with
    | some v => oBox v e h k
    | none => none
  | .load t x => match ev T x, isAggP P t with
    | some v, some false => oLoad1 v h k
    | some v, some true => match sizeP P t with
      | some s => oLoadN s v h k
      | none => none
    | _, _ => none
  | .store t x y => match ev T x, ev T y, sizeP P t with
    | some x, some y, some s => oStore s x y h k
    | _, _, _ => none
  | .fieldAddr t x f => match P.underlying t, ev T x with
    | some (.struct fs), some v => match fs[f]? with
      | some fd => match sizeP P fd.type with
        | some s => ifH (s = 0) none (oField fd.offset v h k)
        | none => none
      | none => none
    | _, _ => none
  | .field t x f => match P.underlying t, ev T x with
    | some (.struct fs), some v => match fs[f]? with
      | some fd => match isAggP P fd.type with
        | some true => match sizeP P fd.type with
          | some s => oPartN fd.offset s v h k
          | none => none
        | some false => oPart1 fd.offset v h k
        | none => none
      | none => none
    | _, _ => none
  | .indexAddr t x i => match P.underlying t with
    | some (.slice e) => match sizeP P e, ev T x, ev T i with
      | some s, some x, some i => oIdx s x i h k
      | _, _, _ => none
    | _ => gen P c o T h k
  | .binOp op t x y _ => match strOp P t op, ev T x, ev T y with
    | some f, some x, some y => f x y (genR P c o T h) h k
    | _, _, _ => match intOp op, ev T x, ev T y with
      | some f, some x, some y => f x y (genR P c o T h) h k
      | _, _, _ => gen P c o T h k
  | .unOp op _ x => match op, ev T x with
    | .not, some x => oNot x (genR P c o T h) h k
    | _, _ => gen P c o T h k
  | .build t ps => match evParts T ps.toList, planOf P t (ps.toList.map (·.1)) with
    | some l, some (z, pl) => oBuild z pl (l.map (·.2)) h k
    | _, _ => gen P c o T h k
  | .buildSlice t n ps => match evParts T ps.toList, planSl P t n (ps.toList.map (·.1)) with
    | some l, some (z, pl, e, s) => oBuildS z pl e s n (l.map (·.2)) h k
    | _, _ => gen P c o T h k
  | .call q => match q.callee with
    | .value (.func id) => ifH (outer P id = true) (gen P c o T h k) (match evs T q.args.toList with
      | some args => oCall c id args h k
      | none => none)
    | .builtin .append => match apPlan P q.argTypes, evs T q.args.toList with
      | some (e, i), some [x, y] => oApp e i.size i.bytes x y (genR P c o T h) h k
      | _, _ => gen P c o T h k
    | .builtin .len => match q.argTypes[0]? with
      | some t => match P.underlying t, evs T q.args.toList with
        | some (.slice _), some [x] => oLen x (genR P c o T h) h k
        | _, _ => gen P c o T h k
      | none => none
    | _ => gen P c o T h k
  | _ => gen P c o T h k
def denPut (nt : Nat) (dst : Option Tmp) (v : Value) (T : Tr Value) (k : Tr Value → R) : R :=
  match dst with
  | none => k T
  | some d => ifH (d < nt) (k (T.set d (some v))) none
/-- What is read is as it is where it is read: looked at anew. -/
noncomputable def oChk (b : Bool) (k : R) : R := Bool.rec (motive := fun _ => R) none k b
def chkAt (o : Oper) (I : List Nat) (vs : List Value) (v : Value) (h : AHeap) : Bool := readOk P o (setAll I vs .nil) v h.n h
noncomputable def denChk (dr : Bool) (o : Oper) (T : Tr Value) (h : AHeap) (v : Value) (k : R) : R :=
  ifH ((dr && sensitive o) = true) (oChk (chkAt P o (tmpsOf o.op.operands.toList) ((tmpsOf o.op.operands.toList).map (getT T)) v h) k) k
noncomputable def denOps (c : XCall) (nt : Nat) (dr : Bool) (ops : Array Oper) : List Oper → Tr Value → AHeap → KT → R
  | [], T, h, k => k T h
  | o :: rest, T, h, k => match o.guard with
    | none => den1 P c o T h fun v h' => denChk P dr o T h v (denPut nt o.dst v T fun T => denOps c nt dr ops rest T h' k)
    | some (j, want) => match (ops[j]?).bind (·.dst) with
      | some d => oGuard (getT T d) want h (fun k => den1 P c o T h fun v h' => denChk P dr o T h v (k v h')) fun v h => denPut nt o.dst v T fun T => denOps c nt dr ops rest T h k
      | none => none
end
/-! A region that draws, as plain terms: what is read is looked at again at each stage that could turn it. -/
structure Rd where
  i : Nat
  o : Oper
  T : Tr Value
  v : Value
  n : Nat
  g : Option (Value × Bool)
def chkAt2 (P : Program) (o : Oper) (I : List Nat) (vs : List Value) (v : Value) (n : Nat) (H : AHeap) : Bool := readOk P o (setAll I vs .nil) v n H
noncomputable def oChkG (g : Value) (want : Bool) (b : Bool) (k : R) : R := vBool g k fun t => Bool.rec (motive := fun _ => R) (Bool.rec (motive := fun _ => R) (oChk b k) k want) (Bool.rec (motive := fun _ => R) k (oChk b k) want) t
noncomputable def chkNow (P : Program) (ops : Array Oper) (H : AHeap) (q : Nat) : List Rd → R → R
  | [], k => k
  | r :: rs, k => ifH ((needQ ops r.i r.o).contains q = true) (match r.g with
      | none => oChk (chkAt2 P r.o (tmpsOf r.o.op.operands.toList) ((tmpsOf r.o.op.operands.toList).map (getT r.T)) r.v r.n H) (chkNow P ops H q rs k)
      | some (g, want) => oChkG g want (chkAt2 P r.o (tmpsOf r.o.op.operands.toList) ((tmpsOf r.o.op.operands.toList).map (getT r.T)) r.v r.n H) (chkNow P ops H q rs k)) (chkNow P ops H q rs k)
noncomputable def chkOwn (P : Program) (ops : Array Oper) (o : Oper) (i : Nat) (T : Tr Value) (v : Value) (n : Nat) : List (Nat × AHeap) → R → R
  | [], k => k
  | (q, H) :: hs, k => ifH ((needQ ops i o).contains q = true) (oChk (chkAt2 P o (tmpsOf o.op.operands.toList) ((tmpsOf o.op.operands.toList).map (getT T)) v n H) (chkOwn P ops o i T v n hs k)) (chkOwn P ops o i T v n hs k)
noncomputable def atMover (b : Bool) (f : R → R) (k : R) : R := ifH (b = true) (f k) k
def hsAt (b : Bool) (i : Nat) (h : AHeap) (hs : List (Nat × AHeap)) : List (Nat × AHeap) := ifH (b = true) ((i, h) :: hs) hs
noncomputable def denOpsC (P : Program) (c : XCall) (nt : Nat) (ops : Array Oper) : List Oper → Nat → Tr Value → AHeap → List (Nat × AHeap) → List Rd → KT → R
  | [], i, T, h, _, rs, k => chkNow P ops h i rs (k T h)
  | o :: rest, i, T, h, hs, rs, k => atMover (mover ops i o) (chkNow P ops h i rs) (match o.guard with
    | none => den1 P c o T h fun v h' => chkOwn P ops o i T v h.n (hsAt (mover ops i o) i h hs) (denPut nt o.dst v T fun T' => denOpsC P c nt ops rest (i + 1) T' h' (hsAt (mover ops i o) i h hs) (⟨i, o, T, v, h.n, none⟩ :: rs) k)
    | some (j, want) => match (ops[j]?).bind (·.dst) with
      | some d => oGuard (getT T d) want h (fun k => den1 P c o T h fun v h' => chkOwn P ops o i T v h.n (hsAt (mover ops i o) i h hs) (k v h')) fun v h' => denPut nt o.dst v T fun T' => denOpsC P c nt ops rest (i + 1) T' h' (hsAt (mover ops i o) i h hs) (⟨i, o, T, v, h.n, some (getT T d, want)⟩ :: rs) k
      | none => none)
def dstOk (ops : Array Oper) : Bool := ops.toList.all fun o => !sensitive o || o.dst.isSome
/-! Code. -/
/-- A region that must be looked at as it runs. -/
noncomputable def oDraw (r : Option St) (k : St → R) : R := Option.rec (motive := fun _ => R) none (fun st => k st) r
def assigned : Code → List Nat
  | .region _ ops _ => ops.toList.filterMap (·.dst)
  | .seq a b => assigned a ++ assigned b
  | .cond _ a b => assigned a ++ assigned b
  | .block _ b | .loop b | .scope b => assigned b
  | _ => []
def asgn (c : Code) : List Nat := (assigned c).eraseDups
def labelsOf : Code → List Nat
  | .label l => [l]
  | .seq a b => labelsOf a ++ labelsOf b
  | _ => []
abbrev KE := XExit → Tr Value → AHeap → R
section
variable (P : Program)
noncomputable def den (c : XCall) (nt F : Nat) : Nat → Code → Tr Value → AHeap → KE → R
  | 0, _, _, _, _ => none
  | D + 1, code, T, h, k => match code with
    | .skip | .label _ => k .normal T h
    | .ret => k .ret T h
    | .exit id => k (.exit id) T h
    | .goto l => k (.goto l) T h
    | .region _ ops draw => ifH ((draw && !(drawOk ops && staticReads ops)) = true) (ifH ((drawOk ops && dstOk ops) = true) (denOpsC P c nt ops ops.toList 0 T h [] [] fun T h => k .normal T h) none) (denOps P c nt draw ops ops.toList T h fun T h => k .normal T h)
    | .seq a b => den c nt F D a T h fun e T h => match e with
      | .normal => den c nt F D b T h k
      | e => k e T h
    | .cond x a b => match ev T x with
      | some v => withJ (lamN (asgn (.cond x a b)).length fun vs h => k .normal (setAll (asgn (.cond x a b)) vs T) h) fun j =>
          oIf v
            (den c nt F D a T h fun e T' h => match e with
              | .normal => appN (asgn (.cond x a b)).length j ((asgn (.cond x a b)).map (getT T')) h
              | e => k e T' h)
            (den c nt F D b T h fun e T' h => match e with
              | .normal => appN (asgn (.cond x a b)).length j ((asgn (.cond x a b)).map (getT T')) h
              | e => k e T' h)
      | none => none
    | .block id b => withJ (lamN (asgn b).length fun vs h => k .normal (setAll (asgn b) vs T) h) fun j =>
        den c nt F D b T h fun e T' h => match e with
          | .normal => appN (asgn b).length j ((asgn b).map (getT T')) h
          | .exit id' => ifH (id' = id) (appN (asgn b).length j ((asgn b).map (getT T')) h) (k (.exit id') T' h)
          | e => k e T' h
    | .loop b => appN (asgn b).length (loopN F (asgn b).length fun ih => lamN (asgn b).length fun vs h =>
        den c nt F D b (setAll (asgn b) vs T) h fun e T' h => match e with
          | .normal => appN (asgn b).length ih ((asgn b).map (getT T')) h
          | e => k e T' h) ((asgn b).map (getT T)) h
    | .scope b => withJ (scopeN F (asgn b).length fun ih l => labN (asgn b).length l ((labelsOf b).map fun l' => (l', lamN (asgn b).length fun vs h => match findLabel b l' with
          | some rest => den c nt F D rest (setAll (asgn b) vs T) h fun e T' h => match e with
            | .goto l => ifH ((labelsOf b).contains l = true) (appN (asgn b).length (ih l) ((asgn b).map (getT T')) h) none
            | e => k e T' h
          | none => none))) fun S =>
        den c nt F D b T h fun e T' h => match e with
          | .goto l => ifH ((labelsOf b).contains l = true) (appN (asgn b).length (S l) ((asgn b).map (getT T')) h) none
          | e => k e T' h
    | _ => none
noncomputable def denRes (T : Tr Value) (h : AHeap) : List ResultVar → (List Value → R) → R
  | [], k => k []
  | .tmp t :: r, k => denRes T h r fun l => k (getT T t :: l)
  | .cell a t :: r, k => match isAggP P t with
    | some false => oLoad1 (getT T a) h fun v _ => denRes T h r fun l => k (v :: l)
    | some true => match sizeP P t with
      | some s => oLoadN s (getT T a) h fun v _ => denRes T h r fun l => k (v :: l)
      | none => none
    | none => none
def pEnd : List Value → AHeap → R
  | [v], h => some (v, h)
  | l, h => if l.all noTup then some (.tuple l.toArray, h) else none
noncomputable def ntK (l : List Value) (r : R) : R := List.rec (motive := fun _ => R) r (fun v _ ih => vTup v ih fun _ => none) l
theorem ntK_eq (r : R) : ∀ l : List Value, ntK l r = if l.all noTup then r else none
  | [] => rfl
  | v :: l => by
    have := ntK_eq r l
    show vTup v (ntK l r) (fun _ => none) = _
    rw [this, vTup_eq]
    cases v <;> simp [noTup]
noncomputable def endV (l : List Value) (h : AHeap) : R :=
  List.rec (motive := fun _ => R) (some (.tuple ⟨[]⟩, h)) (fun v r _ => List.rec (motive := fun _ => R) (some (v, h)) (fun _ _ _ => ntK l (some (.tuple ⟨l⟩, h))) r) l
theorem endV_eq (l : List Value) (h : AHeap) : endV l h = pEnd l h := by
  cases l with
  | nil => rfl
  | cons v r =>
    cases r with
    | nil => rfl
    | cons u r =>
      show ntK (v :: u :: r) _ = _
      rw [ntK_eq]
      rfl
/-- A function, its n arguments one by one. -/
noncomputable def denF (fn : Func) (n F D : Nat) (c : XCall) : NF n :=
  lamN n fun args h => match fn.body with
    | some body => den P c (n + (fn.ntmps - n)) F D body (argsTr args 0 .nil) h fun e T h => match e with
      | .normal | .ret => denRes P T h fn.results.toList fun l => endV l h
      | _ => none
    | none => none
end
end Go.Proofs.YtolignkahfekbaaGreatDoor
