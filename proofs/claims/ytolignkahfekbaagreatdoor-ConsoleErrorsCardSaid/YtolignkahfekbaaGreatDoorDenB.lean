/- Small functions by recursors alone: quick for the kernel. Each is what the executor's own one is. -/
import Derived.Test.YtolignkahfekbaaGreatDoorRun
import Derived.Laws.Strings
namespace Go.Proofs.YtolignkahfekbaaGreatDoor
open Go
section
variable {β : Type}
/-! A value, by what it is. -/
noncomputable def vPtr (x : Value) (n : β) (k : Option Addr → β) : β :=
  Value.rec (motive_1 := fun _ => β) (motive_2 := fun _ => Unit) (motive_3 := fun _ => Unit)
    (fun _ => n) (fun _ _ => n) (fun _ _ => n) (fun _ _ _ => n) (fun _ => n) k (fun _ _ _ => n) (fun _ => n) (fun _ => n) (fun _ _ _ _ _ => n) n (fun _ _ _ => n) n (fun _ _ => n) (fun _ _ => n) (fun _ _ => ()) () (fun _ _ _ _ => ()) x
theorem vPtr_eq (x : Value) (n : β) (k : Option Addr → β) : vPtr x n k = match x with
    | .pointer a => k a
    | _ => n := by cases x <;> rfl
noncomputable def vBool (x : Value) (n : β) (k : Bool → β) : β :=
  Value.rec (motive_1 := fun _ => β) (motive_2 := fun _ => Unit) (motive_3 := fun _ => Unit)
    k (fun _ _ => n) (fun _ _ => n) (fun _ _ _ => n) (fun _ => n) (fun _ => n) (fun _ _ _ => n) (fun _ => n) (fun _ => n) (fun _ _ _ _ _ => n) n (fun _ _ _ => n) n (fun _ _ => n) (fun _ _ => n) (fun _ _ => ()) () (fun _ _ _ _ => ()) x
theorem vBool_eq (x : Value) (n : β) (k : Bool → β) : vBool x n k = match x with
    | .bool a => k a
    | _ => n := by cases x <;> rfl
noncomputable def vSlice (x : Value) (n : β) (k : Option Addr → Nat → Nat → β) : β :=
  Value.rec (motive_1 := fun _ => β) (motive_2 := fun _ => Unit) (motive_3 := fun _ => Unit)
    (fun _ => n) (fun _ _ => n) (fun _ _ => n) (fun _ _ _ => n) (fun _ => n) (fun _ => n) k (fun _ => n) (fun _ => n) (fun _ _ _ _ _ => n) n (fun _ _ _ => n) n (fun _ _ => n) (fun _ _ => n) (fun _ _ => ()) () (fun _ _ _ _ => ()) x
theorem vSlice_eq (x : Value) (n : β) (k : Option Addr → Nat → Nat → β) : vSlice x n k = match x with
    | .slice a l c => k a l c
    | _ => n := by cases x <;> rfl
noncomputable def vInt (x : Value) (n : β) (k : IntKind → Int → β) : β :=
  Value.rec (motive_1 := fun _ => β) (motive_2 := fun _ => Unit) (motive_3 := fun _ => Unit)
    (fun _ => n) k (fun _ _ => n) (fun _ _ _ => n) (fun _ => n) (fun _ => n) (fun _ _ _ => n) (fun _ => n) (fun _ => n) (fun _ _ _ _ _ => n) n (fun _ _ _ => n) n (fun _ _ => n) (fun _ _ => n) (fun _ _ => ()) () (fun _ _ _ _ => ()) x
theorem vInt_eq (x : Value) (n : β) (k : IntKind → Int → β) : vInt x n k = match x with
    | .int p a => k p a
    | _ => n := by cases x <;> rfl
noncomputable def vAgg (x : Value) (n : β) (k : Array Value → β) : β :=
  Value.rec (motive_1 := fun _ => β) (motive_2 := fun _ => Unit) (motive_3 := fun _ => Unit)
    (fun _ => n) (fun _ _ => n) (fun _ _ => n) (fun _ _ _ => n) (fun _ => n) (fun _ => n) (fun _ _ _ => n) (fun _ => n) (fun _ => n) (fun _ _ _ _ _ => n) n (fun _ _ _ => n) n (fun a _ => k a) (fun _ _ => n) (fun _ _ => ()) () (fun _ _ _ _ => ()) x
theorem vAgg_eq (x : Value) (n : β) (k : Array Value → β) : vAgg x n k = match x with
    | .agg a => k a
    | _ => n := by cases x <;> rfl
noncomputable def vTup (x : Value) (n : β) (k : Array Value → β) : β :=
  Value.rec (motive_1 := fun _ => β) (motive_2 := fun _ => Unit) (motive_3 := fun _ => Unit)
    (fun _ => n) (fun _ _ => n) (fun _ _ => n) (fun _ _ _ => n) (fun _ => n) (fun _ => n) (fun _ _ _ => n) (fun _ => n) (fun _ => n) (fun _ _ _ _ _ => n) n (fun _ _ _ => n) n (fun _ _ => n) (fun a _ => k a) (fun _ _ => ()) () (fun _ _ _ _ => ()) x
theorem vTup_eq (x : Value) (n : β) (k : Array Value → β) : vTup x n k = match x with
    | .tuple a => k a
    | _ => n := by cases x <;> rfl
/-- The cells of a value: none for a tuple; one; or a row's. -/
noncomputable def vCells (x : Value) (n : β) (one : β) (k : Array Value → β) : β :=
  Value.rec (motive_1 := fun _ => β) (motive_2 := fun _ => Unit) (motive_3 := fun _ => Unit)
    (fun _ => one) (fun _ _ => one) (fun _ _ => one) (fun _ _ _ => one) (fun _ => one) (fun _ => one) (fun _ _ _ => one) (fun _ => one) (fun _ => one) (fun _ _ _ _ _ => one) one (fun _ _ _ => one) one (fun a _ => k a) (fun _ _ => n) (fun _ _ => ()) () (fun _ _ _ _ => ()) x
theorem vCells_eq (x : Value) (n : β) (one : β) (k : Array Value → β) : vCells x n one k = match x with
    | .tuple _ => n
    | .agg a => k a
    | _ => one := by cases x <;> rfl
noncomputable def bIf (b : Bool) (t f : β) : β := Bool.rec (motive := fun _ => β) f t b
theorem bIf_eq (b : Bool) (t f : β) : bIf b t f = bif b then t else f := by cases b <;> rfl
/-- A cell of a row. -/
noncomputable def nthK (l : List Value) (i : Nat) (n : β) (k : Value → β) : β :=
  List.rec (motive := fun _ => Nat → β) (fun _ => n) (fun a _ ih i => Nat.rec (motive := fun _ => β) (k a) (fun j _ => ih j) i) l i
theorem nthK_eq (n : β) (k : Value → β) : ∀ (l : List Value) (i : Nat), nthK l i n k = match l[i]? with
    | some v => k v
    | none => n
  | [], _ => by simp [nthK]
  | a :: l, 0 => rfl
  | a :: l, i + 1 => by
    have := nthK_eq n k l i
    simp only [List.getElem?_cons_succ]
    exact this
noncomputable def dropL (i : Nat) (l : List Value) : List Value :=
  Nat.rec (motive := fun _ => List Value → List Value) (fun l => l) (fun _ ih l => List.rec (motive := fun _ => List Value) [] (fun _ r _ => ih r) l) i l
theorem dropL_eq : ∀ (i : Nat) (l : List Value), dropL i l = l.drop i
  | 0, _ => rfl
  | _ + 1, [] => rfl
  | i + 1, _ :: l => dropL_eq i l
/-- The first cells, all of them. -/
noncomputable def takeK (n : Nat) (l : List Value) (no : β) (k : List Value → β) : β :=
  Nat.rec (motive := fun _ => List Value → (List Value → β) → β) (fun _ k => k []) (fun _ ih l k => List.rec (motive := fun _ => β) no (fun a r _ => ih r (fun t => k (a :: t))) l) n l k
theorem takeK_eq (no : β) : ∀ (n : Nat) (l : List Value) (k : List Value → β), takeK n l no k = if n ≤ l.length then k (l.take n) else no
  | 0, l, k => by show k [] = _; simp
  | n + 1, [], k => by simp [takeK]
  | n + 1, a :: l, k => by
    have := takeK_eq no n l (fun t => k (a :: t))
    show takeK n l no (fun t => k (a :: t)) = _
    rw [this]
    simp only [List.length_cons, Nat.add_le_add_iff_right, List.take_succ_cons]
noncomputable def isLen (n : Nat) (l : List Value) : Bool :=
  Nat.rec (motive := fun _ => List Value → Bool) (fun l => List.rec (motive := fun _ => Bool) true (fun _ _ _ => false) l) (fun _ ih l => List.rec (motive := fun _ => Bool) false (fun _ r _ => ih r) l) n l
theorem isLen_eq : ∀ (n : Nat) (l : List Value), isLen n l = Nat.beq n l.length
  | 0, [] => rfl
  | 0, _ :: _ => rfl
  | n + 1, [] => rfl
  | n + 1, _ :: l => by
    show isLen n l = _
    rw [isLen_eq n l]
    rfl
/-- The cells vs in the place of the first ones. -/
noncomputable def overK (vs l : List Value) (no : β) (k : List Value → β) : β :=
  List.rec (motive := fun _ => List Value → (List Value → β) → β) (fun l k => k l) (fun v _ ih l k => List.rec (motive := fun _ => β) no (fun _ r _ => ih r (fun t => k (v :: t))) l) vs l k
noncomputable def spliceK (i : Nat) (vs l : List Value) (no : β) (k : List Value → β) : β :=
  Nat.rec (motive := fun _ => List Value → (List Value → β) → β) (fun l k => overK vs l no k) (fun _ ih l k => List.rec (motive := fun _ => β) no (fun a r _ => ih r (fun t => k (a :: t))) l) i l k
theorem splice_cons (a : Value) : ∀ (vs : List Value) (l : List Value) (i : Nat), splice (a :: l) (i + 1) vs = a :: splice l i vs
  | [], l, i => rfl
  | v :: vs, l, i => by
    simp only [splice, List.set_cons_succ]
    exact splice_cons a vs (l.set i v) (i + 1)
theorem overK_eq (no : β) : ∀ (vs l : List Value) (k : List Value → β), overK vs l no k = if vs.length ≤ l.length then k (splice l 0 vs) else no
  | [], l, k => by simp [overK, splice]
  | v :: vs, [], k => by simp [overK]
  | v :: vs, a :: l, k => by
    have := overK_eq no vs l (fun t => k (v :: t))
    show overK vs l no (fun t => k (v :: t)) = _
    rw [this]
    simp only [List.length_cons, Nat.add_le_add_iff_right, splice, List.set_cons_zero, splice_cons]
theorem spliceK_eq (vs : List Value) (no : β) : ∀ (i : Nat) (l : List Value) (k : List Value → β), spliceK i vs l no k = if i + vs.length ≤ l.length then k (splice l i vs) else no
  | 0, l, k => by
    have := overK_eq no vs l k
    rw [Nat.zero_add]
    exact this
  | i + 1, [], k => by
    show no = _
    rw [if_neg]
    simp
  | i + 1, a :: l, k => by
    have := spliceK_eq vs no i l (fun t => k (a :: t))
    show spliceK i vs l no (fun t => k (a :: t)) = _
    rw [this, splice_cons]
    have e : (i + 1 + vs.length ≤ (a :: l).length) = (i + vs.length ≤ l.length) := by simp only [List.length_cons]; apply propext; omega
    simp only [e]
end
/-! Memory. -/
noncomputable def getR {α : Type} (t : Tr α) (i : Nat) : Option α :=
  Tr.rec (motive := fun _ => Nat → Option α) (fun _ => none) (fun v _ _ ihl ihr i => Nat.rec (motive := fun _ => Option α) v (fun k _ => Bool.rec (motive := fun _ => Option α) (ihr (Nat.div k 2)) (ihl (Nat.div k 2)) (Nat.beq (Nat.mod k 2) 0)) i) t i
theorem getR_eq {α : Type} : ∀ (t : Tr α) (i : Nat), getR t i = t.get i
  | .nil, i => by simp [getR, Tr.get]
  | .node v l r, 0 => by show v = _; simp [Tr.get]
  | .node v l r, k + 1 => by
    have h1 := getR_eq l (k / 2)
    have h2 := getR_eq r (k / 2)
    show (Bool.rec (motive := fun _ => Option α) (getR r (Nat.div k 2)) (getR l (Nat.div k 2)) (Nat.beq (Nat.mod k 2) 0)) = _
    rw [show Nat.div k 2 = k / 2 from rfl, h1, h2]
    simp only [Tr.get]
    show _ = bif Nat.beq (k % 2) 0 then _ else _
    cases h : Nat.beq (k % 2) 0 with
    | true => rfl
    | false => rfl
noncomputable def setR {α : Type} (v : Option α) (f : Nat) (t : Tr α) (i : Nat) : Tr α :=
  Nat.rec (motive := fun _ => Tr α → Nat → Tr α) (fun t _ => t)
    (fun _ ih t i => Tr.rec (motive := fun _ => Tr α)
      (Nat.rec (motive := fun _ => Tr α) (.node v .nil .nil) (fun k _ => Bool.rec (motive := fun _ => Tr α) (.node none .nil (ih .nil (Nat.div k 2))) (.node none (ih .nil (Nat.div k 2)) .nil) (Nat.beq (Nat.mod k 2) 0)) i)
      (fun x l r _ _ => Nat.rec (motive := fun _ => Tr α) (.node v l r) (fun k _ => Bool.rec (motive := fun _ => Tr α) (.node x l (ih r (Nat.div k 2))) (.node x (ih l (Nat.div k 2)) r) (Nat.beq (Nat.mod k 2) 0)) i) t) f t i
theorem setR_eq {α : Type} (v : Option α) : ∀ (f : Nat) (t : Tr α) (i : Nat), setR v f t i = Tr.setF v f t i
  | 0, t, i => by show t = _; simp [Tr.setF]
  | f + 1, .nil, 0 => by show Tr.node v .nil .nil = _; simp [Tr.setF]
  | f + 1, .nil, k + 1 => by
    have h := setR_eq v f .nil (k / 2)
    show (Bool.rec (motive := fun _ => Tr α) (.node none .nil (setR v f .nil (Nat.div k 2))) (.node none (setR v f .nil (Nat.div k 2)) .nil) (Nat.beq (Nat.mod k 2) 0)) = _
    rw [show Nat.div k 2 = k / 2 from rfl, h]
    simp only [Tr.setF]
    cases h : Nat.beq (k % 2) 0 with
    | true => rfl
    | false => rfl
  | f + 1, .node x l r, 0 => by show Tr.node v l r = _; simp [Tr.setF]
  | f + 1, .node x l r, k + 1 => by
    have h1 := setR_eq v f l (k / 2)
    have h2 := setR_eq v f r (k / 2)
    show (Bool.rec (motive := fun _ => Tr α) (.node x l (setR v f r (Nat.div k 2))) (.node x (setR v f l (Nat.div k 2)) r) (Nat.beq (Nat.mod k 2) 0)) = _
    rw [show Nat.div k 2 = k / 2 from rfl, h1, h2]
    simp only [Tr.setF]
    cases h : Nat.beq (k % 2) 0 with
    | true => rfl
    | false => rfl
section
variable {β : Type}
noncomputable def celK (h : AHeap) (i : Nat) (no : β) (k : AObj → β) : β :=
  AHeap.rec (motive := fun _ => β) (fun n t => Bool.rec (motive := fun _ => β) no (Option.rec (motive := fun _ => β) no (fun o => AObj.rec (motive := fun _ => β) (fun c e q s => Bool.rec (motive := fun _ => β) (k ⟨c, e, q, s⟩) no (Nat.ble 3 q)) o) (getR t i)) (Nat.ble (Nat.succ i) n)) h
theorem celK_eq (h : AHeap) (i : Nat) (no : β) (k : AObj → β) : celK h i no k = match h.cel i with
    | some o => k o
    | none => no := by
  obtain ⟨n, t⟩ := h
  unfold celK AHeap.cel AHeap.get
  simp only [getR_eq]
  by_cases hi : i < n
  · have e : Nat.ble (Nat.succ i) n = true := Nat.ble_eq.mpr hi
    rw [e]
    simp only [if_pos hi]
    cases t.get i with
    | none => rfl
    | some o =>
      obtain ⟨c, e, q, s⟩ := o
      simp only
      cases Nat.ble 3 q <;> rfl
  · have e : Nat.ble (Nat.succ i) n = false := by
      rw [Bool.eq_false_iff]; intro h2; exact hi (Nat.ble_eq.mp h2)
    rw [e]
    simp only [if_neg hi]
/-- A whole number that is known, in the usual kind, from 0 on. -/
noncomputable def i64K (x : Value) (no : β) (k : Nat → β) : β :=
  vInt x no fun p a => IntKind.rec (motive := fun _ => β) no no no (Int.rec (motive := fun _ => β) k (fun _ => no) a) no no no no p
theorem i64K_eq (x : Value) (no : β) (k : Nat → β) : i64K x no k = match x with
    | .int .i64 (.ofNat a) => k a
    | _ => no := by
  unfold i64K
  cases x <;> try rfl
  rename_i p a
  cases p <;> cases a <;> rfl
end
section
variable {β : Type}
noncomputable def vStr (x : Value) (n : β) (k : List UInt8 → β) : β :=
  Value.rec (motive_1 := fun _ => β) (motive_2 := fun _ => Unit) (motive_3 := fun _ => Unit)
    (fun _ => n) (fun _ _ => n) (fun _ _ => n) (fun _ _ _ => n) (fun s => ByteArray.rec (motive := fun _ => β) (fun d => Array.rec (motive := fun _ => β) k d) s) (fun _ => n) (fun _ _ _ => n) (fun _ => n) (fun _ => n) (fun _ _ _ _ _ => n) n (fun _ _ _ => n) n (fun _ _ => n) (fun _ _ => n) (fun _ _ => ()) () (fun _ _ _ _ => ()) x
theorem vStr_eq (x : Value) (n : β) (k : List UInt8 → β) : vStr x n k = match x with
    | .string s => k s.data.toList
    | _ => n := by cases x <;> rfl
noncomputable def appK (l m : List UInt8) (k : List UInt8 → β) : β := List.rec (motive := fun _ => (List UInt8 → β) → β) (fun k => k m) (fun a _ ih k => ih fun t => k (a :: t)) l k
theorem appK_eq (m : List UInt8) : ∀ (l : List UInt8) (k : List UInt8 → β), appK l m k = k (l ++ m)
  | [], k => rfl
  | a :: l, k => by
    show appK l m (fun t => k (a :: t)) = _
    rw [appK_eq m l]
    rfl
end
noncomputable def beqB (l m : List UInt8) : Bool :=
  List.rec (motive := fun _ => List UInt8 → Bool) (fun m => List.rec (motive := fun _ => Bool) true (fun _ _ _ => false) m) (fun a _ ih m => List.rec (motive := fun _ => Bool) false (fun b r _ => Bool.rec (motive := fun _ => Bool) false (ih r) (Nat.beq a.toNat b.toNat)) m) l m
theorem beqB_eq : ∀ l m : List UInt8, beqB l m = (l == m)
  | [], [] => rfl
  | [], _ :: _ => rfl
  | _ :: _, [] => rfl
  | a :: l, b :: m => by
    show (Bool.rec (motive := fun _ => Bool) false (beqB l m) (Nat.beq a.toNat b.toNat)) = _
    rw [beqB_eq l m, List.cons_beq_cons]
    have : Nat.beq a.toNat b.toNat = (a == b) := by
      by_cases h : a = b
      · subst h; rw [Nat.beq_refl]; simp
      · have h2 : ¬ a.toNat = b.toNat := fun e => h (UInt8.toNat_inj.1 e)
        rw [show (a == b) = false by simpa using h]
        rw [Bool.eq_false_iff]; intro e; exact h2 (Nat.eq_of_beq_eq_true e)
    rw [this]
    cases (a == b) <;> rfl
noncomputable def lenR (l : List UInt8) : Nat := List.rec (motive := fun _ => Nat) 0 (fun _ _ ih => Nat.succ ih) l
theorem lenR_eq : ∀ l : List UInt8, lenR l = l.length
  | [] => rfl
  | a :: l => by show Nat.succ (lenR l) = _; rw [lenR_eq l]; rfl
/-- Parts in their places, all of them. -/
noncomputable def fillK {β : Type} (pl : List (Nat × Nat)) (vs cells : List Value) (no : β) (k : List Value → β) : β :=
  List.rec (motive := fun _ => List Value → List Value → β) (fun vs cells => List.rec (motive := fun _ => β) (k cells) (fun _ _ _ => no) vs)
    (fun p _ ih vs cells => List.rec (motive := fun _ => β) no (fun v r _ => Prod.rec (motive := fun _ => β) (fun off size =>
      vCells v no (Bool.rec (motive := fun _ => β) no (spliceK off [v] cells no fun c => ih r c) (Nat.beq size 1)) fun a => Array.rec (motive := fun _ => β) (fun l => Bool.rec (motive := fun _ => β) no (spliceK off l cells no fun c => ih r c) (isLen size l)) a) p) vs) pl vs cells
theorem set_splice : ∀ (vs : List Value) (cells : List Value) (off j : Nat), ((vs.zipIdx j).foldl (fun (cs : Array Value) (q : Value × Nat) => cs.setIfInBounds (off + q.2) q.1) ⟨cells⟩) = ⟨splice cells (off + j) vs⟩
  | [], cells, off, j => rfl
  | v :: vs, cells, off, j => by
    rw [List.zipIdx_cons, List.foldl_cons]
    have e : (⟨cells⟩ : Array Value).setIfInBounds (off + j) v = ⟨cells.set (off + j) v⟩ := by
      apply Array.ext'
      simp
    show List.foldl _ ((⟨cells⟩ : Array Value).setIfInBounds (off + j) v) _ = _
    rw [e, set_splice vs (cells.set (off + j) v) off (j + 1)]
    rfl
theorem fillK_ok {β : Type} {k : List Value → Option β} {x : β} (place : Nat → Option (Nat × Nat)) : ∀ (ps : List (Nat × Value)) (pl : List (Nat × Nat)) (cells : List Value), ps.map (fun p => place p.1) = pl.map some → fillK pl (ps.map (·.2)) cells none k = some x →
    noTuples ps = true ∧ ∃ out, Instr.fill place ⟨cells⟩ ps = some ⟨out⟩ ∧ k out = some x
  | [], [], cells, _, h => ⟨rfl, cells, rfl, h⟩
  | [], _ :: _, cells, e, _ => by cases e
  | _ :: _, [], cells, e, _ => by cases e
  | (i, v) :: ps, (off, size) :: pl, cells, e, h => by
    simp only [List.map_cons, List.cons.injEq] at e
    obtain ⟨e1, e2⟩ := e
    have step : ∀ l : List Value, v.cells = ⟨l⟩ → (∀ q, v ≠ .tuple q) → size = l.length → spliceK off l cells none (fun c => fillK pl (ps.map (·.2)) c none k) = some x → noTuples ((i, v) :: ps) = true ∧ ∃ out, Instr.fill place ⟨cells⟩ ((i, v) :: ps) = some ⟨out⟩ ∧ k out = some x := by
      intro l hl hnt hs h
      rw [spliceK_eq] at h
      split at h
      · rename_i hle
        obtain ⟨g1, out, g2, g3⟩ := fillK_ok place ps pl _ e2 h
        refine ⟨?_, out, ?_, g3⟩
        · unfold noTuples
          split
          · rfl
          · rename_i q r hq; simp only [List.cons.injEq, Prod.mk.injEq] at hq; exact absurd hq.1.2 (hnt _)
          · rename_i r hq; simp only [List.cons.injEq] at hq; rw [← hq.2]; exact g1
        · unfold Instr.fill
          rw [e1]
          simp only [hl, List.size_toArray]
          rw [if_neg (by simp only [← hs, ne_eq, not_true, decide_false, Bool.false_or, decide_eq_true_eq]; omega)]
          have := set_splice l cells off 0
          rw [Nat.add_zero] at this
          rw [← g2, ← this]
          congr 1
          simp
      · cases h
    have h2 : (vCells v none (Bool.rec (motive := fun _ => Option β) none (spliceK off [v] cells none fun c => fillK pl (ps.map (·.2)) c none k) (Nat.beq size 1)) fun a => Array.rec (motive := fun _ => Option β) (fun l => Bool.rec (motive := fun _ => Option β) none (spliceK off l cells none fun c => fillK pl (ps.map (·.2)) c none k) (isLen size l)) a) = some x := h
    rw [vCells_eq] at h2
    have one : v.cells = ⟨[v]⟩ → (∀ q, v ≠ .tuple q) → (Bool.rec (motive := fun _ => Option β) none (spliceK off [v] cells none fun c => fillK pl (ps.map (·.2)) c none k) (Nat.beq size 1)) = some x → _ := fun hc hnt h => by
      cases hb : Nat.beq size 1 with
      | false => rw [hb] at h; cases h
      | true => rw [hb] at h; exact step [v] hc hnt (Nat.eq_of_beq_eq_true hb) h
    cases v with
    | tuple q => cases h2
    | agg a =>
      obtain ⟨l⟩ := a
      simp only [isLen_eq] at h2
      cases hb : Nat.beq size l.length with
      | false => rw [hb] at h2; cases h2
      | true => rw [hb] at h2; exact step l rfl (fun _ e => by cases e) (Nat.eq_of_beq_eq_true hb) h2
    | _ => exact one rfl (fun _ e => by cases e) h2
end Go.Proofs.YtolignkahfekbaaGreatDoor
