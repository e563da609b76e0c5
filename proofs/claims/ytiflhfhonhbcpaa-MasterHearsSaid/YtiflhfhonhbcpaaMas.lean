/- The master: what it holds, task by task. -/
import Derived.Test.YtiflhfhonhbcpaaMapW
import Derived.Test.YtiflhfhonhbcpaaCrewM
import Derived.Deep.RegionLaw
import Derived.Deep.RegionHeld3
import Derived.Lib.Hide
import Derived.Deep.CutRange
import Derived.Deep.DeepCutAuto
import Derived.Deep.CutBlock
import Derived.Lib.Builder
import Derived.Deep.QuietTactic
import Derived.BigQuiet
import Derived.IntWalk
namespace Go.Proofs.Ytiflhfhonhbcpaa.Mas
open Go Go.RowKit Go.Proofs.Ytiflhfhonhbcpaa Go.Proofs.Ytiflhfhonhbcpaa.Crw Go.ChangeShapes Go.WideShapes Go.ChangeAt
set_option linter.unusedVariables false
set_option maxRecDepth 100000
/-- Nothing that was there has changed but the blocks of V. -/
structure Vol (V : Nat → Prop) (w w' : World) : Prop where
  os : w'.os = w.os
  tape : w'.tape = w.tape
  output : w'.output = w.output
  size : w.heap.size ≤ w'.heap.size
  block : ∀ b, b < w.heap.size → ¬ V b → w'.heap[b]? = w.heap[b]?
section
variable {V : Nat → Prop} {w w' w'' : World}
theorem Vol.refl (w : World) : Vol V w w := ⟨rfl, rfl, rfl, Nat.le_refl _, fun _ _ _ => rfl⟩
theorem Vol.mono {V' : Nat → Prop} (h : Vol V w w') (hv : ∀ b, V b → V' b) : Vol V' w w' := ⟨h.os, h.tape, h.output, h.size, fun b h1 h2 => h.block b h1 fun h3 => h2 (hv b h3)⟩
theorem Vol.of_below (h : Below w.heap.size w w') : Vol V w w' := ⟨h.os, h.tape, h.output, h.size, fun b hb _ => h.block b hb⟩
theorem Vol.below (h : Vol V w w') (hb : Below w'.heap.size w' w'') : Vol V w w'' :=
  ⟨hb.os.trans h.os, hb.tape.trans h.tape, hb.output.trans h.output, Nat.le_trans h.size hb.size, fun b h1 h2 => (hb.block b (Nat.lt_of_lt_of_le h1 h.size)).trans (h.block b h1 h2)⟩
theorem Vol.alloc (h : Vol V w w') (o : Obj) : Vol V w (w'.alloc o) := h.below ((Below.refl _ _).alloc (Nat.le_refl _) _)
theorem Vol.drewN (h : Vol V w w') (k : Nat) : Vol V w (w'.drewN k) := ⟨h.os, h.tape, h.output, h.size, h.block⟩
theorem Vol.drew (h : Vol V w w') : Vol V w w'.drew := ⟨h.os, h.tape, h.output, h.size, h.block⟩
theorem Vol.grown {row : Option Nat} (h : Vol V w w') (hg : w'.grownBy w'' row) (hr : ∀ k, row = some k → V k ∨ w.heap.size ≤ k) : Vol V w w'' :=
  ⟨hg.os.trans h.os, hg.tape.trans h.tape, hg.output.trans h.output, Nat.le_trans h.size hg.size, fun b h1 h2 => (hg.block b (Nat.lt_of_lt_of_le h1 h.size) (fun e => by
    rcases hr b e.symm with h3 | h3
    · exact h2 h3
    · omega)).trans (h.block b h1 h2)⟩
theorem Vol.setCell (h : Vol V w w') {a : Addr} (ha : V a.block ∨ w.heap.size ≤ a.block) (v : Value) : Vol V w (w'.setCell a v) := h.grown (row := some a.block) (only_setCell (World.grownBy.refl _ _) (.inl rfl) v) (fun k hk => by injection hk with hk; rw [← hk]; exact ha)
theorem Vol.trans {V' : Nat → Prop} (h : Vol V w w') (h' : Vol V' w' w'') (hV : ∀ b, V' b → V b ∨ w.heap.size ≤ b) : Vol V w w'' :=
  ⟨h'.os.trans h.os, h'.tape.trans h.tape, h'.output.trans h.output, Nat.le_trans h.size h'.size, fun b h1 h2 => (h'.block b (Nat.lt_of_lt_of_le h1 h.size) (fun e => by
    rcases hV b e with h3 | h3
    · exact h2 h3
    · omega)).trans (h.block b h1 h2)⟩
end
structure Tk where
  f : ByteArray
  t : ByteArray
  g : Nat
  st : Int
  v : Value
  ns : List Int
abbrev tkK (f t : ByteArray) : Value := .agg #[.string f, .string t]
abbrev tkE (x : Tk) : Value × Value := (tkK x.f x.t, .pointer (some ⟨x.g, 0, none⟩))
def same (f t : ByteArray) (x : Tk) : Bool := decide (f.data.toList = x.f.data.toList) && decide (t.data.toList = x.t.data.toList)
theorem beq_key (f t f' t' : ByteArray) : beq1 (tkK f t) (tkK f' t') = (decide (f.data.toList = f'.data.toList) && (decide (t.data.toList = t'.data.toList) && true)) := rfl
theorem same_beq (f t : ByteArray) (x : Tk) : beq1 (tkK f t) (tkE x).1 = same f t x := by
  show beq1 (tkK f t) (tkK x.f x.t) = _
  rw [beq_key, Bool.and_true]
  rfl
theorem same_eq {f t : ByteArray} {x : Tk} (h : same f t x = true) : f = x.f ∧ t = x.t := by
  unfold same at h
  simp only [Bool.and_eq_true, decide_eq_true_eq] at h
  obtain ⟨⟨a⟩⟩ := f
  obtain ⟨⟨b⟩⟩ := t
  obtain ⟨⟨⟨c⟩⟩, ⟨⟨d⟩⟩, _, _, _, _⟩ := x
  simp only at h
  rw [h.1, h.2]
  exact ⟨rfl, rfl⟩
theorem same_self (x : Tk) : same x.f x.t x = true := by simp [same]
abbrev ints (l : List Int) : List Value := l.map (Value.int .i64)
structure MsP (w : World) (B m mb : Nat) (V : Nat → Prop) (R : List Tk) : Prop where
  blk : Blk w m 101 #[.map (some mb)]
  mp : MapAt w mb (R.map tkE)
  tks : ∀ (k : Nat) (x : Tk), R[k]? = some x → Blk w x.g 107 #[.int .i64 x.st, x.v]
  rows : ∀ (k : Nat) (x : Tk), R[k]? = some x → w.ownsRow B 3 1 x.v x.ns.length (ints x.ns)
  uniq : ∀ (j k : Nat) (x y : Tk), R[j]? = some x → R[k]? = some y → same y.f y.t x = true → j = k
  apart : ∀ (j k : Nat) (x y : Tk), R[j]? = some x → R[k]? = some y → x.g = y.g → j = k
  apartV : ∀ (j k : Nat) (x y : Tk), R[j]? = some x → R[k]? = some y → j ≠ k → x.v.ownBlock = none ∨ x.v.ownBlock ≠ y.v.ownBlock
  vm : V m ∧ V mb
  vx : ∀ (k : Nat) (x : Tk), R[k]? = some x → V x.g ∧ ∀ b, x.v.ownBlock = some b → V b
  lt : ∀ b, V b → b < w.heap.size
  ge : ∀ b, V b → B ≤ b
section
variable {w w' : World} {B m mb : Nat} {V : Nat → Prop} {R : List Tk}
theorem MsP.below (h : MsP w B m mb V R) (hb : Below w.heap.size w w') : MsP w' B m mb V R :=
  ⟨h.blk.below hb h.blk.lt, h.mp.keep (hb.block _ h.mp.lt), fun k x hx => (h.tks k x hx).below hb (h.tks k x hx).lt, fun k x hx => own_keep (h.rows k x hx) hb, h.uniq, h.apart, h.apartV, h.vm, h.vx, fun b hv => Nat.lt_of_lt_of_le (h.lt b hv) hb.size, h.ge⟩
theorem MsP.drewN (h : MsP w B m mb V R) (k : Nat) : MsP (w.drewN k) B m mb V R := h.below (below_drewN (Below.refl _ _) k)
theorem MsP.kv [Toks] (h : MsP w B m mb V R) : Kv Try.prog 46 (R.map tkE) := by
  intro p hp
  obtain ⟨x, _, rfl⟩ := List.mem_map.1 hp
  refine ⟨?_, rfl, ⟨x.g, 0, 0⟩, rfl, rfl⟩
  show keyFit Try.prog 46 (.agg #[.string x.f, .string x.t]) = true
  generalize x.f = a
  generalize x.t = b
  kernel_rfl
end
end Go.Proofs.Ytiflhfhonhbcpaa.Mas
