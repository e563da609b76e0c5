/- What is changed, and what is not. -/
import Derived.Test.YtfbedlhigggggaaMapW
import Derived.Test.YtfbedlhigggggaaCrewM
import Derived.Test.YtfbedlhigggggaaRowZ
import Derived.Test.YtfbedlhigggggaaRdz
import Derived.Deep.RegionLaw
import Derived.Deep.RegionHeld3
import Derived.Lib.Hide
import Derived.Deep.CutRange
import Derived.Deep.DeepCutAuto
import Derived.Deep.CutBlock
import Derived.Lib.Builder
import Derived.Deep.QuietTactic
import Derived.BigQuiet
import Derived.IntWalk
import Derived.StillTailTactics
namespace Go.Proofs.Ytfbedlhigggggaa.Vl
open Go Go.RowKit Go.Proofs.Ytfbedlhigggggaa Go.Proofs.Ytfbedlhigggggaa.Crw Go.ChangeShapes Go.WideShapes Go.ChangeAt
set_option linter.unusedVariables false
set_option maxRecDepth 100000
/-- Nothing that was there has changed but the blocks of V. -/
structure Vol (V : Nat → Prop) (w w' : World) : Prop where
  os : w'.os = w.os
  tape : w'.tape = w.tape
  output : w'.output = w.output
  size : w.heap.size ≤ w'.heap.size
  block : ∀ b, b < w.heap.size → ¬ V b → w'.heap[b]? = w.heap[b]?
section
variable {V : Nat → Prop} {w w' w'' : World}
theorem Vol.refl (w : World) : Vol V w w := ⟨rfl, rfl, rfl, Nat.le_refl _, fun _ _ _ => rfl⟩
theorem Vol.mono {V' : Nat → Prop} (h : Vol V w w') (hv : ∀ b, V b → V' b) : Vol V' w w' := ⟨h.os, h.tape, h.output, h.size, fun b h1 h2 => h.block b h1 fun h3 => h2 (hv b h3)⟩
theorem Vol.of_below (h : Below w.heap.size w w') : Vol V w w' := ⟨h.os, h.tape, h.output, h.size, fun b hb _ => h.block b hb⟩
theorem Vol.below (h : Vol V w w') (hb : Below w'.heap.size w' w'') : Vol V w w'' :=
  ⟨hb.os.trans h.os, hb.tape.trans h.tape, hb.output.trans h.output, Nat.le_trans h.size hb.size, fun b h1 h2 => (hb.block b (Nat.lt_of_lt_of_le h1 h.size)).trans (h.block b h1 h2)⟩
theorem Vol.alloc (h : Vol V w w') (o : Obj) : Vol V w (w'.alloc o) := h.below ((Below.refl _ _).alloc (Nat.le_refl _) _)
theorem Vol.drewN (h : Vol V w w') (k : Nat) : Vol V w (w'.drewN k) := ⟨h.os, h.tape, h.output, h.size, h.block⟩
theorem Vol.drew (h : Vol V w w') : Vol V w w'.drew := ⟨h.os, h.tape, h.output, h.size, h.block⟩
theorem Vol.grown {row : Option Nat} (h : Vol V w w') (hg : w'.grownBy w'' row) (hr : ∀ k, row = some k → V k ∨ w.heap.size ≤ k) : Vol V w w'' :=
  ⟨hg.os.trans h.os, hg.tape.trans h.tape, hg.output.trans h.output, Nat.le_trans h.size hg.size, fun b h1 h2 => (hg.block b (Nat.lt_of_lt_of_le h1 h.size) (fun e => by
    rcases hr b e.symm with h3 | h3
    · exact h2 h3
    · omega)).trans (h.block b h1 h2)⟩
theorem Vol.setCell (h : Vol V w w') {a : Addr} (ha : V a.block ∨ w.heap.size ≤ a.block) (v : Value) : Vol V w (w'.setCell a v) := h.grown (row := some a.block) (only_setCell (World.grownBy.refl _ _) (.inl rfl) v) (fun k hk => by injection hk with hk; rw [← hk]; exact ha)
theorem Vol.trans {V' : Nat → Prop} (h : Vol V w w') (h' : Vol V' w' w'') (hV : ∀ b, V' b → V b ∨ w.heap.size ≤ b) : Vol V w w'' :=
  ⟨h'.os.trans h.os, h'.tape.trans h.tape, h'.output.trans h.output, Nat.le_trans h.size h'.size, fun b h1 h2 => (h'.block b (Nat.lt_of_lt_of_le h1 h.size) (fun e => by
    rcases hV b e with h3 | h3
    · exact h2 h3
    · omega)).trans (h.block b h1 h2)⟩
end
section
variable {w w' : World} {B : Nat} {U V : Nat → Prop}
theorem own_down {b0 b1 n z : Nat} {e : TypeId} {v : Value} {xs : List Value} (h : w.ownsRow b0 e z v n xs) (hb : b1 ≤ b0) : w.ownsRow b1 e z v n xs := by
  refine ⟨h.1, ?_⟩
  rcases h.2 with h1 | ⟨g, cap, cur, h1, h2, h3⟩
  · exact .inl h1
  · exact .inr ⟨g, cap, cur, h1, Nat.le_trans hb h2, h3⟩
theorem own_vol {e : TypeId} {z n : Nat} {v : Value} {xs : List Value} (h : w.ownsRow B e z v n xs) (hv : Vol U w w') (hn : ∀ b, v.ownBlock = some b → ¬ U b) : w'.ownsRow B e z v n xs := by
  refine ⟨h.1, ?_⟩
  rcases h.2 with h1 | ⟨g, cap, cur, h1, h2, h3, h4⟩
  · exact .inl h1
  · subst h1
    have hlt := (Array.getElem?_eq_some_iff.1 h3).1
    exact .inr ⟨g, cap, cur, rfl, h2, (hv.block g hlt (hn g rfl)).trans h3, h4⟩
theorem own_map_ne {e : TypeId} {z n b : Nat} {v : Value} {xs : List Value} {kvs : List (Value × Value)} (h : w.ownsRow B e z v n xs) (hm : MapAt w b kvs) : v.ownBlock ≠ some b := by
  obtain ⟨es, ck, hb, _⟩ := hm
  rcases h.2 with ⟨rfl, _⟩ | ⟨g, cap, cur, rfl, _, h3, _⟩
  · simp [Value.ownBlock]
  · intro he
    have : g = b := by simpa [Value.ownBlock] using he
    subst this
    rw [h3] at hb
    cases hb
theorem blk_map_ne {g b : Nat} {t : TypeId} {cs : Array Value} {kvs : List (Value × Value)} (h : Blk w g t cs) (hm : MapAt w b kvs) : g ≠ b := by
  rintro rfl
  obtain ⟨es, ck, hb, _⟩ := hm
  have h' : w.heap[g]? = some (.cells cs t (0, 0)) := h
  rw [h'] at hb
  cases hb
theorem blk_vol {g : Nat} {t : TypeId} {cs : Array Value} (h : Blk w g t cs) (hv : Vol U w w') (hn : ¬ U g) : Blk w' g t cs := (hv.block g h.lt hn).trans h
theorem blk_ne {g g' : Nat} {t t' : TypeId} {cs cs' : Array Value} (h : Blk w g t cs) (h' : Blk w g' t' cs') (hne : t ≠ t') : g ≠ g' := by
  rintro rfl
  have h1 : w.heap[g]? = some (.cells cs t (0, 0)) := h
  have h2 : w.heap[g]? = some (.cells cs' t' (0, 0)) := h'
  rw [h1] at h2
  injection h2 with h2
  injection h2 with _ h2 _
  exact hne h2
theorem bel_vol {w w1 w2 : World} {U : Nat → Prop} (h : Below w.heap.size w w1) (hv : Vol U w1 w2) (hU : ∀ b, U b → w.heap.size ≤ b) : Below w.heap.size w w2 :=
  ⟨hv.os.trans h.os, hv.tape.trans h.tape, hv.output.trans h.output, Nat.le_trans h.size hv.size, fun b hb => (hv.block b (Nat.lt_of_lt_of_le hb h.size) (fun e => by have := hU b e; omega)).trans (h.block b hb)⟩
end
end Go.Proofs.Ytfbedlhigggggaa.Vl
