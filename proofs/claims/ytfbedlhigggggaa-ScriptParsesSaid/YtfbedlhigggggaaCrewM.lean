/- Own rows, small laws. -/
import Derived.Test.YtfbedlhigggggaaWithin
import Derived.Laws.ResultCell
import Derived.Lib.BufferOwn
namespace Go.Proofs.Ytfbedlhigggggaa.Crw
open Go.Proofs.Ytfbedlhigggggaa Go.ChangeShapes Go.WideShapes Go.ChangeAt Go.RowKit
set_option linter.unusedVariables false
set_option maxRecDepth 100000
theorem own_some {w : World} {B : Nat} {e : TypeId} {z n c : Nat} {A : Option Addr} {xs : List Value} (h : w.ownsRow B e z (.slice A n c) n xs) (hn : 0 < n) : ∃ g, A = some ⟨g, 0, none⟩ := by
  rcases h.2 with ⟨h1, _⟩ | ⟨g, cap, cur, h1, _⟩
  · injection h1 with h1 h2 h3
    omega
  · injection h1 with h1 h2 h3
    exact ⟨g, h1⟩
theorem own_own_ne {w w2 : World} {B B' : Nat} {e e' : TypeId} {z z' n n' : Nat} {v v' : Value} {xs xs' : List Value} (h : w.ownsRow B e z v n xs) (h' : w2.ownsRow B' e' z' v' n' xs') (hne : e ≠ e') (heq : w2.heap = w.heap := by rfl) : v.ownBlock = none ∨ v.ownBlock ≠ v'.ownBlock := by
  rcases h.2 with ⟨rfl, _⟩ | ⟨g, cap, cur, rfl, _, hg, _⟩
  · exact .inl rfl
  · refine .inr ?_
    rcases h'.2 with ⟨rfl, _⟩ | ⟨g', cap', cur', rfl, _, hg', _⟩
    · simp [Value.ownBlock]
    · intro he
      have : g = g' := by simpa [Value.ownBlock] using he
      subst this
      rw [heq] at hg'
      exact Blk.ne_ (show Blk w g e cur from hg) (show Blk w g e' cur' from hg') hne rfl
theorem own_keep {w w' : World} {B : Nat} {e : TypeId} {z n : Nat} {v : Value} {xs : List Value} (h : w.ownsRow B e z v n xs) (hb : Below w.heap.size w w') : w'.ownsRow B e z v n xs := h.kept (only_of_below hb none) (Classical.em _)
theorem own_far {w : World} {B g i : Nat} {e t : TypeId} {z n : Nat} {v u : Value} {xs : List Value} {cs : Array Value} (h : w.ownsRow B e z v n xs) (hb : Blk w g t cs) (hne : e ≠ t) : (w.setCell ⟨g, i, none⟩ u).ownsRow B e z v n xs := by
  have h1 := own_blk_ne h hb hne
  refine ⟨h.1, ?_⟩
  rcases h.2 with h2 | ⟨k, cap, cur, e1, e2, e3, e4⟩
  · exact .inl h2
  · exact .inr ⟨k, cap, cur, e1, e2, (Below.heap_setCell _ _ _ _ (by intro e5; subst e5; exact h1 (by rw [e1]; rfl))).trans e3, e4⟩
end Go.Proofs.Ytfbedlhigggggaa.Crw
