/- The walk of PathApart: the Go text returns true, and writes nothing that was there. -/
import Derived.Test.YtnindodkcfkgoaaDoorPAF
namespace Go.Proofs.YtnindodkcfkgoaaDoor.pathApart
open Go.ChangeShapes Go.WideShapes Go.ChangeAt Go.RowKit
set_option linter.unusedVariables false
theorem keep5 {B b : Nat} {w0 wc w2 : World} {x1 x2 x3 x4 : Value} (h : wc.cell? ⟨b, 1, none⟩ = some x1 ∧ wc.cell? ⟨b, 2, none⟩ = some x2 ∧ wc.cell? ⟨b, 3, none⟩ = some x3 ∧ wc.cell? ⟨b, 4, none⟩ = some x4 ∧ Below B w0 wc ∧ B ≤ wc.heap.size ∧ b < wc.heap.size) (hb : Below wc.heap.size wc w2) :
    w2.cell? ⟨b, 1, none⟩ = some x1 ∧ w2.cell? ⟨b, 2, none⟩ = some x2 ∧ w2.cell? ⟨b, 3, none⟩ = some x3 ∧ w2.cell? ⟨b, 4, none⟩ = some x4 ∧ Below B w0 w2 ∧ B ≤ w2.heap.size ∧ b < w2.heap.size := by
  obtain ⟨h1, h2, h3, h4, h5, h6, h7⟩ := h
  have hk := below_same h5 h6 hb
  exact ⟨(hb.cell (p := ⟨b, 1, none⟩) h7).trans h1, (hb.cell (p := ⟨b, 2, none⟩) h7).trans h2, (hb.cell (p := ⟨b, 3, none⟩) h7).trans h3, (hb.cell (p := ⟨b, 4, none⟩) h7).trans h4, hk.1, hk.2, Nat.lt_of_lt_of_le h7 hb.size⟩
theorem nm_cell (w : World) (t : TypeId) (p : Nat) (hp : p < 8) : (w.alloc (.cells (nml.map Value.string).toArray t)).cell? ⟨w.heap.size, p, none⟩ = some (.string (nmA p)) := by
  have e0 : ((⟨w.heap.size, 0, none⟩ : Addr).add p) = ⟨w.heap.size, p, none⟩ := by rw [add_at, Nat.zero_add]
  rw [← e0]
  obtain ⟨ad, u, h1, _, h2, h3⟩ := (reads_new w (nml.map Value.string) t).at_ (k := p) (by simpa [nml] using hp)
  injection h1 with h1
  subst h1
  rw [h3]
  simp only [List.getElem?_map, Option.map_eq_some_iff] at h2
  obtain ⟨x, h4, rfl⟩ := h2
  unfold nmA
  rw [List.getD_eq_getElem?_getD, h4]
  rfl
theorem nmA_size (p : Nat) (hp : p < 8) : (nmA p).size ≤ 10 := by
  have h : p = 0 ∨ p = 1 ∨ p = 2 ∨ p = 3 ∨ p = 4 ∨ p = 5 ∨ p = 6 ∨ p = 7 := by omega
  rcases h with rfl | rfl | rfl | rfl | rfl | rfl | rfl | rfl <;> decide
theorem Epoch_any (w : World) : Calls Tryd.prog 18 #[] w fun e w' => e = .returned (.string ⟨#[101, 112, 111, 99, 104]⟩) ∧ w = w' := by
  go_enter Tryd.func18, Tryd.ntmps18
  go_wp2
  go_ret
  exact ⟨rfl, rfl⟩

end Go.Proofs.YtnindodkcfkgoaaDoor.pathApart
