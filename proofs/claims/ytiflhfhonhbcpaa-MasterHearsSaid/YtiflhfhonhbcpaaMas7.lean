/- Messages compared; a task's name; numbers compared. -/
import Derived.Test.YtiflhfhonhbcpaaMas6
import Derived.Test.YtiflhfhonhbcpaaWithin
namespace Go.Proofs.Ytiflhfhonhbcpaa.Mas
open Go Go.RowKit Go.Proofs.Ytiflhfhonhbcpaa Go.Proofs.Ytiflhfhonhbcpaa.Crw Go.ChangeShapes Go.WideShapes Go.ChangeAt
set_option linter.unusedVariables false
set_option maxRecDepth 100000
section
theorem cell_lt {w : World} {b o : Nat} {v : Value} (h : w.cell? ⟨b, o, none⟩ = some v) : b < w.heap.size := by
  unfold World.cell? at h
  rcases Nat.lt_or_ge b w.heap.size with h' | h'
  · exact h'
  · rw [Array.getElem?_eq_none h'] at h; cases h
theorem cell_keep {w w' : World} {b o : Nat} {v : Value} (h : w.cell? ⟨b, o, none⟩ = some v) (hb : Below w.heap.size w w') : w'.cell? ⟨b, o, none⟩ = some v := (hb.cell (p := ⟨b, o, none⟩) (cell_lt h)).trans h
theorem keepM {w w1 w2 : World} {c c' : Nat} {f t : ByteArray} {nu ep : Int} (h : w1.cell? ⟨c, 0, none⟩ = some (.int .i64 4) ∧ w1.cell? ⟨c, 1, none⟩ = some (.string f) ∧ w1.cell? ⟨c, 2, none⟩ = some (.string ⟨#[]⟩) ∧ w1.cell? ⟨c, 3, none⟩ = some (.string t) ∧ w1.cell? ⟨c, 4, none⟩ = some (.int .i64 0) ∧ w1.cell? ⟨c, 5, none⟩ = some (.int .i64 0) ∧ w1.cell? ⟨c, 6, none⟩ = some (.int .i64 nu) ∧ w1.cell? ⟨c, 7, none⟩ = some (.int .i64 ep) ∧ w1.cell? ⟨c, 8, none⟩ = some (.slice none 0 0) ∧ w1.cell? ⟨c', 0, none⟩ = some (.int .i64 4) ∧ w1.cell? ⟨c', 1, none⟩ = some (.string f) ∧ w1.cell? ⟨c', 2, none⟩ = some (.string ⟨#[]⟩) ∧ w1.cell? ⟨c', 3, none⟩ = some (.string t) ∧ w1.cell? ⟨c', 4, none⟩ = some (.int .i64 0) ∧ w1.cell? ⟨c', 5, none⟩ = some (.int .i64 0) ∧ w1.cell? ⟨c', 6, none⟩ = some (.int .i64 nu) ∧ w1.cell? ⟨c', 7, none⟩ = some (.int .i64 ep) ∧ w1.cell? ⟨c', 8, none⟩ = some (.slice none 0 0) ∧ Below w.heap.size w w1) (hb : Below w1.heap.size w1 w2) : w2.cell? ⟨c, 0, none⟩ = some (.int .i64 4) ∧ w2.cell? ⟨c, 1, none⟩ = some (.string f) ∧ w2.cell? ⟨c, 2, none⟩ = some (.string ⟨#[]⟩) ∧ w2.cell? ⟨c, 3, none⟩ = some (.string t) ∧ w2.cell? ⟨c, 4, none⟩ = some (.int .i64 0) ∧ w2.cell? ⟨c, 5, none⟩ = some (.int .i64 0) ∧ w2.cell? ⟨c, 6, none⟩ = some (.int .i64 nu) ∧ w2.cell? ⟨c, 7, none⟩ = some (.int .i64 ep) ∧ w2.cell? ⟨c, 8, none⟩ = some (.slice none 0 0) ∧ w2.cell? ⟨c', 0, none⟩ = some (.int .i64 4) ∧ w2.cell? ⟨c', 1, none⟩ = some (.string f) ∧ w2.cell? ⟨c', 2, none⟩ = some (.string ⟨#[]⟩) ∧ w2.cell? ⟨c', 3, none⟩ = some (.string t) ∧ w2.cell? ⟨c', 4, none⟩ = some (.int .i64 0) ∧ w2.cell? ⟨c', 5, none⟩ = some (.int .i64 0) ∧ w2.cell? ⟨c', 6, none⟩ = some (.int .i64 nu) ∧ w2.cell? ⟨c', 7, none⟩ = some (.int .i64 ep) ∧ w2.cell? ⟨c', 8, none⟩ = some (.slice none 0 0) ∧ Below w.heap.size w w2 := by
  obtain ⟨h0, h1, h2, h3, h4, h5, h6, h7, h8, h9, h10, h11, h12, h13, h14, h15, h16, h17, h18⟩ := h
  exact ⟨cell_keep h0 hb, cell_keep h1 hb, cell_keep h2 hb, cell_keep h3 hb, cell_keep h4 hb, cell_keep h5 hb, cell_keep h6 hb, cell_keep h7 hb, cell_keep h8 hb, cell_keep h9 hb, cell_keep h10 hb, cell_keep h11 hb, cell_keep h12 hb, cell_keep h13 hb, cell_keep h14 hb, cell_keep h15 hb, cell_keep h16 hb, cell_keep h17 hb, h18.trans (hb.mono h18.size)⟩
theorem lastM {w w1 : World} {c c' : Nat} {f t : ByteArray} {nu ep : Int} (h : w1.cell? ⟨c, 0, none⟩ = some (.int .i64 4) ∧ w1.cell? ⟨c, 1, none⟩ = some (.string f) ∧ w1.cell? ⟨c, 2, none⟩ = some (.string ⟨#[]⟩) ∧ w1.cell? ⟨c, 3, none⟩ = some (.string t) ∧ w1.cell? ⟨c, 4, none⟩ = some (.int .i64 0) ∧ w1.cell? ⟨c, 5, none⟩ = some (.int .i64 0) ∧ w1.cell? ⟨c, 6, none⟩ = some (.int .i64 nu) ∧ w1.cell? ⟨c, 7, none⟩ = some (.int .i64 ep) ∧ w1.cell? ⟨c, 8, none⟩ = some (.slice none 0 0) ∧ w1.cell? ⟨c', 0, none⟩ = some (.int .i64 4) ∧ w1.cell? ⟨c', 1, none⟩ = some (.string f) ∧ w1.cell? ⟨c', 2, none⟩ = some (.string ⟨#[]⟩) ∧ w1.cell? ⟨c', 3, none⟩ = some (.string t) ∧ w1.cell? ⟨c', 4, none⟩ = some (.int .i64 0) ∧ w1.cell? ⟨c', 5, none⟩ = some (.int .i64 0) ∧ w1.cell? ⟨c', 6, none⟩ = some (.int .i64 nu) ∧ w1.cell? ⟨c', 7, none⟩ = some (.int .i64 ep) ∧ w1.cell? ⟨c', 8, none⟩ = some (.slice none 0 0) ∧ Below w.heap.size w w1) : Below w.heap.size w w1 := h.2.2.2.2.2.2.2.2.2.2.2.2.2.2.2.2.2.2
set_option maxHeartbeats 4000000 in
theorem Same_ack (f t : ByteArray) (nu ep : Int) (w : World) :
    Calls Try.prog 49 #[.agg (ackC f t nu ep), .agg (ackC f t nu ep)] w fun r w' => r = .returned (.bool true) ∧ Below w.heap.size w w' := by
  have h1 : (f.toList == f.toList) = true := by simp
  have h2 : (t.toList == t.toList) = true := by simp
  have hmono : Below w.heap.size w ((w.alloc (.cells (ackC f t nu ep) 30)).alloc (.cells (ackC f t nu ep) 30)) := ((Below.refl _ _).alloc (Nat.le_refl _) _).alloc (by simp) _
  go_enter Try.func49, Try.ntmps49
  go_wp2
  go_loopw [72] (fun vi wr => vi = .int .i64 0 ∧ wr = ((w.alloc (.cells (ackC f t nu ep) 30)).alloc (.cells (ackC f t nu ep) 30))) (fun _ _ => 0)
  case atStart => exact ⟨rfl, rfl⟩
  case round =>
    obtain ⟨rfl, rfl⟩ := hrel
    go_wp2
    go_ret
    exact ⟨rfl, hmono⟩
set_option maxHeartbeats 4000000 in
theorem Messages_one {c c' : Nat} {f t : ByteArray} {nu ep : Int} {w : World} (h : Blk w c 30 (ackC f t nu ep)) (h' : Blk w c' 30 (ackC f t nu ep)) :
    Calls Try.prog 17 #[.slice (some ⟨c, 0, none⟩) 1 1, .slice (some ⟨c', 0, none⟩) 1 1] w fun r w' => r = .returned (.bool true) ∧ Below w.heap.size w w' := by
  have hS := fun k => Same_ack f t nu ep (w.drewN k)
  have HH := Lib.hid (And.intro h h')
  clear h h'
  go_enter Try.func17, Try.ntmps17
  go_wp2
  go_loopw [13] (fun vi wr => Hid ((vi = .int .i64 0 ∨ vi = .int .i64 1) ∧ Below w.heap.size w wr ∧ ∃ w7, w7 = wr)) (fun vi _ => 1 - (intOf vi).toNat)
  case atStart => exact Lib.hid ⟨.inl rfl, Below.refl _ _, _, rfl⟩
  case round =>
    obtain ⟨hv, hb, w7, hw⟩ := hrel.out
    subst hw
    clear hrel
    have k1 := HH.out.1.below hb HH.out.1.lt
    have k2 := HH.out.2.below hb HH.out.2.lt
    have a0 : w7.cell? ⟨c, 0, none⟩ = some (.int .i64 4) := k1.cell 0
    have a1 : w7.cell? ⟨c, 1, none⟩ = some (.string f) := k1.cell 1
    have a2 : w7.cell? ⟨c, 2, none⟩ = some (.string ⟨#[]⟩) := k1.cell 2
    have a3 : w7.cell? ⟨c, 3, none⟩ = some (.string t) := k1.cell 3
    have a4 : w7.cell? ⟨c, 4, none⟩ = some (.int .i64 0) := k1.cell 4
    have a5 : w7.cell? ⟨c, 5, none⟩ = some (.int .i64 0) := k1.cell 5
    have a6 : w7.cell? ⟨c, 6, none⟩ = some (.int .i64 nu) := k1.cell 6
    have a7 : w7.cell? ⟨c, 7, none⟩ = some (.int .i64 ep) := k1.cell 7
    have a8 : w7.cell? ⟨c, 8, none⟩ = some (.slice none 0 0) := k1.cell 8
    have b0 : w7.cell? ⟨c', 0, none⟩ = some (.int .i64 4) := k2.cell 0
    have b1 : w7.cell? ⟨c', 1, none⟩ = some (.string f) := k2.cell 1
    have b2 : w7.cell? ⟨c', 2, none⟩ = some (.string ⟨#[]⟩) := k2.cell 2
    have b3 : w7.cell? ⟨c', 3, none⟩ = some (.string t) := k2.cell 3
    have b4 : w7.cell? ⟨c', 4, none⟩ = some (.int .i64 0) := k2.cell 4
    have b5 : w7.cell? ⟨c', 5, none⟩ = some (.int .i64 0) := k2.cell 5
    have b6 : w7.cell? ⟨c', 6, none⟩ = some (.int .i64 nu) := k2.cell 6
    have b7 : w7.cell? ⟨c', 7, none⟩ = some (.int .i64 ep) := k2.cell 7
    have b8 : w7.cell? ⟨c', 8, none⟩ = some (.slice none 0 0) := k2.cell 8
    have HB := Lib.hid hb
    clear k1 k2 hb hS
    rcases hv with rfl | rfl
    · go_upto_region 6 with fail
      go_region_held3 (fun wa => wa.cell? ⟨c, 0, none⟩ = some (.int .i64 4) ∧ wa.cell? ⟨c, 1, none⟩ = some (.string f) ∧ wa.cell? ⟨c, 2, none⟩ = some (.string ⟨#[]⟩) ∧ wa.cell? ⟨c, 3, none⟩ = some (.string t) ∧ wa.cell? ⟨c, 4, none⟩ = some (.int .i64 0) ∧ wa.cell? ⟨c, 5, none⟩ = some (.int .i64 0) ∧ wa.cell? ⟨c, 6, none⟩ = some (.int .i64 nu) ∧ wa.cell? ⟨c, 7, none⟩ = some (.int .i64 ep) ∧ wa.cell? ⟨c, 8, none⟩ = some (.slice none 0 0) ∧ wa.cell? ⟨c', 0, none⟩ = some (.int .i64 4) ∧ wa.cell? ⟨c', 1, none⟩ = some (.string f) ∧ wa.cell? ⟨c', 2, none⟩ = some (.string ⟨#[]⟩) ∧ wa.cell? ⟨c', 3, none⟩ = some (.string t) ∧ wa.cell? ⟨c', 4, none⟩ = some (.int .i64 0) ∧ wa.cell? ⟨c', 5, none⟩ = some (.int .i64 0) ∧ wa.cell? ⟨c', 6, none⟩ = some (.int .i64 nu) ∧ wa.cell? ⟨c', 7, none⟩ = some (.int .i64 ep) ∧ wa.cell? ⟨c', 8, none⟩ = some (.slice none 0 0) ∧ Below w.heap.size w wa) (first | assumption | (refine ⟨a0, a1, a2, a3, a4, a5, a6, a7, a8, b0, b1, b2, b3, b4, b5, b6, b7, b8, HB.out.drew⟩) | exact keepM (by assumption) (by assumption)) (first | (go_at_call 49; refine (Same_ack f t nu ep _).mono ?_; rintro r w9 ⟨rfl, hb9⟩))
      all_goals go_wp2_with fail
      all_goals
        refine ⟨?_, by simp [intOf]⟩
        exact Lib.hid ⟨.inr rfl, lastM (by assumption), _, rfl⟩
    · go_wp2
      go_ret
      exact ⟨rfl, HB.out⟩
/-- A task's name is one of eight. -/
def taskB (r : Int) : ByteArray := if r = 0 then ⟨#[97]⟩ else if r = 1 then ⟨#[98]⟩ else if r = 2 then ⟨#[99]⟩ else if r = 3 then ⟨#[100]⟩ else if r = 4 then ⟨#[101]⟩ else if r = 5 then ⟨#[104]⟩ else if r = 6 then ⟨#[105]⟩ else ⟨#[106]⟩
set_option maxHeartbeats 4000000 in
theorem Task_any (x : Int) (hx : -9223372036854775808 ≤ x ∧ x ≤ 9223372036854775807) (w : World) :
    Calls Try.prog 16 #[.int .i64 x] w fun r w' => r = .returned (.string (taskB (x % 8))) ∧ Below w.heap.size w w' := by
  have h1 := Int.emod_nonneg x (show (8 : Int) ≠ 0 by omega)
  have h2 := Int.emod_lt_of_pos x (show (0 : Int) < 8 by omega)
  have hW : ∀ w, Calls Try.prog 10 #[.int .i64 x, .int .i64 8] w fun e w' => e = .returned (.int .i64 (x % 8)) ∧ w = w' := fun w => Within_any x 8 w (by omega) (by omega) (by omega) (by omega)
  generalize x % 8 = r at *
  have hr : r = 0 ∨ r = 1 ∨ r = 2 ∨ r = 3 ∨ r = 4 ∨ r = 5 ∨ r = 6 ∨ r = 7 := by omega
  clear hx h1 h2
  rcases hr with rfl | rfl | rfl | rfl | rfl | rfl | rfl | rfl
  all_goals
    go_enter Try.func16, Try.ntmps16
    go_wp2_with (go_at_call 10; refine (hW _).mono ?_; rintro e w' ⟨rfl, rfl⟩)
    go_ret
    exact ⟨rfl, (Below.refl _ _).alloc (Nat.le_refl _) _⟩
end
end Go.Proofs.Ytiflhfhonhbcpaa.Mas
