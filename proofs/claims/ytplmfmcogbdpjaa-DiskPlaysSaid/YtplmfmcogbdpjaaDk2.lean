/- A disk: small methods. -/
import Derived.Test.YtplmfmcogbdpjaaDk
import Derived.Shelf.RegionOpenPlain
import Derived.Lib.Walk
namespace Go.Proofs.Ytplmfmcogbdpjaa.Dk
open Go Go.RowKit Go.Proofs.Ytplmfmcogbdpjaa Go.Proofs.Ytplmfmcogbdpjaa.Crw Go.Proofs.Ytplmfmcogbdpjaa.Vl Go.ChangeShapes Go.WideShapes Go.ChangeAt
set_option linter.unusedVariables false
set_option maxRecDepth 100000
section
variable {w w' : World} {B d mb : Nat} {U V : Nat → Prop} {s s' : Ds} {F : List Fi} {p : ByteArray}
set_option maxHeartbeats 4000000 in
theorem Index1 {g : Nat} (hb : Blk w g 9 #[.string p]) (hp : p.toList.isEmpty = false) :
    Calls Try.prog 84 #[.slice (some ⟨g, 0, none⟩) 1 1, .string ⟨#[]⟩] w fun r w' => r = .returned (.int .i64 (-1)) ∧ Below w.heap.size w w' := by
  go_enter Try.func84, Try.ntmps84
  go_wp2_with fail
  go_loopw [8] (fun i wr => (i = .int .i64 0 ∨ i = .int .i64 1) ∧ Below w.heap.size w wr) (fun i _ => 2 - (intOf i).toNat)
  case atStart => exact ⟨.inl rfl, Below.refl _ _⟩
  case round =>
    obtain ⟨rfl | rfl, hbel⟩ := hrel
    · have c1 : wr.cell? ⟨g, 0, none⟩ = some (.string p) := (hb.below hbel hb.lt).cell 0
      clear hb
      go_wp2
      go_roundw
      case rel => exact ⟨.inr (by go_num), hbel⟩
      case measure => simp [intOf]
    · clear hb
      go_wp2
      go_ret
      exact ⟨rfl, hbel⟩
set_option maxHeartbeats 4000000 in
theorem Contains1 {g : Nat} (hb : Blk w g 9 #[.string p]) (hp : p.toList.isEmpty = false) :
    Calls Try.prog 79 #[.slice (some ⟨g, 0, none⟩) 1 1, .string ⟨#[]⟩] w fun r w' => r = .returned (.bool false) ∧ Below w.heap.size w w' := by
  go_enter Try.func79, Try.ntmps79
  go_wp2_with (go_at_call 84; refine (Index1 hb hp).mono ?_; rintro r w1 ⟨rfl, b1⟩)
  go_ret
  exact ⟨rfl, b1⟩
set_option maxHeartbeats 4000000 in
theorem refuse1 {g : Nat} (hd : Blk w d 80 (dsC s mb)) (hs : s.de = false) (hb : Blk w g 9 #[.string p]) (hp : p.toList.isEmpty = false) :
    Calls Try.prog 61 #[.pointer (some ⟨d, 0, none⟩), .slice (some ⟨g, 0, none⟩) 1 1] w fun r w' => r = .returned (.int .i64 0) ∧ Below w.heap.size w w' := by
  have c5 : w.cell? ⟨d, 5, none⟩ = some (.bool false) := by rw [← hs]; exact hd.cell 5
  go_enter Try.func61, Try.ntmps61
  go_wp2_with (go_at_call 79; refine (Contains1 hb hp).mono ?_; rintro r w1 ⟨rfl, b1⟩)
  go_ret
  exact ⟨rfl, b1⟩
set_option maxHeartbeats 4000000 in
theorem burn0 (hd : Blk w d 80 (dsC s mb)) (hs : s.fu = false) :
    Calls Try.prog 62 #[.pointer (some ⟨d, 0, none⟩)] w fun r w' => r = .returned (.int .i64 0) ∧ Below w.heap.size w w' := by
  have c3 : w.cell? ⟨d, 3, none⟩ = some (.bool false) := by rw [← hs]; exact hd.cell 3
  go_enter Try.func62, Try.ntmps62
  go_wp2_with fail
  go_ret
  exact ⟨rfl, Below.refl _ _⟩
set_option maxHeartbeats 4000000 in
theorem Room_ (hd : Blk w d 80 (dsC s mb)) (hq : 0 ≤ s.q ∧ s.q ≤ 65536) (hu : 0 ≤ s.u ∧ s.u ≤ 65536) :
    Calls Try.prog 15 #[.pointer (some ⟨d, 0, none⟩)] w fun r w' => r = .returned (.int .i64 (s.q - s.u)) ∧ Below w.heap.size w w' := by
  have c0 : w.cell? ⟨d, 0, none⟩ = some (.int .i64 s.q) := hd.cell 0
  have c1 : w.cell? ⟨d, 1, none⟩ = some (.int .i64 s.u) := hd.cell 1
  have k0 : IntKind.i64.wrap (s.q - s.u) = s.q - s.u := IntWalk.i64_in _ (by omega)
  have e0 : ∀ {wa : World}, Below w.heap.size w wa → wa.cell? ⟨d, 0, none⟩ = some (.int .i64 s.q) := fun hb => (hd.below hb hd.lt).cell 0
  have e1 : ∀ {wa : World}, Below w.heap.size w wa → wa.cell? ⟨d, 1, none⟩ = some (.int .i64 s.u) := fun hb => (hd.below hb hd.lt).cell 1
  go_enter Try.func15, Try.ntmps15
  go_wp2_with fail
  go_quiet (fail)
  go_wp2
  go_ret
  exact ⟨rfl, below_drewN (Below.refl _ _) _⟩
theorem Used_ (hd : Blk w d 80 (dsC s mb)) :
    Calls Try.prog 18 #[.pointer (some ⟨d, 0, none⟩)] w fun r w' => r = .returned (.int .i64 s.u) ∧ Below w.heap.size w w' := by
  have c1 : w.cell? ⟨d, 1, none⟩ = some (.int .i64 s.u) := hd.cell 1
  go_enter Try.func18, Try.ntmps18
  go_wp2_with fail
  go_ret
  exact ⟨rfl, Below.refl _ _⟩
end
end Go.Proofs.Ytplmfmcogbdpjaa.Dk
