/- A disk: what is refused; a fuse. -/
import Derived.Test.YtplmfmcogbdpjaaDkC
import Derived.Test.YtplmfmcogbdpjaaDk9
import Derived.WideMake
namespace Go.Proofs.Ytplmfmcogbdpjaa.Dk
open Go Go.RowKit Go.Proofs.Ytplmfmcogbdpjaa Go.Proofs.Ytplmfmcogbdpjaa.Crw Go.Proofs.Ytplmfmcogbdpjaa.Vl Go.ChangeShapes Go.WideShapes Go.ChangeAt
set_option linter.unusedVariables false
set_option maxRecDepth 100000
section
variable {w w' : World} {B d mb : Nat} {U V : Nat → Prop} {s s' : Ds} {F : List Fi} {p q : ByteArray}
set_option maxHeartbeats 8000000 in
theorem Append_full (H : DkP w B d mb V s F) (hp : p.toList.isEmpty = false) (hs : s.de = false) (hq : 0 ≤ s.q ∧ s.q ≤ 65536) (hu : 0 ≤ s.u ∧ s.u ≤ 65536) {n c : Nat} {A : Option Addr} (hn : s.q - s.u < (n : Int)) :
    Calls Try.prog 16 #[.pointer (some ⟨d, 0, none⟩), .string p, .slice A n c] w fun r w' => r = .returned (.int .i64 6) ∧ Below w.heap.size w w' := by
  obtain ⟨W, hW⟩ : ∃ W, W = w.alloc (.cells #[.string p] 9) := ⟨_, rfl⟩
  have hbW : Below w.heap.size w W := by rw [hW]; exact (Below.refl _ _).alloc (Nat.le_refl _) _
  have hkW : Blk W w.heap.size 9 #[.string p] := by rw [hW]; exact Blk.new _ _ _
  have H1 := H.below hbW
  have hRf := refuse1 H1.blk hs hkW hp
  have k1 : decide (s.q - s.u < (n : Int)) = true := by simpa using hn
  have HW := Lib.hid hW
  have HH := Lib.hid H1
  have HB := Lib.hid hbW
  clear hW H H1 hbW hkW
  go_enter Try.func16, Try.ntmps16
  go_wp2_with fail
  rw [← HW.out]
  refine hRf.mono ?_
  rintro r w1 ⟨rfl, b1⟩
  have H2 := HH.out.below b1
  have hRm := Room_ H2.blk hq hu
  clear hRf H2
  go_wp2_with fail
  refine hRm.mono ?_
  rintro r w2 ⟨rfl, b2⟩
  clear hRm
  go_wp2_with fail
  go_ret
  exact ⟨rfl, (HB.out.trans (b1.mono HB.out.size)).trans (b2.mono (Nat.le_trans HB.out.size b1.size))⟩
set_option maxHeartbeats 4000000 in
theorem refuse_dead {A : Option Addr} {n c : Nat} (hd : Blk w d 80 (dsC s mb)) (hs : s.de = true) :
    Calls Try.prog 61 #[.pointer (some ⟨d, 0, none⟩), .slice A n c] w fun r w' => r = .returned (.int .i64 7) ∧ Below w.heap.size w w' := by
  have c5 : w.cell? ⟨d, 5, none⟩ = some (.bool true) := by rw [← hs]; exact hd.cell 5
  go_enter Try.func61, Try.ntmps61
  go_wp2_with fail
  go_ret
  exact ⟨rfl, Below.refl _ _⟩
set_option maxHeartbeats 4000000 in
theorem burn_left (H : DkP w B d mb V s F) (hs : s.fu = true) {m : Nat} (hm : s.lf = (m : Int) + 1) (hm2 : m ≤ 1000000) :
    Calls Try.prog 62 #[.pointer (some ⟨d, 0, none⟩)] w fun r w' => r = .returned (.int .i64 0) ∧ DkP w' B d mb V { s with lf := m } F ∧ Vol V w w' := by
  have c3 : w.cell? ⟨d, 3, none⟩ = some (.bool true) := by rw [← hs]; exact H.blk.cell 3
  have c4 : w.cell? ⟨d, 4, none⟩ = some (.int .i64 ((m : Int) + 1)) := by rw [← hm]; exact H.blk.cell 4
  have f4 : w.frozen? ⟨d, 4, none⟩ = false := H.blk.frozen 4
  have e0 : ((m : Int) + 1 == 0) = false := by simp; omega
  have k1 : IntKind.i64.wrap ((m : Int) + 1 - 1) = (m : Int) := by rw [show (m : Int) + 1 - 1 = m by omega]; exact IntWalk.i64_in _ (by omega)
  have HH := Lib.hid H
  clear H
  go_enter Try.func62, Try.ntmps62
  go_wp2_with fail
  go_ret
  have v1 : Vol (fun b => b = d) w (w.setCell ⟨d, 4, none⟩ (.int .i64 m)) := Vol.setCell (V := fun b => b = d) (a := ⟨d, 4, none⟩) (Vol.refl w) (.inl rfl) _
  exact ⟨rfl, HH.out.scal v1 (HH.out.blk.set_ 4 (.int .i64 m)), v1.mono (fun b e => by rw [e]; exact HH.out.vm.1)⟩
set_option maxHeartbeats 4000000 in
theorem burn_dead (H : DkP w B d mb V s F) (hs : s.fu = true) (hm : s.lf = 0) :
    Calls Try.prog 62 #[.pointer (some ⟨d, 0, none⟩)] w fun r w' => r = .returned (.int .i64 7) ∧ DkP w' B d mb V { s with de := true } F ∧ Vol V w w' := by
  have c3 : w.cell? ⟨d, 3, none⟩ = some (.bool true) := by rw [← hs]; exact H.blk.cell 3
  have c4 : w.cell? ⟨d, 4, none⟩ = some (.int .i64 0) := by rw [← hm]; exact H.blk.cell 4
  have f5 : w.frozen? ⟨d, 5, none⟩ = false := H.blk.frozen 5
  have c5 : w.cell? ⟨d, 5, none⟩ = some (.bool s.de) := H.blk.cell 5
  have HH := Lib.hid H
  clear H
  go_enter Try.func62, Try.ntmps62
  go_wp2_with fail
  go_ret
  have v1 : Vol (fun b => b = d) w (w.setCell ⟨d, 5, none⟩ (.bool true)) := Vol.setCell (V := fun b => b = d) (a := ⟨d, 5, none⟩) (Vol.refl w) (.inl rfl) _
  exact ⟨rfl, HH.out.scal v1 (HH.out.blk.set_ 5 (.bool true)), v1.mono (fun b e => by rw [e]; exact HH.out.vm.1)⟩
set_option maxHeartbeats 4000000 in
theorem find_no (H : DkP w B d mb V s F) (hno : ∀ (k : Nat) (x : Fi), F[k]? = some x → hitP p x = false) (hp : p.toList.isEmpty = false) (hs : s.de = false) :
    Calls Try.prog 63 #[.pointer (some ⟨d, 0, none⟩), .string p] w fun r w' => r = .returned (.tuple #[.pointer none, .int .i64 3]) ∧ Below w.heap.size w w' := by
  obtain ⟨W, hW⟩ : ∃ W, W = w.alloc (.cells #[.string p] 9) := ⟨_, rfl⟩
  have hbW : Below w.heap.size w W := by rw [hW]; exact (Below.refl _ _).alloc (Nat.le_refl _) _
  have hkW : Blk W w.heap.size 9 #[.string p] := by rw [hW]; exact Blk.new _ _ _
  have H1 := H.below hbW
  have hRf := refuse1 H1.blk hs hkW hp
  have HW := Lib.hid hW
  have HN := Lib.hid hno
  have HH := Lib.hid H1
  have HB := Lib.hid hbW
  clear hW hno H H1 hbW hkW
  go_enter Try.func63, Try.ntmps63
  go_wp2_with fail
  rw [← HW.out]
  refine hRf.mono ?_
  rintro r w1 ⟨rfl, b1⟩
  have H2 := HH.out.below b1
  have c2 : w1.cell? ⟨d, 2, none⟩ = some (.map (some mb)) := H2.blk.cell 2
  have l3 := flook_no H2 HN.out true
  clear H2 hRf
  go_wp2_with fail
  go_ret2
  exact ⟨rfl, HB.out.trans (b1.mono HB.out.size)⟩
set_option maxHeartbeats 4000000 in
theorem Fuse_ (H : DkP w B d mb V s F) (n : Nat) (hn : n ≤ 1000000) :
    Calls Try.prog 41 #[.pointer (some ⟨d, 0, none⟩), .int .i64 n] w fun r w' => (∃ u, r = .returned u) ∧ DkP w' B d mb V { s with fu := true, lf := n } F ∧ Vol V w w' := by
  have f3 : w.frozen? ⟨d, 3, none⟩ = false := H.blk.frozen 3
  have c3 : w.cell? ⟨d, 3, none⟩ = some (.bool s.fu) := H.blk.cell 3
  have c4 : (w.setCell ⟨d, 3, none⟩ (.bool true)).cell? ⟨d, 4, none⟩ = some (.int .i64 s.lf) := (H.blk.set_ 3 (.bool true)).cell 4
  have f4 : (w.setCell ⟨d, 3, none⟩ (.bool true)).frozen? ⟨d, 4, none⟩ = false := (H.blk.set_ 3 (.bool true)).frozen 4
  have k1 : max (n : Int) 0 = (n : Int) := by omega
  have HH := Lib.hid H
  clear H
  go_enter Try.func41, Try.ntmps41
  go_wp2_with fail
  go_end0
  have v1 : Vol (fun b => b = d) w ((w.setCell ⟨d, 3, none⟩ (.bool true)).setCell ⟨d, 4, none⟩ (.int .i64 n)) := Vol.setCell (V := fun b => b = d) (a := ⟨d, 4, none⟩) (Vol.setCell (V := fun b => b = d) (a := ⟨d, 3, none⟩) (Vol.refl w) (.inl rfl) _) (.inl rfl) _
  exact ⟨⟨_, rfl⟩, HH.out.scal v1 ((HH.out.blk.set_ 3 (.bool true)).set_ 4 (.int .i64 n)), v1.mono (fun b e => by rw [e]; exact HH.out.vm.1)⟩
end
end Go.Proofs.Ytplmfmcogbdpjaa.Dk
