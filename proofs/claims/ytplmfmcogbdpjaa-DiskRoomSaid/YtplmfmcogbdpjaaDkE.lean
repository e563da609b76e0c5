/- What DiskRoom wants besides: names compared, bytes made, a disk of any quota. -/
import Derived.Test.YtplmfmcogbdpjaaDkD
import Derived.Test.YtplmfmcogbdpjaaDk7
namespace Go.Proofs.Ytplmfmcogbdpjaa.Dk
open Go Go.RowKit Go.Proofs.Ytplmfmcogbdpjaa Go.Proofs.Ytplmfmcogbdpjaa.Crw Go.Proofs.Ytplmfmcogbdpjaa.Vl Go.ChangeShapes Go.WideShapes Go.ChangeAt
set_option linter.unusedVariables false
set_option maxRecDepth 100000
section
variable {w w' : World} {B d mb : Nat} {U V : Nat → Prop} {s s' : Ds} {F : List Fi} {p q : ByteArray}
set_option maxHeartbeats 4000000 in
theorem SameS1 {u g c c' B1 B2 : Nat} (hu : w.ownsRow B1 9 1 (.slice (some ⟨u, 0, none⟩) 1 c) 1 [.string p]) (hg : Blk w g 9 #[.string p]) :
    Calls Try.prog 21 #[.slice (some ⟨u, 0, none⟩) 1 c, .slice (some ⟨g, 0, none⟩) 1 c'] w fun r w' => r = .returned (.bool true) ∧ Below w.heap.size w w' := by
  have hr := own_reads hu
  have e2 : (p.toList == p.toList) = true := by simp
  go_enter Try.func21, Try.ntmps21
  go_wp2_with fail
  go_loopw [5] (fun i wr => (i = .int .i64 0 ∨ i = .int .i64 1) ∧ Below w.heap.size w wr) (fun i _ => 2 - (intOf i).toNat)
  case atStart => exact ⟨.inl rfl, Below.refl _ _⟩
  case round =>
    obtain ⟨rfl | rfl, hbel⟩ := hrel
    · have c1 : wr.cell? ⟨g, 0, none⟩ = some (.string p) := (hg.below hbel hg.lt).cell 0
      have c2 : wr.cell? ⟨u, 0, none⟩ = some (.string p) := by
        have h := reads_vol (U := fun _ => False) hr (Nat.le_refl _) (Vol.of_below hbel) (fun _ _ h => h)
        obtain ⟨ad, e, _, hc⟩ := h.2 (by omega)
        injection e with e
        subst e
        exact hc 0 _ rfl
      clear hu hg hr
      go_wp2
      go_quiet (fail)
      go_wp2
      go_roundw
      case rel => exact ⟨.inr (by go_num), below_drewN hbel _⟩
      case measure => simp [intOf]
    · clear hu hg hr
      go_wp2
      go_ret
      exact ⟨rfl, hbel⟩
theorem made_zeros (n : Nat) : (madeCells #[.int .u8 0] n).toList = bsV (List.replicate n 0) := by
  rw [toList_madeCells_one]
  simp [bsV]
theorem reads_mk (w : World) (n : Nat) : Reads (w.alloc (.cells (madeCells #[.int .u8 0] n) 5)) (w.alloc (.cells (madeCells #[.int .u8 0] n) 5)).heap.size 1 (some ⟨w.heap.size, 0, none⟩) n (bsV (List.replicate n 0)) := by
  have hb := Blk.new w 5 (madeCells #[.int .u8 0] n)
  refine ⟨by simp [bsV], fun _ => ⟨_, rfl, hb.lt, fun j u hu => ?_⟩⟩
  have e : ((⟨w.heap.size, 0, none⟩ : Addr).add j) = ⟨w.heap.size, j, none⟩ := by unfold Addr.add; split <;> simp_all
  rw [e, hb.cell j, ← Array.getElem?_toList, made_zeros]
  exact hu
theorem mk_made (n : Nat) (hn : n ≤ 1000000) : ∀ W, (Instr.makeSlice 28 (.int .i64 (n : Int)) (.int .i64 (n : Int))).run Try.prog W = .ok (.slice (some ⟨W.heap.size, 0, none⟩) n n) (W.alloc (.cells (madeCells #[.int .u8 0] n) 5)) := fun W => by
  obtain ⟨i0, hi, hz0, hz1, hz2⟩ := info_parts byte_infoD
  have h := run_make_rowN (P := Try.prog) 28 5 i0 (.int .u8 0) Try.underlying28 hi hz0 .i64 .i64 n n (by omega) (by rw [hz2]; omega) (by omega) W
  rw [hz1, Nat.mul_one] at h
  exact h
set_option maxHeartbeats 4000000 in
theorem New_g (a m q : Int) (h1 : max a 0 = m) (h2 : min m 65536 = q) (w : World) :
    Calls Try.prog 14 #[.int .i64 a] w fun r w' => ∃ d mb V, r = .returned (.pointer (some ⟨d, 0, none⟩)) ∧ DkP w' w.heap.size d mb V ⟨q, 0, false, 0, false⟩ [] ∧ Below w.heap.size w w' := by
  have hmk : ∀ w1, (Instr.makeMap 78 none).run Try.prog w1 = .ok (.map (some w1.heap.size)) (w1.alloc (.map #[] 0)) := fun w1 => run_makeMap_plain w1 _
  go_enter Try.func14, Try.ntmps14
  go_wp2_with fail
  go_ret
  have hb1 : Below w.heap.size w (w.alloc (.map #[] 0)) := (Below.refl _ _).alloc (Nat.le_refl _) _
  have hs1 : (w.alloc (.map #[] 0)).heap.size = w.heap.size + 1 := by simp
  have hb2 : ∀ o, Below w.heap.size w ((w.alloc (.map #[] 0)).alloc o) := fun o => hb1.alloc (by rw [hs1]; omega) _
  have hb3 : ∀ o, Below (w.alloc (.map #[] 0)).heap.size (w.alloc (.map #[] 0)) ((w.alloc (.map #[] 0)).alloc o) := fun o => (Below.refl _ _).alloc (Nat.le_refl _) _
  have hs2 : ∀ o, ((w.alloc (.map #[] 0)).alloc o).heap.size = w.heap.size + 2 := fun o => by simp
  refine ⟨(w.alloc (.map #[] 0)).heap.size, w.heap.size, fun b => b = w.heap.size ∨ b = w.heap.size + 1, by rw [hs1]; rfl, ⟨Blk.new _ _ _, ?_, ?_, ?_, ?_, ?_, ?_, ⟨.inr hs1, .inl rfl⟩, ?_, ?_, ?_⟩, hb2 _⟩
  · exact (MapB.made w).keep ((hb3 _).block _ (by rw [hs1]; omega))
  · intro k x hx; cases hx
  · intro k x hx; cases hx
  · intro j k x y hx; cases hx
  · intro j k x y hx; cases hx
  · intro j k x y hx; cases hx
  · intro k x hx; cases hx
  · intro b hb
    rw [hs2]
    omega
  · intro b hb
    omega
end
end Go.Proofs.Ytplmfmcogbdpjaa.Dk
