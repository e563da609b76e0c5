/- What the master hears, and answers. -/
import Derived.Test.YtiflhfhonhbcpaaMas5
namespace Go.Proofs.Ytiflhfhonhbcpaa.Mas
open Go Go.RowKit Go.Proofs.Ytiflhfhonhbcpaa Go.Proofs.Ytiflhfhonhbcpaa.Crw Go.ChangeShapes Go.WideShapes Go.ChangeAt
set_option linter.unusedVariables false
set_option maxRecDepth 100000
section
variable {w w' : World} {B m mb : Nat} {V U : Nat → Prop} {R : List Tk}
abbrev ackC (f t : ByteArray) (nu ep : Int) : Array Value := #[.int .i64 4, .string f, .string ⟨#[]⟩, .string t, .int .i64 0, .int .i64 0, .int .i64 nu, .int .i64 ep, .slice none 0 0]
/-- What the master is behind an update; a new block that is not its own. -/
def Heard (w : World) (B m mb : Nat) (V : Nat → Prop) (R' : List Tk → Prop) (c : Nat) (w' : World) : Prop := w.heap.size ≤ c ∧ ∃ V' R1, R' R1 ∧ MsP w' B m mb V' R1 ∧ (∀ b, V b → V' b) ∧ (∀ b, V' b → V b ∨ w.heap.size ≤ b) ∧ Vol V w w' ∧ ¬ V' c
set_option maxHeartbeats 4000000 in
theorem Hear_of (h : MsP w B m mb V R) {f t e : ByteArray} {n st nu ep : Int} {P : List Tk → Prop}
    (hN : ∀ w1, MsP w1 B m mb V R → w.heap.size ≤ w1.heap.size → Calls Try.prog 50 #[.pointer (some ⟨m, 0, none⟩), .agg (msgC f e t n st nu ep)] w1 fun r w' => r = .returned (.tuple #[]) ∧ Noted w1 B m mb V P w') :
    Calls Try.prog 18 #[.pointer (some ⟨m, 0, none⟩), .agg (msgC f e t n st nu ep)] w fun r w' => ∃ c, r = .returned (.slice (some ⟨c, 0, none⟩) 1 1) ∧ Blk w' c 30 (ackC f t nu ep) ∧ Heard w B m mb V P c w' := by
  obtain ⟨W, hW⟩ : ∃ W, W = w.alloc (.cells (msgC f e t n st nu ep) 30) := ⟨_, rfl⟩
  have hb : Below w.heap.size w W := by rw [hW]; exact (Below.refl _ _).alloc (Nat.le_refl _) _
  have hk : Blk W w.heap.size 30 (msgC f e t n st nu ep) := by rw [hW]; exact Blk.new w 30 _
  have hM := h.below hb
  have hC := hN W hM hb.size
  have p0 : W.cell? ⟨w.heap.size, 0, none⟩ = some (.int .i64 11) := hk.cell 0
  have p1 : W.cell? ⟨w.heap.size, 1, none⟩ = some (.string f) := hk.cell 1
  have p2 : W.cell? ⟨w.heap.size, 2, none⟩ = some (.string e) := hk.cell 2
  have p3 : W.cell? ⟨w.heap.size, 3, none⟩ = some (.string t) := hk.cell 3
  have p4 : W.cell? ⟨w.heap.size, 4, none⟩ = some (.int .i64 n) := hk.cell 4
  have p5 : W.cell? ⟨w.heap.size, 5, none⟩ = some (.int .i64 st) := hk.cell 5
  have p6 : W.cell? ⟨w.heap.size, 6, none⟩ = some (.int .i64 nu) := hk.cell 6
  have p7 : W.cell? ⟨w.heap.size, 7, none⟩ = some (.int .i64 ep) := hk.cell 7
  have p8 : W.cell? ⟨w.heap.size, 8, none⟩ = some (.slice none 0 0) := hk.cell 8
  have HW := Lib.hid hW
  have HB := Lib.hid hb
  have HK := Lib.hid hk
  have HH := Lib.hid h
  clear hM hW hb hk h hN
  go_enter Try.func18, Try.ntmps18
  go_upto_region 1 with fail
  rw [← HW.out]
  go_wp2_with fail
  refine hC.mono ?_
  rintro r w1 ⟨rfl, V', R1, hP, hM1, hVV, hV', hvol⟩
  have hk1 := blk_vol HK.out hvol (fun e => absurd (HH.out.lt _ e) (Nat.lt_irrefl _))
  have q1 : w1.cell? ⟨w.heap.size, 1, none⟩ = some (.string f) := hk1.cell 1
  have q3 : w1.cell? ⟨w.heap.size, 3, none⟩ = some (.string t) := hk1.cell 3
  have q6 : w1.cell? ⟨w.heap.size, 6, none⟩ = some (.int .i64 nu) := hk1.cell 6
  have q7 : w1.cell? ⟨w.heap.size, 7, none⟩ = some (.int .i64 ep) := hk1.cell 7
  have HM1 := Lib.hid hM1
  have HVL := Lib.hid hvol
  have HPR := Lib.hid hP
  clear hk1 hM1 hvol hP hC p0 p1 p2 p3 p4 p5 p6 p7 p8
  go_wp2_with fail
  go_ret
  have hsz : w.heap.size ≤ w1.heap.size := Nat.le_trans HB.out.size HVL.out.size
  refine ⟨w1.heap.size, rfl, Blk.new w1 30 (ackC f t nu ep), hsz, V', R1, HPR.out, HM1.out.below ((Below.refl _ _).alloc (Nat.le_refl _) _), hVV, fun b e => (hV' b e).imp id (fun e => Nat.le_trans HB.out.size e), ?_, fun e => absurd (HM1.out.lt _ e) (Nat.lt_irrefl _)⟩
  exact (((Vol.of_below HB.out).trans HVL.out (fun b e => .inl e))).alloc _
set_option maxHeartbeats 4000000 in
/-- An answer is no update. -/
theorem Hear_no (f t : ByteArray) (st : Int) (w : World) :
    Calls Try.prog 18 #[.pointer (some ⟨m, 0, none⟩), .agg #[.int .i64 12, .string f, .string ⟨#[]⟩, .string t, .int .i64 0, .int .i64 st, .int .i64 0, .int .i64 0, .slice none 0 0]] w fun r w' => r = .returned (.slice none 0 0) ∧ Below w.heap.size w w' := by
  go_enter Try.func18, Try.ntmps18
  go_wp2
  go_ret
  exact ⟨rfl, (Below.refl _ _).alloc (Nat.le_refl _) _⟩
theorem MNew (w : World) : Calls Try.prog 15 #[] w fun r w' => ∃ m mb V, r = .returned (.pointer (some ⟨m, 0, none⟩)) ∧ MsP w' w.heap.size m mb V [] ∧ Below w.heap.size w w' := by
  have hmm := @run_makeMap Try.prog
  go_enter Try.func15, Try.ntmps15
  go_wp2
  go_ret
  refine ⟨w.heap.size + 1, w.heap.size, fun b => b = w.heap.size ∨ b = w.heap.size + 1, by simp, ⟨?_, ?_, fun k x h => by simp at h, fun k x h => by simp at h, fun j k x y h => by simp at h, fun j k x y h => by simp at h, fun j k x y h => by simp at h, ⟨.inr rfl, .inl rfl⟩, fun k x h => by simp at h, fun b hb => by simp; omega, fun b hb => by omega⟩, ((Below.refl _ _).alloc (Nat.le_refl _) _).alloc (by simp) _⟩
  · have := Blk.new (w.alloc (.map #[] 0)) 101 #[.map (some w.heap.size)]
    simpa using this
  · exact (MapAt.made w).keep (Below.heap_alloc _ _ _ (by simp))
end
end Go.Proofs.Ytiflhfhonhbcpaa.Mas
