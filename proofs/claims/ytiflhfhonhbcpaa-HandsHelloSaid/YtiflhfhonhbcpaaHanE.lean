/- The hands: which process is it? -/
import Derived.Test.YtiflhfhonhbcpaaHanD
import Derived.Laws.StructEq
namespace Go.Proofs.Ytiflhfhonhbcpaa.Han
open Go Go.RowKit Go.Proofs.Ytiflhfhonhbcpaa Go.Proofs.Ytiflhfhonhbcpaa.Crw Go.Proofs.Ytiflhfhonhbcpaa.Mas Go.ChangeShapes Go.WideShapes Go.ChangeAt
set_option linter.unusedVariables false
set_option maxRecDepth 100000
section
variable {w w' : World} {B h xb sb kb : Nat} {V U : Nat → Prop} {R : List Pr} {S : List Int} {v : Value}
set_option maxHeartbeats 4000000 in
theorem Is_run {g gr : Nat} {m n : Int} (hp : Blk w g 98 (prC m)) (hk : Blk w gr 90 #[.string rF, .string rE, .int .i64 n]) :
    Calls Try.prog 67 #[.pointer (some ⟨g, 0, none⟩), .pointer (some ⟨gr, 0, none⟩)] w fun r w' => r = .returned (.bool (m == n)) ∧ ∃ k, w' = w.drewN k := by
  have p0 : w.cell? ⟨g, 0, none⟩ = some (.string rF) := hp.cell 0
  have p1 : w.cell? ⟨g, 1, none⟩ = some (.string rE) := hp.cell 1
  have p2 : w.cell? ⟨g, 2, none⟩ = some (.int .i64 m) := hp.cell 2
  have k0 : w.cell? ⟨gr, 0, none⟩ = some (.string rF) := hk.cell 0
  have k1 : w.cell? ⟨gr, 1, none⟩ = some (.string rE) := hk.cell 1
  have k2 : w.cell? ⟨gr, 2, none⟩ = some (.int .i64 n) := hk.cell 2
  clear hp hk
  by_cases e : m = n
  · subst e
    go_enter Try.func67, Try.ntmps67
    go_wp2_with fail
    go_quiet (fail)
    go_wp2_with fail
    go_ret
    exact ⟨by simp, _, rfl⟩
  · have e2 : (m == n) = false := by simpa using e
    rw [e2]
    go_enter Try.func67, Try.ntmps67
    go_wp2_with fail
    go_quiet (fail)
    go_wp2_with fail
    go_ret
    exact ⟨rfl, _, rfl⟩
set_option maxHeartbeats 8000000 in
/-- Where a run's process stands. -/
theorem Index_run (hrow : w.ownsRow B 94 1 v R.length (R.map ptr)) (hprs : ∀ (k : Nat) (p : Pr), R[k]? = some p → Blk w p.g 98 (prC p.n)) (hu : ∀ (j k : Nat) (p q : Pr), R[j]? = some p → R[k]? = some q → p.n = q.n → j = k) {gr : Nat} {n : Int} (hk : Blk w gr 90 #[.string rF, .string rE, .int .i64 n]) (hl : R.length ≤ 100) {j : Nat} {p : Pr} (hj : R[j]? = some p) (hp : p.n = n) :
    Calls Try.prog 66 #[v, .func (.func 67) #[] #[.pointer (some ⟨gr, 0, none⟩)]] w fun r w' => r = .returned (.int .i64 j) ∧ ∃ k, w' = w.drewN k := by
  obtain ⟨A0, c0, rfl, hc0, -⟩ := own_slice hrow
  have hjl := (List.getElem?_eq_some_iff.1 hj).1
  obtain ⟨u, rfl⟩ := own_some hrow (by omega)
  obtain ⟨L, hL⟩ : ∃ L, L = R.length := ⟨_, rfl⟩
  rw [← hL] at hrow hc0 hl hjl ⊢
  have HH := Lib.hid (And.intro hprs (And.intro hu hk))
  have HR := Lib.hid hrow
  have HL := Lib.hid hL
  have HJ := Lib.hid hj
  have HP := Lib.hid hp
  clear hprs hu hk hrow hL hj hp
  go_enter Try.func66, Try.ntmps66
  go_wp2_with fail
  go_loopw [8] (fun vi wx => Hid (∃ i k : Nat, vi = .int .i64 i ∧ i ≤ j ∧ wx = w.drewN k)) (fun vi _ => j + 1 - (intOf vi).toNat)
  case atStart => exact Lib.hid ⟨0, 0, rfl, by omega, rfl⟩
  case round =>
    obtain ⟨i, k, rfl, hi, rfl⟩ := hrel.out
    clear hrel
    have hlt : (i : Int) < L := by omega
    obtain ⟨q, hq⟩ : ∃ q, R[i]? = some q := ⟨R[i]'(by have := HL.out; omega), List.getElem?_eq_getElem _⟩
    have ci : (w.drewN k).cell? ⟨u, i, none⟩ = some (ptr q) := (HR.out.cellAt i (by omega)).trans (by rw [List.getElem?_map, hq]; rfl)
    have hC := Is_run ((HH.out.1 i q hq).drewN k) (HH.out.2.2.drewN k)
    by_cases e : q.n = n
    · have hij : Hid (i = j) := Lib.hid (HH.out.2.1 i j q p hq HJ.out (e.trans HP.out.symm))
      have e2 : (q.n == n) = true := by simpa using e
      rw [e2] at hC
      clear e e2 hq
      go_wp2_with (go_at_call 67; refine hC.mono ?_; rintro r w1 ⟨rfl, k1, rfl⟩)
      go_ret
      exact ⟨by have h := hij.out; subst h; rfl, _, rfl⟩
    · have hij : i ≠ j := by
        rintro rfl
        rw [HJ.out] at hq
        injection hq with hq
        rw [← hq] at e
        exact e HP.out
      have e2 : (q.n == n) = false := by simpa using e
      rw [e2] at hC
      clear e e2 hq
      go_wp2_with (go_at_call 67; refine hC.mono ?_; rintro r w1 ⟨rfl, k1, rfl⟩)
      refine ⟨?_, by simp [intOf]; omega⟩
      exact Lib.hid ⟨i + 1, k + k1, by simp, by omega, rfl⟩
end
end Go.Proofs.Ytiflhfhonhbcpaa.Han
