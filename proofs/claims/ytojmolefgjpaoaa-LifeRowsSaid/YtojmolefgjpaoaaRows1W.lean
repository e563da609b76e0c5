/- The walk of LifeRows: the executor finds it true, rest by rest. -/
import Derived.Test.YtojmolefgjpaoaaOver
namespace Go.Proofs.Ytojmolefgjpaoaa.lifeRows
open Go.ChangeShapes Go.WideShapes Go.ChangeAt Go.RowKit
def chk (P : Program) (r0 : Nat) (r1 : Nat) (r2 : Nat) (a1 : Bool) : Bool := yes (xcall P ⟨fun _ => true, overW [(0, 4, (r0 : Int)), (2, 1, (r1 : Int)), (2, 2, (r2 : Int))]⟩ 3000 8 [.chan (some 0), .bool a1, .chan (some 2)] h0)
set_option maxRecDepth 1000000
theorem all_ok : ((List.range 4).all fun r0 => (List.range 1).all fun r1 => (List.range 2).all fun r2 => [true, false].all fun a1 => chk Try.prog r0 r1 r2 a1) = true := by kernel_rfl
theorem walk (a0 : Int) (a1 : Bool) (a2 : Int) (w : World) (b0 : -9223372036854775808 ≤ a0 ∧ a0 ≤ 9223372036854775807) (b2 : -9223372036854775808 ≤ a2 ∧ a2 ≤ 9223372036854775807) :
    Calls Try.prog 8 #[.int .i64 a0, .bool a1, .int .i64 a2] w fun e w' => e = .returned (.bool true) ∧ Below w.heap.size w w' := by
  letI : Toks := ⟨fun k => if k = 0 then a0 else if k = 2 then a2 else 0⟩
  obtain ⟨r0, h0, e0⟩ : ∃ r : Nat, r < 4 ∧ a0 % 4 = r := ⟨(a0 % 4).toNat, by omega, by omega⟩
  obtain ⟨r1, h1, e1⟩ : ∃ r : Nat, r < 1 ∧ a2 % 1 = r := ⟨(a2 % 1).toNat, by omega, by omega⟩
  obtain ⟨r2, h2, e2⟩ : ∃ r : Nat, r < 2 ∧ a2 % 2 = r := ⟨(a2 % 2).toNat, by omega, by omega⟩
  have hc : chk Try.prog r0 r1 r2 a1 = true := by
    have h := all_ok
    simp only [List.all_eq_true] at h
    exact h r0 (List.mem_range.2 h0) r1 (List.mem_range.2 h1) r2 (List.mem_range.2 h2) a1 (by cases a1 <;> simp)
  refine top_ok (overW_ok [(0, 4, (r0 : Int)), (2, 1, (r1 : Int)), (2, 2, (r2 : Int))] (fun k => ?_) fun q hq => ?_) mixed 3000 w ?_ hc
  · show -9223372036854775808 ≤ (if k = 0 then a0 else if k = 2 then a2 else 0 : Int) ∧ (if k = 0 then a0 else if k = 2 then a2 else 0 : Int) ≤ 9223372036854775807
    repeat (first | split | omega)
  · simp only [List.mem_cons, List.not_mem_nil, or_false] at hq
    rcases hq with rfl | rfl | rfl
    · exact ⟨(by show (1 : Int) ≤ 4; decide), (by show (4 : Int) ≤ 9223372036854775807; decide), e0⟩
    · exact ⟨(by show (1 : Int) ≤ 1; decide), (by show (1 : Int) ≤ 9223372036854775807; decide), e1⟩
    · exact ⟨(by show (1 : Int) ≤ 2; decide), (by show (2 : Int) ≤ 9223372036854775807; decide), e2⟩
  · exact .cons (rfl) (.cons (VR.flat rfl) (.cons (rfl) .nil))
end Go.Proofs.Ytojmolefgjpaoaa.lifeRows
