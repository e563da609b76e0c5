/- The walk of KeepCorrupt: the executor finds it true, case by case. -/
import Derived.Test.YtpjhjjdhibnciaaGreatDoorKCW0
namespace Go.Proofs.YtpjhjjdhibnciaaGreatDoor.keepCorrupt
open Go.ChangeShapes Go.WideShapes Go.ChangeAt Go.RowKit
set_option linter.unusedVariables false
theorem walk (a0 : Int) (a1 : Int) (w : World) (b0 : -9223372036854775808 ≤ a0 ∧ a0 ≤ 9223372036854775807) (b1 : -9223372036854775808 ≤ a1 ∧ a1 ≤ 9223372036854775807) :
    Calls Tryz.prog 6 #[.int .i64 a0, .int .i64 a1] w fun e w' => e = .returned (.bool true) ∧ Below w.heap.size w w' := by
  letI : Toks := ⟨fun k => if k = 0 then a0 else if k = 1 then a1 else if k = 100 then a0 % 7 else 0⟩
  obtain ⟨c0, h0, e0⟩ := cover_get (t := 100) (n := 7) (l := cov0) (by kernel_rfl) (a := a0) (by decide) rfl
  have hc : chk Tryz.prog c0 = true := by
    have h := all0_0
    simp only [List.all_eq_true] at h
    exact h c0 h0
  refine top_plain (okF := cfg c0) tabAll_ok ⟨overW_ok [(0, 7, caseV 100 c0)] (fun q hq => ?_) fun q hq => ?_, summAll_ok, summAll_mono⟩ mixed 3000 60 w ?_ hc
  · simp only [List.mem_cons, List.not_mem_nil, or_false] at hq
    rcases hq with rfl
    exact b0
  · simp only [List.mem_cons, List.not_mem_nil, or_false] at hq
    rcases hq with rfl
    exact ⟨(by show (1 : Int) ≤ 7; decide), (by show (7 : Int) ≤ 9223372036854775807; decide), e0⟩
  · exact .cons (rfl) (.cons (rfl) .nil)
end Go.Proofs.YtpjhjjdhibnciaaGreatDoor.keepCorrupt
