/- The walk of KeepOwn: the executor finds it true, case by case. -/
import Derived.Test.YtpjhjjdhibnciaaGreatDoorKOW0
namespace Go.Proofs.YtpjhjjdhibnciaaGreatDoor.keepOwn
open Go.ChangeShapes Go.WideShapes Go.ChangeAt Go.RowKit
theorem walk (a0 : Int) (w : World) (b0 : -9223372036854775808 ≤ a0 ∧ a0 ≤ 9223372036854775807) :
    Calls Tryz.prog 5 #[.int .i64 a0] w fun e w' => e = .returned (.bool true) ∧ Below w.heap.size w w' := by
  letI : Toks := ⟨fun k => if k = 0 then a0 else if k = 100 then a0 % 9 else 0⟩
  obtain ⟨c0, h0, e0⟩ := cover_get (t := 100) (n := 9) (l := cov0) (by kernel_rfl) (a := a0) (by decide) rfl
  have hc : chk Tryz.prog c0 = true := by
    have h := all0_0
    simp only [List.all_eq_true] at h
    exact h c0 h0
  refine top_plain (okF := cfg c0) tabAll_ok ⟨overW_ok [(0, 9, caseV 100 c0)] (fun q hq => ?_) fun q hq => ?_, summAll_ok, summAll_mono⟩ mixed 3000 60 w ?_ hc
  · simp only [List.mem_cons, List.not_mem_nil, or_false] at hq
    rcases hq with rfl
    exact b0
  · simp only [List.mem_cons, List.not_mem_nil, or_false] at hq
    rcases hq with rfl
    exact ⟨(by show (1 : Int) ≤ 9; decide), (by show (9 : Int) ≤ 9223372036854775807; decide), e0⟩
  · exact .cons (rfl) .nil
end Go.Proofs.YtpjhjjdhibnciaaGreatDoor.keepOwn
