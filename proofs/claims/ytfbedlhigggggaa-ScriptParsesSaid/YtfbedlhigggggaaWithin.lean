/- The contract of hostlerkeep.Within: any number as one from 0 to n - 1. -/
import Derived.Test.YtfbedlhigggggaaRows
import Derived.Test.YtfbedlhigggggaaBase
namespace Go.Proofs.Ytfbedlhigggggaa
open Go.ChangeShapes Go.WideShapes Go.ChangeAt Go.RowKit
set_option maxHeartbeats 400000 in
theorem Within_any (v n : Int) (w : World) (hv : -9223372036854775808 ≤ v) (hv' : v ≤ 9223372036854775807) (hn : 1 ≤ n) (hn' : n ≤ 9223372036854775807) :
    Calls Try.prog 12 #[.int .i64 v, .int .i64 n] w fun e w' => e = .returned (.int .i64 (v % n)) ∧ w = w' := by
  have h1 := Int.emod_nonneg v (show n ≠ 0 by omega)
  have h2 := Int.emod_lt_of_pos v (show 0 < n by omega)
  by_cases h : 0 ≤ v
  · go_enter Try.func12, Try.ntmps12
    go_wp2
    go_ret
    exact ⟨rfl, rfl⟩
  · have hb := tmod_neg_lo v n (by omega) hn
    by_cases h0 : v.tmod n < 0
    · have he : v.tmod n + n = v % n := by have := tmod_neg_emod v n (by omega) hn; omega
      have He := Lib.hid he
      clear he
      go_enter Try.func12, Try.ntmps12
      go_wp2
      go_ret
      exact ⟨ret_int He.out, rfl⟩
    · have he : v.tmod n = v % n := by have := tmod_neg_emod v n (by omega) hn; omega
      have He := Lib.hid he
      clear he
      go_enter Try.func12, Try.ntmps12
      go_wp2
      go_ret
      exact ⟨ret_int He.out, rfl⟩
end Go.Proofs.Ytfbedlhigggggaa
