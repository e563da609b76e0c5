/- Contracts of package path and of the plain answers of chapter 6. -/
import Derived.Test.YtnindodkcfkgoaaDoorRef2
import Derived.Test.YtnindodkcfkgoaaDoorAllSum
namespace Go.Proofs.YtnindodkcfkgoaaDoor
open Go.ChangeShapes Go.WideShapes Go.ChangeAt Go.RowKit
set_option maxRecDepth 1000000
def twS (n : Nat) : ByteArray := ⟨#[UInt8.ofNat (48 + n / 10), UInt8.ofNat (48 + n % 10)]⟩
theorem dg_1 : Known Tryd.prog (20, [.int .i64 1], .string ⟨#[48, 49]⟩) :=
  known_of (okF := ⟨fun _ => true, fun _ _ => none, summL⟩) (n := 30000) (letI : Toks := ⟨fun _ => 0⟩; ⟨(fun _ _ _ h => nomatch h), summL_ok, summL_mono⟩) mixed (by kernel_rfl) rfl rfl (by kernel_rfl)
theorem dg_2 : Known Tryd.prog (20, [.int .i64 2], .string ⟨#[48, 50]⟩) :=
  known_of (okF := ⟨fun _ => true, fun _ _ => none, summL⟩) (n := 30000) (letI : Toks := ⟨fun _ => 0⟩; ⟨(fun _ _ _ h => nomatch h), summL_ok, summL_mono⟩) mixed (by kernel_rfl) rfl rfl (by kernel_rfl)
theorem dg_3 : Known Tryd.prog (20, [.int .i64 3], .string ⟨#[48, 51]⟩) :=
  known_of (okF := ⟨fun _ => true, fun _ _ => none, summL⟩) (n := 30000) (letI : Toks := ⟨fun _ => 0⟩; ⟨(fun _ _ _ h => nomatch h), summL_ok, summL_mono⟩) mixed (by kernel_rfl) rfl rfl (by kernel_rfl)
theorem dg_4 : Known Tryd.prog (20, [.int .i64 4], .string ⟨#[48, 52]⟩) :=
  known_of (okF := ⟨fun _ => true, fun _ _ => none, summL⟩) (n := 30000) (letI : Toks := ⟨fun _ => 0⟩; ⟨(fun _ _ _ h => nomatch h), summL_ok, summL_mono⟩) mixed (by kernel_rfl) rfl rfl (by kernel_rfl)
theorem dg_5 : Known Tryd.prog (20, [.int .i64 5], .string ⟨#[48, 53]⟩) :=
  known_of (okF := ⟨fun _ => true, fun _ _ => none, summL⟩) (n := 30000) (letI : Toks := ⟨fun _ => 0⟩; ⟨(fun _ _ _ h => nomatch h), summL_ok, summL_mono⟩) mixed (by kernel_rfl) rfl rfl (by kernel_rfl)
theorem dg_6 : Known Tryd.prog (20, [.int .i64 6], .string ⟨#[48, 54]⟩) :=
  known_of (okF := ⟨fun _ => true, fun _ _ => none, summL⟩) (n := 30000) (letI : Toks := ⟨fun _ => 0⟩; ⟨(fun _ _ _ h => nomatch h), summL_ok, summL_mono⟩) mixed (by kernel_rfl) rfl rfl (by kernel_rfl)
theorem dg_7 : Known Tryd.prog (20, [.int .i64 7], .string ⟨#[48, 55]⟩) :=
  known_of (okF := ⟨fun _ => true, fun _ _ => none, summL⟩) (n := 30000) (letI : Toks := ⟨fun _ => 0⟩; ⟨(fun _ _ _ h => nomatch h), summL_ok, summL_mono⟩) mixed (by kernel_rfl) rfl rfl (by kernel_rfl)
theorem dg_8 : Known Tryd.prog (20, [.int .i64 8], .string ⟨#[48, 56]⟩) :=
  known_of (okF := ⟨fun _ => true, fun _ _ => none, summL⟩) (n := 30000) (letI : Toks := ⟨fun _ => 0⟩; ⟨(fun _ _ _ h => nomatch h), summL_ok, summL_mono⟩) mixed (by kernel_rfl) rfl rfl (by kernel_rfl)
theorem dg_9 : Known Tryd.prog (20, [.int .i64 9], .string ⟨#[48, 57]⟩) :=
  known_of (okF := ⟨fun _ => true, fun _ _ => none, summL⟩) (n := 30000) (letI : Toks := ⟨fun _ => 0⟩; ⟨(fun _ _ _ h => nomatch h), summL_ok, summL_mono⟩) mixed (by kernel_rfl) rfl rfl (by kernel_rfl)
theorem dg_10 : Known Tryd.prog (20, [.int .i64 10], .string ⟨#[49, 48]⟩) :=
  known_of (okF := ⟨fun _ => true, fun _ _ => none, summL⟩) (n := 30000) (letI : Toks := ⟨fun _ => 0⟩; ⟨(fun _ _ _ h => nomatch h), summL_ok, summL_mono⟩) mixed (by kernel_rfl) rfl rfl (by kernel_rfl)
theorem dg_11 : Known Tryd.prog (20, [.int .i64 11], .string ⟨#[49, 49]⟩) :=
  known_of (okF := ⟨fun _ => true, fun _ _ => none, summL⟩) (n := 30000) (letI : Toks := ⟨fun _ => 0⟩; ⟨(fun _ _ _ h => nomatch h), summL_ok, summL_mono⟩) mixed (by kernel_rfl) rfl rfl (by kernel_rfl)
theorem dg_12 : Known Tryd.prog (20, [.int .i64 12], .string ⟨#[49, 50]⟩) :=
  known_of (okF := ⟨fun _ => true, fun _ _ => none, summL⟩) (n := 30000) (letI : Toks := ⟨fun _ => 0⟩; ⟨(fun _ _ _ h => nomatch h), summL_ok, summL_mono⟩) mixed (by kernel_rfl) rfl rfl (by kernel_rfl)
theorem dg_13 : Known Tryd.prog (20, [.int .i64 13], .string ⟨#[49, 51]⟩) :=
  known_of (okF := ⟨fun _ => true, fun _ _ => none, summL⟩) (n := 30000) (letI : Toks := ⟨fun _ => 0⟩; ⟨(fun _ _ _ h => nomatch h), summL_ok, summL_mono⟩) mixed (by kernel_rfl) rfl rfl (by kernel_rfl)
theorem dg_14 : Known Tryd.prog (20, [.int .i64 14], .string ⟨#[49, 52]⟩) :=
  known_of (okF := ⟨fun _ => true, fun _ _ => none, summL⟩) (n := 30000) (letI : Toks := ⟨fun _ => 0⟩; ⟨(fun _ _ _ h => nomatch h), summL_ok, summL_mono⟩) mixed (by kernel_rfl) rfl rfl (by kernel_rfl)
theorem dg_15 : Known Tryd.prog (20, [.int .i64 15], .string ⟨#[49, 53]⟩) :=
  known_of (okF := ⟨fun _ => true, fun _ _ => none, summL⟩) (n := 30000) (letI : Toks := ⟨fun _ => 0⟩; ⟨(fun _ _ _ h => nomatch h), summL_ok, summL_mono⟩) mixed (by kernel_rfl) rfl rfl (by kernel_rfl)
theorem dg_16 : Known Tryd.prog (20, [.int .i64 16], .string ⟨#[49, 54]⟩) :=
  known_of (okF := ⟨fun _ => true, fun _ _ => none, summL⟩) (n := 30000) (letI : Toks := ⟨fun _ => 0⟩; ⟨(fun _ _ _ h => nomatch h), summL_ok, summL_mono⟩) mixed (by kernel_rfl) rfl rfl (by kernel_rfl)
theorem dg_17 : Known Tryd.prog (20, [.int .i64 17], .string ⟨#[49, 55]⟩) :=
  known_of (okF := ⟨fun _ => true, fun _ _ => none, summL⟩) (n := 30000) (letI : Toks := ⟨fun _ => 0⟩; ⟨(fun _ _ _ h => nomatch h), summL_ok, summL_mono⟩) mixed (by kernel_rfl) rfl rfl (by kernel_rfl)
theorem dg_18 : Known Tryd.prog (20, [.int .i64 18], .string ⟨#[49, 56]⟩) :=
  known_of (okF := ⟨fun _ => true, fun _ _ => none, summL⟩) (n := 30000) (letI : Toks := ⟨fun _ => 0⟩; ⟨(fun _ _ _ h => nomatch h), summL_ok, summL_mono⟩) mixed (by kernel_rfl) rfl rfl (by kernel_rfl)
theorem dg_19 : Known Tryd.prog (20, [.int .i64 19], .string ⟨#[49, 57]⟩) :=
  known_of (okF := ⟨fun _ => true, fun _ _ => none, summL⟩) (n := 30000) (letI : Toks := ⟨fun _ => 0⟩; ⟨(fun _ _ _ h => nomatch h), summL_ok, summL_mono⟩) mixed (by kernel_rfl) rfl rfl (by kernel_rfl)
theorem dg_20 : Known Tryd.prog (20, [.int .i64 20], .string ⟨#[50, 48]⟩) :=
  known_of (okF := ⟨fun _ => true, fun _ _ => none, summL⟩) (n := 30000) (letI : Toks := ⟨fun _ => 0⟩; ⟨(fun _ _ _ h => nomatch h), summL_ok, summL_mono⟩) mixed (by kernel_rfl) rfl rfl (by kernel_rfl)
theorem dg_21 : Known Tryd.prog (20, [.int .i64 21], .string ⟨#[50, 49]⟩) :=
  known_of (okF := ⟨fun _ => true, fun _ _ => none, summL⟩) (n := 30000) (letI : Toks := ⟨fun _ => 0⟩; ⟨(fun _ _ _ h => nomatch h), summL_ok, summL_mono⟩) mixed (by kernel_rfl) rfl rfl (by kernel_rfl)
theorem dg_22 : Known Tryd.prog (20, [.int .i64 22], .string ⟨#[50, 50]⟩) :=
  known_of (okF := ⟨fun _ => true, fun _ _ => none, summL⟩) (n := 30000) (letI : Toks := ⟨fun _ => 0⟩; ⟨(fun _ _ _ h => nomatch h), summL_ok, summL_mono⟩) mixed (by kernel_rfl) rfl rfl (by kernel_rfl)
theorem dg_23 : Known Tryd.prog (20, [.int .i64 23], .string ⟨#[50, 51]⟩) :=
  known_of (okF := ⟨fun _ => true, fun _ _ => none, summL⟩) (n := 30000) (letI : Toks := ⟨fun _ => 0⟩; ⟨(fun _ _ _ h => nomatch h), summL_ok, summL_mono⟩) mixed (by kernel_rfl) rfl rfl (by kernel_rfl)
theorem dg_24 : Known Tryd.prog (20, [.int .i64 24], .string ⟨#[50, 52]⟩) :=
  known_of (okF := ⟨fun _ => true, fun _ _ => none, summL⟩) (n := 30000) (letI : Toks := ⟨fun _ => 0⟩; ⟨(fun _ _ _ h => nomatch h), summL_ok, summL_mono⟩) mixed (by kernel_rfl) rfl rfl (by kernel_rfl)
theorem dg_any (n : Nat) (h : 1 ≤ n ∧ n ≤ 24) (w : World) : Calls Tryd.prog 20 #[.int .i64 (n : Int)] w fun e w' => e = .returned (.string (twS n)) ∧ Below w.heap.size w w' := by
  have hn : n = 1 ∨ n = 2 ∨ n = 3 ∨ n = 4 ∨ n = 5 ∨ n = 6 ∨ n = 7 ∨ n = 8 ∨ n = 9 ∨ n = 10 ∨ n = 11 ∨ n = 12 ∨ n = 13 ∨ n = 14 ∨ n = 15 ∨ n = 16 ∨ n = 17 ∨ n = 18 ∨ n = 19 ∨ n = 20 ∨ n = 21 ∨ n = 22 ∨ n = 23 ∨ n = 24 := by omega
  rcases hn with rfl | rfl | rfl | rfl | rfl | rfl | rfl | rfl | rfl | rfl | rfl | rfl | rfl | rfl | rfl | rfl | rfl | rfl | rfl | rfl | rfl | rfl | rfl | rfl
  · exact dg_1.2.2.2 w
  · exact dg_2.2.2.2 w
  · exact dg_3.2.2.2 w
  · exact dg_4.2.2.2 w
  · exact dg_5.2.2.2 w
  · exact dg_6.2.2.2 w
  · exact dg_7.2.2.2 w
  · exact dg_8.2.2.2 w
  · exact dg_9.2.2.2 w
  · exact dg_10.2.2.2 w
  · exact dg_11.2.2.2 w
  · exact dg_12.2.2.2 w
  · exact dg_13.2.2.2 w
  · exact dg_14.2.2.2 w
  · exact dg_15.2.2.2 w
  · exact dg_16.2.2.2 w
  · exact dg_17.2.2.2 w
  · exact dg_18.2.2.2 w
  · exact dg_19.2.2.2 w
  · exact dg_20.2.2.2 w
  · exact dg_21.2.2.2 w
  · exact dg_22.2.2.2 w
  · exact dg_23.2.2.2 w
  · exact dg_24.2.2.2 w
theorem tw_1 : Known Tryd.prog (21, [.int .i64 1], .string ⟨#[48, 49]⟩) :=
  known_of (okF := ⟨fun _ => true, fun _ _ => none, summL⟩) (n := 30000) (letI : Toks := ⟨fun _ => 0⟩; ⟨(fun _ _ _ h => nomatch h), summL_ok, summL_mono⟩) mixed (by kernel_rfl) rfl rfl (by kernel_rfl)
theorem tw_2 : Known Tryd.prog (21, [.int .i64 2], .string ⟨#[48, 50]⟩) :=
  known_of (okF := ⟨fun _ => true, fun _ _ => none, summL⟩) (n := 30000) (letI : Toks := ⟨fun _ => 0⟩; ⟨(fun _ _ _ h => nomatch h), summL_ok, summL_mono⟩) mixed (by kernel_rfl) rfl rfl (by kernel_rfl)
theorem tw_3 : Known Tryd.prog (21, [.int .i64 3], .string ⟨#[48, 51]⟩) :=
  known_of (okF := ⟨fun _ => true, fun _ _ => none, summL⟩) (n := 30000) (letI : Toks := ⟨fun _ => 0⟩; ⟨(fun _ _ _ h => nomatch h), summL_ok, summL_mono⟩) mixed (by kernel_rfl) rfl rfl (by kernel_rfl)
theorem tw_4 : Known Tryd.prog (21, [.int .i64 4], .string ⟨#[48, 52]⟩) :=
  known_of (okF := ⟨fun _ => true, fun _ _ => none, summL⟩) (n := 30000) (letI : Toks := ⟨fun _ => 0⟩; ⟨(fun _ _ _ h => nomatch h), summL_ok, summL_mono⟩) mixed (by kernel_rfl) rfl rfl (by kernel_rfl)
theorem tw_5 : Known Tryd.prog (21, [.int .i64 5], .string ⟨#[48, 53]⟩) :=
  known_of (okF := ⟨fun _ => true, fun _ _ => none, summL⟩) (n := 30000) (letI : Toks := ⟨fun _ => 0⟩; ⟨(fun _ _ _ h => nomatch h), summL_ok, summL_mono⟩) mixed (by kernel_rfl) rfl rfl (by kernel_rfl)
theorem tw_6 : Known Tryd.prog (21, [.int .i64 6], .string ⟨#[48, 54]⟩) :=
  known_of (okF := ⟨fun _ => true, fun _ _ => none, summL⟩) (n := 30000) (letI : Toks := ⟨fun _ => 0⟩; ⟨(fun _ _ _ h => nomatch h), summL_ok, summL_mono⟩) mixed (by kernel_rfl) rfl rfl (by kernel_rfl)
theorem tw_7 : Known Tryd.prog (21, [.int .i64 7], .string ⟨#[48, 55]⟩) :=
  known_of (okF := ⟨fun _ => true, fun _ _ => none, summL⟩) (n := 30000) (letI : Toks := ⟨fun _ => 0⟩; ⟨(fun _ _ _ h => nomatch h), summL_ok, summL_mono⟩) mixed (by kernel_rfl) rfl rfl (by kernel_rfl)
theorem tw_8 : Known Tryd.prog (21, [.int .i64 8], .string ⟨#[48, 56]⟩) :=
  known_of (okF := ⟨fun _ => true, fun _ _ => none, summL⟩) (n := 30000) (letI : Toks := ⟨fun _ => 0⟩; ⟨(fun _ _ _ h => nomatch h), summL_ok, summL_mono⟩) mixed (by kernel_rfl) rfl rfl (by kernel_rfl)
theorem tw_9 : Known Tryd.prog (21, [.int .i64 9], .string ⟨#[48, 57]⟩) :=
  known_of (okF := ⟨fun _ => true, fun _ _ => none, summL⟩) (n := 30000) (letI : Toks := ⟨fun _ => 0⟩; ⟨(fun _ _ _ h => nomatch h), summL_ok, summL_mono⟩) mixed (by kernel_rfl) rfl rfl (by kernel_rfl)
theorem tw_10 : Known Tryd.prog (21, [.int .i64 10], .string ⟨#[49, 48]⟩) :=
  known_of (okF := ⟨fun _ => true, fun _ _ => none, summL⟩) (n := 30000) (letI : Toks := ⟨fun _ => 0⟩; ⟨(fun _ _ _ h => nomatch h), summL_ok, summL_mono⟩) mixed (by kernel_rfl) rfl rfl (by kernel_rfl)
theorem tw_11 : Known Tryd.prog (21, [.int .i64 11], .string ⟨#[49, 49]⟩) :=
  known_of (okF := ⟨fun _ => true, fun _ _ => none, summL⟩) (n := 30000) (letI : Toks := ⟨fun _ => 0⟩; ⟨(fun _ _ _ h => nomatch h), summL_ok, summL_mono⟩) mixed (by kernel_rfl) rfl rfl (by kernel_rfl)
theorem tw_12 : Known Tryd.prog (21, [.int .i64 12], .string ⟨#[49, 50]⟩) :=
  known_of (okF := ⟨fun _ => true, fun _ _ => none, summL⟩) (n := 30000) (letI : Toks := ⟨fun _ => 0⟩; ⟨(fun _ _ _ h => nomatch h), summL_ok, summL_mono⟩) mixed (by kernel_rfl) rfl rfl (by kernel_rfl)
theorem tw_13 : Known Tryd.prog (21, [.int .i64 13], .string ⟨#[49, 51]⟩) :=
  known_of (okF := ⟨fun _ => true, fun _ _ => none, summL⟩) (n := 30000) (letI : Toks := ⟨fun _ => 0⟩; ⟨(fun _ _ _ h => nomatch h), summL_ok, summL_mono⟩) mixed (by kernel_rfl) rfl rfl (by kernel_rfl)
theorem tw_14 : Known Tryd.prog (21, [.int .i64 14], .string ⟨#[49, 52]⟩) :=
  known_of (okF := ⟨fun _ => true, fun _ _ => none, summL⟩) (n := 30000) (letI : Toks := ⟨fun _ => 0⟩; ⟨(fun _ _ _ h => nomatch h), summL_ok, summL_mono⟩) mixed (by kernel_rfl) rfl rfl (by kernel_rfl)
theorem tw_15 : Known Tryd.prog (21, [.int .i64 15], .string ⟨#[49, 53]⟩) :=
  known_of (okF := ⟨fun _ => true, fun _ _ => none, summL⟩) (n := 30000) (letI : Toks := ⟨fun _ => 0⟩; ⟨(fun _ _ _ h => nomatch h), summL_ok, summL_mono⟩) mixed (by kernel_rfl) rfl rfl (by kernel_rfl)
theorem tw_16 : Known Tryd.prog (21, [.int .i64 16], .string ⟨#[49, 54]⟩) :=
  known_of (okF := ⟨fun _ => true, fun _ _ => none, summL⟩) (n := 30000) (letI : Toks := ⟨fun _ => 0⟩; ⟨(fun _ _ _ h => nomatch h), summL_ok, summL_mono⟩) mixed (by kernel_rfl) rfl rfl (by kernel_rfl)
theorem tw_17 : Known Tryd.prog (21, [.int .i64 17], .string ⟨#[49, 55]⟩) :=
  known_of (okF := ⟨fun _ => true, fun _ _ => none, summL⟩) (n := 30000) (letI : Toks := ⟨fun _ => 0⟩; ⟨(fun _ _ _ h => nomatch h), summL_ok, summL_mono⟩) mixed (by kernel_rfl) rfl rfl (by kernel_rfl)
theorem tw_18 : Known Tryd.prog (21, [.int .i64 18], .string ⟨#[49, 56]⟩) :=
  known_of (okF := ⟨fun _ => true, fun _ _ => none, summL⟩) (n := 30000) (letI : Toks := ⟨fun _ => 0⟩; ⟨(fun _ _ _ h => nomatch h), summL_ok, summL_mono⟩) mixed (by kernel_rfl) rfl rfl (by kernel_rfl)
theorem tw_19 : Known Tryd.prog (21, [.int .i64 19], .string ⟨#[49, 57]⟩) :=
  known_of (okF := ⟨fun _ => true, fun _ _ => none, summL⟩) (n := 30000) (letI : Toks := ⟨fun _ => 0⟩; ⟨(fun _ _ _ h => nomatch h), summL_ok, summL_mono⟩) mixed (by kernel_rfl) rfl rfl (by kernel_rfl)
theorem tw_20 : Known Tryd.prog (21, [.int .i64 20], .string ⟨#[50, 48]⟩) :=
  known_of (okF := ⟨fun _ => true, fun _ _ => none, summL⟩) (n := 30000) (letI : Toks := ⟨fun _ => 0⟩; ⟨(fun _ _ _ h => nomatch h), summL_ok, summL_mono⟩) mixed (by kernel_rfl) rfl rfl (by kernel_rfl)
theorem tw_21 : Known Tryd.prog (21, [.int .i64 21], .string ⟨#[50, 49]⟩) :=
  known_of (okF := ⟨fun _ => true, fun _ _ => none, summL⟩) (n := 30000) (letI : Toks := ⟨fun _ => 0⟩; ⟨(fun _ _ _ h => nomatch h), summL_ok, summL_mono⟩) mixed (by kernel_rfl) rfl rfl (by kernel_rfl)
theorem tw_22 : Known Tryd.prog (21, [.int .i64 22], .string ⟨#[50, 50]⟩) :=
  known_of (okF := ⟨fun _ => true, fun _ _ => none, summL⟩) (n := 30000) (letI : Toks := ⟨fun _ => 0⟩; ⟨(fun _ _ _ h => nomatch h), summL_ok, summL_mono⟩) mixed (by kernel_rfl) rfl rfl (by kernel_rfl)
theorem tw_23 : Known Tryd.prog (21, [.int .i64 23], .string ⟨#[50, 51]⟩) :=
  known_of (okF := ⟨fun _ => true, fun _ _ => none, summL⟩) (n := 30000) (letI : Toks := ⟨fun _ => 0⟩; ⟨(fun _ _ _ h => nomatch h), summL_ok, summL_mono⟩) mixed (by kernel_rfl) rfl rfl (by kernel_rfl)
theorem tw_24 : Known Tryd.prog (21, [.int .i64 24], .string ⟨#[50, 52]⟩) :=
  known_of (okF := ⟨fun _ => true, fun _ _ => none, summL⟩) (n := 30000) (letI : Toks := ⟨fun _ => 0⟩; ⟨(fun _ _ _ h => nomatch h), summL_ok, summL_mono⟩) mixed (by kernel_rfl) rfl rfl (by kernel_rfl)
theorem tw_any (n : Nat) (h : 1 ≤ n ∧ n ≤ 24) (w : World) : Calls Tryd.prog 21 #[.int .i64 (n : Int)] w fun e w' => e = .returned (.string (twS n)) ∧ Below w.heap.size w w' := by
  have hn : n = 1 ∨ n = 2 ∨ n = 3 ∨ n = 4 ∨ n = 5 ∨ n = 6 ∨ n = 7 ∨ n = 8 ∨ n = 9 ∨ n = 10 ∨ n = 11 ∨ n = 12 ∨ n = 13 ∨ n = 14 ∨ n = 15 ∨ n = 16 ∨ n = 17 ∨ n = 18 ∨ n = 19 ∨ n = 20 ∨ n = 21 ∨ n = 22 ∨ n = 23 ∨ n = 24 := by omega
  rcases hn with rfl | rfl | rfl | rfl | rfl | rfl | rfl | rfl | rfl | rfl | rfl | rfl | rfl | rfl | rfl | rfl | rfl | rfl | rfl | rfl | rfl | rfl | rfl | rfl
  · exact tw_1.2.2.2 w
  · exact tw_2.2.2.2 w
  · exact tw_3.2.2.2 w
  · exact tw_4.2.2.2 w
  · exact tw_5.2.2.2 w
  · exact tw_6.2.2.2 w
  · exact tw_7.2.2.2 w
  · exact tw_8.2.2.2 w
  · exact tw_9.2.2.2 w
  · exact tw_10.2.2.2 w
  · exact tw_11.2.2.2 w
  · exact tw_12.2.2.2 w
  · exact tw_13.2.2.2 w
  · exact tw_14.2.2.2 w
  · exact tw_15.2.2.2 w
  · exact tw_16.2.2.2 w
  · exact tw_17.2.2.2 w
  · exact tw_18.2.2.2 w
  · exact tw_19.2.2.2 w
  · exact tw_20.2.2.2 w
  · exact tw_21.2.2.2 w
  · exact tw_22.2.2.2 w
  · exact tw_23.2.2.2 w
  · exact tw_24.2.2.2 w
def inR (n : Int) : Bool := decide (1 ≤ n) && decide (n ≤ 24)
theorem right_any (n : Int) (w : World) : Calls Tryd.prog 19 #[.int .i64 n] w fun e w' => e = .returned (.bool (inR n)) ∧ w = w' := by
  unfold inR
  by_cases h : 1 ≤ n
  all_goals
    go_enter Tryd.func19, Tryd.ntmps19
    go_wp2
    go_ret
    exact ⟨ret_bool (by first | (simp [h]; done) | (rw [decide_eq_false (show ¬ (1 ≤ n) by omega)]; rfl)), rfl⟩
theorem two_any (n : Int) (w : World) : Calls Tryd.prog 21 #[.int .i64 n] w fun e w' => e = .returned (.string (if inR n then twS n.toNat else ⟨#[]⟩)) ∧ Below w.heap.size w w' := by
  by_cases h : 1 ≤ n ∧ n ≤ 24
  · obtain ⟨m, rfl⟩ := Int.eq_ofNat_of_zero_le (show 0 ≤ n by omega)
    have hi : inR (m : Int) = true := by unfold inR; simp; omega
    rw [hi]
    exact tw_any m (by omega) w
  · have hi : inR n = false := by unfold inR; rw [← Bool.decide_and, decide_eq_false h]
    rw [hi]
    by_cases h1 : n < 1
    · go_enter Tryd.func21, Tryd.ntmps21
      go_wp2
      go_ret
      exact ⟨rfl, Below.refl _ _⟩
    · have h2 : 24 < n := by omega
      go_enter Tryd.func21, Tryd.ntmps21
      go_wp2
      go_ret
      exact ⟨rfl, Below.refl _ _⟩
end Go.Proofs.YtnindodkcfkgoaaDoor
