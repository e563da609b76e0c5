/- script.Parse of texts that are none: known, in front of its plain term. -/
import Derived.Test.YtpfloofjnpgbeaaAllSum
import Derived.Test.YtpfloofjnpgbeaaPl
namespace Go.Proofs.Ytpfloofjnpgbeaa
open Go Go.RowKit
theorem er_0 : Known Try.prog (6, [.string ⟨#[114, 117, 110, 32, 102]⟩], .tuple #[.slice none 0 0, .int .i64 2]) :=
  known_of (okF := ⟨fun _ => true, fun _ _ => none, summL⟩) (n := 30000) (letI : Toks := ⟨fun _ => 0⟩; ⟨(fun _ _ _ h => nomatch h), summL_ok, summL_mono⟩) mixed (by kernel_rfl) rfl rfl (by kernel_rfl)
theorem er_1 : Known Try.prog (6, [.string ⟨#[114, 117, 110, 32, 102, 32, 120]⟩], .tuple #[.slice none 0 0, .int .i64 2]) :=
  known_of (okF := ⟨fun _ => true, fun _ _ => none, summL⟩) (n := 30000) (letI : Toks := ⟨fun _ => 0⟩; ⟨(fun _ _ _ h => nomatch h), summL_ok, summL_mono⟩) mixed (by kernel_rfl) rfl rfl (by kernel_rfl)
theorem er_2 : Known Try.prog (6, [.string ⟨#[114, 117, 110, 32, 102, 32, 120, 32, 97, 32, 49]⟩], .tuple #[.slice none 0 0, .int .i64 2]) :=
  known_of (okF := ⟨fun _ => true, fun _ _ => none, summL⟩) (n := 30000) (letI : Toks := ⟨fun _ => 0⟩; ⟨(fun _ _ _ h => nomatch h), summL_ok, summL_mono⟩) mixed (by kernel_rfl) rfl rfl (by kernel_rfl)
theorem er_3 : Known Try.prog (6, [.string ⟨#[114, 117, 110, 32, 102, 32, 120, 32, 97, 32, 49, 32, 120]⟩], .tuple #[.slice none 0 0, .int .i64 2]) :=
  known_of (okF := ⟨fun _ => true, fun _ _ => none, summL⟩) (n := 30000) (letI : Toks := ⟨fun _ => 0⟩; ⟨(fun _ _ _ h => nomatch h), summL_ok, summL_mono⟩) mixed (by kernel_rfl) rfl rfl (by kernel_rfl)
theorem er_4 : Known Try.prog (6, [.string ⟨#[114, 117, 110, 32, 70, 32, 120, 32, 97, 32, 49, 32, 49]⟩], .tuple #[.slice none 0 0, .int .i64 2]) :=
  known_of (okF := ⟨fun _ => true, fun _ _ => none, summL⟩) (n := 30000) (letI : Toks := ⟨fun _ => 0⟩; ⟨(fun _ _ _ h => nomatch h), summL_ok, summL_mono⟩) mixed (by kernel_rfl) rfl rfl (by kernel_rfl)
theorem er_5 : Known Try.prog (6, [.string ⟨#[107, 105, 108, 108, 32, 102]⟩], .tuple #[.slice none 0 0, .int .i64 2]) :=
  known_of (okF := ⟨fun _ => true, fun _ _ => none, summL⟩) (n := 30000) (letI : Toks := ⟨fun _ => 0⟩; ⟨(fun _ _ _ h => nomatch h), summL_ok, summL_mono⟩) mixed (by kernel_rfl) rfl rfl (by kernel_rfl)
theorem er_6 : Known Try.prog (6, [.string ⟨#[107, 105, 108, 108, 32, 102, 32, 97, 32, 98]⟩], .tuple #[.slice none 0 0, .int .i64 2]) :=
  known_of (okF := ⟨fun _ => true, fun _ _ => none, summL⟩) (n := 30000) (letI : Toks := ⟨fun _ => 0⟩; ⟨(fun _ _ _ h => nomatch h), summL_ok, summL_mono⟩) mixed (by kernel_rfl) rfl rfl (by kernel_rfl)
theorem er_7 : Known Try.prog (6, [.string ⟨#[115, 104, 117, 116]⟩], .tuple #[.slice none 0 0, .int .i64 2]) :=
  known_of (okF := ⟨fun _ => true, fun _ _ => none, summL⟩) (n := 30000) (letI : Toks := ⟨fun _ => 0⟩; ⟨(fun _ _ _ h => nomatch h), summL_ok, summL_mono⟩) mixed (by kernel_rfl) rfl rfl (by kernel_rfl)
theorem er_8 : Known Try.prog (6, [.string ⟨#[97, 99, 107, 32, 102, 32, 97, 32, 49]⟩], .tuple #[.slice none 0 0, .int .i64 2]) :=
  known_of (okF := ⟨fun _ => true, fun _ _ => none, summL⟩) (n := 30000) (letI : Toks := ⟨fun _ => 0⟩; ⟨(fun _ _ _ h => nomatch h), summL_ok, summL_mono⟩) mixed (by kernel_rfl) rfl rfl (by kernel_rfl)
theorem er_9 : Known Try.prog (6, [.string ⟨#[97, 99, 107, 32, 102, 32, 97, 32, 48, 49, 32, 49]⟩], .tuple #[.slice none 0 0, .int .i64 2]) :=
  known_of (okF := ⟨fun _ => true, fun _ _ => none, summL⟩) (n := 30000) (letI : Toks := ⟨fun _ => 0⟩; ⟨(fun _ _ _ h => nomatch h), summL_ok, summL_mono⟩) mixed (by kernel_rfl) rfl rfl (by kernel_rfl)
theorem er_10 : Known Try.prog (6, [.string ⟨#[97, 115, 107]⟩], .tuple #[.slice none 0 0, .int .i64 2]) :=
  known_of (okF := ⟨fun _ => true, fun _ _ => none, summL⟩) (n := 30000) (letI : Toks := ⟨fun _ => 0⟩; ⟨(fun _ _ _ h => nomatch h), summL_ok, summL_mono⟩) mixed (by kernel_rfl) rfl rfl (by kernel_rfl)
theorem er_11 : Known Try.prog (6, [.string ⟨#[97, 115, 107, 32, 102, 32, 97, 32, 97]⟩], .tuple #[.slice none 0 0, .int .i64 2]) :=
  known_of (okF := ⟨fun _ => true, fun _ _ => none, summL⟩) (n := 30000) (letI : Toks := ⟨fun _ => 0⟩; ⟨(fun _ _ _ h => nomatch h), summL_ok, summL_mono⟩) mixed (by kernel_rfl) rfl rfl (by kernel_rfl)
theorem er_12 : Known Try.prog (6, [.string ⟨#[97, 115, 107, 32, 102, 32, 97, 32, 98, 32, 99, 32, 100, 32, 101]⟩], .tuple #[.slice none 0 0, .int .i64 2]) :=
  known_of (okF := ⟨fun _ => true, fun _ _ => none, summL⟩) (n := 30000) (letI : Toks := ⟨fun _ => 0⟩; ⟨(fun _ _ _ h => nomatch h), summL_ok, summL_mono⟩) mixed (by kernel_rfl) rfl rfl (by kernel_rfl)
theorem er_13 : Known Try.prog (6, [.string ⟨#[119, 101, 108, 99, 111, 109, 101, 32, 120]⟩], .tuple #[.slice none 0 0, .int .i64 2]) :=
  known_of (okF := ⟨fun _ => true, fun _ _ => none, summL⟩) (n := 30000) (letI : Toks := ⟨fun _ => 0⟩; ⟨(fun _ _ _ h => nomatch h), summL_ok, summL_mono⟩) mixed (by kernel_rfl) rfl rfl (by kernel_rfl)
theorem er_14 : Known Try.prog (6, [.string ⟨#[104, 101, 108, 108, 111, 32, 102, 32, 120]⟩], .tuple #[.slice none 0 0, .int .i64 2]) :=
  known_of (okF := ⟨fun _ => true, fun _ _ => none, summL⟩) (n := 30000) (letI : Toks := ⟨fun _ => 0⟩; ⟨(fun _ _ _ h => nomatch h), summL_ok, summL_mono⟩) mixed (by kernel_rfl) rfl rfl (by kernel_rfl)
theorem er_15 : Known Try.prog (6, [.string ⟨#[114, 101, 112, 111, 114, 116, 32, 102, 32, 120, 32, 49, 32, 97]⟩], .tuple #[.slice none 0 0, .int .i64 2]) :=
  known_of (okF := ⟨fun _ => true, fun _ _ => none, summL⟩) (n := 30000) (letI : Toks := ⟨fun _ => 0⟩; ⟨(fun _ _ _ h => nomatch h), summL_ok, summL_mono⟩) mixed (by kernel_rfl) rfl rfl (by kernel_rfl)
theorem er_16 : Known Try.prog (6, [.string ⟨#[114, 101, 112, 111, 114, 116, 32, 102, 32, 120, 32, 49, 32, 97, 32, 48]⟩], .tuple #[.slice none 0 0, .int .i64 2]) :=
  known_of (okF := ⟨fun _ => true, fun _ _ => none, summL⟩) (n := 30000) (letI : Toks := ⟨fun _ => 0⟩; ⟨(fun _ _ _ h => nomatch h), summL_ok, summL_mono⟩) mixed (by kernel_rfl) rfl rfl (by kernel_rfl)
theorem er_17 : Known Try.prog (6, [.string ⟨#[103, 111, 110, 101, 32, 102, 32, 120]⟩], .tuple #[.slice none 0 0, .int .i64 2]) :=
  known_of (okF := ⟨fun _ => true, fun _ _ => none, summL⟩) (n := 30000) (letI : Toks := ⟨fun _ => 0⟩; ⟨(fun _ _ _ h => nomatch h), summL_ok, summL_mono⟩) mixed (by kernel_rfl) rfl rfl (by kernel_rfl)
theorem er_18 : Known Try.prog (6, [.string ⟨#[114, 101, 103, 105, 115, 116, 101, 114, 32, 49]⟩], .tuple #[.slice none 0 0, .int .i64 2]) :=
  known_of (okF := ⟨fun _ => true, fun _ _ => none, summL⟩) (n := 30000) (letI : Toks := ⟨fun _ => 0⟩; ⟨(fun _ _ _ h => nomatch h), summL_ok, summL_mono⟩) mixed (by kernel_rfl) rfl rfl (by kernel_rfl)
theorem er_19 : Known Try.prog (6, [.string ⟨#[115, 116, 97, 114, 116, 32, 102, 32, 120, 32, 49]⟩], .tuple #[.slice none 0 0, .int .i64 2]) :=
  known_of (okF := ⟨fun _ => true, fun _ _ => none, summL⟩) (n := 30000) (letI : Toks := ⟨fun _ => 0⟩; ⟨(fun _ _ _ h => nomatch h), summL_ok, summL_mono⟩) mixed (by kernel_rfl) rfl rfl (by kernel_rfl)
theorem er_20 : Known Try.prog (6, [.string ⟨#[116, 105, 99, 107]⟩], .tuple #[.slice none 0 0, .int .i64 2]) :=
  known_of (okF := ⟨fun _ => true, fun _ _ => none, summL⟩) (n := 30000) (letI : Toks := ⟨fun _ => 0⟩; ⟨(fun _ _ _ h => nomatch h), summL_ok, summL_mono⟩) mixed (by kernel_rfl) rfl rfl (by kernel_rfl)
theorem er_21 : Known Try.prog (6, [.string ⟨#[116, 105, 99, 107, 32, 45, 49]⟩], .tuple #[.slice none 0 0, .int .i64 2]) :=
  known_of (okF := ⟨fun _ => true, fun _ _ => none, summL⟩) (n := 30000) (letI : Toks := ⟨fun _ => 0⟩; ⟨(fun _ _ _ h => nomatch h), summL_ok, summL_mono⟩) mixed (by kernel_rfl) rfl rfl (by kernel_rfl)
theorem er_22 : Known Try.prog (6, [.string ⟨#[116, 105, 99, 107, 32, 49, 32, 50]⟩], .tuple #[.slice none 0 0, .int .i64 2]) :=
  known_of (okF := ⟨fun _ => true, fun _ _ => none, summL⟩) (n := 30000) (letI : Toks := ⟨fun _ => 0⟩; ⟨(fun _ _ _ h => nomatch h), summL_ok, summL_mono⟩) mixed (by kernel_rfl) rfl rfl (by kernel_rfl)
theorem er_23 : Known Try.prog (6, [.string ⟨#[102, 117, 115, 101, 32, 120]⟩], .tuple #[.slice none 0 0, .int .i64 2]) :=
  known_of (okF := ⟨fun _ => true, fun _ _ => none, summL⟩) (n := 30000) (letI : Toks := ⟨fun _ => 0⟩; ⟨(fun _ _ _ h => nomatch h), summL_ok, summL_mono⟩) mixed (by kernel_rfl) rfl rfl (by kernel_rfl)
theorem er_24 : Known Try.prog (6, [.string ⟨#[99, 114, 97, 115, 104]⟩], .tuple #[.slice none 0 0, .int .i64 2]) :=
  known_of (okF := ⟨fun _ => true, fun _ _ => none, summL⟩) (n := 30000) (letI : Toks := ⟨fun _ => 0⟩; ⟨(fun _ _ _ h => nomatch h), summL_ok, summL_mono⟩) mixed (by kernel_rfl) rfl rfl (by kernel_rfl)
theorem er_25 : Known Try.prog (6, [.string ⟨#[99, 114, 97, 115, 104, 32, 49, 32, 50, 32, 51]⟩], .tuple #[.slice none 0 0, .int .i64 2]) :=
  known_of (okF := ⟨fun _ => true, fun _ _ => none, summL⟩) (n := 30000) (letI : Toks := ⟨fun _ => 0⟩; ⟨(fun _ _ _ h => nomatch h), summL_ok, summL_mono⟩) mixed (by kernel_rfl) rfl rfl (by kernel_rfl)
theorem er_26 : Known Try.prog (6, [.string ⟨#[116, 105, 99, 107, 9, 49]⟩], .tuple #[.slice none 0 0, .int .i64 2]) :=
  known_of (okF := ⟨fun _ => true, fun _ _ => none, summL⟩) (n := 30000) (letI : Toks := ⟨fun _ => 0⟩; ⟨(fun _ _ _ h => nomatch h), summL_ok, summL_mono⟩) mixed (by kernel_rfl) rfl rfl (by kernel_rfl)
theorem er_27 : Known Try.prog (6, [.string ⟨#[116, 105, 99, 107, 32, 49, 10, 120]⟩], .tuple #[.slice none 0 0, .int .i64 2]) :=
  known_of (okF := ⟨fun _ => true, fun _ _ => none, summL⟩) (n := 30000) (letI : Toks := ⟨fun _ => 0⟩; ⟨(fun _ _ _ h => nomatch h), summL_ok, summL_mono⟩) mixed (by kernel_rfl) rfl rfl (by kernel_rfl)
def errs : List (FuncId × List Value × Value) := [(6, [.string ⟨#[114, 117, 110, 32, 102]⟩], .tuple #[.slice none 0 0, .int .i64 2]), (6, [.string ⟨#[114, 117, 110, 32, 102, 32, 120]⟩], .tuple #[.slice none 0 0, .int .i64 2]), (6, [.string ⟨#[114, 117, 110, 32, 102, 32, 120, 32, 97, 32, 49]⟩], .tuple #[.slice none 0 0, .int .i64 2]), (6, [.string ⟨#[114, 117, 110, 32, 102, 32, 120, 32, 97, 32, 49, 32, 120]⟩], .tuple #[.slice none 0 0, .int .i64 2]), (6, [.string ⟨#[114, 117, 110, 32, 70, 32, 120, 32, 97, 32, 49, 32, 49]⟩], .tuple #[.slice none 0 0, .int .i64 2]), (6, [.string ⟨#[107, 105, 108, 108, 32, 102]⟩], .tuple #[.slice none 0 0, .int .i64 2]), (6, [.string ⟨#[107, 105, 108, 108, 32, 102, 32, 97, 32, 98]⟩], .tuple #[.slice none 0 0, .int .i64 2]), (6, [.string ⟨#[115, 104, 117, 116]⟩], .tuple #[.slice none 0 0, .int .i64 2]), (6, [.string ⟨#[97, 99, 107, 32, 102, 32, 97, 32, 49]⟩], .tuple #[.slice none 0 0, .int .i64 2]), (6, [.string ⟨#[97, 99, 107, 32, 102, 32, 97, 32, 48, 49, 32, 49]⟩], .tuple #[.slice none 0 0, .int .i64 2]), (6, [.string ⟨#[97, 115, 107]⟩], .tuple #[.slice none 0 0, .int .i64 2]), (6, [.string ⟨#[97, 115, 107, 32, 102, 32, 97, 32, 97]⟩], .tuple #[.slice none 0 0, .int .i64 2]), (6, [.string ⟨#[97, 115, 107, 32, 102, 32, 97, 32, 98, 32, 99, 32, 100, 32, 101]⟩], .tuple #[.slice none 0 0, .int .i64 2]), (6, [.string ⟨#[119, 101, 108, 99, 111, 109, 101, 32, 120]⟩], .tuple #[.slice none 0 0, .int .i64 2]), (6, [.string ⟨#[104, 101, 108, 108, 111, 32, 102, 32, 120]⟩], .tuple #[.slice none 0 0, .int .i64 2]), (6, [.string ⟨#[114, 101, 112, 111, 114, 116, 32, 102, 32, 120, 32, 49, 32, 97]⟩], .tuple #[.slice none 0 0, .int .i64 2]), (6, [.string ⟨#[114, 101, 112, 111, 114, 116, 32, 102, 32, 120, 32, 49, 32, 97, 32, 48]⟩], .tuple #[.slice none 0 0, .int .i64 2]), (6, [.string ⟨#[103, 111, 110, 101, 32, 102, 32, 120]⟩], .tuple #[.slice none 0 0, .int .i64 2]), (6, [.string ⟨#[114, 101, 103, 105, 115, 116, 101, 114, 32, 49]⟩], .tuple #[.slice none 0 0, .int .i64 2]), (6, [.string ⟨#[115, 116, 97, 114, 116, 32, 102, 32, 120, 32, 49]⟩], .tuple #[.slice none 0 0, .int .i64 2]), (6, [.string ⟨#[116, 105, 99, 107]⟩], .tuple #[.slice none 0 0, .int .i64 2]), (6, [.string ⟨#[116, 105, 99, 107, 32, 45, 49]⟩], .tuple #[.slice none 0 0, .int .i64 2]), (6, [.string ⟨#[116, 105, 99, 107, 32, 49, 32, 50]⟩], .tuple #[.slice none 0 0, .int .i64 2]), (6, [.string ⟨#[102, 117, 115, 101, 32, 120]⟩], .tuple #[.slice none 0 0, .int .i64 2]), (6, [.string ⟨#[99, 114, 97, 115, 104]⟩], .tuple #[.slice none 0 0, .int .i64 2]), (6, [.string ⟨#[99, 114, 97, 115, 104, 32, 49, 32, 50, 32, 51]⟩], .tuple #[.slice none 0 0, .int .i64 2]), (6, [.string ⟨#[116, 105, 99, 107, 9, 49]⟩], .tuple #[.slice none 0 0, .int .i64 2]), (6, [.string ⟨#[116, 105, 99, 107, 32, 49, 10, 120]⟩], .tuple #[.slice none 0 0, .int .i64 2])]
theorem errs_ok : ∀ q ∈ errs, Known Try.prog q := by
  intro q hq
  simp only [errs, List.mem_cons, List.not_mem_nil, or_false] at hq
  rcases hq with rfl | rfl | rfl | rfl | rfl | rfl | rfl | rfl | rfl | rfl | rfl | rfl | rfl | rfl | rfl | rfl | rfl | rfl | rfl | rfl | rfl | rfl | rfl | rfl | rfl | rfl | rfl | rfl
  · exact er_0
  · exact er_1
  · exact er_2
  · exact er_3
  · exact er_4
  · exact er_5
  · exact er_6
  · exact er_7
  · exact er_8
  · exact er_9
  · exact er_10
  · exact er_11
  · exact er_12
  · exact er_13
  · exact er_14
  · exact er_15
  · exact er_16
  · exact er_17
  · exact er_18
  · exact er_19
  · exact er_20
  · exact er_21
  · exact er_22
  · exact er_23
  · exact er_24
  · exact er_25
  · exact er_26
  · exact er_27
noncomputable def firstR (a b : R) : R := Option.rec (motive := fun _ => R) b (fun r => some r) a
theorem GoodG.first {P : Program} [Toks] {f : Nat} {g : G} {sm : XCall} (h1 : CallOk P sm) (h2 : CallMono sm) (hg : GoodG P f g) : GoodG P f fun c args h => firstR (sm f args h) (g c args h) := fun c hc hm => by
  refine ⟨fun args h v h' e => ?_, fun M ρ h w args args' v h' s hM ha e => ?_⟩
  · cases hs : sm f args h with
    | none => simp only [hs, firstR] at e; exact (hg c hc hm).1 args h v h' e
    | some r => simp only [hs, firstR] at e; exact h2 f args h v h' (hs.trans e)
  · cases hs : sm f args h with
    | none => simp only [hs, firstR] at e; exact (hg c hc hm).2 M ρ h w args args' v h' s hM ha e
    | some r => simp only [hs, firstR] at e; exact h1 M ρ h w f args args' v h' s hM ha (hs.trans e)
noncomputable def tabAllK : List (Nat × G) := (6, fun c args h => firstR (summC errs 6 args h) (ap1 (g6 100000 c) args h)) :: tabAll
theorem tabAllK_ok [Toks] : AllG Try.prog tabAllK := .cons (GoodG.first (summC_ok errs_ok) (summC_mono _) ok6) tabAll_ok
end Go.Proofs.Ytpfloofjnpgbeaa
