/- The walk of ScriptParses: the Go text returns true, and writes nothing that was there. -/
import Derived.Test.YtfbedlhigggggaaSpZZ
import Derived.Test.YtfbedlhigggggaaAllSum
namespace Go.Proofs.Ytfbedlhigggggaa.scriptParses
open Go.ChangeShapes Go.WideShapes Go.ChangeAt Go.RowKit
open Go Go.Proofs.Ytfbedlhigggggaa Go.Proofs.Ytfbedlhigggggaa.Sp Go.Proofs.Ytfbedlhigggggaa.Vl Go.Proofs.Ytfbedlhigggggaa.Crw
set_option linter.unusedVariables false
set_option maxRecDepth 100000
theorem wkk (w : World) : Calls Try.prog 11 #[] w fun e w' => e = .returned (.bool true) ∧ Below w.heap.size w w' := wakes_11.2.2.2 w
set_option maxHeartbeats 8000000 in
theorem walk (a0 : ByteArray) (A1 : Option Addr) (n1 c1 : Nat) (x1 : List Int) (a2 : Bool) (w : World) (b0 : a0.size ≤ maxLen) (b1 : IntRow .i64 w A1 n1 c1 x1) :
    Calls Try.prog 3 #[.string a0, .slice A1 n1 c1, .bool a2] w fun e w' => e = .returned (.bool true) ∧ Below w.heap.size w w' := by
  have hT := lText_any a0 A1 n1 c1 x1 a2 w b0 b1
  have hT12 := fun wa => Text_nat a0 12 wa b0 (by omega)
  obtain ⟨s12, hs12⟩ : ∃ s, s = a0.extract 0 (min a0.size 12) := ⟨_, rfl⟩
  have hz12 : s12.size ≤ maxLen := by rw [hs12, ByteArray.size_extract]; unfold maxLen; omega
  have hN := fun wa => Number_any s12 wa hz12
  have hM := fun wa => lNumber_any s12 wa hz12
  rw [← hs12] at hT12
  obtain ⟨z1, hz1⟩ : ∃ z, z = (numS s12.data.toList).1 := ⟨_, rfl⟩
  obtain ⟨z2, hz2⟩ : ∃ z, z = (numS s12.data.toList).2 := ⟨_, rfl⟩
  rw [← hz1, ← hz2] at hN hM
  clear hs12 hz12 hz1 hz2 b0 b1
  go_enter Try.func3, Try.ntmps3
  go_upto_region 2 with (go_at_call 4; refine hT.mono ?_; rintro e w2 ⟨t, rfl, ht, hb2⟩; have HT := Lib.hid ht; have HB2 := Lib.hid hb2; clear ht hb2 hT)
  have hP := Parse_any t w2 HT.out
  have hQ := fun wa => lParse_any t wa HT.out
  cases hprs : prs t.data.toList with
  | none =>
    have HPRS := Lib.hid hprs
    clear hprs
    go_upto_region 3 with (go_at_call 5; refine hP.mono ?_; rintro e w3 ⟨hb3, hp3⟩; rw [HPRS.out] at hp3; obtain rfl := hp3; have HB3 := Lib.hid (HB2.out.trans (hb3.mono HB2.out.size)); clear hb3 hP)
    go_upto_region 4 with (go_at_call 6; refine (hQ _).mono ?_; rintro e w4 ⟨hb4, hp4⟩; rw [HPRS.out] at hp4; obtain rfl := hp4; have HB4 := Lib.hid (HB3.out.trans (hb4.mono HB3.out.size)); clear hb4 hQ)
    have hSS := fun wa => lSameSteps_any 0 0 (.slice none 0 0) (.slice none 0 0) [] [] wa (StsP.nil _ _ _) (StsP.nil _ _ _) rfl (by simp)
    go_upto_region 5 with (first | (go_at_call 8; refine (hT12 _).mono ?_; rintro e w5 ⟨rfl, rfl⟩) | (go_at_call 7; refine (hN _).mono ?_; rintro e w5 ⟨rfl, rfl⟩))
    go_wp2_with (first | (go_at_call 8; refine (hT12 _).mono ?_; rintro e w5 ⟨rfl, rfl⟩) | (go_at_call 9; refine (hM _).mono ?_; rintro e w5 ⟨rfl, rfl⟩) | (go_at_call 10; refine (hSS _).mono ?_; rintro e w5 ⟨rfl, hb5⟩; have HB5 := Lib.hid (HB4.out.trans (hb5.mono HB4.out.size)); clear hb5) | (go_at_call 11; refine (wkk _).mono ?_; rintro e wz ⟨rfl, hbz⟩; have HBZ := Lib.hid (HB5.out.trans (hbz.mono HB5.out.size)); clear hbz))
    go_ret
    exact ⟨ret_bool (by simp), HBZ.out⟩
  | some L =>
    have HPRS := Lib.hid hprs
    clear hprs
    go_upto_region 3 with (go_at_call 5; refine hP.mono ?_; rintro e w3 ⟨hb3, hp3⟩; rw [HPRS.out] at hp3; obtain ⟨va, xs, rfl, hxs, hst⟩ := hp3; have HXS := Lib.hid hxs; have HSTA := Lib.hid hst; have HBX := Lib.hid hb3; have HB3 := Lib.hid (HB2.out.trans (hb3.mono HB2.out.size)); clear hb3 hP hxs hst)
    go_upto_region 4 with (go_at_call 6; refine (hQ _).mono ?_; rintro e w4 ⟨hb4, hp4⟩; rw [HPRS.out] at hp4; obtain ⟨gb, vb, ys, rfl, hys, hst4, hyl⟩ := hp4; have HSTB := Lib.hid hst4; have HYS := Lib.hid hys; have HYL := Lib.hid hyl; have HSTC := Lib.hid (HSTA.out.vol (Vol.of_below hb4)); have HB4 := Lib.hid (HB3.out.trans (hb4.mono HB3.out.size)); clear hb4 hQ hys hst4 hyl)
    have hSS := lSameSteps_any w2.heap.size gb va vb xs ys w4 HSTC.out HSTB.out (HXS.out.trans HYS.out.symm) (by
      have h1 := congrArg List.length (HXS.out.trans HYS.out.symm)
      simp [sts] at h1
      have := HYL.out
      omega)
    obtain ⟨Aa, ca, rfl, -, -⟩ := own_slice HSTC.out.own
    obtain ⟨Ab, cb, rfl, -, -⟩ := own_slice HSTB.out.own
    go_upto_region 5 with (first | (go_at_call 8; refine (hT12 _).mono ?_; rintro e w5 ⟨rfl, rfl⟩) | (go_at_call 7; refine (hN _).mono ?_; rintro e w5 ⟨rfl, rfl⟩))
    go_wp2_with (first | (go_at_call 8; refine (hT12 _).mono ?_; rintro e w5 ⟨rfl, rfl⟩) | (go_at_call 9; refine (hM _).mono ?_; rintro e w5 ⟨rfl, rfl⟩) | (go_at_call 10; refine hSS.mono ?_; rintro e w5 ⟨rfl, hb5⟩; have HB5 := Lib.hid (HB4.out.trans (hb5.mono HB4.out.size)); clear hb5) | (go_at_call 11; refine (wkk _).mono ?_; rintro e wz ⟨rfl, hbz⟩; have HBZ := Lib.hid (HB5.out.trans (hbz.mono HB5.out.size)); clear hbz))
    go_ret
    exact ⟨ret_bool (by simp), HBZ.out⟩
end Go.Proofs.Ytfbedlhigggggaa.scriptParses
