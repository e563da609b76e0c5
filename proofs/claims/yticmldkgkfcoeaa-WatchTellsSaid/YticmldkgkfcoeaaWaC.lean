/- What a row of states comes to. -/
import Derived.Test.YticmldkgkfcoeaaWaB
import Derived.Test.YticmldkgkfcoeaaSameInt
namespace Go.Proofs.Yticmldkgkfcoeaa.Wa
open Go Go.RowKit Go.Proofs.Yticmldkgkfcoeaa Go.Proofs.Yticmldkgkfcoeaa.Crw Go.ChangeShapes Go.WideShapes Go.ChangeAt
set_option linter.unusedVariables false
set_option maxRecDepth 100000
theorem lifeOf_take {sts : List Int} {k : Nat} {t : Int} (h : sts[k]? = some t) : lifeOf 1 (sts.take (k + 1)) = (lifeOf 1 (sts.take k)).bind fun u => if may u t then some t else none := by
  rw [List.take_add_one, h]
  exact lifeOf_snoc 1 t _
theorem lifeOf_none {s : Int} {l m : List Int} (h : lifeOf s l = none) : lifeOf s (l ++ m) = none := by
  induction l generalizing s with
  | nil => simp [lifeOf] at h
  | cons a l ih =>
    simp only [List.cons_append, lifeOf] at h ⊢
    split
    · rename_i hm
      rw [if_pos hm] at h
      exact ih h
    · rfl
def ofB (sts : List Int) : Int := (lifeOf 1 sts).getD 0
set_option maxHeartbeats 4000000 in
theorem Of_any (A : Option Addr) (n c B : Nat) (sts : List Int) (w : World) (hB : B ≤ w.heap.size) (hr : Reads w B 1 A n (sts.map (Value.int .i64))) (hn : n ≤ 1000) :
    Calls Try.prog 18 #[.slice A n c] w fun e w' => e = .returned (.int .i64 (ofB sts)) ∧ Below w.heap.size w w' := by
  have hl : sts.length = n := by have := hr.1; simpa using this
  have HR := Lib.hid hr
  have HL := Lib.hid hl
  have hM := fun s t w => MayP s t w
  clear hr hl
  go_enter Try.func18, Try.ntmps18
  go_wp2_with fail
  go_loopw [3, 8] (fun v3 v8 wx => Hid (∃ (k : Nat) (s : Int), v8 = .int .i64 k ∧ k ≤ n ∧ v3 = .int .i64 s ∧ lifeOf 1 (sts.take k) = some s ∧ Below w.heap.size w wx ∧ ∃ w7, w7 = wx)) (fun _ v8 _ => n - (intOf v8).toNat)
  case atStart => exact Lib.hid ⟨0, 1, rfl, by omega, rfl, rfl, Below.refl _ _, _, rfl⟩
  case round =>
    obtain ⟨k, s, rfl, hk, rfl, hs, hb, w7, hw7⟩ := hrel.out
    subst hw7
    clear hrel
    have HS := Lib.hid hs
    have HB := Lib.hid hb
    have hr7 : Reads w7 B 1 A n (sts.map (Value.int .i64)) := HR.out.below (hb.mono hB)
    clear hs hb
    by_cases hlt : (k : Int) < n
    · obtain ⟨ad, t, rfl, ht, hc⟩ := ints_atI hr7 (by omega : k < n)
      have hk0 : (0 : Int) ≤ (k : Int) := by omega
      have htk := lifeOf_take ht
      rw [HS.out] at htk
      simp only [Option.bind_some] at htk
      have hMs := hM s t
      have HT := Lib.hid htk
      clear hr7 htk hM
      cases hm : may s t with
      | true =>
        rw [hm] at hMs
        have HT2 := Lib.hid (show lifeOf 1 (sts.take (k + 1)) = some t by rw [HT.out, hm]; rfl)
        clear hm
        go_wp2_with (go_at_call 21; refine (hMs _).mono ?_; rintro e w' ⟨rfl, rfl⟩)
        refine ⟨?_, by simp [intOf]; omega⟩
        exact Lib.hid ⟨k + 1, t, by simp, by omega, rfl, HT2.out, HB.out, _, rfl⟩
      | false =>
        rw [hm] at hMs
        have HT2 := Lib.hid (show lifeOf 1 (sts.take (k + 1)) = none by rw [HT.out, hm]; rfl)
        clear hm
        go_wp2_with (go_at_call 21; refine (hMs _).mono ?_; rintro e w' ⟨rfl, rfl⟩)
        go_ret
        have h0 : lifeOf 1 sts = none := by
          have := lifeOf_none (m := sts.drop (k + 1)) HT2.out
          rwa [List.take_append_drop] at this
        have hz : ofB sts = 0 := by unfold ofB; rw [h0]; rfl
        exact ⟨by rw [hz]; rfl, HB.out⟩
    · go_wp2_with fail
      go_ret
      have e : sts.take k = sts := List.take_of_length_le (by have := HL.out; omega)
      have h := HS.out
      rw [e] at h
      exact ⟨by unfold ofB; rw [h]; rfl, HB.out⟩
end Go.Proofs.Yticmldkgkfcoeaa.Wa
