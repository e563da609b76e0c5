/- The walk of ScriptNumbers: the Go text returns true, and writes nothing that was there. -/
import Derived.Test.YtlldpgjifdfogaaSDig
import Derived.Test.YtlldpgjifdfogaaAllSum
namespace Go.Proofs.Ytlldpgjifdfogaa.scriptNumbers
open Go.ChangeShapes Go.WideShapes Go.ChangeAt Go.RowKit
set_option linter.unusedVariables false
set_option maxRecDepth 100000
theorem cat1 (c : UInt8) (l : List UInt8) : ((⟨#[c]⟩ : ByteArray) ++ ⟨l.toArray⟩).data.toList = c :: l := by rw [ByteArray.data_append]; simp
theorem cat2 (c : UInt8) (l : List UInt8) : ((⟨l.toArray⟩ : ByteArray) ++ ⟨#[c]⟩).data.toList = l ++ [c] := by rw [ByteArray.data_append]; simp
theorem bad1 (c : UInt8) (l : List UInt8) (hc : digB c = false) : numS (c :: l) = (0, false) := numS_bad (.inr (.inr (.inr (by rw [numA, if_neg (by rw [hc]; decide)]))))
theorem bad2 (c : UInt8) (l : List UInt8) (hc : digB c = false) : numS (l ++ [c]) = (0, false) := numS_bad (.inr (.inr (.inr (numA_bad c hc l 0))))
theorem bad3 (l : List UInt8) (h : 1 ≤ l.length) : numS (48 :: l) = (0, false) := numS_bad (.inr (.inr (.inl ⟨rfl, by simp; omega⟩)))
set_option maxHeartbeats 4000000 in
theorem walk (a0 : Int) (w : World) (b0 : -9223372036854775808 ≤ a0 ∧ a0 ≤ 9223372036854775807) :
    Calls Try.prog 14 #[.int .i64 a0] w fun e w' => e = .returned (.bool true) ∧ Below w.heap.size w w' := by
  have m1 := Int.emod_nonneg a0 (show (1000000000 : Int) ≠ 0 by omega)
  have m2 := Int.emod_lt_of_pos a0 (show (0 : Int) < 1000000000 by omega)
  obtain ⟨n, hq⟩ := Int.eq_ofNat_of_zero_le m1
  have hn : n < 1000000000 := by omega
  have HQ := Lib.hid hq
  clear hq m1 m2
  have HS := Lib.hid (digL_S n hn)
  have HL := digL_len 8 n hn

  have hD := fun w => digits_any n w hn
  generalize digL n = L at *
  have hsz : (⟨L.toArray⟩ : ByteArray).size = L.length := by simp [ByteArray.size]
  have hN1 := fun w => Number_any ⟨L.toArray⟩ w (by rw [hsz]; simp only [maxLen]; omega)
  rw [show (⟨L.toArray⟩ : ByteArray).data.toList = L by simp, HS.out] at hN1
  go_enter Try.func14, Try.ntmps14
  go_wp2_with fail
  refine (Within_any _ _ _ (by omega) (by omega) (by omega) (by omega)).mono ?_
  rintro e w' ⟨rfl, rfl⟩
  rw [HQ.out]
  go_wp2_with fail
  refine (hD _).mono ?_
  rintro e w' ⟨rfl, kd, rfl⟩
  go_wp2_with fail
  refine (hN1 _).mono ?_
  rintro e w' ⟨rfl, rfl⟩
  go_wp2
  have HL1 := HL.1
  have HL2 := HL.2
  have NB : ∀ x : ByteArray, x.data.toList.length ≤ 100 → numS x.data.toList = (0, false) → ∀ w, Calls Try.prog 82 #[.string x] w fun e w' => e = .returned (.tuple #[.int .i64 0, .bool false]) ∧ w = w' := fun x h1 h2 w => by
    have h3 : x.size = x.data.toList.length := by simp
    have := Number_any x w (by rw [h3]; simp only [maxLen]; omega)
    rwa [h2] at this
  have d45 : digB 45 = false := by decide
  have d43 : digB 43 = false := by decide
  have d32 : digB 32 = false := by decide
  have d120 : digB 120 = false := by decide
  have hc : Hid (∀ k : Nat, k < 9 → ∃ x : ByteArray, ((w.drewN kd).alloc (.cells #[.string ⟨#[]⟩, .string (⟨#[45]⟩ ++ ⟨L.toArray⟩), .string (⟨#[43]⟩ ++ ⟨L.toArray⟩), .string (⟨#[48]⟩ ++ ⟨L.toArray⟩), .string (⟨L.toArray⟩ ++ ⟨#[32]⟩), .string (⟨L.toArray⟩ ++ ⟨#[120]⟩), .string ⟨#[49, 48, 48, 48, 48, 48, 48, 48, 48, 48]⟩, .string ⟨#[120]⟩, .string (⟨#[32]⟩ ++ ⟨L.toArray⟩)] 9)).cell? ⟨w.heap.size, k, none⟩ = some (.string x) ∧
      ∀ w, Calls Try.prog 82 #[.string x] w fun e w' => e = .returned (.tuple #[.int .i64 0, .bool false]) ∧ w = w') := by
    intro k hk
    have hb := Blk.new (w.drewN kd) 9 #[.string ⟨#[]⟩, .string (⟨#[45]⟩ ++ ⟨L.toArray⟩), .string (⟨#[43]⟩ ++ ⟨L.toArray⟩), .string (⟨#[48]⟩ ++ ⟨L.toArray⟩), .string (⟨L.toArray⟩ ++ ⟨#[32]⟩), .string (⟨L.toArray⟩ ++ ⟨#[120]⟩), .string ⟨#[49, 48, 48, 48, 48, 48, 48, 48, 48, 48]⟩, .string ⟨#[120]⟩, .string (⟨#[32]⟩ ++ ⟨L.toArray⟩)]
    obtain h | h | h | h | h | h | h | h | h : k = 0 ∨ k = 1 ∨ k = 2 ∨ k = 3 ∨ k = 4 ∨ k = 5 ∨ k = 6 ∨ k = 7 ∨ k = 8 := by omega
    · subst h
      exact ⟨_, hb.cell 0, NB _ (by decide) (by decide)⟩
    · subst h
      exact ⟨_, hb.cell 1, NB _ (by rw [cat1]; simp; omega) (by rw [cat1]; exact bad1 _ _ d45)⟩
    · subst h
      exact ⟨_, hb.cell 2, NB _ (by rw [cat1]; simp; omega) (by rw [cat1]; exact bad1 _ _ d43)⟩
    · subst h
      exact ⟨_, hb.cell 3, NB _ (by rw [cat1]; simp; omega) (by rw [cat1]; exact bad3 _ HL1)⟩
    · subst h
      exact ⟨_, hb.cell 4, NB _ (by rw [cat2]; simp; omega) (by rw [cat2]; exact bad2 _ _ d32)⟩
    · subst h
      exact ⟨_, hb.cell 5, NB _ (by rw [cat2]; simp; omega) (by rw [cat2]; exact bad2 _ _ d120)⟩
    · subst h
      exact ⟨_, hb.cell 6, NB _ (by decide) (by decide)⟩
    · subst h
      exact ⟨_, hb.cell 7, NB _ (by decide) (by decide)⟩
    · subst h
      exact ⟨_, hb.cell 8, NB _ (by rw [cat1]; simp; omega) (by rw [cat1]; exact bad1 _ _ d32)⟩
  have hbel : Hid (Below w.heap.size w ((w.drewN kd).alloc (.cells #[.string ⟨#[]⟩, .string (⟨#[45]⟩ ++ ⟨L.toArray⟩), .string (⟨#[43]⟩ ++ ⟨L.toArray⟩), .string (⟨#[48]⟩ ++ ⟨L.toArray⟩), .string (⟨L.toArray⟩ ++ ⟨#[32]⟩), .string (⟨L.toArray⟩ ++ ⟨#[120]⟩), .string ⟨#[49, 48, 48, 48, 48, 48, 48, 48, 48, 48]⟩, .string ⟨#[120]⟩, .string (⟨#[32]⟩ ++ ⟨L.toArray⟩)] 9)) ∧ w.heap.size ≤ ((w.drewN kd).alloc (.cells #[.string ⟨#[]⟩, .string (⟨#[45]⟩ ++ ⟨L.toArray⟩), .string (⟨#[43]⟩ ++ ⟨L.toArray⟩), .string (⟨#[48]⟩ ++ ⟨L.toArray⟩), .string (⟨L.toArray⟩ ++ ⟨#[32]⟩), .string (⟨L.toArray⟩ ++ ⟨#[120]⟩), .string ⟨#[49, 48, 48, 48, 48, 48, 48, 48, 48, 48]⟩, .string ⟨#[120]⟩, .string (⟨#[32]⟩ ++ ⟨L.toArray⟩)] 9)).heap.size) :=
    Lib.hid ⟨(below_drewN (Below.refl _ _) kd).alloc (Nat.le_refl _) _, by simp⟩
  clear NB hD hN1
  generalize ((w.drewN kd).alloc _) = W1 at *
  go_loop [33] (fun i => ∃ k : Nat, k ≤ 9 ∧ i = .int .i64 k) (fun i => 9 - (intOf i).toNat)
  case atStart => exact ⟨0, by omega, rfl⟩
  case round =>
    obtain ⟨k, hk, rfl⟩ := hrel
    by_cases hlt : (k : Int) < 9
    · obtain ⟨x, hx, hN⟩ := hc.out k (by omega)
      go_wp2_with (go_at_call 82; refine (hN _).mono ?_; rintro e w' ⟨rfl, rfl⟩)
      go_round
      case rel => exact ⟨k + 1, by omega, by go_num⟩
      case measure => simp [intOf]; omega
    · go_wp2_with (go_at_call 83; refine (wakes_83.2.2.2 _).mono ?_; rintro e w9 ⟨rfl, hb9⟩)
      go_ret
      exact ⟨rfl, hbel.out.1.trans (hb9.mono hbel.out.2)⟩

end Go.Proofs.Ytlldpgjifdfogaa.scriptNumbers
