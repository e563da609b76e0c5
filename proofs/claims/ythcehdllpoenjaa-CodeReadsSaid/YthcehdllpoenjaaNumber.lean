/- Contracts of code.Number and of the plain answer Number: a number as bytes, seven bits a byte. -/
import Derived.Test.YthcehdllpoenjaaSameByte
namespace Go.Proofs.Ythcehdllpoenjaa
open Go.ChangeShapes Go.WideShapes Go.ChangeAt Go.RowKit

def numF : Nat → Nat → List UInt8
  | 0, n => [UInt8.ofNat n]
  | f + 1, n => if n < 128 then [UInt8.ofNat n] else UInt8.ofNat (128 + n % 128) :: numF f (n / 128)
def numL (n : Nat) : List UInt8 := numF 5 n
def numBd : Nat → Nat
  | 0 => 1
  | f + 1 => 128 * numBd f
theorem numBd_5 : numBd 5 = 34359738368 := by decide
theorem numF_small (f n : Nat) (h : n < 128) : numF f n = [UInt8.ofNat n] := by
  cases f with
  | zero => rfl
  | succ f => simp [numF, h]
theorem numF_len (f n : Nat) : 1 ≤ (numF f n).length ∧ (numF f n).length ≤ f + 1 := by
  induction f generalizing n with
  | zero => simp [numF]
  | succ f ih =>
    simp only [numF]
    split
    · simp
    · have := ih (n / 128); simp; omega
theorem u8_nat (k : Nat) (h : k < 256) : ((UInt8.ofNat k).toNat : Int) = k := by
  have : (UInt8.ofNat k).toNat = k % 256 := by simp
  rw [this]; omega
theorem bytesV_snoc (p : List UInt8) (b : UInt8) (x : Int) (h : (b.toNat : Int) = x) : bytesV (p ++ [b]) = bytesV p ++ [.int .u8 x] := by
  simp [bytesV, h]
theorem byte_info : (Try.prog.info? 5).map (fun i => (i.zero, i.size, i.bytes)) = some (some (.int .u8 0), 1, 1) := by kernel_rfl

/-- What holds at the loop's head: the bytes so far, what is left of the number. -/
def NumInv (w : World) (n : Nat) (x v : Value) (wr : World) : Prop :=
  ∃ (f m : Nat) (p : List UInt8), x = .int .i64 m ∧ p.length + f = 5 ∧ m < numBd f ∧ (m : Int) ≤ 9223372036854775807 ∧ wr.ownsRow w.heap.size 5 1 v p.length (bytesV p) ∧ Below w.heap.size w wr ∧ Hid (numL n = p ++ numF f m)
def numZ (n : Int) : List UInt8 := if 0 ≤ n ∧ n < 34359738368 then numL n.toNat else []
theorem numZ_len (n : Int) : (numZ n).length ≤ 6 := by
  unfold numZ
  split
  · have := numF_len 5 n.toNat; unfold numL; omega
  · simp

set_option maxRecDepth 100000 in
set_option maxHeartbeats 1000000 in
theorem Number_nat (n : Int) (w : World) (h0 : 0 ≤ n) (h1 : n ≤ 34359738367) :
    Calls Try.prog 23 #[.int .i64 n] w fun e w' => ∃ v, e = .returned v ∧ w'.ownsRow w.heap.size 5 1 v (numL n.toNat).length (bytesV (numL n.toNat)) ∧ Below w.heap.size w w' := by
  obtain ⟨i0, hi, hz0, hz1, hz2⟩ := info_parts byte_info
  go_enter Try.func23, Try.ntmps23
  go_wp2
  generalize hN : n.toNat = N
  have hnN : n = (N : Int) := by omega
  subst hnN
  go_loopw [0, 3] (fun x v wr => NumInv w N x v wr) (fun x _ _ => (intOf x).toNat)
  case atStart => exact ⟨5, N, [], rfl, rfl, by rw [numBd_5]; omega, by omega, ⟨by simp [bytesV], .inl ⟨rfl, rfl⟩⟩, Below.refl _ _, rfl⟩
  case round =>
    obtain ⟨f, m, p, rfl, hpf, hmb, hm63, hown, hbel, Hn⟩ := hrel
    have hsz := hbel.size
    have Hpf := Lib.hid hpf
    have hp5 : p.length ≤ 5 := by omega
    clear hpf
    by_cases hm : 128 ≤ m
    · obtain ⟨f', rfl⟩ : ∃ f', f = f' + 1 := by
        cases f with
        | zero => simp [numBd] at hmb; omega
        | succ f' => exact ⟨f', rfl⟩
      have Hn' : Hid (numL N = (p ++ [UInt8.ofNat (128 + m % 128)]) ++ numF f' (m / 128)) := by
        show _ = _; rw [Hn.out]; simp [numF, show ¬ m < 128 by omega]
      have hx : (((UInt8.ofNat (128 + m % 128)).toNat : Nat) : Int) = 128 + (m : Int) % 128 := by rw [u8_nat _ (by omega)]; omega
      have Hx := Lib.hid hx
      have hdb : m / 128 < numBd f' := by
        have : m < 128 * numBd f' := hmb
        omega
      clear hx hmb
      go_wp2_with (first | (at_builtin; go_must (refine wpList_append_own _ rfl _ _ 22 rfl w.heap.size 5 i0 (.int .u8 0) 1 1 Try.underlying22 hi hz0 hz1 hz2 rfl (by decide) _ _ _ rfl (hown.alloc _) ⟨wr.heap.size, 0, none⟩ 1 1 [.int .u8 (128 + (m : Int) % 128)] rfl rfl (cell_one_new _ _ _) (one_cell_int _ _) (by simp only [maxLen]; omega) (by omega) (by simp; omega) ?_); intro v1 w1 hown1 hg1 _hne; have hbel1 := push_below hbel hsz hown _ hg1; clear hg1 _hne))
      go_roundw
      case rel => exact ⟨f', m / 128, p ++ [UInt8.ofNat (128 + m % 128)], by first | rfl | go_num, by have := Hpf.out; simp; omega, hdb, by omega, by rw [bytesV_snoc _ _ _ Hx.out]; simpa using hown1, hbel1, Hn'⟩
      case measure => simp [intOf]; omega
    · have Hn' : Hid (numL N = p ++ [UInt8.ofNat m]) := by show _ = _; rw [Hn.out, numF_small f m (by omega)]
      have Hx : Hid ((((UInt8.ofNat m).toNat : Nat) : Int) = (m : Int)) := u8_nat _ (by omega)
      go_wp2_with (first | (at_builtin; go_must (refine wpList_append_own _ rfl _ _ 22 rfl w.heap.size 5 i0 (.int .u8 0) 1 1 Try.underlying22 hi hz0 hz1 hz2 rfl (by decide) _ _ _ rfl (hown.alloc _) ⟨wr.heap.size, 0, none⟩ 1 1 [.int .u8 (m : Int)] rfl rfl (cell_one_new _ _ _) (one_cell_int _ _) (by simp only [maxLen]; omega) (by omega) (by simp; omega) ?_); intro v1 w1 hown1 hg1 _hne; have hbel1 := push_below hbel hsz hown _ hg1; clear hg1 _hne))
      go_ret
      exact ⟨v1, rfl, by rw [hN, Hn'.out, bytesV_snoc _ _ _ Hx.out]; simpa using hown1, hbel1⟩
set_option maxHeartbeats 400000 in
theorem Number_none (n : Int) (w : World) (h : n < 0 ∨ 34359738368 ≤ n) :
    Calls Try.prog 23 #[.int .i64 n] w fun e w' => e = .returned (.slice none 0 0) ∧ w = w' := by
  rcases h with h | h
  · go_enter Try.func23, Try.ntmps23
    go_wp2
    go_ret
    exact ⟨rfl, rfl⟩
  · have h2 : ¬ n < 0 := by omega
    go_enter Try.func23, Try.ntmps23
    go_wp2
    go_ret
    exact ⟨rfl, rfl⟩
/-- The bytes of any number: none where it may not be. -/
theorem Number_any (n : Int) (w : World) :
    Calls Try.prog 23 #[.int .i64 n] w fun e w' => ∃ v, e = .returned v ∧ w'.ownsRow w.heap.size 5 1 v (numZ n).length (bytesV (numZ n)) ∧ Below w.heap.size w w' := by
  unfold numZ
  by_cases h : 0 ≤ n ∧ n < 34359738368
  · rw [if_pos h]
    exact Number_nat n w h.1 (by omega)
  · rw [if_neg h]
    refine (Number_none n w (by omega)).mono ?_
    rintro e w' ⟨rfl, rfl⟩
    exact ⟨_, rfl, ⟨by simp [bytesV], .inl ⟨rfl, rfl⟩⟩, Below.refl _ _⟩

set_option maxRecDepth 100000 in
set_option maxHeartbeats 1000000 in
theorem rNumber_nat (n : Int) (w : World) (h0 : 0 ≤ n) (h1 : n ≤ 34359738367) :
    Calls Try.prog 6 #[.int .i64 n] w fun e w' => ∃ v, e = .returned v ∧ w'.ownsRow w.heap.size 5 1 v (numL n.toNat).length (bytesV (numL n.toNat)) ∧ Below w.heap.size w w' := by
  obtain ⟨i0, hi, hz0, hz1, hz2⟩ := info_parts byte_info
  go_enter Try.func6, Try.ntmps6
  go_wp2
  generalize hN : n.toNat = N
  have hnN : n = (N : Int) := by omega
  subst hnN
  go_loopw [0, 3] (fun x v wr => NumInv w N x v wr) (fun x _ _ => (intOf x).toNat)
  case atStart => exact ⟨5, N, [], rfl, rfl, by rw [numBd_5]; omega, by omega, ⟨by simp [bytesV], .inl ⟨rfl, rfl⟩⟩, Below.refl _ _, rfl⟩
  case round =>
    obtain ⟨f, m, p, rfl, hpf, hmb, hm63, hown, hbel, Hn⟩ := hrel
    have hsz := hbel.size
    have Hpf := Lib.hid hpf
    have hp5 : p.length ≤ 5 := by omega
    clear hpf
    by_cases hm : 128 ≤ m
    · obtain ⟨f', rfl⟩ : ∃ f', f = f' + 1 := by
        cases f with
        | zero => simp [numBd] at hmb; omega
        | succ f' => exact ⟨f', rfl⟩
      have Hn' : Hid (numL N = (p ++ [UInt8.ofNat (128 + m % 128)]) ++ numF f' (m / 128)) := by
        show _ = _; rw [Hn.out]; simp [numF, show ¬ m < 128 by omega]
      have hx : (((UInt8.ofNat (128 + m % 128)).toNat : Nat) : Int) = (m : Int) % 128 + 128 := by rw [u8_nat _ (by omega)]; omega
      have Hx := Lib.hid hx
      have hdb : m / 128 < numBd f' := by
        have : m < 128 * numBd f' := hmb
        omega
      clear hx hmb
      go_wp2_with (first | (at_builtin; go_must (refine wpList_append_own _ rfl _ _ 22 rfl w.heap.size 5 i0 (.int .u8 0) 1 1 Try.underlying22 hi hz0 hz1 hz2 rfl (by decide) _ _ _ rfl (hown.alloc _) ⟨wr.heap.size, 0, none⟩ 1 1 [.int .u8 ((m : Int) % 128 + 128)] rfl rfl (cell_one_new _ _ _) (one_cell_int _ _) (by simp only [maxLen]; omega) (by omega) (by simp; omega) ?_); intro v1 w1 hown1 hg1 _hne; have hbel1 := push_below hbel hsz hown _ hg1; clear hg1 _hne))
      go_roundw
      case rel => exact ⟨f', m / 128, p ++ [UInt8.ofNat (128 + m % 128)], by first | rfl | go_num, by have := Hpf.out; simp; omega, hdb, by omega, by rw [bytesV_snoc _ _ _ Hx.out]; simpa using hown1, hbel1, Hn'⟩
      case measure => simp [intOf]; omega
    · have Hn' : Hid (numL N = p ++ [UInt8.ofNat m]) := by show _ = _; rw [Hn.out, numF_small f m (by omega)]
      have Hx : Hid ((((UInt8.ofNat m).toNat : Nat) : Int) = (m : Int)) := u8_nat _ (by omega)
      go_wp2_with (first | (at_builtin; go_must (refine wpList_append_own _ rfl _ _ 22 rfl w.heap.size 5 i0 (.int .u8 0) 1 1 Try.underlying22 hi hz0 hz1 hz2 rfl (by decide) _ _ _ rfl (hown.alloc _) ⟨wr.heap.size, 0, none⟩ 1 1 [.int .u8 (m : Int)] rfl rfl (cell_one_new _ _ _) (one_cell_int _ _) (by simp only [maxLen]; omega) (by omega) (by simp; omega) ?_); intro v1 w1 hown1 hg1 _hne; have hbel1 := push_below hbel hsz hown _ hg1; clear hg1 _hne))
      go_ret
      exact ⟨v1, rfl, by rw [hN, Hn'.out, bytesV_snoc _ _ _ Hx.out]; simpa using hown1, hbel1⟩
set_option maxHeartbeats 400000 in
theorem rNumber_none (n : Int) (w : World) (h : n < 0 ∨ 34359738368 ≤ n) :
    Calls Try.prog 6 #[.int .i64 n] w fun e w' => e = .returned (.slice none 0 0) ∧ w = w' := by
  rcases h with h | h
  · go_enter Try.func6, Try.ntmps6
    go_wp2
    go_ret
    exact ⟨rfl, rfl⟩
  · have h2 : ¬ n < 0 := by omega
    go_enter Try.func6, Try.ntmps6
    go_wp2
    go_ret
    exact ⟨rfl, rfl⟩
/-- The bytes of any number: none where it may not be. -/
theorem rNumber_any (n : Int) (w : World) :
    Calls Try.prog 6 #[.int .i64 n] w fun e w' => ∃ v, e = .returned v ∧ w'.ownsRow w.heap.size 5 1 v (numZ n).length (bytesV (numZ n)) ∧ Below w.heap.size w w' := by
  unfold numZ
  by_cases h : 0 ≤ n ∧ n < 34359738368
  · rw [if_pos h]
    exact rNumber_nat n w h.1 (by omega)
  · rw [if_neg h]
    refine (rNumber_none n w (by omega)).mono ?_
    rintro e w' ⟨rfl, rfl⟩
    exact ⟨_, rfl, ⟨by simp [bytesV], .inl ⟨rfl, rfl⟩⟩, Below.refl _ _⟩
end Go.Proofs.Ythcehdllpoenjaa
