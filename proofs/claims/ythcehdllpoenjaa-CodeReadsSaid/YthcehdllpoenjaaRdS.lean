/- A reader over bytes, as one thing: its contracts; what is read of what was written. -/
import Derived.Test.YthcehdllpoenjaaRdNew
import Derived.Lib.BufferOwn
namespace Go.Proofs.Ythcehdllpoenjaa
open Go.ChangeShapes Go.WideShapes Go.ChangeAt Go.RowKit
set_option linter.unusedVariables false
/-- A reader at g, of the bytes l, at the place p. -/
structure RdS (w : World) (B g : Nat) (l : List UInt8) (p : Nat) (b : Bool) : Prop where
  ge : B ≤ g
  lt : g < w.heap.size
  ex : ∃ A cp, Blk w g 47 #[.slice A l.length cp, .int .i64 p, .bool b] ∧ l.length ≤ cp ∧ cp ≤ maxLen ∧ l.length ≤ 140737488355000 ∧ p ≤ l.length ∧ ∃ C, ∀ w2, w.grownBy w2 (some g) → Reads w2 C 1 A l.length (bytesV l)
section
variable {w w' : World} {B g : Nat} {l : List UInt8} {p : Nat} {b : Bool}
theorem RdS.grow (h : RdS w B g l p b) (hg : w.grownBy w' none) : RdS w' B g l p b := by
  obtain ⟨A, cp, hb, h1, h2, h3, h4, C, hr⟩ := h.ex
  refine ⟨h.ge, Nat.lt_of_lt_of_le h.lt hg.size, A, cp, hb.grown hg (by simp), h1, h2, h3, h4, C, fun w2 h5 => hr w2 ?_⟩
  exact Lib.grownBy_trans ⟨hg.os, hg.tape, hg.output, hg.size, fun k hk _ => hg.block k hk (by simp)⟩ h5
theorem RdS.below (h : RdS w B g l p b) (hb : Below w.heap.size w w') : RdS w' B g l p b := h.grow (only_of_below hb none)
theorem RdS.drewN (h : RdS w B g l p b) (k : Nat) : RdS (w.drewN k) B g l p b := h.grow (only_drewN (World.grownBy.refl w none) k)
theorem RdS.len (h : RdS w B g l p b) : p ≤ l.length ∧ l.length ≤ 140737488355000 := by
  obtain ⟨A, cp, hb, h1, h2, h3, h4, C, hr⟩ := h.ex
  exact ⟨h4, h3⟩
theorem RdS.Number (h : RdS w B g l p b) :
    Calls Try.prog 14 #[.pointer (some ⟨g, 0, none⟩)] w fun e w' => e = .returned (.int .i64 (rdNum l p b).1) ∧ RdS w' B g l (rdNum l p b).2.1 (rdNum l p b).2.2 ∧ w.grownBy w' (some g) := by
  obtain ⟨A, cp, hb, h1, h2, h3, h4, C, hr⟩ := h.ex
  have hbd := rdNum_bd l p b h4
  refine (RdNum_ok g A l.length cp p C l b w hb (hr w (World.grownBy.refl w _)) (by omega) h4).mono ?_
  rintro e w1 ⟨rfl, hb1, hg1⟩
  exact ⟨rfl, ⟨h.ge, hb1.lt, A, cp, hb1, h1, h2, h3, hbd.2.2.2.1, C, fun w2 h5 => hr w2 (Lib.grownBy_trans hg1 h5)⟩, hg1⟩
theorem RdS.Text (h : RdS w B g l p b) :
    Calls Try.prog 16 #[.pointer (some ⟨g, 0, none⟩)] w fun e w' => e = .returned (.string ⟨(rdText l p b).1.toArray⟩) ∧ RdS w' B g l (rdText l p b).2.1 (rdText l p b).2.2 ∧ w.grownBy w' (some g) := by
  obtain ⟨A, cp, hb, h1, h2, h3, h4, C, hr⟩ := h.ex
  have hbd := rdNum_bd l p b h4
  have hp : (rdText l p b).2.1 ≤ l.length := by
    unfold rdText
    split
    · exact hbd.2.2.2.1
    · rename_i hn
      show (rdNum l p b).2.1 + (rdNum l p b).1.toNat ≤ l.length
      omega
  unfold maxLen at h2
  refine (RdText_ok g A l.length cp p C l b w hb hr (by omega) h1 (by omega) h4).mono ?_
  rintro e w1 ⟨rfl, hb1, hg1⟩
  exact ⟨rfl, ⟨h.ge, hb1.lt, A, cp, hb1, h1, by unfold maxLen; omega, h3, hp, C, fun w2 h5 => hr w2 (Lib.grownBy_trans hg1 h5)⟩, hg1⟩
theorem RdS.Done (h : RdS w B g l p b) :
    Calls Try.prog 18 #[.pointer (some ⟨g, 0, none⟩)] w fun e w' => e = .returned (.bool (!b && p == l.length)) ∧ ∃ m, w' = w.drewN m := by
  obtain ⟨A, cp, hb, h1, h2, h3, h4, C, hr⟩ := h.ex
  exact RdDone_ok g A l.length cp p b w hb
theorem RdS.Bad (h : RdS w B g l p b) :
    Calls Try.prog 20 #[.pointer (some ⟨g, 0, none⟩)] w fun e w' => e = .returned (.bool b) ∧ w = w' := by
  obtain ⟨A, cp, hb, h1, h2, h3, h4, C, hr⟩ := h.ex
  exact RdBad_ok g A l.length cp p b w hb
end
theorem New_s (A : Option Addr) (cp C : Nat) (l : List UInt8) (w : World) (hr : Reads w C 1 A l.length (bytesV l)) (hn : l.length ≤ 140737488355000) :
    Calls Try.prog 12 #[.slice A l.length cp] w fun e w' => ∃ g, e = .returned (.pointer (some ⟨g, 0, none⟩)) ∧ RdS w' w.heap.size g l 0 false ∧ Below w.heap.size w w' := by
  refine (New_any A l.length cp C l w hr (by omega)).mono ?_
  rintro e w1 ⟨g, A', cp', rfl, hge, hb, h1, h2, h3, h4⟩
  exact ⟨g, rfl, ⟨hge, hb.lt, A', cp', hb, h1, h2, hn, by omega, _, h3⟩, h4⟩
/-! What is read of what was written. -/
theorem decA_numF : ∀ (f n k : Nat) (acc : Int) (r : List UInt8) (F : Nat), n < numBd f → f ≤ 5 → f ≤ F → (k = 0 ∨ 0 < n) → 1 ≤ F → decA F (numF f n ++ r) k acc = some (acc + (n : Int) * sz k, k + (numF f n).length)
  | 0, n, k, acc, r, F, h, hf5, hF, hk, hF1 => by
    have h0 : n = 0 := by simp [numBd] at h; omega
    subst h0
    obtain ⟨F', rfl⟩ : ∃ F', F = F' + 1 := ⟨F - 1, by omega⟩
    have hk0 : k = 0 := by omega
    subst hk0
    simp [numF, decA]
  | f + 1, n, k, acc, r, F, h, hf5, hF, hk, hF1 => by
    obtain ⟨F', rfl⟩ : ∃ F', F = F' + 1 := ⟨F - 1, by omega⟩
    by_cases hs : n < 128
    · rw [numF_small _ _ hs]
      have e : (UInt8.ofNat n).toNat = n := by have := u8_nat n (by omega); omega
      simp only [List.cons_append, List.nil_append, decA, e]
      rw [if_neg (by omega), if_neg (by omega), Int.emod_eq_of_lt (by omega) (by omega)]
      rfl
    · have e : (UInt8.ofNat (128 + n % 128)).toNat = 128 + n % 128 := by have := u8_nat (128 + n % 128) (by omega); omega
      have hn : numF (f + 1) n = UInt8.ofNat (128 + n % 128) :: numF f (n / 128) := by simp [numF, hs]
      have hb : n < 128 * numBd f := h
      rw [hn]
      simp only [List.cons_append, decA, e]
      have hf1 : 1 ≤ f := by
        cases f with
        | zero => simp [numBd] at hb; omega
        | succ f => omega
      rw [if_pos (by omega), decA_numF f (n / 128) (k + 1) _ r F' (by omega) (by omega) (by omega) (.inr (by omega)) (by omega)]
      have hm : ((128 + n % 128 : Nat) : Int) % 128 = (n : Int) % 128 := by omega
      have hd : acc + (n : Int) % 128 * sz k + ((n / 128 : Nat) : Int) * sz (k + 1) = acc + (n : Int) * sz k := by
        have h1 : sz (k + 1) = sz k * 128 := rfl
        have h2 : (n : Int) = (n : Int) % 128 + 128 * ((n / 128 : Nat) : Int) := by omega
        rw [h1]
        conv => rhs; rw [h2]
        rw [Int.add_mul, Int.mul_comm 128 _, Int.mul_assoc ((n / 128 : Nat) : Int) 128 (sz k), Int.mul_comm 128 (sz k)]
        omega
      rw [hm, hd]
      simp only [List.length_cons]
      congr 2
      omega
theorem rdNum_num (l : List UInt8) (p n : Nat) (r : List UInt8) (hn : n < 34359738368) (h : l.drop p = numL n ++ r) : rdNum l p false = ((n : Int), p + (numL n).length, false) := by
  have h1 : decN l p = some ((n : Int), (numL n).length) := by
    unfold decN
    rw [h]
    unfold numL
    rw [decA_numF 5 n 0 0 r 5 (by rw [numBd_5]; exact hn) (by omega) (by omega) (.inl rfl) (by omega)]
    simp [sz]
  exact rdNum_some h1
theorem rdText_text (l : List UInt8) (p : Nat) (s : ByteArray) (r : List UInt8) (hs : s.size ≤ 200) (h : l.drop p = (numL s.size ++ s.data.toList) ++ r) : rdText l p false = (s.data.toList, p + (numL s.size).length + s.size, false) := by
  have h1 := rdNum_num l p s.size (s.data.toList ++ r) (by omega) (by rw [h, List.append_assoc])
  have hl := congrArg List.length h
  simp only [List.length_drop, List.length_append, Array.length_toList, ByteArray.size_data] at hl
  have hp1 := (numF_len 5 s.size).1
  have hp2 : 1 ≤ (numL s.size).length := hp1
  rw [rdText_out h1, if_neg]
  · have e : l.drop (p + (numL s.size).length) = s.data.toList ++ r := by
      rw [← List.drop_drop, h, List.append_assoc, List.drop_left]
    rw [e, Int.toNat_natCast, List.take_left' (by simp)]
  · simp only [Bool.false_eq_true, false_or]
    omega
theorem rdNum_end (l : List UInt8) : rdNum l l.length false = (0, l.length, true) := rdNum_none (by unfold decN; rw [List.drop_length]; rfl)
/-! What a beginning of the bytes tells is what they tell, or it is bad. -/
theorem decA_take : ∀ (f : Nat) (r r' : List UInt8) (k : Nat) (acc : Int) (q : Int × Nat), decA f r k acc = some q → decA f (r ++ r') k acc = some q
  | 0, _, _, _, _, _, h => by simp [decA] at h
  | _ + 1, [], _, _, _, _, h => by simp [decA] at h
  | f + 1, c :: r, r', k, acc, q, h => by
    simp only [List.cons_append, decA] at h ⊢
    split at h
    · rename_i h1
      rw [if_pos h1]
      exact decA_take f r r' _ _ q h
    · rename_i h1
      rw [if_neg h1]
      exact h
theorem rdNum_take (l : List UInt8) (m p : Nat) (b : Bool) (hp : p ≤ (l.take m).length) (h : (rdNum (l.take m) p b).2.2 = false) : rdNum (l.take m) p b = rdNum l p b := by
  cases b with
  | true => simp [rdNum] at h
  | false =>
    cases hd : decN (l.take m) p with
    | none => rw [rdNum_none hd] at h; cases h
    | some q =>
      have e : l.drop p = (l.take m).drop p ++ l.drop m := by
        conv => lhs; rw [← List.take_append_drop m l, List.drop_append_of_le_length hp]
      have h2 : decN l p = some q := by
        unfold decN
        rw [e]
        exact decA_take 5 _ _ 0 0 q hd
      obtain ⟨v, k⟩ := q
      rw [rdNum_some hd, rdNum_some h2]
theorem rdText_take (l : List UInt8) (m p : Nat) (b : Bool) (hp : p ≤ (l.take m).length) (h : (rdText (l.take m) p b).2.2 = false) : (rdText (l.take m) p b).2.1 = (rdText l p b).2.1 ∧ (rdText l p b).2.2 = false := by
  have hc : ¬ ((rdNum (l.take m) p b).2.2 = true ∨ 200 < (rdNum (l.take m) p b).1 ∨ ((l.take m).length : Int) < ((rdNum (l.take m) p b).2.1 : Int) + (rdNum (l.take m) p b).1) := by
    intro hc
    unfold rdText at h
    rw [if_pos hc] at h
    cases h
  have hb : (rdNum (l.take m) p b).2.2 = false := by
    cases h9 : (rdNum (l.take m) p b).2.2 with
    | false => rfl
    | true => exact absurd (.inl h9) hc
  have hq := rdNum_take l m p b hp hb
  have hl : (l.take m).length ≤ l.length := by rw [List.length_take]; omega
  unfold rdText
  rw [if_neg hc]
  rw [hq] at hc hb ⊢
  rw [if_neg (by
    rintro (h1 | h1 | h1)
    · exact hc (.inl h1)
    · exact hc (.inr (.inl h1))
    · exact hc (.inr (.inr (by omega)))) ]
  exact ⟨rfl, rfl⟩
theorem rdNum_bad (l : List UInt8) (p : Nat) : rdNum l p true = (0, p, true) := rfl
theorem rdText_bad (l : List UInt8) (p : Nat) : rdText l p true = ([], p, true) := rfl
set_option maxHeartbeats 400000 in
theorem KText_nat (s : ByteArray) (n : Nat) (w : World) (_hs : s.size ≤ maxLen) (hn : (n : Int) ≤ 1000000) :
    Calls Try.prog 9 #[.string s, .int .i64 n] w fun e w' => e = .returned (.string (s.extract 0 (min s.size n))) ∧ w = w' := by
  by_cases h : s.size ≤ n
  · have H : Hid (s.extract 0 (min s.size n) = s) := by show _ = _; rw [show min s.size n = s.size by omega]; simp
    go_enter Try.func9, Try.ntmps9
    go_wp2
    go_ret
    exact ⟨ret_str (by rw [H.out]), rfl⟩
  · have H : Hid (s.extract 0 (min s.size n) = s.extract 0 n) := by show _ = _; rw [show min s.size n = n by omega]
    go_enter Try.func9, Try.ntmps9
    go_wp2
    go_ret
    exact ⟨ret_str (by rw [H.out]), rfl⟩
end Go.Proofs.Ythcehdllpoenjaa
