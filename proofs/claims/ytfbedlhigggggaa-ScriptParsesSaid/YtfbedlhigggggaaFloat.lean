/- Floats: what a word stands for, order, sums, whole numbers. -/
import Derived.Laws.FloatArith
import Derived.Laws.ComplexArith
import Derived.Laws.Externs
namespace Go.Proofs.Ytfbedlhigggggaa
open Go Ieee

/-- The least place, turned round; units of it in one. -/
def LP : Nat := 1074
theorem LP_eq : LP = 1074 := rfl
attribute [irreducible] LP
def U : Nat := 2 ^ LP
theorem U_pos : 0 < U := Nat.two_pow_pos _
theorem U_split {k : Nat} (h : k ≤ 1074) : U = 2 ^ (LP - k) * 2 ^ k := by unfold U; rw [← Nat.pow_add]; congr 1; have := LP_eq; omega
attribute [irreducible] U
/-- The word x stands for s v, in units. -/
def FV (x : Nat) (s : Bool) (v : Nat) : Prop := ∃ m e, double.read x = .number s m e ∧ -1074 ≤ e ∧ v = m * 2 ^ (e + 1074).toNat
def sv (s : Bool) (v : Nat) : Int := if s then -(v : Int) else v
theorem least_eq : double.leastPlace = -1074 := by decide
theorem binade_eq : double.binade = 2 ^ 52 := by decide
theorem inf_eq : double.infRung = 2047 * 2 ^ 52 := by decide
theorem sign_eq : double.signWeight = 2 ^ 63 := by decide
theorem frac_eq : double.fractionBits = 52 := rfl
theorem read_place {x : Nat} {s : Bool} {m : Nat} {e : Int} (h : double.read x = .number s m e) : -1074 ≤ e := by
  unfold Format.read at h
  simp only [least_eq] at h
  split at h
  · cases h; omega
  · split at h
    · cases h; omega
    · split at h <;> cases h
theorem FV.of {x : Nat} {s : Bool} {m : Nat} {e : Int} (h : double.read x = .number s m e) : FV x s (m * 2 ^ (e + 1074).toNat) := ⟨m, e, h, read_place h, rfl⟩
theorem signed_scale (s : Bool) (m a c : Nat) : Ieee.signed s m (a + c) = Ieee.signed s m a * (2 ^ c : Nat) := by
  unfold Ieee.signed
  simp only [Nat.shiftLeft_eq, Nat.pow_add]
  split
  · rw [← Nat.mul_assoc, Int.natCast_mul, Int.neg_mul]
  · rw [← Nat.mul_assoc, Int.natCast_mul]
theorem cmp_scale (a b : Int) {k : Int} (hk : 0 < k) : compare (a * k) (b * k) = compare a b := by
  rcases Int.lt_trichotomy a b with h | h | h
  · rw [Int.compare_eq_lt.2 h, Int.compare_eq_lt.2 ((Int.mul_lt_mul_right hk).2 h)]
  · subst h; rw [Int.compare_eq_eq.2 rfl, Int.compare_eq_eq.2 rfl]
  · rw [Int.compare_eq_gt.2 h, Int.compare_eq_gt.2 ((Int.mul_lt_mul_right hk).2 h)]
theorem FV.signed {s : Bool} {m : Nat} {e b : Int} (h1 : -1074 ≤ b) (h2 : b ≤ e) : sv s (m * 2 ^ (e + 1074).toNat) = Ieee.signed s m (e - b).toNat * (2 ^ (b + 1074).toNat : Nat) := by
  rw [← signed_scale, show (e - b).toNat + (b + 1074).toNat = (e + 1074).toNat by omega]
  unfold sv Ieee.signed
  rw [Nat.shiftLeft_eq]
theorem order_eq {x y : Nat} {s t : Bool} {v u : Nat} (hx : FV x s v) (hy : FV y t u) : FloatKind.f64.format.order x y = some (compare (sv s v) (sv t u)) := by
  obtain ⟨m, i, hx, hi, rfl⟩ := hx
  obtain ⟨n, j, hy, hj, rfl⟩ := hy
  show Format.order double x y = _
  unfold Format.order
  rw [hx, hy]
  show some (compare (Ieee.signed s m (i - min i j).toNat) (Ieee.signed t n (j - min i j).toNat)) = _
  rw [FV.signed (b := min i j) (by omega) (by omega), FV.signed (b := min i j) (by omega) (by omega), cmp_scale _ _ (Int.natCast_pos.2 (Nat.two_pow_pos _))]
theorem o_geq {x y : Nat} {s t : Bool} {v u : Nat} (hx : FV x s v) (hy : FV y t u) : (FloatKind.f64.format.order x y == some .gt || FloatKind.f64.format.order x y == some .eq) = decide (sv t u ≤ sv s v) := by
  rw [order_eq hx hy]
  rcases Int.lt_trichotomy (sv s v) (sv t u) with h | h | h
  · rw [Int.compare_eq_lt.2 h]; simp; omega
  · rw [Int.compare_eq_eq.2 h]; simp; omega
  · rw [Int.compare_eq_gt.2 h]; simp; omega
theorem o_leq {x y : Nat} {s t : Bool} {v u : Nat} (hx : FV x s v) (hy : FV y t u) : (FloatKind.f64.format.order x y == some .lt || FloatKind.f64.format.order x y == some .eq) = decide (sv s v ≤ sv t u) := by
  rw [order_eq hx hy]
  rcases Int.lt_trichotomy (sv s v) (sv t u) with h | h | h
  · rw [Int.compare_eq_lt.2 h]; simp; omega
  · rw [Int.compare_eq_eq.2 h]; simp; omega
  · rw [Int.compare_eq_gt.2 h]; simp; omega
theorem o_eql {x y : Nat} {s t : Bool} {v u : Nat} (hx : FV x s v) (hy : FV y t u) : (FloatKind.f64.format.order x y == some .eq) = decide (sv s v = sv t u) := by
  rw [order_eq hx hy]
  rcases Int.lt_trichotomy (sv s v) (sv t u) with h | h | h
  · rw [Int.compare_eq_lt.2 h]; simp; omega
  · rw [Int.compare_eq_eq.2 h]; simp; omega
  · rw [Int.compare_eq_gt.2 h]; simp; omega
theorem o_neq {x y : Nat} {s t : Bool} {v u : Nat} (hx : FV x s v) (hy : FV y t u) : (FloatKind.f64.format.order x y != some .eq) = !decide (sv s v = sv t u) := by
  rw [← o_eql hx hy]; rfl
/-! The nearest word. -/
theorem log2_scale {n : Nat} (hn : 0 < n) (t : Nat) : (n * 2 ^ t).log2 = n.log2 + t := by
  have h0 : n * 2 ^ t ≠ 0 := by have := Nat.mul_pos hn (Nat.two_pow_pos t); omega
  rw [Nat.log2_eq_iff h0]
  constructor
  · rw [Nat.pow_add]; exact Nat.mul_le_mul_right _ (Nat.log2_self_le (by omega))
  · rw [show n.log2 + t + 1 = n.log2 + 1 + t by omega, Nat.pow_add]
    exact (Nat.mul_lt_mul_right (Nat.two_pow_pos t)).2 Nat.lt_log2_self
theorem cut_exact (s : Bool) (n d : Nat) (hn : 0 < n) : Toward.even.cut s (n * 2 ^ d) d = n := by
  unfold Toward.cut
  have hl : d ≤ (n * 2 ^ d).log2 + 2 := by rw [log2_scale hn]; omega
  simp only [Nat.min_eq_left hl, Nat.shiftLeft_eq, Nat.one_mul]
  rw [Nat.mul_div_cancel _ (Nat.two_pow_pos d), Nat.mul_mod_left]
  have := Nat.two_pow_pos d
  simp
/-- The rung of M units of 2^-k. -/
def rungOf (M k : Nat) : Nat := (1022 - k + M.log2) * 2 ^ 52 + M * 2 ^ (52 - M.log2)
theorem log2_le {M : Nat} (h0 : 0 < M) (h : M < 2 ^ 53) : M.log2 ≤ 52 := by
  have := (Nat.log2_lt (n := M) (k := 53) (by omega)).2 h
  omega
theorem rung_min {a K : Nat} (ha : a ≤ 1074) (hK : K < 2 ^ 53) : min (a * 2 ^ 52 + K) (2047 * 2 ^ 52) = a * 2 ^ 52 + K := by omega
theorem nearest_eq (f : Format) (s : Bool) (T : Nat) (p : Int) (h : T ≠ 0) (last : Int) (hl : max (p + (T.log2 : Int) - (f.fractionBits : Int)) f.leastPlace = last) (kept : Nat) (hk : Toward.even.cut s (T <<< (p - last).toNat) (last - p).toNat = kept) :
    f.nearest s T p = f.word s (min ((last - f.leastPlace).toNat * f.binade + kept) f.infRung) := by
  subst hl
  subst hk
  unfold Format.nearest
  rw [if_neg h]
theorem near (s : Bool) {T c M k : Nat} (hM : 0 < M) (hM' : M < 2 ^ 53) (hk : k ≤ 1000) (h : T * 2 ^ c = M * 2 ^ (LP - k)) : double.nearest s T ((c : Int) - 1074) = double.word s (rungOf M k) := by
  have hLP := LP_eq
  have hL := log2_le hM hM'
  have hT : 0 < T := by
    rcases Nat.eq_zero_or_pos T with h0 | h0
    · subst h0
      have := Nat.mul_pos hM (Nat.two_pow_pos (LP - k))
      omega
    · exact h0
  have hlog : T.log2 + c = M.log2 + (LP - k) := by rw [← log2_scale hT, h, log2_scale hM]
  have hlast : max ((c : Int) - 1074 + (T.log2 : Int) - 52) (-1074) = (M.log2 : Int) - k - 52 := by omega
  have hkept : Toward.even.cut s (T <<< ((c : Int) - 1074 - ((M.log2 : Int) - k - 52)).toNat) (((M.log2 : Int) - k - 52) - ((c : Int) - 1074)).toNat = M * 2 ^ (52 - M.log2) := by
    rcases Nat.le_total c (1022 - k + M.log2) with hc | hc
    · have e1 : ((c : Int) - 1074 - ((M.log2 : Int) - k - 52)).toNat = 0 := by omega
      have e2 : (((M.log2 : Int) - k - 52) - ((c : Int) - 1074)).toNat = 1022 - k + M.log2 - c := by omega
      rw [e1, e2, Nat.shiftLeft_zero]
      have e3 : T = M * 2 ^ (52 - M.log2) * 2 ^ (1022 - k + M.log2 - c) := by
        have : T * 2 ^ c = M * 2 ^ (52 - M.log2) * 2 ^ (1022 - k + M.log2 - c) * 2 ^ c := by
          rw [h, Nat.mul_assoc, Nat.mul_assoc, ← Nat.pow_add, ← Nat.pow_add]
          congr 2
          omega
        exact Nat.eq_of_mul_eq_mul_right (Nat.two_pow_pos c) this
      rw [e3]
      exact cut_exact s _ _ (Nat.mul_pos hM (Nat.two_pow_pos _))
    · have e1 : ((c : Int) - 1074 - ((M.log2 : Int) - k - 52)).toNat = c - (1022 - k + M.log2) := by omega
      have e2 : (((M.log2 : Int) - k - 52) - ((c : Int) - 1074)).toNat = 0 := by omega
      rw [e1, e2, Nat.shiftLeft_eq]
      have e3 : T * 2 ^ (c - (1022 - k + M.log2)) = M * 2 ^ (52 - M.log2) := by
        have : T * 2 ^ (c - (1022 - k + M.log2)) * 2 ^ (1022 - k + M.log2) = M * 2 ^ (52 - M.log2) * 2 ^ (1022 - k + M.log2) := by
          rw [Nat.mul_assoc, ← Nat.pow_add, Nat.mul_assoc, ← Nat.pow_add, show c - (1022 - k + M.log2) + (1022 - k + M.log2) = c by omega, h]
          congr 2
          omega
        exact Nat.eq_of_mul_eq_mul_right (Nat.two_pow_pos _) this
      rw [e3]
      have := cut_exact s (M * 2 ^ (52 - M.log2)) 0 (Nat.mul_pos hM (Nat.two_pow_pos _))
      simpa using this
  have hM2 : M * 2 ^ (52 - M.log2) < 2 ^ 53 := by
    have h1 : M < 2 ^ (M.log2 + 1) := Nat.lt_log2_self
    have := (Nat.mul_lt_mul_right (Nat.two_pow_pos (52 - M.log2))).2 h1
    rw [← Nat.pow_add] at this
    rwa [show M.log2 + 1 + (52 - M.log2) = 53 by omega] at this
  have hr : min (((M.log2 : Int) - k - 52 - -1074).toNat * 2 ^ 52 + M * 2 ^ (52 - M.log2)) (2047 * 2 ^ 52) = rungOf M k := by
    rw [show ((M.log2 : Int) - k - 52 - -1074).toNat = 1022 - k + M.log2 by omega]
    exact rung_min (by omega) hM2
  rw [nearest_eq double s T ((c : Int) - 1074) (by omega) ((M.log2 : Int) - k - 52) (by rw [frac_eq, least_eq]; exact hlast) _ hkept, least_eq, binade_eq, inf_eq, hr]
theorem word_zero (s : Bool) : FV (double.word s 0) s 0 := by
  refine ⟨0, -1074, ?_, by omega, by simp⟩
  cases s <;> decide
theorem rungOf_FV (s : Bool) {M k : Nat} (hM : 0 < M) (hM' : M < 2 ^ 53) (hk : k ≤ 1000) : FV (double.word s (rungOf M k)) s (M * 2 ^ (LP - k)) := by
  have hLP := LP_eq
  have hL := log2_le hM hM'
  have hlo : 2 ^ 52 ≤ M * 2 ^ (52 - M.log2) := by
    have h1 : 2 ^ M.log2 ≤ M := Nat.log2_self_le (by omega)
    have := Nat.mul_le_mul_right (2 ^ (52 - M.log2)) h1
    rw [← Nat.pow_add] at this
    rwa [show M.log2 + (52 - M.log2) = 52 by omega] at this
  have hhi : M * 2 ^ (52 - M.log2) < 2 ^ 53 := by
    have h1 : M < 2 ^ (M.log2 + 1) := Nat.lt_log2_self
    have := (Nat.mul_lt_mul_right (Nat.two_pow_pos (52 - M.log2))).2 h1
    rw [← Nat.pow_add] at this
    rwa [show M.log2 + 1 + (52 - M.log2) = 53 by omega] at this
  refine ⟨M * 2 ^ (52 - M.log2), (M.log2 : Int) - k - 52, ?_, by omega, ?_⟩
  · generalize hK : M * 2 ^ (52 - M.log2) = K at *
    unfold rungOf
    rw [hK]
    have ha : 1022 - k + M.log2 ≤ 1074 := by omega
    have ha0 : (M.log2 : Int) - k - 52 = (1022 - k + M.log2 : Nat) - 1074 := by omega
    rw [ha0]
    generalize 1022 - k + M.log2 = a at *
    clear hK hL hM hM' ha0
    have hr : (a * 2 ^ 52 + K) < 2047 * 2 ^ 52 := by omega
    have hw : double.word s (a * 2 ^ 52 + K) = (if s then 2 ^ 63 else 0) + (a * 2 ^ 52 + K) := by
      unfold Format.word; rw [sign_eq]; cases s <;> simp
    unfold Format.read
    simp only [least_eq, binade_eq, inf_eq, sign_eq, hw]
    have e1 : ((if s then 2 ^ 63 else 0) + (a * 2 ^ 52 + K)) % 2 ^ 63 = a * 2 ^ 52 + K := by cases s <;> simp <;> omega
    have e2 : (((if s then 2 ^ 63 else 0) + (a * 2 ^ 52 + K)) / 2 ^ 63 % 2 == 1) = s := by
      cases s
      · have : (a * 2 ^ 52 + K) / 2 ^ 63 = 0 := by omega
        simp [this]
      · have : (2 ^ 63 + (a * 2 ^ 52 + K)) / 2 ^ 63 = 1 := by omega
        simp only [if_true, this]; decide
    rw [e1, e2, if_neg (by omega), if_pos hr]
    have e3 : (a * 2 ^ 52 + K) / 2 ^ 52 = a + 1 := by omega
    have e4 : (a * 2 ^ 52 + K) % 2 ^ 52 = K - 2 ^ 52 := by omega
    rw [e3, e4, show 2 ^ 52 + (K - 2 ^ 52) = K by omega, show (-1074 : Int) + ((a + 1 - 1 : Nat) : Int) = (a : Int) - 1074 by omega]
  · rw [Nat.mul_assoc, ← Nat.pow_add]
    congr 2
    omega
/-- The word of M units of 2^-k. -/
def W (s : Bool) (M k : Nat) : Nat := double.nearest s M (-(k : Int))
theorem W_FV (s : Bool) {M k : Nat} (hM : M < 2 ^ 53) (hk : k ≤ 1000) : FV (W s M k) s (M * 2 ^ (LP - k)) := by
  unfold W
  rcases Nat.eq_zero_or_pos M with h | h
  · subst h
    rw [Nat.zero_mul]
    exact word_zero s
  · have hLP := LP_eq
    have := near s (T := M) (c := LP - k) h hM hk rfl
    rw [show (((LP - k : Nat) : Int) - 1074) = -(k : Int) by omega] at this
    rw [this]
    exact rungOf_FV s h hM hk
/-- A whole number's word. -/
def fw (n : Nat) : Nat := W false n 0
theorem fw_FV {n : Nat} (hn : n < 2 ^ 53) : FV (fw n) false (n * U) := by
  have := W_FV false hn (show 0 ≤ 1000 by omega)
  rwa [show (2 : Nat) ^ (LP - 0) = U by unfold U; rw [Nat.sub_zero]] at this
theorem ofInt_fw {n : Int} (hn : 0 ≤ n) : floatOfInt .f64 n = fw n.toNat := by
  show double.nearest (decide (n < 0)) n.natAbs 0 = double.nearest false n.toNat (-((0 : Nat) : Int))
  rw [decide_eq_false (by omega), show n.natAbs = n.toNat by omega]
  rfl
/-- A sum that a word can tell. -/
theorem add_eq {x y v u M k : Nat} (hx : FV x false v) (hy : FV y false u) (hM : M < 2 ^ 53) (hk : k ≤ 1000) (h : v + u = M * 2 ^ (LP - k)) : FloatKind.f64.format.add x y = some (W false M k) := by
  obtain ⟨m, i, hx, hi, rfl⟩ := hx
  obtain ⟨n, j, hy, hj, rfl⟩ := hy
  show (((double.read x).sum (double.read y)).map double.write) = _
  rw [hx, hy]
  have hs : Datum.sum (.number false m i) (.number false n j) = some (.number false ((m <<< (i - min i j).toNat) + (n <<< (j - min i j).toNat)) (min i j)) := by
    show some (Datum.number (if Ieee.signed false m (i - min i j).toNat + Ieee.signed false n (j - min i j).toNat = 0 then (false && false) else decide (Ieee.signed false m (i - min i j).toNat + Ieee.signed false n (j - min i j).toNat < 0)) (Ieee.signed false m (i - min i j).toNat + Ieee.signed false n (j - min i j).toNat).natAbs (min i j)) = _
    have e1 : Ieee.signed false m (i - min i j).toNat = ((m <<< (i - min i j).toNat : Nat) : Int) := rfl
    have e2 : Ieee.signed false n (j - min i j).toNat = ((n <<< (j - min i j).toNat : Nat) : Int) := rfl
    rw [e1, e2]
    generalize m <<< (i - min i j).toNat = p
    generalize n <<< (j - min i j).toNat = q
    congr 2
    · split
      · rfl
      · simp; omega
  rw [hs]
  show some (double.nearest false _ _) = _
  have hb : -1074 ≤ min i j := by omega
  have e1 : m * 2 ^ (i + 1074).toNat = m <<< (i - min i j).toNat * 2 ^ (min i j + 1074).toNat := by
    rw [Nat.shiftLeft_eq, Nat.mul_assoc, ← Nat.pow_add]; congr 2; omega
  have e2 : n * 2 ^ (j + 1074).toNat = n <<< (j - min i j).toNat * 2 ^ (min i j + 1074).toNat := by
    rw [Nat.shiftLeft_eq, Nat.mul_assoc, ← Nat.pow_add]; congr 2; omega
  rw [e1, e2, ← Nat.add_mul] at h
  generalize m <<< (i - min i j).toNat + n <<< (j - min i j).toNat = T at *
  generalize min i j = b at *
  obtain ⟨c, hc⟩ : ∃ c : Nat, b = (c : Int) - 1074 := ⟨(b + 1074).toNat, by omega⟩
  subst hc
  rw [show ((c : Int) - 1074 + 1074).toNat = c by omega] at h
  rcases Nat.eq_zero_or_pos M with h0 | h0
  · subst h0
    have hT : T = 0 := by
      rw [Nat.zero_mul] at h
      rcases Nat.mul_eq_zero.1 h with h | h
      · exact h
      · have := Nat.two_pow_pos c; omega
    subst hT
    unfold W Format.nearest
    rw [if_pos rfl, if_pos rfl]
  · rw [near false h0 hM hk h]
    unfold W
    have hLP := LP_eq
    have := near false (T := M) (c := LP - k) h0 hM hk rfl
    rw [show (((LP - k : Nat) : Int) - 1074) = -(k : Int) by omega] at this
    rw [this]
end Go.Proofs.Ytfbedlhigggggaa
