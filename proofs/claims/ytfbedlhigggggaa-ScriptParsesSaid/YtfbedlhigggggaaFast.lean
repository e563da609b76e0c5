/- Whole numbers and tokens: their arithmetic. -/
import Derived.Test.YtfbedlhigggggaaOps4
import Derived.Laws.StructEq
import Derived.Test.YtfbedlhigggggaaFloat
namespace Go.Proofs.Ytfbedlhigggggaa
open Go Go.RowKit
variable [Toks]

omit [Toks] in
theorem inK_wrap {k : IntKind} {z : Int} (h : inK k z = true) : k.wrap z = z := by
  cases k <;> simp only [inK, Bool.and_eq_true, decide_eq_true_eq] at h <;> try cases h
  · have e := IntKind.wrap_i64 z
    rw [e]; omega
  · have : (IntKind.u8.wrap z) = z % 256 := by simp [IntKind.wrap, IntKind.signed, IntKind.bits]
    rw [this]; omega
omit [Toks] in
theorem inK_mid {k : IntKind} {l z h : Int} (h1 : inK k l = true) (h2 : inK k h = true) (h3 : l ≤ z) (h4 : z ≤ h) : inK k z = true := by
  cases k <;> simp only [inK, Bool.and_eq_true, decide_eq_true_eq] at h1 h2 ⊢ <;> first | (cases h1; done) | omega
theorem rng_ok {ρ : Ren} {x x' : Value} (hv : VR ρ x x') {k : IntKind} {l h : Int} (hr : rng x = some (k, l, h)) : ∃ z, x' = .int k z ∧ l ≤ z ∧ z ≤ h := by
  unfold rng at hr
  split at hr
  · simp only [Option.some.injEq, Prod.mk.injEq] at hr
    obtain ⟨rfl, rfl, rfl⟩ := hr
    exact ⟨_, hv.int, Int.le_refl _, Int.le_refl _⟩
  · simp only [Option.some.injEq, Prod.mk.injEq] at hr
    obtain ⟨rfl, rfl, rfl⟩ := hr
    obtain ⟨e, h1, h2⟩ := hv
    exact ⟨_, e, by omega, by omega⟩
  · cases hr
theorem shiftV_ok {ρ : Ren} {x x' r : Value} {d : Int} (hv : VR ρ x x') (hs : shiftV d x = some r) : ∃ k z, x' = .int k z ∧ VR ρ r (.int k (z + d)) ∧ inK k (z + d) = true := by
  unfold shiftV at hs
  split at hs
  · split at hs
    · injection hs with hs
      subst hs
      exact ⟨_, _, hv.int, VR.flat rfl, ‹_›⟩
    · cases hs
  · split at hs
    · rename_i hc
      simp only [Bool.and_eq_true] at hc
      injection hs with hs
      subst hs
      obtain ⟨e, h1, h2⟩ := hv
      refine ⟨_, _, e, ⟨by rw [Int.add_assoc], h1, h2⟩, inK_mid hc.1 hc.2 (by omega) (by omega)⟩
    · cases hs
  · cases hs
theorem negT_ok {ρ : Ren} {x x' r : Value} (hx : VR ρ x x') (h : negT x = some r) : ∃ z, x' = .int .i64 z ∧ VR ρ r (.int .i64 (-z)) ∧ -2199023255552 ≤ z ∧ z ≤ 2199023255552 := by
  unfold negT at h
  split at h
  · rename_i t lo hi c
    split at h
    · rename_i hc
      obtain ⟨h1, h2, h3, h4, h5⟩ := hc
      injection h with h
      subst h
      obtain ⟨e, g1, g2⟩ := hx
      have l1 : (hi : Int) ≤ 1099511627776 := Int.ofNat_le.2 h3
      have l2 : (0 : Int) ≤ lo := Int.natCast_nonneg lo
      have l3 : ((1099511627776 - hi : Nat) : Int) = 1099511627776 - (hi : Int) := Int.ofNat_sub h3
      have l4 : ((1099511627776 - lo : Nat) : Int) = 1099511627776 - (lo : Int) := Int.ofNat_sub h2
      refine ⟨_, e, ?_, by omega, by omega⟩
      refine ⟨?_, ?_, ?_⟩
      · rw [Toks.A_neg h1]; congr 1; omega
      · rw [Toks.A_neg h1]; show ((1099511627776 - hi : Nat) : Int) ≤ _; omega
      · rw [Toks.A_neg h1]; show _ ≤ ((1099511627776 - lo : Nat) : Int); omega
    · cases h
  · cases h
theorem litV_ok {ρ : Ren} {x x' : Value} (hv : VR ρ x x') {a : Int} (h : litV x = some a) : ∃ k, x = .int k a ∧ x' = .int k a := by
  unfold litV at h
  split at h
  · injection h with h; subst h; exact ⟨_, rfl, hv.int⟩
  · cases h
theorem sameTok_ok {ρ : Ren} {x y x' y' : Value} (hx : VR ρ x x') (hy : VR ρ y y') {c c' : Int} (h : sameTok x y = some (c, c')) : ∃ k A, x' = .int k (A + c) ∧ y' = .int k (A + c') := by
  unfold sameTok at h
  split at h
  · split at h
    · rename_i e
      obtain ⟨rfl, rfl⟩ := e
      simp only [Option.some.injEq, Prod.mk.injEq] at h
      obtain ⟨rfl, rfl⟩ := h
      exact ⟨_, _, hx.1, hy.1⟩
    · cases h
  · cases h
omit [Toks] in
theorem iLeB_iff : ∀ {a b : Int}, iLeB a b = true → a ≤ b
  | .ofNat m, .ofNat n, h => Int.ofNat_le.2 (Nat.le_of_ble_eq_true h)
  | .negSucc m, .negSucc n, h => by
    have := Nat.le_of_ble_eq_true (show Nat.ble n m = true from h)
    omega
  | .negSucc m, .ofNat n, _ => by
    have h1 := Int.negSucc_lt_zero m
    have h2 := Int.natCast_nonneg n
    show Int.negSucc m ≤ (n : Int)
    omega
  | .ofNat _, .negSucc _, h => nomatch h
theorem pickR_ok {ρ : Ren} {x y x' y' r : Value} {mn : Bool} (hx : VR ρ x x') (hy : VR ρ y y') (h : pickR mn x y = some r) : ∃ k a b, x' = .int k a ∧ y' = .int k b ∧ VR ρ r (.int k (if mn then (if b < a then b else a) else (if b > a then b else a))) := by
  have key : ∀ {k a b}, x' = .int k a → y' = .int k b → (a ≤ b → r = (if mn then x else y) → VR ρ r (.int k (if mn then (if b < a then b else a) else (if b > a then b else a)))) ∧ (b ≤ a → r = (if mn then y else x) → VR ρ r (.int k (if mn then (if b < a then b else a) else (if b > a then b else a)))) := by
    intro k a b ex ey
    subst ex ey
    constructor
    · intro hab hr
      subst hr
      have e1 : (if b < a then b else a) = a := by rw [if_neg]; omega
      have e2 : (if b > a then b else a) = b := by split <;> omega
      cases mn
      · simpa [e2] using hy
      · simpa [e1] using hx
    · intro hab hr
      subst hr
      have e1 : (if b < a then b else a) = b := by split <;> omega
      have e2 : (if b > a then b else a) = a := by rw [if_neg]; omega
      cases mn
      · simpa [e2] using hx
      · simpa [e1] using hy
  unfold pickR at h
  split at h
  · rename_i c c' hst
    obtain ⟨k, A, ex, ey⟩ := sameTok_ok hx hy hst
    obtain ⟨k1, k2⟩ := key ex ey
    refine ⟨k, _, _, ex, ey, ?_⟩
    split at h
    · injection h with h; exact k1 (by omega) h.symm
    · injection h with h; exact k2 (by omega) h.symm
  · split at h
    · rename_i k l1 h1 k' l2 h2 hr1 hr2
      split at h
      · rename_i hk
        subst hk
        obtain ⟨a, ex, a1, a2⟩ := rng_ok hx hr1
        obtain ⟨b, ey, b1, b2⟩ := rng_ok hy hr2
        obtain ⟨k1, k2⟩ := key ex ey
        refine ⟨k, a, b, ex, ey, ?_⟩
        split at h
        · have hle := iLeB_iff ‹_›
          injection h with h; exact k1 (by omega) h.symm
        · split at h
          · have hle := iLeB_iff ‹_›
            injection h with h; exact k2 (by omega) h.symm
          · cases h
      · cases h
    · cases h
omit [Toks] in
theorem cmpR_ok {P : Program} {op : BinOp} {l1 h1 l2 h2 a b : Int} {r : Bool} (h : cmpR op l1 h1 l2 h2 = some r) (a1 : l1 ≤ a) (a2 : a ≤ h1) (b1 : l2 ≤ b) (b2 : b ≤ h2) (k : IntKind) (t : TypeId) (w : World) : (binOp op t (.int k a) (.int k b)).run P w = .ok (.bool r) w := by
  have key : ∀ q : Bool, r = q → Op.intCmp op a b = pure (.bool q) → binOp op t (.int k a) (.int k b) = Op.intCmp op a b → (binOp op t (.int k a) (.int k b)).run P w = .ok (.bool r) w := by
    intro q h1 h2 h3
    rw [h3, h2, h1, Sem.run_pure]
  cases op <;> simp only [cmpR] at h <;> try cases h
  all_goals
    refine key _ ?_ rfl (by simp [binOp])
    split at h
    · injection h with h; subst h; simp; omega
    · split at h
      · injection h with h; subst h; simp; omega
      · cases h
theorem fastB_ok {P : Program} {ρ : Ren} {op : BinOp} {x y x' y' r : Value} (hx : VR ρ x x') (hy : VR ρ y y') (h : fastB op x y = some r) (t : TypeId) (w : World) :
    (∃ k a b, x' = .int k a ∧ y' = .int k b) ∧ ∃ r', (binOp op t x' y').run P w = .ok r' w ∧ VR ρ r r' := by
  unfold fastB at h
  split at h
  · rename_i k l1 h1 k' l2 h2 hr1 hr2
    split at h
    · rename_i hk
      subst hk
      obtain ⟨a, rfl, a1, a2⟩ := rng_ok hx hr1
      obtain ⟨b, rfl, b1, b2⟩ := rng_ok hy hr2
      refine ⟨⟨_, _, _, rfl, rfl⟩, ?_⟩
      have cmp : ∀ op, binOp op t (.int k a) (.int k b) = binOp op t (.int k a) (.int k b) → ((match sameTok x y with | some (c, c') => (cmpR op c c c' c').map Value.bool | none => (cmpR op l1 h1 l2 h2).map Value.bool) = some r) → ∃ r', (binOp op t (.int k a) (.int k b)).run P w = .ok r' w ∧ VR ρ r r' := by
        intro op _ h
        split at h
        · rename_i c c' hst
          obtain ⟨k2, A, e1, e2⟩ := sameTok_ok hx hy hst
          injection e1 with e1 e1'
          injection e2 with e2 e2'
          simp only [Option.map_eq_some_iff] at h
          obtain ⟨q, hq, rfl⟩ := h
          have hq2 : cmpR op (A + c) (A + c) (A + c') (A + c') = some q := by
            rw [← hq]
            cases op <;> simp only [cmpR] <;> (repeat (first | rfl | (congr 1; first | (apply propext; omega) | skip)))
          exact ⟨_, cmpR_ok hq2 (by omega) (by omega) (by omega) (by omega) k t w, VR.flat rfl⟩
        · simp only [Option.map_eq_some_iff] at h
          obtain ⟨q, hq, rfl⟩ := h
          exact ⟨_, cmpR_ok hq a1 a2 b1 b2 k t w, VR.flat rfl⟩
      have badd : ∀ z, z = a + b → inK k z = true → (binOp .add t (.int k a) (.int k b)).run P w = .ok (.int k z) w := by
        intro z hz hk
        subst hz
        simp [binOp, Op.intArith, inK_wrap hk]
      have bsub : ∀ z, z = a - b → inK k z = true → (binOp .sub t (.int k a) (.int k b)).run P w = .ok (.int k z) w := by
        intro z hz hk
        subst hz
        simp [binOp, Op.intArith, inK_wrap hk]
      have bmul : ∀ z, z = a * b → inK k z = true → (binOp .mul t (.int k a) (.int k b)).run P w = .ok (.int k z) w := by
        intro z hz hk
        subst hz
        simp [binOp, Op.intArith, inK_wrap hk]
      have bdiv : 0 ≤ a → 0 < b → (binOp .rem t (.int k a) (.int k b)).run P w = .ok (.int k (a % b)) w ∧ (inK k (a / b) = true → (binOp .quo t (.int k a) (.int k b)).run P w = .ok (.int k (a / b)) w) := by
        intro ha hb
        have e1 : a.tmod b = a % b := Int.tmod_eq_emod_of_nonneg ha
        have e2 : a.tdiv b = a / b := Int.tdiv_eq_ediv_of_nonneg ha
        have hb0 : ¬ b = 0 := by omega
        refine ⟨?_, fun hk => ?_⟩
        · simp [binOp, Op.intDiv, hb0, e1]
        · simp [binOp, Op.intDiv, hb0, e2, inK_wrap hk]
      cases op
      case add =>
        simp only at h
        split at h
        · rename_i b0 hb0
          obtain ⟨k2, e1, e2⟩ := litV_ok hy hb0
          injection e2 with e2 e2'
          subst e2 e2'
          obtain ⟨k3, z, g1, g2, g3⟩ := shiftV_ok hx h
          injection g1 with g1 g1'
          subst g1 g1'
          exact ⟨_, badd _ rfl g3, g2⟩
        · simp only [Option.bind_eq_some_iff] at h
          obtain ⟨a0, ha0, h⟩ := h
          obtain ⟨k2, e1, e2⟩ := litV_ok hx ha0
          injection e2 with e2 e2'
          subst e2 e2'
          obtain ⟨k3, z, g1, g2, g3⟩ := shiftV_ok hy h
          injection g1 with g1 g1'
          subst g1 g1'
          exact ⟨_, badd _ (Int.add_comm _ _) g3, g2⟩
      case sub =>
        simp only at h
        split at h
        · rename_i b0 hb0
          obtain ⟨k2, e1, e2⟩ := litV_ok hy hb0
          injection e2 with e2 e2'
          subst e2 e2'
          obtain ⟨k3, z, g1, g2, g3⟩ := shiftV_ok hx h
          injection g1 with g1 g1'
          subst g1 g1'
          exact ⟨_, bsub _ Int.sub_eq_add_neg.symm g3, g2⟩
        · simp only [Option.bind_eq_some_iff] at h
          obtain ⟨a0, ha0, u, hu, h⟩ := h
          obtain ⟨k2, e1, e2⟩ := litV_ok hx ha0
          injection e2 with e2 e2'
          subst e2 e2'
          obtain ⟨zb, e3, e4, _⟩ := negT_ok hy hu
          injection e3 with e3 e3'
          subst e3 e3'
          obtain ⟨k3, z, g1, g2, g3⟩ := shiftV_ok e4 h
          injection g1 with g1 g1'
          subst g1 g1'
          exact ⟨_, bsub _ (by omega) g3, g2⟩
      case mul =>
        simp only at h
        split at h
        · rename_i a0 b0 ha0 hb0
          obtain ⟨k2, e1, e2⟩ := litV_ok hx ha0
          obtain ⟨k3, e3, e4⟩ := litV_ok hy hb0
          injection e2 with e2 e2'
          injection e4 with e4 e4'
          subst e2 e2' e4'
          split at h
          · injection h with h; subst h; exact ⟨_, bmul _ rfl ‹_›, VR.flat rfl⟩
          · cases h
        · rename_i b0 ha0 hb0
          obtain ⟨k3, e3, e4⟩ := litV_ok hy hb0
          injection e4 with e4 e4'
          subst e4'
          split at h
          · rename_i hb1
            obtain ⟨hb1, hk1, hk2⟩ := hb1
            injection h with h
            subst h hb1
            exact ⟨_, bmul a (Int.mul_one a).symm (inK_mid hk1 hk2 a1 a2), hx⟩
          · cases h
        · rename_i a0 ha0 hb0
          obtain ⟨k3, e3, e4⟩ := litV_ok hx ha0
          injection e4 with e4 e4'
          subst e4'
          split at h
          · rename_i hb1
            obtain ⟨hb1, hk1, hk2⟩ := hb1
            injection h with h
            subst h hb1
            exact ⟨_, bmul b (Int.one_mul b).symm (inK_mid hk1 hk2 b1 b2), hy⟩
          · cases h
        · cases h
      case rem =>
        simp only [Option.bind_eq_some_iff] at h
        obtain ⟨b0, hb0, h⟩ := h
        obtain ⟨k3, e3, e4⟩ := litV_ok hy hb0
        injection e4 with e4 e4'
        subst e4'
        split at h
        · rename_i hc
          injection h with h
          subst h
          have := (bdiv (by omega) (by omega)).1
          rw [Int.emod_eq_of_lt (by omega) (by omega)] at this
          exact ⟨_, this, hx⟩
        · simp only [Option.bind_eq_some_iff] at h
          obtain ⟨a0, ha0, h⟩ := h
          obtain ⟨k2, e1, e2⟩ := litV_ok hx ha0
          injection e2 with e2 e2'
          subst e2'
          split at h
          · rename_i hc
            injection h with h
            subst h
            exact ⟨_, (bdiv hc.1 hc.2).1, VR.flat rfl⟩
          · cases h
      case quo =>
        simp only [Option.bind_eq_some_iff] at h
        obtain ⟨b0, hb0, h⟩ := h
        obtain ⟨k3, e3, e4⟩ := litV_ok hy hb0
        injection e4 with e4 e4'
        subst e4'
        split at h
        · rename_i hc
          injection h with h
          subst h
          have e0 : a / b = 0 := Int.ediv_eq_zero_of_lt (by omega) (by omega)
          have := (bdiv (by omega) (by omega)).2 (by rw [e0]; exact hc.2.2)
          rw [e0] at this
          exact ⟨_, this, VR.flat rfl⟩
        · simp only [Option.bind_eq_some_iff] at h
          obtain ⟨a0, ha0, h⟩ := h
          obtain ⟨k2, e1, e2⟩ := litV_ok hx ha0
          injection e2 with e2 e2'
          subst e2'
          split at h
          · rename_i hc
            injection h with h
            subst h
            exact ⟨_, (bdiv hc.1 hc.2.1).2 hc.2.2, VR.flat rfl⟩
          · cases h
      all_goals first
        | exact cmp _ rfl h
        | (simp [cmpR] at h; done)
        | (simp only at h; split at h <;> simp [cmpR] at h)
    · cases h
  · split at h
    · rename_i k b _
      split at h
      · rename_i hc
        obtain ⟨hk, rfl⟩ := hc
        injection h with h
        subst h
        have e : x' = .int .i64 (Toks.A k) := hx
        obtain rfl := hy.int
        subst e
        refine ⟨⟨_, _, _, rfl, rfl⟩, .int .i64 (IntKind.i64.wrap ((Toks.A k).tdiv 8)), ?_, ?_⟩
        · simp [binOp, Op.intDiv]
        · show _ = _
          rw [Toks.A_eighth hk]
      · cases h
    · cases h
theorem fastC_ok {P : Program} {ρ : Ren} {src dst : TypeId} {x x' r : Value} (hx : VR ρ x x') (h : fastC P src dst x = some r) (w : World) : ∃ r', (convert src dst x').run P w = .ok r' w ∧ VR ρ r r' := by
  unfold fastC at h
  split at h
  · rename_i d k' hs hd
    have run : ∀ k z, inK k' z = true → (convert src dst (.int k z)).run P w = .ok (.int k' z) w := by
      intro k z hk
      simp only [convert, Sem.run_bind, run_underlying hs, run_underlying hd, Result.andThen_ok]
      cases d <;> simp [Conv.intToInt, inK_wrap hk]
    split at h
    · split at h
      · injection h with h
        subst h
        obtain rfl := hx.int
        exact ⟨_, run _ _ ‹_›, VR.flat rfl⟩
      · cases h
    · split at h
      · rename_i hc
        simp only [Bool.and_eq_true] at hc
        injection h with h
        subst h
        obtain ⟨e, h1, h2⟩ := hx
        subst e
        exact ⟨_, run _ _ (inK_mid hc.1 hc.2 (by omega) (by omega)), rfl, h1, h2⟩
      · cases h
    · rename_i k
      split at h
      · rename_i hc
        obtain ⟨hk, rfl⟩ := hc
        injection h with h
        subst h
        have e : x' = .int .i64 (Toks.A k) := hx
        subst e
        refine ⟨.int .u8 (Toks.A k % 256), ?_, ?_⟩
        · have hw : IntKind.u8.wrap (Toks.A k) = Toks.A k % 256 := by simp [IntKind.wrap, IntKind.signed, IntKind.bits]
          simp only [convert, Sem.run_bind, run_underlying hs, run_underlying hd, Result.andThen_ok]
          cases d <;> simp [Conv.intToInt, hw]
        · have h1 := Int.emod_nonneg (Toks.A k) (show (256 : Int) ≠ 0 by omega)
          have h2 := Int.emod_lt_of_pos (Toks.A k) (show (0 : Int) < 256 by omega)
          show _ = _ ∧ _ ∧ _
          rw [Toks.A_byte hk]
          exact ⟨by rw [Int.add_zero], by omega, by omega⟩
      · cases h
    · cases h
  · rename_i d hs hd
    split at h
    · rename_i t lo hi c
      injection h with h
      subst h
      obtain ⟨e, h1, h2⟩ := hx
      subst e
      refine ⟨_, run_convert_int_float w src dst .i64 .f64 _ (by rw [hs]; rfl) hd, ?_⟩
      exact ⟨⟨by omega, h1, h2⟩, rfl⟩
    · cases h
  · cases h
theorem cplxT_ok {ρ : Ren} {x y x' y' r : Value} (hx : VR ρ x x') (hy : VR ρ y y') (h : cplxT x y = some r) : ∃ a b, x' = .float .f64 a ∧ y' = .float .f64 b ∧ VR ρ r (.complex .f64 a b) := by
  unfold cplxT at h
  split at h
  · injection h with h
    subst h
    obtain ⟨h1, h2⟩ := hx
    obtain ⟨h3, h4⟩ := hy
    exact ⟨_, _, h2, h4, h1, h3, rfl⟩
  · cases h
section
variable {P : Program} {M : Nat} {ρ : Ren} {h h' : AHeap} {w : World} {T : Tr Value} {a : Act}
theorem part_ok {t : TypeId} {cs cs' : Array Value} {off : Nat} (hc : LR (VR0 ρ) cs.toList cs'.toList) {v : Value} (hv : apart P t cs off = some v) : ∃ v', (∀ w, (part t cs' off).run P w = .ok v' w) ∧ VR ρ v v' := by
  unfold apart at hv
  split at hv
  · rename_i hagg
    simp only [Option.bind_eq_some_iff, Option.some.injEq] at hv
    obtain ⟨n, hn, rfl⟩ := hv
    refine ⟨.agg (cs'.extract off (off + n)), fun w => ?_, ⟨_, rfl, ?_⟩⟩
    · simp only [part, Sem.run_bind, isAggP_ok hagg, Result.andThen_ok, if_true, sizeP_ok hn, Sem.run_pure]
    · simp only [Array.toList_extract, List.extract]
      exact (hc.drop _).take _
  · rename_i hagg
    obtain ⟨u', h1, h2⟩ := get_arr hc _ _ (by rw [Array.getElem?_toList]; exact hv)
    refine ⟨u', fun w => ?_, VR.of0 h2⟩
    simp only [part, Sem.run_bind, isAggP_ok hagg, Result.andThen_ok, Bool.false_eq_true, if_false, h1, Sem.run_pure]
  · cases hv
theorem flat0_VR {v v' : Value} (h : flat0 v = true) (hv : VR ρ v v') : v' = v := by
  refine VR.eq ?_ hv
  cases v <;> first | exact h | (simp [flat0] at h; done) | (simp only [flat2, flat1]; exact h)
omit [Toks] in
theorem fl_same {n : Int} (h0 : 0 ≤ n) (h1 : n ≤ 1000000) : Op.floatEq .f64 (floatOfInt .f64 n) (floatOfInt .f64 n) = true := by
  unfold Op.floatEq
  rw [ofInt_fw h0, o_eql (fw_FV (by omega)) (fw_FV (by omega))]
  simp
theorem aeqV_ok {d : Nat} {t : TypeId} {x y x' y' : Value} {r : Bool} (hx : VR ρ x x') (hy : VR ρ y y') (hr : aeqV P (d + 1) t x y = some r) (w : World) : (Op.equalIn (d + 1) t x' y').run P w = .ok r w := by
  unfold aeqV at hr
  split at hr
  · rename_i k hu
    split at hr
    · rename_i b hb
      injection hr with hr
      subst hr
      obtain ⟨⟨k1, a1, a2, rfl, rfl⟩, r', h1, h2⟩ := fastB_ok (P := P) hx hy hb t w
      rw [run_equalIn_int w d t k1 k a1 a2 hu]
      have h3 : (binOp .eql t (.int k1 a1) (.int k1 a2)) = pure (.bool (a1 == a2)) := by
        simp [binOp, Op.intCmp]
      rw [h3] at h1
      simp only [Sem.run_pure, Result.ok.injEq, and_true] at h1
      subst h1
      have h4 := VR.eq (v := .bool b) rfl h2
      injection h4 with h4
      rw [h4]
    · cases hr
  · rename_i q hu
    have fl : ∀ {x y x' y' : Value}, VR ρ x x' → VR ρ y y' → (if flat0 x && flat0 y then pureRun P (Op.equalIn (d + 1) t x y) else none) = some r → (Op.equalIn (d + 1) t x' y').run P w = .ok r w := by
      intro x y x' y' hx hy hr
      split at hr
      · rename_i hf
        rw [Bool.and_eq_true] at hf
        rw [flat0_VR hf.1 hx, flat0_VR hf.2 hy]
        exact pureRun_ok hr w
      · cases hr
    split at hr
    · split at hr
      · rename_i hc
        simp only [Bool.and_eq_true] at hc
        obtain ⟨⟨⟨⟨⟨c1, c2⟩, c7⟩, c8⟩, c3⟩, c4⟩ := hc
        obtain rfl := Nat.eq_of_beq_eq_true c1
        obtain rfl := Nat.eq_of_beq_eq_true c2
        obtain rfl := Nat.eq_of_beq_eq_true c7
        obtain rfl := Nat.eq_of_beq_eq_true c8
        have c5 := Nat.le_of_ble_eq_true c3
        have c6 := Nat.le_of_ble_eq_true c4
        injection hr with hr
        subst hr
        obtain ⟨⟨a0, a1, a2⟩, ⟨b0, b1, b2⟩, rfl⟩ := hx
        obtain ⟨⟨_, _, _⟩, ⟨_, _, _⟩, rfl⟩ := hy
        simp only [Op.equalIn, Sem.run_bind, run_underlying hu, Result.andThen_ok, if_true, Sem.run_pure]
        have key : ∀ m n : Int, 0 ≤ m → m ≤ 1000000 → 0 ≤ n → n ≤ 1000000 → (Op.floatEq .f64 (floatOfInt .f64 m) (floatOfInt .f64 m) && Op.floatEq .f64 (floatOfInt .f64 n) (floatOfInt .f64 n)) = true := by
          intro m n h1 h2 h3 h4
          rw [fl_same h1 h2, fl_same h3 h4]
          rfl
        rw [key]
        all_goals omega
      · cases hr
    · exact fl hx hy hr
  · split at hr
    · rename_i hf
      rw [Bool.and_eq_true] at hf
      rw [flat0_VR hf.1 hx, flat0_VR hf.2 hy]
      exact pureRun_ok hr w
    · cases hr
theorem aeqFs_ok {d : Nat} {eq : TypeId → Value → Value → Option Bool} (he : ∀ t x y x' y' r, VR ρ x x' → VR ρ y y' → eq t x y = some r → ∀ w, (Op.equalIn d t x' y').run P w = .ok r w) {xs ys xs' ys' : Array Value} (hx : LR (VR0 ρ) xs.toList xs'.toList) (hy : LR (VR0 ρ) ys.toList ys'.toList) (w : World) :
    ∀ {fs : List Field} {r : Bool}, aeqFs P eq xs ys fs = some r → (Op.eqFields d xs' ys' fs).run P w = .ok r w
  | [], r, h => by
    simp only [aeqFs, Option.some.injEq] at h
    subst h
    rfl
  | f :: fs, r, h => by
    simp only [aeqFs] at h
    split at h
    · cases h
    · rename_i hn
      simp only [Option.bind_eq_some_iff] at h
      obtain ⟨a, h1, b, h2, q, h3, h4⟩ := h
      obtain ⟨a', p1, p2⟩ := part_ok (P := P) hx h1
      obtain ⟨b', q1, q2⟩ := part_ok (P := P) hy h2
      have e := he _ _ _ _ _ _ p2 q2 h3
      simp only [Op.eqFields, ne_eq, hn, not_false_eq_true, if_true, Sem.run_bind, p1, q1, e, Result.andThen_ok]
      cases q
      · simp only [Bool.false_eq_true, if_false, Option.some.injEq] at h4
        subst h4
        simp
      · simp only [if_true] at h4
        simp only [Bool.not_true, Bool.false_eq_true, if_false]
        exact aeqFs_ok he hx hy w h4
theorem aeqS_ok : ∀ (d : Nat) (t : TypeId) (x y x' y' : Value) (r : Bool), VR ρ x x' → VR ρ y y' → aeqS P d t x y = some r → ∀ w, (Op.equalIn d t x' y').run P w = .ok r w
  | 0, _, _, _, _, _, _, _, _, h => by simp [aeqS] at h
  | d + 1, t, x, y, x', y', r, hx, hy, h => by
    intro w
    simp only [aeqS] at h
    split at h
    · rename_i xs ys
      split at h
      · rename_i fs hu
        split at h
        · cases h
        · rename_i hs
          obtain ⟨xs', rfl, h1⟩ := hx.agg
          obtain ⟨ys', rfl, h2⟩ := hy.agg
          have hfo : P.fieldsOf t = fs := by unfold Program.fieldsOf; rw [hu]
          rw [run_equalIn_struct w d t xs' ys' (by rw [hfo]; exact hu) (by simpa using hs), hfo]
          exact aeqFs_ok (fun t x y x' y' r => aeqS_ok d t x y x' y' r) h1 h2 w h
      · cases h
    · exact aeqV_ok hx hy h w
theorem equalIn_ok (s : Sim M ρ h w) (d : Nat) (hd : d + 1 = 10000) {t : TypeId} {x y x' y' : Value} (hx : VR ρ x x') (hy : VR ρ y y') {r : Bool} (hr : aeql P h t x y = some r) :
    (Op.equalIn (d + 1) t x' y').run P w = .ok r w ∧ ((∃ cs ds, x' = .agg cs ∧ y' = .agg ds ∧ P.eqGuardType P.depth t = false) ∨ (∃ p q, x' = .pointer p ∧ y' = .pointer q) ∨ (∃ p n c q m e, x' = .slice p n c ∧ y' = .slice q m e) ∨ (∃ f g c, (x' = .nilFunc ∧ y' = .func f g c) ∨ (x' = .func f g c ∧ y' = .nilFunc))) := by
  unfold aeql at hr
  split at hr
  · rename_i e b hu
    injection hr with hr
    subst hr
    have ex := VR.eq (v := .pointer none) rfl hx
    obtain ⟨_, l, hl, rfl⟩ := hy.ptr
    subst ex
    refine ⟨?_, .inr (.inl ⟨_, _, rfl, rfl⟩)⟩
    simp only [Op.equalIn, Sem.run_bind, run_underlying hu, Result.andThen_ok, Sem.run_pure, Option.isNone_some]
  · rename_i e b hu
    injection hr with hr
    subst hr
    have ex := VR.eq (v := .pointer none) rfl hy
    obtain ⟨_, l, hl, rfl⟩ := hx.ptr
    subst ex
    refine ⟨?_, .inr (.inl ⟨_, _, rfl, rfl⟩)⟩
    simp only [Op.equalIn, Sem.run_bind, run_underlying hu, Result.andThen_ok, Sem.run_pure]
  · rename_i e b c hu
    obtain ⟨hs1, l1, hl1, rfl⟩ := hx.ptr
    obtain ⟨hs2, l2, hl2, rfl⟩ := hy.ptr
    split at hr
    · rename_i sz o o' hsz ho ho'
      split at hr
      · cases hr
      · rename_i hc
        injection hr with hr
        simp only [Bool.or_eq_true, decide_eq_true_eq, bne_iff_ne, ne_eq, not_or, Decidable.not_not] at hc
        obtain ⟨⟨⟨⟨c1, c2⟩, c3⟩, _⟩, _⟩ := hc
        refine ⟨?_, .inr (.inl ⟨_, _, rfl, rfl⟩)⟩
        simp only [Op.equalIn, Sem.run_bind, run_underlying hu, Result.andThen_ok, sizeP_ok hsz, ne_eq, c1, not_false_eq_true, if_true]
        obtain ⟨cs1, fz1, a1, _, _, a4, _⟩ := (s.ok _ o l1 ho hl1).cells (by omega)
        obtain ⟨cs2, fz2, b1, _, _, b4, _⟩ := (s.ok _ o' l2 ho' hl2).cells (by omega)
        by_cases hbl : b.block = c.block
        · have : l2 = l1 := by rw [hbl] at hl1; rw [hl1] at hl2; injection hl2 with e; exact e.symm
          subst this
          by_cases hof : b.off = c.off
          · rw [← hr, hbl, hof]
            simp only [Nat.beq_refl, Bool.and_self]
            exact run_sameAddr_same w _
          · have hrf : r = false := by
              rw [← hr]
              have : Nat.beq b.off c.off = false := by
                rw [Bool.eq_false_iff]
                intro e
                exact hof (Nat.eq_of_beq_eq_true e)
              simp [this]
            rw [hrf]
            exact run_sameAddr_other w (by intro e; injection e with _ e; exact hof (by omega)) (by rw [a1, a4 c2]) (by rw [a1, a4 c2])
        · have hrf : r = false := by
            rw [← hr]
            have : Nat.beq b.block c.block = false := by
              rw [Bool.eq_false_iff]
              intro e
              exact hbl (Nat.eq_of_beq_eq_true e)
            simp [this]
          rw [hrf]
          have hne : l1.b ≠ l2.b := fun e => (s.inj _ _ _ _ _ _ ho ho' hl1 hl2 e).elim hbl fun x => by omega
          exact run_sameAddr_other w (by intro e; injection e with e _; exact hne e) (by rw [a1, a4 c2]) (by rw [b1, b4 c3])
    · cases hr
  · rename_i e n c b m d hu
    injection hr with hr
    subst hr
    have ex := VR.eq (v := .slice none n c) rfl hx
    obtain ⟨_, l, o', c', hl, rfl, _⟩ := hy.slc
    subst ex
    refine ⟨?_, .inr (.inr (.inl ⟨_, _, _, _, _, _, rfl, rfl⟩))⟩
    simp only [Op.equalIn, Sem.run_bind, run_underlying hu, Result.andThen_ok, Sem.run_pure, Option.isNone_some]
  · rename_i e b n c m d hu
    injection hr with hr
    subst hr
    have ex := VR.eq (v := .slice none m d) rfl hy
    obtain ⟨_, l, o', c', hl, rfl, _⟩ := hx.slc
    subst ex
    refine ⟨?_, .inr (.inr (.inl ⟨_, _, _, _, _, _, rfl, rfl⟩))⟩
    simp only [Op.equalIn, Sem.run_bind, run_underlying hu, Result.andThen_ok, Sem.run_pure]
  · rename_i p q z fn f c hu
    injection hr with hr
    subst hr
    have ex := VR.eq (v := .nilFunc) rfl hx
    obtain ⟨f', c', rfl, _⟩ := hy
    subst ex
    refine ⟨?_, .inr (.inr (.inr ⟨_, _, _, .inl ⟨rfl, rfl⟩⟩))⟩
    simp only [Op.equalIn, Sem.run_bind, run_underlying hu, Result.andThen_ok, Sem.run_pure]
  · rename_i p q z fn f c hu
    injection hr with hr
    subst hr
    have ex := VR.eq (v := .nilFunc) rfl hy
    obtain ⟨f', c', rfl, _⟩ := hx
    subst ex
    refine ⟨?_, .inr (.inr (.inr ⟨_, _, _, .inr ⟨rfl, rfl⟩⟩))⟩
    simp only [Op.equalIn, Sem.run_bind, run_underlying hu, Result.andThen_ok, Sem.run_pure]
  · rename_i fs xs ys hu
    split at hr
    · cases hr
    · rename_i hg
      obtain ⟨xs', rfl, h1⟩ := hx.agg
      obtain ⟨ys', rfl, h2⟩ := hy.agg
      exact ⟨by rw [hd]; exact aeqS_ok 10000 t _ _ _ _ r hx hy hr w, .inl ⟨_, _, rfl, rfl, by simpa using hg⟩⟩
  · cases hr
theorem aeql_ok (s : Sim M ρ h w) {t : TypeId} {x y x' y' : Value} (hx : VR ρ x x') (hy : VR ρ y y') {r : Bool} (hr : aeql P h t x y = some r) (o1 o2 : Operand) :
    (do eqGuard .eql t o1 o2 x' y'; binOp .eql t x' y').run P w = .ok (.bool r) w ∧ (do eqGuard .neq t o1 o2 x' y'; binOp .neq t x' y').run P w = .ok (.bool (!r)) w := by
  obtain ⟨h1, h2⟩ := equalIn_ok (P := P) s 9999 rfl hx hy hr
  have h4 : (Op.equal t x' y').run P w = .ok r w := h1
  clear h1 hr
  rcases h2 with ⟨cs, ds, rfl, rfl, hg⟩ | h2
  · have h5 : (Op.equalIn 10000 t (.agg cs) (.agg ds)).run P w = .ok r w := h4
    constructor
    · simp only [Sem.run_bind, run_eqGuard_agg w .eql t o1 o2 cs ds hg, Result.andThen_ok, run_eql_struct, h5]
    · simp only [Sem.run_bind, run_eqGuard_agg w .neq t o1 o2 cs ds hg, Result.andThen_ok, run_neq_struct, h5]
  rcases h2 with ⟨p, q, rfl, rfl⟩ | ⟨p, n, c, q, m, e, rfl, rfl⟩ | ⟨f, g, c, ⟨rfl, rfl⟩ | ⟨rfl, rfl⟩⟩
  all_goals
    constructor
    · show (((Op.equal t _ _).bind fun b => pure (.bool b) : Sem Value)).run P w = _
      have := h4
      generalize Op.equal t _ _ = q at this ⊢
      show (q >>= fun b => pure (Value.bool b) : Sem Value).run P w = _
      simp only [Sem.run_bind, this, Result.andThen_ok, Sem.run_pure]
    · show (((Op.equal t _ _).bind fun b => pure (.bool (!b)) : Sem Value)).run P w = _
      have := h4
      generalize Op.equal t _ _ = q at this ⊢
      show (q >>= fun b => pure (Value.bool (!b)) : Sem Value).run P w = _
      simp only [Sem.run_bind, this, Result.andThen_ok, Sem.run_pure]
end
end Go.Proofs.Ytfbedlhigggggaa
