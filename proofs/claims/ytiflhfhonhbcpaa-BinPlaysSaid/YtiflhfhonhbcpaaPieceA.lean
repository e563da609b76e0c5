/- An act's box, read by the executor. -/
import Derived.Test.YtiflhfhonhbcpaaPiece
import Derived.Test.YtiflhfhonhbcpaaCfg
namespace Go.Proofs.Ytiflhfhonhbcpaa
open Go Go.RowKit
set_option linter.unusedVariables false
/-- A block that is only read, as an abstract object. -/
theorem sim_ro [Toks] {g : Nat} {t : TypeId} {cs : Array Value} {w : World} (hb : Blk w g t cs) (cells : List Value) (es : Nat) (hc : ∀ (k : Nat) (u : Value), cells[k]? = some u → ∃ u', cs[k]? = some u' ∧ ∀ ρ, VR0 ρ u u') (M : Nat) (hM : 1 ≤ M) :
    Sim M (fun i => if i = 0 then some ⟨g, 1, 0⟩ else none) (h0.push ⟨cells, t, 2, es⟩) w := by
  have get : ∀ i x, (h0.push ⟨cells, t, 2, es⟩).get i = some x → i = 0 ∧ x = ⟨cells, t, 2, es⟩ := by
    intro i x h
    rw [AHeap.get_push] at h
    split at h
    · rename_i e
      injection h with h
      exact ⟨e, h.symm⟩
    · rw [AHeap.get_ge h0 i (Nat.zero_le _)] at h
      cases h
  refine ⟨fun i x l h1 h2 => ?_, fun i j x y l l' h1 h2 _ _ _ => .inl (by rw [(get i x h1).1, (get j y h2).1]), fun i l h => ?_, fun i hi => AHeap.get_ge _ i hi, hM⟩
  · obtain ⟨rfl, rfl⟩ := get i x h1
    simp only [if_true, Option.some.injEq] at h2
    subst h2
    refine Held.ofCells (show (2 : Nat) < 3 by decide) ⟨cs, (0, 0), hb, fun k u hu => ?_, fun h => absurd rfl h, fun h => (by cases h), fun h => absurd rfl h⟩
    obtain ⟨u', h1, h2⟩ := hc k u hu
    exact ⟨u', by simpa using h1, h2 _⟩
  · split at h
    · rename_i e
      injection h with h
      subst h e
      exact ⟨.inl (Nat.zero_lt_succ _), hb.lt⟩
    · cases h
theorem ro_one {cells : List Value} {t : TypeId} {es : Nat} : ∀ i o, (h0.push ⟨cells, t, 2, es⟩).get i = some o → o.kind = 2 := by
  intro i o h
  rw [AHeap.get_push] at h
  split at h
  · injection h with h
    rw [← h]
  · rw [AHeap.get_ge h0 i (Nat.zero_le _)] at h
    cases h
theorem tokA_low [Toks] {k : Nat} (h : k < 1000000) : Toks.A k = Toks.B k := Toks.A_low h
/-- A number's rest that is known. -/
theorem rest_one [Toks] {k : Nat} {x n r : Int} (hk : Toks.A k = x) (h : x % n = r) (ρ : Ren) : VR ρ (.int .i64 r) (.int .i64 (Toks.A k % n)) := by
  rw [hk, h]
  exact VR.flat rfl
/-- A number's rest as a token of its own. -/
theorem rest_tok [Toks] {k j : Nat} {x n : Int} {m : Nat} (hk : Toks.A k = x) (hj : Toks.A j = x % n) (hn : n = (m : Int) + 1) (ρ : Ren) : VR ρ (.iface j (.iface 0 (.iface m (.int .i64 0)))) (.int .i64 (Toks.A k % n)) := by
  have h1 := Int.emod_nonneg x (show n ≠ 0 by omega)
  have h2 := Int.emod_lt_of_pos x (show (0 : Int) < n by omega)
  show _ = _ ∧ _ ∧ _
  rw [hk, hj]
  exact ⟨by rw [Int.add_zero], by simpa using h1, by omega⟩
theorem cfgW_ok [Toks] (l : List (Nat × Int × Value)) (hA : ∀ q ∈ l, -9223372036854775808 ≤ Toks.A q.1 ∧ Toks.A q.1 ≤ 9223372036854775807) (hl : ∀ q ∈ l, 1 ≤ q.2.1 ∧ q.2.1 ≤ 9223372036854775807 ∧ ∀ ρ : Ren, VR ρ q.2.2 (.int .i64 (Toks.A q.1 % q.2.1))) : CfgOk Try.prog ⟨fun _ => true, overW l, fun _ _ _ => none⟩ :=
  ⟨overW_ok l hA hl, CallOk.none, CallMono.none⟩
/-- What follows a region, once for all its cases. -/
theorem piece_or {P : Program} {c : Code} {Q : Exit → Act → World → Prop} {a : Act} {w : World} (ds : List Tmp) (Good : (Tmp → Value) → World → Prop) (hq : ∀ (f : Tmp → Value) (w' : World), Good f w' → Q .normal (ds.foldl (fun b d => b.put (some d) (f d)) a) w')
    (h : (∀ (f : Tmp → Value) (w' : World), Good f w' → Q .normal (ds.foldl (fun b d => b.put (some d) (f d)) a) w') → c.wp P Q a w) : c.wp P Q a w := h hq
end Go.Proofs.Ytiflhfhonhbcpaa
