/- The walk of DiskOwn: the plain terms find it true, case by case. -/
import Derived.Test.YtijpidopagogoaaDOW0
import Derived.Test.YtijpidopagogoaaDOW1
import Derived.Test.YtijpidopagogoaaDOW2
import Derived.Test.YtijpidopagogoaaDOW3
namespace Go.Proofs.Ytijpidopagogoaa.diskOwn
open Go.ChangeShapes Go.WideShapes Go.ChangeAt Go.RowKit
set_option maxRecDepth 1000000
set_option linter.unusedVariables false
set_option maxHeartbeats 8000000 in
theorem walk (v0 : Value) (w : World) (b0 : ByteArg w v0) :
    Calls Try.prog 6 #[v0] w fun e w' => e = .returned (.bool true) ∧ Below w.heap.size w w' := by
  obtain ⟨xs, hx⟩ := bytes_xs b0
  letI : Toks := ⟨fun k => if 10000 ≤ k then xs.getD (k - 10000) 0 else 0⟩
  have hT : ∀ k, k < 21 → Toks.B (10000 * (0 + 1) + k) = xs.getD k 0 := by
    intro k hk
    show (if 10000 ≤ 10000 * (0 + 1) + k then xs.getD (10000 * (0 + 1) + k - 10000) 0 else 0 : Int) = _
    rw [if_pos (by omega), show 10000 * (0 + 1) + k - 10000 = k by omega]
  have fin : ∀ (obs : List (AObj × Loc)) (hp : AHeap) (u0 : Value), run u0 hp = true → heapOf (obs.map (·.1)) = hp → ArgsHeld obs w → VR (fun i => (obs[i]?).map (·.2)) u0 v0 →
      Calls Try.prog 6 #[v0] w fun e w' => e = .returned (.bool true) ∧ Below w.heap.size w w' := by
    intro obs hp u0 hc hhp hob r0
    subst hhp
    refine top_args (okF := cfg) tabAll_ok ⟨(fun _ _ _ h => nomatch h), summD_ok, summD_mono⟩ mixed 3000 60 w hob ?_ hc
    exact .cons r0 .nil
  rcases hx with rfl | ⟨b_, off, n, c_, cs, el, fz, rfl, hn, hw, hl, hx⟩
  · refine fin [] _ _ anil rfl ?_ (VR.flat rfl)
    intro q hq
    cases hq
  · obtain ⟨K, hK⟩ := Nat.exists_eq_add_of_le hn
    rw [Nat.add_comm] at hK
    subst hK
    by_cases hz : n = 0
    · subst hz
      cases K with
      | zero =>
        refine fin [(⟨byteToks 0 0 0 ++ (xs.drop 0).map (.int .u8), el, 2, 1⟩, ⟨b_, 0, off⟩)] _ _ (az0 ((xs.drop 0).map (.int .u8)) el) rfl ?_ (bytes_rel (by omega) rfl)
        intro q hq
        simp only [List.mem_cons, List.not_mem_nil, or_false] at hq
        subst hq
        exact ⟨rfl, bytes_held (by omega) (by omega) hw hx (fun k hk => hT k (by omega)) (by omega)⟩
      | succ K =>
        refine fin [(⟨byteToks 0 0 0 ++ (xs.drop 0).map (.int .u8), el, 2, 1⟩, ⟨b_, 0, off⟩)] _ _ (azk ((xs.drop 0).map (.int .u8)) el K) rfl ?_ (bytes_rel (by omega) rfl)
        intro q hq
        simp only [List.mem_cons, List.not_mem_nil, or_false] at hq
        subst hq
        exact ⟨rfl, bytes_held (by omega) (by omega) hw hx (fun k hk => hT k (by omega)) (by omega)⟩
    have hx0 : 0 ≤ xs.getD 0 0 ∧ xs.getD 0 0 ≤ 255 := by
      obtain ⟨x, h⟩ : ∃ x, xs[0]? = some x := ⟨xs[0], List.getElem?_eq_getElem (by omega)⟩
      rw [List.getD_eq_getElem?_getD, h]
      exact (hx 0 x h).2
    have hA : Toks.A 10000 = xs.getD 0 0 := (Toks.A_low (by decide)).trans (hT 0 (by decide))
    have hcase : (VR0 (fun _ => none) (.int .u8 0) (.int .u8 (xs.getD 0 0))) ∨ (VR0 (fun _ => none) (.int .u8 255) (.int .u8 (xs.getD 0 0))) ∨ (VR0 (fun _ => none) (.iface 10000 (.iface 1 (.iface 254 (.int .u8 0)))) (.int .u8 (xs.getD 0 0))) := by
      by_cases h0 : xs.getD 0 0 = 0
      · rw [h0]; exact .inl (VR0.flat rfl)
      by_cases h1 : xs.getD 0 0 = 255
      · rw [h1]; exact .inr (.inl (VR0.flat rfl))
      · refine .inr (.inr ?_)
        show Value.int .u8 (xs.getD 0 0) = .int .u8 (Toks.A 10000 + 0) ∧ ((1 : Nat) : Int) ≤ Toks.A 10000 ∧ Toks.A 10000 ≤ ((254 : Nat) : Int)
        rw [hA, Int.add_zero]
        exact ⟨rfl, by omega, by omega⟩
    by_cases hb : n < 21
    · obtain ⟨n, rfl⟩ : ∃ m, n = m + 1 := ⟨n - 1, by omega⟩
      rcases hcase with hh | hh | hh
      · have hc : run (.slice (some ⟨0, 0, none⟩) (n + 1) (K + (n + 1))) (heapOf [⟨(.int .u8 0) :: (byteToks 0 n 1 ++ (xs.drop (n + 1)).map (.int .u8)), el, 2, 1⟩]) = true := by
          by_cases hr : n < 10
          · have h := al0_0 ((xs.drop (n + 1)).map (.int .u8)) el K
            simp only [List.all_eq_true, List.mem_range'_1] at h
            exact h n (by omega)
          have h := al0_10 ((xs.drop (n + 1)).map (.int .u8)) el K
          simp only [List.all_eq_true, List.mem_range'_1] at h
          exact h n (by omega)
        refine fin [(⟨(.int .u8 0) :: (byteToks 0 n 1 ++ (xs.drop (n + 1)).map (.int .u8)), el, 2, 1⟩, ⟨b_, 0, off⟩)] _ _ (hc) rfl ?_ (bytes_rel (by omega) rfl)
        intro q hq
        simp only [List.mem_cons, List.not_mem_nil, or_false] at hq
        subst hq
        exact ⟨rfl, bytes_held_hd (by omega) (by omega) hw hx (fun k hk => hT k (by omega)) (by omega) hh⟩
      · have hc : run (.slice (some ⟨0, 0, none⟩) (n + 1) (K + (n + 1))) (heapOf [⟨(.int .u8 255) :: (byteToks 0 n 1 ++ (xs.drop (n + 1)).map (.int .u8)), el, 2, 1⟩]) = true := by
          by_cases hr : n < 10
          · have h := al1_0 ((xs.drop (n + 1)).map (.int .u8)) el K
            simp only [List.all_eq_true, List.mem_range'_1] at h
            exact h n (by omega)
          have h := al1_10 ((xs.drop (n + 1)).map (.int .u8)) el K
          simp only [List.all_eq_true, List.mem_range'_1] at h
          exact h n (by omega)
        refine fin [(⟨(.int .u8 255) :: (byteToks 0 n 1 ++ (xs.drop (n + 1)).map (.int .u8)), el, 2, 1⟩, ⟨b_, 0, off⟩)] _ _ (hc) rfl ?_ (bytes_rel (by omega) rfl)
        intro q hq
        simp only [List.mem_cons, List.not_mem_nil, or_false] at hq
        subst hq
        exact ⟨rfl, bytes_held_hd (by omega) (by omega) hw hx (fun k hk => hT k (by omega)) (by omega) hh⟩
      · have hc : run (.slice (some ⟨0, 0, none⟩) (n + 1) (K + (n + 1))) (heapOf [⟨(.iface 10000 (.iface 1 (.iface 254 (.int .u8 0)))) :: (byteToks 0 n 1 ++ (xs.drop (n + 1)).map (.int .u8)), el, 2, 1⟩]) = true := by
          by_cases hr : n < 10
          · have h := al2_0 ((xs.drop (n + 1)).map (.int .u8)) el K
            simp only [List.all_eq_true, List.mem_range'_1] at h
            exact h n (by omega)
          have h := al2_10 ((xs.drop (n + 1)).map (.int .u8)) el K
          simp only [List.all_eq_true, List.mem_range'_1] at h
          exact h n (by omega)
        refine fin [(⟨(.iface 10000 (.iface 1 (.iface 254 (.int .u8 0)))) :: (byteToks 0 n 1 ++ (xs.drop (n + 1)).map (.int .u8)), el, 2, 1⟩, ⟨b_, 0, off⟩)] _ _ (hc) rfl ?_ (bytes_rel (by omega) rfl)
        intro q hq
        simp only [List.mem_cons, List.not_mem_nil, or_false] at hq
        subst hq
        exact ⟨rfl, bytes_held_hd (by omega) (by omega) hw hx (fun k hk => hT k (by omega)) (by omega) hh⟩
    · obtain ⟨M, hM⟩ := Nat.exists_eq_add_of_le (Nat.le_of_not_lt hb)
      rw [Nat.add_comm] at hM
      subst hM
      rcases hcase with hh | hh | hh
      · refine fin [(⟨(.int .u8 0) :: (byteToks 0 19 1 ++ (xs.drop (19 + 1)).map (.int .u8)), el, 2, 1⟩, ⟨b_, 0, off⟩)] _ _ (ab0 ((xs.drop (19 + 1)).map (.int .u8)) el K M) rfl ?_ (bytes_rel (by omega) rfl)
        intro q hq
        simp only [List.mem_cons, List.not_mem_nil, or_false] at hq
        subst hq
        exact ⟨rfl, bytes_held_hd (by omega) (by omega) hw hx (fun k hk => hT k (by omega)) (by omega) hh⟩
      · refine fin [(⟨(.int .u8 255) :: (byteToks 0 19 1 ++ (xs.drop (19 + 1)).map (.int .u8)), el, 2, 1⟩, ⟨b_, 0, off⟩)] _ _ (ab1 ((xs.drop (19 + 1)).map (.int .u8)) el K M) rfl ?_ (bytes_rel (by omega) rfl)
        intro q hq
        simp only [List.mem_cons, List.not_mem_nil, or_false] at hq
        subst hq
        exact ⟨rfl, bytes_held_hd (by omega) (by omega) hw hx (fun k hk => hT k (by omega)) (by omega) hh⟩
      · refine fin [(⟨(.iface 10000 (.iface 1 (.iface 254 (.int .u8 0)))) :: (byteToks 0 19 1 ++ (xs.drop (19 + 1)).map (.int .u8)), el, 2, 1⟩, ⟨b_, 0, off⟩)] _ _ (ab2 ((xs.drop (19 + 1)).map (.int .u8)) el K M) rfl ?_ (bytes_rel (by omega) rfl)
        intro q hq
        simp only [List.mem_cons, List.not_mem_nil, or_false] at hq
        subst hq
        exact ⟨rfl, bytes_held_hd (by omega) (by omega) hw hx (fun k hk => hT k (by omega)) (by omega) hh⟩
end Go.Proofs.Ytijpidopagogoaa.diskOwn
