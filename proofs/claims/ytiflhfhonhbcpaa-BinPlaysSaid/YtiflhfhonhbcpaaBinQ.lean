/- Boxes in their order: plain lists. -/
import Derived.Test.YtiflhfhonhbcpaaBinN
namespace Go.Proofs.Ytiflhfhonhbcpaa.Bin
open Go
set_option linter.unusedVariables false
/-- By age. -/
def Srt (L : List Bx) : Prop := L.Pairwise (fun a b => a.s ≤ b.s)
theorem atS_all {s : Int} {L : List Bx} : ∀ k, k ≤ L.length → (∀ (j : Nat) (y : Bx), atS s L k ≤ j → j < k → L[j]? = some y → s < y.s) ∧ (atS s L k = 0 ∨ ∃ y, L[atS s L k - 1]? = some y ∧ ¬ s < y.s)
  | 0, _ => ⟨fun j y _ h => by omega, .inl rfl⟩
  | k + 1, hk => by
    obtain ⟨y, hy⟩ : ∃ y, L[k]? = some y := ⟨L[k], List.getElem?_eq_getElem _⟩
    by_cases hs : s < y.s
    · have ih := atS_all (s := s) (L := L) k (by omega)
      rw [atS_lt hy hs]
      refine ⟨fun j z h1 h2 h3 => ?_, ih.2⟩
      rcases Nat.lt_or_ge j k with h | h
      · exact ih.1 j z h1 h h3
      · obtain rfl : j = k := by omega
        rw [hy] at h3
        injection h3 with h3
        rw [← h3]; exact hs
    · rw [atS_ge hy hs]
      exact ⟨fun j z h1 h2 h3 => by omega, .inr ⟨y, by simpa using hy, hs⟩⟩
theorem srt_get {L : List Bx} (h : Srt L) {j k : Nat} {y z : Bx} (hj : L[j]? = some y) (hk : L[k]? = some z) (hjk : j ≤ k) : y.s ≤ z.s := by
  rcases Nat.eq_or_lt_of_le hjk with rfl | hlt
  · rw [hj] at hk; injection hk with hk; rw [hk]; exact Int.le_refl _
  · obtain ⟨h1, e1⟩ := List.getElem?_eq_some_iff.1 hj
    obtain ⟨h2, e2⟩ := List.getElem?_eq_some_iff.1 hk
    have := List.pairwise_iff_getElem.1 h j k h1 h2 hlt
    rw [e1, e2] at this
    exact this
theorem atS_take {s : Int} {L : List Bx} (h : Srt L) : ∀ y ∈ L.take (atS s L L.length), y.s ≤ s := by
  intro y hy
  obtain ⟨j, hj⟩ := List.getElem?_of_mem hy
  rw [List.getElem?_take] at hj
  split at hj
  · rename_i hlt
    rcases (atS_all (s := s) (L := L) L.length (Nat.le_refl _)).2 with h0 | ⟨z, hz, hs⟩
    · omega
    · have := srt_get h hj hz (by omega)
      omega
  · cases hj
theorem atS_drop {s : Int} {L : List Bx} : ∀ y ∈ L.drop (atS s L L.length), s < y.s := by
  intro y hy
  obtain ⟨j, hj⟩ := List.getElem?_of_mem hy
  rw [List.getElem?_drop] at hj
  have := (List.getElem?_eq_some_iff.1 hj).1
  exact (atS_all (s := s) (L := L) L.length (Nat.le_refl _)).1 _ y (by omega) (by omega) hj
abbrev upB (s : Int) (y : Bx) : Bool := decide (y.s ≤ s)
abbrev hiB (s : Int) (y : Bx) : Bool := decide (s < y.s)
theorem take_up {s : Int} {L : List Bx} (h : Srt L) : L.filter (upB s) = L.take (atS s L L.length) := by
  conv => lhs; rw [← List.take_append_drop (atS s L L.length) L, List.filter_append]
  rw [List.filter_eq_self.2 (fun y hy => by simpa using atS_take h y hy), List.filter_eq_nil_iff.2 (fun y hy => by have := atS_drop y hy; simp; omega), List.append_nil]
theorem drop_hi {s : Int} {L : List Bx} (h : Srt L) : L.filter (hiB s) = L.drop (atS s L L.length) := by
  conv => lhs; rw [← List.take_append_drop (atS s L L.length) L, List.filter_append]
  rw [List.filter_eq_nil_iff.2 (fun y hy => by have := atS_take h y hy; simp; omega), List.nil_append, List.filter_eq_self.2 (fun y hy => by simpa using atS_drop y hy)]
theorem insB_srt {x : Bx} {L : List Bx} (h : Srt L) : insB x L = L.filter (upB x.s) ++ x :: L.filter (hiB x.s) := by
  unfold insB
  rw [take_up h, drop_hi h]
theorem insB_mem {x y : Bx} {L : List Bx} : y ∈ insB x L ↔ y = x ∨ y ∈ L := by
  unfold insB
  have h : y ∈ L ↔ y ∈ L.take (atS x.s L L.length) ∨ y ∈ L.drop (atS x.s L L.length) := by
    rw [← List.mem_append, List.take_append_drop]
  rw [List.mem_append, List.mem_cons, h]
  constructor
  · rintro (h | h | h)
    · exact .inr (.inl h)
    · exact .inl h
    · exact .inr (.inr h)
  · rintro (h | h | h)
    · exact .inr (.inl h)
    · exact .inl h
    · exact .inr (.inr h)
theorem insB_pw {R : Bx → Bx → Prop} {x : Bx} {L : List Bx} (h : Srt L) (hR : L.Pairwise R) (h1 : ∀ y ∈ L, y.s ≤ x.s → R y x) (h2 : ∀ y ∈ L, x.s < y.s → R x y) : (insB x L).Pairwise R := by
  have hsub1 : (L.take (atS x.s L L.length)).Pairwise R := hR.sublist (List.take_sublist _ _)
  have hsub2 : (L.drop (atS x.s L L.length)).Pairwise R := hR.sublist (List.drop_sublist _ _)
  have hcr : ∀ a ∈ L.take (atS x.s L L.length), ∀ b ∈ L.drop (atS x.s L L.length), R a b := by
    have := hR
    rw [← List.take_append_drop (atS x.s L L.length) L, List.pairwise_append] at this
    exact this.2.2
  unfold insB
  rw [List.pairwise_append]
  refine ⟨hsub1, List.pairwise_cons.2 ⟨fun b hb => h2 b (List.mem_of_mem_drop hb) (atS_drop b hb), hsub2⟩, fun a ha b hb => ?_⟩
  rcases List.mem_cons.1 hb with rfl | hb
  · exact h1 a (List.mem_of_mem_take ha) (atS_take h a ha)
  · exact hcr a ha b hb
theorem insB_Srt {x : Bx} {L : List Bx} (h : Srt L) : Srt (insB x L) := insB_pw h h (fun y _ h => h) (fun y _ h => Int.le_of_lt h)
theorem insB_get (x : Bx) (L : List Bx) : (insB x L)[atS x.s L L.length]? = some x := by
  have := atS_le x.s L L.length
  unfold insB
  rw [List.getElem?_append_right (by simp; omega)]
  simp [Nat.min_eq_left this]
theorem insB_before {x y : Bx} {L : List Bx} {j : Nat} (hj : j < atS x.s L L.length) (h : (insB x L)[j]? = some y) : y ∈ L := by
  have := atS_le x.s L L.length
  unfold insB at h
  rw [List.getElem?_append_left (by simp; omega), List.getElem?_take, if_pos hj] at h
  exact List.mem_of_getElem? h
theorem insB_filter {x : Bx} {L : List Bx} (h : Srt L) (p : Bx → Bool) : (insB x L).filter p = if p x then insB x (L.filter p) else L.filter p := by
  have hs : Srt (L.filter p) := h.sublist (List.filter_sublist)
  rw [insB_srt h, insB_srt hs, List.filter_append, List.filter_cons, List.filter_filter, List.filter_filter, List.filter_filter, List.filter_filter]
  have e1 : (fun a => p a && upB x.s a) = (fun a => upB x.s a && p a) := by funext a; exact Bool.and_comm _ _
  have e2 : (fun a => p a && hiB x.s a) = (fun a => hiB x.s a && p a) := by funext a; exact Bool.and_comm _ _
  by_cases hp : p x = true
  · rw [if_pos hp, if_pos hp, e1, e2]
  · rw [if_neg hp, if_neg hp]
    have h1 : L.filter p = (L.filter (upB x.s) ++ L.filter (hiB x.s)).filter p := by
      rw [take_up h, drop_hi h, List.take_append_drop]
    rw [h1, List.filter_append, List.filter_filter, List.filter_filter]
end Go.Proofs.Ytiflhfhonhbcpaa.Bin
