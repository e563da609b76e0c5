/- Bytes cut and copied, and a disk that is new. -/
import Derived.Test.YtplmfmcogbdpjaaDk5
import Derived.WideMake
namespace Go.Proofs.Ytplmfmcogbdpjaa.Dk
open Go Go.RowKit Go.Proofs.Ytplmfmcogbdpjaa Go.Proofs.Ytplmfmcogbdpjaa.Crw Go.Proofs.Ytplmfmcogbdpjaa.Vl Go.ChangeShapes Go.WideShapes Go.ChangeAt
set_option linter.unusedVariables false
set_option maxRecDepth 100000
section
variable {w w' : World} {B d mb : Nat} {U V : Nat → Prop} {s s' : Ds} {F : List Fi} {p : ByteArray}
theorem reads_take {A : Option Addr} {n B m : Nat} {xs : List Value} (h : Reads w B 1 A n xs) (hm : m ≤ n) : Reads w B 1 A m (xs.take m) :=
  ⟨by rw [List.length_take, h.1]; omega, fun h0 => by
    obtain ⟨ad, e, hb, hc⟩ := h.2 (by omega)
    refine ⟨ad, e, hb, fun j u hj => hc j u ?_⟩
    have hjm : j < m := by
      have := (List.getElem?_eq_some_iff.1 hj).1
      rw [List.length_take] at this
      omega
    rw [List.getElem?_take_of_lt hjm] at hj
    exact hj⟩
set_option maxHeartbeats 4000000 in
theorem Copy_i (A : Option Addr) (n cp B : Nat) (l : List Int) (w : World) (hr : Reads w B 1 A n (bsV l)) (hn : n ≤ 140737488355000) :
    Calls Try.prog 26 #[.slice A n cp] w fun e w' => ∃ v, e = .returned v ∧ w'.ownsRow w.heap.size 5 1 v n (bsV l) ∧ Below w.heap.size w w' := by
  obtain ⟨i0, hi, hz0, hz1, hz2⟩ := info_parts byte_infoD
  go_enter Try.func26, Try.ntmps26
  go_wp2_with (first | (at_builtin; go_must (refine wpList_append_any _ rfl _ _ 28 rfl w.heap.size 5 i0 (.int .u8 0) 1 1 Try.underlying28 hi hz0 hz1 hz2 rfl (by decide) (.slice none 0 0) 0 [] rfl ⟨by simp, .inl ⟨rfl, rfl⟩⟩ B A n cp (bsV l) rfl hr (bsV_one l) (by simp only [maxLen]; omega) (by omega) (Nat.le_refl _) ?_); intro v1 w1 hown1 hg1 _hne; clear _hne; rw [Nat.zero_add, List.nil_append] at hown1))
  go_ret
  exact ⟨v1, rfl, hown1, (Below.refl _ _).grown hg1 (Nat.le_refl _) (fun k hk => by cases hk)⟩
set_option maxHeartbeats 4000000 in
theorem Cut_i (M : Nat) (hM : M ≤ 1000000) (A : Option Addr) (n cp B : Nat) (l : List Int) (w : World) (hr : Reads w B 1 A n (bsV l)) (hc : n ≤ cp) (hm : (cp : Int) ≤ 9223372036854775807) :
    Calls Try.prog 24 #[.slice A n cp, .int .i64 M] w fun e w' => ∃ v, e = .returned v ∧ w'.ownsRow w.heap.size 5 1 v (l.take M).length (bsV (l.take M)) ∧ Below w.heap.size w w' := by
  have hlen : l.length = n := by have := hr.1; simpa [bsV] using this
  by_cases h : n ≤ M
  · have h1 : min (n : Int) (M : Int) = (n : Int) := by omega
    have h2 : (n : Int) ≤ (cp : Int) := by omega
    have hC := fun w1 (hr : Reads w1 B 1 A n (bsV l)) => Copy_i A n cp B l w1 hr (by omega)
    have HR := Lib.hid hr
    clear hr
    have ht : l.take M = l := List.take_of_length_le (by omega)
    rw [ht, hlen]
    go_enter Try.func24, Try.ntmps24
    go_wp2_with (go_at_call 26; refine (hC _ HR.out).mono ?_; rintro e w1 ⟨v, rfl, ho, hb⟩)
    go_ret
    exact ⟨v, rfl, ho, hb⟩
  · have h1 : min (n : Int) (M : Int) = (M : Int) := by omega
    have h0 : (0 : Int) ≤ (M : Int) := by omega
    have h2 : (M : Int) ≤ (cp : Int) := by omega
    have h3 : M ≤ cp := by omega
    have hC := fun w1 (hr : Reads w1 B 1 A M (bsV (l.take M))) => Copy_i A M cp B (l.take M) w1 hr (by omega)
    have HR := Lib.hid (show Reads w B 1 A M (bsV (l.take M)) by have h := reads_take hr (m := M) (by omega); simpa [bsV, List.map_take] using h)
    clear hr
    have ht : (l.take M).length = M := by rw [List.length_take]; omega
    rw [ht]
    go_enter Try.func24, Try.ntmps24
    go_wp2_with (go_at_call 26; refine (hC _ HR.out).mono ?_; rintro e w1 ⟨v, rfl, ho, hb⟩)
    go_ret
    exact ⟨v, rfl, ho, hb⟩
set_option maxHeartbeats 4000000 in
theorem New_d (q : Nat) (hq : q ≤ 65536) (w : World) :
    Calls Try.prog 14 #[.int .i64 q] w fun r w' => ∃ d mb V, r = .returned (.pointer (some ⟨d, 0, none⟩)) ∧ DkP w' w.heap.size d mb V ⟨q, 0, false, 0, false⟩ [] ∧ Below w.heap.size w w' := by
  have h1 : max (q : Int) 0 = (q : Int) := by omega
  have h2 : min (q : Int) 65536 = (q : Int) := by omega
  have hmk : ∀ w1, (Instr.makeMap 78 none).run Try.prog w1 = .ok (.map (some w1.heap.size)) (w1.alloc (.map #[] 0)) := fun w1 => run_makeMap_plain w1 _
  go_enter Try.func14, Try.ntmps14
  go_wp2_with fail
  go_ret
  have hb1 : Below w.heap.size w (w.alloc (.map #[] 0)) := (Below.refl _ _).alloc (Nat.le_refl _) _
  have hs1 : (w.alloc (.map #[] 0)).heap.size = w.heap.size + 1 := by simp
  have hb2 : ∀ o, Below w.heap.size w ((w.alloc (.map #[] 0)).alloc o) := fun o => hb1.alloc (by rw [hs1]; omega) _
  have hb3 : ∀ o, Below (w.alloc (.map #[] 0)).heap.size (w.alloc (.map #[] 0)) ((w.alloc (.map #[] 0)).alloc o) := fun o => (Below.refl _ _).alloc (Nat.le_refl _) _
  have hs2 : ∀ o, ((w.alloc (.map #[] 0)).alloc o).heap.size = w.heap.size + 2 := fun o => by simp
  refine ⟨(w.alloc (.map #[] 0)).heap.size, w.heap.size, fun b => b = w.heap.size ∨ b = w.heap.size + 1, by rw [hs1]; rfl, ⟨Blk.new _ _ _, ?_, ?_, ?_, ?_, ?_, ?_, ⟨.inr hs1, .inl rfl⟩, ?_, ?_, ?_⟩, hb2 _⟩
  · exact (MapB.made w).keep ((hb3 _).block _ (by rw [hs1]; omega))
  · intro k x hx; cases hx
  · intro k x hx; cases hx
  · intro j k x y hx; cases hx
  · intro j k x y hx; cases hx
  · intro j k x y hx; cases hx
  · intro k x hx; cases hx
  · intro b hb
    rw [hs2]
    omega
  · intro b hb
    omega
set_option maxHeartbeats 4000000 in
theorem Dead_ (hd : Blk w d 80 (dsC s mb)) :
    Calls Try.prog 30 #[.pointer (some ⟨d, 0, none⟩)] w fun r w' => r = .returned (.bool s.de) ∧ Below w.heap.size w w' := by
  have c1 : w.cell? ⟨d, 5, none⟩ = some (.bool s.de) := hd.cell 5
  go_enter Try.func30, Try.ntmps30
  go_wp2_with fail
  go_ret
  exact ⟨rfl, Below.refl _ _⟩
end
end Go.Proofs.Ytplmfmcogbdpjaa.Dk
