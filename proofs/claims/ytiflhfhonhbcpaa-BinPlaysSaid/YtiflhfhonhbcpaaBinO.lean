/- A bin in memory: New, All, Clone, Due. -/
import Derived.Test.YtiflhfhonhbcpaaBinN
namespace Go.Proofs.Ytiflhfhonhbcpaa.Bin
open Go Go.RowKit Go.Proofs.Ytiflhfhonhbcpaa Go.Proofs.Ytiflhfhonhbcpaa.Crw Go.Proofs.Ytiflhfhonhbcpaa.Mas Go.ChangeShapes Go.WideShapes Go.ChangeAt
set_option linter.unusedVariables false
set_option maxRecDepth 100000
section
variable {w w' : World} {B b : Nat} {v : Value} {L : List Bx} {f e : ByteArray} {n s : Int}
set_option maxHeartbeats 4000000 in
theorem CloneB {B n c : Nat} {A : Option Addr} {xs : List Value} (w : World) (h : w.ownsRow B 70 4 (.slice A n c) n xs) (h1x : ∀ u ∈ xs, u.oneCell' = true) (hl : n ≤ 1000) :
    Calls Try.prog 59 #[.slice A n c] w fun e w' => ∃ v', e = .returned v' ∧ w'.ownsRow w.heap.size 70 4 v' n xs ∧ Below w.heap.size w w' := by
  obtain ⟨i0, hi, hz0, hz1, hz2⟩ := info_parts box_info
  have hR := Reads.of_own h
  cases A with
  | none =>
    have hl0 : n = 0 := by
      rcases Nat.eq_zero_or_pos n with e | e
      · exact e
      · obtain ⟨ad, h, _⟩ := hR.2 e; cases h
    have heq : ∀ w1, (binOp .eql 67 (.slice none n c) (.slice none 0 0)).run Try.prog w1 = .ok (.bool true) w1 := fun w1 => Lib.run_eql_slice_nil w1 67 70 none n c 0 0 Try.underlying67
    have hv := h.1
    subst hl0
    go_enter Try.func59, Try.ntmps59
    go_wp2
    go_ret
    exact ⟨_, rfl, ⟨hv, .inl ⟨rfl, rfl⟩⟩, Below.refl _ _⟩
  | some ad =>
    have heq : ∀ w1, (binOp .eql 67 (.slice (some ad) n c) (.slice none 0 0)).run Try.prog w1 = .ok (.bool false) w1 := fun w1 => Lib.run_eql_slice_nil w1 67 70 (some ad) n c 0 0 Try.underlying67
    have HR := Lib.hid hR
    have HV := Lib.hid h1x
    clear h hR h1x
    go_enter Try.func59, Try.ntmps59
    go_wp2_with (first | (at_builtin; go_must (refine wpList_append_any _ rfl _ _ 67 rfl w.heap.size 70 i0 bxZ 4 48 Try.underlying67 hi hz0 hz1 hz2 rfl (by decide) _ 0 [] rfl ⟨by simp, .inr ⟨w.heap.size, 0, #[], rfl, Nat.le_refl _, heap_alloc_new w _, Nat.le_refl _, by decide, rfl, rfl⟩⟩ w.heap.size (some ad) n c xs rfl (HR.out.alloc (Nat.le_refl _) _) HV.out (by simp only [maxLen]; omega) (by omega) (by simp) ?_); intro v1 w1 hown1 hg1 _hne; clear _hne; rw [Nat.zero_add, List.nil_append] at hown1))
    go_ret
    exact ⟨v1, rfl, hown1, ((Below.refl w.heap.size w).alloc (Nat.le_refl _) _).grown hg1 (by simp) (fun k hk => by injection hk with hk; subst hk; exact Nat.le_refl _)⟩
set_option maxHeartbeats 4000000 in
theorem New_b (w : World) : Calls Try.prog 31 #[] w fun r w' => ∃ b, r = .returned (.pointer (some ⟨b, 0, none⟩)) ∧ BnP w' w.heap.size b (.slice none 0 0) [] ∧ Below w.heap.size w w' := by
  go_enter Try.func31, Try.ntmps31
  go_wp2
  go_ret
  exact ⟨w.heap.size, rfl, ⟨Blk.new _ _ _, ⟨by simp, .inl ⟨rfl, rfl⟩⟩, Nat.le_refl _, by simp⟩, (Below.refl _ _).alloc (Nat.le_refl _) _⟩
set_option maxHeartbeats 4000000 in
theorem All_b (h : BnP w B b v L) : Calls Try.prog 33 #[.pointer (some ⟨b, 0, none⟩)] w fun r w' => ∃ v', r = .returned v' ∧ w'.ownsRow w.heap.size 70 4 v' L.length (bxV L) ∧ Below w.heap.size w w' := by
  obtain ⟨A, c, rfl, hc, -⟩ := own_slice h.row
  have h0 : w.cell? ⟨b, 0, none⟩ = some (.slice A L.length c) := h.blk.cell 0
  have hl := h.len
  have hC := CloneB w h.row (bxV_one L) (by omega)
  clear h
  go_enter Try.func33, Try.ntmps33
  go_wp2_with (go_at_call 59; refine hC.mono ?_; rintro r w1 ⟨v1, rfl, ho, hb⟩)
  go_ret
  exact ⟨v1, rfl, ho, hb⟩
set_option maxHeartbeats 4000000 in
theorem Clone_b (h : BnP w B b v L) : Calls Try.prog 39 #[.pointer (some ⟨b, 0, none⟩)] w fun r w' => ∃ c v', r = .returned (.pointer (some ⟨c, 0, none⟩)) ∧ BnP w' w.heap.size c v' L ∧ Below w.heap.size w w' := by
  obtain ⟨A, c, rfl, hc, -⟩ := own_slice h.row
  have h0 : w.cell? ⟨b, 0, none⟩ = some (.slice A L.length c) := h.blk.cell 0
  have hl := h.len
  have hC := CloneB w h.row (bxV_one L) (by omega)
  have HL := Lib.hid h.len
  clear h
  go_enter Try.func39, Try.ntmps39
  go_wp2_with (go_at_call 59; refine hC.mono ?_; rintro r w1 ⟨v1, rfl, ho, hb⟩; obtain ⟨A1, c1, rfl, -, -⟩ := own_slice ho)
  go_ret
  exact ⟨w1.heap.size, _, rfl, ⟨Blk.new _ _ _, ho.alloc _, hb.size, HL.out⟩, hb.alloc hb.size _⟩
set_option maxHeartbeats 4000000 in
theorem due_ok (s now delay : Int) (w : World) (h1 : 0 ≤ s) (h2 : s ≤ 1000) (h3 : 0 ≤ now) (h4 : now ≤ 1000) (h5 : 0 ≤ delay) (h6 : delay ≤ 1000) :
    Calls Try.prog 60 #[.int .i64 s, .int .i64 now, .int .i64 delay] w fun r w' => r = .returned (.bool (decide (s ≤ now - delay))) ∧ w = w' := by
  go_enter Try.func60, Try.ntmps60
  go_wp2
  all_goals
    go_ret
    exact ⟨rfl, rfl⟩
def dueF (now delay : Int) (x : Bx) : Bool := decide (x.s ≤ now - delay)
set_option maxHeartbeats 8000000 in
theorem Due_b (h : BnP w B b v L) (now delay : Int) (hs : ∀ (k : Nat) (x : Bx), L[k]? = some x → 0 ≤ x.s ∧ x.s ≤ 1000) (h3 : 0 ≤ now) (h4 : now ≤ 1000) (h5 : 0 ≤ delay) (h6 : delay ≤ 1000) :
    Calls Try.prog 34 #[.pointer (some ⟨b, 0, none⟩), .int .i64 now, .int .i64 delay] w fun r w' => ∃ v', r = .returned v' ∧ w'.ownsRow w.heap.size 70 4 v' (L.filter (dueF now delay)).length (bxV (L.filter (dueF now delay))) ∧ Below w.heap.size w w' := by
  obtain ⟨i0, hi0, hz0, hz1, hz2⟩ := info_parts box_info
  obtain ⟨A, c, rfl, hc, -⟩ := own_slice h.row
  have h0 : w.cell? ⟨b, 0, none⟩ = some (.slice A L.length c) := h.blk.cell 0
  have hl := h.len
  obtain ⟨N, hN⟩ : ∃ N, N = L.length := ⟨_, rfl⟩
  rw [← hN] at h0 hl hc
  have hrow := h.row
  rw [← hN] at hrow
  have HR := Lib.hid hrow
  have HN := Lib.hid hN
  have HS := Lib.hid hs
  clear h hN hs hrow
  go_enter Try.func34, Try.ntmps34
  go_wp2_with fail
  go_loopw [7, 15] (fun vl i wr => Hid (∃ j m : Nat, i = .int .i64 j ∧ j ≤ N ∧ m ≤ j ∧ m = ((L.take j).filter (dueF now delay)).length ∧ wr.ownsRow w.heap.size 70 4 vl m (bxV ((L.take j).filter (dueF now delay))) ∧ Below w.heap.size w wr ∧ ∃ w7, w7 = wr)) (fun _ i _ => N - (intOf i).toNat)
  case atStart => exact Lib.hid ⟨0, 0, rfl, by omega, by omega, by simp, ⟨by simp, .inl ⟨rfl, rfl⟩⟩, Below.refl _ _, _, rfl⟩
  case round =>
    obtain ⟨j, m, rfl, hj, hm, hml, ho, hb, w7, hw7⟩ := hrel.out
    subst hw7
    obtain ⟨Al, cl, rfl, hcl, -⟩ := own_slice ho
    have HB := Lib.hid hb
    have HO := Lib.hid ho
    have HM := Lib.hid hml
    have hrow7 := own_keep HR.out hb
    clear hrel hb ho hml
    by_cases hlt : (j : Int) < (N : Int)
    · obtain ⟨u, rfl⟩ := own_some HR.out (by omega)
      obtain ⟨y, hy⟩ : ∃ y, L[j]? = some y := ⟨L[j]'(by have := HN.out; omega), List.getElem?_eq_getElem _⟩
      have cc : ∀ m, m < 4 → w7.cell? ⟨u, j * 4 + m, none⟩ = (bxC y)[m]? := fun m hm => (hrow7.cellAt (j * 4 + m) (by omega)).trans (bxV_get L j y hy m hm)
      have c0 : w7.cell? ⟨u, j * 4, none⟩ = some (.string y.f) := cc 0 (by omega)
      have c1 : w7.cell? ⟨u, j * 4 + 1, none⟩ = some (.string y.e) := cc 1 (by omega)
      have c2 : w7.cell? ⟨u, j * 4 + 2, none⟩ = some (.int .i64 y.n) := cc 2 (by omega)
      have c3 : w7.cell? ⟨u, j * 4 + 3, none⟩ = some (.int .i64 y.s) := cc 3 (by omega)
      obtain ⟨hs1, hs2⟩ := HS.out j y hy
      have hD := fun w => due_ok y.s now delay w hs1 hs2 h3 h4 h5 h6
      have htk : Hid (L.take (j + 1) = L.take j ++ [y]) := Lib.hid (by rw [List.take_add_one, hy]; rfl)
      obtain ⟨d, hd⟩ : ∃ d, d = dueF now delay y := ⟨_, rfl⟩
      have hd2 : decide (y.s ≤ now - delay) = d := by rw [hd]; rfl
      rw [hd2] at hD
      have HD := Lib.hid hd
      clear cc hrow7 hy hd hd2 hs1 hs2
      obtain ⟨yf, ye, yn, ys⟩ := y
      simp only at c0 c1 c2 c3 hD
      cases d with
      | false =>
        go_wp2_with (go_at_call 60; refine (hD _).mono ?_; rintro r w' ⟨rfl, rfl⟩)
        refine ⟨?_, by simp [intOf]; omega⟩
        have e1 : (L.take (j + 1)).filter (dueF now delay) = (L.take j).filter (dueF now delay) := by rw [htk.out, List.filter_append, List.filter_cons, ← HD.out]; simp
        refine Lib.hid ⟨j + 1, m, by simp, by omega, by omega, by rw [e1]; exact HM.out, ?_, HB.out.alloc HB.out.size _, _, rfl⟩
        rw [e1]
        exact HO.out.alloc _
      | true =>
        have hRd : Reads ((w7.alloc (.cells #[.string yf, .string ye, .int .i64 yn, .int .i64 ys] 70)).alloc (.cells #[.string yf, .string ye, .int .i64 yn, .int .i64 ys] 70)) ((w7.alloc (.cells #[.string yf, .string ye, .int .i64 yn, .int .i64 ys] 70)).alloc (.cells #[.string yf, .string ye, .int .i64 yn, .int .i64 ys] 70)).heap.size 4 (some ⟨w7.heap.size + 1, 0, none⟩) 1 [.string yf, .string ye, .int .i64 yn, .int .i64 ys] := by
          have h := reads_blk (z := 4) (Blk.new (w7.alloc (.cells #[.string yf, .string ye, .int .i64 yn, .int .i64 ys] 70)) 70 #[.string yf, .string ye, .int .i64 yn, .int .i64 ys]) rfl
          rw [show (w7.alloc (.cells #[.string yf, .string ye, .int .i64 yn, .int .i64 ys] 70)).heap.size = w7.heap.size + 1 by simp] at h
          exact h
        have HRD := Lib.hid hRd
        clear hRd
        go_wp2_with (first | (go_at_call 60; refine (hD _).mono ?_; rintro r w' ⟨rfl, rfl⟩) | (at_builtin; refine wpList_append_any _ rfl _ _ 67 rfl w.heap.size 70 i0 bxZ 4 48 Try.underlying67 hi0 hz0 hz1 hz2 rfl (by decide) _ _ _ rfl ((HO.out.alloc (.cells #[.string yf, .string ye, .int .i64 yn, .int .i64 ys] 70)).alloc (.cells #[.string yf, .string ye, .int .i64 yn, .int .i64 ys] 70)) ((w7.alloc (.cells #[.string yf, .string ye, .int .i64 yn, .int .i64 ys] 70)).alloc (.cells #[.string yf, .string ye, .int .i64 yn, .int .i64 ys] 70)).heap.size (some ⟨w7.heap.size + 1, 0, none⟩) 1 1 [.string yf, .string ye, .int .i64 yn, .int .i64 ys] rfl HRD.out (bxV_one [⟨yf, ye, yn, ys⟩]) (by simp only [maxLen]; omega) (by omega) (by have := HB.out.size; simp; omega) ?_; intro v9 w9 hown9 hg9 hn9))
        refine ⟨?_, by simp [intOf]; omega⟩
        have e1 : (L.take (j + 1)).filter (dueF now delay) = (L.take j).filter (dueF now delay) ++ [⟨yf, ye, yn, ys⟩] := by rw [htk.out, List.filter_append, List.filter_cons, ← HD.out]; simp
        refine Lib.hid ⟨j + 1, m + 1, by simp, by omega, by omega, by rw [e1, HM.out]; simp, ?_, (((HB.out.alloc HB.out.size _).alloc (Nat.le_trans HB.out.size (by simp)) _)).grown hg9 (by have := HB.out.size; simp; omega) (fun k hk => (HO.out.lt k hk).1), _, rfl⟩
        rw [e1, bxV_append]
        exact hown9
    · clear hrow7
      go_wp2_with fail
      go_ret
      have e2 : L.take j = L := by rw [show j = L.length by have := HN.out; omega]; exact List.take_length
      have ho := HO.out
      have hm := HM.out
      rw [e2] at ho hm
      rw [← hm]
      exact ⟨_, rfl, ho, HB.out⟩
end
end Go.Proofs.Ytiflhfhonhbcpaa.Bin
