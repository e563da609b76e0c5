/- The plain bin: Due; boxes of both kinds. -/
import Derived.Test.YtiflhfhonhbcpaaRfC
namespace Go.Proofs.Ytiflhfhonhbcpaa.Bin
open Go Go.RowKit Go.Proofs.Ytiflhfhonhbcpaa Go.Proofs.Ytiflhfhonhbcpaa.Crw Go.Proofs.Ytiflhfhonhbcpaa.Mas Go.ChangeShapes Go.WideShapes Go.ChangeAt
set_option linter.unusedVariables false
set_option maxRecDepth 100000
section
variable {w w' : World} {B b : Nat} {v : Value} {L : List Bx} {f e : ByteArray} {n s : Int}
set_option maxHeartbeats 8000000 in
theorem RDue_b (h : RbP w B b v L) (now delay : Int) (hs : ∀ (k : Nat) (x : Bx), L[k]? = some x → 0 ≤ x.s ∧ x.s ≤ 1000) (h3 : 0 ≤ now) (h4 : now ≤ 1000) (h5 : 0 ≤ delay) (h6 : delay ≤ 1000) :
    Calls Try.prog 42 #[.pointer (some ⟨b, 0, none⟩), .int .i64 now, .int .i64 delay] w fun r w' => ∃ v', r = .returned v' ∧ w'.ownsRow w.heap.size 129 4 v' ((srtB L).filter (dueF now delay)).length (bxV ((srtB L).filter (dueF now delay))) ∧ Below w.heap.size w w' := by
  obtain ⟨i0, hi0, hz0, hz1, hz2⟩ := info_parts rbx_info
  have hAll := RAll_b h
  have hl := h.len
  obtain ⟨N, hN⟩ : ∃ N, N = L.length := ⟨_, rfl⟩
  rw [← hN] at hAll hl
  obtain ⟨S, hS⟩ : ∃ S, S = srtB L := ⟨_, rfl⟩
  have hSl : S.length = N := by rw [hS, srtB_len, hN]
  have hss : ∀ (k : Nat) (x : Bx), S[k]? = some x → 0 ≤ x.s ∧ x.s ≤ 1000 := fun k x hx => by
    obtain ⟨k', hk'⟩ := List.getElem?_of_mem (srtB_mem.1 (hS ▸ List.mem_of_getElem? hx))
    exact hs k' x hk'
  rw [← hS] at hAll ⊢
  have HN := Lib.hid hSl.symm
  have HS := Lib.hid hss
  clear h hN hs hS hSl hss
  go_enter Try.func42, Try.ntmps42
  go_wp2_with fail
  refine hAll.mono ?_
  rintro r w1 ⟨v1, rfl, ho1, hb1⟩
  obtain ⟨A, c, rfl, hc, -⟩ := own_slice ho1
  have HR := Lib.hid ho1
  have HB1 := Lib.hid hb1
  clear ho1 hb1 hAll
  go_wp2_with fail
  go_loopw [7, 13] (fun vl i wr => Hid (∃ j m : Nat, i = .int .i64 j ∧ j ≤ N ∧ m ≤ j ∧ m = ((S.take j).filter (dueF now delay)).length ∧ wr.ownsRow w1.heap.size 129 4 vl m (bxV ((S.take j).filter (dueF now delay))) ∧ Below w1.heap.size w1 wr ∧ ∃ w7, w7 = wr)) (fun _ i _ => N - (intOf i).toNat)
  case atStart => exact Lib.hid ⟨0, 0, rfl, by omega, by omega, by simp, ⟨by simp, .inl ⟨rfl, rfl⟩⟩, Below.refl _ _, _, rfl⟩
  case round =>
    obtain ⟨j, m, rfl, hj, hm, hml, ho, hb, w7, hw7⟩ := hrel.out
    subst hw7
    obtain ⟨Al, cl, rfl, hcl, -⟩ := own_slice ho
    have HB := Lib.hid hb
    have HO := Lib.hid ho
    have HM := Lib.hid hml
    have hrow7 := own_keep HR.out hb
    clear hrel hb ho hml
    by_cases hlt : (j : Int) < (N : Int)
    · obtain ⟨u, rfl⟩ := own_some HR.out (by omega)
      obtain ⟨y, hy⟩ : ∃ y, S[j]? = some y := ⟨S[j]'(by have := HN.out; omega), List.getElem?_eq_getElem _⟩
      have cc : ∀ m, m < 4 → w7.cell? ⟨u, j * 4 + m, none⟩ = (bxC y)[m]? := fun m hm => (hrow7.cellAt (j * 4 + m) (by omega)).trans (bxV_get S j y hy m hm)
      have c0 : w7.cell? ⟨u, j * 4, none⟩ = some (.string y.f) := cc 0 (by omega)
      have c1 : w7.cell? ⟨u, j * 4 + 1, none⟩ = some (.string y.e) := cc 1 (by omega)
      have c2 : w7.cell? ⟨u, j * 4 + 2, none⟩ = some (.int .i64 y.n) := cc 2 (by omega)
      have c3 : w7.cell? ⟨u, j * 4 + 3, none⟩ = some (.int .i64 y.s) := cc 3 (by omega)
      obtain ⟨hs1, hs2⟩ := HS.out j y hy
      have htk : Hid (S.take (j + 1) = S.take j ++ [y]) := Lib.hid (by rw [List.take_add_one, hy]; rfl)
      obtain ⟨d, hd⟩ : ∃ d, d = dueF now delay y := ⟨_, rfl⟩
      have hd2 : decide (y.s ≤ now - delay) = d := by rw [hd]; rfl
      have HD := Lib.hid hd
      clear cc hrow7 hy hd
      obtain ⟨yf, ye, yn, ys⟩ := y
      simp only at c0 c1 c2 c3 hs1 hs2
      simp only at hd2
      cases d with
      | false =>
        have hd3 : ¬ ys ≤ now - delay := of_decide_eq_false hd2
        clear hd2
        go_wp2_with fail
        refine ⟨?_, by simp [intOf]; omega⟩
        have e1 : (S.take (j + 1)).filter (dueF now delay) = (S.take j).filter (dueF now delay) := by rw [htk.out, List.filter_append, List.filter_cons, ← HD.out]; simp
        refine Lib.hid ⟨j + 1, m, by simp, by omega, by omega, by rw [e1]; exact HM.out, ?_, HB.out.alloc HB.out.size _, _, rfl⟩
        rw [e1]
        exact HO.out.alloc _
      | true =>
        have hd3 : ys ≤ now - delay := of_decide_eq_true hd2
        clear hd2
        have hRd : Reads ((w7.alloc (.cells #[.string yf, .string ye, .int .i64 yn, .int .i64 ys] 129)).alloc (.cells #[.string yf, .string ye, .int .i64 yn, .int .i64 ys] 129)) ((w7.alloc (.cells #[.string yf, .string ye, .int .i64 yn, .int .i64 ys] 129)).alloc (.cells #[.string yf, .string ye, .int .i64 yn, .int .i64 ys] 129)).heap.size 4 (some ⟨w7.heap.size + 1, 0, none⟩) 1 [.string yf, .string ye, .int .i64 yn, .int .i64 ys] := by
          have h := reads_blk (z := 4) (Blk.new (w7.alloc (.cells #[.string yf, .string ye, .int .i64 yn, .int .i64 ys] 129)) 129 #[.string yf, .string ye, .int .i64 yn, .int .i64 ys]) rfl
          rw [show (w7.alloc (.cells #[.string yf, .string ye, .int .i64 yn, .int .i64 ys] 129)).heap.size = w7.heap.size + 1 by simp] at h
          exact h
        have HRD := Lib.hid hRd
        clear hRd
        go_wp2_with ((at_builtin; refine wpList_append_any _ rfl _ _ 75 rfl w1.heap.size 129 i0 bxZ 4 48 Try.underlying75 hi0 hz0 hz1 hz2 rfl (by decide) _ _ _ rfl ((HO.out.alloc (.cells #[.string yf, .string ye, .int .i64 yn, .int .i64 ys] 129)).alloc (.cells #[.string yf, .string ye, .int .i64 yn, .int .i64 ys] 129)) ((w7.alloc (.cells #[.string yf, .string ye, .int .i64 yn, .int .i64 ys] 129)).alloc (.cells #[.string yf, .string ye, .int .i64 yn, .int .i64 ys] 129)).heap.size (some ⟨w7.heap.size + 1, 0, none⟩) 1 1 [.string yf, .string ye, .int .i64 yn, .int .i64 ys] rfl HRD.out (bxV_one [⟨yf, ye, yn, ys⟩]) (by simp only [maxLen]; omega) (by omega) (by have := HB.out.size; simp; omega) ?_; intro v9 w9 hown9 hg9 hn9))
        refine ⟨?_, by simp [intOf]; omega⟩
        have e1 : (S.take (j + 1)).filter (dueF now delay) = (S.take j).filter (dueF now delay) ++ [⟨yf, ye, yn, ys⟩] := by rw [htk.out, List.filter_append, List.filter_cons, ← HD.out]; simp
        refine Lib.hid ⟨j + 1, m + 1, by simp, by omega, by omega, by rw [e1, HM.out]; simp, ?_, (((HB.out.alloc HB.out.size _).alloc (Nat.le_trans HB.out.size (by simp)) _)).grown hg9 (by have := HB.out.size; simp; omega) (fun k hk => (HO.out.lt k hk).1), _, rfl⟩
        rw [e1, bxV_append]
        exact hown9
    · clear hrow7
      go_wp2_with fail
      go_ret
      have e2 : S.take j = S := by rw [show j = S.length by have := HN.out; omega]; exact List.take_length
      have ho := HO.out
      have hm := HM.out
      rw [e2] at ho hm
      rw [← hm]
      exact ⟨_, rfl, own_down ho HB1.out.size, HB1.out.trans (HB.out.mono HB1.out.size)⟩
set_option maxHeartbeats 8000000 in
/-- Equal rows are the same. -/
theorem SameR {B1 B2 N c c' : Nat} {A A' : Option Addr} (h : w.ownsRow B1 70 4 (.slice A N c) N (bxV L)) (h' : w.ownsRow B2 129 4 (.slice A' N c') N (bxV L)) (hl : L.length = N) (hN : N ≤ 100) :
    Calls Try.prog 40 #[.slice A N c, .slice A' N c'] w fun r w' => r = .returned (.bool true) ∧ ∃ m, w' = w.drewN m := by
  have HR := Lib.hid h
  have HR' := Lib.hid h'
  have HL := Lib.hid hl
  have nN : ((N : Int) != (N : Int)) = false := by simp
  clear h h' hl
  go_enter Try.func40, Try.ntmps40
  go_wp2_with fail
  clear nN
  go_loopw [13] (fun i wr => Hid (∃ j m : Nat, i = .int .i64 j ∧ j ≤ N ∧ wr = w.drewN m)) (fun i _ => N - (intOf i).toNat)
  case atStart => exact Lib.hid ⟨0, 0, rfl, by omega, rfl⟩
  case round =>
    obtain ⟨j, m, rfl, hj, rfl⟩ := hrel.out
    clear hrel
    by_cases hlt : (j : Int) < (N : Int)
    · obtain ⟨u, rfl⟩ := own_some HR.out (by omega)
      obtain ⟨u', rfl⟩ := own_some HR'.out (by omega)
      obtain ⟨y, hy⟩ : ∃ y, L[j]? = some y := ⟨L[j]'(by have := HL.out; omega), List.getElem?_eq_getElem _⟩
      have cc : ∀ k, k < 4 → (w.drewN m).cell? ⟨u, j * 4 + k, none⟩ = (bxC y)[k]? := fun k hm => (HR.out.cellAt (j * 4 + k) (by omega)).trans (bxV_get L j y hy k hm)
      have cc' : ∀ k, k < 4 → (w.drewN m).cell? ⟨u', j * 4 + k, none⟩ = (bxC y)[k]? := fun k hm => (HR'.out.cellAt (j * 4 + k) (by omega)).trans (bxV_get L j y hy k hm)
      obtain ⟨wd, hwd⟩ : ∃ wd, wd = w.drewN m := ⟨_, rfl⟩
      rw [← hwd] at cc cc' ⊢
      have HWD := Lib.hid hwd
      clear hwd
      have c0 : wd.cell? ⟨u, j * 4, none⟩ = some (.string y.f) := cc 0 (by omega)
      have c1 : wd.cell? ⟨u, j * 4 + 1, none⟩ = some (.string y.e) := cc 1 (by omega)
      have c2 : wd.cell? ⟨u, j * 4 + 2, none⟩ = some (.int .i64 y.n) := cc 2 (by omega)
      have c3 : wd.cell? ⟨u, j * 4 + 3, none⟩ = some (.int .i64 y.s) := cc 3 (by omega)
      have d0 : wd.cell? ⟨u', j * 4, none⟩ = some (.string y.f) := cc' 0 (by omega)
      have d1 : wd.cell? ⟨u', j * 4 + 1, none⟩ = some (.string y.e) := cc' 1 (by omega)
      have d2 : wd.cell? ⟨u', j * 4 + 2, none⟩ = some (.int .i64 y.n) := cc' 2 (by omega)
      have d3 : wd.cell? ⟨u', j * 4 + 3, none⟩ = some (.int .i64 y.s) := cc' 3 (by omega)
      have z1 : (0 : Int) ≤ (j : Int) := by omega
      obtain ⟨yf, ye, yn, ys⟩ := y
      simp only at c0 c1 c2 c3 d0 d1 d2 d3
      clear cc cc' hy
      go_upto_region 6 with fail
      go_quiet (fail)
      clear c0 c1 c2 c3 d0 d1 d2 d3
      go_wp2_with fail
      refine ⟨?_, by simp [intOf]; omega⟩
      exact Lib.hid ⟨j + 1, m + nq, by simp, by omega, by rw [HWD.out]; simp [World.drewN, Nat.add_assoc]⟩
    · go_wp2_with fail
      go_ret
      exact ⟨rfl, _, rfl⟩
end
end Go.Proofs.Ytiflhfhonhbcpaa.Bin
