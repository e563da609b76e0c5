/- The hands' Hello. -/
import Derived.Test.YtiflhfhonhbcpaaHan5
namespace Go.Proofs.Ytiflhfhonhbcpaa.Han
open Go Go.RowKit Go.Proofs.Ytiflhfhonhbcpaa Go.Proofs.Ytiflhfhonhbcpaa.Crw Go.Proofs.Ytiflhfhonhbcpaa.Mas Go.ChangeShapes Go.WideShapes Go.ChangeAt
set_option linter.unusedVariables false
set_option maxRecDepth 100000
section
variable {w w' : World} {B h xb sb kb : Nat} {V U : Nat → Prop} {R : List Pr} {S : List Int} {v : Value}
abbrev heV (R : List Pr) : List Value := R.flatMap fun p => (abC 7 p.n).toList
theorem msg_info : (Try.prog.info? 30).map (fun i => (i.zero, i.size, i.bytes)) = some (some (.agg (abC 0 0 |>.set! 1 (.string ⟨#[]⟩) |>.set! 2 (.string ⟨#[]⟩))), 9, 112) := by kernel_rfl
theorem cells_newM (W : World) (xs : List Value) (t : TypeId) : ∀ (j : Nat) (u : Value), xs[j]? = some u → (W.alloc (.cells xs.toArray t)).cell? ((⟨W.heap.size, 0, none⟩ : Addr).add j) = some u := by
  intro j u hu
  have h := (Blk.new W t xs.toArray).cell j
  have e : ((⟨W.heap.size, 0, none⟩ : Addr).add j) = ⟨W.heap.size, j, none⟩ := by
    unfold Addr.add; split <;> simp_all
  rw [e, h]
  simpa using hu
theorem one_cell9 (k n : Int) : ∀ u ∈ (abC k n).toList, u.oneCell' = true := by
  intro u hu
  simp only [List.mem_cons, List.not_mem_nil, or_false] at hu
  rcases hu with rfl | rfl | rfl | rfl | rfl | rfl | rfl | rfl | rfl <;> rfl
set_option maxHeartbeats 16000000 in
theorem Hello_n (H : HnP w B h xb sb kb V R S v) (hl : R.length ≤ 100) :
    Calls Try.prog 12 #[.pointer (some ⟨h, 0, none⟩)] w fun r w' => ∃ v', r = .returned v' ∧ w'.ownsRow w.heap.size 30 9 v' R.length (heV R) ∧ Below w.heap.size w w' := by
  obtain ⟨i0, hi0, hz0, hz1, hz2⟩ := info_parts msg_info
  obtain ⟨A0, c0, rfl, hc0, -⟩ := own_slice H.row
  have h0 : w.cell? ⟨h, 0, none⟩ = some (.slice A0 R.length c0) := H.blk.cell 0
  obtain ⟨L, hL⟩ : ∃ L, L = R.length := ⟨_, rfl⟩
  have hrow := H.row
  rw [← hL] at h0 hc0 hl hrow ⊢
  have HH := Lib.hid H
  have HR := Lib.hid hrow
  have HL := Lib.hid hL
  clear H hrow hL
  go_enter Try.func12, Try.ntmps12
  go_wp2_with fail
  go_loopw [3, 11] (fun vl vi wr => Hid (∃ j : Nat, vi = .int .i64 j ∧ j ≤ L ∧ wr.ownsRow w.heap.size 30 9 vl j (heV (R.take j)) ∧ Below w.heap.size w wr ∧ ∃ w7, w7 = wr)) (fun _ vi _ => L - (intOf vi).toNat)
  case atStart => exact Lib.hid ⟨0, rfl, by omega, ⟨by simp, .inl ⟨rfl, rfl⟩⟩, Below.refl _ _, _, rfl⟩
  case round =>
    obtain ⟨j, rfl, hj, ho, hb, w7, hw7⟩ := hrel.out
    subst hw7
    clear hrel
    obtain ⟨Al, cl, rfl, hcl, -⟩ := own_slice ho
    by_cases hlt : (j : Int) < L
    · obtain ⟨p, hp⟩ : ∃ p, R[j]? = some p := ⟨R[j]'(by have := HL.out; omega), List.getElem?_eq_getElem _⟩
      obtain ⟨u, rfl⟩ := own_some HR.out (by omega)
      have hr7 := own_keep HR.out hb
      have c7 : w7.cell? ⟨u, j, none⟩ = some (ptr p) := (hr7.cellAt j (by omega)).trans (by rw [List.getElem?_map, hp]; rfl)
      have hk := (HH.out.prs j p hp).below hb (HH.out.prs j p hp).lt
      have p0 : w7.cell? ⟨p.g, 0, none⟩ = some (.string rF) := hk.cell 0
      have p1 : w7.cell? ⟨p.g, 1, none⟩ = some (.string rE) := hk.cell 1
      have p2 : w7.cell? ⟨p.g, 2, none⟩ = some (.int .i64 p.n) := hk.cell 2
      have hA := About 7 p.n w7
      have HO := Lib.hid ho
      have HB := Lib.hid hb
      have HPj := Lib.hid hp
      clear ho hb hp hk hr7
      go_wp2_with (first | (go_at_call 48; refine hA.mono ?_; rintro r w8 ⟨rfl, hb8⟩; have HO8 := Lib.hid (own_keep HO.out hb8); have HB8 := Lib.hid (HB.out.trans (hb8.mono HB.out.size)); clear hb8 hA) | (at_builtin; refine wpList_append_own _ rfl _ _ 26 rfl w.heap.size 30 i0 _ 9 112 Try.underlying26 hi0 hz0 hz1 hz2 rfl (by decide) _ _ _ rfl (HO8.out.alloc _) ⟨w8.heap.size, 0, none⟩ 1 1 (abC 7 p.n).toList rfl rfl (cells_newM _ _ _) (one_cell9 _ _) (by simp only [maxLen]; omega) (by omega) (by have := HB8.out.size; simp; omega) ?_; intro v9 w9 hown9 hg9 _))
      refine ⟨?_, by simp [intOf]; omega⟩
      have e1 : heV (R.take (j + 1)) = heV (R.take j) ++ (abC 7 p.n).toList := by rw [List.take_add_one, HPj.out]; simp [heV]
      refine Lib.hid ⟨j + 1, by simp, by omega, by rw [e1]; exact hown9, (HB8.out.alloc HB8.out.size _).grown hg9 (Nat.le_trans HB8.out.size (by simp)) (fun k hk => (HO8.out.lt k hk).1), _, rfl⟩
    · have hjl : j = L := by omega
      have HB := Lib.hid hb
      have HO := Lib.hid ho
      clear hb ho
      go_wp2_with fail
      go_ret
      have e2 : R.take j = R := by rw [hjl, HL.out]; exact List.take_length
      have ho := HO.out
      rw [e2] at ho
      subst hjl
      exact ⟨_, rfl, ho, HB.out⟩
end
end Go.Proofs.Ytiflhfhonhbcpaa.Han
