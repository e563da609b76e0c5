/- The walk of StreamAgain: the Go text returns true, and writes nothing that was there. -/
import Derived.Test.YtlldpgjifdfogaaStrA
import Derived.Test.YtlldpgjifdfogaaWkk
namespace Go.Proofs.Ytlldpgjifdfogaa.streamAgain
open Go.ChangeShapes Go.WideShapes Go.ChangeAt Go.RowKit
set_option linter.unusedVariables false
set_option maxRecDepth 100000
theorem new_st (w : World) : Calls Try.prog 15 #[] w fun e w' => e = .returned (.pointer (some ⟨w.heap.size, 0, none⟩)) ∧ Blk w' w.heap.size 126 #[.slice none 0 0, .int .i64 0, .bool false, .int .i64 0, .int .i64 0] ∧ Below w.heap.size w w' := by
  go_enter Try.func15, Try.ntmps15
  go_wp2
  go_ret
  exact ⟨rfl, Blk.new _ _ _, (Below.refl _ _).alloc (Nat.le_refl _) _⟩
theorem wl_id (n l : Int) (h1 : l ≤ n) (h2 : n ≤ 1048576) : wl n l = n := by unfold wl; omega
theorem due_bd (n d r : Int) (hn : 0 ≤ n ∧ n ≤ 1048576) (hd : 1 ≤ d ∧ d ≤ 1048576) : n + d - d / 2 ≤ dueI n d r ∧ dueI n d r ≤ n + d := by
  have h := jit_bd d r
  unfold dueI
  rw [wl_id n 0 hn.1 hn.2]
  rw [wl_id d 1 hd.1 hd.2] at h ⊢
  omega
theorem next_is (d m : Int) (hd : 1 ≤ d ∧ d ≤ 1048576) (hm : 1 ≤ m ∧ m ≤ 1048576) : nextI d m = min (2 * d) m := by
  unfold nextI
  rw [wl_id d 1 hd.1 hd.2, wl_id m 1 hm.1 hm.2]
theorem times_ok (k M : Int) (hM : 0 < M) (h : 200 - M ≤ k * M) : 200 / M - 1 ≤ k := by
  have h1 := Int.ediv_mul_le 200 (show M ≠ 0 by omega)
  by_cases hge : 200 / M - 1 ≤ k
  · exact hge
  · exfalso
    have h2 : (k + 1 + 1) * M ≤ 200 / M * M := Int.mul_le_mul_of_nonneg_right (by omega) (by omega)
    rw [Int.add_mul, Int.add_mul, Int.one_mul] at h2
    omega
theorem wr_ok (k M : Int) (hM : 0 < M) (h : 200 / M - 1 ≤ k) : ¬ (k < wrap64 (200 / M - 1)) := by
  have h1 : 0 ≤ 200 / M := Int.ediv_nonneg (by omega) (by omega)
  have h2 : 200 / M ≤ 200 := Int.ediv_le_self _ (by omega)
  unfold wrap64
  omega
theorem wkk (w : World) : Calls Try.prog 21 #[] w fun e w' => e = .returned (.bool true) ∧ Below w.heap.size w w' := wakes_11.2.2.2 w
set_option maxHeartbeats 8000000 in
theorem walk (a0 : Int) (a1 : Int) (a2 : Int) (A3 : Option Addr) (n3 c3 : Nat) (x3 : List Int) (w : World) (b0 : -9223372036854775808 ≤ a0 ∧ a0 ≤ 9223372036854775807) (b1 : -9223372036854775808 ≤ a1 ∧ a1 ≤ 9223372036854775807) (b2 : -9223372036854775808 ≤ a2 ∧ a2 ≤ 9223372036854775807) (b3 : IntRow .i64 w A3 n3 c3 x3) :
    Calls Try.prog 3 #[.int .i64 a0, .int .i64 a1, .int .i64 a2, .slice A3 n3 c3] w fun e w' => e = .returned (.bool true) ∧ Below w.heap.size w w' := by
  have m1 := Int.emod_nonneg a0 (show (5 : Int) ≠ 0 by omega)
  have m2 := Int.emod_lt_of_pos a0 (show (0 : Int) < 5 by omega)
  have m3 := Int.emod_nonneg a1 (show (20 : Int) ≠ 0 by omega)
  have m4 := Int.emod_lt_of_pos a1 (show (0 : Int) < 20 by omega)
  have m5 := Int.emod_nonneg a2 (show (1000 : Int) ≠ 0 by omega)
  have m6 := Int.emod_lt_of_pos a2 (show (0 : Int) < 1000 by omega)
  obtain ⟨hnc, hcm, hxl, hrd, hwf⟩ := b3
  have HR := Lib.hid hrd
  have HW : Hid (∀ x ∈ x3, x ≤ 9223372036854775807) := Lib.hid fun x hx => (bounds_i64 (hwf x hx)).2
  clear hrd hwf
  go_enter Try.func3, Try.ntmps3
  go_wp2_with fail
  refine (new_st _).mono ?_
  rintro e w1 ⟨rfl, hB1, hb1⟩
  go_wp2_with (go_at_call 16; refine (Within_any _ _ _ (by omega) (by omega) (by omega) (by omega)).mono ?_; rintro e w' ⟨rfl, rfl⟩)
  generalize a0 % 5 = f at *
  generalize a1 % 20 = m at *
  generalize a2 % 1000 = nw at *
  refine (Add_first _ _ hB1).mono ?_
  rintro e w2 ⟨rfl, u, c, hu1, hu2, hc1, hB2, hn2, hs2, hg2⟩
  have o1 : One w2 w.heap.size u c 0 false 0 0 := ⟨hB2, hu2, by have := hB1.lt; omega, hc1, hn2, hs2⟩
  have hbel2 : Hid (Below w.heap.size w w2) := Lib.hid (hb1.grown hg2 (by have := hB1.lt; omega) (fun k hk => by injection hk with hk; omega))
  clear hB1 hB2 hn2 hs2 hg2 hu1 hb1
  go_wp2_with fail
  refine (Again_not _ _ _ _ _ _ _ _ _ _ (o1.alloc _) (.inl rfl)).mono ?_
  rintro e w3 ⟨rfl, hb3⟩
  have o3 := (o1.alloc _).below hb3
  have hbel3 : Hid (Below w.heap.size w w3) := Lib.hid ((hbel2.out.alloc (by have := o1.blk.lt; omega) _).trans (hb3.mono (by have := o1.blk.lt; simp; omega)))
  clear o1 hbel2 hb3
  have hdr : ∃ dr : Int, dr ≤ 9223372036854775807 ∧ ((¬ (0 : Int) < n3 ∧ dr = 0) ∨ ((0 : Int) < n3 ∧ ∃ ad : Addr, A3 = some ad ∧ ∀ wz, Below w.heap.size w wz → wz.cell? ad = some (.int .i64 dr))) := by
    by_cases h0 : 0 < n3
    · obtain ⟨ad, uu, hA, hab, hx, hcl⟩ := HR.out.at_ h0
      rw [List.getElem?_map, Option.map_eq_some_iff] at hx
      obtain ⟨y, hy, rfl⟩ := hx
      exact ⟨y, HW.out y (List.mem_of_getElem? hy), .inr ⟨by omega, ad, hA, fun wz hb => by rw [hb.cell hab]; exact hcl⟩⟩
    · exact ⟨0, by omega, .inl ⟨by omega, rfl⟩⟩
  obtain ⟨dr, hdr1, hdr2⟩ := hdr
  rcases hdr2 with ⟨h0, hz⟩ | ⟨h0, ad, rfl, hcell⟩
  · obtain rfl : 0 = dr := hz.symm
    go_wp2_with fail
    refine (Say_one _ _ _ _ _ _ _ _ _ (o3.alloc _) hdr1).mono ?_
    rintro e w4 ⟨rfl, o4, hg4⟩
    have hbel4 : Hid (Below w.heap.size w w4) := Lib.hid ((hbel3.out.alloc (by have := o3.blk.lt; omega) _).grown hg4 (by have := o3.blk.lt; simp; omega) (fun k hk => by injection hk with hk; omega))
    clear o3 hbel3 hg4
    go_wp2
    have hdb := due_bd nw (1 + f) 0 (by omega) (by omega)
    have HO := Lib.hid o4
    clear o4
    go_loopw [14, 17, 18, 19, 20] (fun a14 a17 a18 a19 a20 wr => Hid (∃ (dd l D T du : Int) (k : Nat), a14 = .int .i64 dd ∧ dd ≤ 9223372036854775807 ∧ a17 = .int .i64 l ∧ a18 = .int .i64 D ∧ a19 = .int .i64 k ∧ a20 = .int .i64 T ∧ nw + 1 ≤ T ∧ T ≤ nw + 200 ∧ 1 ≤ D ∧ D ≤ 5 + m ∧ nw ≤ l ∧ l + 1 ≤ T ∧ T - l ≤ D ∧ l + D - D / 2 ≤ du ∧ du ≤ l + D ∧ (k : Int) ≤ T - nw - 1 ∧ l - nw ≤ (k : Int) * (5 + m) ∧ One wr w.heap.size u c 0 true D du ∧ Below w.heap.size w wr)) (fun _ _ _ _ a20 _ => match a20 with | .int _ z => (nw + 200 - z).toNat | _ => 0)
    case atStart => exact Lib.hid ⟨0, nw, 1 + f, nw + 1, dueI nw (1 + f) 0, 0, rfl, by omega, rfl, rfl, rfl, rfl, by omega, by omega, by omega, by omega, by omega, by omega, by omega, hdb.1, hdb.2, by omega, by omega, HO.out.alloc _, hbel4.out.alloc (by have := HO.out.blk.lt; omega) _⟩
    case round =>
      obtain ⟨dd, l, D, T, du, k, rfl, hd1, rfl, rfl, rfl, rfl, t1, t2, t3, t4, t5, t6, t7, t8, t9, t10, t11, hO, hB⟩ := hrel.out
      have HQ := Lib.hid t11
      have HO2 := Lib.hid hO
      have HB2 := Lib.hid hB
      clear hrel t11 hO hB HO hbel4 hdb
      by_cases hT : T < nw + 200
      · have q1 : ¬ D < T - l := by omega
        have hdn : ∃ dn : Int, dn ≤ 9223372036854775807 ∧ ((¬ (k : Int) + 1 < n3 ∧ dn = dd) ∨ ((k : Int) + 1 < n3 ∧ ∃ ad' : Addr, A3 = some ad' ∧ wr.cell? (ad'.add (k + 1)) = some (.int .i64 dn))) := by
          by_cases h0 : k + 1 < n3
          · obtain ⟨ad', uu, hA, hab, hx, hcl⟩ := HR.out.at_ h0
            rw [List.getElem?_map, Option.map_eq_some_iff] at hx
            obtain ⟨y, hy, rfl⟩ := hx
            exact ⟨y, HW.out y (List.mem_of_getElem? hy), .inr ⟨by omega, ad', hA, by rw [HB2.out.cell (p := ad'.add (k + 1)) (by unfold Addr.add; split <;> exact hab)]; exact hcl⟩⟩
          · exact ⟨dd, hd1, .inl ⟨by omega, rfl⟩⟩
        obtain ⟨dn, hn1, hn2⟩ := hdn
        rcases hn2 with ⟨h0, rfl⟩ | ⟨h0, ad', hA, hcx⟩
        all_goals
          try cases hA
          by_cases hdu : T < du
          · have q2 : ¬ T - l = D := by omega
            go_wp2_with (go_at_call 18; refine (Again_not _ _ _ _ _ _ _ _ _ _ HO2.out (.inr hdu)).mono ?_; rintro e w5 ⟨rfl, hb5⟩)
            all_goals
              have hlt := HO2.out.blk.lt
              have o5 := HO2.out.below hb5
              refine ⟨?_, by simp; omega⟩
              exact Lib.hid ⟨dn, l, D, T + 1, du, k, rfl, hn1, rfl, rfl, rfl, rfl, by omega, by omega, t3, t4, t5, by omega, by omega, t8, t9, by omega, HQ.out, o5.alloc _, (HB2.out.trans (hb5.mono (by omega))).alloc (by have := o5.blk.lt; omega) _⟩
          · have q2 : ¬ 2 * (T - l) < D := by omega
            have hnx := next_is D (5 + m) (by omega) (by omega)
            have hif : (if 5 + m < 2 * D then 5 + m else 2 * D) = min (2 * D) (5 + m) := by split <;> omega
            have hdb2 := due_bd T (min (2 * D) (5 + m)) dn (by omega) (by omega)
            have hA1 := Again_yes _ _ _ _ _ T (5 + m) dn _ HO2.out hn1 hdu
            rw [hnx] at hA1
            go_wp2_with (go_at_call 18; refine hA1.mono ?_; rintro e w5 ⟨rfl, o5, hg5⟩)
            all_goals
              have hlt := HO2.out.blk.lt
              have hq := HQ.out
              refine ⟨?_, by simp; omega⟩
              refine Lib.hid ⟨dn, T, min (2 * D) (5 + m), T + 1, _, k + 1, rfl, hn1, rfl, by first | rfl | rw [hif], by go_num, rfl, by omega, by omega, by omega, by omega, by omega, by omega, by omega, hdb2.1, hdb2.2, by omega, ?_, o5.alloc _, (HB2.out.grown hg5 (by omega) (fun k hk => by injection hk with hk; omega)).alloc (by have := o5.blk.lt; omega) _⟩
              rw [show ((k + 1 : Nat) : Int) = (k : Int) + 1 by omega, Int.add_mul, Int.one_mul]
              omega
      · have hk := times_ok k (5 + m) (by omega) (by have := HQ.out; omega)
        have hkw := wr_ok k (5 + m) (by omega) hk
        go_wp2_with (first | (go_at_call 20; refine (Ack_one _ _ _ _ _ _ HO2.out).mono ?_; rintro e w6 ⟨rfl, hg6⟩) | (go_at_call 21; refine (wkk _).mono ?_; rintro e w7 ⟨rfl, hb7⟩))
        go_ret
        have hlt := HO2.out.blk.lt
        have s6 := hg6.size
        exact ⟨rfl, (HB2.out.grown hg6 (by omega) (fun k hk => by injection hk with hk; omega)).trans (hb7.mono (by omega))⟩
  · have hc0 : ∀ o, (w3.alloc o).cell? ad = some (.int .i64 dr) := fun o => hcell _ (hbel3.out.alloc (by have := o3.blk.lt; omega) o)
    go_wp2_with fail
    refine (Say_one _ _ _ _ _ _ _ _ _ (o3.alloc _) hdr1).mono ?_
    rintro e w4 ⟨rfl, o4, hg4⟩
    have hbel4 : Hid (Below w.heap.size w w4) := Lib.hid ((hbel3.out.alloc (by have := o3.blk.lt; omega) _).grown hg4 (by have := o3.blk.lt; simp; omega) (fun k hk => by injection hk with hk; omega))
    clear o3 hbel3 hg4 hc0
    go_wp2
    have hdb := due_bd nw (1 + f) dr (by omega) (by omega)
    have HO := Lib.hid o4
    clear o4
    go_loopw [14, 17, 18, 19, 20] (fun a14 a17 a18 a19 a20 wr => Hid (∃ (dd l D T du : Int) (k : Nat), a14 = .int .i64 dd ∧ dd ≤ 9223372036854775807 ∧ a17 = .int .i64 l ∧ a18 = .int .i64 D ∧ a19 = .int .i64 k ∧ a20 = .int .i64 T ∧ nw + 1 ≤ T ∧ T ≤ nw + 200 ∧ 1 ≤ D ∧ D ≤ 5 + m ∧ nw ≤ l ∧ l + 1 ≤ T ∧ T - l ≤ D ∧ l + D - D / 2 ≤ du ∧ du ≤ l + D ∧ (k : Int) ≤ T - nw - 1 ∧ l - nw ≤ (k : Int) * (5 + m) ∧ One wr w.heap.size u c 0 true D du ∧ Below w.heap.size w wr)) (fun _ _ _ _ a20 _ => match a20 with | .int _ z => (nw + 200 - z).toNat | _ => 0)
    case atStart => exact Lib.hid ⟨dr, nw, 1 + f, nw + 1, dueI nw (1 + f) dr, 0, rfl, hdr1, rfl, rfl, rfl, rfl, by omega, by omega, by omega, by omega, by omega, by omega, by omega, hdb.1, hdb.2, by omega, by omega, HO.out.alloc _, hbel4.out.alloc (by have := HO.out.blk.lt; omega) _⟩
    case round =>
      obtain ⟨dd, l, D, T, du, k, rfl, hd1, rfl, rfl, rfl, rfl, t1, t2, t3, t4, t5, t6, t7, t8, t9, t10, t11, hO, hB⟩ := hrel.out
      have HQ := Lib.hid t11
      have HO2 := Lib.hid hO
      have HB2 := Lib.hid hB
      clear hrel t11 hO hB HO hbel4 hdb
      by_cases hT : T < nw + 200
      · have q1 : ¬ D < T - l := by omega
        have hdn : ∃ dn : Int, dn ≤ 9223372036854775807 ∧ ((¬ (k : Int) + 1 < n3 ∧ dn = dd) ∨ ((k : Int) + 1 < n3 ∧ ∃ ad' : Addr, some ad = some ad' ∧ wr.cell? (ad'.add (k + 1)) = some (.int .i64 dn))) := by
          by_cases h0 : k + 1 < n3
          · obtain ⟨ad', uu, hA, hab, hx, hcl⟩ := HR.out.at_ h0
            rw [List.getElem?_map, Option.map_eq_some_iff] at hx
            obtain ⟨y, hy, rfl⟩ := hx
            exact ⟨y, HW.out y (List.mem_of_getElem? hy), .inr ⟨by omega, ad', hA, by rw [HB2.out.cell (p := ad'.add (k + 1)) (by unfold Addr.add; split <;> exact hab)]; exact hcl⟩⟩
          · exact ⟨dd, hd1, .inl ⟨by omega, rfl⟩⟩
        obtain ⟨dn, hn1, hn2⟩ := hdn
        rcases hn2 with ⟨h0, rfl⟩ | ⟨h0, ad', hA, hcx⟩
        all_goals
          try cases hA
          try have hcx5 : wr.cell? ⟨ad.block, ad.off + (k + 1), none⟩ = some (.int .i64 dn) := by have h := hcx; unfold Addr.add at h; simpa using h
          by_cases hdu : T < du
          · have q2 : ¬ T - l = D := by omega
            go_wp2_with (go_at_call 18; refine (Again_not _ _ _ _ _ _ _ _ _ _ HO2.out (.inr hdu)).mono ?_; rintro e w5 ⟨rfl, hb5⟩)
            all_goals
              have hlt := HO2.out.blk.lt
              have o5 := HO2.out.below hb5
              refine ⟨?_, by simp; omega⟩
              exact Lib.hid ⟨dn, l, D, T + 1, du, k, rfl, hn1, rfl, rfl, rfl, rfl, by omega, by omega, t3, t4, t5, by omega, by omega, t8, t9, by omega, HQ.out, o5.alloc _, (HB2.out.trans (hb5.mono (by omega))).alloc (by have := o5.blk.lt; omega) _⟩
          · have q2 : ¬ 2 * (T - l) < D := by omega
            have hnx := next_is D (5 + m) (by omega) (by omega)
            have hif : (if 5 + m < 2 * D then 5 + m else 2 * D) = min (2 * D) (5 + m) := by split <;> omega
            have hdb2 := due_bd T (min (2 * D) (5 + m)) dn (by omega) (by omega)
            have hA1 := Again_yes _ _ _ _ _ T (5 + m) dn _ HO2.out hn1 hdu
            rw [hnx] at hA1
            go_wp2_with (go_at_call 18; refine hA1.mono ?_; rintro e w5 ⟨rfl, o5, hg5⟩)
            all_goals
              have hlt := HO2.out.blk.lt
              have hq := HQ.out
              refine ⟨?_, by simp; omega⟩
              refine Lib.hid ⟨dn, T, min (2 * D) (5 + m), T + 1, _, k + 1, rfl, hn1, rfl, by first | rfl | rw [hif], by go_num, rfl, by omega, by omega, by omega, by omega, by omega, by omega, by omega, hdb2.1, hdb2.2, by omega, ?_, o5.alloc _, (HB2.out.grown hg5 (by omega) (fun k hk => by injection hk with hk; omega)).alloc (by have := o5.blk.lt; omega) _⟩
              rw [show ((k + 1 : Nat) : Int) = (k : Int) + 1 by omega, Int.add_mul, Int.one_mul]
              omega
      · have hk := times_ok k (5 + m) (by omega) (by have := HQ.out; omega)
        have hkw := wr_ok k (5 + m) (by omega) hk
        go_wp2_with (first | (go_at_call 20; refine (Ack_one _ _ _ _ _ _ HO2.out).mono ?_; rintro e w6 ⟨rfl, hg6⟩) | (go_at_call 21; refine (wkk _).mono ?_; rintro e w7 ⟨rfl, hb7⟩))
        go_ret
        have hlt := HO2.out.blk.lt
        have s6 := hg6.size
        exact ⟨rfl, (HB2.out.grown hg6 (by omega) (fun k hk => by injection hk with hk; omega)).trans (hb7.mono (by omega))⟩

end Go.Proofs.Ytlldpgjifdfogaa.streamAgain
