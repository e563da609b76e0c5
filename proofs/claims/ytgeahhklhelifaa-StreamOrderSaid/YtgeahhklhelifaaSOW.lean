/- The walk of StreamOrder: the Go text returns true, and writes nothing that was there. -/
import Derived.Test.YtgeahhklhelifaaStI
import Derived.Test.YtgeahhklhelifaaActs
import Derived.Test.YtgeahhklhelifaaAllSum
namespace Go.Proofs.Ytgeahhklhelifaa.streamOrder
open Go.ChangeShapes Go.WideShapes Go.ChangeAt Go.RowKit
set_option linter.unusedVariables false
set_option maxRecDepth 100000
theorem new_st (w : World) : Calls Try.prog 5 #[] w fun e w' => e = .returned (.pointer (some ⟨w.heap.size, 0, none⟩)) ∧ Blk w' w.heap.size 49 #[.slice none 0 0, .int .i64 0, .bool false, .int .i64 0, .int .i64 0] ∧ Below w.heap.size w w' := by
  go_enter Try.func5, Try.ntmps5
  go_wp2
  go_ret
  exact ⟨rfl, Blk.new _ _ _, (Below.refl _ _).alloc (Nat.le_refl _) _⟩
theorem wkk (w : World) : Calls Try.prog 15 #[] w fun e w' => e = .returned (.bool true) ∧ Below w.heap.size w w' := wakes_15.2.2.2 w
/-- Updates that may be: none; one; one that runs and one that is over. -/
def OkL (l : List Int) : Prop := l = [] ∨ (∃ s, l = [s] ∧ 2 ≤ s ∧ s ≤ 7) ∨ ∃ s, l = [2, s] ∧ 3 ≤ s ∧ s ≤ 7
theorem OkL.len {l : List Int} (h : OkL l) : l.length ≤ 2 := by
  rcases h with rfl | ⟨s, rfl, _⟩ | ⟨s, rfl, _⟩ <;> simp
theorem OkL.st {l : List Int} (h : OkL l) : 1 ≤ stOf l ∧ stOf l ≤ 7 := by
  rcases h with rfl | ⟨s, rfl, h1, h2⟩ | ⟨s, rfl, h1, h2⟩
  · simp [stOf]
  · simp [stOf]; omega
  · simp [stOf]; omega
theorem OkL.add {l : List Int} {t : Int} (h : OkL l) (hm : mayB (stOf l) t = true) (ht : 1 ≤ t ∧ t ≤ 7) : OkL (l ++ [t]) ∧ ¬ 3 ≤ stOf l := by
  rcases h with rfl | ⟨s, rfl, h1, h2⟩ | ⟨s, rfl, h1, h2⟩
  · refine ⟨.inr (.inl ⟨t, rfl, ?_, ht.2⟩), by simp [stOf]⟩
    simp only [stOf, List.getLast?_nil, mayB, if_pos, Bool.or_eq_true, beq_iff_eq] at hm
    rcases hm with h | h
    · omega
    · simp only [overB, Bool.and_eq_true, decide_eq_true_eq] at h; omega
  · have e : stOf [s] = s := rfl
    rw [e] at hm ⊢
    unfold mayB at hm
    rw [if_neg (by omega)] at hm
    by_cases h : s = 2
    · subst h
      rw [if_pos rfl] at hm
      simp only [overB, Bool.and_eq_true, decide_eq_true_eq] at hm
      exact ⟨.inr (.inr ⟨t, rfl, by omega, by omega⟩), by omega⟩
    · rw [if_neg h] at hm; cases hm
  · have e : stOf [2, s] = s := rfl
    rw [e] at hm
    unfold mayB at hm
    rw [if_neg (by omega), if_neg (by omega)] at hm
    cases hm
theorem bel_tail {B : Nat} {w W w5 w7 : World} (hb : Below B w W) (hs : B ≤ W.heap.size) (h5 : Below W.heap.size W w5) (kd : Nat) (h7 : Below (w5.drewN kd).heap.size (w5.drewN kd) w7) : Below B w w7 :=
  (below_drewN (hb.trans (h5.mono hs)) kd).trans (h7.mono (by have := h5.size; show B ≤ w5.heap.size; omega))
def lastOf (ak : Nat) (sd : Bool) : Int := if sd = true then (ak : Int) + 1 else ak
structure Inv (w : World) (k : Nat) (wr : World) (now : Int) (v : Value) (l : List Int) (ak : Nat) (sd : Bool) (dl du : Int) : Prop where
  st : StM wr w.heap.size w.heap.size v l ak sd dl du
  ok : OkL l
  ak_le : ak ≤ l.length
  said : sd = true → ak < l.length
  n0 : 0 ≤ now
  n1 : now ≤ 3 * (k : Int)
  bel : Below w.heap.size w wr
set_option maxHeartbeats 40000000 in
theorem walk (v0 : Value) (w : World) (b0 : ActsArg 4 w v0) :
    Calls Try.prog 3 #[v0] w fun e w' => e = .returned (.bool true) ∧ Below w.heap.size w w' := by
  obtain ⟨A, nn, cc, rfl, hnc, hcm, hA⟩ := acts_u b0
  clear b0
  have HA := Lib.hid hA
  clear hA
  go_enter Try.func3, Try.ntmps3
  go_wp2_with fail
  refine (new_st _).mono ?_
  rintro e w1 ⟨rfl, hB1, hb1⟩
  have HI : Hid (Inv w 0 w1 0 (.slice none 0 0) [] 0 false 0 0) := Lib.hid ⟨⟨hB1, ⟨rfl, .inl ⟨rfl, rfl⟩⟩, Nat.le_refl _⟩, .inl rfl, Nat.le_refl _, (fun h => by cases h), by omega, by omega, hb1⟩
  clear hB1 hb1
  go_wp2
  go_loopw [4, 5, 6, 7] (fun a4 a5 a6 a7 wr => Hid (∃ (k : Nat) (now : Int) (v : Value) (l : List Int) (ak : Nat) (sd : Bool) (dl du la : Int), a4 = .int .i64 la ∧ la = lastOf ak sd ∧ a5 = .int .i64 ak ∧ a6 = .int .i64 now ∧ a7 = .int .i64 k ∧ k ≤ 30 ∧ Inv w k wr now v l ak sd dl du)) (fun _ _ _ a7 _ => match a7 with | .int _ z => (30 - z).toNat | _ => 0)
  case atStart => exact Lib.hid ⟨0, 0, _, [], 0, false, 0, 0, 0, rfl, rfl, rfl, rfl, rfl, by omega, HI.out⟩
  case round =>
    obtain ⟨k, now, v, l, ak, sd, dl, du, la, rfl, hla, rfl, rfl, rfl, hk, hI⟩ := hrel.out
    have hla1 : ¬ la < (ak : Int) := by rw [hla]; unfold lastOf; split <;> omega
    have HLA := Lib.hid hla
    clear hla
    clear hrel HI
    have HI := Lib.hid hI
    have hn0 := hI.n0
    have hn1 := hI.n1
    clear hI
    by_cases h1 : (k : Int) < nn
    · by_cases h2 : (k : Int) < 30
      · obtain ⟨b, off, xs, rfl, hblt, hxb, hcell⟩ := HA.out k (by omega)
        have hc := hcell _ wr HI.out.bel (Nat.le_refl _)
        have c0 : wr.cell? ⟨b, off + k * 4, none⟩ = some (.int .i64 (xs 0)) := hc 0 (by omega)
        have c1 : wr.cell? ⟨b, off + k * 4 + 1, none⟩ = some (.int .i64 (xs 1)) := hc 1 (by omega)
        have c2 : wr.cell? ⟨b, off + k * 4 + 2, none⟩ = some (.int .i64 (xs 2)) := hc 2 (by omega)
        have c3 : wr.cell? ⟨b, off + k * 4 + 3, none⟩ = some (.int .i64 (xs 3)) := hc 3 (by omega)
        have x0 := hxb 0 (by omega)
        have x1 := hxb 1 (by omega)
        have x2 := hxb 2 (by omega)
        have x3 := hxb 3 (by omega)
        clear hc hcell hxb
        generalize xs 0 = q0 at *
        generalize xs 1 = q1 at *
        generalize xs 2 = q2 at *
        generalize xs 3 = q3 at *
        have m2 : 0 ≤ q2 % 4 ∧ q2 % 4 < 4 := ⟨Int.emod_nonneg _ (by omega), Int.emod_lt_of_pos _ (by omega)⟩
        have m1 : 0 ≤ q1 % 7 ∧ q1 % 7 < 7 := ⟨Int.emod_nonneg _ (by omega), Int.emod_lt_of_pos _ (by omega)⟩
        have hq : 0 ≤ q0 % 6 ∧ q0 % 6 < 6 := ⟨Int.emod_nonneg _ (by omega), Int.emod_lt_of_pos _ (by omega)⟩
        have hll := HI.out.ok.len
        have hakl := HI.out.ak_le
        have hS0 := HI.out.st.alloc (.cells #[.int .i64 q0, .int .i64 q1, .int .i64 q2, .int .i64 q3] 26)
        have HS0 := Lib.hid hS0
        clear hS0
        obtain hq | hq | hq | hq : (q0 % 6 = 0 ∨ q0 % 6 = 1) ∨ (q0 % 6 = 2 ∨ q0 % 6 = 3) ∨ q0 % 6 = 4 ∨ q0 % 6 = 5 := by omega
        · by_cases hm : mayB (stOf l) (1 + q1 % 7) = true
          · have hadd := HI.out.ok.add hm ⟨by omega, by omega⟩
            have ho3 := hadd.2
            rcases hq with hq | hq
            all_goals
              have HQ := Lib.hid hq
              clear hq
              go_wp2_with (first | (go_at_call 6; refine (Within_any _ _ _ (by omega) (by omega) (by omega) (by omega)).mono ?_; rintro e w' ⟨rfl, rfl⟩; try rw [HQ.out]) | (go_at_call 7; refine (State_g _ HS0.out (by omega)).mono ?_; rintro e w' ⟨rfl, kd, rfl⟩) | (go_at_call 8; refine (Add_yes (1 + q1 % 7) _ (HS0.out.drewN kd) (by omega) hm (by omega)).mono ?_; rintro e w4 ⟨rfl, v4, hS4, hb4⟩))
              have hz4 := hS4.blk.lt
              have hT4 := hS4.alloc (.cells #[.int .i64 ((l.length : Int) + 1), .int .i64 (1 + q1 % 7)] 30)
              have hL4 := (hadd.1 : OkL (l ++ [1 + q1 % 7])).len
              have hA4 : ak ≤ (l ++ [1 + q1 % 7]).length := (by simp; omega)
              have hB4 := Lib.hid (((below_drewN (HI.out.bel.alloc HI.out.bel.size _) kd).trans hb4).alloc (by omega) (.cells #[.int .i64 ((l.length : Int) + 1), .int .i64 (1 + q1 % 7)] 30))
              have HT4 := Lib.hid hT4
              have hlen2 : ¬ 2 < ((l ++ [1 + q1 % 7]).length : Int) := by omega
              clear hT4
              obtain ⟨n, hn⟩ : ∃ n, n = (l ++ [1 + q1 % 7]).length := ⟨_, rfl⟩
              obtain ⟨p, hp⟩ : ∃ p : Int, p = ((l ++ [1 + q1 % 7]).length : Int) - ((ak : Nat) : Int) := ⟨_, rfl⟩
              have hpb : 0 ≤ p ∧ p ≤ 2 := by omega
              have hsum : ((n : Int) != ((ak : Nat) : Int) + p) = false := by rw [bne_eq_false_iff_eq]; omega
              have hn2 : ¬ 2 < (n : Int) := by omega
              have hU := Updates_g _ HT4.out (by omega)
              have hK := Acked_g _ HT4.out
              rw [← hn] at hU
              have HU := Lib.hid hU
              have HN2 := Lib.hid hn
              have HP2 := Lib.hid hp
              have HA4 := Lib.hid hA4
              have HL4 := Lib.hid hL4
              clear hlen2 hU hn hp hA4 hL4
              refine hK.mono ?_
              rintro e w' ⟨rfl, rfl⟩
              go_wp2_with fail
              refine HU.out.mono ?_
              rintro e w5 ⟨v5, rfl, ho5, hb5⟩
              obtain ⟨A5, c5, rfl, -, -⟩ := own_slice ho5
              have HT5 := Lib.hid (HT4.out.below hb5 (Nat.le_refl _))
              have HB5 := Lib.hid hb5
              clear ho5 hb5 hK
              go_wp2_with fail
              have hQ := Pending_g _ HT5.out HA4.out (by have := HL4.out; omega)
              rw [← HP2.out] at hQ
              refine hQ.mono ?_
              rintro e w' ⟨rfl, kd2, rfl⟩
              clear hQ
              go_wp2_with fail
              have hV := Updates_g _ (HT5.out.drewN kd2) (by have := HL4.out; omega)
              rw [← HN2.out] at hV
              refine hV.mono ?_
              rintro e w7 ⟨v7, rfl, ho7, hb7⟩
              obtain ⟨A7, c7, rfl, -, -⟩ := own_slice ho7
              have HT7 := Lib.hid ((HT5.out.drewN kd2).below hb7 (Nat.le_refl _))
              have HB7 := Lib.hid hb7
              clear ho7 hb7 hV
              go_wp2
              refine ⟨?_, by simp; omega⟩
              exact Lib.hid ⟨k + 1, now + q2 % 4, v4, l ++ [1 + q1 % 7], ak, sd, dl, du, la, rfl, HLA.out, rfl, rfl, by simp, by omega, ⟨HT7.out, hadd.1, HA4.out, (fun e => by have := HI.out.said e; simp; omega), by omega, by omega, bel_tail hB4.out (by have := HT4.out.ge; have := HT4.out.blk.lt; omega) HB5.out kd2 HB7.out⟩⟩
          · have hm : mayB (stOf l) (1 + q1 % 7) = false := by simpa using hm
            rcases hq with hq | hq
            all_goals
              have HQ := Lib.hid hq
              clear hq
              go_wp2_with (first | (go_at_call 6; refine (Within_any _ _ _ (by omega) (by omega) (by omega) (by omega)).mono ?_; rintro e w' ⟨rfl, rfl⟩; try rw [HQ.out]) | (go_at_call 7; refine (State_g _ HS0.out (by omega)).mono ?_; rintro e w' ⟨rfl, kd, rfl⟩) | (go_at_call 8; refine (Add_no (1 + q1 % 7) _ (HS0.out.drewN kd) (by omega) hm).mono ?_; rintro e w4 ⟨rfl, hb4⟩))
              have hS4 := (HS0.out.drewN kd).below hb4 (Nat.le_refl _)
              have hz4 := hS4.blk.lt
              have hz5 := HI.out.bel.size
              have hT4 := hS4.alloc (.cells #[.int .i64 0, .int .i64 0] 30)
              have hL4 := (HI.out.ok : OkL (l)).len
              have hA4 : ak ≤ (l).length := hakl
              have hB4 := Lib.hid (((below_drewN (HI.out.bel.alloc hz5 _) kd).trans (hb4.mono (by simp; omega))).alloc (by omega) (.cells #[.int .i64 0, .int .i64 0] 30))
              have HT4 := Lib.hid hT4
              have hlen2 : ¬ 2 < ((l).length : Int) := by omega
              clear hT4
              obtain ⟨n, hn⟩ : ∃ n, n = (l).length := ⟨_, rfl⟩
              obtain ⟨p, hp⟩ : ∃ p : Int, p = ((l).length : Int) - ((ak : Nat) : Int) := ⟨_, rfl⟩
              have hpb : 0 ≤ p ∧ p ≤ 2 := by omega
              have hsum : ((n : Int) != ((ak : Nat) : Int) + p) = false := by rw [bne_eq_false_iff_eq]; omega
              have hn2 : ¬ 2 < (n : Int) := by omega
              have hU := Updates_g _ HT4.out (by omega)
              have hK := Acked_g _ HT4.out
              rw [← hn] at hU
              have HU := Lib.hid hU
              have HN2 := Lib.hid hn
              have HP2 := Lib.hid hp
              have HA4 := Lib.hid hA4
              have HL4 := Lib.hid hL4
              clear hlen2 hU hn hp hA4 hL4
              refine hK.mono ?_
              rintro e w' ⟨rfl, rfl⟩
              go_wp2_with fail
              refine HU.out.mono ?_
              rintro e w5 ⟨v5, rfl, ho5, hb5⟩
              obtain ⟨A5, c5, rfl, -, -⟩ := own_slice ho5
              have HT5 := Lib.hid (HT4.out.below hb5 (Nat.le_refl _))
              have HB5 := Lib.hid hb5
              clear ho5 hb5 hK
              go_wp2_with fail
              have hQ := Pending_g _ HT5.out HA4.out (by have := HL4.out; omega)
              rw [← HP2.out] at hQ
              refine hQ.mono ?_
              rintro e w' ⟨rfl, kd2, rfl⟩
              clear hQ
              go_wp2_with fail
              have hV := Updates_g _ (HT5.out.drewN kd2) (by have := HL4.out; omega)
              rw [← HN2.out] at hV
              refine hV.mono ?_
              rintro e w7 ⟨v7, rfl, ho7, hb7⟩
              obtain ⟨A7, c7, rfl, -, -⟩ := own_slice ho7
              have HT7 := Lib.hid ((HT5.out.drewN kd2).below hb7 (Nat.le_refl _))
              have HB7 := Lib.hid hb7
              clear ho7 hb7 hV
              go_wp2
              refine ⟨?_, by simp; omega⟩
              exact Lib.hid ⟨k + 1, now + q2 % 4, v, l, ak, sd, dl, du, la, rfl, HLA.out, rfl, rfl, by simp, by omega, ⟨HT7.out, HI.out.ok, HA4.out, HI.out.said, by omega, by omega, bel_tail hB4.out (by have := HT4.out.ge; have := HT4.out.blk.lt; omega) HB5.out kd2 HB7.out⟩⟩
        · rcases Nat.lt_or_ge ak l.length with hlt | hge
          · obtain ⟨s, hs⟩ : ∃ s, l[ak]? = some s := ⟨_, List.getElem?_eq_getElem hlt⟩
            cases sd with
            | true =>
              rcases hq with hq | hq
              all_goals
                have HQ := Lib.hid hq
                clear hq
                go_wp2_with (first | (go_at_call 6; refine (Within_any _ _ _ (by omega) (by omega) (by omega) (by omega)).mono ?_; rintro e w' ⟨rfl, rfl⟩; try rw [HQ.out]) | (go_at_call 9; refine (Say_said _ _ _ _ HS0.out hs (by omega)).mono ?_; rintro e w4 ⟨rfl, hb4⟩))
                have hS4 := HS0.out.below hb4 (Nat.le_refl _)
                have hz4 := hS4.blk.lt
                have hz5 := HI.out.bel.size
                have hT4 := hS4.alloc (.cells #[.int .i64 0, .int .i64 0] 30)
                have hL4 := (HI.out.ok : OkL (l)).len
                have hA4 : ak ≤ (l).length := hakl
                have hB4 := Lib.hid (((HI.out.bel.alloc hz5 _).trans (hb4.mono (by simp; omega))).alloc (by omega) (.cells #[.int .i64 0, .int .i64 0] 30))
                have HT4 := Lib.hid hT4
                have hlen2 : ¬ 2 < ((l).length : Int) := by omega
                clear hT4
                obtain ⟨n, hn⟩ : ∃ n, n = (l).length := ⟨_, rfl⟩
                obtain ⟨p, hp⟩ : ∃ p : Int, p = ((l).length : Int) - ((ak : Nat) : Int) := ⟨_, rfl⟩
                have hpb : 0 ≤ p ∧ p ≤ 2 := by omega
                have hsum : ((n : Int) != ((ak : Nat) : Int) + p) = false := by rw [bne_eq_false_iff_eq]; omega
                have hn2 : ¬ 2 < (n : Int) := by omega
                have hU := Updates_g _ HT4.out (by omega)
                have hK := Acked_g _ HT4.out
                rw [← hn] at hU
                have HU := Lib.hid hU
                have HN2 := Lib.hid hn
                have HP2 := Lib.hid hp
                have HA4 := Lib.hid hA4
                have HL4 := Lib.hid hL4
                clear hlen2 hU hn hp hA4 hL4
                refine hK.mono ?_
                rintro e w' ⟨rfl, rfl⟩
                go_wp2_with fail
                refine HU.out.mono ?_
                rintro e w5 ⟨v5, rfl, ho5, hb5⟩
                obtain ⟨A5, c5, rfl, -, -⟩ := own_slice ho5
                have HT5 := Lib.hid (HT4.out.below hb5 (Nat.le_refl _))
                have HB5 := Lib.hid hb5
                clear ho5 hb5 hK
                go_wp2_with fail
                have hQ := Pending_g _ HT5.out HA4.out (by have := HL4.out; omega)
                rw [← HP2.out] at hQ
                refine hQ.mono ?_
                rintro e w' ⟨rfl, kd2, rfl⟩
                clear hQ
                go_wp2_with fail
                have hV := Updates_g _ (HT5.out.drewN kd2) (by have := HL4.out; omega)
                rw [← HN2.out] at hV
                refine hV.mono ?_
                rintro e w7 ⟨v7, rfl, ho7, hb7⟩
                obtain ⟨A7, c7, rfl, -, -⟩ := own_slice ho7
                have HT7 := Lib.hid ((HT5.out.drewN kd2).below hb7 (Nat.le_refl _))
                have HB7 := Lib.hid hb7
                clear ho7 hb7 hV
                go_wp2
                refine ⟨?_, by simp; omega⟩
                exact Lib.hid ⟨k + 1, now + q2 % 4, v, l, ak, true, dl, du, la, rfl, HLA.out, rfl, rfl, by simp, by omega, ⟨HT7.out, HI.out.ok, HA4.out, HI.out.said, by omega, by omega, bel_tail hB4.out (by have := HT4.out.ge; have := HT4.out.blk.lt; omega) HB5.out kd2 HB7.out⟩⟩
            | false =>
              have hla2 : la = ak := HLA.out
              have hcl : ¬ (ak : Int) + 1 < la := by omega
              have hla3 : ¬ ((ak : Int) + 1) < ak := by omega
              rcases hq with hq | hq
              all_goals
                have HQ := Lib.hid hq
                clear hq
                go_wp2_with (first | (go_at_call 6; refine (Within_any _ _ _ (by omega) (by omega) (by omega) (by omega)).mono ?_; rintro e w' ⟨rfl, rfl⟩; try rw [HQ.out]) | (go_at_call 9; refine (Say_yes _ _ _ _ HS0.out hs (by omega) (by omega)).mono ?_; rintro e w4 ⟨rfl, hS4, hb4⟩))
                skip
                have hz4 := hS4.blk.lt
                have hz5 := HI.out.bel.size
                have hT4 := hS4.alloc (.cells #[.int .i64 ((ak : Int) + 1), .int .i64 s] 30)
                have hL4 := (HI.out.ok : OkL (l)).len
                have hA4 : ak ≤ (l).length := hakl
                have hB4 := Lib.hid (((HI.out.bel.alloc hz5 _).trans hb4).alloc (by omega) (.cells #[.int .i64 ((ak : Int) + 1), .int .i64 s] 30))
                have HT4 := Lib.hid hT4
                have hlen2 : ¬ 2 < ((l).length : Int) := by omega
                clear hT4
                obtain ⟨n, hn⟩ : ∃ n, n = (l).length := ⟨_, rfl⟩
                obtain ⟨p, hp⟩ : ∃ p : Int, p = ((l).length : Int) - ((ak : Nat) : Int) := ⟨_, rfl⟩
                have hpb : 0 ≤ p ∧ p ≤ 2 := by omega
                have hsum : ((n : Int) != ((ak : Nat) : Int) + p) = false := by rw [bne_eq_false_iff_eq]; omega
                have hn2 : ¬ 2 < (n : Int) := by omega
                have hU := Updates_g _ HT4.out (by omega)
                have hK := Acked_g _ HT4.out
                rw [← hn] at hU
                have HU := Lib.hid hU
                have HN2 := Lib.hid hn
                have HP2 := Lib.hid hp
                have HA4 := Lib.hid hA4
                have HL4 := Lib.hid hL4
                clear hlen2 hU hn hp hA4 hL4
                refine hK.mono ?_
                rintro e w' ⟨rfl, rfl⟩
                go_wp2_with fail
                refine HU.out.mono ?_
                rintro e w5 ⟨v5, rfl, ho5, hb5⟩
                obtain ⟨A5, c5, rfl, -, -⟩ := own_slice ho5
                have HT5 := Lib.hid (HT4.out.below hb5 (Nat.le_refl _))
                have HB5 := Lib.hid hb5
                clear ho5 hb5 hK
                go_wp2_with fail
                have hQ := Pending_g _ HT5.out HA4.out (by have := HL4.out; omega)
                rw [← HP2.out] at hQ
                refine hQ.mono ?_
                rintro e w' ⟨rfl, kd2, rfl⟩
                clear hQ
                go_wp2_with fail
                have hV := Updates_g _ (HT5.out.drewN kd2) (by have := HL4.out; omega)
                rw [← HN2.out] at hV
                refine hV.mono ?_
                rintro e w7 ⟨v7, rfl, ho7, hb7⟩
                obtain ⟨A7, c7, rfl, -, -⟩ := own_slice ho7
                have HT7 := Lib.hid ((HT5.out.drewN kd2).below hb7 (Nat.le_refl _))
                have HB7 := Lib.hid hb7
                clear ho7 hb7 hV
                go_wp2
                refine ⟨?_, by simp; omega⟩
                exact Lib.hid ⟨k + 1, now + q2 % 4, v, l, ak, true, 2, (dueI (now + q2 % 4) 2 q3), ((ak : Int) + 1), rfl, (by simp [lastOf]), rfl, rfl, by simp, by omega, ⟨HT7.out, HI.out.ok, HA4.out, (fun _ => hlt), by omega, by omega, bel_tail hB4.out (by have := HT4.out.ge; have := HT4.out.blk.lt; omega) HB5.out kd2 HB7.out⟩⟩
          · have HAK : Hid (ak = l.length) := Lib.hid (by omega)
            rcases hq with hq | hq
            all_goals
              have HQ := Lib.hid hq
              clear hq
              go_wp2_with (first | (go_at_call 6; refine (Within_any _ _ _ (by omega) (by omega) (by omega) (by omega)).mono ?_; rintro e w' ⟨rfl, rfl⟩; try rw [HQ.out]) | (go_at_call 9; refine (Say_end _ _ _ _ HS0.out HAK.out (by omega)).mono ?_; rintro e w4 ⟨rfl, hb4⟩))
              have hS4 := HS0.out.below hb4 (Nat.le_refl _)
              have hz4 := hS4.blk.lt
              have hz5 := HI.out.bel.size
              have hT4 := hS4.alloc (.cells #[.int .i64 0, .int .i64 0] 30)
              have hL4 := (HI.out.ok : OkL (l)).len
              have hA4 : ak ≤ (l).length := hakl
              have hB4 := Lib.hid (((HI.out.bel.alloc hz5 _).trans (hb4.mono (by simp; omega))).alloc (by omega) (.cells #[.int .i64 0, .int .i64 0] 30))
              have HT4 := Lib.hid hT4
              have hlen2 : ¬ 2 < ((l).length : Int) := by omega
              clear hT4
              obtain ⟨n, hn⟩ : ∃ n, n = (l).length := ⟨_, rfl⟩
              obtain ⟨p, hp⟩ : ∃ p : Int, p = ((l).length : Int) - ((ak : Nat) : Int) := ⟨_, rfl⟩
              have hpb : 0 ≤ p ∧ p ≤ 2 := by omega
              have hsum : ((n : Int) != ((ak : Nat) : Int) + p) = false := by rw [bne_eq_false_iff_eq]; omega
              have hn2 : ¬ 2 < (n : Int) := by omega
              have hU := Updates_g _ HT4.out (by omega)
              have hK := Acked_g _ HT4.out
              rw [← hn] at hU
              have HU := Lib.hid hU
              have HN2 := Lib.hid hn
              have HP2 := Lib.hid hp
              have HA4 := Lib.hid hA4
              have HL4 := Lib.hid hL4
              clear hlen2 hU hn hp hA4 hL4
              refine hK.mono ?_
              rintro e w' ⟨rfl, rfl⟩
              go_wp2_with fail
              refine HU.out.mono ?_
              rintro e w5 ⟨v5, rfl, ho5, hb5⟩
              obtain ⟨A5, c5, rfl, -, -⟩ := own_slice ho5
              have HT5 := Lib.hid (HT4.out.below hb5 (Nat.le_refl _))
              have HB5 := Lib.hid hb5
              clear ho5 hb5 hK
              go_wp2_with fail
              have hQ := Pending_g _ HT5.out HA4.out (by have := HL4.out; omega)
              rw [← HP2.out] at hQ
              refine hQ.mono ?_
              rintro e w' ⟨rfl, kd2, rfl⟩
              clear hQ
              go_wp2_with fail
              have hV := Updates_g _ (HT5.out.drewN kd2) (by have := HL4.out; omega)
              rw [← HN2.out] at hV
              refine hV.mono ?_
              rintro e w7 ⟨v7, rfl, ho7, hb7⟩
              obtain ⟨A7, c7, rfl, -, -⟩ := own_slice ho7
              have HT7 := Lib.hid ((HT5.out.drewN kd2).below hb7 (Nat.le_refl _))
              have HB7 := Lib.hid hb7
              clear ho7 hb7 hV
              go_wp2
              refine ⟨?_, by simp; omega⟩
              exact Lib.hid ⟨k + 1, now + q2 % 4, v, l, ak, sd, dl, du, la, rfl, HLA.out, rfl, rfl, by simp, by omega, ⟨HT7.out, HI.out.ok, HA4.out, HI.out.said, by omega, by omega, bel_tail hB4.out (by have := HT4.out.ge; have := HT4.out.blk.lt; omega) HB5.out kd2 HB7.out⟩⟩
        · cases sd with
          | false =>
            have HQ := Lib.hid hq
            clear hq
            go_wp2_with (go_at_call 6; refine (Within_any _ _ _ (by omega) (by omega) (by omega) (by omega)).mono ?_; rintro e w' ⟨rfl, rfl⟩; try rw [HQ.out])
            refine (Again_not _ _ _ _ HS0.out (.inl rfl)).mono ?_
            rintro e w4 ⟨rfl, hb4⟩
            go_wp2_with fail
            have hS4 := HS0.out.below hb4 (Nat.le_refl _)
            have hz4 := hS4.blk.lt
            have hz5 := HI.out.bel.size
            have hT4 := hS4.alloc (.cells #[.int .i64 0, .int .i64 0] 30)
            have hL4 := (HI.out.ok : OkL (l)).len
            have hA4 : ak ≤ (l).length := hakl
            have hB4 := Lib.hid (((HI.out.bel.alloc hz5 _).trans (hb4.mono (by simp; omega))).alloc (by omega) (.cells #[.int .i64 0, .int .i64 0] 30))
            have HT4 := Lib.hid hT4
            have hlen2 : ¬ 2 < ((l).length : Int) := by omega
            clear hT4
            obtain ⟨n, hn⟩ : ∃ n, n = (l).length := ⟨_, rfl⟩
            obtain ⟨p, hp⟩ : ∃ p : Int, p = ((l).length : Int) - ((ak : Nat) : Int) := ⟨_, rfl⟩
            have hpb : 0 ≤ p ∧ p ≤ 2 := by omega
            have hsum : ((n : Int) != ((ak : Nat) : Int) + p) = false := by rw [bne_eq_false_iff_eq]; omega
            have hn2 : ¬ 2 < (n : Int) := by omega
            have hU := Updates_g _ HT4.out (by omega)
            have hK := Acked_g _ HT4.out
            rw [← hn] at hU
            have HU := Lib.hid hU
            have HN2 := Lib.hid hn
            have HP2 := Lib.hid hp
            have HA4 := Lib.hid hA4
            have HL4 := Lib.hid hL4
            clear hlen2 hU hn hp hA4 hL4
            refine hK.mono ?_
            rintro e w' ⟨rfl, rfl⟩
            go_wp2_with fail
            refine HU.out.mono ?_
            rintro e w5 ⟨v5, rfl, ho5, hb5⟩
            obtain ⟨A5, c5, rfl, -, -⟩ := own_slice ho5
            have HT5 := Lib.hid (HT4.out.below hb5 (Nat.le_refl _))
            have HB5 := Lib.hid hb5
            clear ho5 hb5 hK
            go_wp2_with fail
            have hQ := Pending_g _ HT5.out HA4.out (by have := HL4.out; omega)
            rw [← HP2.out] at hQ
            refine hQ.mono ?_
            rintro e w' ⟨rfl, kd2, rfl⟩
            clear hQ
            go_wp2_with fail
            have hV := Updates_g _ (HT5.out.drewN kd2) (by have := HL4.out; omega)
            rw [← HN2.out] at hV
            refine hV.mono ?_
            rintro e w7 ⟨v7, rfl, ho7, hb7⟩
            obtain ⟨A7, c7, rfl, -, -⟩ := own_slice ho7
            have HT7 := Lib.hid ((HT5.out.drewN kd2).below hb7 (Nat.le_refl _))
            have HB7 := Lib.hid hb7
            clear ho7 hb7 hV
            go_wp2
            refine ⟨?_, by simp; omega⟩
            exact Lib.hid ⟨k + 1, now + q2 % 4, v, l, ak, false, dl, du, la, rfl, HLA.out, rfl, rfl, by simp, by omega, ⟨HT7.out, HI.out.ok, HA4.out, HI.out.said, by omega, by omega, bel_tail hB4.out (by have := HT4.out.ge; have := HT4.out.blk.lt; omega) HB5.out kd2 HB7.out⟩⟩
          | true =>
            by_cases hdu : now + q2 % 4 < du
            · skip
              have HQ := Lib.hid hq
              clear hq
              go_wp2_with (go_at_call 6; refine (Within_any _ _ _ (by omega) (by omega) (by omega) (by omega)).mono ?_; rintro e w' ⟨rfl, rfl⟩; try rw [HQ.out])
              refine (Again_not _ _ _ _ HS0.out (.inr hdu)).mono ?_
              rintro e w4 ⟨rfl, hb4⟩
              go_wp2_with fail
              have hS4 := HS0.out.below hb4 (Nat.le_refl _)
              have hz4 := hS4.blk.lt
              have hz5 := HI.out.bel.size
              have hT4 := hS4.alloc (.cells #[.int .i64 0, .int .i64 0] 30)
              have hL4 := (HI.out.ok : OkL (l)).len
              have hA4 : ak ≤ (l).length := hakl
              have hB4 := Lib.hid (((HI.out.bel.alloc hz5 _).trans (hb4.mono (by simp; omega))).alloc (by omega) (.cells #[.int .i64 0, .int .i64 0] 30))
              have HT4 := Lib.hid hT4
              have hlen2 : ¬ 2 < ((l).length : Int) := by omega
              clear hT4
              obtain ⟨n, hn⟩ : ∃ n, n = (l).length := ⟨_, rfl⟩
              obtain ⟨p, hp⟩ : ∃ p : Int, p = ((l).length : Int) - ((ak : Nat) : Int) := ⟨_, rfl⟩
              have hpb : 0 ≤ p ∧ p ≤ 2 := by omega
              have hsum : ((n : Int) != ((ak : Nat) : Int) + p) = false := by rw [bne_eq_false_iff_eq]; omega
              have hn2 : ¬ 2 < (n : Int) := by omega
              have hU := Updates_g _ HT4.out (by omega)
              have hK := Acked_g _ HT4.out
              rw [← hn] at hU
              have HU := Lib.hid hU
              have HN2 := Lib.hid hn
              have HP2 := Lib.hid hp
              have HA4 := Lib.hid hA4
              have HL4 := Lib.hid hL4
              clear hlen2 hU hn hp hA4 hL4
              refine hK.mono ?_
              rintro e w' ⟨rfl, rfl⟩
              go_wp2_with fail
              refine HU.out.mono ?_
              rintro e w5 ⟨v5, rfl, ho5, hb5⟩
              obtain ⟨A5, c5, rfl, -, -⟩ := own_slice ho5
              have HT5 := Lib.hid (HT4.out.below hb5 (Nat.le_refl _))
              have HB5 := Lib.hid hb5
              clear ho5 hb5 hK
              go_wp2_with fail
              have hQ := Pending_g _ HT5.out HA4.out (by have := HL4.out; omega)
              rw [← HP2.out] at hQ
              refine hQ.mono ?_
              rintro e w' ⟨rfl, kd2, rfl⟩
              clear hQ
              go_wp2_with fail
              have hV := Updates_g _ (HT5.out.drewN kd2) (by have := HL4.out; omega)
              rw [← HN2.out] at hV
              refine hV.mono ?_
              rintro e w7 ⟨v7, rfl, ho7, hb7⟩
              obtain ⟨A7, c7, rfl, -, -⟩ := own_slice ho7
              have HT7 := Lib.hid ((HT5.out.drewN kd2).below hb7 (Nat.le_refl _))
              have HB7 := Lib.hid hb7
              clear ho7 hb7 hV
              go_wp2
              refine ⟨?_, by simp; omega⟩
              exact Lib.hid ⟨k + 1, now + q2 % 4, v, l, ak, true, dl, du, la, rfl, HLA.out, rfl, rfl, by simp, by omega, ⟨HT7.out, HI.out.ok, HA4.out, HI.out.said, by omega, by omega, bel_tail hB4.out (by have := HT4.out.ge; have := HT4.out.blk.lt; omega) HB5.out kd2 HB7.out⟩⟩
            · have hlt := HI.out.said rfl
              obtain ⟨s, hs⟩ : ∃ s, l[ak]? = some s := ⟨_, List.getElem?_eq_getElem hlt⟩
              obtain rfl : la = (ak : Int) + 1 := HLA.out
              clear HLA
              have HQ := Lib.hid hq
              clear hq
              go_wp2_with (go_at_call 6; refine (Within_any _ _ _ (by omega) (by omega) (by omega) (by omega)).mono ?_; rintro e w' ⟨rfl, rfl⟩; try rw [HQ.out])
              refine (Again_yes _ _ _ _ HS0.out hs (by omega) (by omega) (by omega)).mono ?_
              rintro e w4 ⟨rfl, hS4, hb4⟩
              go_wp2_with fail
              skip
              have hz4 := hS4.blk.lt
              have hz5 := HI.out.bel.size
              have hT4 := hS4.alloc (.cells #[.int .i64 ((ak : Int) + 1), .int .i64 s] 30)
              have hL4 := (HI.out.ok : OkL (l)).len
              have hA4 : ak ≤ (l).length := hakl
              have hB4 := Lib.hid (((HI.out.bel.alloc hz5 _).trans hb4).alloc (by omega) (.cells #[.int .i64 ((ak : Int) + 1), .int .i64 s] 30))
              have HT4 := Lib.hid hT4
              have hlen2 : ¬ 2 < ((l).length : Int) := by omega
              clear hT4
              obtain ⟨n, hn⟩ : ∃ n, n = (l).length := ⟨_, rfl⟩
              obtain ⟨p, hp⟩ : ∃ p : Int, p = ((l).length : Int) - ((ak : Nat) : Int) := ⟨_, rfl⟩
              have hpb : 0 ≤ p ∧ p ≤ 2 := by omega
              have hsum : ((n : Int) != ((ak : Nat) : Int) + p) = false := by rw [bne_eq_false_iff_eq]; omega
              have hn2 : ¬ 2 < (n : Int) := by omega
              have hU := Updates_g _ HT4.out (by omega)
              have hK := Acked_g _ HT4.out
              rw [← hn] at hU
              have HU := Lib.hid hU
              have HN2 := Lib.hid hn
              have HP2 := Lib.hid hp
              have HA4 := Lib.hid hA4
              have HL4 := Lib.hid hL4
              clear hlen2 hU hn hp hA4 hL4
              refine hK.mono ?_
              rintro e w' ⟨rfl, rfl⟩
              go_wp2_with fail
              refine HU.out.mono ?_
              rintro e w5 ⟨v5, rfl, ho5, hb5⟩
              obtain ⟨A5, c5, rfl, -, -⟩ := own_slice ho5
              have HT5 := Lib.hid (HT4.out.below hb5 (Nat.le_refl _))
              have HB5 := Lib.hid hb5
              clear ho5 hb5 hK
              go_wp2_with fail
              have hQ := Pending_g _ HT5.out HA4.out (by have := HL4.out; omega)
              rw [← HP2.out] at hQ
              refine hQ.mono ?_
              rintro e w' ⟨rfl, kd2, rfl⟩
              clear hQ
              go_wp2_with fail
              have hV := Updates_g _ (HT5.out.drewN kd2) (by have := HL4.out; omega)
              rw [← HN2.out] at hV
              refine hV.mono ?_
              rintro e w7 ⟨v7, rfl, ho7, hb7⟩
              obtain ⟨A7, c7, rfl, -, -⟩ := own_slice ho7
              have HT7 := Lib.hid ((HT5.out.drewN kd2).below hb7 (Nat.le_refl _))
              have HB7 := Lib.hid hb7
              clear ho7 hb7 hV
              go_wp2
              refine ⟨?_, by simp; omega⟩
              exact Lib.hid ⟨k + 1, now + q2 % 4, v, l, ak, true, (nextI dl 9), (dueI (now + q2 % 4) (nextI dl 9) q3), ((ak : Int) + 1), rfl, (by simp [lastOf]), rfl, rfl, by simp, by omega, ⟨HT7.out, HI.out.ok, HA4.out, HI.out.said, by omega, by omega, bel_tail hB4.out (by have := HT4.out.ge; have := HT4.out.blk.lt; omega) HB5.out kd2 HB7.out⟩⟩
        · have m4 : 0 ≤ q1 % 4 ∧ q1 % 4 < 4 := ⟨Int.emod_nonneg _ (by omega), Int.emod_lt_of_pos _ (by omega)⟩
          by_cases hcond : sd = true ∧ q1 % 4 = (ak : Int) + 1
          · obtain ⟨hsd, hnq⟩ := hcond
            subst hsd
            have hlt := HI.out.said rfl
            obtain ⟨s, hs⟩ : ∃ s, l[ak]? = some s := ⟨_, List.getElem?_eq_getElem hlt⟩
            obtain ⟨ak2, hk2⟩ : ∃ m, m = ak + 1 := ⟨_, rfl⟩
            have hki : (ak : Int) + 1 = (ak2 : Int) := by omega
            have hAck := Ack_yes _ HS0.out hs (by omega)
            rw [← hk2, hki] at hAck
            have hc1 : ((ak2 : Int) != (ak : Int) + 1) = false := by rw [bne_eq_false_iff_eq]; omega
            obtain rfl : la = (ak2 : Int) := HLA.out.trans hki
            have HN := Lib.hid (hnq.trans hki)
            have HK2 := Lib.hid hk2
            have HLT := Lib.hid hlt
            have HQ := Lib.hid hq
            clear hq hnq HLA hk2 hki hlt hla1 hs
            have HAck := Lib.hid hAck
            clear hAck
            go_wp2_with (go_at_call 6; refine (Within_any _ _ _ (by omega) (by omega) (by omega) (by omega)).mono ?_; rintro e w' ⟨rfl, rfl⟩; try rw [HQ.out])
            generalize hz : q1 % 4 = z
            obtain rfl : z = (ak2 : Int) := hz.symm.trans HN.out
            clear hz
            refine HAck.out.mono ?_
            rintro e w4 ⟨rfl, hS4, hb4⟩
            clear HAck
            go_wp2_with fail
            have hz5 := HI.out.bel.size
            have hle2 : ak2 ≤ l.length := by have := HLT.out; have := HK2.out; omega
            have hT4 := hS4
            have hL4 := (HI.out.ok : OkL (l)).len
            have hA4 : ak2 ≤ (l).length := hle2
            have hB4 := Lib.hid (((HI.out.bel.alloc hz5 _).trans hb4))
            have HT4 := Lib.hid hT4
            have hlen2 : ¬ 2 < ((l).length : Int) := by omega
            clear hT4
            obtain ⟨n, hn⟩ : ∃ n, n = (l).length := ⟨_, rfl⟩
            obtain ⟨p, hp⟩ : ∃ p : Int, p = ((l).length : Int) - ((ak2 : Nat) : Int) := ⟨_, rfl⟩
            have hpb : 0 ≤ p ∧ p ≤ 2 := by omega
            have hsum : ((n : Int) != ((ak2 : Nat) : Int) + p) = false := by rw [bne_eq_false_iff_eq]; omega
            have hn2 : ¬ 2 < (n : Int) := by omega
            have hU := Updates_g _ HT4.out (by omega)
            have hK := Acked_g _ HT4.out
            rw [← hn] at hU
            have HU := Lib.hid hU
            have HN2 := Lib.hid hn
            have HP2 := Lib.hid hp
            have HA4 := Lib.hid hA4
            have HL4 := Lib.hid hL4
            clear hlen2 hU hn hp hA4 hL4
            refine hK.mono ?_
            rintro e w' ⟨rfl, rfl⟩
            go_wp2_with fail
            refine HU.out.mono ?_
            rintro e w5 ⟨v5, rfl, ho5, hb5⟩
            obtain ⟨A5, c5, rfl, -, -⟩ := own_slice ho5
            have HT5 := Lib.hid (HT4.out.below hb5 (Nat.le_refl _))
            have HB5 := Lib.hid hb5
            clear ho5 hb5 hK
            go_wp2_with fail
            have hQ := Pending_g _ HT5.out HA4.out (by have := HL4.out; omega)
            rw [← HP2.out] at hQ
            refine hQ.mono ?_
            rintro e w' ⟨rfl, kd2, rfl⟩
            clear hQ
            go_wp2_with fail
            have hV := Updates_g _ (HT5.out.drewN kd2) (by have := HL4.out; omega)
            rw [← HN2.out] at hV
            refine hV.mono ?_
            rintro e w7 ⟨v7, rfl, ho7, hb7⟩
            obtain ⟨A7, c7, rfl, -, -⟩ := own_slice ho7
            have HT7 := Lib.hid ((HT5.out.drewN kd2).below hb7 (Nat.le_refl _))
            have HB7 := Lib.hid hb7
            clear ho7 hb7 hV
            go_wp2
            refine ⟨?_, by simp; omega⟩
            exact Lib.hid ⟨k + 1, now + q2 % 4, v, l, ak2, false, dl, du, (ak2 : Int), rfl, (by simp [lastOf]), rfl, rfl, by simp, by omega, ⟨HT7.out, HI.out.ok, HA4.out, (fun e => by cases e), by omega, by omega, bel_tail hB4.out (by have := HT4.out.ge; have := HT4.out.blk.lt; omega) HB5.out kd2 HB7.out⟩⟩
          · have hno : ak = l.length ∨ sd = false ∨ q1 % 4 ≠ (ak : Int) + 1 := by
              cases sd with
              | false => exact .inr (.inl rfl)
              | true => exact .inr (.inr fun e => hcond ⟨rfl, e⟩)
            clear hcond
            have HQ := Lib.hid hq
            clear hq
            go_wp2_with (go_at_call 6; refine (Within_any _ _ _ (by omega) (by omega) (by omega) (by omega)).mono ?_; rintro e w' ⟨rfl, rfl⟩; try rw [HQ.out])
            refine (Ack_no _ _ HS0.out hakl (by omega) hno).mono ?_
            rintro e w4 ⟨rfl, hb4⟩
            clear hno
            go_wp2_with fail
            have hS4 := HS0.out.below hb4 (Nat.le_refl _)
            have hz5 := HI.out.bel.size
            have hT4 := hS4
            have hL4 := (HI.out.ok : OkL (l)).len
            have hA4 : ak ≤ (l).length := hakl
            have hB4 := Lib.hid (((HI.out.bel.alloc hz5 _).trans (hb4.mono (by simp; omega))))
            have HT4 := Lib.hid hT4
            have hlen2 : ¬ 2 < ((l).length : Int) := by omega
            clear hT4
            obtain ⟨n, hn⟩ : ∃ n, n = (l).length := ⟨_, rfl⟩
            obtain ⟨p, hp⟩ : ∃ p : Int, p = ((l).length : Int) - ((ak : Nat) : Int) := ⟨_, rfl⟩
            have hpb : 0 ≤ p ∧ p ≤ 2 := by omega
            have hsum : ((n : Int) != ((ak : Nat) : Int) + p) = false := by rw [bne_eq_false_iff_eq]; omega
            have hn2 : ¬ 2 < (n : Int) := by omega
            have hU := Updates_g _ HT4.out (by omega)
            have hK := Acked_g _ HT4.out
            rw [← hn] at hU
            have HU := Lib.hid hU
            have HN2 := Lib.hid hn
            have HP2 := Lib.hid hp
            have HA4 := Lib.hid hA4
            have HL4 := Lib.hid hL4
            clear hlen2 hU hn hp hA4 hL4
            refine hK.mono ?_
            rintro e w' ⟨rfl, rfl⟩
            go_wp2_with fail
            refine HU.out.mono ?_
            rintro e w5 ⟨v5, rfl, ho5, hb5⟩
            obtain ⟨A5, c5, rfl, -, -⟩ := own_slice ho5
            have HT5 := Lib.hid (HT4.out.below hb5 (Nat.le_refl _))
            have HB5 := Lib.hid hb5
            clear ho5 hb5 hK
            go_wp2_with fail
            have hQ := Pending_g _ HT5.out HA4.out (by have := HL4.out; omega)
            rw [← HP2.out] at hQ
            refine hQ.mono ?_
            rintro e w' ⟨rfl, kd2, rfl⟩
            clear hQ
            go_wp2_with fail
            have hV := Updates_g _ (HT5.out.drewN kd2) (by have := HL4.out; omega)
            rw [← HN2.out] at hV
            refine hV.mono ?_
            rintro e w7 ⟨v7, rfl, ho7, hb7⟩
            obtain ⟨A7, c7, rfl, -, -⟩ := own_slice ho7
            have HT7 := Lib.hid ((HT5.out.drewN kd2).below hb7 (Nat.le_refl _))
            have HB7 := Lib.hid hb7
            clear ho7 hb7 hV
            go_wp2
            refine ⟨?_, by simp; omega⟩
            exact Lib.hid ⟨k + 1, now + q2 % 4, v, l, ak, sd, dl, du, la, rfl, HLA.out, rfl, rfl, by simp, by omega, ⟨HT7.out, HI.out.ok, HA4.out, HI.out.said, by omega, by omega, bel_tail hB4.out (by have := HT4.out.ge; have := HT4.out.blk.lt; omega) HB5.out kd2 HB7.out⟩⟩
      · go_wp2_with (first | (go_at_call 15; refine (wkk _).mono ?_; rintro e w9 ⟨rfl, hb9⟩))
        go_ret
        exact ⟨rfl, HI.out.bel.trans (hb9.mono HI.out.bel.size)⟩
    · go_wp2_with (first | (go_at_call 15; refine (wkk _).mono ?_; rintro e w9 ⟨rfl, hb9⟩))
      go_ret
      exact ⟨rfl, HI.out.bel.trans (hb9.mono HI.out.bel.size)⟩

end Go.Proofs.Ytgeahhklhelifaa.streamOrder
