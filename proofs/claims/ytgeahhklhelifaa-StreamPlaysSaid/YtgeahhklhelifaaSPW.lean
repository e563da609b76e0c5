/- The walk of StreamPlays: the Go text returns true, and writes nothing that was there. -/
import Derived.Test.YtgeahhklhelifaaStL
import Derived.Test.YtgeahhklhelifaaStK
import Derived.Test.YtgeahhklhelifaaActs
import Derived.Test.YtgeahhklhelifaaAllSum
namespace Go.Proofs.Ytgeahhklhelifaa.streamPlays
open Go.ChangeShapes Go.WideShapes Go.ChangeAt Go.RowKit
set_option linter.unusedVariables false
set_option maxRecDepth 100000
theorem new_st (w : World) : Calls Try.prog 5 #[] w fun e w' => e = .returned (.pointer (some ⟨w.heap.size, 0, none⟩)) ∧ Blk w' w.heap.size 49 #[.slice none 0 0, .int .i64 0, .bool false, .int .i64 0, .int .i64 0] ∧ Below w.heap.size w w' := by
  go_enter Try.func5, Try.ntmps5
  go_wp2
  go_ret
  exact ⟨rfl, Blk.new _ _ _, (Below.refl _ _).alloc (Nat.le_refl _) _⟩
theorem wkk (w : World) : Calls Try.prog 15 #[] w fun e w' => e = .returned (.bool true) ∧ Below w.heap.size w w' := wakes_15.2.2.2 w
/-- Updates that may be: none; one; one that runs and one that is over. -/
def OkL (l : List Int) : Prop := l = [] ∨ (∃ s, l = [s] ∧ 2 ≤ s ∧ s ≤ 7) ∨ ∃ s, l = [2, s] ∧ 3 ≤ s ∧ s ≤ 7
theorem OkL.len {l : List Int} (h : OkL l) : l.length ≤ 2 := by
  rcases h with rfl | ⟨s, rfl, _⟩ | ⟨s, rfl, _⟩ <;> simp
theorem OkL.st {l : List Int} (h : OkL l) : 1 ≤ stOf l ∧ stOf l ≤ 7 := by
  rcases h with rfl | ⟨s, rfl, h1, h2⟩ | ⟨s, rfl, h1, h2⟩
  · simp [stOf]
  · simp [stOf]; omega
  · simp [stOf]; omega
theorem OkL.add {l : List Int} {t : Int} (h : OkL l) (hm : mayB (stOf l) t = true) (ht : 1 ≤ t ∧ t ≤ 7) : OkL (l ++ [t]) ∧ ¬ 3 ≤ stOf l := by
  rcases h with rfl | ⟨s, rfl, h1, h2⟩ | ⟨s, rfl, h1, h2⟩
  · refine ⟨.inr (.inl ⟨t, rfl, ?_, ht.2⟩), by simp [stOf]⟩
    simp only [stOf, List.getLast?_nil, mayB, if_pos, Bool.or_eq_true, beq_iff_eq] at hm
    rcases hm with h | h
    · omega
    · simp only [overB, Bool.and_eq_true, decide_eq_true_eq] at h; omega
  · have e : stOf [s] = s := rfl
    rw [e] at hm ⊢
    unfold mayB at hm
    rw [if_neg (by omega)] at hm
    by_cases h : s = 2
    · subst h
      rw [if_pos rfl] at hm
      simp only [overB, Bool.and_eq_true, decide_eq_true_eq] at hm
      exact ⟨.inr (.inr ⟨t, rfl, by omega, by omega⟩), by omega⟩
    · rw [if_neg h] at hm; cases hm
  · have e : stOf [2, s] = s := rfl
    rw [e] at hm
    unfold mayB at hm
    rw [if_neg (by omega), if_neg (by omega)] at hm
    cases hm
theorem may_rng {s t : Int} (h : mayB s t = true) : 1 ≤ t ∧ t ≤ 7 := by
  unfold mayB overB at h
  split at h
  · simp at h; omega
  · split at h
    · simp at h; omega
    · cases h
structure P2 (w wr : World) (g g' : Nat) (v v' : Value) (l : List Int) (ak : Nat) (sd : Bool) (dl du : Int) : Prop where
  st : StM wr w.heap.size g v l ak sd dl du
  rs : RsM wr w.heap.size g' v' l ak sd dl du
  ap : ∀ k, v.ownBlock = some k → v'.ownBlock ≠ some k
  ok : OkL l
  akl : ak ≤ l.length
  said : sd = true → ak < l.length
  bel : Below w.heap.size w wr
theorem P2.below {w wr w' : World} {g g' : Nat} {v v' : Value} {l : List Int} {ak : Nat} {sd : Bool} {dl du : Int} (h : P2 w wr g g' v v' l ak sd dl du) (hb : Below wr.heap.size wr w') : P2 w w' g g' v v' l ak sd dl du :=
  ⟨h.st.below hb (Nat.le_refl _), h.rs.below hb (Nat.le_refl _), h.ap, h.ok, h.akl, h.said, h.bel.trans (hb.mono h.bel.size)⟩
theorem P2.alloc {w wr : World} {g g' : Nat} {v v' : Value} {l : List Int} {ak : Nat} {sd : Bool} {dl du : Int} (h : P2 w wr g g' v v' l ak sd dl du) (ob : Obj) : P2 w (wr.alloc ob) g g' v v' l ak sd dl du := h.below ((Below.refl _ _).alloc (Nat.le_refl _) _)
theorem Keeps.new {w w' : World} {g : Nat} {v : Value} {cs : Array Value} {t : TypeId} (hk : Keeps (w.alloc (.cells cs t)) w' g v) (hg : g < w.heap.size) (hv : ∀ k, v.ownBlock = some k → k < w.heap.size) : Blk w' w.heap.size t cs :=
  (hk _ (by simp) (by omega) (fun e => by have := hv _ e; omega)).trans (Blk.new w t cs)
theorem ok_add {l l' : List Int} {t : Int} (h : OkL l) (hl : l' = l ∨ mayB (stOf l) t = true ∧ l' = l ++ [t]) : OkL l' ∧ l.length ≤ l'.length := by
  rcases hl with rfl | ⟨hm, rfl⟩
  · exact ⟨h, Nat.le_refl _⟩
  · exact ⟨(h.add hm (may_rng hm)).1, by simp⟩
set_option maxHeartbeats 40000000 in
theorem walk (v0 : Value) (a1 : Int) (a2 : Int) (w : World) (b0 : ActsArg 4 w v0) (b1 : -9223372036854775808 ≤ a1 ∧ a1 ≤ 9223372036854775807) (b2 : -9223372036854775808 ≤ a2 ∧ a2 ≤ 9223372036854775807) :
    Calls Try.prog 4 #[v0, .int .i64 a1, .int .i64 a2] w fun e w' => e = .returned (.bool true) ∧ Below w.heap.size w w' := by
  obtain ⟨A, nn, cc, rfl, hnc, hcm, hA⟩ := acts_u b0
  clear b0
  have HA := Lib.hid hA
  clear hA
  have m6 : 0 ≤ a1 % 6 ∧ a1 % 6 < 6 := ⟨Int.emod_nonneg _ (by omega), Int.emod_lt_of_pos _ (by omega)⟩
  have m12 : 0 ≤ a2 % 12 ∧ a2 % 12 < 12 := ⟨Int.emod_nonneg _ (by omega), Int.emod_lt_of_pos _ (by omega)⟩
  go_enter Try.func4, Try.ntmps4
  go_wp2_with fail
  refine (new_st _).mono ?_
  rintro e w1 ⟨rfl, hB1, hb1⟩
  have HI : Hid (P2 w (w1.alloc (.cells #[.slice none 0 0, .int .i64 0, .bool false, .int .i64 0, .int .i64 0] 43)) w.heap.size w1.heap.size (.slice none 0 0) (.slice none 0 0) [] 0 false 0 0) := Lib.hid ⟨⟨hB1.alloc _, ⟨rfl, .inl ⟨rfl, rfl⟩⟩, Nat.le_refl _⟩, ⟨Blk.new _ _ _, ⟨rfl, .inl ⟨rfl, rfl⟩⟩, hb1.size⟩, (fun k hk => by cases hk), .inl rfl, Nat.le_refl _, (fun h => by cases h), hb1.alloc hb1.size _⟩
  clear hB1 hb1
  go_wp2_with (go_at_call 6; refine (Within_any _ _ _ (by omega) (by omega) (by omega) (by omega)).mono ?_; rintro e w' ⟨rfl, rfl⟩)
  generalize (w1.alloc (.cells #[.slice none 0 0, .int .i64 0, .bool false, .int .i64 0, .int .i64 0] 43)) = w2 at *
  obtain ⟨fi, hfi⟩ : ∃ fi, fi = 1 + a1 % 6 := ⟨_, rfl⟩
  obtain ⟨mo, hmo⟩ : ∃ mo, mo = 1 + a2 % 12 := ⟨_, rfl⟩
  rw [← hfi, ← hmo]
  clear hfi hmo m6 m12
  go_loopw [9, 10] (fun a9 a10 wr => Hid (∃ (k : Nat) (now : Int) (v v' : Value) (l : List Int) (ak : Nat) (sd : Bool) (dl du : Int), a9 = .int .i64 now ∧ a10 = .int .i64 k ∧ k ≤ 30 ∧ 0 ≤ now ∧ now ≤ 4 * (k : Int) ∧ P2 w wr w.heap.size w1.heap.size v v' l ak sd dl du)) (fun _ a10 _ => match a10 with | .int _ z => (30 - z).toNat | _ => 0)
  case atStart => exact Lib.hid ⟨0, 0, _, _, [], 0, false, 0, 0, rfl, rfl, by omega, by omega, by omega, HI.out⟩
  case round =>
    obtain ⟨k, now, v, v', l, ak, sd, dl, du, rfl, rfl, hk, hn0, hn1, hI⟩ := hrel.out
    clear hrel HI
    have HI := Lib.hid hI
    clear hI
    by_cases h1 : (k : Int) < nn
    · by_cases h2 : (k : Int) < 30
      · obtain ⟨b, off, xs, rfl, hblt, hxb, hcell⟩ := HA.out k (by omega)
        have hc := hcell _ wr HI.out.bel (Nat.le_refl _)
        have c0 : wr.cell? ⟨b, off + k * 4, none⟩ = some (.int .i64 (xs 0)) := hc 0 (by omega)
        have c1 : wr.cell? ⟨b, off + k * 4 + 1, none⟩ = some (.int .i64 (xs 1)) := hc 1 (by omega)
        have c2 : wr.cell? ⟨b, off + k * 4 + 2, none⟩ = some (.int .i64 (xs 2)) := hc 2 (by omega)
        have c3 : wr.cell? ⟨b, off + k * 4 + 3, none⟩ = some (.int .i64 (xs 3)) := hc 3 (by omega)
        have x0 := hxb 0 (by omega)
        have x1 := hxb 1 (by omega)
        have x2 := hxb 2 (by omega)
        have x3 := hxb 3 (by omega)
        clear hc hcell hxb
        generalize xs 0 = q0 at *
        generalize xs 1 = q1 at *
        generalize xs 2 = q2 at *
        generalize xs 3 = q3 at *
        have m2 : 0 ≤ q2 % 5 ∧ q2 % 5 < 5 := ⟨Int.emod_nonneg _ (by omega), Int.emod_lt_of_pos _ (by omega)⟩
        have m1 : 0 ≤ q1 % 9 ∧ q1 % 9 < 9 := ⟨Int.emod_nonneg _ (by omega), Int.emod_lt_of_pos _ (by omega)⟩
        have hq : 0 ≤ q0 % 8 ∧ q0 % 8 < 8 := ⟨Int.emod_nonneg _ (by omega), Int.emod_lt_of_pos _ (by omega)⟩
        have hll := HI.out.ok.len
        have HS0 := Lib.hid (HI.out.alloc (.cells #[.int .i64 q0, .int .i64 q1, .int .i64 q2, .int .i64 q3] 26))
        clear HI
        obtain hq | hq | hq | hq | hq : (q0 % 8 = 0 ∨ q0 % 8 = 1) ∨ (q0 % 8 = 2 ∨ q0 % 8 = 3) ∨ (q0 % 8 = 4 ∨ q0 % 8 = 5) ∨ q0 % 8 = 6 ∨ q0 % 8 = 7 := by omega
        · have h3 : (q1.tmod 11 == 10) = true ∨ (q1.tmod 11 == 10) = false := by cases (q1.tmod 11 == 10) <;> simp
          obtain ⟨t, ht, htb⟩ : ∃ t, ((q1.tmod 11 == 10) = true ∧ t = q1 ∨ (q1.tmod 11 == 10) = false ∧ t = q1 % 9) ∧ -9223372036854775808 ≤ t ∧ t ≤ 9223372036854775807 := by
            rcases h3 with h3 | h3
            · exact ⟨q1, .inl ⟨h3, rfl⟩, by omega, by omega⟩
            · exact ⟨q1 % 9, .inr ⟨h3, rfl⟩, by omega, by omega⟩
          obtain ⟨x, y, e, b, l2, hl2, hbe, cs, cr⟩ := add_both l ak sd dl du t (by omega) htb
          have hok := ok_add HS0.out.ok hl2
          clear h3 hl2
          rcases hq with hq | hq
          all_goals
            have HQ := Lib.hid hq
            clear hq
            rcases ht with ⟨h3, ht⟩ | ⟨h3, ht⟩
            all_goals
              rcases hbe with ⟨hb, he⟩ | ⟨hb, he⟩
              all_goals
                subst hb he ht
                as_aux_lemma =>
                  go_wp2_with (go_at_call 6; refine (Within_any _ _ _ (by omega) (by omega) (by omega) (by omega)).mono ?_; rintro e w' ⟨rfl, rfl⟩; try rw [HQ.out])
                  refine (cs HS0.out.st).mono ?_
                  rintro r w4 ⟨rfl, v4, hs4, hb4, hk4, hl4⟩
                  have hr4 := RsM.keepK HS0.out.st HS0.out.rs HS0.out.ap hk4
                  have hp4 := ap_s HS0.out.rs HS0.out.ap hl4
                  have hz4 := (HS0.out.bel.trans hb4).size
                  have HG := Lib.hid (And.intro hr4.blk.lt (fun k hk => (hr4.row.lt k hk).2))
                  have HS5 := Lib.hid (And.intro (hs4.alloc (.cells #[.int .i64 x, .int .i64 y] 30)) (And.intro (hr4.alloc (.cells #[.int .i64 x, .int .i64 y] 30)) (And.intro hp4 ((HS0.out.bel.trans hb4).alloc hz4 (.cells #[.int .i64 x, .int .i64 y] 30)))))
                  clear hs4 hr4 hp4 hb4 hk4 hl4
                  go_wp2_with fail
                  refine (cr HS5.out.2.1).mono ?_
                  rintro r w6 ⟨rfl, v6, hr6, hb6, hk6, hl6⟩
                  have hs6 := StM.keepK HS5.out.1 HS5.out.2.1 HS5.out.2.2.1 hk6
                  have hp6 := ap_r HS5.out.1 HS5.out.2.2.1 hl6
                  have hz6 := (HS5.out.2.2.2.trans hb6).size
                  have HS7 := Lib.hid (And.intro (hs6.alloc (.cells #[.int .i64 x, .int .i64 y] 30)) (And.intro (hr6.alloc (.cells #[.int .i64 x, .int .i64 y] 30)) (And.intro hp6 ((HS5.out.2.2.2.trans hb6).alloc hz6 (.cells #[.int .i64 x, .int .i64 y] 30)))))
                  have hbx := Keeps.new hk6 HG.out.1 HG.out.2
                  have z0 : ∀ o, (w6.alloc o).cell? ⟨w4.heap.size, 0, none⟩ = some (.int .i64 x) := fun o => (hbx.alloc o).cell 0
                  have z1 : ∀ o, (w6.alloc o).cell? ⟨w4.heap.size, 1, none⟩ = some (.int .i64 y) := fun o => (hbx.alloc o).cell 1
                  clear hbx
                  clear hs6 hr6 hp6 hb6 hk6 hl6
                  go_wp2_with fail
                  refine (Same_g _ (HS7.out.1) (HS7.out.2.1) (Nat.le_trans HS0.out.akl hok.2) (fun h => Nat.lt_of_lt_of_le (HS0.out.said h) hok.2) (by have := (hok.1).len; omega)).mono ?_
                  rintro r w9 ⟨rfl, hb9⟩
                  have HF := Lib.hid (P2.below (⟨HS7.out.1, HS7.out.2.1, HS7.out.2.2.1, hok.1, Nat.le_trans HS0.out.akl hok.2, fun h => Nat.lt_of_lt_of_le (HS0.out.said h) hok.2, HS7.out.2.2.2⟩ : P2 w _ w.heap.size w1.heap.size v4 v6 l2 ak sd dl du) hb9)
                  go_wp2
                  refine ⟨?_, by simp; omega⟩
                  exact Lib.hid ⟨k + 1, _, _, _, _, _, _, _, _, rfl, by simp, by omega, by omega, by simp; omega, HF.out⟩
        · obtain ⟨x, y, b, sd2, dl2, du2, hsd, cs, cr⟩ := say_both l ak sd dl du (now + q2 % 5) fi q3 HS0.out.akl (by omega) (by omega) HS0.out.said
          rcases hq with hq | hq
          all_goals
            have HQ := Lib.hid hq
            clear hq
            as_aux_lemma =>
              go_wp2_with (go_at_call 6; refine (Within_any _ _ _ (by omega) (by omega) (by omega) (by omega)).mono ?_; rintro e w' ⟨rfl, rfl⟩; try rw [HQ.out])
              refine (cs HS0.out.st).mono ?_
              rintro r w4 ⟨rfl, hs4, hb4, hk4⟩
              have hr4 := RsM.keepK HS0.out.st HS0.out.rs HS0.out.ap hk4
              have hz4 := (HS0.out.bel.trans hb4).size
              have HG := Lib.hid (And.intro hr4.blk.lt (fun k hk => (hr4.row.lt k hk).2))
              have HS5 := Lib.hid (And.intro (hs4.alloc (.cells #[.int .i64 x, .int .i64 y] 30)) (And.intro (hr4.alloc (.cells #[.int .i64 x, .int .i64 y] 30)) ((HS0.out.bel.trans hb4).alloc hz4 (.cells #[.int .i64 x, .int .i64 y] 30))))
              clear hs4 hr4 hb4 hk4
              go_wp2_with fail
              refine (cr HS5.out.2.1).mono ?_
              rintro r w6 ⟨rfl, hr6, hb6, hk6⟩
              have hs6 := StM.keepK HS5.out.1 HS5.out.2.1 HS0.out.ap hk6
              have hz6 := (HS5.out.2.2.trans hb6).size
              have HS7 := Lib.hid (And.intro (hs6.alloc (.cells #[.int .i64 x, .int .i64 y] 30)) (And.intro (hr6.alloc (.cells #[.int .i64 x, .int .i64 y] 30)) ((HS5.out.2.2.trans hb6).alloc hz6 (.cells #[.int .i64 x, .int .i64 y] 30))))
              have hbx := Keeps.new hk6 HG.out.1 HG.out.2
              have z0 : ∀ o, (w6.alloc o).cell? ⟨w4.heap.size, 0, none⟩ = some (.int .i64 x) := fun o => (hbx.alloc o).cell 0
              have z1 : ∀ o, (w6.alloc o).cell? ⟨w4.heap.size, 1, none⟩ = some (.int .i64 y) := fun o => (hbx.alloc o).cell 1
              clear hbx
              clear hs6 hr6 hb6 hk6
              go_wp2_with fail
              refine (Same_g _ (HS7.out.1) (HS7.out.2.1) (HS0.out.akl) (hsd) (by have := (HS0.out.ok).len; omega)).mono ?_
              rintro r w9 ⟨rfl, hb9⟩
              have HF := Lib.hid (P2.below (⟨HS7.out.1, HS7.out.2.1, HS0.out.ap, HS0.out.ok, HS0.out.akl, hsd, HS7.out.2.2⟩ : P2 w _ w.heap.size w1.heap.size v v' l ak sd2 dl2 du2) hb9)
              go_wp2
              refine ⟨?_, by simp; omega⟩
              exact Lib.hid ⟨k + 1, _, _, _, _, _, _, _, _, rfl, by simp, by omega, by omega, by simp; omega, HF.out⟩
        · obtain ⟨x, y, b, sd2, dl2, du2, hsd, cs, cr⟩ := again_both l ak sd dl du (now + q2 % 5) mo q3 HS0.out.akl (by omega) (by omega) HS0.out.said
          rcases hq with hq | hq
          all_goals
            have HQ := Lib.hid hq
            clear hq
            as_aux_lemma =>
              go_wp2_with (go_at_call 6; refine (Within_any _ _ _ (by omega) (by omega) (by omega) (by omega)).mono ?_; rintro e w' ⟨rfl, rfl⟩; try rw [HQ.out])
              refine (cs HS0.out.st).mono ?_
              rintro r w4 ⟨rfl, hs4, hb4, hk4⟩
              have hr4 := RsM.keepK HS0.out.st HS0.out.rs HS0.out.ap hk4
              have hz4 := (HS0.out.bel.trans hb4).size
              have HG := Lib.hid (And.intro hr4.blk.lt (fun k hk => (hr4.row.lt k hk).2))
              have HS5 := Lib.hid (And.intro (hs4.alloc (.cells #[.int .i64 x, .int .i64 y] 30)) (And.intro (hr4.alloc (.cells #[.int .i64 x, .int .i64 y] 30)) ((HS0.out.bel.trans hb4).alloc hz4 (.cells #[.int .i64 x, .int .i64 y] 30))))
              clear hs4 hr4 hb4 hk4
              go_wp2_with fail
              refine (cr HS5.out.2.1).mono ?_
              rintro r w6 ⟨rfl, hr6, hb6, hk6⟩
              have hs6 := StM.keepK HS5.out.1 HS5.out.2.1 HS0.out.ap hk6
              have hz6 := (HS5.out.2.2.trans hb6).size
              have HS7 := Lib.hid (And.intro (hs6.alloc (.cells #[.int .i64 x, .int .i64 y] 30)) (And.intro (hr6.alloc (.cells #[.int .i64 x, .int .i64 y] 30)) ((HS5.out.2.2.trans hb6).alloc hz6 (.cells #[.int .i64 x, .int .i64 y] 30))))
              have hbx := Keeps.new hk6 HG.out.1 HG.out.2
              have z0 : ∀ o, (w6.alloc o).cell? ⟨w4.heap.size, 0, none⟩ = some (.int .i64 x) := fun o => (hbx.alloc o).cell 0
              have z1 : ∀ o, (w6.alloc o).cell? ⟨w4.heap.size, 1, none⟩ = some (.int .i64 y) := fun o => (hbx.alloc o).cell 1
              clear hbx
              clear hs6 hr6 hb6 hk6
              go_wp2_with fail
              refine (Same_g _ (HS7.out.1) (HS7.out.2.1) (HS0.out.akl) (hsd) (by have := (HS0.out.ok).len; omega)).mono ?_
              rintro r w9 ⟨rfl, hb9⟩
              have HF := Lib.hid (P2.below (⟨HS7.out.1, HS7.out.2.1, HS0.out.ap, HS0.out.ok, HS0.out.akl, hsd, HS7.out.2.2⟩ : P2 w _ w.heap.size w1.heap.size v v' l ak sd2 dl2 du2) hb9)
              go_wp2
              refine ⟨?_, by simp; omega⟩
              exact Lib.hid ⟨k + 1, _, _, _, _, _, _, _, _, rfl, by simp, by omega, by omega, by simp; omega, HF.out⟩
        · obtain ⟨e, b, ak2, sd2, hsd, hak2, hbe, cs, cr⟩ := ack_both l ak sd dl du (q1 % 4) HS0.out.akl (by omega) HS0.out.said
          have HQ := Lib.hid hq
          clear hq
          rcases hbe with ⟨hb, he⟩ | ⟨hb, he⟩
          all_goals
            subst hb he
            as_aux_lemma =>
              go_wp2_with (go_at_call 6; refine (Within_any _ _ _ (by omega) (by omega) (by omega) (by omega)).mono ?_; rintro e w' ⟨rfl, rfl⟩; try rw [HQ.out])
              refine (cs HS0.out.st).mono ?_
              rintro r w4 ⟨rfl, hs4, hb4, hk4⟩
              have hr4 := RsM.keepK HS0.out.st HS0.out.rs HS0.out.ap hk4
              have HS5 := Lib.hid (And.intro hs4 (And.intro hr4 (HS0.out.bel.trans hb4)))
              clear hs4 hr4 hb4 hk4
              go_wp2_with fail
              refine (cr HS5.out.2.1).mono ?_
              rintro r w6 ⟨rfl, hr6, hb6, hk6⟩
              have hs6 := StM.keepK HS5.out.1 HS5.out.2.1 HS0.out.ap hk6
              have HS7 := Lib.hid (And.intro hs6 (And.intro hr6 (HS5.out.2.2.trans hb6)))
              clear hs6 hr6 hb6 hk6
              go_wp2_with fail
              refine (Same_g _ (HS7.out.1) (HS7.out.2.1) (hak2) (hsd) (by have := (HS0.out.ok).len; omega)).mono ?_
              rintro r w9 ⟨rfl, hb9⟩
              have HF := Lib.hid (P2.below (⟨HS7.out.1, HS7.out.2.1, HS0.out.ap, HS0.out.ok, hak2, hsd, HS7.out.2.2⟩ : P2 w _ w.heap.size w1.heap.size v v' l ak2 sd2 dl du) hb9)
              go_wp2
              refine ⟨?_, by simp; omega⟩
              exact Lib.hid ⟨k + 1, _, _, _, _, _, _, _, _, rfl, by simp, by omega, by omega, by simp; omega, HF.out⟩
        · obtain ⟨x, y, e, b, l2, hl2, -, cs, -⟩ := add_both l ak sd dl du 6 (by omega) (by omega)
          have hok := ok_add HS0.out.ok hl2
          have hll2 := hok.1.len
          obtain ⟨x3, y3, b3, sd3, dl3, du3, hsd3, cs3, -⟩ := say_both l2 ak sd dl du (now + q2 % 5) fi q3 (Nat.le_trans HS0.out.akl hok.2) (by omega) (by omega) (fun h => Nat.lt_of_lt_of_le (HS0.out.said h) hok.2)
          obtain ⟨e4, b4, ak4, sd4, hsd4, hak4, -, cs4, -⟩ := ack_both l2 ak sd3 dl3 du3 1 (Nat.le_trans HS0.out.akl hok.2) (by omega) hsd3
          have HQ := Lib.hid hq
          clear hq hl2
          as_aux_lemma =>
            go_wp2_with (go_at_call 6; refine (Within_any _ _ _ (by omega) (by omega) (by omega) (by omega)).mono ?_; rintro e w' ⟨rfl, rfl⟩; try rw [HQ.out])
            refine (Clone_g _ HS0.out.st (by omega)).mono ?_
            rintro r w4 ⟨g2, v2, rfl, hc4, hb4⟩
            go_wp2_with fail
            refine (cs hc4).mono ?_
            rintro r w5 ⟨rfl, v5, hc5, hb5, -, -⟩
            go_wp2_with fail
            refine (cs3 hc5).mono ?_
            rintro r w6 ⟨rfl, hc6, hb6, -⟩
            go_wp2_with fail
            refine (cs4 hc6).mono ?_
            rintro r w7 ⟨rfl, hc7, hb7, -⟩
            have HS7 := Lib.hid (HS0.out.below (((hb4.trans hb5).trans hb6).trans hb7))
            clear hc4 hc5 hc6 hc7 hb4 hb5 hb6 hb7
            go_wp2_with fail
            refine (Same_g _ (HS7.out.st) (HS7.out.rs) (HS7.out.akl) (HS7.out.said) (by have := (HS7.out.ok).len; omega)).mono ?_
            rintro r w9 ⟨rfl, hb9⟩
            have HF := Lib.hid (P2.below (⟨HS7.out.st, HS7.out.rs, HS7.out.ap, HS7.out.ok, HS7.out.akl, HS7.out.said, HS7.out.bel⟩ : P2 w _ w.heap.size w1.heap.size v v' l ak sd dl du) hb9)
            go_wp2
            refine ⟨?_, by simp; omega⟩
            exact Lib.hid ⟨k + 1, _, _, _, _, _, _, _, _, rfl, by simp, by omega, by omega, by simp; omega, HF.out⟩
      · go_wp2_with (go_at_call 15; refine (wkk _).mono ?_; rintro e w9 ⟨rfl, hb9⟩)
        go_ret
        exact ⟨rfl, HI.out.bel.trans (hb9.mono HI.out.bel.size)⟩
    · go_wp2_with (go_at_call 15; refine (wkk _).mono ?_; rintro e w9 ⟨rfl, hb9⟩)
      go_ret
      exact ⟨rfl, HI.out.bel.trans (hb9.mono HI.out.bel.size)⟩

end Go.Proofs.Ytgeahhklhelifaa.streamPlays
