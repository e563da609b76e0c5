/- The walk of PathApart: the Go text returns true, and writes nothing that was there. -/
import Derived.Test.YtnindodkcfkgoaaDoorPAK
import Derived.Deep.RegionHeld3
namespace Go.Proofs.YtnindodkcfkgoaaDoor.pathApart
open Go.ChangeShapes Go.WideShapes Go.ChangeAt Go.RowKit
set_option linter.unusedVariables false
set_option maxRecDepth 100000 in
set_option maxHeartbeats 16000000 in
theorem walk2 (a0 : Int) (a1 : Int) (a2 : Int) (a3 : Int) (a4 : Int) (a5 : Int) (w : World) (b0 : -9223372036854775808 ≤ a0 ∧ a0 ≤ 9223372036854775807) (b1 : -9223372036854775808 ≤ a1 ∧ a1 ≤ 9223372036854775807) (b2 : -9223372036854775808 ≤ a2 ∧ a2 ≤ 9223372036854775807) (b3 : -9223372036854775808 ≤ a3 ∧ a3 ≤ 9223372036854775807) (b4 : -9223372036854775808 ≤ a4 ∧ a4 ≤ 9223372036854775807) (b5 : -9223372036854775808 ≤ a5 ∧ a5 ≤ 9223372036854775807) (hsel : ((nmA (a0 % 8).toNat).toList == (nmA (a2 % 8).toNat).toList) = true ∧ ((nmA (a1 % 8).toNat).toList == (nmA (a3 % 8).toNat).toList) = true) :
    Calls Tryd.prog 4 #[.int .i64 a0, .int .i64 a1, .int .i64 a2, .int .i64 a3, .int .i64 a4, .int .i64 a5] w fun e w' => e = .returned (.bool true) ∧ Below w.heap.size w w' := by
  have hw : ∀ (a n : Int), -9223372036854775808 ≤ a ∧ a ≤ 9223372036854775807 → 1 ≤ n → n ≤ 100 → ∃ p : Nat, ((p : Int) < n ∧ a % n = (p : Int)) ∧ ∀ w, Calls Tryd.prog 5 #[.int .i64 a, .int .i64 n] w fun e w' => e = .returned (.int .i64 (p : Int)) ∧ w = w' := by
    intro a n ha h1 h2
    obtain ⟨p, hp⟩ := Int.eq_ofNat_of_zero_le (Int.emod_nonneg a (show n ≠ 0 by omega))
    have hl := Int.emod_lt_of_pos a (show 0 < n by omega)
    refine ⟨p, ⟨by omega, hp⟩, fun w => ?_⟩
    have := Within_any a n w ha.1 ha.2 h1 (by omega)
    rwa [hp] at this
  obtain ⟨p, ⟨hp, hp'⟩, W0⟩ := hw a0 8 b0 (by omega) (by omega)
  obtain ⟨q, ⟨hq, hq'⟩, W1⟩ := hw a1 8 b1 (by omega) (by omega)
  obtain ⟨r, ⟨hr, hr'⟩, W2⟩ := hw a2 8 b2 (by omega) (by omega)
  obtain ⟨t, ⟨ht, ht'⟩, W3⟩ := hw a3 8 b3 (by omega) (by omega)
  rw [hp', hr', hq', ht', Int.toNat_natCast, Int.toNat_natCast, Int.toNat_natCast, Int.toNat_natCast] at hsel
  obtain ⟨n, ⟨hn, _⟩, W4⟩ := hw a4 24 b4 (by omega) (by omega)
  obtain ⟨m, ⟨hm, _⟩, W5⟩ := hw a5 24 b5 (by omega) (by omega)
  clear hw b4 b5
  have cA := nm_cell w 9 p (by omega)
  have cB := nm_cell w 9 q (by omega)
  have cC := nm_cell w 9 r (by omega)
  have cD := nm_cell w 9 t (by omega)
  have sA := nmA_size p (by omega)
  have sB := nmA_size q (by omega)
  have sC := nmA_size r (by omega)
  have sD := nmA_size t (by omega)
  simp only [nml, List.map_cons, List.map_nil] at cA cB cC cD
  have k1 : (p : Int) < 8 := by omega
  have k2 : (q : Int) < 8 := by omega
  have k3 : (r : Int) < 8 := by omega
  have k4 : (t : Int) < 8 := by omega
  go_enter Tryd.func4, Tryd.ntmps4
  go_wp2_with fail
  go_quiet (first | (go_at_call 5; exact (Within_any _ _ _ (by omega) (by omega) (by omega) (by omega)).mono fun e w' h => ⟨h.1, _, h.2.symm⟩))
  go_wp2_with fail
  refine (W4 _).mono ?_
  rintro e w' ⟨rfl, rfl⟩
  go_wp2_with fail
  refine (W5 _).mono ?_
  rintro e w' ⟨rfl, rfl⟩
  have hbel : Below w.heap.size w ((w.alloc (.cells (nml.map Value.string).toArray 9)).drewN nq) ∧ w.heap.size ≤ ((w.alloc (.cells (nml.map Value.string).toArray 9)).drewN nq).heap.size := ⟨below_drewN (Below.alloc (Below.refl _ _) (Nat.le_refl _) _) _, by show _ ≤ (w.alloc _).heap.size; simp⟩
  simp only [nml, List.map_cons, List.map_nil] at hbel
  clear cA cB cC cD W0 W1 W2 W3 W4 W5 hp' hq' hr' ht' k1 k2 k3 k4 b0 b1 b2 b3
  generalize (w.alloc _).drewN nq = wd at hbel ⊢
  go_wp2_with fail
  refine (Epoch_any _).mono ?_
  rintro e w' ⟨rfl, rfl⟩
  go_wp2_with fail
  refine (Admit_any _ _).mono ?_
  rintro e w1 ⟨rfl, hb⟩
  replace hbel := below_same hbel.1 hbel.2 hb
  clear hb
  go_wp2_with fail
  refine (Log_any _ _ _ sA sB).mono ?_
  rintro e w2 ⟨rfl, hb⟩
  replace hbel := below_same hbel.1 hbel.2 hb
  clear hb
  go_wp2_with fail
  refine (Gone_any _ _ _ _ sA sB).mono ?_
  rintro e w3 ⟨rfl, hb⟩
  replace hbel := below_same hbel.1 hbel.2 hb
  clear hb
  go_wp2_with fail
  refine (Box_any _ _ _ _ sA sB).mono ?_
  rintro e w4 ⟨rfl, hb⟩
  replace hbel := below_same hbel.1 hbel.2 hb
  clear hb
  go_wp2_with fail
  have hok := str_ok (p := p) (q := q) (n := n) (by omega) (by omega) (by omega)
  have hcell := cells_new w4 9 (strs p q n)
  have hgood := good hok hcell
  have c1 := hcell 1 _ rfl
  have c2 := hcell 2 _ rfl
  have c3 := hcell 3 _ rfl
  have c4 := hcell 4 _ rfl
  have hbel5 : Below w.heap.size w (w4.alloc (.cells ((strs p q n).map Value.string).toArray 9)) ∧ w.heap.size ≤ (w4.alloc (.cells ((strs p q n).map Value.string).toArray 9)).heap.size := ⟨Below.alloc hbel.1 hbel.2 _, by have := hbel.2; simp; omega⟩
  have hlt5 : w4.heap.size < (w4.alloc (.cells ((strs p q n).map Value.string).toArray 9)).heap.size := by simp
  clear hok hcell hbel
  simp only [strs, List.map_cons, List.map_nil] at hgood c1 c2 c3 c4 hbel5 hlt5
  generalize w4.alloc _ = w5 at *
  generalize w4.heap.size = b5 at *
  go_loop [68] (fun i => ∃ k : Nat, k ≤ 5 ∧ i = .int .i64 k) (fun i => 5 - (intOf i).toNat)
  case atStart => exact ⟨0, by omega, rfl⟩
  case round =>
    obtain ⟨k, hk, rfl⟩ := hrel
    by_cases hlt : k < 5
    · obtain ⟨s, hs, he, hT, hz, hin⟩ := hgood k hlt
      have hI := fun w => IsTemp_any s w (by omega)
      rw [hT] at hI
      have k1 : (k : Int) < 5 := by omega
      clear hgood
      go_wp2_with (go_at_call 15; refine (hI _).mono ?_; rintro e w' ⟨rfl, rfl⟩)
      go_loop [21] (fun i => ∃ j : Nat, j ≤ k ∧ i = .int .i64 j) (fun i => k - (intOf i).toNat)
      case atStart => exact ⟨0, by omega, rfl⟩
      case round =>
        obtain ⟨j, hj, rfl⟩ := hrel
        by_cases hjk : j < k
        · obtain ⟨s', hs', hne⟩ := hin j hjk
          have k2 : (j : Int) < (k : Int) := by omega
          have k3 : (j : Int) < 5 := by omega
          clear hin
          go_wp2
          go_round
          case rel => exact ⟨j + 1, by omega, by go_num⟩
          case measure => simp [intOf]; omega
        · go_wp2
          go_round
          case rel => exact ⟨k + 1, by omega, by go_num⟩
          case measure => simp [intOf]; omega
    · clear hgood
      have H2 := log_eq (p := p) (q := q) (r := r) (t := t) (by omega) (by omega) (by omega) (by omega)
      have H3 := run_eq ⟨#[103, 111, 110, 101, 47]⟩ (p := p) (q := q) (r := r) (t := t) (n := n) (m := m) (by omega) (by omega) (by omega) (by omega) (by omega) (by omega)
      have H4 := run_eq ⟨#[98, 111, 120, 47]⟩ (p := p) (q := q) (r := r) (t := t) (n := n) (m := m) (by omega) (by omega) (by omega) (by omega) (by omega) (by omega)
      have H1 := adm_eq (n := n) (m := m) (by omega) (by omega)
      have HL := adm_lt (n := n) (m := m) (by omega) (by omega)
      obtain ⟨hb51, hb52⟩ := hbel5
      have hii : ((1 + (n : Int)) == (1 + (m : Int))) = (n == m) := by rw [Bool.eq_iff_iff]; simp; omega
      have hil : decide ((1 + (n : Int)) < (1 + (m : Int))) = decide (n < m) := by rw [decide_eq_decide]; omega
      have hil2 : decide ((n : Int) < (m : Int)) = decide (n < m) := by rw [decide_eq_decide]; omega
      have hii2 : ((n : Int) == (m : Int)) = (n == m) := by rw [Bool.eq_iff_iff]; simp; omega
      generalize hX2 : logS (nmA p) (nmA q) = X2 at *
      generalize hX3 : runS ⟨#[103, 111, 110, 101, 47]⟩ (nmA p) (nmA q) (1 + (n : Int)) = X3 at *
      generalize hX4 : runS ⟨#[98, 111, 120, 47]⟩ (nmA p) (nmA q) (1 + (n : Int)) = X4 at *
      clear hX2 hX3 hX4
      have L9 := fun w => Log_any (nmA r) (nmA t) w sC sD
      have L11 := fun w => Gone_any (nmA r) (nmA t) (1 + (m : Int)) w sC sD
      have L13 := fun w => Box_any (nmA r) (nmA t) (1 + (m : Int)) w sC sD
      generalize logS (nmA r) (nmA t) = Y2 at *
      generalize runS ⟨#[103, 111, 110, 101, 47]⟩ (nmA r) (nmA t) (1 + (m : Int)) = Y3 at *
      generalize runS ⟨#[98, 111, 120, 47]⟩ (nmA r) (nmA t) (1 + (m : Int)) = Y4 at *
      generalize hac : ((nmA p).toList == (nmA r).toList) = ac at *
      generalize hbd : ((nmA q).toList == (nmA t).toList) = bd at *
      clear sA sB sC sD
      obtain ⟨rfl, rfl⟩ := hsel
      simp only [Bool.and_self, Bool.true_and] at H2 H3 H4
      have hS := And.intro c1 (And.intro c2 (And.intro c3 (And.intro c4 (And.intro hb51 (And.intro hb52 hlt5)))))
      go_wp2_with fail
      go_region_held3 (fun w' => w'.cell? ⟨b5, 1, none⟩ = some (.string (admS (1 + (n : Int)))) ∧ w'.cell? ⟨b5, 2, none⟩ = some (.string X2) ∧ w'.cell? ⟨b5, 3, none⟩ = some (.string X3) ∧ w'.cell? ⟨b5, 4, none⟩ = some (.string X4) ∧ Below w.heap.size w w' ∧ w.heap.size ≤ w'.heap.size ∧ b5 < w'.heap.size) (first | assumption | exact keep5 (by assumption) (by assumption) | exact keep5 (by assumption) (Below.drew (Below.refl _ _))) (first | (go_at_call 9; refine (L9 _).mono ?_; rintro e w' ⟨rfl, hb⟩) | (go_at_call 11; refine (L11 _).mono ?_; rintro e w' ⟨rfl, hb⟩) | (go_at_call 13; refine (L13 _).mono ?_; rintro e w' ⟨rfl, hb⟩) | (go_at_call 7; refine (Admit_any _ _).mono ?_; rintro e w' ⟨rfl, hb⟩) | (go_at_call 17; refine (wakes_17.2.2.2 _).mono ?_; rintro e w' ⟨rfl, hb⟩))
      rename_i hHeld
      go_wp2
      go_ret
      exact ⟨rfl, hHeld.2.2.2.2.1⟩

end Go.Proofs.YtnindodkcfkgoaaDoor.pathApart
