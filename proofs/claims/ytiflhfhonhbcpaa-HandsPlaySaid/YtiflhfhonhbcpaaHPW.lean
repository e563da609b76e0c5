/- The walk of HandsPlay: the Go text returns true, and writes nothing that was there. -/
import Derived.Test.YtiflhfhonhbcpaaHwZ
import Derived.Test.YtiflhfhonhbcpaaAllSum
import Derived.Deep.CutRange
import Derived.Deep.RegionHeld3
import Derived.Deep.DeepCutAuto
import Derived.Deep.CutBlock
import Derived.Lib.Builder
import Derived.Deep.RegionLaw
import Derived.IntWalk
import Derived.Test.YtiflhfhonhbcpaaSameInt
namespace Go.Proofs.Ytiflhfhonhbcpaa.handsPlay
open Go.ChangeShapes Go.WideShapes Go.ChangeAt Go.RowKit
set_option linter.unusedVariables false
set_option maxRecDepth 100000
open Go Go.Proofs.Ytiflhfhonhbcpaa Go.Proofs.Ytiflhfhonhbcpaa.Hw Go.Proofs.Ytiflhfhonhbcpaa.Vl Go.Proofs.Ytiflhfhonhbcpaa.Crw
theorem wkk (w : World) : Calls Try.prog 14 #[] w fun e w' => e = .returned (.bool true) ∧ Below w.heap.size w w' := wakes_14.2.2.2 w
theorem rng (x n : Int) (h1 : 1 ≤ n) (h2 : n ≤ 1000) : 0 ≤ x % n ∧ x % n < n := ⟨Int.emod_nonneg x (by omega), Int.emod_lt_of_pos x (by omega)⟩
set_option maxHeartbeats 80000000 in
theorem walk (A0 : Option Addr) (n0 c0 : Nat) (x0 : List Int) (A1 : Option Addr) (n1 c1 : Nat) (x1 : List Int) (A2 : Option Addr) (n2 c2 : Nat) (x2 : List Int) (w : World) (b0 : IntRow .i64 w A0 n0 c0 x0) (b1 : IntRow .i64 w A1 n1 c1 x1) (b2 : IntRow .i64 w A2 n2 c2 x2) :
    Calls Try.prog 5 #[.slice A0 n0 c0, .slice A1 n1 c1, .slice A2 n2 c2] w fun e w' => e = .returned (.bool true) ∧ Below w.heap.size w w' := by
  obtain ⟨hn0, hc0, hx0, hr0, hw0⟩ := b0
  obtain ⟨hn1, hc1, hx1, hr1, hw1⟩ := b1
  obtain ⟨hn2, hc2, hx2, hr2, hw2⟩ := b2
  have HR0 := Lib.hid hr0
  have HW0 := Lib.hid hw0
  have HR1 := Lib.hid hr1
  have HW1 := Lib.hid hw1
  have HR2 := Lib.hid hr2
  have HW2 := Lib.hid hw2
  clear hr0 hw0 hx0 hr1 hw1 hx1 hr2 hw2 hx2
  go_enter Try.func5, Try.ntmps5
  go_wp2_with fail
  refine (P_new _).mono ?_
  rintro e w1 ⟨hp, V, rfl, hM, hb1⟩
  have HM := Lib.hid hM
  have HB1 := Lib.hid hb1
  clear hM hb1
  go_wp2_with fail
  obtain ⟨hr, er⟩ : ∃ r, r = w1.heap.size := ⟨_, rfl⟩
  obtain ⟨w2, ew2⟩ : ∃ x, x = w1.alloc (.cells #[.slice none 0 0, .slice none 0 0] 54) := ⟨_, rfl⟩
  have HJ0 : Hid (JhP w w2 hp hr V (fun g => g = hr) [] [] 0) := Lib.hid (by
    have hb2 : Below w1.heap.size w1 w2 := by rw [ew2]; exact (Below.refl _ _).alloc (Nat.le_refl _) _
    refine ⟨HM.out.below hb2, by rw [ew2, er]; exact R_new w1 w.heap.size HB1.out.size, fun g hg e => ?_, ⟨by simp, fun p hp => by simp at hp, by simp⟩, HB1.out.trans (hb2.mono HB1.out.size)⟩
    have := HM.out.lt g hg
    rw [e, er] at this
    omega)
  simp only [← er, ← ew2]
  clear er ew2 HM HB1
  go_loopw [9] (fun vi wr => Hid (∃ (i : Nat) (V U : Nat → Prop) (A : List Aq) (K : List Ky), vi = .int .i64 i ∧ i ≤ 30 ∧ JhP w wr hp hr V U A K i ∧ ∃ w7, w7 = wr)) (fun vi _ => 30 - (intOf vi).toNat)
  case atStart => exact Lib.hid ⟨0, V, _, [], [], rfl, by omega, HJ0.out, _, rfl⟩
  case round =>
    obtain ⟨i, V1, U1, Aa, Kk, rfl, hi, hJ, wr, hwr⟩ := hrel.out
    subst hwr
    clear hrel HJ0
    have HJ := Lib.hid hJ
    clear hJ
    by_cases h0 : (i : Int) < n0
    rotate_left
    · go_wp2_with (go_at_call 14; refine (wkk _).mono ?_; rintro e wz ⟨rfl, hbz⟩)
      go_ret
      exact ⟨rfl, HJ.out.bel.trans (hbz.mono HJ.out.bel.size)⟩
    by_cases h1 : (i : Int) < n1
    rotate_left
    · go_wp2_with (go_at_call 14; refine (wkk _).mono ?_; rintro e wz ⟨rfl, hbz⟩)
      go_ret
      exact ⟨rfl, HJ.out.bel.trans (hbz.mono HJ.out.bel.size)⟩
    by_cases h2 : (i : Int) < n2
    rotate_left
    · go_wp2_with (go_at_call 14; refine (wkk _).mono ?_; rintro e wz ⟨rfl, hbz⟩)
      go_ret
      exact ⟨rfl, HJ.out.bel.trans (hbz.mono HJ.out.bel.size)⟩
    by_cases h4 : (i : Int) < 30
    rotate_left
    · go_wp2_with (go_at_call 14; refine (wkk _).mono ?_; rintro e wz ⟨rfl, hbz⟩)
      go_ret
      exact ⟨rfl, HJ.out.bel.trans (hbz.mono HJ.out.bel.size)⟩
    have hi0 : (0 : Int) ≤ (i : Int) := by omega
    have hR0 : Reads wr w.heap.size 1 A0 n0 (x0.map (Value.int .i64)) := HR0.out.below HJ.out.bel
    have hR1 : Reads wr w.heap.size 1 A1 n1 (x1.map (Value.int .i64)) := HR1.out.below HJ.out.bel
    have hR2 : Reads wr w.heap.size 1 A2 n2 (x2.map (Value.int .i64)) := HR2.out.below HJ.out.bel
    obtain ⟨ad0, kd, rfl, hk0, hck⟩ := ints_atI hR0 (by omega : i < n0)
    obtain ⟨ad1, a, rfl, hx, hcx⟩ := ints_atI hR1 (by omega : i < n1)
    obtain ⟨ad2, z, rfl, hz, hcz⟩ := ints_atI hR2 (by omega : i < n2)
    have hbk := bounds_i64 (HW0.out kd (List.mem_of_getElem? hk0))
    have hba := bounds_i64 (HW1.out a (List.mem_of_getElem? hx))
    have hbz := bounds_i64 (HW2.out z (List.mem_of_getElem? hz))
    have HCK := Lib.hid hck
    have HCZ := Lib.hid hcz
    clear hR0 hR1 hR2 hk0 hx hz hck hcz
    obtain ⟨d2, hd2⟩ : ∃ q, q = IntKind.i64.wrap (a.tdiv 2) := ⟨_, rfl⟩
    obtain ⟨d4, hd4⟩ : ∃ q, q = IntKind.i64.wrap (a.tdiv 4) := ⟨_, rfl⟩
    have hd2b : -9223372036854775808 ≤ d2 ∧ d2 ≤ 9223372036854775807 := by rw [hd2, IntKind.wrap_i64]; omega
    have hd4b : -9223372036854775808 ≤ d4 ∧ d4 ≤ 9223372036854775807 := by rw [hd4, IntKind.wrap_i64]; omega
    obtain ⟨k0, hk0, hk02⟩ : ∃ k : Nat, a % 2 = (k : Int) ∧ (k : Int) < 2 := by
      have := rng a 2 (by omega) (by omega)
      exact ⟨(a % 2).toNat, by omega, by omega⟩
    obtain ⟨k1, hk1, hk12⟩ : ∃ k : Nat, d2 % 2 = (k : Int) ∧ (k : Int) < 2 := by
      have := rng d2 2 (by omega) (by omega)
      exact ⟨(d2 % 2).toNat, by omega, by omega⟩
    obtain ⟨k2, hk2, hk22⟩ : ∃ k : Nat, d4 % 2 = (k : Int) ∧ (k : Int) < 2 := by
      have := rng d4 2 (by omega) (by omega)
      exact ⟨(d4 % 2).toNat, by omega, by omega⟩
    obtain ⟨F, hF⟩ : ∃ F, (#[Value.string ⟨#[102]⟩, Value.string ⟨#[103]⟩] : Array Value)[k0]? = some (.string F) := by
      rcases (by omega : k0 = 0 ∨ k0 = 1) with rfl | rfl
      · exact ⟨_, rfl⟩
      · exact ⟨_, rfl⟩
    obtain ⟨Ex, hE⟩ : ∃ F, (#[Value.string ⟨#[120]⟩, Value.string ⟨#[121]⟩] : Array Value)[k1]? = some (.string F) := by
      rcases (by omega : k1 = 0 ∨ k1 = 1) with rfl | rfl
      · exact ⟨_, rfl⟩
      · exact ⟨_, rfl⟩
    have hW0 : ∀ w, Calls Try.prog 10 #[.int .i64 a, .int .i64 2] w fun e w' => e = .returned (.int .i64 (k0 : Int)) ∧ w' = w := fun w => by
      rw [← hk0]
      exact (Within_any a 2 w hba.1 hba.2 (by omega) (by omega)).mono fun e w' h => ⟨h.1, h.2.symm⟩
    have hW1 : ∀ w, Calls Try.prog 10 #[.int .i64 (IntKind.i64.wrap (a.tdiv 2)), .int .i64 2] w fun e w' => e = .returned (.int .i64 (k1 : Int)) ∧ w' = w := fun w => by
      rw [← hd2, ← hk1]
      exact (Within_any d2 2 w hd2b.1 hd2b.2 (by omega) (by omega)).mono fun e w' h => ⟨h.1, h.2.symm⟩
    have hW2 : ∀ w, Calls Try.prog 10 #[.int .i64 (IntKind.i64.wrap (a.tdiv 4)), .int .i64 2] w fun e w' => e = .returned (.int .i64 (k2 : Int)) ∧ w' = w := fun w => by
      rw [← hd4, ← hk2]
      exact (Within_any d4 2 w hd4b.1 hd4b.2 (by omega) (by omega)).mono fun e w' h => ⟨h.1, h.2.symm⟩
    have hq0 : (0 : Int) ≤ (k0 : Int) := by omega
    have hq1 : (0 : Int) ≤ (k1 : Int) := by omega
    obtain ⟨nn, hnn⟩ : ∃ s, IntKind.i64.wrap (1 + (k2 : Int)) = s := ⟨_, rfl⟩
    clear hd2 hd4 hd2b hd4b hk0 hk1 hk2
    go_upto_region 7 with fail
    go_cut [10] from 38 to 62 (fun v10 wx => Hid (∃ gk w7, v10 = .pointer (some ⟨gk, 0, none⟩) ∧ wr.heap.size ≤ gk ∧ Blk wx gk 30 (mgA 0 ⟨F, Ex, nn⟩ noB (.slice none 0 0)) ∧ Below wr.heap.size wr wx ∧ w7 = wx))
    case first =>
      obtain ⟨wd, ewd⟩ : ∃ wd, wd = wr.drew := ⟨_, rfl⟩
      have hdr : wr.heap.size ≤ wd.heap.size := by rw [ewd]; exact Nat.le_refl _
      have hdb : Below wr.heap.size wr wd := by rw [ewd]; exact (Below.refl _ _).drew
      have hEn : Enters Try.prog 10 := enters_of Try.func10 (by kernel_rfl) rfl
      have H0 : WhS wd (ad1.add i) a wd := by
        rw [ewd]
        exact ⟨hcx, Below.refl _ _⟩
      clear hcx HJ
      refine wp_region_noPanic ?_
      refine wp_region_held_drew (S := WhS wd (ad1.add i) a) (by kernel_rfl) (by rw [← ewd]; exact H0) (fun _ => ?_)
      rw [← ewd]
      clear ewd
      refine wpAnyH_take (i := 1) (oi := ?oi1) (v := ?v1) ?hi1 (by kernel_rfl) (by kernel_rfl) (by kernel_rfl) (fun _ _ _ h => h) ?hy1 H0 ?rest1
      case hi1 => (simp only [List.getElem?_toArray, List.getElem?_cons_succ, List.getElem?_cons_zero]; try rfl)
      case hy1 => (refine Or.inl ⟨by rfl, ?_⟩; intro w hSw; go_simp; (try with_reducible rfl))
      try simp only [Act.put, List.setIfInBounds_toArray, List.set_cons_zero, List.set_cons_succ]
      refine wpAnyH_take (i := 2) (oi := ?oi2) (v := ?v2) ?hi2 (by kernel_rfl) (by kernel_rfl) (by kernel_rfl) (fun _ _ _ h => h) ?hy2 H0 ?rest2
      case hi2 => (simp only [List.getElem?_toArray, List.getElem?_cons_succ, List.getElem?_cons_zero]; try rfl)
      case hy2 => (refine Or.inl ⟨by rfl, ?_⟩; intro w hSw; go_simp; (try with_reducible rfl))
      try simp only [Act.put, List.setIfInBounds_toArray, List.set_cons_zero, List.set_cons_succ]
      refine wpAnyH_take (i := 3) (oi := ?oi3) (v := ?v3) ?hi3 (by kernel_rfl) (by kernel_rfl) (by kernel_rfl) (fun _ _ _ h => h) ?hy3 H0 ?rest3
      case hi3 => (simp only [List.getElem?_toArray, List.getElem?_cons_succ, List.getElem?_cons_zero]; try rfl)
      case hy3 => (refine Or.inl ⟨by rfl, ?_⟩; intro w hSw; go_simp; (try with_reducible rfl))
      try simp only [Act.put, List.setIfInBounds_toArray, List.set_cons_zero, List.set_cons_succ]
      refine wpAnyH_take (i := 4) (oi := ?oi4) (v := ?v4) ?hi4 (by kernel_rfl) (by kernel_rfl) (by kernel_rfl) (fun _ _ _ h => h) ?hy4 H0 ?rest4
      case hi4 => (simp only [List.getElem?_toArray, List.getElem?_cons_succ, List.getElem?_cons_zero]; try rfl)
      case hy4 => (refine Or.inl ⟨by rfl, ?_⟩; intro w hSw; have q := (hSw).c1; go_simp; (try with_reducible rfl))
      try simp only [Act.put, List.setIfInBounds_toArray, List.set_cons_zero, List.set_cons_succ]
      refine wpAnyH_says (i := 5) (oi := ?oi5) (v := .int .i64 (k0 : Int)) ?hi5 (by kernel_rfl) (by kernel_rfl) (by kernel_rfl) (fun _ _ _ h => h) ?hy5 H0 ?rest5
      case hi5 => (simp only [List.getElem?_toArray, List.getElem?_cons_succ, List.getElem?_cons_zero]; try rfl)
      case hy5 => exact ⟨by rfl, fun w hSw => ⟨_, _, run_enter2 hEn rfl (u := .int .i64 a) (v := .int .i64 2) (by first | rfl | (simp [Act.eval]; done)) rfl, hW0 w⟩⟩
      try simp only [Act.put, List.setIfInBounds_toArray, List.set_cons_zero, List.set_cons_succ]
      refine wpAnyH_take (i := 9) (oi := ?oi6) (v := ?v6) ?hi6 (by kernel_rfl) (by kernel_rfl) (by kernel_rfl) (fun _ _ _ h => h) ?hy6 H0 ?rest6
      case hi6 => (simp only [List.getElem?_toArray, List.getElem?_cons_succ, List.getElem?_cons_zero]; try rfl)
      case hy6 => (refine Or.inl ⟨by rfl, ?_⟩; intro w hSw; go_simp; (try with_reducible rfl))
      try simp only [Act.put, List.setIfInBounds_toArray, List.set_cons_zero, List.set_cons_succ]
      refine wpAnyH_take (i := 10) (oi := ?oi7) (v := ?v7) ?hi7 (by kernel_rfl) (by kernel_rfl) (by kernel_rfl) (fun _ _ _ h => h) ?hy7 H0 ?rest7
      case hi7 => (simp only [List.getElem?_toArray, List.getElem?_cons_succ, List.getElem?_cons_zero]; try rfl)
      case hy7 => (refine Or.inl ⟨by rfl, ?_⟩; intro w hSw; go_simp; (try with_reducible rfl))
      try simp only [Act.put, List.setIfInBounds_toArray, List.set_cons_zero, List.set_cons_succ]
      refine wpAnyH_take (i := 11) (oi := ?oi8) (v := ?v8) ?hi8 (by kernel_rfl) (by kernel_rfl) (by kernel_rfl) (fun _ _ _ h => h) ?hy8 H0 ?rest8
      case hi8 => (simp only [List.getElem?_toArray, List.getElem?_cons_succ, List.getElem?_cons_zero]; try rfl)
      case hy8 => (refine Or.inl ⟨by rfl, ?_⟩; intro w hSw; go_simp; (try with_reducible rfl))
      try simp only [Act.put, List.setIfInBounds_toArray, List.set_cons_zero, List.set_cons_succ]
      refine wpAnyH_take (i := 12) (oi := ?oi9) (v := ?v9) ?hi9 (by kernel_rfl) (by kernel_rfl) (by kernel_rfl) (fun _ _ _ h => h) ?hy9 H0 ?rest9
      case hi9 => (simp only [List.getElem?_toArray, List.getElem?_cons_succ, List.getElem?_cons_zero]; try rfl)
      case hy9 => (refine Or.inl ⟨by rfl, ?_⟩; intro w hSw; have q := (hSw).c1; go_simp; (try with_reducible rfl))
      try simp only [Act.put, List.setIfInBounds_toArray, List.set_cons_zero, List.set_cons_succ]
      refine wpAnyH_take (i := 13) (oi := ?oi10) (v := ?v10) ?hi10 (by kernel_rfl) (by kernel_rfl) (by kernel_rfl) (fun _ _ _ h => h) ?hy10 H0 ?rest10
      case hi10 => (simp only [List.getElem?_toArray, List.getElem?_cons_succ, List.getElem?_cons_zero]; try rfl)
      case hy10 => (refine Or.inl ⟨by rfl, ?_⟩; intro w hSw; go_simp; (try with_reducible rfl))
      try simp only [Act.put, List.setIfInBounds_toArray, List.set_cons_zero, List.set_cons_succ]
      refine wpAnyH_says (i := 14) (oi := ?oi11) (v := .int .i64 (k1 : Int)) ?hi11 (by kernel_rfl) (by kernel_rfl) (by kernel_rfl) (fun _ _ _ h => h) ?hy11 H0 ?rest11
      case hi11 => (simp only [List.getElem?_toArray, List.getElem?_cons_succ, List.getElem?_cons_zero]; try rfl)
      case hy11 => exact ⟨by rfl, fun w hSw => ⟨_, _, run_enter2 hEn rfl (u := .int .i64 (IntKind.i64.wrap (a.tdiv 2))) (v := .int .i64 2) (by first | rfl | (simp [Act.eval]; done)) rfl, hW1 w⟩⟩
      try simp only [Act.put, List.setIfInBounds_toArray, List.set_cons_zero, List.set_cons_succ]
      refine wpAnyH_take (i := 17) (oi := ?oi12) (v := ?v12) ?hi12 (by kernel_rfl) (by kernel_rfl) (by kernel_rfl) (fun _ _ _ h => h) ?hy12 H0 ?rest12
      case hi12 => (simp only [List.getElem?_toArray, List.getElem?_cons_succ, List.getElem?_cons_zero]; try rfl)
      case hy12 => (refine Or.inl ⟨by rfl, ?_⟩; intro w hSw; go_simp; (try with_reducible rfl))
      try simp only [Act.put, List.setIfInBounds_toArray, List.set_cons_zero, List.set_cons_succ]
      refine wpAnyH_take (i := 18) (oi := ?oi13) (v := ?v13) ?hi13 (by kernel_rfl) (by kernel_rfl) (by kernel_rfl) (fun _ _ _ h => h) ?hy13 H0 ?rest13
      case hi13 => (simp only [List.getElem?_toArray, List.getElem?_cons_succ, List.getElem?_cons_zero]; try rfl)
      case hy13 => (refine Or.inl ⟨by rfl, ?_⟩; intro w hSw; go_simp; (try with_reducible rfl))
      try simp only [Act.put, List.setIfInBounds_toArray, List.set_cons_zero, List.set_cons_succ]
      refine wpAnyH_take (i := 19) (oi := ?oi14) (v := ?v14) ?hi14 (by kernel_rfl) (by kernel_rfl) (by kernel_rfl) (fun _ _ _ h => h) ?hy14 H0 ?rest14
      case hi14 => (simp only [List.getElem?_toArray, List.getElem?_cons_succ, List.getElem?_cons_zero]; try rfl)
      case hy14 => (refine Or.inl ⟨by rfl, ?_⟩; intro w hSw; go_simp; (try with_reducible rfl))
      try simp only [Act.put, List.setIfInBounds_toArray, List.set_cons_zero, List.set_cons_succ]
      refine wpAnyH_take (i := 20) (oi := ?oi15) (v := ?v15) ?hi15 (by kernel_rfl) (by kernel_rfl) (by kernel_rfl) (fun _ _ _ h => h) ?hy15 H0 ?rest15
      case hi15 => (simp only [List.getElem?_toArray, List.getElem?_cons_succ, List.getElem?_cons_zero]; try rfl)
      case hy15 => (refine Or.inl ⟨by rfl, ?_⟩; intro w hSw; have q := (hSw).c1; go_simp; (try with_reducible rfl))
      try simp only [Act.put, List.setIfInBounds_toArray, List.set_cons_zero, List.set_cons_succ]
      refine wpAnyH_take (i := 21) (oi := ?oi16) (v := ?v16) ?hi16 (by kernel_rfl) (by kernel_rfl) (by kernel_rfl) (fun _ _ _ h => h) ?hy16 H0 ?rest16
      case hi16 => (simp only [List.getElem?_toArray, List.getElem?_cons_succ, List.getElem?_cons_zero]; try rfl)
      case hy16 => (refine Or.inl ⟨by rfl, ?_⟩; intro w hSw; go_simp; (try with_reducible rfl))
      try simp only [Act.put, List.setIfInBounds_toArray, List.set_cons_zero, List.set_cons_succ]
      refine wpAnyH_says (i := 22) (oi := ?oi17) (v := .int .i64 (k2 : Int)) ?hi17 (by kernel_rfl) (by kernel_rfl) (by kernel_rfl) (fun _ _ _ h => h) ?hy17 H0 ?rest17
      case hi17 => (simp only [List.getElem?_toArray, List.getElem?_cons_succ, List.getElem?_cons_zero]; try rfl)
      case hy17 => exact ⟨by rfl, fun w hSw => ⟨_, _, run_enter2 hEn rfl (u := .int .i64 (IntKind.i64.wrap (a.tdiv 4))) (v := .int .i64 2) (by first | rfl | (simp [Act.eval]; done)) rfl, hW2 w⟩⟩
      try simp only [Act.put, List.setIfInBounds_toArray, List.set_cons_zero, List.set_cons_succ]
      refine wpAnyH_take (i := 23) (oi := ?oi18) (v := ?v18) ?hi18 (by kernel_rfl) (by kernel_rfl) (by kernel_rfl) (fun _ _ _ h => h) ?hy18 H0 ?rest18
      case hi18 => (simp only [List.getElem?_toArray, List.getElem?_cons_succ, List.getElem?_cons_zero]; try rfl)
      case hy18 => (refine Or.inl ⟨by rfl, ?_⟩; intro w hSw; go_simp; (try with_reducible rfl))
      try simp only [Act.put, List.setIfInBounds_toArray, List.set_cons_zero, List.set_cons_succ]
      refine wpAnyH_ready (rs := [0, 8, 25]) (by kernel_rfl) (by simp) ?_
      refine AllReadyH.cons (o := ?o19) ?hi19 (fun K hK => ?st19) ?mo19
      case hi19 => (simp only [List.getElem?_toArray, List.getElem?_cons_zero]; try rfl)
      case st19 =>
        obtain ⟨W19, e19⟩ : ∃ w7, w7 = wd.alloc (.cells #[.string ⟨#[102]⟩, .string ⟨#[103]⟩] 9) := ⟨_, rfl⟩
        obtain ⟨fa, s19⟩ : ∃ g, g = wd.heap.size := ⟨_, rfl⟩
        have hb19 : Below wd.heap.size wd W19 := by rw [e19]; exact (Below.refl _ _).alloc (Nat.le_refl _) _
        have N19 : Blk W19 fa 9 #[.string ⟨#[102]⟩, .string ⟨#[103]⟩] := by rw [e19, s19]; exact Blk.new _ _ _
        have H19 := (show WhS wd (ad1.add i) a W19 from (H0).below hb19)
        go_simp
        rw [← e19, ← s19]
        clear e19 s19 hb19
        refine hK.out _ _ H19 (fun _ => ?rs19)
        clear hK K
        try simp only [Act.put, List.setIfInBounds_toArray, List.set_cons_zero, List.set_cons_succ]
        refine wpAnyH_mono (S' := fun wa => (WhS wd (ad1.add i) a wa) ∧ Blk wa fa 9 #[.string ⟨#[102]⟩, .string ⟨#[103]⟩]) (fun _ h => h.1) _ _ _ _ ?_
        have J19 := (show (WhS wd (ad1.add i) a W19) ∧ Blk W19 fa 9 #[.string ⟨#[102]⟩, .string ⟨#[103]⟩] from ⟨H19, N19⟩)
        refine wpAnyH_take (i := 6) (oi := ?oi20) (v := ?v20) ?hi20 (by kernel_rfl) (by kernel_rfl) (by kernel_rfl) (fun _ _ _ h => h) ?hy20 J19 ?rest20
        case hi20 => (simp only [List.getElem?_toArray, List.getElem?_cons_succ, List.getElem?_cons_zero]; try rfl)
        case hy20 => (refine Or.inl ⟨by rfl, ?_⟩; intro w hSw; go_simp; (try with_reducible rfl))
        try simp only [Act.put, List.setIfInBounds_toArray, List.set_cons_zero, List.set_cons_succ]
        refine wpAnyH_take (i := 7) (oi := ?oi21) (v := ?v21) ?hi21 (by kernel_rfl) (by kernel_rfl) (by kernel_rfl) (fun _ _ _ h => h) ?hy21 J19 ?rest21
        case hi21 => (simp only [List.getElem?_toArray, List.getElem?_cons_succ, List.getElem?_cons_zero]; try rfl)
        case hy21 => (refine Or.inl ⟨by rfl, ?_⟩; intro w hSw; have q := ((hSw.2).cell k0).trans hF; go_simp; (try with_reducible rfl))
        try simp only [Act.put, List.setIfInBounds_toArray, List.set_cons_zero, List.set_cons_succ]
        refine wpAnyH_ready (rs := [8, 25]) (by kernel_rfl) (by simp) ?_
        refine AllReadyH.cons (o := ?o22) ?hi22 (fun K hK => ?st22) ?mo22
        case hi22 => (simp only [List.getElem?_toArray, List.getElem?_cons_succ, List.getElem?_cons_zero]; try rfl)
        case st22 =>
          obtain ⟨W22, e22⟩ : ∃ w7, w7 = W19.alloc (.cells #[.string ⟨#[120]⟩, .string ⟨#[121]⟩] 9) := ⟨_, rfl⟩
          obtain ⟨fb, s22⟩ : ∃ g, g = W19.heap.size := ⟨_, rfl⟩
          have hb22 : Below W19.heap.size W19 W22 := by rw [e22]; exact (Below.refl _ _).alloc (Nat.le_refl _) _
          have N22 : Blk W22 fb 9 #[.string ⟨#[120]⟩, .string ⟨#[121]⟩] := by rw [e22, s22]; exact Blk.new _ _ _
          have H22 := (show (WhS wd (ad1.add i) a W22) ∧ Blk W22 fa 9 #[.string ⟨#[102]⟩, .string ⟨#[103]⟩] from ⟨(J19.1).below hb22, (J19.2).below hb22 (J19.2).lt⟩)
          go_simp
          rw [← e22, ← s22]
          clear e22 s22 hb22
          refine hK.out _ _ H22 (fun _ => ?rs22)
          clear hK K
          try simp only [Act.put, List.setIfInBounds_toArray, List.set_cons_zero, List.set_cons_succ]
          refine wpAnyH_mono (S' := fun wa => ((WhS wd (ad1.add i) a wa) ∧ Blk wa fa 9 #[.string ⟨#[102]⟩, .string ⟨#[103]⟩]) ∧ Blk wa fb 9 #[.string ⟨#[120]⟩, .string ⟨#[121]⟩]) (fun _ h => h.1) _ _ _ _ ?_
          have J22 := (show ((WhS wd (ad1.add i) a W22) ∧ Blk W22 fa 9 #[.string ⟨#[102]⟩, .string ⟨#[103]⟩]) ∧ Blk W22 fb 9 #[.string ⟨#[120]⟩, .string ⟨#[121]⟩] from ⟨H22, N22⟩)
          refine wpAnyH_take (i := 15) (oi := ?oi23) (v := ?v23) ?hi23 (by kernel_rfl) (by kernel_rfl) (by kernel_rfl) (fun _ _ _ h => h) ?hy23 J22 ?rest23
          case hi23 => (simp only [List.getElem?_toArray, List.getElem?_cons_succ, List.getElem?_cons_zero]; try rfl)
          case hy23 => (refine Or.inl ⟨by rfl, ?_⟩; intro w hSw; go_simp; (try with_reducible rfl))
          try simp only [Act.put, List.setIfInBounds_toArray, List.set_cons_zero, List.set_cons_succ]
          refine wpAnyH_take (i := 16) (oi := ?oi24) (v := ?v24) ?hi24 (by kernel_rfl) (by kernel_rfl) (by kernel_rfl) (fun _ _ _ h => h) ?hy24 J22 ?rest24
          case hi24 => (simp only [List.getElem?_toArray, List.getElem?_cons_succ, List.getElem?_cons_zero]; try rfl)
          case hy24 => (refine Or.inl ⟨by rfl, ?_⟩; intro w hSw; have q := ((hSw.2).cell k1).trans hE; go_simp; (try with_reducible rfl))
          try simp only [Act.put, List.setIfInBounds_toArray, List.set_cons_zero, List.set_cons_succ]
          refine wpAnyH_take (i := 24) (oi := ?oi25) (v := ?v25) ?hi25 (by kernel_rfl) (by kernel_rfl) (by kernel_rfl) (fun _ _ _ h => h) ?hy25 J22 ?rest25
          case hi25 => (simp only [List.getElem?_toArray, List.getElem?_cons_succ, List.getElem?_cons_zero]; try rfl)
          case hy25 => (refine yields_build (cells := #[.int .i64 0, .string F, .string Ex, .string ⟨#[]⟩, .int .i64 nn, .int .i64 0, .int .i64 0, .int .i64 0, .slice none 0 0]) 30 ?pa25 ?ho25 ?hg25 ?hf25; (case ho25 => rfl); (case hg25 => rfl); (case hf25 => simp [Act.eval]; exact built_mg _ _ _))
          try simp only [Act.put, List.setIfInBounds_toArray, List.set_cons_zero, List.set_cons_succ]
          refine wpAnyH_ready (rs := [25]) (by kernel_rfl) (by simp) ?_
          refine AllReadyH.cons (o := ?o26) ?hi26 (fun K hK => ?st26) ?mo26
          case hi26 => (simp only [List.getElem?_toArray, List.getElem?_cons_succ, List.getElem?_cons_zero]; try rfl)
          case st26 =>
            obtain ⟨W26, e26⟩ : ∃ w7, w7 = W22.alloc (.cells #[.int .i64 0, .string ⟨#[]⟩, .string ⟨#[]⟩, .string ⟨#[]⟩, .int .i64 0, .int .i64 0, .int .i64 0, .int .i64 0, .slice none 0 0] 30) := ⟨_, rfl⟩
            obtain ⟨gk, s26⟩ : ∃ g, g = W22.heap.size := ⟨_, rfl⟩
            have hb26 : Below W22.heap.size W22 W26 := by rw [e26]; exact (Below.refl _ _).alloc (Nat.le_refl _) _
            have N26 : Blk W26 gk 30 #[.int .i64 0, .string ⟨#[]⟩, .string ⟨#[]⟩, .string ⟨#[]⟩, .int .i64 0, .int .i64 0, .int .i64 0, .int .i64 0, .slice none 0 0] := by rw [e26, s26]; exact Blk.new _ _ _
            have H26 := (show ((WhS wd (ad1.add i) a W26) ∧ Blk W26 fa 9 #[.string ⟨#[102]⟩, .string ⟨#[103]⟩]) ∧ Blk W26 fb 9 #[.string ⟨#[120]⟩, .string ⟨#[121]⟩] from ⟨⟨(J22.1.1).below hb26, (J22.1.2).below hb26 (J22.1.2).lt⟩, (J22.2).below hb26 (J22.2).lt⟩)
            have G26 : wd.heap.size ≤ gk := by rw [s26]; exact (J22.1.1).be.size
            go_simp
            rw [← e26, ← s26]
            clear e26 s26 hb26
            refine hK.out _ _ H26 (fun _ => ?rs26)
            clear hK K
            try simp only [Act.put, List.setIfInBounds_toArray, List.set_cons_zero, List.set_cons_succ]
            refine wpAnyH_ready (rs := [26]) (by kernel_rfl) (by simp) ?_
            refine AllReadyH.cons (o := ?o27) ?hi27 (fun K hK => ?st27) ?mo27
            case hi27 => (simp only [List.getElem?_toArray, List.getElem?_cons_succ, List.getElem?_cons_zero]; try rfl)
            case st27 =>
              have n27_0 : fa ≠ gk := (H26.1.2).ne_ N26 (by decide)
              have n27_1 : fb ≠ gk := (H26.2).ne_ N26 (by decide)
              refine storeG 30 (cs := #[.int .i64 0, .string F, .string Ex, .string ⟨#[]⟩, .int .i64 nn, .int .i64 0, .int .i64 0, .int .i64 0, .slice none 0 0]) (by kernel_rfl) rfl rfl (by simp [Act.eval]; done) (by simp [Act.eval]; done) (by simp [Value.oneCell']) N26 rfl ?_
              intro w27 hbe27 hot27 hb27
              have hw27 := hbe27 wd G26 (H26.1.1).be
              refine hK.out _ _ ⟨⟨⟨(H26.1.1).k1, hw27⟩, (hot27 _ (H26.1.2).lt n27_0).trans (H26.1.2)⟩, (hot27 _ (H26.2).lt n27_1).trans (H26.2)⟩ (fun _ => ?rs27)
              clear hK K
              try simp only [Act.put]
              refine wpAnyH_done (by kernel_rfl) ?_ _
              refine NoPanic.normal ?_
              go_wp2_with fail
              go_meet
              exact Lib.hid ⟨gk, _, rfl, Nat.le_trans hdr G26, hb27, hdb.trans (hw27.mono hdb.size), rfl⟩
            exact AllReadyH.nil
          exact AllReadyH.nil
        refine AllReadyH.cons (o := ?o28) ?hi28 (fun K hK => ?st28) ?mo28
        case hi28 => (simp only [List.getElem?_toArray, List.getElem?_cons_succ, List.getElem?_cons_zero]; try rfl)
        case st28 =>
          obtain ⟨W28, e28⟩ : ∃ w7, w7 = W19.alloc (.cells #[.int .i64 0, .string ⟨#[]⟩, .string ⟨#[]⟩, .string ⟨#[]⟩, .int .i64 0, .int .i64 0, .int .i64 0, .int .i64 0, .slice none 0 0] 30) := ⟨_, rfl⟩
          obtain ⟨gk, s28⟩ : ∃ g, g = W19.heap.size := ⟨_, rfl⟩
          have hb28 : Below W19.heap.size W19 W28 := by rw [e28]; exact (Below.refl _ _).alloc (Nat.le_refl _) _
          have N28 : Blk W28 gk 30 #[.int .i64 0, .string ⟨#[]⟩, .string ⟨#[]⟩, .string ⟨#[]⟩, .int .i64 0, .int .i64 0, .int .i64 0, .int .i64 0, .slice none 0 0] := by rw [e28, s28]; exact Blk.new _ _ _
          have H28 := (show (WhS wd (ad1.add i) a W28) ∧ Blk W28 fa 9 #[.string ⟨#[102]⟩, .string ⟨#[103]⟩] from ⟨(J19.1).below hb28, (J19.2).below hb28 (J19.2).lt⟩)
          have G28 : wd.heap.size ≤ gk := by rw [s28]; exact (J19.1).be.size
          go_simp
          rw [← e28, ← s28]
          clear e28 s28 hb28
          refine hK.out _ _ H28 (fun _ => ?rs28)
          clear hK K
          try simp only [Act.put, List.setIfInBounds_toArray, List.set_cons_zero, List.set_cons_succ]
          refine wpAnyH_ready (rs := [8]) (by kernel_rfl) (by simp) ?_
          refine AllReadyH.cons (o := ?o29) ?hi29 (fun K hK => ?st29) ?mo29
          case hi29 => (simp only [List.getElem?_toArray, List.getElem?_cons_succ, List.getElem?_cons_zero]; try rfl)
          case st29 =>
            obtain ⟨W29, e29⟩ : ∃ w7, w7 = W28.alloc (.cells #[.string ⟨#[120]⟩, .string ⟨#[121]⟩] 9) := ⟨_, rfl⟩
            obtain ⟨fb, s29⟩ : ∃ g, g = W28.heap.size := ⟨_, rfl⟩
            have hb29 : Below W28.heap.size W28 W29 := by rw [e29]; exact (Below.refl _ _).alloc (Nat.le_refl _) _
            have N29 : Blk W29 fb 9 #[.string ⟨#[120]⟩, .string ⟨#[121]⟩] := by rw [e29, s29]; exact Blk.new _ _ _
            have H29 := (show (WhS wd (ad1.add i) a W29) ∧ Blk W29 fa 9 #[.string ⟨#[102]⟩, .string ⟨#[103]⟩] from ⟨(H28.1).below hb29, (H28.2).below hb29 (H28.2).lt⟩)
            have Z29 := N28.below hb29 N28.lt
            go_simp
            rw [← e29, ← s29]
            clear e29 s29 hb29
            refine hK.out _ _ H29 (fun _ => ?rs29)
            clear hK K
            try simp only [Act.put, List.setIfInBounds_toArray, List.set_cons_zero, List.set_cons_succ]
            refine wpAnyH_mono (S' := fun wa => ((WhS wd (ad1.add i) a wa) ∧ Blk wa fa 9 #[.string ⟨#[102]⟩, .string ⟨#[103]⟩]) ∧ Blk wa fb 9 #[.string ⟨#[120]⟩, .string ⟨#[121]⟩]) (fun _ h => h.1) _ _ _ _ ?_
            have J29 := (show ((WhS wd (ad1.add i) a W29) ∧ Blk W29 fa 9 #[.string ⟨#[102]⟩, .string ⟨#[103]⟩]) ∧ Blk W29 fb 9 #[.string ⟨#[120]⟩, .string ⟨#[121]⟩] from ⟨H29, N29⟩)
            refine wpAnyH_take (i := 15) (oi := ?oi30) (v := ?v30) ?hi30 (by kernel_rfl) (by kernel_rfl) (by kernel_rfl) (fun _ _ _ h => h) ?hy30 J29 ?rest30
            case hi30 => (simp only [List.getElem?_toArray, List.getElem?_cons_succ, List.getElem?_cons_zero]; try rfl)
            case hy30 => (refine Or.inl ⟨by rfl, ?_⟩; intro w hSw; go_simp; (try with_reducible rfl))
            try simp only [Act.put, List.setIfInBounds_toArray, List.set_cons_zero, List.set_cons_succ]
            refine wpAnyH_take (i := 16) (oi := ?oi31) (v := ?v31) ?hi31 (by kernel_rfl) (by kernel_rfl) (by kernel_rfl) (fun _ _ _ h => h) ?hy31 J29 ?rest31
            case hi31 => (simp only [List.getElem?_toArray, List.getElem?_cons_succ, List.getElem?_cons_zero]; try rfl)
            case hy31 => (refine Or.inl ⟨by rfl, ?_⟩; intro w hSw; have q := ((hSw.2).cell k1).trans hE; go_simp; (try with_reducible rfl))
            try simp only [Act.put, List.setIfInBounds_toArray, List.set_cons_zero, List.set_cons_succ]
            refine wpAnyH_take (i := 24) (oi := ?oi32) (v := ?v32) ?hi32 (by kernel_rfl) (by kernel_rfl) (by kernel_rfl) (fun _ _ _ h => h) ?hy32 J29 ?rest32
            case hi32 => (simp only [List.getElem?_toArray, List.getElem?_cons_succ, List.getElem?_cons_zero]; try rfl)
            case hy32 => (refine yields_build (cells := #[.int .i64 0, .string F, .string Ex, .string ⟨#[]⟩, .int .i64 nn, .int .i64 0, .int .i64 0, .int .i64 0, .slice none 0 0]) 30 ?pa32 ?ho32 ?hg32 ?hf32; (case ho32 => rfl); (case hg32 => rfl); (case hf32 => simp [Act.eval]; exact built_mg _ _ _))
            try simp only [Act.put, List.setIfInBounds_toArray, List.set_cons_zero, List.set_cons_succ]
            refine wpAnyH_ready (rs := [26]) (by kernel_rfl) (by simp) ?_
            refine AllReadyH.cons (o := ?o33) ?hi33 (fun K hK => ?st33) ?mo33
            case hi33 => (simp only [List.getElem?_toArray, List.getElem?_cons_succ, List.getElem?_cons_zero]; try rfl)
            case st33 =>
              have n33_0 : fa ≠ gk := (J29.1.2).ne_ Z29 (by decide)
              have n33_1 : fb ≠ gk := (J29.2).ne_ Z29 (by decide)
              refine storeG 30 (cs := #[.int .i64 0, .string F, .string Ex, .string ⟨#[]⟩, .int .i64 nn, .int .i64 0, .int .i64 0, .int .i64 0, .slice none 0 0]) (by kernel_rfl) rfl rfl (by simp [Act.eval]; done) (by simp [Act.eval]; done) (by simp [Value.oneCell']) Z29 rfl ?_
              intro w33 hbe33 hot33 hb33
              have hw33 := hbe33 wd G28 (J29.1.1).be
              refine hK.out _ _ ⟨⟨⟨(J29.1.1).k1, hw33⟩, (hot33 _ (J29.1.2).lt n33_0).trans (J29.1.2)⟩, (hot33 _ (J29.2).lt n33_1).trans (J29.2)⟩ (fun _ => ?rs33)
              clear hK K
              try simp only [Act.put]
              refine wpAnyH_done (by kernel_rfl) ?_ _
              refine NoPanic.normal ?_
              go_wp2_with fail
              go_meet
              exact Lib.hid ⟨gk, _, rfl, Nat.le_trans hdr G28, hb33, hdb.trans (hw33.mono hdb.size), rfl⟩
            exact AllReadyH.nil
          exact AllReadyH.nil
        exact AllReadyH.nil
      refine AllReadyH.cons (o := ?o34) ?hi34 (fun K hK => ?st34) ?mo34
      case hi34 => (simp only [List.getElem?_toArray, List.getElem?_cons_succ, List.getElem?_cons_zero]; try rfl)
      case st34 =>
        obtain ⟨W34, e34⟩ : ∃ w7, w7 = wd.alloc (.cells #[.string ⟨#[120]⟩, .string ⟨#[121]⟩] 9) := ⟨_, rfl⟩
        obtain ⟨fb, s34⟩ : ∃ g, g = wd.heap.size := ⟨_, rfl⟩
        have hb34 : Below wd.heap.size wd W34 := by rw [e34]; exact (Below.refl _ _).alloc (Nat.le_refl _) _
        have N34 : Blk W34 fb 9 #[.string ⟨#[120]⟩, .string ⟨#[121]⟩] := by rw [e34, s34]; exact Blk.new _ _ _
        have H34 := (show WhS wd (ad1.add i) a W34 from (H0).below hb34)
        go_simp
        rw [← e34, ← s34]
        clear e34 s34 hb34
        refine hK.out _ _ H34 (fun _ => ?rs34)
        clear hK K
        try simp only [Act.put, List.setIfInBounds_toArray, List.set_cons_zero, List.set_cons_succ]
        refine wpAnyH_mono (S' := fun wa => (WhS wd (ad1.add i) a wa) ∧ Blk wa fb 9 #[.string ⟨#[120]⟩, .string ⟨#[121]⟩]) (fun _ h => h.1) _ _ _ _ ?_
        have J34 := (show (WhS wd (ad1.add i) a W34) ∧ Blk W34 fb 9 #[.string ⟨#[120]⟩, .string ⟨#[121]⟩] from ⟨H34, N34⟩)
        refine wpAnyH_take (i := 15) (oi := ?oi35) (v := ?v35) ?hi35 (by kernel_rfl) (by kernel_rfl) (by kernel_rfl) (fun _ _ _ h => h) ?hy35 J34 ?rest35
        case hi35 => (simp only [List.getElem?_toArray, List.getElem?_cons_succ, List.getElem?_cons_zero]; try rfl)
        case hy35 => (refine Or.inl ⟨by rfl, ?_⟩; intro w hSw; go_simp; (try with_reducible rfl))
        try simp only [Act.put, List.setIfInBounds_toArray, List.set_cons_zero, List.set_cons_succ]
        refine wpAnyH_take (i := 16) (oi := ?oi36) (v := ?v36) ?hi36 (by kernel_rfl) (by kernel_rfl) (by kernel_rfl) (fun _ _ _ h => h) ?hy36 J34 ?rest36
        case hi36 => (simp only [List.getElem?_toArray, List.getElem?_cons_succ, List.getElem?_cons_zero]; try rfl)
        case hy36 => (refine Or.inl ⟨by rfl, ?_⟩; intro w hSw; have q := ((hSw.2).cell k1).trans hE; go_simp; (try with_reducible rfl))
        try simp only [Act.put, List.setIfInBounds_toArray, List.set_cons_zero, List.set_cons_succ]
        refine wpAnyH_ready (rs := [0, 25]) (by kernel_rfl) (by simp) ?_
        refine AllReadyH.cons (o := ?o37) ?hi37 (fun K hK => ?st37) ?mo37
        case hi37 => (simp only [List.getElem?_toArray, List.getElem?_cons_zero]; try rfl)
        case st37 =>
          obtain ⟨W37, e37⟩ : ∃ w7, w7 = W34.alloc (.cells #[.string ⟨#[102]⟩, .string ⟨#[103]⟩] 9) := ⟨_, rfl⟩
          obtain ⟨fa, s37⟩ : ∃ g, g = W34.heap.size := ⟨_, rfl⟩
          have hb37 : Below W34.heap.size W34 W37 := by rw [e37]; exact (Below.refl _ _).alloc (Nat.le_refl _) _
          have N37 : Blk W37 fa 9 #[.string ⟨#[102]⟩, .string ⟨#[103]⟩] := by rw [e37, s37]; exact Blk.new _ _ _
          have H37 := (show (WhS wd (ad1.add i) a W37) ∧ Blk W37 fb 9 #[.string ⟨#[120]⟩, .string ⟨#[121]⟩] from ⟨(J34.1).below hb37, (J34.2).below hb37 (J34.2).lt⟩)
          go_simp
          rw [← e37, ← s37]
          clear e37 s37 hb37
          refine hK.out _ _ H37 (fun _ => ?rs37)
          clear hK K
          try simp only [Act.put, List.setIfInBounds_toArray, List.set_cons_zero, List.set_cons_succ]
          refine wpAnyH_mono (S' := fun wa => ((WhS wd (ad1.add i) a wa) ∧ Blk wa fb 9 #[.string ⟨#[120]⟩, .string ⟨#[121]⟩]) ∧ Blk wa fa 9 #[.string ⟨#[102]⟩, .string ⟨#[103]⟩]) (fun _ h => h.1) _ _ _ _ ?_
          have J37 := (show ((WhS wd (ad1.add i) a W37) ∧ Blk W37 fb 9 #[.string ⟨#[120]⟩, .string ⟨#[121]⟩]) ∧ Blk W37 fa 9 #[.string ⟨#[102]⟩, .string ⟨#[103]⟩] from ⟨H37, N37⟩)
          refine wpAnyH_take (i := 6) (oi := ?oi38) (v := ?v38) ?hi38 (by kernel_rfl) (by kernel_rfl) (by kernel_rfl) (fun _ _ _ h => h) ?hy38 J37 ?rest38
          case hi38 => (simp only [List.getElem?_toArray, List.getElem?_cons_succ, List.getElem?_cons_zero]; try rfl)
          case hy38 => (refine Or.inl ⟨by rfl, ?_⟩; intro w hSw; go_simp; (try with_reducible rfl))
          try simp only [Act.put, List.setIfInBounds_toArray, List.set_cons_zero, List.set_cons_succ]
          refine wpAnyH_take (i := 7) (oi := ?oi39) (v := ?v39) ?hi39 (by kernel_rfl) (by kernel_rfl) (by kernel_rfl) (fun _ _ _ h => h) ?hy39 J37 ?rest39
          case hi39 => (simp only [List.getElem?_toArray, List.getElem?_cons_succ, List.getElem?_cons_zero]; try rfl)
          case hy39 => (refine Or.inl ⟨by rfl, ?_⟩; intro w hSw; have q := ((hSw.2).cell k0).trans hF; go_simp; (try with_reducible rfl))
          try simp only [Act.put, List.setIfInBounds_toArray, List.set_cons_zero, List.set_cons_succ]
          refine wpAnyH_take (i := 24) (oi := ?oi40) (v := ?v40) ?hi40 (by kernel_rfl) (by kernel_rfl) (by kernel_rfl) (fun _ _ _ h => h) ?hy40 J37 ?rest40
          case hi40 => (simp only [List.getElem?_toArray, List.getElem?_cons_succ, List.getElem?_cons_zero]; try rfl)
          case hy40 => (refine yields_build (cells := #[.int .i64 0, .string F, .string Ex, .string ⟨#[]⟩, .int .i64 nn, .int .i64 0, .int .i64 0, .int .i64 0, .slice none 0 0]) 30 ?pa40 ?ho40 ?hg40 ?hf40; (case ho40 => rfl); (case hg40 => rfl); (case hf40 => simp [Act.eval]; exact built_mg _ _ _))
          try simp only [Act.put, List.setIfInBounds_toArray, List.set_cons_zero, List.set_cons_succ]
          refine wpAnyH_ready (rs := [25]) (by kernel_rfl) (by simp) ?_
          refine AllReadyH.cons (o := ?o41) ?hi41 (fun K hK => ?st41) ?mo41
          case hi41 => (simp only [List.getElem?_toArray, List.getElem?_cons_succ, List.getElem?_cons_zero]; try rfl)
          case st41 =>
            obtain ⟨W41, e41⟩ : ∃ w7, w7 = W37.alloc (.cells #[.int .i64 0, .string ⟨#[]⟩, .string ⟨#[]⟩, .string ⟨#[]⟩, .int .i64 0, .int .i64 0, .int .i64 0, .int .i64 0, .slice none 0 0] 30) := ⟨_, rfl⟩
            obtain ⟨gk, s41⟩ : ∃ g, g = W37.heap.size := ⟨_, rfl⟩
            have hb41 : Below W37.heap.size W37 W41 := by rw [e41]; exact (Below.refl _ _).alloc (Nat.le_refl _) _
            have N41 : Blk W41 gk 30 #[.int .i64 0, .string ⟨#[]⟩, .string ⟨#[]⟩, .string ⟨#[]⟩, .int .i64 0, .int .i64 0, .int .i64 0, .int .i64 0, .slice none 0 0] := by rw [e41, s41]; exact Blk.new _ _ _
            have H41 := (show ((WhS wd (ad1.add i) a W41) ∧ Blk W41 fb 9 #[.string ⟨#[120]⟩, .string ⟨#[121]⟩]) ∧ Blk W41 fa 9 #[.string ⟨#[102]⟩, .string ⟨#[103]⟩] from ⟨⟨(J37.1.1).below hb41, (J37.1.2).below hb41 (J37.1.2).lt⟩, (J37.2).below hb41 (J37.2).lt⟩)
            have G41 : wd.heap.size ≤ gk := by rw [s41]; exact (J37.1.1).be.size
            go_simp
            rw [← e41, ← s41]
            clear e41 s41 hb41
            refine hK.out _ _ H41 (fun _ => ?rs41)
            clear hK K
            try simp only [Act.put, List.setIfInBounds_toArray, List.set_cons_zero, List.set_cons_succ]
            refine wpAnyH_ready (rs := [26]) (by kernel_rfl) (by simp) ?_
            refine AllReadyH.cons (o := ?o42) ?hi42 (fun K hK => ?st42) ?mo42
            case hi42 => (simp only [List.getElem?_toArray, List.getElem?_cons_succ, List.getElem?_cons_zero]; try rfl)
            case st42 =>
              have n42_0 : fb ≠ gk := (H41.1.2).ne_ N41 (by decide)
              have n42_1 : fa ≠ gk := (H41.2).ne_ N41 (by decide)
              refine storeG 30 (cs := #[.int .i64 0, .string F, .string Ex, .string ⟨#[]⟩, .int .i64 nn, .int .i64 0, .int .i64 0, .int .i64 0, .slice none 0 0]) (by kernel_rfl) rfl rfl (by simp [Act.eval]; done) (by simp [Act.eval]; done) (by simp [Value.oneCell']) N41 rfl ?_
              intro w42 hbe42 hot42 hb42
              have hw42 := hbe42 wd G41 (H41.1.1).be
              refine hK.out _ _ ⟨⟨⟨(H41.1.1).k1, hw42⟩, (hot42 _ (H41.1.2).lt n42_0).trans (H41.1.2)⟩, (hot42 _ (H41.2).lt n42_1).trans (H41.2)⟩ (fun _ => ?rs42)
              clear hK K
              try simp only [Act.put]
              refine wpAnyH_done (by kernel_rfl) ?_ _
              refine NoPanic.normal ?_
              go_wp2_with fail
              go_meet
              exact Lib.hid ⟨gk, _, rfl, Nat.le_trans hdr G41, hb42, hdb.trans (hw42.mono hdb.size), rfl⟩
            exact AllReadyH.nil
          exact AllReadyH.nil
        refine AllReadyH.cons (o := ?o43) ?hi43 (fun K hK => ?st43) ?mo43
        case hi43 => (simp only [List.getElem?_toArray, List.getElem?_cons_succ, List.getElem?_cons_zero]; try rfl)
        case st43 =>
          obtain ⟨W43, e43⟩ : ∃ w7, w7 = W34.alloc (.cells #[.int .i64 0, .string ⟨#[]⟩, .string ⟨#[]⟩, .string ⟨#[]⟩, .int .i64 0, .int .i64 0, .int .i64 0, .int .i64 0, .slice none 0 0] 30) := ⟨_, rfl⟩
          obtain ⟨gk, s43⟩ : ∃ g, g = W34.heap.size := ⟨_, rfl⟩
          have hb43 : Below W34.heap.size W34 W43 := by rw [e43]; exact (Below.refl _ _).alloc (Nat.le_refl _) _
          have N43 : Blk W43 gk 30 #[.int .i64 0, .string ⟨#[]⟩, .string ⟨#[]⟩, .string ⟨#[]⟩, .int .i64 0, .int .i64 0, .int .i64 0, .int .i64 0, .slice none 0 0] := by rw [e43, s43]; exact Blk.new _ _ _
          have H43 := (show (WhS wd (ad1.add i) a W43) ∧ Blk W43 fb 9 #[.string ⟨#[120]⟩, .string ⟨#[121]⟩] from ⟨(J34.1).below hb43, (J34.2).below hb43 (J34.2).lt⟩)
          have G43 : wd.heap.size ≤ gk := by rw [s43]; exact (J34.1).be.size
          go_simp
          rw [← e43, ← s43]
          clear e43 s43 hb43
          refine hK.out _ _ H43 (fun _ => ?rs43)
          clear hK K
          try simp only [Act.put, List.setIfInBounds_toArray, List.set_cons_zero, List.set_cons_succ]
          refine wpAnyH_ready (rs := [0]) (by kernel_rfl) (by simp) ?_
          refine AllReadyH.cons (o := ?o44) ?hi44 (fun K hK => ?st44) ?mo44
          case hi44 => (simp only [List.getElem?_toArray, List.getElem?_cons_zero]; try rfl)
          case st44 =>
            obtain ⟨W44, e44⟩ : ∃ w7, w7 = W43.alloc (.cells #[.string ⟨#[102]⟩, .string ⟨#[103]⟩] 9) := ⟨_, rfl⟩
            obtain ⟨fa, s44⟩ : ∃ g, g = W43.heap.size := ⟨_, rfl⟩
            have hb44 : Below W43.heap.size W43 W44 := by rw [e44]; exact (Below.refl _ _).alloc (Nat.le_refl _) _
            have N44 : Blk W44 fa 9 #[.string ⟨#[102]⟩, .string ⟨#[103]⟩] := by rw [e44, s44]; exact Blk.new _ _ _
            have H44 := (show (WhS wd (ad1.add i) a W44) ∧ Blk W44 fb 9 #[.string ⟨#[120]⟩, .string ⟨#[121]⟩] from ⟨(H43.1).below hb44, (H43.2).below hb44 (H43.2).lt⟩)
            have Z44 := N43.below hb44 N43.lt
            go_simp
            rw [← e44, ← s44]
            clear e44 s44 hb44
            refine hK.out _ _ H44 (fun _ => ?rs44)
            clear hK K
            try simp only [Act.put, List.setIfInBounds_toArray, List.set_cons_zero, List.set_cons_succ]
            refine wpAnyH_mono (S' := fun wa => ((WhS wd (ad1.add i) a wa) ∧ Blk wa fb 9 #[.string ⟨#[120]⟩, .string ⟨#[121]⟩]) ∧ Blk wa fa 9 #[.string ⟨#[102]⟩, .string ⟨#[103]⟩]) (fun _ h => h.1) _ _ _ _ ?_
            have J44 := (show ((WhS wd (ad1.add i) a W44) ∧ Blk W44 fb 9 #[.string ⟨#[120]⟩, .string ⟨#[121]⟩]) ∧ Blk W44 fa 9 #[.string ⟨#[102]⟩, .string ⟨#[103]⟩] from ⟨H44, N44⟩)
            refine wpAnyH_take (i := 6) (oi := ?oi45) (v := ?v45) ?hi45 (by kernel_rfl) (by kernel_rfl) (by kernel_rfl) (fun _ _ _ h => h) ?hy45 J44 ?rest45
            case hi45 => (simp only [List.getElem?_toArray, List.getElem?_cons_succ, List.getElem?_cons_zero]; try rfl)
            case hy45 => (refine Or.inl ⟨by rfl, ?_⟩; intro w hSw; go_simp; (try with_reducible rfl))
            try simp only [Act.put, List.setIfInBounds_toArray, List.set_cons_zero, List.set_cons_succ]
            refine wpAnyH_take (i := 7) (oi := ?oi46) (v := ?v46) ?hi46 (by kernel_rfl) (by kernel_rfl) (by kernel_rfl) (fun _ _ _ h => h) ?hy46 J44 ?rest46
            case hi46 => (simp only [List.getElem?_toArray, List.getElem?_cons_succ, List.getElem?_cons_zero]; try rfl)
            case hy46 => (refine Or.inl ⟨by rfl, ?_⟩; intro w hSw; have q := ((hSw.2).cell k0).trans hF; go_simp; (try with_reducible rfl))
            try simp only [Act.put, List.setIfInBounds_toArray, List.set_cons_zero, List.set_cons_succ]
            refine wpAnyH_take (i := 24) (oi := ?oi47) (v := ?v47) ?hi47 (by kernel_rfl) (by kernel_rfl) (by kernel_rfl) (fun _ _ _ h => h) ?hy47 J44 ?rest47
            case hi47 => (simp only [List.getElem?_toArray, List.getElem?_cons_succ, List.getElem?_cons_zero]; try rfl)
            case hy47 => (refine yields_build (cells := #[.int .i64 0, .string F, .string Ex, .string ⟨#[]⟩, .int .i64 nn, .int .i64 0, .int .i64 0, .int .i64 0, .slice none 0 0]) 30 ?pa47 ?ho47 ?hg47 ?hf47; (case ho47 => rfl); (case hg47 => rfl); (case hf47 => simp [Act.eval]; exact built_mg _ _ _))
            try simp only [Act.put, List.setIfInBounds_toArray, List.set_cons_zero, List.set_cons_succ]
            refine wpAnyH_ready (rs := [26]) (by kernel_rfl) (by simp) ?_
            refine AllReadyH.cons (o := ?o48) ?hi48 (fun K hK => ?st48) ?mo48
            case hi48 => (simp only [List.getElem?_toArray, List.getElem?_cons_succ, List.getElem?_cons_zero]; try rfl)
            case st48 =>
              have n48_0 : fb ≠ gk := (J44.1.2).ne_ Z44 (by decide)
              have n48_1 : fa ≠ gk := (J44.2).ne_ Z44 (by decide)
              refine storeG 30 (cs := #[.int .i64 0, .string F, .string Ex, .string ⟨#[]⟩, .int .i64 nn, .int .i64 0, .int .i64 0, .int .i64 0, .slice none 0 0]) (by kernel_rfl) rfl rfl (by simp [Act.eval]; done) (by simp [Act.eval]; done) (by simp [Value.oneCell']) Z44 rfl ?_
              intro w48 hbe48 hot48 hb48
              have hw48 := hbe48 wd G43 (J44.1.1).be
              refine hK.out _ _ ⟨⟨⟨(J44.1.1).k1, hw48⟩, (hot48 _ (J44.1.2).lt n48_0).trans (J44.1.2)⟩, (hot48 _ (J44.2).lt n48_1).trans (J44.2)⟩ (fun _ => ?rs48)
              clear hK K
              try simp only [Act.put]
              refine wpAnyH_done (by kernel_rfl) ?_ _
              refine NoPanic.normal ?_
              go_wp2_with fail
              go_meet
              exact Lib.hid ⟨gk, _, rfl, Nat.le_trans hdr G43, hb48, hdb.trans (hw48.mono hdb.size), rfl⟩
            exact AllReadyH.nil
          exact AllReadyH.nil
        exact AllReadyH.nil
      refine AllReadyH.cons (o := ?o49) ?hi49 (fun K hK => ?st49) ?mo49
      case hi49 => (simp only [List.getElem?_toArray, List.getElem?_cons_succ, List.getElem?_cons_zero]; try rfl)
      case st49 =>
        obtain ⟨W49, e49⟩ : ∃ w7, w7 = wd.alloc (.cells #[.int .i64 0, .string ⟨#[]⟩, .string ⟨#[]⟩, .string ⟨#[]⟩, .int .i64 0, .int .i64 0, .int .i64 0, .int .i64 0, .slice none 0 0] 30) := ⟨_, rfl⟩
        obtain ⟨gk, s49⟩ : ∃ g, g = wd.heap.size := ⟨_, rfl⟩
        have hb49 : Below wd.heap.size wd W49 := by rw [e49]; exact (Below.refl _ _).alloc (Nat.le_refl _) _
        have N49 : Blk W49 gk 30 #[.int .i64 0, .string ⟨#[]⟩, .string ⟨#[]⟩, .string ⟨#[]⟩, .int .i64 0, .int .i64 0, .int .i64 0, .int .i64 0, .slice none 0 0] := by rw [e49, s49]; exact Blk.new _ _ _
        have H49 := (show WhS wd (ad1.add i) a W49 from (H0).below hb49)
        have G49 : wd.heap.size ≤ gk := by rw [s49]; exact (H0).be.size
        go_simp
        rw [← e49, ← s49]
        clear e49 s49 hb49
        refine hK.out _ _ H49 (fun _ => ?rs49)
        clear hK K
        try simp only [Act.put, List.setIfInBounds_toArray, List.set_cons_zero, List.set_cons_succ]
        refine wpAnyH_ready (rs := [0, 8]) (by kernel_rfl) (by simp) ?_
        refine AllReadyH.cons (o := ?o50) ?hi50 (fun K hK => ?st50) ?mo50
        case hi50 => (simp only [List.getElem?_toArray, List.getElem?_cons_zero]; try rfl)
        case st50 =>
          obtain ⟨W50, e50⟩ : ∃ w7, w7 = W49.alloc (.cells #[.string ⟨#[102]⟩, .string ⟨#[103]⟩] 9) := ⟨_, rfl⟩
          obtain ⟨fa, s50⟩ : ∃ g, g = W49.heap.size := ⟨_, rfl⟩
          have hb50 : Below W49.heap.size W49 W50 := by rw [e50]; exact (Below.refl _ _).alloc (Nat.le_refl _) _
          have N50 : Blk W50 fa 9 #[.string ⟨#[102]⟩, .string ⟨#[103]⟩] := by rw [e50, s50]; exact Blk.new _ _ _
          have H50 := (show WhS wd (ad1.add i) a W50 from (H49).below hb50)
          have Z50 := N49.below hb50 N49.lt
          go_simp
          rw [← e50, ← s50]
          clear e50 s50 hb50
          refine hK.out _ _ H50 (fun _ => ?rs50)
          clear hK K
          try simp only [Act.put, List.setIfInBounds_toArray, List.set_cons_zero, List.set_cons_succ]
          refine wpAnyH_mono (S' := fun wa => (WhS wd (ad1.add i) a wa) ∧ Blk wa fa 9 #[.string ⟨#[102]⟩, .string ⟨#[103]⟩]) (fun _ h => h.1) _ _ _ _ ?_
          have J50 := (show (WhS wd (ad1.add i) a W50) ∧ Blk W50 fa 9 #[.string ⟨#[102]⟩, .string ⟨#[103]⟩] from ⟨H50, N50⟩)
          refine wpAnyH_take (i := 6) (oi := ?oi51) (v := ?v51) ?hi51 (by kernel_rfl) (by kernel_rfl) (by kernel_rfl) (fun _ _ _ h => h) ?hy51 J50 ?rest51
          case hi51 => (simp only [List.getElem?_toArray, List.getElem?_cons_succ, List.getElem?_cons_zero]; try rfl)
          case hy51 => (refine Or.inl ⟨by rfl, ?_⟩; intro w hSw; go_simp; (try with_reducible rfl))
          try simp only [Act.put, List.setIfInBounds_toArray, List.set_cons_zero, List.set_cons_succ]
          refine wpAnyH_take (i := 7) (oi := ?oi52) (v := ?v52) ?hi52 (by kernel_rfl) (by kernel_rfl) (by kernel_rfl) (fun _ _ _ h => h) ?hy52 J50 ?rest52
          case hi52 => (simp only [List.getElem?_toArray, List.getElem?_cons_succ, List.getElem?_cons_zero]; try rfl)
          case hy52 => (refine Or.inl ⟨by rfl, ?_⟩; intro w hSw; have q := ((hSw.2).cell k0).trans hF; go_simp; (try with_reducible rfl))
          try simp only [Act.put, List.setIfInBounds_toArray, List.set_cons_zero, List.set_cons_succ]
          refine wpAnyH_ready (rs := [8]) (by kernel_rfl) (by simp) ?_
          refine AllReadyH.cons (o := ?o53) ?hi53 (fun K hK => ?st53) ?mo53
          case hi53 => (simp only [List.getElem?_toArray, List.getElem?_cons_succ, List.getElem?_cons_zero]; try rfl)
          case st53 =>
            obtain ⟨W53, e53⟩ : ∃ w7, w7 = W50.alloc (.cells #[.string ⟨#[120]⟩, .string ⟨#[121]⟩] 9) := ⟨_, rfl⟩
            obtain ⟨fb, s53⟩ : ∃ g, g = W50.heap.size := ⟨_, rfl⟩
            have hb53 : Below W50.heap.size W50 W53 := by rw [e53]; exact (Below.refl _ _).alloc (Nat.le_refl _) _
            have N53 : Blk W53 fb 9 #[.string ⟨#[120]⟩, .string ⟨#[121]⟩] := by rw [e53, s53]; exact Blk.new _ _ _
            have H53 := (show (WhS wd (ad1.add i) a W53) ∧ Blk W53 fa 9 #[.string ⟨#[102]⟩, .string ⟨#[103]⟩] from ⟨(J50.1).below hb53, (J50.2).below hb53 (J50.2).lt⟩)
            have Z53 := Z50.below hb53 Z50.lt
            go_simp
            rw [← e53, ← s53]
            clear e53 s53 hb53
            refine hK.out _ _ H53 (fun _ => ?rs53)
            clear hK K
            try simp only [Act.put, List.setIfInBounds_toArray, List.set_cons_zero, List.set_cons_succ]
            refine wpAnyH_mono (S' := fun wa => ((WhS wd (ad1.add i) a wa) ∧ Blk wa fa 9 #[.string ⟨#[102]⟩, .string ⟨#[103]⟩]) ∧ Blk wa fb 9 #[.string ⟨#[120]⟩, .string ⟨#[121]⟩]) (fun _ h => h.1) _ _ _ _ ?_
            have J53 := (show ((WhS wd (ad1.add i) a W53) ∧ Blk W53 fa 9 #[.string ⟨#[102]⟩, .string ⟨#[103]⟩]) ∧ Blk W53 fb 9 #[.string ⟨#[120]⟩, .string ⟨#[121]⟩] from ⟨H53, N53⟩)
            refine wpAnyH_take (i := 15) (oi := ?oi54) (v := ?v54) ?hi54 (by kernel_rfl) (by kernel_rfl) (by kernel_rfl) (fun _ _ _ h => h) ?hy54 J53 ?rest54
            case hi54 => (simp only [List.getElem?_toArray, List.getElem?_cons_succ, List.getElem?_cons_zero]; try rfl)
            case hy54 => (refine Or.inl ⟨by rfl, ?_⟩; intro w hSw; go_simp; (try with_reducible rfl))
            try simp only [Act.put, List.setIfInBounds_toArray, List.set_cons_zero, List.set_cons_succ]
            refine wpAnyH_take (i := 16) (oi := ?oi55) (v := ?v55) ?hi55 (by kernel_rfl) (by kernel_rfl) (by kernel_rfl) (fun _ _ _ h => h) ?hy55 J53 ?rest55
            case hi55 => (simp only [List.getElem?_toArray, List.getElem?_cons_succ, List.getElem?_cons_zero]; try rfl)
            case hy55 => (refine Or.inl ⟨by rfl, ?_⟩; intro w hSw; have q := ((hSw.2).cell k1).trans hE; go_simp; (try with_reducible rfl))
            try simp only [Act.put, List.setIfInBounds_toArray, List.set_cons_zero, List.set_cons_succ]
            refine wpAnyH_take (i := 24) (oi := ?oi56) (v := ?v56) ?hi56 (by kernel_rfl) (by kernel_rfl) (by kernel_rfl) (fun _ _ _ h => h) ?hy56 J53 ?rest56
            case hi56 => (simp only [List.getElem?_toArray, List.getElem?_cons_succ, List.getElem?_cons_zero]; try rfl)
            case hy56 => (refine yields_build (cells := #[.int .i64 0, .string F, .string Ex, .string ⟨#[]⟩, .int .i64 nn, .int .i64 0, .int .i64 0, .int .i64 0, .slice none 0 0]) 30 ?pa56 ?ho56 ?hg56 ?hf56; (case ho56 => rfl); (case hg56 => rfl); (case hf56 => simp [Act.eval]; exact built_mg _ _ _))
            try simp only [Act.put, List.setIfInBounds_toArray, List.set_cons_zero, List.set_cons_succ]
            refine wpAnyH_ready (rs := [26]) (by kernel_rfl) (by simp) ?_
            refine AllReadyH.cons (o := ?o57) ?hi57 (fun K hK => ?st57) ?mo57
            case hi57 => (simp only [List.getElem?_toArray, List.getElem?_cons_succ, List.getElem?_cons_zero]; try rfl)
            case st57 =>
              have n57_0 : fa ≠ gk := (J53.1.2).ne_ Z53 (by decide)
              have n57_1 : fb ≠ gk := (J53.2).ne_ Z53 (by decide)
              refine storeG 30 (cs := #[.int .i64 0, .string F, .string Ex, .string ⟨#[]⟩, .int .i64 nn, .int .i64 0, .int .i64 0, .int .i64 0, .slice none 0 0]) (by kernel_rfl) rfl rfl (by simp [Act.eval]; done) (by simp [Act.eval]; done) (by simp [Value.oneCell']) Z53 rfl ?_
              intro w57 hbe57 hot57 hb57
              have hw57 := hbe57 wd G49 (J53.1.1).be
              refine hK.out _ _ ⟨⟨⟨(J53.1.1).k1, hw57⟩, (hot57 _ (J53.1.2).lt n57_0).trans (J53.1.2)⟩, (hot57 _ (J53.2).lt n57_1).trans (J53.2)⟩ (fun _ => ?rs57)
              clear hK K
              try simp only [Act.put]
              refine wpAnyH_done (by kernel_rfl) ?_ _
              refine NoPanic.normal ?_
              go_wp2_with fail
              go_meet
              exact Lib.hid ⟨gk, _, rfl, Nat.le_trans hdr G49, hb57, hdb.trans (hw57.mono hdb.size), rfl⟩
            exact AllReadyH.nil
          exact AllReadyH.nil
        refine AllReadyH.cons (o := ?o58) ?hi58 (fun K hK => ?st58) ?mo58
        case hi58 => (simp only [List.getElem?_toArray, List.getElem?_cons_succ, List.getElem?_cons_zero]; try rfl)
        case st58 =>
          obtain ⟨W58, e58⟩ : ∃ w7, w7 = W49.alloc (.cells #[.string ⟨#[120]⟩, .string ⟨#[121]⟩] 9) := ⟨_, rfl⟩
          obtain ⟨fb, s58⟩ : ∃ g, g = W49.heap.size := ⟨_, rfl⟩
          have hb58 : Below W49.heap.size W49 W58 := by rw [e58]; exact (Below.refl _ _).alloc (Nat.le_refl _) _
          have N58 : Blk W58 fb 9 #[.string ⟨#[120]⟩, .string ⟨#[121]⟩] := by rw [e58, s58]; exact Blk.new _ _ _
          have H58 := (show WhS wd (ad1.add i) a W58 from (H49).below hb58)
          have Z58 := N49.below hb58 N49.lt
          go_simp
          rw [← e58, ← s58]
          clear e58 s58 hb58
          refine hK.out _ _ H58 (fun _ => ?rs58)
          clear hK K
          try simp only [Act.put, List.setIfInBounds_toArray, List.set_cons_zero, List.set_cons_succ]
          refine wpAnyH_mono (S' := fun wa => (WhS wd (ad1.add i) a wa) ∧ Blk wa fb 9 #[.string ⟨#[120]⟩, .string ⟨#[121]⟩]) (fun _ h => h.1) _ _ _ _ ?_
          have J58 := (show (WhS wd (ad1.add i) a W58) ∧ Blk W58 fb 9 #[.string ⟨#[120]⟩, .string ⟨#[121]⟩] from ⟨H58, N58⟩)
          refine wpAnyH_take (i := 15) (oi := ?oi59) (v := ?v59) ?hi59 (by kernel_rfl) (by kernel_rfl) (by kernel_rfl) (fun _ _ _ h => h) ?hy59 J58 ?rest59
          case hi59 => (simp only [List.getElem?_toArray, List.getElem?_cons_succ, List.getElem?_cons_zero]; try rfl)
          case hy59 => (refine Or.inl ⟨by rfl, ?_⟩; intro w hSw; go_simp; (try with_reducible rfl))
          try simp only [Act.put, List.setIfInBounds_toArray, List.set_cons_zero, List.set_cons_succ]
          refine wpAnyH_take (i := 16) (oi := ?oi60) (v := ?v60) ?hi60 (by kernel_rfl) (by kernel_rfl) (by kernel_rfl) (fun _ _ _ h => h) ?hy60 J58 ?rest60
          case hi60 => (simp only [List.getElem?_toArray, List.getElem?_cons_succ, List.getElem?_cons_zero]; try rfl)
          case hy60 => (refine Or.inl ⟨by rfl, ?_⟩; intro w hSw; have q := ((hSw.2).cell k1).trans hE; go_simp; (try with_reducible rfl))
          try simp only [Act.put, List.setIfInBounds_toArray, List.set_cons_zero, List.set_cons_succ]
          refine wpAnyH_ready (rs := [0]) (by kernel_rfl) (by simp) ?_
          refine AllReadyH.cons (o := ?o61) ?hi61 (fun K hK => ?st61) ?mo61
          case hi61 => (simp only [List.getElem?_toArray, List.getElem?_cons_zero]; try rfl)
          case st61 =>
            obtain ⟨W61, e61⟩ : ∃ w7, w7 = W58.alloc (.cells #[.string ⟨#[102]⟩, .string ⟨#[103]⟩] 9) := ⟨_, rfl⟩
            obtain ⟨fa, s61⟩ : ∃ g, g = W58.heap.size := ⟨_, rfl⟩
            have hb61 : Below W58.heap.size W58 W61 := by rw [e61]; exact (Below.refl _ _).alloc (Nat.le_refl _) _
            have N61 : Blk W61 fa 9 #[.string ⟨#[102]⟩, .string ⟨#[103]⟩] := by rw [e61, s61]; exact Blk.new _ _ _
            have H61 := (show (WhS wd (ad1.add i) a W61) ∧ Blk W61 fb 9 #[.string ⟨#[120]⟩, .string ⟨#[121]⟩] from ⟨(J58.1).below hb61, (J58.2).below hb61 (J58.2).lt⟩)
            have Z61 := Z58.below hb61 Z58.lt
            go_simp
            rw [← e61, ← s61]
            clear e61 s61 hb61
            refine hK.out _ _ H61 (fun _ => ?rs61)
            clear hK K
            try simp only [Act.put, List.setIfInBounds_toArray, List.set_cons_zero, List.set_cons_succ]
            refine wpAnyH_mono (S' := fun wa => ((WhS wd (ad1.add i) a wa) ∧ Blk wa fb 9 #[.string ⟨#[120]⟩, .string ⟨#[121]⟩]) ∧ Blk wa fa 9 #[.string ⟨#[102]⟩, .string ⟨#[103]⟩]) (fun _ h => h.1) _ _ _ _ ?_
            have J61 := (show ((WhS wd (ad1.add i) a W61) ∧ Blk W61 fb 9 #[.string ⟨#[120]⟩, .string ⟨#[121]⟩]) ∧ Blk W61 fa 9 #[.string ⟨#[102]⟩, .string ⟨#[103]⟩] from ⟨H61, N61⟩)
            refine wpAnyH_take (i := 6) (oi := ?oi62) (v := ?v62) ?hi62 (by kernel_rfl) (by kernel_rfl) (by kernel_rfl) (fun _ _ _ h => h) ?hy62 J61 ?rest62
            case hi62 => (simp only [List.getElem?_toArray, List.getElem?_cons_succ, List.getElem?_cons_zero]; try rfl)
            case hy62 => (refine Or.inl ⟨by rfl, ?_⟩; intro w hSw; go_simp; (try with_reducible rfl))
            try simp only [Act.put, List.setIfInBounds_toArray, List.set_cons_zero, List.set_cons_succ]
            refine wpAnyH_take (i := 7) (oi := ?oi63) (v := ?v63) ?hi63 (by kernel_rfl) (by kernel_rfl) (by kernel_rfl) (fun _ _ _ h => h) ?hy63 J61 ?rest63
            case hi63 => (simp only [List.getElem?_toArray, List.getElem?_cons_succ, List.getElem?_cons_zero]; try rfl)
            case hy63 => (refine Or.inl ⟨by rfl, ?_⟩; intro w hSw; have q := ((hSw.2).cell k0).trans hF; go_simp; (try with_reducible rfl))
            try simp only [Act.put, List.setIfInBounds_toArray, List.set_cons_zero, List.set_cons_succ]
            refine wpAnyH_take (i := 24) (oi := ?oi64) (v := ?v64) ?hi64 (by kernel_rfl) (by kernel_rfl) (by kernel_rfl) (fun _ _ _ h => h) ?hy64 J61 ?rest64
            case hi64 => (simp only [List.getElem?_toArray, List.getElem?_cons_succ, List.getElem?_cons_zero]; try rfl)
            case hy64 => (refine yields_build (cells := #[.int .i64 0, .string F, .string Ex, .string ⟨#[]⟩, .int .i64 nn, .int .i64 0, .int .i64 0, .int .i64 0, .slice none 0 0]) 30 ?pa64 ?ho64 ?hg64 ?hf64; (case ho64 => rfl); (case hg64 => rfl); (case hf64 => simp [Act.eval]; exact built_mg _ _ _))
            try simp only [Act.put, List.setIfInBounds_toArray, List.set_cons_zero, List.set_cons_succ]
            refine wpAnyH_ready (rs := [26]) (by kernel_rfl) (by simp) ?_
            refine AllReadyH.cons (o := ?o65) ?hi65 (fun K hK => ?st65) ?mo65
            case hi65 => (simp only [List.getElem?_toArray, List.getElem?_cons_succ, List.getElem?_cons_zero]; try rfl)
            case st65 =>
              have n65_0 : fb ≠ gk := (J61.1.2).ne_ Z61 (by decide)
              have n65_1 : fa ≠ gk := (J61.2).ne_ Z61 (by decide)
              refine storeG 30 (cs := #[.int .i64 0, .string F, .string Ex, .string ⟨#[]⟩, .int .i64 nn, .int .i64 0, .int .i64 0, .int .i64 0, .slice none 0 0]) (by kernel_rfl) rfl rfl (by simp [Act.eval]; done) (by simp [Act.eval]; done) (by simp [Value.oneCell']) Z61 rfl ?_
              intro w65 hbe65 hot65 hb65
              have hw65 := hbe65 wd G49 (J61.1.1).be
              refine hK.out _ _ ⟨⟨⟨(J61.1.1).k1, hw65⟩, (hot65 _ (J61.1.2).lt n65_0).trans (J61.1.2)⟩, (hot65 _ (J61.2).lt n65_1).trans (J61.2)⟩ (fun _ => ?rs65)
              clear hK K
              try simp only [Act.put]
              refine wpAnyH_done (by kernel_rfl) ?_ _
              refine NoPanic.normal ?_
              go_wp2_with fail
              go_meet
              exact Lib.hid ⟨gk, _, rfl, Nat.le_trans hdr G49, hb65, hdb.trans (hw65.mono hdb.size), rfl⟩
            exact AllReadyH.nil
          exact AllReadyH.nil
        exact AllReadyH.nil
      exact AllReadyH.nil
    case rest =>
      clear hnn hF hE hW0 hW1 hW2 hcx
      obtain ⟨gk, w9, rfl, hge, hk9, hb9, e9⟩ := hcut.out
      subst e9
      clear hcut
      obtain ⟨r, hrr⟩ : ∃ r : Pm, r = ⟨F, Ex, nn⟩ := ⟨_, rfl⟩
      rw [← hrr] at hk9
      clear hrr
      have hck : w9.cell? (ad0.add i) = some (.int .i64 kd) := (hb9.cell (p := ad0.add i) (World.block_lt_of_cell? _ _ HCK.out)).trans HCK.out
      have hcz : w9.cell? (ad2.add i) = some (.int .i64 z) := (hb9.cell (p := ad2.add i) (World.block_lt_of_cell? _ _ HCZ.out)).trans HCZ.out
      obtain ⟨q, hq, hq1, hq2⟩ : ∃ q, q = kd % 10 ∧ 0 ≤ q ∧ q < 10 := ⟨_, rfl, rng kd 10 (by omega) (by omega)⟩
      have hW10 : ∀ w, Calls Try.prog 10 #[.int .i64 kd, .int .i64 10] w fun e w' => e = .returned (.int .i64 q) ∧ w = w' := fun w => by rw [hq]; exact Within_any kd 10 w hbk.1 hbk.2 (by omega) (by omega)
      have HK9 := Lib.hid hk9
      have HB9 := Lib.hid hb9
      have HGE := Lib.hid hge
      have HJ9 := Lib.hid (HJ.out.below hb9)
      clear hk9 hb9 hge hq
      go_upto_block 2 with (go_at_call 10; refine (hW10 _).mono ?_; rintro e wz ⟨rfl, rfl⟩)
      have e0 : w9.cell? ⟨gk, 0, none⟩ = some (.int .i64 0) := HK9.out.cell 0
      have z0 : w9.frozen? ⟨gk, 0, none⟩ = false := HK9.out.frozen 0
      go_cut [] from 68 to 127 (fun wx => Hid (∃ k t tm its w7, Blk wx gk 30 (mgA k r tm its) ∧ (k = 15 → tm = t) ∧ (k = 14 → ∃ gi, its = .slice (some ⟨gi, 0, none⟩) 1 1 ∧ Blk wx gi 57 #[.string t, one_] ∧ wr.heap.size ≤ gi) ∧ Below wr.heap.size wr wx ∧ w7 = wx))
      case first =>
        have hTk := fun w => Task_any z (by omega) w
        obtain ⟨T, hT⟩ : ∃ T, T = taskB (z % 8) := ⟨_, rfl⟩
        simp only [← hT] at hTk
        clear hT hW10
        rcases (by omega : q = 0 ∨ q = 1 ∨ q = 2 ∨ q = 3 ∨ q = 4 ∨ q = 5 ∨ q = 6 ∨ q = 7 ∨ q = 8 ∨ q = 9) with rfl | rfl | rfl | rfl | rfl | rfl | rfl | rfl | rfl | rfl
        · go_wp2_with fail
          go_meet
          exact Lib.hid ⟨13, noB, noB, .slice none 0 0, _, by simpa using HK9.out.set_ 0 (.int .i64 13), fun e => absurd e (by decide), fun e => absurd e (by decide), HB9.out.setCell HGE.out _, rfl⟩
        · go_wp2_with fail
          go_meet
          exact Lib.hid ⟨13, noB, noB, .slice none 0 0, _, by simpa using HK9.out.set_ 0 (.int .i64 13), fun e => absurd e (by decide), fun e => absurd e (by decide), HB9.out.setCell HGE.out _, rfl⟩
        · go_wp2_with (go_at_call 16; refine (hTk _).mono ?_; rintro e wz ⟨rfl, hbz⟩; have hkz := HK9.out.below hbz HK9.out.lt; have y0 : ∀ o, (wz.alloc o).cell? ⟨gk, 0, none⟩ = some (.int .i64 0) := (fun o => (hkz.alloc o).cell 0); have y8 : ∀ o, (wz.alloc o).cell? ⟨gk, 8, none⟩ = some (.slice none 0 0) := (fun o => (hkz.alloc o).cell 8); have g0 : ∀ o, (wz.alloc o).frozen? ⟨gk, 0, none⟩ = false := (fun o => (hkz.alloc o).frozen 0); have g8 : ∀ o, (wz.alloc o).frozen? ⟨gk, 8, none⟩ = false := (fun o => (hkz.alloc o).frozen 8))
          go_meet
          have hne : wz.heap.size ≠ gk := fun e => by have := hkz.lt; omega
          have hbe : Below wr.heap.size wr wz := HB9.out.trans (hbz.mono HB9.out.size)
          exact Lib.hid ⟨14, T, noB, .slice (some ⟨wz.heap.size, 0, none⟩) 1 1, _, by simpa using ((hkz.alloc (.cells #[.string T, one_] 57)).set_ 0 (.int .i64 14)).set_ 8 (.slice (some ⟨wz.heap.size, 0, none⟩) 1 1), fun e => absurd e (by decide), fun _ => ⟨wz.heap.size, rfl, ((Blk.new wz 57 #[.string T, one_]).far (p := ⟨gk, 0, none⟩) hne _).far (p := ⟨gk, 8, none⟩) hne _, hbe.size⟩, ((hbe.alloc hbe.size _).setCell HGE.out _).setCell HGE.out _, rfl⟩
        · go_wp2_with (go_at_call 16; refine (hTk _).mono ?_; rintro e wz ⟨rfl, hbz⟩; have hkz := HK9.out.below hbz HK9.out.lt; have y0 : ∀ o, (wz.alloc o).cell? ⟨gk, 0, none⟩ = some (.int .i64 0) := (fun o => (hkz.alloc o).cell 0); have y8 : ∀ o, (wz.alloc o).cell? ⟨gk, 8, none⟩ = some (.slice none 0 0) := (fun o => (hkz.alloc o).cell 8); have g0 : ∀ o, (wz.alloc o).frozen? ⟨gk, 0, none⟩ = false := (fun o => (hkz.alloc o).frozen 0); have g8 : ∀ o, (wz.alloc o).frozen? ⟨gk, 8, none⟩ = false := (fun o => (hkz.alloc o).frozen 8))
          go_meet
          have hne : wz.heap.size ≠ gk := fun e => by have := hkz.lt; omega
          have hbe : Below wr.heap.size wr wz := HB9.out.trans (hbz.mono HB9.out.size)
          exact Lib.hid ⟨14, T, noB, .slice (some ⟨wz.heap.size, 0, none⟩) 1 1, _, by simpa using ((hkz.alloc (.cells #[.string T, one_] 57)).set_ 0 (.int .i64 14)).set_ 8 (.slice (some ⟨wz.heap.size, 0, none⟩) 1 1), fun e => absurd e (by decide), fun _ => ⟨wz.heap.size, rfl, ((Blk.new wz 57 #[.string T, one_]).far (p := ⟨gk, 0, none⟩) hne _).far (p := ⟨gk, 8, none⟩) hne _, hbe.size⟩, ((hbe.alloc hbe.size _).setCell HGE.out _).setCell HGE.out _, rfl⟩
        · go_wp2_with (go_at_call 16; refine (hTk _).mono ?_; rintro e wz ⟨rfl, hbz⟩; have hkz := HK9.out.below hbz HK9.out.lt; have y0 : wz.cell? ⟨gk, 0, none⟩ = some (.int .i64 0) := hkz.cell 0; have y3 : wz.cell? ⟨gk, 3, none⟩ = some (.string noB) := hkz.cell 3; have g0 : wz.frozen? ⟨gk, 0, none⟩ = false := hkz.frozen 0; have g3 : wz.frozen? ⟨gk, 3, none⟩ = false := hkz.frozen 3)
          go_meet
          have hbe : Below wr.heap.size wr wz := HB9.out.trans (hbz.mono HB9.out.size)
          exact Lib.hid ⟨15, T, T, .slice none 0 0, _, by simpa using (hkz.set_ 0 (.int .i64 15)).set_ 3 (.string T), fun _ => rfl, fun e => absurd e (by decide), (hbe.setCell HGE.out _).setCell HGE.out _, rfl⟩
        · have hW5 : ∀ w, Calls Try.prog 10 #[.int .i64 z, .int .i64 2] w fun e w' => e = .returned (.int .i64 (z % 2)) ∧ w = w' := fun w => Within_any z 2 w hbz.1 hbz.2 (by omega) (by omega)
          have hz2 := rng z 2 (by omega) (by omega)
          obtain ⟨q5, hq5⟩ : ∃ q, q = z % 2 := ⟨_, rfl⟩
          simp only [← hq5] at hW5 hz2
          have y0 : ∀ o, (w9.alloc o).cell? ⟨gk, 0, none⟩ = some (.int .i64 0) := fun o => (HK9.out.alloc o).cell 0
          have g0 : ∀ o, (w9.alloc o).frozen? ⟨gk, 0, none⟩ = false := fun o => (HK9.out.alloc o).frozen 0
          have yz : ∀ o, (w9.alloc o).cell? (ad2.add i) = some (.int .i64 z) := fun o => (World.cell?_alloc_lt w9 o (ad2.add i) (World.block_lt_of_cell? _ _ hcz)).trans hcz
          clear hq5
          rcases (by omega : q5 = 0 ∨ q5 = 1) with rfl | rfl
          · go_wp2_with (go_at_call 10; refine (hW5 _).mono ?_; rintro e wz ⟨rfl, rfl⟩)
            go_meet
            exact Lib.hid ⟨16, noB, noB, .slice none 0 0, _, by simpa using (HK9.out.alloc _).set_ 0 (.int .i64 16), fun e => absurd e (by decide), fun e => absurd e (by decide), (HB9.out.alloc HB9.out.size _).setCell HGE.out _, rfl⟩
          · go_wp2_with (go_at_call 10; refine (hW5 _).mono ?_; rintro e wz ⟨rfl, rfl⟩)
            go_meet
            exact Lib.hid ⟨17, noB, noB, .slice none 0 0, _, by simpa using (HK9.out.alloc _).set_ 0 (.int .i64 17), fun e => absurd e (by decide), fun e => absurd e (by decide), (HB9.out.alloc HB9.out.size _).setCell HGE.out _, rfl⟩
        · have hW6 : ∀ w, Calls Try.prog 10 #[.int .i64 z, .int .i64 12] w fun e w' => e = .returned (.int .i64 (z % 12)) ∧ w = w' := fun w => Within_any z 12 w hbz.1 hbz.2 (by omega) (by omega)
          have hz2 := rng z 12 (by omega) (by omega)
          obtain ⟨q6, hq6⟩ : ∃ q, q = z % 12 := ⟨_, rfl⟩
          simp only [← hq6] at hW6 hz2
          obtain ⟨k6, hk6⟩ : ∃ k, IntKind.i64.wrap (1 + q6) = k := ⟨_, rfl⟩
          have hk62 : k6 = 1 + q6 := by rw [← hk6]; exact IntWalk.i64_in _ (by omega)
          have h15 : k6 ≠ 15 := by omega
          have h14 : k6 ≠ 14 := by omega
          clear hq6 hz2 hk62
          go_wp2_with (go_at_call 10; refine (hW6 _).mono ?_; rintro e wz ⟨rfl, rfl⟩)
          go_meet
          exact Lib.hid ⟨k6, noB, noB, .slice none 0 0, _, by simpa using HK9.out.set_ 0 (.int .i64 k6), fun e => absurd e h15, fun e => absurd e h14, HB9.out.setCell HGE.out _, rfl⟩
        · have hO : Sm 100 Aa Kk := HJ9.out.ok.mono (by omega)
          have hS := PStep HJ9.out.pm hO
          go_wp2_with (go_at_call 24; refine hS.mono ?_; rintro e w5 ⟨u5, rfl, h5⟩)
          have hR := RStep (HJ9.out.rm5 h5) hO
          clear hS
          go_wp2_with (go_at_call 25; refine hR.mono ?_; rintro e w6 ⟨u6, rfl, h6⟩)
          obtain ⟨hw5, hw6, V2, U2, hJ6, -, -, -, -⟩ := HJ9.out.acted (n := i + 1) ((step_sm HJ9.out.ok).mono (by omega)) h5 h6
          have hln := ans_len Aa
          have hM := Messages_l hw5 hw6 (by have := hO.1; omega)
          have HJ6 := Lib.hid hJ6
          clear hR h5 h6 hw5 hw6 hJ6 hln
          go_wp2_with (go_at_call 17; refine hM.mono ?_; rintro e w7 ⟨rfl, hb7⟩)
          refine ⟨?_, by simp [intOf]; omega⟩
          exact Lib.hid ⟨i + 1, V2, U2, _, Kk, by simp, by omega, HJ6.out.below hb7, _, rfl⟩
        · have hO : Sm 100 Aa Kk := HJ9.out.ok.mono (by omega)
          have hS := PStep HJ9.out.pm hO
          go_wp2_with (go_at_call 24; refine hS.mono ?_; rintro e w5 ⟨u5, rfl, h5⟩)
          have hR := RStep (HJ9.out.rm5 h5) hO
          clear hS
          go_wp2_with (go_at_call 25; refine hR.mono ?_; rintro e w6 ⟨u6, rfl, h6⟩)
          obtain ⟨hw5, hw6, V2, U2, hJ6, -, -, -, -⟩ := HJ9.out.acted (n := i + 1) ((step_sm HJ9.out.ok).mono (by omega)) h5 h6
          have hln := ans_len Aa
          have hM := Messages_l hw5 hw6 (by have := hO.1; omega)
          have HJ6 := Lib.hid hJ6
          clear hR h5 h6 hw5 hw6 hJ6 hln
          go_wp2_with (go_at_call 17; refine hM.mono ?_; rintro e w7 ⟨rfl, hb7⟩)
          refine ⟨?_, by simp [intOf]; omega⟩
          exact Lib.hid ⟨i + 1, V2, U2, _, Kk, by simp, by omega, HJ6.out.below hb7, _, rfl⟩
        · have hO : Sm 100 Aa Kk := HJ9.out.ok.mono (by omega)
          have hS := PHello HJ9.out.pm hO
          go_wp2_with (go_at_call 12; refine hS.mono ?_; rintro e w5 ⟨u5, rfl, h5⟩)
          have hR := RHello (HJ9.out.rm5 h5) hO
          clear hS
          go_wp2_with (go_at_call 26; refine hR.mono ?_; rintro e w6 ⟨u6, rfl, h6⟩)
          obtain ⟨hw5, hw6, V2, U2, hJ6, -, -, -, -⟩ := HJ9.out.acted (n := i + 1) (HJ9.out.ok.mono (by omega)) h5 h6
          have hln := hel_len2 Aa
          have hM := Messages_l hw5 hw6 (by have := hO.1; omega)
          have HJ6 := Lib.hid hJ6
          clear hR h5 h6 hw5 hw6 hJ6 hln
          go_wp2_with (go_at_call 17; refine hM.mono ?_; rintro e w7 ⟨rfl, hb7⟩)
          refine ⟨?_, by simp [intOf]; omega⟩
          exact Lib.hid ⟨i + 1, V2, U2, _, Kk, by simp, by omega, HJ6.out.below hb7, _, rfl⟩
      case rest =>
        obtain ⟨k, t, tm, its, w7, hk7, ht, hit, hb7, e7⟩ := hcut.out
        subst e7
        clear hcut hck hcz e0 z0 hW10
        obtain ⟨A2, K2, X2, hHR⟩ := hear_any k r t Aa Kk
        obtain ⟨wd, ewd⟩ : ∃ wd, wd = w7.drew := ⟨_, rfl⟩
        have hJd : JhP w wd hp hr V1 U1 Aa Kk i := by rw [ewd]; exact (HJ.out.below hb7).below (Below.refl _ _).drew
        have HS : Blk wd gk 30 (mgA k r tm its) := by rw [ewd]; exact hk7.drew
        have hVl := HJ.out.pm.lt
        have hUl := HJ.out.rm.lt
        have HGV := Lib.hid (show ¬ V1 gk ∧ ¬ U1 gk from ⟨fun e => by have := hVl gk e; have := HGE.out; omega, fun e => by have := hUl gk e; have := HGE.out; omega⟩)
        have hit2 : k = 14 → ∃ gi, its = .slice (some ⟨gi, 0, none⟩) 1 1 ∧ Blk wd gi 57 #[.string t, one_] ∧ ¬ V1 gi := fun e => by
          obtain ⟨gi, q1, q2, q3⟩ := hit e
          exact ⟨gi, q1, by rw [ewd]; exact q2.drew, fun e => by have := hVl gi e; omega⟩
        have hP := PHear (tm := tm) (its := its) ht hHR hJd.pm (hJd.ok.mono (by omega)) (fun e => by obtain ⟨gi, q1, q2, -⟩ := hit2 e; exact ⟨gi, one_, q1, q2⟩)
        have HIT := Lib.hid hit2
        have HKT := Lib.hid ht
        have HHR := Lib.hid hHR
        have HJd := Lib.hid hJd
        clear hJd hit2 hit ht hHR hVl hUl hk7 hb7 HK9 HB9 HJ9
        go_upto_region 27 with fail
        refine wp_region_noPanic ?_
        refine wp_region_held_drew (S := fun wa => Blk wa gk 30 (mgA k r tm its)) (by kernel_rfl) (by rw [← ewd]; exact HS) (fun hHeld => ?_)
        rw [← ewd]
        clear ewd
        refine wpAnyH_take (i := 0) (oi := ?oir1) (v := ?vr1) ?hir1 (by kernel_rfl) (by kernel_rfl) (by kernel_rfl) (fun _ _ _ h => h) ?hyr1 HS ?restr1
        case hir1 => (simp only [List.getElem?_toArray, List.getElem?_cons_zero]; try rfl)
        case hyr1 => (refine Or.inl ⟨by rfl, ?_⟩; intro w hSw; go_simp; (try with_reducible rfl))
        try simp only [Act.put, List.setIfInBounds_toArray, List.set_cons_zero, List.set_cons_succ]
        refine wpAnyH_take (i := 1) (oi := ?oir2) (v := ?vr2) ?hir2 (by kernel_rfl) (by kernel_rfl) (by kernel_rfl) (fun _ _ _ h => h) ?hyr2 HS ?restr2
        case hir2 => (simp only [List.getElem?_toArray, List.getElem?_cons_succ, List.getElem?_cons_zero]; try rfl)
        case hyr2 => (refine Or.inl ⟨by rfl, ?_⟩; intro w hSw; have q := And.intro (show w.cell? ⟨gk, 0, none⟩ = some (.int .i64 k) from hSw.cell 0) (And.intro (show w.cell? ⟨gk, 1, none⟩ = some (.string r.f) from hSw.cell 1) (And.intro (show w.cell? ⟨gk, 2, none⟩ = some (.string r.e) from hSw.cell 2) (And.intro (show w.cell? ⟨gk, 3, none⟩ = some (.string tm) from hSw.cell 3) (And.intro (show w.cell? ⟨gk, 4, none⟩ = some (.int .i64 r.n) from hSw.cell 4) (And.intro (show w.cell? ⟨gk, 5, none⟩ = some (.int .i64 0) from hSw.cell 5) (And.intro (show w.cell? ⟨gk, 6, none⟩ = some (.int .i64 0) from hSw.cell 6) (And.intro (show w.cell? ⟨gk, 7, none⟩ = some (.int .i64 0) from hSw.cell 7) ((show w.cell? ⟨gk, 8, none⟩ = some (its) from hSw.cell 8))))))))); go_simp; (try with_reducible rfl))
        try simp only [Act.put, List.setIfInBounds_toArray, List.set_cons_zero, List.set_cons_succ]
        refine wpAnyH_take (i := 3) (oi := ?oir3) (v := ?vr3) ?hir3 (by kernel_rfl) (by kernel_rfl) (by kernel_rfl) (fun _ _ _ h => h) ?hyr3 HS ?restr3
        case hir3 => (simp only [List.getElem?_toArray, List.getElem?_cons_succ, List.getElem?_cons_zero]; try rfl)
        case hyr3 => (refine Or.inl ⟨by rfl, ?_⟩; intro w hSw; go_simp; (try with_reducible rfl))
        try simp only [Act.put, List.setIfInBounds_toArray, List.set_cons_zero, List.set_cons_succ]
        refine wpAnyH_take (i := 4) (oi := ?oir4) (v := ?vr4) ?hir4 (by kernel_rfl) (by kernel_rfl) (by kernel_rfl) (fun _ _ _ h => h) ?hyr4 HS ?restr4
        case hir4 => (simp only [List.getElem?_toArray, List.getElem?_cons_succ, List.getElem?_cons_zero]; try rfl)
        case hyr4 => (refine Or.inl ⟨by rfl, ?_⟩; intro w hSw; have q := And.intro (show w.cell? ⟨gk, 0, none⟩ = some (.int .i64 k) from hSw.cell 0) (And.intro (show w.cell? ⟨gk, 1, none⟩ = some (.string r.f) from hSw.cell 1) (And.intro (show w.cell? ⟨gk, 2, none⟩ = some (.string r.e) from hSw.cell 2) (And.intro (show w.cell? ⟨gk, 3, none⟩ = some (.string tm) from hSw.cell 3) (And.intro (show w.cell? ⟨gk, 4, none⟩ = some (.int .i64 r.n) from hSw.cell 4) (And.intro (show w.cell? ⟨gk, 5, none⟩ = some (.int .i64 0) from hSw.cell 5) (And.intro (show w.cell? ⟨gk, 6, none⟩ = some (.int .i64 0) from hSw.cell 6) (And.intro (show w.cell? ⟨gk, 7, none⟩ = some (.int .i64 0) from hSw.cell 7) ((show w.cell? ⟨gk, 8, none⟩ = some (its) from hSw.cell 8))))))))); go_simp; (try with_reducible rfl))
        try simp only [Act.put, List.setIfInBounds_toArray, List.set_cons_zero, List.set_cons_succ]
        refine wpAnyH_ready (rs := [2]) (by kernel_rfl) (by simp) ?_
        refine AllReadyH.cons (o := ?oir5) ?hir5 (fun K hK => ?str5) AllReadyH.nil
        case hir5 => (simp only [List.getElem?_toArray, List.getElem?_cons_succ, List.getElem?_cons_zero]; try rfl)
        go_simp
        go_at_call 11
        refine hP.mono ?_
        rintro e9 w5 ⟨u5, rfl, h5⟩
        try dsimp only
        have hv5 : Vol V1 wd w5 := h5.choose_spec.2.2.2.1
        have HS5 := (show Blk w5 gk 30 (mgA k r tm its) from blk_vol HS hv5 HGV.out.1)
        have hR := RHear (tm := tm) (its := its) HKT.out HHR.out (HJd.out.rm5 h5) (HJd.out.ok.mono (by omega)) (fun e => by obtain ⟨gi, e1, e2, e3⟩ := HIT.out e; exact ⟨gi, e1, blk_vol e2 hv5 e3⟩)
        refine hK.out _ _ HS5 (fun _ => ?rsr5)
        clear hK K
        try simp only [Act.put, List.setIfInBounds_toArray, List.set_cons_zero, List.set_cons_succ]
        refine wpAnyH_ready (rs := [5]) (by kernel_rfl) (by simp) ?_
        refine AllReadyH.cons (o := ?oir6) ?hir6 (fun K hK => ?str6) AllReadyH.nil
        case hir6 => (simp only [List.getElem?_toArray, List.getElem?_cons_succ, List.getElem?_cons_zero]; try rfl)
        go_simp
        go_at_call 27
        refine hR.mono ?_
        rintro e9 w6 ⟨u6, rfl, h6⟩
        try dsimp only
        have hv6 : Vol U1 w5 w6 := h6.choose_spec.2.2.2.1
        have HS6 := (show Blk w6 gk 30 (mgA k r tm its) from blk_vol HS5 hv6 HGV.out.2)
        obtain ⟨hw5, hw6, V2, U2, hJ6, -, -, -, -⟩ := HJd.out.acted (HearR.sm HHR.out HJd.out.ok).1 h5 h6
        have hX1 := (HearR.sm HHR.out HJd.out.ok).2
        have hM := Messages_l hw5 hw6 (by omega)
        have HJ6 := Lib.hid hJ6
        clear hw5 hw6 hJ6
        refine hK.out _ _ HS6 (fun _ => ?rsr6)
        clear hK K
        try simp only [Act.put, List.setIfInBounds_toArray, List.set_cons_zero, List.set_cons_succ]
        refine wpAnyH_ready (rs := [6]) (by kernel_rfl) (by simp) ?_
        refine AllReadyH.cons (o := ?oir7) ?hir7 (fun K hK => ?str7) AllReadyH.nil
        case hir7 => (simp only [List.getElem?_toArray, List.getElem?_cons_succ, List.getElem?_cons_zero]; try rfl)
        go_simp
        go_at_call 17
        refine hM.mono ?_
        rintro e9 w7 ⟨rfl, hb7⟩
        try dsimp only
        have HS7 := HS6.below hb7 HS6.lt
        have HJ7 := Lib.hid (HJ6.out.below hb7)
        refine hK.out _ _ HS7 (fun _ => ?rsr7)
        clear hK K
        try simp only [Act.put, List.setIfInBounds_toArray, List.set_cons_zero, List.set_cons_succ]
        refine wpAnyH_take (i := 7) (oi := ?oir8) (v := ?vr8) ?hir8 (by kernel_rfl) (by kernel_rfl) (by kernel_rfl) (fun _ _ _ h => h) ?hyr8 HS7 ?restr8
        case hir8 => (simp only [List.getElem?_toArray, List.getElem?_cons_succ, List.getElem?_cons_zero]; try rfl)
        case hyr8 => (refine Or.inl ⟨by rfl, ?_⟩; intro w hSw; go_simp; (try with_reducible rfl))
        try simp only [Act.put, List.setIfInBounds_toArray, List.set_cons_zero, List.set_cons_succ]
        refine wpAnyH_take (i := 8) (oi := ?oir9) (v := ?vr9) ?hir9 (by kernel_rfl) (by kernel_rfl) (by kernel_rfl) (fun _ _ _ h => h) ?hyr9 HS7 ?restr9
        case hir9 => (simp only [List.getElem?_toArray, List.getElem?_cons_succ, List.getElem?_cons_zero]; try rfl)
        case hyr9 => (refine Or.inl ⟨by rfl, ?_⟩; intro w hSw; go_simp; (try with_reducible rfl))
        try simp only [Act.put, List.setIfInBounds_toArray, List.set_cons_zero, List.set_cons_succ]
        refine wpAnyH_take (i := 9) (oi := ?oir10) (v := ?vr10) ?hir10 (by kernel_rfl) (by kernel_rfl) (by kernel_rfl) (fun _ _ _ h => h) ?hyr10 HS7 ?restr10
        case hir10 => (simp only [List.getElem?_toArray, List.getElem?_cons_succ, List.getElem?_cons_zero]; try rfl)
        case hyr10 => (refine Or.inl ⟨by rfl, ?_⟩; intro w hSw; go_simp; (try with_reducible rfl))
        try simp only [Act.put, List.setIfInBounds_toArray, List.set_cons_zero, List.set_cons_succ]
        refine wpAnyH_take (i := 11) (oi := ?oir11) (v := ?vr11) ?hir11 (by kernel_rfl) (by kernel_rfl) (by kernel_rfl) (fun _ _ _ h => h) ?hyr11 HS7 ?restr11
        case hir11 => (simp only [List.getElem?_toArray, List.getElem?_cons_succ, List.getElem?_cons_zero]; try rfl)
        case hyr11 => (refine Or.inl ⟨by rfl, ?_⟩; intro w hSw; go_simp; (try with_reducible rfl))
        try simp only [Act.put, List.setIfInBounds_toArray, List.set_cons_zero, List.set_cons_succ]
        refine wpAnyH_ready (rs := [10]) (by kernel_rfl) (by simp) ?_
        refine AllReadyH.cons (o := ?oir12) ?hir12 (fun K hK => ?str12) AllReadyH.nil
        case hir12 => (simp only [List.getElem?_toArray, List.getElem?_cons_succ, List.getElem?_cons_zero]; try rfl)
        go_simp
        go_at_call 13
        refine (PLive HJ7.out.pm).mono ?_
        rintro e9 w8 ⟨rfl, rfl⟩
        try dsimp only
        refine hK.out _ _ HS7 (fun _ => ?rsr12)
        clear hK K
        try simp only [Act.put, List.setIfInBounds_toArray, List.set_cons_zero, List.set_cons_succ]
        refine wpAnyH_ready (rs := [12]) (by kernel_rfl) (by simp) ?_
        refine AllReadyH.cons (o := ?oir13) ?hir13 (fun K hK => ?str13) AllReadyH.nil
        case hir13 => (simp only [List.getElem?_toArray, List.getElem?_cons_succ, List.getElem?_cons_zero]; try rfl)
        go_simp
        go_at_call 28
        refine (RLive HJ7.out.rm (HJ7.out.ok.mono (by omega))).mono ?_
        rintro e9 w9 ⟨rfl, hb9⟩
        try dsimp only
        have HS9 := HS7.below hb9 HS7.lt
        have HJ9 := Lib.hid (HJ7.out.below hb9)
        obtain ⟨Ak, ck, hk1, hk2, hk3⟩ := HJ9.out.rm.keys
        have HK2 := Lib.hid hk2
        clear hk2
        refine hK.out _ _ HS9 (fun _ => ?rsr13)
        clear hK K
        try simp only [Act.put, List.setIfInBounds_toArray, List.set_cons_zero, List.set_cons_succ]
        refine wpAnyH_take (i := 13) (oi := ?oir14) (v := ?vr14) ?hir14 (by kernel_rfl) (by kernel_rfl) (by kernel_rfl) (fun _ _ _ h => h) ?hyr14 HS9 ?restr14
        case hir14 => (simp only [List.getElem?_toArray, List.getElem?_cons_succ, List.getElem?_cons_zero]; try rfl)
        case hyr14 => (refine Or.inl ⟨by rfl, ?_⟩; intro w hSw; go_simp; (try with_reducible rfl))
        try simp only [Act.put, List.setIfInBounds_toArray, List.set_cons_zero, List.set_cons_succ]
        refine wpAnyH_take (i := 14) (oi := ?oir15) (v := ?vr15) ?hir15 (by kernel_rfl) (by kernel_rfl) (by kernel_rfl) (fun _ _ _ h => h) ?hyr15 HS9 ?restr15
        case hir15 => (simp only [List.getElem?_toArray, List.getElem?_cons_succ, List.getElem?_cons_zero]; try rfl)
        case hyr15 => (refine Or.inl ⟨by rfl, ?_⟩; intro w hSw; go_simp; (try with_reducible rfl))
        try simp only [Act.put, List.setIfInBounds_toArray, List.set_cons_zero, List.set_cons_succ]
        refine wpAnyH_take (i := 15) (oi := ?oir16) (v := ?vr16) ?hir16 (by kernel_rfl) (by kernel_rfl) (by kernel_rfl) (fun _ _ _ h => h) ?hyr16 HS9 ?restr16
        case hir16 => (simp only [List.getElem?_toArray, List.getElem?_cons_succ, List.getElem?_cons_zero]; try rfl)
        case hyr16 => (refine Or.inl ⟨by rfl, ?_⟩; intro w hSw; go_simp; (try with_reducible rfl))
        try simp only [Act.put, List.setIfInBounds_toArray, List.set_cons_zero, List.set_cons_succ]
        refine wpAnyH_take (i := 16) (oi := ?oir17) (v := ?vr17) ?hir17 (by kernel_rfl) (by kernel_rfl) (by kernel_rfl) (fun _ _ _ h => h) ?hyr17 HS9 ?restr17
        case hir17 => (simp only [List.getElem?_toArray, List.getElem?_cons_succ, List.getElem?_cons_zero]; try rfl)
        case hyr17 => (refine Or.inl ⟨by rfl, ?_⟩; intro w hSw; go_simp; (try with_reducible rfl))
        try simp only [Act.put, List.setIfInBounds_toArray, List.set_cons_zero, List.set_cons_succ]
        refine wpAnyH_take (i := 18) (oi := ?oir18) (v := ?vr18) ?hir18 (by kernel_rfl) (by kernel_rfl) (by kernel_rfl) (fun _ _ _ h => h) ?hyr18 HS9 ?restr18
        case hir18 => (simp only [List.getElem?_toArray, List.getElem?_cons_succ, List.getElem?_cons_zero]; try rfl)
        case hyr18 => (refine Or.inl ⟨by rfl, ?_⟩; intro w hSw; go_simp; (try with_reducible rfl))
        try simp only [Act.put, List.setIfInBounds_toArray, List.set_cons_zero, List.set_cons_succ]
        refine wpAnyH_take (i := 19) (oi := ?oir19) (v := ?vr19) ?hir19 (by kernel_rfl) (by kernel_rfl) (by kernel_rfl) (fun _ _ _ h => h) ?hyr19 HS9 ?restr19
        case hir19 => (simp only [List.getElem?_toArray, List.getElem?_cons_succ, List.getElem?_cons_zero]; try rfl)
        case hyr19 => (refine Or.inl ⟨by rfl, ?_⟩; intro w hSw; go_simp; (try with_reducible rfl))
        try simp only [Act.put, List.setIfInBounds_toArray, List.set_cons_zero, List.set_cons_succ]
        refine wpAnyH_take (i := 20) (oi := ?oir20) (v := ?vr20) ?hir20 (by kernel_rfl) (by kernel_rfl) (by kernel_rfl) (fun _ _ _ h => h) ?hyr20 HS9 ?restr20
        case hir20 => (simp only [List.getElem?_toArray, List.getElem?_cons_succ, List.getElem?_cons_zero]; try rfl)
        case hyr20 => (refine Or.inl ⟨by rfl, ?_⟩; intro w hSw; go_simp; (try with_reducible rfl))
        try simp only [Act.put, List.setIfInBounds_toArray, List.set_cons_zero, List.set_cons_succ]
        refine wpAnyH_mono (S' := fun wa => (Blk wa gk 30 (mgA k r tm its)) ∧ wa.cell? ⟨hr, 1, none⟩ = some (.slice Ak K2.length ck)) (fun _ h => h.1) _ _ _ _ ?_
        refine wpAnyH_take (i := 21) (oi := ?oir21) (v := ?vr21) ?hir21 (by kernel_rfl) (by kernel_rfl) (by kernel_rfl) (fun _ _ _ h => h) ?hyr21 (show (Blk w9 gk 30 (mgA k r tm its)) ∧ w9.cell? ⟨hr, 1, none⟩ = some (.slice Ak K2.length ck) from ⟨HS9, hk1⟩) ?restr21
        case hir21 => (simp only [List.getElem?_toArray, List.getElem?_cons_succ, List.getElem?_cons_zero]; try rfl)
        case hyr21 => (refine Or.inl ⟨by rfl, ?_⟩; intro w hSw; have q := hSw.2; go_simp; (try with_reducible rfl))
        try simp only [Act.put, List.setIfInBounds_toArray, List.set_cons_zero, List.set_cons_succ]
        refine wpAnyH_ready (rs := [17]) (by kernel_rfl) (by simp) ?_
        refine AllReadyH.cons (o := ?oir22) ?hir22 (fun K hK => ?str22) AllReadyH.nil
        case hir22 => (simp only [List.getElem?_toArray, List.getElem?_cons_succ, List.getElem?_cons_zero]; try rfl)
        go_simp
        go_at_call 30
        refine (PLaunched HJ9.out.pm (HJ9.out.ok.mono (by omega))).mono ?_
        rintro e9 w10 ⟨u10, rfl, hw10, hb10⟩
        try dsimp only
        have HS10 := (show (Blk w10 gk 30 (mgA k r tm its)) ∧ w10.cell? ⟨hr, 1, none⟩ = some (.slice Ak K2.length ck) from ⟨HS9.below hb10 HS9.lt, (hb10.cell (p := ⟨hr, 1, none⟩) hk3).trans hk1⟩)
        have HJ10 := Lib.hid (HJ9.out.below hb10)
        have hSK := SameK hw10 (HK2.out.below hb10) (by have := HJ10.out.ok.2.2; omega)
        clear hw10
        refine hK.out _ _ HS10 (fun _ => ?rsr22)
        clear hK K
        try simp only [Act.put, List.setIfInBounds_toArray, List.set_cons_zero, List.set_cons_succ]
        refine wpAnyH_ready (rs := [22]) (by kernel_rfl) (by simp) ?_
        refine AllReadyH.cons (o := ?oir23) ?hir23 (fun K hK => ?str23) AllReadyH.nil
        case hir23 => (simp only [List.getElem?_toArray, List.getElem?_cons_succ, List.getElem?_cons_zero]; try rfl)
        go_simp
        go_at_call 29
        refine hSK.mono ?_
        rintro e9 w11 ⟨rfl, hb11⟩
        try dsimp only
        have HS11 := (show (Blk w11 gk 30 (mgA k r tm its)) ∧ w11.cell? ⟨hr, 1, none⟩ = some (.slice Ak K2.length ck) from ⟨HS10.1.below hb11 HS10.1.lt, (hb11.cell (p := ⟨hr, 1, none⟩) (Nat.lt_of_lt_of_le hk3 hb10.size)).trans HS10.2⟩)
        have HJ11 := Lib.hid (HJ10.out.below hb11)
        refine hK.out _ _ HS11 (fun _ => ?rsr23)
        clear hK K
        try simp only [Act.put, List.setIfInBounds_toArray, List.set_cons_zero, List.set_cons_succ]
        refine wpAnyH_take (i := 23) (oi := ?oir24) (v := ?vr24) ?hir24 (by kernel_rfl) (by kernel_rfl) (by kernel_rfl) (fun _ _ _ h => h) ?hyr24 HS11 ?restr24
        case hir24 => (simp only [List.getElem?_toArray, List.getElem?_cons_succ, List.getElem?_cons_zero]; try rfl)
        case hyr24 => (refine Or.inl ⟨by rfl, ?_⟩; intro w hSw; go_simp; (try with_reducible rfl))
        try simp only [Act.put, List.setIfInBounds_toArray, List.set_cons_zero, List.set_cons_succ]
        refine wpAnyH_take (i := 24) (oi := ?oir25) (v := ?vr25) ?hir25 (by kernel_rfl) (by kernel_rfl) (by kernel_rfl) (fun _ _ _ h => h) ?hyr25 HS11 ?restr25
        case hir25 => (simp only [List.getElem?_toArray, List.getElem?_cons_succ, List.getElem?_cons_zero]; try rfl)
        case hyr25 => (refine Or.inl ⟨by rfl, ?_⟩; intro w hSw; go_simp; (try with_reducible rfl))
        try simp only [Act.put, List.setIfInBounds_toArray, List.set_cons_zero, List.set_cons_succ]
        refine wpAnyH_done (by kernel_rfl) ?_ _
        refine NoPanic.normal ?_
        go_wp2_with fail
        refine ⟨?_, by simp [intOf]; omega⟩
        exact Lib.hid ⟨i + 1, V2, U2, A2, K2, by simp, by omega, HJ11.out, _, rfl⟩

end Go.Proofs.Ytiflhfhonhbcpaa.handsPlay
